import Derived.Test.YtcalalndmcemiaaGreatDoorC44
import Derived.Test.YtcalalndmcemiaaGreatDoorC45
import Derived.Test.YtcalalndmcemiaaGreatDoorRows
import Derived.ProofKit
import Derived.ChangeSame
import Derived.ChangeVars
import Derived.JoinedOf
import Derived.RowKit
import Derived.LaidLaws
import Derived.LaidHandle
import Derived.Stop.Joined
import Derived.SizedLaws
import Derived.Lib.LaidTab
import Derived.Test.YtcalalndmcemiaaGreatDoorC42
import Derived.OpenShut
import Derived.ChangeSlices
set_option maxRecDepth 100000
set_option maxHeartbeats 16000000
namespace Go.Proofs.YtcalalndmcemiaaGreatDoor
open Go.RowKit Go.Maps Go.Shelf
open Sc
def wkd (m:Nat):Int:=[1,3,3,1,2,5].getD m 0
def wa (m:Nat):Int:=[0,0,0,0,0,1].getD m 0
def wb (m:Nat):Int:=[0,0,1,0,0,0].getD m 0
def wc (m:Nat):Int:=[0,1,1,0,1,0].getD m 0
def wst (m j:Nat):List Value:=[.int .i64 (wkd j),.int .i64 (wa j),.int .i64 (wb j),.int .i64 (wc j)]++(if j<m then [.int .i64 (-1),.int .i64 (-1),.int .i64 0,.int .i64 0] else [.int .i64 0,.int .i64 0,.int .i64 0,.int .i64 0])
def wrow (m:Nat):List Value:=wst m 0++wst m 1++wst m 2++wst m 3++wst m 4++wst m 5
abbrev jSf (m:Nat):Obj:=.cells (wrow m).toArray 42
theorem jVf {m:Nat} (h:m<6):(wrow m).toArray[m*8]?=some (.int .i64 (wkd m))∧(wrow m).toArray[m*8+1]?=some (.int .i64 (wa m))∧(wrow m).toArray[m*8+2]?=some (.int .i64 (wb m))∧(wrow m).toArray[m*8+3]?=some (.int .i64 (wc m)) ∧
  (wrow m).toArray[m*8+4]?=some (.int .i64 0)∧(wrow m).toArray[m*8+4+1]?=some (.int .i64 0)∧(wrow m).toArray[m*8+4+2]?=some (.int .i64 0)∧(wrow m).toArray[m*8+4+3]?=some (.int .i64 0):=by
 rcases (by omega:m=0∨m=1∨m=2∨m=3∨m=4∨m=5) with rfl | rfl | rfl | rfl | rfl | rfl <;> exact ⟨rfl,rfl,rfl,rfl,rfl,rfl,rfl,rfl⟩
theorem jT8 {m:Nat} (h:m<6):((((wrow m).toArray.setIfInBounds (m*8+4) (.int .i64 (-1))).setIfInBounds (m*8+4+1) (.int .i64 (-1))).setIfInBounds (m*8+4+2) (.int .i64 0)).setIfInBounds (m*8+4+3) (.int .i64 0)=(wrow (m+1)).toArray:=by
 rcases (by omega:m=0∨m=1∨m=2∨m=3∨m=4∨m=5) with rfl | rfl | rfl | rfl | rfl | rfl <;> rfl
def wk:ByteArray:=keyB 1
def wv0:ByteArray:=vlW 1 0
def wv1:ByteArray:=vlW 1 1
theorem jUt:(⟨#[107,49]⟩:ByteArray)=wk:=by
 unfold wk keyB
 rw [jD9 dN]
 rfl
theorem jWv:wv0.size≤32∧wv1.size≤32:=by
 unfold wv0 wv1 vlW
 rw [jD9 (c:=1) dN,jD9 (c:=0) dN]
 exact ⟨by decide,by decide⟩
def wA:Nat→ANet
 | 0=>net0 2
 | 1=>wN1
 | 2=>wN2 wk wv0
 | 3=>wN3 wk wv0 wv1
 | 4=>wN4 wk wv0 wv1
 | 5=>wN5 wk wv0 wv1
 | _=>wN6 wk wv0 wv1
section
variable {w0 w w':World} {B np n K:Nat} {hv:Value} {hps:List Nat} {A:ANet}
theorem wstep {m:Nat} (hm:m<6) (h:NetB w0 w B np 2 (1+m) hv hps (wA m)) (hB:2≤B) (hmet:Met w0) (hpow:Pows w0) :
  Calls Tryz.prog 25 #[ptrV np,stpV (wkd m) (wa m) (wb m) (wc m)] w λe w'=>e=.returned (.bool true)∧NetB w0 w' B np 2 (1+m+1) hv hps (wA (m+1)):=by
 have hI:∀ z:Int,z=0∨z=1→InI z:=λz hz=>by rcases hz with rfl | rfl <;> exact ⟨by decide,by decide⟩
 have hks:1≤wk.size∧wk.size≤16:=jEm 1 dN
 have hvs:=jWv
 rcases (by omega:m=0∨m=1∨m=2∨m=3∨m=4∨m=5) with rfl | rfl | rfl | rfl | rfl | rfl
 ·exact jCc (A1:=wN1) (A2:=wN1) 1 0 0 0 (.inl rfl) h (hI _ (.inl rfl)) dN (λw' h'=>by
   have:=jFx 0 0 0 h' rfl dN dN nofun dN dN hB hmet hpow dN
   rw [show (wA 0).c=c0s 1 1 [] [] from rfl,jT5] at this
   exact this) look1 rfl dN
 ·exact jCc (A1:=(wN2 wk wv0)) (A2:=(wN2 wk wv0)) 3 0 0 1 (.inr (.inr (.inl rfl))) h (hI _ (.inl rfl)) dN (λw' h'=>jHn 0 0 1 (x:=wd1 [0,0,0] [] false 0) (j:=0) (i:=0) (sq:=0) (s:=rs []) (out:=[]) h' rfl dN dN (hI _ (.inl rfl)) (hI _ (.inl rfl)) (hI _ (.inr rfl)) rfl rfl rfl dN dN hB hmet hpow dN rfl rfl rfl rfl (jE4 [] 1 wk ⟨1,wv0⟩ dN hks hvs.1) dN dN) (look2 wk wv0) rfl dN
 ·exact jCc (A1:=(wN3 wk wv0 wv1)) (A2:=(wN3 wk wv0 wv1)) 3 0 1 1 (.inr (.inr (.inl rfl))) h (hI _ (.inl rfl)) dN (λw' h'=>jHn 0 1 1 (x:=wd1 [0,1,0] [(1,wk,wv0)] false 0) (j:=0) (i:=1) (sq:=0) (s:=rs []) (out:=[]) h' rfl dN dN (hI _ (.inl rfl)) (hI _ (.inr rfl)) (hI _ (.inr rfl)) rfl rfl rfl dN dN hB hmet hpow dN rfl rfl rfl rfl (jE4 [] 1 wk ⟨1,wv1⟩ dN hks hvs.2) dN dN) (look3 wk wv0 wv1) rfl dN
 ·exact jCc (A1:=(wN4 wk wv0 wv1)) (A2:=(wN4 wk wv0 wv1)) 1 0 0 0 (.inl rfl) h (hI _ (.inl rfl)) dN (λw' h'=>by
   have:=jFx 0 0 0 h' rfl dN dN (λx hx=>by simp [wA] at hx;subst hx;decide) dN dN hB hmet hpow dN
   rw [show (wA 3).c=c1s 1 4 jBl 2 17 [] [] from rfl,jSs] at this
   exact this) (look4 wk wv0 wv1) rfl dN
 ·exact jCc (A1:=(wN5 wk wv0 wv1)) (A2:=(wN5 wk wv0 wv1)) 2 0 0 1 (.inr (.inl rfl)) h (hI _ (.inl rfl)) dN (λw' h'=>jJc 0 0 1 (x:=wd2 false) (j:=1) (i:=0) (sq:=0) (s:=hs1 [] 1 1 1 1 wk wv0) (out:=[]) h' rfl dN dN (hI _ (.inl rfl)) (hI _ (.inl rfl)) (hI _ (.inr rfl)) rfl rfl rfl dN dN hB hmet hpow dN rfl rfl rfl rfl (w_get wk wv0 hks) dN) (look5 wk wv0 wv1) rfl dN
 ·exact jCc (A1:=(wN6 wk wv0 wv1)) (A2:=(wN6 wk wv0 wv1)) 5 1 0 0 (.inr (.inr (.inr rfl))) h (hI _ (.inr rfl)) dN (λw' h'=>by
   have hw:nzs (worked [0,1,1] 2)=[1,2]:=rfl
   have:=jIq 1 0 0 (x:=wd1 [0,1,1] (wwr wk wv0 wv1) false 0) (j:=0) (i:=0) h' rfl dN dN (hI _ (.inr rfl)) (hI _ (.inl rfl)) (hI _ (.inl rfl)) rfl rfl rfl dN dN hB hmet hpow dN rfl rfl dN rfl rfl (by rw [hw];exact jYe.1)
   rw [hw,show (wA 5).c=⟨[(2,⟨4,jBl,0⟩),(1,⟨4,jBl,0⟩)],3,17,0,[],[]⟩ from rfl,jYe.2] at this
   exact this) (look6 wk wv0 wv1) rfl dN
theorem NetB.stepRow {q:Nat} {c:Array Value} (h:NetB w0 w B np n K hv hps A) (hf:Fr [q] w w') (hq:w.heap[q]?=some (.cells c 42 (0,0))) (hb:A.bag=[]):NetB w' w' B np n K hv hps A:=by
 obtain ⟨dv,bv,ov,fl,ps,Ls,h1,h2,h3,h4⟩:=h
 have keep:∀ (k:Nat) (c':Array Value) (t':TypeId) (fr:Nat × Nat),w.heap[k]?=some (.cells c' t' fr)→t'≠42→w'.heap[k]?=some (.cells c' t' fr):=λk c' t' fr hk h1=>(hf.block k (Array.getElem?_eq_some_iff.1 hk).1 (λhm=>by
  simp at hm
  subst hm
  rw [hq] at hk
  cases hk
  exact h1 rfl)).trans hk
 have row:∀ {b m j:Nat} {e:TypeId} {v:Value} {xs:List Value},w.ownsRow b e j v m xs→e≠42→w'.ownsRow b e j v m xs:=λ{b m j e v xs} hr h1=>jAf hr (λg hg=>by
  obtain ⟨c,hc⟩:=jA4 hr hg
  exact (keep g c e _ hc h1).trans hc.symm)
 exact ⟨dv,bv,ov,fl,ps,Ls,⟨keep _ _ _ _ h1.net dN,⟨h1.low.1,Nat.le_trans h1.low.2 hf.size⟩,row h1.hs dN,row h1.dl dN,row h1.bg dN,h1.bg0,row h1.od dN,h1.odl,h1.ap,h1.len,λj p x h5 h6=>by
  have hd:=h1.each j p x h5 h6
  exact ⟨keep _ _ _ _ hd.blk dN,hd.low,row hd.seq dN,row hd.wrs dN⟩,h1.dis⟩,h2.law hf (LawS.one hq (by simp [jAd]) dN),by rw [h1.bg0 hb];nofun,Below.refl _ _,λ_ _ _ _ hk _ _=>hk⟩
theorem NetB.ordS (h:NetB w0 w B np n K hv hps A):∃ ao c,w.cell? ⟨np,3,none⟩=some (.slice ao A.ord.length c):=by
 obtain ⟨dv,bv,ov,fl,ps,Ls,h1,h2,h3,h4⟩:=h
 obtain ⟨ao,c,e,-⟩:=jBg (f:=λj:Nat=>(ps[j]?.map λp:Nat × Value × Value=>p.1).getD 0) h1.od
 exact ⟨ao,c,(jA0 h1.net 3).trans (by simp [e])⟩
end
theorem jUz (m:Nat):(wA m).bag=[]:=by
 unfold wA
 split <;> rfl
theorem jSd (w:World) (hB:2≤w.heap.size) (hmet:Met w) (hpow:Pows w) :
  Calls Tryz.prog 7 #[] w λe w'=>e=.returned (.bool true)∧Below w.heap.size w w':=by
 have hbd:=jKv w 1 hB hmet dN dN
 rw [show 1+pkC 1 4=2 from rfl] at hbd
 have HBD:=jA1 hbd
 have hmp:∀ w',Below w.heap.size w w'→Met w'∧Pows w':=λw' h=>⟨hmet.below h oE,hpow.of_block (h.block 1 oE)⟩
 have HM:=jA1 hmp
 clear hbd hmet hpow hmp
 go_enter Tryz.func7,Tryz.ntmps7
 go_wp2_with fail
 refine HBD.out.mono ?_
 rintro e w1 ⟨np,hv,hps,rfl,hN1,hb1⟩
 have H1:=jA1 (And.intro hN1 hb1)
 clear hN1 hb1 HBD
 obtain ⟨W,hW⟩:∃ W,W=w1.alloc (jSf 0):=⟨_,rfl⟩
 have hfW:Fr [] w1 W:=by rw [hW];exact (Fr.refl [] w1).alloc _
 have hWr:W.heap[w1.heap.size]?=some (jSf 0):=by rw [hW];exact heap_alloc_new w1 _
 have HW:=jA1 (And.intro hWr (And.intro ((H1.out.1.new hfW).rebase rfl) (H1.out.2.trans (hfW.below H1.out.2.size sE))))
 have hW':W=w1.alloc (.cells #[.int .i64 1,.int .i64 0,.int .i64 0,.int .i64 0,.int .i64 0,.int .i64 0,.int .i64 0,.int .i64 0,.int .i64 3,.int .i64 0,.int .i64 0,.int .i64 1,.int .i64 0,.int .i64 0,.int .i64 0,.int .i64 0,.int .i64 3,.int .i64 0,.int .i64 1,.int .i64 1,.int .i64 0,.int .i64 0,.int .i64 0,.int .i64 0,.int .i64 1,.int .i64 0,.int .i64 0,.int .i64 0,.int .i64 0,.int .i64 0,.int .i64 0,.int .i64 0,.int .i64 2,.int .i64 0,.int .i64 0,.int .i64 1,.int .i64 0,.int .i64 0,.int .i64 0,.int .i64 0,.int .i64 5,.int .i64 1,.int .i64 0,.int .i64 0,.int .i64 0,.int .i64 0,.int .i64 0,.int .i64 0] 42):=hW
 clear hfW hWr hW
 go_wp2_with fail
 rw [← hW']
 clear hW'
 go_loopw [3] (λi wr=>∃ m:Nat,m≤6∧i=.int .i64 (m:Int)∧Hid (wr.heap[w1.heap.size]?=some (jSf m)∧NetB wr wr w.heap.size np 2 (1+m) hv hps (wA m)∧Below w.heap.size w wr)) (λi _=>6 - (intOf i).toNat)
 case atStart=>exact ⟨0,Nat.zero_le _,rfl,HW.out⟩
 case round =>
  obtain ⟨m,hm,rfl,HR⟩:=hrel
  by_cases hmt:m<6
  ·have i0:(0:Int)≤(m:Int):=by omega
   have i1:(m:Int)<6:=by omega
   go_wp2_with fail
   refine (jF8 _).mono ?_
   rintro e w3 ⟨rfl,hf3⟩
   have hr3:=(hf3.block _ (Array.getElem?_eq_some_iff.1 HR.out.1).1 sE).trans HR.out.1
   have hN3:=HR.out.2.1.new hf3
   have hat:=jVf hmt
   have c0:=(jA0 hr3 (m*8)).trans hat.1
   have c1:=(jA0 hr3 (m*8+1)).trans hat.2.1
   have c2:=(jA0 hr3 (m*8+2)).trans hat.2.2.1
   have c3:=(jA0 hr3 (m*8+3)).trans hat.2.2.2.1
   have c4:=(jA0 hr3 (m*8+4)).trans hat.2.2.2.2.1
   have c5:=(jA0 hr3 (m*8+4+1)).trans hat.2.2.2.2.2.1
   have c6:=(jA0 hr3 (m*8+4+2)).trans hat.2.2.2.2.2.2.1
   have c7:=(jA0 hr3 (m*8+4+3)).trans hat.2.2.2.2.2.2.2
   have f4:=jA2 hr3 (m*8+4)
   have f5:=jA2 hr3 (m*8+4+1)
   have f6:=jA2 hr3 (m*8+4+2)
   have f7:=jA2 hr3 (m*8+4+3)
   obtain ⟨W4,hW4⟩:∃ W4,W4=(((w3.setCell ⟨w1.heap.size,m*8+4,none⟩ (.int .i64 (-1))).setCell ⟨w1.heap.size,m*8+4+1,none⟩ (.int .i64 (-1))).setCell ⟨w1.heap.size,m*8+4+2,none⟩ (.int .i64 0)).setCell ⟨w1.heap.size,m*8+4+3,none⟩ (.int .i64 0):=⟨_,rfl⟩
   have hr4:W4.heap[w1.heap.size]?=some (jSf (m+1)):=by
    have:=jA5 (jA5 (jA5 (jA5 hr3 (m*8+4) (.int .i64 (-1))) (m*8+4+1) (.int .i64 (-1))) (m*8+4+2) (.int .i64 0)) (m*8+4+3) (.int .i64 0)
    rw [jT8 hmt] at this
    rw [hW4]
    exact this
   have hf4:Fr [w1.heap.size] w3 W4:=by
    rw [hW4]
    exact (((Fr.set1 sE _ _).trans (Fr.set1 sE _ _)).trans (Fr.set1 sE _ _)).trans (Fr.set1 sE _ _)
   have hN4:=hN3.stepRow hf4 hr3 (jUz m)
   have hB4:Below w.heap.size w W4:=(HR.out.2.2.trans (hf3.below HR.out.2.2.size sE)).trans (hf4.below (Nat.le_trans HR.out.2.2.size hf3.size) (λk hk=>by simp at hk;rw [hk];exact H1.out.2.size))
   have H4:=jA1 (And.intro hr4 (And.intro hN4 hB4))
   clear hr3 hN3 hat hr4 hf4 hN4 hf3 hB4
   go_wp2_with fail
   rw [← hW4]
   clear hW4 c0 c1 c2 c3 c4 c5 c6 c7 f4 f5 f6 f7
   refine (wstep hmt H4.out.2.1 hB (HM.out _ H4.out.2.2).1 (HM.out _ H4.out.2.2).2).mono ?_
   rintro e w5 ⟨rfl,hN5⟩
   have hr5:w5.heap[w1.heap.size]?=some (jSf (m+1)):=hN5.lgf.cells _ _ _ _ H4.out.1 (by simp [jAd]) (by simp [LawTy])
   have H5:=jA1 (And.intro hr5 (And.intro (hN5.rebase (jUz (m+1))) (H4.out.2.2.trans hN5.lgf.below)))
   clear hN5 hr5
   go_wp2_with fail
   go_roundw
   case rel=>exact ⟨m+1,by omega,by go_num,H5.out⟩
   case measure=>simp [intOf];omega
  ·have i1:¬ (m:Int)<6:=by omega
   have em:m=6:=by omega
   subst em
   obtain ⟨hmt',hpw'⟩:=HM.out _ HR.out.2.2
   have hrd:=jK0 wr 8 (A:=wN6 wk wv0 wv1) HR.out.2.1 rfl (jXu wk wv0 wv1) dN dN hB hmt' hpw' rfl
   have HRD:=jA1 hrd
   have HB6:=jA1 HR.out.2.2
   clear hrd hmt' hpw' HR
   go_wp2_with fail
   refine HRD.out.mono ?_
   rintro e w6 ⟨rfl,hN6⟩
   obtain ⟨gd,dc,pp,e1,e2,-,e4⟩:=hN6.dealAt (j:=1) (x:=wd2 true) rfl
   obtain ⟨oo,oc,e3⟩:=hN6.ordS
   obtain ⟨dv,bv,ov,fl,ps,hL6⟩:=hN6.l
   obtain ⟨gh,hc,rfl,hcl⟩:=hL6.hvS rfl
   have hlen:=hN6.ln
   simp at hlen
   obtain ⟨hp1,hh1⟩:∃ y,hps[1]?=some y:=⟨_,List.getElem?_eq_getElem oE⟩
   obtain ⟨hp2,hh2⟩:∃ y,hps[2]?=some y:=⟨_,List.getElem?_eq_getElem oE⟩
   have c1:=hcl 1 hp1 hh1
   obtain ⟨Ls,hNd⟩:=hL6.nds
   have hv1:=jUl (i:=0) ⟨#[107,49]⟩ hNd rfl hh1 dN
   rw [show (jA3 (wsz [(wk,wv0)]).vals (⟨#[107,49]⟩:ByteArray))=some wv0 by rw [jUt];simp [jA3]] at hv1
   have hv2:∀ w',Fr [] w6 w'→Calls Tryz.prog 26 #[.pointer (some ⟨hp2,0,none⟩),.string ⟨#[107,49]⟩] w' λe w''=>e=.returned (.tuple #[.string wv1,.bool true])∧Fr [] w' w'':=λw' hf=>by
    have:=jUl (i:=1) ⟨#[107,49]⟩ (hNd.new hf) rfl hh2 dN
    rw [show (jA3 (rs [(wk,wv1)]).vals (⟨#[107,49]⟩:ByteArray))=some wv1 by rw [jUt];simp [jA3]] at this
    exact this
   have n0:=jA0 hL6.law.net 0
   simp at e1 e2 e3 e4 c1 n0 hv1
   have H6:=jA1 (And.intro hL6 (And.intro hcl (And.intro hh2 (And.intro hN6.lgf.below hv2))))
   have HV1:=jA1 hv1
   clear hN6 hL6 hcl hlen hh1 hh2 hNd hv1 hv2
   go_wp2_with fail
   refine HV1.out.mono ?_
   rintro e w7 ⟨rfl,hf7⟩
   have hL7:=H6.out.1.new hf7
   obtain ⟨gh',hc',eg,hcl7⟩:=hL7.hvS rfl
   cases eg
   have c2:=hcl7 2 hp2 H6.out.2.2.1
   have n07:=jA0 hL7.law.net 0
   simp at c2 n07
   have HF7:=jA1 hf7
   clear hf7 hL7 hcl7 e1 e2 e3 e4 c1 n0
   go_wp2_with fail
   refine (H6.out.2.2.2.2 _ HF7.out).mono ?_
   rintro e w8 ⟨rfl,hf8⟩
   have HF8:=jA1 hf8
   clear hf8 c2 n07
   go_wp2_with fail
   go_ret
   exact ⟨rfl,HB6.out.trans (H6.out.2.2.2.1.trans ((HF7.out.trans HF8.out).below (by have:=H6.out.1.law.low.2;exact this) sE))⟩
end Go.Proofs.YtcalalndmcemiaaGreatDoor
set_option maxRecDepth 100000
set_option maxHeartbeats 16000000
namespace Go.Proofs.YtcalalndmcemiaaGreatDoor
open Go.ChangeShapes Go.WideShapes Go.RowKit
theorem Tryz.own:ownKnob Tryz.prog.godebug=none:=by kernel_rfl
theorem Tryz.laidOut:laidOutB Tryz.prog=true:=by kernel_rfl
theorem Tryz.et:Tryz.prog.globalNamed "errors.errorType"=some 0:=by kernel_rfl
theorem Tryz.rt:(Tryz.prog.cutTypes.find? (·.1 == "internal/reflectlite.rtype")).map (·.2)=some 248:=by kernel_rfl
theorem Tryz.oneRow:((List.range 493).filter fun t=>Tryz.prog.rowNamed t [101,114,114,111,114])=[82]:=by kernel_rfl
theorem Tryz.size:Tryz.prog.types.size=493:=by kernel_rfl
def jLb:List (String × DataW Unit):=[("math/bits.deBruijn32tab",Rows.laid_math_bits_deBruijn32tab),("math/bits.deBruijn64tab",Rows.laid_math_bits_deBruijn64tab),("internal/strconv.uint64pow10",Rows.laid_internal_strconv_uint64pow10),("errors.errorType",Rows.laid_errors_errorType),("strconv.ErrRange",Rows.laid_strconv_ErrRange),("strconv.ErrSyntax",Rows.laid_strconv_ErrSyntax)]
def jXy:List (String × DataW Unit):=[("math/bits.deBruijn32tab",Rows.laid_math_bits_deBruijn32tab),("math/bits.deBruijn64tab",Rows.laid_math_bits_deBruijn64tab),("internal/strconv.uint64pow10",Rows.laid_internal_strconv_uint64pow10),("strconv.ErrRange",Rows.laid_strconv_ErrRange),("strconv.ErrSyntax",Rows.laid_strconv_ErrSyntax)]
theorem jHp {W:World} (h:laidMetH Tryz.prog jLb W):laidMet Tryz.prog jXy W∧handlesMet Tryz.prog [("errors.errorType",Rows.laid_errors_errorType)] W:=h
theorem jLo {W:World} (h:laidMetH Tryz.prog jLb W):Met W:=by
 have h':=jHp h
 obtain ⟨name,u,ty,e1,e2,e3,e4,e5⟩:=h'.2 _ (List.mem_singleton.2 rfl)
 have en:name=[101,114,114,111,114]:=(Option.some.inj e1).symm
 subst en
 obtain rfl:=Option.some.inj (Tryz.rt.symm.trans e2)
 have hm:ty∈(List.range 493).filter fun t=>Tryz.prog.rowNamed t [101,114,114,111,114]:=List.mem_filter.2 ⟨List.mem_range.2 (by rw [← Tryz.size];exact e3),e4⟩
 rw [Tryz.oneRow] at hm
 obtain rfl:=List.mem_singleton.1 hm
 have hh:typeHandle Tryz.prog 82=.pointer (some ⟨6,82,none⟩):=by kernel_rfl
 rw [hh] at e5
 have:=World.var?_cell Tryz.et e5 0
 unfold Met
 simpa using this
theorem Tryz.powTy:(Tryz.prog.globals[1]?).map (·.type)=some 418:=by kernel_rfl
theorem jJf {W:World} (h:laidMetH Tryz.prog jLb W):Pows W∧2≤W.heap.size:=by
 obtain ⟨ps,⟨g1,t1,cs1,fuel1,p1,q1,_,_,_,_,⟨g2,t2,cs2,fuel2,p2,q2,_,_,_,_,⟨g,t,cs,fuel,p,q,hg,ht,hvar,hd,_,_⟩,_⟩,_⟩,_⟩:=(jHp h).1
 obtain rfl:=Option.some.inj (Tryz.powG.symm.trans hg)
 obtain rfl:=Option.some.inj (Tryz.powTy.symm.trans ht)
 have e:(Rows.laid_internal_strconv_uint64pow10:DataW Unit)=Lib.tabData .u64 Lib.pow10Tab:=by kernel_rfl
 rw [e] at hd
 have hp:Pows W:=by
  unfold Pows Lib.TabIs
  rw [hvar,← Lib.cells_of_tab (n:=20) (k:=.u64) (zs:=Lib.pow10Tab) (e:=43) (by kernel_rfl) Tryz.underlying43 (by kernel_rfl) (by kernel_rfl) hd]
 refine ⟨hp,?_⟩
 have hc:=Lib.TabIs.cell hp Tryz.powG 0 (by decide)
 exact World.block_lt_of_cell? W _ hc
def setC (cs:Array Value):Obj→Obj
 | .cells _ t frozen=>.cells cs t frozen
 | o=>o
def tab32:List Int:=[0,1,28,2,29,14,24,3,30,22,20,15,25,17,4,8,31,27,13,23,21,19,16,7,26,12,18,6,11,5,10,9]
def tab64:List Int:=[0,1,56,2,57,49,28,3,61,58,42,50,38,29,17,4,62,47,59,36,45,43,51,22,53,39,33,30,24,18,12,5,63,55,48,27,60,41,37,16,46,35,44,21,52,32,23,11,54,26,40,15,34,20,31,10,25,14,19,9,13,8,7,6]
def jY5:ByteArray:=⟨#[118,97,108,117,101,32,111,117,116,32,111,102,32,114,97,110,103,101]⟩
def jWg:ByteArray:=⟨#[105,110,118,97,108,105,100,32,115,121,110,116,97,120]⟩
noncomputable def jKo (os:Os):World :=
 let w0:=World.holding Tryz.prog os ⟨#[],#[],[]⟩
 { w0 with heap:=((((((((w0.heap.modify 0 (setC #[.iface 248 (.agg #[.pointer (some ⟨6,82,none⟩)])])).modify 1 (setC (Lib.pow10Tab.map fun z=>Value.int .u64 z).toArray)).modify 2 (setC #[.iface 447 (.pointer (some ⟨6+5,0,none⟩))])).modify 3 (setC #[.iface 447 (.pointer (some ⟨6+6,0,none⟩))])).modify 4 (setC (tab32.map fun z=>Value.int .u8 z).toArray)).modify 5 (setC (tab64.map fun z=>Value.int .u8 z).toArray)).push (.cells #[.string jWg] 449)).push (.cells #[.string jY5] 449)) }
theorem jI0 (os:Os) (args:Array Value):laidMetH Tryz.prog jLb ((jKo os).forCall (fun _ _=>0) ⟨#[],args,[]⟩).memory :=
 laidMetH_of_parts (laidMet_of_run' (l:=jXy) 8 (by kernel_rfl) (by kernel_rfl)) (by kernel_rfl)
end Go.Proofs.YtcalalndmcemiaaGreatDoor
set_option maxRecDepth 100000
set_option maxHeartbeats 16000000
namespace Go.Proofs.YtcalalndmcemiaaGreatDoor
open Go.ChangeShapes Go.WideShapes Go.RowKit Go.Joins
open Sc
theorem Tryz.cellsKS:Tryz.prog.cellsOf 42=8:=by kernel_rfl
theorem Tryz.cellsFl:Tryz.prog.cellsOf 40=4:=by kernel_rfl
theorem Tryz.cellsI1:Tryz.prog.cellsOf 3=1:=by kernel_rfl
theorem jMo {cs:List Value} (h:cs.length=8):∃ a b c d e f g i,cs=[a,b,c,d,e,f,g,i]:=by
 match cs,h with
 | [a,b,c,d,e,f,g,i],_=>exact ⟨a,b,c,d,e,f,g,i,rfl⟩
section
variable {H:Type} {enc:TypeId × Value→H} {P:Program} {w:World} {base:Nat} {spare:Nat→Bool} {held:Bool}
theorem jKf {t:TypeId} {f0 f1 f2 f3 f4:Field} {fuel:Nat} {cs:List Value} {x:DataW H × List MemPlace} (ht:P.underlying t=some (.struct #[f0,f1,f2,f3,f4])) (h:DataW.trod enc P w base spare held fuel t cs=some x) :
  ∃ y0 y1 y2 y3 y4 n,DataW.trod enc P w base spare held n f0.type ((cs.drop f0.offset).take (P.cellsOf f0.type))=some y0 ∧
   DataW.trod enc P w base spare held n f1.type ((cs.drop f1.offset).take (P.cellsOf f1.type))=some y1∧DataW.trod enc P w base spare held n f2.type ((cs.drop f2.offset).take (P.cellsOf f2.type))=some y2 ∧
   DataW.trod enc P w base spare held n f3.type ((cs.drop f3.offset).take (P.cellsOf f3.type))=some y3∧DataW.trod enc P w base spare held n f4.type ((cs.drop f4.offset).take (P.cellsOf f4.type))=some y4:=by
 obtain ⟨xs,n,_,rfl,hl,hlen,hf⟩:=DataW.trod_struct ht h
 match xs,hlen with
 | [y0,y1,y2,y3,y4],_=>exact ⟨y0,y1,y2,y3,y4,n,by simpa using hf 0 f0 rfl,by simpa using hf 1 f1 rfl,by simpa using hf 2 f2 rfl,by simpa using hf 3 f3 rfl,by simpa using hf 4 f4 rfl⟩
theorem jKp {t:TypeId} {f0 f1 f2 f3:Field} {fuel:Nat} {cs:List Value} {x:DataW H × List MemPlace} (ht:P.underlying t=some (.struct #[f0,f1,f2,f3])) (h:DataW.trod enc P w base spare held fuel t cs=some x) :
  ∃ y0 y1 y2 y3 n,DataW.trod enc P w base spare held n f0.type ((cs.drop f0.offset).take (P.cellsOf f0.type))=some y0 ∧
   DataW.trod enc P w base spare held n f1.type ((cs.drop f1.offset).take (P.cellsOf f1.type))=some y1∧DataW.trod enc P w base spare held n f2.type ((cs.drop f2.offset).take (P.cellsOf f2.type))=some y2 ∧
   DataW.trod enc P w base spare held n f3.type ((cs.drop f3.offset).take (P.cellsOf f3.type))=some y3:=by
 obtain ⟨xs,n,_,rfl,hl,hlen,hf⟩:=DataW.trod_struct ht h
 match xs,hlen with
 | [y0,y1,y2,y3],_=>exact ⟨y0,y1,y2,y3,n,by simpa using hf 0 f0 rfl,by simpa using hf 1 f1 rfl,by simpa using hf 2 f2 rfl,by simpa using hf 3 f3 rfl⟩
end
theorem jPt {H:Type} {enc:TypeId × Value→H} {W:World} {v:Value} {d:DataW H} {p:List MemPlace} (hv:∃ a len cap,v=.slice a len cap) (h:DataW.Trod enc Tryz.prog W 0 (λ_=>true) true 25 v d p):∃ L,jUi W v L:=by
 obtain ⟨a0,len0,cap0,rfl⟩:=hv
 obtain ⟨fuel,hf⟩:=h
 rcases Deep.open_slice Tryz.underlying25 hf with ⟨hcs,_⟩ | ⟨a',len',cap',m,n,D,Pl,hcs,_,hl,_,hm,hd,hx⟩
 ·simp [Value.cells] at hcs
  obtain ⟨rfl,rfl,rfl⟩:=hcs
  exact ⟨[],none,0,rfl,by simp⟩
 ·simp [Value.cells] at hcs
  obtain ⟨rfl,rfl,rfl⟩:=hcs
  simp only [if_true] at hm
  have key:∀ i,∃ s:KStep,i<len0→(∃ b off,(some a':Option Addr)=some ⟨b,off,none⟩∧b<W.heap.size∧KCells W b (off+i*8) s)∧InI s.a∧InI s.b∧InI s.c:=λi=>by
   by_cases hi:i<len0
   ·obtain ⟨cs',h1,h2⟩:=hx i oE
    rw [Tryz.cellsKS] at h1
    obtain ⟨_,hcl,hcell⟩:=World.cells?_some h1
    obtain ⟨y0,y1,y2,y3,y4,n',g0,g1,g2,g3,g4⟩:=jKf Tryz.underlying42 h2
    obtain ⟨v0,v1,v2,v3,v4,v5,v6,v7,rfl⟩:=jMo hcl
    have g0':DataW.trod enc Tryz.prog W 0 (λ_=>true) true n' 3 [v0]=some y0:=by simpa [Tryz.cellsI1] using g0
    have g1':DataW.trod enc Tryz.prog W 0 (λ_=>true) true n' 3 [v1]=some y1:=by simpa [Tryz.cellsI1] using g1
    have g2':DataW.trod enc Tryz.prog W 0 (λ_=>true) true n' 3 [v2]=some y2:=by simpa [Tryz.cellsI1] using g2
    have g3':DataW.trod enc Tryz.prog W 0 (λ_=>true) true n' 3 [v3]=some y3:=by simpa [Tryz.cellsI1] using g3
    have g4':DataW.trod enc Tryz.prog W 0 (λ_=>true) true n' 40 [v4,v5,v6,v7]=some y4:=by simpa [Tryz.cellsFl] using g4
    obtain ⟨q0,q1,q2,q3,n'',r0,r1,r2,r3⟩:=jKp Tryz.underlying40 g4'
    have r0':DataW.trod enc Tryz.prog W 0 (λ_=>true) true n'' 3 [v4]=some q0:=by simpa [Tryz.cellsI1] using r0
    have r1':DataW.trod enc Tryz.prog W 0 (λ_=>true) true n'' 3 [v5]=some q1:=by simpa [Tryz.cellsI1] using r1
    have r2':DataW.trod enc Tryz.prog W 0 (λ_=>true) true n'' 3 [v6]=some q2:=by simpa [Tryz.cellsI1] using r2
    have r3':DataW.trod enc Tryz.prog W 0 (λ_=>true) true n'' 3 [v7]=some q3:=by simpa [Tryz.cellsI1] using r3
    obtain ⟨x0,e0,_,_⟩:=DataW.trod_int Tryz.underlying3 g0'
    obtain ⟨x1,e1,_,wx1⟩:=DataW.trod_int Tryz.underlying3 g1'
    obtain ⟨x2,e2,_,wx2⟩:=DataW.trod_int Tryz.underlying3 g2'
    obtain ⟨x3,e3,_,wx3⟩:=DataW.trod_int Tryz.underlying3 g3'
    obtain ⟨x4,e4,_,_⟩:=DataW.trod_int Tryz.underlying3 r0'
    obtain ⟨x5,e5,_,_⟩:=DataW.trod_int Tryz.underlying3 r1'
    obtain ⟨x6,e6,_,_⟩:=DataW.trod_int Tryz.underlying3 r2'
    obtain ⟨x7,e7,_,_⟩:=DataW.trod_int Tryz.underlying3 r3'
    simp at e0 e1 e2 e3 e4 e5 e6 e7
    subst e0 e1 e2 e3 e4 e5 e6 e7
    obtain ⟨b,off,spot⟩:=a'
    have c0:=hcell 0 oE
    have c1:=hcell 1 oE
    have c2:=hcell 2 oE
    have c3:=hcell 3 oE
    have c4:=hcell 4 oE
    have c5:=hcell 5 oE
    have c6:=hcell 6 oE
    have c7:=hcell 7 oE
    rw [Deep.add_add] at c0 c1 c2 c3 c4 c5 c6 c7
    have hspot:spot=none:=by
     obtain ⟨cs0,z1,_⟩:=hx 0 oE
     rw [Tryz.cellsKS] at z1
     obtain ⟨_,zl,zc⟩:=World.cells?_some z1
     obtain ⟨u0,u1,u2,u3,u4,u5,u6,u7,rfl⟩:=jMo zl
     have z0:=zc 0 oE
     rw [Deep.add_add] at z0
     simpa [Addr.add] using World.cell?_spot z0
    subst hspot
    have ea:∀ j,((⟨b,off,none⟩:Addr).add j)=⟨b,off+j,none⟩:=λj=>by
     unfold Addr.add;split
     ·rename_i h0;subst h0;rfl
     ·rfl
    rw [ea] at c0 c1 c2 c3 c4 c5 c6 c7
    simp only [Nat.add_zero] at c0
    simp only [← Nat.add_assoc] at c1 c2 c3 c4 c5 c6 c7
    have b1:=bounds_i64 wx1
    have b2:=bounds_i64 wx2
    have b3:=bounds_i64 wx3
    exact ⟨⟨x0,x1,x2,x3,x4,x5,x6,x7⟩,λ_=>⟨⟨b,off,rfl,World.block_lt_of_cell? W _ c0,c0,c1,c2,c3,c4,c5,c6,c7⟩,by show InI x1;unfold InI;omega,by show InI x2;unfold InI;omega,by show InI x3;unfold InI;omega⟩⟩
   ·exact ⟨⟨0,0,0,0,0,0,0,0⟩,λh=>absurd h hi⟩
  obtain ⟨f,hf'⟩:=Classical.skolem.1 key
  refine ⟨(List.range len0).map f,some a',cap0,by simp,λi s hs=>?_⟩
  rw [List.getElem?_map] at hs
  have hi:i<len0:=by
   have:=(Option.map_eq_some_iff.1 hs)
   obtain ⟨j,hj,_⟩:=this
   have:=(List.getElem?_eq_some_iff.1 hj).1
   simpa using this
  rw [List.getElem?_range hi] at hs
  simp at hs
  subst hs
  exact hf' i hi
theorem jKg (os:Os) (started:os.Started) (H:Type) (enc:TypeId × Value→H) :
  ReturnsInHanded {} Tryz.checked os 5 .any (λw args=>(Rows.aloneSpec.pre enc Tryz.prog Tryz.f5 [] false w args∧laidMetH Tryz.prog jLb w)∧sizedMet enc Tryz.prog Tryz.f5 (OpenSpec.ofChange Rows.aloneSpec) false w args)
   (Rows.aloneSpec.post enc Tryz.prog Tryz.f5 false true false false):=by
 refine returnsInHanded_of_change_and (C:=Tryz.checked) (X:=λw _=>laidMetH Tryz.prog jLb w) (λ_ _ _ hh h=>h.of_heap hh) Tryz.own started (by as_aux_lemma=>kernel_rfl) Tryz.func5
  (ChangeSpec.witness_at (enc:=enc) (C:=Tryz.checked) (os:=os) (X:=λw _=>laidMetH Tryz.prog jLb w) false (jKo os) #[.slice none 0 0,.int .i64 0] 8 rfl (by as_aux_lemma=>kernel_rfl) (by as_aux_lemma=>kernel_rfl) (by as_aux_lemma=>kernel_rfl) (by as_aux_lemma=>kernel_rfl) (by as_aux_lemma=>kernel_rfl) (jI0 os _)) ?_
 intro W base args ds gs before hval0 hW _ _ hL _
 have hval:∀ (j:Nat) t v,Tryz.f5.params[j]?=some t→args[j]?=some v→Value.okWide Tryz.prog W .any base t v:=hval0
 have hW':=hW
 obtain ⟨p,q,hA0,hV0,rfl,hfz,hnd⟩:=hW
 have hA:DataW.TrodAll enc Tryz.prog W 0 (λ_=>true) true Tryz.f5.params.toList args.toList ds p:=hA0
 have hV:DataW.TrodVars enc Tryz.prog W (λ_=>true) [] gs q:=hV0
 rw [Tryz.params5] at hA hval
 obtain ⟨v0,vs0,d0,ds0,p0,q0,hargs,rfl,rfl,h0,r0⟩:=trodAll_cons hA
 obtain ⟨v1,vs1,d1,ds1,p1,q1,rfl,rfl,rfl,h1,r1⟩:=trodAll_cons r0
 obtain ⟨rfl,rfl,rfl⟩:=trodAll_nil r1
 obtain rfl:args=#[v0,v1]:=by apply Array.ext';simpa using hargs
 obtain ⟨rfl,rfl⟩:gs=[]∧q=[]:=by
  cases gs with
  | nil=>exact ⟨rfl,hV⟩
  | cons g r=>exact absurd hV (by intro h;cases h)
 have h0k:=h0
 have h1k:=h1
 obtain ⟨a0,len0,cap0,hv0⟩:=okWide_slice Tryz.underlying25 (hval 0 25 v0 rfl rfl)
 obtain ⟨L,hr0⟩:=jPt ⟨a0,len0,cap0,hv0⟩ h0
 obtain ⟨x1,rfl,rfl,rfl,wx1⟩:=open_int Tryz.underlying3 (hval 1 3 v1 rfl rfl) h1
 simp only [List.append_nil] at hW'
 have hlt0:∀ x∈p0,x.block<W.heap.size:=λx hx=>hW'.lt x hx
 have hg:=jLo hL
 obtain ⟨hpow,hB⟩:=jJf hL
 have b1:=bounds_i64 wx1
 have e1:Rows.aloneSpec.fn H ([d0,.lit (.int .i64 x1)]++[])={ results:=[.lit (.bool true)],args:=[d0,.lit (.int .i64 x1)] }:=by simp [Rows.aloneSpec]
 refine (jPw W v0 L x1 hr0 (by unfold InI;omega) hB hg hpow (jSd W hB hg hpow)).mono λe W' ⟨he,hb⟩=>?_
 subst he
 refine ⟨_,rfl,_,_,_,[],p0,[],(by simpa using hW'),?_,?_,?_,hb.frame _,λh=>by cases h⟩
 ·rw [e1];exact trodAll_mk1 (shut_bool Tryz.underlying4 true)
 ·rw [e1]
  exact ⟨p0,_,Below.trod Tryz.laidOut (by as_aux_lemma=>kernel_rfl) (of_decide_eq_true (by as_aux_lemma=>kernel_rfl)) h0k hb hlt0,⟨[],[],Below.trod Tryz.laidOut (by as_aux_lemma=>kernel_rfl) (of_decide_eq_true (by as_aux_lemma=>kernel_rfl)) h1k hb (by intro x hx;simp at hx),trodAll_mk0,rfl⟩,by simp⟩
 ·rw [e1];rfl
end Go.Proofs.YtcalalndmcemiaaGreatDoor
