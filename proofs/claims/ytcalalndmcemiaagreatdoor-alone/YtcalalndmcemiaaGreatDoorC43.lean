import Derived.Test.YtcalalndmcemiaaGreatDoorC41
import Derived.Test.YtcalalndmcemiaaGreatDoorC40
set_option maxRecDepth 100000
set_option maxHeartbeats 16000000
namespace Go.Proofs.YtcalalndmcemiaaGreatDoor
open Go.RowKit Go.Maps Go.Shelf
open Sc
abbrev stpV (kd a b c:Int):Value:=.agg #[.int .i64 kd,.int .i64 a,.int .i64 b,.int .i64 c,.int .i64 (-1),.int .i64 (-1),.int .i64 0,.int .i64 0]
def worked (seq:List Nat):Nat→List Nat
 | 0=>[]
 | m+1=>worked seq m++(if 0<seq.getD (m+1) 0 then [m+1] else [])
theorem jHq (seq:List Nat) (m:Nat):(worked seq m).length≤m:=by
 induction m with
 | zero=>exact Nat.le_refl _
 | succ m ih =>
  unfold worked
  rw [List.length_append]
  split <;> simp <;> omega
theorem jQ5 (seq:List Nat) (m:Nat):∀ q∈worked seq m,q≤m:=by
 induction m with
 | zero=>intro q hq;cases hq
 | succ m ih =>
  intro q hq
  unfold worked at hq
  rcases List.mem_append.1 hq with e | e
  ·have:=ih q e;omega
  ·split at e
   ·simp at e;omega
   ·cases e
def nzs (l:List Nat):List Int:=l.map λk:Nat=>(k:Int)
theorem Tryz.infoI2:(Tryz.prog.info? 3).map (λi=>(i.zero,i.size,i.bytes))=some (some (.int .i64 0),1,8):=by kernel_rfl
theorem jDr {w:World} {b:Nat} {v:Value} {l:List Nat} {i m:Nat} (h:w.ownsRow b 3 1 v l.length (seqV l)) (hj:l[i]?=some m):∃ g c,v=.slice (some ⟨g,0,none⟩) l.length c∧w.cell? ⟨g,i,none⟩=some (.int .i64 (m:Int)):=by
 rcases h.2 with ⟨-,e⟩ | ⟨g,cap,cur,e,rest⟩
 ·have:=(List.getElem?_eq_some_iff.1 hj).1;omega
 ·exact ⟨g,cap,e,jB2 h e (by unfold seqV;rw [List.getElem?_map,hj];rfl)⟩
def jXq (B np n K k:Nat) (hv dv bv ov:Value) (fl:Bool) (hps:List Nat) (ps:List (Nat × Value × Value)) (A:ANet) (x:ADeal) (w w':World):Prop:=∃ Ls,LawM w' B np hv dv bv ov n fl hps ps (A.ds.set k { x with asked:=true }) A.bag A.ord∧Nds w' B hps (A.c.commS x.id (nzs (worked x.seq n))) A.co A.ss (K+1) Ls∧LgF B w w'
section
variable {w:World} {B np n K k pp:Nat} {hv dv bv ov sv wv:Value} {fl:Bool} {hps:List Nat} {ps:List (Nat × Value × Value)} {A:ANet} {Ls:List (List Nat)} {x:ADeal}
theorem jP1 (kd a b c:Int) (h:LawM w B np hv dv bv ov n fl hps ps A.ds A.bag A.ord) (hN:Nds w B hps A.c A.co A.ss K Ls) (hn:n=A.ss.length) (hp:ps[k]?=some (pp,sv,wv)) (hx:A.ds[k]?=some x) (hlen:x.seq.length=n+1) (hnl:n≤90) (hlost:x.lost=false) (hw0:worked x.seq n≠[]) (hask:x.asked=false) (hwhat:x.what=0) (hid:x.id<18446744073709551616) (hcE:A.c.commE x.id (nzs (worked x.seq n))=0) (hB:2≤B) (hmet:Met w) (hpow:Pows w) (hK:K≤290000) :
  Calls Tryz.prog 94 #[ptrV np,ptrV pp,stpV kd a b c] w λe w'=>e=.returned (.bool true)∧jXq B np n K k hv dv bv ov fl hps ps A x w w':=by
 have n4:=jA0 h.net 4
 simp at n4
 have H0:=jA1 (And.intro h (And.intro hN (And.intro hn (And.intro hp (And.intro hx hlen)))))
 obtain ⟨W,hW⟩:∃ W,W=w.alloc (.cells #[.int .i64 kd,.int .i64 a,.int .i64 b,.int .i64 c,.int .i64 (-1),.int .i64 (-1),.int .i64 0,.int .i64 0] 42):=⟨_,rfl⟩
 have hfW:Fr [] w W:=by rw [hW];exact (Fr.refl [] w).alloc _
 have HW:=jA1 hfW
 have HS:Hid (W.heap[w.heap.size]?=some (.cells #[.int .i64 kd,.int .i64 a,.int .i64 b,.int .i64 c,.int .i64 (-1),.int .i64 (-1),.int .i64 0,.int .i64 0] 42)):=by rw [hW];exact heap_alloc_new w _
 clear h hN hn hp hx hlen hfW
 go_enter Tryz.func94,Tryz.ntmps94
 go_wp2_with fail
 rw [← hW]
 clear hW n4
 go_loopw [7,8] (λvl i wr=>∃ m:Nat,m≤n∧i=.int .i64 ((m:Int)+1)∧Hid (wr.ownsRow W.heap.size 3 1 vl (worked x.seq m).length (zsV (nzs (worked x.seq m)))∧Fr [] W wr)) (λ_ i _=>n+1 - (intOf i).toNat)
 case atStart=>exact ⟨0,Nat.zero_le _,rfl,World.ownsRow_nil _ _ _ _,Fr.refl [] _⟩
 case round =>
  obtain ⟨m,hm,rfl,HM⟩:=hrel
  have hL:=H0.out.1.new (HW.out.trans HM.out.2)
  have n4:=jA0 hL.net 4
  have hd:=hL.each k _ x H0.out.2.2.2.1 H0.out.2.2.2.2.1
  have d1:=jA0 hd.blk 1
  simp at n4 d1
  by_cases hmt:m<n
  ·obtain ⟨y,hy⟩:∃ y,x.seq[m+1]?=some y:=⟨_,List.getElem?_eq_getElem (by rw [H0.out.2.2.2.2.2];omega)⟩
   obtain ⟨g,cs,esv,cg⟩:=jDr hd.seq hy
   rw [H0.out.2.2.2.2.2] at esv
   simp only [] at esv
   subst esv
   have i0:(0:Int)≤(m:Int)+1:=by omega
   have i1:(m:Int)+1≤(n:Int):=by omega
   have i2:(m:Int)+1<(n:Int)+1:=by omega
   have i3:((m:Int)+1).toNat=m+1:=by omega
   have hyg:x.seq.getD (m+1) 0=y:=by rw [List.getD_eq_getElem?_getD,hy];rfl
   have HY:=jA1 hyg
   have hwl:=jHq x.seq m
   clear hL hd hy hyg
   by_cases hy0:0<y
   ·have j0:(0:Int)<(y:Int):=by omega
    obtain ⟨i0',hi,hz0,hz1,hz2⟩:=info_parts Tryz.infoI2
    have hrow:=HM.out.1
    have hsz:=HM.out.2.size
    obtain ⟨va,vn,vc,rfl⟩:=jAu hrow
    go_wp2_with (at_builtin;refine jBr rfl _ _ 53 rfl W.heap.size 3 i0' _ 1 8 Tryz.underlying53 hi hz0 hz1 hz2 rfl (by decide) _ (worked x.seq m).length _ rfl (hrow.alloc _) 1 [.int .i64 ((m:Int)+1)] (.inl ⟨⟨wr.heap.size,0,none⟩,1,rfl,by have:=jBf wr #[.int .i64 ((m:Int)+1)] 3;simpa using this⟩) rfl (by intro u hu;simp at hu;subst hu;rfl) (by unfold maxLen;omega) (by omega) (by rw [World.size_alloc];omega) ?_)
    intro v' w6 hown' hgrow hat0
    have H6:=jA1 (And.intro hown' hgrow)
    clear hown' hgrow hat0
    go_wp2_with fail
    go_roundw
    case rel =>
     refine ⟨m+1,by omega,by go_num,?_,?_⟩
     ·have e9:worked x.seq (m+1)=worked x.seq m++[m+1]:=by show worked x.seq m++(if 0<x.seq.getD (m+1) 0 then [m+1] else [])=_;rw [HY.out,if_pos hy0]
      rw [e9,List.length_append]
      have:=H6.out.1
      have e8:zsV (nzs (worked x.seq m++[m+1]))=zsV (nzs (worked x.seq m))++[.int .i64 ((m:Int)+1)]:=by simp [zsV,nzs]
      rw [e8]
      exact this
     ·have hfg:=Fr.of_grown H6.out.2
      have h1:=HM.out.2.alloc (.cells #[.int .i64 ((m:Int)+1)] 3)
      refine ⟨hfg.os.trans h1.os,hfg.tape.trans h1.tape,hfg.output.trans h1.output,Nat.le_trans h1.size hfg.size,λq hq hn=>(hfg.block q (Nat.lt_of_lt_of_le hq h1.size) (λhm=>?_)).trans (h1.block q hq hn)⟩
      simp at hm
      have:=(HM.out.1.lt q hm).1
      omega
    case measure=>simp [intOf];omega
   ·have j0:¬ (0:Int)<(y:Int):=by omega
    go_wp2_with fail
    go_roundw
    case rel =>
     refine ⟨m+1,by omega,by go_num,?_,HM.out.2⟩
     have e9:worked x.seq (m+1)=worked x.seq m:=by
      show worked x.seq m++(if 0<x.seq.getD (m+1) 0 then [m+1] else [])=_
      rw [HY.out,if_neg hy0,List.append_nil]
     rw [e9]
     exact HM.out.1
    case measure=>simp [intOf];omega
  ·have i1:¬ (m:Int)+1≤(n:Int):=by omega
   have em:m=n:=by omega
   subst em
   have d4:=jA0 hd.blk 4
   simp at d4
   rw [hlost] at d4
   have hwl:=jHq x.seq m
   obtain ⟨W1,hW1⟩:∃ W1,W1=(worked x.seq m).length:=⟨_,rfl⟩
   have hrow:=HM.out.1
   obtain ⟨va,vc,hva⟩:∃ va vc,u7=Value.slice va W1 vc:=by
    rcases hrow.2 with ⟨e,e2⟩ | ⟨g,cap,cur,e,-⟩
    ·exact ⟨none,0,by rw [e,hW1,e2]⟩
    ·exact ⟨_,_,by rw [hW1];exact e⟩
   have hW0:0<W1:=by rw [hW1];exact List.length_pos_iff.2 hw0
   have hWz:¬ (W1:Int)=0:=by omega
   subst hva
   have hfr:=HW.out.trans HM.out.2
   have hNr:=H0.out.2.1.new hfr
   obtain ⟨hp0,-,hh0,-⟩:=hNr.co
   obtain ⟨gh,hc,ehv,ch0⟩:∃ gh hc,hv=.slice (some ⟨gh,0,none⟩) (m+1) hc∧wr.cell? ⟨gh,0,none⟩=some (ptrV hp0):=by
    obtain ⟨ha,hc,e,hcl⟩:=jBg (f:=id) hL.hs
    obtain ⟨gh,rfl,ch0⟩:=hcl 0 hp0 hh0
    exact ⟨gh,hc,by rw [e];have:=hNr.len.1;have:=H0.out.2.2.1;congr 1;omega,ch0⟩
   subst ehv
   have n0:=jA0 hL.net 0
   have d0:=jA0 hd.blk 0
   have d3:=jA0 hd.blk 3
   have d5:=jA0 hd.blk 5
   have f3:=jA2 hd.blk 3
   have hsb:=(HM.out.2.block w.heap.size (Array.getElem?_eq_some_iff.1 HS.out).1 sE).trans HS.out
   have s4:=jA0 hsb 4
   have s5:=jA0 hsb 5
   have s6:=jA0 hsb 6
   have s7:=jA0 hsb 7
   simp at n0 d0 d3 d5 s4 s5 s6 s7
   rw [hask] at d3
   rw [hwhat] at d5
   have hcm:∀ w',Fr [] wr w'→Calls Tryz.prog 16 #[.pointer (some ⟨hp0,0,none⟩),.int .u64 (x.id:Int),.slice va W1 vc,jD1 (-1) (-1) 0 0] w' λe w''=>e=.returned (.int .i64 0)∧((∃ Ls',Nds w'' B hps (A.c.commS x.id (nzs (worked x.seq m))) A.co A.ss (K+1) Ls')∧NLf B w w'')∧LawM w'' B np (.slice (some ⟨gh,0,none⟩) (m+1) hc) dv bv ov m fl hps ps A.ds A.bag A.ord∧(∀ q o,wr.heap[q]?=some o→w.heap.size≤q→w''.heap[q]?=some o):=λw' hw'=>by
    have hN':=hNr.new hw'
    have hL':=hL.new hw'
    have hB':=(hfr.trans hw').below (Nat.le_refl _) sE
    refine (jR2 (t:=x.id) _ (nzs (worked x.seq m)) hN' hh0 hid hB (hmet.below hB' (by have:=H0.out.1.low;omega)) (hpow.of_block (hB'.block 1 (by have:=H0.out.1.low;omega))) hK (by simp [nzs];omega) (by simp [nzs];omega) (λz hz=>by simp [nzs] at hz;obtain ⟨q,hq,rfl⟩:=hz;have:=jQ5 x.seq m q hq;unfold InI;omega) ⟨W.heap.size,by
     have:=jA7 hrow hw' sE
     rw [show (nzs (worked x.seq m)).length=(worked x.seq m).length by simp [nzs]]
     exact this⟩).mono ?_
    rintro e w'' ⟨rfl,hP⟩
    rw [hcE]
    refine ⟨rfl,⟨hP.1,(NLf.new (hfr.trans hw') H0.out.1.low.2).trans hP.2.1⟩,hL'.nlf hP.2.1,λq o hq hlq=>?_⟩
    obtain ⟨L,hLm,hFL⟩:=hP.2.2
    exact (hFL.block q (Nat.lt_of_lt_of_le (Array.getElem?_eq_some_iff.1 hq).1 hw'.size) (λhm=>by have:=H0.out.2.1.lt L hLm q hm;omega)).trans ((hw'.block q (Array.getElem?_eq_some_iff.1 hq).1 sE).trans hq)
   have HCM:=jA1 hcm
   have HD:=jA1 (And.intro hL (And.intro hsb (And.intro hh0 hfr)))
   clear hcm hL hd hsb hNr hrow hwl hW1 hfr d1 f3 hmet hpow
   go_wp2_with fail
   go_region_held3 (λw'=>w'.cell? ⟨np,0,none⟩=some (.slice (some ⟨gh,0,none⟩) (m+1) hc)∧w'.cell? ⟨gh,0,none⟩=some (ptrV hp0)∧w'.cell? ⟨pp,0,none⟩=some (.int .u64 (x.id:Int))∧w'.cell? ⟨w.heap.size,4,none⟩=some (.int .i64 (-1))∧w'.cell? ⟨w.heap.size,5,none⟩=some (.int .i64 (-1))∧w'.cell? ⟨w.heap.size,6,none⟩=some (.int .i64 0)∧w'.cell? ⟨w.heap.size,7,none⟩=some (.int .i64 0)) (simp [*])
    (first | (go_at_call 16;refine (HCM.out _ (by first | exact jAk (Fr.refl [] wr) _ | exact (Fr.refl [] wr).drew | exact Fr.refl [] wr)).mono ?_;rintro e w5 ⟨rfl,hP5,hL5,hk5⟩;(obtain ⟨g',eg',ch5⟩:=jAj (f:=id) hL5.hs HD.out.2.2.1);cases eg';have n05:=jA0 hL5.net 0;have hd5:=hL5.each k _ x H0.out.2.2.2.1 H0.out.2.2.2.2.1;have d05:=jA0 hd5.blk 0;have d35:=jA0 hd5.blk 3;have d55:=jA0 hd5.blk 5;have f35:=jA2 hd5.blk 3;(have hs5:=hk5 _ _ HD.out.2.1 (Nat.le_refl _));have s45:=jA0 hs5 4;have s55:=jA0 hs5 5;have s65:=jA0 hs5 6;have s75:=jA0 hs5 7;simp at ch5 n05 d05 d35 d55 s45 s55 s65 s75;rw [hask] at d35;rw [hwhat] at d55;have H5:=jA1 (And.intro hP5 (And.intro hL5 hd5.blk));clear hP5 hL5 hk5 hd5 hs5))
   clear n0 ch0 d0 d3 d5 s4 s5 s6 s7
   have i00:((0:Nat):Int)=0:=rfl
   rw [i00] at d55
   obtain ⟨hL6,hR6⟩:=H5.out.2.1.turnD (w':=w5.setCell ⟨pp,3,none⟩ (.bool true)) (x':={ x with asked:=true }) H0.out.2.2.2.1 H0.out.2.2.2.2.1 (Fr.set1 sE _ _) (by have:=jA5 H5.out.2.2 3 (.bool true);simp at this;exact this) rfl rfl
   obtain ⟨⟨Ls5,hN5⟩,hf5⟩:=H5.out.1
   have H6:=jA1 (show jXq B np m K k (.slice (some ⟨gh,0,none⟩) (m+1) hc) dv bv ov fl hps ps A x w (w5.setCell ⟨pp,3,none⟩ (.bool true)) from ⟨Ls5,hL6,hR6.nds hN5,hf5.lg.trans (hR6.lg H5.out.2.1.low.2)⟩)
   clear hL6 hR6 hN5 hf5
   go_wp2_with fail
   go_ret
   exact ⟨rfl,H6.out⟩
end
abbrev stpO (kd a b c:Int):Obj:=.cells #[.int .i64 kd,.int .i64 a,.int .i64 b,.int .i64 c,.int .i64 (-1),.int .i64 (-1),.int .i64 0,.int .i64 0] 42
structure NetL (w0 w:World) (B np n K:Nat) (hv dv bv ov:Value) (fl:Bool) (hps:List Nat) (ps:List (Nat × Value × Value)) (A:ANet):Prop where
 law:LawM w B np hv dv bv ov n fl hps ps A.ds A.bag A.ord
 nds:∃ Ls,Nds w B hps A.c A.co A.ss K Ls
 bag:∀ g,bv.ownBlock=some g→w0.heap.size≤g
 lgf:LgF B w0 w
section
variable {w0 w w':World} {B np n K K':Nat} {hv dv bv ov:Value} {fl:Bool} {hps:List Nat} {ps:List (Nat × Value × Value)} {A A':ANet}
theorem NetB.l (h:NetB w0 w B np n K hv hps A):∃ dv bv ov fl ps,NetL w0 w B np n K hv dv bv ov fl hps ps A:=by
 obtain ⟨dv,bv,ov,fl,ps,Ls,h1,h2,h3,h4⟩:=h
 exact ⟨dv,bv,ov,fl,ps,h1,⟨Ls,h2⟩,h3,h4⟩
theorem NetL.b (h:NetL w0 w B np n K hv dv bv ov fl hps ps A):NetB w0 w B np n K hv hps A:=by
 obtain ⟨Ls,h2⟩:=h.nds
 exact ⟨dv,bv,ov,fl,ps,Ls,h.law,h2,h.bag,h.lgf⟩
theorem NetL.new (h:NetL w0 w B np n K hv dv bv ov fl hps ps A) (hf:Fr [] w w'):NetL w0 w' B np n K hv dv bv ov fl hps ps A:=by
 obtain ⟨Ls,h2⟩:=h.nds
 exact ⟨h.law.new hf,⟨Ls,h2.new hf⟩,h.bag,h.lgf.trans (NLf.new hf h.law.low.2).lg⟩
theorem NetL.node {Ls:List (List Nat)} (h:NetL w0 w B np n K hv dv bv ov fl hps ps A) (hp:NdP Ls B hps A'.c A'.co A'.ss K' w w') (e1:A'.ds=A.ds) (e2:A'.ord=A.ord) (e3:A'.bag=A.bag):NetL w0 w' B np n K' hv dv bv ov fl hps ps A':=by
 obtain ⟨⟨Ls',hN⟩,hf,-⟩:=hp
 exact ⟨by rw [e1,e2,e3];exact h.law.nlf hf,⟨Ls',hN⟩,h.bag,h.lgf.trans hf.lg⟩
theorem NetL.met (h:NetL w0 w B np n K hv dv bv ov fl hps ps A) (hB:2≤B) (hm:Met w0) (hp:Pows w0):Met w∧Pows w:=⟨h.lgf.met hB hm,h.lgf.pows hB hp⟩
theorem NetL.hvS (h:NetL w0 w B np n K hv dv bv ov fl hps ps A) (hn:n=A.ss.length):∃ gh hc,hv=.slice (some ⟨gh,0,none⟩) (n+1) hc∧∀ i hp,hps[i]?=some hp→w.cell? ⟨gh,i,none⟩=some (ptrV hp):=by
 obtain ⟨Ls,h2⟩:=h.nds
 have hl:=h2.len.1
 obtain ⟨ao,c,e,hcl⟩:=jBg (f:=id) h.law.hs
 obtain ⟨hp0,hh⟩:∃ x,hps[0]?=some x:=⟨_,List.getElem?_eq_getElem oE⟩
 obtain ⟨g,rfl,-⟩:=hcl 0 hp0 hh
 refine ⟨g,c,by rw [e,hl,hn],λi hp hi=>?_⟩
 obtain ⟨g',e',h3⟩:=hcl i hp hi
 cases e'
 exact h3
structure CallP (w0 w w':World) (B np n K:Nat) (hv dv bv ov:Value) (fl:Bool) (hps:List Nat) (ps:List (Nat × Value × Value)) (A:ANet):Prop where
 net:NetL w0 w' B np n K hv dv bv ov fl hps ps A
 own:∀ (q:Nat) (c:Array Value) (t:TypeId),w.heap[q]?=some (.cells c t)→¬ jAd t→w'.heap[q]?=some (.cells c t)
theorem CallP.of {W:World} (h:CallP w0 w w' B np n K hv dv bv ov fl hps ps A) (hf:Fr [] W w):CallP w0 W w' B np n K hv dv bv ov fl hps ps A :=
 ⟨h.net,λq c t hq ht=>h.own q c t ((hf.block q (Array.getElem?_eq_some_iff.1 hq).1 sE).trans hq) ht⟩
theorem jXk:¬ jAd 42:=by simp [jAd]
theorem NetL.call {Ls:List (List Nat)} (h:NetL w0 w B np n K hv dv bv ov fl hps ps A) (hp:NdP Ls B hps A'.c A'.co A'.ss K' w w') (e1:A'.ds=A.ds) (e2:A'.ord=A.ord) (e3:A'.bag=A.bag):CallP w0 w w' B np n K' hv dv bv ov fl hps ps A' :=
 ⟨h.node hp e1 e2 e3,λq c t hq ht=>hp.2.1.cells q c t _ hq ht⟩
end
section
variable {w0 w:World} {B np n K:Nat} {hv:Value} {hps:List Nat} {A:ANet}
theorem jFx (a b c:Int) (h:NetB w0 w B np n K hv hps A) (hn:n=A.ss.length) (hnl:n≤90) (h12:A.c.txns.length<12) (hids:∀ x∈A.ds,x.id<A.c.next) (hnx:A.c.next<1000000000) (hdl:A.ds.length≤1000000) (hB:2≤B) (hmet:Met w0) (hpow:Pows w0) (hK:K≤290000) :
  Calls Tryz.prog 56 #[ptrV np,stpV 1 a b c] w λe w'=>e=.returned (.bool true)∧NetB w0 w' B np n (K+1) hv hps { A with c:=A.c.begun.1,ds:=A.ds++[⟨A.c.next,List.replicate (n+1) 0,[],false,false,0⟩] }:=by
 obtain ⟨dv,bv,ov,fl,ps,hL⟩:=h.l
 obtain ⟨gh,hc,rfl,-⟩:=hL.hvS hn
 obtain ⟨da,dc,rfl⟩:=hL.law.dvS
 obtain ⟨D,hD⟩:∃ D,D=A.ds.length:=⟨_,rfl⟩
 rw [← hD] at hL
 have hbg:A.c.begun.2.1=A.c.next∧A.c.begun.2.2=0:=by unfold ACo.begun;rw [if_neg oE];exact ⟨rfl,rfl⟩
 obtain ⟨t,ht⟩:∃ t,t=A.c.next:=⟨_,rfl⟩
 obtain ⟨W,hW⟩:∃ W,W=w.alloc (stpO 1 a b c):=⟨_,rfl⟩
 have hfW:Fr [] w W:=by rw [hW];exact (Fr.refl [] w).alloc _
 have hsb:W.heap[w.heap.size]?=some (stpO 1 a b c):=by rw [hW];exact heap_alloc_new w _
 have hL1:=hL.new hfW
 obtain ⟨hp0,hh0⟩:∃ x,hps[0]?=some x:=⟨_,List.getElem?_eq_getElem (by have:=h.ln;omega)⟩
 obtain ⟨g',hc',eg,hcl⟩:=hL1.hvS hn
 cases eg
 have ch0:=hcl 0 hp0 hh0
 have n0:=jA0 hL1.law.net 0
 have s0:=jA0 hsb 0
 have s4:=jA0 hsb 4
 have s5:=jA0 hsb 5
 have s6:=jA0 hsb 6
 have s7:=jA0 hsb 7
 simp at n0 s0 s4 s5 s6 s7
 have hbgn:∀ w',Fr [] W w'→Calls Tryz.prog 11 #[.pointer (some ⟨hp0,0,none⟩),jD1 (-1) (-1) 0 0] w' λe w''=>e=.returned (.tuple #[.int .u64 (t:Int),.int .i64 0])∧CallP w0 W w'' B np n (K+1) (.slice (some ⟨gh,0,none⟩) (n+1) hc) (.slice da D dc) bv ov fl hps ps { A with c:=A.c.begun.1 }:=λw' hw'=>by
  have hm:=hL1.new hw'
  obtain ⟨Ls,hNd⟩:=hm.nds
  obtain ⟨hmt,hpw⟩:=hm.met hB hmet hpow
  have:=jUv hNd hh0 hB hmt hpw hK
  rw [hbg.1,hbg.2,← ht] at this
  refine this.mono ?_
  rintro e w'' ⟨rfl,hp⟩
  exact ⟨rfl,(hm.call (A':={ A with c:=A.c.begun.1 }) hp rfl rfl rfl).of hw'⟩
 have HB:=jA1 hbgn
 have H0:=jA1 (And.intro hn (And.intro hD (And.intro hids (And.intro ht (And.intro hh0 (And.intro hmet hpow))))))
 have HS:=jA1 (And.intro hsb hL1)
 have htl:t<1000000000:=by omega
 have hDl:D≤1000000:=by omega
 rw [hW] at ch0 n0 s0 s4 s5 s6 s7
 clear h hL hn hD hids hbg ht hfW hsb hL1 hh0 hbgn hcl hmet hpow hnx hdl h12
 go_enter Tryz.func56,Tryz.ntmps56
 go_wp2_with fail
 rw [← hW]
 rw [← hW] at ch0 n0 s0 s4 s5 s6 s7
 clear hW s0
 go_region_held3 (λw'=>w'.cell? ⟨np,0,none⟩=some (.slice (some ⟨gh,0,none⟩) (n+1) hc)∧w'.cell? ⟨gh,0,none⟩=some (ptrV hp0)∧w'.cell? ⟨w.heap.size,4,none⟩=some (.int .i64 (-1))∧w'.cell? ⟨w.heap.size,5,none⟩=some (.int .i64 (-1))∧w'.cell? ⟨w.heap.size,6,none⟩=some (.int .i64 0)∧w'.cell? ⟨w.heap.size,7,none⟩=some (.int .i64 0)) (simp [*])
  (first | (go_at_call 11;refine (HB.out _ (by first | exact jAk (Fr.refl [] W) _ | exact (Fr.refl [] W).drew | exact Fr.refl [] W)).mono ?_;rintro e w5 ⟨rfl,hP5⟩;(obtain ⟨g5,c5,eg5,hcl5⟩:=hP5.net.hvS H0.out.1);cases eg5;have ch5:=hcl5 0 hp0 H0.out.2.2.2.2.1;have n05:=jA0 hP5.net.law.net 0;(have hs5:=hP5.own _ _ _ HS.out.1 jXk);have s45:=jA0 hs5 4;have s55:=jA0 hs5 5;have s65:=jA0 hs5 6;have s75:=jA0 hs5 7;simp at ch5 n05 s45 s55 s65 s75;have H5:=jA1 hP5.net;clear hP5 hs5 hcl5))
 clear ch0 n0 s4 s5 s6 s7 ch5 n05 s45 s55 s65 s75
 have n1:=jA0 H5.out.law.net 1
 simp at n1
 go_wp2_with fail
 go_loopw [7] (λi wr=>∃ m:Nat,m≤D∧i=.int .i64 (m:Int)∧wr=w5) (λi _=>D - (intOf i).toNat)
 case atStart=>exact ⟨0,Nat.zero_le _,rfl,rfl⟩
 case round =>
  obtain ⟨m,hm,rfl,rfl⟩:=hrel
  by_cases hmt:m<D
  ·obtain ⟨x,hx⟩:∃ x,A.ds[m]?=some x:=⟨_,List.getElem?_eq_getElem (by rw [← H0.out.2.1];exact hmt)⟩
   obtain ⟨gd,dc',p,ed,hp,hgd,hdl⟩:=H5.out.law.dealAt hx
   rw [show ({ A with c:=A.c.begun.1 }:ANet).ds.length=D from H0.out.2.1.symm] at ed
   cases ed
   have d0:=jA0 hdl.blk 0
   simp at d0
   have hidx:=H0.out.2.2.1 x (List.mem_of_getElem? hx)
   rw [← H0.out.2.2.2.1] at hidx
   have i0:(0:Int)≤(m:Int):=by omega
   have i1:(m:Int)<(D:Int):=by omega
   have i2:¬ (t:Int)≤(x.id:Int):=by omega
   clear hx hp hdl hidx
   go_wp2_with fail
   go_roundw
   case rel=>exact ⟨m+1,by omega,by go_num,by first | rfl | trivial⟩
   case measure=>simp [intOf];omega
  ·have i1:¬ (m:Int)<(D:Int):=by omega
   have em:m=D:=by omega
   subst em
   have n4:=jA0 H5.out.law.net 4
   simp at n4
   have n1a:=λo=>jAm n1 o
   have n1b:=λo o'=>jAm (n1a o) o'
   have n1c:=λo o' o2=>jAm (n1b o o') o2
   have hmk:=λW:World=>mkI W (n+1) oE
   rw [show (((n+1:Nat):Int))=(n:Int)+1 by omega] at hmk
   have hwn:IntKind.i64.wrap ((n:Int)+1)=(n:Int)+1:=by rw [IntKind.wrap_i64];omega
   obtain ⟨Ls5,hN5⟩:=H5.out.nds
   have HN5:=jA1 hN5
   have hpl:ps.length≤60000000:=by have e1:ps.length=A.ds.length:=H5.out.law.len;have:=H0.out.2.1;omega
   clear hN5
   go_wp2_with fail
   go_region_law (first | (rw [if_pos (by rfl)];refine' jIi (A:={ A with c:=A.c.begun.1 }) (⟨A.c.next,List.replicate (n+1) 0,[],false,false,0⟩) H5.out.law HN5.out H5.out.bag H5.out.lgf hpl _ _ rfl rfl rfl _ _ _ _ _ _ _ _ _ _ _ rfl _;rotate_left 6;(repeat (first | with_reducible exact Fr.refl [] _ | with_reducible refine Fr.alloc ?_ _ | with_reducible refine Fr.drew ?_));(repeat (first | with_reducible exact AtH.new _ _ (by simp) | with_reducible refine AtH.alloc ?_ _ | with_reducible refine AtH.drew ?_));(repeat (first | with_reducible exact AtH.new _ _ (by simp) | with_reducible refine AtH.alloc ?_ _ | with_reducible refine AtH.drew ?_));(repeat (first | with_reducible exact AtH.new _ _ (by simp) | with_reducible refine AtH.alloc ?_ _ | with_reducible refine AtH.drew ?_));(exact Or.inl ⟨rfl,rfl⟩);(simp;try omega);(simp;try omega);(simp [seqV]);(simp);omega;(rw [H0.out.2.2.2.1]);intro va vb vc w6 b6 h6;have c6:=jA0 b6 1;have f6:=jA2 b6 1;simp at c6;have H6:=jA1 h6;clear h6 b6;rotate_left 0))
   all_goals (go_wp2_with fail;go_ret;exact ⟨rfl,H6.out.net⟩)
end
end Go.Proofs.YtcalalndmcemiaaGreatDoor
