import Derived.Test.YtcalalndmcemiaaGreatDoorC35
set_option maxRecDepth 100000
set_option maxHeartbeats 16000000
namespace Go.Proofs.YtcalalndmcemiaaGreatDoor
open Go.RowKit Go.Maps Go.Shelf
open Sc
theorem Dels.ss {l:List Msg} {A A':ANet} (h:Dels l A A'):A'.ss.length=A.ss.length∧A'.bag=A.bag:=by
 induction h with
 | nil=>exact ⟨rfl,rfl⟩
 | cons h1 h2 _ ih =>
  have e:=h2.eq
  rw [ih.1,ih.2,e]
  exact ⟨(jIt _ _).1,(jIt _ _).2.1⟩
theorem Wave.ss {A A':ANet} {m:Nat} (h:Wave A A' m):A'.ss.length=A.ss.length∧A'.bag=[]:=by
 have:=h.del.ss
 exact ⟨this.1.trans (jIj A _),this.2⟩
theorem jK2 {w:World} {b n:Nat} {ao:Option Addr} {m c:Nat} {l:List Msg} {i:Nat} {x:Msg} (h:w.ownsRow b 9 1 (.slice ao m c) n (msgT l)) (hj:l[i]?=some x):∃ g,ao=some ⟨g,0,none⟩∧w.cell? ⟨g,i,none⟩=some (.string (str x.bytes)):=by
 rcases h.2 with ⟨e,h0⟩ | ⟨g,cap,cur,e,rest⟩
 ·have:=(List.getElem?_eq_some_iff.1 hj).1
  have h1:=h.1
  rw [h0] at h1
  simp [msgT] at h1
  rw [h1] at this
  simp at this
 ·have e':=e
  cases e'
  exact ⟨g,rfl,jB2 h e (by unfold msgT;rw [List.getElem?_map,hj];rfl)⟩
theorem jJ8 (A:ANet) (i d:Nat):(A.sends i).bag.length≤(A.sends (i+d)).bag.length:=by
 induction d with
 | zero=>exact Nat.le_refl _
 | succ d ih =>
  show _≤((A.sends (i+d)).send (i+d)).bag.length
  rw [jIw,List.length_append]
  omega
theorem jOi (A:ANet) (i:Nat):(A.sends i).outs i=A.outs i:=by
 cases i with
 | zero=>rfl
 | succ i=>simp only [ANet.outs];rw [jMf A (i+1) i (Nat.le_refl _)]
theorem Wave.outs {A A':ANet} {m:Nat} (h:Wave A A' m) (i:Nat):∀ x∈A.outs i,x.Ok:=by
 cases i with
 | zero=>exact h.ok.1
 | succ i =>
  intro x hx
  simp only [ANet.outs] at hx
  cases e:A.ss[i]? with
  | none=>rw [e] at hx;cases hx
  | some s=>rw [e] at hx;exact h.ok.2 i s e x hx
theorem NetB.base {w0 w1 w:World} {B np n K:Nat} {hv:Value} {hps:List Nat} {A:ANet} (h:NetB w1 w B np n K hv hps A) (hb:A.bag=[]) (hf:LgF B w0 w1):NetB w0 w B np n K hv hps A:=by
 obtain ⟨dv,bv,ov,fl,ps,Ls,h1,h2,h3,h4⟩:=h
 exact ⟨dv,bv,ov,fl,ps,Ls,h1,h2,by rw [h1.bg0 hb];nofun,hf.trans h4⟩
theorem BgP.net {w w1:World} {B np n:Nat} {hv dv bv ov v':Value} {fl:Bool} {hps:List Nat} {ps:List (Nat × Value × Value)} {ds:List ADeal} {bag bag':List Msg} {ord:List Nat} (hP:BgP w w1 B bv v' bag') (h:LawM w B np hv dv bv ov n fl hps ps ds bag ord):w1.heap[np]?=some (netO hv dv bv ov n fl):=by
 obtain ⟨S,hS,-,hSb⟩:=hP.fr
 exact (hS.block np (Array.getElem?_eq_some_iff.1 h.net).1 (λhm=>jAe h.bg h.net dN (hSb np hm))).trans h.net
theorem NetB.bagged {w0 w w1:World} {B np n K:Nat} {hv dv bv ov v':Value} {fl:Bool} {hps:List Nat} {ps:List (Nat × Value × Value)} {Ls:List (List Nat)} {A A1:ANet} {bag:List Msg} (h:LawM w B np hv dv bv ov n fl hps ps A.ds bag A.ord) (hN:Nds w B hps A1.c A1.co A1.ss K Ls) (hP:BgP w w1 B bv v' A1.bag) (hb:∀ g,bv.ownBlock=some g→w0.heap.size≤g) (hG:LgF B w0 w) (e1:A1.ds=A.ds) (e2:A1.ord=A.ord):NetB w0 (w1.setCell ⟨np,2,none⟩ v') B np n K hv hps A1:=by
 obtain ⟨hL,S,hf,hS,hSk⟩:=h.bagOf hP
 refine ⟨dv,v',ov,fl,ps,Ls,by rw [e1,e2];exact hL,hN.law hf hS,λg hg=>?_,hG.turn hf h.low.2 (λk hk=>?_)⟩
 ·rcases hP.loc g hg with e | e
  ·exact hb g e
  ·have:=hG.below.size;omega
 ·rcases hSk k hk with e | e
  ·rw [e];exact ⟨h.low.1,.inr ⟨_,_,_,h.net,.inl rfl⟩⟩
  ·exact ⟨(h.bg.lt k e).1,.inl (hb k e)⟩
section
variable {w0:World} {B np n K:Nat} {hv:Value} {hps:List Nat} {A A':ANet}
theorem jK0 (w:World) (R:Nat) (h:NetB w0 w B np n K hv hps A) (hn:n=A.ss.length) (hW:Waves 6 A A' R) (hK:K+R≤100000) (hnl:n≤1000) (hB:2≤B) (hmet:Met w0) (hpow:Pows w0) (hbg:A.bag=[]) :
  Calls Tryz.prog 17 #[ptrV np] w λe w'=>e=.returned (.bool true)∧NetB w0 w' B np n (K+R) hv hps A':=by
 obtain ⟨ha,hc,ehv,-⟩:=jBg (f:=id) h.hs.1
 have hNH:hps.length=n+1:=by have:=h.ln;omega
 rw [hNH] at ehv
 subst ehv
 have H0:=jA1 (And.intro h (And.intro hW (And.intro hn (And.intro hbg (And.intro hmet hpow)))))
 clear h hW hn hbg hmet hpow
 go_enter Tryz.func17,Tryz.ntmps17
 go_wp2_with fail
 go_loopw [3] (λi wr=>∃ q:Nat,q≤6∧i=.int .i64 (q:Int)∧Hid (∃ Ar Kr kk,Waves (6 - q) Ar A' kk∧NetB w0 wr B np n Kr (.slice ha (n+1) hc) hps Ar∧Kr+kk=K+R∧n=Ar.ss.length∧Ar.bag=[])) (λi _=>6 - (intOf i).toNat)
 case atStart=>exact ⟨0,Nat.zero_le _,rfl,A,K,R,H0.out.2.1,H0.out.1,rfl,H0.out.2.2.1,H0.out.2.2.2.1⟩
 case round =>
  obtain ⟨q,hq,rfl,HI⟩:=hrel
  by_cases hlt:q<6
  ·obtain ⟨Ar,Kr,kk,hWs,hNr,hKr,hnr,hbr⟩:=HI.out
   obtain ⟨A1,m1,k1,hW1,hW2,hkk⟩:∃ A1 m k,Wave Ar A1 m∧Waves (6 - (q+1)) A1 A' k∧kk=m+k:=by
    have e:6 - q=(6 - (q+1))+1:=by omega
    rw [e] at hWs
    cases hWs
    exact ⟨_,_,_,by assumption,by assumption,rfl⟩
   have i1:(q:Int)<6:=by omega
   have HR:=jA1 (And.intro hW1 (And.intro hW2 (And.intro hNr (And.intro hnr hbr))))
   clear HI hWs hW1 hW2 hNr hnr hbr
   go_wp2_with fail
   go_loopw [4] (λi wx=>∃ p:Nat,p≤n+1∧i=.int .i64 (p:Int)∧Hid (NetB w0 wx B np n Kr (.slice ha (n+1) hc) hps (Ar.sends p))) (λi _=>n+1 - (intOf i).toNat)
   case atStart=>exact ⟨0,Nat.zero_le _,rfl,HR.out.2.2.1⟩
   case round =>
    obtain ⟨p,hp,rfl,HP⟩:=hrel
    obtain ⟨n0,n4⟩:=HP.out.cells
    by_cases hpt:p≤n
    ·obtain ⟨hh,ehh⟩:∃ hh,hps[p]?=some hh:=⟨_,List.getElem?_eq_getElem oE⟩
     obtain ⟨gh,rfl,chp⟩:=jAj (f:=id) HP.out.hs.1 ehh
     obtain ⟨dv,bv,ov,fl,ps,Ls,hL,hN,hbb,hG⟩:=HP.out
     have hsn:=jTw hN ehh (by rw [jIj];have:=HR.out.2.2.2.1;omega) (by rw [jOi];exact HR.out.1.outs p) oE
     simp at chp
     have j0:(0:Int)≤(p:Int):=by omega
     have j1:(p:Int)≤(n:Int):=by omega
     have j2:(p:Int)<(n:Int)+1:=by omega
     have HQ:=jA1 (And.intro hL (And.intro hN (And.intro hbb hG)))
     clear hL hN hbb hG
     go_wp2_with fail
     refine hsn.mono ?_
     clear hsn
     rintro e w1 ⟨v,rfl,hrv,hnil,⟨Ls1,hN1⟩,hf1,-⟩
     have hL1:=HQ.out.1.nlf hf1
     have c2:=jA0 hL1.net 2
     have hfree:=jA2 hL1.net 2
     simp at c2
     clear n0 n4 chp
     obtain ⟨va,vn,vc,rfl⟩:=jAu hrv
     have hbl:(Ar.sends p).bag.length+((Ar.sends p).outs p).length≤60000000:=by
      have h1:=jJ8 Ar (p+1) (n - p)
      have h2:((Ar.sends (p+1)).bag).length=(Ar.sends p).bag.length+((Ar.sends p).outs p).length:=by
       show ((Ar.sends p).send p).bag.length=_
       rw [jIw,List.length_append]
      rw [show p+1+(n - p)=Ar.ss.length+1 by have:=HR.out.2.2.2.1;omega,← HR.out.1.cnt] at h1
      omega
     obtain ⟨ba,bn,bc,ebv⟩:=jAu hL1.bg
     have hbg:=hL1.bg
     have hbg0:=hL1.bg0
     have hlow:=hL1.low.2
     have H1:=jA1 (And.intro hL1 (And.intro hN1 hf1))
     subst ebv
     clear hL1 hN1 hf1
     go_wp2_with (at_builtin;refine jNr rfl _ _ rfl B _ _ _ _ _ rfl hbg hbg0 rfl hrv hnil hbl hlow ?_)
     intro v' w2 hP
     obtain ⟨va',vn',vc',rfl⟩:=jAu hP.row
     have hb2:=hP.net H1.out.1
     have g2:=jA0 hb2 2
     have gf2:=jA2 hb2 2
     simp at g2
     have hfin:NetB w0 (w2.setCell ⟨np,2,none⟩ (.slice va' vn' vc')) B np n Kr (.slice (some ⟨gh,0,none⟩) (n+1) hc) hps (Ar.sends (p+1)):=by
      rw [← jIw] at hP
      exact NetB.bagged (A:=Ar.sends p) (A1:=(Ar.sends p).send p) H1.out.1 H1.out.2.1 hP HQ.out.2.2.1 (HQ.out.2.2.2.trans H1.out.2.2.lg) (jQ9 _ _).1 (jQ9 _ _).2
     have HF:=jA1 hfin
     clear hfin hP hb2 hbg hbg0 hrv hnil c2 hfree
     go_wp2_with fail
     go_roundw
     case rel=>exact ⟨p+1,by omega,by go_num,HF.out⟩
     case measure=>simp [intOf];omega
    ·have j1:¬ (p:Int)≤(n:Int):=by omega
     have hpn:p=Ar.ss.length+1:=by have:=HR.out.2.2.2.1;omega
     obtain ⟨dv,bv,ov,fl,ps,Ls,hL,hN,hbb,hG⟩:=HP.out
     obtain ⟨l,hl⟩:∃ l,l=(Ar.sends p).bag:=⟨_,rfl⟩
     rw [← hl] at hL
     have c2:=jA0 hL.net 2
     have f2:=jA2 hL.net 2
     simp at c2
     obtain ⟨hL2,S2,hf2,hS2,hSk2⟩:=hL.bagOf (BgP.none B wr bv)
     obtain ⟨W,hW⟩:∃ W,W=wr.setCell ⟨np,2,none⟩ (.slice none 0 0):=⟨_,rfl⟩
     rw [← hW] at hL2 hf2
     have hN2:=hN.law hf2 hS2
     have hG2:LgF B w0 W:=hG.turn hf2 hL.low.2 (λk hk=>by
      rcases hSk2 k hk with e | e
      ·rw [e];exact ⟨hL.low.1,.inr ⟨_,_,_,hL.net,.inl rfl⟩⟩
      ·exact ⟨(hL.bg.lt k e).1,.inl (hbb k e)⟩)
     have hrow2:W.ownsRow B 9 1 bv l.length (msgT l):=by rw [hW];exact jA7 hL.bg (Fr.set1 (List.mem_singleton.2 rfl) _ _) (λg hg=>by simp;intro e;subst e;exact jAe hL.bg hL.net dN hg)
     obtain ⟨la,lc,rfl⟩:∃ la lc,bv=.slice la l.length lc:=by
      rcases hL.bg.2 with ⟨e,e2⟩ | ⟨g,cap,cur,e,-⟩
      ·exact ⟨none,0,by rw [e,e2]⟩
      ·exact ⟨_,_,e⟩
     obtain ⟨M,hM⟩:∃ M,M=l.length:=⟨_,rfl⟩
     have hMm:M=m1:=by rw [hM,hl,hpn];exact HR.out.1.cnt.symm
     have hD:Dels l { Ar.sends p with bag:=[] } A1:=by rw [hl,hpn];exact HR.out.1.del
     have hNB:NetB W W B np n Kr (.slice ha (n+1) hc) hps { Ar.sends p with bag:=[] }:=⟨dv,_,ov,fl,ps,Ls,hL2,hN2,nofun,⟨Below.refl _ _,λ_ _ _ _ hk _ _=>hk⟩⟩
     have hnn:n=({ Ar.sends p with bag:=[] }:ANet).ss.length:=by show n=(Ar.sends p).ss.length;rw [jIj];exact HR.out.2.2.2.1
     rw [← hM] at c2 hrow2
     have H2:=jA1 (And.intro hNB (And.intro hD (And.intro hG2 (And.intro hrow2 (And.intro hM hnn)))))
     clear HP hL hN hbb hG hl hL2 hf2 hS2 hSk2 hN2 hG2 hrow2 hD hNB hM hnn
     have hmetW:=H2.out.2.2.1.met hB H0.out.2.2.2.2.1
     have hpowW:=H2.out.2.2.1.pows hB H0.out.2.2.2.2.2
     have HMP:=jA1 (And.intro hmetW hpowW)
     have HMm:=jA1 hMm
     have hMl:M≤100000:=by omega
     clear hmetW hpowW hMm hpn
     go_wp2_with fail
     rw [← hW]
     clear hW c2 f2
     go_loopw [7] (λi wx=>∃ k:Nat,k≤M∧i=.int .i64 (k:Int)∧Hid (∃ Ak,Dels (l.drop k) Ak A1∧NetB W wx B np n (Kr+k) (.slice ha (n+1) hc) hps Ak∧n=Ak.ss.length)) (λi _=>M - (intOf i).toNat)
     case atStart=>exact ⟨0,Nat.zero_le _,rfl,_,H2.out.2.1,H2.out.1,H2.out.2.2.2.2.2⟩
     case round =>
      obtain ⟨k,hk,rfl,HK⟩:=hrel
      obtain ⟨Ak,hDk,hNk,hnk⟩:=HK.out
      by_cases hkt:k<M
      ·obtain ⟨x,hx⟩:∃ x,l[k]?=some x:=⟨_,List.getElem?_eq_getElem (by rw [← H2.out.2.2.2.2.1];exact hkt)⟩
       have hcons:l.drop k=x :: l.drop (k+1):=by
        have hl:=(List.getElem?_eq_some_iff.1 hx)
        rw [List.drop_eq_getElem_cons hl.1,hl.2]
       rw [hcons] at hDk
       obtain ⟨A2,hcm,hlk,hDn⟩:∃ A2,Ak.Comes x∧Looks (Ak.recv x) A2∧Dels (l.drop (k+1)) A2 A1:=by
        cases hDk
        exact ⟨_,by assumption,by assumption,by assumption⟩
       have rowAt:∀ (w':World) (K':Nat) (A9:ANet),NetB W w' B np n K' (.slice ha (n+1) hc) hps A9→w'.ownsRow B 9 1 (.slice la M lc) M (msgT l):=λw' K' A9 hN9=>by
        obtain ⟨dv9,bv9,ov9,fl9,ps9,Ls9,-,-,-,h9⟩:=hN9
        have:=H2.out.2.2.2.1
        exact h9.row this (by simp [jAd]) (by simp [LawTy])
       obtain ⟨g,rfl,cx⟩:=jK2 (rowAt wr _ _ hNk) hx
       have hdl:∀ w',Fr [] wr w'→Calls Tryz.prog 35 #[ptrV np,.string (str x.bytes),jD1 (-1) (-1) 0 0] w' λe w''=>e=.returned (.bool true)∧NetB W w'' B np n (Kr+k+1) (.slice ha (n+1) hc) hps (Ak.recv x):=λw' hw'=>jOt x (hNk.new hw') hcm hnk (by have:=HMm.out;omega) hB HMP.out.1 HMP.out.2
       have j0:(0:Int)≤(k:Int):=by omega
       have j1:(k:Int)<(M:Int):=by omega
       have hn2:n=(Ak.recv x).ss.length:=by rw [(jIt Ak x).1];exact hnk
       have hn3:n=A2.ss.length:=by rw [hlk.eq];exact hn2
       have HD:=jA1 hdl
       have HX:=jA1 (And.intro hx (And.intro hlk (And.intro hDn (And.intro rowAt (And.intro hn2 hn3)))))
       have hlw:g<wr.heap.size:=by
        have h1:=cx
        unfold World.cell? at h1
        rcases Nat.lt_or_ge g wr.heap.size with e | e
        ·exact e
        ·rw [Array.getElem?_eq_none (by exact e)] at h1;cases h1
       clear HK hDk hNk hcons hcm hlk hDn rowAt hdl hx hn2 hn3 hnk
       go_wp2_with fail
       go_region_held3 (λw'=>w'.cell? ⟨g,k,none⟩=some (.string (str x.bytes))) (simp [*])
        (first | (go_at_call 12;refine (jF8 _).mono ?_;rintro e w3 ⟨rfl,hf3⟩;have hf3':Fr [] wr w3:=Fr.trans (by first | exact jAk (Fr.refl [] wr) _ | exact (Fr.refl [] wr).drew | exact Fr.refl [] wr) hf3;have cx3:w3.cell? ⟨g,k,none⟩=some (.string (str x.bytes)):=(World.cell?_of_block (a:=⟨g,k,none⟩) (hf3'.block g hlw (by simp))).trans cx;have H3:=jA1 hf3';clear hf3 hf3') | (go_at_call 35;refine (HD.out _ (H3.out.trans (by first | exact jAk (Fr.refl [] w3) _ | exact (Fr.refl [] w3).drew | exact Fr.refl [] w3))).mono ?_;rintro e w4 ⟨rfl,hN4⟩;(obtain ⟨g',eg',cx4⟩:=jK2 (HX.out.2.2.2.1 _ _ _ hN4) HX.out.1);cases eg';have H4:=jA1 hN4;clear hN4))
       go_wp2_with fail
       refine (jR9 H4.out HX.out.2.1 HX.out.2.2.2.2.1 (by have:=HMm.out;omega) hnl).mono ?_
       rintro e w5 ⟨rfl,hN5⟩
       have H5:=jA1 hN5
       clear hN5
       go_wp2_with fail
       go_roundw
       case rel=>exact ⟨k+1,by omega,by go_num,A2,HX.out.2.2.1,H5.out,HX.out.2.2.2.2.2⟩
       case measure=>simp [intOf];omega
      ·have j1:¬ (k:Int)<(M:Int):=by omega
       have hdr:l.drop k=[]:=List.drop_eq_nil_iff.2 (by rw [← H2.out.2.2.2.2.1];omega)
       rw [hdr] at hDk
       cases hDk
       have hb1:=(HR.out.1.ss).2
       have hfin:=hNk.base hb1 H2.out.2.2.1
       have HF:=jA1 (And.intro hfin hnk)
       have HBg:=jA1 hb1
       clear hNk hfin hb1 HK hdr hnk
       go_wp2_with fail
       go_roundw
       case rel=>exact ⟨q+1,by omega,by go_num,A1,Kr+k,k1,HR.out.2.1,HF.out.1,by have:=HMm.out;omega,HF.out.2,HBg.out⟩
       case measure=>simp [intOf];omega
  ·have i1:¬ (q:Int)<6:=by omega
   obtain ⟨Ar,Kr,kk,hWs,hNr,hKr,hnr,hbr⟩:=HI.out
   have e0:6 - q=0:=by omega
   rw [e0] at hWs
   have HF:Hid (NetB w0 wr B np n (K+R) (.slice ha (n+1) hc) hps A'):=by
    cases hWs
    rw [← hKr]
    exact hNr
   clear hWs hNr hKr hnr hbr HI
   go_wp2_with fail
   go_ret
   exact ⟨rfl,HF.out⟩
end
section
variable {w W0 w1:World} {B np n dp:Nat} {hv dv bv ov v' sv wv:Value} {fl:Bool} {hps:List Nat} {ps:List (Nat × Value × Value)} {ds:List ADeal} {bag:List Msg} {ord:List Nat} {x:ADeal}
theorem LawM.dlApp (h:LawM w B np hv dv bv ov n fl hps ps ds bag ord) (hf0:Fr [] w W0) (hd:DealAt W0 B (dp,sv,wv) x) (hdp:w.heap.size≤dp) (hsv:∀ g,sv.ownBlock=some g→w.heap.size≤g) (hwv:∀ g,wv.ownBlock=some g→w.heap.size≤g) (hg:W0.grownBy w1 dv.ownBlock) (ho:w1.ownsRow B 55 1 v' (ps.length+1) ((ps.map λp=>ptrV p.1)++[ptrV dp])) (hat:∀ g,v'.ownBlock=some g→dv.ownBlock=some g∨w.heap.size≤g) :
  LawM (w1.setCell ⟨np,1,none⟩ v') B np hv v' bv ov n fl hps (ps++[(dp,sv,wv)]) (ds++[x]) bag ord∧LwR B w (w1.setCell ⟨np,1,none⟩ v'):=by
 obtain ⟨W,hW⟩:∃ W,W=w1.setCell ⟨np,1,none⟩ v':=⟨_,rfl⟩
 rw [← hW]
 have hnl:=(Array.getElem?_eq_some_iff.1 h.net).1
 have nrow:dv.ownBlock≠some np:=jAe h.dl h.net dN
 have hb1:w1.heap[np]?=some (netO hv dv bv ov n fl):=((Fr.of_grown hg).block np (by have:=hf0.size;omega) (by simp;exact nrow)).trans ((hf0.block np hnl sE).trans h.net)
 have hfw:Fr [np] w1 W:=by rw [hW];exact Fr.set1 sE _ _
 have hfg:Fr (np :: dv.ownBlock.toList) W0 W:=((Fr.of_grown hg).mono (λk _ hk=>List.mem_cons_of_mem np hk)).andThen (hfw.mono (λk _ hk=>by simp at hk;simp [hk])) (λj hj _=>hj)
 have hf:Fr (np :: dv.ownBlock.toList) w W:=(hf0.mono sE).andThen hfg (λj hj _=>hj)
 have keep:∀ (q:Nat) (c:Array Value) (t:TypeId),w.heap[q]?=some (.cells c t (0,0))→t≠37→(t≠55∨dv.ownBlock≠some q)→W.heap[q]?=some (.cells c t (0,0)):=λq c t hq h1 h2=>(hf.block q (Array.getElem?_eq_some_iff.1 hq).1 (λhm=>by
  rcases List.mem_cons.1 hm with e | e
  ·rw [e,h.net] at hq;cases hq;exact h1 rfl
  ·simp at e
   rcases h2 with h2 | h2
   ·obtain ⟨c2,hc2⟩:=jA4 h.dl e
    rw [hq] at hc2
    cases hc2
    exact h2 rfl
   ·exact h2 e)).trans hq
 have young:∀ q,w.heap.size≤q→q<W0.heap.size→W.heap[q]?=W0.heap[q]?:=λq hq hl=>hfg.block q hl (λhm=>by
  rcases List.mem_cons.1 hm with e | e
  ·omega
  ·simp at e;have:=(h.dl.lt q e).2;omega)
 have row:∀ {b m j:Nat} {e:TypeId} {v:Value} {xs:List Value},w.ownsRow b e j v m xs→e≠37→(e≠55∨Apt dv v)→W.ownsRow b e j v m xs:=λ{b m j e v xs} hr h1 h2=>jAf hr (λg hg=>by
  obtain ⟨c,hc⟩:=jA4 hr hg
  exact (keep g c e hc h1 (h2.imp id (λh3 e=>h3 g e hg))).trans hc.symm)
 have hnew:DealAt W B (dp,sv,wv) x:=⟨(young dp hdp (Array.getElem?_eq_some_iff.1 hd.blk).1).trans hd.blk,hd.low,jAf hd.seq (λg hg=>young g (hsv g hg) (hd.seq.lt g hg).2),jAf hd.wrs (λg hg=>young g (hwv g hg) (hd.wrs.lt g hg).2)⟩
 have hod:(ord.map λj=>ptrV (((ps++[(dp,sv,wv)])[j]?.map (·.1)).getD 0))=ord.map λj=>ptrV ((ps[j]?.map (·.1)).getD 0):=List.map_congr_left (λj hj=>by rw [List.getElem?_append_left (h.odl j hj)])
 have hlt:∀ p∈ps,p.1<w.heap.size∧(∀ g,p.2.1.ownBlock=some g→g<w.heap.size)∧∀ g,p.2.2.ownBlock=some g→g<w.heap.size:=λp hp=>by
  obtain ⟨j,hj⟩:=List.getElem?_of_mem hp
  obtain ⟨y,hy⟩:∃ y,ds[j]?=some y:=⟨_,List.getElem?_eq_getElem (by rw [← h.len];exact (List.getElem?_eq_some_iff.1 hj).1)⟩
  have hd:=h.each j p y hj hy
  exact ⟨(Array.getElem?_eq_some_iff.1 hd.blk).1,λg hg=>(hd.seq.lt g hg).2,λg hg=>(hd.wrs.lt g hg).2⟩
 refine ⟨⟨by rw [hW];have:=jA5 hb1 1 v';simp at this;exact this,⟨h.low.1,Nat.le_trans h.low.2 hf.size⟩,row h.hs dN (.inl dN),?_,row h.bg dN (.inl dN),h.bg0,by rw [hod];exact row h.od dN (.inr h.ap),λj hj=>by have:=h.odl j hj;simp;omega,λg hg e=>?_,by simp [h.len],λj p y hj hy=>?_,?_⟩,⟨_,hf,λq hq hl=>?_,λq hq=>?_⟩⟩
 ·rw [List.length_append,List.map_append]
  exact jA7 ho hfw (λg hg=>by simp;intro e;subst e;exact jAe ho hb1 dN hg)
 ·rcases hat g hg with e2 | e2
  ·exact h.ap g e2 e
  ·have:=(h.od.lt g e).2;omega
 ·rcases Nat.lt_or_ge j ps.length with hl | hl
  ·rw [List.getElem?_append_left hl] at hj
   rw [List.getElem?_append_left (by rw [← h.len];exact hl)] at hy
   have hd:=h.each j p y hj hy
   exact ⟨keep _ _ _ hd.blk dN (.inl dN),hd.low,row hd.seq dN (.inl dN),row hd.wrs dN (.inl dN)⟩
  ·rw [List.getElem?_append_right hl] at hj
   rw [List.getElem?_append_right (by rw [← h.len];exact hl),← h.len] at hy
   cases hjj:j - ps.length with
   | zero =>
    rw [hjj] at hj hy
    simp at hj hy
    subst hj hy
    exact hnew
   | succ r=>rw [hjj] at hj;simp at hj
 ·rw [List.pairwise_append]
  refine ⟨h.dis,List.pairwise_singleton _ _,λa ha b hb=>?_⟩
  simp at hb
  subst hb
  obtain ⟨h1,h2,h3⟩:=hlt a ha
  exact ⟨by simp;omega,λg hg e=>by have:=h2 g hg;have:=hsv g e;omega,λg hg e=>by have:=h3 g hg;have:=hwv g e;omega⟩
 ·rcases List.mem_cons.1 hq with e | e
  ·rw [e,h.net];exact ⟨_,_,_,rfl,.inl rfl⟩
  ·simp at e
   obtain ⟨c2,hc2⟩:=jA4 h.dl e
   exact ⟨_,_,_,hc2,.inr (.inr (.inl rfl))⟩
 ·rcases List.mem_cons.1 hq with e | e
  ·rw [e];exact h.low.1
  ·simp at e;exact (h.dl.lt q e).1
end
end Go.Proofs.YtcalalndmcemiaaGreatDoor
set_option maxRecDepth 100000
set_option maxHeartbeats 16000000
namespace Go.Proofs.YtcalalndmcemiaaGreatDoor
open Go.Maps
open Sc
abbrev rs (V:List (ByteArray × ByteArray)):AShard:=⟨V,[],[],0⟩
abbrev hs1 (V:List (ByteArray × ByteArray)) (t st d way:Nat) (k v:ByteArray):AShard:=⟨V,[(t,⟨st,d,0⟩)],[((t,k),⟨way,v⟩)],0⟩
section
variable (V:List (ByteArray × ByteArray)) (t st d:Nat) (k v:ByteArray)
theorem jE4 (g:AGrip) (ht:t≠0) (hk:1≤k.size∧k.size≤16) (hv:g.val.size≤32):(rs V).operate t 0 k g=(hs1 V t 1 1 g.way k g.val,0):=by
 have e1:(rs V).txn t=⟨0,0,0⟩:=rfl
 have e2:(rs V).refuse1 t 0 k g.val=0:=by
  unfold AShard.refuse1
  rw [if_neg ht,if_neg oE,e1,if_neg sE,if_neg sE,if_neg sE]
 have e3:(rs V).refuse t 0 k g.val=0:=by
  unfold AShard.refuse
  rw [if_pos e2]
  unfold AShard.refuse2
  rw [if_neg (by simp [AShard.count])]
 unfold AShard.operate
 rw [if_pos e3,if_neg (by simp [AShard.clash]),e1]
 unfold AShard.take
 rw [if_pos (by simp [AShard.grip,jA3,AGrip.writes])]
 rfl
theorem jXh (ht:t≠0) (hk:1≤k.size∧k.size≤16):(rs V).get t 0 k=(hs1 V t 1 1 0 k ByteArray.empty,(jA3 V k).getD ByteArray.empty,(jA3 V k).isSome,0):=by
 have e:=jE4 V t k ⟨0,ByteArray.empty⟩ ht hk dN
 unfold AShard.get
 rw [e]
 simp [AShard.grip,jA3,AGrip.writes]
theorem jW1 (ht:t≠0) (hk:1≤k.size∧k.size≤16) (hv:v.size≤32):(hs1 V t 1 1 0 k ByteArray.empty).operate t 1 k ⟨1,v⟩=(hs1 V t 1 2 1 k v,0):=by
 have e1:(hs1 V t 1 1 0 k ByteArray.empty).txn t=⟨1,1,0⟩:=by simp [AShard.txn,jA3]
 have e2:(hs1 V t 1 1 0 k ByteArray.empty).refuse1 t 1 k v=0:=by
  unfold AShard.refuse1
  rw [if_neg ht,if_neg oE,e1,if_neg sE,if_neg sE,if_neg sE]
 have e3:(hs1 V t 1 1 0 k ByteArray.empty).refuse t 1 k v=0:=by
  unfold AShard.refuse
  rw [if_pos e2]
  unfold AShard.refuse2
  rw [if_neg (by simp [jA3])]
 unfold AShard.operate
 rw [if_pos e3,if_neg (by simp [AShard.clash,jE0]),e1]
 unfold AShard.take
 rw [if_pos (by simp [AGrip.writes])]
 simp [jAb,jAi]
theorem jI3 (way:Nat):(hs1 V t st d way k v).txn t=⟨st,d,0⟩:=by simp [AShard.txn,jA3]
theorem jHt (way:Nat):(hs1 V t st d way k v).forget t=rs V:=by
 simp [AShard.forget,AShard.release,jAi,jFp,AShard.txn,jA3]
theorem jQt:(hs1 V t 1 1 0 k v).vote t=(rs V,4):=by
 unfold AShard.vote
 rw [jI3,if_neg sE,if_pos rfl,if_neg (by simp [AShard.wr,AGrip.writes]),jHt]
theorem jOw:(hs1 V t 1 d 1 k v).vote t=(hs1 V t 3 0 1 k v,2):=by
 unfold AShard.vote
 rw [jI3,if_neg sE,if_pos rfl,if_pos (by simp [AShard.wr,AGrip.writes])]
 simp [jAb,jAi]
theorem jKh:(hs1 V t 3 0 1 k v).commE t=0:=by
 unfold AShard.commE
 rw [jI3,if_pos (.inr rfl)]
theorem jR5:(hs1 V t 3 0 1 k v).commS t=rs (jAb V k v):=by
 unfold AShard.commS
 rw [jI3,if_pos rfl]
 unfold AShard.comm
 simp [appl]
 exact jHt (jAb V k v) t 3 0 k v 1
theorem jEb (i:Nat):jC2 i (hs1 V t 1 1 0 k v) [] ⟨1,0,i,t⟩=(rs V,[⟨4,i,0,t⟩]):=by
 unfold jC2
 rw [if_pos rfl,jQt]
 rfl
theorem jC7 (i:Nat):jC2 i (hs1 V t 1 d 1 k v) [] ⟨1,0,i,t⟩=(hs1 V t 3 0 1 k v,[⟨2,i,0,t⟩]):=by
 unfold jC2
 rw [if_pos rfl,jOw]
 rfl
theorem jGp (i:Nat):jC2 i (hs1 V t 3 0 1 k v) [] ⟨5,0,i,t⟩=(rs (jAb V k v),[⟨7,i,0,t⟩]):=by
 unfold jC2
 rw [if_neg sE,if_pos rfl,jR5]
 rfl
end
abbrev c1s (t st:Nat) (ps:List Nat) (nx lm:Nat) (r:List (Nat × Nat)) (o:List (Nat × Nat × Nat)):ACo:=⟨[(t,⟨st,ps,0⟩)],nx,lm,0,r,o⟩
abbrev c0s (nx lm:Nat) (r:List (Nat × Nat)) (o:List (Nat × Nat × Nat)):ACo:=⟨[],nx,lm,0,r,o⟩
section
variable (t st nx lm k v:Nat) (ps:List Nat) (r:List (Nat × Nat)) (o:List (Nat × Nat × Nat))
theorem jRp:(c1s t st ps nx lm r o).tx t=⟨st,ps,0⟩:=by simp [ACo.tx,jA3]
theorem jGc {u:Nat} (h:u≠t):((c1s t st ps nx lm r o).tx u).state=0:=by
 have:jA3 [(t,(⟨st,ps,0⟩:ATx))] u=none:=by simp [jA3];omega
 unfold ACo.tx
 rw [this]
 rfl
theorem jSt (u:Nat):((c0s nx lm r o).tx u).state=0:=rfl
theorem jMv:(c0s nx lm [] []).begun=(c1s nx 4 jBl (nx+1) (if nx=lm then lm+16 else lm) [] [],nx,0):=by
 simp [ACo.begun,jAb,jAi]
theorem jI1 (zs:List Int) (hr:jDx 0 zs=true):(c1s t 4 jBl nx lm [] []).commE t zs=0∧(c1s t 4 jBl nx lm [] []).commS t zs=c1s t 5 (jA9 (zs.map Int.toNat) 1) nx lm [] ((jB9 isAw (jA9 (zs.map Int.toNat) 1)).map λk=>(t,k,1)):=by
 unfold ACo.commE ACo.commS
 rw [jRp]
 simp [hr,ACo.asked,jAb,jAi]
theorem jWi (h1:ps.getD k 0=1) (hv:v≠3) (ha:(ps.set k v).any isAw=true):(c1s t 5 ps nx lm r o).voted t k v=c1s t 5 (ps.set k v) nx lm r o:=by
 unfold ACo.voted
 rw [jRp,if_neg (by simp only [];rw [h1];simp),if_neg hv]
 simp only []
 rw [if_pos ha]
 simp [jAb,jAi]
theorem jPp (h1:ps.getD k 0=1) (hv:v≠3) (ha:(ps.set k v).any isAw=false) (hy:(ps.set k v).any hasY=true):(c1s t 5 ps nx lm r o).voted t k v=c1s t 6 (ps.set k v) nx lm (r++[(t,5)]) (o++(jB9 jDf (ps.set k v)).map λk=>(t,k,5)):=by
 unfold ACo.voted
 rw [jRp,if_neg (by simp only [];rw [h1];simp),if_neg hv]
 simp only []
 rw [if_neg (by rw [ha];simp),if_pos hy]
 simp [ACo.comm,jAb,jAi]
theorem jWx (h1:ps.getD k 0=2) (ha:(ps.set k 5).any jDf=false):(c1s t 6 ps nx lm r o).doneS t k=c0s nx lm r o:=by
 unfold ACo.doneS
 rw [jRp,if_neg (by simp only [];rw [h1];simp)]
 simp only []
 rw [if_neg (by rw [ha];simp)]
 simp [jAi]
end
structure Two (a b va vb s:Nat):Prop where
 rise:jDx 0 [(a:Int),(b:Int)]=true
 aw:jB9 isAw (jA9 [a,b] 1)=[a,b]
 g1:(jA9 [a,b] 1).getD a 0=1
 w1:((jA9 [a,b] 1).set a va).any isAw=true
 g2:((jA9 [a,b] 1).set a va).getD b 0=1
 w2:(((jA9 [a,b] 1).set a va).set b vb).any isAw=false
 y2:(((jA9 [a,b] 1).set a va).set b vb).any hasY=true
 tc:jB9 jDf (((jA9 [a,b] 1).set a va).set b vb)=[s]
 g3:(((jA9 [a,b] 1).set a va).set b vb).getD s 0=2
 dn:((((jA9 [a,b] 1).set a va).set b vb).set s 5).any jDf=false
structure One1 (s:Nat):Prop where
 rise:jDx 0 [(s:Int)]=true
 aw:jB9 isAw (jA9 [s] 1)=[s]
 g1:(jA9 [s] 1).getD s 0=1
 w2:((jA9 [s] 1).set s 2).any isAw=false
 y2:((jA9 [s] 1).set s 2).any hasY=true
 tc:jB9 jDf ((jA9 [s] 1).set s 2)=[s]
 g3:((jA9 [s] 1).set s 2).getD s 0=2
 dn:(((jA9 [s] 1).set s 2).set s 5).any jDf=false
theorem jR6 {s:Nat} (h:1≤s∧s≤4):One1 s:=by
 rcases (by omega:s=1∨s=2∨s=3∨s=4) with rfl | rfl | rfl | rfl <;> constructor <;> decide
theorem jQk {a b:Nat} (h:1≤a∧a<b∧b≤4):Two a b 2 4 a:=by
 rcases (by omega:(a=1∧b=2)∨(a=1∧b=3)∨(a=1∧b=4)∨(a=2∧b=3)∨(a=2∧b=4)∨(a=3∧b=4)) with ⟨rfl,rfl⟩ | ⟨rfl,rfl⟩ | ⟨rfl,rfl⟩ | ⟨rfl,rfl⟩ | ⟨rfl,rfl⟩ | ⟨rfl,rfl⟩ <;> constructor <;> decide
theorem jUp {a b:Nat} (h:1≤a∧a<b∧b≤4):Two a b 4 2 b:=by
 rcases (by omega:(a=1∧b=2)∨(a=1∧b=3)∨(a=1∧b=4)∨(a=2∧b=3)∨(a=2∧b=4)∨(a=3∧b=4)) with ⟨rfl,rfl⟩ | ⟨rfl,rfl⟩ | ⟨rfl,rfl⟩ | ⟨rfl,rfl⟩ | ⟨rfl,rfl⟩ | ⟨rfl,rfl⟩ <;> constructor <;> decide
section
variable {α β:Type} {f:α→List β} {l:List α} {i j:Nat} {y z:α}
theorem jG2 (h:∀ x∈l,f x=[]):l.flatMap f=[]:=by
 rw [List.flatMap_eq_nil_iff]
 exact h
theorem jMw (h:∀ x∈l,f x=[]) (hi:i<l.length):(l.set i y).flatMap f=f y:=by
 rw [List.set_eq_take_append_cons_drop,if_pos hi,List.flatMap_append,List.flatMap_cons,jG2 (λx hx=>h x (List.mem_of_mem_take hx)),jG2 (λx hx=>h x (List.mem_of_mem_drop hx))]
 simp
theorem jTt (h:∀ x∈l,f x=[]) (hij:i<j) (hj:j<l.length):((l.set i y).set j z).flatMap f=f y++f z:=by
 rw [List.set_eq_take_append_cons_drop,if_pos (by rw [List.length_set];exact hj),List.flatMap_append,List.flatMap_cons,List.take_set,jMw (λx hx=>h x (List.mem_of_mem_take hx)) (by rw [List.length_take];omega),List.drop_set,if_pos oE,jG2 (λx hx=>h x (List.mem_of_mem_drop hx))]
 simp
end
theorem jO0 (A:ANet) (m:Nat) (hm:m≤A.ss.length):A.sends (m+1)={ A with bag:=A.bag++(A.co++jBb A.c.out)++(A.ss.take m).flatMap (·.2),c:={ A.c with out:=[] },co:=[],ss:=(A.ss.take m).map (λs=>(s.1,[]))++A.ss.drop m }:=by
 induction m with
 | zero=>simp [ANet.sends,ANet.send]
 | succ m ih =>
  show (A.sends (m+1)).send (m+1)=_
  rw [ih oE]
  have hl:m<A.ss.length:=hm
  have e:((A.ss.take m).map (λs=>(s.1,([]:List Msg)))++A.ss.drop m)[m]?=some A.ss[m]:=by
   rw [List.getElem?_append_right (by simp;omega)]
   simp
   rw [show min m A.ss.length=m by omega]
   simp [List.getElem?_eq_getElem hl]
  simp only [ANet.send]
  rw [e]
  simp only []
  congr 1
  ·rw [List.take_add_one,List.flatMap_append,List.getElem?_eq_getElem hl]
   simp
  ·rw [List.set_append_right _ _ (by simp;omega),List.take_add_one,List.map_append,List.getElem?_eq_getElem hl]
   simp only [List.length_map,List.length_take]
   have hd:(A.ss.drop m).set 0 (A.ss[m].1,[])=(A.ss[m].1,[]) :: A.ss.drop (m+1):=by rw [List.drop_eq_getElem_cons hl];rfl
   rw [show m - min m A.ss.length=0 by omega,hd]
   simp
theorem jD0 (A:ANet):A.sends (A.ss.length+1)={ A with bag:=A.bag++(A.co++jBb A.c.out)++A.ss.flatMap (·.2),c:={ A.c with out:=[] },co:=[],ss:=A.ss.map (λs=>(s.1,[])) }:=by
 rw [jO0 A _ (Nat.le_refl _)]
 simp
theorem jGr {ds:List ADeal} {ord:List Nat} {y:Nat × ByteArray × ByteArray} (d:ADeal) (h:jC5 ds ord y=true):jC5 (ds++[d]) ord y=true:=by
 unfold jC5 at *
 rw [List.any_eq_true] at *
 obtain ⟨j,hj,hw⟩:=h
 refine ⟨j,hj,?_⟩
 unfold wrote at *
 cases e:ds[j]? with
 | none=>rw [e] at hw;cases hw
 | some x=>rw [List.getElem?_append_left (List.getElem?_eq_some_iff.1 e).1,e];rw [e] at hw;exact hw
theorem jGh {ds:List ADeal} {ord:List Nat} {y:Nat × ByteArray × ByteArray} (k:Nat) (h:jC5 ds ord y=true):jC5 ds (ord++[k]) y=true:=by
 unfold jC5 at *
 rw [List.any_append,h]
 rfl
theorem jRe {ds:List ADeal} {ord:List Nat} {y:Nat × ByteArray × ByteArray} {k:Nat} {x x':ADeal} (hx:ds[k]?=some x) (hw:x'.writes=x.writes) (h:jC5 ds ord y=true):jC5 (ds.set k x') ord y=true:=by
 unfold jC5 at *
 rw [List.any_eq_true] at *
 obtain ⟨j,hj,hy⟩:=h
 refine ⟨j,hj,?_⟩
 unfold wrote at *
 by_cases e:k=j
 ·subst e
  rw [List.getElem?_set_self (List.getElem?_eq_some_iff.1 hx).1]
  rw [hx] at hy
  simp only [hw]
  exact hy
 ·rw [List.getElem?_set_ne e]
  exact hy
structure Nice (ds:List ADeal) (ord:List Nat) (Vs:List (List (ByteArray × ByteArray))):Prop where
 ids:Ids ds
 wrs:Wrs ds
 len:ds.length≤1000∧ord.length≤1000
 vls:∀ V∈Vs,V.length≤1000
 kno:∀ j V,Vs[j]?=some V→∀ y∈V,jC5 ds ord (j+1,y.1,y.2)=true
def Tabs (ss:List (AShard × List Msg)) (Vs:List (List (ByteArray × ByteArray))):Prop:=∀ (j:Nat) (s:AShard × List Msg),ss[j]?=some s→Vs[j]?=some s.1.vals
theorem jAv {A:ANet} {Vs:List (List (ByteArray × ByteArray))} (h:Nice A.ds A.ord Vs) (ht:Tabs A.ss Vs) (hr:A.c.res=[]) (hs:∀ x∈A.ds,(A.c.tx x.id).state=6→x.what=5):Looks A A where
 ok:=⟨by rw [hr];exact .nil _ _,h.ids,hs,λi s hi y hy=>h.kno i _ (ht i s hi) y hy⟩
 eq:=by rw [← hr]
 len:=by rw [hr];have:=h.len;simp;omega
 wrs:=h.wrs
 vls:=λi s hi=>by have:=h.vls _ (List.mem_of_getElem? (ht i s hi));omega
theorem jFg {A:ANet} {Vs:List (List (ByteArray × ByteArray))} {k t:Nat} {x:ADeal} (h:Nice A.ds A.ord Vs) (ht:Tabs A.ss Vs) (hr:A.c.res=[(t,5)]) (hx:A.ds[k]?=some x) (hid:x.id=t) (h0:x.what=0) (ha:x.asked=true) (hs:∀ y∈A.ds,(A.c.tx y.id).state=6→y.what=5∨y.id=t) :
  Looks A { A with ds:=A.ds.set k { x with what:=5 },ord:=A.ord++[k],c:={ A.c with res:=[] } }:=by
 have e1:jD8 A.ds k 5=A.ds.set k { x with what:=5 }:=by unfold jD8;rw [hx];simp [h0]
 have e2:jDw A.ds A.ord k 5=A.ord++[k]:=by unfold jDw;rw [hx];simp [h0]
 refine ⟨⟨?_,h.ids,λy hy hy6=>?_,λi s hi y hy=>jGh k (jRe hx rfl (h.kno i _ (ht i s hi) y hy))⟩,rfl,by rw [hr];have:=h.len;simp;omega,h.wrs,λi s hi=>by have:=h.vls _ (List.mem_of_getElem? (ht i s hi));omega⟩
 ·rw [hr]
  exact .cons hx hid (.inl h0) (.inl ⟨rfl,ha⟩) (by rw [e1,e2];exact .nil _ _)
 ·obtain ⟨j,hj⟩:=List.getElem?_of_mem hy
  by_cases e:k=j
  ·subst e
   rw [List.getElem?_set_self (List.getElem?_eq_some_iff.1 hx).1] at hj
   cases hj
   rfl
  ·rw [List.getElem?_set_ne e] at hj
   rcases hs y (List.mem_of_getElem? hj) hy6 with e2 | e2
   ·exact e2
   ·exact absurd (h.ids k j x y hx hj (by rw [hid,e2])) e
theorem jDa {k d t:Nat} (hk:k=1∨k=5) (hd:1≤d∧d≤8) (ht:t≠0∧t<18446744073709551616):(⟨k,0,d,t⟩:Msg).Ok:=⟨by simp [jEq];omega,ht.2⟩
theorem jH9 {k s t:Nat} (hk:k=2∨k=4∨k=7) (hs:1≤s∧s≤8) (ht:t≠0∧t<18446744073709551616):(⟨k,s,0,t⟩:Msg).Ok:=⟨by simp [jEq];omega,ht.2⟩
def Mute (ss:List (AShard × List Msg)):Prop:=∀ x∈ss,x.2=[]
theorem Mute.clr {ss:List (AShard × List Msg)} (h:Mute ss):ss.map (λs=>(s.1,([]:List Msg)))=ss:=by
 conv=>rhs;rw [← List.map_id ss]
 exact List.map_congr_left (λx hx=>by rw [← h x hx];rfl)
theorem Mute.flat {ss:List (AShard × List Msg)} (h:Mute ss):ss.flatMap (·.2)=[]:=jG2 h
theorem Mute.outs {ss:List (AShard × List Msg)} (h:Mute ss):∀ (i:Nat) (s:AShard × List Msg),ss[i]?=some s→∀ x∈s.2,x.Ok:=λi s hs x hx=>by rw [h s (List.mem_of_getElem? hs)] at hx;cases hx
theorem jJt {A:ANet} (hb:A.bag=[]) (hc:A.co=[]) (ho:A.c.out=[]) (hm:Mute A.ss):Wave A A 0:=by
 have e:A.sends (A.ss.length+1)=A:=by
  rw [jD0,hb,hc,ho,hm.clr,hm.flat]
  obtain ⟨ds,ord,bag,⟨tx,nx,lm,tk,rs,out⟩,co,ss⟩:=A
  simp at hb hc ho
  subst hb hc ho
  rfl
 refine ⟨⟨by rw [hc,ho];simp [jBb],hm.outs⟩,hb,by rw [e,hb];rfl,?_⟩
 rw [e,hb]
 have e2:({ A with bag:=[] }:ANet)=A:=by rw [← hb]
 rw [e2]
 exact .nil A
theorem jRv {ss:List (AShard × List Msg)} {i:Nat} {y:AShard × List Msg} (hm:Mute ss) (hi:i<ss.length):(ss.set i y).flatMap (·.2)=y.2:=jMw hm hi
theorem jRb {ss:List (AShard × List Msg)} {i:Nat} {y:AShard × List Msg} (hm:Mute ss):(ss.set i y).map (λs=>(s.1,([]:List Msg)))=ss.set i (y.1,[]):=by
 rw [List.map_set,hm.clr]
theorem Mute.set {ss:List (AShard × List Msg)} {i:Nat} {y:AShard} (hm:Mute ss):Mute (ss.set i (y,[])):=λx hx=>by
 rcases List.mem_or_eq_of_mem_set hx with e | e
 ·exact hm x e
 ·rw [e]
theorem Tabs.set {ss:List (AShard × List Msg)} {Vs:List (List (ByteArray × ByteArray))} {i:Nat} {y:AShard × List Msg} (h:Tabs ss Vs) (hl:Vs.length=ss.length):Tabs (ss.set i y) (Vs.set i y.1.vals):=λj s hj=>by
 by_cases e:i=j
 ·subst e
  have hi:i<ss.length:=by have:=(List.getElem?_eq_some_iff.1 hj).1;simpa using this
  rw [List.getElem?_set_self hi] at hj
  cases hj
  rw [List.getElem?_set_self oE]
 ·rw [List.getElem?_set_ne e] at hj
  rw [List.getElem?_set_ne e]
  exact h j s hj
theorem Tabs.same {ss:List (AShard × List Msg)} {Vs:List (List (ByteArray × ByteArray))} {i:Nat} {x y:AShard × List Msg} (h:Tabs ss Vs) (hx:ss[i]?=some x) (hv:y.1.vals=x.1.vals):Tabs (ss.set i y) Vs:=λj s hj=>by
 by_cases e:i=j
 ·subst e
  rw [List.getElem?_set_self (List.getElem?_eq_some_iff.1 hx).1] at hj
  cases hj
  rw [hv]
  exact h i x hx
 ·rw [List.getElem?_set_ne e] at hj
  exact h j s hj
section
variable {ds:List ADeal} {ord:List Nat} {SS:List (AShard × List Msg)} {Vs:List (List (ByteArray × ByteArray))} {t nx lm s:Nat} {ps:List Nat} {V:List (ByteArray × ByteArray)} {k v:ByteArray}
theorem jYa (hm:Mute SS) (hs:1≤s∧s≤4) (ht:t≠0∧t<18446744073709551616) (hx:SS[s - 1]?=some (hs1 V t 3 0 1 k v,[])) (hT:Tabs SS Vs) (hl:Vs.length=SS.length) (g3:ps.getD s 0=2) (dn:(ps.set s 5).any jDf=false)
  (hN:Nice ds ord (Vs.set (s - 1) (jAb V k v))) (hst:∀ x∈ds,x.id=t→x.what=5) :
  Waves 4 ⟨ds,ord,[],c1s t 6 ps nx lm [] [(t,s,5)],[],SS⟩ ⟨ds,ord,[],c0s nx lm [] [],[],SS.set (s - 1) (rs (jAb V k v),[])⟩ 2:=by
 have hsl:=(List.getElem?_eq_some_iff.1 hx).1
 have es:s=(s - 1)+1:=by omega
 have hT':∀ o,Tabs (SS.set (s - 1) (rs (jAb V k v),o)) (Vs.set (s - 1) (jAb V k v)):=λo=>Tabs.set (y:=(rs (jAb V k v),o)) hT hl
 have hsts:∀ (st:Nat),∀ x∈ds,((c1s t st ps nx lm [] []).tx x.id).state=6→x.what=5:=λst x hxd h6=>by
  by_cases e:x.id=t
  ·exact hst x hxd e
  ·rw [jGc _ _ _ _ _ _ _ e] at h6
   cases h6
 -- the wave of Commit
 have w1:Wave ⟨ds,ord,[],c1s t 6 ps nx lm [] [(t,s,5)],[],SS⟩ ⟨ds,ord,[],c1s t 6 ps nx lm [] [],[],SS.set (s - 1) (rs (jAb V k v),[⟨7,s,0,t⟩])⟩ 1:=by
  have e:(⟨ds,ord,[],c1s t 6 ps nx lm [] [(t,s,5)],[],SS⟩:ANet).sends (SS.length+1)=⟨ds,ord,[⟨5,0,s,t⟩],c1s t 6 ps nx lm [] [],[],SS⟩:=by
   rw [jD0]
   simp only [hm.clr,hm.flat]
   rfl
  refine ⟨⟨λx hx=>?_,hm.outs⟩,rfl,?_,?_⟩
  ·simp [jBb] at hx
   subst hx
   exact jDa (.inr rfl) ⟨hs.1,by omega⟩ ht
  ·show 1=(ANet.sends _ (SS.length+1)).bag.length
   rw [e]
   rfl
  ·show Dels (ANet.sends _ (SS.length+1)).bag { ANet.sends _ (SS.length+1) with bag:=[] } _
   rw [e]
   have er:(⟨ds,ord,[],c1s t 6 ps nx lm [] [],[],SS⟩:ANet).recv ⟨5,0,s,t⟩=⟨ds,ord,[],c1s t 6 ps nx lm [] [],[],SS.set (s - 1) (rs (jAb V k v),[⟨7,s,0,t⟩])⟩:=by
    unfold ANet.recv
    simp only []
    rw [es]
    simp only [Nat.add_sub_cancel]
    rw [hx]
    simp only []
    rw [← es,jGp]
   refine .cons (A1:=⟨ds,ord,[],c1s t 6 ps nx lm [] [],[],SS.set (s - 1) (rs (jAb V k v),[⟨7,s,0,t⟩])⟩) ⟨jDa (.inr rfl) ⟨hs.1,by omega⟩ ht,by simp;omega,λe=>by simp at e;omega,λ_=>.inr (.inl rfl),λi s' hi hs' _=>?_⟩ ?_ (.nil _)
   ·simp at hi hs'
    rw [show s - 1=i by omega] at hx
    rw [hx] at hs'
    cases hs'
    exact jKh V t k v
   ·rw [er]
    exact jAv hN (hT' _) rfl (hsts 6)
 have w2:Wave ⟨ds,ord,[],c1s t 6 ps nx lm [] [],[],SS.set (s - 1) (rs (jAb V k v),[⟨7,s,0,t⟩])⟩ ⟨ds,ord,[],c0s nx lm [] [],[],SS.set (s - 1) (rs (jAb V k v),[])⟩ 1:=by
  have e:(⟨ds,ord,[],c1s t 6 ps nx lm [] [],[],SS.set (s - 1) (rs (jAb V k v),[⟨7,s,0,t⟩])⟩:ANet).sends ((SS.set (s - 1) (rs (jAb V k v),[⟨7,s,0,t⟩])).length+1)=⟨ds,ord,[⟨7,s,0,t⟩],c1s t 6 ps nx lm [] [],[],SS.set (s - 1) (rs (jAb V k v),[])⟩:=by
   rw [jD0]
   simp only [jRb hm,jRv hm hsl]
   rfl
  refine ⟨⟨λx hx=>?_,λi x hi y hy=>?_⟩,rfl,?_,?_⟩
  ·simp [jBb] at hx
  ·by_cases e2:s - 1=i
   ·subst e2
    rw [List.getElem?_set_self hsl] at hi
    cases hi
    simp at hy
    subst hy
    exact jH9 (.inr (.inr rfl)) ⟨hs.1,by omega⟩ ht
   ·rw [List.getElem?_set_ne e2] at hi
    exact hm.outs i x hi y hy
  ·show 1=(ANet.sends _ ((SS.set (s - 1) (rs (jAb V k v),[⟨7,s,0,t⟩])).length+1)).bag.length
   rw [e]
   rfl
  ·show Dels (ANet.sends _ ((SS.set (s - 1) (rs (jAb V k v),[⟨7,s,0,t⟩])).length+1)).bag { ANet.sends _ ((SS.set (s - 1) (rs (jAb V k v),[⟨7,s,0,t⟩])).length+1) with bag:=[] } _
   rw [e]
   have er:(⟨ds,ord,[],c1s t 6 ps nx lm [] [],[],SS.set (s - 1) (rs (jAb V k v),[])⟩:ANet).recv ⟨7,s,0,t⟩=⟨ds,ord,[],c0s nx lm [] [],[],SS.set (s - 1) (rs (jAb V k v),[])⟩:=by
    unfold ANet.recv
    simp only [jCk,if_true]
    rw [jWx t nx lm s ps [] [] g3 dn]
   refine .cons (A1:=⟨ds,ord,[],c0s nx lm [] [],[],SS.set (s - 1) (rs (jAb V k v),[])⟩) ⟨jH9 (.inr (.inr rfl)) ⟨hs.1,by omega⟩ ht,by simp,λ_=>.inr (.inr (.inr rfl)),λe=>absurd rfl e,λi s' hi _ _=>by simp at hi⟩ ?_ (.nil _)
   rw [er]
   exact jAv hN (hT' _) rfl (λx _ h6=>by rw [jSt] at h6;cases h6)
 have w3:Wave ⟨ds,ord,[],c0s nx lm [] [],[],SS.set (s - 1) (rs (jAb V k v),[])⟩ ⟨ds,ord,[],c0s nx lm [] [],[],SS.set (s - 1) (rs (jAb V k v),[])⟩ 0:=jJt rfl rfl rfl hm.set
 exact .cons w1 (.cons w2 (.cons w3 (.cons w3 (.nil _))))
end
end Go.Proofs.YtcalalndmcemiaaGreatDoor
