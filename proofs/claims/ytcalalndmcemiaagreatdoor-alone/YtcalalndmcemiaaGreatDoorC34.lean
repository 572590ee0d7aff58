import Derived.Test.YtcalalndmcemiaaGreatDoorC33
import Derived.ArgAppend
set_option maxRecDepth 100000
set_option maxHeartbeats 16000000
namespace Go.Proofs.YtcalalndmcemiaaGreatDoor
open Go.RowKit Go.Maps Go.Shelf
open Sc
inductive Resd:List (Nat × Nat)→List ADeal→List Nat→List ADeal→List Nat→Prop
 | nil (ds:List ADeal) (ord:List Nat):Resd [] ds ord ds ord
 | cons {t wh k:Nat} {x:ADeal} {r:List (Nat × Nat)} {ds ds':List ADeal} {ord ord':List Nat}:ds[k]?=some x→x.id=t→(x.what=0∨x.what=wh)→(wh=5∧x.asked=true∨wh=6)→Resd r (jD8 ds k wh) (jDw ds ord k wh) ds' ord'→Resd ((t,wh) :: r) ds ord ds' ord'
def Ids (ds:List ADeal):Prop:=∀ (i j:Nat) (x y:ADeal),ds[i]?=some x→ds[j]?=some y→x.id=y.id→i=j
theorem jEy {ds:List ADeal} {k wh i:Nat} {y:ADeal} (h:(jD8 ds k wh)[i]?=some y):∃ x,ds[i]?=some x∧y.id=x.id∧y.writes=x.writes∧y.asked=x.asked∧y.seq=x.seq∧y.lost=x.lost:=by
 unfold jD8 at h
 split at h
 ·exact ⟨y,h,rfl,rfl,rfl,rfl,rfl⟩
 ·rename_i x hx
  split at h
  ·by_cases e:k=i
   ·subst e
    rw [List.getElem?_set_self (List.getElem?_eq_some_iff.1 hx).1] at h
    cases h
    exact ⟨x,hx,rfl,rfl,rfl,rfl,rfl⟩
   ·rw [List.getElem?_set_ne e] at h
    exact ⟨y,h,rfl,rfl,rfl,rfl,rfl⟩
  ·exact ⟨y,h,rfl,rfl,rfl,rfl,rfl⟩
theorem jSh (ds:List ADeal) (k wh:Nat):(jD8 ds k wh).length=ds.length:=by
 unfold jD8
 split
 ·rfl
 ·split
  ·rw [List.length_set]
  ·rfl
theorem jQu (ds:List ADeal) (ord:List Nat) (k wh:Nat):(jDw ds ord k wh).length≤ord.length+1:=by
 unfold jDw
 split
 ·omega
 ·split
  ·simp
  ·omega
theorem Ids.seen {ds:List ADeal} (h:Ids ds) (k wh:Nat):Ids (jD8 ds k wh):=λi j x y hx hy e=>by
 obtain ⟨x',h1,h2,-⟩:=jEy hx
 obtain ⟨y',k1,k2,-⟩:=jEy hy
 exact h i j x' y' h1 k1 (by rw [← h2,← k2];exact e)
def Wrs (ds:List ADeal):Prop:=∀ x∈ds,x.writes.length≤60000000∧x.id<18446744073709551616
theorem Wrs.seen {ds:List ADeal} (h:Wrs ds) (k wh:Nat):Wrs (jD8 ds k wh):=λx hx=>by
 obtain ⟨i,hi⟩:=List.getElem?_of_mem hx
 obtain ⟨y,h1,h2,h3,-⟩:=jEy hi
 rw [h2,h3]
 exact h y (List.mem_of_getElem? h1)
structure LookOk (c:ACo) (ss:List (AShard × List Msg)) (ds:List ADeal) (ord:List Nat) (ds':List ADeal) (ord':List Nat):Prop where
 res:Resd c.res ds ord ds' ord'
 ids:Ids ds
 sts:∀ x∈ds',(c.tx x.id).state=6→x.what=5
 knows:∀ (i:Nat) (s:AShard × List Msg),ss[i]?=some s→∀ y∈s.1.vals,jC5 ds' ord' (i+1,y.1,y.2)=true
theorem jK1 {w:World} {b:Nat} {v:Value} {T:List (Nat × Nat)} (h:w.ownsRow b 157 2 v T.length (resV T)):∃ ao c,v=.slice ao T.length c∧(∀ i x,T[i]?=some x→∃ g,ao=some ⟨g,0,none⟩∧w.cell? ⟨g,i*2,none⟩=some (.int .u64 (x.1:Int))∧w.cell? ⟨g,i*2+1,none⟩=some (.int .i64 (x.2:Int))):=by
 rcases h.2 with ⟨e,h0⟩ | ⟨g,cap,cur,e,rest⟩
 ·refine ⟨none,0,by rw [e,h0],λi p hp=>?_⟩
  have:=(List.getElem?_eq_some_iff.1 hp).1
  omega
 ·refine ⟨some ⟨g,0,none⟩,cap,e,λi p hp=>⟨g,rfl,?_⟩⟩
  have key:=λj hj=>jFd (f:=resC) (k:=2) (λ_=>rfl) T i p hp j hj
  exact ⟨jB2 h e (key 0 dN),jB2 h e (key 1 dN)⟩
theorem jF4 {w:World} {b:Nat} {ao:Option Addr} {m c:Nat} {T:List (Nat × Nat)} {i:Nat} {x:Nat × Nat} (h:w.ownsRow b 157 2 (.slice ao m c) T.length (resV T)) (hj:T[i]?=some x):∃ g,ao=some ⟨g,0,none⟩∧w.cell? ⟨g,i*2,none⟩=some (.int .u64 (x.1:Int))∧w.cell? ⟨g,i*2+1,none⟩=some (.int .i64 (x.2:Int)):=by
 obtain ⟨ao',c',e,hc⟩:=jK1 h
 cases e
 exact hc i x hj
theorem jMp {w:World} {b:Nat} {v:Value} {T:List (ByteArray × ByteArray)} (h:w.ownsRow b 164 2 v T.length (jEd T)):∃ ao c,v=.slice ao T.length c∧(∀ i x,T[i]?=some x→∃ g,ao=some ⟨g,0,none⟩∧w.cell? ⟨g,i*2,none⟩=some (.string x.1)∧w.cell? ⟨g,i*2+1,none⟩=some (.string x.2)):=by
 rcases h.2 with ⟨e,h0⟩ | ⟨g,cap,cur,e,rest⟩
 ·refine ⟨none,0,by rw [e,h0],λi p hp=>?_⟩
  have:=(List.getElem?_eq_some_iff.1 hp).1
  omega
 ·refine ⟨some ⟨g,0,none⟩,cap,e,λi p hp=>⟨g,rfl,?_⟩⟩
  have key:=λj hj=>jFd (f:=jW3) (k:=2) (λ_=>rfl) T i p hp j hj
  exact ⟨jB2 h e (key 0 dN),jB2 h e (key 1 dN)⟩
theorem jSy {w:World} {b:Nat} {ao:Option Addr} {m c:Nat} {T:List (ByteArray × ByteArray)} {i:Nat} {x:ByteArray × ByteArray} (h:w.ownsRow b 164 2 (.slice ao m c) T.length (jEd T)) (hj:T[i]?=some x):∃ g,ao=some ⟨g,0,none⟩∧w.cell? ⟨g,i*2,none⟩=some (.string x.1)∧w.cell? ⟨g,i*2+1,none⟩=some (.string x.2):=by
 obtain ⟨ao',c',e,hc⟩:=jMp h
 cases e
 exact hc i x hj
def LookP (B np n K:Nat) (hv dv bv:Value) (fl:Bool) (hps:List Nat) (ps:List (Nat × Value × Value)) (ds':List ADeal) (bag:List Msg) (ord':List Nat) (c:ACo) (co:List Msg) (ss:List (AShard × List Msg)) (w w':World):Prop:=∃ ov' Ls',LawM w' B np hv dv bv ov' n fl hps ps ds' bag ord'∧Nds w' B hps { c with res:=[] } co ss K Ls'∧LgF B w w'
theorem jUf {L:List (ByteArray × ByteArray)} {y:ByteArray × ByteArray} (h:y∈jC3 L):y∈L:=by
 unfold jC3 at h
 obtain ⟨k,hk,rfl⟩:=List.mem_map.1 h
 obtain ⟨v,hv⟩:=jEs.1 hk
 cases e:jA3 L k with
 | none=>exact absurd rfl (jCy.1 e _ hv)
 | some u=>exact jAh e
section
variable (w:World) (B np n K:Nat) (hv dv bv ov:Value) (fl:Bool) (hps:List Nat) (ps:List (Nat × Value × Value)) (ds ds':List ADeal) (bag:List Msg) (ord ord':List Nat) (c:ACo) (co:List Msg) (ss:List (AShard × List Msg)) (Ls:List (List Nat))
theorem jTp (h:LawM w B np hv dv bv ov n fl hps ps ds bag ord) (hN:Nds w B hps c co ss K Ls) (hn:n=ss.length) (hok:LookOk c ss ds ord ds' ord') (hK:K≤300000) (hl:ord.length+c.res.length≤60000000) (hdl:ds.length≤60000000) (hwl:Wrs ds) (hsl:ss.length≤1000) (hvl:∀ (i:Nat) (s:AShard × List Msg),ss[i]?=some s→s.1.vals.length≤60000000) :
  Calls Tryz.prog 36 #[ptrV np] w λe w'=>e=.returned (.bool true)∧LookP B np n K hv dv bv fl hps ps ds' bag ord' c co ss w w':=by
 obtain ⟨hp0,L0,eh0,-,-⟩:=hN.co
 obtain ⟨ha,hc,ehv,hhc⟩:=jBg (f:=id) h.hs
 obtain ⟨da,dc,edv,-⟩:=jBg (f:=Prod.fst) h.dl
 have hNH:hps.length=n+1:=by have:=hN.len.1;omega
 obtain ⟨D,hD⟩:∃ x,x=ps.length:=⟨_,rfl⟩
 rw [← hD] at edv
 rw [hNH] at ehv
 subst ehv edv
 obtain ⟨gh,rfl,ch0⟩:=hhc 0 hp0 eh0
 have hRes:=jU9 hN eh0
 have cn0:=jA0 h.net 0
 simp at cn0 ch0
 have hnl:n≤1000:=by omega
 have hDl:D≤60000000:=by rw [hD,h.len];exact hdl
 have H0:=jA1 (And.intro h (And.intro hN (And.intro hok (And.intro hn (And.intro hl (And.intro hD (And.intro hwl (And.intro eh0 hNH))))))))
 have HV:=jA1 (show ∀ (i:Nat) (s:AShard × List Msg),ss[i]?=some s→s.1.vals.length≤60000000 from hvl)
 clear h hN hok hhc hn hl hdl hwl hsl eh0 hNH hD hvl
 go_enter Tryz.func36,Tryz.ntmps36
 go_wp2_with fail
 refine hRes.mono ?_
 clear hRes
 rintro e w1 ⟨v,rfl,hr1,⟨Ls1,hN1⟩,hf1,-⟩
 have hL1:=H0.out.1.nlf hf1
 obtain ⟨ra,rc,erv,-⟩:=jK1 hr1
 obtain ⟨M,hM⟩:∃ M,M=c.res.length:=⟨_,rfl⟩
 rw [← hM] at erv
 subst erv
 have hMl:M≤60000000:=by have:=H0.out.2.2.2.2.1;omega
 have H1:=jA1 (And.intro hL1 (And.intro hN1 (And.intro hf1 (And.intro hr1 hM))))
 clear hL1 hN1 hf1 hr1 hM cn0 ch0
 go_wp2_with fail
 go_loopw [4] (λi wr=>∃ q:Nat,q≤M∧i=.int .i64 (q:Int)∧Hid (∃ dsq ordq ovq,Resd (c.res.drop q) dsq ordq ds' ord'∧LawM wr B np (.slice (some ⟨gh,0,none⟩) (n+1) hc) (.slice da D dc) bv ovq n fl hps ps dsq bag ordq∧LwR B w1 wr∧ordq.length+(M - q)≤60000000∧Ids dsq∧Wrs dsq)) (λi _=>M - (intOf i).toNat)
 case atStart=>exact ⟨0,Nat.zero_le _,rfl,ds,ord,ov,H0.out.2.2.1.res,H1.out.1,LwR.new (Fr.refl [] _),by have:=H0.out.2.2.2.2.1;have:=H1.out.2.2.2.2;omega,H0.out.2.2.1.ids,H0.out.2.2.2.2.2.2.1⟩
 case round =>
  obtain ⟨q,hq,rfl,HI⟩:=hrel
  by_cases hlt:q<M
  ·obtain ⟨dsq,ordq,ovq,hRq,hLq,hWq,hoq,hIq,hwq⟩:=HI.out
   obtain ⟨⟨t,wh⟩,hx⟩:∃ x,c.res[q]?=some x:=⟨_,List.getElem?_eq_getElem (by rw [← H1.out.2.2.2.2];exact hlt)⟩
   have hcons:c.res.drop q=(t,wh) :: c.res.drop (q+1):=by
    have hl:=(List.getElem?_eq_some_iff.1 hx)
    rw [List.drop_eq_getElem_cons hl.1,hl.2]
   rw [hcons] at hRq
   obtain ⟨k0,x0,hx0,hid0,hwhat,hkind,hRn⟩:∃ k x,dsq[k]?=some x∧x.id=t∧(x.what=0∨x.what=wh)∧(wh=5∧x.asked=true∨wh=6)∧Resd (c.res.drop (q+1)) (jD8 dsq k wh) (jDw dsq ordq k wh) ds' ord':=by
    cases hRq
    exact ⟨_,_,by assumption,by assumption,by assumption,by assumption,by assumption⟩
   have hrr:=hWq.row H1.out.2.2.2.1 (by simp [LawTy])
   obtain ⟨gr,rfl,r0,r1⟩:=jF4 hrr hx
   have hk0:k0<D:=by rw [H0.out.2.2.2.2.2.1,hLq.len];exact (List.getElem?_eq_some_iff.1 hx0).1
   have i0:(0:Int)≤(q:Int):=by omega
   have i1:(q:Int)<(M:Int):=by omega
   have HR:=jA1 (And.intro hRn (And.intro hLq (And.intro hWq (And.intro hoq (And.intro hIq (And.intro hwq (And.intro hx0 (And.intro hid0 (And.intro hwhat (And.intro hkind (And.intro hrr hx)))))))))))
   clear HI hRq hRn hLq hWq hoq hIq hwq hx0 hid0 hwhat hkind hcons hx hrr r0 r1
   go_wp2_with fail
   go_loopw [5,6] (λf k wx=>∃ j:Nat,j≤D∧k=.int .i64 (j:Int)∧f=.bool (decide (k0<j))∧Hid (∃ ovk,LawM wx B np (.slice (some ⟨gh,0,none⟩) (n+1) hc) (.slice da D dc) bv ovk n fl hps ps (if k0<j then jD8 dsq k0 wh else dsq) bag (if k0<j then jDw dsq ordq k0 wh else ordq)∧LwR B wr wx)) (λ_ k _=>D - (intOf k).toNat)
   case atStart=>exact ⟨0,Nat.zero_le _,rfl,by simp,ovq,by simp;exact HR.out.2.1,LwR.new (Fr.refl [] _)⟩
   case round =>
    obtain ⟨j,hj,rfl,rfl,HJ⟩:=hrel
    obtain ⟨ovk,hLk,hWk⟩:=HJ.out
    have n1:=jA0 hLk.net 1
    simp at n1
    have m0:=(hWk.row HR.out.2.2.2.2.2.2.2.2.2.2.1 (by simp [LawTy]))
    by_cases hjt:j<D
    ·obtain ⟨⟨pp,sv,wv⟩,hp⟩:∃ p,ps[j]?=some p:=⟨_,List.getElem?_eq_getElem (by rw [← H0.out.2.2.2.2.2.1];exact hjt)⟩
     obtain ⟨g1,rfl,cd⟩:=jAj (f:=Prod.fst) hLk.dl hp
     simp at cd
     have j0:(0:Int)≤(j:Int):=by omega
     have j1:(j:Int)<(D:Int):=by omega
     obtain ⟨y,hy⟩:∃ y,(if k0<j then jD8 dsq k0 wh else dsq)[j]?=some y:=⟨_,List.getElem?_eq_getElem (by rw [← hLk.len,← H0.out.2.2.2.2.2.1];exact hjt)⟩
     have d0:=jA0 (hLk.each j _ y hp hy).blk 0
     obtain ⟨gr',egr,r0,r1⟩:=jF4 m0 HR.out.2.2.2.2.2.2.2.2.2.2.2
     cases egr
     simp at d0 r0 r1
     by_cases hjk:j=k0
     ·subst hjk
      rw [if_neg (Nat.lt_irrefl j)] at hLk hy
      rw [if_neg (Nat.lt_irrefl j)] at hLk
      have hyx:y=x0:=Option.some.inj (hy.symm.trans HR.out.2.2.2.2.2.2.1)
      subst hyx
      have hseen:∀ w',Fr [] wr w'→Calls Tryz.prog 74 #[ptrV np,ptrV pp,.int .i64 (wh:Int)] w' λe w3=>e=.returned (.bool true)∧∃ ov',LawM w3 B np (.slice (some ⟨gh,0,none⟩) (n+1) hc) (.slice (some ⟨g1,0,none⟩) D dc) bv ov' n fl hps ps (jD8 dsq j wh) bag (jDw dsq ordq j wh)∧LwR B wr w3:=λw' hw'=>by
       refine (jN1 w' B np n _ _ bv ovk fl hps ps dsq bag ordq j wh _ y (hLk.new hw') hp hy HR.out.2.2.2.2.2.2.2.2.1 (HR.out.2.2.2.2.2.2.2.2.2.1.elim (λe=>.inl e.1) .inr) (by have:=HR.out.2.2.2.1;omega)).mono ?_
       rintro e w3 ⟨rfl,ov',h3,h4⟩
       exact ⟨rfl,ov',h3,(LwR.new hw').trans h4⟩
      rw [HR.out.2.2.2.2.2.2.2.1] at d0
      have HP:=jA1 (And.intro hp (And.intro m0 hWk))
      have HS:=jA1 hseen
      have hnp:=(Array.getElem?_eq_some_iff.1 hLk.net).1
      have HL:=jA1 hLk
      clear hLk hWk hy m0 hseen HJ
      go_wp2_with fail
      go_quiet (fail)
      have hfq:Fr [] wr (wr.drewN nq):=jAk (Fr.refl [] wr) nq
      have hL2:=HL.out.new hfq
      have hm2:=(LwR.new (B:=B) hfq).row HP.out.2.1 (by simp [LawTy])
      generalize wr.drewN nq=W2 at hfq hL2 hm2 ⊢
      clear n1 d0 r0 r1 cd hnp
      have n1:=jA0 hL2.net 1
      obtain ⟨g1',eg1,cd⟩:=jAj (f:=Prod.fst) hL2.dl HP.out.1
      cases eg1
      obtain ⟨gr',egr,-,r1⟩:=jF4 hm2 HR.out.2.2.2.2.2.2.2.2.2.2.2
      cases egr
      simp at n1 cd r1
      have HF:=jA1 hfq
      clear hfq hL2 hm2
      go_wp2_with fail
      go_region_held3 (λw'=>w'.cell? ⟨np,1,none⟩=some (.slice (some ⟨g1,0,none⟩) D dc)∧w'.cell? ⟨g1,j,none⟩=some (ptrV pp)∧w'.cell? ⟨gr,q*2+1,none⟩=some (.int .i64 (wh:Int))) (simp [*])
       (first | (go_at_call 74;refine (HS.out _ (HF.out.trans (by first | exact jAk (Fr.refl [] W2) _ | exact (Fr.refl [] W2).drew | exact Fr.refl [] W2))).mono ?_;rintro e w3 ⟨rfl,ov3,hL3,hW3⟩;have n1:=jA0 hL3.net 1;(obtain ⟨g1',eg1,cd⟩:=jAj (f:=Prod.fst) hL3.dl HP.out.1);cases eg1;(obtain ⟨gr',egr,-,r1⟩:=jF4 (hW3.row HP.out.2.1 (by simp [LawTy])) HR.out.2.2.2.2.2.2.2.2.2.2.2);cases egr;simp at n1 cd r1;have H3:=jA1 (And.intro hL3 hW3);clear hL3 hW3))
      obtain ⟨y3,hy3⟩:∃ y3,(jD8 dsq j wh)[j]?=some y3:=⟨_,List.getElem?_eq_getElem (by rw [jSh];exact (List.getElem?_eq_some_iff.1 HR.out.2.2.2.2.2.2.1).1)⟩
      have a3:=jA0 (H3.out.1.each j _ y3 HP.out.1 hy3).blk 3
      have ha3:y3.asked=y.asked:=by
       obtain ⟨x',e1,-,-,e2,-⟩:=jEy hy3
       rw [HR.out.2.2.2.2.2.2.1] at e1
       cases e1
       exact e2
      simp at a3
      rw [ha3] at a3
      clear ha3 hy3
      rcases HR.out.2.2.2.2.2.2.2.2.2.1 with ⟨e5,e6⟩ | e6
      ·have i5:(wh:Int)=5:=by omega
       rw [e6] at a3
       rw [i5] at r1
       clear e5 e6 i5
       go_wp2_with fail
       go_roundw
       case rel=>exact ⟨j+1,by omega,by go_num,by simp,ov3,by rw [if_pos (Nat.lt_succ_self j),if_pos (Nat.lt_succ_self j)];exact H3.out.1,HP.out.2.2.trans H3.out.2⟩
       case measure=>simp [intOf];omega
      ·have i6:(wh:Int)=6:=by omega
       rw [i6] at r1
       clear e6 i6
       go_wp2_with fail
       go_roundw
       case rel=>exact ⟨j+1,by omega,by go_num,by simp,ov3,by rw [if_pos (Nat.lt_succ_self j),if_pos (Nat.lt_succ_self j)];exact H3.out.1,HP.out.2.2.trans H3.out.2⟩
       case measure=>simp [intOf];omega
     ·have hne:¬ (y.id:Int)=(t:Int):=by
       intro e
       apply hjk
       have e':y.id=t:=by omega
       have h8:=HR.out.2.2.2.2.1
       by_cases hkj:k0<j
       ·rw [if_pos hkj] at hy
        obtain ⟨x',e1,e2,-⟩:=jEy hy
        exact h8 j k0 x' x0 e1 HR.out.2.2.2.2.2.2.1 (by rw [← e2,e',HR.out.2.2.2.2.2.2.2.1])
       ·rw [if_neg hkj] at hy
        exact h8 j k0 y x0 hy HR.out.2.2.2.2.2.2.1 (by rw [e',HR.out.2.2.2.2.2.2.2.1])
      have hiff:(k0<j+1)↔(k0<j):=by omega
      have HX:=jA1 (And.intro hLk (And.intro hWk hiff))
      clear hLk hWk hy m0 HJ hjk hiff
      go_wp2_with fail
      go_quiet (fail)
      go_wp2_with fail
      go_roundw
      case rel=>exact ⟨j+1,by omega,by go_num,by rw [decide_eq_decide.2 HX.out.2.2],ovk,by simp only [HX.out.2.2];exact HX.out.1.new (jAk (Fr.refl [] _) _),HX.out.2.1.trans (LwR.new (jAk (Fr.refl [] _) _))⟩
      case measure=>simp [intOf];omega
    ·have j1:¬ (j:Int)<(D:Int):=by omega
     have hkj:k0<j:=by omega
     clear m0
     rw [decide_eq_true hkj]
     go_wp2
     go_roundw
     case rel =>
      rw [if_pos hkj,if_pos hkj] at hLk
      refine ⟨q+1,by omega,by go_num,_,_,ovk,HR.out.1,hLk,HR.out.2.2.1.trans hWk,?_,HR.out.2.2.2.2.1.seen _ _,HR.out.2.2.2.2.2.1.seen _ _⟩
      have:=jQu dsq ordq k0 wh
      have:=HR.out.2.2.2.1
      omega
     case measure=>simp [intOf];omega
  ·have i1:¬ (q:Int)<(M:Int):=by omega
   obtain ⟨dsq,ordq,ovq,hRq,hLq,hWq,hoq,hIq,hwq⟩:=HI.out
   have hdrop:c.res.drop q=[]:=List.drop_eq_nil_iff.2 (by rw [← H1.out.2.2.2.2];omega)
   rw [hdrop] at hRq
   cases hRq
   have cn0:=jA0 hLq.net 0
   simp at cn0
   obtain ⟨g2,eg2,ch0⟩:=jAj (f:=id) hLq.hs H0.out.2.2.2.2.2.2.2.1
   cases eg2
   have hN2:=hWq.nds H1.out.2.1
   have hIs:=kIs0 hN2 H0.out.2.2.2.2.2.2.2.1
   have H2:=jA1 (And.intro hLq (And.intro hWq (And.intro hwq hN2)))
   have HO:=jA1 (show ord'.length≤60000000 by omega)
   simp at ch0
   have i2:(0:Int)<(n:Int)+1:=by omega
   clear HI hdrop hLq hWq hoq hIq hwq hN2
   go_wp2_with fail
   refine hIs.mono ?_
   clear hIs
   rintro e w2 ⟨rfl,rfl⟩
   go_wp2_with fail
   clear cn0 ch0
   go_loopw [9] (λk wx=>∃ j:Nat,j≤D∧k=.int .i64 (j:Int)∧Hid (∃ ovk,LawM wx B np (.slice (some ⟨gh,0,none⟩) (n+1) hc) (.slice da D dc) bv ovk n fl hps ps ds' bag ord'∧LwR B w1 wx)) (λk _=>D - (intOf k).toNat)
   case atStart=>exact ⟨0,Nat.zero_le _,rfl,ovq,H2.out.1,H2.out.2.1⟩
   case round =>
    obtain ⟨j,hj,rfl,HJ⟩:=hrel
    obtain ⟨ovk,hLk,hWk⟩:=HJ.out
    have n1:=jA0 hLk.net 1
    have n0:=jA0 hLk.net 0
    obtain ⟨g2,eg2,ch0⟩:=jAj (f:=id) hLk.hs H0.out.2.2.2.2.2.2.2.1
    cases eg2
    simp at n0 n1 ch0
    have hNk:=hWk.nds H1.out.2.1
    by_cases hjt:j<D
    ·obtain ⟨⟨pp,sv,wv⟩,hp⟩:∃ p,ps[j]?=some p:=⟨_,List.getElem?_eq_getElem (by rw [← H0.out.2.2.2.2.2.1];exact hjt)⟩
     obtain ⟨g1,rfl,cd⟩:=jAj (f:=Prod.fst) hLk.dl hp
     obtain ⟨y,hy⟩:∃ y,ds'[j]?=some y:=⟨_,List.getElem?_eq_getElem (by rw [← hLk.len,← H0.out.2.2.2.2.2.1];exact hjt)⟩
     have d0:=jA0 (hLk.each j _ y hp hy).blk 0
     simp at cd d0
     have hyw:=H2.out.2.2.1 y (List.mem_of_getElem? hy)
     have hys:=H0.out.2.2.1.sts y (List.mem_of_getElem? hy)
     have j0:(0:Int)≤(j:Int):=by omega
     have j1:(j:Int)<(D:Int):=by omega
     have hst:∀ w',Fr [] wr w'→Calls Tryz.prog 75 #[.pointer (some ⟨hp0,0,none⟩),.int .u64 (y.id:Int)] w' λe w3=>e=.returned (.int .i64 ((c.tx y.id).state:Int))∧w3=w':=λw' hw'=>jWa (c:={ c with res:=[] }) (hNk.new hw') H0.out.2.2.2.2.2.2.2.1 hyw.2
     obtain ⟨st,hst0⟩:∃ st,st=(c.tx y.id).state:=⟨_,rfl⟩
     rw [← hst0] at hst hys
     have HS:=jA1 hst
     have HL:=jA1 (And.intro hLk (And.intro hWk (And.intro hp hy)))
     clear hLk hWk hNk HJ hst hst0 hp hy
     go_wp2_with fail
     go_region_held3 (λw'=>w'.cell? ⟨np,0,none⟩=some (.slice (some ⟨gh,0,none⟩) (n+1) hc)∧w'.cell? ⟨gh,0,none⟩=some (ptrV hp0)∧w'.cell? ⟨np,1,none⟩=some (.slice (some ⟨g1,0,none⟩) D dc)∧w'.cell? ⟨g1,j,none⟩=some (ptrV pp)∧w'.cell? ⟨pp,0,none⟩=some (.int .u64 (y.id:Int))) (simp [*])
      (first | (go_at_call 75;refine (HS.out _ (by first | exact jAk (Fr.refl [] wr) _ | exact (Fr.refl [] wr).drew | exact Fr.refl [] wr)).mono ?_;rintro e w3 ⟨rfl,rfl⟩))
     have hfq:Fr [] wr wr.drew:=(Fr.refl [] wr).drew
     have hL2:=HL.out.1.new hfq
     generalize wr.drew=W2 at hfq hL2 ⊢
     clear n0 n1 ch0 cd d0
     have n1:=jA0 hL2.net 1
     obtain ⟨g1',eg1,cd⟩:=jAj (f:=Prod.fst) hL2.dl HL.out.2.2.1
     cases eg1
     simp at n1 cd
     by_cases h6:st=6
     ·have h5:=hys h6
      have hse:=jN1 W2 B np n _ _ bv ovk fl hps ps ds' bag ord' j 5 _ y hL2 HL.out.2.2.1 HL.out.2.2.2 (.inr h5) (.inl rfl)
      have hsD:jD8 ds' j 5=ds'∧jDw ds' ord' j 5=ord':=by
       unfold jD8 jDw
       rw [HL.out.2.2.2]
       simp [h5]
      rw [hsD.1,hsD.2] at hse
      have hWW:=HL.out.2.1.trans (LwR.new (B:=B) hfq)
      have HW:=jA1 hWW
      have hse:=hse HO.out
      subst h6
      clear hfq hL2 hsD hys hWW
      go_wp2_with fail
      refine hse.mono ?_
      clear hse
      rintro e w4 ⟨rfl,ov4,hL4,hW4⟩
      have H4:=jA1 (And.intro hL4 (HW.out.trans hW4))
      clear hL4 hW4
      go_wp2_with fail
      go_roundw
      case rel=>exact ⟨j+1,by omega,by go_num,ov4,H4.out⟩
      case measure=>simp [intOf];omega
     ·have i6:¬ (st:Int)=6:=by omega
      have H4:=jA1 (And.intro hL2 (HL.out.2.1.trans (LwR.new (B:=B) hfq)))
      clear hfq hL2 hys
      go_wp2_with fail
      go_roundw
      case rel=>exact ⟨j+1,by omega,by go_num,ovk,H4.out⟩
      case measure=>simp [intOf];omega
    ·have j1:¬ (j:Int)<(D:Int):=by omega
     have H3:=jA1 (And.intro hLk (And.intro hWk hNk))
     clear hLk hWk hNk HJ
     go_wp2_with fail
     go_loopw [12] (λi wx=>∃ m:Nat,m≤n∧i=.int .i64 ((m:Int)+1)∧Hid (Fr [] wr wx)) (λi _=>n+1 - (intOf i).toNat)
     case atStart=>exact ⟨0,Nat.zero_le _,rfl,Fr.refl [] _⟩
     case round =>
      obtain ⟨m,hm,rfl,HM⟩:=hrel
      have hLm:=H3.out.1.new HM.out
      have hNm:=H3.out.2.2.new HM.out
      have n4:=jA0 hLm.net 4
      have n0:=jA0 hLm.net 0
      simp at n4 n0
      by_cases hmt:m<n
      ·obtain ⟨⟨sm,om⟩,hsm⟩:∃ x,ss[m]?=some x:=⟨_,List.getElem?_eq_getElem (by rw [← H0.out.2.2.2.1];exact hmt)⟩
       obtain ⟨hpm,Lm,ehm,-⟩:=hNm.sh m _ hsm
       obtain ⟨g2,eg2,chm⟩:=jAj (f:=id) hLm.hs ehm
       cases eg2
       simp at chm
       have hkn:=H0.out.2.2.1.knows m _ hsm
       have hPr:=jXj hNm hsm ehm hK
       have i0:(0:Int)≤(m:Int)+1:=by omega
       have i1:(m:Int)+1≤(n:Int):=by omega
       have i2:(m:Int)+1<(n:Int)+1:=by omega
       have i3:((m:Int)+1).toNat=m+1:=by omega
       have HP:=jA1 (And.intro hLm (And.intro hNm (And.intro hsm (And.intro ehm hkn))))
       clear hLm hNm hsm ehm hkn
       go_wp2_with fail
       refine hPr.mono ?_
       clear hPr
       rintro e w5 ⟨vp,rfl,hrp,hf5⟩
       obtain ⟨pa,pc,evp,-⟩:=jMp hrp
       obtain ⟨P,hP⟩:∃ P,P=(jC3 sm.vals).length:=⟨_,rfl⟩
       rw [← hP] at evp
       subst evp
       have hPl:P≤60000000:=by
        rw [hP]
        unfold jC3
        rw [List.length_map,jB5]
        exact HV.out _ _ HP.out.2.2.1
       have hL5:=HP.out.1.new hf5
       have hN5:=HP.out.2.1.new hf5
       have hIs:=kIs hN5 HP.out.2.2.1 HP.out.2.2.2.1
       clear n0 n4 chm
       have n0:=jA0 hL5.net 0
       obtain ⟨g2,eg2,chm⟩:=jAj (f:=id) hL5.hs HP.out.2.2.2.1
       cases eg2
       simp at n0 chm
       have H5:=jA1 (And.intro hL5 (And.intro hf5 (And.intro hrp hP)))
       clear hL5 hN5 hf5 hrp hP
       go_wp2_with fail
       refine hIs.mono ?_
       clear hIs
       rintro e w6 ⟨rfl,rfl⟩
       go_wp2_with fail
       go_loopw [15] (λk wx=>∃ r:Nat,r≤P∧k=.int .i64 (r:Int)∧Hid (Fr [] w6 wx)) (λk _=>P - (intOf k).toNat)
       case atStart=>exact ⟨0,Nat.zero_le _,rfl,Fr.refl [] _⟩
       case round =>
        obtain ⟨r,hr,rfl,HQ⟩:=hrel
        by_cases hrt:r<P
        ·obtain ⟨⟨k1,v1⟩,hkv⟩:∃ x,(jC3 sm.vals)[r]?=some x:=⟨_,List.getElem?_eq_getElem (by rw [← H5.out.2.2.2];exact hrt)⟩
         have hrow:=(LwR.new (B:=B) HQ.out).row H5.out.2.2.1 (by simp [LawTy])
         obtain ⟨g7,eg7,k0',v0⟩:=jSy hrow hkv
         subst eg7
         have hkn:=jQa wr B np n _ _ bv _ fl hps ps ds' bag ord' (m+1) k1 v1 (H5.out.1.new HQ.out) HO.out (λx hx=>(H2.out.2.2.1 x hx).1)
         rw [HP.out.2.2.2.2 _ (jUf (List.mem_of_getElem? hkv))] at hkn
         have i7:(((m+1:Nat):Int))=(m:Int)+1:=by omega
         rw [i7] at hkn
         have r0:(0:Int)≤(r:Int):=by omega
         have r1:(r:Int)<(P:Int):=by omega
         simp only [] at k0' v0
         clear hrow hkv i7
         go_wp2_with fail
         refine hkn.mono ?_
         clear hkn
         rintro e w7 ⟨rfl,hf7⟩
         have H7:=jA1 (HQ.out.trans hf7)
         clear hf7
         go_wp2_with fail
         go_roundw
         case rel=>exact ⟨r+1,by omega,by go_num,H7.out⟩
         case measure=>simp [intOf];omega
        ·have r1:¬ (r:Int)<(P:Int):=by omega
         go_wp2_with fail
         go_roundw
         case rel=>exact ⟨m+1,by omega,by go_num,HM.out.trans (H5.out.2.1.trans HQ.out)⟩
         case measure=>simp [intOf];omega
      ·have i1:¬ (m:Int)+1≤(n:Int):=by omega
       clear hLm hNm
       go_wp2
       go_ret
       exact ⟨rfl,ovk,Ls1,H3.out.1.new HM.out,H3.out.2.2.new HM.out,(H1.out.2.2.1.lg.trans (H3.out.2.1.lg H1.out.1.low.2)).trans ((LwR.new (B:=B) HM.out).lg H3.out.1.low.2)⟩
end
theorem Tryz.infoSg:(Tryz.prog.info? 9).map (λi=>(i.zero,i.size,i.bytes))=some (some (.string ByteArray.empty),1,16):=by kernel_rfl
theorem jR0 {w:World} {B B' n:Nat} {e:TypeId} {k:Nat} {v:Value} {xs:List Value} (h:w.ownsRow B' e k v n xs) (hB:B≤B'):w.ownsRow B e k v n xs:=by
 refine ⟨h.1,?_⟩
 rcases h.2 with e | ⟨g,cap,cur,a1,a2,a3⟩
 ·exact .inl e
 ·exact .inr ⟨g,cap,cur,a1,Nat.le_trans hB a2,a3⟩
theorem jNh (a b:List Msg):msgT (a++b)=msgT a++msgT b:=by simp [msgT]
structure BgP (w w':World) (B:Nat) (v v':Value) (bag:List Msg):Prop where
 row:w'.ownsRow B 9 1 v' bag.length (msgT bag)
 nil:bag=[]→v'=.slice none 0 0
 fr:∃ S,Fr S w w'∧LawS w S∧∀ k∈S,v.ownBlock=some k
 loc:∀ g,v'.ownBlock=some g→v.ownBlock=some g∨w.heap.size≤g
theorem jNr {w:World} {ops:Array Oper} {rest:List Oper} {o:Oper} {a:Act} {Q:Exit→Act→World→Prop} (hgd:o.guard=none) (s x:Operand)
  (ho:o.op=.call { callee:=.builtin .append,args:=#[s,x],argTypes:=#[35,35] }) (B b2:Nat) (v lv:Value) (bag l:List Msg)
  (hs:a.eval s=v) (hown:w.ownsRow B 9 1 v bag.length (msgT bag)) (h0:bag=[]→v=.slice none 0 0)
  (hx:a.eval x=lv) (hl:w.ownsRow b2 9 1 lv l.length (msgT l)) (hl0:l=[]→lv=.slice none 0 0) (hsz:bag.length+l.length≤60000000) (hB:B≤w.heap.size)
  (h:∀ v' w',BgP w w' B v v' (bag++l)→wpList Tryz.prog ops Q rest (a.put o.dst v') w'):wpList Tryz.prog ops Q (o :: rest) a w:=by
 obtain ⟨i0,hi,hz0,hz1,hz2⟩:=info_parts Tryz.infoSg
 by_cases hln:l=[]
 ·refine wpList_append_own_none hgd s x 35 ho B 9 i0 1 Tryz.underlying35 hi v bag.length _ hs hown (by rw [hx,hl0 hln]) (h v w ⟨?_,?_,⟨[],Fr.refl [] w,LawS.nil w,by simp⟩,λg hg=>.inl hg⟩)
  ·rw [hln,List.append_nil];exact hown
  ·rw [hln,List.append_nil];exact h0
 ·obtain ⟨lp,ll⟩:0<l.length∧True:=⟨List.length_pos_iff.2 hln,trivial⟩
  have hne:¬ bag++l=[]:=by simp [hln]
  rcases hl.2 with ⟨-,e⟩ | ⟨g2,c2,cur2,e2,-⟩
  ·omega
  ·have hsrc:∀ j u,(msgT l)[j]?=some u→w.cell? ((⟨g2,0,none⟩:Addr).add j)=some u:=by
    rw [e2] at hl
    exact hl.cells (g:=g2) rfl
   have hone:∀ u∈msgT l,u.oneCell'=true:=by
    intro u hu
    obtain ⟨x,-,rfl⟩:=List.mem_map.1 hu
    rfl
   have hln2:(msgT l).length=l.length*1:=by simp [msgT]
   obtain ⟨ao,c,ev,hcap⟩:∃ ao c,v=.slice ao bag.length c∧(ao=none→bag.length=0∧c=0):=by
    rcases hown.2 with ⟨e,h0⟩ | ⟨g,cap,cur,e,rest⟩
    ·exact ⟨none,0,by rw [e,h0],λ_=>⟨h0,rfl⟩⟩
    ·exact ⟨_,cap,e,nofun⟩
   by_cases hfull:c<bag.length+l.length
   ·refine wpList_append_grows w hgd s x 35 ho 9 i0 _ 1 16 Tryz.underlying35 hi hz0 hz1 hz2 rfl dN ao bag.length c (msgT bag) (by rw [hs,ev]) hcap hown.1 (λb hb j u hj=>?_) ⟨g2,0,none⟩ l.length c2 (msgT l) (by rw [hx,e2]) hln2 hsrc hone hfull (by unfold maxLen;omega) oE ?_
    ·subst hb
     rcases hown.2 with ⟨e,h0⟩ | ⟨g,cap,cur,e,rest⟩
     ·rw [ev] at e;cases e
     ·rw [ev] at e
      cases e
      rw [ev] at hown
      exact hown.cells (g:=g) rfl j u hj
    ·intro v' w' hr hg
     refine h v' w' ⟨?_,λe=>absurd e hne,⟨[],⟨hg.os,hg.tape,hg.output,hg.size,λk hk _=>hg.block k hk sE⟩,LawS.nil w,by simp⟩,λg hg'=>.inr (hr.lt g hg').1⟩
     rw [List.length_append,jNh]
     exact jR0 hr hB
   ·refine jBr hgd s x 35 ho B 9 i0 _ 1 16 Tryz.underlying35 hi hz0 hz1 hz2 rfl dN v bag.length _ hs hown l.length (msgT l) (.inl ⟨⟨g2,0,none⟩,c2,by rw [hx,e2],hsrc⟩) hln2 hone (by unfold maxLen;omega) oE hB ?_
    intro v' w' hr hg hat
    refine h v' w' ⟨by rw [List.length_append,jNh];exact hr,λe=>absurd e hne,⟨v.ownBlock.toList,Fr.of_grown hg,λk hk _=>?_,λk hk=>by simpa using hk⟩,λg hg'=>hat.elim (λe=>.inl (e▸hg')) (λe=>.inr (by rw [e] at hg';cases hg';exact Nat.le_refl _))⟩
    simp at hk
    rcases hown.2 with ⟨e,h0⟩ | ⟨g,cap,cur,e,-,hc,-,-,hcs,-⟩
    ·rw [e] at hk;cases hk
    ·have e':=e
     rw [ev] at e'
     cases e'
     rw [e] at hk
     cases hk
     refine ⟨cur,_,_,hc,by simp [jAd],λ_=>?_⟩
     rw [hcs]
     rcases Nat.eq_zero_or_pos bag.length with h9 | h9
     ·have:=h0 (List.length_eq_zero_iff.1 h9)
      rw [this] at e
      cases e
     ·omega
section
variable {w w' W0 w1:World} {B np n:Nat} {hv dv bv ov v':Value} {fl:Bool} {hps:List Nat} {ps:List (Nat × Value × Value)} {ds:List ADeal} {bag bag':List Msg} {ord:List Nat}
theorem LawM.bagOf (h:LawM w B np hv dv bv ov n fl hps ps ds bag ord) (hP:BgP w w1 B bv v' bag'):LawM (w1.setCell ⟨np,2,none⟩ v') B np hv dv v' ov n fl hps ps ds bag' ord∧∃ S,Fr S w (w1.setCell ⟨np,2,none⟩ v')∧LawS w S∧∀ k∈S,k=np∨bv.ownBlock=some k:=by
 obtain ⟨W,hW⟩:∃ W,W=w1.setCell ⟨np,2,none⟩ v':=⟨_,rfl⟩
 rw [← hW]
 obtain ⟨S,hS,hLS,hSb⟩:=hP.fr
 have hnl:=(Array.getElem?_eq_some_iff.1 h.net).1
 have nrow:bv.ownBlock≠some np:=jAe h.bg h.net dN
 have hb1:w1.heap[np]?=some (netO hv dv bv ov n fl):=(hS.block np hnl (λhm=>nrow (hSb np hm))).trans h.net
 have hfw:Fr [np] w1 W:=by rw [hW];exact Fr.set1 sE _ _
 have hf:Fr (np :: S) w W:=(hS.mono (λk _ hk=>List.mem_cons_of_mem np hk)).andThen (hfw.mono (λk _ hk=>by simp at hk;simp [hk])) (λj hj _=>hj)
 have keep:∀ (q:Nat) (c:Array Value) (t:TypeId),w.heap[q]?=some (.cells c t (0,0))→t≠37→t≠9→W.heap[q]?=some (.cells c t (0,0)):=λq c t hq h1 h2=>(hf.block q (Array.getElem?_eq_some_iff.1 hq).1 (λhm=>by
  rcases List.mem_cons.1 hm with e | e
  ·rw [e,h.net] at hq;cases hq;exact h1 rfl
  ·obtain ⟨c2,hc2⟩:=jA4 h.bg (hSb q e)
   rw [hq] at hc2
   cases hc2
   exact h2 rfl)).trans hq
 have row:∀ {b m j:Nat} {e:TypeId} {v:Value} {xs:List Value},w.ownsRow b e j v m xs→e≠37→e≠9→W.ownsRow b e j v m xs:=λ{b m j e v xs} hr h1 h2=>jAf hr (λg hg=>by
  obtain ⟨c,hc⟩:=jA4 hr hg
  exact (keep g c e hc h1 h2).trans hc.symm)
 refine ⟨⟨by rw [hW];have:=jA5 hb1 2 v';simp at this;exact this,⟨h.low.1,Nat.le_trans h.low.2 hf.size⟩,row h.hs dN dN,row h.dl dN dN,jA7 hP.row hfw (λg hg=>by simp;intro e;subst e;exact jAe hP.row hb1 dN hg),hP.nil,row h.od dN dN,h.odl,h.ap,h.len,λj p y hj hy=>?_,h.dis⟩,np :: S,hf,λk hk hl=>?_,λk hk=>?_⟩
 ·have hd:=h.each j p y hj hy
  exact ⟨keep _ _ _ hd.blk dN dN,hd.low,row hd.seq dN dN,row hd.wrs dN dN⟩
 ·rcases List.mem_cons.1 hk with e | e
  ·rw [e,h.net];exact ⟨_,_,_,rfl,by simp [jAd],λe=>absurd e dN⟩
  ·exact hLS k e hl
 ·rcases List.mem_cons.1 hk with e | e
  ·exact .inl e
  ·exact .inr (hSb k e)
theorem BgP.none (B:Nat) (w:World) (v:Value):BgP w w B v (.slice Option.none 0 0) []:=⟨World.ownsRow_nil w _ _ _,λ_=>rfl,⟨[],Fr.refl [] w,LawS.nil w,by simp⟩,nofun⟩
theorem LgF.turn {w0:World} {S:List Nat} (h:LgF B w0 w) (hf:Fr S w w') (hB:B≤w.heap.size) (hS:∀ k∈S,B≤k∧(w0.heap.size≤k∨∃ c t fr,w.heap[k]?=some (.cells c t fr)∧LawTy t)):LgF B w0 w':=by
 refine ⟨h.below.trans (hf.below hB (λk hk=>(hS k hk).1)),λk c t fr hk ht h2=>?_⟩
 have hw:=h.cells k c t fr hk ht h2
 refine (hf.block k (Array.getElem?_eq_some_iff.1 hw).1 (λhm=>?_)).trans hw
 rcases (hS k hm).2 with e | ⟨c',t',fr',e,e2⟩
 ·have:=(Array.getElem?_eq_some_iff.1 hk).1;omega
 ·rw [hw] at e
  cases e
  exact h2 e2
end
structure ANet where
 ds:List ADeal
 ord:List Nat
 bag:List Msg
 c:ACo
 co:List Msg
 ss:List (AShard × List Msg)
def ANet.recv (A:ANet) (x:Msg):ANet:=match x.dst with
 | 0=>{ A with c:=(jCk A.c A.co x).1,co:=(jCk A.c A.co x).2 }
 | i+1=>match A.ss[i]? with
  | none=>A
  | some s=>{ A with ss:=A.ss.set i (jC2 (i+1) s.1 s.2 x) }
structure ANet.Comes (A:ANet) (x:Msg):Prop where
 ok:x.Ok
 dst:x.dst≤A.ss.length
 co:x.dst=0→x.kind=2∨x.kind=3∨x.kind=4∨x.kind=7
 sh:x.dst≠0→x.kind=1∨x.kind=5∨x.kind=6
 won:∀ i s,x.dst=i+1→A.ss[i]?=some s→x.kind=5→s.1.commE x.txn=0
section
variable {w:World} {B np n K:Nat} {hv dv bv ov:Value} {fl:Bool} {hps:List Nat} {ps:List (Nat × Value × Value)} {A:ANet} {Ls:List (List Nat)} {hp:Nat}
theorem jYd (x:Msg) (h:Nds w B hps A.c A.co A.ss K Ls) (hx:A.Comes x) (hp0:hps[x.dst]?=some hp) (hB:2≤B) (hmet:Met w) (hpow:Pows w) (hK:K≤290000) :
  Calls Tryz.prog 72 #[.pointer (some ⟨hp,0,none⟩),.string (str x.bytes),jD1 (-1) (-1) 0 0] w λe w'=>e=.returned (.int .i64 0)∧NdP Ls B hps (A.recv x).c (A.recv x).co (A.recv x).ss (K+1) w w':=by
 cases e:x.dst with
 | zero =>
  have e2:A.recv x={ A with c:=(jCk A.c A.co x).1,co:=(jCk A.c A.co x).2 }:=by unfold ANet.recv;rw [e]
  rw [e2]
  exact jXg x h (by rw [← e];exact hp0) hx.ok e (hx.co e) hB hmet hpow hK
 | succ i =>
  have hi:i<A.ss.length:=by have:=hx.dst;omega
  have hs:A.ss[i]?=some A.ss[i]:=List.getElem?_eq_getElem hi
  have e2:A.recv x={ A with ss:=A.ss.set i (jC2 (i+1) A.ss[i].1 A.ss[i].2 x) }:=by unfold ANet.recv;rw [e];simp only [];rw [hs]
  rw [e2]
  exact kRecv x h hs (by rw [← e];exact hp0) hx.ok e (hx.sh oE) (hx.won i _ e hs) hB hmet hpow hK
theorem jLz (x:Msg) (h:LawM w B np hv dv bv ov n fl hps ps A.ds A.bag A.ord) (hN:Nds w B hps A.c A.co A.ss K Ls) (hn:n=A.ss.length) (hx:A.Comes x) (hB:2≤B) (hmet:Met w) (hpow:Pows w) (hK:K≤290000) :
  Calls Tryz.prog 35 #[ptrV np,.string (str x.bytes),jD1 (-1) (-1) 0 0] w λe w'=>e=.returned (.bool true)∧NdP Ls B hps (A.recv x).c (A.recv x).co (A.recv x).ss (K+1) w w':=by
 obtain ⟨ha,hc,ehv,-⟩:=jBg (f:=id) h.hs
 have hNH:hps.length=n+1:=by have:=hN.len.1;omega
 rw [hNH] at ehv
 subst ehv
 obtain ⟨W,hW⟩:∃ W,W=w.alloc (jDj (-1) (-1) 0 0):=⟨_,rfl⟩
 have hf0:Fr [] w W:=by rw [hW];exact (Fr.refl [] w).alloc _
 have hfa:W.heap[w.heap.size]?=some (jDj (-1) (-1) 0 0):=by rw [hW];exact heap_alloc_new w _
 have hrb:=jE3
 have hsz:(str x.bytes).size=15:=by rw [jB1];exact x.bytes_len
 obtain ⟨ca,hca⟩:∃ ca,ca=grownCap W 15 0 5:=⟨_,rfl⟩
 obtain ⟨W2,hW2⟩:∃ W2,W2=(W.alloc (strO (str x.bytes) ca)).drew:=⟨_,rfl⟩
 have hf2:Fr [] W W2:=by rw [hW2];exact ((Fr.refl [] W).alloc _).drew
 have hmet2:Met W2:=hmet.below ((hf0.trans hf2).below (Nat.le_refl _) sE) (by have:=h.low;omega)
 have hsrc:Src W2 (.slice (some ⟨W.heap.size,0,none⟩) 15 ca) x.bytes:=by
  have:=jS5 W (str x.bytes) (by rw [hsz];decide)
  rw [hsz,jCt hx.ok.byt,← hca] at this
  rw [hW2]
  exact this
 have hdec:=decP _ x.bytes W2 hsrc hx.ok.byt (by rw [x.bytes_len];decide) hmet2
 have hE:decE x.bytes=0:=by unfold decE;rw [hx.ok.dec.1];rfl
 rw [hx.ok.dec.2,hE] at hdec
 have hsm:=hx.ok.small
 have H0:=jA1 (And.intro h (And.intro hN (And.intro hn (And.intro hx (And.intro hmet (And.intro hpow (And.intro hNH (And.intro (hf0.trans hf2) (And.intro hf2 hfa)))))))))
 have hto:x.dst≤n:=by rw [hn];exact hx.dst
 clear h hN hn hx hmet hpow hNH hf0 hf2 hfa hmet2 hsrc hE
 have hWs:W.heap.size=w.heap.size+1:=by rw [hW];simp
 rw [hWs] at hdec
 rw [hW] at hca hW2
 go_enter Tryz.func35,Tryz.ntmps35
 go_wp2_with fail
 rw [← hca,← hW2]
 clear hca hW2 hW hrb hsz
 refine hdec.mono ?_
 clear hdec
 rintro e w3 ⟨rfl,hb3⟩
 have hf3:Fr [] W2 w3:=⟨hb3.os,hb3.tape,hb3.output,hb3.size,λk hk _=>hb3.block k hk⟩
 have hf4:=H0.out.2.2.2.2.2.2.2.1.trans hf3
 obtain ⟨W4,hW4⟩:∃ W4,W4=w3.alloc (.cells #[.int .i64 (x.kind:Int),.int .i64 (x.src:Int),.int .i64 (x.dst:Int),.int .u64 (x.txn:Int)] 151):=⟨_,rfl⟩
 have hf5:Fr [] w W4:=hf4.trans (by rw [hW4];exact (Fr.refl [] w3).alloc _)
 have hL4:=H0.out.1.new hf5
 have hN4:=H0.out.2.1.new hf5
 obtain ⟨hp,hhp⟩:∃ hp,hps[x.dst]?=some hp:=⟨_,List.getElem?_eq_getElem (by have:=H0.out.2.2.2.2.2.2.1;omega)⟩
 obtain ⟨gh,rfl,chp⟩:=jAj (f:=id) hL4.hs hhp
 have n0:=jA0 hL4.net 0
 have n4:=jA0 hL4.net 4
 have hfb:W4.heap[w.heap.size]?=some (jDj (-1) (-1) 0 0):=by
  have h1:=(H0.out.2.2.2.2.2.2.2.2.1.block _ (Array.getElem?_eq_some_iff.1 H0.out.2.2.2.2.2.2.2.2.2).1 sE).trans H0.out.2.2.2.2.2.2.2.2.2
  have h2:=(hf3.block _ (Array.getElem?_eq_some_iff.1 h1).1 sE).trans h1
  rw [hW4]
  exact (Below.heap_alloc w3 _ _ (Array.getElem?_eq_some_iff.1 h2).1).trans h2
 have x0:=jA0 hfb 0
 have x1:=jA0 hfb 1
 have x2:=jA0 hfb 2
 have x3:=jA0 hfb 3
 simp at n0 n4 chp x0 x1 x2 x3
 have hlt:w.heap.size<w3.heap.size:=by have:=H0.out.2.2.2.2.2.2.2.1.size;have:=(Array.getElem?_eq_some_iff.1 H0.out.2.2.2.2.2.2.2.2.2).1;have:=hb3.size;have:=H0.out.2.2.2.2.2.2.2.2.1.size;omega
 have hmb:W4.heap[w3.heap.size]?=some (.cells #[.int .i64 (x.kind:Int),.int .i64 (x.src:Int),.int .i64 (x.dst:Int),.int .u64 (x.txn:Int)] 151):=by rw [hW4];exact heap_alloc_new w3 _
 have m2:=jA0 hmb 2
 simp at m2
 have H4:=jA1 (And.intro hL4 (And.intro hN4 (And.intro hf5 (And.intro hfb (And.intro hmb hhp)))))
 clear hf3 hf4 hf5 hL4 hN4 hb3 hfb hhp hmb
 have i1:(x.dst:Int)≤(n:Int):=by omega
 have i2:(0:Int)≤(x.dst:Int):=by omega
 have i3:(x.dst:Int)<(n:Int)+1:=by omega
 have i4:¬ (x.dst:Int)<0:=by omega
 have i5:¬ (n:Int)<(x.dst:Int):=by omega
 go_wp2_with fail
 rw [← hW4]
 clear hW4
 go_quiet (fail)
 have hfq:Fr [] W4 (W4.drewN nq):=jAk (Fr.refl [] W4) nq
 generalize W4.drewN nq=W5 at hfq ⊢
 have hL5:=H4.out.1.new hfq
 have hN5:=H4.out.2.1.new hfq
 have hfb5:=(hfq.block _ (Array.getElem?_eq_some_iff.1 H4.out.2.2.2.1).1 sE).trans H4.out.2.2.2.1
 have hmb5:=(hfq.block _ (Array.getElem?_eq_some_iff.1 H4.out.2.2.2.2.1).1 sE).trans H4.out.2.2.2.2.1
 have hf5:=H4.out.2.2.1.trans hfq
 have hrc:∀ w',Fr [] W5 w'→Calls Tryz.prog 72 #[.pointer (some ⟨hp,0,none⟩),.string (str x.bytes),jD1 (-1) (-1) 0 0] w' λe w''=>e=.returned (.int .i64 0)∧NdP Ls B hps (A.recv x).c (A.recv x).co (A.recv x).ss (K+1) w w''∧∀ (k:Nat) (o:Obj),W5.heap[k]?=some o→w.heap.size≤k→w''.heap[k]?=some o:=λw' hw'=>by
  refine (jYd x (hN5.new hw') H0.out.2.2.2.1 H4.out.2.2.2.2.2 hB (H0.out.2.2.2.2.1.below ((hf5.trans hw').below (Nat.le_refl _) sE) (by have:=H0.out.1.low;omega)) (H0.out.2.2.2.2.2.1.of_block ((hf5.trans hw').block 1 (by have:=H0.out.1.low;omega) sE)) hK).mono ?_
  rintro e w6 ⟨rfl,hn6,hf6,L6,hm6,hF6⟩
  refine ⟨rfl,⟨hn6,(NLf.new (hf5.trans hw') H0.out.1.low.2).trans hf6,L6,hm6,(hf5.trans hw').mono sE |>.andThen hF6 (λj hj _=>hj)⟩,λk o hk hl=>?_⟩
  exact (hF6.block k (Nat.lt_of_lt_of_le (Array.getElem?_eq_some_iff.1 hk).1 hw'.size) (λhm=>by have:=H0.out.2.1.lt L6 hm6 k hm;omega)).trans ((hw'.block k (Array.getElem?_eq_some_iff.1 hk).1 sE).trans hk)
 clear n0 n4 chp x0 x1 x2 x3 m2
 obtain ⟨gh',egh,chp⟩:=jAj (f:=id) hL5.hs H4.out.2.2.2.2.2
 cases egh
 have n0:=jA0 hL5.net 0
 have x0:=jA0 hfb5 0
 have x1:=jA0 hfb5 1
 have x2:=jA0 hfb5 2
 have x3:=jA0 hfb5 3
 have m2:=jA0 hmb5 2
 simp at n0 chp x0 x1 x2 x3 m2
 have HRC:=jA1 hrc
 have H5:=jA1 (And.intro hfb5 hmb5)
 clear hL5 hN5 hfb5 hmb5 hf5 hrc hfq
 go_wp2_with fail
 go_region_held3 (λw'=>w'.cell? ⟨np,0,none⟩=some (.slice (some ⟨gh,0,none⟩) (n+1) hc)∧w'.cell? ⟨gh,x.dst,none⟩=some (ptrV hp)∧w'.cell? ⟨w3.heap.size,2,none⟩=some (.int .i64 (x.dst:Int))∧w'.cell? ⟨w.heap.size,0,none⟩=some (.int .i64 (-1))∧w'.cell? ⟨w.heap.size,1,none⟩=some (.int .i64 (-1))∧w'.cell? ⟨w.heap.size,2,none⟩=some (.int .i64 0)∧w'.cell? ⟨w.heap.size,3,none⟩=some (.int .i64 0)) (simp [*])
  (first | (go_at_call 72;refine (HRC.out _ (by first | exact jAk (Fr.refl [] W5) _ | exact (Fr.refl [] W5).drew | exact Fr.refl [] W5)).mono ?_;rintro e w6 ⟨rfl,hn6,hk6⟩;have hL6:=H0.out.1.nlf hn6.2.1;(have hfb6:=hk6 _ _ H5.out.1 (Nat.le_refl _));(have hmb6:=hk6 _ _ H5.out.2 (Nat.le_of_lt hlt));(obtain ⟨gh',egh,chp⟩:=jAj (f:=id) hL6.hs H4.out.2.2.2.2.2);cases egh;have n0:=jA0 hL6.net 0;have x0:=jA0 hfb6 0;have x1:=jA0 hfb6 1;have x2:=jA0 hfb6 2;have x3:=jA0 hfb6 3;have m2:=jA0 hmb6 2;simp at n0 chp x0 x1 x2 x3 m2;have H6:=jA1 hn6;clear hn6 hk6 hL6 hfb6 hmb6))
 go_wp2_with fail
 go_ret
 exact ⟨rfl,H6.out⟩
end
end Go.Proofs.YtcalalndmcemiaaGreatDoor
