import Derived.Test.YtejiankgafjppaaGreatDoorC43
import Derived.Test.YtejiankgafjppaaGreatDoorC44
import Derived.Test.YtejiankgafjppaaGreatDoorC39
import Derived.Test.YtejiankgafjppaaGreatDoorC40
import Derived.Test.YtejiankgafjppaaGreatDoorC42
import Derived.Test.YtejiankgafjppaaGreatDoorC38
namespace Go.Proofs.YtejiankgafjppaaGreatDoor
open Go.RowKit Go.Maps Go.Shelf
open Sc
theorem kvote_any [Inhabited Bs] (rp t:Nat) (z v:Int) (S:List Nat) (R:RCo) (c:ACo) (w:World) (h:RkN w rp S R) (hg:CRel c R) (hol:R.out.length≤1048000) (hrl:R.res.length≤1048000) :
  Calls Tryz.prog 104 #[.pointer (some ⟨rp,0,none⟩),.int .u64 (t:Int),.int .i64 z,.int .i64 v] w fun e w'=>e=.returned (.tuple #[])∧∃ S',RkN w' rp S' (R.vote t z v)∧KFr S S' w w':=by
 have hn:R.deals.length≤1048576:=by have:=hg.len;omega
 by_cases hy:∃ x,dealAt R.deals t=some x∧x.st=5∧2≤v∧v≤4
 ·obtain ⟨x,hx,h5,h2,h4⟩:=hy
  obtain ⟨vn,rfl⟩:∃ vn:Nat,v=(vn:Int):=⟨v.toNat,by omega⟩
  obtain ⟨i,hix,hi,hid⟩:=dealAt_ix hx
  have e:R.vote t z (vn:Int)=R.voted i x z vn t:=by
   unfold RCo.vote
   rw [hix];show (match R.deals[i]? with | none=>R | some x=>_)=_
   rw [hi];show (if _ then _ else R)=_
   rw [if_pos ⟨h5,by omega,by omega⟩]
   rfl
  rw [e]
  have hok:=(hg.ok x (dealAt_mem hx).1).1
  exact kvote_yes rp t i z vn ⟨by omega,by omega⟩ S R x w h hn hix hi h5 (hok.ne h5) hok.up.len hol hrl
 ·have e:R.vote t z v=R:=by
   unfold RCo.vote
   cases hx:dealAt R.deals t with
   | none=>rw [dealAt_nix hx]
   | some x =>
    obtain ⟨i,hix,hi,hid⟩:=dealAt_ix hx
    rw [hix];show (match R.deals[i]? with | none=>R | some x=>_)=_
    rw [hi];show (if _ then _ else R)=_
    rw [if_neg (fun hc=>hy ⟨x,hx,hc.1,hc.2.1,hc.2.2⟩)]
  rw [e]
  refine (kvote_no rp t z v S R w h hn (fun x hx=>?_)).mono ?_
  ·by_cases h5:x.st=5
   ·by_cases h2:v<2
    ·exact .inr (.inl h2)
    ·exact .inr (.inr (by
      by_cases h4:4<v
      ·exact h4
      ·exact absurd ⟨x,hx,h5,by omega,by omega⟩ hy))
   ·exact .inl h5
  ·rintro e w' ⟨rfl,q,rfl⟩
   exact ⟨rfl,S,h.frT ((Fr.refl [] w).drewM q) (by simp),KFr.of ((Fr.refl [] w).drewM q)⟩
theorem kcommit_any [Inhabited Bs] (rp t:Nat) (ao:Option Addr) (cap:Nat) (zs:List Int) (S:List Nat) (R:RCo) (c:ACo) (w:World) (h:RkN w rp S R) (hg:CRel c R) (hlen:zs.length≤1048576) (hz:ZsIn w ao zs) (hol:R.out.length≤1048000) :
  Calls Tryz.prog 97 #[.pointer (some ⟨rp,0,none⟩),.int .u64 (t:Int),.slice ao zs.length cap] w fun e w'=>e=.returned (.int .i64 (R.commitE t zs:Int))∧∃ S',RkN w' rp S' (R.commits t zs)∧KFr S S' w w':=by
 have hn:R.deals.length≤1048576:=by have:=hg.len;omega
 by_cases hE:R.commitE t zs=0
 ·cases hx:dealAt R.deals t with
  | none=>unfold RCo.commitE at hE;rw [hx] at hE;cases hE
  | some x =>
   have h4:x.st=4∧riseB 0 zs=true:=by
    unfold RCo.commitE at hE
    rw [hx] at hE
    simp only at hE
    by_cases h4:x.st=4
    ·rw [if_pos h4] at hE
     cases hb:riseB 0 zs with
     | true=>exact ⟨h4,rfl⟩
     | false=>rw [hb] at hE;cases hE
    ·rw [if_neg h4] at hE;cases hE
   obtain ⟨xs,rfl,hr⟩:=riseB_rising h4.2
   obtain ⟨i,hix,hi,hid⟩:=dealAt_ix hx
   have hok:=(hg.ok x (dealAt_mem hx).1).1
   have e:R.commits t (xs.map fun x:Nat=>(x:Int))=R.commit t xs:=by unfold RCo.commits;rw [h4.2,toNat_map];rfl
   rw [e,hE,List.length_map]
   exact kcommit_yes rp t i ao cap xs hr S R x w h hn hix hi h4.1 (hok.act h4.1) hz hol
 ·have e:R.commits t zs=R:=by
   unfold RCo.commits
   cases hb:riseB 0 zs with
   | false=>rfl
   | true =>
    rw [if_pos rfl]
    unfold RCo.commit
    cases hx:dealAt R.deals t with
    | none=>rw [dealAt_nix hx]
    | some x =>
     obtain ⟨i,hix,hi,hid⟩:=dealAt_ix hx
     rw [hix];show (match R.deals[i]? with | none=>R | some x=>_)=_
     rw [hi];show (if _ then _ else R)=_
     rw [if_neg]
     intro h4
     apply hE
     unfold RCo.commitE
     rw [hx]
     simp only
     rw [if_pos h4,hb]
     rfl
  rw [e]
  obtain ⟨xv,rv,ov,ps,hi,hS⟩:=h
  refine (kcommit_no rp t ao cap zs xv rv ov ps R w hi hn hlen hz hE).mono ?_
  rintro e w' ⟨rfl,q,rfl⟩
  exact ⟨rfl,S,⟨xv,rv,ov,ps,hi.fr ((Fr.refl [] w).drewM q),hS⟩,KFr.of ((Fr.refl [] w).drewM q)⟩
theorem ZsIn.src [Inhabited Bs] {w:World} {ao:Option Addr} {zs:List Int} {cap:Nat} (h:ZsIn w ao zs) (h0:zs=[]→(ao=none∧cap=0)∨∃ ad:Addr,ao=some ad):AppSrc w (.slice ao zs.length cap) zs.length (zsV zs):=by
 cases zs with
 | nil =>
  rcases h0 rfl with ⟨rfl,rfl⟩ | ⟨ad,rfl⟩
  ·exact .inr ⟨rfl,rfl,rfl⟩
  ·exact .inl ⟨_,_,rfl,fun j u hu=>by simp [zsV] at hu⟩
 | cons z r =>
  obtain ⟨_,g,off,rfl,_,_⟩:=h 0 z rfl
  refine .inl ⟨⟨g,off,none⟩,cap,rfl,fun j u hu=>?_⟩
  unfold zsV at hu
  rw [List.getElem?_map] at hu
  cases hz:(z :: r)[j]? with
  | none=>rw [hz] at hu;cases hu
  | some y =>
   rw [hz] at hu
   cases hu
   obtain ⟨_,g2,off2,e2,_,hc⟩:=h j y hz
   simp only [Option.some.injEq,Addr.mk.injEq,and_true] at e2
   rw [e2.1,e2.2]
   have e3:(⟨g2,off2,none⟩:Addr).add j=⟨g2,off2+j,none⟩:=by
    by_cases hj:j=0
    ·subst hj;simp [Addr.add]
    ·simp [Addr.add,hj]
   rw [e3]
   exact hc
section
variable [Inhabited Bs] (hp p cp gp bT lp bD bN m n jp mp k fst:Nat) (c:ACo) (l:ALog) (d:ADisk) (cv:Value) (cs:List Value) (S:List Nat) (R:RCo) (g:List (List Rec)) (w:World)
set_option maxRecDepth 100000 in
set_option maxHeartbeats 8000000 in
theorem jstep_commit (sq nn:Int) (txn x y:Nat) (key sv:ByteArray) (ao:Option Addr) (h:JIn w hp p cp gp bT lp bD bN m n c l d jp mp cv cs S R) (hmu:Mu l d fst g) (hdn:d.down=false) (hg:Jd k c R) (hbd:JBd m n k txn cs) (hmet:Met w) (hpow:Pows w) (zs:List Int) (hz:ZsIn w ao zs) (hz0:zs=[]→(ao=none∧y=0)∨∃ ad:Addr,ao=some ad) (hxz:x=zs.length) (hzl:zs.length≤16384) :
  Calls Tryz.prog 44 #[.pointer (some ⟨jp,0,none⟩),jstepV 14 txn sq nn key sv ao x y (-1) (-1) 0 0] w fun e w'=>e=.returned (.bool true)∧JSt w w' hp p cp gp bT lp bD bN m n jp k fst cs:=by
 have HXZ:=toHid hxz
 have HZ:=toHid (show ∀ W',Below B0 w W'→ZsIn W' ao zs∧AppSrc W' (.slice ao zs.length y) zs.length (zsV zs) from fun W' hW'=>⟨hz.below hW',(hz.below hW').src hz0⟩)
 have HZI:=toHid (show ∀ z∈zs,InI z from fun z hzm=>by
  obtain ⟨j,hj⟩:=List.mem_iff_getElem?.1 hzm
  exact (hz j z hj).1)
 clear hz hz0 hxz
 obtain ⟨hm,hn,hk,hcs,hB,ht⟩:=hbd
 obtain ⟨W,hW⟩:∃ W,W=w.alloc (jstepO 14 txn sq nn key sv ao x y (-1) (-1) 0 0):=⟨_,rfl⟩
 have hf0:Fr [] w W:=by rw [hW];exact (Fr.refl [] w).alloc _
 have hs0:W.heap[w.heap.size]?=some (jstepO 14 txn sq nn key sv ao x y (-1) (-1) 0 0):=by rw [hW];exact heap_alloc_new w _
 have J0:=h.new hf0
 have L0:=JFr.new hf0 h.size
 have hlen:=hg.rel.len
 have HD:=toHid (show ∀ x∈R.deals,x.parts.length≤1000 from fun x hx=>by have:=hg.rel.parts x hx;omega)
 have hres:=hg.res
 have hout:=hg.out
 have hnx:=hg.nxt
 have hcp:=kcopy_any mp S R W J0.ref (by omega) HD.out (by omega) (by omega)
 have k1:=blk_cell J0.kb 1
 simp at k1
 rw [hW] at k1
 have HG:=toHid hg
 have HMP:=toHid (And.intro hmet (And.intro hpow (And.intro hmu hdn)))
 have HJ0:=toHid (And.intro J0 (And.intro L0 hs0))
 clear h hg hs0 J0 L0 hf0 hmet hpow hmu hdn
 go_enter Tryz.func44,Tryz.ntmps44
 go_wp2_with fail
 rw [← hW]
 obtain ⟨bx,hbx⟩:∃ bx,bx=w.heap.size:=⟨_,rfl⟩
 rw [← hbx] at HJ0 ⊢
 clear hW hbx k1
 refine hcp.mono ?_
 rintro e W1 ⟨np,S2,rfl,hr1,hnew,hf1⟩
 clear hcp
 have J1:=HJ0.out.1.new hf1
 have hs1:W1.heap[bx]?=some (jstepO 14 txn sq nn key sv ao x y (-1) (-1) 0 0):=(hf1.block bx (Array.getElem?_eq_some_iff.1 HJ0.out.2.2).1 (by simp)).trans HJ0.out.2.2
 have L1:=HJ0.out.2.1.trans (JFr.new hf1 HJ0.out.1.size)
 have k1:=blk_cell J1.kb 1
 have z1:=blk_cell hs1 1
 simp at k1 z1
 have hst:∀ q:Nat,Calls Tryz.prog 89 #[.pointer (some ⟨mp,0,none⟩),.int .u64 (txn:Int)] (W1.drewN q) fun e w'=>e=.returned (.int .i64 ((((dealAt R.deals txn).map RDeal.st).getD 0:Nat):Int))∧∃ q',w'=(W1.drewN q).drewN q':=fun q=>by
  obtain ⟨xv,rv,ov,ps,hi,_⟩:=(J1.new ((Fr.refl [] W1).drewM q)).ref
  exact kstatus_any mp txn xv rv ov ps R _ hi (by rw [hi.len];omega)
 obtain ⟨st,hst0⟩:∃ st:Nat,st=((dealAt R.deals txn).map RDeal.st).getD 0:=⟨_,rfl⟩
 rw [← hst0] at hst
 have HST:=toHid hst0
 have HJ1:=toHid (And.intro J1 (And.intro L1 (And.intro hs1 (And.intro hr1 (HJ0.out.1.fresh hf1 hnew)))))
 clear J1 L1 hs1 hr1 hst0 hnew hf1 HJ0
 go_wp2
 go_quiet (first | (go_at_call 89;refine Calls.quiet_of (hst _)))
 clear hst k1 z1
 have hfq:Fr [] W1 (W1.drewN nq):=(Fr.refl [] W1).drewM nq
 have HJ:=toHid (HJ1.out.1.new hfq)
 have HLF:=toHid (HJ1.out.2.1.trans (JFr.new hfq HJ1.out.1.size))
 have HSB:=toHid (show (W1.drewN nq).heap[bx]?=some (jstepO 14 txn sq nn key sv ao x y (-1) (-1) 0 0) from (hfq.block bx (Array.getElem?_eq_some_iff.1 HJ1.out.2.2.1).1 (by simp)).trans HJ1.out.2.2.1)
 have HRN:=toHid (show RkN (W1.drewN nq) np S2 R∧(∀ q∈S2,q∉rd cp (W1.drewN nq)∧q∉S) from ⟨HJ1.out.2.2.2.1.frT hfq (by simp),fun q hq=>⟨fun hm2=>(HJ1.out.2.2.2.2 q hq).1 (by rw [(HJ1.out.1.host.law hfq (by simp)).2.2] at hm2;exact hm2),(HJ1.out.2.2.2.2 q hq).2⟩⟩)
 generalize W1.drewN nq=W2 at HJ HLF HSB HRN hfq ⊢
 clear hfq HJ1
 have k0:=blk_cell HJ.out.kb 0
 have k1:=blk_cell HJ.out.kb 1
 have f1:=blk_free HJ.out.kb 1
 have z0:=blk_cell HSB.out 0
 have z1:=blk_cell HSB.out 1
 have z2:=blk_cell HSB.out 2
 have z3:=blk_cell HSB.out 3
 have z4:=blk_cell HSB.out 4
 have z5:=blk_cell HSB.out 5
 have z6:=blk_cell HSB.out 6
 have z7:=blk_cell HSB.out 7
 have z8:=blk_cell HSB.out 8
 have z9:=blk_cell HSB.out 9
 have z10:=blk_cell HSB.out 10
 simp at k0 k1 z0 z1 z2 z3 z4 z5 z6 z7 z8 z9 z10
 have hop:∀ w',Fr [] W2 w'→Calls Tryz.prog 96 #[.pointer (some ⟨hp,0,none⟩),.int .u64 (txn:Int),.slice ao x y,jwellV] w' fun e w3=>e=.returned (.int .i64 (R.commitE txn zs:Int))∧∃ m' n' c' l' d' g',m'≤m+20∧n'≤n+3∧JIn w3 hp p cp gp bT lp bD bN m' n' c' l' d' jp mp cv cs S R∧Mu l' d' fst g'∧d'.down=false∧Jd (k+1) c' (R.commits txn zs)∧JFr w w3∧w3.heap[bx]?=some (jstepO 14 txn sq nn key sv ao x y (-1) (-1) 0 0):=fun w' hw'=>by
  have J:=HJ.out.new hw'
  have L:=JFr.new hw' HJ.out.size
  have HF1:=HLF.out.trans L
  refine (jCommit hp p cp gp bT lp bD bN m n jp mp k txn fst c l d cv cs S R g w' _ zs J HMP.out.2.2.1 HMP.out.2.2.2 HG.out (by omega) hB (HF1.met hB HMP.out.1) ht hzl HZI.out (fun W' hW'=>by rw [HXZ.out];exact (HZ.out W' (HF1.below.trans (hW'.hfr J.host.2).below)).2)).mono ?_
  rintro e w3 ⟨rfl,hWr⟩
  obtain ⟨m',n',c',l',d',g',e1,e2,e3,e4,e5,e6⟩:=hWr.jin
  exact ⟨rfl,m',n',c',l',d',g',e1,e2,e3,e4,e5,e6,HF1.trans hWr.fr,hWr.fr.step _ _ (L.step _ _ HSB.out)⟩
 obtain ⟨ae,hae⟩:∃ ae,ae=R.commitE txn zs:=⟨_,rfl⟩
 rw [← hae] at hop
 have HAE:=toHid hae
 clear hae
 go_wp2
 go_region_held3 (fun w'=>w'.cell? ⟨jp,0,none⟩=some (.pointer (some ⟨hp,0,none⟩))∧w'.cell? ⟨bx,1,none⟩=some (.int .u64 (txn:Int))∧w'.cell? ⟨bx,6,none⟩=some (.slice ao x y)∧w'.cell? ⟨bx,7,none⟩=some (.int .i64 (-1))∧w'.cell? ⟨bx,8,none⟩=some (.int .i64 (-1))∧w'.cell? ⟨bx,9,none⟩=some (.int .i64 0)∧w'.cell? ⟨bx,10,none⟩=some (.int .i64 0)) (simp [*])
  (first | (go_at_call 96;refine (hop _ (by first | exact (Fr.refl [] W2).drew | exact Fr.refl [] W2)).mono ?_;rintro e W3 ⟨rfl,m',n',c',l',d',g',h1,h2,h3,h4,h5,h6,h7,h8⟩;have aj0:=blk_cell h3.kb 0;have ab1:=blk_cell h8 1;have ab6:=blk_cell h8 6;have ab7:=blk_cell h8 7;have ab8:=blk_cell h8 8;have ab9:=blk_cell h8 9;have ab10:=blk_cell h8 10;simp at aj0 ab1 ab6 ab7 ab8 ab9 ab10;have H3:=toHid (And.intro h1 (And.intro h2 (And.intro h4 (And.intro h5 h6))));have HJ3:=toHid h3;have HL3:=toHid h7;have HS3:=toHid h8;clear h1 h2 h3 h4 h5 h6 h7 h8 hop))
 clear k0 k1 f1 z0 z1 z2 z3 z4 z5 z6 z7 z8 z9 z10 aj0 ab7 ab8 ab9 ab10
 have k1:=blk_cell HJ3.out.kb 1
 simp at k1
 have hab:∀ w',Fr [] W3 w'→Calls Tryz.prog 97 #[.pointer (some ⟨mp,0,none⟩),.int .u64 (txn:Int),.slice ao x y] w' fun e w5=>e=.returned (.int .i64 (ae:Int))∧∃ S5,JIy w5 hp p cp gp bT lp bD bN m' n' c' l' d' jp mp mp cv cs S5 (R.commits txn zs)∧JFr w w5∧w5.heap[bx]?=some (jstepO 14 txn sq nn key sv ao x y (-1) (-1) 0 0):=fun w' hw'=>by
  have J:=HJ3.out.new hw'
  have L:=JFr.new hw' HJ3.out.size
  rw [HXZ.out]
  refine (kcommit_any mp txn ao y zs S R c w' J.ref HG.out.rel (by omega) (HZ.out w' (HL3.out.trans L).below).1 (by omega)).mono ?_
  rintro e w5 ⟨he,S5,hr,hk⟩
  exact ⟨by rw [he,HAE.out],S5,J.kfr hk hr,(HL3.out.trans L).trans (hk.lfr J.ref),(hk.lfr J.ref).step _ _ (L.step _ _ (by rw [← HXZ.out];exact HS3.out))⟩
 go_wp2
 go_region_held3 (fun w'=>w'.cell? ⟨jp,1,none⟩=some (.pointer (some ⟨mp,0,none⟩))∧w'.cell? ⟨bx,1,none⟩=some (.int .u64 (txn:Int))∧w'.cell? ⟨bx,6,none⟩=some (.slice ao x y)) (simp [*])
  (first | (go_at_call 97;refine (hab _ (by first | exact (Fr.refl [] W3).drew | exact Fr.refl [] W3)).mono ?_;rintro e W5 ⟨rfl,S5,h1,h2,h3⟩;have aj1:=blk_cell h1.kb 1;have ab1:=blk_cell h3 1;have ab6:=blk_cell h3 6;simp at aj1 ab1 ab6;have HJ5:=toHid h1;have HL5:=toHid h2;have HS5:=toHid h3;clear h1 h2 h3 hab))
 have HF:=toHid (show JSt w W5 hp p cp gp bT lp bD bN m n jp k fst cs from ⟨⟨m',n',c',l',d',g',mp,cv,cs,S5,_,by have:=H3.out.1;omega,H3.out.2.1,by omega,HJ5.out,H3.out.2.2.1,H3.out.2.2.2.1,H3.out.2.2.2.2⟩,HL5.out⟩)
 clear k1 aj1 ab1 ab6
 go_wp2
 go_ret
 exact ⟨rfl,HF.out⟩
end
section
variable [Inhabited Bs] (hp p cp gp bT lp bD bN m n jp mp k fst:Nat) (c:ACo) (l:ALog) (d:ADisk) (cv:Value) (cs:List Value) (S:List Nat) (R:RCo) (g:List (List Rec)) (w:World)
set_option maxRecDepth 100000 in
set_option maxHeartbeats 8000000 in
theorem jstep_vote (sq nn:Int) (txn x y:Nat) (key sv:ByteArray) (ao:Option Addr) (h:JIn w hp p cp gp bT lp bD bN m n c l d jp mp cv cs S R) (hmu:Mu l d fst g) (hdn:d.down=false) (hg:Jd k c R) (hbd:JBd m n k txn cs) (hmet:Met w) (hpow:Pows w) :
  Calls Tryz.prog 44 #[.pointer (some ⟨jp,0,none⟩),jstepV 16 txn sq nn key sv ao x y (-1) (-1) 0 0] w fun e w'=>e=.returned (.bool true)∧JSt w w' hp p cp gp bT lp bD bN m n jp k fst cs:=by
 obtain ⟨hm,hn,hk,hcs,hB,ht⟩:=hbd
 obtain ⟨W,hW⟩:∃ W,W=w.alloc (jstepO 16 txn sq nn key sv ao x y (-1) (-1) 0 0):=⟨_,rfl⟩
 have hf0:Fr [] w W:=by rw [hW];exact (Fr.refl [] w).alloc _
 have hs0:W.heap[w.heap.size]?=some (jstepO 16 txn sq nn key sv ao x y (-1) (-1) 0 0):=by rw [hW];exact heap_alloc_new w _
 have J0:=h.new hf0
 have L0:=JFr.new hf0 h.size
 have hlen:=hg.rel.len
 have HD:=toHid (show ∀ x∈R.deals,x.parts.length≤1000 from fun x hx=>by have:=hg.rel.parts x hx;omega)
 have hres:=hg.res
 have hout:=hg.out
 have hnx:=hg.nxt
 have hcp:=kcopy_any mp S R W J0.ref (by omega) HD.out (by omega) (by omega)
 have k1:=blk_cell J0.kb 1
 simp at k1
 rw [hW] at k1
 have HG:=toHid hg
 have HMP:=toHid (And.intro hmet (And.intro hpow (And.intro hmu hdn)))
 have HJ0:=toHid (And.intro J0 (And.intro L0 hs0))
 clear h hg hs0 J0 L0 hf0 hmet hpow hmu hdn
 go_enter Tryz.func44,Tryz.ntmps44
 go_wp2_with fail
 rw [← hW]
 obtain ⟨bx,hbx⟩:∃ bx,bx=w.heap.size:=⟨_,rfl⟩
 rw [← hbx] at HJ0 ⊢
 clear hW hbx k1
 refine hcp.mono ?_
 rintro e W1 ⟨np,S2,rfl,hr1,hnew,hf1⟩
 clear hcp
 have J1:=HJ0.out.1.new hf1
 have hs1:W1.heap[bx]?=some (jstepO 16 txn sq nn key sv ao x y (-1) (-1) 0 0):=(hf1.block bx (Array.getElem?_eq_some_iff.1 HJ0.out.2.2).1 (by simp)).trans HJ0.out.2.2
 have L1:=HJ0.out.2.1.trans (JFr.new hf1 HJ0.out.1.size)
 have k1:=blk_cell J1.kb 1
 have z1:=blk_cell hs1 1
 simp at k1 z1
 have hst:∀ q:Nat,Calls Tryz.prog 89 #[.pointer (some ⟨mp,0,none⟩),.int .u64 (txn:Int)] (W1.drewN q) fun e w'=>e=.returned (.int .i64 ((((dealAt R.deals txn).map RDeal.st).getD 0:Nat):Int))∧∃ q',w'=(W1.drewN q).drewN q':=fun q=>by
  obtain ⟨xv,rv,ov,ps,hi,_⟩:=(J1.new ((Fr.refl [] W1).drewM q)).ref
  exact kstatus_any mp txn xv rv ov ps R _ hi (by rw [hi.len];omega)
 obtain ⟨st,hst0⟩:∃ st:Nat,st=((dealAt R.deals txn).map RDeal.st).getD 0:=⟨_,rfl⟩
 rw [← hst0] at hst
 have HST:=toHid hst0
 have HJ1:=toHid (And.intro J1 (And.intro L1 (And.intro hs1 (And.intro hr1 (HJ0.out.1.fresh hf1 hnew)))))
 clear J1 L1 hs1 hr1 hst0 hnew hf1 HJ0
 go_wp2
 go_quiet (first | (go_at_call 89;refine Calls.quiet_of (hst _)))
 clear hst k1 z1
 have hfq:Fr [] W1 (W1.drewN nq):=(Fr.refl [] W1).drewM nq
 have HJ:=toHid (HJ1.out.1.new hfq)
 have HLF:=toHid (HJ1.out.2.1.trans (JFr.new hfq HJ1.out.1.size))
 have HSB:=toHid (show (W1.drewN nq).heap[bx]?=some (jstepO 16 txn sq nn key sv ao x y (-1) (-1) 0 0) from (hfq.block bx (Array.getElem?_eq_some_iff.1 HJ1.out.2.2.1).1 (by simp)).trans HJ1.out.2.2.1)
 have HRN:=toHid (show RkN (W1.drewN nq) np S2 R∧(∀ q∈S2,q∉rd cp (W1.drewN nq)∧q∉S) from ⟨HJ1.out.2.2.2.1.frT hfq (by simp),fun q hq=>⟨fun hm2=>(HJ1.out.2.2.2.2 q hq).1 (by rw [(HJ1.out.1.host.law hfq (by simp)).2.2] at hm2;exact hm2),(HJ1.out.2.2.2.2 q hq).2⟩⟩)
 generalize W1.drewN nq=W2 at HJ HLF HSB HRN hfq ⊢
 clear hfq HJ1
 have k0:=blk_cell HJ.out.kb 0
 have k1:=blk_cell HJ.out.kb 1
 have f1:=blk_free HJ.out.kb 1
 have z0:=blk_cell HSB.out 0
 have z1:=blk_cell HSB.out 1
 have z2:=blk_cell HSB.out 2
 have z3:=blk_cell HSB.out 3
 have z4:=blk_cell HSB.out 4
 have z5:=blk_cell HSB.out 5
 have z6:=blk_cell HSB.out 6
 have z7:=blk_cell HSB.out 7
 have z8:=blk_cell HSB.out 8
 have z9:=blk_cell HSB.out 9
 have z10:=blk_cell HSB.out 10
 simp at k0 k1 z0 z1 z2 z3 z4 z5 z6 z7 z8 z9 z10
 have hop:∀ w',Fr [] W2 w'→Calls Tryz.prog 102 #[.pointer (some ⟨hp,0,none⟩),.int .u64 (txn:Int),.int .i64 sq,.int .i64 nn,jwellV] w' fun e w3=>e=.returned (.int .i64 0)∧∃ m' n' c' l' d' g',m'≤m+20∧n'≤n+3∧JIn w3 hp p cp gp bT lp bD bN m' n' c' l' d' jp mp cv cs S R∧Mu l' d' fst g'∧d'.down=false∧Jd (k+1) c' (R.vote txn sq nn)∧JFr w w3∧w3.heap[bx]?=some (jstepO 16 txn sq nn key sv ao x y (-1) (-1) 0 0)∧RkN w3 np S2 R∧(∀ q∈S2,q∉rd cp w3):=fun w' hw'=>by
  have J:=HJ.out.new hw'
  have L:=JFr.new hw' HJ.out.size
  have HF1:=HLF.out.trans L
  refine (jVote hp p cp gp bT lp bD bN m n jp mp k txn fst c l d cv cs S R g w' sq nn J HMP.out.2.2.1 HMP.out.2.2.2 HG.out (by omega) (by omega) hB (HF1.met hB HMP.out.1) (HF1.pows hB HMP.out.2.1) ht).mono ?_
  rintro e w3 ⟨rfl,hWr⟩
  obtain ⟨m',n',c',l',d',g',e1,e2,e3,e4,e5,e6⟩:=hWr.jin
  have hk9:=hWr.ref np S2 R (HRN.out.1.frT hw' (by simp)) (fun q hq hm2=>(HRN.out.2 q hq).1 (by rw [(HJ.out.host.law hw' (by simp)).2.2] at hm2;exact hm2))
  exact ⟨rfl,m',n',c',l',d',g',e1,e2,e3,e4,e5,e6,HF1.trans hWr.fr,hWr.fr.step _ _ (L.step _ _ HSB.out),hk9.1,hk9.2⟩
 go_wp2
 go_region_held3 (fun w'=>w'.cell? ⟨jp,0,none⟩=some (.pointer (some ⟨hp,0,none⟩))∧w'.cell? ⟨bx,1,none⟩=some (.int .u64 (txn:Int))∧w'.cell? ⟨bx,2,none⟩=some (.int .i64 sq)∧w'.cell? ⟨bx,3,none⟩=some (.int .i64 nn)∧w'.cell? ⟨bx,7,none⟩=some (.int .i64 (-1))∧w'.cell? ⟨bx,8,none⟩=some (.int .i64 (-1))∧w'.cell? ⟨bx,9,none⟩=some (.int .i64 0)∧w'.cell? ⟨bx,10,none⟩=some (.int .i64 0)) (simp [*])
  (first | (go_at_call 102;refine (hop _ (by first | exact (Fr.refl [] W2).drew | exact Fr.refl [] W2)).mono ?_;rintro e W3 ⟨rfl,m',n',c',l',d',g',h1,h2,h3,h4,h5,h6,h7,h8,h9,h10⟩;have aj0:=blk_cell h3.kb 0;have ab1:=blk_cell h8 1;have ab2:=blk_cell h8 2;have ab3:=blk_cell h8 3;have ab7:=blk_cell h8 7;have ab8:=blk_cell h8 8;have ab9:=blk_cell h8 9;have ab10:=blk_cell h8 10;simp at aj0 ab1 ab2 ab3 ab7 ab8 ab9 ab10;have H3:=toHid (And.intro h1 (And.intro h2 (And.intro h4 (And.intro h5 h6))));have HJ3:=toHid h3;have HL3:=toHid h7;have HS3:=toHid h8;have HR3:=toHid (And.intro h9 h10);clear h1 h2 h3 h4 h5 h6 h7 h8 h9 h10 hop))
 clear k0 k1 f1 z0 z1 z2 z3 z4 z5 z6 z7 z8 z9 z10 aj0 ab7 ab8 ab9 ab10
 have k1:=blk_cell HJ3.out.kb 1
 simp at k1
 have hdb:∀ q:Nat,Calls Tryz.prog 99 #[.pointer (some ⟨mp,0,none⟩),.int .u64 (txn:Int)] (W3.drewN q) fun e w'=>e=.returned (.bool false)∧∃ q',w'=(W3.drewN q).drewN q':=fun q=>by
  obtain ⟨xv,rv,ov,ps,hi,_⟩:=(HJ3.out.new ((Fr.refl [] W3).drewM q)).ref
  exact kdoubtful_any mp txn xv rv ov ps R _ hi (by rw [hi.len];omega)
 go_wp2
 go_quiet (first | (go_at_call 99;refine Calls.quiet_of (hdb _)))
 clear hdb k1 ab1 ab2 ab3
 have hfq:Fr [] W3 (W3.drewN nq):=(Fr.refl [] W3).drewM nq
 have HJ4:=toHid (HJ3.out.new hfq)
 have HL4:=toHid (HL3.out.trans (JFr.new hfq HJ3.out.size))
 have hs4:(W3.drewN nq).heap[bx]?=some (jstepO 16 txn sq nn key sv ao x y (-1) (-1) 0 0):=(hfq.block bx (Array.getElem?_eq_some_iff.1 HS3.out).1 (by simp)).trans HS3.out
 have HJN:=toHid ((HJ3.out.swap HR3.out.1 HR3.out.2).new hfq)
 have HS4:=toHid hs4
 clear hs4
 generalize W3.drewN nq=W4 at HJ4 HL4 HS4 HJN hfq ⊢
 clear hfq
 have z1:=blk_cell HS4.out 1
 have z2:=blk_cell HS4.out 2
 have z3:=blk_cell HS4.out 3
 simp at z1 z2 z3
 have hab:∀ w',Fr [] W4 w'→Calls Tryz.prog 104 #[.pointer (some ⟨np,0,none⟩),.int .u64 (txn:Int),.int .i64 sq,.int .i64 nn] w' fun e w5=>e=.returned (.tuple #[])∧∃ S5,JIy w5 hp p cp gp bT lp bD bN m' n' c' l' d' jp mp np cv cs S5 (R.vote txn sq nn)∧JFr w w5∧w5.heap[bx]?=some (jstepO 16 txn sq nn key sv ao x y (-1) (-1) 0 0):=fun w' hw'=>by
  have J:=HJN.out.new hw'
  have L:=JFr.new hw' HJN.out.size
  refine (kvote_any np txn sq nn S2 R c w' J.ref HG.out.rel (by omega) (by omega)).mono ?_
  rintro e w5 ⟨he,S5,hr,hk⟩
  exact ⟨he,S5,J.kfr hk hr,(HL4.out.trans L).trans (hk.lfr J.ref),(hk.lfr J.ref).step _ _ (L.step _ _ HS4.out)⟩
 go_wp2_with fail
 refine (hab _ (Fr.refl [] W4)).mono ?_
 clear hab
 rintro e W5 ⟨rfl,S5,h1,h2,h3⟩
 clear z1 z2 z3
 have ab1:=blk_cell h3 1
 have ab2:=blk_cell h3 2
 have ab3:=blk_cell h3 3
 simp at ab1 ab2 ab3
 have HJ5:=toHid h1
 have HL5:=toHid h2
 have HS5:=toHid h3
 clear h1 h2 h3
 have hlv:=H3.out.2.2.2.2.rel.len
 have hsn:Calls Tryz.prog 89 #[.pointer (some ⟨np,0,none⟩),.int .u64 (txn:Int)] W5 fun e w'=>e=.returned (.int .i64 ((((dealAt (R.vote txn sq nn).deals txn).map RDeal.st).getD 0:Nat):Int))∧∃ q',w'=W5.drewN q':=by
  obtain ⟨xv,rv,ov,ps,hi,_⟩:=HJ5.out.ref
  exact kstatus_any np txn xv rv ov ps _ _ hi (by rw [hi.len];omega)
 obtain ⟨now,hnow⟩:∃ now:Nat,now=((dealAt (R.vote txn sq nn).deals txn).map RDeal.st).getD 0:=⟨_,rfl⟩
 rw [← hnow] at hsn
 clear hnow
 go_wp2_with fail
 refine hsn.mono ?_
 rintro e w6 ⟨rfl,nq,rfl⟩
 clear hsn ab1 ab2 ab3
 have hfq:Fr [] W5 (W5.drewN nq):=(Fr.refl [] W5).drewM nq
 have HJ6:=toHid (HJ5.out.new hfq)
 have HL6:=toHid (HL5.out.trans (JFr.new hfq HJ5.out.size))
 generalize W5.drewN nq=W6 at HJ6 HL6 hfq ⊢
 clear hfq
 have hG6:=H3.out.2.2.2.2
 have hr6:=hG6.res
 have ho6:=hG6.out
 have HD6:=toHid (show ∀ x∈(R.vote txn sq nn).deals,x.parts.length≤1000 from fun x hx=>by have:=hG6.rel.parts x hx;omega)
 clear hG6
 by_cases hy:st=5∧now=6
 ·obtain ⟨rfl,rfl⟩:=hy
  have hwr:=jwrote_any hp p cp gp bT lp bD bN m' n' jp mp np np c' l' d' cv cs S5 S5 _ _ W6 true HJ6.out HJ6.out.ref HJ6.out.apart (by omega) HD6.out (by omega) (by omega) (by omega)
  go_wp2_with fail
  refine hwr.mono ?_
  clear hwr
  rintro e W7 ⟨rfl,cv',cs',hc',J7,L7⟩
  have HF:=toHid (show JSt w W7 hp p cp gp bT lp bD bN m n jp k fst cs from ⟨⟨m',n',c',l',d',g',np,cv',cs',S5,_,by have:=H3.out.1;omega,H3.out.2.1,hc',J7,H3.out.2.2.1,H3.out.2.2.2.1,H3.out.2.2.2.2⟩,HL6.out.trans L7⟩)
  clear J7 L7 hc'
  go_wp2
  go_ret
  exact ⟨rfl,HF.out⟩
 ·obtain ⟨J7,L7⟩:=HJ6.out.setM HJ6.out.ref HJ6.out.apart
  have b1:=blk_cell HJ6.out.kb 1
  have bf:=blk_free HJ6.out.kb 1
  simp at b1
  have HF:=toHid (show JSt w (W6.setCell ⟨jp,1,none⟩ (.pointer (some ⟨np,0,none⟩))) hp p cp gp bT lp bD bN m n jp k fst cs from ⟨⟨m',n',c',l',d',g',np,cv,cs,S5,_,by have:=H3.out.1;omega,H3.out.2.1,by omega,J7,H3.out.2.2.1,H3.out.2.2.2.1,H3.out.2.2.2.2⟩,HL6.out.trans L7⟩)
  have hcase:¬ ((st:Int)=5)∨(((st:Int)=5)∧¬ ((now:Int)=6)):=by omega
  clear J7 L7 hy
  rcases hcase with hn2 | ⟨hn2,hn1⟩
  ·have bn2:((st:Int) == 5)=false:=beq_eq_false_iff_ne.2 hn2
   go_wp2
   go_ret
   exact ⟨rfl,HF.out⟩
  ·have bn1:((now:Int) == 6)=false:=beq_eq_false_iff_ne.2 hn1
   go_wp2
   go_ret
   exact ⟨rfl,HF.out⟩
end
section
variable [Inhabited Bs] (hp p cp gp bT lp bD bN m n jp mp k fst:Nat) (c:ACo) (l:ALog) (d:ADisk) (cv:Value) (cs:List Value) (S:List Nat) (R:RCo) (g:List (List Rec)) (w:World)
set_option maxRecDepth 100000 in
set_option maxHeartbeats 8000000 in
theorem jstep_done (sq nn:Int) (txn x y:Nat) (key sv:ByteArray) (ao:Option Addr) (h:JIn w hp p cp gp bT lp bD bN m n c l d jp mp cv cs S R) (hmu:Mu l d fst g) (hdn:d.down=false) (hg:Jd k c R) (hbd:JBd m n k txn cs) (hmet:Met w) (hpow:Pows w) :
  Calls Tryz.prog 44 #[.pointer (some ⟨jp,0,none⟩),jstepV 17 txn sq nn key sv ao x y (-1) (-1) 0 0] w fun e w'=>e=.returned (.bool true)∧JSt w w' hp p cp gp bT lp bD bN m n jp k fst cs:=by
 obtain ⟨hm,hn,hk,hcs,hB,ht⟩:=hbd
 obtain ⟨W,hW⟩:∃ W,W=w.alloc (jstepO 17 txn sq nn key sv ao x y (-1) (-1) 0 0):=⟨_,rfl⟩
 have hf0:Fr [] w W:=by rw [hW];exact (Fr.refl [] w).alloc _
 have hs0:W.heap[w.heap.size]?=some (jstepO 17 txn sq nn key sv ao x y (-1) (-1) 0 0):=by rw [hW];exact heap_alloc_new w _
 have J0:=h.new hf0
 have L0:=JFr.new hf0 h.size
 have hlen:=hg.rel.len
 have HD:=toHid (show ∀ x∈R.deals,x.parts.length≤1000 from fun x hx=>by have:=hg.rel.parts x hx;omega)
 have hres:=hg.res
 have hout:=hg.out
 have hnx:=hg.nxt
 have hcp:=kcopy_any mp S R W J0.ref (by omega) HD.out (by omega) (by omega)
 have k1:=blk_cell J0.kb 1
 simp at k1
 rw [hW] at k1
 have HG:=toHid hg
 have HMP:=toHid (And.intro hmet (And.intro hpow (And.intro hmu hdn)))
 have HJ0:=toHid (And.intro J0 (And.intro L0 hs0))
 clear h hg hs0 J0 L0 hf0 hmet hpow hmu hdn
 go_enter Tryz.func44,Tryz.ntmps44
 go_wp2_with fail
 rw [← hW]
 obtain ⟨bx,hbx⟩:∃ bx,bx=w.heap.size:=⟨_,rfl⟩
 rw [← hbx] at HJ0 ⊢
 clear hW hbx k1
 refine hcp.mono ?_
 rintro e W1 ⟨np,S2,rfl,hr1,hnew,hf1⟩
 clear hcp
 have J1:=HJ0.out.1.new hf1
 have hs1:W1.heap[bx]?=some (jstepO 17 txn sq nn key sv ao x y (-1) (-1) 0 0):=(hf1.block bx (Array.getElem?_eq_some_iff.1 HJ0.out.2.2).1 (by simp)).trans HJ0.out.2.2
 have L1:=HJ0.out.2.1.trans (JFr.new hf1 HJ0.out.1.size)
 have k1:=blk_cell J1.kb 1
 have z1:=blk_cell hs1 1
 simp at k1 z1
 have hst:∀ q:Nat,Calls Tryz.prog 89 #[.pointer (some ⟨mp,0,none⟩),.int .u64 (txn:Int)] (W1.drewN q) fun e w'=>e=.returned (.int .i64 ((((dealAt R.deals txn).map RDeal.st).getD 0:Nat):Int))∧∃ q',w'=(W1.drewN q).drewN q':=fun q=>by
  obtain ⟨xv,rv,ov,ps,hi,_⟩:=(J1.new ((Fr.refl [] W1).drewM q)).ref
  exact kstatus_any mp txn xv rv ov ps R _ hi (by rw [hi.len];omega)
 obtain ⟨st,hst0⟩:∃ st:Nat,st=((dealAt R.deals txn).map RDeal.st).getD 0:=⟨_,rfl⟩
 rw [← hst0] at hst
 have HST:=toHid hst0
 have HJ1:=toHid (And.intro J1 (And.intro L1 (And.intro hs1 (And.intro hr1 (HJ0.out.1.fresh hf1 hnew)))))
 clear J1 L1 hs1 hr1 hst0 hnew hf1 HJ0
 go_wp2
 go_quiet (first | (go_at_call 89;refine Calls.quiet_of (hst _)))
 clear hst k1 z1
 have hfq:Fr [] W1 (W1.drewN nq):=(Fr.refl [] W1).drewM nq
 have HJ:=toHid (HJ1.out.1.new hfq)
 have HLF:=toHid (HJ1.out.2.1.trans (JFr.new hfq HJ1.out.1.size))
 have HSB:=toHid (show (W1.drewN nq).heap[bx]?=some (jstepO 17 txn sq nn key sv ao x y (-1) (-1) 0 0) from (hfq.block bx (Array.getElem?_eq_some_iff.1 HJ1.out.2.2.1).1 (by simp)).trans HJ1.out.2.2.1)
 have HRN:=toHid (show RkN (W1.drewN nq) np S2 R∧(∀ q∈S2,q∉rd cp (W1.drewN nq)∧q∉S) from ⟨HJ1.out.2.2.2.1.frT hfq (by simp),fun q hq=>⟨fun hm2=>(HJ1.out.2.2.2.2 q hq).1 (by rw [(HJ1.out.1.host.law hfq (by simp)).2.2] at hm2;exact hm2),(HJ1.out.2.2.2.2 q hq).2⟩⟩)
 generalize W1.drewN nq=W2 at HJ HLF HSB HRN hfq ⊢
 clear hfq HJ1
 have k0:=blk_cell HJ.out.kb 0
 have k1:=blk_cell HJ.out.kb 1
 have f1:=blk_free HJ.out.kb 1
 have z0:=blk_cell HSB.out 0
 have z1:=blk_cell HSB.out 1
 have z2:=blk_cell HSB.out 2
 have z3:=blk_cell HSB.out 3
 have z4:=blk_cell HSB.out 4
 have z5:=blk_cell HSB.out 5
 have z6:=blk_cell HSB.out 6
 have z7:=blk_cell HSB.out 7
 have z8:=blk_cell HSB.out 8
 have z9:=blk_cell HSB.out 9
 have z10:=blk_cell HSB.out 10
 simp at k0 k1 z0 z1 z2 z3 z4 z5 z6 z7 z8 z9 z10
 have hop:∀ w',Fr [] W2 w'→Calls Tryz.prog 107 #[.pointer (some ⟨hp,0,none⟩),.int .u64 (txn:Int),.int .i64 sq,jwellV] w' fun e w3=>e=.returned (.int .i64 0)∧∃ m' n' c' l' d' g',m'≤m+20∧n'≤n+3∧JIn w3 hp p cp gp bT lp bD bN m' n' c' l' d' jp mp cv cs S R∧Mu l' d' fst g'∧d'.down=false∧Jd (k+1) c' (R.done txn sq)∧JFr w w3∧w3.heap[bx]?=some (jstepO 17 txn sq nn key sv ao x y (-1) (-1) 0 0)∧RkN w3 np S2 R∧(∀ q∈S2,q∉rd cp w3):=fun w' hw'=>by
  have J:=HJ.out.new hw'
  have L:=JFr.new hw' HJ.out.size
  have HF1:=HLF.out.trans L
  refine (jDone hp p cp gp bT lp bD bN m n jp mp k txn fst c l d cv cs S R g w' sq J HMP.out.2.2.1 HMP.out.2.2.2 HG.out (by omega) (by omega) hB (HF1.met hB HMP.out.1) (HF1.pows hB HMP.out.2.1) ht).mono ?_
  rintro e w3 ⟨rfl,hWr⟩
  obtain ⟨m',n',c',l',d',g',e1,e2,e3,e4,e5,e6⟩:=hWr.jin
  have hk9:=hWr.ref np S2 R (HRN.out.1.frT hw' (by simp)) (fun q hq hm2=>(HRN.out.2 q hq).1 (by rw [(HJ.out.host.law hw' (by simp)).2.2] at hm2;exact hm2))
  exact ⟨rfl,m',n',c',l',d',g',e1,e2,e3,e4,e5,e6,HF1.trans hWr.fr,hWr.fr.step _ _ (L.step _ _ HSB.out),hk9.1,hk9.2⟩
 go_wp2
 go_region_held3 (fun w'=>w'.cell? ⟨jp,0,none⟩=some (.pointer (some ⟨hp,0,none⟩))∧w'.cell? ⟨bx,1,none⟩=some (.int .u64 (txn:Int))∧w'.cell? ⟨bx,2,none⟩=some (.int .i64 sq)∧w'.cell? ⟨bx,7,none⟩=some (.int .i64 (-1))∧w'.cell? ⟨bx,8,none⟩=some (.int .i64 (-1))∧w'.cell? ⟨bx,9,none⟩=some (.int .i64 0)∧w'.cell? ⟨bx,10,none⟩=some (.int .i64 0)) (simp [*])
  (first | (go_at_call 107;refine (hop _ (by first | exact (Fr.refl [] W2).drew | exact Fr.refl [] W2)).mono ?_;rintro e W3 ⟨rfl,m',n',c',l',d',g',h1,h2,h3,h4,h5,h6,h7,h8,h9,h10⟩;have aj0:=blk_cell h3.kb 0;have ab1:=blk_cell h8 1;have ab2:=blk_cell h8 2;have ab7:=blk_cell h8 7;have ab8:=blk_cell h8 8;have ab9:=blk_cell h8 9;have ab10:=blk_cell h8 10;simp at aj0 ab1 ab2 ab7 ab8 ab9 ab10;have H3:=toHid (And.intro h1 (And.intro h2 (And.intro h4 (And.intro h5 h6))));have HJ3:=toHid h3;have HL3:=toHid h7;have HS3:=toHid h8;have HR3:=toHid (And.intro h9 h10);clear h1 h2 h3 h4 h5 h6 h7 h8 h9 h10 hop))
 clear k0 k1 f1 z0 z1 z2 z3 z4 z5 z6 z7 z8 z9 z10 aj0 ab7 ab8 ab9 ab10
 have HJN:=toHid (HJ3.out.swap HR3.out.1 HR3.out.2)
 obtain ⟨al,hal⟩:∃ al,al=R.doneB txn sq:=⟨_,rfl⟩
 have HAL:=toHid hal
 clear hal
 have hab:∀ w',Fr [] W3 w'→Calls Tryz.prog 108 #[.pointer (some ⟨np,0,none⟩),.int .u64 (txn:Int),.int .i64 sq] w' fun e w5=>e=.returned (.bool al)∧∃ S5,JIy w5 hp p cp gp bT lp bD bN m' n' c' l' d' jp mp np cv cs S5 (R.done txn sq)∧JFr w w5∧w5.heap[bx]?=some (jstepO 17 txn sq nn key sv ao x y (-1) (-1) 0 0):=fun w' hw'=>by
  have J:=HJN.out.new hw'
  have L:=JFr.new hw' HJN.out.size
  refine (kdone_any np txn sq S2 R w' J.ref (by omega) (fun x hx=>⟨HG.out.rel.parts x hx,fun h6 e=>by have h9:=((HG.out.rel.ok x hx).1.com h6).2;rw [e] at h9;cases h9⟩)).mono ?_
  rintro e w5 ⟨he,S5,hr,hk⟩
  exact ⟨by rw [he,HAL.out],S5,J.kfr hk hr,(HL3.out.trans L).trans (hk.lfr J.ref),(hk.lfr J.ref).step _ _ (L.step _ _ HS3.out)⟩
 go_wp2_with fail
 refine (hab _ (Fr.refl [] W3)).mono ?_
 clear hab
 rintro e W5 ⟨rfl,S5,h1,h2,h3⟩
 clear ab1 ab2
 have ab1:=blk_cell h3 1
 have ab2:=blk_cell h3 2
 simp at ab1 ab2
 have HJ5:=toHid h1
 have HL5:=toHid h2
 have HS5:=toHid h3
 clear h1 h2 h3
 clear ab1 ab2
 have hG6:=H3.out.2.2.2.2
 have hlv:=hG6.rel.len
 have hr6:=hG6.res
 have ho6:=hG6.out
 have HD6:=toHid (show ∀ x∈(R.done txn sq).deals,x.parts.length≤1000 from fun x hx=>by have:=hG6.rel.parts x hx;omega)
 clear hG6
 cases al
 ·obtain ⟨J7,L7⟩:=HJ5.out.setM HJ5.out.ref HJ5.out.apart
  have b1:=blk_cell HJ5.out.kb 1
  have bf:=blk_free HJ5.out.kb 1
  simp at b1
  have HF:=toHid (show JSt w (W5.setCell ⟨jp,1,none⟩ (.pointer (some ⟨np,0,none⟩))) hp p cp gp bT lp bD bN m n jp k fst cs from ⟨⟨m',n',c',l',d',g',np,cv,cs,S5,_,by have:=H3.out.1;omega,H3.out.2.1,by omega,J7,H3.out.2.2.1,H3.out.2.2.2.1,H3.out.2.2.2.2⟩,HL5.out.trans L7⟩)
  clear J7 L7
  go_wp2
  go_ret
  exact ⟨rfl,HF.out⟩
 ·have hwr:=jwrote_any hp p cp gp bT lp bD bN m' n' jp mp np np c' l' d' cv cs S5 S5 _ _ W5 false HJ5.out HJ5.out.ref HJ5.out.apart (by omega) HD6.out (by omega) (by omega) (by omega)
  go_wp2_with fail
  refine hwr.mono ?_
  clear hwr
  rintro e W7 ⟨rfl,cv',cs',hc',J7,L7⟩
  have HF:=toHid (show JSt w W7 hp p cp gp bT lp bD bN m n jp k fst cs from ⟨⟨m',n',c',l',d',g',np,cv',cs',S5,_,by have:=H3.out.1;omega,H3.out.2.1,hc',J7,H3.out.2.2.1,H3.out.2.2.2.1,H3.out.2.2.2.2⟩,HL5.out.trans L7⟩)
  clear J7 L7 hc'
  go_wp2
  go_ret
  exact ⟨rfl,HF.out⟩
end
theorem dealAt_set {xs:List RDeal} (h:DAsc xs) {i:Nat} {x y:RDeal} (hi:xs[i]?=some x) (hy:y.id=x.id) {s:Nat} (hs:s≠x.id):dealAt (xs.set i y) s=dealAt xs s:=by
 cases hd:dealAt xs s with
 | none =>
  refine dealAt_none.2 fun z hz=>?_
  rcases mem_set h hi hz with rfl | ⟨h1,h2⟩
  ·omega
  ·exact dealAt_none.1 hd z h1
 | some z =>
  obtain ⟨hm,rfl⟩:=dealAt_mem hd
  refine (h.set hi hy).at ?_
  obtain ⟨j,hj⟩:=List.mem_iff_getElem?.1 hm
  have:i≠j:=fun e=>by subst e;rw [hi] at hj;cases hj;exact hs rfl
  exact List.mem_of_getElem? (i:=j) (by rw [List.getElem?_set_ne this];exact hj)
theorem dealAt_drop {xs:List RDeal} (h:DAsc xs) {i:Nat} {x:RDeal} (hi:xs[i]?=some x) {s:Nat} (hs:s≠x.id):dealAt (xs.take i++xs.drop (i+1)) s=dealAt xs s:=by
 cases hd:dealAt xs s with
 | none=>exact dealAt_none.2 fun z hz=>dealAt_none.1 hd z ((mem_drop h hi).1 hz).1
 | some z =>
  obtain ⟨hm,rfl⟩:=dealAt_mem hd
  have ha:DAsc (xs.take i++xs.drop (i+1)):=h.sublist (drop_sub _ _)
  exact ha.at ((mem_drop h hi).2 ⟨hm,hs⟩)
theorem tickOne_deals {R:RCo} (h:DAsc R.deals) (t:Nat):DAsc (R.tickOne t).deals∧(∀ s,s≠t→dealAt (R.tickOne t).deals s=dealAt R.deals s)∧(R.tickOne t).deals.length≤R.deals.length:=by
 cases hx:dealAt R.deals t with
 | none =>
  have e:R.tickOne t=R:=by unfold RCo.tickOne;rw [dealAt_nix hx]
  rw [e]
  exact ⟨h,fun s _=>rfl,Nat.le_refl _⟩
 | some x =>
  obtain ⟨i,hi,e⟩:=tickOne_of hx
  obtain rfl:x.id=t:=(dealAt_mem hx).2
  rw [e]
  split
  ·split
   ·unfold RCo.undone RCo.setAt
    simp only
    rw [set_drop]
    exact ⟨h.sublist (drop_sub _ _),fun s hs=>dealAt_drop h hi hs,(drop_sub _ _).length_le⟩
   ·exact ⟨h.set hi rfl,fun s hs=>dealAt_set (y:={ x with age:=x.age+1 }) h hi rfl hs,by simp⟩
  ·split
   ·exact ⟨h,fun s _=>rfl,Nat.le_refl _⟩
   ·exact ⟨h,fun s _=>rfl,Nat.le_refl _⟩
theorem ticks_deals:∀ (ids:List Nat) (R:RCo),DAsc R.deals→(∀ x∈R.deals,x.parts.length≤8)→DAsc (ids.foldl RCo.tickOne R).deals∧(∀ s,s∉ids→dealAt (ids.foldl RCo.tickOne R).deals s=dealAt R.deals s)∧(ids.foldl RCo.tickOne R).deals.length≤R.deals.length∧∀ x∈(ids.foldl RCo.tickOne R).deals,x.parts.length≤8:=by
 intro ids
 induction ids with
 | nil=>intro R h hp;exact ⟨h,fun s _=>rfl,Nat.le_refl _,hp⟩
 | cons t r ih =>
  intro R h hp
  obtain ⟨h1,h2,h3⟩:=tickOne_deals h t
  obtain ⟨_,_,_,h4⟩:=tickOne_len hp t
  obtain ⟨g1,g2,g3,g4⟩:=ih (R.tickOne t) h1 h4
  rw [List.foldl_cons]
  refine ⟨g1,fun s hs=>?_,Nat.le_trans g3 h3,g4⟩
  simp at hs
  rw [g2 s hs.2,h2 s hs.1]
theorem ticks_next (ids:List Nat) (R:RCo) {k t:Nat} (h:ids[k]?=some t):(ids.take (k+1)).foldl RCo.tickOne R=((ids.take k).foldl RCo.tickOne R).tickOne t:=by
 rw [List.take_add_one,h]
 simp
theorem nodup_take {ids:List Nat} (h:ids.Nodup) {k t:Nat} (hk:ids[k]?=some t):t∉ids.take k:=by
 intro hm
 obtain ⟨j,hj⟩:=List.mem_iff_getElem?.1 hm
 rw [List.getElem?_take] at hj
 split at hj
 ·obtain ⟨a1,a2⟩:=List.getElem?_eq_some_iff.1 hj
  obtain ⟨b1,b2⟩:=List.getElem?_eq_some_iff.1 hk
  have:=List.pairwise_iff_getElem.1 h j k a1 b1 (by omega)
  exact this (by rw [a2,b2])
 ·cases hj
theorem toPs_no {f:RPart→Bool} {t x:Nat} {l:List RPart} {k:Nat} {p:RPart} (hp:l[k]?=some p) (h:f p=false):toPs f t x (l.take (k+1))=toPs f t x (l.take k):=by
 unfold toPs
 rw [List.take_add_one,hp]
 simp [h]
theorem toPs_yes {f:RPart→Bool} {t x:Nat} {l:List RPart} {k:Nat} {p:RPart} (hp:l[k]?=some p) (h:f p=true):toPs f t x (l.take (k+1))=toPs f t x (l.take k)++[(t,p.shard,x)]:=by
 unfold toPs
 rw [List.take_add_one,hp]
 simp [h]
end Go.Proofs.YtejiankgafjppaaGreatDoor
