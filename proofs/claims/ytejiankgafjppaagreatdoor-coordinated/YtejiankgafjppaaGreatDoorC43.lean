import Derived.Test.YtejiankgafjppaaGreatDoorC40
import Derived.Test.YtejiankgafjppaaGreatDoorC42
import Derived.Test.YtejiankgafjppaaGreatDoorC38
namespace Go.Proofs.YtejiankgafjppaaGreatDoor
open Go.RowKit Go.Maps Go.Shelf
open Sc
theorem wp_partat {w:World} {o:Oper} {a:Act} {K:Act→World→Prop} {Q:Exit→Act→World→Prop} (s x:Operand)
  (ho:o.op=.call { callee:=.builtin .append,args:=#[s,x],argTypes:=#[142,142] })
  (base:Nat) (v:Value) (n:Nat) (xs:List Value) (y b:Nat) (hs:a.eval s=v) (hown:w.ownsRow base 204 3 v n xs) (hx:a.eval x=.slice (some ⟨b,0,none⟩) 1 1)
  (hb:w.heap[b]?=some (.cells #[.int .i64 (y:Int),.int .i64 0,.bool false] 204 (0,0))) (hn:n≤1099511627776) (hbase:base≤w.heap.size)
  (h:∀ v' w',w'.ownsRow base 204 3 v' (n+1) (xs++[.int .i64 (y:Int),.int .i64 0,.bool false])→w.grownBy w' v.ownBlock→(v'.ownBlock=v.ownBlock∨v'.ownBlock=some w.heap.size)→K (a.put o.dst v') w'):o.wp Tryz.prog a w K Q:=by
 obtain ⟨i0,hi,hz0,hz1,hz2⟩:=info_parts Tryz.infoPart
 have hc0:=blk_cell hb 0
 have hc1:=blk_cell hb 1
 have hc2:=blk_cell hb 2
 simp at hc0 hc1 hc2
 refine wp_append_at s x 142 ho base 204 i0 _ 3 24 Tryz.underlying142 hi hz0 hz1 hz2 rfl (by decide) v n xs hs hown ⟨b,0,none⟩ 1 1 [.int .i64 (y:Int),.int .i64 0,.bool false] hx rfl ?_ ?_ (by unfold maxLen;omega) (by omega) hbase ?_
 ·intro jj u hjj
  match jj,hjj with
  | 0,hjj=>simp at hjj;subst hjj;simpa [Addr.add] using hc0
  | 1,hjj=>simp at hjj;subst hjj;simpa [Addr.add] using hc1
  | 2,hjj=>simp at hjj;subst hjj;simpa [Addr.add] using hc2
 ·intro u hu;simp at hu;rcases hu with rfl | rfl | rfl <;> rfl
 ·intro v' w' ho' hg' ha'
  exact h v' w' ho' hg' ha'
structure KAl [Inhabited Bs] (w wr:World) (rp i g n c:Nat) (rv ov ov' pv:Value) (ps:List (RDeal × Value)) (R':RCo) (y:RDeal):Prop where
 inn:∃ ps',RkIn wr rp (.slice (some ⟨g,0,none⟩) n c) rv ov' ps' R'∧ps'[i]?=some (y,pv)∧KFr (kb rp (.slice (some ⟨g,0,none⟩) n c) rv ov ps) (kb rp (.slice (some ⟨g,0,none⟩) n c) rv ov' ps') w wr∧ps'.length=n
section
variable [Inhabited Bs] {w wr:World} {rp i g n c:Nat} {rv ov ov' pv:Value} {ps:List (RDeal × Value)} {R':RCo} {y:RDeal}
theorem KAl.cells (h:KAl w wr rp i g n c rv ov ov' pv ps R' y):wr.cell? ⟨rp,0,none⟩=some (.slice (some ⟨g,0,none⟩) n c)∧wr.cell? ⟨rp,3,none⟩=some ov'∧wr.cell? ⟨g,i*5+1,none⟩=some (.int .i64 (y.st:Int))∧wr.cell? ⟨g,i*5+2,none⟩=some (.int .i64 (y.age:Int))∧wr.cell? ⟨g,i*5+3,none⟩=some pv∧i<n∧g≠rp∧g<wr.heap.size∧rp<wr.heap.size∧(∀ j,wr.frozen? ⟨g,j,none⟩=false):=by
 obtain ⟨ps',hin,hp,_,hl⟩:=h.inn
 have c0:=blk_cell hin.blk 0
 have c3:=blk_cell hin.blk 3
 simp at c0 c3
 obtain ⟨ao,c',e,H⟩:=hin.slice
 obtain ⟨g',e2,x0,x1,x2,x3,x4⟩:=H i _ hp
 rw [e2] at e
 have eg:g=g':=by
  simp only [Value.slice.injEq,Option.some.injEq,Addr.mk.injEq,and_true] at e
  exact e.1
 subst eg
 obtain ⟨c2,e3⟩:=own_cells hin.dls (g:=g) rfl
 exact ⟨c0,c3,x1,x2,x3,by rw [← hl];exact (List.getElem?_eq_some_iff.1 hp).1,fun e=>own_ne hin.dls hin.blk (by decide) (by rw [e];rfl),(hin.dls.lt g rfl).2,(Array.getElem?_eq_some_iff.1 hin.blk).1,fun j=>blk_free e3 j⟩
theorem KAl.setF (h:KAl w wr rp i g n c rv ov ov' pv ps R' y) {j:Nat} {u:Value} {y':RDeal} (hj:j<5) (hf:dealC (y',pv)=(dealC (y,pv)).set j u) (hl:y'.parts=y.parts):KAl w (wr.setCell ⟨g,i*5+j,none⟩ u) rp i g n c rv ov ov' pv ps { R' with deals:=R'.deals.set i y' } y':=by
 obtain ⟨ps',hin,hp,hkf,hl2⟩:=h.inn
 obtain ⟨h1,h2⟩:=hin.setF (by rw [hl2]) hp hj hf hl
 exact ⟨_,h1,by rw [List.getElem?_set_self (List.getElem?_eq_some_iff.1 hp).1],hkf.trans h2,by rw [List.length_set];exact hl2⟩
theorem KAl.fr {wr':World} (h:KAl w wr rp i g n c rv ov ov' pv ps R' y) (hf:Fr [] wr wr'):KAl w wr' rp i g n c rv ov ov' pv ps R' y:=by
 obtain ⟨ps',hin,hp,hkf,hl⟩:=h.inn
 exact ⟨ps',hin.fr hf,hp,hkf.trans (KFr.of hf),hl⟩
theorem KAl.cast {R2:RCo} {y2:RDeal} (h:KAl w wr rp i g n c rv ov ov' pv ps R' y) (e1:R'=R2) (e2:y=y2):KAl w wr rp i g n c rv ov ov' pv ps R2 y2:=by subst e1 e2;exact h
end
abbrev askP1 (z:Nat):RPart:=⟨z,0,false⟩
theorem asked_next {xs:List Nat} {k x:Nat} (h:xs[k]?=some x):askedP (xs.take (k+1))=askedP (xs.take k)++[askP1 x]:=by
 unfold askedP
 rw [List.take_add_one,h]
 simp
set_option maxRecDepth 100000 in
set_option maxHeartbeats 4000000 in
theorem kcommit_yes [Inhabited Bs] (rp t i:Nat) (ao:Option Addr) (cap:Nat) (xs:List Nat) (hr:Rising xs) (S:List Nat) (R:RCo) (x:RDeal) (w:World) (h:RkN w rp S R) (hn:R.deals.length≤1048576) (hix:dealIx R.deals t=some i) (hx:R.deals[i]?=some x) (h4:x.st=4) (hp0:x.parts=[]) (hz:ZsIn w ao (xs.map fun x:Nat=>(x:Int))) (hol:R.out.length≤1048000) :
  Calls Tryz.prog 97 #[.pointer (some ⟨rp,0,none⟩),.int .u64 (t:Int),.slice ao xs.length cap] w fun e w'=>e=.returned (.int .i64 0)∧∃ S',RkN w' rp S' (R.commit t xs)∧KFr S S' w w':=by
 obtain ⟨xv,rv,ov,ps,h,rfl⟩:=h
 have hps:=h.len
 have hf:=kfind_any rp t xv rv ov ps R w h (by omega)
 have c0:=blk_cell h.blk 0
 simp at c0
 obtain ⟨ax,c,hxv,H⟩:=h.slice
 rw [hxv] at c0
 obtain ⟨v0,hv0⟩:=h.at hx
 obtain ⟨g,rfl,x0,x1,x2,x3,x4⟩:=H i _ hv0
 have hil:=(List.getElem?_eq_some_iff.1 hv0).1
 rw [hix] at hf
 have e1:ixI (some i)=(i:Int):=rfl
 rw [e1] at hf
 have i0:¬ (i:Int)<0:=by omega
 have i1:(0:Int)≤(i:Int):=by omega
 have i2:(i:Int)<(ps.length:Int):=by omega
 simp only at x1
 rw [h4] at x1
 obtain ⟨n,hnn⟩:∃ n,n=ps.length:=⟨_,rfl⟩
 rw [← hnn] at c0 i2 hil hxv
 have HK0:Hid (KAl w w rp i g n c rv ov ov v0 ps R x):=⟨ps,by rw [← hxv];exact h,hv0,⟨Fr.refl _ _,fun _ hk _=>hk⟩,hnn.symm⟩
 have HX:=toHid (show x.parts=[]∧R.deals[i]?=some x∧dealIx R.deals t=some i∧x.st=4 from ⟨hp0,hx,hix,h4⟩)
 have HR:=toHid hr
 have hl8:=hr.len
 have hl0:0<xs.length:=List.length_pos_iff.2 hr.ne
 have HZ:=toHid (show ∀ (k y:Nat),xs[k]?=some y→∃ g off,ao=some ⟨g,off,none⟩∧g<B0∧w.cell? ⟨g,off+k,none⟩=some (.int .i64 (y:Int)) from fun k y hy=>(hz k (y:Int) (by rw [List.getElem?_map,hy];rfl)).2)
 have HOL:=toHid hol
 have HLOW:=toHid (show B0≤w.heap.size∧∀ q∈kb rp (.slice (some ⟨g,0,none⟩) n c) rv ov ps,B0≤q from ⟨h.low,fun q hq=>by
  rw [← hxv] at hq
  rcases mem_kb.1 hq with rfl | e | e | e | ⟨y,hy,e⟩
  ·exact h.base
  ·exact (h.dls.lt q e).1
  ·exact (h.res.lt q e).1
  ·exact (h.out.lt q e).1
  ·exact ((h.prt y hy).lt q e).1⟩)
 obtain ⟨m,hm⟩:∃ m,m=xs.length:=⟨_,rfl⟩
 rw [← hm] at hl8 hl0 ⊢
 have HM:Hid (xs.length=m):=hm.symm
 have hnb:n≤1048576:=by omega
 have m0:¬ (m:Int)=0:=by omega
 have bm0:((m:Int) == 0)=false:=beq_eq_false_iff_ne.2 m0
 rw [hxv]
 clear h H hix hx hv0 e1 hxv hps hnn hm x0 x2 x3 x4 h4 hol hn hz hr hp0
 go_enter Tryz.func97,Tryz.ntmps97
 go_wp2_with fail
 refine hf.mono ?_
 clear hf
 rintro e w1 ⟨rfl,q,rfl⟩
 go_wp2
 go_loopw [8] (fun j wr=>∃ k:Nat,k≤m∧j=.int .i64 k∧Hid True∧∃ q,wr=w.drewN q) (fun j _=>m - (intOf j).toNat)
 case atStart=>exact ⟨0,Nat.zero_le _,rfl,trivial,_,rfl⟩
 case round =>
  obtain ⟨k,hk,rfl,HTR0,q,rfl⟩:=hrel
  by_cases hlt:k<m
  ·obtain ⟨z,hz⟩:∃ z,xs[k]?=some z:=⟨_,List.getElem?_eq_getElem (by rw [HM.out];exact hlt)⟩
   obtain ⟨gz,off,rfl,hgB,y0⟩:=HZ.out k z hz
   obtain ⟨r1,r8,rp'⟩:=HR.out.to hz
   have k0:(0:Int)≤(k:Int):=by omega
   have k1:(k:Int)<(m:Int):=by omega
   have d1:decide ((z:Int)<1)=false:=decide_eq_false (by omega)
   have d8:decide ((8:Int)<(z:Int))=false:=decide_eq_false (by omega)
   by_cases hk0:k=0
   ·subst hk0
    rw [Nat.add_zero] at y0
    clear hz rp' r1 r8 hgB
    go_wp2
    go_quiet (fail)
    go_wp2
    go_roundw
    case rel=>exact ⟨1,by omega,by go_num,HTR0,_,rfl⟩
    case measure=>simp [intOf];omega
   ·obtain ⟨j,rfl⟩:∃ j,k=j+1:=⟨k - 1,by omega⟩
    obtain ⟨y,hy⟩:∃ y,xs[j]?=some y:=⟨_,List.getElem?_eq_getElem (by rw [HM.out];omega)⟩
    obtain ⟨gy,offy,ey,_,y1⟩:=HZ.out j y hy
    simp only [Option.some.injEq,Addr.mk.injEq,and_true] at ey
    obtain ⟨rfl,rfl⟩:=ey
    have hyz:=rp' y (by omega) (by rw [show j+1 - 1=j by omega];exact hy)
    have kp:(0:Int)<((j+1:Nat):Int):=by omega
    have ks:(((j+1:Nat):Int) - 1)=(j:Int):=by omega
    have kw:IntKind.i64.wrap (j:Int)=(j:Int):=by rw [IntKind.wrap_i64];omega
    have dk:decide ((0:Int)<(j:Int)+1)=true:=decide_eq_true (by omega)
    have j0:(0:Int)≤(j:Int):=by omega
    have j1:(j:Int)<(m:Int):=by omega
    have dz:decide ((z:Int)≤(y:Int))=false:=decide_eq_false (by omega)
    have HTR:Hid True:=trivial
    obtain ⟨s1,s8,_⟩:=HR.out.to hy
    clear hz hy rp' hgB
    go_wp2
    go_quiet (fail)
    go_wp2
    go_roundw
    case rel=>exact ⟨j+1+1,by omega,by go_num,HTR,_,rfl⟩
    case measure=>simp [intOf];omega
  ·have hnl:¬ (k:Int)<(m:Int):=by omega
   have HKA:Hid (KAl w (w.drewN q) rp i g n c rv ov ov v0 ps { R with deals:=R.deals.set i (x.pt (askedP (xs.take 0))),out:=R.out++(xs.take 0).map fun y=>(t,y,1) } (x.pt (askedP (xs.take 0)))):=by
    refine (HK0.out.fr ((Fr.refl [] w).drewM q)).cast ?_ ?_
    ·have e:x.pt (askedP (xs.take 0))=x:=by unfold RDeal.pt askedP;rw [List.take_zero,List.map_nil,← HX.out.1]
     rw [e,set_same HX.out.2.1]
     simp
    ·unfold RDeal.pt askedP;rw [List.take_zero,List.map_nil,← HX.out.1]
   clear HK0
   go_wp2
   go_loopw [9] (fun j wr=>∃ (k:Nat) (pv ov':Value),k≤m∧j=.int .i64 k∧Hid (KAl w wr rp i g n c rv ov ov' pv ps { R with deals:=R.deals.set i (x.pt (askedP (xs.take k))),out:=R.out++(xs.take k).map fun y=>(t,y,1) } (x.pt (askedP (xs.take k))))) (fun j _=>m - (intOf j).toNat)
   case atStart=>exact ⟨0,v0,ov,Nat.zero_le _,rfl,HKA⟩
   case round =>
    obtain ⟨k,pv,ov1,hk,rfl,HK⟩:=hrel
    obtain ⟨a0,a1,a2,a3,a4,hin,gne,hgl,hrl,gfr⟩:=HK.out.cells
    have gf:=gfr (i*5+3)
    by_cases hlt:k<m
    ·obtain ⟨z,hz⟩:∃ z,xs[k]?=some z:=⟨_,List.getElem?_eq_getElem (by rw [HM.out];exact hlt)⟩
     obtain ⟨gz,off,rfl,hgB,y0⟩:=HZ.out k z hz
     have k0:(0:Int)≤(k:Int):=by omega
     have k1:(k:Int)<(m:Int):=by omega
     obtain ⟨ps5,hin5,hp5,hkf5,hl5⟩:=HK.out.inn
     have hpr5:=hin5.prt _ (List.mem_of_getElem? hp5)
     have hzw:wr.cell? ⟨gz,off+k,none⟩=some (.int .i64 (z:Int)):=by
      have hbl:wr.heap[gz]?=w.heap[gz]?:=hkf5.fr.block gz (Nat.lt_of_lt_of_le hgB HLOW.out.1) (fun hm=>by have:=HLOW.out.2 gz hm;omega)
      exact (World.cell?_of_block (a:=⟨gz,off+k,none⟩) hbl).trans y0
     obtain ⟨PL,hPL⟩:∃ PL,PL=askedP (xs.take k):=⟨_,rfl⟩
     obtain ⟨NP,hNP⟩:∃ NP,NP=PL.length:=⟨_,rfl⟩
     have hNPb:NP≤8:=by rw [hNP,hPL];unfold askedP;rw [List.length_map,List.length_take,HM.out];omega
     obtain ⟨OL,hOL⟩:∃ OL,OL=R.out++(xs.take k).map fun y=>(t,y,1):=⟨_,rfl⟩
     obtain ⟨N,hN⟩:∃ N,N=OL.length:=⟨_,rfl⟩
     have hNb:N≤1048600:=by
      have h2:=HOL.out
      rw [hN,hOL,List.length_append,List.length_map,List.length_take,HM.out]
      omega
     rw [← hPL] at hin5 hp5 hpr5
     rw [← hOL] at hin5
     have hlow5:=hin5.low
     have hgzl:gz<wr.heap.size:=by omega
     have HL:=toHid (show rp<wr.heap.size∧gz<wr.heap.size∧g<wr.heap.size∧pv.ownBlock≠some rp∧pv.ownBlock≠some gz∧pv.ownBlock≠some g∧rp≠g∧gz≠g from ⟨hrl,hgzl,hgl,own_ne hpr5 hin5.blk (by decide),fun e=>by have:=(hpr5.lt gz e).1;omega,fun e=>own_apart hpr5 hin5.dls (by decide) e rfl,fun e=>gne e.symm,by have:=(hin5.dls.lt g rfl).1;omega⟩)
     have HA:=toHid (show RkIn wr rp (.slice (some ⟨g,0,none⟩) n c) rv ov1 ps5 { R with deals:=R.deals.set i (x.pt PL),out:=OL }∧wr.ownsRow B0 204 3 pv NP (prtsV PL) from ⟨hin5,by rw [hNP];exact hpr5⟩)
     have HSF:=toHid (show ∀ W':World,W'.heap[rp]?=wr.heap[rp]?→W'.heap[gz]?=wr.heap[gz]?→W'.cell? ⟨rp,0,none⟩=some (.slice (some ⟨g,0,none⟩) n c)∧W'.cell? ⟨gz,off+k,none⟩=some (.int .i64 (z:Int)) from fun W' h1 h2=>⟨(World.cell?_of_block (a:=⟨rp,0,none⟩) h1).trans a0,(World.cell?_of_block (a:=⟨gz,off+k,none⟩) h2).trans hzw⟩)
     have HCP:Hid (wr.cell? ⟨g,i*5+3,none⟩=some pv∧wr.frozen? ⟨g,i*5+3,none⟩=false):=⟨a4,gf⟩
     have al0:∀ o,(wr.drew.alloc o).heap[rp]?=wr.heap[rp]?:=fun o=>Below.heap_alloc wr.drew o rp hrl
     have al1:∀ o,(wr.drew.alloc o).heap[gz]?=wr.heap[gz]?:=fun o=>Below.heap_alloc wr.drew o gz hgzl
     have al3:∀ o,(wr.drew.alloc o).cell? ⟨g,i*5+3,none⟩=some pv:=fun o=>(World.cell?_alloc_lt _ _ _ hgl).trans a4
     have al4:∀ o,(wr.alloc o).cell? ⟨g,i*5+3,none⟩=some pv:=fun o=>(World.cell?_alloc_lt _ _ _ hgl).trans a4
     have HZ1:=toHid (show ∀ (w1:World) (v':Value),Fr pv.ownBlock.toList wr w1→w1.ownsRow B0 204 3 v' (NP+1) (prtsV PL++[.int .i64 (z:Int),.int .i64 0,.bool false])→(v'.ownBlock=pv.ownBlock∨∃ u,v'.ownBlock=some u∧wr.heap.size≤u)→∃ ps6,RkIn (w1.setCell ⟨g,i*5+3,none⟩ v') rp (.slice (some ⟨g,0,none⟩) n c) rv ov1 ps6 { R with deals:=R.deals.set i (x.pt (PL++[askP1 z])),out:=OL }∧ps6[i]?=some (x.pt (PL++[askP1 z]),v')∧KFr (kb rp (.slice (some ⟨g,0,none⟩) n c) rv ov ps) (kb rp (.slice (some ⟨g,0,none⟩) n c) rv ov1 ps6) w (w1.setCell ⟨g,i*5+3,none⟩ v')∧ps6.length=n from fun w1 v' hfr hown hat=>by
      obtain ⟨q1,q2⟩:=hin5.setL (x':=x.pt (PL++[askP1 z])) (v2:=v') (by rw [hl5]) hp5 hfr (by show w1.ownsRow B0 _ 3 v' (PL++[askP1 z]).length (prtsV (PL++[askP1 z]));rw [List.length_append,prtsV_app,← hNP];exact hown) hat rfl
      refine ⟨_,?_,by rw [List.getElem?_set_self (List.getElem?_eq_some_iff.1 hp5).1],hkf5.trans q2,by rw [List.length_set];exact hl5⟩
      have e:({ R with deals:=R.deals.set i (x.pt (PL++[askP1 z])),out:=OL }:RCo)={ ({ R with deals:=R.deals.set i (x.pt PL),out:=OL }:RCo) with deals:=({ R with deals:=R.deals.set i (x.pt PL),out:=OL }:RCo).deals.set i (x.pt (PL++[askP1 z])) }:=by simp
      rw [e]
      exact q1)
     have HPLN:=toHid (show askedP (xs.take (k+1))=PL++[askP1 z]∧(R.out++(xs.take (k+1)).map fun y=>(t,y,1))=OL++[(t,z,1)]∧OL.length=N from ⟨by rw [asked_next hz,hPL],by rw [hOL,List.take_add_one,hz];simp,hN.symm⟩)
     have HGZ:=toHid (show gz<B0 from hgB)
     clear hin5 hp5 hkf5 hl5 hpr5 hPL hNP hOL hN hlow5 hgzl hz hzw y0 a1 a2 a3 gfr HK gne hgl hrl hgB
     go_wp2
     refine wp_region_held_drew (S:=(fun w'=>w'.cell? ⟨rp,0,none⟩=some (.slice (some ⟨g,0,none⟩) n c)∧w'.cell? ⟨gz,off+k,none⟩=some (.int .i64 (z:Int)))) (by kernel_rfl) (HSF.out _ rfl rfl) (fun hHeld=>?_)
     refine wpAnyH_take (i:=0) (oi:=⟨some 70,.move (.tmp 0),78,"coord.go:119",#[],none⟩) (v:=.pointer (some ⟨rp,0,none⟩)) rfl (by kernel_rfl) (by kernel_rfl) (by kernel_rfl) (fun _ _ _ h=>h) (Or.inl ⟨by rfl,?_⟩) (by assumption) ?_
     ·intro w hSw;(try dsimp only at hSw);go_simp
     (try simp only [Act.put,List.setIfInBounds_toArray,List.set_cons_zero,List.set_cons_succ])
     refine wpAnyH_take (i:=1) (oi:=⟨some 71,.nilCheck (.tmp 70),0,"coord.go:119",#[⟨0,.data⟩],none⟩) (v:=.pointer (some ⟨rp,0,none⟩)) rfl (by kernel_rfl) (by kernel_rfl) (by kernel_rfl) (fun _ _ _ h=>h) (Or.inl ⟨by rfl,?_⟩) (by assumption) ?_
     ·intro w hSw;(try dsimp only at hSw);go_simp
     (try simp only [Act.put,List.setIfInBounds_toArray,List.set_cons_zero,List.set_cons_succ])
     refine wpAnyH_take (i:=2) (oi:=⟨some 72,.fieldAddr 141 (.tmp 71) 0,0,"coord.go:119",#[⟨1,.data⟩],none⟩) (v:=.pointer (some ⟨rp,0,none⟩)) rfl (by kernel_rfl) (by kernel_rfl) (by kernel_rfl) (fun _ _ _ h=>h) (Or.inl ⟨by rfl,?_⟩) (by assumption) ?_
     ·intro w hSw;(try dsimp only at hSw);go_simp
     (try simp only [Act.put,List.setIfInBounds_toArray,List.set_cons_zero,List.set_cons_succ])
     refine wpAnyH_take (i:=3) (oi:=⟨some 73,.load 137 (.tmp 72),137,"coord.go:119",#[⟨2,.data⟩],none⟩) (v:=.slice (some ⟨g,0,none⟩) n c) rfl (by kernel_rfl) (by kernel_rfl) (by kernel_rfl) (fun _ _ _ h=>h) (Or.inl ⟨by rfl,?_⟩) (by assumption) ?_
     ·intro w hSw;(try dsimp only at hSw);go_simp
     (try simp only [Act.put,List.setIfInBounds_toArray,List.set_cons_zero,List.set_cons_succ])
     refine wpAnyH_take (i:=4) (oi:=⟨some 74,.move (.tmp 7),3,"coord.go:119",#[],none⟩) (v:=.int .i64 (i:Int)) rfl (by kernel_rfl) (by kernel_rfl) (by kernel_rfl) (fun _ _ _ h=>h) (Or.inl ⟨by rfl,?_⟩) (by assumption) ?_
     ·intro w hSw;(try dsimp only at hSw);go_simp
     (try simp only [Act.put,List.setIfInBounds_toArray,List.set_cons_zero,List.set_cons_succ])
     refine wpAnyH_take (i:=5) (oi:=⟨some 75,.move (.tmp 0),78,"coord.go:119",#[],none⟩) (v:=.pointer (some ⟨rp,0,none⟩)) rfl (by kernel_rfl) (by kernel_rfl) (by kernel_rfl) (fun _ _ _ h=>h) (Or.inl ⟨by rfl,?_⟩) (by assumption) ?_
     ·intro w hSw;(try dsimp only at hSw);go_simp
     (try simp only [Act.put,List.setIfInBounds_toArray,List.set_cons_zero,List.set_cons_succ])
     refine wpAnyH_take (i:=6) (oi:=⟨some 76,.nilCheck (.tmp 75),0,"coord.go:119",#[⟨5,.data⟩],none⟩) (v:=.pointer (some ⟨rp,0,none⟩)) rfl (by kernel_rfl) (by kernel_rfl) (by kernel_rfl) (fun _ _ _ h=>h) (Or.inl ⟨by rfl,?_⟩) (by assumption) ?_
     ·intro w hSw;(try dsimp only at hSw);go_simp
     (try simp only [Act.put,List.setIfInBounds_toArray,List.set_cons_zero,List.set_cons_succ])
     refine wpAnyH_take (i:=7) (oi:=⟨some 77,.fieldAddr 141 (.tmp 76) 0,0,"coord.go:119",#[⟨6,.data⟩],none⟩) (v:=.pointer (some ⟨rp,0,none⟩)) rfl (by kernel_rfl) (by kernel_rfl) (by kernel_rfl) (fun _ _ _ h=>h) (Or.inl ⟨by rfl,?_⟩) (by assumption) ?_
     ·intro w hSw;(try dsimp only at hSw);go_simp
     (try simp only [Act.put,List.setIfInBounds_toArray,List.set_cons_zero,List.set_cons_succ])
     refine wpAnyH_take (i:=8) (oi:=⟨some 78,.load 137 (.tmp 77),137,"coord.go:119",#[⟨7,.data⟩],none⟩) (v:=.slice (some ⟨g,0,none⟩) n c) rfl (by kernel_rfl) (by kernel_rfl) (by kernel_rfl) (fun _ _ _ h=>h) (Or.inl ⟨by rfl,?_⟩) (by assumption) ?_
     ·intro w hSw;(try dsimp only at hSw);go_simp
     (try simp only [Act.put,List.setIfInBounds_toArray,List.set_cons_zero,List.set_cons_succ])
     refine wpAnyH_take (i:=9) (oi:=⟨some 79,.move (.tmp 7),3,"coord.go:119",#[],none⟩) (v:=.int .i64 (i:Int)) rfl (by kernel_rfl) (by kernel_rfl) (by kernel_rfl) (fun _ _ _ h=>h) (Or.inl ⟨by rfl,?_⟩) (by assumption) ?_
     ·intro w hSw;(try dsimp only at hSw);go_simp
     (try simp only [Act.put,List.setIfInBounds_toArray,List.set_cons_zero,List.set_cons_succ])
     refine wpAnyH_take (i:=10) (oi:=⟨some 80,.indexAddr 137 (.tmp 78) (.tmp 79),0,"coord.go:119",#[⟨8,.data⟩,⟨9,.data⟩],none⟩) (v:=.pointer (some ⟨g,i*5,none⟩)) rfl (by kernel_rfl) (by kernel_rfl) (by kernel_rfl) (fun _ _ _ h=>h) (Or.inl ⟨by rfl,?_⟩) (by assumption) ?_
     ·intro w hSw;(try dsimp only at hSw);go_simp
     (try simp only [Act.put,List.setIfInBounds_toArray,List.set_cons_zero,List.set_cons_succ])
     refine wpAnyH_take (i:=11) (oi:=⟨some 81,.fieldAddr 144 (.tmp 80) 3,0,"coord.go:119",#[⟨10,.data⟩],none⟩) (v:=.pointer (some ⟨g,i*5+3,none⟩)) rfl (by kernel_rfl) (by kernel_rfl) (by kernel_rfl) (fun _ _ _ h=>h) (Or.inl ⟨by rfl,?_⟩) (by assumption) ?_
     ·intro w hSw;(try dsimp only at hSw);go_simp
     (try simp only [Act.put,List.setIfInBounds_toArray,List.set_cons_zero,List.set_cons_succ])
     refine wpAnyH_take (i:=13) (oi:=⟨some 83,.move (.tmp 2),26,"coord.go:119",#[],none⟩) (v:=.slice (some ⟨gz,off,none⟩) m cap) rfl (by kernel_rfl) (by kernel_rfl) (by kernel_rfl) (fun _ _ _ h=>h) (Or.inl ⟨by rfl,?_⟩) (by assumption) ?_
     ·intro w hSw;(try dsimp only at hSw);go_simp
     (try simp only [Act.put,List.setIfInBounds_toArray,List.set_cons_zero,List.set_cons_succ])
     refine wpAnyH_take (i:=14) (oi:=⟨some 84,.move (.tmp 9),3,"coord.go:119",#[],none⟩) (v:=.int .i64 (k:Int)) rfl (by kernel_rfl) (by kernel_rfl) (by kernel_rfl) (fun _ _ _ h=>h) (Or.inl ⟨by rfl,?_⟩) (by assumption) ?_
     ·intro w hSw;(try dsimp only at hSw);go_simp
     (try simp only [Act.put,List.setIfInBounds_toArray,List.set_cons_zero,List.set_cons_succ])
     refine wpAnyH_take (i:=15) (oi:=⟨some 85,.indexAddr 26 (.tmp 83) (.tmp 84),0,"coord.go:119",#[⟨13,.data⟩,⟨14,.data⟩],none⟩) (v:=.pointer (some ⟨gz,off+k,none⟩)) rfl (by kernel_rfl) (by kernel_rfl) (by kernel_rfl) (fun _ _ _ h=>h) (Or.inl ⟨by rfl,?_⟩) (by assumption) ?_
     ·intro w hSw;(try dsimp only at hSw);go_simp
     (try simp only [Act.put,List.setIfInBounds_toArray,List.set_cons_zero,List.set_cons_succ])
     refine wpAnyH_take (i:=16) (oi:=⟨some 86,.load 3 (.tmp 85),3,"coord.go:119",#[⟨15,.data⟩],none⟩) (v:=.int .i64 (z:Int)) rfl (by kernel_rfl) (by kernel_rfl) (by kernel_rfl) (fun _ _ _ h=>h) (Or.inl ⟨by rfl,?_⟩) (by assumption) ?_
     ·intro w hSw;(try dsimp only at hSw);go_simp
     (try simp only [Act.put,List.setIfInBounds_toArray,List.set_cons_zero,List.set_cons_succ])
     refine wpAnyH_take (i:=17) (oi:=⟨some 87,.build 204 #[(0,.tmp 86)],204,"coord.go:119",#[⟨16,.data⟩],none⟩) (v:=.agg #[.int .i64 (z:Int),.int .i64 0,.bool false]) rfl (by kernel_rfl) (by kernel_rfl) (by kernel_rfl) (fun _ _ _ h=>h) (Or.inl ⟨by rfl,?_⟩) (by assumption) ?_
     ·intro w hSw;(try dsimp only at hSw);go_simp
     (try simp only [Act.put,List.setIfInBounds_toArray,List.set_cons_zero,List.set_cons_succ])
     refine wpAnyH_ready (rs:=[12,18]) (by kernel_rfl) (by simp) ?_
     refine AllReadyH.cons (o:=⟨some 82,.load 142 (.tmp 81),142,"coord.go:119",#[⟨11,.data⟩],none⟩) rfl (fun K hK=>?_) (AllReadyH.cons (o:=⟨some 88,.buildSlice 142 1 #[(0,.tmp 87)],142,"coord.go:119",#[⟨17,.data⟩],none⟩) rfl (fun K hK=>?_) AllReadyH.nil)
     ·go_simp
      refine hK.out _ _ ?_ (fun hHeld=>?_)
      ·exact HSF.out _ rfl rfl
      clear hK K
      (try simp only [Act.put,List.setIfInBounds_toArray,List.set_cons_zero,List.set_cons_succ])
      refine wpAnyH_ready (rs:=[18]) (by kernel_rfl) (by simp) ?_
      refine AllReadyH.cons (o:=⟨some 88,.buildSlice 142 1 #[(0,.tmp 87)],142,"coord.go:119",#[⟨17,.data⟩],none⟩) rfl (fun K hK=>?_) AllReadyH.nil
      go_simp
      refine hK.out _ _ ?_ (fun hHeld=>?_)
      ·exact HSF.out _ (al0 _) (al1 _)
      clear hK K
      (try simp only [Act.put,List.setIfInBounds_toArray,List.set_cons_zero,List.set_cons_succ])
      refine wpAnyH_ready (rs:=[19]) (by kernel_rfl) (by simp) ?_
      refine AllReadyH.cons rfl (fun K hK=>?_) AllReadyH.nil
      rw [if_pos (by rfl)]
      refine wp_partat _ _ rfl B0 pv NP (prtsV PL) z wr.heap.size rfl (ownsRow_fr HA.out.2 ((Fr.refl [] wr).drew.alloc _) (by simp)) rfl (heap_alloc_new _ _) (by omega) (by have:=HA.out.1.low;simp;omega) ?_
      intro v' w1 hown' hgrow hat0
      obtain ⟨av,mv,cv,rfl⟩:=own_sl hown'
      have hfa:Fr [] wr (wr.drew.alloc (.cells #[.int .i64 (z:Int),.int .i64 0,.bool false] 204)):=(Fr.refl [] wr).drew.alloc _
      have fro:Fr pv.ownBlock.toList wr w1:=(hfa.mono (by simp)).trans (Fr.of_grown hgrow)
      have g0:=fro.block rp HL.out.1 (by simp;exact HL.out.2.2.2.1)
      have g1:=fro.block gz HL.out.2.1 (by simp;exact HL.out.2.2.2.2.1)
      have gg:=fro.block g HL.out.2.2.1 (by simp;exact HL.out.2.2.2.2.2.1)
      have d3:=(World.cell?_of_block (a:=⟨g,i*5+3,none⟩) gg).trans HCP.out.1
      have f3:=(World.frozen?_of_block (a:=⟨g,i*5+3,none⟩) gg).trans HCP.out.2
      have HX:=toHid (HZ1.out w1 (.slice av mv cv) fro hown' (hat0.elim .inl (fun e=>.inr ⟨_,e,by simp⟩)))
      have HE0:=toHid (fun u=>(Below.heap_setCell w1 ⟨g,i*5+3,none⟩ u rp HL.out.2.2.2.2.2.2.1).trans g0)
      have HE1:=toHid (fun u=>(Below.heap_setCell w1 ⟨g,i*5+3,none⟩ u gz HL.out.2.2.2.2.2.2.2).trans g1)
      clear hown' hgrow hat0 hfa fro gg
      refine hK.out _ _ ?_ (fun hHeld=>?_)
      ·exact HSF.out _ g0 g1
      clear hK K
      (try simp only [Act.put,List.setIfInBounds_toArray])
      refine wpAnyH_take (i:=20) (oi:=⟨some 90,.indexAddr 137 (.tmp 73) (.tmp 74),0,"coord.go:119",#[⟨3,.data⟩,⟨4,.data⟩,⟨0,.phase⟩,⟨1,.phase⟩,⟨2,.phase⟩,⟨3,.phase⟩,⟨4,.phase⟩,⟨5,.phase⟩,⟨6,.phase⟩,⟨7,.phase⟩,⟨8,.phase⟩,⟨9,.phase⟩,⟨10,.phase⟩,⟨11,.phase⟩,⟨12,.phase⟩,⟨13,.phase⟩,⟨14,.phase⟩,⟨15,.phase⟩,⟨16,.phase⟩,⟨17,.phase⟩,⟨18,.phase⟩,⟨19,.phase⟩],none⟩) (v:=.pointer (some ⟨g,i*5,none⟩)) rfl (by kernel_rfl) (by kernel_rfl) (by kernel_rfl) (fun _ _ _ h=>h) (Or.inl ⟨by rfl,?_⟩) (by assumption) ?_
      ·intro w hSw;(try dsimp only at hSw);go_simp
      (try simp only [Act.put])
      refine wpAnyH_take (i:=21) (oi:=⟨some 91,.fieldAddr 144 (.tmp 90) 3,0,"coord.go:119",#[⟨20,.data⟩,⟨0,.phase⟩,⟨1,.phase⟩,⟨2,.phase⟩,⟨3,.phase⟩,⟨4,.phase⟩,⟨5,.phase⟩,⟨6,.phase⟩,⟨7,.phase⟩,⟨8,.phase⟩,⟨9,.phase⟩,⟨10,.phase⟩,⟨11,.phase⟩,⟨12,.phase⟩,⟨13,.phase⟩,⟨14,.phase⟩,⟨15,.phase⟩,⟨16,.phase⟩,⟨17,.phase⟩,⟨18,.phase⟩,⟨19,.phase⟩],none⟩) (v:=.pointer (some ⟨g,i*5+3,none⟩)) rfl (by kernel_rfl) (by kernel_rfl) (by kernel_rfl) (fun _ _ _ h=>h) (Or.inl ⟨by rfl,?_⟩) (by assumption) ?_
      ·intro w hSw;(try dsimp only at hSw);go_simp
      (try simp only [Act.put])
      refine wpAnyH_ready (rs:=[22]) (by kernel_rfl) (by simp) ?_
      refine AllReadyH.cons rfl (fun K hK=>?_) AllReadyH.nil
      go_simp
      refine hK.out _ _ ?_ (fun hHeld=>?_)
      ·exact HSF.out _ (HE0.out _) (HE1.out _)
      clear hK K
      (try simp only [Act.put,List.setIfInBounds_toArray,List.set_cons_zero,List.set_cons_succ])
      refine wpAnyH_done (by kernel_rfl) ?_ _
      obtain ⟨ps6,hin6,hp6,hkf6,hl6⟩:=HX.out
      obtain ⟨W5,hW5⟩:∃ W5,W5=w1.setCell ⟨g,i*5+3,none⟩ (.slice av mv cv):=⟨_,rfl⟩
      have hz5:W5.cell? ⟨gz,off+k,none⟩=some (.int .i64 (z:Int)):=by rw [hW5];exact (HSF.out _ (HE0.out _) (HE1.out _)).2
      rw [← hW5] at hin6 hkf6 ⊢
      clear HX HE0 HE1 HSF HL HA HCP al0 al1 al3 al4 hW5 d3 f3 g0 g1 a0 a4 gf
      have hrb:=(Array.getElem?_eq_some_iff.1 hin6.blk).1
      have hlow6:=hin6.low
      have hg5:gz<W5.heap.size:=by have:=HGZ.out;omega
      have HL:=toHid (show rp<W5.heap.size∧gz<W5.heap.size∧ov1.ownBlock≠some rp∧ov1.ownBlock≠some gz∧gz≠rp from ⟨hrb,hg5,hin6.ne.2.2.1,fun e=>by have:=(hin6.out.lt gz e).1;have:=HGZ.out;omega,by have:=hin6.base;have:=HGZ.out;omega⟩)
      have HA:=toHid (show RkIn W5 rp (.slice (some ⟨g,0,none⟩) n c) rv ov1 ps6 { R with deals:=R.deals.set i (x.pt (PL++[askP1 z])),out:=OL }∧W5.ownsRow B0 212 3 ov1 N (dueV OL)∧(∀ (W:World) (v:Value) (xs:List Value),W.ownsRow B0 212 3 v (N+1) xs→W.ownsRow B0 212 3 v (OL.length+1) xs) from ⟨hin6,by rw [← HPLN.out.2.2];exact hin6.out,fun W v xs hh=>by rw [HPLN.out.2.2];exact hh⟩)
      have HSF:=toHid (show ∀ W':World,W'.heap[gz]?=W5.heap[gz]?→W'.cell? ⟨gz,off+k,none⟩=some (.int .i64 (z:Int)) from fun W' h2=>(World.cell?_of_block (a:=⟨gz,off+k,none⟩) h2).trans hz5)
      have o3:=blk_cell hin6.blk 3
      simp at o3
      have al1:∀ o,(W5.drew.alloc o).heap[gz]?=W5.heap[gz]?:=fun o=>Below.heap_alloc W5.drew o gz hg5
      have al3:∀ o,(W5.drew.alloc o).cell? ⟨rp,3,none⟩=some ov1:=fun o=>(World.cell?_alloc_lt _ _ _ hrb).trans o3
      have al4:∀ o,(W5.alloc o).cell? ⟨rp,3,none⟩=some ov1:=fun o=>(World.cell?_alloc_lt _ _ _ hrb).trans o3
      have HZ2:=toHid (show ∀ W' ov',RkIn W' rp (.slice (some ⟨g,0,none⟩) n c) rv ov' ps6 { R with deals:=R.deals.set i (x.pt (PL++[askP1 z])),out:=OL++[(t,z,1)] }→KFr (kb rp (.slice (some ⟨g,0,none⟩) n c) rv ov1 ps6) (kb rp (.slice (some ⟨g,0,none⟩) n c) rv ov' ps6) W5 W'→KAl w W' rp i g n c rv ov ov' (.slice av mv cv) ps { R with deals:=R.deals.set i (x.pt (askedP (xs.take (k+1)))),out:=R.out++(xs.take (k+1)).map fun y=>(t,y,1) } (x.pt (askedP (xs.take (k+1)))) from fun W' ov' h1 h2=>⟨ps6,by rw [HPLN.out.1,HPLN.out.2.1];exact h1,by rw [HPLN.out.1];exact hp6,hkf6.trans h2,hl6⟩)
      clear hin6 hp6 hkf6 hl6 hrb hlow6 hg5 hz5
      go_wp2
      refine wp_region_held_drew (S:=(fun w'=>w'.cell? ⟨gz,off+k,none⟩=some (.int .i64 (z:Int)))) (by kernel_rfl) (HSF.out _ rfl) (fun hHeld=>?_)
      refine wpAnyH_take (i:=0) (oi:=⟨some 92,.move (.tmp 0),78,"coord.go:120",#[],none⟩) (v:=.pointer (some ⟨rp,0,none⟩)) rfl (by kernel_rfl) (by kernel_rfl) (by kernel_rfl) (fun _ _ _ h=>h) (Or.inl ⟨by rfl,?_⟩) (by assumption) ?_
      ·intro w hSw;(try dsimp only at hSw);go_simp
      (try simp only [Act.put,List.setIfInBounds_toArray,List.set_cons_zero,List.set_cons_succ])
      refine wpAnyH_take (i:=1) (oi:=⟨some 93,.move (.tmp 0),78,"coord.go:120",#[],none⟩) (v:=.pointer (some ⟨rp,0,none⟩)) rfl (by kernel_rfl) (by kernel_rfl) (by kernel_rfl) (fun _ _ _ h=>h) (Or.inl ⟨by rfl,?_⟩) (by assumption) ?_
      ·intro w hSw;(try dsimp only at hSw);go_simp
      (try simp only [Act.put,List.setIfInBounds_toArray,List.set_cons_zero,List.set_cons_succ])
      refine wpAnyH_take (i:=2) (oi:=⟨some 94,.nilCheck (.tmp 93),0,"coord.go:120",#[⟨1,.data⟩],none⟩) (v:=.pointer (some ⟨rp,0,none⟩)) rfl (by kernel_rfl) (by kernel_rfl) (by kernel_rfl) (fun _ _ _ h=>h) (Or.inl ⟨by rfl,?_⟩) (by assumption) ?_
      ·intro w hSw;(try dsimp only at hSw);go_simp
      (try simp only [Act.put,List.setIfInBounds_toArray,List.set_cons_zero,List.set_cons_succ])
      refine wpAnyH_take (i:=3) (oi:=⟨some 95,.fieldAddr 141 (.tmp 94) 3,0,"coord.go:120",#[⟨2,.data⟩],none⟩) (v:=.pointer (some ⟨rp,3,none⟩)) rfl (by kernel_rfl) (by kernel_rfl) (by kernel_rfl) (fun _ _ _ h=>h) (Or.inl ⟨by rfl,?_⟩) (by assumption) ?_
      ·intro w hSw;(try dsimp only at hSw);go_simp
      (try simp only [Act.put,List.setIfInBounds_toArray,List.set_cons_zero,List.set_cons_succ])
      refine wpAnyH_take (i:=5) (oi:=⟨some 97,.move (.tmp 1),34,"coord.go:120",#[],none⟩) (v:=.int .u64 (t:Int)) rfl (by kernel_rfl) (by kernel_rfl) (by kernel_rfl) (fun _ _ _ h=>h) (Or.inl ⟨by rfl,?_⟩) (by assumption) ?_
      ·intro w hSw;(try dsimp only at hSw);go_simp
      (try simp only [Act.put,List.setIfInBounds_toArray,List.set_cons_zero,List.set_cons_succ])
      refine wpAnyH_take (i:=6) (oi:=⟨some 98,.move (.tmp 2),26,"coord.go:120",#[],none⟩) (v:=.slice (some ⟨gz,off,none⟩) m cap) rfl (by kernel_rfl) (by kernel_rfl) (by kernel_rfl) (fun _ _ _ h=>h) (Or.inl ⟨by rfl,?_⟩) (by assumption) ?_
      ·intro w hSw;(try dsimp only at hSw);go_simp
      (try simp only [Act.put,List.setIfInBounds_toArray,List.set_cons_zero,List.set_cons_succ])
      refine wpAnyH_take (i:=7) (oi:=⟨some 99,.move (.tmp 9),3,"coord.go:120",#[],none⟩) (v:=.int .i64 (k:Int)) rfl (by kernel_rfl) (by kernel_rfl) (by kernel_rfl) (fun _ _ _ h=>h) (Or.inl ⟨by rfl,?_⟩) (by assumption) ?_
      ·intro w hSw;(try dsimp only at hSw);go_simp
      (try simp only [Act.put,List.setIfInBounds_toArray,List.set_cons_zero,List.set_cons_succ])
      refine wpAnyH_take (i:=8) (oi:=⟨some 100,.indexAddr 26 (.tmp 98) (.tmp 99),0,"coord.go:120",#[⟨6,.data⟩,⟨7,.data⟩],none⟩) (v:=.pointer (some ⟨gz,off+k,none⟩)) rfl (by kernel_rfl) (by kernel_rfl) (by kernel_rfl) (fun _ _ _ h=>h) (Or.inl ⟨by rfl,?_⟩) (by assumption) ?_
      ·intro w hSw;(try dsimp only at hSw);go_simp
      (try simp only [Act.put,List.setIfInBounds_toArray,List.set_cons_zero,List.set_cons_succ])
      refine wpAnyH_take (i:=9) (oi:=⟨some 101,.load 3 (.tmp 100),3,"coord.go:120",#[⟨8,.data⟩],none⟩) (v:=.int .i64 (z:Int)) rfl (by kernel_rfl) (by kernel_rfl) (by kernel_rfl) (fun _ _ _ h=>h) (Or.inl ⟨by rfl,?_⟩) (by assumption) ?_
      ·intro w hSw;(try dsimp only at hSw);go_simp
      (try simp only [Act.put,List.setIfInBounds_toArray,List.set_cons_zero,List.set_cons_succ])
      refine wpAnyH_take (i:=10) (oi:=⟨some 102,.build 212 #[(0,.tmp 97),(1,.tmp 101),(2,.const (Value.int IntKind.i64 1))],212,"coord.go:120",#[⟨5,.data⟩,⟨9,.data⟩],none⟩) (v:=.agg #[.int .u64 (t:Int),.int .i64 (z:Int),.int .i64 1]) rfl (by kernel_rfl) (by kernel_rfl) (by kernel_rfl) (fun _ _ _ h=>h) (Or.inl ⟨by rfl,?_⟩) (by assumption) ?_
      ·intro w hSw;(try dsimp only at hSw);go_simp
      (try simp only [Act.put,List.setIfInBounds_toArray,List.set_cons_zero,List.set_cons_succ])
      refine wpAnyH_ready (rs:=[4,11]) (by kernel_rfl) (by simp) ?_
      refine AllReadyH.cons (o:=⟨some 96,.load 139 (.tmp 95),139,"coord.go:120",#[⟨3,.data⟩],none⟩) rfl (fun K hK=>?_) (AllReadyH.cons (o:=⟨some 103,.buildSlice 139 1 #[(0,.tmp 102)],139,"coord.go:120",#[⟨10,.data⟩],none⟩) rfl (fun K hK=>?_) AllReadyH.nil)
      ·go_simp
       refine hK.out _ _ ?_ (fun hHeld=>?_)
       ·exact HSF.out _ rfl
       clear hK K
       (try simp only [Act.put,List.setIfInBounds_toArray,List.set_cons_zero,List.set_cons_succ])
       refine wpAnyH_ready (rs:=[11]) (by kernel_rfl) (by simp) ?_
       refine AllReadyH.cons (o:=⟨some 103,.buildSlice 139 1 #[(0,.tmp 102)],139,"coord.go:120",#[⟨10,.data⟩],none⟩) rfl (fun K hK=>?_) AllReadyH.nil
       go_simp
       refine hK.out _ _ ?_ (fun hHeld=>?_)
       ·exact HSF.out _ (al1 _)
       clear hK K
       (try simp only [Act.put,List.setIfInBounds_toArray,List.set_cons_zero,List.set_cons_succ])
       refine wpAnyH_ready (rs:=[12]) (by kernel_rfl) (by simp) ?_
       refine AllReadyH.cons rfl (fun K hK=>?_) AllReadyH.nil
       rw [if_pos (by rfl)]
       refine wp_dueat _ _ rfl B0 ov1 N (dueV OL) t (z:Int) 1 W5.heap.size rfl (ownsRow_fr HA.out.2.1 ((Fr.refl [] W5).drew.alloc _) (by simp)) rfl (heap_alloc_new _ _) (by omega) (by have:=HA.out.1.low;simp;omega) ?_
       intro v' w1 hown' hgrow hat0
       obtain ⟨av,mv,cv,rfl⟩:=own_sl hown'
       have hfa:Fr [] W5 (W5.drew.alloc (.cells #[.int .u64 (t:Int),.int .i64 (z:Int),.int .i64 1] 212)):=(Fr.refl [] W5).drew.alloc _
       have fro:Fr ov1.ownBlock.toList W5 w1:=(hfa.mono (by simp)).trans (Fr.of_grown hgrow)
       have hb1:=(fro.block rp HL.out.1 (by simp;exact HL.out.2.2.1)).trans HA.out.1.blk
       have g1:=fro.block gz HL.out.2.1 (by simp;exact HL.out.2.2.2.1)
       have d3:=blk_cell hb1 3
       have f3:=blk_free hb1 3
       simp at d3
       have HX:=toHid (HA.out.1.addOut hfa hgrow (t,z,1) (HA.out.2.2 _ _ _ hown') (by simpa using hat0))
       have HE1:=toHid (fun u=>(Below.heap_setCell w1 ⟨rp,3,none⟩ u gz HL.out.2.2.2.2).trans g1)
       clear hown' hgrow hat0 hfa fro hb1
       refine hK.out _ _ ?_ (fun hHeld=>?_)
       ·exact HSF.out _ g1
       clear hK K
       (try simp only [Act.put,List.setIfInBounds_toArray])
       refine wpAnyH_take (i:=13) (oi:=⟨some 105,.nilCheck (.tmp 92),0,"coord.go:120",#[⟨0,.data⟩,⟨0,.phase⟩,⟨1,.phase⟩,⟨2,.phase⟩,⟨3,.phase⟩,⟨4,.phase⟩,⟨5,.phase⟩,⟨6,.phase⟩,⟨7,.phase⟩,⟨8,.phase⟩,⟨9,.phase⟩,⟨10,.phase⟩,⟨11,.phase⟩,⟨12,.phase⟩],none⟩) (v:=.pointer (some ⟨rp,0,none⟩)) rfl (by kernel_rfl) (by kernel_rfl) (by kernel_rfl) (fun _ _ _ h=>h) (Or.inl ⟨by rfl,?_⟩) (by assumption) ?_
       ·intro w hSw;(try dsimp only at hSw);go_simp
       (try simp only [Act.put])
       refine wpAnyH_take (i:=14) (oi:=⟨some 106,.fieldAddr 141 (.tmp 105) 3,0,"coord.go:120",#[⟨13,.data⟩,⟨0,.phase⟩,⟨1,.phase⟩,⟨2,.phase⟩,⟨3,.phase⟩,⟨4,.phase⟩,⟨5,.phase⟩,⟨6,.phase⟩,⟨7,.phase⟩,⟨8,.phase⟩,⟨9,.phase⟩,⟨10,.phase⟩,⟨11,.phase⟩,⟨12,.phase⟩],none⟩) (v:=.pointer (some ⟨rp,3,none⟩)) rfl (by kernel_rfl) (by kernel_rfl) (by kernel_rfl) (fun _ _ _ h=>h) (Or.inl ⟨by rfl,?_⟩) (by assumption) ?_
       ·intro w hSw;(try dsimp only at hSw);go_simp
       (try simp only [Act.put])
       refine wpAnyH_ready (rs:=[15]) (by kernel_rfl) (by simp) ?_
       refine AllReadyH.cons rfl (fun K hK=>?_) AllReadyH.nil
       go_simp
       refine hK.out _ _ ?_ (fun hHeld=>?_)
       ·exact HSF.out _ (HE1.out _)
       clear hK K
       (try simp only [Act.put,List.setIfInBounds_toArray,List.set_cons_zero,List.set_cons_succ])
       refine wpAnyH_done (by kernel_rfl) ?_ _
       have HY:=toHid (HZ2.out _ _ HX.out.1 HX.out.2.1)
       go_wp2
       go_roundw
       case rel=>exact ⟨k+1,_,_,by omega,by go_num,HY⟩
       case measure=>simp [intOf];omega
      ·go_simp
       refine hK.out _ _ ?_ (fun hHeld=>?_)
       ·exact HSF.out _ (al1 _)
       clear hK K
       (try simp only [Act.put,List.setIfInBounds_toArray,List.set_cons_zero,List.set_cons_succ])
       refine wpAnyH_ready (rs:=[4]) (by kernel_rfl) (by simp) ?_
       refine AllReadyH.cons (o:=⟨some 96,.load 139 (.tmp 95),139,"coord.go:120",#[⟨3,.data⟩],none⟩) rfl (fun K hK=>?_) AllReadyH.nil
       go_simp
       refine hK.out _ _ ?_ (fun hHeld=>?_)
       ·exact HSF.out _ (al1 _)
       clear hK K
       (try simp only [Act.put,List.setIfInBounds_toArray,List.set_cons_zero,List.set_cons_succ])
       refine wpAnyH_ready (rs:=[12]) (by kernel_rfl) (by simp) ?_
       refine AllReadyH.cons rfl (fun K hK=>?_) AllReadyH.nil
       rw [if_pos (by rfl)]
       refine wp_dueat _ _ rfl B0 ov1 N (dueV OL) t (z:Int) 1 W5.heap.size rfl (ownsRow_fr HA.out.2.1 ((Fr.refl [] W5).drew.alloc _) (by simp)) rfl (heap_alloc_new _ _) (by omega) (by have:=HA.out.1.low;simp;omega) ?_
       intro v' w1 hown' hgrow hat0
       obtain ⟨av,mv,cv,rfl⟩:=own_sl hown'
       have hfa:Fr [] W5 (W5.drew.alloc (.cells #[.int .u64 (t:Int),.int .i64 (z:Int),.int .i64 1] 212)):=(Fr.refl [] W5).drew.alloc _
       have fro:Fr ov1.ownBlock.toList W5 w1:=(hfa.mono (by simp)).trans (Fr.of_grown hgrow)
       have hb1:=(fro.block rp HL.out.1 (by simp;exact HL.out.2.2.1)).trans HA.out.1.blk
       have g1:=fro.block gz HL.out.2.1 (by simp;exact HL.out.2.2.2.1)
       have d3:=blk_cell hb1 3
       have f3:=blk_free hb1 3
       simp at d3
       have HX:=toHid (HA.out.1.addOut hfa hgrow (t,z,1) (HA.out.2.2 _ _ _ hown') (by simpa using hat0))
       have HE1:=toHid (fun u=>(Below.heap_setCell w1 ⟨rp,3,none⟩ u gz HL.out.2.2.2.2).trans g1)
       clear hown' hgrow hat0 hfa fro hb1
       refine hK.out _ _ ?_ (fun hHeld=>?_)
       ·exact HSF.out _ g1
       clear hK K
       (try simp only [Act.put,List.setIfInBounds_toArray])
       refine wpAnyH_take (i:=13) (oi:=⟨some 105,.nilCheck (.tmp 92),0,"coord.go:120",#[⟨0,.data⟩,⟨0,.phase⟩,⟨1,.phase⟩,⟨2,.phase⟩,⟨3,.phase⟩,⟨4,.phase⟩,⟨5,.phase⟩,⟨6,.phase⟩,⟨7,.phase⟩,⟨8,.phase⟩,⟨9,.phase⟩,⟨10,.phase⟩,⟨11,.phase⟩,⟨12,.phase⟩],none⟩) (v:=.pointer (some ⟨rp,0,none⟩)) rfl (by kernel_rfl) (by kernel_rfl) (by kernel_rfl) (fun _ _ _ h=>h) (Or.inl ⟨by rfl,?_⟩) (by assumption) ?_
       ·intro w hSw;(try dsimp only at hSw);go_simp
       (try simp only [Act.put])
       refine wpAnyH_take (i:=14) (oi:=⟨some 106,.fieldAddr 141 (.tmp 105) 3,0,"coord.go:120",#[⟨13,.data⟩,⟨0,.phase⟩,⟨1,.phase⟩,⟨2,.phase⟩,⟨3,.phase⟩,⟨4,.phase⟩,⟨5,.phase⟩,⟨6,.phase⟩,⟨7,.phase⟩,⟨8,.phase⟩,⟨9,.phase⟩,⟨10,.phase⟩,⟨11,.phase⟩,⟨12,.phase⟩],none⟩) (v:=.pointer (some ⟨rp,3,none⟩)) rfl (by kernel_rfl) (by kernel_rfl) (by kernel_rfl) (fun _ _ _ h=>h) (Or.inl ⟨by rfl,?_⟩) (by assumption) ?_
       ·intro w hSw;(try dsimp only at hSw);go_simp
       (try simp only [Act.put])
       refine wpAnyH_ready (rs:=[15]) (by kernel_rfl) (by simp) ?_
       refine AllReadyH.cons rfl (fun K hK=>?_) AllReadyH.nil
       go_simp
       refine hK.out _ _ ?_ (fun hHeld=>?_)
       ·exact HSF.out _ (HE1.out _)
       clear hK K
       (try simp only [Act.put,List.setIfInBounds_toArray,List.set_cons_zero,List.set_cons_succ])
       refine wpAnyH_done (by kernel_rfl) ?_ _
       have HY:=toHid (HZ2.out _ _ HX.out.1 HX.out.2.1)
       go_wp2
       go_roundw
       case rel=>exact ⟨k+1,_,_,by omega,by go_num,HY⟩
       case measure=>simp [intOf];omega
     ·go_simp
      refine hK.out _ _ ?_ (fun hHeld=>?_)
      ·exact HSF.out _ (al0 _) (al1 _)
      clear hK K
      (try simp only [Act.put,List.setIfInBounds_toArray,List.set_cons_zero,List.set_cons_succ])
      refine wpAnyH_ready (rs:=[12]) (by kernel_rfl) (by simp) ?_
      refine AllReadyH.cons (o:=⟨some 82,.load 142 (.tmp 81),142,"coord.go:119",#[⟨11,.data⟩],none⟩) rfl (fun K hK=>?_) AllReadyH.nil
      go_simp
      refine hK.out _ _ ?_ (fun hHeld=>?_)
      ·exact HSF.out _ (al0 _) (al1 _)
      clear hK K
      (try simp only [Act.put,List.setIfInBounds_toArray,List.set_cons_zero,List.set_cons_succ])
      refine wpAnyH_ready (rs:=[19]) (by kernel_rfl) (by simp) ?_
      refine AllReadyH.cons rfl (fun K hK=>?_) AllReadyH.nil
      rw [if_pos (by rfl)]
      refine wp_partat _ _ rfl B0 pv NP (prtsV PL) z wr.heap.size rfl (ownsRow_fr HA.out.2 ((Fr.refl [] wr).drew.alloc _) (by simp)) rfl (heap_alloc_new _ _) (by omega) (by have:=HA.out.1.low;simp;omega) ?_
      intro v' w1 hown' hgrow hat0
      obtain ⟨av,mv,cv,rfl⟩:=own_sl hown'
      have hfa:Fr [] wr (wr.drew.alloc (.cells #[.int .i64 (z:Int),.int .i64 0,.bool false] 204)):=(Fr.refl [] wr).drew.alloc _
      have fro:Fr pv.ownBlock.toList wr w1:=(hfa.mono (by simp)).trans (Fr.of_grown hgrow)
      have g0:=fro.block rp HL.out.1 (by simp;exact HL.out.2.2.2.1)
      have g1:=fro.block gz HL.out.2.1 (by simp;exact HL.out.2.2.2.2.1)
      have gg:=fro.block g HL.out.2.2.1 (by simp;exact HL.out.2.2.2.2.2.1)
      have d3:=(World.cell?_of_block (a:=⟨g,i*5+3,none⟩) gg).trans HCP.out.1
      have f3:=(World.frozen?_of_block (a:=⟨g,i*5+3,none⟩) gg).trans HCP.out.2
      have HX:=toHid (HZ1.out w1 (.slice av mv cv) fro hown' (hat0.elim .inl (fun e=>.inr ⟨_,e,by simp⟩)))
      have HE0:=toHid (fun u=>(Below.heap_setCell w1 ⟨g,i*5+3,none⟩ u rp HL.out.2.2.2.2.2.2.1).trans g0)
      have HE1:=toHid (fun u=>(Below.heap_setCell w1 ⟨g,i*5+3,none⟩ u gz HL.out.2.2.2.2.2.2.2).trans g1)
      clear hown' hgrow hat0 hfa fro gg
      refine hK.out _ _ ?_ (fun hHeld=>?_)
      ·exact HSF.out _ g0 g1
      clear hK K
      (try simp only [Act.put,List.setIfInBounds_toArray])
      refine wpAnyH_take (i:=20) (oi:=⟨some 90,.indexAddr 137 (.tmp 73) (.tmp 74),0,"coord.go:119",#[⟨3,.data⟩,⟨4,.data⟩,⟨0,.phase⟩,⟨1,.phase⟩,⟨2,.phase⟩,⟨3,.phase⟩,⟨4,.phase⟩,⟨5,.phase⟩,⟨6,.phase⟩,⟨7,.phase⟩,⟨8,.phase⟩,⟨9,.phase⟩,⟨10,.phase⟩,⟨11,.phase⟩,⟨12,.phase⟩,⟨13,.phase⟩,⟨14,.phase⟩,⟨15,.phase⟩,⟨16,.phase⟩,⟨17,.phase⟩,⟨18,.phase⟩,⟨19,.phase⟩],none⟩) (v:=.pointer (some ⟨g,i*5,none⟩)) rfl (by kernel_rfl) (by kernel_rfl) (by kernel_rfl) (fun _ _ _ h=>h) (Or.inl ⟨by rfl,?_⟩) (by assumption) ?_
      ·intro w hSw;(try dsimp only at hSw);go_simp
      (try simp only [Act.put])
      refine wpAnyH_take (i:=21) (oi:=⟨some 91,.fieldAddr 144 (.tmp 90) 3,0,"coord.go:119",#[⟨20,.data⟩,⟨0,.phase⟩,⟨1,.phase⟩,⟨2,.phase⟩,⟨3,.phase⟩,⟨4,.phase⟩,⟨5,.phase⟩,⟨6,.phase⟩,⟨7,.phase⟩,⟨8,.phase⟩,⟨9,.phase⟩,⟨10,.phase⟩,⟨11,.phase⟩,⟨12,.phase⟩,⟨13,.phase⟩,⟨14,.phase⟩,⟨15,.phase⟩,⟨16,.phase⟩,⟨17,.phase⟩,⟨18,.phase⟩,⟨19,.phase⟩],none⟩) (v:=.pointer (some ⟨g,i*5+3,none⟩)) rfl (by kernel_rfl) (by kernel_rfl) (by kernel_rfl) (fun _ _ _ h=>h) (Or.inl ⟨by rfl,?_⟩) (by assumption) ?_
      ·intro w hSw;(try dsimp only at hSw);go_simp
      (try simp only [Act.put])
      refine wpAnyH_ready (rs:=[22]) (by kernel_rfl) (by simp) ?_
      refine AllReadyH.cons rfl (fun K hK=>?_) AllReadyH.nil
      go_simp
      refine hK.out _ _ ?_ (fun hHeld=>?_)
      ·exact HSF.out _ (HE0.out _) (HE1.out _)
      clear hK K
      (try simp only [Act.put,List.setIfInBounds_toArray,List.set_cons_zero,List.set_cons_succ])
      refine wpAnyH_done (by kernel_rfl) ?_ _
      obtain ⟨ps6,hin6,hp6,hkf6,hl6⟩:=HX.out
      obtain ⟨W5,hW5⟩:∃ W5,W5=w1.setCell ⟨g,i*5+3,none⟩ (.slice av mv cv):=⟨_,rfl⟩
      have hz5:W5.cell? ⟨gz,off+k,none⟩=some (.int .i64 (z:Int)):=by rw [hW5];exact (HSF.out _ (HE0.out _) (HE1.out _)).2
      rw [← hW5] at hin6 hkf6 ⊢
      clear HX HE0 HE1 HSF HL HA HCP al0 al1 al3 al4 hW5 d3 f3 g0 g1 a0 a4 gf
      have hrb:=(Array.getElem?_eq_some_iff.1 hin6.blk).1
      have hlow6:=hin6.low
      have hg5:gz<W5.heap.size:=by have:=HGZ.out;omega
      have HL:=toHid (show rp<W5.heap.size∧gz<W5.heap.size∧ov1.ownBlock≠some rp∧ov1.ownBlock≠some gz∧gz≠rp from ⟨hrb,hg5,hin6.ne.2.2.1,fun e=>by have:=(hin6.out.lt gz e).1;have:=HGZ.out;omega,by have:=hin6.base;have:=HGZ.out;omega⟩)
      have HA:=toHid (show RkIn W5 rp (.slice (some ⟨g,0,none⟩) n c) rv ov1 ps6 { R with deals:=R.deals.set i (x.pt (PL++[askP1 z])),out:=OL }∧W5.ownsRow B0 212 3 ov1 N (dueV OL)∧(∀ (W:World) (v:Value) (xs:List Value),W.ownsRow B0 212 3 v (N+1) xs→W.ownsRow B0 212 3 v (OL.length+1) xs) from ⟨hin6,by rw [← HPLN.out.2.2];exact hin6.out,fun W v xs hh=>by rw [HPLN.out.2.2];exact hh⟩)
      have HSF:=toHid (show ∀ W':World,W'.heap[gz]?=W5.heap[gz]?→W'.cell? ⟨gz,off+k,none⟩=some (.int .i64 (z:Int)) from fun W' h2=>(World.cell?_of_block (a:=⟨gz,off+k,none⟩) h2).trans hz5)
      have o3:=blk_cell hin6.blk 3
      simp at o3
      have al1:∀ o,(W5.drew.alloc o).heap[gz]?=W5.heap[gz]?:=fun o=>Below.heap_alloc W5.drew o gz hg5
      have al3:∀ o,(W5.drew.alloc o).cell? ⟨rp,3,none⟩=some ov1:=fun o=>(World.cell?_alloc_lt _ _ _ hrb).trans o3
      have al4:∀ o,(W5.alloc o).cell? ⟨rp,3,none⟩=some ov1:=fun o=>(World.cell?_alloc_lt _ _ _ hrb).trans o3
      have HZ2:=toHid (show ∀ W' ov',RkIn W' rp (.slice (some ⟨g,0,none⟩) n c) rv ov' ps6 { R with deals:=R.deals.set i (x.pt (PL++[askP1 z])),out:=OL++[(t,z,1)] }→KFr (kb rp (.slice (some ⟨g,0,none⟩) n c) rv ov1 ps6) (kb rp (.slice (some ⟨g,0,none⟩) n c) rv ov' ps6) W5 W'→KAl w W' rp i g n c rv ov ov' (.slice av mv cv) ps { R with deals:=R.deals.set i (x.pt (askedP (xs.take (k+1)))),out:=R.out++(xs.take (k+1)).map fun y=>(t,y,1) } (x.pt (askedP (xs.take (k+1)))) from fun W' ov' h1 h2=>⟨ps6,by rw [HPLN.out.1,HPLN.out.2.1];exact h1,by rw [HPLN.out.1];exact hp6,hkf6.trans h2,hl6⟩)
      clear hin6 hp6 hkf6 hl6 hrb hlow6 hg5 hz5
      go_wp2
      refine wp_region_held_drew (S:=(fun w'=>w'.cell? ⟨gz,off+k,none⟩=some (.int .i64 (z:Int)))) (by kernel_rfl) (HSF.out _ rfl) (fun hHeld=>?_)
      refine wpAnyH_take (i:=0) (oi:=⟨some 92,.move (.tmp 0),78,"coord.go:120",#[],none⟩) (v:=.pointer (some ⟨rp,0,none⟩)) rfl (by kernel_rfl) (by kernel_rfl) (by kernel_rfl) (fun _ _ _ h=>h) (Or.inl ⟨by rfl,?_⟩) (by assumption) ?_
      ·intro w hSw;(try dsimp only at hSw);go_simp
      (try simp only [Act.put,List.setIfInBounds_toArray,List.set_cons_zero,List.set_cons_succ])
      refine wpAnyH_take (i:=1) (oi:=⟨some 93,.move (.tmp 0),78,"coord.go:120",#[],none⟩) (v:=.pointer (some ⟨rp,0,none⟩)) rfl (by kernel_rfl) (by kernel_rfl) (by kernel_rfl) (fun _ _ _ h=>h) (Or.inl ⟨by rfl,?_⟩) (by assumption) ?_
      ·intro w hSw;(try dsimp only at hSw);go_simp
      (try simp only [Act.put,List.setIfInBounds_toArray,List.set_cons_zero,List.set_cons_succ])
      refine wpAnyH_take (i:=2) (oi:=⟨some 94,.nilCheck (.tmp 93),0,"coord.go:120",#[⟨1,.data⟩],none⟩) (v:=.pointer (some ⟨rp,0,none⟩)) rfl (by kernel_rfl) (by kernel_rfl) (by kernel_rfl) (fun _ _ _ h=>h) (Or.inl ⟨by rfl,?_⟩) (by assumption) ?_
      ·intro w hSw;(try dsimp only at hSw);go_simp
      (try simp only [Act.put,List.setIfInBounds_toArray,List.set_cons_zero,List.set_cons_succ])
      refine wpAnyH_take (i:=3) (oi:=⟨some 95,.fieldAddr 141 (.tmp 94) 3,0,"coord.go:120",#[⟨2,.data⟩],none⟩) (v:=.pointer (some ⟨rp,3,none⟩)) rfl (by kernel_rfl) (by kernel_rfl) (by kernel_rfl) (fun _ _ _ h=>h) (Or.inl ⟨by rfl,?_⟩) (by assumption) ?_
      ·intro w hSw;(try dsimp only at hSw);go_simp
      (try simp only [Act.put,List.setIfInBounds_toArray,List.set_cons_zero,List.set_cons_succ])
      refine wpAnyH_take (i:=5) (oi:=⟨some 97,.move (.tmp 1),34,"coord.go:120",#[],none⟩) (v:=.int .u64 (t:Int)) rfl (by kernel_rfl) (by kernel_rfl) (by kernel_rfl) (fun _ _ _ h=>h) (Or.inl ⟨by rfl,?_⟩) (by assumption) ?_
      ·intro w hSw;(try dsimp only at hSw);go_simp
      (try simp only [Act.put,List.setIfInBounds_toArray,List.set_cons_zero,List.set_cons_succ])
      refine wpAnyH_take (i:=6) (oi:=⟨some 98,.move (.tmp 2),26,"coord.go:120",#[],none⟩) (v:=.slice (some ⟨gz,off,none⟩) m cap) rfl (by kernel_rfl) (by kernel_rfl) (by kernel_rfl) (fun _ _ _ h=>h) (Or.inl ⟨by rfl,?_⟩) (by assumption) ?_
      ·intro w hSw;(try dsimp only at hSw);go_simp
      (try simp only [Act.put,List.setIfInBounds_toArray,List.set_cons_zero,List.set_cons_succ])
      refine wpAnyH_take (i:=7) (oi:=⟨some 99,.move (.tmp 9),3,"coord.go:120",#[],none⟩) (v:=.int .i64 (k:Int)) rfl (by kernel_rfl) (by kernel_rfl) (by kernel_rfl) (fun _ _ _ h=>h) (Or.inl ⟨by rfl,?_⟩) (by assumption) ?_
      ·intro w hSw;(try dsimp only at hSw);go_simp
      (try simp only [Act.put,List.setIfInBounds_toArray,List.set_cons_zero,List.set_cons_succ])
      refine wpAnyH_take (i:=8) (oi:=⟨some 100,.indexAddr 26 (.tmp 98) (.tmp 99),0,"coord.go:120",#[⟨6,.data⟩,⟨7,.data⟩],none⟩) (v:=.pointer (some ⟨gz,off+k,none⟩)) rfl (by kernel_rfl) (by kernel_rfl) (by kernel_rfl) (fun _ _ _ h=>h) (Or.inl ⟨by rfl,?_⟩) (by assumption) ?_
      ·intro w hSw;(try dsimp only at hSw);go_simp
      (try simp only [Act.put,List.setIfInBounds_toArray,List.set_cons_zero,List.set_cons_succ])
      refine wpAnyH_take (i:=9) (oi:=⟨some 101,.load 3 (.tmp 100),3,"coord.go:120",#[⟨8,.data⟩],none⟩) (v:=.int .i64 (z:Int)) rfl (by kernel_rfl) (by kernel_rfl) (by kernel_rfl) (fun _ _ _ h=>h) (Or.inl ⟨by rfl,?_⟩) (by assumption) ?_
      ·intro w hSw;(try dsimp only at hSw);go_simp
      (try simp only [Act.put,List.setIfInBounds_toArray,List.set_cons_zero,List.set_cons_succ])
      refine wpAnyH_take (i:=10) (oi:=⟨some 102,.build 212 #[(0,.tmp 97),(1,.tmp 101),(2,.const (Value.int IntKind.i64 1))],212,"coord.go:120",#[⟨5,.data⟩,⟨9,.data⟩],none⟩) (v:=.agg #[.int .u64 (t:Int),.int .i64 (z:Int),.int .i64 1]) rfl (by kernel_rfl) (by kernel_rfl) (by kernel_rfl) (fun _ _ _ h=>h) (Or.inl ⟨by rfl,?_⟩) (by assumption) ?_
      ·intro w hSw;(try dsimp only at hSw);go_simp
      (try simp only [Act.put,List.setIfInBounds_toArray,List.set_cons_zero,List.set_cons_succ])
      refine wpAnyH_ready (rs:=[4,11]) (by kernel_rfl) (by simp) ?_
      refine AllReadyH.cons (o:=⟨some 96,.load 139 (.tmp 95),139,"coord.go:120",#[⟨3,.data⟩],none⟩) rfl (fun K hK=>?_) (AllReadyH.cons (o:=⟨some 103,.buildSlice 139 1 #[(0,.tmp 102)],139,"coord.go:120",#[⟨10,.data⟩],none⟩) rfl (fun K hK=>?_) AllReadyH.nil)
      ·go_simp
       refine hK.out _ _ ?_ (fun hHeld=>?_)
       ·exact HSF.out _ rfl
       clear hK K
       (try simp only [Act.put,List.setIfInBounds_toArray,List.set_cons_zero,List.set_cons_succ])
       refine wpAnyH_ready (rs:=[11]) (by kernel_rfl) (by simp) ?_
       refine AllReadyH.cons (o:=⟨some 103,.buildSlice 139 1 #[(0,.tmp 102)],139,"coord.go:120",#[⟨10,.data⟩],none⟩) rfl (fun K hK=>?_) AllReadyH.nil
       go_simp
       refine hK.out _ _ ?_ (fun hHeld=>?_)
       ·exact HSF.out _ (al1 _)
       clear hK K
       (try simp only [Act.put,List.setIfInBounds_toArray,List.set_cons_zero,List.set_cons_succ])
       refine wpAnyH_ready (rs:=[12]) (by kernel_rfl) (by simp) ?_
       refine AllReadyH.cons rfl (fun K hK=>?_) AllReadyH.nil
       rw [if_pos (by rfl)]
       refine wp_dueat _ _ rfl B0 ov1 N (dueV OL) t (z:Int) 1 W5.heap.size rfl (ownsRow_fr HA.out.2.1 ((Fr.refl [] W5).drew.alloc _) (by simp)) rfl (heap_alloc_new _ _) (by omega) (by have:=HA.out.1.low;simp;omega) ?_
       intro v' w1 hown' hgrow hat0
       obtain ⟨av,mv,cv,rfl⟩:=own_sl hown'
       have hfa:Fr [] W5 (W5.drew.alloc (.cells #[.int .u64 (t:Int),.int .i64 (z:Int),.int .i64 1] 212)):=(Fr.refl [] W5).drew.alloc _
       have fro:Fr ov1.ownBlock.toList W5 w1:=(hfa.mono (by simp)).trans (Fr.of_grown hgrow)
       have hb1:=(fro.block rp HL.out.1 (by simp;exact HL.out.2.2.1)).trans HA.out.1.blk
       have g1:=fro.block gz HL.out.2.1 (by simp;exact HL.out.2.2.2.1)
       have d3:=blk_cell hb1 3
       have f3:=blk_free hb1 3
       simp at d3
       have HX:=toHid (HA.out.1.addOut hfa hgrow (t,z,1) (HA.out.2.2 _ _ _ hown') (by simpa using hat0))
       have HE1:=toHid (fun u=>(Below.heap_setCell w1 ⟨rp,3,none⟩ u gz HL.out.2.2.2.2).trans g1)
       clear hown' hgrow hat0 hfa fro hb1
       refine hK.out _ _ ?_ (fun hHeld=>?_)
       ·exact HSF.out _ g1
       clear hK K
       (try simp only [Act.put,List.setIfInBounds_toArray])
       refine wpAnyH_take (i:=13) (oi:=⟨some 105,.nilCheck (.tmp 92),0,"coord.go:120",#[⟨0,.data⟩,⟨0,.phase⟩,⟨1,.phase⟩,⟨2,.phase⟩,⟨3,.phase⟩,⟨4,.phase⟩,⟨5,.phase⟩,⟨6,.phase⟩,⟨7,.phase⟩,⟨8,.phase⟩,⟨9,.phase⟩,⟨10,.phase⟩,⟨11,.phase⟩,⟨12,.phase⟩],none⟩) (v:=.pointer (some ⟨rp,0,none⟩)) rfl (by kernel_rfl) (by kernel_rfl) (by kernel_rfl) (fun _ _ _ h=>h) (Or.inl ⟨by rfl,?_⟩) (by assumption) ?_
       ·intro w hSw;(try dsimp only at hSw);go_simp
       (try simp only [Act.put])
       refine wpAnyH_take (i:=14) (oi:=⟨some 106,.fieldAddr 141 (.tmp 105) 3,0,"coord.go:120",#[⟨13,.data⟩,⟨0,.phase⟩,⟨1,.phase⟩,⟨2,.phase⟩,⟨3,.phase⟩,⟨4,.phase⟩,⟨5,.phase⟩,⟨6,.phase⟩,⟨7,.phase⟩,⟨8,.phase⟩,⟨9,.phase⟩,⟨10,.phase⟩,⟨11,.phase⟩,⟨12,.phase⟩],none⟩) (v:=.pointer (some ⟨rp,3,none⟩)) rfl (by kernel_rfl) (by kernel_rfl) (by kernel_rfl) (fun _ _ _ h=>h) (Or.inl ⟨by rfl,?_⟩) (by assumption) ?_
       ·intro w hSw;(try dsimp only at hSw);go_simp
       (try simp only [Act.put])
       refine wpAnyH_ready (rs:=[15]) (by kernel_rfl) (by simp) ?_
       refine AllReadyH.cons rfl (fun K hK=>?_) AllReadyH.nil
       go_simp
       refine hK.out _ _ ?_ (fun hHeld=>?_)
       ·exact HSF.out _ (HE1.out _)
       clear hK K
       (try simp only [Act.put,List.setIfInBounds_toArray,List.set_cons_zero,List.set_cons_succ])
       refine wpAnyH_done (by kernel_rfl) ?_ _
       have HY:=toHid (HZ2.out _ _ HX.out.1 HX.out.2.1)
       go_wp2
       go_roundw
       case rel=>exact ⟨k+1,_,_,by omega,by go_num,HY⟩
       case measure=>simp [intOf];omega
      ·go_simp
       refine hK.out _ _ ?_ (fun hHeld=>?_)
       ·exact HSF.out _ (al1 _)
       clear hK K
       (try simp only [Act.put,List.setIfInBounds_toArray,List.set_cons_zero,List.set_cons_succ])
       refine wpAnyH_ready (rs:=[4]) (by kernel_rfl) (by simp) ?_
       refine AllReadyH.cons (o:=⟨some 96,.load 139 (.tmp 95),139,"coord.go:120",#[⟨3,.data⟩],none⟩) rfl (fun K hK=>?_) AllReadyH.nil
       go_simp
       refine hK.out _ _ ?_ (fun hHeld=>?_)
       ·exact HSF.out _ (al1 _)
       clear hK K
       (try simp only [Act.put,List.setIfInBounds_toArray,List.set_cons_zero,List.set_cons_succ])
       refine wpAnyH_ready (rs:=[12]) (by kernel_rfl) (by simp) ?_
       refine AllReadyH.cons rfl (fun K hK=>?_) AllReadyH.nil
       rw [if_pos (by rfl)]
       refine wp_dueat _ _ rfl B0 ov1 N (dueV OL) t (z:Int) 1 W5.heap.size rfl (ownsRow_fr HA.out.2.1 ((Fr.refl [] W5).drew.alloc _) (by simp)) rfl (heap_alloc_new _ _) (by omega) (by have:=HA.out.1.low;simp;omega) ?_
       intro v' w1 hown' hgrow hat0
       obtain ⟨av,mv,cv,rfl⟩:=own_sl hown'
       have hfa:Fr [] W5 (W5.drew.alloc (.cells #[.int .u64 (t:Int),.int .i64 (z:Int),.int .i64 1] 212)):=(Fr.refl [] W5).drew.alloc _
       have fro:Fr ov1.ownBlock.toList W5 w1:=(hfa.mono (by simp)).trans (Fr.of_grown hgrow)
       have hb1:=(fro.block rp HL.out.1 (by simp;exact HL.out.2.2.1)).trans HA.out.1.blk
       have g1:=fro.block gz HL.out.2.1 (by simp;exact HL.out.2.2.2.1)
       have d3:=blk_cell hb1 3
       have f3:=blk_free hb1 3
       simp at d3
       have HX:=toHid (HA.out.1.addOut hfa hgrow (t,z,1) (HA.out.2.2 _ _ _ hown') (by simpa using hat0))
       have HE1:=toHid (fun u=>(Below.heap_setCell w1 ⟨rp,3,none⟩ u gz HL.out.2.2.2.2).trans g1)
       clear hown' hgrow hat0 hfa fro hb1
       refine hK.out _ _ ?_ (fun hHeld=>?_)
       ·exact HSF.out _ g1
       clear hK K
       (try simp only [Act.put,List.setIfInBounds_toArray])
       refine wpAnyH_take (i:=13) (oi:=⟨some 105,.nilCheck (.tmp 92),0,"coord.go:120",#[⟨0,.data⟩,⟨0,.phase⟩,⟨1,.phase⟩,⟨2,.phase⟩,⟨3,.phase⟩,⟨4,.phase⟩,⟨5,.phase⟩,⟨6,.phase⟩,⟨7,.phase⟩,⟨8,.phase⟩,⟨9,.phase⟩,⟨10,.phase⟩,⟨11,.phase⟩,⟨12,.phase⟩],none⟩) (v:=.pointer (some ⟨rp,0,none⟩)) rfl (by kernel_rfl) (by kernel_rfl) (by kernel_rfl) (fun _ _ _ h=>h) (Or.inl ⟨by rfl,?_⟩) (by assumption) ?_
       ·intro w hSw;(try dsimp only at hSw);go_simp
       (try simp only [Act.put])
       refine wpAnyH_take (i:=14) (oi:=⟨some 106,.fieldAddr 141 (.tmp 105) 3,0,"coord.go:120",#[⟨13,.data⟩,⟨0,.phase⟩,⟨1,.phase⟩,⟨2,.phase⟩,⟨3,.phase⟩,⟨4,.phase⟩,⟨5,.phase⟩,⟨6,.phase⟩,⟨7,.phase⟩,⟨8,.phase⟩,⟨9,.phase⟩,⟨10,.phase⟩,⟨11,.phase⟩,⟨12,.phase⟩],none⟩) (v:=.pointer (some ⟨rp,3,none⟩)) rfl (by kernel_rfl) (by kernel_rfl) (by kernel_rfl) (fun _ _ _ h=>h) (Or.inl ⟨by rfl,?_⟩) (by assumption) ?_
       ·intro w hSw;(try dsimp only at hSw);go_simp
       (try simp only [Act.put])
       refine wpAnyH_ready (rs:=[15]) (by kernel_rfl) (by simp) ?_
       refine AllReadyH.cons rfl (fun K hK=>?_) AllReadyH.nil
       go_simp
       refine hK.out _ _ ?_ (fun hHeld=>?_)
       ·exact HSF.out _ (HE1.out _)
       clear hK K
       (try simp only [Act.put,List.setIfInBounds_toArray,List.set_cons_zero,List.set_cons_succ])
       refine wpAnyH_done (by kernel_rfl) ?_ _
       have HY:=toHid (HZ2.out _ _ HX.out.1 HX.out.2.1)
       go_wp2
       go_roundw
       case rel=>exact ⟨k+1,_,_,by omega,by go_num,HY⟩
       case measure=>simp [intOf];omega
    ·have hnl2:¬ (k:Int)<(m:Int):=by omega
     have htk:xs.take k=xs:=List.take_of_length_le (by rw [HM.out];omega)
     have gf1:=gfr (i*5+1)
     have gf2:=gfr (i*5+2)
     have HF1:=HK.out.setF (j:=1) (u:=.int .i64 5) (y':=⟨x.id,5,x.age,askedP (xs.take k)⟩) (by decide) rfl rfl
     have HF2:=HF1.setF (j:=2) (u:=.int .i64 0) (y':=⟨x.id,5,0,askedP (xs.take k)⟩) (by decide) rfl rfl
     have HF:=toHid (show ∃ S',RkN ((wr.setCell ⟨g,i*5+1,none⟩ (.int .i64 5)).setCell ⟨g,i*5+2,none⟩ (.int .i64 0)) rp S' (R.commit t xs)∧KFr (kb rp (.slice (some ⟨g,0,none⟩) n c) rv ov ps) S' w ((wr.setCell ⟨g,i*5+1,none⟩ (.int .i64 5)).setCell ⟨g,i*5+2,none⟩ (.int .i64 0)) from by
      obtain ⟨ps5,hin5,hp5,hkf5,_⟩:=HF2.inn
      refine ⟨_,⟨_,_,_,_,?_,rfl⟩,hkf5⟩
      have e:R.commit t xs={ R with deals:=R.deals.set i ⟨x.id,5,0,askedP (xs.take k)⟩,out:=R.out++(xs.take k).map fun y=>(t,y,1) }:=by
       unfold RCo.commit
       rw [HX.out.2.2.1];show (match R.deals[i]? with | none=>R | some x=>_)=_
       rw [HX.out.2.1];show (if x.st=4 then _ else R)=_
       rw [if_pos HX.out.2.2.2,HX.out.1,htk,List.nil_append]
      rw [e]
      simpa using hin5)
     clear HF1 HF2 htk
     go_wp2
     go_ret
     exact ⟨rfl,HF.out⟩
end Go.Proofs.YtejiankgafjppaaGreatDoor
