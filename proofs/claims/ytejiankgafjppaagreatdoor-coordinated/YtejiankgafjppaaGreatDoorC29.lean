import Derived.Test.YtejiankgafjppaaGreatDoorC28
import Derived.Test.YtejiankgafjppaaGreatDoorC23
namespace Go.Proofs.YtejiankgafjppaaGreatDoor
open Go.RowKit Go.Maps Go.Shelf
open Sc
theorem wp_resat {w:World} {o:Oper} {a:Act} {K:Act→World→Prop} {Q:Exit→Act→World→Prop} (s x:Operand)
  (ho:o.op=.call { callee:=.builtin .append,args:=#[s,x],argTypes:=#[138,138] })
  (base:Nat) (v:Value) (n:Nat) (xs:List Value) (t:Nat) (y:Int) (b:Nat) (hs:a.eval s=v) (hown:w.ownsRow base 216 2 v n xs) (hx:a.eval x=.slice (some ⟨b,0,none⟩) 1 1)
  (hb:w.heap[b]?=some (.cells #[.int .u64 (t:Int),.int .i64 y] 216 (0,0))) (hn:n≤1099511627776) (hbase:base≤w.heap.size)
  (h:∀ v' w',w'.ownsRow base 216 2 v' (n+1) (xs++[.int .u64 (t:Int),.int .i64 y])→w.grownBy w' v.ownBlock→(v'.ownBlock=v.ownBlock∨v'.ownBlock=some w.heap.size)→K (a.put o.dst v') w'):o.wp Tryz.prog a w K Q:=by
 obtain ⟨i0,hi,hz0,hz1,hz2⟩:=info_parts Tryz.infoRes
 have hc0:=blk_cell hb 0
 have hc1:=blk_cell hb 1
 simp at hc0 hc1
 refine wp_append_at s x 138 ho base 216 i0 _ 2 16 Tryz.underlying138 hi hz0 hz1 hz2 rfl (by decide) v n xs hs hown ⟨b,0,none⟩ 1 1 [.int .u64 (t:Int),.int .i64 y] hx rfl ?_ ?_ (by unfold maxLen;omega) (by omega) hbase ?_
 ·intro jj u hjj
  match jj,hjj with
  | 0,hjj=>simp at hjj;subst hjj;simpa [Addr.add] using hc0
  | 1,hjj=>simp at hjj;subst hjj;simpa [Addr.add] using hc1
 ·intro u hu;simp at hu;rcases hu with rfl | rfl <;> rfl
 ·intro v' w' ho' hg' ha'
  exact h v' w' ho' hg' ha'
def undoP (p:RPart):Bool:=p.vote == 0 || p.vote == 2
def undoL (t:Nat) (l:List RPart):List (Nat × Nat × Nat):=(l.filter undoP).map fun p=>(t,p.shard,6)
theorem undoL_yes {t:Nat} {l:List RPart} {k:Nat} {p:RPart} (hp:l[k]?=some p) (h:undoP p=true):undoL t (l.take (k+1))=undoL t (l.take k)++[(t,p.shard,6)]:=by
 unfold undoL
 rw [List.take_add_one,hp]
 simp [h]
theorem undoL_no {t:Nat} {l:List RPart} {k:Nat} {p:RPart} (hp:l[k]?=some p) (h:undoP p=false):undoL t (l.take (k+1))=undoL t (l.take k):=by
 unfold undoL
 rw [List.take_add_one,hp]
 simp [h]
set_option maxRecDepth 100000 in
set_option maxHeartbeats 8000000 in
theorem kundo_any [Inhabited Bs] (rp i:Nat) (xv rv ov:Value) (ps:List (RDeal × Value)) (R:RCo) (w:World) (h:RkIn w rp xv rv ov ps R) (x:RDeal) (hx:R.deals[i]?=some x) (hn:ps.length≤1048576) (hpl:x.parts.length≤8) (hol:R.out.length≤1048576) (hrl:R.res.length≤1048576) :
  Calls Tryz.prog 163 #[.pointer (some ⟨rp,0,none⟩),.int .i64 (i:Int)] w fun e w'=>e=.returned (.tuple #[])∧∃ S',RkN w' rp S' { R with deals:=R.deals.take i++R.deals.drop (i+1),res:=R.res++[(x.id,6)],out:=R.out++undoL x.id x.parts }∧KFr (kb rp xv rv ov ps) S' w w':=by
 have c0:=blk_cell h.blk 0
 simp at c0
 obtain ⟨ao,c,hxv,H⟩:=h.slice
 obtain ⟨v,hv⟩:=h.at hx
 obtain ⟨g,hao,x0,x1,x2,x3,x4⟩:=H i _ hv
 subst hao
 have hil:=(List.getElem?_eq_some_iff.1 hv).1
 have hpr:=h.prt _ (List.mem_of_getElem? hv)
 change w.ownsRow B0 _ 3 v x.parts.length (prtsV x.parts) at hpr
 obtain ⟨po,pc,rfl⟩:=own_slice hpr
 rw [hxv] at c0
 have i1:(0:Int)≤(i:Int):=by omega
 have i2:(i:Int)<(ps.length:Int):=by omega
 simp at x0 x1 x2 x3
 obtain ⟨D,hD⟩:∃ D,D=x.id:=⟨_,rfl⟩
 obtain ⟨m,hm⟩:∃ m,m=x.parts.length:=⟨_,rfl⟩
 rw [← hD] at x0 ⊢
 rw [← hm] at x3 hpl hv
 obtain ⟨W0,hW0⟩:∃ W0,W0=w.alloc (.cells #[.int .u64 (D:Int),.int .i64 (x.st:Int),.int .i64 (x.age:Int),.slice po m pc,.bool false] 144):=⟨_,rfl⟩
 have hf0:Fr [] w W0:=by rw [hW0];exact (Fr.refl [] w).alloc _
 have b0:W0.heap[w.heap.size]?=some (.cells #[.int .u64 (D:Int),.int .i64 (x.st:Int),.int .i64 (x.age:Int),.slice po m pc,.bool false] 144 (0,0)):=by rw [hW0];exact heap_alloc_new w _
 have HI:=toHid (show RkIn W0 rp xv rv ov ps R∧KFr (kb rp xv rv ov ps) (kb rp xv rv ov ps) w W0∧W0.heap[w.heap.size]?=some (.cells #[.int .u64 (D:Int),.int .i64 (x.st:Int),.int .i64 (x.age:Int),.slice po m pc,.bool false] 144 (0,0)) from ⟨h.fr hf0,KFr.of hf0,b0⟩)
 have HV:=toHid (show ps[i]?=some (x,.slice po m pc)∧m=x.parts.length∧D=x.id∧xv≠.slice (some ⟨w.heap.size,0,none⟩) ps.length c from ⟨hv,hm,hD,fun e=>by
  have:=h.dls.lt w.heap.size (by rw [e];rfl)
  omega⟩)
 have HXV:=toHid hxv
 have hrlt:=(Array.getElem?_eq_some_iff.1 h.blk).1
 have HXR:=toHid (show rp<w.heap.size∧(∀ p∈ps,∀ q,p.2.ownBlock=some q→q<w.heap.size) from ⟨hrlt,fun p hp q hq=>((h.prt p hp).lt q hq).2⟩)
 clear h H hv hpr hf0 b0 hx hm hD hxv hrlt
 go_enter Tryz.func163,Tryz.ntmps163
 go_wp2
 rw [← hW0]
 clear hW0 c0 x0 x1 x2 x3 x4 i1 i2
 go_loopw [5] (fun j wr=>∃ k:Nat,k≤m∧j=.int .i64 k∧Hid (∃ ov',RkIn wr rp xv rv ov' ps { R with out:=R.out++undoL D (x.parts.take k) }∧KFr (kb rp xv rv ov ps) (kb rp xv rv ov' ps) w wr∧wr.heap[w.heap.size]?=some (.cells #[.int .u64 (D:Int),.int .i64 (x.st:Int),.int .i64 (x.age:Int),.slice po m pc,.bool false] 144 (0,0)))) (fun j _=>m - (intOf j).toNat)
 case atStart=>exact ⟨0,Nat.zero_le _,rfl,ov,by simpa [undoL] using HI.out.1,HI.out.2.1,HI.out.2.2⟩
 case round =>
  obtain ⟨k,hk,rfl,H⟩:=hrel
  obtain ⟨ov1,hin,hkf,hxb⟩:=H.out
  have x0:=blk_cell hxb 0
  have x3:=blk_cell hxb 3
  simp at x0 x3
  by_cases hlt:k<m
  ·have hpr:=hin.prt _ (List.mem_of_getElem? HV.out.1)
   change wr.ownsRow B0 _ 3 (.slice po m pc) x.parts.length (prtsV x.parts) at hpr
   obtain ⟨p,hp⟩:∃ p,x.parts[k]?=some p:=⟨_,List.getElem?_eq_getElem (by rw [← HV.out.2.1];exact hlt)⟩
   obtain ⟨po',pc',epo,HP⟩:=part_slice hpr
   obtain ⟨pb,hpb,y0,y1,y2⟩:=HP k p hp
   obtain ⟨rfl,hmx,rfl⟩:po=po'∧m=x.parts.length∧pc=pc':=by simpa using epo
   subst hpb
   obtain ⟨sh,hsh⟩:∃ sh,sh=p.shard:=⟨_,rfl⟩
   obtain ⟨vo,hvo⟩:∃ vo,vo=p.vote:=⟨_,rfl⟩
   rw [← hsh] at y0
   rw [← hvo] at y1
   have i3:(k:Int)<(m:Int):=by omega
   have i0:(0:Int)≤(k:Int):=by omega
   have hob:=(hpr.lt pb rfl).2
   obtain ⟨cp2,hcp2⟩:=own_cells hpr (g:=pb) rfl
   have hrb:=(Array.getElem?_eq_some_iff.1 hin.blk).1
   have hxl:=(Array.getElem?_eq_some_iff.1 hxb).1
   have hne:=hin.ne
   obtain ⟨OL,hOL⟩:∃ OL,OL=R.out++undoL D (x.parts.take k):=⟨_,rfl⟩
   obtain ⟨N,hN⟩:∃ N,N=OL.length:=⟨_,rfl⟩
   have hNb:N≤1048600:=by
    rw [hN,hOL,List.length_append]
    have:(undoL D (x.parts.take k)).length≤8:=by
     unfold undoL
     rw [List.length_map]
     refine Nat.le_trans (List.length_filter_le _ _) ?_
     rw [List.length_take]
     omega
    omega
   have HL:=toHid (show rp<wr.heap.size∧w.heap.size<wr.heap.size∧pb<wr.heap.size∧ov1.ownBlock≠some rp∧ov1.ownBlock≠some w.heap.size∧ov1.ownBlock≠some pb∧w.heap.size≠rp∧pb≠rp from ⟨hrb,hxl,hob,hne.2.2.1,own_ne hin.out hxb (by decide),own_ne hin.out hcp2 (by decide),by have:=HXR.out.1;omega,fun e=>by rw [e,hin.blk] at hcp2;cases hcp2⟩)
   have HA:=toHid (show RkIn wr rp xv rv ov1 ps { R with out:=OL }∧wr.ownsRow B0 212 3 ov1 N (dueV OL)∧(∀ (W:World) (v:Value) (xs:List Value),W.ownsRow B0 212 3 v (N+1) xs→W.ownsRow B0 212 3 v (OL.length+1) xs) from ⟨by rw [hOL];exact hin,by rw [hN,hOL];exact hin.out,fun W v xs hh=>by rw [← hN];exact hh⟩)
   have HSF:=toHid (show ∀ W':World,W'.heap[w.heap.size]?=wr.heap[w.heap.size]?→W'.heap[pb]?=wr.heap[pb]?→W'.cell? ⟨w.heap.size,0,none⟩=some (.int .u64 (D:Int))∧W'.cell? ⟨w.heap.size,3,none⟩=some (.slice (some ⟨pb,0,none⟩) m pc)∧W'.cell? ⟨pb,k*3,none⟩=some (.int .i64 (sh:Int)) from fun W' h1 h2=>⟨(World.cell?_of_block (a:=⟨w.heap.size,0,none⟩) h1).trans x0,(World.cell?_of_block (a:=⟨w.heap.size,3,none⟩) h1).trans x3,(World.cell?_of_block (a:=⟨pb,k*3,none⟩) h2).trans y0⟩)
   have o3:=blk_cell hin.blk 3
   simp at o3
   have al0:∀ o,(wr.drew.alloc o).heap[w.heap.size]?=wr.heap[w.heap.size]?:=fun o=>Below.heap_alloc wr.drew o w.heap.size hxl
   have al1:∀ o,(wr.drew.alloc o).heap[pb]?=wr.heap[pb]?:=fun o=>Below.heap_alloc wr.drew o pb hob
   have al3:∀ o,(wr.drew.alloc o).cell? ⟨rp,3,none⟩=some ov1:=fun o=>(World.cell?_alloc_lt _ _ _ hrb).trans o3
   have al4:∀ o,(wr.alloc o).cell? ⟨rp,3,none⟩=some ov1:=fun o=>(World.cell?_alloc_lt _ _ _ hrb).trans o3
   have HE:=toHid (show ∀ W' ov',RkIn W' rp xv rv ov' ps { R with out:=OL++[(D,sh,6)] }→KFr (kb rp xv rv ov1 ps) (kb rp xv rv ov' ps) wr W'→W'.heap[w.heap.size]?=wr.heap[w.heap.size]?→undoP p=true→∃ ov',RkIn W' rp xv rv ov' ps { R with out:=R.out++undoL D (x.parts.take (k+1)) }∧KFr (kb rp xv rv ov ps) (kb rp xv rv ov' ps) w W'∧W'.heap[w.heap.size]?=some (.cells #[.int .u64 (D:Int),.int .i64 (x.st:Int),.int .i64 (x.age:Int),.slice (some ⟨pb,0,none⟩) m pc,.bool false] 144 (0,0)) from fun W' ov' h1 h2 h3 h4=>⟨ov',by rw [undoL_yes hp h4,← List.append_assoc,← hOL,← hsh];exact h1,hkf.trans h2,h3.trans hxb⟩)
   have HO:=toHid (show undoP p=false→∃ ov',RkIn wr rp xv rv ov' ps { R with out:=R.out++undoL D (x.parts.take (k+1)) }∧KFr (kb rp xv rv ov ps) (kb rp xv rv ov' ps) w wr∧wr.heap[w.heap.size]?=some (.cells #[.int .u64 (D:Int),.int .i64 (x.st:Int),.int .i64 (x.age:Int),.slice (some ⟨pb,0,none⟩) m pc,.bool false] 144 (0,0)) from fun h4=>⟨ov1,by rw [undoL_no hp h4];exact hin,hkf,hxb⟩)
   have HPV:=toHid hvo
   clear hmx H hin hkf hxb hpr HP epo hp hsh hvo hcp2 hne hOL hN hob hrb hxl y2
   by_cases h0:vo=0
   ·subst h0
    go_wp2
    refine wp_region_held_drew (S:=(fun w'=>w'.cell? ⟨w.heap.size,0,none⟩=some (.int .u64 (D:Int))∧w'.cell? ⟨w.heap.size,3,none⟩=some (.slice (some ⟨pb,0,none⟩) m pc)∧w'.cell? ⟨pb,k*3,none⟩=some (.int .i64 (sh:Int)))) (by kernel_rfl) (HSF.out _ rfl rfl) (fun hHeld=>?_)
    refine wpAnyH_take (i:=0) (oi:=⟨some 36,.move (.tmp 0),78,"coord.go:132",#[],none⟩) (v:=.pointer (some ⟨rp,0,none⟩)) rfl (by kernel_rfl) (by kernel_rfl) (by kernel_rfl) (fun _ _ _ h=>h) (Or.inl ⟨by rfl,?_⟩) (by assumption) ?_
    ·intro w hSw;(try dsimp only at hSw);go_simp
    (try simp only [Act.put,List.setIfInBounds_toArray,List.set_cons_zero,List.set_cons_succ])
    refine wpAnyH_take (i:=1) (oi:=⟨some 37,.move (.tmp 0),78,"coord.go:132",#[],none⟩) (v:=.pointer (some ⟨rp,0,none⟩)) rfl (by kernel_rfl) (by kernel_rfl) (by kernel_rfl) (fun _ _ _ h=>h) (Or.inl ⟨by rfl,?_⟩) (by assumption) ?_
    ·intro w hSw;(try dsimp only at hSw);go_simp
    (try simp only [Act.put,List.setIfInBounds_toArray,List.set_cons_zero,List.set_cons_succ])
    refine wpAnyH_take (i:=2) (oi:=⟨some 38,.nilCheck (.tmp 37),0,"coord.go:132",#[⟨1,.data⟩],none⟩) (v:=.pointer (some ⟨rp,0,none⟩)) rfl (by kernel_rfl) (by kernel_rfl) (by kernel_rfl) (fun _ _ _ h=>h) (Or.inl ⟨by rfl,?_⟩) (by assumption) ?_
    ·intro w hSw;(try dsimp only at hSw);go_simp
    (try simp only [Act.put,List.setIfInBounds_toArray,List.set_cons_zero,List.set_cons_succ])
    refine wpAnyH_take (i:=3) (oi:=⟨some 39,.fieldAddr 141 (.tmp 38) 3,0,"coord.go:132",#[⟨2,.data⟩],none⟩) (v:=.pointer (some ⟨rp,3,none⟩)) rfl (by kernel_rfl) (by kernel_rfl) (by kernel_rfl) (fun _ _ _ h=>h) (Or.inl ⟨by rfl,?_⟩) (by assumption) ?_
    ·intro w hSw;(try dsimp only at hSw);go_simp
    (try simp only [Act.put,List.setIfInBounds_toArray,List.set_cons_zero,List.set_cons_succ])
    refine wpAnyH_take (i:=5) (oi:=⟨some 41,.fieldAddr 144 (.tmp 4) 0,0,"coord.go:132",#[],none⟩) (v:=.pointer (some ⟨w.heap.size,0,none⟩)) rfl (by kernel_rfl) (by kernel_rfl) (by kernel_rfl) (fun _ _ _ h=>h) (Or.inl ⟨by rfl,?_⟩) (by assumption) ?_
    ·intro w hSw;(try dsimp only at hSw);go_simp
    (try simp only [Act.put,List.setIfInBounds_toArray,List.set_cons_zero,List.set_cons_succ])
    refine wpAnyH_take (i:=6) (oi:=⟨some 42,.load 34 (.tmp 41),34,"coord.go:132",#[⟨5,.data⟩],none⟩) (v:=.int .u64 (D:Int)) rfl (by kernel_rfl) (by kernel_rfl) (by kernel_rfl) (fun _ _ _ h=>h) (Or.inl ⟨by rfl,?_⟩) (by assumption) ?_
    ·intro w hSw;(try dsimp only at hSw);go_simp
    (try simp only [Act.put,List.setIfInBounds_toArray,List.set_cons_zero,List.set_cons_succ])
    refine wpAnyH_take (i:=7) (oi:=⟨some 43,.fieldAddr 144 (.tmp 4) 3,0,"coord.go:132",#[],none⟩) (v:=.pointer (some ⟨w.heap.size,3,none⟩)) rfl (by kernel_rfl) (by kernel_rfl) (by kernel_rfl) (fun _ _ _ h=>h) (Or.inl ⟨by rfl,?_⟩) (by assumption) ?_
    ·intro w hSw;(try dsimp only at hSw);go_simp
    (try simp only [Act.put,List.setIfInBounds_toArray,List.set_cons_zero,List.set_cons_succ])
    refine wpAnyH_take (i:=8) (oi:=⟨some 44,.load 142 (.tmp 43),142,"coord.go:132",#[⟨7,.data⟩],none⟩) (v:=.slice (some ⟨pb,0,none⟩) m pc) rfl (by kernel_rfl) (by kernel_rfl) (by kernel_rfl) (fun _ _ _ h=>h) (Or.inl ⟨by rfl,?_⟩) (by assumption) ?_
    ·intro w hSw;(try dsimp only at hSw);go_simp
    (try simp only [Act.put,List.setIfInBounds_toArray,List.set_cons_zero,List.set_cons_succ])
    refine wpAnyH_take (i:=9) (oi:=⟨some 45,.move (.tmp 5),3,"coord.go:132",#[],none⟩) (v:=.int .i64 (k:Int)) rfl (by kernel_rfl) (by kernel_rfl) (by kernel_rfl) (fun _ _ _ h=>h) (Or.inl ⟨by rfl,?_⟩) (by assumption) ?_
    ·intro w hSw;(try dsimp only at hSw);go_simp
    (try simp only [Act.put,List.setIfInBounds_toArray,List.set_cons_zero,List.set_cons_succ])
    refine wpAnyH_take (i:=10) (oi:=⟨some 46,.indexAddr 142 (.tmp 44) (.tmp 45),0,"coord.go:132",#[⟨8,.data⟩,⟨9,.data⟩],none⟩) (v:=.pointer (some ⟨pb,k*3,none⟩)) rfl (by kernel_rfl) (by kernel_rfl) (by kernel_rfl) (fun _ _ _ h=>h) (Or.inl ⟨by rfl,?_⟩) (by assumption) ?_
    ·intro w hSw;(try dsimp only at hSw);go_simp
    (try simp only [Act.put,List.setIfInBounds_toArray,List.set_cons_zero,List.set_cons_succ])
    refine wpAnyH_take (i:=11) (oi:=⟨some 47,.fieldAddr 204 (.tmp 46) 0,0,"coord.go:132",#[⟨10,.data⟩],none⟩) (v:=.pointer (some ⟨pb,k*3,none⟩)) rfl (by kernel_rfl) (by kernel_rfl) (by kernel_rfl) (fun _ _ _ h=>h) (Or.inl ⟨by rfl,?_⟩) (by assumption) ?_
    ·intro w hSw;(try dsimp only at hSw);go_simp
    (try simp only [Act.put,List.setIfInBounds_toArray,List.set_cons_zero,List.set_cons_succ])
    refine wpAnyH_take (i:=12) (oi:=⟨some 48,.load 3 (.tmp 47),3,"coord.go:132",#[⟨11,.data⟩],none⟩) (v:=.int .i64 (sh:Int)) rfl (by kernel_rfl) (by kernel_rfl) (by kernel_rfl) (fun _ _ _ h=>h) (Or.inl ⟨by rfl,?_⟩) (by assumption) ?_
    ·intro w hSw;(try dsimp only at hSw);go_simp
    (try simp only [Act.put,List.setIfInBounds_toArray,List.set_cons_zero,List.set_cons_succ])
    refine wpAnyH_take (i:=13) (oi:=⟨some 49,.build 212 #[(0,.tmp 42),(1,.tmp 48),(2,.const (Value.int IntKind.i64 6))],212,"coord.go:132",#[⟨6,.data⟩,⟨12,.data⟩],none⟩) (v:=.agg #[.int .u64 (D:Int),.int .i64 (sh:Int),.int .i64 6]) rfl (by kernel_rfl) (by kernel_rfl) (by kernel_rfl) (fun _ _ _ h=>h) (Or.inl ⟨by rfl,?_⟩) (by assumption) ?_
    ·intro w hSw;(try dsimp only at hSw);go_simp
    (try simp only [Act.put,List.setIfInBounds_toArray,List.set_cons_zero,List.set_cons_succ])
    refine wpAnyH_ready (rs:=[4,14]) (by kernel_rfl) (by simp) ?_
    refine AllReadyH.cons (o:=⟨some 40,.load 139 (.tmp 39),139,"coord.go:132",#[⟨3,.data⟩],none⟩) rfl (fun K hK=>?_) (AllReadyH.cons (o:=⟨some 50,.buildSlice 139 1 #[(0,.tmp 49)],139,"coord.go:132",#[⟨13,.data⟩],none⟩) rfl (fun K hK=>?_) AllReadyH.nil)
    ·go_simp
     refine hK.out _ _ ?_ (fun hHeld=>?_)
     ·exact HSF.out _ rfl rfl
     clear hK K
     (try simp only [Act.put,List.setIfInBounds_toArray,List.set_cons_zero,List.set_cons_succ])
     refine wpAnyH_ready (rs:=[14]) (by kernel_rfl) (by simp) ?_
     refine AllReadyH.cons (o:=⟨some 50,.buildSlice 139 1 #[(0,.tmp 49)],139,"coord.go:132",#[⟨13,.data⟩],none⟩) rfl (fun K hK=>?_) AllReadyH.nil
     go_simp
     refine hK.out _ _ ?_ (fun hHeld=>?_)
     ·exact HSF.out _ (al0 _) (al1 _)
     clear hK K
     (try simp only [Act.put,List.setIfInBounds_toArray,List.set_cons_zero,List.set_cons_succ])
     refine wpAnyH_ready (rs:=[15]) (by kernel_rfl) (by simp) ?_
     refine AllReadyH.cons rfl (fun K hK=>?_) AllReadyH.nil
     rw [if_pos (by rfl)]
     refine wp_dueat _ _ rfl B0 ov1 N (dueV OL) D (sh:Int) 6 wr.heap.size rfl (ownsRow_fr HA.out.2.1 ((Fr.refl [] wr).drew.alloc _) (by simp)) rfl (heap_alloc_new _ _) (by omega) (by have:=HA.out.1.low;simp;omega) ?_
     intro v' w1 hown' hgrow hat0
     obtain ⟨av,mv,cv,rfl⟩:=own_sl hown'
     have hfa:Fr [] wr (wr.drew.alloc (.cells #[.int .u64 (D:Int),.int .i64 (sh:Int),.int .i64 6] 212)):=(Fr.refl [] wr).drew.alloc _
     have fro:Fr ov1.ownBlock.toList wr w1:=(hfa.mono (by simp)).trans (Fr.of_grown hgrow)
     have hb1:=(fro.block rp HL.out.1 (by simp;exact HL.out.2.2.2.1)).trans HA.out.1.blk
     have g0:=fro.block w.heap.size HL.out.2.1 (by simp;exact HL.out.2.2.2.2.1)
     have g1:=fro.block pb HL.out.2.2.1 (by simp;exact HL.out.2.2.2.2.2.1)
     have d3:=blk_cell hb1 3
     have f3:=blk_free hb1 3
     simp at d3
     have HX:=toHid (HA.out.1.addOut hfa hgrow (D,sh,6) (HA.out.2.2 _ _ _ hown') (by simpa using hat0))
     have HE0:=toHid (fun u=>(Below.heap_setCell w1 ⟨rp,3,none⟩ u w.heap.size HL.out.2.2.2.2.2.2.1).trans g0)
     have HE1:=toHid (fun u=>(Below.heap_setCell w1 ⟨rp,3,none⟩ u pb HL.out.2.2.2.2.2.2.2).trans g1)
     clear hown' hgrow hat0 hfa fro hb1
     refine hK.out _ _ ?_ (fun hHeld=>?_)
     ·exact HSF.out _ g0 g1
     clear hK K
     (try simp only [Act.put,List.setIfInBounds_toArray])
     refine wpAnyH_take (i:=16) (oi:=⟨some 52,.nilCheck (.tmp 36),0,"coord.go:132",#[⟨0,.data⟩,⟨0,.phase⟩,⟨1,.phase⟩,⟨2,.phase⟩,⟨3,.phase⟩,⟨4,.phase⟩,⟨5,.phase⟩,⟨6,.phase⟩,⟨7,.phase⟩,⟨8,.phase⟩,⟨9,.phase⟩,⟨10,.phase⟩,⟨11,.phase⟩,⟨12,.phase⟩,⟨13,.phase⟩,⟨14,.phase⟩,⟨15,.phase⟩],none⟩) (v:=.pointer (some ⟨rp,0,none⟩)) rfl (by kernel_rfl) (by kernel_rfl) (by kernel_rfl) (fun _ _ _ h=>h) (Or.inl ⟨by rfl,?_⟩) (by assumption) ?_
     ·intro w hSw;(try dsimp only at hSw);go_simp
     (try simp only [Act.put])
     refine wpAnyH_take (i:=17) (oi:=⟨some 53,.fieldAddr 141 (.tmp 52) 3,0,"coord.go:132",#[⟨16,.data⟩,⟨0,.phase⟩,⟨1,.phase⟩,⟨2,.phase⟩,⟨3,.phase⟩,⟨4,.phase⟩,⟨5,.phase⟩,⟨6,.phase⟩,⟨7,.phase⟩,⟨8,.phase⟩,⟨9,.phase⟩,⟨10,.phase⟩,⟨11,.phase⟩,⟨12,.phase⟩,⟨13,.phase⟩,⟨14,.phase⟩,⟨15,.phase⟩],none⟩) (v:=.pointer (some ⟨rp,3,none⟩)) rfl (by kernel_rfl) (by kernel_rfl) (by kernel_rfl) (fun _ _ _ h=>h) (Or.inl ⟨by rfl,?_⟩) (by assumption) ?_
     ·intro w hSw;(try dsimp only at hSw);go_simp
     (try simp only [Act.put])
     refine wpAnyH_ready (rs:=[18]) (by kernel_rfl) (by simp) ?_
     refine AllReadyH.cons rfl (fun K hK=>?_) AllReadyH.nil
     go_simp
     refine hK.out _ _ ?_ (fun hHeld=>?_)
     ·exact HSF.out _ (HE0.out _) (HE1.out _)
     clear hK K
     (try simp only [Act.put,List.setIfInBounds_toArray,List.set_cons_zero,List.set_cons_succ])
     refine wpAnyH_done (by kernel_rfl) ?_ _
     have HZ:=toHid (HE.out _ _ HX.out.1 HX.out.2.1 (HE0.out _) (by unfold undoP;rw [← HPV.out];rfl))
     go_wp2
     go_roundw
     case rel=>exact ⟨k+1,by omega,by go_num,HZ.out⟩
     case measure=>simp [intOf];omega
    ·go_simp
     refine hK.out _ _ ?_ (fun hHeld=>?_)
     ·exact HSF.out _ (al0 _) (al1 _)
     clear hK K
     (try simp only [Act.put,List.setIfInBounds_toArray,List.set_cons_zero,List.set_cons_succ])
     refine wpAnyH_ready (rs:=[4]) (by kernel_rfl) (by simp) ?_
     refine AllReadyH.cons (o:=⟨some 40,.load 139 (.tmp 39),139,"coord.go:132",#[⟨3,.data⟩],none⟩) rfl (fun K hK=>?_) AllReadyH.nil
     go_simp
     refine hK.out _ _ ?_ (fun hHeld=>?_)
     ·exact HSF.out _ (al0 _) (al1 _)
     clear hK K
     (try simp only [Act.put,List.setIfInBounds_toArray,List.set_cons_zero,List.set_cons_succ])
     refine wpAnyH_ready (rs:=[15]) (by kernel_rfl) (by simp) ?_
     refine AllReadyH.cons rfl (fun K hK=>?_) AllReadyH.nil
     rw [if_pos (by rfl)]
     refine wp_dueat _ _ rfl B0 ov1 N (dueV OL) D (sh:Int) 6 wr.heap.size rfl (ownsRow_fr HA.out.2.1 ((Fr.refl [] wr).drew.alloc _) (by simp)) rfl (heap_alloc_new _ _) (by omega) (by have:=HA.out.1.low;simp;omega) ?_
     intro v' w1 hown' hgrow hat0
     obtain ⟨av,mv,cv,rfl⟩:=own_sl hown'
     have hfa:Fr [] wr (wr.drew.alloc (.cells #[.int .u64 (D:Int),.int .i64 (sh:Int),.int .i64 6] 212)):=(Fr.refl [] wr).drew.alloc _
     have fro:Fr ov1.ownBlock.toList wr w1:=(hfa.mono (by simp)).trans (Fr.of_grown hgrow)
     have hb1:=(fro.block rp HL.out.1 (by simp;exact HL.out.2.2.2.1)).trans HA.out.1.blk
     have g0:=fro.block w.heap.size HL.out.2.1 (by simp;exact HL.out.2.2.2.2.1)
     have g1:=fro.block pb HL.out.2.2.1 (by simp;exact HL.out.2.2.2.2.2.1)
     have d3:=blk_cell hb1 3
     have f3:=blk_free hb1 3
     simp at d3
     have HX:=toHid (HA.out.1.addOut hfa hgrow (D,sh,6) (HA.out.2.2 _ _ _ hown') (by simpa using hat0))
     have HE0:=toHid (fun u=>(Below.heap_setCell w1 ⟨rp,3,none⟩ u w.heap.size HL.out.2.2.2.2.2.2.1).trans g0)
     have HE1:=toHid (fun u=>(Below.heap_setCell w1 ⟨rp,3,none⟩ u pb HL.out.2.2.2.2.2.2.2).trans g1)
     clear hown' hgrow hat0 hfa fro hb1
     refine hK.out _ _ ?_ (fun hHeld=>?_)
     ·exact HSF.out _ g0 g1
     clear hK K
     (try simp only [Act.put,List.setIfInBounds_toArray])
     refine wpAnyH_take (i:=16) (oi:=⟨some 52,.nilCheck (.tmp 36),0,"coord.go:132",#[⟨0,.data⟩,⟨0,.phase⟩,⟨1,.phase⟩,⟨2,.phase⟩,⟨3,.phase⟩,⟨4,.phase⟩,⟨5,.phase⟩,⟨6,.phase⟩,⟨7,.phase⟩,⟨8,.phase⟩,⟨9,.phase⟩,⟨10,.phase⟩,⟨11,.phase⟩,⟨12,.phase⟩,⟨13,.phase⟩,⟨14,.phase⟩,⟨15,.phase⟩],none⟩) (v:=.pointer (some ⟨rp,0,none⟩)) rfl (by kernel_rfl) (by kernel_rfl) (by kernel_rfl) (fun _ _ _ h=>h) (Or.inl ⟨by rfl,?_⟩) (by assumption) ?_
     ·intro w hSw;(try dsimp only at hSw);go_simp
     (try simp only [Act.put])
     refine wpAnyH_take (i:=17) (oi:=⟨some 53,.fieldAddr 141 (.tmp 52) 3,0,"coord.go:132",#[⟨16,.data⟩,⟨0,.phase⟩,⟨1,.phase⟩,⟨2,.phase⟩,⟨3,.phase⟩,⟨4,.phase⟩,⟨5,.phase⟩,⟨6,.phase⟩,⟨7,.phase⟩,⟨8,.phase⟩,⟨9,.phase⟩,⟨10,.phase⟩,⟨11,.phase⟩,⟨12,.phase⟩,⟨13,.phase⟩,⟨14,.phase⟩,⟨15,.phase⟩],none⟩) (v:=.pointer (some ⟨rp,3,none⟩)) rfl (by kernel_rfl) (by kernel_rfl) (by kernel_rfl) (fun _ _ _ h=>h) (Or.inl ⟨by rfl,?_⟩) (by assumption) ?_
     ·intro w hSw;(try dsimp only at hSw);go_simp
     (try simp only [Act.put])
     refine wpAnyH_ready (rs:=[18]) (by kernel_rfl) (by simp) ?_
     refine AllReadyH.cons rfl (fun K hK=>?_) AllReadyH.nil
     go_simp
     refine hK.out _ _ ?_ (fun hHeld=>?_)
     ·exact HSF.out _ (HE0.out _) (HE1.out _)
     clear hK K
     (try simp only [Act.put,List.setIfInBounds_toArray,List.set_cons_zero,List.set_cons_succ])
     refine wpAnyH_done (by kernel_rfl) ?_ _
     have HZ:=toHid (HE.out _ _ HX.out.1 HX.out.2.1 (HE0.out _) (by unfold undoP;rw [← HPV.out];rfl))
     go_wp2
     go_roundw
     case rel=>exact ⟨k+1,by omega,by go_num,HZ.out⟩
     case measure=>simp [intOf];omega
   ·have j0:¬ (vo:Int)=0:=by omega
    have b0:((vo:Int) == 0)=false:=beq_eq_false_iff_ne.2 j0
    by_cases h2:vo=2
    ·subst h2
     go_wp2
     refine wp_region_held_drew (S:=(fun w'=>w'.cell? ⟨w.heap.size,0,none⟩=some (.int .u64 (D:Int))∧w'.cell? ⟨w.heap.size,3,none⟩=some (.slice (some ⟨pb,0,none⟩) m pc)∧w'.cell? ⟨pb,k*3,none⟩=some (.int .i64 (sh:Int)))) (by kernel_rfl) (HSF.out _ rfl rfl) (fun hHeld=>?_)
     refine wpAnyH_take (i:=0) (oi:=⟨some 36,.move (.tmp 0),78,"coord.go:132",#[],none⟩) (v:=.pointer (some ⟨rp,0,none⟩)) rfl (by kernel_rfl) (by kernel_rfl) (by kernel_rfl) (fun _ _ _ h=>h) (Or.inl ⟨by rfl,?_⟩) (by assumption) ?_
     ·intro w hSw;(try dsimp only at hSw);go_simp
     (try simp only [Act.put,List.setIfInBounds_toArray,List.set_cons_zero,List.set_cons_succ])
     refine wpAnyH_take (i:=1) (oi:=⟨some 37,.move (.tmp 0),78,"coord.go:132",#[],none⟩) (v:=.pointer (some ⟨rp,0,none⟩)) rfl (by kernel_rfl) (by kernel_rfl) (by kernel_rfl) (fun _ _ _ h=>h) (Or.inl ⟨by rfl,?_⟩) (by assumption) ?_
     ·intro w hSw;(try dsimp only at hSw);go_simp
     (try simp only [Act.put,List.setIfInBounds_toArray,List.set_cons_zero,List.set_cons_succ])
     refine wpAnyH_take (i:=2) (oi:=⟨some 38,.nilCheck (.tmp 37),0,"coord.go:132",#[⟨1,.data⟩],none⟩) (v:=.pointer (some ⟨rp,0,none⟩)) rfl (by kernel_rfl) (by kernel_rfl) (by kernel_rfl) (fun _ _ _ h=>h) (Or.inl ⟨by rfl,?_⟩) (by assumption) ?_
     ·intro w hSw;(try dsimp only at hSw);go_simp
     (try simp only [Act.put,List.setIfInBounds_toArray,List.set_cons_zero,List.set_cons_succ])
     refine wpAnyH_take (i:=3) (oi:=⟨some 39,.fieldAddr 141 (.tmp 38) 3,0,"coord.go:132",#[⟨2,.data⟩],none⟩) (v:=.pointer (some ⟨rp,3,none⟩)) rfl (by kernel_rfl) (by kernel_rfl) (by kernel_rfl) (fun _ _ _ h=>h) (Or.inl ⟨by rfl,?_⟩) (by assumption) ?_
     ·intro w hSw;(try dsimp only at hSw);go_simp
     (try simp only [Act.put,List.setIfInBounds_toArray,List.set_cons_zero,List.set_cons_succ])
     refine wpAnyH_take (i:=5) (oi:=⟨some 41,.fieldAddr 144 (.tmp 4) 0,0,"coord.go:132",#[],none⟩) (v:=.pointer (some ⟨w.heap.size,0,none⟩)) rfl (by kernel_rfl) (by kernel_rfl) (by kernel_rfl) (fun _ _ _ h=>h) (Or.inl ⟨by rfl,?_⟩) (by assumption) ?_
     ·intro w hSw;(try dsimp only at hSw);go_simp
     (try simp only [Act.put,List.setIfInBounds_toArray,List.set_cons_zero,List.set_cons_succ])
     refine wpAnyH_take (i:=6) (oi:=⟨some 42,.load 34 (.tmp 41),34,"coord.go:132",#[⟨5,.data⟩],none⟩) (v:=.int .u64 (D:Int)) rfl (by kernel_rfl) (by kernel_rfl) (by kernel_rfl) (fun _ _ _ h=>h) (Or.inl ⟨by rfl,?_⟩) (by assumption) ?_
     ·intro w hSw;(try dsimp only at hSw);go_simp
     (try simp only [Act.put,List.setIfInBounds_toArray,List.set_cons_zero,List.set_cons_succ])
     refine wpAnyH_take (i:=7) (oi:=⟨some 43,.fieldAddr 144 (.tmp 4) 3,0,"coord.go:132",#[],none⟩) (v:=.pointer (some ⟨w.heap.size,3,none⟩)) rfl (by kernel_rfl) (by kernel_rfl) (by kernel_rfl) (fun _ _ _ h=>h) (Or.inl ⟨by rfl,?_⟩) (by assumption) ?_
     ·intro w hSw;(try dsimp only at hSw);go_simp
     (try simp only [Act.put,List.setIfInBounds_toArray,List.set_cons_zero,List.set_cons_succ])
     refine wpAnyH_take (i:=8) (oi:=⟨some 44,.load 142 (.tmp 43),142,"coord.go:132",#[⟨7,.data⟩],none⟩) (v:=.slice (some ⟨pb,0,none⟩) m pc) rfl (by kernel_rfl) (by kernel_rfl) (by kernel_rfl) (fun _ _ _ h=>h) (Or.inl ⟨by rfl,?_⟩) (by assumption) ?_
     ·intro w hSw;(try dsimp only at hSw);go_simp
     (try simp only [Act.put,List.setIfInBounds_toArray,List.set_cons_zero,List.set_cons_succ])
     refine wpAnyH_take (i:=9) (oi:=⟨some 45,.move (.tmp 5),3,"coord.go:132",#[],none⟩) (v:=.int .i64 (k:Int)) rfl (by kernel_rfl) (by kernel_rfl) (by kernel_rfl) (fun _ _ _ h=>h) (Or.inl ⟨by rfl,?_⟩) (by assumption) ?_
     ·intro w hSw;(try dsimp only at hSw);go_simp
     (try simp only [Act.put,List.setIfInBounds_toArray,List.set_cons_zero,List.set_cons_succ])
     refine wpAnyH_take (i:=10) (oi:=⟨some 46,.indexAddr 142 (.tmp 44) (.tmp 45),0,"coord.go:132",#[⟨8,.data⟩,⟨9,.data⟩],none⟩) (v:=.pointer (some ⟨pb,k*3,none⟩)) rfl (by kernel_rfl) (by kernel_rfl) (by kernel_rfl) (fun _ _ _ h=>h) (Or.inl ⟨by rfl,?_⟩) (by assumption) ?_
     ·intro w hSw;(try dsimp only at hSw);go_simp
     (try simp only [Act.put,List.setIfInBounds_toArray,List.set_cons_zero,List.set_cons_succ])
     refine wpAnyH_take (i:=11) (oi:=⟨some 47,.fieldAddr 204 (.tmp 46) 0,0,"coord.go:132",#[⟨10,.data⟩],none⟩) (v:=.pointer (some ⟨pb,k*3,none⟩)) rfl (by kernel_rfl) (by kernel_rfl) (by kernel_rfl) (fun _ _ _ h=>h) (Or.inl ⟨by rfl,?_⟩) (by assumption) ?_
     ·intro w hSw;(try dsimp only at hSw);go_simp
     (try simp only [Act.put,List.setIfInBounds_toArray,List.set_cons_zero,List.set_cons_succ])
     refine wpAnyH_take (i:=12) (oi:=⟨some 48,.load 3 (.tmp 47),3,"coord.go:132",#[⟨11,.data⟩],none⟩) (v:=.int .i64 (sh:Int)) rfl (by kernel_rfl) (by kernel_rfl) (by kernel_rfl) (fun _ _ _ h=>h) (Or.inl ⟨by rfl,?_⟩) (by assumption) ?_
     ·intro w hSw;(try dsimp only at hSw);go_simp
     (try simp only [Act.put,List.setIfInBounds_toArray,List.set_cons_zero,List.set_cons_succ])
     refine wpAnyH_take (i:=13) (oi:=⟨some 49,.build 212 #[(0,.tmp 42),(1,.tmp 48),(2,.const (Value.int IntKind.i64 6))],212,"coord.go:132",#[⟨6,.data⟩,⟨12,.data⟩],none⟩) (v:=.agg #[.int .u64 (D:Int),.int .i64 (sh:Int),.int .i64 6]) rfl (by kernel_rfl) (by kernel_rfl) (by kernel_rfl) (fun _ _ _ h=>h) (Or.inl ⟨by rfl,?_⟩) (by assumption) ?_
     ·intro w hSw;(try dsimp only at hSw);go_simp
     (try simp only [Act.put,List.setIfInBounds_toArray,List.set_cons_zero,List.set_cons_succ])
     refine wpAnyH_ready (rs:=[4,14]) (by kernel_rfl) (by simp) ?_
     refine AllReadyH.cons (o:=⟨some 40,.load 139 (.tmp 39),139,"coord.go:132",#[⟨3,.data⟩],none⟩) rfl (fun K hK=>?_) (AllReadyH.cons (o:=⟨some 50,.buildSlice 139 1 #[(0,.tmp 49)],139,"coord.go:132",#[⟨13,.data⟩],none⟩) rfl (fun K hK=>?_) AllReadyH.nil)
     ·go_simp
      refine hK.out _ _ ?_ (fun hHeld=>?_)
      ·exact HSF.out _ rfl rfl
      clear hK K
      (try simp only [Act.put,List.setIfInBounds_toArray,List.set_cons_zero,List.set_cons_succ])
      refine wpAnyH_ready (rs:=[14]) (by kernel_rfl) (by simp) ?_
      refine AllReadyH.cons (o:=⟨some 50,.buildSlice 139 1 #[(0,.tmp 49)],139,"coord.go:132",#[⟨13,.data⟩],none⟩) rfl (fun K hK=>?_) AllReadyH.nil
      go_simp
      refine hK.out _ _ ?_ (fun hHeld=>?_)
      ·exact HSF.out _ (al0 _) (al1 _)
      clear hK K
      (try simp only [Act.put,List.setIfInBounds_toArray,List.set_cons_zero,List.set_cons_succ])
      refine wpAnyH_ready (rs:=[15]) (by kernel_rfl) (by simp) ?_
      refine AllReadyH.cons rfl (fun K hK=>?_) AllReadyH.nil
      rw [if_pos (by rfl)]
      refine wp_dueat _ _ rfl B0 ov1 N (dueV OL) D (sh:Int) 6 wr.heap.size rfl (ownsRow_fr HA.out.2.1 ((Fr.refl [] wr).drew.alloc _) (by simp)) rfl (heap_alloc_new _ _) (by omega) (by have:=HA.out.1.low;simp;omega) ?_
      intro v' w1 hown' hgrow hat0
      obtain ⟨av,mv,cv,rfl⟩:=own_sl hown'
      have hfa:Fr [] wr (wr.drew.alloc (.cells #[.int .u64 (D:Int),.int .i64 (sh:Int),.int .i64 6] 212)):=(Fr.refl [] wr).drew.alloc _
      have fro:Fr ov1.ownBlock.toList wr w1:=(hfa.mono (by simp)).trans (Fr.of_grown hgrow)
      have hb1:=(fro.block rp HL.out.1 (by simp;exact HL.out.2.2.2.1)).trans HA.out.1.blk
      have g0:=fro.block w.heap.size HL.out.2.1 (by simp;exact HL.out.2.2.2.2.1)
      have g1:=fro.block pb HL.out.2.2.1 (by simp;exact HL.out.2.2.2.2.2.1)
      have d3:=blk_cell hb1 3
      have f3:=blk_free hb1 3
      simp at d3
      have HX:=toHid (HA.out.1.addOut hfa hgrow (D,sh,6) (HA.out.2.2 _ _ _ hown') (by simpa using hat0))
      have HE0:=toHid (fun u=>(Below.heap_setCell w1 ⟨rp,3,none⟩ u w.heap.size HL.out.2.2.2.2.2.2.1).trans g0)
      have HE1:=toHid (fun u=>(Below.heap_setCell w1 ⟨rp,3,none⟩ u pb HL.out.2.2.2.2.2.2.2).trans g1)
      clear hown' hgrow hat0 hfa fro hb1
      refine hK.out _ _ ?_ (fun hHeld=>?_)
      ·exact HSF.out _ g0 g1
      clear hK K
      (try simp only [Act.put,List.setIfInBounds_toArray])
      refine wpAnyH_take (i:=16) (oi:=⟨some 52,.nilCheck (.tmp 36),0,"coord.go:132",#[⟨0,.data⟩,⟨0,.phase⟩,⟨1,.phase⟩,⟨2,.phase⟩,⟨3,.phase⟩,⟨4,.phase⟩,⟨5,.phase⟩,⟨6,.phase⟩,⟨7,.phase⟩,⟨8,.phase⟩,⟨9,.phase⟩,⟨10,.phase⟩,⟨11,.phase⟩,⟨12,.phase⟩,⟨13,.phase⟩,⟨14,.phase⟩,⟨15,.phase⟩],none⟩) (v:=.pointer (some ⟨rp,0,none⟩)) rfl (by kernel_rfl) (by kernel_rfl) (by kernel_rfl) (fun _ _ _ h=>h) (Or.inl ⟨by rfl,?_⟩) (by assumption) ?_
      ·intro w hSw;(try dsimp only at hSw);go_simp
      (try simp only [Act.put])
      refine wpAnyH_take (i:=17) (oi:=⟨some 53,.fieldAddr 141 (.tmp 52) 3,0,"coord.go:132",#[⟨16,.data⟩,⟨0,.phase⟩,⟨1,.phase⟩,⟨2,.phase⟩,⟨3,.phase⟩,⟨4,.phase⟩,⟨5,.phase⟩,⟨6,.phase⟩,⟨7,.phase⟩,⟨8,.phase⟩,⟨9,.phase⟩,⟨10,.phase⟩,⟨11,.phase⟩,⟨12,.phase⟩,⟨13,.phase⟩,⟨14,.phase⟩,⟨15,.phase⟩],none⟩) (v:=.pointer (some ⟨rp,3,none⟩)) rfl (by kernel_rfl) (by kernel_rfl) (by kernel_rfl) (fun _ _ _ h=>h) (Or.inl ⟨by rfl,?_⟩) (by assumption) ?_
      ·intro w hSw;(try dsimp only at hSw);go_simp
      (try simp only [Act.put])
      refine wpAnyH_ready (rs:=[18]) (by kernel_rfl) (by simp) ?_
      refine AllReadyH.cons rfl (fun K hK=>?_) AllReadyH.nil
      go_simp
      refine hK.out _ _ ?_ (fun hHeld=>?_)
      ·exact HSF.out _ (HE0.out _) (HE1.out _)
      clear hK K
      (try simp only [Act.put,List.setIfInBounds_toArray,List.set_cons_zero,List.set_cons_succ])
      refine wpAnyH_done (by kernel_rfl) ?_ _
      have HZ:=toHid (HE.out _ _ HX.out.1 HX.out.2.1 (HE0.out _) (by unfold undoP;rw [← HPV.out];rfl))
      go_wp2
      go_roundw
      case rel=>exact ⟨k+1,by omega,by go_num,HZ.out⟩
      case measure=>simp [intOf];omega
     ·go_simp
      refine hK.out _ _ ?_ (fun hHeld=>?_)
      ·exact HSF.out _ (al0 _) (al1 _)
      clear hK K
      (try simp only [Act.put,List.setIfInBounds_toArray,List.set_cons_zero,List.set_cons_succ])
      refine wpAnyH_ready (rs:=[4]) (by kernel_rfl) (by simp) ?_
      refine AllReadyH.cons (o:=⟨some 40,.load 139 (.tmp 39),139,"coord.go:132",#[⟨3,.data⟩],none⟩) rfl (fun K hK=>?_) AllReadyH.nil
      go_simp
      refine hK.out _ _ ?_ (fun hHeld=>?_)
      ·exact HSF.out _ (al0 _) (al1 _)
      clear hK K
      (try simp only [Act.put,List.setIfInBounds_toArray,List.set_cons_zero,List.set_cons_succ])
      refine wpAnyH_ready (rs:=[15]) (by kernel_rfl) (by simp) ?_
      refine AllReadyH.cons rfl (fun K hK=>?_) AllReadyH.nil
      rw [if_pos (by rfl)]
      refine wp_dueat _ _ rfl B0 ov1 N (dueV OL) D (sh:Int) 6 wr.heap.size rfl (ownsRow_fr HA.out.2.1 ((Fr.refl [] wr).drew.alloc _) (by simp)) rfl (heap_alloc_new _ _) (by omega) (by have:=HA.out.1.low;simp;omega) ?_
      intro v' w1 hown' hgrow hat0
      obtain ⟨av,mv,cv,rfl⟩:=own_sl hown'
      have hfa:Fr [] wr (wr.drew.alloc (.cells #[.int .u64 (D:Int),.int .i64 (sh:Int),.int .i64 6] 212)):=(Fr.refl [] wr).drew.alloc _
      have fro:Fr ov1.ownBlock.toList wr w1:=(hfa.mono (by simp)).trans (Fr.of_grown hgrow)
      have hb1:=(fro.block rp HL.out.1 (by simp;exact HL.out.2.2.2.1)).trans HA.out.1.blk
      have g0:=fro.block w.heap.size HL.out.2.1 (by simp;exact HL.out.2.2.2.2.1)
      have g1:=fro.block pb HL.out.2.2.1 (by simp;exact HL.out.2.2.2.2.2.1)
      have d3:=blk_cell hb1 3
      have f3:=blk_free hb1 3
      simp at d3
      have HX:=toHid (HA.out.1.addOut hfa hgrow (D,sh,6) (HA.out.2.2 _ _ _ hown') (by simpa using hat0))
      have HE0:=toHid (fun u=>(Below.heap_setCell w1 ⟨rp,3,none⟩ u w.heap.size HL.out.2.2.2.2.2.2.1).trans g0)
      have HE1:=toHid (fun u=>(Below.heap_setCell w1 ⟨rp,3,none⟩ u pb HL.out.2.2.2.2.2.2.2).trans g1)
      clear hown' hgrow hat0 hfa fro hb1
      refine hK.out _ _ ?_ (fun hHeld=>?_)
      ·exact HSF.out _ g0 g1
      clear hK K
      (try simp only [Act.put,List.setIfInBounds_toArray])
      refine wpAnyH_take (i:=16) (oi:=⟨some 52,.nilCheck (.tmp 36),0,"coord.go:132",#[⟨0,.data⟩,⟨0,.phase⟩,⟨1,.phase⟩,⟨2,.phase⟩,⟨3,.phase⟩,⟨4,.phase⟩,⟨5,.phase⟩,⟨6,.phase⟩,⟨7,.phase⟩,⟨8,.phase⟩,⟨9,.phase⟩,⟨10,.phase⟩,⟨11,.phase⟩,⟨12,.phase⟩,⟨13,.phase⟩,⟨14,.phase⟩,⟨15,.phase⟩],none⟩) (v:=.pointer (some ⟨rp,0,none⟩)) rfl (by kernel_rfl) (by kernel_rfl) (by kernel_rfl) (fun _ _ _ h=>h) (Or.inl ⟨by rfl,?_⟩) (by assumption) ?_
      ·intro w hSw;(try dsimp only at hSw);go_simp
      (try simp only [Act.put])
      refine wpAnyH_take (i:=17) (oi:=⟨some 53,.fieldAddr 141 (.tmp 52) 3,0,"coord.go:132",#[⟨16,.data⟩,⟨0,.phase⟩,⟨1,.phase⟩,⟨2,.phase⟩,⟨3,.phase⟩,⟨4,.phase⟩,⟨5,.phase⟩,⟨6,.phase⟩,⟨7,.phase⟩,⟨8,.phase⟩,⟨9,.phase⟩,⟨10,.phase⟩,⟨11,.phase⟩,⟨12,.phase⟩,⟨13,.phase⟩,⟨14,.phase⟩,⟨15,.phase⟩],none⟩) (v:=.pointer (some ⟨rp,3,none⟩)) rfl (by kernel_rfl) (by kernel_rfl) (by kernel_rfl) (fun _ _ _ h=>h) (Or.inl ⟨by rfl,?_⟩) (by assumption) ?_
      ·intro w hSw;(try dsimp only at hSw);go_simp
      (try simp only [Act.put])
      refine wpAnyH_ready (rs:=[18]) (by kernel_rfl) (by simp) ?_
      refine AllReadyH.cons rfl (fun K hK=>?_) AllReadyH.nil
      go_simp
      refine hK.out _ _ ?_ (fun hHeld=>?_)
      ·exact HSF.out _ (HE0.out _) (HE1.out _)
      clear hK K
      (try simp only [Act.put,List.setIfInBounds_toArray,List.set_cons_zero,List.set_cons_succ])
      refine wpAnyH_done (by kernel_rfl) ?_ _
      have HZ:=toHid (HE.out _ _ HX.out.1 HX.out.2.1 (HE0.out _) (by unfold undoP;rw [← HPV.out];rfl))
      go_wp2
      go_roundw
      case rel=>exact ⟨k+1,by omega,by go_num,HZ.out⟩
      case measure=>simp [intOf];omega
    ·have j2:¬ (vo:Int)=2:=by omega
     have b2:((vo:Int) == 2)=false:=beq_eq_false_iff_ne.2 j2
     have HZ:=toHid (HO.out (by unfold undoP;rw [← HPV.out];simp;omega))
     go_wp2
     go_roundw
     case rel=>exact ⟨k+1,by omega,by go_num,HZ.out⟩
     case measure=>simp [intOf];omega
  ·obtain rfl:k=m:=by omega
   have i3:¬ (k:Int)<(k:Int):=by omega
   have etk:x.parts.take k=x.parts:=List.take_of_length_le (by rw [← HV.out.2.1];exact Nat.le_refl _)
   rw [etk] at hin
   have hrb:=(Array.getElem?_eq_some_iff.1 hin.blk).1
   have hxl:=(Array.getElem?_eq_some_iff.1 hxb).1
   have hne:=hin.ne
   obtain ⟨N,hN⟩:∃ N,N=R.res.length:=⟨_,rfl⟩
   have hNb:N≤1048600:=by omega
   have HL:=toHid (show rp<wr.heap.size∧w.heap.size<wr.heap.size∧rv.ownBlock≠some rp∧rv.ownBlock≠some w.heap.size∧w.heap.size≠rp from ⟨hrb,hxl,hne.2.1,own_ne hin.res hxb (by decide),by have:=HXR.out.1;omega⟩)
   have HA:=toHid (show RkIn wr rp xv rv ov1 ps { R with out:=R.out++undoL D x.parts }∧wr.ownsRow B0 216 2 rv N (resV R.res)∧(∀ (W:World) (v:Value) (xs:List Value),W.ownsRow B0 216 2 v (N+1) xs→W.ownsRow B0 216 2 v (R.res.length+1) xs) from ⟨hin,by rw [hN];exact hin.res,fun W v xs hh=>by rw [← hN];exact hh⟩)
   have HSF:=toHid (show ∀ W':World,W'.heap[w.heap.size]?=wr.heap[w.heap.size]?→W'.cell? ⟨w.heap.size,0,none⟩=some (.int .u64 (D:Int)) from fun W' h1=>(World.cell?_of_block (a:=⟨w.heap.size,0,none⟩) h1).trans x0)
   have o3:=blk_cell hin.blk 2
   simp at o3
   have al0:∀ o,(wr.drew.alloc o).heap[w.heap.size]?=wr.heap[w.heap.size]?:=fun o=>Below.heap_alloc wr.drew o w.heap.size hxl
   have al3:∀ o,(wr.drew.alloc o).cell? ⟨rp,2,none⟩=some rv:=fun o=>(World.cell?_alloc_lt _ _ _ hrb).trans o3
   have al4:∀ o,(wr.alloc o).cell? ⟨rp,2,none⟩=some rv:=fun o=>(World.cell?_alloc_lt _ _ _ hrb).trans o3
   have HKF:=toHid hkf
   clear H hin hkf hxb hrb hxl hne hN etk
   go_wp2
   refine wp_region_held_drew (S:=(fun w'=>w'.cell? ⟨w.heap.size,0,none⟩=some (.int .u64 (D:Int)))) (by kernel_rfl) (HSF.out _ rfl) (fun hHeld=>?_)
   refine wpAnyH_take (i:=0) (oi:=⟨some 54,.move (.tmp 0),78,"coord.go:135",#[],none⟩) (v:=.pointer (some ⟨rp,0,none⟩)) rfl (by kernel_rfl) (by kernel_rfl) (by kernel_rfl) (fun _ _ _ h=>h) (Or.inl ⟨by rfl,?_⟩) (by assumption) ?_
   ·intro w hSw;(try dsimp only at hSw);go_simp
   (try simp only [Act.put,List.setIfInBounds_toArray,List.set_cons_zero,List.set_cons_succ])
   refine wpAnyH_take (i:=1) (oi:=⟨some 55,.move (.tmp 0),78,"coord.go:135",#[],none⟩) (v:=.pointer (some ⟨rp,0,none⟩)) rfl (by kernel_rfl) (by kernel_rfl) (by kernel_rfl) (fun _ _ _ h=>h) (Or.inl ⟨by rfl,?_⟩) (by assumption) ?_
   ·intro w hSw;(try dsimp only at hSw);go_simp
   (try simp only [Act.put,List.setIfInBounds_toArray,List.set_cons_zero,List.set_cons_succ])
   refine wpAnyH_take (i:=2) (oi:=⟨some 56,.nilCheck (.tmp 55),0,"coord.go:135",#[⟨1,.data⟩],none⟩) (v:=.pointer (some ⟨rp,0,none⟩)) rfl (by kernel_rfl) (by kernel_rfl) (by kernel_rfl) (fun _ _ _ h=>h) (Or.inl ⟨by rfl,?_⟩) (by assumption) ?_
   ·intro w hSw;(try dsimp only at hSw);go_simp
   (try simp only [Act.put,List.setIfInBounds_toArray,List.set_cons_zero,List.set_cons_succ])
   refine wpAnyH_take (i:=3) (oi:=⟨some 57,.fieldAddr 141 (.tmp 56) 2,0,"coord.go:135",#[⟨2,.data⟩],none⟩) (v:=.pointer (some ⟨rp,2,none⟩)) rfl (by kernel_rfl) (by kernel_rfl) (by kernel_rfl) (fun _ _ _ h=>h) (Or.inl ⟨by rfl,?_⟩) (by assumption) ?_
   ·intro w hSw;(try dsimp only at hSw);go_simp
   (try simp only [Act.put,List.setIfInBounds_toArray,List.set_cons_zero,List.set_cons_succ])
   refine wpAnyH_take (i:=5) (oi:=⟨some 59,.fieldAddr 144 (.tmp 4) 0,0,"coord.go:135",#[],none⟩) (v:=.pointer (some ⟨w.heap.size,0,none⟩)) rfl (by kernel_rfl) (by kernel_rfl) (by kernel_rfl) (fun _ _ _ h=>h) (Or.inl ⟨by rfl,?_⟩) (by assumption) ?_
   ·intro w hSw;(try dsimp only at hSw);go_simp
   (try simp only [Act.put,List.setIfInBounds_toArray,List.set_cons_zero,List.set_cons_succ])
   refine wpAnyH_take (i:=6) (oi:=⟨some 60,.load 34 (.tmp 59),34,"coord.go:135",#[⟨5,.data⟩],none⟩) (v:=.int .u64 (D:Int)) rfl (by kernel_rfl) (by kernel_rfl) (by kernel_rfl) (fun _ _ _ h=>h) (Or.inl ⟨by rfl,?_⟩) (by assumption) ?_
   ·intro w hSw;(try dsimp only at hSw);go_simp
   (try simp only [Act.put,List.setIfInBounds_toArray,List.set_cons_zero,List.set_cons_succ])
   refine wpAnyH_take (i:=7) (oi:=⟨some 61,.build 216 #[(0,.tmp 60),(1,.const (Value.int IntKind.i64 6))],216,"coord.go:135",#[⟨6,.data⟩],none⟩) (v:=.agg #[.int .u64 (D:Int),.int .i64 6]) rfl (by kernel_rfl) (by kernel_rfl) (by kernel_rfl) (fun _ _ _ h=>h) (Or.inl ⟨by rfl,?_⟩) (by assumption) ?_
   ·intro w hSw;(try dsimp only at hSw);go_simp
   (try simp only [Act.put,List.setIfInBounds_toArray,List.set_cons_zero,List.set_cons_succ])
   refine wpAnyH_ready (rs:=[4,8]) (by kernel_rfl) (by simp) ?_
   refine AllReadyH.cons (o:=⟨some 58,.load 138 (.tmp 57),138,"coord.go:135",#[⟨3,.data⟩],none⟩) rfl (fun K hK=>?_) (AllReadyH.cons (o:=⟨some 62,.buildSlice 138 1 #[(0,.tmp 61)],138,"coord.go:135",#[⟨7,.data⟩],none⟩) rfl (fun K hK=>?_) AllReadyH.nil)
   ·go_simp
    refine hK.out _ _ ?_ (fun hHeld=>?_)
    ·exact HSF.out _ rfl
    clear hK K
    (try simp only [Act.put,List.setIfInBounds_toArray,List.set_cons_zero,List.set_cons_succ])
    refine wpAnyH_ready (rs:=[8]) (by kernel_rfl) (by simp) ?_
    refine AllReadyH.cons (o:=⟨some 62,.buildSlice 138 1 #[(0,.tmp 61)],138,"coord.go:135",#[⟨7,.data⟩],none⟩) rfl (fun K hK=>?_) AllReadyH.nil
    go_simp
    refine hK.out _ _ ?_ (fun hHeld=>?_)
    ·exact HSF.out _ (al0 _)
    clear hK K
    (try simp only [Act.put,List.setIfInBounds_toArray,List.set_cons_zero,List.set_cons_succ])
    refine wpAnyH_ready (rs:=[9]) (by kernel_rfl) (by simp) ?_
    refine AllReadyH.cons rfl (fun K hK=>?_) AllReadyH.nil
    rw [if_pos (by rfl)]
    refine wp_resat _ _ rfl B0 rv N (resV R.res) D 6 wr.heap.size rfl (ownsRow_fr HA.out.2.1 ((Fr.refl [] wr).drew.alloc _) (by simp)) rfl (heap_alloc_new _ _) (by omega) (by have:=HA.out.1.low;simp;omega) ?_
    intro v' w1 hown' hgrow hat0
    obtain ⟨av,mv,cv,rfl⟩:=own_sl hown'
    have hfa:Fr [] wr (wr.drew.alloc (.cells #[.int .u64 (D:Int),.int .i64 6] 216)):=(Fr.refl [] wr).drew.alloc _
    have fro:Fr rv.ownBlock.toList wr w1:=(hfa.mono (by simp)).trans (Fr.of_grown hgrow)
    have hb1:=(fro.block rp HL.out.1 (by simp;exact HL.out.2.2.1)).trans HA.out.1.blk
    have g0:=fro.block w.heap.size HL.out.2.1 (by simp;exact HL.out.2.2.2.1)
    have d3:=blk_cell hb1 2
    have f3:=blk_free hb1 2
    simp at d3
    have HX:=toHid (HA.out.1.addRes hfa hgrow (D,6) (HA.out.2.2 _ _ _ hown') (by simpa using hat0))
    have HE0:=toHid (fun u=>(Below.heap_setCell w1 ⟨rp,2,none⟩ u w.heap.size HL.out.2.2.2.2).trans g0)
    clear hown' hgrow hat0 hfa fro hb1
    refine hK.out _ _ ?_ (fun hHeld=>?_)
    ·exact HSF.out _ g0
    clear hK K
    (try simp only [Act.put,List.setIfInBounds_toArray])
    refine wpAnyH_take (i:=10) (oi:=⟨some 64,.nilCheck (.tmp 54),0,"coord.go:135",#[⟨0,.data⟩,⟨0,.phase⟩,⟨1,.phase⟩,⟨2,.phase⟩,⟨3,.phase⟩,⟨4,.phase⟩,⟨5,.phase⟩,⟨6,.phase⟩,⟨7,.phase⟩,⟨8,.phase⟩,⟨9,.phase⟩],none⟩) (v:=.pointer (some ⟨rp,0,none⟩)) rfl (by kernel_rfl) (by kernel_rfl) (by kernel_rfl) (fun _ _ _ h=>h) (Or.inl ⟨by rfl,?_⟩) (by assumption) ?_
    ·intro w hSw;(try dsimp only at hSw);go_simp
    (try simp only [Act.put])
    refine wpAnyH_take (i:=11) (oi:=⟨some 65,.fieldAddr 141 (.tmp 64) 2,0,"coord.go:135",#[⟨10,.data⟩,⟨0,.phase⟩,⟨1,.phase⟩,⟨2,.phase⟩,⟨3,.phase⟩,⟨4,.phase⟩,⟨5,.phase⟩,⟨6,.phase⟩,⟨7,.phase⟩,⟨8,.phase⟩,⟨9,.phase⟩],none⟩) (v:=.pointer (some ⟨rp,2,none⟩)) rfl (by kernel_rfl) (by kernel_rfl) (by kernel_rfl) (fun _ _ _ h=>h) (Or.inl ⟨by rfl,?_⟩) (by assumption) ?_
    ·intro w hSw;(try dsimp only at hSw);go_simp
    (try simp only [Act.put])
    refine wpAnyH_ready (rs:=[12]) (by kernel_rfl) (by simp) ?_
    refine AllReadyH.cons rfl (fun K hK=>?_) AllReadyH.nil
    go_simp
    refine hK.out _ _ ?_ (fun hHeld=>?_)
    ·exact HSF.out _ (HE0.out _)
    clear hK K
    (try simp only [Act.put,List.setIfInBounds_toArray,List.set_cons_zero,List.set_cons_succ])
    refine wpAnyH_done (by kernel_rfl) ?_ _
    have hdr:=kdrop_any rp i xv (.slice av mv cv) ov1 ps _ _ HX.out.1 hil hn
    have HXK:=toHid (HKF.out.trans HX.out.2.1)
    clear HX HE0 HSF HL HA HKF
    go_wp2_with fail
    refine hdr.mono ?_
    clear hdr
    rintro e w5 ⟨rfl,⟨xv',hin5,hnew⟩,hf5⟩
    have HF:=toHid (show ∃ S',RkN w5 rp S' { R with deals:=R.deals.take i++R.deals.drop (i+1),res:=R.res++[(D,6)],out:=R.out++undoL D x.parts }∧KFr (kb rp xv rv ov ps) S' w w5 from by
     refine ⟨_,⟨_,_,_,_,hin5,rfl⟩,HXK.out.trans ⟨hf5.mono (fun q _ hq=>mem_kb.2 (.inl (by simpa using hq))),fun q hq hl=>?_⟩⟩
     rw [mem_kb] at hq ⊢
     rcases hq with e | e | e | e | ⟨y,hy,e⟩
     ·exact .inl e
     ·have:=hnew q e;omega
     ·exact .inr (.inr (.inl e))
     ·exact .inr (.inr (.inr (.inl e)))
     ·exact .inr (.inr (.inr (.inr ⟨y,(take_drop_sub ps i).subset hy,e⟩))))
    clear hin5 hnew hf5
    go_wp2
    go_end0
    exact ⟨rfl,HF.out⟩
   ·go_simp
    refine hK.out _ _ ?_ (fun hHeld=>?_)
    ·exact HSF.out _ (al0 _)
    clear hK K
    (try simp only [Act.put,List.setIfInBounds_toArray,List.set_cons_zero,List.set_cons_succ])
    refine wpAnyH_ready (rs:=[4]) (by kernel_rfl) (by simp) ?_
    refine AllReadyH.cons (o:=⟨some 58,.load 138 (.tmp 57),138,"coord.go:135",#[⟨3,.data⟩],none⟩) rfl (fun K hK=>?_) AllReadyH.nil
    go_simp
    refine hK.out _ _ ?_ (fun hHeld=>?_)
    ·exact HSF.out _ (al0 _)
    clear hK K
    (try simp only [Act.put,List.setIfInBounds_toArray,List.set_cons_zero,List.set_cons_succ])
    refine wpAnyH_ready (rs:=[9]) (by kernel_rfl) (by simp) ?_
    refine AllReadyH.cons rfl (fun K hK=>?_) AllReadyH.nil
    rw [if_pos (by rfl)]
    refine wp_resat _ _ rfl B0 rv N (resV R.res) D 6 wr.heap.size rfl (ownsRow_fr HA.out.2.1 ((Fr.refl [] wr).drew.alloc _) (by simp)) rfl (heap_alloc_new _ _) (by omega) (by have:=HA.out.1.low;simp;omega) ?_
    intro v' w1 hown' hgrow hat0
    obtain ⟨av,mv,cv,rfl⟩:=own_sl hown'
    have hfa:Fr [] wr (wr.drew.alloc (.cells #[.int .u64 (D:Int),.int .i64 6] 216)):=(Fr.refl [] wr).drew.alloc _
    have fro:Fr rv.ownBlock.toList wr w1:=(hfa.mono (by simp)).trans (Fr.of_grown hgrow)
    have hb1:=(fro.block rp HL.out.1 (by simp;exact HL.out.2.2.1)).trans HA.out.1.blk
    have g0:=fro.block w.heap.size HL.out.2.1 (by simp;exact HL.out.2.2.2.1)
    have d3:=blk_cell hb1 2
    have f3:=blk_free hb1 2
    simp at d3
    have HX:=toHid (HA.out.1.addRes hfa hgrow (D,6) (HA.out.2.2 _ _ _ hown') (by simpa using hat0))
    have HE0:=toHid (fun u=>(Below.heap_setCell w1 ⟨rp,2,none⟩ u w.heap.size HL.out.2.2.2.2).trans g0)
    clear hown' hgrow hat0 hfa fro hb1
    refine hK.out _ _ ?_ (fun hHeld=>?_)
    ·exact HSF.out _ g0
    clear hK K
    (try simp only [Act.put,List.setIfInBounds_toArray])
    refine wpAnyH_take (i:=10) (oi:=⟨some 64,.nilCheck (.tmp 54),0,"coord.go:135",#[⟨0,.data⟩,⟨0,.phase⟩,⟨1,.phase⟩,⟨2,.phase⟩,⟨3,.phase⟩,⟨4,.phase⟩,⟨5,.phase⟩,⟨6,.phase⟩,⟨7,.phase⟩,⟨8,.phase⟩,⟨9,.phase⟩],none⟩) (v:=.pointer (some ⟨rp,0,none⟩)) rfl (by kernel_rfl) (by kernel_rfl) (by kernel_rfl) (fun _ _ _ h=>h) (Or.inl ⟨by rfl,?_⟩) (by assumption) ?_
    ·intro w hSw;(try dsimp only at hSw);go_simp
    (try simp only [Act.put])
    refine wpAnyH_take (i:=11) (oi:=⟨some 65,.fieldAddr 141 (.tmp 64) 2,0,"coord.go:135",#[⟨10,.data⟩,⟨0,.phase⟩,⟨1,.phase⟩,⟨2,.phase⟩,⟨3,.phase⟩,⟨4,.phase⟩,⟨5,.phase⟩,⟨6,.phase⟩,⟨7,.phase⟩,⟨8,.phase⟩,⟨9,.phase⟩],none⟩) (v:=.pointer (some ⟨rp,2,none⟩)) rfl (by kernel_rfl) (by kernel_rfl) (by kernel_rfl) (fun _ _ _ h=>h) (Or.inl ⟨by rfl,?_⟩) (by assumption) ?_
    ·intro w hSw;(try dsimp only at hSw);go_simp
    (try simp only [Act.put])
    refine wpAnyH_ready (rs:=[12]) (by kernel_rfl) (by simp) ?_
    refine AllReadyH.cons rfl (fun K hK=>?_) AllReadyH.nil
    go_simp
    refine hK.out _ _ ?_ (fun hHeld=>?_)
    ·exact HSF.out _ (HE0.out _)
    clear hK K
    (try simp only [Act.put,List.setIfInBounds_toArray,List.set_cons_zero,List.set_cons_succ])
    refine wpAnyH_done (by kernel_rfl) ?_ _
    have hdr:=kdrop_any rp i xv (.slice av mv cv) ov1 ps _ _ HX.out.1 hil hn
    have HXK:=toHid (HKF.out.trans HX.out.2.1)
    clear HX HE0 HSF HL HA HKF
    go_wp2_with fail
    refine hdr.mono ?_
    clear hdr
    rintro e w5 ⟨rfl,⟨xv',hin5,hnew⟩,hf5⟩
    have HF:=toHid (show ∃ S',RkN w5 rp S' { R with deals:=R.deals.take i++R.deals.drop (i+1),res:=R.res++[(D,6)],out:=R.out++undoL D x.parts }∧KFr (kb rp xv rv ov ps) S' w w5 from by
     refine ⟨_,⟨_,_,_,_,hin5,rfl⟩,HXK.out.trans ⟨hf5.mono (fun q _ hq=>mem_kb.2 (.inl (by simpa using hq))),fun q hq hl=>?_⟩⟩
     rw [mem_kb] at hq ⊢
     rcases hq with e | e | e | e | ⟨y,hy,e⟩
     ·exact .inl e
     ·have:=hnew q e;omega
     ·exact .inr (.inr (.inl e))
     ·exact .inr (.inr (.inr (.inl e)))
     ·exact .inr (.inr (.inr (.inr ⟨y,(take_drop_sub ps i).subset hy,e⟩))))
    clear hin5 hnew hf5
    go_wp2
    go_end0
    exact ⟨rfl,HF.out⟩
end Go.Proofs.YtejiankgafjppaaGreatDoor
