import Derived.Test.YtcalalndmcemiaaGreatDoorC18
import Derived.BigRegionIn
import Derived.Laws.BitsAllLaws
set_option maxRecDepth 100000
set_option maxHeartbeats 16000000
namespace Go.Proofs.YtcalalndmcemiaaGreatDoor
open Go.RowKit Go.Shelf
open Sc
def jEo (rs:List Rec):Prop:=∀ r∈rs,r.kind<128∧1≤r.lsn
structure LogRecs (w:World) (lp:Nat) (rv:Value) (rs:List Rec):Prop where
 lt:lp<w.heap.size
 cell:w.cell? ⟨lp,3,none⟩=some rv
 recs:RecsSl w.heap.size w rv rs
theorem LogRecs.below {w w':World} {lp:Nat} {rv:Value} {rs:List Rec} (h:LogRecs w lp rv rs) (hb:Below w.heap.size w w'):LogRecs w' lp rv rs :=
 ⟨Nat.lt_of_lt_of_le h.lt hb.size,(hb.cell (p:=⟨lp,3,none⟩) h.lt).trans h.cell,by
  rcases h.recs.below hb with e | ⟨g,cap,e,hg,hr⟩
  ·exact .inl e
  ·exact .inr ⟨g,cap,e,Nat.lt_of_lt_of_le hg hb.size,hr⟩⟩
theorem LogRecs.rows {w:World} {lp:Nat} {rv:Value} {rs:List Rec} (h:LogRecs w lp rv rs):∀ k∈jCa rv,k<w.heap.size:=by
 intro k hk
 rcases h.recs with ⟨rfl,_⟩ | ⟨g,cap,rfl,hg,_⟩
 ·simp [jCa,Value.ownBlock] at hk
 ·simp [jCa,Value.ownBlock] at hk;omega
theorem jGg (n:Nat) (hn:4≤n) (gp lp:Nat) (rv:Value) (rs:List Rec) (hlen:rs.length≤67108864) (hpl:jEo rs) (w:World) (hg:w.cell? ⟨gp,0,none⟩=some (.pointer (some ⟨lp,0,none⟩))) (hL:LogRecs w lp rv rs) :
  CallsIn Fence.wide n Tryz.prog 165 #[.pointer (some ⟨gp,0,none⟩)] w λe w'=>e=.returned (.tuple #[.int .u64 0,.int .u64 0])∧Below w.heap.size w w':=by
 have hro:Fence.wide.round=none:=rfl
 have h1:1≤n:=by omega
 have hf2:Fence.wide.fn 85:=trivial
 have hf3:Fence.wide.fn 127:=trivial
 have hgl:gp<w.heap.size:=World.block_lt_of_cell? w ⟨gp,0,none⟩ hg
 obtain ⟨W3,hW3⟩:∃ W3,W3=((w.alloc (.cells #[.int .u64 0] 43)).alloc (.cells #[.int .u64 0] 43)).alloc (.cells #[.int .u64 0] 43):=⟨_,rfl⟩
 have hB3:Below w.heap.size w W3:=by rw [hW3];exact (((Below.refl _ w).alloc (Nat.le_refl _) _).alloc sE _).alloc (by simp;omega) _
 have c0:W3.cell? ⟨gp,0,none⟩=some (.pointer (some ⟨lp,0,none⟩)):=(hB3.cell (p:=⟨gp,0,none⟩) hgl).trans hg
 rw [hW3] at c0
 refine callsIn_of_wp_marks Tryz.func165 rfl trivial ?_ hro
 simp only [Tryz.ntmps165,List.size_toArray,List.length_cons,List.length_nil,Nat.reduceAdd,Nat.reduceSub,Array.replicate_succ,Array.replicate_zero,List.push_toArray,List.append_toArray,List.nil_append,List.cons_append]
 gi_wp2_with (gi_at_call 85;refine (jSc Fence.wide (n - 1) hf2 hro _ _).mono ?_;rintro e w' ⟨rfl,rfl⟩)
 have bA:=Boxed.new W3 74 (.pointer (some ⟨lp,0,none⟩))
 have hs3:W3.heap.size=w.heap.size+3:=by rw [hW3];simp
 have b4:Boxed W3 (w.heap.size+1+1) 43 (.int .u64 0):=by
  have:=Boxed.new ((w.alloc (.cells #[.int .u64 0] 43)).alloc (.cells #[.int .u64 0] 43)) 43 (.int .u64 0)
  rw [World.size_alloc,World.size_alloc,← hW3] at this
  exact this
 have b3:Boxed W3 (w.heap.size+1) 43 (.int .u64 0):=by
  have:=(Boxed.new (w.alloc (.cells #[.int .u64 0] 43)) 43 (.int .u64 0)).alloc (.cells #[.int .u64 0] 43)
  rw [World.size_alloc,← hW3] at this
  exact this
 have b2:Boxed W3 w.heap.size 43 (.int .u64 0):=by
  have:=((Boxed.new w 43 (.int .u64 0)).alloc (.cells #[.int .u64 0] 43)).alloc (.cells #[.int .u64 0] 43)
  rw [← hW3] at this
  exact this
 rw [← hW3]
 clear hW3 c0
 have b2':=b2.alloc (.cells #[.pointer (some ⟨lp,0,none⟩)] 74)
 have b3':=b3.alloc (.cells #[.pointer (some ⟨lp,0,none⟩)] 74)
 have b4':=b4.alloc (.cells #[.pointer (some ⟨lp,0,none⟩)] 74)
 have hB4:Below w.heap.size w (W3.alloc (.cells #[.pointer (some ⟨lp,0,none⟩)] 74)):=hB3.alloc hB3.size _
 have hs4:(W3.alloc (.cells #[.pointer (some ⟨lp,0,none⟩)] 74)).heap.size=w.heap.size+4:=by rw [World.size_alloc,hs3]
 have hL4:=hL.below hB4
 rw [hs3] at bA
 obtain ⟨W0,hW0⟩:∃ W0,W0=W3.alloc (.cells #[.pointer (some ⟨lp,0,none⟩)] 74):=⟨_,rfl⟩
 rw [← hW0] at bA b2' b3' b4' hB4 hs4 hL4 ⊢
 clear hW0 b2 b3 b4 hB3 hs3
 refine wpIn_rangeFunc_ownH hro h1 (gf:=127) (lb:=#[.pointer (some ⟨w.heap.size+1+1+1,0,none⟩)]) rfl hf3 (enters_of Tryz.func127 (by kernel_rfl) rfl)
  (jHu (n - 1) oE (w.heap.size+1+1+1) lp rv rs W0 hlen oE hL4.lt bA.cell hL4.cell hL4.recs) (λh k=>h.trans k) (KpS.book hL4.rows) (Below.refl _ _) (λ_=>rfl)
  (λpre W=>((Boxed W w.heap.size 43 (.int .u64 0)∧Boxed W (w.heap.size+1) 43 (.int .u64 0))∧Boxed W (w.heap.size+1+1) 43 (.int .u64 0))∧Below w.heap.size w W)
  (λ_ _ _=>False)
  (OwnFrom.and (OwnFrom.and (OwnFrom.and (Own.from (boxed_own _ _ _) _) (Own.from (boxed_own _ _ _) _)) (Own.from (boxed_own _ _ _) _)) (ownFrom_below (Nat.le_refl _) oE))
  (λ_ _ _ _ _ hs _ _=>hs)
  ⟨⟨⟨b2',b3'⟩,b4'⟩,hB4⟩
  (λx a' W=>∃ Bx,w.heap.size+1+1<Bx∧W.heap[Bx]?=some (.cells #[.int .u64 (x.1.lsn:Int),.int .u8 (x.1.kind:Int),.string (str x.1.pay)] 110 (0,0))∧a'={ tmps:=#[.pointer (some ⟨gp,0,none⟩),undef,.pointer (some ⟨w.heap.size,0,none⟩),.pointer (some ⟨w.heap.size+1,0,none⟩),.pointer (some ⟨w.heap.size+1+1,0,none⟩),.pointer (some ⟨Bx,0,none⟩),.pointer (some ⟨gp,0,none⟩),.pointer (some ⟨gp,0,none⟩),.pointer (some ⟨gp,0,none⟩),.pointer (some ⟨lp,0,none⟩),.func (.func 127) #[] #[.pointer (some ⟨w.heap.size+1+1+1,0,none⟩)],recA x.1,undef,undef,undef,undef,undef,undef,undef,undef,undef,undef,undef,undef,undef,undef,undef,undef,undef,undef,undef],defers:=[] })
  (λx a' _ X Y row hs hg hr=>by
   obtain ⟨Bx,h1,h2,h3⟩:=hs
   exact ⟨Bx,h1,(hg.block Bx (Array.getElem?_eq_some_iff.1 h2).1 (λe=>by obtain ⟨_,o,ho,hc⟩:=hr Bx e.symm;rw [h2] at ho;cases ho;cases hc)).trans h2,h3⟩)
  ?assign ?body ?done ?stop
 case assign =>
  have hsem:=@Oper.semAt_some
  rintro l pre x W K ⟨⟨⟨hv2,hv3⟩,hv4⟩,hB1⟩ hK
  gi_wp2
  exact hK _ _ ((KeepsOthers.alloc _ _).from _) (KpS.alloc _ _) ⟨⟨⟨hv2.alloc _,hv3.alloc _⟩,hv4.alloc _⟩,hB1.alloc hB1.size _⟩ ⟨W.heap.size,hv4.lt,World.alloc_heap_new W _,rfl⟩
 case body =>
  have hsem:=@Oper.semAt_some
  rintro l pre x a' W hl2 _ ⟨⟨⟨hv2,hv3⟩,hv4⟩,hB⟩ ⟨Bx,hBx,bX,rfl⟩ hlt
  have x1:=jAn bX 1
  simp at x1
  have hk:=(hpl x.1 x.2).1
  have k1:¬ (x.1.kind:Int)=254:=by omega
  have k2:¬ (x.1.kind:Int)=255:=by omega
  gi_wp2
  exact ⟨KeepsFrom.refl _ _,KpS.refl _,⟨⟨hv2,hv3⟩,hv4⟩,hB⟩
 case done =>
  rintro D ys W hD hys ⟨⟨⟨hv2,hv3⟩,hv4⟩,hB⟩ hK
  have c2:=hv2.cell
  have c3:=hv3.cell
  have f2:=hv2.frozen
  have f3:=hv3.frozen
  gi_wp2
  gi_region
  gi_wp2
  obtain ⟨W6,hW6⟩:∃ W6,W6=((W.setCell ⟨w.heap.size,0,none⟩ (.int .u64 0)).setCell ⟨w.heap.size+1,0,none⟩ (.int .u64 0)).drew:=⟨_,rfl⟩
  rw [← hW6]
  have v2:Boxed W6 w.heap.size 43 (.int .u64 0):=by rw [hW6];exact (hv2.set _).other oE _
  have v3:Boxed W6 (w.heap.size+1) 43 (.int .u64 0):=by rw [hW6];exact (hv3.other oE _).set _
  have hB6:Below w.heap.size w W6:=by rw [hW6];exact ((hB.setCell (p:=⟨w.heap.size,0,none⟩) (Nat.le_refl _) _).setCell (p:=⟨w.heap.size+1,0,none⟩) (by show w.heap.size≤w.heap.size+1;omega) _).drew
  have hK6:W6.heap[D]?=some (.deferred (some [])):=by
   rw [hW6]
   exact (Below.heap_setCell _ _ _ D (by show D≠w.heap.size+1;omega)).trans ((Below.heap_setCell _ _ _ D (by show D≠w.heap.size;omega)).trans hK)
  clear hW6
  refine ⟨by simp,.inl ⟨_,_,rfl,run_takeDeferred hK6,?_⟩⟩
  have q2:=(v2.kept (grownBy_putObj' W6 D (.deferred none)) (by simp;omega)).cell
  have q3:=(v3.kept (grownBy_putObj' W6 D (.deferred none)) (by simp;omega)).cell
  refine ⟨.tuple #[.int .u64 0,.int .u64 0],?_,rfl,hB6.trans (belowK_b (w:=w) (Nat.le_refl _) W6 D _ _ oE hK6 rfl rfl)⟩
  simp only [results,Tryz.f165]
  simp [go_sem,q2,q3]
 case stop =>
  rintro D c pre W _ _ h _
  exact h.elim
theorem jTm (lp nx:Nat) (w:World) (h:w.cell? ⟨lp,4,none⟩=some (.int .u64 (nx:Int))):Calls Tryz.prog 84 #[.pointer (some ⟨lp,0,none⟩)] w λe w'=>e=.returned (.int .u64 (nx:Int))∧w'=w:=by
 go_enter Tryz.func84,Tryz.ntmps84
 go_wp2
 go_ret
 exact ⟨rfl,rfl⟩
def firstN (rs:List Rec) (nx:Nat):Nat:=match rs with | []=>nx | r :: _=>r.lsn
theorem jP4 {a b:List Rec} {nx:Nat} (hne:a≠[]) (h:a <+: b):firstN b nx=firstN a 0:=by
 obtain ⟨t,rfl⟩:=h
 cases a with
 | nil=>exact absurd rfl hne
 | cons x r=>rfl
theorem jHs (n:Nat) (hn:4≤n) (lp nx:Nat) (rv:Value) (rs:List Rec) (hlen:rs.length≤67108864) (w:World) (hL:LogRecs w lp rv rs) (hnx:w.cell? ⟨lp,4,none⟩=some (.int .u64 (nx:Int))) :
  CallsIn Fence.wide n Tryz.prog 166 #[.pointer (some ⟨lp,0,none⟩)] w λe w'=>e=.returned (.int .u64 (firstN rs nx:Int))∧Below w.heap.size w w':=by
 have hro:Fence.wide.round=none:=rfl
 have h1:1≤n:=by omega
 have hf2:Fence.wide.fn 85:=trivial
 have hf3:Fence.wide.fn 127:=trivial
 have hf4:Fence.wide.fn 84:=trivial
 refine callsIn_of_wp_marks Tryz.func166 rfl trivial ?_ hro
 simp only [Tryz.ntmps166,List.size_toArray,List.length_cons,List.length_nil,Nat.reduceAdd,Nat.reduceSub,Array.replicate_succ,Array.replicate_zero,List.push_toArray,List.append_toArray,List.nil_append,List.cons_append]
 gi_wp2_with (gi_at_call 85;refine (jSc Fence.wide (n - 1) hf2 hro _ _).mono ?_;rintro e w' ⟨rfl,rfl⟩)
 have bR:=Boxed.new w 43 (.int .u64 0)
 have bA:=Boxed.new (w.alloc (.cells #[.int .u64 0] 43)) 74 (.pointer (some ⟨lp,0,none⟩))
 rw [World.size_alloc] at bA
 have bR1:=bR.alloc (.cells #[.pointer (some ⟨lp,0,none⟩)] 74)
 have hB0:Below w.heap.size w ((w.alloc (.cells #[.int .u64 0] 43)).alloc (.cells #[.pointer (some ⟨lp,0,none⟩)] 74)):=((Below.refl _ w).alloc (Nat.le_refl _) _).alloc sE _
 have hsz:((w.alloc (.cells #[.int .u64 0] 43)).alloc (.cells #[.pointer (some ⟨lp,0,none⟩)] 74)).heap.size=w.heap.size+2:=by simp
 obtain ⟨W0,hW0⟩:∃ W0,W0=(w.alloc (.cells #[.int .u64 0] 43)).alloc (.cells #[.pointer (some ⟨lp,0,none⟩)] 74):=⟨_,rfl⟩
 rw [← hW0] at bA bR1 hB0 hsz ⊢
 clear hW0 bR
 have hL0:=hL.below hB0
 have hlp:=hL.lt
 refine wpIn_rangeFunc_ownH hro h1 (gf:=127) (lb:=#[.pointer (some ⟨w.heap.size+1,0,none⟩)]) rfl hf3 (enters_of Tryz.func127 (by kernel_rfl) rfl)
  (jHu (n - 1) oE (w.heap.size+1) lp rv rs W0 hlen oE hL0.lt bA.cell hL0.cell hL0.recs) (λh k=>h.trans k) (KpS.book hL0.rows) (Below.refl _ _) (λ_=>rfl)
  (λpre W=>(Boxed W w.heap.size 43 (.int .u64 0)∧pre=[])∧Below w.heap.size w W)
  (λc pre W=>(Boxed W w.heap.size 43 (.int .u64 (firstN (pre.map (·.1)) 0:Int))∧(c=.ret∧pre≠[]))∧Below w.heap.size w W)
  (OwnFrom.and (OwnFrom.and (Own.from (boxed_own _ _ _) _) (ownFrom_pure _ _)) (ownFrom_below (Nat.le_refl _) oE))
  (λc=>OwnFrom.and (OwnFrom.and (Own.from (boxed_own _ _ _) _) (ownFrom_pure _ _)) (ownFrom_below (Nat.le_refl _) oE))
  ⟨⟨bR1,rfl⟩,hB0⟩
  (λx a' W=>∃ Bx,w.heap.size<Bx∧W.heap[Bx]?=some (.cells #[.int .u64 (x.1.lsn:Int),.int .u8 (x.1.kind:Int),.string (str x.1.pay)] 110 (0,0))∧a'={ tmps:=#[.pointer (some ⟨lp,0,none⟩),undef,.pointer (some ⟨w.heap.size,0,none⟩),.pointer (some ⟨Bx,0,none⟩),.pointer (some ⟨lp,0,none⟩),.func (.func 127) #[] #[.pointer (some ⟨w.heap.size+1,0,none⟩)],recA x.1,undef,undef,undef,undef],defers:=[] })
  (λx a' _ X Y row hs hg hr=>by
   obtain ⟨Bx,h1,h2,h3⟩:=hs
   exact ⟨Bx,h1,(hg.block Bx (Array.getElem?_eq_some_iff.1 h2).1 (λe=>by obtain ⟨_,o,ho,hc⟩:=hr Bx e.symm;rw [h2] at ho;cases ho;cases hc)).trans h2,h3⟩)
  ?assign ?body ?done ?stop
 case assign =>
  have hsem:=@Oper.semAt_some
  rintro l pre x W K ⟨⟨hv2,hp⟩,hB1⟩ hK
  gi_wp2
  exact hK _ _ ((KeepsOthers.alloc _ _).from _) (KpS.alloc _ _) ⟨⟨hv2.alloc _,hp⟩,hB1.alloc hB1.size _⟩ ⟨W.heap.size,hv2.lt,World.alloc_heap_new W _,rfl⟩
 case body =>
  have hsem:=@Oper.semAt_some
  rintro l pre x a' W hl2 _ ⟨⟨hv2,rfl⟩,hB⟩ ⟨Bx,hBx,bX,rfl⟩ hlt
  have x0:=jAn bX 0
  simp at x0
  have c2:=hv2.cell
  have f2:=hv2.frozen
  gi_wp2
  refine ⟨((KeepsOthers.setCell W _ _).from _),⟨hv2.set _,rfl,by simp⟩,hB.setCell (p:=⟨w.heap.size,0,none⟩) (Nat.le_refl _) _⟩
 case done =>
  rintro D ys W hD hys ⟨⟨hv2,rfl⟩,hB⟩ hK
  have hrs:rs=[]:=by rw [← hys];rfl
  have c2:=hv2.cell
  have f2:=hv2.frozen
  have c4:=(hB.cell (p:=⟨lp,4,none⟩) hlp).trans hnx
  gi_wp2_with (gi_at_call 84;refine ((callsIn_wide (n:=n - 1)).2 (jTm lp nx W c4)).mono ?_;rintro e w' ⟨rfl,rfl⟩)
  obtain ⟨W6,hW6⟩:∃ W6,W6=w'.setCell ⟨w.heap.size,0,none⟩ (.int .u64 (nx:Int)):=⟨_,rfl⟩
  rw [← hW6]
  have v2:Boxed W6 w.heap.size 43 (.int .u64 (nx:Int)):=by rw [hW6];exact hv2.set _
  have hB6:Below w.heap.size w W6:=by rw [hW6];exact hB.setCell (p:=⟨w.heap.size,0,none⟩) (Nat.le_refl _) _
  have hK6:W6.heap[D]?=some (.deferred (some [])):=by rw [hW6];exact (Below.heap_setCell _ _ _ D (by show D≠w.heap.size;omega)).trans hK
  clear hW6
  refine ⟨by simp,.inl ⟨_,_,rfl,run_takeDeferred hK6,?_⟩⟩
  have q2:=(v2.kept (grownBy_putObj' W6 D (.deferred none)) (by simp;omega)).cell
  refine ⟨.int .u64 (nx:Int),?_,by rw [hrs];rfl,hB6.trans (belowK_b (w:=w) (Nat.le_refl _) W6 D _ _ oE hK6 rfl rfl)⟩
  simp only [results,Tryz.f166]
  simp [go_sem,q2]
 case stop =>
  rintro D c pre W hD hpre ⟨⟨hv2,rfl,hne⟩,hB⟩ hK
  have he:firstN rs nx=firstN (pre.map (·.1)) 0:=jP4 (λe=>hne (List.map_eq_nil_iff.1 e)) hpre
  gi_wp2
  obtain ⟨W6,hW6⟩:∃ W6,W6=W:=⟨_,rfl⟩
  rw [← hW6]
  have v2:Boxed W6 w.heap.size 43 (.int .u64 (firstN (pre.map (·.1)) 0:Int)):=by rw [hW6];exact hv2
  have hB6:Below w.heap.size w W6:=by rw [hW6];exact hB
  have hK6:W6.heap[D]?=some (.deferred (some [])):=by rw [hW6];exact hK
  clear hW6
  refine ⟨by simp,.inl ⟨_,_,rfl,run_takeDeferred hK6,?_⟩⟩
  have q2:=(v2.kept (grownBy_putObj' W6 D (.deferred none)) (by simp;omega)).cell
  refine ⟨.int .u64 (firstN (pre.map (·.1)) 0:Int),?_,by rw [he],hB6.trans (belowK_b (w:=w) (Nat.le_refl _) W6 D _ _ oE hK6 rfl rfl)⟩
  simp only [results,Tryz.f166]
  simp [go_sem,q2]
structure Keep (n:Nat) (S:List Nat) (A B:World):Prop where
 size:A.heap.size≤B.heap.size
 high:∀ k,n≤k→k<A.heap.size→B.heap[k]?=A.heap[k]?
 same:∀ k∈S,k<A.heap.size→B.heap[k]?=A.heap[k]?
theorem Keep.refl (n:Nat) (S:List Nat) (A:World):Keep n S A A:=⟨Nat.le_refl _,λ_ _ _=>rfl,λ_ _ _=>rfl⟩
theorem Keep.mono {n m:Nat} {S:List Nat} {A B:World} (h:Keep n S A B) (hm:n≤m):Keep m S A B:=⟨h.size,λk hk=>h.high k (Nat.le_trans hm hk),h.same⟩
theorem Keep.alloc (n:Nat) (S:List Nat) (A:World) (o:Obj):Keep n S A (A.alloc o):=⟨by simp,λk _ hl=>Below.heap_alloc _ _ k hl,λk _ hl=>Below.heap_alloc _ _ k hl⟩
theorem jAw (W:World) (l:Nat) (o:Obj):(W.putObj l o).heap.size=W.heap.size:=by simp
def SeqP {α:Type} (F:Fence) (n:Nat) (P:Program) (gf:Nat) (lb:Array Value) (encs:α→Array Value) (rs:List α) (S:List Nat) (l:Nat) (W:World):Prop :=
 ∀ J:List α→World→Prop,(∀ s A B,J s A→Below W.heap.size A B→J s B) →
  (∀ pre x W1,J pre W1→W.heap.size≤W1.heap.size→pre++[x] <+: rs→YieldAt F (n - 1) P l (encs x) W1 λe W'=>e=.returned (.bool true)∧J (pre++[x]) W'∧Keep W.heap.size S W1 W') →
  J [] W→CallsIn F n P gf (#[.func (.yield l) #[] #[]]++lb) W λe W'=>(∃ v,e=.returned v)∧J rs W'
section
variable {F:Fence} {n:Nat} {P:Program}
theorem jCv {α:Type} {g:Operand} {ps:Array Tmp} {assign body:Code} {Q:Exit→Act→World→Prop} {a:Act} {w:World}
  (hro:F.round=none) (h1:1≤n) {gf:Nat} {lb:Array Value} (hg:a.eval g=.func (.func gf) #[] lb) (hFg:F.fn gf) (eg:∀ args w,(callFunc gf args).run P w=.ok (.enter gf args) w)
  {encs:α→Array Value} {rs:List α} {S:List Nat} (hps:∀ x,(encs x).size=ps.size) (hS:∀ k∈S,k<w.heap.size)
  (hseq:∀ W1,Below w.heap.size w W1→W1.heap.size=w.heap.size+2→SeqP F (n - 1) P gf lb encs rs S (w.heap.size+1) W1)
  (I:List α→World→Prop) (hI0:∀ W1,Below w.heap.size w W1→I [] W1) (hIb:∀ s A B,I s A→Below (w.heap.size+2) A B→I s B) (hIl:∀ s A r,I s A→I s (A.putObj (w.heap.size+1) (.loop r)))
  (Ax:α→Act→World→Prop) (hAx:∀ x a' A r,Ax x a' A→Ax x a' (A.putObj (w.heap.size+1) (.loop r)))
  (hassign:∀ (pre:List α) (x:α) (W:World) (K:Act→World→Prop),I pre W→w.heap.size+2≤W.heap.size→pre++[x] <+: rs→(∀ a' W',I pre W'→Keep w.heap.size S W W'→Ax x a' W'→K a' W') →
   assign.wpIn (F.inRound (w.heap.size+1)) (n - 1 - 1) P (Exit.then K (λ_ _ _=>False)) { tmps:=(ps.zip (encs x)).foldl (λt (p,v)=>t.setIfInBounds p v) a.tmps,defers:=[] } W)
  (hbody:∀ (pre:List α) (x:α) (a':Act) (W:World),I pre W→w.heap.size+2≤W.heap.size→Ax x a' W→pre++[x] <+: rs→body.wpIn (F.inRound (w.heap.size+1)) (n - 1 - 1) P (λe _ W'=>e=.normal∧I (pre++[x]) W'∧Keep w.heap.size S W W') a' W)
  (hdone:∀ (W:World),I rs W→w.heap.size+2≤W.heap.size→W.heap[w.heap.size]?=some (.deferred (some []))→Q .normal { a with defers:={ target:=.collected w.heap.size,args:=#[] } :: a.defers } W) :
  (Code.rangeFunc g ps assign body).wpIn F n P Q a w:=by
 refine wpIn_rangeFunc λfn hfn=>?_
 rw [hro]
 obtain ⟨L,hL⟩:∃ L:LoopState→Loop,L=λst=>{ state:=st,pending:=none,fn,tmps:=a.tmps,params:=ps,assign,body,defers:=w.heap.size }:=⟨_,rfl⟩
 obtain ⟨W1,hW1⟩:∃ W1,W1=(w.alloc (.deferred (some []))).alloc (.loop (L .ready)):=⟨_,rfl⟩
 have hb1:Below w.heap.size w W1:=by rw [hW1];exact ((Below.refl _ w).alloc (Nat.le_refl _) _).alloc sE _
 have hs1:W1.heap.size=w.heap.size+2:=by rw [hW1];simp
 have hl1:W1.heap[w.heap.size+1]?=some (.loop (L .ready)):=by
  rw [hW1];have:=World.alloc_heap_new (w.alloc (.deferred (some []))) (.loop (L .ready));rwa [World.size_alloc] at this
 have hd1:W1.heap[w.heap.size]?=some (.deferred (some [])):=by
  rw [hW1];exact (Below.heap_alloc _ _ _ sE).trans (World.alloc_heap_new w _)
 refine ⟨w.heap.size+1,[{ target:=.collected w.heap.size,args:=#[] }],W1,{ target:=.fn (.func gf) lb,args:=#[.func (.yield (w.heap.size+1)) #[] #[]] },W1,gf,#[.func (.yield (w.heap.size+1)) #[] #[]]++lb,W1,?_,?_,?_,?_,λ_=>h1,?_⟩
 ·rw [hW1,hL];exact run_enterLoop_outer _ _ _ _ _
 ·simp only [resolve,hg];simp [go_sem]
 ·intro f' hf';simp [Target.leads] at hf';subst hf';exact hFg
 ·simp [invoke,go_sem,eg]
 refine (hseq W1 hb1 hs1 (λs A=>I s A∧A.heap[w.heap.size+1]?=some (.loop (L .ready))∧A.heap[w.heap.size]?=some (.deferred (some []))∧w.heap.size+2≤A.heap.size) ?_ ?_ ⟨hI0 W1 hb1,hl1,hd1,by omega⟩).mono ?_
 ·rintro s A B ⟨i1,i2,i3,i4⟩ hb
  rw [hs1] at hb
  exact ⟨hIb s A B i1 hb,(hb.block _ oE).trans i2,(hb.block _ oE).trans i3,Nat.le_trans i4 hb.size⟩
 ·rintro pre x W ⟨i1,i2,i3,i4⟩ _ hpre
  have hy:=run_yield (P:=P) (args:=encs x) i2 (by rw [hL];exact hps x)
  rw [hL] at hy
  refine ⟨fn,_,assign,body,hy,roundIn_of_wpIn hfn (hassign pre x W _ i1 i4 hpre λa' Wa ia ka xa=>?_)⟩
  have la:Wa.heap[w.heap.size+1]?=some (.loop (L .ready)):=(ka.high _ oE oE).trans i2
  have da:Wa.heap[w.heap.size]?=some (.deferred (some [])):=(ka.high _ oE oE).trans i3
  have lta:w.heap.size+1<Wa.heap.size:=(Array.getElem?_eq_some_iff.1 la).1
  obtain ⟨Wb,hWb⟩:∃ Wb,Wb=Wa.putObj (w.heap.size+1) (.loop (L .busy)):=⟨_,rfl⟩
  have lb':Wb.heap[w.heap.size+1]?=some (.loop (L .busy)):=by rw [hWb];exact World.putObj_heap_same lta
  have db:Wb.heap[w.heap.size]?=some (.deferred (some [])):=by rw [hWb];exact (World.putObj_heap_other oE).trans da
  have sb:Wb.heap.size=Wa.heap.size:=by rw [hWb];simp
  refine ⟨Wb,by rw [hWb];have:=run_beginRound (P:=P) la (by rw [hL]);rw [hL] at this ⊢;exact this,?_⟩
  refine wpIn_mono (hbody pre x a' Wb (by rw [hWb];exact hIl _ _ _ ia) (by rw [sb];omega) (by rw [hWb];exact hAx _ _ _ _ xa) hpre) ?_
  rintro e a3 W3 ⟨rfl,i3',k3⟩
  have l3:W3.heap[w.heap.size+1]?=some (.loop (L .busy)):=(k3.high _ oE oE).trans lb'
  have d3:W3.heap[w.heap.size]?=some (.deferred (some [])):=(k3.high _ oE oE).trans db
  have lt3:w.heap.size+1<W3.heap.size:=(Array.getElem?_eq_some_iff.1 l3).1
  have hend:=run_endRound (P:=P) none l3
  refine ⟨_,_,hend,rfl,⟨hIl _ _ _ i3',?_,(World.putObj_heap_other oE).trans d3,by rw [jAw];omega⟩,?_,?_,?_⟩
  ·rw [World.putObj_heap_same lt3,hL];rfl
  ·rw [jAw];have:=ka.size;have:=k3.size;omega
  ·intro k hk hlt
   rw [hs1] at hk
   rw [World.putObj_heap_other oE,k3.high k oE (by have:=ka.size;omega),hWb,World.putObj_heap_other oE,ka.high k oE hlt]
  ·intro k hk hlt
   have hkw:=hS k hk
   rw [World.putObj_heap_other oE,k3.same k hk (by have:=ka.size;omega),hWb,World.putObj_heap_other oE,ka.same k hk hlt]
 ·rintro e W2 ⟨⟨v,rfl⟩,i1,i2,i3,i4⟩
  have hend:=run_endLoop (P:=P) i2 (by rw [hL];simp)
  have hp:(L .ready).pending=none:=by rw [hL]
  rw [hp] at hend
  refine ⟨none,_,hend,?_⟩
  exact hdone _ (hIl _ _ _ i1) (by rw [jAw];exact i4) ((World.putObj_heap_other oE).trans i3)
end
theorem jOs {m m' l:Nat} {P:Program} {args:Array Value} {W:World} {R:Ending→World→Prop} (h:YieldAt Fence.wide m P l args W R):YieldAt Fence.wide m' P l args W R:=by
 obtain ⟨fn,tmps,assign,body,hy,h1,h2⟩:=h
 exact ⟨fn,tmps,assign,body,hy,h1,λc cs _=>h2 c cs (by intro d hd;cases hd)⟩
theorem jP8 (n:Nat) (hn:1≤n) (l Bn lp g cap:Nat) (rs:List Rec) (hlen:rs.length≤67108864) (J:List Rec→World→Prop) (W:World)
  (hJ:∀ s A B,J s A→Below W.heap.size A B→J s B)
  (hY:∀ pre x W1,J pre W1→W.heap.size≤W1.heap.size→pre++[x] <+: rs→YieldAt Fence.wide (n - 1) Tryz.prog l #[recA x] W1 λe W'=>e=.returned (.bool true)∧J (pre++[x]) W'∧Keep W.heap.size [g] W1 W')
  (hgl:g<W.heap.size) (hBn:W.cell? ⟨Bn,0,none⟩=some (.pointer (some ⟨lp,0,none⟩))) (h3:W.cell? ⟨lp,3,none⟩=some (.slice (some ⟨g,0,none⟩) rs.length cap)) (hR:RecsIn W g rs) (h0:J [] W) :
  CallsIn Fence.wide n Tryz.prog 127 #[.func (.yield l) #[] #[],.pointer (some ⟨Bn,0,none⟩)] W λe W'=>(∃ v,e=.returned v)∧J rs W':=by
 obtain ⟨m,hm⟩:∃ m,m=rs.length:=⟨_,rfl⟩
 rw [← hm] at h3 hlen
 have HM:Hid (m=rs.length):=hm
 have hro:Fence.wide.round=none:=rfl
 clear hm
 refine callsIn_of_wp Tryz.func127 rfl trivial ?_ hro
 simp only [Tryz.ntmps127,List.size_toArray,List.length_cons,List.length_nil,Nat.reduceAdd,Nat.reduceSub,Array.replicate_succ,Array.replicate_zero,List.push_toArray,List.append_toArray,List.nil_append,List.cons_append]
 gi_wp2
 gi_loopw [10] (λi wr=>∃ k:Nat,k≤m∧i=.int .i64 k∧Hid (J (rs.take k) wr∧KpS [g] W wr))
  (λi _=>m - (intOf i).toNat)
 case atStart=>exact ⟨0,Nat.zero_le _,rfl,by simpa using h0,KpS.refl _⟩
 case round =>
  obtain ⟨k,hk,rfl,hQ⟩:=hrel
  by_cases hlt:k<m
  ·obtain ⟨r,hr⟩:∃ r,rs[k]?=some r:=⟨_,List.getElem?_eq_getElem (by have:=HM.out;omega)⟩
   have hbg:=hQ.out.2.same g sE hgl
   obtain ⟨q1,q2,q3⟩:=hR k r hr
   have r1:=(World.cell?_of_block (a:=⟨g,k*3,none⟩) hbg).trans q1
   have r2:=(World.cell?_of_block (a:=⟨g,k*3+1,none⟩) hbg).trans q2
   have r3:=(World.cell?_of_block (a:=⟨g,k*3+2,none⟩) hbg).trans q3
   obtain ⟨W2,hW2⟩:∃ W2,W2=wr.alloc (.cells #[.int .u64 (r.lsn:Int),.int .u8 (r.kind:Int),.string (str r.pay)] 110):=⟨_,rfl⟩
   have hb2:Below W.heap.size wr W2:=by rw [hW2];exact (Below.refl _ wr).alloc hQ.out.2.size _
   have hJ2:=hJ _ _ _ hQ.out.1 hb2
   have hk2:KpS [g] W W2:=hQ.out.2.trans (KpS.below hb2 (by simp;omega))
   obtain ⟨fn,tmps,assign,body,hy,hRR⟩:=hY _ r W2 hJ2 (Nat.le_trans hQ.out.2.size hb2.size) (by rw [← jD5 hr];exact List.take_prefix _ _)
   subst hW2
   clear q1 q2 q3 hbg
   gi_wp2
   refine hRR.mono ?_
   rintro e W3 ⟨rfl,hJ3,hk3⟩
   have HN:Hid (J (rs.take (k+1)) W3∧KpS [g] W W3):=⟨by rw [jD5 hr];exact hJ3,hk2.trans ⟨hk3.size,hk3.same⟩⟩
   clear hJ3 hk3
   gi_wp2
   go_roundw
   case rel=>exact ⟨k+1,by omega,by simp,HN.out⟩
   case measure=>simp [intOf];omega
  ·obtain rfl:k=m:=by omega
   gi_wp2
   go_end0
   refine ⟨⟨_,rfl⟩,?_⟩
   have:=hQ.out.1
   rwa [HM.out,List.take_length] at this
theorem all1P (n:Nat) (hn:1≤n) (l Bn lp:Nat) (rv:Value) (rs:List Rec) (hlen:rs.length≤67108864) (W:World) (hc:W.cell? ⟨Bn,0,none⟩=some (.pointer (some ⟨lp,0,none⟩))) (hL:LogRecs W lp rv rs) :
  SeqP Fence.wide n Tryz.prog 127 #[.pointer (some ⟨Bn,0,none⟩)] (λx:Rec=>#[recA x]) rs (jCa rv) l W:=λJ hJ hY h0=>by
 have h3:=hL.cell
 rcases hL.recs with ⟨rfl,rfl⟩ | ⟨g,cap,rfl,hg,hr⟩
 ·exact jMq Fence.wide n trivial rfl l Bn lp J W hc h3 h0
 ·exact jP8 n hn l Bn lp g cap rs hlen J W hJ hY hg hc h3 hr h0
theorem jSe {k:Nat} (h:k<128):bits .andNot .u8 (k:Int) 128=(k:Int):=by
 have:=u8_andNot_nat k 128 oE oE
 rw [show ((128:Nat):Int)=128 from rfl] at this
 rw [this]
 congr 1
 have:k &&& (2 ^ 7 - 1)=k % 2 ^ 7:=Nat.and_two_pow_sub_one_eq_mod k 7
 simpa [Nat.mod_eq_of_lt h] using this
theorem jJ9 (n:Nat) (gp:Nat) (w:World) :
  CallsIn Fence.wide n Tryz.prog 167 #[.pointer (some ⟨gp,0,none⟩)] w λe w'=>e=.returned (.func (.func 217) #[] #[.pointer (some ⟨w.heap.size,0,none⟩)])∧w'=w.alloc (.cells #[.pointer (some ⟨gp,0,none⟩)] 117):=by
 refine callsIn_of_wp Tryz.func167 rfl trivial ?_ rfl
 simp only [Tryz.ntmps167,List.size_toArray,List.length_cons,List.length_nil,Nat.reduceAdd,Nat.reduceSub,Array.replicate_succ,Array.replicate_zero,List.push_toArray,List.append_toArray,List.nil_append,List.cons_append]
 gi_wp2
 go_ret
 exact ⟨rfl,rfl⟩
theorem jQl (n:Nat) (hn:7≤n) (m l Bl gp lp:Nat) (rv:Value) (rs:List Rec) (hlen:rs.length≤67108864) (hpl:jEo rs) (W:World) (J:List Rec→World→Prop)
  (hJ:∀ s A B,J s A→Below W.heap.size A B→J s B)
  (hY:∀ pre x W1,J pre W1→W.heap.size≤W1.heap.size→pre++[x] <+: rs→YieldAt Fence.wide m Tryz.prog l #[.int .u8 (x.kind:Int),.string (str x.pay)] W1 λe W' =>
   e=.returned (.bool true)∧J (pre++[x]) W'∧Keep W.heap.size (jCa rv) W1 W')
  (hBl:W.cell? ⟨Bl,0,none⟩=some (.pointer (some ⟨gp,0,none⟩))) (hg:W.cell? ⟨gp,0,none⟩=some (.pointer (some ⟨lp,0,none⟩))) (hL:LogRecs W lp rv rs) (h0:J [] W) :
  CallsIn Fence.wide n Tryz.prog 217 #[.func (.yield l) #[] #[],.pointer (some ⟨Bl,0,none⟩)] W λe W'=>(∃ v,e=.returned v)∧J rs W':=by
 have hro:Fence.wide.round=none:=rfl
 have h1:1≤n:=by omega
 have hf1:Fence.wide.fn 165:=trivial
 have hf2:Fence.wide.fn 85:=trivial
 have hf3:Fence.wide.fn 127:=trivial
 have hBll:Bl<W.heap.size:=World.block_lt_of_cell? W ⟨Bl,0,none⟩ hBl
 have hgl:gp<W.heap.size:=World.block_lt_of_cell? W ⟨gp,0,none⟩ hg
 obtain ⟨W1,hW1⟩:∃ W1,W1=W.alloc (.cells #[.func (.yield l) #[] #[]] 318):=⟨_,rfl⟩
 have hB1:Below W.heap.size W W1:=by rw [hW1];exact (Below.refl _ W).alloc (Nat.le_refl _) _
 have bY:Boxed W1 W.heap.size 318 (.func (.yield l) #[] #[]):=by rw [hW1];exact Boxed.new W _ _
 have hs1:W1.heap.size=W.heap.size+1:=by rw [hW1];simp
 have c0:W1.cell? ⟨Bl,0,none⟩=some (.pointer (some ⟨gp,0,none⟩)):=(hB1.cell (p:=⟨Bl,0,none⟩) hBll).trans hBl
 have cg:W1.cell? ⟨gp,0,none⟩=some (.pointer (some ⟨lp,0,none⟩)):=(hB1.cell (p:=⟨gp,0,none⟩) hgl).trans hg
 have hcp:=jGg (n - 1) oE gp lp rv rs hlen hpl W1 cg (hL.below hB1)
 rw [hW1] at c0
 refine callsIn_of_wp_marks Tryz.func217 rfl trivial ?_ hro
 simp only [Tryz.ntmps217,List.size_toArray,List.length_cons,List.length_nil,Nat.reduceAdd,Nat.reduceSub,Array.replicate_succ,Array.replicate_zero,List.push_toArray,List.append_toArray,List.nil_append,List.cons_append]
 gi_wp2_with fail
 rw [← hW1]
 refine hcp.mono ?_
 clear hcp c0 hW1
 rintro e w2 ⟨rfl,hb2⟩
 have hB2:Below W.heap.size W w2:=hB1.trans (hb2.mono oE)
 have bY2:Boxed w2 W.heap.size 318 (.func (.yield l) #[] #[]):=(hb2.block W.heap.size oE).trans bY
 obtain ⟨W4,hW4⟩:∃ W4,W4=(w2.alloc (.cells #[.int .u64 0] 43)).alloc (.cells #[.int .u64 0] 43):=⟨_,rfl⟩
 have hs2:=hb2.size
 have hs4:W4.heap.size=w2.heap.size+2:=by rw [hW4];simp
 have hB4:Below W.heap.size W W4:=by rw [hW4];exact (hB2.alloc oE _).alloc (by simp;omega) _
 have c4:W4.cell? ⟨Bl,0,none⟩=some (.pointer (some ⟨gp,0,none⟩)):=(hB4.cell (p:=⟨Bl,0,none⟩) hBll).trans hBl
 have d4:W4.cell? ⟨gp,0,none⟩=some (.pointer (some ⟨lp,0,none⟩)):=(hB4.cell (p:=⟨gp,0,none⟩) hgl).trans hg
 have bY4:Boxed W4 W.heap.size 318 (.func (.yield l) #[] #[]):=by rw [hW4];exact (bY2.alloc _).alloc _
 have e3:Boxed W4 w2.heap.size 43 (.int .u64 0):=by rw [hW4];exact (Boxed.new w2 _ _).alloc _
 have e4:Boxed W4 (w2.heap.size+1) 43 (.int .u64 0):=by
  have:=Boxed.new (w2.alloc (.cells #[.int .u64 0] 43)) 43 (.int .u64 0)
  rw [World.size_alloc,← hW4] at this
  exact this
 rw [hW4] at c4 d4
 gi_wp2_with (gi_at_call 85;refine (jSc Fence.wide (n - 1) hf2 hro _ _).mono ?_;rintro e w' ⟨rfl,rfl⟩)
 rw [← hW4]
 have bA:Boxed (W4.alloc (.cells #[.pointer (some ⟨lp,0,none⟩)] 74)) (w2.heap.size+1+1) 74 (.pointer (some ⟨lp,0,none⟩)):=by
  have:=Boxed.new W4 74 (.pointer (some ⟨lp,0,none⟩))
  rwa [hs4] at this
 have bY5:=bY4.alloc (.cells #[.pointer (some ⟨lp,0,none⟩)] 74)
 have f3:=e3.alloc (.cells #[.pointer (some ⟨lp,0,none⟩)] 74)
 have f4:=e4.alloc (.cells #[.pointer (some ⟨lp,0,none⟩)] 74)
 have hB5:Below W.heap.size W (W4.alloc (.cells #[.pointer (some ⟨lp,0,none⟩)] 74)):=hB4.alloc oE _
 have hs5:(W4.alloc (.cells #[.pointer (some ⟨lp,0,none⟩)] 74)).heap.size=w2.heap.size+3:=by rw [World.size_alloc,hs4]
 obtain ⟨W0,hW0⟩:∃ W0,W0=W4.alloc (.cells #[.pointer (some ⟨lp,0,none⟩)] 74):=⟨_,rfl⟩
 rw [← hW0] at bA bY5 f3 f4 hB5 hs5 ⊢
 clear hW4 hW0 bY bY2 bY4 e3 e4 c4 d4 hB4 hB1 hB2 cg
 have hL0:=hL.below hB5
 refine jCv hro h1 (gf:=127) (lb:=#[.pointer (some ⟨w2.heap.size+1+1,0,none⟩)]) rfl hf3 (enters_of Tryz.func127 (by kernel_rfl) rfl)
  (encs:=λx:Rec=>#[recA x]) (rs:=rs) (S:=jCa rv) (λ_=>rfl) hL0.rows
  (λWx hbx _=>all1P (n - 1) oE _ (w2.heap.size+1+1) lp rv rs hlen Wx ((hbx.cell (p:=⟨w2.heap.size+1+1,0,none⟩) (by show w2.heap.size+1+1<_;omega)).trans bA.cell) (hL0.below hbx))
  (λpre A=>(Boxed A W.heap.size 318 (.func (.yield l) #[] #[])∧Boxed A w2.heap.size 43 (.int .u64 0)∧Boxed A (w2.heap.size+1) 43 (.int .u64 0))∧J pre A)
  (λWx hbx=>⟨⟨(hbx.block _ oE).trans bY5,(hbx.block _ oE).trans f3,(hbx.block _ oE).trans f4⟩,hJ _ _ _ h0 (hB5.trans (hbx.mono oE))⟩)
  (λs A B hs hb=>⟨⟨(hb.block _ oE).trans hs.1.1,(hb.block _ oE).trans hs.1.2.1,(hb.block _ oE).trans hs.1.2.2⟩,hJ _ _ _ hs.2 (hb.mono oE)⟩)
  (λs A r hs=>⟨⟨(World.putObj_heap_other oE).trans hs.1.1,(World.putObj_heap_other oE).trans hs.1.2.1,(World.putObj_heap_other oE).trans hs.1.2.2⟩,hJ _ _ _ hs.2 ⟨rfl,rfl,rfl,by rw [jAw];exact Nat.le_refl _,λk hk=>World.putObj_heap_other oE⟩⟩)
  (λx a' A=>∃ Bx,W0.heap.size+2≤Bx∧A.heap[Bx]?=some (.cells #[.int .u64 (x.lsn:Int),.int .u8 (x.kind:Int),.string (str x.pay)] 110 (0,0))∧a'={ tmps:=#[.func (.yield l) #[] #[],.pointer (some ⟨Bl,0,none⟩),.pointer (some ⟨W.heap.size,0,none⟩),.pointer (some ⟨w2.heap.size,0,none⟩),.pointer (some ⟨w2.heap.size+1,0,none⟩),.pointer (some ⟨Bx,0,none⟩),undef,undef,.tuple #[.int .u64 0,.int .u64 0],.pointer (some ⟨gp,0,none⟩),.tuple #[.int .u64 0,.int .u64 0],.int .u64 0,.int .u64 0,.pointer (some ⟨gp,0,none⟩),.pointer (some ⟨gp,0,none⟩),.pointer (some ⟨gp,0,none⟩),.pointer (some ⟨lp,0,none⟩),.func (.func 127) #[] #[.pointer (some ⟨w2.heap.size+1+1,0,none⟩)],recA x,undef,undef,undef,undef,undef,undef,undef,undef,undef,undef,undef,undef,undef,undef,undef,undef,undef,undef,undef,undef,undef,undef,undef,undef,undef,undef,undef,undef,undef,undef,undef,undef,undef],defers:=[] })
  (λx a' A r hs=>by obtain ⟨Bx,g1,g2,g3⟩:=hs;exact ⟨Bx,g1,(World.putObj_heap_other oE).trans g2,g3⟩)
  ?assign ?body ?done
 case assign =>
  have hsem:=@Oper.semAt_some
  rintro pre x A K ⟨⟨y1,y2,y3⟩,hj⟩ hsA hpre hK
  gi_wp2
  exact hK _ _ ⟨⟨y1.alloc _,y2.alloc _,y3.alloc _⟩,hJ _ _ _ hj ((Below.refl _ A).alloc oE _)⟩ (Keep.alloc _ _ _ _) ⟨A.heap.size,hsA,World.alloc_heap_new A _,rfl⟩
 case body =>
  have hsem:=@Oper.semAt_some
  rintro pre x a' A ⟨⟨y1,y2,y3⟩,hj⟩ hsA ⟨Bx,hBx,bX,rfl⟩ hpre
  have x0:=jAn bX 0
  have x1:=jAn bX 1
  have x2:=jAn bX 2
  simp at x0 x1 x2
  have v1:=y1.cell
  have v2:=y2.cell
  have v3:=y3.cell
  obtain ⟨hk,hl1⟩:=hpl x (hpre.subset sE)
  have k1:(x.kind:Int)<128:=by omega
  have k2:(0:Int)<(x.lsn:Int):=by omega
  have k3:¬ (x.lsn:Int)<0:=by omega
  have k4:=jSe hk
  have h3:1≤n - 1 - 1:=by omega
  obtain ⟨fn,tmps,assign,body,hy,hRR⟩:=jOs (m':=n - 1 - 1 - 1) (hY pre x A hj oE hpre)
  gi_wp2
  refine hRR.mono ?_
  rintro e W3 ⟨rfl,hJ3,hk3⟩
  have HN:Hid (J (pre++[x]) W3∧Keep W.heap.size (jCa rv) A W3):=⟨hJ3,hk3⟩
  clear hJ3 hk3
  gi_wp2
  have hk3:=HN.out.2
  refine ⟨⟨⟨(hk3.high _ oE oE).trans y1,(hk3.high _ oE oE).trans y2,(hk3.high _ oE oE).trans y3⟩,HN.out.1⟩,hk3.mono oE⟩
 case done =>
  rintro A ⟨⟨y1,y2,y3⟩,hj⟩ hsA hK
  gi_wp2
  refine ⟨by simp,.inl ⟨_,_,rfl,run_takeDeferred hK,?_⟩⟩
  exact ⟨_,results_none rfl _ _ _,⟨_,rfl⟩,hJ _ _ _ hj ⟨rfl,rfl,rfl,by rw [jAw];exact Nat.le_refl _,λk hk=>World.putObj_heap_other oE⟩⟩
theorem jS1 (n:Nat) (hn:7≤n) (l Bl gp lp:Nat) (rv:Value) (rs:List Rec) (hlen:rs.length≤67108864) (hpl:jEo rs) (W:World) (hBl:W.cell? ⟨Bl,0,none⟩=some (.pointer (some ⟨gp,0,none⟩))) (hg:W.cell? ⟨gp,0,none⟩=some (.pointer (some ⟨lp,0,none⟩))) (hL:LogRecs W lp rv rs) :
  SeqP Fence.wide n Tryz.prog 217 #[.pointer (some ⟨Bl,0,none⟩)] (λx:Rec=>#[.int .u8 (x.kind:Int),.string (str x.pay)]) rs (jCa rv) l W:=λJ hJ hY h0 =>
 jQl n hn (n - 1) l Bl gp lp rv rs hlen hpl W J hJ hY hBl hg hL h0
end Go.Proofs.YtcalalndmcemiaaGreatDoor
