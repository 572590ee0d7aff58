import Derived.Test.YtejiankgafjppaaGreatDoorC32
import Derived.Test.YtejiankgafjppaaGreatDoorC34
namespace Go.Proofs.YtejiankgafjppaaGreatDoor
open Go.RowKit Go.Maps
open Sc
abbrev hostC (p:Nat) (up:Bool) (lv:Value):Obj:=.cells #[.int .i64 3,.int .i64 0,.pointer (some ⟨p,0,none⟩),.bool up,.pointer none,.pointer none,lv,.pointer none] 94
set_option maxRecDepth 100000 in
set_option maxHeartbeats 1000000 in
theorem before_c (hp p bD bN:Nat) (pv lv:Value) (up dn:Bool) (l f a b c k:Int) (w:World) (hh:w.heap[hp]?=some (hostC p up lv)) (hd:w.heap[p]?=some (dskO bD bN pv l f dn)) :
  Calls Tryz.prog 46 #[.pointer (some ⟨hp,0,none⟩),fallV a b c k] w fun e w'=>e=.returned (.tuple #[])∧w'.heap[p]?=some (dskO bD bN pv a b dn)∧Fr [p] w w':=by
 have hhl:hp<w.heap.size:=(Array.getElem?_eq_some_iff.1 hh).1
 have hpl:p<w.heap.size:=(Array.getElem?_eq_some_iff.1 hd).1
 have hne:¬ hp=p:=by intro e;subst e;rw [hh] at hd;cases hd
 have hne2:¬ p=hp:=fun e=>hne e.symm
 have hz1:¬ p=w.heap.size:=by omega
 have hz2:¬ w.heap.size=p:=by omega
 obtain ⟨W,hW⟩:∃ W,W=w.alloc (.cells #[.int .i64 a,.int .i64 b,.int .i64 c,.int .i64 k] 30):=⟨_,rfl⟩
 have hhW:W.heap[hp]?=some (hostC p up lv):=by rw [hW,Below.heap_alloc w _ hp hhl];exact hh
 have hdW:W.heap[p]?=some (dskO bD bN pv l f dn):=by rw [hW,Below.heap_alloc w _ p hpl];exact hd
 have hfW:W.heap[w.heap.size]?=some (.cells #[.int .i64 a,.int .i64 b,.int .i64 c,.int .i64 k] 30 (0,0)):=by rw [hW];exact heap_alloc_new w _
 have c2:=blk_cell hhW 2
 have c3:=blk_cell hdW 3
 have c4:=blk_cell hdW 4
 have c5:=blk_cell hdW 5
 have f3:=blk_free hdW 3
 have f4:=blk_free hdW 4
 have x0:=blk_cell hfW 0
 have x1:=blk_cell hfW 1
 simp at c2 c3 c4 c5 x0 x1
 have HD:Hid (W.heap[p]?=some (dskO bD bN pv l f dn)):=hdW
 have HF:Hid (Fr [p] w W):=by rw [hW];exact (Fr.refl [p] w).alloc _
 clear hd hh hhW hdW hfW
 clear c5
 go_enter Tryz.func46,Tryz.ntmps46
 go_wp2
 rw [← hW]
 clear hW
 go_region_held3 (fun w'=>w'.cell? ⟨hp,2,none⟩=some (.pointer (some ⟨p,0,none⟩))∧w'.cell? ⟨w.heap.size,0,none⟩=some (.int .i64 a)∧w'.cell? ⟨w.heap.size,1,none⟩=some (.int .i64 b)) (simp [setCell_far, *]) (fail)
 go_end0
 refine ⟨rfl,?_,HF.out.trans (((Fr.set1 (by simp) _ _).trans (Fr.set1 (by simp) _ _)).drew)⟩
 have:=blk_set (blk_set HD.out 3 (.int .i64 a)) 4 (.int .i64 b)
 simp at this
 exact this
set_option maxRecDepth 100000 in
set_option maxHeartbeats 1000000 in
theorem after_c (hp p bD bN:Nat) (pv lv:Value) (up:Bool) (l f a b c k:Int) (w:World) (hh:w.heap[hp]?=some (hostC p up lv)) (hd:w.heap[p]?=some (dskO bD bN pv l f false)) :
  Calls Tryz.prog 53 #[.pointer (some ⟨hp,0,none⟩),fallV a b c k] w fun e w'=>e=.returned (.tuple #[])∧w'.heap[p]?=some (dskO bD bN pv (-1) (-1) false)∧Fr [p] w w':=by
 have hhl:hp<w.heap.size:=(Array.getElem?_eq_some_iff.1 hh).1
 have hpl:p<w.heap.size:=(Array.getElem?_eq_some_iff.1 hd).1
 have hne:¬ hp=p:=by intro e;subst e;rw [hh] at hd;cases hd
 have hne2:¬ p=hp:=fun e=>hne e.symm
 have hz1:¬ p=w.heap.size:=by omega
 have hz2:¬ w.heap.size=p:=by omega
 obtain ⟨W,hW⟩:∃ W,W=w.alloc (.cells #[.int .i64 a,.int .i64 b,.int .i64 c,.int .i64 k] 30):=⟨_,rfl⟩
 have hhW:W.heap[hp]?=some (hostC p up lv):=by rw [hW,Below.heap_alloc w _ hp hhl];exact hh
 have hdW:W.heap[p]?=some (dskO bD bN pv l f false):=by rw [hW,Below.heap_alloc w _ p hpl];exact hd
 have hfW:W.heap[w.heap.size]?=some (.cells #[.int .i64 a,.int .i64 b,.int .i64 c,.int .i64 k] 30 (0,0)):=by rw [hW];exact heap_alloc_new w _
 have c2:=blk_cell hhW 2
 have c3:=blk_cell hdW 3
 have c4:=blk_cell hdW 4
 have c5:=blk_cell hdW 5
 have f3:=blk_free hdW 3
 have f4:=blk_free hdW 4
 have x0:=blk_cell hfW 0
 have x1:=blk_cell hfW 1
 simp at c2 c3 c4 c5 x0 x1
 have HD:Hid (W.heap[p]?=some (dskO bD bN pv l f false)):=hdW
 have HF:Hid (Fr [p] w W):=by rw [hW];exact (Fr.refl [p] w).alloc _
 clear hd hh hhW hdW hfW
 go_enter Tryz.func53,Tryz.ntmps53
 have d2:=c2
 have d5:=c5
 rw [hW] at d2 d5
 go_wp2
 rw [← hW]
 clear hW d2 d5
 go_region_held3 (fun w'=>w'.cell? ⟨hp,2,none⟩=some (.pointer (some ⟨p,0,none⟩))) (simp [setCell_far, *]) (fail)
 go_end0
 refine ⟨rfl,?_,HF.out.trans (((Fr.set1 (by simp) _ _).trans (Fr.set1 (by simp) _ _)).drew)⟩
 have:=blk_set (blk_set HD.out 3 (.int .i64 (-1))) 4 (.int .i64 (-1))
 simp at this
 exact this
set_option maxRecDepth 100000 in
set_option maxHeartbeats 1000000 in
theorem close_c (hp p:Nat) (up:Bool) (lv:Value) (hlv:∃ x,lv=.pointer x) (w:World) (hh:w.heap[hp]?=some (hostC p up lv)) :
  Calls Tryz.prog 47 #[.pointer (some ⟨hp,0,none⟩)] w fun e w'=>e=.returned (.tuple #[])∧w'.heap[hp]?=some (hostC p false (.pointer none))∧Fr [hp] w w':=by
 obtain ⟨x,rfl⟩:=hlv
 have c3:=blk_cell hh 3
 have c4:=blk_cell hh 4
 have c5:=blk_cell hh 5
 have c6:=blk_cell hh 6
 have c7:=blk_cell hh 7
 have f3:=blk_free hh 3
 have f4:=blk_free hh 4
 have f5:=blk_free hh 5
 have f6:=blk_free hh 6
 have f7:=blk_free hh 7
 simp at c3 c4 c5 c6 c7
 have HH:Hid (w.heap[hp]?=some (hostC p up (.pointer x))):=hh
 clear hh
 go_enter Tryz.func47,Tryz.ntmps47
 go_wp2
 go_end0
 refine ⟨rfl,?_,((((Fr.set1 (by simp) _ _).trans (Fr.set1 (by simp) _ _)).trans (Fr.set1 (by simp) _ _)).trans (Fr.set1 (by simp) _ _)).trans (Fr.set1 (by simp) _ _)⟩
 have:=blk_set (blk_set (blk_set (blk_set (blk_set HH.out 3 (.bool false)) 4 (.pointer none)) 5 (.pointer none)) 6 (.pointer none)) 7 (.pointer none)
 simp at this
 exact this
def HCt (w:World) (B hp m n:Nat) (c:ACo) (l:ALog) (d:ADisk):Prop :=
 ∃ p cp gp bT lp bD bN,w.heap[hp]?=some (hostC p true (.pointer (some ⟨cp,0,none⟩)))∧CL w B cp gp bT m lp p bD bN n c l d
def HCx (w:World) (B hp p cp gp bT lp bD bN m n:Nat) (c:ACo) (l:ALog) (d:ADisk):Prop :=
 w.heap[hp]?=some (hostC p true (.pointer (some ⟨cp,0,none⟩)))∧CL w B cp gp bT m lp p bD bN n c l d
theorem HCt.named {w:World} {B hp m n:Nat} {c:ACo} {l:ALog} {d:ADisk} (h:HCt w B hp m n c l d):∃ p cp gp bT lp bD bN,HCx w B hp p cp gp bT lp bD bN m n c l d:=h
theorem HCx.new {w w':World} {B hp p cp gp bT lp bD bN m n:Nat} {c:ACo} {l:ALog} {d:ADisk} (h:HCx w B hp p cp gp bT lp bD bN m n c l d) (hf:Fr [] w w'):HCx w' B hp p cp gp bT lp bD bN m n c l d∧CFr cp bT lp p w w':=by
 obtain ⟨hh,hs⟩:=h
 obtain ⟨hs1,hx1⟩:=hs.new hf
 exact ⟨⟨hx1.cells hs hh (by decide) (by decide) (by decide) (by decide) (by decide) (by decide) (by decide) (by decide),hs1⟩,hx1⟩
theorem HCx.turn {w w':World} {B hp p cp gp bT lp bD bN m m' n:Nat} {c c':ACo} {l:ALog} {d:ADisk} (h:HCx w B hp p cp gp bT lp bD bN m n c l d) (hc:CoIn w' B cp gp bT m' c') (hf:RFr cp [cp,bT] w w'):HCx w' B hp p cp gp bT lp bD bN m' n c' l d∧CFr cp bT lp p w w':=by
 obtain ⟨hh,hs⟩:=h
 obtain ⟨hs1,hx1⟩:=hs.turn hc hf
 exact ⟨⟨hx1.cells hs hh (by decide) (by decide) (by decide) (by decide) (by decide) (by decide) (by decide) (by decide),hs1⟩,hx1⟩
set_option maxRecDepth 100000 in
set_option maxHeartbeats 4000000 in
theorem hBegin_x (B hp cp gp bT m lp p bD bN n  : Nat) (s:ACo) (l:ALog) (d:ADisk) (a b c k:Int) (w:World) (Q:Nat→Nat→ACo→ALog→ADisk→Nat→Nat→Prop) (hh:w.heap[hp]?=some (hostC p true (.pointer (some ⟨cp,0,none⟩)))) (hs:CL w B cp gp bT m lp p bD bN n s l d) (hB:2≤B) (hmet:Met w)
  (hX:∀ w1,CL w1 B cp gp bT m lp p bD bN n s l (d.knob a b)→CFr cp bT lp p w w1→Calls Tryz.prog 220 #[.pointer (some ⟨cp,0,none⟩)] w1 fun e w2=>∃ v x s' l' d' m' n',Q v x s' l' d' m' n'∧e=.returned (.tuple #[.int .u64 (v:Int),errN x])∧CL w2 B cp gp bT m' lp p bD bN n' s' l' d'∧d'.down=false∧CFr cp bT lp p w1 w2) :
  Calls Tryz.prog 161 #[.pointer (some ⟨hp,0,none⟩),fallV a b c k] w fun e w'=>∃ v x s' l' d' m' n',Q v x s' l' d' m' n'∧e=.returned (.tuple #[.int .u64 (v:Int),.int .i64 (x:Int)])∧HCx w' B hp p cp gp bT lp bD bN m' n' s' l' (d'.knob (-1) (-1))∧CFr cp bT lp p w w':=by
 obtain ⟨W,hW⟩:∃ W,W=w.alloc (fallO a b c k):=⟨_,rfl⟩
 have hf0:Fr [] w W:=by rw [hW];exact (Fr.refl [] w).alloc _
 obtain ⟨hs0,hx0⟩:=hs.new hf0
 have hh0:=hx0.cells hs hh (by decide) (by decide) (by decide) (by decide) (by decide) (by decide) (by decide) (by decide)
 have hfa0:W.heap[w.heap.size]?=some (fallO a b c k):=by rw [hW];exact heap_alloc_new w _
 have hr0:=hx0
 have HSW:=toHid hs
 have c6:=blk_cell hh0 6
 have x0:=blk_cell hfa0 0
 have x1:=blk_cell hfa0 1
 have x2:=blk_cell hfa0 2
 have x3:=blk_cell hfa0 3
 simp at c6 x0 x1 x2 x3
 rw [hW] at c6 x0 x1 x2 x3
 obtain ⟨pv0,hd0⟩:∃ pv,W.heap[p]?=some (dskO bD bN pv d.left d.full d.down):=by obtain ⟨pv,sv,rv,nD,nN,hl⟩:=hs0.lg;exact ⟨pv,hl.disk.blk⟩
 have H0:Hid (CL W B cp gp bT m lp p bD bN n s l d∧W.heap[hp]?=some (hostC p true (.pointer (some ⟨cp,0,none⟩)))∧W.heap[w.heap.size]?=some (fallO a b c k)∧CFr cp bT lp p w W∧W.heap[p]?=some (dskO bD bN pv0 d.left d.full d.down)):=⟨hs0,hh0,hfa0,hr0,hd0⟩
 clear hs hh hf0 hs0 hx0 hh0 hfa0 hr0 hd0
 go_enter Tryz.func161,Tryz.ntmps161
 go_wp2_with fail
 rw [← hW]
 clear hW c6 x0 x1 x2 x3
 refine (before_c hp p bD bN pv0 _ true d.down d.left d.full a b c k W H0.out.2.1 H0.out.2.2.2.2).mono ?_
 rintro e w1 ⟨rfl,hb1,hf1⟩
 obtain ⟨hs1,hx1⟩:=H0.out.1.knob a b hf1 hb1 H0.out.2.2.2.2
 have hh1:=hx1.cells H0.out.1 H0.out.2.1 (by decide) (by decide) (by decide) (by decide) (by decide) (by decide) (by decide) (by decide)
 have hfa1:=hx1.cells H0.out.1 H0.out.2.2.1 (by decide) (by decide) (by decide) (by decide) (by decide) (by decide) (by decide) (by decide)
 have hr1:=H0.out.2.2.2.1.trans hx1
 have hap:=hX w1 hs1 hr1
 have k6:=blk_cell hh1 6
 simp at k6
 have H1:Hid (CL w1 B cp gp bT m lp p bD bN n s l (d.knob a b)∧w1.heap[hp]?=some (hostC p true (.pointer (some ⟨cp,0,none⟩)))∧w1.heap[w.heap.size]?=some (fallO a b c k)∧CFr cp bT lp p w w1):=⟨hs1,hh1,hfa1,hr1⟩
 clear hs1 hx1 hh1 hfa1 hr1 hb1 hf1 hX H0
 go_wp2_with fail
 refine hap.mono ?_
 clear hap
 rintro e w2 ⟨v,x,s',l',d',m',n',hQ,rfl,hs2,hdn,hx2⟩
 have hh2:=hx2.cells H1.out.1 H1.out.2.1 (by decide) (by decide) (by decide) (by decide) (by decide) (by decide) (by decide) (by decide)
 have hfa2:=hx2.cells H1.out.1 H1.out.2.2.1 (by decide) (by decide) (by decide) (by decide) (by decide) (by decide) (by decide) (by decide)
 have hr2:=H1.out.2.2.2.trans hx2
 have y0:=blk_cell hfa2 0
 have y1:=blk_cell hfa2 1
 have y2:=blk_cell hfa2 2
 have y3:=blk_cell hfa2 3
 simp at y0 y1 y2 y3
 have hmet2:Met w2:=(hr2.hfr HSW.out).met hB hmet
 obtain ⟨pv2,hd2⟩:∃ pv,w2.heap[p]?=some (dskO bD bN pv d'.left d'.full d'.down):=by obtain ⟨pv,sv,rv,nD,nN,hl⟩:=hs2.lg;exact ⟨pv,hl.disk.blk⟩
 have H2:Hid (CL w2 B cp gp bT m' lp p bD bN n' s' l' d'∧w2.heap[hp]?=some (hostC p true (.pointer (some ⟨cp,0,none⟩)))∧CFr cp bT lp p w w2∧w2.heap[p]?=some (dskO bD bN pv2 d'.left d'.full d'.down)∧Q v x s' l' d' m' n'):=⟨hs2,hh2,hr2,hd2,hQ⟩
 clear hs2 hx2 hh2 hfa2 hr2 hd2 hQ k6 H1
 go_wp2_with fail
 have hbd:=H2.out.2.2.2.1
 rw [hdn] at hbd
 refine (after_c hp p bD bN pv2 _ true d'.left d'.full a b c k w2 H2.out.2.1 hbd).mono ?_
 clear hbd y0 y1 y2 y3
 rintro e w3 ⟨rfl,hb3,hf3⟩
 rw [← hdn] at hb3
 obtain ⟨hs3,hx3⟩:=H2.out.1.knob (-1) (-1) hf3 hb3 H2.out.2.2.2.1
 have hh3:=hx3.cells H2.out.1 H2.out.2.1 (by decide) (by decide) (by decide) (by decide) (by decide) (by decide) (by decide) (by decide)
 have hr3':=hx3.hfr H2.out.1
 have hmet3:Met w3:=hr3'.met hB hmet2
 have H3:Hid (CL w3 B cp gp bT m' lp p bD bN n' s' l' (d'.knob (-1) (-1))∧w3.heap[hp]?=some (hostC p true (.pointer (some ⟨cp,0,none⟩)))∧CFr cp bT lp p w w3∧Q v x s' l' d' m' n'):=⟨hs3,hh3,H2.out.2.2.1.trans hx3,H2.out.2.2.2.2⟩
 clear hs3 hx3 hh3 hr3' hb3 hf3 H2
 go_wp2_with fail
 refine (told_any x w3 hmet3).mono ?_
 rintro e w4 ⟨rfl,hf4⟩
 obtain ⟨hs4,hx4⟩:=H3.out.1.new hf4
 have hh4:=hx4.cells H3.out.1 H3.out.2.1 (by decide) (by decide) (by decide) (by decide) (by decide) (by decide) (by decide) (by decide)
 have hr4:=H3.out.2.2.1.trans hx4
 have H4:Hid (Q v x s' l' d' m' n'∧HCx w4 B hp p cp gp bT lp bD bN m' n' s' l' (d'.knob (-1) (-1))∧CFr cp bT lp p w w4):=⟨H3.out.2.2.2,⟨hh4,hs4⟩,hr4⟩
 clear hs4 hx4 hh4 hr4 hf4 H3
 go_wp2
 go_ret2
 exact ⟨v,x,s',l',d',m',n',H4.out.1,rfl,H4.out.2⟩
set_option maxRecDepth 100000 in
set_option maxHeartbeats 4000000 in
theorem hVote_x (B hp cp gp bT m lp p bD bN n t:Nat) (kk vv:Int) (s:ACo) (l:ALog) (d:ADisk) (a b c k:Int) (w:World) (Q:Nat→Nat→ACo→ALog→ADisk→Nat→Nat→Prop) (hh:w.heap[hp]?=some (hostC p true (.pointer (some ⟨cp,0,none⟩)))) (hs:CL w B cp gp bT m lp p bD bN n s l d) (hB:2≤B) (hmet:Met w)
  (hX:∀ w1,CL w1 B cp gp bT m lp p bD bN n s l (d.knob a b)→CFr cp bT lp p w w1→Calls Tryz.prog 166 #[.pointer (some ⟨cp,0,none⟩),.int .u64 (t:Int),.int .i64 kk,.int .i64 vv] w1 fun e w2=>∃ v x s' l' d' m' n',Q v x s' l' d' m' n'∧e=.returned (errN x)∧CL w2 B cp gp bT m' lp p bD bN n' s' l' d'∧d'.down=false∧CFr cp bT lp p w1 w2) :
  Calls Tryz.prog 102 #[.pointer (some ⟨hp,0,none⟩),.int .u64 (t:Int),.int .i64 kk,.int .i64 vv,fallV a b c k] w fun e w'=>∃ v x s' l' d' m' n',Q v x s' l' d' m' n'∧e=.returned (.int .i64 (x:Int))∧HCx w' B hp p cp gp bT lp bD bN m' n' s' l' (d'.knob (-1) (-1))∧CFr cp bT lp p w w':=by
 obtain ⟨W,hW⟩:∃ W,W=w.alloc (fallO a b c k):=⟨_,rfl⟩
 have hf0:Fr [] w W:=by rw [hW];exact (Fr.refl [] w).alloc _
 obtain ⟨hs0,hx0⟩:=hs.new hf0
 have hh0:=hx0.cells hs hh (by decide) (by decide) (by decide) (by decide) (by decide) (by decide) (by decide) (by decide)
 have hfa0:W.heap[w.heap.size]?=some (fallO a b c k):=by rw [hW];exact heap_alloc_new w _
 have hr0:=hx0
 have HSW:=toHid hs
 have c6:=blk_cell hh0 6
 have x0:=blk_cell hfa0 0
 have x1:=blk_cell hfa0 1
 have x2:=blk_cell hfa0 2
 have x3:=blk_cell hfa0 3
 simp at c6 x0 x1 x2 x3
 rw [hW] at c6 x0 x1 x2 x3
 obtain ⟨pv0,hd0⟩:∃ pv,W.heap[p]?=some (dskO bD bN pv d.left d.full d.down):=by obtain ⟨pv,sv,rv,nD,nN,hl⟩:=hs0.lg;exact ⟨pv,hl.disk.blk⟩
 have H0:Hid (CL W B cp gp bT m lp p bD bN n s l d∧W.heap[hp]?=some (hostC p true (.pointer (some ⟨cp,0,none⟩)))∧W.heap[w.heap.size]?=some (fallO a b c k)∧CFr cp bT lp p w W∧W.heap[p]?=some (dskO bD bN pv0 d.left d.full d.down)):=⟨hs0,hh0,hfa0,hr0,hd0⟩
 clear hs hh hf0 hs0 hx0 hh0 hfa0 hr0 hd0
 go_enter Tryz.func102,Tryz.ntmps102
 go_wp2_with fail
 rw [← hW]
 clear hW c6 x0 x1 x2 x3
 refine (before_c hp p bD bN pv0 _ true d.down d.left d.full a b c k W H0.out.2.1 H0.out.2.2.2.2).mono ?_
 rintro e w1 ⟨rfl,hb1,hf1⟩
 obtain ⟨hs1,hx1⟩:=H0.out.1.knob a b hf1 hb1 H0.out.2.2.2.2
 have hh1:=hx1.cells H0.out.1 H0.out.2.1 (by decide) (by decide) (by decide) (by decide) (by decide) (by decide) (by decide) (by decide)
 have hfa1:=hx1.cells H0.out.1 H0.out.2.2.1 (by decide) (by decide) (by decide) (by decide) (by decide) (by decide) (by decide) (by decide)
 have hr1:=H0.out.2.2.2.1.trans hx1
 have hap:=hX w1 hs1 hr1
 have k6:=blk_cell hh1 6
 simp at k6
 have H1:Hid (CL w1 B cp gp bT m lp p bD bN n s l (d.knob a b)∧w1.heap[hp]?=some (hostC p true (.pointer (some ⟨cp,0,none⟩)))∧w1.heap[w.heap.size]?=some (fallO a b c k)∧CFr cp bT lp p w w1):=⟨hs1,hh1,hfa1,hr1⟩
 clear hs1 hx1 hh1 hfa1 hr1 hb1 hf1 hX H0
 go_wp2_with fail
 refine hap.mono ?_
 clear hap
 rintro e w2 ⟨v,x,s',l',d',m',n',hQ,rfl,hs2,hdn,hx2⟩
 have hh2:=hx2.cells H1.out.1 H1.out.2.1 (by decide) (by decide) (by decide) (by decide) (by decide) (by decide) (by decide) (by decide)
 have hfa2:=hx2.cells H1.out.1 H1.out.2.2.1 (by decide) (by decide) (by decide) (by decide) (by decide) (by decide) (by decide) (by decide)
 have hr2:=H1.out.2.2.2.trans hx2
 have y0:=blk_cell hfa2 0
 have y1:=blk_cell hfa2 1
 have y2:=blk_cell hfa2 2
 have y3:=blk_cell hfa2 3
 simp at y0 y1 y2 y3
 have hmet2:Met w2:=(hr2.hfr HSW.out).met hB hmet
 obtain ⟨pv2,hd2⟩:∃ pv,w2.heap[p]?=some (dskO bD bN pv d'.left d'.full d'.down):=by obtain ⟨pv,sv,rv,nD,nN,hl⟩:=hs2.lg;exact ⟨pv,hl.disk.blk⟩
 have H2:Hid (CL w2 B cp gp bT m' lp p bD bN n' s' l' d'∧w2.heap[hp]?=some (hostC p true (.pointer (some ⟨cp,0,none⟩)))∧CFr cp bT lp p w w2∧w2.heap[p]?=some (dskO bD bN pv2 d'.left d'.full d'.down)∧Q v x s' l' d' m' n'):=⟨hs2,hh2,hr2,hd2,hQ⟩
 clear hs2 hx2 hh2 hfa2 hr2 hd2 hQ k6 H1
 go_wp2_with fail
 have hbd:=H2.out.2.2.2.1
 rw [hdn] at hbd
 refine (after_c hp p bD bN pv2 _ true d'.left d'.full a b c k w2 H2.out.2.1 hbd).mono ?_
 clear hbd y0 y1 y2 y3
 rintro e w3 ⟨rfl,hb3,hf3⟩
 rw [← hdn] at hb3
 obtain ⟨hs3,hx3⟩:=H2.out.1.knob (-1) (-1) hf3 hb3 H2.out.2.2.2.1
 have hh3:=hx3.cells H2.out.1 H2.out.2.1 (by decide) (by decide) (by decide) (by decide) (by decide) (by decide) (by decide) (by decide)
 have hr3':=hx3.hfr H2.out.1
 have hmet3:Met w3:=hr3'.met hB hmet2
 have H3:Hid (CL w3 B cp gp bT m' lp p bD bN n' s' l' (d'.knob (-1) (-1))∧w3.heap[hp]?=some (hostC p true (.pointer (some ⟨cp,0,none⟩)))∧CFr cp bT lp p w w3∧Q v x s' l' d' m' n'):=⟨hs3,hh3,H2.out.2.2.1.trans hx3,H2.out.2.2.2.2⟩
 clear hs3 hx3 hh3 hr3' hb3 hf3 H2
 go_wp2_with fail
 refine (told_any x w3 hmet3).mono ?_
 rintro e w4 ⟨rfl,hf4⟩
 obtain ⟨hs4,hx4⟩:=H3.out.1.new hf4
 have hh4:=hx4.cells H3.out.1 H3.out.2.1 (by decide) (by decide) (by decide) (by decide) (by decide) (by decide) (by decide) (by decide)
 have hr4:=H3.out.2.2.1.trans hx4
 have H4:Hid (Q v x s' l' d' m' n'∧HCx w4 B hp p cp gp bT lp bD bN m' n' s' l' (d'.knob (-1) (-1))∧CFr cp bT lp p w w4):=⟨H3.out.2.2.2,⟨hh4,hs4⟩,hr4⟩
 clear hs4 hx4 hh4 hr4 hf4 H3
 go_wp2
 go_ret
 exact ⟨v,x,s',l',d',m',n',H4.out.1,rfl,H4.out.2⟩
set_option maxRecDepth 100000 in
set_option maxHeartbeats 4000000 in
theorem hDone_x (B hp cp gp bT m lp p bD bN n t:Nat) (kk:Int) (s:ACo) (l:ALog) (d:ADisk) (a b c k:Int) (w:World) (Q:Nat→Nat→ACo→ALog→ADisk→Nat→Nat→Prop) (hh:w.heap[hp]?=some (hostC p true (.pointer (some ⟨cp,0,none⟩)))) (hs:CL w B cp gp bT m lp p bD bN n s l d) (hB:2≤B) (hmet:Met w)
  (hX:∀ w1,CL w1 B cp gp bT m lp p bD bN n s l (d.knob a b)→CFr cp bT lp p w w1→Calls Tryz.prog 168 #[.pointer (some ⟨cp,0,none⟩),.int .u64 (t:Int),.int .i64 kk] w1 fun e w2=>∃ v x s' l' d' m' n',Q v x s' l' d' m' n'∧e=.returned (errN x)∧CL w2 B cp gp bT m' lp p bD bN n' s' l' d'∧d'.down=false∧CFr cp bT lp p w1 w2) :
  Calls Tryz.prog 107 #[.pointer (some ⟨hp,0,none⟩),.int .u64 (t:Int),.int .i64 kk,fallV a b c k] w fun e w'=>∃ v x s' l' d' m' n',Q v x s' l' d' m' n'∧e=.returned (.int .i64 (x:Int))∧HCx w' B hp p cp gp bT lp bD bN m' n' s' l' (d'.knob (-1) (-1))∧CFr cp bT lp p w w':=by
 obtain ⟨W,hW⟩:∃ W,W=w.alloc (fallO a b c k):=⟨_,rfl⟩
 have hf0:Fr [] w W:=by rw [hW];exact (Fr.refl [] w).alloc _
 obtain ⟨hs0,hx0⟩:=hs.new hf0
 have hh0:=hx0.cells hs hh (by decide) (by decide) (by decide) (by decide) (by decide) (by decide) (by decide) (by decide)
 have hfa0:W.heap[w.heap.size]?=some (fallO a b c k):=by rw [hW];exact heap_alloc_new w _
 have hr0:=hx0
 have HSW:=toHid hs
 have c6:=blk_cell hh0 6
 have x0:=blk_cell hfa0 0
 have x1:=blk_cell hfa0 1
 have x2:=blk_cell hfa0 2
 have x3:=blk_cell hfa0 3
 simp at c6 x0 x1 x2 x3
 rw [hW] at c6 x0 x1 x2 x3
 obtain ⟨pv0,hd0⟩:∃ pv,W.heap[p]?=some (dskO bD bN pv d.left d.full d.down):=by obtain ⟨pv,sv,rv,nD,nN,hl⟩:=hs0.lg;exact ⟨pv,hl.disk.blk⟩
 have H0:Hid (CL W B cp gp bT m lp p bD bN n s l d∧W.heap[hp]?=some (hostC p true (.pointer (some ⟨cp,0,none⟩)))∧W.heap[w.heap.size]?=some (fallO a b c k)∧CFr cp bT lp p w W∧W.heap[p]?=some (dskO bD bN pv0 d.left d.full d.down)):=⟨hs0,hh0,hfa0,hr0,hd0⟩
 clear hs hh hf0 hs0 hx0 hh0 hfa0 hr0 hd0
 go_enter Tryz.func107,Tryz.ntmps107
 go_wp2_with fail
 rw [← hW]
 clear hW c6 x0 x1 x2 x3
 refine (before_c hp p bD bN pv0 _ true d.down d.left d.full a b c k W H0.out.2.1 H0.out.2.2.2.2).mono ?_
 rintro e w1 ⟨rfl,hb1,hf1⟩
 obtain ⟨hs1,hx1⟩:=H0.out.1.knob a b hf1 hb1 H0.out.2.2.2.2
 have hh1:=hx1.cells H0.out.1 H0.out.2.1 (by decide) (by decide) (by decide) (by decide) (by decide) (by decide) (by decide) (by decide)
 have hfa1:=hx1.cells H0.out.1 H0.out.2.2.1 (by decide) (by decide) (by decide) (by decide) (by decide) (by decide) (by decide) (by decide)
 have hr1:=H0.out.2.2.2.1.trans hx1
 have hap:=hX w1 hs1 hr1
 have k6:=blk_cell hh1 6
 simp at k6
 have H1:Hid (CL w1 B cp gp bT m lp p bD bN n s l (d.knob a b)∧w1.heap[hp]?=some (hostC p true (.pointer (some ⟨cp,0,none⟩)))∧w1.heap[w.heap.size]?=some (fallO a b c k)∧CFr cp bT lp p w w1):=⟨hs1,hh1,hfa1,hr1⟩
 clear hs1 hx1 hh1 hfa1 hr1 hb1 hf1 hX H0
 go_wp2_with fail
 refine hap.mono ?_
 clear hap
 rintro e w2 ⟨v,x,s',l',d',m',n',hQ,rfl,hs2,hdn,hx2⟩
 have hh2:=hx2.cells H1.out.1 H1.out.2.1 (by decide) (by decide) (by decide) (by decide) (by decide) (by decide) (by decide) (by decide)
 have hfa2:=hx2.cells H1.out.1 H1.out.2.2.1 (by decide) (by decide) (by decide) (by decide) (by decide) (by decide) (by decide) (by decide)
 have hr2:=H1.out.2.2.2.trans hx2
 have y0:=blk_cell hfa2 0
 have y1:=blk_cell hfa2 1
 have y2:=blk_cell hfa2 2
 have y3:=blk_cell hfa2 3
 simp at y0 y1 y2 y3
 have hmet2:Met w2:=(hr2.hfr HSW.out).met hB hmet
 obtain ⟨pv2,hd2⟩:∃ pv,w2.heap[p]?=some (dskO bD bN pv d'.left d'.full d'.down):=by obtain ⟨pv,sv,rv,nD,nN,hl⟩:=hs2.lg;exact ⟨pv,hl.disk.blk⟩
 have H2:Hid (CL w2 B cp gp bT m' lp p bD bN n' s' l' d'∧w2.heap[hp]?=some (hostC p true (.pointer (some ⟨cp,0,none⟩)))∧CFr cp bT lp p w w2∧w2.heap[p]?=some (dskO bD bN pv2 d'.left d'.full d'.down)∧Q v x s' l' d' m' n'):=⟨hs2,hh2,hr2,hd2,hQ⟩
 clear hs2 hx2 hh2 hfa2 hr2 hd2 hQ k6 H1
 go_wp2_with fail
 have hbd:=H2.out.2.2.2.1
 rw [hdn] at hbd
 refine (after_c hp p bD bN pv2 _ true d'.left d'.full a b c k w2 H2.out.2.1 hbd).mono ?_
 clear hbd y0 y1 y2 y3
 rintro e w3 ⟨rfl,hb3,hf3⟩
 rw [← hdn] at hb3
 obtain ⟨hs3,hx3⟩:=H2.out.1.knob (-1) (-1) hf3 hb3 H2.out.2.2.2.1
 have hh3:=hx3.cells H2.out.1 H2.out.2.1 (by decide) (by decide) (by decide) (by decide) (by decide) (by decide) (by decide) (by decide)
 have hr3':=hx3.hfr H2.out.1
 have hmet3:Met w3:=hr3'.met hB hmet2
 have H3:Hid (CL w3 B cp gp bT m' lp p bD bN n' s' l' (d'.knob (-1) (-1))∧w3.heap[hp]?=some (hostC p true (.pointer (some ⟨cp,0,none⟩)))∧CFr cp bT lp p w w3∧Q v x s' l' d' m' n'):=⟨hs3,hh3,H2.out.2.2.1.trans hx3,H2.out.2.2.2.2⟩
 clear hs3 hx3 hh3 hr3' hb3 hf3 H2
 go_wp2_with fail
 refine (told_any x w3 hmet3).mono ?_
 rintro e w4 ⟨rfl,hf4⟩
 obtain ⟨hs4,hx4⟩:=H3.out.1.new hf4
 have hh4:=hx4.cells H3.out.1 H3.out.2.1 (by decide) (by decide) (by decide) (by decide) (by decide) (by decide) (by decide) (by decide)
 have hr4:=H3.out.2.2.1.trans hx4
 have H4:Hid (Q v x s' l' d' m' n'∧HCx w4 B hp p cp gp bT lp bD bN m' n' s' l' (d'.knob (-1) (-1))∧CFr cp bT lp p w w4):=⟨H3.out.2.2.2,⟨hh4,hs4⟩,hr4⟩
 clear hs4 hx4 hh4 hr4 hf4 H3
 go_wp2
 go_ret
 exact ⟨v,x,s',l',d',m',n',H4.out.1,rfl,H4.out.2⟩
set_option maxRecDepth 100000 in
set_option maxHeartbeats 4000000 in
theorem hAbort_x (B hp cp gp bT m lp p bD bN n t:Nat) (s:ACo) (l:ALog) (d:ADisk) (a b c k:Int) (w:World) (Q:Nat→Nat→ACo→ALog→ADisk→Nat→Nat→Prop) (hh:w.heap[hp]?=some (hostC p true (.pointer (some ⟨cp,0,none⟩)))) (hs:CL w B cp gp bT m lp p bD bN n s l d) (hB:2≤B) (hmet:Met w)
  (hX:∀ w1,CL w1 B cp gp bT m lp p bD bN n s l (d.knob a b)→CFr cp bT lp p w w1→Calls Tryz.prog 165 #[.pointer (some ⟨cp,0,none⟩),.int .u64 (t:Int)] w1 fun e w2=>∃ v x s' l' d' m' n',Q v x s' l' d' m' n'∧e=.returned (errN x)∧CL w2 B cp gp bT m' lp p bD bN n' s' l' d'∧d'.down=false∧CFr cp bT lp p w1 w2) :
  Calls Tryz.prog 98 #[.pointer (some ⟨hp,0,none⟩),.int .u64 (t:Int),fallV a b c k] w fun e w'=>∃ v x s' l' d' m' n',Q v x s' l' d' m' n'∧e=.returned (.int .i64 (x:Int))∧HCx w' B hp p cp gp bT lp bD bN m' n' s' l' (d'.knob (-1) (-1))∧CFr cp bT lp p w w':=by
 obtain ⟨W,hW⟩:∃ W,W=w.alloc (fallO a b c k):=⟨_,rfl⟩
 have hf0:Fr [] w W:=by rw [hW];exact (Fr.refl [] w).alloc _
 obtain ⟨hs0,hx0⟩:=hs.new hf0
 have hh0:=hx0.cells hs hh (by decide) (by decide) (by decide) (by decide) (by decide) (by decide) (by decide) (by decide)
 have hfa0:W.heap[w.heap.size]?=some (fallO a b c k):=by rw [hW];exact heap_alloc_new w _
 have hr0:=hx0
 have HSW:=toHid hs
 have c6:=blk_cell hh0 6
 have x0:=blk_cell hfa0 0
 have x1:=blk_cell hfa0 1
 have x2:=blk_cell hfa0 2
 have x3:=blk_cell hfa0 3
 simp at c6 x0 x1 x2 x3
 rw [hW] at c6 x0 x1 x2 x3
 obtain ⟨pv0,hd0⟩:∃ pv,W.heap[p]?=some (dskO bD bN pv d.left d.full d.down):=by obtain ⟨pv,sv,rv,nD,nN,hl⟩:=hs0.lg;exact ⟨pv,hl.disk.blk⟩
 have H0:Hid (CL W B cp gp bT m lp p bD bN n s l d∧W.heap[hp]?=some (hostC p true (.pointer (some ⟨cp,0,none⟩)))∧W.heap[w.heap.size]?=some (fallO a b c k)∧CFr cp bT lp p w W∧W.heap[p]?=some (dskO bD bN pv0 d.left d.full d.down)):=⟨hs0,hh0,hfa0,hr0,hd0⟩
 clear hs hh hf0 hs0 hx0 hh0 hfa0 hr0 hd0
 go_enter Tryz.func98,Tryz.ntmps98
 go_wp2_with fail
 rw [← hW]
 clear hW c6 x0 x1 x2 x3
 refine (before_c hp p bD bN pv0 _ true d.down d.left d.full a b c k W H0.out.2.1 H0.out.2.2.2.2).mono ?_
 rintro e w1 ⟨rfl,hb1,hf1⟩
 obtain ⟨hs1,hx1⟩:=H0.out.1.knob a b hf1 hb1 H0.out.2.2.2.2
 have hh1:=hx1.cells H0.out.1 H0.out.2.1 (by decide) (by decide) (by decide) (by decide) (by decide) (by decide) (by decide) (by decide)
 have hfa1:=hx1.cells H0.out.1 H0.out.2.2.1 (by decide) (by decide) (by decide) (by decide) (by decide) (by decide) (by decide) (by decide)
 have hr1:=H0.out.2.2.2.1.trans hx1
 have hap:=hX w1 hs1 hr1
 have k6:=blk_cell hh1 6
 simp at k6
 have H1:Hid (CL w1 B cp gp bT m lp p bD bN n s l (d.knob a b)∧w1.heap[hp]?=some (hostC p true (.pointer (some ⟨cp,0,none⟩)))∧w1.heap[w.heap.size]?=some (fallO a b c k)∧CFr cp bT lp p w w1):=⟨hs1,hh1,hfa1,hr1⟩
 clear hs1 hx1 hh1 hfa1 hr1 hb1 hf1 hX H0
 go_wp2_with fail
 refine hap.mono ?_
 clear hap
 rintro e w2 ⟨v,x,s',l',d',m',n',hQ,rfl,hs2,hdn,hx2⟩
 have hh2:=hx2.cells H1.out.1 H1.out.2.1 (by decide) (by decide) (by decide) (by decide) (by decide) (by decide) (by decide) (by decide)
 have hfa2:=hx2.cells H1.out.1 H1.out.2.2.1 (by decide) (by decide) (by decide) (by decide) (by decide) (by decide) (by decide) (by decide)
 have hr2:=H1.out.2.2.2.trans hx2
 have y0:=blk_cell hfa2 0
 have y1:=blk_cell hfa2 1
 have y2:=blk_cell hfa2 2
 have y3:=blk_cell hfa2 3
 simp at y0 y1 y2 y3
 have hmet2:Met w2:=(hr2.hfr HSW.out).met hB hmet
 obtain ⟨pv2,hd2⟩:∃ pv,w2.heap[p]?=some (dskO bD bN pv d'.left d'.full d'.down):=by obtain ⟨pv,sv,rv,nD,nN,hl⟩:=hs2.lg;exact ⟨pv,hl.disk.blk⟩
 have H2:Hid (CL w2 B cp gp bT m' lp p bD bN n' s' l' d'∧w2.heap[hp]?=some (hostC p true (.pointer (some ⟨cp,0,none⟩)))∧CFr cp bT lp p w w2∧w2.heap[p]?=some (dskO bD bN pv2 d'.left d'.full d'.down)∧Q v x s' l' d' m' n'):=⟨hs2,hh2,hr2,hd2,hQ⟩
 clear hs2 hx2 hh2 hfa2 hr2 hd2 hQ k6 H1
 go_wp2_with fail
 have hbd:=H2.out.2.2.2.1
 rw [hdn] at hbd
 refine (after_c hp p bD bN pv2 _ true d'.left d'.full a b c k w2 H2.out.2.1 hbd).mono ?_
 clear hbd y0 y1 y2 y3
 rintro e w3 ⟨rfl,hb3,hf3⟩
 rw [← hdn] at hb3
 obtain ⟨hs3,hx3⟩:=H2.out.1.knob (-1) (-1) hf3 hb3 H2.out.2.2.2.1
 have hh3:=hx3.cells H2.out.1 H2.out.2.1 (by decide) (by decide) (by decide) (by decide) (by decide) (by decide) (by decide) (by decide)
 have hr3':=hx3.hfr H2.out.1
 have hmet3:Met w3:=hr3'.met hB hmet2
 have H3:Hid (CL w3 B cp gp bT m' lp p bD bN n' s' l' (d'.knob (-1) (-1))∧w3.heap[hp]?=some (hostC p true (.pointer (some ⟨cp,0,none⟩)))∧CFr cp bT lp p w w3∧Q v x s' l' d' m' n'):=⟨hs3,hh3,H2.out.2.2.1.trans hx3,H2.out.2.2.2.2⟩
 clear hs3 hx3 hh3 hr3' hb3 hf3 H2
 go_wp2_with fail
 refine (told_any x w3 hmet3).mono ?_
 rintro e w4 ⟨rfl,hf4⟩
 obtain ⟨hs4,hx4⟩:=H3.out.1.new hf4
 have hh4:=hx4.cells H3.out.1 H3.out.2.1 (by decide) (by decide) (by decide) (by decide) (by decide) (by decide) (by decide) (by decide)
 have hr4:=H3.out.2.2.1.trans hx4
 have H4:Hid (Q v x s' l' d' m' n'∧HCx w4 B hp p cp gp bT lp bD bN m' n' s' l' (d'.knob (-1) (-1))∧CFr cp bT lp p w w4):=⟨H3.out.2.2.2,⟨hh4,hs4⟩,hr4⟩
 clear hs4 hx4 hh4 hr4 hf4 H3
 go_wp2
 go_ret
 exact ⟨v,x,s',l',d',m',n',H4.out.1,rfl,H4.out.2⟩
set_option maxRecDepth 100000 in
set_option maxHeartbeats 2000000 in
theorem hAnswer_x (B hp p cp gp bT lp bD bN m n t:Nat) (c:ACo) (l:ALog) (d:ADisk) (w:World) (h:HCx w B hp p cp gp bT lp bD bN m n c l d) (ht:t<18446744073709551616) :
  Calls Tryz.prog 90 #[.pointer (some ⟨hp,0,none⟩),.int .u64 (t:Int)] w fun e w'=>e=.returned (.int .i64 (answerOf (c.tx t).state:Int))∧w'=w:=by
 obtain ⟨hh,hs⟩:=h
 have c6:=blk_cell hh 6
 simp at c6
 have ha:=answer_any B cp gp bT m t c w hs.co ht
 obtain ⟨R,hR⟩:∃ R,R=answerOf (c.tx t).state:=⟨_,rfl⟩
 rw [← hR] at ha ⊢
 clear hh hs hR
 go_enter Tryz.func90,Tryz.ntmps90
 go_wp2_with fail
 refine ha.mono ?_
 clear ha
 rintro e w1 ⟨rfl,rfl⟩
 go_wp2
 go_ret
 exact ⟨rfl,rfl⟩
set_option maxRecDepth 100000 in
set_option maxHeartbeats 2000000 in
theorem hStatus_x (B hp p cp gp bT lp bD bN m n t:Nat) (c:ACo) (l:ALog) (d:ADisk) (w:World) (h:HCx w B hp p cp gp bT lp bD bN m n c l d) (ht:t<18446744073709551616) :
  Calls Tryz.prog 88 #[.pointer (some ⟨hp,0,none⟩),.int .u64 (t:Int)] w fun e w'=>e=.returned (.int .i64 ((c.tx t).state:Int))∧w'=w:=by
 obtain ⟨hh,hs⟩:=h
 have c6:=blk_cell hh 6
 simp at c6
 have ha:=status_any B cp gp bT m t c w hs.co ht
 obtain ⟨R,hR⟩:∃ R,R=(c.tx t).state:=⟨_,rfl⟩
 rw [← hR] at ha ⊢
 clear hh hs hR
 go_enter Tryz.func88,Tryz.ntmps88
 go_wp2_with fail
 refine ha.mono ?_
 clear ha
 rintro e w1 ⟨rfl,rfl⟩
 go_wp2
 go_ret
 exact ⟨rfl,rfl⟩
set_option maxRecDepth 100000 in
set_option maxHeartbeats 2000000 in
theorem hResults_x (B hp p cp gp bT lp bD bN m n:Nat) (c:ACo) (l:ALog) (d:ADisk) (w:World) (h:HCx w B hp p cp gp bT lp bD bN m n c l d) :
  Calls Tryz.prog 155 #[.pointer (some ⟨hp,0,none⟩)] w fun e w'=>∃ v,e=.returned v∧w'.ownsRow B 216 2 v c.res.length (resV c.res)∧(c.res.length=0→v=.slice none 0 0)∧(∀ g,v.ownBlock=some g→g∈rd cp w)∧HCx w' B hp p cp gp bT lp bD bN m n { c with res:=[] } l d∧(∀ g,v.ownBlock=some g→g∉rd cp w')∧Fr [cp] w w'∧CFr cp bT lp p w w':=by
 have c6:=blk_cell h.1 6
 simp at c6
 have ha:=results_any B cp gp bT m c w h.2.co
 have HH:=toHid h
 clear h
 go_enter Tryz.func155,Tryz.ntmps155
 go_wp2_with fail
 refine ha.mono ?_
 clear ha
 rintro e w1 ⟨v,rfl,h1,h0,h2,h3,h4,h5,h6⟩
 obtain ⟨av,mv,cv,rfl⟩:=own_sl h1
 obtain ⟨k1,k2⟩:=HH.out.turn h3 (RFr.mono h6 (by simp))
 have HN:=toHid (And.intro h1 (And.intro h0 (And.intro h2 (And.intro k1 (And.intro h4 (And.intro h5 k2))))))
 clear h1 h0 h2 h3 h4 h5 h6 k1 k2
 go_wp2
 go_ret
 exact ⟨_,rfl,HN.out⟩
set_option maxRecDepth 100000 in
set_option maxHeartbeats 2000000 in
theorem hOut_x (B hp p cp gp bT lp bD bN m n:Nat) (c:ACo) (l:ALog) (d:ADisk) (w:World) (h:HCx w B hp p cp gp bT lp bD bN m n c l d) :
  Calls Tryz.prog 157 #[.pointer (some ⟨hp,0,none⟩)] w fun e w'=>∃ v,e=.returned v∧w'.ownsRow B 212 3 v c.out.length (dueV c.out)∧(c.out.length=0→v=.slice none 0 0)∧(∀ g,v.ownBlock=some g→g∈rd cp w)∧HCx w' B hp p cp gp bT lp bD bN m n { c with out:=[] } l d∧(∀ g,v.ownBlock=some g→g∉rd cp w')∧Fr [cp] w w'∧CFr cp bT lp p w w':=by
 have c6:=blk_cell h.1 6
 simp at c6
 have ha:=out_any B cp gp bT m c w h.2.co
 have HH:=toHid h
 clear h
 go_enter Tryz.func157,Tryz.ntmps157
 go_wp2_with fail
 refine ha.mono ?_
 clear ha
 rintro e w1 ⟨v,rfl,h1,h0,h2,h3,h4,h5,h6⟩
 obtain ⟨av,mv,cv,rfl⟩:=own_sl h1
 obtain ⟨k1,k2⟩:=HH.out.turn h3 (RFr.mono h6 (by simp))
 have HN:=toHid (And.intro h1 (And.intro h0 (And.intro h2 (And.intro k1 (And.intro h4 (And.intro h5 k2))))))
 clear h1 h0 h2 h3 h4 h5 h6 k1 k2
 go_wp2
 go_ret
 exact ⟨_,rfl,HN.out⟩
set_option maxRecDepth 100000 in
set_option maxHeartbeats 2000000 in
theorem hTick_x (B hp p cp gp bT lp bD bN m n:Nat) (c:ACo) (l:ALog) (d:ADisk) (w:World) (h:HCx w B hp p cp gp bT lp bD bN m n c l d) (hl:c.txns.length≤12) (hsi:∀ x∈c.txns,x.2.since≤c.ticks∧x.1<18446744073709551616) (htk:c.ticks+1<18446744073709551616) (hn:m+200<67108864) :
  Calls Tryz.prog 81 #[.pointer (some ⟨hp,0,none⟩)] w fun e w'=>e=.returned (.tuple #[])∧HCx w' B hp p cp gp bT lp bD bN (m+120) n c.tick l d∧CFr cp bT lp p w w':=by
 have c5:=blk_cell h.1 5
 have c6:=blk_cell h.1 6
 simp at c5 c6
 have ha:=ctick_any B cp gp bT m c w h.2.co hl hsi htk hn
 have HH:=toHid h
 clear h hsi
 go_enter Tryz.func81,Tryz.ntmps81
 go_wp2_with fail
 refine ha.mono ?_
 clear ha
 rintro e w1 ⟨rfl,h1,h2⟩
 have HN:=toHid (HH.out.turn h1 h2)
 clear h1 h2
 go_wp2
 go_end0
 exact ⟨rfl,HN.out⟩
end Go.Proofs.YtejiankgafjppaaGreatDoor
