import Derived.Test.YtcalalndmcemiaaGreatDoorC14
set_option maxRecDepth 100000
set_option maxHeartbeats 16000000
namespace Go.Proofs.YtcalalndmcemiaaGreatDoor
open Go.RowKit Go.Maps
open Sc
theorem jN5 (sp lg bV bT bH n t:Nat) (k:ByteArray) (g:AGrip) (s:AShard) (w:World) (h:ShIn w sp lg bV bT bH n s) (ht:t<18446744073709551616) (hk:k.size≤maxLen) (hn:n<maxLen) :
  Calls Tryz.prog 110 #[.pointer (some ⟨sp,0,none⟩),.int .u64 (t:Int),.string k,.agg #[.int .u8 (g.way:Int),.string g.val]] w λe w'=>e=.returned (.tuple #[])∧ShIn w' sp lg bV bT bH (n+1) (s.take t k g)∧Fr [bH] w w':=by
 have hsp:=h.lts
 obtain ⟨W,hW⟩:∃ W,W=(w.alloc (.cells #[.int .u8 (g.way:Int),.string g.val] 134)).alloc (.cells #[.int .u64 (t:Int),.string k] 141):=⟨_,rfl⟩
 have hfW:Fr [] w W:=by rw [hW];exact ((Fr.refl [] w).alloc _).alloc _
 have hsW:W.heap.size=w.heap.size+2:=by rw [hW];simp
 have b1:W.heap[w.heap.size]?=some (.cells #[.int .u8 (g.way:Int),.string g.val] 134):=by
  rw [hW];exact (Below.heap_alloc _ _ _ sE).trans (heap_alloc_new w _)
 have b2:W.heap[w.heap.size+1]?=some (.cells #[.int .u64 (t:Int),.string k] 141):=by
  rw [hW];have:=heap_alloc_new (w.alloc (.cells #[.int .u8 (g.way:Int),.string g.val] 134)) (.cells #[.int .u64 (t:Int),.string k] 141);rwa [World.size_alloc] at this
 have HIN:Hid (ShIn W sp lg bV bT bH n s):=h.fr hfW sE sE sE sE
 have HFW:Hid (Fr [] w W):=hfW
 have HS:Hid (∀ W',Fr [] W W'→W'.cell? ⟨w.heap.size,0,none⟩=some (.int .u8 (g.way:Int))∧W'.cell? ⟨w.heap.size,1,none⟩=some (.string g.val)∧W'.cell? ⟨w.heap.size+1,0,none⟩=some (.int .u64 (t:Int))∧W'.cell? ⟨w.heap.size+1,1,none⟩=some (.string k)∧W'.cell? ⟨sp,3,none⟩=some (.map (some bH))∧(Instr.lookup 137 (.map (some bH)) (.agg #[.int .u64 (t:Int),.string k]) false).run Tryz.prog W'=.ok (.agg #[.int .u8 ((s.grip t k).way:Int),.string (s.grip t k).val]) W'):=λW' hf=>by
  have e1:=(hf.block _ oE sE).trans b1
  have e2:=(hf.block _ oE sE).trans b2
  have hi:=HIN.out.fr hf sE sE sE sE
  have x0:=jA0 e1 0
  have x1:=jA0 e1 1
  have y0:=jA0 e2 0
  have y1:=jA0 e2 1
  have z3:=jA0 hi.blk 3
  simp at x0 x1 y0 y1 z3
  exact ⟨x0,x1,y0,y1,z3,hi.lookH ht hk⟩
 clear h b1 b2 hfW
 go_enter Tryz.func110,Tryz.ntmps110
 go_wp2
 rw [← hW]
 clear hW
 refine wp_region_held_drew (S:=(λw'=>w'.cell? ⟨w.heap.size,0,none⟩=some (.int .u8 (g.way:Int))∧w'.cell? ⟨w.heap.size,1,none⟩=some (.string g.val)∧w'.cell? ⟨w.heap.size+1,0,none⟩=some (.int .u64 (t:Int))∧w'.cell? ⟨w.heap.size+1,1,none⟩=some (.string k)∧w'.cell? ⟨sp,3,none⟩=some (.map (some bH))∧(Instr.lookup 137 (.map (some bH)) (.agg #[.int .u64 (t:Int),.string k]) false).run Tryz.prog w'=.ok (.agg #[.int .u8 ((s.grip t k).way:Int),.string (s.grip t k).val]) w')) (by kernel_rfl) (HS.out _ (Fr.refl [] W).drew) (λhHeld=>?_)
 refine tkH (i:=0) (oi:={ dst:=some 12,op:=_,type:=_,pos:=_,after:=_,guard:=_ }) (v:=.agg #[.int .u8 (g.way:Int),.string g.val]) ?_ ?_
 ·intro w' hSw;(try dsimp only at hSw);go_simp
 (try simp only [Act.put,tP,tQ,tR])
 cases hg:g.writes with
 | false =>
  have hgw:=jGt g W.drew
  rw [hg] at hgw
  refine wpAnyH_ready (rs:=[1]) (by kernel_rfl) (by simp) ?_
  refine AllReadyH.cons (o:={ dst:=some 13,op:=_,type:=_,pos:=_,after:=_,guard:=_ }) rfl (λK hK=>?_) AllReadyH.nil
  go_simp
  refine (hgw).mono ?_
  rintro e w1 ⟨rfl,rfl⟩
  go_wp2_with fail
  refine hK.out _ _ (HS.out _ ((Fr.refl [] W).drew.alloc _)) (λhHeld=>?_)
  clear hK K
  (try simp only [Act.put,tP,tQ,tR])
  refine tkH (i:=2) (oi:={ dst:=some 14,op:=_,type:=_,pos:=_,after:=_,guard:=_ }) (v:=.bool false) ?_ ?_
  ·intro w' hSw;(try dsimp only at hSw);go_simp
  (try simp only [Act.put,tP,tQ,tR])
  refine tkH (i:=3) (oi:={ dst:=some 15,op:=_,type:=_,pos:=_,after:=_,guard:=_ }) (v:=.pointer (some ⟨sp,0,none⟩)) ?_ ?_
  ·intro w' hSw;(try dsimp only at hSw);go_simp
  (try simp only [Act.put,tP,tQ,tR])
  refine tkH (i:=4) (oi:={ dst:=some 16,op:=_,type:=_,pos:=_,after:=_,guard:=_ }) (v:=.pointer (some ⟨sp,0,none⟩)) ?_ ?_
  ·intro w' hSw;(try dsimp only at hSw);go_simp
  (try simp only [Act.put,tP,tQ,tR])
  refine tkH (i:=5) (oi:={ dst:=some 17,op:=_,type:=_,pos:=_,after:=_,guard:=_ }) (v:=.pointer (some ⟨sp,3,none⟩)) ?_ ?_
  ·intro w' hSw;(try dsimp only at hSw);go_simp
  (try simp only [Act.put,tP,tQ,tR])
  refine tkH (i:=6) (oi:={ dst:=some 18,op:=_,type:=_,pos:=_,after:=_,guard:=_ }) (v:=.map (some bH)) ?_ ?_
  ·intro w' hSw;(try dsimp only at hSw);go_simp
  (try simp only [Act.put,tP,tQ,tR])
  refine tkH (i:=7) (oi:={ dst:=some 19,op:=_,type:=_,pos:=_,after:=_,guard:=_ }) (v:=.agg #[.int .u64 (t:Int),.string k]) ?_ ?_
  ·intro w' hSw;(try dsimp only at hSw);go_simp
  (try simp only [Act.put,tP,tQ,tR])
  refine tkH (i:=8) (oi:={ dst:=some 20,op:=_,type:=_,pos:=_,after:=_,guard:=_ }) (v:=.agg #[.int .u8 ((s.grip t k).way:Int),.string (s.grip t k).val]) ?_ ?_
  ·intro w' hSw;(try dsimp only at hSw);go_simp
  (try simp only [Act.put,tP,tQ,tR])
  have hgw2:=jGt (s.grip t k) (W.drew.alloc (.cells #[.int .u8 (g.way:Int),.string g.val] 134))
  cases hg2:(s.grip t k).writes with
  | true =>
   rw [hg2] at hgw2
   refine wpAnyH_ready (rs:=[9]) (by kernel_rfl) (by simp) ?_
   refine AllReadyH.cons (o:={ dst:=some 21,op:=_,type:=_,pos:=_,after:=_,guard:=_ }) rfl (λK hK=>?_) AllReadyH.nil
   go_simp
   refine (hgw2).mono ?_
   rintro e w2 ⟨rfl,rfl⟩
   go_wp2_with fail
   refine hK.out _ _ (HS.out _ (((Fr.refl [] W).drew.alloc _).alloc _)) (λhHeld=>?_)
   clear hK K
   (try simp only [Act.put,tP,tQ,tR])
   refine tkH (i:=10) (oi:={ dst:=some 22,op:=_,type:=_,pos:=_,after:=_,guard:=_ }) (v:=.bool false) ?_ ?_
   ·intro w' hSw;(try dsimp only at hSw);go_simp
   (try simp only [Act.put,tP,tQ,tR])
   refine tkH (i:=11) (oi:={ dst:=some 23,op:=_,type:=_,pos:=_,after:=_,guard:=_ }) (v:=.bool false) ?_ ?_
   ·intro w' hSw;(try dsimp only at hSw);go_simp
   (try simp only [Act.put,tP,tQ,tR])
   refine wpAnyH_done (by kernel_rfl) ?_ _
   have HX:Hid (s.take t k g=s):=by show _=_;unfold AShard.take;rw [if_neg (by simp [hg,hg2])]
   clear hHeld
   go_wp2
   go_end0
   rw [HX.out]
   refine ⟨rfl,(HIN.out.fr (((Fr.refl [] W).drew.alloc _).alloc _) sE sE sE sE).mono oE,?_⟩
   exact (HFW.out.trans (((Fr.refl [] W).drew.alloc _).alloc _)).mono sE
  | false =>
   rw [hg2] at hgw2
   refine wpAnyH_ready (rs:=[9]) (by kernel_rfl) (by simp) ?_
   refine AllReadyH.cons (o:={ dst:=some 21,op:=_,type:=_,pos:=_,after:=_,guard:=_ }) rfl (λK hK=>?_) AllReadyH.nil
   go_simp
   refine (hgw2).mono ?_
   rintro e w2 ⟨rfl,rfl⟩
   go_wp2_with fail
   refine hK.out _ _ (HS.out _ (((Fr.refl [] W).drew.alloc _).alloc _)) (λhHeld=>?_)
   clear hK K
   (try simp only [Act.put,tP,tQ,tR])
   refine tkH (i:=10) (oi:={ dst:=some 22,op:=_,type:=_,pos:=_,after:=_,guard:=_ }) (v:=.bool true) ?_ ?_
   ·intro w' hSw;(try dsimp only at hSw);go_simp
   (try simp only [Act.put,tP,tQ,tR])
   refine tkH (i:=11) (oi:={ dst:=some 23,op:=_,type:=_,pos:=_,after:=_,guard:=_ }) (v:=.bool true) ?_ ?_
   ·intro w' hSw;(try dsimp only at hSw);go_simp
   (try simp only [Act.put,tP,tQ,tR])
   refine wpAnyH_done (by kernel_rfl) ?_ _
   have HX:Hid (s.take t k g={ s with holds:=jAb s.holds (t,k) g }):=by show _=_;unfold AShard.take;rw [if_pos (by simp [hg,hg2])]
   obtain ⟨W3,hW3⟩:∃ W3,W3=((W.alloc (.cells #[.int .u8 (g.way:Int),.string g.val] 134)).alloc (.cells #[.int .u8 ((s.grip t k).way:Int),.string (s.grip t k).val] 134)).drew:=⟨_,rfl⟩
   have hf3:Fr [] W W3:=by rw [hW3];exact (((Fr.refl [] W).alloc _).alloc _).drew
   obtain ⟨z0,z1,z2,z3,z4,z5⟩:=HS.out W3 hf3
   have hin3:=HIN.out.fr hf3 sE sE sE sE
   have HF3:Hid (Fr [] W W3):=hf3
   rw [← hW3]
   clear hW3 hf3 hHeld z5
   obtain ⟨w5,hr5,hm5,hg5⟩:=(hin3.holds.fr (Fr.refl [] W3).drew sE).putRun Tryz.underlying137 hn (k:=(t,k)) ⟨ht,hk⟩ (v:=g) trivial
   have hr5':(Instr.mapUpdate 137 (.map (some bH)) (.agg #[.int .u64 (t:Int),.string k]) (.agg #[.int .u8 (g.way:Int),.string g.val])).run Tryz.prog W3.drew=.ok () w5:=hr5
   have hf5:Fr [bH] W3 w5:=((Fr.refl [bH] W3).drew).trans (Fr.of_grown1 hg5)
   have H5:Hid (ShIn w5 sp lg bV bT bH (n+1) { s with holds:=jAb s.holds (t,k) g }∧Fr [bH] w w5):=⟨hin3.setHolds hf5 hm5 oE,((HFW.out.mono sE).trans (HF3.out.mono sE)).trans hf5⟩
   clear hr5 hm5 hg5 hf5 hin3
   go_wp2
   go_region
   go_end0
   rw [HX.out]
   exact ⟨rfl,H5.out⟩
 | true =>
  have hgw:=jGt g W.drew
  rw [hg] at hgw
  refine wpAnyH_ready (rs:=[1]) (by kernel_rfl) (by simp) ?_
  refine AllReadyH.cons (o:={ dst:=some 13,op:=_,type:=_,pos:=_,after:=_,guard:=_ }) rfl (λK hK=>?_) AllReadyH.nil
  go_simp
  refine (hgw).mono ?_
  rintro e w1 ⟨rfl,rfl⟩
  go_wp2_with fail
  refine hK.out _ _ (HS.out _ ((Fr.refl [] W).drew.alloc _)) (λhHeld=>?_)
  clear hK K
  (try simp only [Act.put,tP,tQ,tR])
  refine tkH (i:=2) (oi:={ dst:=some 14,op:=_,type:=_,pos:=_,after:=_,guard:=_ }) (v:=.bool true) ?_ ?_
  ·intro w' hSw;(try dsimp only at hSw);go_simp
  (try simp only [Act.put,tP,tQ,tR])
  refine wpAnyH_take (i:=3) (oi:={ dst:=some 15,op:=_,type:=_,pos:=_,after:=_,guard:=_ }) (v:=undef) rfl (by kernel_rfl) (by kernel_rfl) (by kernel_rfl) (λ_ _ _ h=>h) (Or.inr ⟨by rfl,rfl⟩) (by assumption) ?_
  (try simp only [Act.put,tP,tQ,tR])
  refine wpAnyH_take (i:=4) (oi:={ dst:=some 16,op:=_,type:=_,pos:=_,after:=_,guard:=_ }) (v:=undef) rfl (by kernel_rfl) (by kernel_rfl) (by kernel_rfl) (λ_ _ _ h=>h) (Or.inr ⟨by rfl,rfl⟩) (by assumption) ?_
  (try simp only [Act.put,tP,tQ,tR])
  refine wpAnyH_take (i:=5) (oi:={ dst:=some 17,op:=_,type:=_,pos:=_,after:=_,guard:=_ }) (v:=undef) rfl (by kernel_rfl) (by kernel_rfl) (by kernel_rfl) (λ_ _ _ h=>h) (Or.inr ⟨by rfl,rfl⟩) (by assumption) ?_
  (try simp only [Act.put,tP,tQ,tR])
  refine wpAnyH_take (i:=6) (oi:={ dst:=some 18,op:=_,type:=_,pos:=_,after:=_,guard:=_ }) (v:=undef) rfl (by kernel_rfl) (by kernel_rfl) (by kernel_rfl) (λ_ _ _ h=>h) (Or.inr ⟨by rfl,rfl⟩) (by assumption) ?_
  (try simp only [Act.put,tP,tQ,tR])
  refine wpAnyH_take (i:=7) (oi:={ dst:=some 19,op:=_,type:=_,pos:=_,after:=_,guard:=_ }) (v:=undef) rfl (by kernel_rfl) (by kernel_rfl) (by kernel_rfl) (λ_ _ _ h=>h) (Or.inr ⟨by rfl,rfl⟩) (by assumption) ?_
  (try simp only [Act.put,tP,tQ,tR])
  refine wpAnyH_take (i:=8) (oi:={ dst:=some 20,op:=_,type:=_,pos:=_,after:=_,guard:=_ }) (v:=undef) rfl (by kernel_rfl) (by kernel_rfl) (by kernel_rfl) (λ_ _ _ h=>h) (Or.inr ⟨by rfl,rfl⟩) (by assumption) ?_
  (try simp only [Act.put,tP,tQ,tR])
  refine wpAnyH_take (i:=9) (oi:={ dst:=some 21,op:=_,type:=_,pos:=_,after:=_,guard:=_ }) (v:=undef) rfl (by kernel_rfl) (by kernel_rfl) (by kernel_rfl) (λ_ _ _ h=>h) (Or.inr ⟨by rfl,rfl⟩) (by assumption) ?_
  (try simp only [Act.put,tP,tQ,tR])
  refine wpAnyH_take (i:=10) (oi:={ dst:=some 22,op:=_,type:=_,pos:=_,after:=_,guard:=_ }) (v:=undef) rfl (by kernel_rfl) (by kernel_rfl) (by kernel_rfl) (λ_ _ _ h=>h) (Or.inr ⟨by rfl,rfl⟩) (by assumption) ?_
  (try simp only [Act.put,tP,tQ,tR])
  refine tkH (i:=11) (oi:={ dst:=some 23,op:=_,type:=_,pos:=_,after:=_,guard:=_ }) (v:=.bool true) ?_ ?_
  ·intro w' hSw;(try dsimp only at hSw);go_simp
  (try simp only [Act.put,tP,tQ,tR])
  refine wpAnyH_done (by kernel_rfl) ?_ _
  have HX:Hid (s.take t k g={ s with holds:=jAb s.holds (t,k) g }):=by show _=_;unfold AShard.take;rw [if_pos (by simp [hg])]
  obtain ⟨W3,hW3⟩:∃ W3,W3=(W.alloc (.cells #[.int .u8 (g.way:Int),.string g.val] 134)).drew:=⟨_,rfl⟩
  have hf3:Fr [] W W3:=by rw [hW3];exact ((Fr.refl [] W).alloc _).drew
  obtain ⟨z0,z1,z2,z3,z4,z5⟩:=HS.out W3 hf3
  have hin3:=HIN.out.fr hf3 sE sE sE sE
  have HF3:Hid (Fr [] W W3):=hf3
  rw [← hW3]
  clear hW3 hf3 hHeld z5
  obtain ⟨w5,hr5,hm5,hg5⟩:=(hin3.holds.fr (Fr.refl [] W3).drew sE).putRun Tryz.underlying137 hn (k:=(t,k)) ⟨ht,hk⟩ (v:=g) trivial
  have hr5':(Instr.mapUpdate 137 (.map (some bH)) (.agg #[.int .u64 (t:Int),.string k]) (.agg #[.int .u8 (g.way:Int),.string g.val])).run Tryz.prog W3.drew=.ok () w5:=hr5
  have hf5:Fr [bH] W3 w5:=((Fr.refl [bH] W3).drew).trans (Fr.of_grown1 hg5)
  have H5:Hid (ShIn w5 sp lg bV bT bH (n+1) { s with holds:=jAb s.holds (t,k) g }∧Fr [bH] w w5):=⟨hin3.setHolds hf5 hm5 oE,((HFW.out.mono sE).trans (HF3.out.mono sE)).trans hf5⟩
  clear hr5 hm5 hg5 hf5 hin3
  go_wp2
  go_region
  go_end0
  rw [HX.out]
  exact ⟨rfl,H5.out⟩
theorem ShIn.lenT {w:World} {sp lg bV bT bH n:Nat} {s:AShard} (h:ShIn w sp lg bV bT bH n s) (ty:TypeId):(Builtin.len_ #[136] ty #[.map (some bT)]).run Tryz.prog w=.ok (.int .i64 (s.txns.length:Int)) w :=
 h.txns.lenRun Tryz.underlying136 ty
def AShard.refuse1 (s:AShard) (t:Nat) (seq:Int) (k v:ByteArray):Nat :=
 if t=0 then 7 else if k.size<1∨16<k.size∨32<v.size then 1 else if (s.txn t).state=3∨seq≠((s.txn t).done:Int) then 4 else if (s.txn t).state=2 then 3 else if (s.txn t).state=0∧12≤s.txns.length then 5 else 0
theorem jJu (sp lg bV bT bH n:Nat) (seq:Int) (k:ByteArray) (g:AGrip) (s:AShard) (w:World) (h:ShIn w sp lg bV bT bH n s) (hlg:1≤lg:=by first | assumption | omega) :
  Calls Tryz.prog 107 #[.pointer (some ⟨sp,0,none⟩),.int .u64 0,.int .i64 seq,.string k,.agg #[.int .u8 (g.way:Int),.string g.val]] w λe w'=>e=.returned (errN 7)∧Fr [] w w':=by
 have hl:∀ W,Fr [] w W→(Instr.lookup 136 (.map (some bT)) (.int .u64 0) false).run Tryz.prog W=.ok (.agg #[.int .i64 ((s.txn 0).state:Int),.int .i64 ((s.txn 0).done:Int),.int .u64 ((s.txn 0).last:Int)]) W:=λW hW=>(h.fr hW sE sE sE sE).lookT (t:=0) dN
 have l1:=hl _ ((Fr.refl [] w).alloc (.cells #[.int .u8 (g.way:Int),.string g.val] 134))
 have c0:=jA0 h.blk 0
 have c2:=jA0 h.blk 2
 simp at c0 c2
 rw [jB8 hlg] at c0
 clear hlg
 have hsp:=h.lts.1
 have z1:¬ sp=w.heap.size:=by omega
 clear h hl
 go_enter Tryz.func107,Tryz.ntmps107
 go_wp2
 go_ret
 exact ⟨by rw [jAc dN];rfl,((Fr.refl [] w).alloc _).alloc _⟩
theorem jIz (sp lg bV bT bH n t:Nat) (seq:Int) (k:ByteArray) (g:AGrip) (s:AShard) (w:World) (h:ShIn w sp lg bV bT bH n s) (ht:t<18446744073709551616) (h0:t≠0) (h5:s.refuse1 t seq k g.val≠5) (hr:s.refuse1 t seq k g.val≠0) (hlg:1≤lg:=by first | assumption | omega) :
  Calls Tryz.prog 107 #[.pointer (some ⟨sp,0,none⟩),.int .u64 (t:Int),.int .i64 seq,.string k,.agg #[.int .u8 (g.way:Int),.string g.val]] w λe w'=>e=.returned (errN (s.refuse1 t seq k g.val))∧Fr [] w w':=by
 have hl:∀ W,Fr [] w W→(Instr.lookup 136 (.map (some bT)) (.int .u64 (t:Int)) false).run Tryz.prog W=.ok (.agg #[.int .i64 ((s.txn t).state:Int),.int .i64 ((s.txn t).done:Int),.int .u64 ((s.txn t).last:Int)]) W:=λW hW=>(h.fr hW sE sE sE sE).lookT ht
 have l1:=hl _ ((Fr.refl [] w).alloc (.cells #[.int .u8 (g.way:Int),.string g.val] 134))
 have c0:=jA0 h.blk 0
 have c2:=jA0 h.blk 2
 simp at c0 c2
 rw [jB8 hlg] at c0
 clear hlg
 have hsp:=h.lts.1
 have z1:¬ sp=w.heap.size:=by omega
 have i0:¬ (t:Int)=0:=by omega
 clear h hl
 have H5:Hid (s.refuse1 t seq k g.val≠5):=h5
 clear h5
 unfold AShard.refuse1 at hr ⊢
 rw [if_neg h0] at hr ⊢
 by_cases b1:k.size<1
 ·rw [if_pos (.inl b1)]
  have j1:(k.size:Int)<1:=by omega
  clear hr
  go_enter Tryz.func107,Tryz.ntmps107
  go_wp2
  go_ret
  exact ⟨by rw [jAc dN];rfl,((Fr.refl [] w).alloc _).alloc _⟩
 ·have j1:¬ (k.size:Int)<1:=by omega
  by_cases b2:16<k.size
  ·rw [if_pos (.inr (.inl b2))]
   have j2:(16:Int)<(k.size:Int):=by omega
   clear hr
   go_enter Tryz.func107,Tryz.ntmps107
   go_wp2
   go_ret
   exact ⟨by rw [jAc dN];rfl,((Fr.refl [] w).alloc _).alloc _⟩
  ·have j2:¬ (16:Int)<(k.size:Int):=by omega
   by_cases b3:32<g.val.size
   ·rw [if_pos (.inr (.inr b3))]
    have j3:(32:Int)<(g.val.size:Int):=by omega
    clear hr
    go_enter Tryz.func107,Tryz.ntmps107
    go_wp2
    go_ret
    exact ⟨by rw [jAc dN];rfl,((Fr.refl [] w).alloc _).alloc _⟩
   ·have j3:¬ (32:Int)<(g.val.size:Int):=by omega
    have nb:¬ (k.size<1∨16<k.size∨32<g.val.size):=by omega
    rw [if_neg nb] at hr ⊢
    have E5:Hid ((s.txn t).state≠3→seq=((s.txn t).done:Int)→(s.txn t).state≠2→((s.txn t).state=0∧12≤s.txns.length)→False):=λa b c d=>H5.out (by unfold AShard.refuse1;rw [if_neg h0,if_neg nb,if_neg oE,if_neg c,if_pos d])
    clear b1 b2 b3 nb
    by_cases d1:(s.txn t).state=3
    ·rw [if_pos (.inl d1)]
     have j4:((s.txn t).state:Int)=3:=by omega
     clear hr d1
     go_enter Tryz.func107,Tryz.ntmps107
     go_wp2
     go_ret
     exact ⟨by rw [jAc dN];rfl,((Fr.refl [] w).alloc _).alloc _⟩
    ·have j4:¬ ((s.txn t).state:Int)=3:=by omega
     by_cases d2:seq=((s.txn t).done:Int)
     ·rw [if_neg oE] at hr ⊢
      by_cases d3:(s.txn t).state=2
      ·rw [if_pos d3]
       have j5:((s.txn t).state:Int)=2:=by omega
       clear hr d1 d3
       go_enter Tryz.func107,Tryz.ntmps107
       go_wp2
       go_ret
       exact ⟨by rw [jAc dN];rfl,((Fr.refl [] w).alloc _).alloc _⟩
      ·rw [if_neg d3] at hr ⊢
       rw [if_neg (E5.out d1 d2 d3)] at hr
       exact absurd rfl hr
     ·rw [if_pos (.inr d2)]
      have j5:(seq != ((s.txn t).done:Int))=true:=by simp [d2]
      clear hr d1 d2
      go_enter Tryz.func107,Tryz.ntmps107
      go_wp2
      go_ret
      exact ⟨by rw [jAc dN];rfl,((Fr.refl [] w).alloc _).alloc _⟩
theorem jJm (sp lg bV bT bH n t:Nat) (seq:Int) (k:ByteArray) (g:AGrip) (s:AShard) (w:World) (h:ShIn w sp lg bV bT bH n s) (ht:t<18446744073709551616) (h0:t≠0) (hb:¬ (k.size<1∨16<k.size∨32<g.val.size)) (hst:(s.txn t).state=0) (hsq:seq=((s.txn t).done:Int)) (h12:12≤s.txns.length) (hlg:1≤lg:=by first | assumption | omega) :
  Calls Tryz.prog 107 #[.pointer (some ⟨sp,0,none⟩),.int .u64 (t:Int),.int .i64 seq,.string k,.agg #[.int .u8 (g.way:Int),.string g.val]] w λe w'=>e=.returned (errN 5)∧Fr [] w w':=by
 have hl:∀ W,Fr [] w W→(Instr.lookup 136 (.map (some bT)) (.int .u64 (t:Int)) false).run Tryz.prog W=.ok (.agg #[.int .i64 ((s.txn t).state:Int),.int .i64 ((s.txn t).done:Int),.int .u64 ((s.txn t).last:Int)]) W:=λW hW=>(h.fr hW sE sE sE sE).lookT ht
 have l1:=hl _ ((Fr.refl [] w).alloc (.cells #[.int .u8 (g.way:Int),.string g.val] 134))
 have hn:∀ W,Fr [] w W→∀ ty,(Builtin.len_ #[136] ty #[.map (some bT)]).run Tryz.prog W=.ok (.int .i64 (s.txns.length:Int)) W:=λW hW ty=>(h.fr hW sE sE sE sE).lenT ty
 have l2:=hn _ (((Fr.refl [] w).alloc (.cells #[.int .u8 (g.way:Int),.string g.val] 134)).alloc (.cells #[.int .i64 ((s.txn t).state:Int),.int .i64 ((s.txn t).done:Int),.int .u64 ((s.txn t).last:Int)] 199))
 have c0:=jA0 h.blk 0
 have c2:=jA0 h.blk 2
 simp at c0 c2
 rw [jB8 hlg] at c0
 clear hlg
 have hsp:=h.lts.1
 have z1:¬ sp=w.heap.size:=by omega
 have i0:¬ (t:Int)=0:=by omega
 have j1:¬ (k.size:Int)<1:=by omega
 have j2:¬ (16:Int)<(k.size:Int):=by omega
 have j3:¬ (32:Int)<(g.val.size:Int):=by omega
 have j4:((s.txn t).state:Int)=0:=by omega
 have j6:(12:Int)≤(s.txns.length:Int):=by omega
 rw [j4] at l1 l2
 subst hsq
 clear h hl hn hb hst h12 j4
 go_enter Tryz.func107,Tryz.ntmps107
 go_wp2
 go_ret
 exact ⟨by rw [jAc dN];rfl,((Fr.refl [] w).alloc _).alloc _⟩
def AShard.count (s:AShard) (t:Nat):Nat:=(s.holds.filter λp=>decide (p.1.1=t)).length
theorem jRz {K V:Type} [DecidableEq K] {l:List (K × V)} (h:Once1 l):(l.map (·.1)).Nodup:=by
 unfold List.Nodup
 rw [List.pairwise_map]
 exact h
theorem AShard.count_of {s:AShard} {t:Nat} {L:List (ByteArray × AGrip)} (hs:Once1 s.holds) (hL:Once1 L) (h:∀ k,jA3 L k=jA3 s.holds (t,k)):L.length=s.count t:=by
 have n1:=jRz hL
 have n2:((s.holds.filter λp=>decide (p.1.1=t)).map (·.1.2)).Nodup:=by
  unfold List.Nodup
  rw [List.pairwise_map]
  refine (hs.filter _).imp_of_mem ?_
  intro a b ha hb hne e
  have ha2:=(List.mem_filter.1 ha).2
  have hb2:=(List.mem_filter.1 hb).2
  simp at ha2 hb2
  exact hne (Prod.ext (ha2.trans hb2.symm) e)
 have hp:(L.map (·.1)).Perm ((s.holds.filter λp=>decide (p.1.1=t)).map (·.1.2)):=by
  rw [List.perm_ext_iff_of_nodup n1 n2]
  intro k
  constructor
  ·intro hk
   obtain ⟨p,hp,rfl⟩:=List.mem_map.1 hk
   have:=jB6 hL (k:=p.1) (v:=p.2) hp
   rw [h] at this
   exact List.mem_map.2 ⟨_,List.mem_filter.2 ⟨jAh this,by simp⟩,rfl⟩
  ·intro hk
   obtain ⟨p,hp,rfl⟩:=List.mem_map.1 hk
   obtain ⟨hp1,hp2⟩:=List.mem_filter.1 hp
   simp at hp2
   have:jA3 s.holds (t,p.1.2)=some p.2:=jB6 hs (by rw [← hp2];exact hp1)
   rw [← h] at this
   exact List.mem_map.2 ⟨_,jAh this,rfl⟩
 have:=hp.length_eq
 simpa [AShard.count] using this
def AShard.refuse2 (s:AShard) (t:Nat) (k:ByteArray):Nat:=if (jA3 s.holds (t,k)).isSome=false∧4≤s.count t then 5 else 0
theorem jKu (sp lg bV bT bH n t:Nat) (seq:Int) (k:ByteArray) (g:AGrip) (s:AShard) (w:World) (h:ShIn w sp lg bV bT bH n s) (ht:t<18446744073709551616) (h0:t≠0) (hb:¬ (k.size<1∨16<k.size∨32<g.val.size)) (hst:(s.txn t).state=0∨(s.txn t).state=1) (hsq:seq=((s.txn t).done:Int)) (h12:(s.txn t).state=0→s.txns.length<12) (hn:n<maxLen) (hlg:1≤lg:=by first | assumption | omega) :
  Calls Tryz.prog 107 #[.pointer (some ⟨sp,0,none⟩),.int .u64 (t:Int),.int .i64 seq,.string k,.agg #[.int .u8 (g.way:Int),.string g.val]] w λe w'=>e=.returned (errN (s.refuse2 t k))∧Fr [] w w':=by
 have hkm:k.size≤maxLen:=by unfold maxLen;omega
 obtain ⟨W,hW⟩:∃ W,W=(w.alloc (.cells #[.int .u8 (g.way:Int),.string g.val] 134)).alloc (.cells #[.int .i64 ((s.txn t).state:Int),.int .i64 ((s.txn t).done:Int),.int .u64 ((s.txn t).last:Int)] 199):=⟨_,rfl⟩
 have hfW:Fr [] w W:=by rw [hW];exact ((Fr.refl [] w).alloc _).alloc _
 have hinW:=h.fr hfW sE sE sE sE
 have hl:∀ W,Fr [] w W→(Instr.lookup 136 (.map (some bT)) (.int .u64 (t:Int)) false).run Tryz.prog W=.ok (.agg #[.int .i64 ((s.txn t).state:Int),.int .i64 ((s.txn t).done:Int),.int .u64 ((s.txn t).last:Int)]) W:=λW hW=>(h.fr hW sE sE sE sE).lookT ht
 have l1:=hl _ ((Fr.refl [] w).alloc (.cells #[.int .u8 (g.way:Int),.string g.val] 134))
 have l2:=hinW.lenT
 have hho:=jEg sp lg bV bT bH n t s W hinW ht hn
 have HO:Hid (Once1 s.holds):=by obtain ⟨_,_,_,h3,_⟩:=h.holds;exact h3
 rw [hW] at l2 hho
 have HFW:Hid (Fr [] w ((w.alloc (.cells #[.int .u8 (g.way:Int),.string g.val] 134)).alloc (.cells #[.int .i64 ((s.txn t).state:Int),.int .i64 ((s.txn t).done:Int),.int .u64 ((s.txn t).last:Int)] 199))):=by rw [← hW];exact hfW
 have c0:=jA0 h.blk 0
 have c2:=jA0 h.blk 2
 simp at c0 c2
 rw [jB8 hlg] at c0
 clear hlg
 have hsp:=h.lts.1
 have z1:¬ sp=w.heap.size:=by omega
 have i0:¬ (t:Int)=0:=by omega
 have j1:¬ (k.size:Int)<1:=by omega
 have j2:¬ (16:Int)<(k.size:Int):=by omega
 have j3:¬ (32:Int)<(g.val.size:Int):=by omega
 subst hsq
 clear h hl hb hinW hfW hW
 rcases hst with hst | hst
 ·have j4:((s.txn t).state:Int)=0:=by omega
  have j6:¬ (12:Int)≤(s.txns.length:Int):=by have:=h12 hst;omega
  rw [j4] at l1 l2 hho HFW
  clear hst h12 j4
  go_enter Tryz.func107,Tryz.ntmps107
  go_wp2_with fail
  refine hho.mono ?_
  clear hho
  rintro e w1 ⟨b,L,rfl,hb,hL,hlk,hf1⟩
  have HC:Hid (L.length=s.count t):=AShard.count_of HO.out (by obtain ⟨_,_,_,h3,_⟩:=hL;exact h3) hlk
  have q1:=hL.lookOk Tryz.underlying262 (jF2 w1) trivial (k:=k) hkm
  rw [hlk k] at q1
  have HF:Hid (Fr [] w w1):=HFW.out.trans hf1
  have HM:Hid (MapAs KS EG w1 b n L):=hL
  obtain ⟨G,hG⟩:∃ G,G=(jA3 s.holds (t,k)).getD ⟨0,ByteArray.empty⟩:=⟨_,rfl⟩
  rw [← hG] at q1
  have q1':(Instr.lookup 262 (.map (some b)) (.string k) true).run Tryz.prog w1=.ok (.tuple #[.agg #[.int .u8 (G.way:Int),.string G.val],.bool (jA3 s.holds (t,k)).isSome]) w1:=q1
  have q2:∀ ty,(Builtin.len_ #[262] ty #[.map (some b)]).run Tryz.prog (w1.alloc (.cells #[.int .u8 (G.way:Int),.string G.val] 134))=.ok (.int .i64 (s.count t:Int)) (w1.alloc (.cells #[.int .u8 (G.way:Int),.string G.val] 134)):=λty=>by
   rw [← HC.out];exact (HM.out.fr ((Fr.refl [] w1).alloc _) sE).lenRun Tryz.underlying262 ty
  clear hL hlk hf1 q1 hG l1 l2 c0 c2
  cases hO:(jA3 s.holds (t,k)).isSome with
  | true =>
   rw [hO] at q1'
   have HR:Hid (s.refuse2 t k=0):=by show _=_;unfold AShard.refuse2;rw [if_neg (by simp [hO])]
   clear hO
   go_wp2
   go_ret
   rw [HR.out]
   exact ⟨rfl,HF.out.alloc _⟩
  | false =>
   rw [hO] at q1'
   by_cases h4:4≤s.count t
   ·have HR:Hid (s.refuse2 t k=5):=by show _=_;unfold AShard.refuse2;rw [if_pos ⟨hO,h4⟩]
    have j7:(4:Int)≤(s.count t:Int):=by omega
    clear hO h4
    go_wp2
    go_ret
    rw [HR.out]
    exact ⟨by rw [jAc dN];rfl,HF.out.alloc _⟩
   ·have HR:Hid (s.refuse2 t k=0):=by show _=_;unfold AShard.refuse2;rw [if_neg oE]
    have j7:¬ (4:Int)≤(s.count t:Int):=by omega
    clear hO h4
    go_wp2
    go_ret
    rw [HR.out]
    exact ⟨rfl,HF.out.alloc _⟩
 ·have j4:((s.txn t).state:Int)=1:=by omega
  rw [j4] at l1 l2 hho HFW
  clear hst h12 j4
  go_enter Tryz.func107,Tryz.ntmps107
  go_wp2_with fail
  refine hho.mono ?_
  clear hho
  rintro e w1 ⟨b,L,rfl,hb,hL,hlk,hf1⟩
  have HC:Hid (L.length=s.count t):=AShard.count_of HO.out (by obtain ⟨_,_,_,h3,_⟩:=hL;exact h3) hlk
  have q1:=hL.lookOk Tryz.underlying262 (jF2 w1) trivial (k:=k) hkm
  rw [hlk k] at q1
  have HF:Hid (Fr [] w w1):=HFW.out.trans hf1
  have HM:Hid (MapAs KS EG w1 b n L):=hL
  obtain ⟨G,hG⟩:∃ G,G=(jA3 s.holds (t,k)).getD ⟨0,ByteArray.empty⟩:=⟨_,rfl⟩
  rw [← hG] at q1
  have q1':(Instr.lookup 262 (.map (some b)) (.string k) true).run Tryz.prog w1=.ok (.tuple #[.agg #[.int .u8 (G.way:Int),.string G.val],.bool (jA3 s.holds (t,k)).isSome]) w1:=q1
  have q2:∀ ty,(Builtin.len_ #[262] ty #[.map (some b)]).run Tryz.prog (w1.alloc (.cells #[.int .u8 (G.way:Int),.string G.val] 134))=.ok (.int .i64 (s.count t:Int)) (w1.alloc (.cells #[.int .u8 (G.way:Int),.string G.val] 134)):=λty=>by
   rw [← HC.out];exact (HM.out.fr ((Fr.refl [] w1).alloc _) sE).lenRun Tryz.underlying262 ty
  clear hL hlk hf1 q1 hG l1 l2 c0 c2
  cases hO:(jA3 s.holds (t,k)).isSome with
  | true =>
   rw [hO] at q1'
   have HR:Hid (s.refuse2 t k=0):=by show _=_;unfold AShard.refuse2;rw [if_neg (by simp [hO])]
   clear hO
   go_wp2
   go_ret
   rw [HR.out]
   exact ⟨rfl,HF.out.alloc _⟩
  | false =>
   rw [hO] at q1'
   by_cases h4:4≤s.count t
   ·have HR:Hid (s.refuse2 t k=5):=by show _=_;unfold AShard.refuse2;rw [if_pos ⟨hO,h4⟩]
    have j7:(4:Int)≤(s.count t:Int):=by omega
    clear hO h4
    go_wp2
    go_ret
    rw [HR.out]
    exact ⟨by rw [jAc dN];rfl,HF.out.alloc _⟩
   ·have HR:Hid (s.refuse2 t k=0):=by show _=_;unfold AShard.refuse2;rw [if_neg oE]
    have j7:¬ (4:Int)≤(s.count t:Int):=by omega
    clear hO h4
    go_wp2
    go_ret
    rw [HR.out]
    exact ⟨rfl,HF.out.alloc _⟩
def AShard.refuse (s:AShard) (t:Nat) (seq:Int) (k v:ByteArray):Nat:=if s.refuse1 t seq k v=0 then s.refuse2 t k else s.refuse1 t seq k v
theorem jDn (s:AShard) (t:Nat) (seq:Int) (k v:ByteArray) (h0:t≠0) :
  (s.refuse1 t seq k v≠0∧s.refuse1 t seq k v≠5)∨(s.refuse1 t seq k v=5∧¬ (k.size<1∨16<k.size∨32<v.size)∧seq=((s.txn t).done:Int)∧(s.txn t).state=0∧12≤s.txns.length) ∨
  (s.refuse1 t seq k v=0∧¬ (k.size<1∨16<k.size∨32<v.size)∧seq=((s.txn t).done:Int)∧(s.txn t).state≠3∧(s.txn t).state≠2∧¬ ((s.txn t).state=0∧12≤s.txns.length)):=by
 unfold AShard.refuse1
 rw [if_neg h0]
 by_cases hb:k.size<1∨16<k.size∨32<v.size
 ·rw [if_pos hb];exact .inl ⟨by decide,by decide⟩
 ·rw [if_neg hb]
  by_cases hd:(s.txn t).state=3∨seq≠((s.txn t).done:Int)
  ·rw [if_pos hd];exact .inl ⟨by decide,by decide⟩
  ·rw [if_neg hd]
   by_cases h2:(s.txn t).state=2
   ·rw [if_pos h2];exact .inl ⟨by decide,by decide⟩
   ·rw [if_neg h2]
    by_cases h5:(s.txn t).state=0∧12≤s.txns.length
    ·rw [if_pos h5];exact .inr (.inl ⟨rfl,hb,by omega,h5.1,h5.2⟩)
    ·rw [if_neg h5];exact .inr (.inr ⟨rfl,hb,by omega,by omega,h2,h5⟩)
theorem jLc (sp lg bV bT bH n t:Nat) (seq:Int) (k:ByteArray) (g:AGrip) (s:AShard) (w:World) (h:ShIn w sp lg bV bT bH n s) (ht:t<18446744073709551616) (hn:n<maxLen) (hst:(s.txn t).state≤3) (hlg:1≤lg:=by first | assumption | omega) :
  Calls Tryz.prog 107 #[.pointer (some ⟨sp,0,none⟩),.int .u64 (t:Int),.int .i64 seq,.string k,.agg #[.int .u8 (g.way:Int),.string g.val]] w λe w'=>e=.returned (errN (s.refuse t seq k g.val))∧Fr [] w w':=by
 unfold AShard.refuse
 by_cases h0:t=0
 ·subst h0
  have e:s.refuse1 0 seq k g.val=7:=by unfold AShard.refuse1;rw [if_pos rfl]
  rw [e,if_neg dN]
  exact jJu sp lg bV bT bH n seq k g s w h
 ·rcases jDn s t seq k g.val h0 with ⟨e1,e2⟩ | ⟨e,hb,hq,h1,h2⟩ | ⟨e,hb,hq,h1,h2,h3⟩
  ·rw [if_neg e1]
   exact jIz sp lg bV bT bH n t seq k g s w h ht h0 e2 e1
  ·rw [e,if_neg dN]
   exact jJm sp lg bV bT bH n t seq k g s w h ht h0 hb h1 hq h2
  ·rw [e,if_pos rfl]
   exact jKu sp lg bV bT bH n t seq k g s w h ht h0 hb oE hq oE hn
def AShard.operate (s:AShard) (t:Nat) (seq:Int) (k:ByteArray) (g:AGrip):AShard × Nat :=
 if s.refuse t seq k g.val=0 then
  if s.clash t k g.writes=true then ({ s with txns:=jAb s.txns t ⟨2,(s.txn t).done,s.ticks⟩ },3)
  else (({ s with txns:=jAb s.txns t ⟨1,(s.txn t).done+1,s.ticks⟩ }:AShard).take t k g,0)
 else (s,s.refuse t seq k g.val)
theorem jFr {s:AShard} {t:Nat} {seq:Int} {k v:ByteArray} (h:s.refuse t seq k v=0):t≠0∧k.size≤16∧v.size≤32:=by
 unfold AShard.refuse at h
 by_cases h0:t=0
 ·subst h0
  have e:s.refuse1 0 seq k v=7:=by unfold AShard.refuse1;rw [if_pos rfl]
  rw [e,if_neg dN] at h
  exact absurd h dN
 ·rcases jDn s t seq k v h0 with ⟨e1,e2⟩ | ⟨e,_⟩ | ⟨e,hb,_⟩
  ·rw [if_neg e1] at h;exact absurd h e1
  ·rw [e,if_neg dN] at h;exact absurd h dN
  ·exact ⟨h0,by omega,by omega⟩
theorem jH8 (sp lg bV bT bH n t:Nat) (seq:Int) (k:ByteArray) (g:AGrip) (s:AShard) (w:World) (h:ShIn w sp lg bV bT bH n s) (ht:t<18446744073709551616) (hn:n+2<maxLen) (hst:(s.txn t).state≤3) (hdn:(s.txn t).done<4611686018427387904) (hlg:1≤lg:=by first | assumption | omega) :
  Calls Tryz.prog 62 #[.pointer (some ⟨sp,0,none⟩),.int .u64 (t:Int),.int .i64 seq,.string k,.agg #[.int .u8 (g.way:Int),.string g.val]] w λe w'=>e=.returned (errN (s.operate t seq k g).2)∧ShIn w' sp lg bV bT bH (n+2) (s.operate t seq k g).1∧Fr [bT,bH] w w':=by
 obtain ⟨W0,hW0⟩:∃ W0,W0=w.alloc (.cells #[.int .u8 (g.way:Int),.string g.val] 134):=⟨_,rfl⟩
 have hf0:Fr [] w W0:=by rw [hW0];exact (Fr.refl [] w).alloc _
 have hb0:W0.heap[w.heap.size]?=some (.cells #[.int .u8 (g.way:Int),.string g.val] 134):=by rw [hW0];exact heap_alloc_new w _
 have hin0:=h.fr hf0 sE sE sE sE
 have hrf:=jLc sp lg bV bT bH n t seq k g s W0 hin0 ht oE hst
 rw [hW0] at hrf
 have H0:Hid (Fr [] w W0∧W0.heap[w.heap.size]?=some (.cells #[.int .u8 (g.way:Int),.string g.val] 134)∧ShIn W0 sp lg bV bT bH n s):=⟨hf0,hb0,hin0⟩
 have HW:Hid (W0=w.alloc (.cells #[.int .u8 (g.way:Int),.string g.val] 134)):=hW0
 have hsp:=h.lts
 clear h hf0 hb0 hin0 hW0
 go_enter Tryz.func62,Tryz.ntmps62
 go_wp2_with fail
 refine hrf.mono ?_
 clear hrf
 rintro e w1 ⟨rfl,hf1⟩
 rw [← HW.out] at hf1
 have hin1:=H0.out.2.2.fr hf1 sE sE sE sE
 have hb1:=(hf1.block _ (Array.getElem?_eq_some_iff.1 H0.out.2.1).1 sE).trans H0.out.2.1
 have hl1:=(Array.getElem?_eq_some_iff.1 hb1).1
 have HF1:Hid (Fr [] w w1):=H0.out.1.trans hf1
 have c2:=jA0 hin1.blk 2
 have c4:=jA0 hin1.blk 4
 have l1:=hin1.lookT ht
 simp at c2 c4
 have H1:Hid (ShIn w1 sp lg bV bT bH n s∧w1.heap[w.heap.size]?=some (.cells #[.int .u8 (g.way:Int),.string g.val] 134)):=⟨hin1,hb1⟩
 clear hf1 hin1 hb1 H0 HW
 by_cases hr:s.refuse t seq k g.val=0
 ·rw [hr,jAt]
  obtain ⟨_,hks,hvs⟩:=jFr hr
  have g0:=jA0 H1.out.2 0
  have g1:=jA0 H1.out.2 1
  simp at g0 g1
  have hw1:w.heap.size≤w1.heap.size:=HF1.out.size
  have z0:=H1.out.1.lts
  have z1:¬ sp=w1.heap.size:=by omega
  have z2:¬ w.heap.size=w1.heap.size:=by omega
  have z3:¬ w1.heap.size=w.heap.size:=by omega
  have hkm:k.size≤maxLen:=by unfold maxLen;omega
  go_wp2_with fail
  refine (jLi sp lg bV bT bH n t k g s _ (H1.out.1.fr ((Fr.refl [] w1).alloc _) sE sE sE sE) hkm).mono ?_
  rintro e w4 ⟨rfl,hf4⟩
  have hin4:=(H1.out.1.fr ((Fr.refl [] w1).alloc (.cells #[.int .i64 ((s.txn t).state:Int),.int .i64 ((s.txn t).done:Int),.int .u64 (s.ticks:Int)] 199)) sE sE sE sE).fr hf4 sE sE sE sE
  have hg4:w4.heap[w.heap.size]?=some (.cells #[.int .u8 (g.way:Int),.string g.val] 134):=(hf4.block _ (by simp;omega) sE).trans ((Below.heap_alloc _ _ _ hl1).trans H1.out.2)
  have ht4:w4.heap[w1.heap.size]?=some (.cells #[.int .i64 ((s.txn t).state:Int),.int .i64 ((s.txn t).done:Int),.int .u64 (s.ticks:Int)] 199):=(hf4.block _ sE sE).trans (heap_alloc_new w1 _)
  have HF4:Hid (Fr [] w w4):=(HF1.out.alloc _).trans hf4
  have hs4:w1.heap.size<w4.heap.size:=(Array.getElem?_eq_some_iff.1 ht4).1
  have H4:Hid (ShIn w4 sp lg bV bT bH n s∧w4.heap[w.heap.size]?=some (.cells #[.int .u8 (g.way:Int),.string g.val] 134)∧w4.heap[w1.heap.size]?=some (.cells #[.int .i64 ((s.txn t).state:Int),.int .i64 ((s.txn t).done:Int),.int .u64 (s.ticks:Int)] 199)):=⟨hin4,hg4,ht4⟩
  clear hin4 hg4 ht4 hf4 g0 g1 c2 c4 l1 H1 z0 z1 z2 z3
  have PUT:Hid (∀ (a b:Nat) (W:World),Fr [w1.heap.size] w4 W→W.heap[w1.heap.size]?=some (.cells #[.int .i64 (a:Int),.int .i64 (b:Int),.int .u64 (s.ticks:Int)] 199)→∃ w',(Instr.mapUpdate 136 (.map (some bT)) (.int .u64 (t:Int)) (.agg #[.int .i64 (a:Int),.int .i64 (b:Int),.int .u64 (s.ticks:Int)])).run Tryz.prog W.drew=.ok () w'∧ShIn w' sp lg bV bT bH (n+1) { s with txns:=jAb s.txns t ⟨a,b,s.ticks⟩ }∧Fr [bT] W w'∧Fr [bT,bH] w w'∧w'.heap[w.heap.size]?=some (.cells #[.int .u8 (g.way:Int),.string g.val] 134)∧W.cell? ⟨sp,2,none⟩=some (.map (some bT))):=by
   intro a b W hf hb
   have hl:=H4.out.1.lts
   have hl0:=HF1.out.size
   have hw:=hl1
   have hinW:=H4.out.1.fr hf (by simp;omega) (by simp;omega) (by simp;omega) (by simp;omega)
   obtain ⟨w5,hr5,hm5,hg5⟩:=(hinW.txns.fr (Fr.refl [] W).drew sE).putRun Tryz.underlying136 oE (k:=t) ht (v:=(⟨a,b,s.ticks⟩:ATxn)) trivial
   have hf5:Fr [bT] W w5:=((Fr.refl [bT] W).drew).trans (Fr.of_grown1 hg5)
   have cc:=jA0 hinW.blk 2
   simp at cc
   refine ⟨w5,hr5,hinW.setTxns hf5 hm5 oE,hf5,?_,?_,cc⟩
   ·have h1:Fr [bT,bH] w W:=(HF4.out.mono sE).andThen hf (λj hj hlt=>by simp at hj;omega)
    exact h1.trans (hf5.mono (by intro k _ hk;simp at hk ⊢;exact .inl hk))
   ·exact (hf5.block _ (by have:=hf.size;omega) (by simp;omega)).trans ((hf.block _ oE (by simp;omega)).trans H4.out.2.1)
  have t0:=jA0 H4.out.2.2 0
  have t1:=jA0 H4.out.2.2 1
  have t2:=jA0 H4.out.2.2 2
  have f0:=jA2 H4.out.2.2 0
  have f1:=jA2 H4.out.2.2 1
  simp at t0 t1 t2
  cases hc:s.clash t k g.writes with
  | true =>
   have HO:Hid (s.operate t seq k g=({ s with txns:=jAb s.txns t ⟨2,(s.txn t).done,s.ticks⟩ },3)):=by show _=_;unfold AShard.operate;rw [if_pos hr,if_pos hc]
   obtain ⟨W5,hW5⟩:∃ W5,W5=w4.setCell ⟨w1.heap.size,0,none⟩ (.int .i64 2):=⟨_,rfl⟩
   have hf5:Fr [w1.heap.size] w4 W5:=by rw [hW5];exact Fr.set1 sE _ _
   have hb5:W5.heap[w1.heap.size]?=some (.cells #[.int .i64 ((2:Nat):Int),.int .i64 ((s.txn t).done:Int),.int .u64 (s.ticks:Int)] 199):=by rw [hW5];have:=jA5 H4.out.2.2 0 (.int .i64 2);simpa using this
   obtain ⟨w6,hr6,hin6,_,hf6,_,cc⟩:=PUT.out 2 (s.txn t).done W5 hf5 hb5
   have u0:=jA0 hb5 0
   have u1:=jA0 hb5 1
   have u2:=jA0 hb5 2
   simp at u0 u1 u2 hr6
   have H6:Hid (ShIn w6 sp lg bV bT bH (n+1) { s with txns:=jAb s.txns t ⟨2,(s.txn t).done,s.ticks⟩ }∧Fr [bT,bH] w w6):=⟨hin6,hf6⟩
   clear hin6 hf6 hb5 hf5 PUT hr hc
   go_wp2
   rw [← hW5]
   clear hW5 t0 t1 t2 f0 f1
   go_region
   go_wp2
   go_ret
   rw [HO.out]
   exact ⟨by show _=Ending.returned (errN 3);rw [jAc dN];rfl,H6.out.1.mono oE,H6.out.2⟩
  | false =>
   have HO:Hid (s.operate t seq k g=(({ s with txns:=jAb s.txns t ⟨1,(s.txn t).done+1,s.ticks⟩ }:AShard).take t k g,0)):=by show _=_;unfold AShard.operate;rw [if_pos hr,if_neg (by rw [hc];decide)]
   obtain ⟨W5,hW5⟩:∃ W5,W5=(w4.setCell ⟨w1.heap.size,0,none⟩ (.int .i64 1)).setCell ⟨w1.heap.size,1,none⟩ (.int .i64 ((s.txn t).done+1:Int)):=⟨_,rfl⟩
   have hf5:Fr [w1.heap.size] w4 W5:=by rw [hW5];exact (Fr.set1 sE _ _).trans (Fr.set1 sE _ _)
   have hb5:W5.heap[w1.heap.size]?=some (.cells #[.int .i64 ((1:Nat):Int),.int .i64 (((s.txn t).done+1:Nat):Int),.int .u64 (s.ticks:Int)] 199):=by rw [hW5];have:=jA5 (jA5 H4.out.2.2 0 (.int .i64 1)) 1 (.int .i64 ((s.txn t).done+1:Int));simpa using this
   obtain ⟨w6,hr6,hin6,hx6,hf6,hg6,cc⟩:=PUT.out 1 ((s.txn t).done+1) W5 hf5 hb5
   have u0:=jA0 hb5 0
   have u1:=jA0 hb5 1
   have u2:=jA0 hb5 2
   have v0:=jA0 hg6 0
   have v1:=jA0 hg6 1
   have vf:=jA2 hg6 1
   simp at u0 u1 u2 hr6 v0 v1
   have j1:IntKind.i64.wrap (((s.txn t).done:Int)+1)=((s.txn t).done:Int)+1:=by rw [IntKind.wrap_i64];omega
   have hl6:=(Array.getElem?_eq_some_iff.1 hg6).1
   have H6:Hid (ShIn w6 sp lg bV bT bH (n+1) { s with txns:=jAb s.txns t ⟨1,(s.txn t).done+1,s.ticks⟩ }∧Fr [bT,bH] w w6∧w6.heap[w.heap.size]?=some (.cells #[.int .u8 (g.way:Int),.string g.val] 134)):=⟨hin6,hf6,hg6⟩
   clear hin6 hf6 hb5 hf5 PUT hr hc hg6 hx6
   go_wp2
   rw [← hW5]
   clear hW5 t0 t1 t2 f0 f1
   go_region
   clear u0 u1 u2 hr6 cc j1
   go_wp2_with fail
   refine (jN2 g.val w6 oE).mono ?_
   rintro e w7 ⟨rfl,hb7⟩
   have hf7:Fr [] w6 w7:=Fr.of_below hb7 []
   have hg7:=(hf7.block _ hl6 sE).trans H6.out.2.2
   have x0:=jA0 hg7 0
   have x1:=jA0 hg7 1
   have xf:=jA2 hg7 1
   simp at x0 x1
   obtain ⟨W8,hW8⟩:∃ W8,W8=w7.setCell ⟨w.heap.size,1,none⟩ (.string g.val):=⟨_,rfl⟩
   have hf8:Fr [w.heap.size] w7 W8:=by rw [hW8];exact Fr.set1 sE _ _
   have hg8:W8.heap[w.heap.size]?=some (.cells #[.int .u8 (g.way:Int),.string g.val] 134):=by rw [hW8];have:=jA5 hg7 1 (.string g.val);simpa using this
   have hin8:=(H6.out.1.fr hf7 sE sE sE sE).fr hf8 (by simp;omega) (by simp;omega) (by simp;omega) (by simp;omega)
   have hF8:Fr [bT,bH] w W8:=(H6.out.2.1.trans (hf7.mono sE)).andThen hf8 (λj hj hl=>by simp at hj;omega)
   have y0:=jA0 hg8 0
   have y1:=jA0 hg8 1
   simp at y0 y1
   have hs8:=(Array.getElem?_eq_some_iff.1 hg8).1
   have H8:Hid (ShIn W8 sp lg bV bT bH (n+1) { s with txns:=jAb s.txns t ⟨1,(s.txn t).done+1,s.ticks⟩ }∧Fr [bT,bH] w W8):=⟨hin8,hF8⟩
   clear hin8 hF8 hg8 hf8 hg7 hf7 hb7
   go_wp2
   rw [← hW8]
   clear hW8 v0 v1 vf x0 x1 xf
   go_region_held3 (λw'=>w'.cell? ⟨w.heap.size,0,none⟩=some (.int .u8 (g.way:Int))∧w'.cell? ⟨w.heap.size,1,none⟩=some (.string g.val))
    (simp [*])
    (first
     | (go_at_call 109;refine (jN2 k W8.drew (by omega)).mono ?_;rintro e w9 ⟨rfl,hb9⟩;have hb9':Below W8.heap.size W8 w9:=⟨hb9.os,hb9.tape,hb9.output,hb9.size,hb9.block⟩;have p0:=(hb9'.cell (p:=⟨w.heap.size,0,none⟩) hs8).trans y0;have p1:=(hb9'.cell (p:=⟨w.heap.size,1,none⟩) hs8).trans y1;have H9:Hid (Fr [] W8 w9):=Fr.of_below hb9' [];clear hb9 hb9')
     | (go_at_call 110;refine (jN5 sp lg bV bT bH (n+1) t k g _ w9 (H8.out.1.fr H9.out (by simp) (by simp) (by simp) (by simp)) ht hkm (by omega)).mono ?_;rintro e w10 ⟨rfl,hin10,hf10⟩;have H10:Hid (ShIn w10 sp lg bV bT bH (n+1+1) (({ s with txns:=jAb s.txns t ⟨1,(s.txn t).done+1,s.ticks⟩ }:AShard).take t k g)∧Fr [bT,bH] w w10):=⟨hin10,(H8.out.2.trans (H9.out.mono (by simp))).trans (hf10.mono (by intro j _ hj;simp at hj ⊢;exact .inr hj))⟩;have q0:w10.cell? ⟨w.heap.size,0,none⟩=some (.int .u8 (g.way:Int)):=(World.cell?_of_block (a:=⟨w.heap.size,0,none⟩) (hf10.block w.heap.size (Nat.lt_of_lt_of_le hs8 H9.out.size) (by simp;omega))).trans p0;have q1:w10.cell? ⟨w.heap.size,1,none⟩=some (.string g.val):=(World.cell?_of_block (a:=⟨w.heap.size,1,none⟩) (hf10.block w.heap.size (Nat.lt_of_lt_of_le hs8 H9.out.size) (by simp;omega))).trans p1;clear hin10 hf10))
   all_goals go_wp2
   all_goals go_ret
   all_goals rw [HO.out]
   all_goals exact ⟨rfl,H10.out⟩
 ·have HO:Hid (s.operate t seq k g=(s,s.refuse t seq k g.val)):=by show _=_;unfold AShard.operate;rw [if_neg hr]
  rw [jAc hr]
  go_wp2
  go_ret
  rw [HO.out]
  exact ⟨by rw [jAc hr];rfl,H1.out.1.mono oE,HF1.out.mono sE⟩
end Go.Proofs.YtcalalndmcemiaaGreatDoor
