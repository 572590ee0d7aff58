import Derived.Test.YtcalalndmcemiaaGreatDoorC11
set_option maxRecDepth 100000
set_option maxHeartbeats 16000000
namespace Go.Proofs.YtcalalndmcemiaaGreatDoor
open Go.RowKit Go.Maps
open Sc
theorem jLs (B p bD bN n nD:Nat) (pv:Value) (d:ADisk) (w:World) (h:DiskIn w B p bD bN pv d n nD 0) (hdn:d.down=false) :
  Calls Tryz.prog 381 #[.pointer (some ⟨p,0,none⟩)] w λe w'=>e=.returned (.tuple #[.slice none 0 0,.nilIface])∧Below w.heap.size w w':=by
 have c1:=jA0 h.blk 1
 have c5:=jA0 h.blk 5
 simp at c1 c5
 rw [hdn] at c5
 obtain ⟨D,hown,_⟩:=h.now
 have hsz:=hown.size_le
 have hso:=Tryz.sort_Strings_none
 clear h
 go_enter Tryz.func381,Tryz.ntmps381
 go_wp2_with (first
  | (at_range;refine wpList_range_own _ rfl _ 93 rfl 9 165 Tryz.lawS Tryz.underlying93 jAy bN 0 D rfl hown ?_;intro w0 hrg0 hg0 hs0)
  | go_in)
 go_frame
 have hbl:Below w.heap.size w w0:=⟨hg0.os,hg0.tape,hg0.output,hg0.size,λk hk=>hg0.block k hk sE⟩
 refine wp_loop_rounds 1 ?_
 rw [rounds_succ]
 go_wp2_with (first
  | (at_next;refine wpList_next_ranges _ rfl _ rfl 9 Tryz.lawS jAy encStr Value.pointer (λkey kl hk=>by obtain ⟨x,hx,_⟩:=Maps.keyOf_str Tryz.underlying9 hk;exact ⟨x,hx⟩) (λv y hv=>jEu hv) bN w.heap.size 0 _ _ _ rfl hrg0 ?_ ?_)
  | go_in)
 ·intro _ _
  go_wp2_with fail
  refine (hso none 0 w0).mono ?_
  rintro e w1 ⟨rfl,rfl⟩
  go_wp2
  go_ret2
  exact ⟨rfl,hbl⟩
 ·intro x c kl yd yp w2 cnt2 _ _ _ _ _ hlt
  omega
theorem jPc (w:World):Calls Tryz.prog 294 #[.slice none 0 0,.int .i64 0,.int .i64 0] w λe w'=>e=.returned (.tuple #[])∧w'=w:=by
 go_enter Tryz.func294,Tryz.ntmps294
 go_wp2
 refine wp_loop_rounds 1 ?_
 rw [rounds_succ]
 go_wp2
 go_end0
 exact ⟨rfl,rfl⟩
theorem jV2 (k:Int) (w:World):Calls Tryz.prog 261 #[.slice none 0 0,.int .i64 0,.int .i64 0,.int .i64 k] w λe w'=>e=.returned (.tuple #[])∧w'=w:=by
 go_enter Tryz.func261,Tryz.ntmps261
 go_wp2
 refine wp_loop_rounds 1 ?_
 rw [rounds_succ]
 go_wp2_with fail
 refine (jPc w).mono ?_
 rintro e w1 ⟨rfl,rfl⟩
 go_wp2
 refine bodyPost_ret (results_none rfl _ _ _) rfl ?_
 exact ⟨rfl,rfl⟩
theorem jRo (w:World):Calls Tryz.prog 213 #[.slice none 0 0] w λe w'=>e=.returned (.tuple #[])∧w'=w:=by
 go_enter Tryz.func213,Tryz.ntmps213
 go_wp2_with fail
 refine (Tryz.bits_Len 0 w oE oE).mono ?_
 rintro e w1 ⟨rfl,rfl⟩
 go_wp2_with fail
 refine (jV2 _ w1).mono ?_
 rintro e w1 ⟨rfl,rfl⟩
 go_wp2
 go_end0
 exact ⟨rfl,rfl⟩
theorem jRn (w:World):Calls Tryz.prog 162 #[.slice none 0 0] w λe w'=>e=.returned (.slice none 0 0)∧w'=w:=by
 go_enter Tryz.func162,Tryz.ntmps162
 go_wp2
 refine wp_loop_rounds 1 ?_
 rw [rounds_succ]
 go_wp2_with fail
 refine (jRo w).mono ?_
 rintro e w1 ⟨rfl,rfl⟩
 go_wp2
 go_ret
 exact ⟨rfl,rfl⟩
theorem jNp (x:Int) (w:World):Calls Tryz.prog 163 #[.slice none 0 0,.int .u64 x] w λe w'=>e=.returned (.tuple #[.int .i64 0,.bool false])∧w'=w:=by
 go_enter Tryz.func163,Tryz.ntmps163
 go_wp2
 refine wp_loop_rounds 1 ?_
 rw [rounds_succ]
 go_wp2
 go_ret2
 exact ⟨rfl,rfl⟩
theorem jIy (B p bD bN n nD nN:Nat) (pv:Value) (d:ADisk) (w:World) (h:DiskIn w B p bD bN pv d n nD nN) (hdn:d.down=false) (hno:d.now jKa=none) :
  Calls Tryz.prog 161 #[dskV p] w λe w'=>e=.returned (.tuple #[.int .u64 1,.nilIface])∧Below w.heap.size w w':=by
 have hm:=Tryz.mRead
 have hr:=jTz B p bD bN n nD nN pv d jKa w h dN
 have e:d.read jKa=(none,8):=by unfold ADisk.read;rw [if_neg (by rw [hdn];decide),hno]
 clear h
 go_enter Tryz.func161,Tryz.ntmps161
 go_wp2_with fail
 refine hr.mono ?_
 clear hr
 rintro e1 w1 ⟨v,rfl,hgot,hb⟩
 rw [e] at hgot ⊢
 obtain rfl:v=.slice none 0 0:=hgot
 rw [jAc dN]
 go_wp2_with fail
 refine (jQy 8 w1).mono ?_
 rintro e2 w2 ⟨rfl,rfl⟩
 go_wp2
 go_ret2
 exact ⟨rfl,hb⟩
end Go.Proofs.YtcalalndmcemiaaGreatDoor
set_option maxRecDepth 100000
set_option maxHeartbeats 16000000
namespace Go.Proofs.YtcalalndmcemiaaGreatDoor
open Go.RowKit
open Sc
def ALog.wr (l:ALog) (d:ADisk) (r:ALog × ADisk × Nat):ALog × ADisk × Nat :=
 if l.failed=0 then ({ r.1 with failed:=r.2.2 },r.2.1,r.2.2) else (l,d,l.failed)
theorem Tryz.eqNil (p:Nat) (w:World):(binOp .eql 167 (dskV p) .nilIface).run Tryz.prog w=.ok (.bool false) w:=by kernel_rfl
theorem LogIn.fail {w w':World} {B lp p bD bN n nD nN c:Nat} {pv sv rv:Value} {l:ALog} {d:ADisk} (h:LogIn w B lp p bD bN pv sv rv l d n nD nN) (hw:w'=w.setCell ⟨lp,6,none⟩ (errN c)):LogIn w' B lp p bD bN pv sv rv { l with failed:=c } d n nD nN∧Fr [lp] w w':=by
 subst hw
 have hf:Fr [lp] w (w.setCell ⟨lp,6,none⟩ (errN c)):=Fr.set1 sE _ _
 refine ⟨h.own1 hf ?_ h.segsN h.recsN h.fillN h.nextN h.durN rfl rfl,hf⟩
 have:=jA5 h.blk 6 (errN c);simpa using this
theorem jY1 (B lp p bD bN n nD nN bl bb g cap base gst:Nat) (pv sv rv:Value) (l:ALog) (d:ADisk) (by_:List Nat) (w:World) (h:LogIn w B lp p bD bN pv sv rv l d n nD nN) (hn:n+1<67108864) (hB:2≤B) (hsg:l.filled<600→l.segs≠[])
  (hst:w.heap[gst]?=some (.cells #[.func (.func 130) #[.pointer (some ⟨lp,0,none⟩)] #[],.func (.func 131) #[] #[.pointer (some ⟨bl,0,none⟩),.pointer (some ⟨bb,0,none⟩)]] 123))
  (hbl:w.heap[bl]?=some (.cells #[.pointer (some ⟨lp,0,none⟩)] 74)) (hbb:w.heap[bb]?=some (.cells #[.slice (some ⟨g,0,none⟩) by_.length cap] 88))
  (hr:w.ownsRow base 5 1 (.slice (some ⟨g,0,none⟩) by_.length cap) by_.length (bs by_)) (hm2:by_.length≤4096) (hpow:Pows w) :
  Calls Tryz.prog 129 #[.pointer (some ⟨lp,0,none⟩),.slice (some ⟨gst,0,none⟩) 2 2] w (PutL B lp p bD bN (n+2) [g] (l.wr d (l.put d by_)) w):=by
 have c0:=jA0 h.blk 0
 have c6:=jA0 h.blk 6
 simp at c0 c6
 have HI:Hid (LogIn w B lp p bD bN pv sv rv l d n nD nN):=h
 have hnil:=Tryz.eqNil p
 by_cases hf:l.failed=0
 ·rw [hf,jAt] at c6
  have e:l.wr d (l.put d by_)=({ (l.put d by_).1 with failed:=(l.put d by_).2.2 },(l.put d by_).2.1,(l.put d by_).2.2):=by unfold ALog.wr;rw [if_pos hf]
  rw [e]
  clear e
  go_enter Tryz.func129,Tryz.ntmps129
  go_wp2_with fail
  refine (jV6 B lp p bD bN n nD nN bl bb g cap base gst pv sv rv l d by_ w HI.out hn hB hsg hst hbl hbb hr hm2 hpow).mono ?_
  rintro e w1 ⟨rfl,⟨pv1,sv1,rv1,nD1,nN1,hl1⟩,ho1⟩
  have H1:Hid (LogIn w1 B lp p bD bN pv1 sv1 rv1 (l.put d by_).1 (l.put d by_).2.1 (n+2) nD1 nN1):=hl1
  have HO:Hid (OFx [g] lp p w w1):=ho1
  have k6:=jA0 hl1.blk 6
  have f6:=jA2 hl1.blk 6
  simp at k6
  clear hl1 ho1 hst hbl hbb hr h
  by_cases hc:(l.put d by_).2.2=0
  ·rw [hc,jAt]
   go_wp2
   go_ret
   obtain ⟨hl2,hf2⟩:=H1.out.fail (c:=0) rfl
   unfold PutL
   simp only
   rw [hc]
   exact ⟨rfl,⟨pv1,sv1,rv1,nD1,nN1,hl2⟩,HO.out.trans (H1.out.ofx hl2 hf2 (by intro k hk _;simp at hk;simp [hk]) (Near.refl _ _) (Near.refl _ _) (Near.refl _ _))⟩
  ·have he:=jAc hc
   obtain ⟨hl2,hf2⟩:=H1.out.fail (c:=(l.put d by_).2.2) rfl
   rw [he] at hl2 hf2 ⊢
   have H2:Hid (LogIn (w1.setCell ⟨lp,6,none⟩ (.iface 44 (.int .i64 ((l.put d by_).2.2:Int)))) B lp p bD bN pv1 sv1 rv1 { (l.put d by_).1 with failed:=(l.put d by_).2.2 } (l.put d by_).2.1 (n+2) nD1 nN1):=hl2
   clear hl2
   go_wp2
   go_ret
   exact ⟨by simp only;rw [he];rfl,⟨pv1,sv1,rv1,nD1,nN1,H2.out⟩,HO.out.trans (H1.out.ofx H2.out hf2 (by intro k hk _;simp at hk;simp [hk]) (Near.refl _ _) (Near.refl _ _) (Near.refl _ _))⟩
 ·rw [jAc hf] at c6
  have e:l.wr d (l.put d by_)=(l,d,l.failed):=by unfold ALog.wr;rw [if_neg hf]
  rw [e]
  go_enter Tryz.func129,Tryz.ntmps129
  go_wp2
  go_ret
  exact ⟨by simp only;rw [jAc hf];rfl,⟨pv,sv,rv,nD,nN,(HI.out.more oE).more oE⟩,(OFr.refl _ _ _).x⟩
theorem jP7 (l:List UInt8) (a:ByteArray):(l.foldl (λr n=>r.push n) a).data.toList=a.data.toList++l:=by
 induction l generalizing a with
 | nil=>simp
 | cons x l ih=>rw [List.foldl_cons,ih];simp [ByteArray.push]
theorem jCw (s:ByteArray):str (jA6 s)=s:=by
 have h:str (jA6 s)=s.data.toList.foldl (λr n=>r.push n) ByteArray.empty:=by
  unfold str jA6
  rw [List.map_map,List.foldl_map]
  congr 1
  funext r n
  simp
 have h2:=jP7 s.data.toList ByteArray.empty
 rw [← h] at h2
 have h3:(str (jA6 s)).data=s.data:=by
  apply Array.toList_inj.1
  rw [h2];simp
 cases hs:str (jA6 s)
 cases s
 rw [hs] at h3
 simp at h3
 rw [h3]
def ALog.append (l:ALog) (d:ADisk) (kind:Nat) (s:ByteArray):ALog × ADisk × Nat × Nat :=
 if 255<s.size then (l,d,0,1)
 else if (l.wr d (l.put d (jAq l.next kind (jA6 s)))).2.2=0 then
  ({ (l.wr d (l.put d (jAq l.next kind (jA6 s)))).1 with filled:=(l.wr d (l.put d (jAq l.next kind (jA6 s)))).1.filled+(15+s.size),recs:=(l.wr d (l.put d (jAq l.next kind (jA6 s)))).1.recs++[⟨(l.wr d (l.put d (jAq l.next kind (jA6 s)))).1.next,kind,jA6 s⟩],next:=(l.wr d (l.put d (jAq l.next kind (jA6 s)))).1.next+1 },
   (l.wr d (l.put d (jAq l.next kind (jA6 s)))).2.1,(l.wr d (l.put d (jAq l.next kind (jA6 s)))).1.next,0)
 else ((l.wr d (l.put d (jAq l.next kind (jA6 s)))).1,(l.wr d (l.put d (jAq l.next kind (jA6 s)))).2.1,0,(l.wr d (l.put d (jAq l.next kind (jA6 s)))).2.2)
theorem jNy {l:ALog} {d:ADisk} {by_:List Nat} (h:(l.put d by_).2.2=0):(l.put d by_).1.filled<600:=by
 unfold ALog.put at *
 by_cases hr:(l.room d).2.2=0
 ·rw [if_pos hr]
  show (l.room d).1.filled<600
  unfold ALog.room at *
  by_cases hf:l.filled<600
  ·rw [if_pos hf];exact hf
  ·rw [if_neg hf] at hr ⊢
   by_cases hs:(l.sync d).2.2=0
   ·rw [if_pos hs];show 0<600;omega
   ·rw [if_neg hs] at hr;exact absurd hr hs
 ·rw [if_neg hr] at h;exact absurd h hr
theorem jPr {l:ALog} {d:ADisk} {by_:List Nat} (h:(l.wr d (l.put d by_)).2.2=0):(l.wr d (l.put d by_)).1.filled<600:=by
 unfold ALog.wr at *
 by_cases hf:l.failed=0
 ·rw [if_pos hf] at h ⊢;exact jNy h
 ·rw [if_neg hf] at h;exact absurd h hf
def jI6 (B lp p bD bN n:Nat) (r:ALog × ADisk × Nat × Nat) (w:World) (e:Ending) (w':World):Prop :=
 e=.returned (.tuple #[.int .u64 (r.2.2.1:Int),errN r.2.2.2])∧(∃ pv sv rv nD nN,LogIn w' B lp p bD bN pv sv rv r.1 r.2.1 n nD nN)∧OFr lp p w w'
theorem LogIn.new {w w':World} {B lp p bD bN n nD nN:Nat} {pv sv rv:Value} {l:ALog} {d:ADisk} (h:LogIn w B lp p bD bN pv sv rv l d n nD nN) (hf:Fr [] w w'):LogIn w' B lp p bD bN pv sv rv l d n nD nN :=
 h.turned (h.disk.new hf) hf sE (Nat.le_refl _)
theorem LogIn.newO {w w':World} {B lp p bD bN n nD nN:Nat} {pv sv rv:Value} {l:ALog} {d:ADisk} (h:LogIn w B lp p bD bN pv sv rv l d n nD nN) (hf:Fr [] w w'):OFr lp p w w' :=
 h.ofr (h.new hf) hf sE (.inl rfl) (Near.refl _ _) (Near.refl _ _) (Near.refl _ _)
theorem jO5 (B lp p bD bN n nD nN kind:Nat) (pv sv rv:Value) (l:ALog) (d:ADisk) (s:ByteArray) (w:World) (h:LogIn w B lp p bD bN pv sv rv l d n nD nN) (hs:255<s.size) (hn:n+1<67108864) :
  Calls Tryz.prog 88 #[.pointer (some ⟨lp,0,none⟩),.int .u8 (kind:Int),.string s] w (jI6 B lp p bD bN (n+2) (l.append d kind s) w):=by
 have e:l.append d kind s=(l,d,0,1):=by unfold ALog.append;rw [if_pos hs]
 rw [e]
 have hlp:=(Array.getElem?_eq_some_iff.1 h.blk).1
 have c4:=jA0 h.blk 4
 simp at c4
 have c4':∀ ob,(w.alloc ob).cell? ⟨lp,4,none⟩=some (.int .u64 (l.next:Int)):=λob=>(World.cell?_of_block (a:=⟨lp,4,none⟩) (Below.heap_alloc w ob lp hlp)).trans c4
 have HI:Hid (LogIn w B lp p bD bN pv sv rv l d n nD nN):=h
 clear h e
 go_enter Tryz.func88,Tryz.ntmps88
 go_wp2_with fail
 refine (jP6 (l.next:Int) (kind:Int) s _ hs).mono ?_
 rintro e w1 ⟨rfl,hb1⟩
 have hf1:Fr [] w w1:=((Fr.refl [] w).alloc _).trans (Fr.of_below hb1 [])
 clear hb1
 go_wp2
 go_ret2
 have hf2:Fr [] w (w1.alloc (.cells #[.slice none 0 0] 88)):=hf1.alloc _
 exact ⟨rfl,⟨pv,sv,rv,nD,nN,((HI.out.new hf2).more oE).more oE⟩,HI.out.newO hf2⟩
theorem jVt (B lp p bD bN n nD nN gst:Nat) (pv sv rv:Value) (l:ALog) (d:ADisk) (w:World) (h:LogIn w B lp p bD bN pv sv rv l d n nD nN) (hn:n≤67108864)
  (hst:w.heap[gst]?=some (.cells #[.func (.func 121) #[.pointer (some ⟨lp,0,none⟩)] #[]] 123)) :
  Calls Tryz.prog 120 #[.slice (some ⟨gst,0,none⟩) 1 1] w (PutL B lp p bD bN n [] (l.sync d) w):=by
 have z0:=jA0 hst 0
 simp at z0
 have HI:Hid (LogIn w B lp p bD bN pv sv rv l d n nD nN):=h
 clear h
 go_enter Tryz.func120,Tryz.ntmps120
 go_wp2
 refine wp_loop_rounds 2 ?_
 rw [rounds_succ]
 go_wp2_with fail
 refine (jGl B lp p bD bN n nD nN pv sv rv l d w HI.out hn).mono ?_
 rintro e w1 ⟨rfl,hl1,ho1⟩
 have H1:Hid (PutL B lp p bD bN n [] (l.sync d) w (.returned (errN (l.sync d).2.2)) w1):=⟨rfl,hl1,ho1.x⟩
 clear hl1 ho1
 by_cases hc:(l.sync d).2.2=0
 ·rw [hc,jAt] at H1 ⊢
  go_wp2
  rw [rounds_succ]
  go_wp2
  go_ret
  exact H1.out
 ·rw [jAc hc] at H1 ⊢
  go_wp2
  go_ret
  exact H1.out
theorem jXn (B lp p bD bN n nD nN gst:Nat) (pv sv rv:Value) (l:ALog) (d:ADisk) (w:World) (h:LogIn w B lp p bD bN pv sv rv l d n nD nN) (hn:n≤67108864)
  (hst:w.heap[gst]?=some (.cells #[.func (.func 121) #[.pointer (some ⟨lp,0,none⟩)] #[]] 123)) :
  Calls Tryz.prog 129 #[.pointer (some ⟨lp,0,none⟩),.slice (some ⟨gst,0,none⟩) 1 1] w (PutL B lp p bD bN n [] (l.wr d (l.sync d)) w):=by
 have c0:=jA0 h.blk 0
 have c6:=jA0 h.blk 6
 simp at c0 c6
 have HI:Hid (LogIn w B lp p bD bN pv sv rv l d n nD nN):=h
 have hnil:=Tryz.eqNil p
 by_cases hf:l.failed=0
 ·rw [hf,jAt] at c6
  have e:l.wr d (l.sync d)=({ (l.sync d).1 with failed:=(l.sync d).2.2 },(l.sync d).2.1,(l.sync d).2.2):=by unfold ALog.wr;rw [if_pos hf]
  rw [e]
  clear e
  go_enter Tryz.func129,Tryz.ntmps129
  go_wp2_with fail
  refine (jVt B lp p bD bN n nD nN gst pv sv rv l d w HI.out hn hst).mono ?_
  rintro e w1 ⟨rfl,⟨pv1,sv1,rv1,nD1,nN1,hl1⟩,ho1⟩
  have H1:Hid (LogIn w1 B lp p bD bN pv1 sv1 rv1 (l.sync d).1 (l.sync d).2.1 n nD1 nN1):=hl1
  have HO:Hid (OFx [] lp p w w1):=ho1
  have k6:=jA0 hl1.blk 6
  have f6:=jA2 hl1.blk 6
  simp at k6
  clear hl1 ho1 hst h
  by_cases hc:(l.sync d).2.2=0
  ·rw [hc,jAt]
   go_wp2
   go_ret
   obtain ⟨hl2,hf2⟩:=H1.out.fail (c:=0) rfl
   unfold PutL
   simp only
   rw [hc]
   exact ⟨rfl,⟨pv1,sv1,rv1,nD1,nN1,hl2⟩,HO.out.trans (H1.out.ofx hl2 hf2 (by intro k hk _;simp at hk;simp [hk]) (Near.refl _ _) (Near.refl _ _) (Near.refl _ _))⟩
  ·have he:=jAc hc
   obtain ⟨hl2,hf2⟩:=H1.out.fail (c:=(l.sync d).2.2) rfl
   rw [he] at hl2 hf2 ⊢
   have H2:Hid (LogIn (w1.setCell ⟨lp,6,none⟩ (.iface 44 (.int .i64 ((l.sync d).2.2:Int)))) B lp p bD bN pv1 sv1 rv1 { (l.sync d).1 with failed:=(l.sync d).2.2 } (l.sync d).2.1 n nD1 nN1):=hl2
   clear hl2
   go_wp2
   go_ret
   exact ⟨by simp only;rw [he];rfl,⟨pv1,sv1,rv1,nD1,nN1,H2.out⟩,HO.out.trans (H1.out.ofx H2.out hf2 (by intro k hk _;simp at hk;simp [hk]) (Near.refl _ _) (Near.refl _ _) (Near.refl _ _))⟩
 ·rw [jAc hf] at c6
  have e:l.wr d (l.sync d)=(l,d,l.failed):=by unfold ALog.wr;rw [if_neg hf]
  rw [e]
  go_enter Tryz.func129,Tryz.ntmps129
  go_wp2
  go_ret
  exact ⟨by simp only;rw [jAc hf];rfl,⟨pv,sv,rv,nD,nN,HI.out⟩,(OFr.refl _ _ _).x⟩
theorem OFx.ofr {lp p:Nat} {w w':World} (h:OFx [] lp p w w'):OFr lp p w w':=⟨h.os,h.tape,h.output,h.size,λk hk hn=>h.block k hk hn sE,h.stay⟩
def ALog.force (l:ALog) (d:ADisk):ALog × ADisk × Nat:=if l.durable=l.next then (l,d,0) else l.wr d (l.sync d)
def jGi (B lp p bD bN n:Nat) (r:ALog × ADisk × Nat) (w:World) (e:Ending) (w':World):Prop :=
 e=.returned (errN r.2.2)∧(∃ pv sv rv nD nN,LogIn w' B lp p bD bN pv sv rv r.1 r.2.1 n nD nN)∧OFr lp p w w'
theorem jQj (B lp p bD bN n nD nN:Nat) (pv sv rv:Value) (l:ALog) (d:ADisk) (w:World) (h:LogIn w B lp p bD bN pv sv rv l d n nD nN) (hn:n≤67108864) :
  Calls Tryz.prog 89 #[.pointer (some ⟨lp,0,none⟩)] w (jGi B lp p bD bN n (l.force d) w):=by
 have c4:=jA0 h.blk 4
 have c5:=jA0 h.blk 5
 simp at c4 c5
 have HI:Hid (LogIn w B lp p bD bN pv sv rv l d n nD nN):=h
 clear h
 by_cases hq:l.durable=l.next
 ·have e:l.force d=(l,d,0):=by unfold ALog.force;rw [if_pos hq]
  rw [e]
  rw [hq] at c5
  go_enter Tryz.func89,Tryz.ntmps89
  go_wp2
  go_region
  go_wp2
  go_ret
  have hf:Fr [] w w.drew:=(Fr.refl [] w).drew
  exact ⟨rfl,⟨pv,sv,rv,nD,nN,HI.out.new hf⟩,HI.out.newO hf⟩
 ·have e:l.force d=l.wr d (l.sync d):=by unfold ALog.force;rw [if_neg hq]
  rw [e]
  have i1:¬ (l.durable:Int)=(l.next:Int):=by omega
  have i2:((l.durable:Int) == (l.next:Int))=false:=by simpa using i1
  go_enter Tryz.func89,Tryz.ntmps89
  go_wp2
  go_region
  go_wp2_with fail
  have hf:Fr [] w (w.drew.alloc (.cells #[.func (.func 121) #[.pointer (some ⟨lp,0,none⟩)] #[]] 123)):=(Fr.refl [] w).drew.alloc _
  refine (jXn B lp p bD bN n nD nN _ pv sv rv l d _ (HI.out.new hf) hn (heap_alloc_new w.drew _)).mono ?_
  rintro e w1 ⟨rfl,hl1,ho1⟩
  have H1:Hid (jGi B lp p bD bN n (l.wr d (l.sync d)) w (.returned (errN (l.wr d (l.sync d)).2.2)) w1):=⟨rfl,hl1,(HI.out.newO hf).trans ho1.ofr⟩
  clear hl1 ho1
  go_wp2
  go_ret
  exact H1.out
def log0 (nx:Nat):ALog:=⟨[],600,[],nx,0,0⟩
theorem jOa (B lp p bD bN n nD:Nat) (pv:Value) (d:ADisk) (w:World) (h:LogIn w B lp p bD bN pv (.slice none 0 0) (.slice none 0 0) (log0 0) d n nD 0) (hdn:d.down=false) (hno:d.now jKa=none) :
  Calls Tryz.prog 119 #[.pointer (some ⟨lp,0,none⟩)] w λe w'=>e=.returned (.tuple #[.slice none 0 0,.nilIface])∧LogIn w' B lp p bD bN pv (.slice none 0 0) (.slice none 0 0) (log0 1) d n nD 0∧OFr lp p w w':=by
 have c0:=jA0 h.blk 0
 simp at c0
 have HI:Hid (LogIn w B lp p bD bN pv (.slice none 0 0) (.slice none 0 0) (log0 0) d n nD 0):=h
 clear h
 have hm:=Tryz.mNames
 go_enter Tryz.func119,Tryz.ntmps119
 go_wp2_with fail
 refine (jLs B p bD bN n nD pv d w HI.out.disk hdn).mono ?_
 rintro e w1 ⟨rfl,hb1⟩
 have hf1:Fr [] w w1:=Fr.of_below hb1 _
 have hl1:=HI.out.new hf1
 have ho1:=HI.out.newO hf1
 have k0:=jA0 hl1.blk 0
 simp at k0
 have H1:Hid (LogIn w1 B lp p bD bN pv (.slice none 0 0) (.slice none 0 0) (log0 0) d n nD 0∧OFr lp p w w1):=⟨hl1,ho1⟩
 clear hl1 ho1 hf1 hb1 c0
 go_wp2_with fail
 refine (jIy B p bD bN n nD 0 pv d w1 H1.out.1.disk hdn hno).mono ?_
 rintro e w2 ⟨rfl,hb2⟩
 have hf2:Fr [] w1 w2:=Fr.of_below hb2 _
 have hl2:=H1.out.1.new hf2
 have ho2:=H1.out.2.trans (H1.out.1.newO hf2)
 have m4:=jA0 hl2.blk 4
 have f4:=jA2 hl2.blk 4
 simp at m4
 have H2:Hid (LogIn w2 B lp p bD bN pv (.slice none 0 0) (.slice none 0 0) (log0 0) d n nD 0∧OFr lp p w w2):=⟨hl2,ho2⟩
 clear hl2 ho2 hf2 hb2 k0
 obtain ⟨W,hW⟩:∃ W,W=w2.setCell ⟨lp,4,none⟩ (.int .u64 1):=⟨_,rfl⟩
 have hf3:Fr [lp] w2 W:=by rw [hW];exact Fr.set1 sE _ _
 have hb3:W.heap[lp]?=some (logO p (.slice none 0 0) (.slice none 0 0) (log0 1)):=by rw [hW];have:=jA5 H2.out.1.blk 4 (.int .u64 1);simp [log0] at this ⊢;exact this
 have hn:=H2.out.1.disk.hn
 have hl3:LogIn W B lp p bD bN pv (.slice none 0 0) (.slice none 0 0) (log0 1) d n nD 0:=H2.out.1.own1 hf3 hb3 H2.out.1.segsN H2.out.1.recsN H2.out.1.fillN (by show 1≤n+1;omega) H2.out.1.durN rfl rfl
 have ho3:OFr lp p w W:=H2.out.2.trans (H2.out.1.ofr hl3 hf3 (λk hk _=>by simp at hk;simp [hk]) (.inl rfl) (Near.refl _ _) (Near.refl _ _) (Near.refl _ _))
 have m4':=jA0 hl3.blk 4
 simp [log0] at m4'
 have H3:Hid (LogIn W B lp p bD bN pv (.slice none 0 0) (.slice none 0 0) (log0 1) d n nD 0∧OFr lp p w W):=⟨hl3,ho3⟩
 clear hl3 ho3 hf3 hb3
 subst hW
 go_wp2_with fail
 refine (jRn _).mono ?_
 rintro e w4 ⟨rfl,rfl⟩
 go_wp2_with fail
 refine (jNp 1 _).mono ?_
 rintro e w4 ⟨rfl,rfl⟩
 go_wp2_with fail
 refine (jM4 _).mono ?_
 rintro e w4 ⟨rfl,rfl⟩
 go_wp2
 refine wp_loop_rounds 1 ?_
 rw [rounds_succ]
 go_wp2
 go_ret2
 exact ⟨rfl,H3.out.1,H3.out.2⟩
theorem LogIn.dturned {w w':World} {B lp p bD bN n nD nN nD' nN':Nat} {pv sv rv pv':Value} {l:ALog} {d d':ADisk} (h:LogIn w B lp p bD bN pv sv rv l d n nD nN) (hd:DiskIn w' B p bD bN pv' d' n nD' nN') (hf:DFr p w w'):LogIn w' B lp p bD bN pv' sv rv l d' n nD' nN'∧OFr lp p w w':=by
 have hlp:=(Array.getElem?_eq_some_iff.1 h.blk).1
 have hne:∀ k,k<w.heap.size→(k=lp∨sv.ownBlock=some k∨rv.ownBlock=some k)→¬ OwnD p w k:=λk _ hk ho=>by
  have:=h.sep k ((h.disk.ownD k).1 ho)
  rcases hk with e | e | e
  ·exact this.1 e
  ·exact this.2.1 e
  ·exact this.2.2 e
 have hblk:w'.heap[lp]?=some (logO p sv rv l):=(hf.block lp hlp (hne lp hlp (.inl rfl))).trans h.blk
 have hrow:∀ (e:TypeId) (k m:Nat) (v:Value) (xs:List Value),(∀ g,v.ownBlock=some g→g=lp∨sv.ownBlock=some g∨rv.ownBlock=some g)→w.ownsRow B e k v m xs→w'.ownsRow B e k v m xs:=λe k m v xs hv hr=>by
  refine ⟨hr.1,?_⟩
  rcases hr.2 with h1 | ⟨g,cap,cur,rfl,h2,h3,h4⟩
  ·exact .inl h1
  ·exact .inr ⟨g,cap,cur,rfl,h2,(hf.block g (Array.getElem?_eq_some_iff.1 h3).1 (hne g (Array.getElem?_eq_some_iff.1 h3).1 (hv g rfl))).trans h3,h4⟩
 have hl:LogIn w' B lp p bD bN pv' sv rv l d' n nD' nN':={ disk:=hd,blk:=hblk,base:=h.base,segs:=hrow _ _ _ _ _ (λg hg=>.inr (.inl hg)) h.segs,recs:=hrow _ _ _ _ _ (λg hg=>.inr (.inr hg)) h.recs,segsN:=h.segsN,recsN:=h.recsN,fillN:=h.fillN,nextN:=h.nextN,durN:=h.durN }
 refine ⟨hl,hf.os,hf.tape,hf.output,hf.size,λk hk hn=>hf.block k hk (λho=>hn ?_),λk hk ho=>?_⟩
 ·rw [h.own]
  have:=(h.disk.ownD k).1 ho
  simp at this
  rcases this with e | e | e | e <;> simp [e]
 ·rw [h.own]
  rcases (hl.own k).1 ho with e | e | e | e | e | e | e
  ·exact .inl e
  ·exact .inr (.inl e)
  ·exact .inr (.inr (.inl e))
  ·exact .inr (.inr (.inr (.inl e)))
  ·have:=(h.disk.ownD k).1 (hf.stay k hk ((hd.ownD k).2 (by simp [e])))
   simp at this
   rcases this with e | e | e | e <;> simp [e]
  ·exact .inr (.inr (.inr (.inr (.inr (.inl e)))))
  ·exact .inr (.inr (.inr (.inr (.inr (.inr e)))))
theorem jQ3 (B lp p bD bN n nD nN bd bu:Nat) (pv sv rv:Value) (l:ALog) (d:ADisk) (w:World) (h:LogIn w B lp p bD bN pv sv rv l d n nD nN) (hd:w.heap[bd]?=some (.cells #[dskV p] 167)) (hu:w.heap[bu]?=some (.cells #[.slice none 0 0] 35)) :
  Calls Tryz.prog 122 #[.pointer (some ⟨bd,0,none⟩),.pointer (some ⟨bu,0,none⟩)] w (PutL B lp p bD bN n [] (l,d.removeAll []) w):=by
 have c0:=jA0 hd 0
 have c1:=jA0 hu 0
 simp at c0 c1
 have HI:Hid (LogIn w B lp p bD bN pv sv rv l d n nD nN):=h
 clear h hd hu
 go_enter Tryz.func122,Tryz.ntmps122
 go_wp2_with fail
 refine (jId B p bD bN n nD nN pv d w HI.out.disk).mono ?_
 rintro e w1 ⟨rfl,⟨pv1,nD1,nN1,hd1⟩,hf1⟩
 obtain ⟨hl1,ho1⟩:=HI.out.dturned hd1 hf1
 have H1:Hid (LogIn w1 B lp p bD bN pv1 sv rv l (d.removeAll []).1 n nD1 nN1∧OFr lp p w w1):=⟨hl1,ho1⟩
 clear hl1 ho1 hd1 hf1
 go_wp2
 go_ret
 exact ⟨rfl,⟨pv1,sv,rv,nD1,nN1,H1.out.1⟩,H1.out.2.x⟩
def ALog.opens (l:ALog) (d:ADisk):ALog × ADisk × Nat :=
 if (l.sync d).2.2=0 then ((l.sync d).1,(l.sync d).2.1.removeAll []) else l.sync d
theorem jV4 (B lp p bD bN n nD nN gst bd bu:Nat) (pv sv rv:Value) (l:ALog) (d:ADisk) (w:World) (h:LogIn w B lp p bD bN pv sv rv l d n nD nN) (hn:n≤67108864)
  (hst:w.heap[gst]?=some (.cells #[.func (.func 121) #[.pointer (some ⟨lp,0,none⟩)] #[],.func (.func 122) #[] #[.pointer (some ⟨bd,0,none⟩),.pointer (some ⟨bu,0,none⟩)]] 123)) (hd:w.heap[bd]?=some (.cells #[dskV p] 167)) (hu:w.heap[bu]?=some (.cells #[.slice none 0 0] 35)) :
  Calls Tryz.prog 120 #[.slice (some ⟨gst,0,none⟩) 2 2] w (PutL B lp p bD bN n [] (l.opens d) w):=by
 have z0:=jA0 hst 0
 simp at z0
 have HI:Hid (LogIn w B lp p bD bN pv sv rv l d n nD nN):=h
 have n1:=h.free hst dN dN dN dN dN
 have n2:=h.free hd dN dN dN dN dN
 have n3:=h.free hu dN dN dN dN dN
 clear h
 go_enter Tryz.func120,Tryz.ntmps120
 go_wp2
 refine wp_loop_rounds 3 ?_
 rw [rounds_succ]
 go_wp2_with fail
 refine (jGl B lp p bD bN n nD nN pv sv rv l d w HI.out hn).mono ?_
 rintro e w1 ⟨rfl,⟨pv1,sv1,rv1,nD1,nN1,hl1⟩,ho1⟩
 have hst1:=(ho1.block gst (Array.getElem?_eq_some_iff.1 hst).1 n1).trans hst
 have hd1:=(ho1.block bd (Array.getElem?_eq_some_iff.1 hd).1 n2).trans hd
 have hu1:=(ho1.block bu (Array.getElem?_eq_some_iff.1 hu).1 n3).trans hu
 have z1:=jA0 hst1 1
 simp at z1
 have H1:Hid (LogIn w1 B lp p bD bN pv1 sv1 rv1 (l.sync d).1 (l.sync d).2.1 n nD1 nN1∧OFr lp p w w1):=⟨hl1,ho1⟩
 have HB:Hid (w1.heap[bd]?=some (.cells #[dskV p] 167)∧w1.heap[bu]?=some (.cells #[.slice none 0 0] 35)):=⟨hd1,hu1⟩
 clear hl1 ho1 hst1 hd1 hu1 hd hu hst z0
 by_cases hc:(l.sync d).2.2=0
 ·have eo:l.opens d=((l.sync d).1,(l.sync d).2.1.removeAll []):=by unfold ALog.opens;rw [if_pos hc]
  rw [hc,jAt]
  go_wp2
  rw [rounds_succ]
  go_wp2_with fail
  refine (jQ3 B lp p bD bN n nD1 nN1 bd bu pv1 sv1 rv1 (l.sync d).1 (l.sync d).2.1 w1 H1.out.1 HB.out.1 HB.out.2).mono ?_
  rintro e w2 ⟨rfl,hl2,ho2⟩
  have H2:Hid (PutL B lp p bD bN n [] ((l.sync d).1,(l.sync d).2.1.removeAll []) w (.returned (errN ((l.sync d).2.1.removeAll []).2)) w2):=⟨rfl,hl2,H1.out.2.x.trans ho2⟩
  clear hl2 ho2
  by_cases hc2:((l.sync d).2.1.removeAll []).2=0
  ·rw [hc2,jAt] at H2 ⊢
   go_wp2
   rw [rounds_succ]
   go_wp2
   go_ret
   rw [eo];exact H2.out
  ·rw [jAc hc2] at H2 ⊢
   go_wp2
   go_ret
   rw [eo];exact H2.out
 ·have eo:l.opens d=l.sync d:=by unfold ALog.opens;rw [if_neg hc]
  have H2:Hid (PutL B lp p bD bN n [] (l.sync d) w (.returned (errN (l.sync d).2.2)) w1):=⟨rfl,⟨pv1,sv1,rv1,nD1,nN1,H1.out.1⟩,H1.out.2.x⟩
  rw [jAc hc] at H2 ⊢
  go_wp2
  go_ret
  rw [eo];exact H2.out
theorem jCl {w:World} {B n:Nat} {e:TypeId} {k:Nat} {v:Value} {xs:List Value} (h:w.ownsRow B e k v n xs) (hn:0<n):∃ g cap,v=.slice (some ⟨g,0,none⟩) n cap:=by
 rcases h.2 with ⟨_,h3⟩ | ⟨g,cap,cur,rfl,_⟩
 ·omega
 ·exact ⟨g,cap,rfl⟩
theorem LogIn.mores {w:World} {B lp p bD bN n nD nN:Nat} {pv sv rv:Value} {l:ALog} {d:ADisk} (h:LogIn w B lp p bD bN pv sv rv l d n nD nN) {m:Nat} (hm:n≤m) (hm2:m≤67108864):LogIn w B lp p bD bN pv sv rv l d m nD nN where
 disk:=h.disk.mores hm hm2
 blk:=h.blk
 base:=h.base
 segs:=h.segs
 recs:=h.recs
 segsN:=⟨Nat.le_trans h.segsN.1 hm,h.segsN.2⟩
 recsN:=Nat.le_trans h.recsN hm
 fillN:=h.fillN
 nextN:=by have:=h.nextN;omega
 durN:=h.durN
theorem jN2 (s:ByteArray) (w:World) (hs:s.size≤281474976710656) :
  Calls Tryz.prog 109 #[.string s] w λe w'=>e=.returned (.string s)∧Below w.heap.size w w':=by
 go_enter Tryz.func109,Tryz.ntmps109
 go_wp2_with fail
 refine (Tryz.stringslite_Clone s w hs).mono ?_
 rintro e w1 ⟨rfl,hb⟩
 go_wp2
 go_ret
 exact ⟨rfl,hb⟩
end Go.Proofs.YtcalalndmcemiaaGreatDoor
