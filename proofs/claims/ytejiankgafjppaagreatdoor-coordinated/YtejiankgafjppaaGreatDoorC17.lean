import Derived.Test.YtejiankgafjppaaGreatDoorC16
import Derived.Test.YtejiankgafjppaaGreatDoorC15
import Derived.Test.YtejiankgafjppaaGreatDoorC07
import Derived.Test.YtejiankgafjppaaGreatDoorC14
import Derived.Test.YtejiankgafjppaaGreatDoorC02
import Derived.Test.YtejiankgafjppaaGreatDoorC01
import Derived.Deep.RegionHeld3
import Derived.Test.YtejiankgafjppaaGreatDoorC03
import Derived.RangeFuncNested
import Derived.Test.YtejiankgafjppaaGreatDoorProg
import Derived.RangeFuncBox
import Derived.RangeFuncBound
import Derived.RangeFuncCalls
import Derived.RangeFuncLeaves
import Derived.Shelf.Abstract
import Derived.Shelf.AbstractIn
import Derived.Shelf.RegionOpen
import Derived.WalkKit
import Derived.OwnWalkIn
import Derived.TacticsInMore
import Derived.LoopNIn
import Derived.LoopIn
import Derived.Maps.AppendAt
import Derived.Shelf.Small.Bits
import Derived.Shelf.Small.Wraps
import Derived.Shelf.Strconv.Itoa0
import Derived.Shelf.Strconv.Itoa1
import Derived.Shelf.LaysM
import Derived.Shelf.Strconv.Itoa2
import Derived.Shelf.Strconv.Itoa3
import Derived.Shelf.Strconv.Clone
import Derived.Ground.MpProg
import Derived.Shelf.Pu.ParseUintPublic10
import Derived.Shelf.Sort.Plain
import Derived.Shelf.Strings.Prefix
import Derived.Shelf.Slices.In.SortNone
import Derived.Shelf.Slices.In.SortNone2
import Derived.Ground.SlgnProg
import Derived.Shelf.SlicesE.Clone
import Derived.Shelf.SlIter.Nil
import Derived.Ground.GgzProg
import Derived.Lib.AppendStr
namespace Go.Proofs.YtejiankgafjppaaGreatDoor
open Go.RowKit
open Sc
abbrev fallV (a b c d:Int):Value:=.agg #[.int .i64 a,.int .i64 b,.int .i64 c,.int .i64 d]
def ADisk.knob (d:ADisk) (a b:Int):ADisk:={ d with left:=a,full:=b }
section
variable {w w':World} {B hp lp p bD bN n nD nN:Nat} {pv sv rv:Value} {l:ALog} {d:ADisk}
theorem LogIn.knob (h:LogIn w B lp p bD bN pv sv rv l d n nD nN) (a b:Int) (hf:Fr [p] w w') (hb:w'.heap[p]?=some (dskO bD bN pv a b d.down)) :
  LogIn w' B lp p bD bN pv sv rv l (d.knob a b) n nD nN∧OFr lp p w w':=by
 have h1:LogIn w' B lp p bD bN pv sv rv l (d.knob a b) n nD nN:=h.turned (h.disk.turn hf a b d.down hb) hf (fun k hk _=>h.sep k (by simp at hk;simp [hk])) (Nat.le_refl _)
 exact ⟨h1,h.ofr h1 hf (fun k hk _=>by simp at hk;simp [hk]) (.inl rfl) (Near.refl _ _) (Near.refl _ _) (Near.refl _ _)⟩
end
theorem told_any (c:Nat) (w:World) (hg:Met w):Calls Tryz.prog 54 #[errN c] w fun e w'=>e=.returned (.int .i64 (c:Int))∧Fr [] w w':=by
 by_cases hc:c=0
 ·subst hc
  rw [errN_ok]
  refine (told_nil w).mono ?_
  rintro e w1 ⟨rfl,hb⟩
  exact ⟨rfl,Fr.of_below hb _⟩
 ·rw [errN_no hc]
  refine (told_err (c:Int) w hg).mono ?_
  rintro e w1 ⟨rfl,hb⟩
  exact ⟨rfl,Fr.of_below hb _⟩
theorem DFr.ofO {w Wl w':World} {B lp p bD bN n nD nN n' nD' nN' n2 nD2 nN2:Nat} {pv pv' sv' rv':Value} {l l':ALog} {d d' d2:ADisk} (h:DiskIn w B p bD bN pv d2 n2 nD2 nN2) (hl:LogIn Wl B lp p bD bN pv (.slice none 0 0) (.slice none 0 0) l d n nD nN) (hf:Fr [] w Wl) (hlp:w.heap.size≤lp) (ho:OFr lp p Wl w') (hl':LogIn w' B lp p bD bN pv' sv' rv' l' d' n' nD' nN'):DFr p w w':=by
 have key:∀ k,k<w.heap.size→Own lp p Wl k→OwnD p w k:=fun k hk hO=>by
  rw [h.ownD]
  rcases (hl.own k).1 hO with e | e | e | e | e | e | e
  ·omega
  ·simp [e]
  ·simp [e]
  ·simp [e]
  ·simp [e]
  ·cases e
  ·cases e
 refine ⟨ho.os.trans hf.os,ho.tape.trans hf.tape,ho.output.trans hf.output,Nat.le_trans hf.size ho.size,fun k hk hn=>?_,fun k hk hD=>?_⟩
 ·exact (ho.block k (Nat.lt_of_lt_of_le hk hf.size) (fun hO=>hn (key k hk hO))).trans (hf.block k hk (by simp))
 ·refine key k hk (ho.stay k (Nat.lt_of_lt_of_le hk hf.size) ?_)
  have:=(hl'.disk.ownD k).1 hD
  rw [hl'.own]
  simp at this
  rcases this with e | e | e | e <;> simp [e]
def OpenPost (B p bD bN n:Nat) (r:ALog × ADisk × Nat) (w:World) (e:Ending) (w':World):Prop :=
 ∃ lp,e=.returned (.tuple #[.pointer (some ⟨lp,0,none⟩),.nilIface])∧w.heap.size≤lp∧(∃ pv sv rv nD nN,LogIn w' B lp p bD bN pv sv rv r.1 r.2.1 n nD nN)∧DFr p w w'
set_option maxRecDepth 100000 in
set_option maxHeartbeats 4000000 in
theorem jopen_empty (B p bD bN n nD:Nat) (pv:Value) (d:ADisk) (w:World) (h:DiskIn w B p bD bN pv d n nD 0) (hdn:d.down=false) (hno:d.now markNm=none) (hr:((log0 1).opens d).2.2=0) :
  Calls Tryz.prog 109 #[dskV p] w (OpenPost B p bD bN n ((log0 1).opens d) w):=by
 have hn:=h.hn
 have hb0:=h.base
 obtain ⟨W,hW⟩:∃ W,W=(w.alloc (.cells #[dskV p] 158)).alloc (logO p (.slice none 0 0) (.slice none 0 0) (log0 0)):=⟨_,rfl⟩
 have hf0:Fr [] w W:=by rw [hW];exact ((Fr.refl [] w).alloc _).alloc _
 have hdb:W.heap[w.heap.size]?=some (.cells #[dskV p] 158):=by rw [hW,Below.heap_alloc _ _ w.heap.size (by simp)];exact heap_alloc_new w _
 have hlb:W.heap[w.heap.size+1]?=some (logO p (.slice none 0 0) (.slice none 0 0) (log0 0)):=by rw [hW];have:=heap_alloc_new (w.alloc (.cells #[dskV p] 158)) (logO p (.slice none 0 0) (.slice none 0 0) (log0 0));rw [World.size_alloc] at this;exact this
 have hl0:LogIn W B (w.heap.size+1) p bD bN pv (.slice none 0 0) (.slice none 0 0) (log0 0) d n nD 0:={ disk:=h.new hf0,blk:=hlb,base:=by omega,segs:=World.ownsRow_nil _ _ _ _,recs:=World.ownsRow_nil _ _ _ _,segsN:=⟨by simp [log0],by simp [log0]⟩,recsN:=by simp [log0],fillN:=by simp [log0],nextN:=by simp [log0],durN:=by simp [log0] }
 have HW:Hid (DiskIn w B p bD bN pv d n nD 0∧Fr [] w W):=⟨h,hf0⟩
 have H0:Hid (LogIn W B (w.heap.size+1) p bD bN pv (.slice none 0 0) (.slice none 0 0) (log0 0) d n nD 0):=hl0
 have HDB:Hid (W.heap[w.heap.size]?=some (.cells #[dskV p] 158)):=hdb
 have hnil:=Tryz.eqNil p
 clear h hf0 hdb hlb hl0
 go_enter Tryz.func109,Tryz.ntmps109
 go_wp2_with fail
 have hW2:W=(w.alloc (.cells #[dskV p] 158)).alloc (.cells #[dskV p,.slice none 0 0,.int .i64 600,.slice none 0 0,.int .u64 0,.int .u64 0,.nilIface] 168):=hW
 rw [← hW2]
 clear hW hW2
 refine (read_empty B (w.heap.size+1) p bD bN n nD pv d W H0.out hdn hno).mono ?_
 rintro e w1 ⟨rfl,hl1,ho1⟩
 have hdb1:=(ho1.block w.heap.size (Array.getElem?_eq_some_iff.1 HDB.out).1 (H0.out.free HDB.out (by decide) (by decide) (by decide) (by decide) (by decide))).trans HDB.out
 obtain ⟨W2,hW2⟩:∃ W2,W2=(w1.alloc (.cells #[.slice none 0 0] 25)).alloc (.cells #[.func (.func 123) #[.pointer (some ⟨w.heap.size+1,0,none⟩)] #[],.func (.func 171) #[] #[.pointer (some ⟨w.heap.size,0,none⟩),.pointer (some ⟨w1.heap.size,0,none⟩)]] 109):=⟨_,rfl⟩
 have hf2:Fr [] w1 W2:=by rw [hW2];exact ((Fr.refl [] w1).alloc _).alloc _
 have hu2:W2.heap[w1.heap.size]?=some (.cells #[.slice none 0 0] 25):=by rw [hW2,Below.heap_alloc _ _ w1.heap.size (by simp)];exact heap_alloc_new w1 _
 have hst2:W2.heap[w1.heap.size+1]?=some (.cells #[.func (.func 123) #[.pointer (some ⟨w.heap.size+1,0,none⟩)] #[],.func (.func 171) #[] #[.pointer (some ⟨w.heap.size,0,none⟩),.pointer (some ⟨w1.heap.size,0,none⟩)]] 109):=by
  rw [hW2];have:=heap_alloc_new (w1.alloc (.cells #[.slice none 0 0] 25)) (.cells #[.func (.func 123) #[.pointer (some ⟨w.heap.size+1,0,none⟩)] #[],.func (.func 171) #[] #[.pointer (some ⟨w.heap.size,0,none⟩),.pointer (some ⟨w1.heap.size,0,none⟩)]] 109);rw [World.size_alloc] at this;exact this
 have hdb2:W2.heap[w.heap.size]?=some (.cells #[dskV p] 158):=(hf2.block w.heap.size (Array.getElem?_eq_some_iff.1 hdb1).1 (by simp)).trans hdb1
 have HC:Hid (Calls Tryz.prog 170 #[.slice (some ⟨w1.heap.size+1,0,none⟩) 2 2] W2 (PutL B (w.heap.size+1) p bD bN n [] ((log0 1).opens d) W2)):=inTurnO B (w.heap.size+1) p bD bN n nD 0 (w1.heap.size+1) w.heap.size w1.heap.size pv (.slice none 0 0) (.slice none 0 0) (log0 1) d W2 (hl1.new hf2) hn hst2 hdb2 hu2
 have HO:Hid (OFr (w.heap.size+1) p W W2):=ho1.trans (hl1.newO hf2)
 clear hl1 ho1 hdb1 hf2 hu2 hst2 hdb2
 go_wp2_with fail
 rw [← hW2]
 clear hW2
 refine HC.out.mono ?_
 rintro e w3 ⟨rfl,⟨pv3,sv3,rv3,nD3,nN3,hl3⟩,ho3⟩
 have H3:Hid (LogIn w3 B (w.heap.size+1) p bD bN pv3 sv3 rv3 ((log0 1).opens d).1 ((log0 1).opens d).2.1 n nD3 nN3):=hl3
 have HD:Hid (DFr p w w3):=DFr.ofO HW.out.1 H0.out HW.out.2 (by omega) (HO.out.trans ho3.ofr) hl3
 clear hl3 ho3
 rw [hr,errN_ok]
 go_wp2
 go_ret2
 exact ⟨w.heap.size+1,rfl,by omega,⟨pv3,sv3,rv3,nD3,nN3,H3.out⟩,HD.out⟩
abbrev fallO (a b c d:Int):Obj:=.cells #[.int .i64 a,.int .i64 b,.int .i64 c,.int .i64 d] 30
end Go.Proofs.YtejiankgafjppaaGreatDoor
namespace Go.Proofs.YtejiankgafjppaaGreatDoor
open Go.RowKit Go.Maps
def ADisk.up (d:ADisk):ADisk:={ d with now:=d.durable,pending:=[],down:=false }
set_option maxRecDepth 100000 in
set_option maxHeartbeats 2000000 in
theorem up_any (B p bD n nD:Nat) (pv nv:Value) (d:ADisk) (w:World) (hblk:w.heap[p]?=some (.cells #[.map (some bD),nv,pv,.int .i64 d.left,.int .i64 d.full,.bool d.down] 88)) (hB:B≤p∧B≤bD∧B≤w.heap.size) (hdur:FileMap w bD nD d.durable) (hn:nD≤n) (hn2:n≤67108864) (hle:d.durable.Le (nD*4096)) :
  Calls Tryz.prog 45 #[.pointer (some ⟨p,0,none⟩)] w fun e w'=>e=.returned (.tuple #[])∧DiskIn w' B p bD w.heap.size (.slice none 0 0) d.up n nD nD∧Fr [p] w w':=by
 have hmm:=@run_makeMap Tryz.prog
 have c0:=blk_cell hblk 0
 have c1:=blk_cell hblk 1
 have c2:=blk_cell hblk 2
 have c5:=blk_cell hblk 5
 have f1:=blk_free hblk 1
 have f2:=blk_free hblk 2
 have f5:=blk_free hblk 5
 simp at c0 c1 c2 c5
 have hpl:p<w.heap.size:=(Array.getElem?_eq_some_iff.1 hblk).1
 have hbl:=hdur.lt
 have hpne:bD≠p:=hdur.ne_cells hblk
 obtain ⟨D,hown,h5⟩:=hdur
 have H5:Hid (∀ k:ByteArray,(d.durable k=none→Maps.has D (keyL k)=false)∧(∀ t,d.durable k=some t→Maps.has D (keyL k)=true∧k.size≤maxLen∧∃ q:Nat,(∀ z,D.atKey (keyL k) z=.lit (.int .i64 (q:Int)))∧w.heap[q]?=some (textO t))):=h5
 clear h5
 have hsz:=hown.size_le
 have HB:Hid (w.heap[p]?=some (.cells #[.map (some bD),nv,pv,.int .i64 d.left,.int .i64 d.full,.bool d.down] 88)):=hblk
 clear hblk
 have hpa1:(w.alloc (.map #[] 0)).cell? ⟨p,1,none⟩=some nv:=(World.cell?_of_block (a:=⟨p,1,none⟩) (Below.heap_alloc w _ p hpl)).trans c1
 have hpa2:(w.alloc (.map #[] 0)).frozen? ⟨p,1,none⟩=false:=(World.frozen?_of_block (a:=⟨p,1,none⟩) (Below.heap_alloc w _ p hpl)).trans f1
 obtain ⟨W1,hW1⟩:∃ W1,W1=(w.setCell ⟨p,1,none⟩ (.map (some w.heap.size))).alloc (.map #[] 0):=⟨_,rfl⟩
 have hss:(w.setCell ⟨p,1,none⟩ (.map (some w.heap.size))).heap.size=w.heap.size:=by simp
 have hblk1:W1.heap[p]?=some (.cells #[.map (some bD),.map (some w.heap.size),pv,.int .i64 d.left,.int .i64 d.full,.bool d.down] 88):=by
  have:=blk_set HB.out 1 (.map (some w.heap.size))
  rw [hW1,Below.heap_alloc _ _ p (by rw [hss];exact hpl)];simpa using this
 have hfr1:Fr [p] w W1:=by rw [hW1];exact ((Fr.refl [p] w).setCell (Or.inl (by simp)) _).alloc _
 have hs1:W1.heap.size=w.heap.size+1:=by rw [hW1];simp
 have hownW:W1.ownsMap Tryz.prog 9 ptrElem bD nD D:=by rw [hW1];exact (hown.setCell hpne _).alloc _
 have houtW:W1.ownsMap (H:=Unit) Tryz.prog 9 ptrElem w.heap.size 0 (.map []):=by
  have:=World.ownsMap_made (H:=Unit) (w.setCell ⟨p,1,none⟩ (.map (some w.heap.size))) Tryz.prog 9 ptrElem
  rw [hss] at this
  rw [hW1];exact this
 have d0:=blk_cell hblk1 0
 simp at d0
 go_enter Tryz.func45,Tryz.ntmps45
 go_wp2_with (first
  | (at_range;rw [← hW1];refine wpList_range_own _ rfl _ 85 rfl 9 156 Tryz.lawS Tryz.underlying85 ptrElem bD nD D rfl hownW ?_;intro w0 hrg0 hg0 hs0)
  | go_in)
 go_frame
 clear hW1
 have HB1:Hid (W1.heap[p]?=some (.cells #[.map (some bD),.map (some w.heap.size),pv,.int .i64 d.left,.int .i64 d.full,.bool d.down] 88)):=hblk1
 clear hblk1
 rw [hs1] at hrg0 hs0 ⊢
 go_loopw [2] (fun _ wr=>∃ (left:Lit→Bool) (cnt:Nat) (Dout:DataW Unit),wr.ranges Tryz.prog 9 ptrElem bD (w.heap.size+1) nD D left cnt∧cnt≤Maps.size D ∧
   wr.ownsMap Tryz.prog 9 ptrElem w.heap.size (Maps.size D - cnt) Dout∧Agree Dout D left∧Fr [w.heap.size,w.heap.size+1] W1 wr)
  (fun _ wr=>wr.rangeLeft bD (w.heap.size+1))
 case atStart =>
  exact ⟨_,_,.map [],hrg0,Nat.le_refl _,(houtW.kept hg0 (by simp)).mono (Nat.zero_le _),agree_start D,(Fr.of_grown hg0).mono (by simp)⟩
 case round =>
  obtain ⟨left,cnt,Dout,hrg,hcs,hout,hA,hnx⟩:=hrel
  have HNX:Hid (Fr [w.heap.size,w.heap.size+1] W1 wr):=hnx
  have hzr:=hnx.size
  have hpr:wr.heap[p]?=some (.cells #[.map (some bD),.map (some w.heap.size),pv,.int .i64 d.left,.int .i64 d.full,.bool d.down] 88):=(hnx.block p (by omega) (by simp;omega)).trans HB1.out
  have HPR:Hid (wr.heap[p]?=some (.cells #[.map (some bD),.map (some w.heap.size),pv,.int .i64 d.left,.int .i64 d.full,.bool d.down] 88)):=hpr
  have r1:=blk_cell hpr 1
  have r2:=blk_cell hpr 2
  have r5:=blk_cell hpr 5
  have q2:=blk_free hpr 2
  have q5:=blk_free hpr 5
  simp at r1 r2 r5
  clear hnx hpr
  go_wp2_with (first
   | (at_next;refine wpList_next_ranges _ rfl _ rfl 9 Tryz.lawS ptrElem encStr Value.pointer (fun key kl hk=>by obtain ⟨x,hx,_⟩:=Maps.keyOf_str Tryz.underlying9 hk;exact ⟨x,hx⟩) (fun v y hv=>ptrElem_shape hv) bD (w.heap.size+1) nD _ _ _ rfl hrg ?_ ?_)
   | go_in)
  ·intro hc0 hl0
   go_wp2
   go_end0
   subst hc0
   have hD:=agree_end hA hl0 (hout.canon Tryz.lawS) (hown.canon Tryz.lawS)
   subst hD
   obtain ⟨W2,hW2⟩:∃ W2,W2=(wr.setCell ⟨p,2,none⟩ (.slice none 0 0)).setCell ⟨p,5,none⟩ (.bool false):=⟨_,rfl⟩
   rw [← hW2]
   have hf2:Fr [p] wr W2:=by rw [hW2];exact (Fr.set1 (by simp) _ _).trans (Fr.set1 (by simp) _ _)
   have hfw:Fr [p] w W2:=(hfr1.andThen HNX.out (by intro j hj hl;simp at hj;omega)).trans hf2
   have hb2:W2.heap[p]?=some (dskO bD w.heap.size (.slice none 0 0) d.left d.full false):=by
    have:=blk_set (blk_set HPR.out 2 (.slice none 0 0)) 5 (.bool false)
    rw [hW2];simpa using this
   have htx:∀ (q:Nat) (t:ByteArray),w.heap[q]?=some (textO t)→W2.heap[q]?=some (textO t):=fun q t hq=>by
    rw [hfw.block q (Array.getElem?_eq_some_iff.1 hq).1 (by simp;intro e;subst e;rw [HB.out] at hq;cases hq)];exact hq
   have ho1:W2.ownsMap Tryz.prog 9 ptrElem bD nD Dout:=by
    obtain ⟨es,c,a1,a2⟩:=hrg.owns
    exact ⟨es,c,(hf2.block bD (by omega) (by simp;omega)).trans a1,a2⟩
   have ho2:W2.ownsMap Tryz.prog 9 ptrElem w.heap.size nD Dout:=by
    obtain ⟨es,c,a1,a2⟩:=hout.mono (n':=nD) (by omega)
    exact ⟨es,c,(hf2.block w.heap.size (by omega) (by simp;omega)).trans a1,a2⟩
   have h5:∀ k:ByteArray,(d.durable k=none→Maps.has Dout (keyL k)=false)∧(∀ t,d.durable k=some t→Maps.has Dout (keyL k)=true∧k.size≤maxLen∧∃ q:Nat,(∀ z,Dout.atKey (keyL k) z=.lit (.int .i64 (q:Int)))∧W2.heap[q]?=some (textO t)):=fun k=>by
    obtain ⟨a1,a2⟩:=H5.out k
    refine ⟨a1,fun t ht=>?_⟩
    obtain ⟨b1,b2,q,b3,b4⟩:=a2 t ht
    exact ⟨b1,b2,q,b3,htx q t b4⟩
   refine ⟨rfl,?_,hfw⟩
   exact { blk:=hb2,base:=⟨hB.1,hB.2.1,hB.2.2,by have:=hfw.size;omega⟩,ne:=by omega,dur:=⟨_,ho1,h5⟩,now:=⟨_,ho2,h5⟩,pen:=World.ownsRow_nil _ _ _ _,hD:=by simpa [ADisk.up] using hn,hN:=hn,hn:=hn2,leD:=hle,leN:=hle,ops:=by simp [ADisk.up] }
  ·intro x c kl yd yp w2 cnt2 hkey hlk hv hat hrg2 hlt hg2 hs2 hen
   obtain ⟨x',ex,rfl,hxl⟩:=Maps.keyOf_str Tryz.underlying9 hkey
   obtain rfl:x=x':=encStr_inj ex
   have hout1:=hout.kept hg2 (by simp)
   have s1:w2.cell? ⟨p,1,none⟩=some (.map (some w.heap.size)):=(grown_cell hg2 (a:=⟨p,1,none⟩) (by simp;omega) (by simp;omega)).trans r1
   clear hs2
   go_wp2_with (first
    | (at_mapUpdate;refine wpList_mapUpdate_own _ rfl _ _ _ 85 rfl 9 156 Tryz.lawS Tryz.underlying85 ptrElem w.heap.size _ _ rfl hout1 (by unfold maxLen;omega) _ _ _ rfl rfl hkey _ _ hv ?_;intro w3 hout2 hg3;go_frame)
    | go_in)
   have hrg3:=hrg2.kept hg3 (fun e=>by have:=Option.some.inj e;omega) (fun e=>by have:=Option.some.inj e;omega)
   go_roundw
   case rel =>
    exact ⟨_,cnt2,_,hrg3,by omega,hout2.mono (by omega),agree_step hA hout.isMap trivial hat,(HNX.out.trans ((Fr.of_grown1 hg2).mono (by intro k _ hk;simp at hk;simp [hk]))).trans ((Fr.of_grown1 hg3).mono (by intro k _ hk;simp at hk;simp [hk]))⟩
   case measure=>rw [hrg3.left_eq,hrg.left_eq];exact hlt
end Go.Proofs.YtejiankgafjppaaGreatDoor
namespace Go.Proofs.YtejiankgafjppaaGreatDoor
open Go.RowKit
open Sc
section
variable {w w':World} {B p bD bN n nD nN:Nat} {pv:Value} {d:ADisk}
theorem DiskIn.geD (h:DiskIn w B p bD bN pv d n nD nN) {k:Nat} (hk:OwnD p w k):B≤k:=by
 have:=(h.ownD k).1 hk
 simp at this
 rcases this with e | e | e | e
 ·rw [e];exact h.base.1
 ·rw [e];exact h.base.2.1
 ·rw [e];exact h.base.2.2.1
 ·exact (h.pen.lt k e).1
end
theorem LogIn.other {w w':World} {B lp p bD bN n nD nN q:Nat} {pv sv rv:Value} {l:ALog} {d:ADisk} {c:Array Value} {t:TypeId} (h:LogIn w B lp p bD bN pv sv rv l d n nD nN) (hf:Fr [q] w w') (hq:w.heap[q]?=some (.cells c t (0,0))) (h1:t≠88) (h2:t≠175) (h3:t≠168) (h4:t≠34) (h5:t≠44) (h6:t≠9):LogIn w' B lp p bD bN pv sv rv l d n nD nN:=by
 have ho:=h.free hq h1 h2 h3 h4 h5
 rw [h.own] at ho
 simp only [not_or] at ho
 refine h.turned (h.disk.fr hf ?_ ?_ ?_ ?_ ?_) hf ?_ (Nat.le_refl _)
 ·simpa using fun e=>ho.2.1 e.symm
 ·simpa using fun e=>ho.2.2.1 e.symm
 ·simpa using fun e=>ho.2.2.2.1 e.symm
 ·intro g hg;simp;intro e;subst e;exact ho.2.2.2.2.1 hg
 ·intro r hr x;simp at hr;subst hr;rw [hq];intro e;cases e;exact h6 rfl
 ·intro r hr _;simp at hr;subst hr;exact ⟨ho.1,ho.2.2.2.2.2.1,ho.2.2.2.2.2.2⟩
abbrev ledO (lp:Nat):Obj:=.cells #[.pointer (some ⟨lp,0,none⟩)] 272
theorem OFr.led {w w':World} {B lp p bD bN n nD nN q:Nat} {pv sv rv:Value} {l:ALog} {d:ADisk} (hf:OFr lp p w w') (h:LogIn w B lp p bD bN pv sv rv l d n nD nN) (hh:w.heap[q]?=some (ledO lp)):w'.heap[q]?=some (ledO lp) :=
 (hf.block q (Array.getElem?_eq_some_iff.1 hh).1 (h.free hh (by decide) (by decide) (by decide) (by decide) (by decide))).trans hh
theorem lappend_any (B lp p bD bN n nD nN kind:Nat) (pv sv rv:Value) (l:ALog) (d:ADisk) (s:ByteArray) (w:World) (h:LogIn w B lp p bD bN pv sv rv l d n nD nN) (hk:kind<256) (hn:n+3<67108864) (hB:2≤B) (hsg:l.filled<600→l.segs≠[]) (hpow:Pows w) :
  Calls Tryz.prog 55 #[.pointer (some ⟨lp,0,none⟩),.int .u8 (kind:Int),.string s] w (AppPost B lp p bD bN (n+3) (l.append d kind s) w):=by
 by_cases hs:255<s.size
 ·refine (lappend_no B lp p bD bN n nD nN kind pv sv rv l d s w h hs (by omega)).mono ?_
  rintro e w2 ⟨he,⟨pv2,sv2,rv2,nD2,nN2,hl2⟩,ho2⟩
  exact ⟨he,⟨pv2,sv2,rv2,nD2,nN2,hl2.mores (by omega) (by omega)⟩,ho2⟩
 ·exact lappend_yes B lp p bD bN n nD nN kind pv sv rv l d s w h (by omega) hk (by omega) hB hsg hpow
def ALog.note (l:ALog) (d:ADisk) (kind:Nat) (s:ByteArray):ALog × ADisk × Nat:=((l.append d kind s).1,(l.append d kind s).2.1,(l.append d kind s).2.2.2)
set_option maxRecDepth 100000 in
set_option maxHeartbeats 2000000 in
theorem note_any (B gp lp p bD bN n nD nN kind:Nat) (pv sv rv:Value) (l:ALog) (d:ADisk) (s:ByteArray) (w:World) (hg:w.heap[gp]?=some (ledO lp)) (h:LogIn w B lp p bD bN pv sv rv l d n nD nN) (hk:kind<256) (hn:n+3<67108864) (hB:2≤B) (hsg:l.filled<600→l.segs≠[]) (hpow:Pows w) :
  Calls Tryz.prog 132 #[.pointer (some ⟨gp,0,none⟩),.int .u8 (kind:Int),.string s] w (ErrPost B lp p bD bN (n+3) (l.note d kind s) w):=by
 have c0:=blk_cell hg 0
 simp at c0
 have HC:Hid (Calls Tryz.prog 55 #[.pointer (some ⟨lp,0,none⟩),.int .u8 (kind:Int),.string s] w (AppPost B lp p bD bN (n+3) (l.append d kind s) w)):=lappend_any B lp p bD bN n nD nN kind pv sv rv l d s w h hk hn hB hsg hpow
 clear h hg
 go_enter Tryz.func132,Tryz.ntmps132
 go_wp2_with fail
 refine HC.out.mono ?_
 rintro e w1 ⟨rfl,hl1,ho1⟩
 have H1:Hid ((∃ pv sv rv nD nN,LogIn w1 B lp p bD bN pv sv rv (l.append d kind s).1 (l.append d kind s).2.1 (n+3) nD nN)∧OFr lp p w w1):=⟨hl1,ho1⟩
 clear hl1 ho1
 go_wp2
 go_ret
 exact ⟨rfl,H1.out.1,H1.out.2⟩
def ALog.keep (l:ALog) (d:ADisk) (kind:Nat) (s:ByteArray):ALog × ADisk × Nat :=
 if (l.note d kind s).2.2=0 then (l.note d kind s).1.force (l.note d kind s).2.1 else l.note d kind s
set_option maxRecDepth 100000 in
set_option maxHeartbeats 2000000 in
theorem keep_any (B gp lp p bD bN n nD nN kind:Nat) (pv sv rv:Value) (l:ALog) (d:ADisk) (s:ByteArray) (w:World) (hg:w.heap[gp]?=some (ledO lp)) (h:LogIn w B lp p bD bN pv sv rv l d n nD nN) (hk:kind<256) (hn:n+3<67108864) (hB:2≤B) (hsg:l.filled<600→l.segs≠[]) (hpow:Pows w) :
  Calls Tryz.prog 134 #[.pointer (some ⟨gp,0,none⟩),.int .u8 (kind:Int),.string s] w (ErrPost B lp p bD bN (n+3) (l.keep d kind s) w):=by
 have HC:Hid (Calls Tryz.prog 132 #[.pointer (some ⟨gp,0,none⟩),.int .u8 (kind:Int),.string s] w (ErrPost B lp p bD bN (n+3) (l.note d kind s) w)):=note_any B gp lp p bD bN n nD nN kind pv sv rv l d s w hg h hk hn hB hsg hpow
 have HG:Hid (w.heap[gp]?=some (ledO lp)∧LogIn w B lp p bD bN pv sv rv l d n nD nN):=⟨hg,h⟩
 clear h hg
 go_enter Tryz.func134,Tryz.ntmps134
 go_wp2_with fail
 refine HC.out.mono ?_
 rintro e w1 ⟨rfl,⟨pv1,sv1,rv1,nD1,nN1,hl1⟩,ho1⟩
 have hg1:=ho1.led HG.out.2 HG.out.1
 have c0:=blk_cell hg1 0
 simp at c0
 have H1:Hid (LogIn w1 B lp p bD bN pv1 sv1 rv1 (l.note d kind s).1 (l.note d kind s).2.1 (n+3) nD1 nN1∧OFr lp p w w1):=⟨hl1,ho1⟩
 clear hl1 ho1 hg1
 by_cases hc:(l.note d kind s).2.2=0
 ·have e:l.keep d kind s=(l.note d kind s).1.force (l.note d kind s).2.1:=by unfold ALog.keep;rw [if_pos hc]
  rw [hc,errN_ok]
  go_wp2_with fail
  refine (force_any B lp p bD bN (n+3) nD1 nN1 pv1 sv1 rv1 _ _ w1 H1.out.1 (by omega)).mono ?_
  rintro e w2 ⟨rfl,hl2,ho2⟩
  have H2:Hid ((∃ pv sv rv nD nN,LogIn w2 B lp p bD bN pv sv rv ((l.note d kind s).1.force (l.note d kind s).2.1).1 ((l.note d kind s).1.force (l.note d kind s).2.1).2.1 (n+3) nD nN)∧OFr lp p w w2):=⟨hl2,H1.out.2.trans ho2⟩
  clear hl2 ho2
  go_wp2
  go_ret
  rw [e]
  exact ⟨rfl,H2.out.1,H2.out.2⟩
 ·have e:l.keep d kind s=l.note d kind s:=by unfold ALog.keep;rw [if_neg hc]
  rw [errN_no hc]
  go_wp2
  go_ret
  rw [e]
  exact ⟨by rw [errN_no hc];rfl,⟨pv1,sv1,rv1,nD1,nN1,H1.out.1⟩,H1.out.2⟩
end Go.Proofs.YtejiankgafjppaaGreatDoor
namespace Go.Proofs.YtejiankgafjppaaGreatDoor
open Go.RowKit Go.Maps
open Sc
section
variable {w w':World} {B lp p bD bN n nD nN:Nat} {pv sv rv:Value} {l:ALog} {d:ADisk}
theorem LogIn.freeMap (h:LogIn w B lp p bD bN pv sv rv l d n nD nN) {b:Nat} (hb:∃ es c,w.heap[b]?=some (.map es c)) (h1:b≠bD) (h2:b≠bN):¬ Own lp p w b:=by
 obtain ⟨es,c,hb⟩:=hb
 rw [h.own]
 rintro (e | e | e | e | e | e | e)
 ·subst e;rw [h.blk] at hb;cases hb
 ·subst e;rw [h.disk.blk] at hb;cases hb
 ·exact h1 e
 ·exact h2 e
 ·obtain ⟨c,hc⟩:=own_cells h.disk.pen e;rw [hc] at hb;cases hb
 ·obtain ⟨c,hc⟩:=own_cells h.segs e;rw [hc] at hb;cases hb
 ·obtain ⟨c,hc⟩:=own_cells h.recs e;rw [hc] at hb;cases hb
theorem LogIn.apart {S:List Nat} (h:LogIn w B lp p bD bN pv sv rv l d n nD nN) (hf:Fr S w w') (hS:∀ k∈S,k<w.heap.size→¬ Own lp p w k∧∀ t,w.heap[k]?≠some (textO t)):LogIn w' B lp p bD bN pv sv rv l d n nD nN:=by
 have key:∀ k,k<w.heap.size→Own lp p w k→k∉S:=fun k hk ho hm=>(hS k hm hk).1 ho
 have lt:∀ k,Own lp p w k→k<w.heap.size:=fun k ho=>by
  rcases (h.own k).1 ho with e | e | e | e | e | e | e
  ·rw [e];exact (Array.getElem?_eq_some_iff.1 h.blk).1
  ·rw [e];exact (Array.getElem?_eq_some_iff.1 h.disk.blk).1
  ·rw [e];exact h.disk.dur.lt
  ·rw [e];exact h.disk.now.lt
  ·exact (h.disk.pen.lt k e).2
  ·exact (h.segs.lt k e).2
  ·exact (h.recs.lt k e).2
 have no:∀ k,Own lp p w k→k∉S:=fun k ho=>key k (lt k ho) ho
 have hin:∀ {k},(k=lp∨k=p∨k=bD∨k=bN∨pv.ownBlock=some k∨sv.ownBlock=some k∨rv.ownBlock=some k)→k∉S:=fun {k} hk=>no k ((h.own k).2 hk)
 refine h.turned (h.disk.fr hf (hin (by simp)) (hin (by simp)) (hin (by simp)) (fun g hg=>hin (by simp [hg])) (fun q hq t=>?_)) hf (fun k hk hl=>?_) (Nat.le_refl _)
 ·by_cases hl:q<w.heap.size
  ·exact (hS q hq hl).2 t
  ·intro e;exact hl (Array.getElem?_eq_some_iff.1 e).1
 ·have:=(hS k hk hl).1
  rw [h.own] at this
  simp only [not_or] at this
  exact ⟨this.1,this.2.2.2.2.2.1,this.2.2.2.2.2.2⟩
end
theorem alLook_put {K V:Type} [DecidableEq K] {l:List (K × V)} {k j:K} {v:V}:alLook (alPut l k v) j=if j=k then some v else alLook l j:=by
 by_cases e:j=k
 ·subst e
  rw [if_pos rfl]
  simp [alLook,alPut]
 ·rw [if_neg e]
  have h1:=alLook_del (rem:=l) (k:=k) (j:=j)
  rw [if_neg e] at h1
  rw [← h1]
  have e2:¬ k=j:=fun x=>e x.symm
  simp [alLook,alPut,e2]
def aliveH (s:AShard) (p:(Nat × ByteArray) × AGrip):Bool:=!decide ((s.txn p.1.1).state=0)
def AShard.release (s:AShard):AShard:={ s with holds:=s.holds.filter (aliveH s) }
def idleT (s:AShard) (x:ATxn):Bool:=!decide (x.state=3) && decide ((16:Int)≤IntKind.u64.wrap ((s.ticks:Int) - (x.last:Int)))
def busyT (s:AShard) (p:Nat × ATxn):Bool:=!idleT s p.2
def AShard.tick (s:AShard):AShard :=
 let s1:AShard:={ s with ticks:=s.ticks+1 }
 AShard.release { s1 with txns:=s1.txns.filter (busyT s1) }
theorem MapAs.putRun {K V:Type} [DecidableEq K] {kt t e:TypeId} {KR:KeyRep Tryz.prog K kt} {ER:ElRep V} {w:World} {b n:Nat} {l:List (K × V)} (h:MapAs KR ER w b n l) (ht:Tryz.prog.underlying t=some (.map kt e)) (hn:n<maxLen) {k:K} (hk:KR.ok k) {v:V} (hv:ER.ok v) :
  ∃ w',(Instr.mapUpdate t (.map (some b)) (KR.kv k) (ER.ev v)).run Tryz.prog w=.ok () w'∧MapAs KR ER w' b (n+1) (alPut l k v)∧w.grownBy w' (some b):=by
 obtain ⟨es,ho,hp,h1,hok⟩:=h
 obtain ⟨w',hr,ho',htr⟩:=ho.store KR.law ht hn (KR.key k hk) (ER.made v hv)
 exact ⟨w',hr,MapAs.ofPut hp h1 hok hk hv ho',htr.grown⟩
def AShard.refuse1 (s:AShard) (t:Nat) (seq:Int) (k v:ByteArray):Nat :=
 if t=0 then 7 else if k.size<1∨16<k.size∨32<v.size then 1 else if (s.txn t).state=3∨seq≠((s.txn t).done:Int) then 4 else if (s.txn t).state=2 then 3 else if (s.txn t).state=0∧12≤s.txns.length then 5 else 0
def AShard.count (s:AShard) (t:Nat):Nat:=(s.holds.filter fun p=>decide (p.1.1=t)).length
theorem once_keys {K V:Type} [DecidableEq K] {l:List (K × V)} (h:Once1 l):(l.map (·.1)).Nodup:=by
 unfold List.Nodup
 rw [List.pairwise_map]
 exact h
def AShard.refuse2 (s:AShard) (t:Nat) (k:ByteArray):Nat:=if (alLook s.holds (t,k)).isSome=false∧4≤s.count t then 5 else 0
def AShard.refuse (s:AShard) (t:Nat) (seq:Int) (k v:ByteArray):Nat:=if s.refuse1 t seq k v=0 then s.refuse2 t k else s.refuse1 t seq k v
end Go.Proofs.YtejiankgafjppaaGreatDoor
namespace Go.Proofs.YtejiankgafjppaaGreatDoor
open Go.RowKit
open Sc
structure TFr (t:TypeId) (w w':World):Prop where
 os:w'.os=w.os
 tape:w'.tape=w.tape
 output:w'.output=w.output
 size:w.heap.size≤w'.heap.size
 block:∀ k,k<w.heap.size→(∀ c,w.heap[k]?≠some (.cells c t (0,0)))→w'.heap[k]?=w.heap[k]?
theorem TFr.refl (t:TypeId) (w:World):TFr t w w:=⟨rfl,rfl,rfl,Nat.le_refl _,fun _ _ _=>rfl⟩
theorem TFr.trans {t:TypeId} {a b c:World} (h:TFr t a b) (k:TFr t b c):TFr t a c :=
 ⟨k.os.trans h.os,k.tape.trans h.tape,k.output.trans h.output,Nat.le_trans h.size k.size,
  fun i hi hn=>(k.block i (Nat.lt_of_lt_of_le hi h.size) (fun c e=>hn c ((h.block i hi hn).symm.trans e))).trans (h.block i hi hn)⟩
theorem TFr.alloc {t:TypeId} {a w:World} (h:TFr t a w) (o:Obj):TFr t a (w.alloc o) :=
 ⟨h.os,h.tape,h.output,Nat.le_trans h.size (by simp),fun k hk hn=>(Below.heap_alloc w o k (Nat.lt_of_lt_of_le hk h.size)).trans (h.block k hk hn)⟩
theorem TFr.grown {t:TypeId} {a b c:World} {r:Option Nat} (h:TFr t a b) (hg:b.grownBy c r) (hr:∀ q,r=some q→∃ x,b.heap[q]?=some (.cells x t (0,0))):TFr t a c :=
 h.trans ⟨hg.os,hg.tape,hg.output,hg.size,fun k hk hn=>hg.block k hk (fun e=>by obtain ⟨x,hx⟩:=hr k e.symm;exact hn x hx)⟩
set_option maxRecDepth 100000 in
set_option maxHeartbeats 400000 in
theorem grow_u64 (base:Nat) (v:Value) (xs:List Nat) (n m:Nat) (w:World) (hown:w.ownsRow base 5 1 v m (bs xs)) (hn:n<18446744073709551616) (hm:m≤1099511627776) (hbase:base≤w.heap.size) :
  Calls Tryz.prog 183 #[v,.int .u64 n] w fun e w'=>∃ v',e=.returned v'∧w'.ownsRow base 5 1 v' (m+8) (bs (xs++be 8 n))∧Below base w w'∧TFr 5 w w':=by
 obtain ⟨i0,hi,hz0,hz1,hz2⟩:=info_parts Tryz.info5
 have HNN:Hid (n<18446744073709551616):=hn
 clear hn
 go_enter Tryz.func183,Tryz.ntmps183
 go_wp2_with (go_at_call 246;refine (width_u64 _).mono ?_;rintro e w' ⟨rfl,hw⟩;have hw2:=hw.symm;subst hw2;clear hw)
 go_loopw [0,5] (fun v i wr=>∃ j:Nat,j≤8∧i=.int .i64 ((8:Int) - 1 - j)∧wr.ownsRow base 5 1 v (m+j) (bs (xs++(List.range j).map (digit 8 n)))∧Below base w wr∧TFr 5 w wr) (fun _ i _=>(intOf i+1).toNat)
 case atStart=>exact ⟨0,Nat.zero_le _,by go_num,by simpa using hown,Below.refl _ _,TFr.refl _ _⟩
 case round =>
  obtain ⟨j,hj,rfl,hownr,hbel,htf⟩:=hrel
  by_cases hlt:j<8
  ·have HD:Hid (((n:Int) / 2 ^ (8*(7 - j)) % 256)=((digit 8 n j:Nat):Int)):=digit_int n 8 j
   go_wp2_with (at_builtin;refine wpList_append_own _ rfl _ _ 164 rfl base 5 i0 (.int .u8 0) 1 1 Tryz.underlying164 hi hz0 hz1 hz2 rfl (by decide) _ _ _ rfl (hownr.alloc _) ⟨wr.heap.size,0,none⟩ 1 1 [.int .u8 ((n:Int) / 2 ^ (8*(7 - j)) % 256)] rfl rfl ?c1 ?c2 ?c3 ?c4 ?c5 ?_)
   case c1 =>
    intro jj u hjj
    match jj,hjj with
    | 0,hjj=>simp at hjj;subst hjj;simp [Addr.add]
   case c2=>intro u hu;simp at hu;subst hu;rfl
   case c3=>unfold maxLen;omega
   case c4=>omega
   case c5=>have:=hbel.size;simp;omega
   ·intro v' w1 hown' hgrow _
    have hs1:=hbel.size
    have hB1:Below base w w1:=Below.grown (hbel.alloc (by omega) _) hgrow (by simp;omega) (fun q hq=>(hownr.lt q hq).1)
    have hT1:TFr 5 w w1:=(htf.alloc _).grown hgrow (fun q hq=>own_cells (hownr.alloc _) hq)
    have hO1:w1.ownsRow base 5 1 v' (m+(j+1)) (bs (xs++(List.range (j+1)).map (digit 8 n))):=by
     rw [HD.out] at hown'
     rw [bs_snoc,← Nat.add_assoc]
     exact hown'
    clear hown' hgrow hownr hbel htf
    go_wp2
    go_roundw
    case rel=>exact ⟨j+1,by omega,int_eq (by omega),hO1,hB1,hT1⟩
    case measure=>simp [intOf] <;> omega
  ·have ek:j=8:=by omega
   subst ek
   go_wp2
   go_ret
   exact ⟨_,rfl,hownr,hbel,htf⟩
set_option maxRecDepth 100000 in
set_option maxHeartbeats 400000 in
theorem grow_u8 (base:Nat) (v:Value) (xs:List Nat) (n m:Nat) (w:World) (hown:w.ownsRow base 5 1 v m (bs xs)) (hn:n<256) (hm:m≤1099511627776) (hbase:base≤w.heap.size) :
  Calls Tryz.prog 184 #[v,.int .u8 n] w fun e w'=>∃ v',e=.returned v'∧w'.ownsRow base 5 1 v' (m+1) (bs (xs++be 1 n))∧Below base w w'∧TFr 5 w w':=by
 obtain ⟨i0,hi,hz0,hz1,hz2⟩:=info_parts Tryz.info5
 have HNN:Hid (n<256):=hn
 go_enter Tryz.func184,Tryz.ntmps184
 go_wp2_with (go_at_call 247;refine (width_u8 _).mono ?_;rintro e w' ⟨rfl,hw⟩;have hw2:=hw.symm;subst hw2;clear hw)
 go_loopw [0,5] (fun v i wr=>∃ j:Nat,j≤1∧i=.int .i64 ((1:Int) - 1 - j)∧wr.ownsRow base 5 1 v (m+j) (bs (xs++(List.range j).map (digit 1 n)))∧Below base w wr∧TFr 5 w wr) (fun _ i _=>(intOf i+1).toNat)
 case atStart=>exact ⟨0,Nat.zero_le _,by go_num,by simpa using hown,Below.refl _ _,TFr.refl _ _⟩
 case round =>
  obtain ⟨j,hj,rfl,hownr,hbel,htf⟩:=hrel
  by_cases hlt:j<1
  ·have HD:Hid ((n:Int)=((digit 1 n 0:Nat):Int)):=by show _=_;unfold digit;simp;omega
   obtain rfl:j=0:=by omega
   rw [Nat.add_zero] at hownr
   go_wp2_with (at_builtin;refine wpList_append_own _ rfl _ _ 164 rfl base 5 i0 (.int .u8 0) 1 1 Tryz.underlying164 hi hz0 hz1 hz2 rfl (by decide) _ _ _ rfl (hownr.alloc _) ⟨wr.heap.size,0,none⟩ 1 1 [.int .u8 (n:Int)] rfl rfl ?c1 ?c2 ?c3 ?c4 ?c5 ?_)
   case c1 =>
    intro jj u hjj
    match jj,hjj with
    | 0,hjj=>simp at hjj;subst hjj;simp [Addr.add]
   case c2=>intro u hu;simp at hu;subst hu;rfl
   case c3=>unfold maxLen;omega
   case c4=>omega
   case c5=>have:=hbel.size;simp;omega
   ·intro v' w1 hown' hgrow _
    have hs1:=hbel.size
    have hB1:Below base w w1:=Below.grown (hbel.alloc (by omega) _) hgrow (by simp;omega) (fun q hq=>(hownr.lt q hq).1)
    have hT1:TFr 5 w w1:=(htf.alloc _).grown hgrow (fun q hq=>own_cells (hownr.alloc _) hq)
    have hO1:w1.ownsRow base 5 1 v' (m+(0+1)) (bs (xs++(List.range (0+1)).map (digit 1 n))):=by
     rw [HD.out] at hown'
     rw [bs_snoc,← Nat.add_assoc]
     simpa using hown'
    clear hown' hgrow hownr hbel htf
    go_wp2
    go_roundw
    case rel=>exact ⟨0+1,by omega,int_eq (by omega),hO1,hB1,hT1⟩
    case measure=>simp [intOf] <;> omega
  ·have ek:j=1:=by omega
   subst ek
   go_wp2
   go_ret
   exact ⟨_,rfl,hownr,hbel,htf⟩
end Go.Proofs.YtejiankgafjppaaGreatDoor
namespace Go.Proofs.YtejiankgafjppaaGreatDoor
open Go.RowKit Go.Maps
open Sc
theorem cell_blk0 {w:World} {p:Nat} {c:Array Value} {t:TypeId} (h:w.heap[p]?=some (.cells c t (0,0))) (i:Nat):w.cell? ⟨p,i,none⟩=c[i]?:=by simp [World.cell?,h]
theorem own_pos0 {w:World} {B n:Nat} {e:TypeId} {k:Nat} {v:Value} {xs:List Value} (h:w.ownsRow B e k v n xs) (hn:0<n):∃ g cap,v=.slice (some ⟨g,0,none⟩) n cap:=by
 rcases h.2 with ⟨_,h3⟩ | ⟨g,cap,cur,rfl,_⟩
 ·omega
 ·exact ⟨g,cap,rfl⟩
theorem own_form0 {w:World} {B n:Nat} {e:TypeId} {k:Nat} {v:Value} {xs:List Value} (h:w.ownsRow B e k v n xs):∃ p cap,v=.slice p n cap:=by
 rcases h.2 with ⟨rfl,rfl⟩ | ⟨g,cap,cur,rfl,_⟩
 ·exact ⟨_,_,rfl⟩
 ·exact ⟨_,_,rfl⟩
theorem own_base0 {w:World} {B B' n:Nat} {e:TypeId} {k:Nat} {v:Value} {xs:List Value} (h:w.ownsRow B e k v n xs) (hB:B'≤B):w.ownsRow B' e k v n xs:=by
 refine ⟨h.1,?_⟩
 rcases h.2 with h2 | ⟨g,cap,cur,hv,hb,r⟩
 ·exact .inl h2
 ·exact .inr ⟨g,cap,cur,hv,Nat.le_trans hB hb,r⟩
theorem cells_new (w:World) (cs:Array Value) (t:TypeId):∀ j u,cs.toList[j]?=some u→(w.alloc (.cells cs t)).cell? ((⟨w.heap.size,0,none⟩:Addr).add j)=some u:=by
 intro j u hj
 have hn:(w.alloc (.cells cs t)).heap[w.heap.size]?=some (.cells cs t (0,0)):=World.alloc_heap_new w _
 have:((⟨w.heap.size,0,none⟩:Addr).add j)=⟨w.heap.size,j,none⟩:=by simp [Addr.add];exact fun h=>h.symm
 rw [this,cell_blk0 hn]
 simpa using hj
end Go.Proofs.YtejiankgafjppaaGreatDoor
namespace Go.Proofs.YtejiankgafjppaaGreatDoor
open Go.RowKit Go.Maps Go.Shelf
open Sc
def SmallH (x:ByteArray × AGrip):Prop:=x.1.size≤16∧x.2.val.size≤32∧x.2.way<256
theorem be1 {n:Nat} (h:n<256):be 1 n=[n]:=by
 unfold be
 have:digit 1 n 0=n:=by unfold digit;simp;omega
 simp [List.range_succ,this]
end Go.Proofs.YtejiankgafjppaaGreatDoor
namespace Go.Proofs.YtejiankgafjppaaGreatDoor
open Go.RowKit Go.Maps
open Sc
def AShard.Small (s:AShard):Prop:=∀ p∈s.holds,SmallH (p.1.2,p.2)
structure RLock where
 key:ByteArray
 wr:Bool
 gone:Bool
 val:ByteArray
structure RTx where
 id:Nat
 st:Nat
 ops:Nat
 age:Nat
 locks:List RLock
structure RSh where
 table:List (ByteArray × ByteArray)
 txns:List RTx
def RLock.grip (l:RLock):AGrip:=⟨if l.wr=true then (if l.gone=true then 2 else 1) else 0,l.val⟩
def lockAt (ls:List RLock) (k:ByteArray):Option RLock:=ls.find? fun l=>decide (l.key=k)
def txAt (xs:List RTx) (t:Nat):Option RTx:=xs.find? fun x=>decide (x.id=t)
theorem find_ix {α:Type} (p:α→Bool):∀ (xs:List α),(∀ i,xs.findIdx? p=some i→∃ x,xs[i]?=some x∧p x=true∧xs.find? p=some x)∧(xs.findIdx? p=none→xs.find? p=none)
 | []=>⟨fun i h=>by simp at h,fun _=>rfl⟩
 | x :: xs=>by
  obtain ⟨h1,h2⟩:=find_ix p xs
  by_cases hx:p x=true
  ·refine ⟨fun i h=>?_,fun h=>?_⟩
   ·simp [List.findIdx?_cons,hx] at h
    subst h
    exact ⟨x,rfl,hx,by simp [hx]⟩
   ·simp [List.findIdx?_cons,hx] at h
  ·refine ⟨fun i h=>?_,fun h=>?_⟩
   ·simp [List.findIdx?_cons,hx] at h
    obtain ⟨j,hj,rfl⟩:=h
    obtain ⟨y,e1,e2,e3⟩:=h1 j hj
    exact ⟨y,by simpa using e1,e2,by simp [hx,e3]⟩
   ·simp only [List.findIdx?_cons,hx,Bool.false_eq_true,if_false,Option.map_eq_none_iff] at h
    rw [List.find?_cons_of_neg (by simpa using hx)]
    exact h2 h
def upd (xs:List RTx) (x:RTx):List RTx:=xs.map fun y=>if y.id=x.id then x else y
def del (xs:List RTx) (t:Nat):List RTx:=xs.filter fun y=>!decide (y.id=t)
def ins (xs:List RTx) (x:RTx):List RTx:=(xs.takeWhile fun y=>decide (y.id<x.id))++x :: (xs.dropWhile fun y=>decide (y.id<x.id))
def OnceK (ls:List RLock):Prop:=ls.Pairwise fun a b=>a.key≠b.key
structure RTx.Ok (ticks:Nat) (x:RTx):Prop where
 id0:x.id≠0
 idb:x.id<18446744073709551616
 st:x.st=1∨x.st=2∨x.st=3
 age:x.st≠3→x.age≤ticks∧x.age<16
 once:OnceK x.locks
 four:x.locks.length≤4
 small:∀ l∈x.locks,1≤l.key.size∧l.key.size≤16∧l.val.size≤32
 read:∀ l∈x.locks,l.wr=false→l.val=ByteArray.empty
section
variable {s:AShard} {R:RSh}
def RSh.state (R:RSh) (t:Nat):Nat:=((txAt R.txns t).map (·.st)).getD 0
def RSh.refuse (R:RSh) (t:Nat) (seq:Int) (k:ByteArray):Nat :=
 if t=0 then 7 else if k.size<1∨16<k.size then 1 else
 match txAt R.txns t with
 | some x=>if x.st=3 then 4 else if seq≠(x.ops:Int) then 4 else if x.st=2 then 3 else if (lockAt x.locks k).isSome=false∧x.locks.length=4 then 5 else 0
 | none=>if seq≠0 then 4 else if R.txns.length=12 then 5 else 0
def meetsAt (t:Nat) (k:ByteArray) (wr:Bool) (x:RTx):Bool:=!decide (x.id=t) && ((lockAt x.locks k).map fun l=>wr || l.wr).getD false
def meets (xs:List RTx) (t:Nat) (k:ByteArray) (wr:Bool):Bool:=xs.any (meetsAt t k wr)
def RSh.tx (R:RSh) (t:Nat):RTx:=(txAt R.txns t).getD ⟨t,1,0,0,[]⟩
def began (xs:List RTx) (t:Nat):List RTx:=if (txAt xs t).isSome=true then xs else ins xs ⟨t,1,0,0,[]⟩
def RTx.doomed (x:RTx):RTx:=⟨x.id,2,x.ops,0,x.locks⟩
def RTx.worked (x:RTx) (f:List RLock→List RLock):RTx:=⟨x.id,x.st,x.ops+1,0,f x.locks⟩
def RSh.op (R:RSh) (t:Nat) (seq:Int) (k:ByteArray) (wr:Bool) (f:List RLock→List RLock):RSh × Nat :=
 if R.refuse t seq k=0 then
  if meets (began R.txns t) t k wr=true then (⟨R.table,upd (began R.txns t) (R.tx t).doomed⟩,3)
  else (⟨R.table,upd (began R.txns t) ((R.tx t).worked f)⟩,0)
 else (R,R.refuse t seq k)
end
end Go.Proofs.YtejiankgafjppaaGreatDoor
