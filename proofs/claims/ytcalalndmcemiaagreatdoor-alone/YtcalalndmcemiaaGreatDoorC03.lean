import Derived.Test.YtcalalndmcemiaaGreatDoorC02
import Derived.BigQuiet
import Derived.Deep.RegionLaw
import Derived.Laws.BitsAll
import Derived.Defers
import Derived.Laws.Pointers
import Derived.Laws.LoneSync
import Derived.Laws.NewBlocks
import Derived.RegionCalls
set_option maxRecDepth 100000
set_option maxHeartbeats 16000000
namespace Go.Proofs.YtcalalndmcemiaaGreatDoor
open Go.RowKit Go.Maps
open Sc
def AGrip.writes (g:AGrip):Bool:=!decide (g.way=0)
theorem jGt (g:AGrip) (w:World):Calls Tryz.prog 63 #[.agg #[.int .u8 (g.way:Int),.string g.val]] w λe w'=>e=.returned (.bool g.writes)∧w'=w.alloc (.cells #[.int .u8 (g.way:Int),.string g.val] 134):=by
 go_enter Tryz.func63,Tryz.ntmps63
 go_wp2
 go_ret
 refine ⟨?_,rfl⟩
 congr 2
 unfold AGrip.writes
 by_cases h:g.way=0
 ·simp [h]
 ·simp [h]
def jE0 (s:AShard) (t:Nat) (k:ByteArray) (wr:Bool) (o:Nat):Bool :=
 (jA3 s.holds (o,k)).isSome && (!decide (o=t) && ((s.grip o k).writes || wr))
def AShard.clash (s:AShard) (t:Nat) (k:ByteArray) (wr:Bool):Bool:=s.txns.any λp=>jE0 s t k wr p.1
theorem jLi (sp lg bV bT bH n t:Nat) (k:ByteArray) (g:AGrip) (s:AShard) (w:World) (h:ShIn w sp lg bV bT bH n s) (hk:k.size≤maxLen) :
  Calls Tryz.prog 108 #[.pointer (some ⟨sp,0,none⟩),.int .u64 (t:Int),.string k,.agg #[.int .u8 (g.way:Int),.string g.val]] w λe w'=>e=.returned (.bool (s.clash t k g.writes))∧Fr [] w w':=by
 have HI:Hid (ShIn w sp lg bV bT bH n s):=h
 have c2:=jA0 h.blk 2
 simp at c2
 have hsp:sp<w.heap.size:=(Array.getElem?_eq_some_iff.1 h.blk).1
 clear h
 go_enter Tryz.func108,Tryz.ntmps108
 go_wp2_with (first
  | (at_range;refine jBd (KR:=KU) (ER:=ET) rfl _ 136 199 rfl Tryz.underlying136 bT n s.txns rfl (HI.out.txns.fr ((Fr.refl [] w).alloc _) sE) ?_;intro w0 hrg0 hg0 hs0)
  | go_in)
 have hsz1:(w.alloc (.cells #[.int .u8 (g.way:Int),.string g.val] 134)).heap.size=w.heap.size+1:=by simp
 rw [hsz1] at hrg0 hs0 ⊢
 clear hsz1
 go_frame
 have hf0:Fr [] w w0:=((Fr.refl [] w).alloc _).trans (Fr.of_grown hg0)
 have hgb0:w0.heap[w.heap.size]?=some (.cells #[.int .u8 (g.way:Int),.string g.val] 134):=by
  rw [hg0.block w.heap.size sE sE];exact heap_alloc_new _ _
 have HR0:Hid (RangesAs KU ET w0 bT (w.heap.size+1) n s.txns s.txns):=hrg0
 have hsz0:w0.heap.size=w.heap.size+2:=by omega
 have HF0:Hid (Fr [] w w0):=hf0
 have HGB0:Hid (w0.heap[w.heap.size]?=some (.cells #[.int .u8 (g.way:Int),.string g.val] 134)):=hgb0
 clear hrg0 hg0 hs0 hf0 hgb0
 go_loopw [9] (λ_ wr=>∃ rem,Hid (RangesAs KU ET wr bT (w.heap.size+1) n s.txns rem∧(∀ p∈s.txns,p∉rem→jE0 s t k g.writes p.1=false)∧Fr [] w wr∧wr.heap[w.heap.size]?=some (.cells #[.int .u8 (g.way:Int),.string g.val] 134)∧w.heap.size+2≤wr.heap.size)) (λ_ wr=>wr.rangeLeft bT (w.heap.size+1))
 case atStart=>exact ⟨s.txns,HR0.out,λp h1 h2=>absurd h1 h2,HF0.out,HGB0.out,by omega⟩
 case round =>
  obtain ⟨rem,HX⟩:=hrel
  have hrg:=HX.out.1
  go_wp2_with (first
   | (at_next;refine jBp (KR:=KU) (ER:=ET) rfl _ rfl bT (w.heap.size+1) n s.txns rem rfl hrg ?_ ?_)
   | go_in)
  ·intro hnil
   go_wp2
   go_ret
   refine ⟨?_,HX.out.2.2.1⟩
   have hno:s.clash t k g.writes=false:=by
    unfold AShard.clash
    rw [List.any_eq_false]
    intro p hp
    rw [HX.out.2.1 p hp (by rw [hnil];simp)]
    simp
   rw [hno];rfl
  ·intro o x w2 hm hrg2 hlt hg2 hs2 hen
   have hms:(o,x)∈s.txns:=by
    obtain ⟨_,_,_,_,_,_,_,_,h6,_⟩:=hrg
    exact h6 _ hm
   have ho:o<18446744073709551616:=by
    obtain ⟨_,_,_,_,hok⟩:=hrg.owns
    exact (hok _ hms).1
   have hf2:Fr [] w w2:=HX.out.2.2.1.andThen (Fr.of_grown1 hg2) (λj hj hl=>by simp at hj;omega)
   have hin2:=HI.out.fr hf2 sE sE sE sE
   have hgb2:w2.heap[w.heap.size]?=some (.cells #[.int .u8 (g.way:Int),.string g.val] 134):=by
    rw [hg2.block w.heap.size (by have:=HX.out.2.2.2.2;omega) sE];exact HX.out.2.2.2.1
   have c3:=jA0 hin2.blk 3
   simp at c3
   have hl:=hin2.lookHok ho hk
   have HH:Hid (jE0 s t k g.writes o=((jA3 s.holds (o,k)).isSome && (!decide (o=t) && ((s.grip o k).writes || g.writes)))):=rfl
   obtain ⟨G,hG⟩:∃ G,G=s.grip o k:=⟨_,rfl⟩
   obtain ⟨O,hO⟩:∃ O,O=(jA3 s.holds (o,k)).isSome:=⟨_,rfl⟩
   rw [← hG,← hO] at hl HH
   clear hG hO
   have HRG2:Hid (RangesAs KU ET w2 bT (w.heap.size+1) n s.txns (jAi rem o)):=hrg2
   have HF2:Hid (Fr [] w w2):=hf2
   have HGB2:Hid (w2.heap[w.heap.size]?=some (.cells #[.int .u8 (g.way:Int),.string g.val] 134)):=hgb2
   have hsz2:w.heap.size+2≤w2.heap.size:=by have:=HX.out.2.2.2.2;omega
   have hen':(Instr.entry (.pointer (some ⟨w.heap.size+1,0,none⟩))).run Tryz.prog w2=.ok (.tuple #[.int .u64 (o:Int),.agg #[.int .i64 (x.state:Int),.int .i64 (x.done:Int),.int .u64 (x.last:Int)]]) w2:=hen
   have HM:Hid ((o,x)∈rem∧(o,x)∈s.txns):=⟨hm,hms⟩
   have HLT:Hid (w2.rangeLeft bT (w.heap.size+1)<wr.rangeLeft bT (w.heap.size+1)):=hlt
   clear hrg hrg2 hf2 hin2 hgb2 hm hms hen hg2 hs2 hlt
   have GO:Hid (jE0 s t k g.writes o=false→∀ W,Fr [] w2 W→(∃ rem,Hid (RangesAs KU ET W bT (w.heap.size+1) n s.txns rem∧(∀ p∈s.txns,p∉rem→jE0 s t k g.writes p.1=false)∧Fr [] w W∧W.heap[w.heap.size]?=some (.cells #[.int .u8 (g.way:Int),.string g.val] 134)∧w.heap.size+2≤W.heap.size))∧W.rangeLeft bT (w.heap.size+1)<wr.rangeLeft bT (w.heap.size+1)):=λhc W hW=>by
    obtain ⟨r1,r2⟩:=HRG2.out.fr hW sE sE
    refine ⟨⟨jAi rem o,r1,λp hp hn=>?_,HF2.out.trans hW,(hW.block _ oE sE).trans HGB2.out,Nat.le_trans hsz2 hW.size⟩,by rw [r2];exact HLT.out⟩
    by_cases hpr:p∈rem
    ·have hpo:p.1=o:=Decidable.byContradiction λhne=>hn (List.mem_filter.2 ⟨hpr,by simp [hne]⟩)
     rw [hpo];exact hc
    ·exact HX.out.2.1 p hp hpr
   have YES:Hid (jE0 s t k g.writes o=true→s.clash t k g.writes=true):=λhc=>by
    unfold AShard.clash
    rw [List.any_eq_true]
    exact ⟨_,HM.out.2,hc⟩
   cases O with
   | false =>
    have GO2:Hid _:=GO.out (by rw [HH.out];rfl)
    clear GO YES
    go_wp2
    exact GO2.out _ ((Fr.refl [] w2).alloc _)
   | true =>
    have q0:=jA0 HGB2.out 0
    have q1:=jA0 HGB2.out 1
    simp at q0 q1
    have z1:w.heap.size<w2.heap.size:=by omega
    have z2:¬ w.heap.size=w2.heap.size:=by omega
    have z3:¬ w.heap.size=w2.heap.size+1:=by omega
    by_cases hot:o=t
    ·have GO2:Hid _:=GO.out (by rw [HH.out];simp [hot])
     have hb:((o:Int) != (t:Int))=false:=by simp [hot]
     clear GO YES hot
     go_wp2
     exact GO2.out _ ((Fr.refl [] w2).alloc _)
    ·have hb:((o:Int) != (t:Int))=true:=by simp;omega
     by_cases hG0:G.way=0
     ·have hb1:((G.way:Int) != 0)=false:=by simp [hG0]
      have hGw:G.writes=false:=by simp [AGrip.writes,hG0]
      by_cases hg0:g.way=0
      ·have hb2:((g.way:Int) != 0)=false:=by simp [hg0]
       have hgw:g.writes=false:=by simp [AGrip.writes,hg0]
       have GO2:Hid _:=GO.out (by rw [HH.out,hGw,hgw];simp)
       clear GO YES hot hG0 hg0 hGw hgw
       go_wp2
       exact GO2.out _ ((((Fr.refl [] w2).alloc _).alloc _).alloc _)
      ·have hb2:((g.way:Int) != 0)=true:=by simp [hg0]
       have hgw:g.writes=true:=by simp [AGrip.writes,hg0]
       have YES2:Hid _:=YES.out (by rw [HH.out,hGw,hgw];simp [hot])
       clear GO YES hot hG0 hg0 hGw hgw
       go_wp2
       go_ret
       exact ⟨by rw [YES2.out];rfl,HF2.out.trans ((((Fr.refl [] w2).alloc _).alloc _).alloc _)⟩
     ·have hb1:((G.way:Int) != 0)=true:=by simp [hG0]
      have hGw:G.writes=true:=by simp [AGrip.writes,hG0]
      have YES2:Hid _:=YES.out (by rw [HH.out,hGw];simp [hot])
      clear GO YES hot hG0 hGw
      go_wp2
      go_ret
      exact ⟨by rw [YES2.out];rfl,HF2.out.trans (((Fr.refl [] w2).alloc _).alloc _)⟩
theorem ShIn.mono {w:World} {sp lg bV bT bH n m:Nat} {s:AShard} (h:ShIn w sp lg bV bT bH n s) (hn:n≤m):ShIn w sp lg bV bT bH m s :=
 { h with vals:=h.vals.mono hn,txns:=h.txns.mono hn,holds:=h.holds.mono hn }
theorem ShIn.lts {w:World} {sp lg bV bT bH n:Nat} {s:AShard} (h:ShIn w sp lg bV bT bH n s):sp<w.heap.size∧bV<w.heap.size∧bT<w.heap.size∧bH<w.heap.size∧sp≠bV∧sp≠bT∧sp≠bH:=by
 refine ⟨(Array.getElem?_eq_some_iff.1 h.blk).1,h.vals.lt,h.txns.lt,h.holds.lt,?_,?_,?_⟩
 ·rintro rfl;obtain ⟨es,c,e⟩:=h.vals.isMap;rw [h.blk] at e;cases e
 ·rintro rfl;obtain ⟨es,c,e⟩:=h.txns.isMap;rw [h.blk] at e;cases e
 ·rintro rfl;obtain ⟨es,c,e⟩:=h.holds.isMap;rw [h.blk] at e;cases e
theorem ShIn.setHolds {w w':World} {sp lg bV bT bH n m:Nat} {s:AShard} {hs:List ((Nat × ByteArray) × AGrip)} (h:ShIn w sp lg bV bT bH n s) (hf:Fr [bH] w w') (hm:MapAs KH EG w' bH m hs) (hn:n≤m):ShIn w' sp lg bV bT bH m { s with holds:=hs } :=
 { blk:=(hf.block sp h.lts.1 (by simp;exact h.lts.2.2.2.2.2.2)).trans h.blk,vals:=(h.vals.fr hf (by simp;exact h.ne.2.1)).mono hn,txns:=(h.txns.fr hf (by simp;exact h.ne.2.2)).mono hn,holds:=hm,ne:=h.ne,ticks:=h.ticks }
def AShard.take (s:AShard) (t:Nat) (k:ByteArray) (g:AGrip):AShard:=if (g.writes || !(s.grip t k).writes)=true then { s with holds:=jAb s.holds (t,k) g } else s
end Go.Proofs.YtcalalndmcemiaaGreatDoor
set_option maxRecDepth 100000
set_option maxHeartbeats 16000000
namespace Go.Proofs.YtcalalndmcemiaaGreatDoor
open Go.RowKit
def jB0 (d:ADisk) (o:AOp) (B p bD bN n nD:Nat) (pv:Value) (w:World) (e:Ending) (w':World):Prop :=
 e=.returned (errN (d.tell o).2)∧(∃ pv' nN',DiskIn w' B p bD bN pv' (d.tell o).1 (n+1) nD nN'∧Near w.heap.size pv pv')∧Fr (dS p bD bN pv) w w'
theorem jEw {d:ADisk} {o:AOp} (h:d.writes.2=10):d.tell o=({ d.writes.1 with pending:=d.writes.1.pending++[o] },10):=by unfold ADisk.tell;simp [h]
theorem jEx {d:ADisk} {o:AOp} (h:d.writes.2=9):d.tell o=(d.writes.1,9):=by unfold ADisk.tell;simp [h]
theorem jJg {d:ADisk} {o:AOp} (h:d.writes.2=0) (h1:d.writes.1.now o.name=none∧2<o.kind):d.tell o=(d.writes.1,8):=by unfold ADisk.tell;simp [h,h1]
theorem jFo {d:ADisk} {o:AOp} (h:d.writes.2=0) (h1:¬ (d.writes.1.now o.name=none∧2<o.kind)) (h2:¬ (o.kind=4∧o.name=o.to)):d.tell o=({ d.writes.1 with now:=doOp d.writes.1.now o,pending:=d.writes.1.pending++[o] },0):=by unfold ADisk.tell;rw [if_neg (by rw [h];decide),if_neg (by rw [h];decide),if_neg h1,if_neg h2]
theorem jC1 (d:ADisk):d.writes.2=10∨d.writes.2=9∨d.writes.2=0:=by
 unfold ADisk.writes;split
 ·simp
 ·split <;> simp
theorem DiskIn.pend0 {w w1 w2:World} {B p bD bN n nD nN:Nat} {pv pv':Value} {d:ADisk} {o:AOp} (h:DiskIn w B p bD bN pv d n nD nN) (ho:o.Ok 4096)
  (hg:w.grownBy w1 pv.ownBlock) (hr:w1.ownsRow B 182 4 pv' (d.pending.length+1) (opsV (d.pending++[o]))) (hw2:w2=w1.setCell ⟨p,2,none⟩ pv') :
  (∀ n',nD+(d.pending++[o]).length≤n'→nN≤n'→n'≤67108864→DiskIn w2 B p bD bN pv' { d with pending:=d.pending++[o] } n' nD nN)∧Fr (p :: pv.ownBlock.toList) w w2:=by
 have hp1:w1.heap[p]?=some (dskO bD bN pv d.left d.full d.down):=(hg.block p (Array.getElem?_eq_some_iff.1 h.blk).1 (λe=>jAe h.pen h.blk dN e.symm)).trans h.blk
 have hf1:Fr pv.ownBlock.toList w w1:=Fr.of_grown hg
 have hf2:Fr (p :: pv.ownBlock.toList) w w2:=by
  rw [hw2]
  exact (hf1.mono (λk _ hk=>List.mem_cons_of_mem _ hk)).setCell (Or.inl sE) _
 have hns:∀ q∈p :: pv.ownBlock.toList,∀ t,w.heap[q]?≠some (jBc t):=by
  intro q hq t e
  rcases List.mem_cons.1 hq with rfl | hq
  ·rw [h.blk] at e;cases e
  ·simp at hq
   exact jAe h.pen e dN hq
 have hnm:∀ (b k:Nat) (m:Files),FileMap w b k m→b∉p :: pv.ownBlock.toList:=by
  intro b k m hm hb
  rcases List.mem_cons.1 hb with rfl | hb
  ·exact hm.ne_cells h.blk rfl
  ·simp at hb
   obtain ⟨c,hc⟩:=jA4 h.pen hb
   exact hm.ne_cells hc rfl
 refine ⟨λn' hn1 hn2 hn3=>?_,hf2⟩
 subst hw2
 have hpp:∀ g,pv'.ownBlock=some g→g≠p:=by
  intro g hgv e
  subst e
  exact jAe hr hp1 dN hgv
 refine { blk:=?_,base:=⟨h.base.1,h.base.2.1,h.base.2.2.1,Nat.le_trans h.base.2.2.2 hf2.size⟩,ne:=h.ne,dur:=h.dur.fr hf2 (hnm _ _ _ h.dur) hns,now:=h.now.fr hf2 (hnm _ _ _ h.now) hns,pen:=?_,hD:=hn1,hN:=hn2,hn:=hn3,leD:=h.leD,leN:=h.leN,ops:=?_ }
 ·have:=jA5 hp1 2 pv';simpa using this
 ·have:=jA7 hr (S:=[p]) (Fr.set1 (w:=w1) (p:=p) sE 2 pv') (λg hgv=>by simp;exact hpp g hgv)
  simpa using this
 ·intro x hx
  rcases List.mem_append.1 hx with hx | hx
  ·exact h.ops x hx
  ·simp at hx;subst hx;exact ho
theorem DiskIn.pend {w w1 w2:World} {B p bD bN n nD nN:Nat} {pv pv':Value} {d:ADisk} {o:AOp} (h:DiskIn w B p bD bN pv d n nD nN) (hn:n<67108864) (ho:o.Ok 4096)
  (hg:w.grownBy w1 pv.ownBlock) (hr:w1.ownsRow B 182 4 pv' (d.pending.length+1) (opsV (d.pending++[o]))) (hw2:w2=w1.setCell ⟨p,2,none⟩ pv') :
  DiskIn w2 B p bD bN pv' { d with pending:=d.pending++[o] } (n+1) nD nN∧Fr (p :: pv.ownBlock.toList) w w2:=by
 obtain ⟨q1,q2⟩:=DiskIn.pend0 h ho hg hr hw2
 exact ⟨q1 (n+1) (by have:=h.hD;simp;omega) (by have:=h.hN;omega) oE,q2⟩
theorem DiskIn.pend' {w w1 w2:World} {B p bD bN n nD nN:Nat} {pv pv':Value} {d:ADisk} {o:AOp} {N:Files} (h:DiskIn w B p bD bN pv { d with now:=N } (n+1) nD (nN+1)) (ho:o.Ok 4096)
  (hg:w.grownBy w1 pv.ownBlock) (hr:w1.ownsRow B 182 4 pv' (d.pending.length+1) (opsV (d.pending++[o]))) (hw2:w2=w1.setCell ⟨p,2,none⟩ pv') (hD:nD+d.pending.length≤n) :
  DiskIn w2 B p bD bN pv' { d with now:=N,pending:=d.pending++[o] } (n+1) nD (nN+1)∧Fr (p :: pv.ownBlock.toList) w w2:=by
 obtain ⟨q1,q2⟩:=DiskIn.pend0 h ho hg hr hw2
 exact ⟨q1 (n+1) (by simp;omega) h.hN h.hn,q2⟩
theorem jBy {w:World} {B n:Nat} {e:TypeId} {k:Nat} {v:Value} {xs:List Value} (h:w.ownsRow B e k v (n+1) xs):∃ g cap,v=.slice (some ⟨g,0,none⟩) (n+1) cap:=by
 rcases h.2 with ⟨_,h3⟩ | ⟨g,cap,cur,rfl,_⟩
 ·omega
 ·exact ⟨g,cap,rfl⟩
theorem jHe {w1 w4:World} {B p bD bN n nD nN q:Nat} {pv:Value} {d:ADisk} {o:AOp} (h:DiskIn w1 B p bD bN pv d n nD nN) (hq:w1.heap[q]?=some (opO o)) (hg:(w1.alloc (opO o)).drew.grownBy w4 pv.ownBlock) (hne:pv.ownBlock≠some q) :
  w4.cell? ⟨p,2,none⟩=some pv∧w4.frozen? ⟨p,2,none⟩=false∧w4.cell? ⟨q,0,none⟩=some (.int .i64 o.kind)∧w4.cell? ⟨q,1,none⟩=some (.string o.name)∧w4.cell? ⟨q,2,none⟩=some (.string o.to)∧w4.cell? ⟨q,3,none⟩=some (.string o.data):=by
 have hpl:=(Array.getElem?_eq_some_iff.1 h.blk).1
 have hql:=(Array.getElem?_eq_some_iff.1 hq).1
 have k1:w4.heap[p]?=some (dskO bD bN pv d.left d.full d.down):=by
  rw [hg.block p (by simp;omega) (λe=>jAe h.pen h.blk dN e.symm)]
  exact (Below.heap_alloc w1 _ p hpl).trans h.blk
 have k2:w4.heap[q]?=some (opO o):=by
  rw [hg.block q (by simp;omega) (λe=>hne e.symm)]
  exact (Below.heap_alloc w1 _ q hql).trans hq
 refine ⟨(jA0 k1 2).trans sE,jA2 k1 2,(jA0 k2 0).trans sE,(jA0 k2 1).trans sE,(jA0 k2 2).trans sE,(jA0 k2 3).trans sE⟩
theorem DiskIn.done {w1 w2:World} {B p bD bN n nD nN q:Nat} {pv:Value} {d:ADisk} {o:AOp} (h:DiskIn w1 B p bD bN pv d n nD nN) (hq:w1.heap[q]?=some (opO o)) (hF:FileMap w2 bN (nN+1) (doOp d.now o)) (hg:w1.grownBy w2 (some bN)) (hn:n<67108864) (ho:o.Ok 4096) :
  DiskIn w2 B p bD bN pv { d with now:=doOp d.now o } (n+1) nD (nN+1)∧w2.heap[q]?=some (opO o)∧Fr [bN] w1 w2:=by
 have hf:=Fr.of_grown1 hg
 have hnt:∀ r∈[bN],∀ t,w1.heap[r]?≠some (jBc t):=by
  intro r hr t e;simp at hr;subst hr;exact h.now.ne_cells e rfl
 refine ⟨?_,(hf.block q (Array.getElem?_eq_some_iff.1 hq).1 (by simp;exact λe=>h.now.ne_cells hq e.symm)).trans hq,hf⟩
 refine { blk:=(hf.block p (Array.getElem?_eq_some_iff.1 h.blk).1 (by simp;exact λe=>h.now.ne_cells h.blk e.symm)).trans h.blk,base:=⟨h.base.1,h.base.2.1,h.base.2.2.1,Nat.le_trans h.base.2.2.2 hf.size⟩,ne:=h.ne,dur:=h.dur.fr hf (by simp;exact h.ne) hnt,now:=hF,pen:=jA7 h.pen hf (λg hgv=>by simp;intro e;subst e;obtain ⟨c,hc⟩:=jA4 h.pen hgv;exact h.now.ne_cells hc rfl),hD:=by have:=h.hD;simp;omega,hN:=by have:=h.hN;omega,hn:=by omega,leD:=h.leD,leN:=?_,ops:=h.ops }
 ·have:=jRr h.leN ho
  intro k t ht
  have:=this k t ht
  omega
theorem Tryz.eqDD (w:World):(binOp .eql 82 (.iface 44 (.int .i64 10)) (.iface 44 (.int .i64 10))).run Tryz.prog w=.ok (.bool true) w:=by kernel_rfl
theorem Tryz.eqFD (w:World):(binOp .eql 82 (.iface 44 (.int .i64 9)) (.iface 44 (.int .i64 10))).run Tryz.prog w=.ok (.bool false) w:=by kernel_rfl
end Go.Proofs.YtcalalndmcemiaaGreatDoor
set_option maxRecDepth 100000
set_option maxHeartbeats 16000000
namespace Go.Proofs.YtcalalndmcemiaaGreatDoor
open Go.RowKit
open Sc
theorem and1 (X:Nat) (h:X<4294967296):bits .and .u32 (X:Int) 1=((X % 2:Nat):Int):=by
 have:=u32_and_nat X 1 h oE
 rw [Nat.and_one_is_mod] at this
 exact this
theorem xorP (X:Nat) (h:X<4294967296):bits .xor .u32 (X:Int) 3988292384=((X ^^^ 3988292384:Nat):Int):=u32_xor_nat X 3988292384 h oE
theorem notU (X:Nat) (h:X<4294967296):bits .xor .u32 4294967295 (X:Int)=((4294967295 ^^^ X:Nat):Int):=u32_xor_nat 4294967295 X oE h
theorem jUg (X:Nat) (h:X % 2=1):half X=X / 2 ^^^ 3988292384:=by unfold half;rw [if_pos h]
theorem jSi (X:Nat) (h:¬ X % 2=1):half X=X / 2:=by unfold half;rw [if_neg h]
theorem jPd {k:IntKind} {a b:Int} (h:a=b):Ending.returned (.int k a)=.returned (.int k b):=by rw [h]
theorem jDt {k:IntKind} {a b:Int} (h:a=b):Value.int k a=.int k b:=by rw [h]
theorem jEz (n k j:Nat):((n:Int) / 2 ^ (8*(k - 1 - j)) % 256)=((digit k n j:Nat):Int):=by
 unfold digit
 rw [show (256:Nat) ^ (k - 1 - j)=2 ^ (8*(k - 1 - j)) by rw [Nat.pow_mul]]
 simp
def cutA (b off k cap:Nat):Option Addr:=if cap=k then some ⟨b,off,none⟩ else some ⟨b,off+k,none⟩
theorem jCp {b off k cap:Nat} (h:k<cap):cutA b off k cap=some ⟨b,off+k,none⟩:=by unfold cutA;rw [if_neg oE]
theorem jEr (b off k:Nat):cutA b off k k=some ⟨b,off,none⟩:=by unfold cutA;rw [if_pos rfl]
theorem jFk (xs:List Nat) (k n j:Nat):bs (xs++(List.range (j+1)).map (digit k n))=bs (xs++(List.range j).map (digit k n))++[.int .u8 ((digit k n j:Nat):Int)]:=by
 rw [List.range_succ,List.map_append,← List.append_assoc,jQ2];rfl
theorem jK6 (w:World):Calls Tryz.prog 224 #[] w λe w'=>e=.returned (.int .i64 2)∧w'=w:=by
 have hsg:IntKind.u16.signed=false:=rfl
 have hb:bits .xor .u16 IntKind.u16.max 0=65535:=by decide +kernel
 go_enter Tryz.func224,Tryz.ntmps224
 go_wp2
 go_ret
 refine ⟨?_,rfl⟩
 kernel_rfl
theorem jVi (base g k cap:Nat) (xs:List Nat) (n:Nat) (w:World) (hown:w.ownsRow base 5 1 (.slice (some ⟨g,0,none⟩) k cap) k (bs xs)) (hr:k+2≤cap) (hn:n<65536) :
  Calls Tryz.prog 177 #[.slice (some ⟨g,0,none⟩) k cap,.int .u16 n] w λe w'=>e=.returned (.slice (some ⟨g,0,none⟩) (k+2) cap)∧w'.ownsRow base 5 1 (.slice (some ⟨g,0,none⟩) (k+2) cap) (k+2) (bs (xs++be 2 n))∧w.grownBy w' (some g):=by
 obtain ⟨i0,hi,hz0,hz1,hz2⟩:=info_parts Tryz.info5
 have HNN:Hid (n<65536):=hn
 skip
 go_enter Tryz.func177,Tryz.ntmps177
 go_wp2_with (go_at_call 224;refine (jK6 _).mono ?_;rintro e w' ⟨rfl,hw⟩;have hw2:=hw.symm;subst hw2;clear hw)
 go_loopw [0,5] (λv i wr=>∃ j:Nat,j≤2∧i=.int .i64 ((2:Int) - 1 - j)∧v=.slice (some ⟨g,0,none⟩) (k+j) cap∧wr.ownsRow base 5 1 (.slice (some ⟨g,0,none⟩) (k+j) cap) (k+j) (bs (xs++(List.range j).map (digit 2 n)))∧w.grownBy wr (some g)) (λ_ i _=>(intOf i+1).toNat)
 case atStart=>exact ⟨0,Nat.zero_le _,by go_num,rfl,by simpa using hown,jAx _ _⟩
 case round =>
  obtain ⟨j,hj,rfl,rfl,hownr,hgr⟩:=hrel
  by_cases hlt:j<2
  ·have HD:Hid (((n:Int) / 2 ^ (8*(1 - j)) % 256)=((digit 2 n j:Nat):Int)):=jEz n 2 j
   skip
   skip
   go_wp2_with (at_builtin;refine wpList_append_fits _ rfl _ _ 88 rfl base 5 i0 1 Tryz.underlying88 hi hz1 g (k+j) cap _ rfl (hownr.alloc _) ⟨wr.heap.size,0,none⟩ 1 1 [.int .u8 ((n:Int) / 2 ^ (8*(1 - j)) % 256)] rfl rfl ?c1 ?c2 ?c3 ?_)
   case c1 =>
    intro jj u hjj
    match jj,hjj with
    | 0,hjj=>simp at hjj;subst hjj;simp [Addr.add]
   case c2=>intro u hu;simp at hu;subst hu;rfl
   case c3=>omega
   ·intro w1 hown' hgrow
    have hG1:w.grownBy w1 (some g):=jAa hgr (jAa (jAo _ _ _) hgrow)
    have hO1:w1.ownsRow base 5 1 (.slice (some ⟨g,0,none⟩) (k+(j+1)) cap) (k+(j+1)) (bs (xs++(List.range (j+1)).map (digit 2 n))):=by
     rw [HD.out] at hown'
     rw [jFk,← Nat.add_assoc]
     exact hown'
    clear hown' hgrow hownr hgr
    go_wp2
    go_roundw
    case rel=>exact ⟨j+1,by omega,jDt oE,rfl,hO1,hG1⟩
    case measure=>simp [intOf] <;> omega
  ·have ek:j=2:=by omega
   subst ek
   go_wp2
   go_ret
   exact ⟨rfl,hownr,hgr⟩
theorem jVk (C A:Nat) (hC:C<72057594037927936) (ha:A<256):bits .or .u64 ((C:Int)*256) (A:Int)=((C*256+A:Nat):Int):=by
 have h:=u64_or_nat (C*256) A oE oE
 rw [show ((C:Int)*256)=((C*256:Nat):Int) by omega,h]
 congr 1
 rw [show C*256=C <<< 8 from (Nat.shiftLeft_eq C 8).symm,← Nat.shiftLeft_add_eq_or_of_lt (show A<2 ^ 8 from ha)]
theorem take_u16 (b off n cap:Nat) (l:List Nat) (w:World) (hl:Byt l) (hn:l.length=n) (hw:2≤n) (hcap:n≤cap) (hcap2:cap≤maxLen) (hc:RowAt w b off l) :
  Calls Tryz.prog 286 #[.slice (some ⟨b,off,none⟩) n cap] w λe w'=>e=.returned (.tuple #[.int .u16 (val (l.take 2):Nat),.slice (cutA b off 2 cap) (n - 2) (cap - 2)])∧∃ q,w'=w.drewN q:=by
 have HN:Hid (l.length=n):=hn
 clear hn
 unfold maxLen at hcap2
 have i1:(2:Int)≤(cap:Int):=by omega
 have i2:(2:Int)≤(n:Int):=by omega
 go_enter Tryz.func286,Tryz.ntmps286
 go_wp2_with (go_at_call 224;refine (jK6 _).mono ?_;rintro e w' ⟨rfl,hw⟩;have hw2:=hw.symm;subst hw2;clear hw)
 go_loop [5,13] (λc i=>∃ k:Nat,k≤2∧i=.int .i64 k∧c=.int .u64 (val (l.take k):Nat)) (λ_ i=>2 - (intOf i).toNat)
 case atStart=>exact ⟨0,Nat.zero_le _,rfl,rfl⟩
 case round =>
  obtain ⟨k,hk,rfl,rfl⟩:=hrel
  by_cases hlt:k<2
  ·have hcx:=hc k (by rw [HN.out];omega)
   have HRow:Hid (RowAt w b off l):=hc
   clear hc
   have ha:=jIs hl k
   have hB:val (l.take k)<72057594037927936:=by
    have h1:=jFw (l.take k) (hl.take_ k)
    have h2:(l.take k).length≤7:=by rw [List.length_take,HN.out];omega
    have h3:256 ^ (l.take k).length≤256 ^ 7:=Nat.pow_le_pow_right oE h2
    omega
   obtain ⟨C,hC⟩:∃ C,C=val (l.take k):=⟨_,rfl⟩
   rw [← hC] at hB ⊢
   have HC:Hid (val (l.take (k+1))=C*256+at_ l k):=by
    show _=_
    rw [jFj l k (by rw [HN.out];omega),jF9,hC]
   clear hC
   have ho:=jVk C (at_ l k) hB ha
   go_wp2
   go_round
   case rel=>exact ⟨k+1,by omega,by go_num,by rw [HC.out];exact jDt (by omega)⟩
   case measure=>simp [intOf];omega
  ·have ek:k=2:=by omega
   subst ek
   have hB:val (l.take 2)<65536:=by
    have h1:=jFw (l.take 2) (hl.take_ 2)
    have h2:(l.take 2).length=2:=by rw [List.length_take,HN.out];omega
    rw [h2] at h1
    exact h1
   by_cases hcw:cap=2
   ·subst hcw
    obtain rfl:n=2:=by omega
    skip
    go_wp2
    go_quiet (fail)
    go_wp2
    go_ret2
    refine ⟨?_,_,rfl⟩
    rw [jEr]
    rfl
   ·skip
    go_wp2
    go_quiet (fail)
    go_wp2
    go_ret2
    refine ⟨?_,_,rfl⟩
    rw [jCp oE]
    rfl
theorem jEn (w:World):Calls Tryz.prog 193 #[] w λe w'=>e=.returned (.int .i64 8)∧w'=w:=by
 have hsg:IntKind.u64.signed=false:=rfl
 have hb:bits .xor .u64 IntKind.u64.max 0=18446744073709551615:=by decide +kernel
 go_enter Tryz.func193,Tryz.ntmps193
 go_wp2
 go_ret
 refine ⟨?_,rfl⟩
 kernel_rfl
theorem jQ8 (base g k cap:Nat) (xs:List Nat) (n:Nat) (w:World) (hown:w.ownsRow base 5 1 (.slice (some ⟨g,0,none⟩) k cap) k (bs xs)) (hr:k+8≤cap) (hn:n<18446744073709551616) :
  Calls Tryz.prog 149 #[.slice (some ⟨g,0,none⟩) k cap,.int .u64 n] w λe w'=>e=.returned (.slice (some ⟨g,0,none⟩) (k+8) cap)∧w'.ownsRow base 5 1 (.slice (some ⟨g,0,none⟩) (k+8) cap) (k+8) (bs (xs++be 8 n))∧w.grownBy w' (some g):=by
 obtain ⟨i0,hi,hz0,hz1,hz2⟩:=info_parts Tryz.info5
 have HNN:Hid (n<18446744073709551616):=hn
 clear hn
 go_enter Tryz.func149,Tryz.ntmps149
 go_wp2_with (go_at_call 193;refine (jEn _).mono ?_;rintro e w' ⟨rfl,hw⟩;have hw2:=hw.symm;subst hw2;clear hw)
 go_loopw [0,5] (λv i wr=>∃ j:Nat,j≤8∧i=.int .i64 ((8:Int) - 1 - j)∧v=.slice (some ⟨g,0,none⟩) (k+j) cap∧wr.ownsRow base 5 1 (.slice (some ⟨g,0,none⟩) (k+j) cap) (k+j) (bs (xs++(List.range j).map (digit 8 n)))∧w.grownBy wr (some g)) (λ_ i _=>(intOf i+1).toNat)
 case atStart=>exact ⟨0,Nat.zero_le _,by go_num,rfl,by simpa using hown,jAx _ _⟩
 case round =>
  obtain ⟨j,hj,rfl,rfl,hownr,hgr⟩:=hrel
  by_cases hlt:j<8
  ·have HD:Hid (((n:Int) / 2 ^ (8*(7 - j)) % 256)=((digit 8 n j:Nat):Int)):=jEz n 8 j
   skip
   skip
   go_wp2_with (at_builtin;refine wpList_append_fits _ rfl _ _ 88 rfl base 5 i0 1 Tryz.underlying88 hi hz1 g (k+j) cap _ rfl (hownr.alloc _) ⟨wr.heap.size,0,none⟩ 1 1 [.int .u8 ((n:Int) / 2 ^ (8*(7 - j)) % 256)] rfl rfl ?c1 ?c2 ?c3 ?_)
   case c1 =>
    intro jj u hjj
    match jj,hjj with
    | 0,hjj=>simp at hjj;subst hjj;simp [Addr.add]
   case c2=>intro u hu;simp at hu;subst hu;rfl
   case c3=>omega
   ·intro w1 hown' hgrow
    have hG1:w.grownBy w1 (some g):=jAa hgr (jAa (jAo _ _ _) hgrow)
    have hO1:w1.ownsRow base 5 1 (.slice (some ⟨g,0,none⟩) (k+(j+1)) cap) (k+(j+1)) (bs (xs++(List.range (j+1)).map (digit 8 n))):=by
     rw [HD.out] at hown'
     rw [jFk,← Nat.add_assoc]
     exact hown'
    clear hown' hgrow hownr hgr
    go_wp2
    go_roundw
    case rel=>exact ⟨j+1,by omega,jDt oE,rfl,hO1,hG1⟩
    case measure=>simp [intOf] <;> omega
  ·have ek:j=8:=by omega
   subst ek
   go_wp2
   go_ret
   exact ⟨rfl,hownr,hgr⟩
theorem jVm (C A:Nat) (hC:C<72057594037927936) (ha:A<256):bits .or .u64 ((C:Int)*256) (A:Int)=((C*256+A:Nat):Int):=by
 have h:=u64_or_nat (C*256) A oE oE
 rw [show ((C:Int)*256)=((C*256:Nat):Int) by omega,h]
 congr 1
 rw [show C*256=C <<< 8 from (Nat.shiftLeft_eq C 8).symm,← Nat.shiftLeft_add_eq_or_of_lt (show A<2 ^ 8 from ha)]
theorem jNb (b off n cap:Nat) (l:List Nat) (w:World) (hl:Byt l) (hn:l.length=n) (hw:8≤n) (hcap:n≤cap) (hcap2:cap≤maxLen) (hc:RowAt w b off l) :
  Calls Tryz.prog 246 #[.slice (some ⟨b,off,none⟩) n cap] w λe w'=>e=.returned (.tuple #[.int .u64 (val (l.take 8):Nat),.slice (cutA b off 8 cap) (n - 8) (cap - 8)])∧∃ q,w'=w.drewN q:=by
 have HN:Hid (l.length=n):=hn
 clear hn
 unfold maxLen at hcap2
 have i1:(8:Int)≤(cap:Int):=by omega
 have i2:(8:Int)≤(n:Int):=by omega
 go_enter Tryz.func246,Tryz.ntmps246
 go_wp2_with (go_at_call 193;refine (jEn _).mono ?_;rintro e w' ⟨rfl,hw⟩;have hw2:=hw.symm;subst hw2;clear hw)
 go_loop [5,13] (λc i=>∃ k:Nat,k≤8∧i=.int .i64 k∧c=.int .u64 (val (l.take k):Nat)) (λ_ i=>8 - (intOf i).toNat)
 case atStart=>exact ⟨0,Nat.zero_le _,rfl,rfl⟩
 case round =>
  obtain ⟨k,hk,rfl,rfl⟩:=hrel
  by_cases hlt:k<8
  ·have hcx:=hc k (by rw [HN.out];omega)
   have HRow:Hid (RowAt w b off l):=hc
   clear hc
   have ha:=jIs hl k
   have hB:val (l.take k)<72057594037927936:=by
    have h1:=jFw (l.take k) (hl.take_ k)
    have h2:(l.take k).length≤7:=by rw [List.length_take,HN.out];omega
    have h3:256 ^ (l.take k).length≤256 ^ 7:=Nat.pow_le_pow_right oE h2
    omega
   obtain ⟨C,hC⟩:∃ C,C=val (l.take k):=⟨_,rfl⟩
   rw [← hC] at hB ⊢
   have HC:Hid (val (l.take (k+1))=C*256+at_ l k):=by
    show _=_
    rw [jFj l k (by rw [HN.out];omega),jF9,hC]
   clear hC
   have ho:=jVm C (at_ l k) hB ha
   go_wp2
   go_round
   case rel=>exact ⟨k+1,by omega,by go_num,by rw [HC.out];exact jDt (by omega)⟩
   case measure=>simp [intOf];omega
  ·have ek:k=8:=by omega
   subst ek
   have hB:val (l.take 8)<18446744073709551616:=by
    have h1:=jFw (l.take 8) (hl.take_ 8)
    have h2:(l.take 8).length=8:=by rw [List.length_take,HN.out];omega
    rw [h2] at h1
    exact h1
   by_cases hcw:cap=8
   ·subst hcw
    obtain rfl:n=8:=by omega
    clear hB
    go_wp2
    go_quiet (fail)
    go_wp2
    go_ret2
    refine ⟨?_,_,rfl⟩
    rw [jEr]
    rfl
   ·clear hB
    go_wp2
    go_quiet (fail)
    go_wp2
    go_ret2
    refine ⟨?_,_,rfl⟩
    rw [jCp oE]
    rfl
theorem jGb (w:World):Calls Tryz.prog 196 #[] w λe w'=>e=.returned (.int .i64 1)∧w'=w:=by
 have hsg:IntKind.u8.signed=false:=rfl
 have hb:bits .xor .u8 IntKind.u8.max 0=255:=by decide +kernel
 go_enter Tryz.func196,Tryz.ntmps196
 go_wp2
 go_ret
 refine ⟨?_,rfl⟩
 kernel_rfl
theorem jNa (base g k cap:Nat) (xs:List Nat) (n:Nat) (w:World) (hown:w.ownsRow base 5 1 (.slice (some ⟨g,0,none⟩) k cap) k (bs xs)) (hr:k+1≤cap) (hn:n<256) :
  Calls Tryz.prog 156 #[.slice (some ⟨g,0,none⟩) k cap,.int .u8 n] w λe w'=>e=.returned (.slice (some ⟨g,0,none⟩) (k+1) cap)∧w'.ownsRow base 5 1 (.slice (some ⟨g,0,none⟩) (k+1) cap) (k+1) (bs (xs++be 1 n))∧w.grownBy w' (some g):=by
 obtain ⟨i0,hi,hz0,hz1,hz2⟩:=info_parts Tryz.info5
 have HNN:Hid (n<256):=hn
 skip
 go_enter Tryz.func156,Tryz.ntmps156
 go_wp2_with (go_at_call 196;refine (jGb _).mono ?_;rintro e w' ⟨rfl,hw⟩;have hw2:=hw.symm;subst hw2;clear hw)
 go_loopw [0,5] (λv i wr=>∃ j:Nat,j≤1∧i=.int .i64 ((1:Int) - 1 - j)∧v=.slice (some ⟨g,0,none⟩) (k+j) cap∧wr.ownsRow base 5 1 (.slice (some ⟨g,0,none⟩) (k+j) cap) (k+j) (bs (xs++(List.range j).map (digit 1 n)))∧w.grownBy wr (some g)) (λ_ i _=>(intOf i+1).toNat)
 case atStart=>exact ⟨0,Nat.zero_le _,by go_num,rfl,by simpa using hown,jAx _ _⟩
 case round =>
  obtain ⟨j,hj,rfl,rfl,hownr,hgr⟩:=hrel
  by_cases hlt:j<1
  ·have HD:Hid ((n:Int)=((digit 1 n 0:Nat):Int)):=by show _=_;unfold digit;simp;omega
   obtain rfl:j=0:=by omega
   rw [Nat.add_zero] at hownr
   go_wp2_with (at_builtin;refine wpList_append_fits _ rfl _ _ 88 rfl base 5 i0 1 Tryz.underlying88 hi hz1 g k cap _ rfl (hownr.alloc _) ⟨wr.heap.size,0,none⟩ 1 1 [.int .u8 (n:Int)] rfl rfl ?c1 ?c2 ?c3 ?_)
   case c1 =>
    intro jj u hjj
    match jj,hjj with
    | 0,hjj=>simp at hjj;subst hjj;simp [Addr.add]
   case c2=>intro u hu;simp at hu;subst hu;rfl
   case c3=>omega
   ·intro w1 hown' hgrow
    have hG1:w.grownBy w1 (some g):=jAa hgr (jAa (jAo _ _ _) hgrow)
    have hO1:w1.ownsRow base 5 1 (.slice (some ⟨g,0,none⟩) (k+(0+1)) cap) (k+(0+1)) (bs (xs++(List.range (0+1)).map (digit 1 n))):=by
     have e:=HD.out
     rw [jFk,← e]
     simpa using hown'
    clear hown' hgrow hownr hgr
    go_wp2
    go_roundw
    case rel=>exact ⟨0+1,by omega,jDt oE,rfl,hO1,hG1⟩
    case measure=>simp [intOf] <;> omega
  ·have ek:j=1:=by omega
   subst ek
   go_wp2
   go_ret
   exact ⟨rfl,hownr,hgr⟩
theorem jXd (C A:Nat) (hC:C<72057594037927936) (ha:A<256):bits .or .u64 ((C:Int)*256) (A:Int)=((C*256+A:Nat):Int):=by
 have h:=u64_or_nat (C*256) A oE oE
 rw [show ((C:Int)*256)=((C*256:Nat):Int) by omega,h]
 congr 1
 rw [show C*256=C <<< 8 from (Nat.shiftLeft_eq C 8).symm,← Nat.shiftLeft_add_eq_or_of_lt (show A<2 ^ 8 from ha)]
theorem jI5 (b off n cap:Nat) (l:List Nat) (w:World) (hl:Byt l) (hn:l.length=n) (hw:1≤n) (hcap:n≤cap) (hcap2:cap≤maxLen) (hc:RowAt w b off l) :
  Calls Tryz.prog 245 #[.slice (some ⟨b,off,none⟩) n cap] w λe w'=>e=.returned (.tuple #[.int .u8 (val (l.take 1):Nat),.slice (cutA b off 1 cap) (n - 1) (cap - 1)])∧∃ q,w'=w.drewN q:=by
 have HN:Hid (l.length=n):=hn
 clear hn
 unfold maxLen at hcap2
 have i1:(1:Int)≤(cap:Int):=by omega
 have i2:(1:Int)≤(n:Int):=by omega
 go_enter Tryz.func245,Tryz.ntmps245
 go_wp2_with (go_at_call 196;refine (jGb _).mono ?_;rintro e w' ⟨rfl,hw⟩;have hw2:=hw.symm;subst hw2;clear hw)
 go_loop [5,13] (λc i=>∃ k:Nat,k≤1∧i=.int .i64 k∧c=.int .u64 (val (l.take k):Nat)) (λ_ i=>1 - (intOf i).toNat)
 case atStart=>exact ⟨0,Nat.zero_le _,rfl,rfl⟩
 case round =>
  obtain ⟨k,hk,rfl,rfl⟩:=hrel
  by_cases hlt:k<1
  ·have hcx:=hc k (by rw [HN.out];omega)
   have HRow:Hid (RowAt w b off l):=hc
   clear hc
   have ha:=jIs hl k
   have hB:val (l.take k)<72057594037927936:=by
    have h1:=jFw (l.take k) (hl.take_ k)
    have h2:(l.take k).length≤7:=by rw [List.length_take,HN.out];omega
    have h3:256 ^ (l.take k).length≤256 ^ 7:=Nat.pow_le_pow_right oE h2
    omega
   obtain ⟨C,hC⟩:∃ C,C=val (l.take k):=⟨_,rfl⟩
   rw [← hC] at hB ⊢
   have HC:Hid (val (l.take (k+1))=C*256+at_ l k):=by
    show _=_
    rw [jFj l k (by rw [HN.out];omega),jF9,hC]
   clear hC
   have ho:=jXd C (at_ l k) hB ha
   go_wp2
   go_round
   case rel=>exact ⟨k+1,by omega,by go_num,by rw [HC.out];exact jDt (by omega)⟩
   case measure=>simp [intOf];omega
  ·have ek:k=1:=by omega
   subst ek
   have hB:val (l.take 1)<256:=by
    have h1:=jFw (l.take 1) (hl.take_ 1)
    have h2:(l.take 1).length=1:=by rw [List.length_take,HN.out];omega
    rw [h2] at h1
    exact h1
   by_cases hcw:cap=1
   ·subst hcw
    obtain rfl:n=1:=by omega
    skip
    go_wp2
    go_quiet (fail)
    go_wp2
    go_ret2
    refine ⟨?_,_,rfl⟩
    rw [jEr]
    rfl
   ·skip
    go_wp2
    go_quiet (fail)
    go_wp2
    go_ret2
    refine ⟨?_,_,rfl⟩
    rw [jCp oE]
    rfl
theorem jKx (w:World):Calls Tryz.prog 239 #[] w λe w'=>e=.returned (.int .i64 4)∧w'=w:=by
 have hsg:IntKind.u32.signed=false:=rfl
 have hb:bits .xor .u32 IntKind.u32.max 0=4294967295:=by decide +kernel
 go_enter Tryz.func239,Tryz.ntmps239
 go_wp2
 go_ret
 refine ⟨?_,rfl⟩
 kernel_rfl
theorem jWm (base g k cap:Nat) (xs:List Nat) (n:Nat) (w:World) (hown:w.ownsRow base 5 1 (.slice (some ⟨g,0,none⟩) k cap) k (bs xs)) (hr:k+4≤cap) (hn:n<4294967296) :
  Calls Tryz.prog 197 #[.slice (some ⟨g,0,none⟩) k cap,.int .u32 n] w λe w'=>e=.returned (.slice (some ⟨g,0,none⟩) (k+4) cap)∧w'.ownsRow base 5 1 (.slice (some ⟨g,0,none⟩) (k+4) cap) (k+4) (bs (xs++be 4 n))∧w.grownBy w' (some g):=by
 obtain ⟨i0,hi,hz0,hz1,hz2⟩:=info_parts Tryz.info5
 have HNN:Hid (n<4294967296):=hn
 skip
 go_enter Tryz.func197,Tryz.ntmps197
 go_wp2_with (go_at_call 239;refine (jKx _).mono ?_;rintro e w' ⟨rfl,hw⟩;have hw2:=hw.symm;subst hw2;clear hw)
 go_loopw [0,5] (λv i wr=>∃ j:Nat,j≤4∧i=.int .i64 ((4:Int) - 1 - j)∧v=.slice (some ⟨g,0,none⟩) (k+j) cap∧wr.ownsRow base 5 1 (.slice (some ⟨g,0,none⟩) (k+j) cap) (k+j) (bs (xs++(List.range j).map (digit 4 n)))∧w.grownBy wr (some g)) (λ_ i _=>(intOf i+1).toNat)
 case atStart=>exact ⟨0,Nat.zero_le _,by go_num,rfl,by simpa using hown,jAx _ _⟩
 case round =>
  obtain ⟨j,hj,rfl,rfl,hownr,hgr⟩:=hrel
  by_cases hlt:j<4
  ·have HD:Hid (((n:Int) / 2 ^ (8*(3 - j)) % 256)=((digit 4 n j:Nat):Int)):=jEz n 4 j
   skip
   skip
   go_wp2_with (at_builtin;refine wpList_append_fits _ rfl _ _ 88 rfl base 5 i0 1 Tryz.underlying88 hi hz1 g (k+j) cap _ rfl (hownr.alloc _) ⟨wr.heap.size,0,none⟩ 1 1 [.int .u8 ((n:Int) / 2 ^ (8*(3 - j)) % 256)] rfl rfl ?c1 ?c2 ?c3 ?_)
   case c1 =>
    intro jj u hjj
    match jj,hjj with
    | 0,hjj=>simp at hjj;subst hjj;simp [Addr.add]
   case c2=>intro u hu;simp at hu;subst hu;rfl
   case c3=>omega
   ·intro w1 hown' hgrow
    have hG1:w.grownBy w1 (some g):=jAa hgr (jAa (jAo _ _ _) hgrow)
    have hO1:w1.ownsRow base 5 1 (.slice (some ⟨g,0,none⟩) (k+(j+1)) cap) (k+(j+1)) (bs (xs++(List.range (j+1)).map (digit 4 n))):=by
     rw [HD.out] at hown'
     rw [jFk,← Nat.add_assoc]
     exact hown'
    clear hown' hgrow hownr hgr
    go_wp2
    go_roundw
    case rel=>exact ⟨j+1,by omega,jDt oE,rfl,hO1,hG1⟩
    case measure=>simp [intOf] <;> omega
  ·have ek:j=4:=by omega
   subst ek
   go_wp2
   go_ret
   exact ⟨rfl,hownr,hgr⟩
theorem jWe (C A:Nat) (hC:C<72057594037927936) (ha:A<256):bits .or .u64 ((C:Int)*256) (A:Int)=((C*256+A:Nat):Int):=by
 have h:=u64_or_nat (C*256) A oE oE
 rw [show ((C:Int)*256)=((C*256:Nat):Int) by omega,h]
 congr 1
 rw [show C*256=C <<< 8 from (Nat.shiftLeft_eq C 8).symm,← Nat.shiftLeft_add_eq_or_of_lt (show A<2 ^ 8 from ha)]
theorem jSl (b off n cap:Nat) (l:List Nat) (w:World) (hl:Byt l) (hn:l.length=n) (hw:4≤n) (hcap:n≤cap) (hcap2:cap≤maxLen) (hc:RowAt w b off l) :
  Calls Tryz.prog 244 #[.slice (some ⟨b,off,none⟩) n cap] w λe w'=>e=.returned (.tuple #[.int .u32 (val (l.take 4):Nat),.slice (cutA b off 4 cap) (n - 4) (cap - 4)])∧∃ q,w'=w.drewN q:=by
 have HN:Hid (l.length=n):=hn
 clear hn
 unfold maxLen at hcap2
 have i1:(4:Int)≤(cap:Int):=by omega
 have i2:(4:Int)≤(n:Int):=by omega
 go_enter Tryz.func244,Tryz.ntmps244
 go_wp2_with (go_at_call 239;refine (jKx _).mono ?_;rintro e w' ⟨rfl,hw⟩;have hw2:=hw.symm;subst hw2;clear hw)
 go_loop [5,13] (λc i=>∃ k:Nat,k≤4∧i=.int .i64 k∧c=.int .u64 (val (l.take k):Nat)) (λ_ i=>4 - (intOf i).toNat)
 case atStart=>exact ⟨0,Nat.zero_le _,rfl,rfl⟩
 case round =>
  obtain ⟨k,hk,rfl,rfl⟩:=hrel
  by_cases hlt:k<4
  ·have hcx:=hc k (by rw [HN.out];omega)
   have HRow:Hid (RowAt w b off l):=hc
   clear hc
   have ha:=jIs hl k
   have hB:val (l.take k)<72057594037927936:=by
    have h1:=jFw (l.take k) (hl.take_ k)
    have h2:(l.take k).length≤7:=by rw [List.length_take,HN.out];omega
    have h3:256 ^ (l.take k).length≤256 ^ 7:=Nat.pow_le_pow_right oE h2
    omega
   obtain ⟨C,hC⟩:∃ C,C=val (l.take k):=⟨_,rfl⟩
   rw [← hC] at hB ⊢
   have HC:Hid (val (l.take (k+1))=C*256+at_ l k):=by
    show _=_
    rw [jFj l k (by rw [HN.out];omega),jF9,hC]
   clear hC
   have ho:=jWe C (at_ l k) hB ha
   go_wp2
   go_round
   case rel=>exact ⟨k+1,by omega,by go_num,by rw [HC.out];exact jDt (by omega)⟩
   case measure=>simp [intOf];omega
  ·have ek:k=4:=by omega
   subst ek
   have hB:val (l.take 4)<4294967296:=by
    have h1:=jFw (l.take 4) (hl.take_ 4)
    have h2:(l.take 4).length=4:=by rw [List.length_take,HN.out];omega
    rw [h2] at h1
    exact h1
   by_cases hcw:cap=4
   ·subst hcw
    obtain rfl:n=4:=by omega
    skip
    go_wp2
    go_quiet (fail)
    go_wp2
    go_ret2
    refine ⟨?_,_,rfl⟩
    rw [jEr]
    rfl
   ·skip
    go_wp2
    go_quiet (fail)
    go_wp2
    go_ret2
    refine ⟨?_,_,rfl⟩
    rw [jCp oE]
    rfl
theorem disable (w:World):(callFunc 345 #[]).run Tryz.prog w=.ok (.value (.tuple #[])) w:=run_call_mark0 Tryz.func345 (by kernel_rfl) (by kernel_rfl) (by kernel_rfl) .disable (by kernel_rfl) w
theorem enable (w:World):(callFunc 347 #[]).run Tryz.prog w=.ok (.value (.tuple #[])) w:=run_call_mark0 Tryz.func347 (by kernel_rfl) (by kernel_rfl) (by kernel_rfl) .enable (by kernel_rfl) w
theorem acquire (a:Addr) (w:World):(callFunc 348 #[.pointer (some a)]).run Tryz.prog w=.ok (.value (.tuple #[])) w:=run_call_marked Tryz.func348 (by kernel_rfl) (by kernel_rfl) (by kernel_rfl) .acquire (by kernel_rfl) a w
theorem releaseMerge (a:Addr) (w:World):(callFunc 350 #[.pointer (some a)]).run Tryz.prog w=.ok (.value (.tuple #[])) w:=run_call_marked Tryz.func350 (by kernel_rfl) (by kernel_rfl) (by kernel_rfl) .releaseMerge (by kernel_rfl) a w
theorem jHh (a:Addr) (x:Value) (u:FrameMode) (w:World) (hc:w.cell? a=some x) (hz:w.frozen? a=false) :
  CallsD Tryz.prog 312 #[.pointer (some a),.bool true] u w λe u' w'=>u'=u∧(e=.returned (.tuple #[])∧w'=w.drew.setCell a (.int .u32 1)):=by
 have hc':w.drew.cell? a=some x:=by go_simp
 have hz':w.drew.frozen? a=false:=by go_simp
 have hst:=run_call_store (P:=Tryz.prog) Tryz.func336 (by kernel_rfl) (by kernel_rfl) (by kernel_rfl) (by kernel_rfl) (k:=.u32) (y:=1) hc' hz'
 go_enter_d Tryz.func312,Tryz.ntmps312
 go_wp2
 go_region_calls
 all_goals (go_end0;exact ⟨rfl,rfl⟩)
theorem jGs (a:Addr) (u:FrameMode) (w:World) (hc:w.cell? a=some (.int .i32 1)) (hz:w.frozen? a=false) :
  CallsD Tryz.prog 311 #[.pointer (some a)] u w λe u' w'=>u'=u∧(e=.returned (.tuple #[])∧w'=w.setCell a (.int .i32 0)):=by
 have hd:=disable
 have he:=enable
 have hr:=releaseMerge
 have hadd:=run_call_add (P:=Tryz.prog) Tryz.func351 (by kernel_rfl) (by kernel_rfl) (by kernel_rfl) .i32 (by kernel_rfl) (y:=-1) (s:=0) hc hz (by simp [go_sem];rfl)
 have hcv:=run_convert_to_unsafe (P:=Tryz.prog) (src:=455) (dst:=184) Tryz.underlying455 Tryz.underlying184 (by kernel_rfl) hc
 go_enter_d Tryz.func311,Tryz.ntmps311
 go_wp2
 go_end0
 go_wp2
 go_end0
 exact ⟨rfl,rfl⟩
theorem jPy (a:Addr) (w:World) (hc:w.cell? a=some (.int .i32 0)) (hz:w.frozen? a=false) :
  Calls Tryz.prog 310 #[.pointer (some a)] w λe w'=>e=.returned (.tuple #[])∧w'=w.setCell a (.int .i32 1):=by
 have hd:=disable
 have he:=enable
 have ha:=acquire
 have hcas:=run_call_cas_hit (P:=Tryz.prog) Tryz.func346 (by kernel_rfl) (by kernel_rfl) (by kernel_rfl) .i32 (by kernel_rfl) (y:=1) hc hz
 have hc':(w.setCell a (.int .i32 1)).cell? a=some (.int .i32 1):=World.cell?_setCell_same w a _ hc
 have hcv:=run_convert_to_unsafe (P:=Tryz.prog) (src:=455) (dst:=184) Tryz.underlying455 Tryz.underlying184 (by kernel_rfl) hc'
 go_enter Tryz.func310,Tryz.ntmps310
 go_wp2
 first | go_end0 | (simp only [Exit.inBlock,Exit.then];refine bodyPost_ret (results_none rfl _ _ _) rfl ?_) | refine bodyPost_ret (results_none rfl _ _ _) rfl ?_
 go_wp2
 go_end0
 exact ⟨rfl,rfl⟩
theorem jP0 (C:Nat) (w:World) (hC:C<4294967296) :
  Calls Tryz.prog 242 #[.int .u32 C] w λe w'=>e=.returned (.int .u32 (halves 8 C:Nat))∧w'=w:=by
 go_enter Tryz.func242,Tryz.ntmps242
 go_wp2
 go_loop [0,4] (λc j=>∃ q:Nat,q≤8∧j=.int .i64 q∧c=.int .u32 (halves q C:Nat)) (λ_ j=>8 - (intOf j).toNat)
 case atStart=>exact ⟨0,Nat.zero_le _,rfl,rfl⟩
 case round =>
  obtain ⟨q,hq,rfl,rfl⟩:=hrel
  have hX:=jF1 q C hC
  have HX:Hid (halves (q+1) C=half (halves q C)):=rfl
  by_cases hq8:q<8
  ·generalize halves q C=X at hX HX
   have a1:=and1 X hX
   have hx2:X / 2<4294967296:=by omega
   have a2:bits .xor .u32 ((X:Int) / 2) 3988292384=((X / 2 ^^^ 3988292384:Nat):Int):=by rw [show ((X:Int) / 2)=((X / 2:Nat):Int) by omega];exact xorP (X / 2) hx2
   by_cases ho:X % 2=1
   ·have HO:Hid (half X=X / 2 ^^^ 3988292384):=jUg X ho
    go_wp2
    go_round
    case rel=>exact ⟨q+1,by omega,by go_num,by rw [HX.out,HO.out]⟩
    case measure=>simp [intOf];omega
   ·have HO:Hid (half X=X / 2):=jSi X ho
    go_wp2
    go_round
    case rel=>exact ⟨q+1,by omega,by go_num,by rw [HX.out,HO.out];exact jDt (by omega)⟩
    case measure=>simp [intOf];omega
  ·have e8:q=8:=by omega
   subst e8
   go_wp2
   go_ret
   exact ⟨rfl,rfl⟩
end Go.Proofs.YtcalalndmcemiaaGreatDoor
