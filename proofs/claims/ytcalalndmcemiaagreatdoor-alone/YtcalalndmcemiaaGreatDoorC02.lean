import Derived.Test.YtcalalndmcemiaaGreatDoorC01
import Derived.RegionTactic
import Derived.ChangeAlike
import Derived.Lib.BufferMore
import Derived.Maps.AppendAt
import Derived.DeepKeys5
set_option maxRecDepth 100000
set_option maxHeartbeats 16000000
namespace Go.Proofs.YtcalalndmcemiaaGreatDoor
open Go.RowKit
abbrev opV (o:AOp):Value:=.agg #[.int .i64 (o.kind:Int),.string o.name,.string o.to,.string o.data]
abbrev opO (o:AOp):Obj:=.cells #[.int .i64 (o.kind:Int),.string o.name,.string o.to,.string o.data] 182
theorem jB4 {w:World} {ops:Array Oper} {rest:List Oper} {o:Oper} {a:Act} {Q:Exit→Act→World→Prop} (hg:o.guard=none) (m x:Operand) (hop:o.op=Op.lookup 93 m x true)
  (b n:Nat) (F:Files) (hm:a.eval m=.map (some b)) (hF:FileMap w b n F) (k:ByteArray) (hk:k.size≤maxLen) (hx:a.eval x=.string k)
  (hN:F k=none→wpList Tryz.prog ops Q rest (a.put o.dst (.tuple #[.pointer none,.bool false])) w)
  (hS:∀ t q,F k=some t→w.heap[q]?=some (jBc t)→wpList Tryz.prog ops Q rest (a.put o.dst (.tuple #[.pointer (some ⟨q,0,none⟩),.bool true])) w):wpList Tryz.prog ops Q (o :: rest) a w:=by
 refine wpList_plain hg λK' hK'=>?_
 unfold Oper.wp
 rcases hF.look k hk with ⟨h1,h2⟩ | ⟨t,q,h1,h2,h3⟩
 ·simp [execOp,hop,hm,hx,h2,Result.andThen]
  exact hK' _ _ (hN h1)
 ·simp [execOp,hop,hm,hx,h3,Result.andThen]
  exact hK' _ _ (hS t q h1 h2)
theorem jFm {w:World} {ops:Array Oper} {rest:List Oper} {o:Oper} {a:Act} {Q:Exit→Act→World→Prop} (hg:o.guard=none) (m x:Operand) (hop:o.op=Op.lookup 93 m x false)
  (b n:Nat) (F:Files) (hm:a.eval m=.map (some b)) (hF:FileMap w b n F) (k t:ByteArray) (hk:F k=some t) (hx:a.eval x=.string k)
  (hS:∀ q,w.heap[q]?=some (jBc t)→wpList Tryz.prog ops Q rest (a.put o.dst (.pointer (some ⟨q,0,none⟩))) w):wpList Tryz.prog ops Q (o :: rest) a w:=by
 refine wpList_plain hg λK' hK'=>?_
 unfold Oper.wp
 obtain ⟨q,h2,h3⟩:=hF.look1 k t hk
 simp [execOp,hop,hm,hx,h3,Result.andThen]
 exact hK' _ _ (hS q h2)
abbrev doW (w:World) (o:AOp):World:=(w.alloc (opO o)).alloc (jBc o.data)
theorem jBv (w:World) (o:AOp):Fr [] w (doW w o):=((Fr.refl [] w).alloc _).alloc _
theorem jI7 (w:World) (o:AOp):(doW w o).heap[w.heap.size+1]?=some (jBc o.data):=by
 have:=heap_alloc_new (w.alloc (opO o)) (jBc o.data)
 rw [World.size_alloc] at this;exact this
theorem FileMap.new {w w':World} {b n:Nat} {m:Files} (h:FileMap w b n m) (hf:Fr [] w w'):FileMap w' b n m:=h.fr hf sE sE
theorem jBo {w w1 w2:World} {b:Nat} (h:Fr [] w w1) (k:w1.grownBy w2 (some b)):w.grownBy w2 (some b) :=
 Fr.grown1 ((h.mono (T:=[b]) sE).trans (Fr.of_grown1 k))
theorem jKj {w:World} {q:Nat} {t:ByteArray} (h:w.heap[q]?=some (jBc t)):w.cell? ⟨q,0,none⟩=some (.string t):=by simp [World.cell?,h]
theorem jSv (b n:Nat) (m:Files) (o:AOp) (w:World) (hm:FileMap w b n m) (hn:n<maxLen) (hk:o.kind=1) (h1:o.name.size≤maxLen) :
  Calls Tryz.prog 100 #[.map (some b),opV o] w λe w'=>e=.returned (.tuple #[])∧FileMap w' b (n+1) (doOp m o)∧w.grownBy w' (some b):=by
 have HM:Hid (FileMap w b n m):=hm
 clear hm
 obtain ⟨kd,nm,to,da⟩:=o
 simp only at hk h1
 subst hk
 go_enter Tryz.func100,Tryz.ntmps100
 go_wp2_with (first | (at_lookup;refine jB4 rfl _ _ rfl b n m rfl (HM.out.new (jBv w ⟨1,nm,to,da⟩)) nm h1 rfl ?_ ?_) | fail)
 ·intro hN
  go_wp2_with (first | (at_mapUpdate;refine jBm rfl _ _ _ rfl b n m rfl (HM.out.new (jBv w ⟨1,nm,to,da⟩)) hn nm h1 rfl _ da rfl (jI7 w ⟨1,nm,to,da⟩) ?_;intro w1 hF1 hg1) | fail)
  go_end0
  exact ⟨rfl,hF1,jBo (jBv w ⟨1,nm,to,da⟩) hg1⟩
 ·intro t q hN hq
  go_wp2_with (first | (at_mapUpdate;refine jBm rfl _ _ _ rfl b n m rfl (HM.out.new (jBv w ⟨1,nm,to,da⟩)) hn nm h1 rfl _ da rfl (jI7 w ⟨1,nm,to,da⟩) ?_;intro w1 hF1 hg1) | fail)
  go_end0
  exact ⟨rfl,hF1,jBo (jBv w ⟨1,nm,to,da⟩) hg1⟩
theorem jRu (b n:Nat) (m:Files) (o:AOp) (w:World) (hm:FileMap w b n m) (hk:o.kind=3) (h1:o.name.size≤maxLen) :
  Calls Tryz.prog 100 #[.map (some b),opV o] w λe w'=>e=.returned (.tuple #[])∧FileMap w' b (n+1) (doOp m o)∧w.grownBy w' (some b):=by
 have HM:Hid (FileMap w b n m):=hm
 clear hm
 obtain ⟨kd,nm,to,da⟩:=o
 simp only at hk h1
 subst hk
 go_enter Tryz.func100,Tryz.ntmps100
 go_wp2_with (first | (at_lookup;refine jB4 rfl _ _ rfl b n m rfl (HM.out.new (jBv w ⟨3,nm,to,da⟩)) nm h1 rfl ?_ ?_) | fail)
 ·intro hN
  go_wp2
  refine bodyPost_ret (results_none rfl _ _ _) rfl ?_
  refine ⟨rfl,?_,jBo (jBv w ⟨3,nm,to,da⟩) (jAx _ _)⟩
  have e:doOp m ⟨3,nm,to,da⟩=m:=by
   funext x
   show (if x=nm then none else m x)=m x
   by_cases hx:x=nm
   ·subst hx;simp [hN]
   ·simp [hx]
  rw [e];exact (HM.out.new (jBv w ⟨3,nm,to,da⟩)).mono oE
 ·intro t q hN hq
  go_wp2_with (first | (at_delete;refine jDz rfl _ _ rfl b n m rfl (HM.out.new (jBv w ⟨3,nm,to,da⟩)) nm h1 rfl ?_;intro w1 hF1 hg1) | fail)
  go_end0
  exact ⟨rfl,hF1.mono oE,jBo (jBv w ⟨3,nm,to,da⟩) hg1⟩
theorem jQg (b n:Nat) (m:Files) (o:AOp) (w:World) (hm:FileMap w b n m) (hn:n<maxLen) (hk:o.kind=4) (h1:o.name.size≤maxLen) (h2:o.to.size≤maxLen) :
  Calls Tryz.prog 100 #[.map (some b),opV o] w λe w'=>e=.returned (.tuple #[])∧FileMap w' b (n+1) (doOp m o)∧w.grownBy w' (some b):=by
 have HM:Hid (FileMap w b n m):=hm
 clear hm
 obtain ⟨kd,nm,to,da⟩:=o
 simp only at hk h1 h2
 subst hk
 go_enter Tryz.func100,Tryz.ntmps100
 go_wp2_with (first | (at_lookup;refine jB4 rfl _ _ rfl b n m rfl (HM.out.new (jBv w ⟨4,nm,to,da⟩)) nm h1 rfl ?_ ?_) | fail)
 ·intro hN
  go_wp2
  refine bodyPost_ret (results_none rfl _ _ _) rfl ?_
  refine ⟨rfl,?_,jBo (jBv w ⟨4,nm,to,da⟩) (jAx _ _)⟩
  have e:doOp m ⟨4,nm,to,da⟩=m:=by simp [doOp,hN]
  rw [e];exact (HM.out.new (jBv w ⟨4,nm,to,da⟩)).mono oE
 ·intro t q hN hq
  go_wp2_with (first | (at_lookup;refine jFm rfl _ _ rfl b n m rfl (HM.out.new (jBv w ⟨4,nm,to,da⟩)) nm t hN rfl ?_;intro q2 hq2) | (at_mapUpdate;refine jBm rfl _ _ _ rfl b n m rfl (HM.out.new (jBv w ⟨4,nm,to,da⟩)) hn to h2 rfl _ t rfl hq2 ?_;intro w1 hF1 hg1;have hc1:w1.cell? ⟨w.heap.size,1,none⟩=some (.string nm):=(jDe hg1 (a:=⟨w.heap.size,1,none⟩) (by have:=HM.out.lt;simp;omega) (by simp;omega)).trans (by simp)) | (at_delete;refine jDz rfl _ _ rfl b (n+1) _ rfl hF1 nm h1 rfl ?_;intro w2 hF2 hg2) | fail)
  go_end0
  refine ⟨rfl,?_,jAa (jBo (jBv w ⟨4,nm,to,da⟩) hg1) hg2⟩
  have e:doOp m ⟨4,nm,to,da⟩=(m.set to (some t)).set nm none:=by simp [doOp,hN]
  rw [e];exact hF2
theorem jPh (b n:Nat) (m:Files) (o:AOp) (w:World) (hm:FileMap w b n m) (hn:n<maxLen) (hk:o.kind=2) (h1:o.name.size≤maxLen) (h3:((m o.name).getD ByteArray.empty).size+o.data.size≤1099511627776) :
  Calls Tryz.prog 100 #[.map (some b),opV o] w λe w'=>e=.returned (.tuple #[])∧FileMap w' b (n+1) (doOp m o)∧w.grownBy w' (some b):=by
 have HM:Hid (FileMap w b n m):=hm
 clear hm
 obtain ⟨kd,nm,to,da⟩:=o
 simp only at hk h1 h3
 subst hk
 go_enter Tryz.func100,Tryz.ntmps100
 go_wp2_with (first | (at_lookup;refine jB4 rfl _ _ rfl b n m rfl (HM.out.new (jBv w ⟨2,nm,to,da⟩)) nm h1 rfl ?_ ?_) | fail)
 ·intro hN
  have HN:Hid (m nm=none):=hN
  clear hN
  go_wp2_with (first | (at_lookup;refine jB4 rfl _ _ rfl b n m rfl (HM.out.new (jBv w ⟨2,nm,to,da⟩)) nm h1 rfl ?_ ?_) | fail)
  ·intro hN2
   go_wp2_with (first | (at_mapUpdate;refine jBm rfl _ _ _ rfl b n m rfl (HM.out.new (jBv w ⟨2,nm,to,da⟩)) hn nm h1 rfl _ da rfl (jI7 w ⟨2,nm,to,da⟩) ?_;intro w1 hF1 hg1) | fail)
   go_end0
   refine ⟨rfl,?_,jBo (jBv w ⟨2,nm,to,da⟩) hg1⟩
   have e:doOp m ⟨2,nm,to,da⟩=m.set nm (some da):=by simp [doOp,HN.out]
   rw [e];exact hF1
  ·intro t2 q2 hN2
   exact absurd (HN.out.symm.trans hN2) sE
 ·intro t q hN hq
  have HN:Hid (m nm=some t):=hN
  clear hN hq
  go_wp2_with (first | (at_lookup;refine jB4 rfl _ _ rfl b n m rfl (HM.out.new (jBv w ⟨2,nm,to,da⟩)) nm h1 rfl ?_ ?_) | fail)
  ·intro hN2
   exact absurd (HN.out.symm.trans hN2) sE
  ·intro t2 q2 hN2 hq2
   obtain rfl:t=t2:=Option.some.inj (HN.out.symm.trans hN2)
   have hc2:=jKj hq2
   have hlt:¬ 9223372036854775807<t.size+da.size:=by rw [HN.out] at h3;simp at h3;omega
   clear hN2 hq2
   go_wp2
   go_region
   have hfr:Fr [] w ((w.alloc (opO ⟨2,nm,to,da⟩)).alloc (jBc (t++da))).drew:=(((Fr.refl [] w).alloc _).alloc _).drew
   go_wp2_with (first | (at_mapUpdate;refine jBm rfl _ _ _ rfl b n m rfl (HM.out.new hfr) hn nm h1 rfl _ (t++da) rfl (by have:=heap_alloc_new (w.alloc (opO ⟨2,nm,to,da⟩)) (jBc (t++da));rw [World.size_alloc] at this;exact this) ?_;intro w1 hF1 hg1) | fail)
   go_end0
   refine ⟨rfl,?_,jBo hfr hg1⟩
   have e:doOp m ⟨2,nm,to,da⟩=m.set nm (some (t++da)):=by simp [doOp,HN.out]
   rw [e];exact hF1
structure AOp.Ok (o:AOp) (c:Nat):Prop where
 kind:o.kind=1∨o.kind=2∨o.kind=3∨o.kind=4
 name:o.name.size≤maxLen
 to:o.to.size≤maxLen
 data:o.data.size≤c
def Files.Le (m:Files) (c:Nat):Prop:=∀ k t,m k=some t→t.size≤c
theorem jGq (b n c:Nat) (m:Files) (o:AOp) (w:World) (hm:FileMap w b n m) (hn:n<maxLen) (ho:o.Ok c) (hc:c≤4096) (hl:m.Le 549755813888) :
  Calls Tryz.prog 100 #[.map (some b),opV o] w λe w'=>e=.returned (.tuple #[])∧FileMap w' b (n+1) (doOp m o)∧w.grownBy w' (some b):=by
 rcases ho.kind with h | h | h | h
 ·exact jSv b n m o w hm hn h ho.name
 ·refine jPh b n m o w hm hn h ho.name ?_
  have:=ho.data
  cases hx:m o.name with
  | none=>simp;omega
  | some t=>have:=hl _ _ hx;simp;omega
 ·exact jRu b n m o w hm h ho.name
 ·exact jQg b n m o w hm hn h ho.name ho.to
theorem jRr {m:Files} {c d:Nat} {o:AOp} (h:m.Le d) (ho:o.Ok c):(doOp m o).Le (d+c):=by
 intro k t hk
 have hd:=ho.data
 rcases ho.kind with h1 | h1 | h1 | h1 <;> simp only [doOp,h1] at hk
 ·by_cases hx:k=o.name
  ·subst hx;simp [Files.set] at hk;subst hk;omega
  ·simp [Files.set,hx] at hk;have:=h _ _ hk;omega
 ·by_cases hx:k=o.name
  ·subst hx
   simp [Files.set] at hk
   subst hk
   cases hy:m o.name with
   | none=>simp;omega
   | some s=>have:=h _ _ hy;simp;omega
  ·simp [Files.set,hx] at hk;have:=h _ _ hk;omega
 ·by_cases hx:k=o.name
  ·subst hx;simp [Files.set] at hk
  ·simp [Files.set,hx] at hk;have:=h _ _ hk;omega
 ·cases hs:m o.name with
  | none=>rw [hs] at hk;simp at hk;have:=h _ _ hk;omega
  | some s =>
   rw [hs] at hk;simp at hk
   by_cases hx:k=o.name
   ·subst hx;simp [Files.set] at hk
   ·by_cases hy:k=o.to
    ·subst hy;simp [Files.set,hx] at hk;subst hk;have:=h _ _ hs;omega
    ·simp [Files.set,hx,hy] at hk;have:=h _ _ hk;omega
def errN (n:Nat):Value:=if n=0 then .nilIface else .iface 44 (.int .i64 (n:Int))
theorem jAt:errN 0=.nilIface:=rfl
theorem jAc {n:Nat} (h:n≠0):errN n=.iface 44 (.int .i64 (n:Int)):=by unfold errN;rw [if_neg h]
abbrev dskO (bD bN:Nat) (pv:Value) (l f:Int) (dn:Bool):Obj:=.cells #[.map (some bD),.map (some bN),pv,.int .i64 l,.int .i64 f,.bool dn] 96
theorem jA0 {w:World} {p:Nat} {c:Array Value} {t:TypeId} (h:w.heap[p]?=some (.cells c t (0,0))) (i:Nat):w.cell? ⟨p,i,none⟩=c[i]?:=by simp [World.cell?,h]
theorem jA2 {w:World} {p:Nat} {c:Array Value} {t:TypeId} (h:w.heap[p]?=some (.cells c t (0,0))) (i:Nat):w.frozen? ⟨p,i,none⟩=false:=by simp [World.frozen?,h]
theorem jA5 {w:World} {p:Nat} {c:Array Value} {t:TypeId} (h:w.heap[p]?=some (.cells c t (0,0))) (i:Nat) (v:Value):(w.setCell ⟨p,i,none⟩ v).heap[p]?=some (.cells (c.setIfInBounds i v) t (0,0)):=by
 simp [World.setCell,Array.getElem?_modify,h]
theorem Fr.set1 {w:World} {p:Nat} {S:List Nat} (hp:p∈S) (i:Nat) (v:Value):Fr S w (w.setCell ⟨p,i,none⟩ v):=(Fr.refl S w).setCell (Or.inl hp) v
theorem jVb {d:ADisk} (h:d.down=true∨d.left=0):d.writes=({ d with down:=true },10):=by unfold ADisk.writes;rw [if_pos h]
theorem jW4 {d:ADisk} (h:¬ (d.down=true∨d.left=0)) (hf:d.full=0):d.writes=({ d with left:=wrap64 (d.left - 1),full:=-1 },9):=by unfold ADisk.writes;rw [if_neg h,if_pos hf]
theorem jWh {d:ADisk} (h:¬ (d.down=true∨d.left=0)) (hf:¬ d.full=0):d.writes=({ d with left:=wrap64 (d.left - 1),full:=wrap64 (d.full - 1) },0):=by unfold ADisk.writes;rw [if_neg h,if_neg hf]
theorem jO8 (p bD bN:Nat) (pv:Value) (d:ADisk) (w:World) (h:w.heap[p]?=some (dskO bD bN pv d.left d.full d.down)) :
  Calls Tryz.prog 390 #[.pointer (some ⟨p,0,none⟩)] w λe w'=>e=.returned (errN d.writes.2)∧w'.heap[p]?=some (dskO bD bN pv d.writes.1.left d.writes.1.full d.writes.1.down)∧Fr [p] w w':=by
 have H:Hid (w.heap[p]?=some (dskO bD bN pv d.left d.full d.down)):=h
 have c3:=jA0 h 3
 have c4:=jA0 h 4
 have c5:=jA0 h 5
 have f3:=jA2 h 3
 have f4:=jA2 h 4
 have f5:=jA2 h 5
 simp at c3 c4 c5
 clear h
 obtain ⟨du,no,pe,l,f,dn⟩:=d
 simp only at c3 c4 c5 H
 by_cases hd:dn=true∨l=0
 ·rw [jVb hd]
  go_enter Tryz.func390,Tryz.ntmps390
  rcases hd with rfl | rfl
  ·go_wp2
   go_ret
   exact ⟨rfl,by have:=jA5 H.out 5 (.bool true);simpa using this,Fr.set1 sE _ _⟩
  ·cases dn
   ·go_wp2
    go_ret
    exact ⟨rfl,by have:=jA5 H.out 5 (.bool true);simpa using this,Fr.set1 sE _ _⟩
   ·go_wp2
    go_ret
    exact ⟨rfl,by have:=jA5 H.out 5 (.bool true);simpa using this,Fr.set1 sE _ _⟩
 ·have hl:¬ l=0:=λe=>hd (Or.inr e)
  have hdn:dn=false:=by cases dn with | false=>rfl | true=>exact absurd (Or.inl rfl) hd
  by_cases hf:f=0
  ·rw [jW4 hd hf]
   subst hf hdn
   go_enter Tryz.func390,Tryz.ntmps390
   go_wp2
   go_ret
   exact ⟨rfl,by have:=jA5 (jA5 H.out 3 (.int .i64 (wrap64 (l - 1)))) 4 (.int .i64 (-1));simpa using this,(Fr.set1 sE _ _).trans (Fr.set1 sE _ _)⟩
  ·rw [jWh hd hf]
   subst hdn
   go_enter Tryz.func390,Tryz.ntmps390
   go_wp2
   go_ret
   exact ⟨rfl,by have:=jA5 (jA5 H.out 3 (.int .i64 (wrap64 (l - 1)))) 4 (.int .i64 (wrap64 (f - 1)));simpa using this,(Fr.set1 sE _ _).trans (Fr.set1 sE _ _)⟩
def jC0 (o:AOp):List Value:=[.int .i64 (o.kind:Int),.string o.name,.string o.to,.string o.data]
def opsV (l:List AOp):List Value:=l.flatMap jC0
theorem jRj (l:List AOp) (o:AOp):opsV (l++[o])=opsV l++jC0 o:=by simp [opsV]
theorem Tryz.infoOp:(Tryz.prog.info? 182).map (λi=>(i.zero,i.size,i.bytes))=some (some (.agg #[.int .i64 0,.string ByteArray.empty,.string ByteArray.empty,.string ByteArray.empty]),4,56):=by kernel_rfl
theorem jBn {P:Program} {w:World} {o:Oper} {a:Act} {K:Act→World→Prop} {Q:Exit→Act→World→Prop} (s x:Operand) (t:TypeId)
  (ho:o.op=.call { callee:=.builtin .append,args:=#[s,x],argTypes:=#[t,t] })
  (base:Nat) (e:TypeId) (i:TypeInfo) (z:Value) (size bytes:Nat) (ht:P.underlying t=some (.slice e)) (hi:P.info? e=some i) (hz:i.zero=some z)
  (hsize:i.size=size) (hby:i.bytes=bytes) (hzs:z.cells.size=size) (hsz:0<size)
  (v:Value) (n:Nat) (xs:List Value) (hs:a.eval s=v) (hown:w.ownsRow base e size v n xs)
  (ad:Addr) (m c:Nat) (news:List Value) (hx:a.eval x=.slice (some ad) m c) (hl:news.length=m*size) (hnews:∀ j u,news[j]?=some u→w.cell? (ad.add j)=some u) (h1:∀ u∈news,u.oneCell'=true)
  (h63:n+m≤maxLen) (hbytes:(n+m)*bytes≤140737488355328) (hbase:base≤w.heap.size)
  (h:∀ v' w',w'.ownsRow base e size v' (n+m) (xs++news)→w.grownBy w' v.ownBlock→(v'.ownBlock=v.ownBlock∨v'.ownBlock=some w.heap.size)→K (a.put o.dst v') w'):o.wp P a w K Q:=by
 obtain ⟨v',w',hr,h2,h3,_,h5⟩:=run_append_own_at (P:=P) w base t o.type e i z size bytes ht hi hz hsize hby hzs hsz v n xs hown ad m c news hl hnews h1 h63 hbytes hbase
 unfold Oper.wp execOp
 simp only [ho,resolve,invoke,builtin,Sem.run_bind,Sem.run_pure,Result.andThen_ok,List.map_toArray,List.map_cons,List.map_nil,hs,hx,hr]
 exact h v' w' h2 h3 h5
def Near (s:Nat) (v v':Value):Prop:=∀ k,v'.ownBlock=some k→v.ownBlock=some k∨s≤k
theorem Near.refl (s:Nat) (v:Value):Near s v v:=λ_ h=>.inl h
theorem Near.nil (s:Nat) (v:Value):Near s v (.slice none 0 0):=λk h=>by cases h
theorem Near.of_at {s:Nat} {v v':Value} {q:Nat} (h:v'.ownBlock=v.ownBlock∨v'.ownBlock=some q) (hq:s≤q):Near s v v':=λk hk=>by
 rcases h with h | h
 ·left;rw [← h];exact hk
 ·right;rw [h] at hk;cases hk;exact hq
theorem jCg {w:World} {o:Oper} {a:Act} {K:Act→World→Prop} {Q:Exit→Act→World→Prop} (s x:Operand)
  (ho:o.op=.call { callee:=.builtin .append,args:=#[s,x],argTypes:=#[94,94] })
  (base:Nat) (v:Value) (n:Nat) (l:List AOp) (r:AOp) (b:Nat) (hs:a.eval s=v) (hown:w.ownsRow base 182 4 v n (opsV l)) (hx:a.eval x=.slice (some ⟨b,0,none⟩) 1 1)
  (hb:w.heap[b]?=some (opO r)) (hn:n≤1073741824) (hbase:base≤w.heap.size)
  (h:∀ v' w',w'.ownsRow base 182 4 v' (n+1) (opsV (l++[r]))→w.grownBy w' v.ownBlock→(v'.ownBlock=v.ownBlock∨v'.ownBlock=some w.heap.size)→K (a.put o.dst v') w'):o.wp Tryz.prog a w K Q:=by
 obtain ⟨i0,hi,hz0,hz1,hz2⟩:=info_parts Tryz.infoOp
 have hc0:=jA0 hb 0
 have hc1:=jA0 hb 1
 have hc2:=jA0 hb 2
 have hc3:=jA0 hb 3
 simp at hc0 hc1 hc2 hc3
 refine jBn s x 94 ho base 182 i0 _ 4 56 Tryz.underlying94 hi hz0 hz1 hz2 rfl dN v n (opsV l) hs hown ⟨b,0,none⟩ 1 1 (jC0 r) hx rfl ?_ ?_ (by unfold maxLen;omega) oE hbase ?_
 ·intro jj u hjj
  match jj,hjj with
  | 0,hjj=>simp [jC0] at hjj;subst hjj;simpa [Addr.add] using hc0
  | 1,hjj=>simp [jC0] at hjj;subst hjj;simpa [Addr.add] using hc1
  | 2,hjj=>simp [jC0] at hjj;subst hjj;simpa [Addr.add] using hc2
  | 3,hjj=>simp [jC0] at hjj;subst hjj;simpa [Addr.add] using hc3
 ·intro u hu;simp [jC0] at hu;rcases hu with rfl | rfl | rfl | rfl <;> rfl
 ·intro v' w' ho' hg' hl'
  refine h v' w' ?_ hg' hl'
  rw [jRj];exact ho'
structure DiskIn (w:World) (B p bD bN:Nat) (pv:Value) (d:ADisk) (n nD nN:Nat):Prop where
 blk:w.heap[p]?=some (dskO bD bN pv d.left d.full d.down)
 base:B≤p∧B≤bD∧B≤bN∧B≤w.heap.size
 ne:bD≠bN
 dur:FileMap w bD nD d.durable
 now:FileMap w bN nN d.now
 pen:w.ownsRow B 182 4 pv d.pending.length (opsV d.pending)
 hD:nD+d.pending.length≤n
 hN:nN≤n
 hn:n≤67108864
 leD:d.durable.Le (nD*4096)
 leN:d.now.Le (nN*4096)
 ops:∀ o∈d.pending,o.Ok 4096
theorem FileMap.ne_cells {w:World} {b n q:Nat} {m:Files} {c:Array Value} {t:TypeId} {fr:Nat × Nat} (h:FileMap w b n m) (hq:w.heap[q]?=some (.cells c t fr)):b≠q:=by
 obtain ⟨es,c',h1⟩:=h.isMap
 intro e;subst e;rw [h1] at hq;cases hq
theorem jA4 {w:World} {B n g:Nat} {e:TypeId} {k:Nat} {v:Value} {xs:List Value} (h:w.ownsRow B e k v n xs) (hg:v.ownBlock=some g):∃ c,w.heap[g]?=some (.cells c e (0,0)):=by
 rcases h.2 with ⟨rfl,_⟩ | ⟨g',cap,cur,rfl,_,h3,_⟩
 ·cases hg
 ·cases hg;exact ⟨cur,h3⟩
theorem jAe {w:World} {B n q:Nat} {e e':TypeId} {k:Nat} {v:Value} {xs:List Value} {c:Array Value} {fr:Nat × Nat} (h:w.ownsRow B e k v n xs) (hq:w.heap[q]?=some (.cells c e' fr)) (hne:e≠e'):v.ownBlock≠some q:=by
 intro hv
 obtain ⟨c',h1⟩:=jA4 h hv
 rw [h1] at hq
 cases hq
 exact hne rfl
abbrev dS (p bD bN:Nat) (pv:Value):List Nat:=p :: bD :: bN :: pv.ownBlock.toList
theorem jA7 {w w':World} {S:List Nat} {B n:Nat} {e:TypeId} {k:Nat} {v:Value} {xs:List Value} (h:w.ownsRow B e k v n xs) (hf:Fr S w w') (hs:∀ g,v.ownBlock=some g→g∉S):w'.ownsRow B e k v n xs:=by
 refine ⟨h.1,?_⟩
 rcases h.2 with h1 | ⟨g,cap,cur,rfl,h2,h3,h4⟩
 ·exact .inl h1
 ·exact .inr ⟨g,cap,cur,rfl,h2,(hf.block g (Array.getElem?_eq_some_iff.1 h3).1 (hs g rfl)).trans h3,h4⟩
theorem DiskIn.fr {w w':World} {B p bD bN n nD nN:Nat} {pv:Value} {d:ADisk} {S:List Nat} (h:DiskIn w B p bD bN pv d n nD nN) (hf:Fr S w w') (hp:p∉S) (h1:bD∉S) (h2:bN∉S) (h3:∀ g,pv.ownBlock=some g→g∉S) (h4:∀ q∈S,∀ t,w.heap[q]?≠some (jBc t)):DiskIn w' B p bD bN pv d n nD nN where
 blk:=(hf.block p (Array.getElem?_eq_some_iff.1 h.blk).1 hp).trans h.blk
 base:=⟨h.base.1,h.base.2.1,h.base.2.2.1,Nat.le_trans h.base.2.2.2 hf.size⟩
 ne:=h.ne
 dur:=h.dur.fr hf h1 h4
 now:=h.now.fr hf h2 h4
 pen:=jA7 h.pen hf h3
 hD:=h.hD
 hN:=h.hN
 hn:=h.hn
 leD:=h.leD
 leN:=h.leN
 ops:=h.ops
theorem DiskIn.new {w w':World} {B p bD bN n nD nN:Nat} {pv:Value} {d:ADisk} (h:DiskIn w B p bD bN pv d n nD nN) (hf:Fr [] w w'):DiskIn w' B p bD bN pv d n nD nN :=
 h.fr hf sE sE sE sE sE
theorem DiskIn.more {w:World} {B p bD bN n nD nN:Nat} {pv:Value} {d:ADisk} (h:DiskIn w B p bD bN pv d n nD nN) (hn:n<67108864):DiskIn w B p bD bN pv d (n+1) nD nN :=
 { h with hD:=by have:=h.hD;omega,hN:=by have:=h.hN;omega,hn:=by omega }
theorem DiskIn.turn {w w':World} {B p bD bN n nD nN:Nat} {pv:Value} {d:ADisk} (h:DiskIn w B p bD bN pv d n nD nN) (hf:Fr [p] w w') (l f:Int) (dn:Bool) (hb:w'.heap[p]?=some (dskO bD bN pv l f dn)) :
  DiskIn w' B p bD bN pv { d with left:=l,full:=f,down:=dn } n nD nN where
 blk:=hb
 base:=⟨h.base.1,h.base.2.1,h.base.2.2.1,Nat.le_trans h.base.2.2.2 hf.size⟩
 ne:=h.ne
 dur:=h.dur.fr hf (by simp;exact h.dur.ne_cells h.blk) (by intro q hq t;simp at hq;subst hq;rw [h.blk];intro e;cases e)
 now:=h.now.fr hf (by simp;exact h.now.ne_cells h.blk) (by intro q hq t;simp at hq;subst hq;rw [h.blk];intro e;cases e)
 pen:=jA7 h.pen hf (λg hg=>by simp;intro e;subst e;exact jAe h.pen h.blk dN hg)
 hD:=h.hD
 hN:=h.hN
 hn:=h.hn
 leD:=h.leD
 leN:=h.leN
 ops:=h.ops
theorem jEh (d:ADisk):d.writes.1={ d with left:=d.writes.1.left,full:=d.writes.1.full,down:=d.writes.1.down }:=by
 unfold ADisk.writes;split
 ·rfl
 ·split <;> rfl
theorem jDd (B p bD bN n nD nN:Nat) (pv:Value) (d:ADisk) (w:World) (h:DiskIn w B p bD bN pv d n nD nN) :
  Calls Tryz.prog 390 #[.pointer (some ⟨p,0,none⟩)] w λe w'=>e=.returned (errN d.writes.2)∧DiskIn w' B p bD bN pv d.writes.1 n nD nN∧Fr [p] w w':=by
 refine (jO8 p bD bN pv d w h.blk).mono ?_
 rintro e w' ⟨rfl,h1,h2⟩
 refine ⟨rfl,?_,h2⟩
 rw [jEh]
 exact h.turn h2 _ _ _ h1
end Go.Proofs.YtcalalndmcemiaaGreatDoor
set_option maxRecDepth 100000
set_option maxHeartbeats 16000000
namespace Go.Proofs.YtcalalndmcemiaaGreatDoor
open Go.RowKit Go.Maps
open Sc
structure ATx where
 state:Nat
 parts:List Nat
 since:Nat
def ATx.Ok (t:ATx):Prop:=t.parts.length=9∧∀ p∈t.parts,p<256
def psV (ps:List Nat):Value:=.agg (ps.map λp:Nat=>Value.int .u8 (p:Int)).toArray
def txC (t:ATx):List Value:=.int .i64 (t.state:Int) :: ((t.parts.map λp:Nat=>Value.int .u8 (p:Int))++[.int .u64 (t.since:Int),.nilIface])
def txV (t:ATx):Value:=.agg (txC t).toArray
theorem nine {l:List Nat} (h:l.length=9):∃ a b c d e f g i j,l=[a,b,c,d,e,f,g,i,j]:=by
 match l,h with
 | [a,b,c,d,e,f,g,i,j],_=>exact ⟨a,b,c,d,e,f,g,i,j,rfl⟩
abbrev tx0:ATx:=⟨0,[0,0,0,0,0,0,0,0,0],0⟩
theorem jUu:tx0.Ok:=⟨rfl,by decide⟩
def txR:Value→Option (DataW Unit × List MemPlace)
 | .agg cs=>match cs.toList with
  | [.int .i64 s,.int .u8 a,.int .u8 b,.int .u8 c,.int .u8 d,.int .u8 e,.int .u8 f,.int .u8 g,.int .u8 i,.int .u8 j,.int .u64 z,.nilIface]=>some (.agg [.lit (.int .i64 s),.lit (.int .u8 a),.lit (.int .u8 b),.lit (.int .u8 c),.lit (.int .u8 d),.lit (.int .u8 e),.lit (.int .u8 f),.lit (.int .u8 g),.lit (.int .u8 i),.lit (.int .u8 j),.lit (.int .u64 z)],[])
  | _=>none
 | _=>none
noncomputable def EX:ElRep ATx where
 R:=txR
 ev:=txV
 el:=λt=>.agg (.lit (.int .i64 (t.state:Int)) :: ((t.parts.map λp:Nat=>.lit (.int .u8 (p:Int)))++[.lit (.int .u64 (t.since:Int))]))
 ok:=ATx.Ok
 made:=λt h=>by
  obtain ⟨a,b,c,d,e,f,g,i,j,hl⟩:=nine h.1
  obtain ⟨s,ps,z⟩:=t
  simp at hl
  subst hl
  rfl
 inv:=λx t ps ht h=>by
  obtain ⟨a',b',c',d',e',f',g',i',j',hl⟩:=nine ht.1
  obtain ⟨s',ps',z'⟩:=t
  simp at hl
  subst hl
  unfold txR at h
  split at h
  ·rename_i cs
   split at h
   ·rename_i hc
    simp at h
    obtain ⟨⟨rfl,rfl,rfl,rfl,rfl,rfl,rfl,rfl,rfl,rfl,rfl⟩,_⟩:=h
    show Value.agg cs=Value.agg _
    congr 1
    exact Array.toList_inj.1 (by rw [hc];rfl)
   ·cases h
  ·cases h
theorem jY0 (w:World):(zeroValue 128).run Tryz.prog w=.ok (EX.ev tx0) w:=by kernel_rfl
theorem jVn (t:ATx) (h:t.Ok) (w:World):(Instr.field 128 (txV t) 0).run Tryz.prog w=.ok (.int .i64 (t.state:Int)) w:=by
 obtain ⟨s,ps,z⟩:=t
 obtain ⟨a,b,c,d,e,f,g,i,j,rfl⟩:=nine h.1
 kernel_rfl
theorem jMs {k:Nat} (h:k<9):k=0∨k=1∨k=2∨k=3∨k=4∨k=5∨k=6∨k=7∨k=8:=by omega
theorem jXc {ps:List Nat} (h:ps.length=9) {k:Nat} (hk:k<9) (w:World):(Instr.index 126 (psV ps) (.int .i64 (k:Int))).run Tryz.prog w=.ok (.int .u8 ((ps.getD k 0:Nat):Int)) w:=by
 obtain ⟨a,b,c,d,e,f,g,i,j,rfl⟩:=nine h
 rcases jMs hk with rfl | rfl | rfl | rfl | rfl | rfl | rfl | rfl | rfl <;> kernel_rfl
section
variable {P:Program} {K V:Type} [DecidableEq K] {kt:TypeId} (KR:KeyRep P K kt) (ER:ElRep V)
def RangesAs (w:World) (b r n:Nat) (l rem:List (K × V)):Prop :=
 ∃ es left cnt,w.ranges P kt ER.R b r n (.map es) left cnt∧es.Perm (l.map (jEi KR ER))∧Once1 l∧(∀ p∈l,KR.ok p.1∧ER.ok p.2)∧Once1 rem∧(∀ p∈rem,p∈l)∧∀ k,KR.ok k→left (KR.kl k)=(jA3 rem k).isSome
variable {KR ER} {w w':World} {b r n:Nat} {l rem:List (K × V)}
theorem jBq {k j:K}:jA3 (jAi rem k) j=if j=k then none else jA3 rem j:=by
 by_cases e:j=k
 ·subst e
  rw [if_pos rfl,jCy]
  intro p hp
  have:=(List.mem_filter.1 hp).2
  simpa using this
 ·rw [if_neg e]
  unfold jA3 jAi
  congr 1
  rw [List.find?_filter]
  congr 1
  funext p
  by_cases h:p.1=j
  ·simp [h,e]
  ·simp [h]
theorem RangesAs.owns (h:RangesAs KR ER w b r n l rem):MapAs KR ER w b n l:=by
 obtain ⟨es,left,cnt,h1,h2,h3,h4,_⟩:=h
 exact ⟨es,h1.owns,h2,h3,h4⟩
theorem RangesAs.lt (h:RangesAs KR ER w b r n l rem):r<w.heap.size:=by obtain ⟨_,_,_,h1,_⟩:=h;exact h1.lt
theorem RangesAs.fr {S:List Nat} (h:RangesAs KR ER w b r n l rem) (hf:Fr S w w') (hb:b∉S) (hr:r∉S):RangesAs KR ER w' b r n l rem∧w'.rangeLeft b r=w.rangeLeft b r:=by
 have hlb:=h.owns.lt
 have hlr:=h.lt
 obtain ⟨es,left,cnt,h1,h2⟩:=h
 have h1':w'.ranges P kt ER.R b r n (.map es) left cnt:=by
  unfold World.ranges at h1 ⊢
  rw [hf.block b hlb hb,hf.block r hlr hr]
  exact h1
 exact ⟨⟨es,left,cnt,h1',h2⟩,by rw [h1'.left_eq,h1.left_eq]⟩
end
section
variable {P:Program} {K V:Type} [DecidableEq K] {kt:TypeId} {KR:KeyRep P K kt} {ER:ElRep V} {w:World} {ops:Array Oper} {rest:List Oper} {o:Oper} {a:Act} {Q:Exit→Act→World→Prop}
theorem jBd (hg:o.guard=none) (m:Operand) (t e:TypeId) (hop:o.op=Op.range t m) (ht:P.underlying t=some (.map kt e)) (b n:Nat) (l:List (K × V)) (hm:a.eval m=.map (some b)) (hM:MapAs KR ER w b n l)
  (hK:∀ w',RangesAs KR ER w' b w.heap.size n l l→w.grownBy w' none→w'.heap.size=w.heap.size+1→wpList P ops Q rest (a.put o.dst (.pointer (some ⟨w.heap.size,0,none⟩))) w'):wpList P ops Q (o :: rest) a w:=by
 obtain ⟨es,ho,hp,h1,hok⟩:=hM
 refine wpList_range_own w hg m t hop kt e KR.law ht ER.R b n _ hm ho ?_
 intro w' hrg hgr hsz
 exact hK w' ⟨es,_,_,hrg,hp,h1,hok,h1,λp hp=>hp,λk hk=>jN8 hp hok hk⟩ hgr hsz
theorem jBp (hg:o.guard=none) (it:Operand) (hop:o.op=Op.next it false) (b r n:Nat) (l rem:List (K × V)) (hit:a.eval it=.pointer (some ⟨r,0,none⟩)) (hM:RangesAs KR ER w b r n l rem)
  (hDone:rem=[]→wpList P ops Q rest (a.put o.dst (.tuple #[.bool false])) w)
  (hMore:∀ (k:K) (v:V) (w':World),(k,v)∈rem→RangesAs KR ER w' b r n l (jAi rem k)→w'.rangeLeft b r<w.rangeLeft b r→w.grownBy w' (some r)→w'.heap.size=w.heap.size →
   (Instr.entry (.pointer (some ⟨r,0,none⟩))).run P w'=.ok (.tuple #[KR.kv k,ER.ev v]) w'→wpList P ops Q rest (a.put o.dst (.tuple #[.bool true,KR.kv k,ER.ev v])) w'):wpList P ops Q (o :: rest) a w:=by
 obtain ⟨es,left,cnt,hrg,hp,h1,hok,h5,h6,h7⟩:=hM
 refine wpList_next_ranges (α:=Value) (β:=Value) w hg it hop kt KR.law ER.R id id (λkey _ _=>⟨key,rfl⟩) (λv _ _=>⟨v,rfl⟩) b r n _ left cnt hit hrg ?_ ?_
 ·intro _ hl
  refine hDone ?_
  cases hr:rem with
  | nil=>rfl
  | cons p q =>
   have hm:(p.1,p.2)∈rem:=by rw [hr];exact List.mem_cons_self
   have:=h7 p.1 (hok _ (h6 _ hm)).1
   rw [hl,jB6 h5 hm] at this
   cases this
 ·intro key val kl y w' cnt' hkey hlk hv hat hrg' hlt hgr hsz hen
  have hhas:Maps.has (.map es) kl=true:=Maps.has_true_of_atKey hat
  rw [Maps.has_eq,List.any_eq_true] at hhas
  obtain ⟨p,hpm,hps⟩:=hhas
  obtain ⟨q,hq,rfl⟩:=List.mem_map.1 (hp.mem_iff.1 hpm)
  obtain ⟨k,v⟩:=q
  have hkk:=(hok _ hq).1
  have hvk:=(hok _ hq).2
  have ekl:KR.kl k=kl:=WideAt.sameKey_eq hps
  subst ekl
  have ek:key=KR.kv k:=KR.law.inj hkey (KR.key k hkk)
  have ey:=hat (ER.el v)
  rw [jJ1 hp h1 hok hkk (jB6 h1 hq)] at ey
  have ev:val=ER.ev v:=ER.inv val v y.2 hvk (by rw [ey];exact hv)
  have hmem:(k,v)∈rem:=by
   have:=h7 k hkk
   rw [hlk] at this
   cases hr:jA3 rem k with
   | none=>rw [hr] at this;cases this
   | some u =>
    have e2:=h1.same (h6 _ (jAh hr)) hq rfl
    rw [← e2];exact jAh hr
  subst ek ev
  refine hMore k v w' hmem ⟨es,_,cnt',hrg',hp,h1,hok,h5.del k,λp hp=>h6 p (List.mem_filter.1 hp).1,λj hj=>?_⟩ (by rw [hrg'.left_eq,hrg.left_eq];exact hlt) hgr hsz hen
  rw [h7 j hj,KR.same hj hkk,jBq]
  by_cases e:j=k
  ·simp [e]
  ·simp [e]
end
noncomputable def KS:KeyRep Tryz.prog ByteArray 9 where
 kv:=.string
 kl:=keyL
 ok:=λk=>k.size≤maxLen
 law:=Tryz.lawS
 key:=λ_ hk=>Go.WideMaps.keyOf_string_mk Tryz.underlying9 hk
 inj:=λ_ _ h=>by simpa using h
theorem wfU {x:Nat} (h:x<18446744073709551616):(Lit.int .u64 (x:Int)).wf=true:=by
 have h1:IntKind.u64.min=0:=rfl
 have h2:IntKind.u64.max=18446744073709551615:=rfl
 simp [Lit.wf,h1,h2]
 omega
noncomputable def KU:KeyRep Tryz.prog Nat 43 where
 kv:=λx=>.int .u64 (x:Int)
 kl:=λx=>.int .u64 (x:Int)
 ok:=λx=>x<18446744073709551616
 law:=Go.Maps.int_keyed Tryz.underlying43
 key:=λ_ hk=>Go.Maps.keyOf_int_mk Tryz.underlying43 (wfU hk)
 inj:=λa b h=>by simp at h;omega
theorem laidH:laidOutB Tryz.prog=true:=by kernel_rfl
theorem rowH:(141:TypeId)<Tryz.prog.types.size:=of_decide_eq_true (by kernel_rfl)
theorem wideH:(match Tryz.prog.underlying 141 with | some (.array _ _) | some (.struct _)=>true | _=>false)=true:=by kernel_rfl
theorem lawH:Keyed Tryz.prog 141:=Keyed.of_law (deep_law_laid laidH (m:=3) (by omega) rowH (by kernel_rfl) wideH)
theorem jT9:Tryz.prog.keyType 141=true:=by kernel_rfl
theorem jUn:Tryz.prog.cellsOf 141=2:=by kernel_rfl
theorem jYg:Tryz.prog.cellsOf 43=1:=by kernel_rfl
theorem jY3:Tryz.prog.cellsOf 9=1:=by kernel_rfl
abbrev jO6 (k:Nat × ByteArray):Value:=.agg #[.int .u64 (k.1:Int),.string k.2]
theorem keyH {k:Nat × ByteArray} (h1:k.1<18446744073709551616) (h2:k.2.size≤maxLen):∃ l,keyOf Tryz.prog 141 (jO6 k)=some l:=by
 have hall:∀ d,∃ l,(if Tryz.prog.keyType 141 && (jO6 k).formed Tryz.prog 141 then (Tryz.prog.keyLits (d+1+1) 141 (jO6 k).cells.toList).map λls=>Lit.string (keyBytes ls) else none)=some l:=λd=>by
  have e1:=wfU h1
  have e3:(jO6 k).formed Tryz.prog 141=true:=by simp [Value.formed,Tryz.underlying141,jUn]
  rw [jT9,e3]
  simp only [Program.keyLits,Tryz.underlying141]
  simp [Value.cells,jUn,jYg,jY3,e1,h2]
 obtain ⟨d,hd⟩:∃ d,Tryz.prog.types.size+1=d+1+1:=by
  have h:0<Tryz.prog.types.size:=Nat.lt_of_le_of_lt (Nat.zero_le _) rowH
  exact ⟨Tryz.prog.types.size - 1,by rw [Nat.sub_add_cancel h]⟩
 have e:=Tryz.underlying141
 unfold keyOf
 rw [hd]
 split
 ·exact hall d
 ·exact hall d
 ·rename_i h3 h4
  exact absurd e (h4 _)
noncomputable def KH:KeyRep Tryz.prog (Nat × ByteArray) 141 where
 kv:=jO6
 kl:=λk=>(keyOf Tryz.prog 141 (jO6 k)).getD (.bool false)
 ok:=λk=>k.1<18446744073709551616∧k.2.size≤maxLen
 law:=lawH
 key:=λk hk=>by obtain ⟨l,hl⟩:=keyH hk.1 hk.2;rw [hl];rfl
 inj:=λa b h=>by
  obtain ⟨a1,a2⟩:=a
  obtain ⟨b1,b2⟩:=b
  simp at h
  obtain ⟨h3,h4⟩:=h
  have h5:a1=b1:=by omega
  rw [h5,h4]
noncomputable def ES:ElRep ByteArray where
 R:=plainElem Tryz.prog 9
 ev:=.string
 el:=λs=>.lit (.string s.data.toList)
 ok:=λs=>s.size≤maxLen
 made:=λ_ h=>plainElem_string Tryz.underlying9 h
 inv:=λx v ps _ h=>by
  obtain ⟨s,rfl,h2,_⟩:=plainElem_string_inv Tryz.underlying9 h
  simp only [Prod.mk.injEq,DataW.lit.injEq] at h2
  rw [jG6 h2.1]
structure ATxn where
 state:Nat
 done:Nat
 last:Nat
abbrev txnV (t:ATxn):Value:=.agg #[.int .i64 (t.state:Int),.int .i64 (t.done:Int),.int .u64 (t.last:Int)]
def txnR:Value→Option (DataW Unit × List MemPlace)
 | .agg cs=>match cs.toList with
  | [.int .i64 a,.int .i64 b,.int .u64 c]=>some (.agg [.lit (.int .i64 a),.lit (.int .i64 b),.lit (.int .u64 c)],[])
  | _=>none
 | _=>none
noncomputable def ET:ElRep ATxn where
 R:=txnR
 ev:=txnV
 el:=λt=>.agg [.lit (.int .i64 (t.state:Int)),.lit (.int .i64 (t.done:Int)),.lit (.int .u64 (t.last:Int))]
 ok:=λ_=>True
 made:=λ_ _=>by simp [txnR]
 inv:=λx v ps _ h=>by
  unfold txnR at h
  split at h
  ·rename_i cs
   split at h
   ·rename_i a b c hc
    simp at h
    obtain ⟨⟨rfl,rfl,rfl⟩,_⟩:=h
    show Value.agg cs=Value.agg _
    congr 1
    exact Array.toList_inj.1 (by rw [hc])
   ·cases h
  ·cases h
structure AGrip where
 way:Nat
 val:ByteArray
abbrev gripV (g:AGrip):Value:=.agg #[.int .u8 (g.way:Int),.string g.val]
def jVe:Value→Option (DataW Unit × List MemPlace)
 | .agg cs=>match cs.toList with
  | [.int .u8 a,.string s]=>some (.agg [.lit (.int .u8 a),.lit (.string s.data.toList)],[])
  | _=>none
 | _=>none
noncomputable def EG:ElRep AGrip where
 R:=jVe
 ev:=gripV
 el:=λg=>.agg [.lit (.int .u8 (g.way:Int)),.lit (.string g.val.data.toList)]
 ok:=λ_=>True
 made:=λ_ _=>by simp [jVe]
 inv:=λx v ps _ h=>by
  unfold jVe at h
  split at h
  ·rename_i cs
   split at h
   ·rename_i a s hc
    simp only [Option.some.injEq,Prod.mk.injEq,DataW.agg.injEq,List.cons.injEq,DataW.lit.injEq,Lit.int.injEq,true_and,and_true] at h
    obtain ⟨⟨rfl,h2⟩,_⟩:=h
    rw [jG6 h2] at hc
    show Value.agg cs=Value.agg _
    congr 1
    exact Array.toList_inj.1 (by rw [hc])
   ·cases h
  ·cases h
theorem jWc (w:World):(zeroValue 199).run Tryz.prog w=.ok (ET.ev ⟨0,0,0⟩) w:=by kernel_rfl
theorem jF2 (w:World):(zeroValue 134).run Tryz.prog w=.ok (EG.ev ⟨0,ByteArray.empty⟩) w:=by kernel_rfl
theorem jQz (w:World):(zeroValue 9).run Tryz.prog w=.ok (ES.ev ByteArray.empty) w:=by kernel_rfl
structure AShard where
 vals:List (ByteArray × ByteArray)
 txns:List (Nat × ATxn)
 holds:List ((Nat × ByteArray) × AGrip)
 ticks:Nat
def AShard.txn (s:AShard) (t:Nat):ATxn:=(jA3 s.txns t).getD ⟨0,0,0⟩
def AShard.grip (s:AShard) (t:Nat) (k:ByteArray):AGrip:=(jA3 s.holds (t,k)).getD ⟨0,ByteArray.empty⟩
def lgP (lg:Nat):Option Addr:=if lg=0 then none else some ⟨lg,0,none⟩
theorem jB8 {lg:Nat} (h:1≤lg):lgP lg=some ⟨lg,0,none⟩:=if_neg oE
abbrev shO (lg bV bT bH:Nat) (ticks:Nat):Obj:=.cells #[.pointer (lgP lg),.map (some bV),.map (some bT),.map (some bH),.int .u64 (ticks:Int)] 139
structure ShIn (w:World) (sp lg bV bT bH n:Nat) (s:AShard):Prop where
 blk:w.heap[sp]?=some (shO lg bV bT bH s.ticks)
 vals:MapAs KS ES w bV n s.vals
 txns:MapAs KU ET w bT n s.txns
 holds:MapAs KH EG w bH n s.holds
 ne:bV≠bT∧bV≠bH∧bT≠bH
 ticks:s.ticks<18446744073709551616
theorem ShIn.fr {w w':World} {sp lg bV bT bH n:Nat} {s:AShard} {S:List Nat} (h:ShIn w sp lg bV bT bH n s) (hf:Fr S w w') (h1:sp∉S) (h2:bV∉S) (h3:bT∉S) (h4:bH∉S):ShIn w' sp lg bV bT bH n s where
 blk:=(hf.block sp (Array.getElem?_eq_some_iff.1 h.blk).1 h1).trans h.blk
 vals:=h.vals.fr hf h2
 txns:=h.txns.fr hf h3
 holds:=h.holds.fr hf h4
 ne:=h.ne
 ticks:=h.ticks
section
variable {w:World} {sp lg bV bT bH n:Nat} {s:AShard}
theorem ShIn.lookT (h:ShIn w sp lg bV bT bH n s) {t:Nat} (ht:t<18446744073709551616) :
  (Instr.lookup 136 (.map (some bT)) (.int .u64 (t:Int)) false).run Tryz.prog w=.ok (.agg #[.int .i64 ((s.txn t).state:Int),.int .i64 ((s.txn t).done:Int),.int .u64 ((s.txn t).last:Int)]) w :=
 h.txns.look Tryz.underlying136 (jWc w) trivial (k:=t) ht
theorem ShIn.lookV (h:ShIn w sp lg bV bT bH n s) {k:ByteArray} (hk:k.size≤maxLen) :
  (Instr.lookup 135 (.map (some bV)) (.string k) true).run Tryz.prog w=.ok (.tuple #[.string ((jA3 s.vals k).getD ByteArray.empty),.bool (jA3 s.vals k).isSome]) w :=
 h.vals.lookOk Tryz.underlying135 (jQz w) (by show (0:Nat)≤maxLen;omega) (k:=k) hk
theorem ShIn.lookH (h:ShIn w sp lg bV bT bH n s) {t:Nat} {k:ByteArray} (ht:t<18446744073709551616) (hk:k.size≤maxLen) :
  (Instr.lookup 137 (.map (some bH)) (.agg #[.int .u64 (t:Int),.string k]) false).run Tryz.prog w=.ok (.agg #[.int .u8 ((s.grip t k).way:Int),.string (s.grip t k).val]) w :=
 h.holds.look Tryz.underlying137 (jF2 w) trivial (k:=(t,k)) ⟨ht,hk⟩
theorem ShIn.lookHok (h:ShIn w sp lg bV bT bH n s) {t:Nat} {k:ByteArray} (ht:t<18446744073709551616) (hk:k.size≤maxLen) :
  (Instr.lookup 137 (.map (some bH)) (.agg #[.int .u64 (t:Int),.string k]) true).run Tryz.prog w=.ok (.tuple #[.agg #[.int .u8 ((s.grip t k).way:Int),.string (s.grip t k).val],.bool (jA3 s.holds (t,k)).isSome]) w :=
 h.holds.lookOk Tryz.underlying137 (jF2 w) trivial (k:=(t,k)) ⟨ht,hk⟩
end
theorem jPn (a b c:Int) (w:World):(Instr.field 199 (.agg #[.int .i64 a,.int .i64 b,.int .u64 c]) 0).run Tryz.prog w=.ok (.int .i64 a) w:=by kernel_rfl
theorem jR8 (sp lg bV bT bH n t:Nat) (s:AShard) (w:World) (h:ShIn w sp lg bV bT bH n s) (ht:t<18446744073709551616) :
  Calls Tryz.prog 219 #[.pointer (some ⟨sp,0,none⟩),.int .u64 (t:Int)] w λe w'=>e=.returned (.int .i64 ((s.txn t).state:Int))∧∃ q,w'=w.drewN q:=by
 have c2:=jA0 h.blk 2
 simp at c2
 have hl:=h.lookT ht
 have hf0:=jPn
 obtain ⟨T,hT⟩:∃ T,T=s.txn t:=⟨_,rfl⟩
 rw [← hT] at hl ⊢
 clear h hT
 go_enter Tryz.func219,Tryz.ntmps219
 go_wp2
 go_ret
 exact ⟨rfl,0,rfl⟩
theorem jJq (sp lg bV bT bH n:Nat) (k:ByteArray) (s:AShard) (w:World) (h:ShIn w sp lg bV bT bH n s) (hk:k.size≤maxLen) :
  Calls Tryz.prog 57 #[.pointer (some ⟨sp,0,none⟩),.string k] w λe w'=>e=.returned (.tuple #[.string ((jA3 s.vals k).getD ByteArray.empty),.bool (jA3 s.vals k).isSome])∧∃ q,w'=w.drewN q:=by
 have c1:=jA0 h.blk 1
 simp at c1
 have hl:=h.lookV hk
 obtain ⟨V,hV⟩:∃ V,V=(jA3 s.vals k).getD ByteArray.empty:=⟨_,rfl⟩
 obtain ⟨O,hO⟩:∃ O,O=(jA3 s.vals k).isSome:=⟨_,rfl⟩
 rw [← hV,← hO] at hl ⊢
 clear h hV hO
 go_enter Tryz.func57,Tryz.ntmps57
 go_wp2
 go_ret2
 exact ⟨rfl,0,rfl⟩
end Go.Proofs.YtcalalndmcemiaaGreatDoor
