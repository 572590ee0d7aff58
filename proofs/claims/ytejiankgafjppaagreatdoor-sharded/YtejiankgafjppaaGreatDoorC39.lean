import Derived.Test.YtejiankgafjppaaGreatDoorC12
import Derived.Test.YtejiankgafjppaaGreatDoorC13
import Derived.Test.YtejiankgafjppaaGreatDoorC38
import Derived.Test.YtejiankgafjppaaGreatDoorC32
import Derived.Test.YtejiankgafjppaaGreatDoorC18
import Derived.Test.YtejiankgafjppaaGreatDoorC15
import Derived.Test.YtejiankgafjppaaGreatDoorC16
import Derived.Lib.SmallJoins
import Derived.Test.YtejiankgafjppaaGreatDoorC27
import Derived.Test.YtejiankgafjppaaGreatDoorC30
import Derived.Test.YtejiankgafjppaaGreatDoorC22
import Derived.Test.YtejiankgafjppaaGreatDoorC24
import Derived.Test.YtejiankgafjppaaGreatDoorC33
import Derived.Test.YtejiankgafjppaaGreatDoorC34
/- TORN RECORDS, the plain mathematics: records one behind the other, the end cut off, or turned in a byte. -/
namespace Go.Proofs.YtejiankgafjppaaGreatDoor
open Go.RowKit
open Sc

/-- the j-th record's bytes; the first j of them, one behind the other; what they are -/
def rb (S : Nat → ByteArray) (j : Nat) : List Nat := recBytes j j (bytesOf (S j))
def cat (S : Nat → ByteArray) : Nat → List Nat
  | 0 => []
  | j + 1 => cat S j ++ rb S j
def recs (S : Nat → ByteArray) (j : Nat) : List Rec := (List.range j).map fun q => ⟨q, q, bytesOf (S q)⟩
end Go.Proofs.YtejiankgafjppaaGreatDoor
/- RECOVERY: readSegment, of the segment of record 1. -/
namespace Go.Proofs.YtejiankgafjppaaGreatDoor
open Go.RowKit Go.Maps
open Sc

/-- records as they lie on the disk -/
def encR (rs : List Rec) : List Nat := rs.flatMap fun r => recBytes r.lsn r.kind r.pay
/-- records that a log can have -/
def FineR (rs : List Rec) : Prop := ∀ (k : Nat) (r : Rec), rs[k]? = some r → r.lsn = 1 + k ∧ r.kind < 256 ∧ r.pay.length ≤ 255 ∧ Byt r.pay ∧ r.lsn < 18446744073709551616
theorem encR_snoc (rs : List Rec) (r : Rec) : encR (rs ++ [r]) = encR rs ++ recBytes r.lsn r.kind r.pay := by simp [encR]
def bytesR0 : List Rec → Nat
  | [] => 0
  | r :: l => 15 + r.pay.length + bytesR0 l
end Go.Proofs.YtejiankgafjppaaGreatDoor
/- RECOVERY: readOn, read, of a log of one segment. -/
namespace Go.Proofs.YtejiankgafjppaaGreatDoor
open Go.RowKit Go.Maps
open Sc

/-- a log that was read -/
def logR (rs : List Rec) (nx : Nat) : ALog := ⟨[1], (encR rs).length, rs, nx, 0, 0⟩
end Go.Proofs.YtejiankgafjppaaGreatDoor
/- RECOVERY: (*Log).read, journal.Open, of a log of one segment. -/
namespace Go.Proofs.YtejiankgafjppaaGreatDoor
open Go.RowKit Go.Maps
open Sc

/-- a disk with the segment of record 1 alone -/
def SoleD (d : ADisk) (t : ByteArray) : Prop := ∀ k, d.now k = if k = segName 1 then some t else none
end Go.Proofs.YtejiankgafjppaaGreatDoor
/- A LOG OF ONE SEGMENT, ALL OF IT DURABLE: what Keep leaves; the power fails; it is opened again. -/
namespace Go.Proofs.YtejiankgafjppaaGreatDoor
open Go.RowKit Go.Maps
open Sc

theorem writesE {d : ADisk} {c : Nat} (h : d.Well c) (hc : c < 1099511627776) : d.writes = ({ d with left := d.left - 1, full := d.full - 1 }, 0) := by
  have h1 := h.left
  have h2 := h.full
  have e := wr_ok (d := d) (by rw [h.up]; simp; omega) (by omega)
  have e1 : wrap64 (d.left - 1) = d.left - 1 := by unfold wrap64; omega
  have e2 : wrap64 (d.full - 1) = d.full - 1 := by unfold wrap64; omega
  rw [e1, e2] at e
  exact e
theorem syncE {d : ADisk} {c : Nat} (h : d.Well c) (hc : c < 1099511627776) : d.sync = ({ d with left := d.left - 1, full := d.full - 1, durable := d.pending.foldl doOp d.durable, pending := [] }, 0) := by
  unfold ADisk.sync
  simp only [writesE h hc, if_true]
theorem str_app (a b : List Nat) : str (a ++ b) = str a ++ str b := by
  apply ByteArray.ext
  rw [ByteArray.data_append, str_data0, str_data0, str_data0]
  simp
theorem doOp_app (m : Files) (nm t : ByteArray) : doOp m ⟨2, nm, ByteArray.empty, t⟩ = m.set nm (some ((m nm).getD ByteArray.empty ++ t)) := rfl
/-- a log whose records fill one segment at most, all durable, between calls -/
structure One (l : ALog) (d : ADisk) (rs : List Rec) : Prop where
  next : l.next = 1 + rs.length
  recs : l.recs = rs
  failed : l.failed = 0
  file : (rs = [] ∧ l.segs = [] ∧ l.filled = 600 ∧ ∀ k, d.now k = none) ∨ (rs ≠ [] ∧ l.segs = [1] ∧ l.filled = (encR rs).length ∧ SoleD d (str (encR rs)))
  dur : d.durable = d.now
  pen : d.pending = []
  fine : FineR rs
  few : (encR rs).length < 600
  durN : l.durable = l.next
  well : d.Well 0
theorem well_dec {d : ADisk} {c : Nat} (h : d.Well c) (f g : Files) (p : List AOp) : ADisk.Well ⟨f, g, p, d.left - 1, d.full - 1, d.down⟩ (c + 1) := ⟨h.up, by have := h.left; simp; omega, by have := h.full; simp; omega⟩
/-- a disk that has such a log, nothing being open -/
structure OneD (d : ADisk) (rs : List Rec) : Prop where
  sole : SoleD d (str (encR rs))
  dur : d.durable = d.now
  pen : d.pending = []
  fine : FineR rs
  few : (encR rs).length < 600
  ne : rs ≠ []
  well : d.Well 0
theorem opensE {d : ADisk} (l : ALog) (h : d.Well 0) : l.opens d = ({ l with durable := l.next }, { d with left := d.left - 1 - 1, full := d.full - 1 - 1, durable := d.pending.foldl doOp d.durable, pending := [] }, 0) := by
  have es : l.sync d = ({ l with durable := l.next }, { d with left := d.left - 1, full := d.full - 1, durable := d.pending.foldl doOp d.durable, pending := [] }, 0) := by
    unfold ALog.sync; rw [syncE h (by omega)]; rfl
  unfold ALog.opens
  rw [es]
  simp only [if_true]
  have w1 : ADisk.Well { d with left := d.left - 1, full := d.full - 1, durable := d.pending.foldl doOp d.durable, pending := [] } 1 := well_dec h _ _ _
  unfold ADisk.removeAll
  rw [syncE w1 (by omega)]
  rfl
theorem One.first {d : ADisk} (hno : ∀ k, d.now k = none) (hdu : d.durable = d.now) (hpe : d.pending = []) (hw : d.Well 0) : ((log0 1).opens d).2.2 = 0 ∧ ((log0 1).opens d).2.1.down = false ∧ ((log0 1).opens d).1.recs = [] ∧ ((log0 1).opens d).1.next = 1 ∧ One ((log0 1).opens d).1 (((log0 1).opens d).2.1.knob (-1) (-1)) [] := by
  rw [opensE _ hw]
  refine ⟨rfl, hw.up, rfl, rfl, { next := rfl, recs := rfl, failed := rfl, file := .inl ⟨rfl, rfl, rfl, hno⟩, dur := ?_, pen := rfl, fine := fun k r hk => by simp at hk, few := by decide, durN := rfl, well := ⟨hw.up, by simp [ADisk.knob], by simp [ADisk.knob]⟩ }⟩
  show d.pending.foldl doOp d.durable = d.now
  rw [hpe, hdu]; rfl
/-- records that a ledger noted -/
def Noted (J : List Rec → AShard → Prop) (rs : List Rec) : Prop := (∀ r ∈ rs, r.kind < 128) ∧ rs.length ≤ 10 ∧ J [] sh0 ∧ ∀ pre x s', pre ++ [x] <+: rs → J pre s' → Entr (J (pre ++ [x])) s' x
theorem shPre_none {B p bD bN n nD : Nat} {pv : Value} {d : ADisk} {w : World} (hd : DiskIn w B p bD bN pv d n nD 0) (hno : ∀ k, d.now k = none) (hdu : d.durable = d.now) (hpe : d.pending = []) (hw : d.Well 0) : ShPre (fun _ s => s = sh0) B p bD bN n ((log0 1).opens d) w := by
  obtain ⟨o1, o2, o3, o4, o5⟩ := One.first hno hdu hpe hw
  refine { disk := ⟨_, _, _, _, hd⟩, jop := fun W hW => jopen_empty B p bD bN n nD pv d W (hd.new hW) hw.up (hno _) o1, plain := ?_, first := ?_, byt := ?_, none := rfl, ents := ?_, few := ?_, num := hd.hn }
  · rw [o3]; intro r hr; cases hr
  · rw [o3, o4]; rfl
  · rw [o3]; intro r hr; cases hr
  · rw [o3]; intro pre x s' hp; have := hp.length_le; simp at this
  · rw [o3]; decide
end Go.Proofs.YtejiankgafjppaaGreatDoor
/- A SHARD AS THE LAWS USE IT: open, all durable, few entries: each call's contract. -/
namespace Go.Proofs.YtejiankgafjppaaGreatDoor
open Go.RowKit Go.Maps
open Sc

/-- an open shard, all durable -/
def Lv (w : World) (B hp M : Nat) (s : AShard) (rs : List Rec) : Prop := ∃ m n l d, m ≤ M ∧ 10 ≤ n ∧ n ≤ 10 + M ∧ HSt w B hp m n s l d ∧ One l d rs
/-- an open shard -/
def Lw (w : World) (B hp M : Nat) (s : AShard) : Prop := ∃ m n l d, m ≤ M ∧ n ≤ 10 + M ∧ HSt w B hp m n s l d
/-- one that is not open -/
def Lc (w : World) (B hp M : Nat) (rs : List Rec) : Prop := ∃ n d, 10 ≤ n ∧ n ≤ 10 + M ∧ HCl w B hp n d ∧ OneD d rs
abbrev wellV : Value := fallV (-1) (-1) 0 0
section
variable (B hp M t : Nat) (k : ByteArray) (s : AShard) (rs : List Rec) (w : World)
theorem lvOpen0 (hp p bD bN B : Nat) (w : World) (hh : w.heap[hp]? = some (hostS p false (.pointer none))) (h : DiskIn w B p bD bN (.slice none 0 0) ⟨fun _ => none, fun _ => none, [], -1, -1, false⟩ 10 0 0) (hB : 2 ≤ B) (hhp : B ≤ hp) (hmet : Met w) :
    Calls Tryz.prog 17 #[.pointer (some ⟨hp, 0, none⟩), wellV] w fun e w' => e = .returned (.int .i64 0) ∧ Lv w' B hp 0 sh0 [] ∧ HFr B w w' := by
  have hw : ADisk.Well ⟨fun _ => none, fun _ => none, [], -1, -1, false⟩ 0 := ⟨rfl, by simp, by simp⟩
  obtain ⟨o1, o2, o3, o4, o5⟩ := One.first (d := ⟨fun _ => none, fun _ => none, [], -1, -1, false⟩) (fun _ => rfl) rfl rfl hw
  refine (hOpen_s B hp p bD bN 10 0 0 _ _ (-1) (-1) 0 0 _ ((log0 1).opens ⟨fun _ => none, fun _ => none, [], -1, -1, false⟩) w hh h hB hhp hmet (fun W hW _ => shPre_none hW (fun _ => rfl) rfl rfl hw) o2).mono ?_
  rintro e w' ⟨rfl, s', hr, hs, hf⟩
  subst hr
  rw [o3] at hs
  exact ⟨rfl, ⟨_, 10, _, _, Nat.le_refl _, by omega, by omega, hs, o5⟩, hf⟩
end
end Go.Proofs.YtejiankgafjppaaGreatDoor
/- THE STATES THAT THE LAWS GO THROUGH. -/
namespace Go.Proofs.YtejiankgafjppaaGreatDoor
open Go.RowKit Go.Maps
open Sc

abbrev kk : ByteArray := ⟨#[107]⟩
abbrev vOld : ByteArray := ⟨#[111, 108, 100]⟩
abbrev vNew : ByteArray := ⟨#[110, 101, 119]⟩
/-- how an operation of the laws grips the key -/
def gW (a : Nat) : AGrip := if a = 0 then ⟨0, ByteArray.empty⟩ else if a = 1 then ⟨1, vNew⟩ else ⟨2, ByteArray.empty⟩
section
variable (vs : List (ByteArray × ByteArray))
/-- the entries that the laws note -/
def eP1 : Rec := ⟨1, 1, be 8 1 ++ holdsB [(kk, ⟨1, vOld⟩)]⟩
def eC1 : Rec := ⟨2, 2, be 8 1⟩
def eP2 (a : Nat) : Rec := ⟨3, 1, be 8 2 ++ holdsB [(kk, gW a)]⟩
def eC2 : Rec := ⟨4, 2, be 8 2⟩
def fullE (a : Nat) : List Rec := [eP1, eC1, eP2 a, eC2]
/-- what stands behind so many of the entries -/
def Jr (a : Nat) (pre : List Rec) (s : AShard) : Prop := match pre.length with
  | 0 => s = sh0
  | 1 => s = ⟨[], [(1, ⟨3, 0, 0⟩)], [((1, kk), ⟨1, vOld⟩)], 0⟩
  | 2 => ∃ vs, s = ⟨vs, [], [], 0⟩ ∧ alLook vs kk = some vOld
  | 3 => ∃ vs, s = ⟨vs, [(2, ⟨3, 0, 0⟩)], [((2, kk), gW a)], 0⟩ ∧ alLook vs kk = some vOld
  | _ => ∃ vs, s = ⟨vs, [], [], 0⟩ ∧ alLook vs kk = gripped (some (gW a)) (some vOld)
end
end Go.Proofs.YtejiankgafjppaaGreatDoor
/- THE LAWS' HELPERS: pick, does, shard, Well. -/
namespace Go.Proofs.YtejiankgafjppaaGreatDoor
open Go.RowKit Go.Maps
open Sc

/-- what pick answers -/
def pk (c : Int) (n : Nat) : Nat := ((if c < 0 then -(c + 1) else c) % (n : Int)).toNat
theorem ret_int' {a b : Int} (h : a = b) : Ending.returned (.int .i64 a) = .returned (.int .i64 b) := by rw [h]
theorem pk_lt (c : Int) (n : Nat) (hn : 0 < n) : pk c n < n := by
  unfold pk
  have h1 := Int.emod_nonneg (if c < 0 then -(c + 1) else c) (show (n : Int) ≠ 0 by omega)
  have h2 := Int.emod_lt_of_pos (if c < 0 then -(c + 1) else c) (show (0 : Int) < (n : Int) by omega)
  omega
section
variable (B hp M t : Nat) (s : AShard) (rs : List Rec) (w : World)
end
set_option maxHeartbeats 1000000 in
theorem well_fn (w : World) : Calls Tryz.prog 16 #[] w fun e w' => e = .returned wellV ∧ Fr [] w w' := by
  go_enter Tryz.func16, Tryz.ntmps16
  go_wp2
  exact bodyPost_ret (v := wellV) (by simp [results, Tryz.results16, go_sem]) rfl ⟨rfl, (Fr.refl [] w).alloc _⟩
end Go.Proofs.YtejiankgafjppaaGreatDoor
/- RANGING OVER A FUNCTION WHOSE WALK IS KNOWN: these alone stay. (From LawR.) -/
namespace Go.Proofs.YtejiankgafjppaaGreatDoor
open Go.RowKit Go.Shelf
open Sc

/-- the walk of a function: it goes through rs -/
def SeqQ {α : Type} (F : Fence) (n : Nat) (P : Program) (gf : Nat) (lb : Array Value) (encs : α → Array Value) (rs : List α) (S : List Nat) (l : Nat) (W : World) : Prop :=
  ∀ J : List α → World → Prop,
    (∀ pre x W1, J pre W1 → W.heap.size ≤ W1.heap.size → pre ++ [x] <+: rs → YieldAt F (n - 1) P l (encs x) W1 fun e W' => e = .returned (.bool true) ∧ J (pre ++ [x]) W' ∧ KpS S W1 W') →
    J [] W → CallsIn F n P gf (#[.func (.yield l) #[] #[]] ++ lb) W fun e W' => (∃ v, e = .returned v) ∧ J rs W'
section
variable {F : Fence} {n : Nat} {P : Program}
end
end Go.Proofs.YtejiankgafjppaaGreatDoor
/- RANGING OVER A FUNCTION WHOSE WALK IS KNOWN: the body may turn what a log and its disk have, and nothing else. (From LawS.) -/
namespace Go.Proofs.YtejiankgafjppaaGreatDoor
open Go.RowKit Go.Shelf
open Sc

/-- what ranging over a function keeps for itself -/
def isBook : Obj → Bool
  | .loop .. => true
  | .deferred .. => true
  | _ => false
/-- nothing has turned but books from n on, and new blocks -/
structure Bk (n : Nat) (A B : World) : Prop where
  os : B.os = A.os
  tape : B.tape = A.tape
  output : B.output = A.output
  size : A.heap.size ≤ B.heap.size
  block : ∀ (k : Nat) (o : Obj), A.heap[k]? = some o → (isBook o = false ∨ k < n) → B.heap[k]? = some o
/-- the books of a world -/
def books (A : World) : List Nat := (List.range A.heap.size).filter fun k => (A.heap[k]?.map isBook).getD false
/-- what is neither a log's nor a disk's -/
def freeO : Obj → Bool
  | .cells _ t _ => decide (t ≠ 88 ∧ t ≠ 175 ∧ t ≠ 168 ∧ t ≠ 34 ∧ t ≠ 44)
  | .map .. => false
  | _ => true
structure KpO (A B : World) : Prop where
  size : A.heap.size ≤ B.heap.size
  same : ∀ (k : Nat) (o : Obj), A.heap[k]? = some o → freeO o = true → B.heap[k]? = some o
section
variable {w0 w w' : World} {B sp gp bV bT bH m lp p bD bN n n0 : Nat} {s : AShard} {l : ALog} {d : ADisk}
end
/-- the walk of a function: it goes through rs -/
def SeqF {α : Type} (F : Fence) (n : Nat) (P : Program) (gf : Nat) (lb : Array Value) (encs : α → Array Value) (rs : List α) (Inv : World → Prop) (l : Nat) (W : World) : Prop :=
  ∀ J : List α → World → Prop, (∀ s A, J s A → Inv A) → (∀ s A B, J s A → W.heap.size ≤ A.heap.size → Bk W.heap.size A B → J s B) →
    (∀ pre x W1, J pre W1 → W.heap.size ≤ W1.heap.size → pre ++ [x] <+: rs → YieldAt F (n - 1) P l (encs x) W1 fun e W' => e = .returned (.bool true) ∧ J (pre ++ [x]) W' ∧ KpO W1 W') →
    J [] W → CallsIn F n P gf (#[.func (.yield l) #[] #[]] ++ lb) W fun e W' => (∃ v, e = .returned v) ∧ J rs W'
section
variable {F : Fence} {n : Nat} {P : Program}
end
end Go.Proofs.YtejiankgafjppaaGreatDoor
/- A SHARD'S ENTRIES: valuedEntry; the walk through what a checkpoint notes. -/
namespace Go.Proofs.YtejiankgafjppaaGreatDoor
open Go.RowKit Go.Maps Go.Shelf
open Sc

/-- the entries of what is committed -/
abbrev vB (x : ByteArray × ByteArray) : List Nat := valB x.1 x.2
def valEs (L : List (ByteArray × ByteArray)) : List (List Nat) := (sortV L).map vB
end Go.Proofs.YtejiankgafjppaaGreatDoor
/- A LOG OVER A DISK THAT IS WELL: what its files hold; what Append, Keep and Cut leave of that. Mathematics. -/
namespace Go.Proofs.YtejiankgafjppaaGreatDoor
open Go.RowKit
open Sc

/-- what is durable, and what was told since, are what is there -/
def ADisk.Con (d : ADisk) : Prop := d.pending.foldl doOp d.durable = d.now
/-- all is durable -/
def ADisk.Set (d : ADisk) : Prop := d.pending = [] ∧ d.durable = d.now
theorem ADisk.Set.con {d : ADisk} (h : d.Set) : d.Con := by unfold ADisk.Con; rw [h.1, h.2]; rfl
theorem syncS {d : ADisk} {c : Nat} (h : d.Well c) (hc : c < 1099511627776) (hd : d.Con) : d.sync.1.Set := by
  rw [syncE h hc]
  exact ⟨rfl, hd⟩
theorem tellX {d : ADisk} {c : Nat} {o : AOp} (h : d.Well c) (hc : c < 1099511627776) (h1 : 2 < o.kind → d.now o.name ≠ none) (h2 : ¬ (o.kind = 4 ∧ o.name = o.to)) : d.tell o = ({ d with left := d.left - 1, full := d.full - 1, now := doOp d.now o, pending := d.pending ++ [o] }, 0) := by
  unfold ADisk.tell
  simp only [writesE h hc]
  rw [if_neg (by omega), if_neg (by omega), if_neg (by rintro ⟨x, y⟩; exact h1 y x), if_neg h2]
theorem tellC {d : ADisk} {c : Nat} {o : AOp} (h : d.Well c) (hc : c < 1099511627776) (h1 : 2 < o.kind → d.now o.name ≠ none) (h2 : ¬ (o.kind = 4 ∧ o.name = o.to)) (hd : d.Con) : (d.tell o).1.Con := by
  rw [tellX h hc h1 h2]
  unfold ADisk.Con at hd ⊢
  simp only [List.foldl_append, List.foldl_cons, List.foldl_nil, hd]
/-- files but these -/
def Files.less : Files → List ByteArray → Files
  | m, [] => m
  | m, x :: l => (m.set x none).less l
/-! ### the files of a log -/
def segF : Nat → List (List Rec) → Files
  | _, [] => fun _ => none
  | n, c :: cs => (segF (n + c.length) cs).set (segName n) (some (str (encR c)))
/-- the files of a log whose records below fst + 1 are gone -/
def filesOf (fst : Nat) (cs : List (List Rec)) : Files := if fst = 0 then segF 1 cs else (segF (fst + 1) cs).set markNm (some (str (recBytes (fst + 1) 0 [])))
theorem segF_none : ∀ (cs : List (List Rec)) (n : Nat) (k : ByteArray), (∀ s ∈ starts n cs, k ≠ segName s) → segF n cs k = none
  | [], _, _, _ => rfl
  | c :: cs, n, k, h => by
    rw [segF, Files.set_other _ _ (h n (by simp [starts]))]
    exact segF_none cs _ k (fun s hs => h s (by simp [starts, hs]))
theorem segF_some : ∀ (cs : List (List Rec)) (n s : Nat), s ∈ starts n cs → segF n cs (segName s) ≠ none
  | [], _, _, h => by simp [starts] at h
  | c :: cs, n, s, h => by
    rw [segF]
    unfold Files.set
    split
    · simp
    · rename_i hne
      simp only [starts, List.mem_cons] at h
      rcases h with rfl | h
      · exact absurd rfl hne
      · exact segF_some cs _ s h
theorem segF_snoc : ∀ (cs : List (List Rec)) (n : Nat) (c : List Rec), (∀ b ∈ cs, b ≠ []) → segF n (cs ++ [c]) = (segF n cs).set (segName (n + cs.flatten.length)) (some (str (encR c)))
  | [], n, c, _ => by simp [segF]
  | b :: cs, n, c, h => by
    have hb : 0 < b.length := List.length_pos_iff.2 (h b (by simp))
    rw [List.cons_append, segF, segF_snoc cs _ c (fun x hx => h x (by simp [hx])), segF]
    funext k
    have hne : segName n ≠ segName (n + b.length + cs.flatten.length) := fun e => by have := segName_inj e; omega
    have he : n + b.length + cs.flatten.length = n + (b :: cs).flatten.length := by simp; omega
    rw [he] at hne ⊢
    unfold Files.set
    by_cases h1 : k = segName n
    · subst h1; rw [if_pos rfl, if_neg hne, if_pos rfl]
    · simp [h1]
theorem Files.set_set (m : Files) (k : ByteArray) (a b : Option ByteArray) : (m.set k a).set k b = m.set k b := by
  funext x; unfold Files.set; by_cases h : x = k <;> simp [h]
theorem starts_inj : ∀ (a b : List (List Rec)) (n : Nat), starts n a = starts n b → a.flatten = b.flatten → a = b
  | [], [], _, _, _ => rfl
  | [], c :: b, n, h, _ => by simp [starts] at h
  | c :: a, [], n, h, _ => by simp [starts] at h
  | [c], [c'], n, _, h => by simpa using h
  | [c], c' :: y :: b, n, h, _ => by simp [starts] at h
  | c :: x :: a, [c'], n, h, _ => by simp [starts] at h
  | c :: x :: a, c' :: y :: b, n, h, hf => by
    simp only [starts, List.cons.injEq, true_and] at h
    have hl : c.length = c'.length := by omega
    have hf' : c ++ (x :: a).flatten = c' ++ (y :: b).flatten := by simpa using hf
    obtain ⟨e1, e2⟩ := List.append_inj hf' hl
    subst e1
    rw [starts_inj (x :: a) (y :: b) (n + c.length) (by simp only [starts, List.cons.injEq, true_and]; exact h.2) e2]
/-! ### what Append and Cut come to -/
section
variable {l : ALog} {d : ADisk} {fst c : Nat} {cs : List (List Rec)}
theorem LogOk.app1 (h : LogOk l d fst cs) (hw : d.Well c) (hc : c + 2 < 1099511627776) (kind : Nat) (s : ByteArray) (hs : s.size ≤ 255) (hf : l.filled < 600) :
    l.append d kind s = ({ l with filled := l.filled + (15 + s.size), recs := l.recs ++ [⟨l.next, kind, bytesOf s⟩], next := l.next + 1 }, (d.tell ⟨2, segName (l.segs.getLastD 0), ByteArray.empty, str (recBytes l.next kind (bytesOf s))⟩).1, l.next, 0) := by
  obtain ⟨by_, hby⟩ : ∃ b, b = recBytes l.next kind (bytesOf s) := ⟨_, rfl⟩
  obtain ⟨a1, a2, a3⟩ := tellW (d := d) (o := ⟨2, segName (l.segs.getLastD 0), ByteArray.empty, str by_⟩) hw (by omega) (by simp) (by simp)
  have hroom : l.room d = (l, d, 0) := by unfold ALog.room; rw [if_pos hf]
  have hput : l.put d by_ = (l, (d.tell ⟨2, segName (l.segs.getLastD 0), ByteArray.empty, str by_⟩).1, 0) := by
    unfold ALog.put; rw [hroom]; simp only [if_true]; rw [a1]
  have hwr : l.wr d (l.put d by_) = (l, (d.tell ⟨2, segName (l.segs.getLastD 0), ByteArray.empty, str by_⟩).1, 0) := by
    unfold ALog.wr; rw [if_pos h.fail, hput]; simp only [h.fail.symm]
  unfold ALog.append; rw [if_neg (by omega), ← hby, hwr]; simp
theorem LogOk.app2 (h : LogOk l d fst cs) (hw : d.Well c) (hc : c + 2 < 1099511627776) (kind : Nat) (s : ByteArray) (hs : s.size ≤ 255) (hf : ¬ l.filled < 600) :
    l.append d kind s = ({ l with durable := l.next, segs := l.segs ++ [l.next], filled := 0 + (15 + s.size), recs := l.recs ++ [⟨l.next, kind, bytesOf s⟩], next := l.next + 1 }, (d.sync.1.tell ⟨2, segName l.next, ByteArray.empty, str (recBytes l.next kind (bytesOf s))⟩).1, l.next, 0) := by
  obtain ⟨by_, hby⟩ : ∃ b, b = recBytes l.next kind (bytesOf s) := ⟨_, rfl⟩
  have hs1 := h.syncs hw (by omega)
  obtain ⟨s1, s2, s3⟩ := syncW hw (by omega)
  obtain ⟨a1, a2, a3⟩ := tellW (d := d.sync.1) (o := ⟨2, segName l.next, ByteArray.empty, str by_⟩) s2 (by omega) (by simp) (by simp)
  have hroom : l.room d = ({ l with durable := l.next, segs := l.segs ++ [l.next], filled := 0 }, d.sync.1, 0) := by
    unfold ALog.room; rw [if_neg hf, hs1]; simp
  have hput : l.put d by_ = ({ l with durable := l.next, segs := l.segs ++ [l.next], filled := 0 }, (d.sync.1.tell ⟨2, segName l.next, ByteArray.empty, str by_⟩).1, 0) := by
    unfold ALog.put; rw [hroom]; simp only [if_true]
    rw [show (l.segs ++ [l.next]).getLastD 0 = l.next by simp, a1]
  have hwr : l.wr d (l.put d by_) = ({ l with durable := l.next, segs := l.segs ++ [l.next], filled := 0 }, (d.sync.1.tell ⟨2, segName l.next, ByteArray.empty, str by_⟩).1, 0) := by
    unfold ALog.wr; rw [if_pos h.fail, hput]; simp only [h.fail.symm]
  unfold ALog.append; rw [if_neg (by omega), ← hby, hwr]; simp
end
/-- a log over a disk that is well: also what its files hold -/
structure Mu (l : ALog) (d : ADisk) (fst : Nat) (cs : List (List Rec)) : Prop where
  ok : LogOk l d fst cs
  now : d.now = filesOf fst cs
  con : d.Con
  dur : l.durable ≤ l.next
  fine : ∀ r ∈ cs.flatten, r.kind < 256 ∧ r.pay.length ≤ 255 ∧ Byt r.pay
section
variable {l : ALog} {d : ADisk} {fst c : Nat} {cs : List (List Rec)}
theorem filesOf_seg (fst : Nat) (cs : List (List Rec)) (s : Nat) : filesOf fst cs (segName s) = segF (fst + 1) cs (segName s) := by
  unfold filesOf
  split
  · rename_i h; rw [h]
  · exact Files.set_other _ _ (segName_mark s).1
theorem filesOf_set (fst : Nat) (cs cs' : List (List Rec)) (s : Nat) (v : Option ByteArray) (h : segF (fst + 1) cs' = (segF (fst + 1) cs).set (segName s) v) : filesOf fst cs' = (filesOf fst cs).set (segName s) v := by
  unfold filesOf
  split
  · rename_i e; rw [e] at h; exact h
  · rw [h]
    funext k
    unfold Files.set
    by_cases h1 : k = markNm
    · simp [h1, (segName_mark s).1.symm]
    · simp [h1]
theorem Mu.append (h : Mu l d fst cs) (hw : d.Well c) (hc : c + 2 < 1099511627776) (kind : Nat) (s : ByteArray) (hs : s.size ≤ 255) (hk : kind < 256) :
    (l.append d kind s).2.2.1 = l.next ∧ (l.append d kind s).2.2.2 = 0 ∧ (l.append d kind s).2.1.Well (c + 2) ∧ (l.append d kind s).1.next = l.next + 1 ∧ (l.append d kind s).1.durable ≤ l.next ∧
      ∃ cs', Mu (l.append d kind s).1 (l.append d kind s).2.1 fst cs' ∧ cs'.flatten = cs.flatten ++ [⟨l.next, kind, bytesOf s⟩] ∧ cs'.length ≤ cs.length + 1 := by
  have hA := h.ok.append hw hc kind s hs
  obtain ⟨cs', hL, hfl⟩ := hA.log
  have hfine : ∀ r ∈ cs'.flatten, r.kind < 256 ∧ r.pay.length ≤ 255 ∧ Byt r.pay := by
    intro r hr
    rw [hfl] at hr
    rcases List.mem_append.1 hr with hr | hr
    · exact h.fine r hr
    · simp at hr; subst hr; exact ⟨hk, by rw [bytesOf_len]; exact hs, bytesOf_byt s⟩
  have hnx := h.ok.next
  refine ⟨hA.ret.1, hA.ret.2, hA.well, ?_, ?_, cs', ?_, hfl, ?_⟩
  · rw [hL.next, hfl, hnx]; simp; omega
  · by_cases hf : l.filled < 600
    · rw [h.ok.app1 hw hc kind s hs hf]; exact h.dur
    · rw [h.ok.app2 hw hc kind s hs hf]; exact Nat.le_refl _
  · by_cases hf : l.filled < 600
    · have e := h.ok.app1 hw hc kind s hs hf
      obtain ⟨ds, cl, rfl⟩ := h.ok.last hf
      have hlast : l.segs.getLastD 0 = fst + 1 + ds.flatten.length := by rw [h.ok.segs, starts_snoc]; simp
      have hne : ∀ b ∈ ds, b ≠ [] := fun b hb => h.ok.ne b (by simp [hb])
      have ecs : cs' = ds ++ [cl ++ [⟨l.next, kind, bytesOf s⟩]] := by
        refine starts_inj _ _ (fst + 1) ?_ (by rw [hfl, flat_snoc, flat_snoc, List.append_assoc])
        rw [← hL.segs, e, starts_set ds (fst + 1) _ cl]
        exact h.ok.segs
      obtain ⟨a1, a2, a3⟩ := tellW (d := d) (o := ⟨2, segName (l.segs.getLastD 0), ByteArray.empty, str (recBytes l.next kind (bytesOf s))⟩) hw (by omega) (by simp) (by simp)
      refine { ok := hL, now := ?_, con := ?_, dur := ?_, fine := hfine }
      · rw [e]
        show (d.tell _).1.now = _
        rw [a3, doOp_app, hlast]
        rw [ecs]
        obtain ⟨x, hx⟩ : ∃ x : Rec, x = ⟨l.next, kind, bytesOf s⟩ := ⟨_, rfl⟩
        rw [← hx]
        have ex : str (recBytes l.next kind (bytesOf s)) = str (recBytes x.lsn x.kind x.pay) := by rw [hx]
        rw [filesOf_set fst (ds ++ [cl]) (ds ++ [cl ++ [x]]) (fst + 1 + ds.flatten.length) (some (str (encR (cl ++ [x])))) (by
          rw [segF_snoc ds _ _ hne, segF_snoc ds _ _ hne, Files.set_set]), ← h.now, ex]
        congr 2
        have : d.now (segName (fst + 1 + ds.flatten.length)) = some (str (encR cl)) := by
          rw [h.now, filesOf_seg, segF_snoc ds _ _ hne, Files.set_same]
        rw [this, encR_snoc, str_app]
        rfl
      · rw [e]
        exact tellC hw (by omega) (by simp) (by simp) h.con
      · rw [e]; have := h.dur; simp; omega
    · have e := h.ok.app2 hw hc kind s hs hf
      obtain ⟨s1, s2, s3⟩ := syncW hw (by omega)
      have s4 := (syncS hw (by omega) h.con).con
      have hne := h.ok.ne
      have ecs : cs' = cs ++ [[⟨l.next, kind, bytesOf s⟩]] := by
        refine starts_inj _ _ (fst + 1) ?_ (by rw [hfl, flat_snoc])
        rw [← hL.segs, e, starts_snoc, ← h.ok.segs]
        show l.segs ++ [l.next] = _
        rw [hnx]; congr 2; omega
      obtain ⟨a1, a2, a3⟩ := tellW (d := d.sync.1) (o := ⟨2, segName l.next, ByteArray.empty, str (recBytes l.next kind (bytesOf s))⟩) s2 (by omega) (by simp) (by simp)
      have hnx' : l.next = fst + 1 + cs.flatten.length := by omega
      refine { ok := hL, now := ?_, con := ?_, dur := ?_, fine := hfine }
      · rw [e]
        show (d.sync.1.tell _).1.now = _
        rw [a3, doOp_app, s3]
        rw [ecs]
        obtain ⟨x, hx⟩ : ∃ x : Rec, x = ⟨l.next, kind, bytesOf s⟩ := ⟨_, rfl⟩
        rw [← hx]
        have ex : str (recBytes l.next kind (bytesOf s)) = str (recBytes x.lsn x.kind x.pay) := by rw [hx]
        rw [filesOf_set fst cs (cs ++ [[x]]) l.next (some (str (encR [x]))) (by
          rw [segF_snoc cs _ _ hne, ← hnx']), ← h.now, ex]
        congr 2
        have : d.now (segName l.next) = none := by
          rw [h.now, filesOf_seg]
          refine segF_none cs _ _ (fun x hx e => ?_)
          have e2 := segName_inj e
          subst e2
          rw [hnx'] at hx
          have : ∀ (a : List (List Rec)) (n : Nat), (∀ b ∈ a, b ≠ []) → ∀ x ∈ starts n a, x < n + a.flatten.length := by
            intro a
            induction a with
            | nil => intro n _ x hx; simp [starts] at hx
            | cons b a ih =>
              intro n hb x hx
              have h0 : 0 < b.length := List.length_pos_iff.2 (hb b (by simp))
              simp only [starts, List.mem_cons] at hx
              rcases hx with rfl | hx
              · simp; omega
              · have := ih (n + b.length) (fun y hy => hb y (by simp [hy])) x hx
                simp; simp at this; omega
          have := this cs (fst + 1) hne _ hx
          omega
        rw [this]
        simp [encR]
      · rw [e]
        exact tellC s2 (by omega) (by simp) (by simp) s4
      · rw [e]; simp
  · have hl2 : cs'.length = (l.append d kind s).1.segs.length := by rw [hL.segs, starts_len]
    have hl1 : cs.length = l.segs.length := by rw [h.ok.segs, starts_len]
    rw [hl2, hl1]
    by_cases hf : l.filled < 600
    · rw [h.ok.app1 hw hc kind s hs hf]; exact Nat.le_succ _
    · rw [h.ok.app2 hw hc kind s hs hf]; simp
theorem Mu.note (h : Mu l d fst cs) (hw : d.Well c) (hc : c + 2 < 1099511627776) (kind : Nat) (s : ByteArray) (hs : s.size ≤ 255) (hk : kind < 256) :
    (l.note d kind s).2.2 = 0 ∧ (l.note d kind s).2.1.Well (c + 2) ∧ (l.note d kind s).1.next = l.next + 1 ∧ (l.note d kind s).1.durable ≤ l.next ∧ ∃ cs', Mu (l.note d kind s).1 (l.note d kind s).2.1 fst cs' ∧ cs'.flatten = cs.flatten ++ [⟨l.next, kind, bytesOf s⟩] ∧ cs'.length ≤ cs.length + 1 := by
  obtain ⟨_, a2, a3, a4, a5, a6⟩ := h.append hw hc kind s hs hk
  exact ⟨a2, a3, a4, a5, a6⟩
theorem Mu.syncd (h : Mu l d fst cs) (hw : d.Well c) (hc : c < 1099511627776) : Mu { l with durable := l.next } d.sync.1 fst cs ∧ d.sync.1.Set ∧ d.sync.1.Well (c + 1) := by
  obtain ⟨s1, s2, s3⟩ := syncW hw hc
  have s4 := syncS hw hc h.con
  exact ⟨{ ok := h.ok.synced hw hc _, now := by rw [s3]; exact h.now, con := s4.con, dur := Nat.le_refl _, fine := h.fine }, s4, s2⟩
theorem Mu.keep (h : Mu l d fst cs) (hw : d.Well c) (hc : c + 3 < 1099511627776) (kind : Nat) (s : ByteArray) (hs : s.size ≤ 255) (hk : kind < 256) :
    (l.keep d kind s).2.2 = 0 ∧ (l.keep d kind s).2.1.Well (c + 3) ∧ (l.keep d kind s).2.1.Set ∧ (l.keep d kind s).1.next = l.next + 1 ∧ ∃ cs', Mu (l.keep d kind s).1 (l.keep d kind s).2.1 fst cs' ∧ cs'.flatten = cs.flatten ++ [⟨l.next, kind, bytesOf s⟩] ∧ cs'.length ≤ cs.length + 1 := by
  obtain ⟨a1, a2, a3, a4, cs', a5, a6, a7⟩ := h.note hw (by omega) kind s hs hk
  obtain ⟨b1, b2, b3⟩ := a5.syncd a2 (by omega)
  have e : l.keep d kind s = ({ (l.note d kind s).1 with durable := (l.note d kind s).1.next }, (l.note d kind s).2.1.sync.1, 0) := by
    unfold ALog.keep
    rw [if_pos a1]
    unfold ALog.force
    rw [if_neg (by omega), a5.ok.wrS a2 (by omega)]
  rw [e]
  exact ⟨rfl, b3, b2, a3, cs', b1, a6, a7⟩
end
end Go.Proofs.YtejiankgafjppaaGreatDoor
/- FEW SEGMENTS, FEW BYTES; a ledger with checkpoints. Mathematics. -/
namespace Go.Proofs.YtejiankgafjppaaGreatDoor
open Go.RowKit
open Sc

/-! ### few segments, few bytes -/
/-- the names of a log's files -/
def namesF (fst : Nat) (cs : List (List Rec)) : List ByteArray := (if fst = 0 then [] else [markNm]) ++ (starts (fst + 1) cs).map segName
/-- what a file weighs, with its name -/
def weigh (m : Files) (k : ByteArray) : Nat := k.size + ((m k).getD ByteArray.empty).size
def weighs (m : Files) (l : List ByteArray) : Nat := (l.map (weigh m)).sum
/-! ### a ledger's checkpoints -/
/-- between which numbers the last checkpoint stands: (the last that began, begin, end) -/
def cpStep (x : Nat × Nat × Nat) (r : Rec) : Nat × Nat × Nat := if r.kind = 254 then (r.lsn, x.2) else if r.kind = 255 ∧ 0 < x.1 then (x.1, x.1, r.lsn) else x
def cpOf (rs : List Rec) : Nat × Nat × Nat := rs.foldl cpStep (0, 0, 0)
/-- the records that count -/
def counts (b e : Nat) (r : Rec) : Bool := (decide (r.kind < 128) && decide (e < r.lsn)) || (decide (b < r.lsn) && decide (r.lsn < e))
/-- those of a ledger -/
def counted (rs : List Rec) : List Rec := rs.filter (counts (cpOf rs).2.1 (cpOf rs).2.2)
/-- a log as it is read -/
def logM (fst : Nat) (cs : List (List Rec)) : ALog := ⟨starts (fst + 1) cs, bytesR (cs.getLastD []), cs.flatten, fst + 1 + cs.flatten.length, 0, 0⟩
end Go.Proofs.YtejiankgafjppaaGreatDoor
/- CHECKPOINTS: (*Ledger).Checkpoint of a shard's entries, over a disk that is well. -/
namespace Go.Proofs.YtejiankgafjppaaGreatDoor
open Go.RowKit Go.Maps Go.Shelf
open Sc

/-- entries as a checkpoint notes them -/
def notedR : Nat → List (List Nat) → List Rec
  | _, [] => []
  | n, p :: ps => ⟨n, 132, p⟩ :: notedR (n + 1) ps
/-- a checkpoint so far as it is noted -/
structure CkSt (w0 w : World) (B sp gp bV bT bH m lp p bD bN n : Nat) (s : AShard) (fst : Nat) (rs : List Rec) (nx c g : Nat) : Prop where
  ex : ∃ l d cs, SL w B sp gp bV bT bH m lp p bD bN n s l d ∧ Mu l d fst cs ∧ d.Well c ∧ l.next = nx ∧ cs.flatten = rs ∧ cs.length ≤ g
  fr : SFr sp bV bT bH lp p w0 w
  lo : 2 ≤ w0.heap.size
  pows : Pows w
section
variable {w0 w w' : World} {B sp gp bV bT bH m lp p bD bN n fst nx c g : Nat} {s : AShard} {rs : List Rec}
/-- what a checkpoint leaves -/
structure CkEnd (w0 w : World) (B sp gp bV bT bH m lp p bD bN n : Nat) (s : AShard) (fst : Nat) (rs : List Rec) (low nx : Nat) : Prop where
  ex : ∃ l d fst' cs, SL w B sp gp bV bT bH m lp p bD bN n s l d ∧ Mu l d fst' cs ∧ d.down = false ∧ d.Set ∧ l.next = nx ∧ fst ≤ fst' ∧ (fst' = fst ∨ fst' + 1 ≤ low) ∧ cs.flatten = rs.drop (fst' - fst) ∧ ∀ x, l.segs[1]? = some x → low < x
  fr : SFr sp bV bT bH lp p w0 w
end
end Go.Proofs.YtejiankgafjppaaGreatDoor
/- CHECKPOINTS: (*Ledger).Checkpoint of a shard's entries. -/
namespace Go.Proofs.YtejiankgafjppaaGreatDoor
open Go.RowKit Go.Maps Go.Shelf
open Sc

/-- what can be noted of what is committed -/
def SmallV (L : List (ByteArray × ByteArray)) : Prop := (∀ x ∈ sortV L, x.1.size < 256 ∧ x.2.size < 256 ∧ (valB x.1 x.2).length ≤ 255) ∧ (sortV L).length ≤ 64
/-- the records of a checkpoint -/
def ckR (nx : Nat) (es : List (List Nat)) : List Rec := [⟨nx, 254, []⟩] ++ notedR (nx + 1) es
end Go.Proofs.YtejiankgafjppaaGreatDoor
/- CHECKPOINTS: (*Shard).Checkpoint, over a disk that is well. -/
namespace Go.Proofs.YtejiankgafjppaaGreatDoor
open Go.RowKit Go.Maps Go.Shelf
open Sc

/-- the records that a checkpoint of these leaves at the end -/
def ckAll (nx : Nat) (L : List (ByteArray × ByteArray)) : List Rec := ckR nx (valEs L) ++ [⟨nx + 1 + (valEs L).length, 255, []⟩]
end Go.Proofs.YtejiankgafjppaaGreatDoor
/- A SHARD OVER A LOG OF MANY SEGMENTS, as Spaced uses it: each call's contract. -/
namespace Go.Proofs.YtejiankgafjppaaGreatDoor
open Go.RowKit Go.Maps
open Sc

section
variable {l : ALog} {d : ADisk} {fst : Nat} {cs : List (List Rec)}
theorem Mu.knob (h : Mu l d fst cs) (a b : Int) : Mu l (d.knob a b) fst cs where
  ok := { h.ok with files := h.ok.files }
  now := h.now
  con := h.con
  dur := h.dur
  fine := h.fine
theorem well_knob (h : d.down = false) : (d.knob (-1) (-1)).Well 0 := ⟨h, by simp [ADisk.knob], by simp [ADisk.knob]⟩
end
/-- an open shard over a log of at most G segments, all durable -/
def Lx (w : World) (B hp M G : Nat) (s : AShard) : Prop := ∃ m n l d fst cs, m ≤ M ∧ n ≤ 10 + M ∧ HSt w B hp m n s l d ∧ Mu l d fst cs ∧ d.Well 0 ∧ d.Set ∧ cs.length ≤ G
/-- one behind a checkpoint -/
def Lz (w : World) (B hp M : Nat) (s : AShard) : Prop := ∃ m n l d fst cs pre nx, m ≤ M ∧ n ≤ 10 + M ∧ HSt w B hp m n s l d ∧ Mu l d fst cs ∧ d.Well 0 ∧ d.Set ∧ cs.length ≤ 3 ∧ cs.flatten = pre ++ ckAll nx s.vals ∧ (∀ r ∈ pre, r.lsn < nx) ∧ 0 < nx
/-- what is committed: one value -/
abbrev sV (v : ByteArray) : AShard := ⟨[(kk, v)], [], [], 0⟩
abbrev sP (u v : ByteArray) (t : Nat) (x : ATxn) : AShard := ⟨[(kk, u)], [(t, x)], [((t, kk), ⟨1, v⟩)], 0⟩
section
variable (B hp M G t : Nat) (u v : ByteArray) (w : World)
end
end Go.Proofs.YtejiankgafjppaaGreatDoor
