import Derived.Test.YtejiankgafjppaaGreatDoorC03
import Derived.Test.YtejiankgafjppaaGreatDoorC07
import Derived.Test.YtejiankgafjppaaGreatDoorC02
import Derived.Test.YtejiankgafjppaaGreatDoorC17
import Derived.Test.YtejiankgafjppaaGreatDoorC12
import Derived.Test.YtejiankgafjppaaGreatDoorC16
import Derived.Test.YtejiankgafjppaaGreatDoorC19
import Derived.Test.YtejiankgafjppaaGreatDoorC20
import Derived.Stop.RegionWithIn
import Derived.Test.YtejiankgafjppaaGreatDoorC18
import Derived.Test.YtejiankgafjppaaGreatDoorProg
import Derived.Test.YtejiankgafjppaaGreatDoorC01
import Derived.RangeFuncNested
import Derived.RangeFuncBox
import Derived.RangeFuncBound
import Derived.RangeFuncCalls
import Derived.RangeFuncLeaves
import Derived.Shelf.Abstract
import Derived.Shelf.AbstractIn
import Derived.Shelf.RegionOpen
import Derived.WalkKit
import Derived.OwnWalkIn
import Derived.TacticsInMore
import Derived.LoopNIn
import Derived.LoopIn
import Derived.Maps.AppendAt
import Derived.Shelf.Small.Bits
import Derived.Shelf.Small.Wraps
import Derived.Shelf.Strconv.Itoa0
import Derived.Shelf.Strconv.Itoa1
import Derived.Shelf.LaysM
import Derived.Shelf.Strconv.Itoa2
import Derived.Shelf.Strconv.Itoa3
import Derived.Shelf.Strconv.Clone
import Derived.Ground.MpProg
import Derived.Shelf.Pu.ParseUintPublic10
import Derived.Shelf.Sort.Plain
import Derived.Shelf.Strings.Prefix
import Derived.Shelf.Slices.In.SortNone
import Derived.Shelf.Slices.In.SortNone2
import Derived.Ground.SlgnProg
import Derived.Shelf.SlicesE.Clone
import Derived.Shelf.SlIter.Nil
import Derived.Ground.GgzProg
import Derived.RangeFuncKeeps
import Derived.Laws.AppendOwnNone
namespace Go.Proofs.YtejiankgafjppaaGreatDoor
open Go.RowKit
open Sc
theorem str_data0 (l:List Nat):(str l).data=(l.map fun x=>UInt8.ofNat x).toArray:=by
 have aux:∀ (l:List Nat) (r:ByteArray),((l.map fun x:Nat=>(x:Int)).foldl (fun r n=>r.push (UInt8.ofNat n.toNat)) r).data=r.data++(l.map fun x=>UInt8.ofNat x).toArray:=by
  intro l
  induction l with
  | nil=>intro r;simp
  | cons x l ih =>
   intro r
   rw [List.map_cons,List.foldl_cons,ih]
   simp [ByteArray.push]
 unfold str
 rw [aux]
 simp
theorem bytesOf_str0 {l:List Nat} (h:Byt l):bytesOf (str l)=l:=by
 unfold bytesOf
 rw [str_data0]
 simp only [List.map_map]
 have:∀ (m:List Nat),Byt m→m.map (UInt8.toNat ∘ fun x=>UInt8.ofNat x)=m:=by
  intro m
  induction m with
  | nil=>intro _;rfl
  | cons x m ih =>
   intro hb
   have hx:x<256:=hb x (by simp)
   rw [List.map_cons,ih (fun y hy=>hb y (by simp [hy]))]
   congr 1
   simp
   omega
 exact this l h
abbrev fldO (b off n cap:Nat):Obj:=.cells #[.slice (some ⟨b,off,none⟩) n cap,.bool false] 383
def FldIn (w:World) (fp:Nat) (rest:List Nat):Prop :=
 ∃ b off cap,w.heap[fp]?=some (fldO b off rest.length cap)∧RowAt w b off rest∧b<w.heap.size∧rest.length≤cap∧cap≤maxLen∧b≠fp∧Byt rest
theorem FldIn.lt {w:World} {fp:Nat} {rest:List Nat} (h:FldIn w fp rest):fp<w.heap.size:=by obtain ⟨_,_,_,h1,_⟩:=h;exact (Array.getElem?_eq_some_iff.1 h1).1
theorem FldIn.keep {w w':World} {fp:Nat} {rest:List Nat} (h:FldIn w fp rest) {n:Nat} (hf:∀ k,n≤k→k<w.heap.size→w'.heap[k]?=w.heap[k]?) (hs:w.heap.size≤w'.heap.size) (hb:∀ b off cap,w.heap[fp]?=some (fldO b off rest.length cap)→n≤b) (hn:n≤fp):FldIn w' fp rest:=by
 have hfp:=h.lt
 obtain ⟨b,off,cap,h1,h2,h3,h4⟩:=h
 refine ⟨b,off,cap,(hf fp hn hfp).trans h1,fun i hi=>?_,by omega,h4⟩
 exact (World.cell?_of_block (a:=⟨b,off+i,none⟩) (hf b (hb b off cap h1) h3)).trans (h2 i hi)
structure FldAt (n:Nat) (w:World) (fp:Nat) (rest:List Nat):Prop where
 fld:FldIn w fp rest
 low:n≤fp
 row:∀ b off cap,w.heap[fp]?=some (fldO b off rest.length cap)→n≤b
 typ:∀ b off cap,w.heap[fp]?=some (fldO b off rest.length cap)→∃ c fr,w.heap[b]?=some (.cells c 5 fr)
theorem FldAt.keep {n:Nat} {w w':World} {fp:Nat} {rest:List Nat} (h:FldAt n w fp rest) (hf:∀ k,n≤k→k<w.heap.size→w'.heap[k]?=w.heap[k]?) (hs:w.heap.size≤w'.heap.size):FldAt n w' fp rest:=by
 have hfp:=h.fld.lt
 refine ⟨h.fld.keep hf hs h.row h.low,h.low,fun b off cap hb=>?_,fun b off cap hb=>?_⟩
 ·rw [hf fp h.low hfp] at hb
  exact h.row b off cap hb
 ·rw [hf fp h.low hfp] at hb
  obtain ⟨c,fr,hc⟩:=h.typ b off cap hb
  exact ⟨c,fr,(hf b (h.row b off cap hb) (Array.getElem?_eq_some_iff.1 hc).1).trans hc⟩
theorem FldAt.apart {n:Nat} {S:List Nat} {w w':World} {fp:Nat} {rest:List Nat} (h:FldAt n w fp rest) (hf:Fr S w w') (hS:∀ k∈S,k≠fp∧∀ c fr,w.heap[k]?≠some (.cells c 5 fr)):FldAt n w' fp rest:=by
 have hfp:=h.fld.lt
 have e0:=hf.block fp hfp (fun e=>(hS fp e).1 rfl)
 have eb:∀ b off cap,w.heap[fp]?=some (fldO b off rest.length cap)→w'.heap[b]?=w.heap[b]?:=fun b off cap hb=>by
  obtain ⟨c,fr,hc⟩:=h.typ b off cap hb
  exact hf.block b (Array.getElem?_eq_some_iff.1 hc).1 (fun e=>(hS b e).2 c fr hc)
 refine ⟨?_,h.low,fun b off cap hb=>h.row b off cap (by rw [← e0];exact hb),fun b off cap hb=>?_⟩
 ·obtain ⟨b,off,cap,h1,h2,h3,h4⟩:=h.fld
  refine ⟨b,off,cap,e0.trans h1,fun i hi=>?_,by have:=hf.size;omega,h4⟩
  exact (World.cell?_of_block (a:=⟨b,off+i,none⟩) (eb b off cap h1)).trans (h2 i hi)
 ·rw [e0] at hb
  rw [eb b off cap hb]
  exact h.typ b off cap hb
theorem FldAt.fr {n:Nat} {S:List Nat} {w w':World} {fp:Nat} {rest:List Nat} (h:FldAt n w fp rest) (hf:Fr S w w') (hS:∀ k∈S,k<n):FldAt n w' fp rest :=
 h.keep (fun k hk hl=>hf.block k hl (fun hm=>by have:=hS k hm;omega)) hf.size
set_option maxRecDepth 100000 in
set_option maxHeartbeats 1000000 in
theorem fieldsOf_any (l:List Nat) (hl:Byt l) (hs:l.length≤4096) (w:World) :
  Calls Tryz.prog 236 #[.string (str l)] w fun e w'=>∃ fp,e=.returned (.pointer (some ⟨fp,0,none⟩))∧FldAt w.heap.size w' fp l∧Fr [] w w':=by
 have hrb:=run_bytes w (str l)
 have hsz:(str l).size=l.length:=by rw [← bytesOf_len,bytesOf_str0 hl]
 have hrow:=row_str w (str l) (grownCap w (str l).size 0 5)
 have hty:(w.drew.alloc (strO (str l) (grownCap w (str l).size 0 5))).heap[w.heap.size]?=some (strO (str l) (grownCap w (str l).size 0 5)):=heap_alloc_new w.drew _
 have hge:=grownCap_ge w (str l).size 0 5
 have hle:=grownCap_le_maxLen w (str l).size 0 5 (by rw [hsz];unfold maxLen;omega)
 rw [bytesOf_str0 hl] at hrow
 obtain ⟨W,hW⟩:∃ W,W=w.drew.alloc (strO (str l) (grownCap w (str l).size 0 5)):=⟨_,rfl⟩
 have hf:Fr [] w W:=by rw [hW];exact (Fr.refl [] w).drew.alloc _
 have hs1:W.heap.size=w.heap.size+1:=by rw [hW];simp
 rw [← hW] at hrb hrow hty
 rw [hsz] at hrb hge hle
 obtain ⟨cap,hcap⟩:∃ cap,cap=grownCap w l.length 0 5:=⟨_,rfl⟩
 rw [← hcap] at hrb hge hle
 clear hW hcap hsz
 go_enter Tryz.func236,Tryz.ntmps236
 go_wp2
 go_ret
 have hn:=heap_alloc_new W (fldO w.heap.size 0 l.length cap)
 refine ⟨W.heap.size,by rw [hs1];rfl,⟨⟨w.heap.size,0,cap,hn,fun i hi=>?_,by simp;omega,hge,hle,by omega,hl⟩,by omega,fun b off c hb=>?_,fun b off c hb=>?_⟩,hf.alloc _⟩
 ·rw [World.cell?_alloc_lt _ _ ⟨w.heap.size,0+i,none⟩ (by show w.heap.size<_;omega)]
  exact hrow i hi
 ·rw [hn] at hb
  cases hb
  exact Nat.le_refl _
 ·rw [hn] at hb
  cases hb
  exact ⟨_,_,(Below.heap_alloc _ _ _ (by omega)).trans hty⟩
theorem RowAt.fr {w w':World} {b off:Nat} {l:List Nat} (h:RowAt w b off l) (hb:w'.heap[b]?=w.heap[b]?):RowAt w' b off l:=fun i hi =>
 (World.cell?_of_block (a:=⟨b,off+i,none⟩) hb).trans (h i hi)
def Taken (n fp:Nat) (rest:List Nat) (k:Nat) (w:World) (e:Ending) (w':World):Prop :=
 ∃ b off,e=.returned (.slice (some ⟨b,off,none⟩) k k)∧RowAt w' b off (rest.take k)∧FldAt n w' fp (rest.drop k)∧Fr [fp] w w'
set_option maxRecDepth 100000 in
set_option maxHeartbeats 1000000 in
theorem ftake_any (n fp k:Nat) (rest:List Nat) (w:World) (h:FldAt n w fp rest) (hk:k≤rest.length) (hk2:k≤4096) :
  Calls Tryz.prog 320 #[.pointer (some ⟨fp,0,none⟩),.int .i64 (k:Int)] w (Taken n fp rest k w):=by
 obtain ⟨⟨b,off,cap,h1,h2,h3,h4,h5,h6,h7⟩,hlow,hrow,htyp⟩:=h
 have hty:=htyp b off cap h1
 have c0:=blk_cell h1 0
 have f0:=blk_free h1 0
 simp at c0
 have hnb:=hrow b off cap h1
 have HH:Hid (w.heap[fp]?=some (fldO b off rest.length cap)∧RowAt w b off rest):=⟨h1,h2⟩
 have hfp:fp<w.heap.size:=(Array.getElem?_eq_some_iff.1 h1).1
 obtain ⟨m,hm⟩:∃ m,m=rest.length:=⟨_,rfl⟩
 rw [← hm] at c0 hk h4 HH
 have HM:Hid (m=rest.length):=hm
 have i1:¬ (m:Int)<(k:Int):=by omega
 have hsp:=split_any b off m cap k w hk h4 h5
 have HTY:Hid (∃ c fr,w.heap[b]?=some (.cells c 5 fr)):=hty
 clear h1 h2 hm hrow htyp hty
 go_enter Tryz.func320,Tryz.ntmps320
 go_wp2_with fail
 refine hsp.mono ?_
 clear hsp
 rintro e w1 ⟨rfl,q,rfl⟩
 obtain ⟨off',hcut⟩:∃ off',cutA b off k cap=some ⟨b,off',none⟩∧(k<cap→off'=off+k):=by
  unfold cutA
  by_cases hc:cap=k
  ·rw [if_pos hc];exact ⟨off,rfl,fun h=>by omega⟩
  ·rw [if_neg hc];exact ⟨off+k,rfl,fun _=>rfl⟩
 obtain ⟨hcut1,hcut2⟩:=hcut
 rw [hcut1]
 have d0:(w.drewN q).cell? ⟨fp,0,none⟩=some (.slice (some ⟨b,off,none⟩) m cap):=by rw [World.cell?_of_block (a:=⟨fp,0,none⟩) (show (w.drewN q).heap[fp]?=w.heap[fp]? by rw [heap_drewN])];exact c0
 have g0:(w.drewN q).frozen? ⟨fp,0,none⟩=false:=by rw [World.frozen?_of_block (a:=⟨fp,0,none⟩) (show (w.drewN q).heap[fp]?=w.heap[fp]? by rw [heap_drewN])];exact f0
 clear c0 f0 hcut1
 go_wp2
 go_ret
 obtain ⟨W,hW⟩:∃ W,W=(w.drewN q).setCell ⟨fp,0,none⟩ (.slice (some ⟨b,off',none⟩) (m - k) (cap - k)):=⟨_,rfl⟩
 rw [← hW]
 have hf:Fr [fp] w W:=by rw [hW];exact (frDrewN (Fr.refl [fp] w) q).setCell (.inl (by simp)) _
 have hbb:W.heap[b]?=w.heap[b]?:=hf.block b h3 (by simpa using h6)
 have hbk:W.heap[fp]?=some (fldO b off' (m - k) (cap - k)):=by
  have:(w.drewN q).heap[fp]?=some (fldO b off m cap):=by rw [heap_drewN];exact HH.out.1
  have:=blk_set this 0 (.slice (some ⟨b,off',none⟩) (m - k) (cap - k))
  rw [hW];simpa using this
 have hdl:(rest.drop k).length=m - k:=by rw [List.length_drop,HM.out]
 refine ⟨b,off,rfl,fun i hi=>?_,⟨⟨b,off',cap - k,by rw [hdl];exact hbk,fun i hi=>?_,by have:=hf.size;omega,by rw [hdl];omega,by omega,h6,h7.drop k⟩,hlow,fun b' o' c' hb'=>?_,fun b' o' c' hb'=>?_⟩,hf⟩
 ·have hi2:i<rest.length:=by rw [List.length_take] at hi;omega
  have hik:i<k:=by rw [List.length_take] at hi;omega
  rw [(HH.out.2.fr hbb) i hi2]
  simp [at_,List.getElem?_take_of_lt hik]
 ·rw [hdl] at hi
  have ho:off'=off+k:=hcut2 (by omega)
  have hi2:k+i<rest.length:=by rw [← HM.out];omega
  have:=(HH.out.2.fr hbb) (k+i) hi2
  rw [ho,Nat.add_assoc]
  rw [this]
  simp [at_,List.getElem?_drop]
 ·rw [hdl,hbk] at hb'
  cases hb'
  exact hnb
 ·rw [hdl,hbk] at hb'
  cases hb'
  rw [hbb]
  exact HTY.out
set_option maxRecDepth 100000 in
set_option maxHeartbeats 1000000 in
theorem num64_any (n fp:Nat) (rest:List Nat) (w:World) (h:FldAt n w fp rest) (hk:8≤rest.length) :
  Calls Tryz.prog 287 #[.pointer (some ⟨fp,0,none⟩)] w fun e w'=>e=.returned (.int .u64 ((val (rest.take 8):Nat):Int))∧FldAt n w' fp (rest.drop 8)∧Fr [fp] w w':=by
 have hb:Byt rest:=by obtain ⟨_,_,_,_,_,_,_,_,_,h⟩:=h.fld;exact h
 have ht:=ftake_any n fp 8 rest w h hk (by omega)
 clear h
 go_enter Tryz.func287,Tryz.ntmps287
 go_wp2_with fail
 refine (width_u64 w).mono ?_
 rintro e w1 ⟨rfl,rfl⟩
 go_wp2_with fail
 refine ht.mono ?_
 clear ht
 rintro e w2 ⟨b,off,rfl,hrow,hf2,hfr⟩
 have HF:Hid (FldAt n w2 fp (rest.drop 8)∧Fr [fp] w1 w2):=⟨hf2,hfr⟩
 have hl8:(rest.take 8).length=8:=by rw [List.length_take];omega
 have htn:=take_u64 b off 8 8 (rest.take 8) w2 (hb.take 8) hl8 (by omega) (by omega) (by unfold maxLen;omega) hrow
 rw [List.take_take,Nat.min_self] at htn
 clear hf2 hfr hrow
 go_wp2_with fail
 refine htn.mono ?_
 clear htn
 rintro e w3 ⟨rfl,q,rfl⟩
 go_wp2
 go_ret
 exact ⟨rfl,HF.out.1.fr (frDrewN (Fr.refl [] w2) q) (by simp),frDrewN HF.out.2 q⟩
set_option maxRecDepth 100000 in
set_option maxHeartbeats 1000000 in
theorem num8_any (n fp:Nat) (rest:List Nat) (w:World) (h:FldAt n w fp rest) (hk:1≤rest.length) :
  Calls Tryz.prog 289 #[.pointer (some ⟨fp,0,none⟩)] w fun e w'=>e=.returned (.int .u8 ((val (rest.take 1):Nat):Int))∧FldAt n w' fp (rest.drop 1)∧Fr [fp] w w':=by
 have hb:Byt rest:=by obtain ⟨_,_,_,_,_,_,_,_,_,h⟩:=h.fld;exact h
 have ht:=ftake_any n fp 1 rest w h hk (by omega)
 clear h
 go_enter Tryz.func289,Tryz.ntmps289
 go_wp2_with fail
 refine (width_u8 w).mono ?_
 rintro e w1 ⟨rfl,rfl⟩
 go_wp2_with fail
 refine ht.mono ?_
 clear ht
 rintro e w2 ⟨b,off,rfl,hrow,hf2,hfr⟩
 have HF:Hid (FldAt n w2 fp (rest.drop 1)∧Fr [fp] w1 w2):=⟨hf2,hfr⟩
 have hl8:(rest.take 1).length=1:=by rw [List.length_take];omega
 have htn:=take_u8 b off 1 1 (rest.take 1) w2 (hb.take 1) hl8 (by omega) (by omega) (by unfold maxLen;omega) hrow
 rw [List.take_take,Nat.min_self] at htn
 clear hf2 hfr hrow
 go_wp2_with fail
 refine htn.mono ?_
 clear htn
 rintro e w3 ⟨rfl,q,rfl⟩
 go_wp2
 go_ret
 exact ⟨rfl,HF.out.1.fr (frDrewN (Fr.refl [] w2) q) (by simp),frDrewN HF.out.2 q⟩
set_option maxHeartbeats 1000000 in
theorem more_any (n fp:Nat) (rest:List Nat) (w:World) (h:FldAt n w fp rest) :
  Calls Tryz.prog 288 #[.pointer (some ⟨fp,0,none⟩)] w fun e w'=>e=.returned (.bool (decide (0<rest.length)))∧w'=w:=by
 obtain ⟨⟨b,off,cap,h1,_⟩,_,_⟩:=h
 have c0:=blk_cell h1 0
 simp at c0
 clear h1
 obtain ⟨m,hm⟩:∃ m,m=rest.length:=⟨_,rfl⟩
 rw [← hm] at c0 ⊢
 clear hm
 go_enter Tryz.func288,Tryz.ntmps288
 go_wp2
 go_ret
 refine ⟨?_,rfl⟩
 simp
set_option maxHeartbeats 1000000 in
theorem right_any (n fp:Nat) (rest:List Nat) (w:World) (h:FldAt n w fp rest) :
  Calls Tryz.prog 291 #[.pointer (some ⟨fp,0,none⟩)] w fun e w'=>e=.returned (.bool (!decide (0<rest.length)))∧w'=w:=by
 have hm:=more_any n fp rest w h
 obtain ⟨⟨b,off,cap,h1,_⟩,_,_⟩:=h
 have c1:=blk_cell h1 1
 simp at c1
 clear h1
 go_enter Tryz.func291,Tryz.ntmps291
 go_wp2_with fail
 refine hm.mono ?_
 rintro e w1 ⟨rfl,rfl⟩
 go_wp2
 go_ret
 exact ⟨rfl,rfl⟩
end Go.Proofs.YtejiankgafjppaaGreatDoor
namespace Go.Proofs.YtejiankgafjppaaGreatDoor
open Go.RowKit Go.Maps
open Sc
def fldLen (w:World) (fp:Nat):Nat:=match w.cell? ⟨fp,0,none⟩ with
 | some (.slice _ n _)=>n
 | _=>0
theorem FldIn.len {w:World} {fp:Nat} {rest:List Nat} (h:FldIn w fp rest):fldLen w fp=rest.length:=by
 obtain ⟨b,off,cap,h1,_⟩:=h
 have c0:=blk_cell h1 0
 simp at c0
 unfold fldLen
 rw [c0]
end Go.Proofs.YtejiankgafjppaaGreatDoor
namespace Go.Proofs.YtejiankgafjppaaGreatDoor
open Go.RowKit
open Sc
theorem recsV_at:∀ (rs:List Rec) (i:Nat) (h:i<rs.length),(recsV rs)[i*3]?=some (.int .u64 (rs[i].lsn:Int))∧(recsV rs)[i*3+1]?=some (.int .u8 (rs[i].kind:Int))∧(recsV rs)[i*3+2]?=some (.string (str rs[i].pay))
 | [],i,h=>absurd h (Nat.not_lt_zero _)
 | r :: rs,0,_=>⟨rfl,rfl,rfl⟩
 | r :: rs,i+1,h=>by
  have ih:=recsV_at rs i (by simpa using h)
  have e:∀ j,(recsV (r :: rs))[(i+1)*3+j]?=(recsV rs)[i*3+j]?:=fun j=>by
   show (recCells r++recsV rs)[(i+1)*3+j]?=_
   rw [List.getElem?_append_right (by simp [recCells];omega)]
   congr 1
   simp [recCells];omega
  exact ⟨(e 0).trans ih.1,(e 1).trans ih.2.1,(e 2).trans ih.2.2⟩
def RecsAt (w:World) (v:Value) (rs:List Rec):Prop :=
 ∃ ao cap,v=.slice ao rs.length cap∧∀ i (h:i<rs.length),∃ g,ao=some ⟨g,0,none⟩∧w.cell? ⟨g,i*3,none⟩=some (.int .u64 (rs[i].lsn:Int))∧w.cell? ⟨g,i*3+1,none⟩=some (.int .u8 (rs[i].kind:Int))∧w.cell? ⟨g,i*3+2,none⟩=some (.string (str rs[i].pay))
theorem recsAt_own {w:World} {base n:Nat} {v:Value} {rs:List Rec} (h:w.ownsRow base 44 3 v n (recsV rs)):RecsAt w v rs:=by
 have hl:rs.length=n:=by have:=h.1;rw [recsV_len] at this;omega
 rcases h.2 with ⟨rfl,h0⟩ | ⟨g,cap,cur,rfl,hb,hg,rest⟩
 ·exact ⟨none,0,by rw [hl,h0],fun i hi=>by omega⟩
 ·refine ⟨_,cap,by rw [hl],fun i hi=>⟨g,rfl,?_⟩⟩
  have hc:∀ j u,(recsV rs)[j]?=some u→w.cell? ⟨g,j,none⟩=some u:=fun j u hu=>by
   have:=h.cells (g:=g) rfl j u hu
   simpa [Addr.add_lit] using this
  obtain ⟨h1,h2,h3⟩:=recsV_at rs i hi
  exact ⟨hc _ _ h1,hc _ _ h2,hc _ _ h3⟩
theorem dec_ne (u:Nat):Lib.decDigits u≠[]:=by
 rw [Lib.decDigits];split <;> simp
theorem dig_inj {a b:Nat} (ha:a<10) (hb:b<10) (h:UInt8.ofNat (48+a)=UInt8.ofNat (48+b)):a=b:=by
 have h2:=congrArg UInt8.toNat h
 simp at h2
 omega
theorem dec_inj:∀ (n a b:Nat),a<n→Lib.decDigits a=Lib.decDigits b→a=b:=by
 intro n
 induction n with
 | zero=>intro a b h;omega
 | succ n ih =>
  intro a b hn h
  rw [Lib.decDigits,Lib.decDigits.eq_def b] at h
  split at h
  ·split at h
   ·rename_i ha hb
    simp only [List.cons.injEq,and_true] at h
    exact dig_inj ha hb h
   ·have:=congrArg List.length h
    have h3:0<(Lib.decDigits (b / 10)).length:=List.length_pos_iff.2 (dec_ne _)
    rw [List.length_append] at this;simp only [List.length_cons,List.length_nil] at this;omega
  ·split at h
   ·have:=congrArg List.length h
    have h3:0<(Lib.decDigits (a / 10)).length:=List.length_pos_iff.2 (dec_ne _)
    rw [List.length_append] at this;simp only [List.length_cons,List.length_nil] at this;omega
   ·rename_i ha hb
    obtain ⟨h1,h2⟩:=List.append_inj' h rfl
    simp only [List.cons.injEq,and_true] at h2
    have h3:=dig_inj (by omega) (by omega) h2
    have h4:=ih (a / 10) (b / 10) (by omega) h1
    omega
theorem segName_data (u:Nat):(segName u).data.toList=[115,101,103,109,101,110,116,45]++Lib.decDigits u:=by
 unfold segName
 rw [ByteArray.data_append]
 simp
theorem segName_inj {a b:Nat} (h:segName a=segName b):a=b:=by
 have h2:=congrArg (fun x:ByteArray=>x.data.toList) h
 simp only [segName_data] at h2
 exact dec_inj (a+1) a b (by omega) (List.append_cancel_left h2)
theorem segName_mark (u:Nat):segName u≠markNm∧segName u≠markNew:=by
 constructor
 ·intro h
  have h2:=congrArg (fun x:ByteArray=>x.data.toList) h
  simp only [segName_data] at h2
  simp [markNm] at h2
 ·intro h
  have h2:=congrArg (fun x:ByteArray=>x.data.toList) h
  simp only [segName_data] at h2
  simp [markNew] at h2
structure ADisk.Well (d:ADisk) (c:Nat):Prop where
 up:d.down=false
 left:-1 - (c:Int)≤d.left∧d.left<0
 full:-1 - (c:Int)≤d.full∧d.full<0
theorem ADisk.Well.mono {d:ADisk} {c c':Nat} (h:d.Well c) (hc:c≤c'):d.Well c' :=
 ⟨h.up,⟨by have:=h.left.1;omega,h.left.2⟩,⟨by have:=h.full.1;omega,h.full.2⟩⟩
theorem writesW {d:ADisk} {c:Nat} (h:d.Well c) (hc:c<1099511627776):d.writes.2=0∧d.writes.1.Well (c+1)∧d.writes.1.now=d.now∧d.writes.1.pending=d.pending:=by
 have h1:=h.left
 have h2:=h.full
 have e:=wr_ok (d:=d) (by rw [h.up];simp;omega) (by omega)
 have e1:wrap64 (d.left - 1)=d.left - 1:=by unfold wrap64;omega
 have e2:wrap64 (d.full - 1)=d.full - 1:=by unfold wrap64;omega
 rw [e1,e2] at e
 rw [e]
 exact ⟨rfl,⟨h.up,by simp;omega,by simp;omega⟩,rfl,rfl⟩
theorem syncW {d:ADisk} {c:Nat} (h:d.Well c) (hc:c<1099511627776):d.sync.2=0∧d.sync.1.Well (c+1)∧d.sync.1.now=d.now:=by
 obtain ⟨a1,a2,a3,a4⟩:=writesW h hc
 rw [sync_ok a1]
 exact ⟨rfl,⟨a2.up,a2.left,a2.full⟩,a3⟩
theorem tellW {d:ADisk} {c:Nat} {o:AOp} (h:d.Well c) (hc:c<1099511627776) (h1:2<o.kind→d.now o.name≠none) (h2:¬ (o.kind=4∧o.name=o.to)) :
  (d.tell o).2=0∧(d.tell o).1.Well (c+1)∧(d.tell o).1.now=doOp d.now o:=by
 obtain ⟨a1,a2,a3,a4⟩:=writesW h hc
 have e:d.tell o=({ d.writes.1 with now:=doOp d.writes.1.now o,pending:=d.writes.1.pending++[o] },0):=by
  unfold ADisk.tell
  simp only
  rw [a1,if_neg (by omega),if_neg (by omega),if_neg (by rw [a3];rintro ⟨x,y⟩;exact h1 y x),if_neg h2]
 rw [e]
 refine ⟨rfl,⟨a2.up,a2.left,a2.full⟩,?_⟩
 simp only
 rw [a3]
/-! ### the segments -/
def starts:Nat→List (List Rec)→List Nat
 | _,[]=>[]
 | n,c :: cs=>n :: starts (n+c.length) cs
theorem starts_len:∀ (cs:List (List Rec)) (n:Nat),(starts n cs).length=cs.length
 | [],_=>rfl
 | c :: cs,n=>by simp [starts,starts_len cs]
theorem starts_snoc:∀ (cs:List (List Rec)) (n:Nat) (c:List Rec),starts n (cs++[c])=starts n cs++[n+cs.flatten.length]
 | [],_,_=>by simp [starts]
 | b :: cs,n,c=>by
  simp only [List.cons_append,starts,starts_snoc cs]
  simp;omega
theorem starts_set:∀ (cs:List (List Rec)) (n:Nat) (a b:List Rec),starts n (cs++[a])=starts n (cs++[b]):=by
 intro cs n a b;rw [starts_snoc,starts_snoc]
def bytesR:List Rec→Nat
 | []=>0
 | r :: l=>15+r.pay.length+bytesR l
theorem bytesR_app (a b:List Rec):bytesR (a++b)=bytesR a+bytesR b:=by
 induction a with
 | nil=>simp [bytesR]
 | cons r a ih=>simp [bytesR,ih];omega
structure LogOk (l:ALog) (d:ADisk) (fst:Nat) (cs:List (List Rec)):Prop where
 fail:l.failed=0
 segs:l.segs=starts (fst+1) cs
 recs:l.recs=cs.flatten
 next:l.next=fst+cs.flatten.length+1
 nums:∀ (k:Nat) (r:Rec),cs.flatten[k]?=some r→r.lsn=fst+1+k
 ne:∀ c∈cs,c≠[]
 size:∀ c∈cs,bytesR c<870
 none:cs=[]→l.filled=600
 fill:∀ ds c,cs=ds++[c]→l.filled=bytesR c
 files:∀ s∈l.segs,d.now (segName s)≠Option.none
section
variable {l:ALog} {d:ADisk} {fst c:Nat} {cs:List (List Rec)}
theorem LogOk.syncs (_h:LogOk l d fst cs) (hw:d.Well c) (hc:c<1099511627776):l.sync d=({ l with durable:=l.next },d.sync.1,0):=by
 unfold ALog.sync
 rw [if_pos (syncW hw hc).1]
theorem LogOk.synced (h:LogOk l d fst cs) (hw:d.Well c) (hc:c<1099511627776) (u:Nat):LogOk { l with durable:=u } d.sync.1 fst cs where
 fail:=h.fail
 segs:=h.segs
 recs:=h.recs
 next:=h.next
 nums:=h.nums
 ne:=h.ne
 size:=h.size
 none:=h.none
 fill:=h.fill
 files:=fun s hs=>by rw [(syncW hw hc).2.2];exact h.files s hs
theorem LogOk.wrS (h:LogOk l d fst cs) (hw:d.Well c) (hc:c<1099511627776):l.wr d (l.sync d)=({ l with durable:=l.next },d.sync.1,0):=by
 unfold ALog.wr
 rw [if_pos h.fail,h.syncs hw hc]
 simp only [h.fail.symm]
theorem LogOk.last (h:LogOk l d fst cs) (hf:l.filled<600):∃ ds cl,cs=ds++[cl]:=by
 rcases List.eq_nil_or_concat cs with e | ⟨ds,cl,e⟩
 ·have:=h.none e;omega
 ·exact ⟨ds,cl,by simpa using e⟩
theorem LogOk.segsNe (h:LogOk l d fst cs) (hf:l.filled<600):l.segs≠[]:=by
 obtain ⟨ds,cl,rfl⟩:=h.last hf
 rw [h.segs,starts_snoc]
 simp
theorem flat_snoc (cs:List (List Rec)) (a:List Rec):(cs++[a]).flatten=cs.flatten++a:=by simp
theorem nums_snoc {L:List Rec} {f:Nat} (h:∀ (k:Nat) (r:Rec),L[k]?=some r→r.lsn=f+k) (x:Rec) (hx:x.lsn=f+L.length):∀ (k:Nat) (r:Rec),(L++[x])[k]?=some r→r.lsn=f+k:=by
 intro k r hr
 rw [List.getElem?_append] at hr
 split at hr
 ·exact h k r hr
 ·rename_i hk
  have:k - L.length=0:=by
   have:=(List.getElem?_eq_some_iff.1 hr).1
   simp at this;omega
  rw [this] at hr
  simp at hr
  subst hr
  omega
theorem file_has {m:Files} {nm t:ByteArray} {s:Nat} (h:m (segName s)≠none):doOp m ⟨2,nm,ByteArray.empty,t⟩ (segName s)≠none:=by
 show (m.set nm (some _)) (segName s)≠none
 unfold Files.set
 split
 ·simp
 ·exact h
theorem file_new {m:Files} {t:ByteArray} {s:Nat}:doOp m ⟨2,segName s,ByteArray.empty,t⟩ (segName s)≠none:=by
 show (m.set (segName s) (some _)) (segName s)≠none
 rw [Files.set_same];simp
structure AppOk (l:ALog) (d:ADisk) (fst:Nat) (cs:List (List Rec)) (c:Nat) (x:Rec) (r:ALog × ADisk × Nat × Nat):Prop where
 ret:r.2.2.1=l.next∧r.2.2.2=0
 log:∃ cs',LogOk r.1 r.2.1 fst cs'∧cs'.flatten=cs.flatten++[x]
 well:r.2.1.Well (c+2)
 two:∀ s,r.1.segs[1]?=some s→l.segs[1]?=some s∨s=l.next
 sum:600*r.1.segs.length+r.1.filled≤600*l.segs.length+l.filled+(15+x.pay.length)
theorem LogOk.append (h:LogOk l d fst cs) (hw:d.Well c) (hc:c+2<1099511627776) (kind:Nat) (s:ByteArray) (hs:s.size≤255) :
  AppOk l d fst cs c ⟨l.next,kind,bytesOf s⟩ (l.append d kind s):=by
 obtain ⟨by_,hby⟩:∃ b,b=recBytes l.next kind (bytesOf s):=⟨_,rfl⟩
 have hlen:=bytesOf_len s
 by_cases hf:l.filled<600
 ·obtain ⟨ds,cl,rfl⟩:=h.last hf
  have hseg:l.segs=starts (fst+1) ds++[fst+1+ds.flatten.length]:=by rw [h.segs,starts_snoc]
  have hlast:l.segs.getLastD 0=fst+1+ds.flatten.length:=by rw [hseg];simp
  obtain ⟨a1,a2,a3⟩:=tellW (d:=d) (o:=⟨2,segName (l.segs.getLastD 0),ByteArray.empty,str by_⟩) hw (by omega) (by simp) (by simp)
  have hroom:l.room d=(l,d,0):=by unfold ALog.room;rw [if_pos hf]
  have hput:l.put d by_=(l,(d.tell ⟨2,segName (l.segs.getLastD 0),ByteArray.empty,str by_⟩).1,0):=by
   unfold ALog.put;rw [hroom];simp only [if_true];rw [a1]
  have hwr:l.wr d (l.put d by_)=(l,(d.tell ⟨2,segName (l.segs.getLastD 0),ByteArray.empty,str by_⟩).1,0):=by
   unfold ALog.wr;rw [if_pos h.fail,hput];simp only [h.fail.symm]
  have happ:l.append d kind s=({ l with filled:=l.filled+(15+s.size),recs:=l.recs++[⟨l.next,kind,bytesOf s⟩],next:=l.next+1 },(d.tell ⟨2,segName (l.segs.getLastD 0),ByteArray.empty,str by_⟩).1,l.next,0):=by
   unfold ALog.append;rw [if_neg (by omega),← hby,hwr];simp
  rw [happ]
  have hfill:=h.fill ds cl rfl
  refine { ret:=⟨rfl,rfl⟩,log:=⟨ds++[cl++[⟨l.next,kind,bytesOf s⟩]],?_,by rw [flat_snoc,flat_snoc,List.append_assoc]⟩,well:=a2.mono (by omega),two:=fun s hs=>.inl hs,sum:=by simp;omega }
  refine { fail:=h.fail,segs:=?_,recs:=?_,next:=?_,nums:=?_,ne:=?_,size:=?_,none:=by simp,fill:=?_,files:=?_ }
  ·show l.segs=_;rw [h.segs,starts_set]
  ·show l.recs++_=_;rw [h.recs,flat_snoc,flat_snoc,List.append_assoc]
  ·show l.next+1=_;rw [h.next,flat_snoc,flat_snoc];simp;omega
  ·rw [flat_snoc,← List.append_assoc,← flat_snoc]
   exact nums_snoc h.nums _ (by show l.next=_;rw [h.next];omega)
  ·intro b hb
   rcases List.mem_append.1 hb with hb | hb
   ·exact h.ne b (by simp [hb])
   ·simp at hb;subst hb;simp
  ·intro b hb
   rcases List.mem_append.1 hb with hb | hb
   ·exact h.size b (by simp [hb])
   ·simp at hb;subst hb;rw [bytesR_app];simp [bytesR];omega
  ·intro es b he
   obtain ⟨_,e2⟩:=List.append_inj' he rfl
   simp only [List.cons.injEq,and_true] at e2
   subst e2
   show l.filled+_=_
   rw [bytesR_app,hfill];simp [bytesR];omega
  ·intro x hx
   show (d.tell _).1.now _≠_
   rw [a3]
   exact file_has (h.files x hx)
 ·have hs1:=h.syncs hw (by omega)
  obtain ⟨s1,s2,s3⟩:=syncW hw (by omega)
  obtain ⟨a1,a2,a3⟩:=tellW (d:=d.sync.1) (o:=⟨2,segName l.next,ByteArray.empty,str by_⟩) s2 (by omega) (by simp) (by simp)
  have hroom:l.room d=({ l with durable:=l.next,segs:=l.segs++[l.next],filled:=0 },d.sync.1,0):=by
   unfold ALog.room;rw [if_neg hf,hs1];simp
  have hput:l.put d by_=({ l with durable:=l.next,segs:=l.segs++[l.next],filled:=0 },(d.sync.1.tell ⟨2,segName l.next,ByteArray.empty,str by_⟩).1,0):=by
   unfold ALog.put;rw [hroom];simp only [if_true]
   rw [show (l.segs++[l.next]).getLastD 0=l.next by simp,a1]
  have hwr:l.wr d (l.put d by_)=({ l with durable:=l.next,segs:=l.segs++[l.next],filled:=0 },(d.sync.1.tell ⟨2,segName l.next,ByteArray.empty,str by_⟩).1,0):=by
   unfold ALog.wr;rw [if_pos h.fail,hput];simp only [h.fail.symm]
  have happ:l.append d kind s=({ l with durable:=l.next,segs:=l.segs++[l.next],filled:=0+(15+s.size),recs:=l.recs++[⟨l.next,kind,bytesOf s⟩],next:=l.next+1 },(d.sync.1.tell ⟨2,segName l.next,ByteArray.empty,str by_⟩).1,l.next,0):=by
   unfold ALog.append;rw [if_neg (by omega),← hby,hwr];simp
  rw [happ]
  refine { ret:=⟨rfl,rfl⟩,log:=⟨cs++[[⟨l.next,kind,bytesOf s⟩]],?_,by rw [flat_snoc]⟩,well:=a2,two:=fun x hx=>?_,sum:=by simp;omega }
  ·refine { fail:=h.fail,segs:=?_,recs:=?_,next:=?_,nums:=?_,ne:=?_,size:=?_,none:=by simp,fill:=?_,files:=?_ }
   ·show l.segs++[l.next]=_;rw [h.segs,starts_snoc,h.next];congr 2;omega
   ·show l.recs++_=_;rw [h.recs,flat_snoc]
   ·show l.next+1=_;rw [h.next,flat_snoc];simp;omega
   ·rw [flat_snoc]
    exact nums_snoc h.nums _ (by show l.next=_;rw [h.next];omega)
   ·intro b hb
    rcases List.mem_append.1 hb with hb | hb
    ·exact h.ne b hb
    ·simp at hb;subst hb;simp
   ·intro b hb
    rcases List.mem_append.1 hb with hb | hb
    ·exact h.size b hb
    ·simp at hb;subst hb;simp [bytesR];omega
   ·intro es b he
    obtain ⟨_,e2⟩:=List.append_inj' he rfl
    simp only [List.cons.injEq,and_true] at e2
    subst e2
    show 0+_=_
    simp [bytesR];omega
   ·intro x hx
    show (d.sync.1.tell _).1.now _≠_
    rw [a3]
    rcases List.mem_append.1 hx with hx | hx
    ·exact file_has (by rw [s3];exact h.files x hx)
    ·simp at hx;subst hx;exact file_new
  ·change (l.segs++[l.next])[1]?=some x at hx
   rw [List.getElem?_append] at hx
   split at hx
   ·exact .inl hx
   ·right
    have:=List.mem_of_getElem? hx
    simpa using this
end
theorem recsSl_own {w:World} {base n:Nat} {v:Value} {rs:List Rec} (h:w.ownsRow base 44 3 v n (recsV rs)):RecsSl w.heap.size w v rs:=by
 have hl:rs.length=n:=by have:=h.1;rw [recsV_len] at this;omega
 have hlt:=h.lt
 obtain ⟨ao,cap,e,H⟩:=recsAt_own h
 rcases h.2 with ⟨e1,h0⟩ | ⟨g,cap',cur,e1,hb,hg,rest⟩
 ·left
  exact ⟨e1,List.eq_nil_of_length_eq_zero (by omega)⟩
 ·right
  refine ⟨g,cap',by rw [e1,hl],(hlt g (by rw [e1];rfl)).2,fun k r hk=>?_⟩
  obtain ⟨hk1,hk2⟩:=List.getElem?_eq_some_iff.1 hk
  obtain ⟨g2,e2,a1,a2,a3⟩:=H k hk1
  rw [e1] at e
  cases e
  cases e2
  rw [hk2] at a1 a2 a3
  exact ⟨a1,a2,a3⟩
end Go.Proofs.YtejiankgafjppaaGreatDoor
namespace Go.Proofs.YtejiankgafjppaaGreatDoor
open Go.RowKit Go.Shelf Go.Maps
open Sc
structure SDFr (p:Nat) (S:List Nat) (w w':World):Prop where
 os:w'.os=w.os
 tape:w'.tape=w.tape
 output:w'.output=w.output
 size:w.heap.size≤w'.heap.size
 block:∀ k,k<w.heap.size→¬ OwnD p w k→k∉S→w'.heap[k]?=w.heap[k]?
theorem DiskIn.freeDMap {w:World} {B p bD bN n nD nN k:Nat} {pv:Value} {d:ADisk} (h:DiskIn w B p bD bN pv d n nD nN) (hm:∃ es c,w.heap[k]?=some (.map es c)) (h1:k≠bD) (h2:k≠bN):¬ OwnD p w k:=by
 obtain ⟨es,c,hk⟩:=hm
 intro ho
 have:=(h.ownD k).1 ho
 simp at this
 rcases this with e | e | e | e
 ·rw [e,h.blk] at hk;cases hk
 ·exact h1 e
 ·exact h2 e
 ·obtain ⟨c2,hc⟩:=own_cells h.pen e;rw [hc] at hk;cases hk
theorem toHid {p:Prop} (h:p):Hid p:=h
end Go.Proofs.YtejiankgafjppaaGreatDoor
namespace Go.Proofs.YtejiankgafjppaaGreatDoor
open Go.RowKit Go.Maps
open Sc
theorem flat_at {α:Type} {f:α→List Value} {k:Nat} (hk:∀ x,(f x).length=k):∀ (l:List α) (i:Nat) (x:α),l[i]?=some x→∀ j,j<k→(l.flatMap f)[i*k+j]?=(f x)[j]?
 | [],i,x,h,_,_=>by simp at h
 | y :: l,0,x,h,j,hj=>by
  simp at h
  subst h
  rw [List.flatMap_cons,Nat.zero_mul,Nat.zero_add,List.getElem?_append_left (by rw [hk];exact hj)]
 | y :: l,i+1,x,h,j,hj=>by
  simp at h
  have e:(i+1)*k+j=k+(i*k+j):=by rw [Nat.add_mul,Nat.one_mul];omega
  rw [List.flatMap_cons,e,List.getElem?_append_right (by rw [hk];omega),hk,Nat.add_sub_cancel_left]
  exact flat_at hk l i x h j hj
theorem flat_len {α:Type} {f:α→List Value} {k:Nat} (hk:∀ x,(f x).length=k) (l:List α):(l.flatMap f).length=l.length*k:=by
 induction l with
 | nil=>simp
 | cons x l ih=>rw [List.flatMap_cons,List.length_append,hk,ih,List.length_cons,Nat.add_mul,Nat.one_mul];omega
theorem row_cell {w:World} {base:Nat} {e:TypeId} {size n:Nat} {v:Value} {xs:List Value} (h:w.ownsRow base e size v n xs) {g c m:Nat} (hv:v=.slice (some ⟨g,0,none⟩) m c) {j:Nat} {u:Value} (hj:xs[j]?=some u):w.cell? ⟨g,j,none⟩=some u:=by
 have:=h.cells (g:=g) (by rw [hv];rfl) j u hj
 have e:(⟨g,0,none⟩:Addr).add j=⟨g,j,none⟩:=by unfold Addr.add;split <;> simp_all
 rw [e] at this
 exact this
structure Bs where
 b:Nat
abbrev B0 [Inhabited Bs]:Nat:=(default:Bs).b
def ixI (o:Option Nat):Int:=(o.map fun n:Nat=>(n:Int)).getD (-1)
theorem ix_none {α:Type} {p:α→Bool} {xs:List α} (h:∀ (i:Nat) (x:α),xs[i]?=some x→p x=false):xs.findIdx? p=none:=by
 rw [List.findIdx?_eq_none_iff]
 intro x hx
 obtain ⟨i,hi⟩:=List.mem_iff_getElem?.1 hx
 exact h i x hi
theorem ix_some {α:Type} {p:α→Bool} {xs:List α} {k:Nat} {x:α} (hk:xs[k]?=some x) (hx:p x=true) (h:∀ (i:Nat) (y:α),i<k→xs[i]?=some y→p y=false):xs.findIdx? p=some k:=by
 rw [List.findIdx?_eq_some_iff_getElem]
 obtain ⟨hl,e⟩:=List.getElem?_eq_some_iff.1 hk
 refine ⟨hl,by rw [e];exact hx,fun j hj=>?_⟩
 have:=h j xs[j] hj (List.getElem?_eq_getElem _)
 simp [this]
theorem Fr.drewM {S:List Nat} {a w:World} (h:Fr S a w):∀ k,Fr S a (w.drewN k)
 | 0=>h
 | k+1=>by
  have h2:=Fr.drewM h k
  exact ⟨h2.os,h2.tape,h2.output,h2.size,h2.block⟩
def AppSrc (w:World) (x:Value) (m:Nat) (news:List Value):Prop :=
 (∃ ad c,x=.slice (some ad) m c∧∀ j u,news[j]?=some u→w.cell? (ad.add j)=some u)∨(x=.slice none 0 0∧m=0∧news=[])
theorem wpList_app {P:Program} {w:World} {ops:Array Oper} {rest:List Oper} {o:Oper} {a:Act} {Q:Exit→Act→World→Prop} (hgd:o.guard=none) (s x:Operand) (t:TypeId)
  (ho:o.op=.call { callee:=.builtin .append,args:=#[s,x],argTypes:=#[t,t] })
  (base:Nat) (e:TypeId) (i:TypeInfo) (z:Value) (size bytes:Nat) (ht:P.underlying t=some (.slice e)) (hi:P.info? e=some i) (hz:i.zero=some z)
  (hsize:i.size=size) (hby:i.bytes=bytes) (hzs:z.cells.size=size) (hsz:0<size)
  (v:Value) (n:Nat) (xs:List Value) (hs:a.eval s=v) (hown:w.ownsRow base e size v n xs)
  (m:Nat) (news:List Value) (hx:AppSrc w (a.eval x) m news) (hl:news.length=m*size) (h1:∀ u∈news,u.oneCell'=true)
  (h63:n+m≤maxLen) (hbytes:(n+m)*bytes≤140737488355328) (hbase:base≤w.heap.size)
  (h:∀ v' w',w'.ownsRow base e size v' (n+m) (xs++news)→w.grownBy w' v.ownBlock→(v'.ownBlock=v.ownBlock∨v'.ownBlock=some w.heap.size)→wpList P ops Q rest (a.put o.dst v') w') :
  wpList P ops Q (o :: rest) a w:=by
 rcases hx with ⟨ad,c,hx,hnews⟩ | ⟨hx,rfl,rfl⟩
 ·exact wpList_append_own_at (P:=P) (w:=w) hgd s x t ho base e i z size bytes ht hi hz hsize hby hzs hsz v n xs hs hown ad m c news hx hl hnews h1 h63 hbytes hbase (fun v' w' a b _ c=>h v' w' a b c)
 ·exact wpList_append_own_none hgd s x t ho base e i size ht hi v n xs hs hown hx (h v w (by simpa using hown) ⟨rfl,rfl,rfl,Nat.le_refl _,fun _ _ _=>rfl⟩ (.inl rfl))
theorem row_one {w:World} {base:Nat} {e:TypeId} {size n:Nat} {v:Value} {xs:List Value} (h:w.ownsRow base e size v n xs):v.oneCell'=true:=by
 rcases h.2 with ⟨rfl,_⟩ | ⟨g,cap,cur,rfl,_⟩ <;> rfl
theorem src_piece {w:World} {base:Nat} {e:TypeId} {size n:Nat} {xs:List Value} {g N c:Nat} (h:w.ownsRow base e size (.slice (some ⟨g,0,none⟩) N c) n xs) (o m c':Nat) (news:List Value) (hn:∀ j u,news[j]?=some u→xs[o+j]?=some u):AppSrc w (.slice (some ⟨g,o,none⟩) m c') m news:=by
 refine .inl ⟨_,_,rfl,fun j u hu=>?_⟩
 have:=row_cell h rfl (hn j u hu)
 have e:(⟨g,o,none⟩:Addr).add j=⟨g,o+j,none⟩:=by unfold Addr.add;split <;> simp_all
 rw [e]
 exact this
theorem src_zero (w:World) (ad:Addr) (c:Nat) {m:Nat} {news:List Value} (_hm:m=0) (hn:news=[]):AppSrc w (.slice (some ad) m c) m news:=.inl ⟨_,_,rfl,fun j u hu=>by rw [hn] at hu;simp at hu⟩
theorem Fr.of_own {w w':World} {v:Value} {S:List Nat} (h:w.grownBy w' v.ownBlock) (hS:∀ k,v.ownBlock=some k→k∈S):Fr S w w' :=
 ⟨h.os,h.tape,h.output,h.size,fun k hk hn=>h.block k hk fun e=>hn (hS k e.symm)⟩
theorem own_slice {w:World} {base:Nat} {e:TypeId} {size n:Nat} {v:Value} {xs:List Value} (h:w.ownsRow base e size v n xs):∃ o c,v=.slice o n c:=by
 rcases h.2 with ⟨rfl,rfl⟩ | ⟨g,cap,cur,rfl,_⟩
 ·exact ⟨_,_,rfl⟩
 ·exact ⟨_,_,rfl⟩
def NewV (w:World) (v:Value):Prop:=∀ k,v.ownBlock=some k→w.heap.size≤k
theorem NewV.nil (w:World):NewV w (.slice none 0 0):=fun k h=>by cases h
theorem NewV.next {w:World} {v v':Value} {z:Nat} (h:NewV w v) (hz:w.heap.size≤z) (ha:v'.ownBlock=v.ownBlock∨v'.ownBlock=some z):NewV w v':=fun k hk=>by
 rcases ha with e | e
 ·exact h k (e▸hk)
 ·rw [e] at hk;cases hk;exact hz
theorem Fr.new_grown {w w1 w2:World} {v:Value} {S:List Nat} (hf:Fr S w w1) (hv:NewV w v) (hg:w1.grownBy w2 v.ownBlock):Fr S w w2 :=
 ⟨hg.os.trans hf.os,hg.tape.trans hf.tape,hg.output.trans hf.output,Nat.le_trans hf.size hg.size,fun k hk hn=>(hg.block k (Nat.lt_of_lt_of_le hk hf.size) (fun e=>by have:=hv k e.symm;omega)).trans (hf.block k hk hn)⟩
theorem ownsRow_set {w:World} {rp i n size base:Nat} {e e':TypeId} {c:Array Value} {v u:Value} {xs:List Value} {fr:Nat × Nat} (h:w.ownsRow base e size v n xs) (hq:w.heap[rp]?=some (.cells c e' fr)) (hne:e≠e'):(w.setCell ⟨rp,i,none⟩ u).ownsRow base e size v n xs:=by
 refine ownsRow_fr h (Fr.set1 (S:=[rp]) (by simp) i u) fun g hg=>?_
 simp
 intro e2
 obtain ⟨c2,h2⟩:=own_cells h hg
 rw [e2,hq] at h2
 cases h2
 exact hne rfl
theorem take_drop_sub {α:Type} (l:List α) (i:Nat):(l.take i++l.drop (i+1)).Sublist l:=by
 have h:(l.drop (i+1)).Sublist (l.drop i):=List.drop_sublist_drop_left l (by omega)
 have:=List.Sublist.append (List.Sublist.refl (l.take i)) h
 rwa [List.take_append_drop] at this
structure ATx where
 state:Nat
 parts:List Nat
 since:Nat
def ATx.Ok (t:ATx):Prop:=t.parts.length=9∧∀ p∈t.parts,p<256
def psV (ps:List Nat):Value:=.agg (ps.map fun p:Nat=>Value.int .u8 (p:Int)).toArray
def txC (t:ATx):List Value:=.int .i64 (t.state:Int) :: ((t.parts.map fun p:Nat=>Value.int .u8 (p:Int))++[.int .u64 (t.since:Int),.nilIface])
def txV (t:ATx):Value:=.agg (txC t).toArray
theorem nine {l:List Nat} (h:l.length=9):∃ a b c d e f g i j,l=[a,b,c,d,e,f,g,i,j]:=by
 match l,h with
 | [a,b,c,d,e,f,g,i,j],_=>exact ⟨a,b,c,d,e,f,g,i,j,rfl⟩
abbrev tx0:ATx:=⟨0,[0,0,0,0,0,0,0,0,0],0⟩
theorem tx0_ok:tx0.Ok:=⟨rfl,by decide⟩
def txR:Value→Option (DataW Unit × List MemPlace)
 | .agg cs=>match cs.toList with
  | [.int .i64 s,.int .u8 a,.int .u8 b,.int .u8 c,.int .u8 d,.int .u8 e,.int .u8 f,.int .u8 g,.int .u8 i,.int .u8 j,.int .u64 z,.nilIface]=>some (.agg [.lit (.int .i64 s),.lit (.int .u8 a),.lit (.int .u8 b),.lit (.int .u8 c),.lit (.int .u8 d),.lit (.int .u8 e),.lit (.int .u8 f),.lit (.int .u8 g),.lit (.int .u8 i),.lit (.int .u8 j),.lit (.int .u64 z)],[])
  | _=>none
 | _=>none
noncomputable def EX:ElRep ATx where
 R:=txR
 ev:=txV
 el:=fun t=>.agg (.lit (.int .i64 (t.state:Int)) :: ((t.parts.map fun p:Nat=>.lit (.int .u8 (p:Int)))++[.lit (.int .u64 (t.since:Int))]))
 ok:=ATx.Ok
 made:=fun t h=>by
  obtain ⟨a,b,c,d,e,f,g,i,j,hl⟩:=nine h.1
  obtain ⟨s,ps,z⟩:=t
  simp at hl
  subst hl
  rfl
 inv:=fun x t ps ht h=>by
  obtain ⟨a',b',c',d',e',f',g',i',j',hl⟩:=nine ht.1
  obtain ⟨s',ps',z'⟩:=t
  simp at hl
  subst hl
  unfold txR at h
  split at h
  ·rename_i cs
   split at h
   ·rename_i hc
    simp at h
    obtain ⟨⟨rfl,rfl,rfl,rfl,rfl,rfl,rfl,rfl,rfl,rfl,rfl⟩,_⟩:=h
    show Value.agg cs=Value.agg _
    congr 1
    exact Array.toList_inj.1 (by rw [hc];rfl)
   ·cases h
  ·cases h
theorem zeroTx (w:World):(zeroValue 297).run Tryz.prog w=.ok (EX.ev tx0) w:=by kernel_rfl
theorem fieldX0 (t:ATx) (h:t.Ok) (w:World):(Instr.field 297 (txV t) 0).run Tryz.prog w=.ok (.int .i64 (t.state:Int)) w:=by
 obtain ⟨s,ps,z⟩:=t
 obtain ⟨a,b,c,d,e,f,g,i,j,rfl⟩:=nine h.1
 kernel_rfl
theorem below9 {k:Nat} (h:k<9):k=0∨k=1∨k=2∨k=3∨k=4∨k=5∨k=6∨k=7∨k=8:=by omega
theorem indexP {ps:List Nat} (h:ps.length=9) {k:Nat} (hk:k<9) (w:World):(Instr.index 295 (psV ps) (.int .i64 (k:Int))).run Tryz.prog w=.ok (.int .u8 ((ps.getD k 0:Nat):Int)) w:=by
 obtain ⟨a,b,c,d,e,f,g,i,j,rfl⟩:=nine h
 rcases below9 hk with rfl | rfl | rfl | rfl | rfl | rfl | rfl | rfl | rfl <;> kernel_rfl
end Go.Proofs.YtejiankgafjppaaGreatDoor
