import Derived.Test.YtejiankgafjppaaGreatDoorC08
import Derived.Test.YtejiankgafjppaaGreatDoorC09
import Derived.Test.YtejiankgafjppaaGreatDoorC10
import Derived.Test.YtejiankgafjppaaGreatDoorC11
import Derived.Test.YtejiankgafjppaaGreatDoorC07
import Derived.Test.YtejiankgafjppaaGreatDoorC02
import Derived.Test.YtejiankgafjppaaGreatDoorProg
import Derived.Shelf.Small.Bits
import Derived.Shelf.Small.Wraps
import Derived.Shelf.Strconv.Itoa0
import Derived.Shelf.Strconv.Itoa1
import Derived.Shelf.LaysM
import Derived.Shelf.Strconv.Itoa2
import Derived.Shelf.Strconv.Itoa3
import Derived.Shelf.Strconv.Clone
import Derived.Ground.MpProg
import Derived.Shelf.Pu.ParseUintPublic10
import Derived.Shelf.Sort.Plain
import Derived.Shelf.Strings.Prefix
import Derived.Shelf.Slices.In.SortNone
import Derived.Shelf.Slices.In.SortNone2
import Derived.Ground.SlgnProg
import Derived.Shelf.SlicesE.Clone
import Derived.Test.YtejiankgafjppaaGreatDoorC01
import Derived.Lib.ItoaMem
import Derived.BigCall
import Derived.BigGuard
import Derived.Room.AppendFits
namespace Go.Proofs.YtejiankgafjppaaGreatDoor
open Go.RowKit
theorem tell_any (B p bD bN n nD nN:Nat) (pv:Value) (d:ADisk) (o:AOp) (w:World) (h:DiskIn w B p bD bN pv d n nD nN) (hn:n<67108864) (ho:o.Ok 4096) (hne:o.kind=4→(o.name.toList == o.to.toList)=false∧o.name≠o.to) :
  Calls Tryz.prog 427 #[.pointer (some ⟨p,0,none⟩),opV o] w (TellPost d o B p bD bN n nD pv w):=by
 obtain ⟨kd,nm,to,da⟩:=o
 rcases ho.kind with hk | hk | hk | hk
 ·simp only at hk;subst hk;exact tell_1 B p bD bN n nD nN pv d nm to da w h hn ho (by simp)
 ·simp only at hk;subst hk;exact tell_2 B p bD bN n nD nN pv d nm to da w h hn ho (by simp)
 ·simp only at hk;subst hk;exact tell_3 B p bD bN n nD nN pv d nm to da w h hn ho (by simp)
 ·simp only at hk;subst hk;exact tell_4 B p bD bN n nD nN pv d nm to da w h hn ho hne
end Go.Proofs.YtejiankgafjppaaGreatDoor
namespace Go.Proofs.YtejiankgafjppaaGreatDoor
open Go.RowKit
open Sc
theorem str_size (l:List Nat):(str l).size=l.length:=by
 have h:∀ (m:List Int) (a:ByteArray),(m.foldl (fun r n=>r.push (UInt8.ofNat n.toNat)) a).size=a.size+m.length:=by
  intro m
  induction m with
  | nil=>intro a;simp
  | cons x m ih=>intro a;rw [List.foldl_cons,ih];simp [ByteArray.size_push];omega
 unfold str
 rw [h];simp
def PutPost (d:ADisk) (o:AOp) (B p bD bN n nD g:Nat) (pv:Value) (w:World) (e:Ending) (w':World):Prop :=
 e=.returned (errN (d.tell o).2)∧(∃ pv' nN',DiskIn w' B p bD bN pv' (d.tell o).1 (n+1) nD nN'∧Near w.heap.size pv pv')∧Fr (g :: dS p bD bN pv) w w'
theorem DiskIn.bytes {w w':World} {B p bD bN n nD nN g len cap k:Nat} {pv:Value} {d:ADisk} {xs:List Value} (h:DiskIn w B p bD bN pv d n nD nN) (hr:w.ownsRow k 5 1 (.slice (some ⟨g,0,none⟩) len cap) len xs) (hf:Fr [g] w w'):DiskIn w' B p bD bN pv d n nD nN:=by
 obtain ⟨c,hc⟩:=own_cells hr rfl
 refine h.fr hf ?_ ?_ ?_ ?_ ?_
 ·simp;intro e;subst e;rw [h.blk] at hc;cases hc
 ·simp;exact h.dur.ne_cells hc
 ·simp;exact h.now.ne_cells hc
 ·intro q hq;simp;intro e;subst e;exact own_ne h.pen hc (by decide) hq
 ·intro q hq t;simp at hq;subst hq;rw [hc];intro e;cases e
theorem dS_bytes {w:World} {B p bD bN n nD nN g len cap k:Nat} {pv:Value} {d:ADisk} {xs:List Value} (h:DiskIn w B p bD bN pv d n nD nN) (hr:w.ownsRow k 5 1 (.slice (some ⟨g,0,none⟩) len cap) len xs):g∉dS p bD bN pv:=by
 obtain ⟨c,hc⟩:=own_cells hr rfl
 intro hm
 rcases List.mem_cons.1 hm with e | hm
 ·subst e;rw [h.blk] at hc;cases hc
 rcases List.mem_cons.1 hm with e | hm
 ·exact h.dur.ne_cells hc e.symm
 rcases List.mem_cons.1 hm with e | hm
 ·exact h.now.ne_cells hc e.symm
 ·simp at hm;exact own_ne h.pen hc (by decide) hm
theorem byte_put {w wr:World} {g k cap n base:Nat} {ys:List Value} (hy:wr.ownsRow base 5 1 (.slice (some ⟨g,0,none⟩) n cap) n ys) (hgr:w.grownBy wr (some g)):(wr.setCell ⟨g,k,none⟩ (.int .u8 33)).ownsRow base 5 1 (.slice (some ⟨g,0,none⟩) n cap) n (ys.set k (.int .u8 33))∧w.grownBy (wr.setCell ⟨g,k,none⟩ (.int .u8 33)) (some g):=by
 obtain ⟨h1,h2⟩:=hy.stored k (.int .u8 33)
 exact ⟨h1,grown_trans hgr h2⟩
set_option maxRecDepth 100000 in
set_option maxHeartbeats 2000000 in
theorem put_any (B p bD bN n nD nN kd g cap base:Nat) (pv:Value) (d:ADisk) (nm:ByteArray) (l:List Nat) (w:World) (h:DiskIn w B p bD bN pv d n nD nN) (hn:n<67108864) (hk:kd=1∨kd=2) (hnm:nm.size≤maxLen)
  (hr:w.ownsRow base 5 1 (.slice (some ⟨g,0,none⟩) l.length cap) l.length (bs l)) (hl:l.length≤4096) :
  Calls Tryz.prog 425 #[.pointer (some ⟨p,0,none⟩),.int .i64 (kd:Int),.string nm,.slice (some ⟨g,0,none⟩) l.length cap] w (PutPost d ⟨kd,nm,ByteArray.empty,str l⟩ B p bD bN n nD g pv w):=by
 have HI:Hid (DiskIn w B p bD bN pv d n nD nN):=h
 have HR:Hid (w.ownsRow base 5 1 (.slice (some ⟨g,0,none⟩) l.length cap) l.length (bs l)):=hr
 have hcv:=run_str w g 0 l.length cap l rfl (own_row hr)
 have HG:Hid (g∉dS p bD bN pv):=dS_bytes h hr
 have hgl:=(own_lt hr).2
 clear h hr
 obtain ⟨m,hm⟩:∃ m,m=l.length:=⟨_,rfl⟩
 rw [← hm] at hcv HR hl ⊢
 have HL:Hid (l.length=m):=hm.symm
 clear hm
 go_enter Tryz.func425,Tryz.ntmps425
 go_wp2_with fail
 refine (tell_any B p bD bN n nD nN pv d ⟨kd,nm,ByteArray.empty,str l⟩ w HI.out hn ⟨by rcases hk with h | h <;> simp [h],hnm,by simp,by rw [str_size,HL.out];exact hl⟩ (by rcases hk with h | h <;> (intro h4;simp only at h4;omega))).mono ?_
 rintro e w1 ⟨rfl,⟨pv1,nN1,hi1,hne1⟩,hf1⟩
 have HNE:Hid (Near w.heap.size pv pv1):=hne1
 clear hne1
 have HI1:Hid (DiskIn w1 B p bD bN pv1 (d.tell ⟨kd,nm,ByteArray.empty,str l⟩).1 (n+1) nD nN1):=hi1
 have HF1:Hid (Fr (dS p bD bN pv) w w1):=hf1
 have hr1:w1.ownsRow base 5 1 (.slice (some ⟨g,0,none⟩) m cap) m (bs l):=ownsRow_fr HR.out hf1 (fun q hq=>by cases hq;exact HG.out)
 have hz1:=hf1.size
 clear hi1 hf1
 generalize hE:errN (d.tell ⟨kd,nm,ByteArray.empty,str l⟩).2=ev
 have HE:Hid (errN (d.tell ⟨kd,nm,ByteArray.empty,str l⟩).2=ev):=hE
 clear hE
 go_wp2
 go_loopw [20] (fun i wr=>∃ k:Nat,k≤m∧i=.int .i64 k∧(∃ ys,wr.ownsRow base 5 1 (.slice (some ⟨g,0,none⟩) m cap) m ys)∧w1.grownBy wr (some g)) (fun i _=>m - (intOf i).toNat)
 case atStart=>exact ⟨0,Nat.zero_le _,rfl,⟨_,hr1⟩,grown_refl _ _⟩
 case round =>
  obtain ⟨k,hk',rfl,⟨ys,hy⟩,hgr⟩:=hrel
  by_cases hlt:k<m
  ·have hcx:=hy.cellAt k (by omega)
   have hlen:k<ys.length:=by have:=hy.1;omega
   rw [List.getElem?_eq_getElem hlen] at hcx
   have hfx:=hy.frozenAt k
   obtain ⟨hy2,hg2⟩:=byte_put (k:=k) hy hgr
   have HY:Hid ((wr.setCell ⟨g,k,none⟩ (.int .u8 33)).ownsRow base 5 1 (.slice (some ⟨g,0,none⟩) m cap) m (ys.set k (.int .u8 33))):=hy2
   have HGR:Hid (w1.grownBy (wr.setCell ⟨g,k,none⟩ (.int .u8 33)) (some g)):=hg2
   clear hy hy2 hg2 hgr
   go_wp2
   go_roundw
   case rel=>exact ⟨k+1,by omega,by go_num,⟨_,HY.out⟩,HGR.out⟩
   case measure=>simp [intOf];omega
  ·go_wp2
   go_ret
   have hfg:=Fr.of_grown1 hgr
   exact ⟨by rw [HE.out];rfl,⟨pv1,nN1,HI1.out.bytes hr1 hfg,HNE.out⟩,(HF1.out.mono (T:=g :: dS p bD bN pv) (fun q _ hq=>List.mem_cons_of_mem _ hq)).trans (hfg.mono (fun q _ hq=>by simp at hq;subst hq;simp))⟩
set_option maxHeartbeats 1000000 in
theorem append_any (B p bD bN n nD nN g cap base:Nat) (pv:Value) (d:ADisk) (nm:ByteArray) (l:List Nat) (w:World) (h:DiskIn w B p bD bN pv d n nD nN) (hn:n<67108864) (hnm:nm.size≤maxLen)
  (hr:w.ownsRow base 5 1 (.slice (some ⟨g,0,none⟩) l.length cap) l.length (bs l)) (hl:l.length≤4096) :
  Calls Tryz.prog 418 #[.pointer (some ⟨p,0,none⟩),.string nm,.slice (some ⟨g,0,none⟩) l.length cap] w (PutPost d ⟨2,nm,ByteArray.empty,str l⟩ B p bD bN n nD g pv w):=by
 have HI:Hid (DiskIn w B p bD bN pv d n nD nN):=h
 clear h
 go_enter Tryz.func418,Tryz.ntmps418
 go_wp2_with fail
 refine (put_any B p bD bN n nD nN 2 g cap base pv d nm l w HI.out hn (Or.inr rfl) hnm hr hl).mono ?_
 rintro e w1 ⟨rfl,h1,h2⟩
 have H1:Hid (∃ pv' nN',DiskIn w1 B p bD bN pv' (d.tell ⟨2,nm,ByteArray.empty,str l⟩).1 (n+1) nD nN'∧Near w.heap.size pv pv'):=h1
 clear h1
 go_wp2
 go_ret
 exact ⟨rfl,H1.out,h2⟩
theorem sync_err {d:ADisk} (h:d.writes.2≠0):d.sync=d.writes:=by unfold ADisk.sync;simp [h]
theorem sync_ok {d:ADisk} (h:d.writes.2=0):d.sync=({ d.writes.1 with durable:=d.writes.1.pending.foldl doOp d.writes.1.durable,pending:=[] },0):=by unfold ADisk.sync;simp [h]
theorem pend_cells {w:World} {B g cap n:Nat} {l:List AOp} (h:w.ownsRow B 175 4 (.slice (some ⟨g,0,none⟩) n cap) n (opsV l)) (k:Nat) (o:AOp) (hk:l[k]?=some o) :
  w.cell? ⟨g,k*4,none⟩=some (.int .i64 (o.kind:Int))∧w.cell? ⟨g,k*4+1,none⟩=some (.string o.name)∧w.cell? ⟨g,k*4+2,none⟩=some (.string o.to)∧w.cell? ⟨g,k*4+3,none⟩=some (.string o.data):=by
 have key:∀ (l:List AOp) (k j:Nat),j<4→(opsV l)[k*4+j]?=(l[k]?).bind (fun o=>(opCells o)[j]?):=by
  intro l
  induction l with
  | nil=>intro k j hj;simp [opsV]
  | cons x l ih =>
   intro k j hj
   have e:opsV (x :: l)=opCells x++opsV l:=rfl
   rw [e]
   cases k with
   | zero=>rw [List.getElem?_append_left (by simp [opCells];omega)];simp
   | succ k =>
    rw [List.getElem?_append_right (by simp [opCells];omega)]
    have:(k+1)*4+j - (opCells x).length=k*4+j:=by simp [opCells];omega
    rw [this,ih k j hj];simp
 have cel:∀ j v,j<4→(opCells o)[j]?=some v→w.cell? ⟨g,k*4+j,none⟩=some v:=by
  intro j v hj hv
  have h1:(opsV l)[k*4+j]?=some v:=by rw [key l k j hj,hk];exact hv
  have:=h.cells (g:=g) rfl (k*4+j) v h1
  simpa [Addr.add_lit] using this
 exact ⟨cel 0 _ (by omega) rfl,cel 1 _ (by omega) rfl,cel 2 _ (by omega) rfl,cel 3 _ (by omega) rfl⟩
theorem foldl_le {c:Nat}:∀ (l:List AOp) (m:Files) (k:Nat),m.Le (k*c)→(∀ o∈l,o.Ok c)→(l.foldl doOp m).Le ((k+l.length)*c)
 | [],m,k,h,_=>by simpa using h
 | o :: l,m,k,h,ho=>by
  have h1:=doOp_le h (ho o (by simp))
  have h2:(doOp m o).Le ((k+1)*c):=by rw [Nat.add_mul];simpa using h1
  have h3:=foldl_le l (doOp m o) (k+1) h2 (fun x hx=>ho x (by simp [hx]))
  rw [List.foldl_cons,List.length_cons,show k+(l.length+1)=k+1+l.length by omega];exact h3
set_option maxRecDepth 100000 in
set_option maxHeartbeats 2000000 in
theorem sync_some (B p bD bN n nD nN g len cap:Nat) (d:ADisk) (w:World) (h:DiskIn w B p bD bN (.slice (some ⟨g,0,none⟩) len cap) d n nD nN) (hlen:d.pending.length=len) :
  Calls Tryz.prog 423 #[.pointer (some ⟨p,0,none⟩)] w fun e w'=>e=.returned (errN d.sync.2)∧(∃ pv' nD',DiskIn w' B p bD bN pv' d.sync.1 n nD' nN∧Near w.heap.size (.slice (some ⟨g,0,none⟩) len cap) pv')∧Fr [p,bD] w w':=by
 have HI:Hid (DiskIn w B p bD bN (.slice (some ⟨g,0,none⟩) len cap) d n nD nN):=h
 have HL:Hid (d.pending.length=len):=hlen
 clear h hlen
 go_enter Tryz.func423,Tryz.ntmps423
 go_wp2_with fail
 refine (writes_in B p bD bN n nD nN _ d w HI.out).mono ?_
 rintro e w1 ⟨rfl,hi1,hf1⟩
 have HI1:Hid (DiskIn w1 B p bD bN (.slice (some ⟨g,0,none⟩) len cap) d.writes.1 n nD nN):=hi1
 have HF1:Hid (Fr [p,bD] w w1):=hf1.mono (by intro k _ hk;simp at hk;simp [hk])
 have p2:=blk_cell hi1.blk 2
 simp at p2
 clear hi1 hf1
 rcases writes_cases d with hw | hw | hw
 ·rw [hw,errN_no (by decide)]
  go_wp2
  go_ret
  rw [sync_err (by rw [hw];decide),hw]
  exact ⟨rfl,⟨_,nD,HI1.out,Near.refl _ _⟩,HF1.out⟩
 ·rw [hw,errN_no (by decide)]
  go_wp2
  go_ret
  rw [sync_err (by rw [hw];decide),hw]
  exact ⟨rfl,⟨_,nD,HI1.out,Near.refl _ _⟩,HF1.out⟩
 ·rw [hw,errN_ok]
  have hpn:d.writes.1.pending=d.pending:=by rw [writes_same]
  go_wp2
  go_loopw [16] (fun i wr=>∃ k:Nat,k≤len∧i=.int .i64 k∧FileMap wr bD (nD+k) ((d.writes.1.pending.take k).foldl doOp d.writes.1.durable)∧Fr [bD] w1 wr) (fun i _=>len - (intOf i).toNat)
  case atStart=>exact ⟨0,Nat.zero_le _,rfl,HI1.out.dur,Fr.refl _ _⟩
  case round =>
   obtain ⟨k,hk,rfl,hF,hf⟩:=hrel
   by_cases hlt:k<len
   ·have hkl:k<d.writes.1.pending.length:=by rw [hpn,HL.out];exact hlt
    obtain ⟨o,ho⟩:∃ o,d.writes.1.pending[k]?=some o:=⟨_,List.getElem?_eq_getElem hkl⟩
    have hok:o.Ok 4096:=HI1.out.ops o (List.mem_of_getElem? ho)
    have hpen:=HI1.out.pen
    rw [hpn,HL.out] at hpen
    rw [← hpn] at hpen
    have hrow:wr.ownsRow B 175 4 (.slice (some ⟨g,0,none⟩) len cap) len (opsV d.writes.1.pending):=ownsRow_fr hpen hf (fun q hq=>by
     simp;intro e;subst e;obtain ⟨c,hc⟩:=own_cells hpen hq;exact HI1.out.dur.ne_cells hc rfl)
    obtain ⟨c0,c1,c2,c3⟩:=pend_cells hrow k o ho
    have p0:=blk_cell ((hf.block p (Array.getElem?_eq_some_iff.1 HI1.out.blk).1 (by simp;exact fun e=>HI1.out.dur.ne_cells HI1.out.blk e.symm)).trans HI1.out.blk) 0
    simp at p0
    have hpw:p<wr.heap.size:=World.block_lt_of_cell? wr ⟨p,0,none⟩ p0
    have hpa:∀ ob,(wr.alloc ob).cell? ⟨p,0,none⟩=some (.map (some bD)):=fun ob=>(World.cell?_of_block (a:=⟨p,0,none⟩) (Below.heap_alloc wr ob p hpw)).trans p0
    have HF:Hid (FileMap wr bD (nD+k) ((d.writes.1.pending.take k).foldl doOp d.writes.1.durable)):=hF
    have Hf:Hid (Fr [bD] w1 wr):=hf
    have HO:Hid (o.Ok 4096):=hok
    have HG:Hid (d.writes.1.pending[k]?=some o):=ho
    have hnk:nD+k<n:=by have:=HI1.out.hD;omega
    have hn:=HI1.out.hn
    have HLE:Hid (((d.writes.1.pending.take k).foldl doOp d.writes.1.durable).Le 549755813888):=by
     intro x t ht
     have:=foldl_le (d.writes.1.pending.take k) d.writes.1.durable nD HI1.out.leD (fun o ho=>HI1.out.ops o (List.mem_of_mem_take ho)) x t ht
     rw [List.length_take] at this
     have hmin:min k d.writes.1.pending.length≤k:=Nat.min_le_left _ _
     have h6:(nD+min k d.writes.1.pending.length)*4096≤n*4096:=Nat.mul_le_mul_right _ (by omega)
     omega
    clear hF hf hok ho hrow hpen hpn
    have i0:(0:Int)≤(k:Int):=by omega
    have i1:(k:Int)<(len:Int):=by omega
    go_wp2
    go_region_with (first | (go_at_call 125;refine (do_any bD (nD+k) 4096 _ o _ (HF.out.new ((((Fr.refl [] wr).alloc _).drew))) (by unfold maxLen;omega) HO.out (by omega) HLE.out).mono ?_;rintro e w2 ⟨rfl,hF2,hg2⟩))
    all_goals (
     have hg3:Fr [bD] w1 w2:=Hf.out.trans ((((Fr.refl [bD] wr).alloc _).drew).trans (Fr.of_grown1 hg2))
     clear hg2
     go_wp2
     go_roundw
     case rel =>
      refine ⟨k+1,by omega,by go_num,?_,hg3⟩
      rw [List.take_add_one,HG.out]
      simpa [List.foldl_append,Nat.add_assoc] using hF2
     case measure=>simp [intOf];omega)
   ·obtain rfl:k=len:=by omega
    have hp:=(hf.block p (Array.getElem?_eq_some_iff.1 HI1.out.blk).1 (by simp;exact fun e=>HI1.out.dur.ne_cells HI1.out.blk e.symm)).trans HI1.out.blk
    have p2':=blk_cell hp 2
    have g2':=blk_free hp 2
    simp at p2'
    have HP:Hid (wr.heap[p]?=some (dskO bD bN (.slice (some ⟨g,0,none⟩) k cap) d.writes.1.left d.writes.1.full d.writes.1.down)):=hp
    have HF:Hid (FileMap wr bD (nD+k) ((d.writes.1.pending.take k).foldl doOp d.writes.1.durable)):=hF
    have Hf:Hid (Fr [bD] w1 wr):=hf
    clear hF hf hp
    go_wp2
    go_ret
    have ht:d.writes.1.pending.take k=d.writes.1.pending:=List.take_of_length_le (by rw [hpn,HL.out];exact Nat.le_refl _)
    have hF:=HF.out
    rw [ht] at hF
    rw [sync_ok hw]
    have hfs:Fr [p] wr (wr.setCell ⟨p,2,none⟩ (.slice none 0 0)):=Fr.set1 (by simp) 2 _
    have hsz:=hfs.size
    have hsz2:=Hf.out.size
    have hnt:∀ q∈[p],∀ t,wr.heap[q]?≠some (textO t):=by
     intro q hq t;simp at hq;subst hq;rw [HP.out];intro e;cases e
    have hnow:FileMap wr bN nN d.writes.1.now:=HI1.out.now.fr Hf.out (by simp;exact fun e=>HI1.out.ne e.symm) (by intro q hq t e;simp at hq;subst hq;exact HI1.out.dur.ne_cells e rfl)
    refine ⟨rfl,⟨.slice none 0 0,nD+k,?_,Near.nil _ _⟩,HF1.out.trans ((Hf.out.mono (by intro q _ hq;simp at hq;simp [hq])).trans (hfs.mono (by intro q _ hq;simp at hq;simp [hq])))⟩
    have hD:=HI1.out.hD
    rw [hpn,HL.out] at hD
    refine { blk:=?_,base:=⟨HI1.out.base.1,HI1.out.base.2.1,HI1.out.base.2.2.1,by have:=HI1.out.base.2.2.2;omega⟩,ne:=HI1.out.ne,dur:=hF.fr hfs (by simp;exact hF.ne_cells HP.out) hnt,now:=hnow.fr hfs (by simp;exact hnow.ne_cells HP.out) hnt,pen:=World.ownsRow_nil _ _ _ _,hD:=by simpa using hD,hN:=HI1.out.hN,hn:=HI1.out.hn,leD:=?_,leN:=HI1.out.leN,ops:=by simp }
    ·have:=blk_set HP.out 2 (.slice none 0 0);simpa using this
    ·have:=foldl_le d.writes.1.pending d.writes.1.durable nD HI1.out.leD HI1.out.ops
     rw [hpn,HL.out] at this
     simp only
     rw [hpn]
     exact this
set_option maxRecDepth 100000 in
set_option maxHeartbeats 2000000 in
theorem sync_nil (B p bD bN n nD nN:Nat) (d:ADisk) (w:World) (h:DiskIn w B p bD bN (.slice none 0 0) d n nD nN) (hlen:d.pending=[]) :
  Calls Tryz.prog 423 #[.pointer (some ⟨p,0,none⟩)] w fun e w'=>e=.returned (errN d.sync.2)∧(∃ pv' nD',DiskIn w' B p bD bN pv' d.sync.1 n nD' nN∧Near w.heap.size (.slice none 0 0) pv')∧Fr [p,bD] w w':=by
 have HI:Hid (DiskIn w B p bD bN (.slice none 0 0) d n nD nN):=h
 have HL:Hid (d.pending=[]):=hlen
 clear h hlen
 go_enter Tryz.func423,Tryz.ntmps423
 go_wp2_with fail
 refine (writes_in B p bD bN n nD nN _ d w HI.out).mono ?_
 rintro e w1 ⟨rfl,hi1,hf1⟩
 have HI1:Hid (DiskIn w1 B p bD bN (.slice none 0 0) d.writes.1 n nD nN):=hi1
 have HF1:Hid (Fr [p,bD] w w1):=hf1.mono (by intro k _ hk;simp at hk;simp [hk])
 have p2:=blk_cell hi1.blk 2
 have g2:=blk_free hi1.blk 2
 simp at p2
 clear hi1 hf1
 rcases writes_cases d with hw | hw | hw
 ·rw [hw,errN_no (by decide)]
  go_wp2
  go_ret
  rw [sync_err (by rw [hw];decide),hw]
  exact ⟨rfl,⟨_,nD,HI1.out,Near.refl _ _⟩,HF1.out⟩
 ·rw [hw,errN_no (by decide)]
  go_wp2
  go_ret
  rw [sync_err (by rw [hw];decide),hw]
  exact ⟨rfl,⟨_,nD,HI1.out,Near.refl _ _⟩,HF1.out⟩
 ·rw [hw,errN_ok]
  have hpn:d.writes.1.pending=[]:=by rw [writes_same];exact HL.out
  go_wp2
  refine wp_loop_rounds 1 ?_
  rw [rounds_succ]
  go_wp2
  go_ret
  rw [sync_ok hw]
  have hfs:Fr [p] w1 (w1.setCell ⟨p,2,none⟩ (.slice none 0 0)):=Fr.set1 (by simp) 2 _
  refine ⟨rfl,⟨.slice none 0 0,nD,?_,Near.nil _ _⟩,HF1.out.trans (hfs.mono (by intro q _ hq;simp at hq;simp [hq]))⟩
  have hb:(w1.setCell ⟨p,2,none⟩ (.slice none 0 0)).heap[p]?=some (dskO bD bN (.slice none 0 0) d.writes.1.left d.writes.1.full d.writes.1.down):=by have:=blk_set HI1.out.blk 2 (.slice none 0 0);simpa using this
  have:=HI1.out.turn hfs d.writes.1.left d.writes.1.full d.writes.1.down hb
  simp only [hpn,List.foldl_nil]
  rw [← hpn]
  exact this
theorem sync_any (B p bD bN n nD nN:Nat) (pv:Value) (d:ADisk) (w:World) (h:DiskIn w B p bD bN pv d n nD nN) :
  Calls Tryz.prog 423 #[.pointer (some ⟨p,0,none⟩)] w fun e w'=>e=.returned (errN d.sync.2)∧(∃ pv' nD',DiskIn w' B p bD bN pv' d.sync.1 n nD' nN∧Near w.heap.size pv pv')∧Fr [p,bD] w w':=by
 rcases h.pen.2 with ⟨h1,h2⟩ | ⟨g,cap,cur,h1,_⟩
 ·subst h1;exact sync_nil B p bD bN n nD nN d w h (List.length_eq_zero_iff.1 h2)
 ·subst h1;exact sync_some B p bD bN n nD nN g _ cap d w h rfl
end Go.Proofs.YtejiankgafjppaaGreatDoor
namespace Go.Proofs
open Go.Shelf
def Tryz.lays125_ren:Go.Shelf.Ren:=⟨fun | 125=>305 | 128=>337 | 129=>292 | n=>n,fun | 46=>39 | 3=>3 | 51=>251 | 53=>34 | 4=>4 | 5=>5 | 9=>9 | n=>n,fun | n=>n⟩
theorem Tryz.lays125:Go.Proofs.Lays.n125 Tryz.prog Tryz.lays125_ren:={
 mixed:=by kernel_rfl
 f125:=Tryz.func305.trans (congrArg some (by kernel_rfl))
 f128:=Tryz.func337.trans (congrArg some (by kernel_rfl))
 f129:=Tryz.func292.trans (congrArg some (by kernel_rfl))
 t3:=Tryz.underlying3
 a3:=Tryz.isAgg3
 z3:=Tryz.sizeOf3
 v3:=Tryz.zeroValue3
 t4:=Tryz.underlying4
 a4:=Tryz.isAgg4
 z4:=Tryz.sizeOf4
 v4:=Tryz.zeroValue4
 t5:=Tryz.underlying5
 a5:=Tryz.isAgg5
 z5:=Tryz.sizeOf5
 v5:=Tryz.zeroValue5
 t9:=Tryz.underlying9
 a9:=Tryz.isAgg9
 z9:=Tryz.sizeOf9
 v9:=Tryz.zeroValue9
 t46:=Tryz.underlying39
 a46:=Tryz.isAgg39
 z46:=Tryz.sizeOf39
 v46:=Tryz.zeroValue39
 t51:=Tryz.underlying251
 a51:=Tryz.isAgg251
 z51:=Tryz.sizeOf251
 v51:=Tryz.zeroValue251
 t53:=Tryz.underlying34
 a53:=Tryz.isAgg34
 z53:=Tryz.sizeOf34
 v53:=Tryz.zeroValue34 }
theorem Tryz.bits_Len (x:Int) (w:World) (h0:0≤x) (h1:x≤18446744073709551615) :
  Calls Tryz.prog 305 #[.int .u64 x] w fun e w'=>e=.returned (.int .i64 (Lib.bitLen x.toNat))∧w'=w:=Any.bits_Len Tryz.lays125 x w h0 h1
def Tryz.lays283_ren:Go.Shelf.Ren:=⟨fun | 283=>297 | n=>n,fun | 3=>3 | 9=>9 | 4=>4 | n=>n,fun | n=>n⟩
theorem Tryz.lays283:Go.Proofs.Lays.n283 Tryz.prog Tryz.lays283_ren:={
 mixed:=by kernel_rfl
 f283:=Tryz.func297.trans (congrArg some (by kernel_rfl))
 t3:=Tryz.underlying3
 a3:=Tryz.isAgg3
 z3:=Tryz.sizeOf3
 v3:=Tryz.zeroValue3
 t4:=Tryz.underlying4
 a4:=Tryz.isAgg4
 z4:=Tryz.sizeOf4
 v4:=Tryz.zeroValue4
 t9:=Tryz.underlying9
 a9:=Tryz.isAgg9
 z9:=Tryz.sizeOf9
 v9:=Tryz.zeroValue9 }
open Go.Lib in
theorem Tryz.internal_strconv_small (i:Nat) (h:i<100) (w:World) :
  Calls Tryz.prog 297 #[.int .i64 i] w fun e w'=>e=.returned (.string ⟨(Lib.decDigits i).toArray⟩)∧w'=w:=Any.internal_strconv_small Tryz.lays283 i h w
def Tryz.laysM284_ren:Go.Shelf.Ren:=⟨fun | 284=>298 | 129=>292 | 317=>324 | 318=>325 | n=>n,fun | 53=>34 | 3=>3 | 212=>417 | 0=>0 | 4=>4 | 46=>39 | 5=>5 | 9=>9 | n=>n,fun | 17=>1 | n=>n⟩
theorem Tryz.laysM284:Go.Proofs.LaysM.n284 Tryz.prog Tryz.laysM284_ren:={
 mixed:=by kernel_rfl
 f129:=Tryz.func292.trans (congrArg some (by kernel_rfl))
 f284:=Tryz.func298.trans (congrArg some (by kernel_rfl))
 f317:=Tryz.func324.trans (congrArg some (by kernel_rfl))
 f318:=Tryz.func325.trans (congrArg some (by kernel_rfl))
 t0:=Tryz.underlying0
 a0:=Tryz.isAgg0
 z0:=Tryz.sizeOf0
 v0:=Tryz.zeroValue0
 t3:=Tryz.underlying3
 a3:=Tryz.isAgg3
 z3:=Tryz.sizeOf3
 v3:=Tryz.zeroValue3
 t4:=Tryz.underlying4
 a4:=Tryz.isAgg4
 z4:=Tryz.sizeOf4
 v4:=Tryz.zeroValue4
 t5:=Tryz.underlying5
 a5:=Tryz.isAgg5
 z5:=Tryz.sizeOf5
 v5:=Tryz.zeroValue5
 t9:=Tryz.underlying9
 a9:=Tryz.isAgg9
 z9:=Tryz.sizeOf9
 v9:=Tryz.zeroValue9
 t46:=Tryz.underlying39
 a46:=Tryz.isAgg39
 z46:=Tryz.sizeOf39
 v46:=Tryz.zeroValue39
 t53:=Tryz.underlying34
 a53:=Tryz.isAgg34
 z53:=Tryz.sizeOf34
 v53:=Tryz.zeroValue34
 t212:=Tryz.underlying417
 a212:=Tryz.isAgg417
 z212:=Tryz.sizeOf417
 v212:=Tryz.zeroValue417
 g17:=by kernel_rfl
 i0:=by kernel_rfl
 i3:=by kernel_rfl
 i4:=by kernel_rfl
 i5:=by kernel_rfl
 i9:=by kernel_rfl
 i46:=by kernel_rfl
 i53:=by kernel_rfl
 i212:=by kernel_rfl
 m17:=by kernel_rfl }
open Go.Lib in
theorem Tryz.internal_strconv_numDigits (u:Nat) (h1:1≤u) (h2:u<18446744073709551616) (w:World) (htab:Lib.TabIs Tryz.prog w "internal/strconv.uint64pow10" .u64 Lib.pow10Tab) :
  Calls Tryz.prog 298 #[.int .u64 u] w fun e w'=>e=.returned (.int .i64 (Lib.nDigits u))∧w'=w:=Any.internal_strconv_numDigits Tryz.laysM284 u h1 h2 w htab
def Tryz.lays285_ren:Go.Shelf.Ren:=⟨fun | 285=>299 | n=>n,fun | 37=>164 | 53=>34 | 3=>3 | 4=>4 | 51=>251 | 9=>9 | 5=>5 | 0=>0 | n=>n,fun | n=>n⟩
theorem Tryz.lays285:Go.Proofs.Lays.n285 Tryz.prog Tryz.lays285_ren:={
 mixed:=by kernel_rfl
 f285:=Tryz.func299.trans (congrArg some (by kernel_rfl))
 t0:=Tryz.underlying0
 a0:=Tryz.isAgg0
 z0:=Tryz.sizeOf0
 v0:=Tryz.zeroValue0
 t3:=Tryz.underlying3
 a3:=Tryz.isAgg3
 z3:=Tryz.sizeOf3
 v3:=Tryz.zeroValue3
 t4:=Tryz.underlying4
 a4:=Tryz.isAgg4
 z4:=Tryz.sizeOf4
 v4:=Tryz.zeroValue4
 t5:=Tryz.underlying5
 a5:=Tryz.isAgg5
 z5:=Tryz.sizeOf5
 v5:=Tryz.zeroValue5
 t9:=Tryz.underlying9
 a9:=Tryz.isAgg9
 z9:=Tryz.sizeOf9
 v9:=Tryz.zeroValue9
 t37:=Tryz.underlying164
 a37:=Tryz.isAgg164
 z37:=Tryz.sizeOf164
 v37:=Tryz.zeroValue164
 t51:=Tryz.underlying251
 a51:=Tryz.isAgg251
 z51:=Tryz.sizeOf251
 v51:=Tryz.zeroValue251
 t53:=Tryz.underlying34
 a53:=Tryz.isAgg34
 z53:=Tryz.sizeOf34
 v53:=Tryz.zeroValue34 }
open Go.RowKit Go.Sort Go.Lib in
theorem Tryz.internal_strconv_formatBase10 (blk off cap:Nat) (u:Nat) (d:Array UInt8) (w:World) (hH:Holds (fun (b:UInt8)=>Value.int .u8 (b.toNat:Int)) w blk off d) (hu:u<10 ^ d.size) (hu64:u<18446744073709551616) (hsz:d.size<4611686018427387904) :
  Calls Tryz.prog 299 #[.slice (some ⟨blk,off,none⟩) d.size cap,.int .u64 u] w fun e w' =>
   e=.returned (.tuple #[])∧∃ (n v':Nat) (dk:Array UInt8),w'=(putRow (fun (b:UInt8)=>Value.int .u8 (b.toNat:Int)) w blk off dk).drewN n∧FmtInv d.size u 0 v' dk:=Any.internal_strconv_formatBase10 Tryz.lays285 blk off cap u d w hH hu hu64 hsz
def Tryz.laysM316_ren:Go.Shelf.Ren:=⟨fun | 316=>187 | n=>n,fun | 9=>9 | 3=>3 | 4=>4 | 37=>164 | 0=>0 | 127=>344 | 5=>5 | n=>n,fun | n=>n⟩
theorem Tryz.laysM316:Go.Proofs.LaysM.n316 Tryz.prog Tryz.laysM316_ren:={
 mixed:=by kernel_rfl
 f316:=Tryz.func187.trans (congrArg some (by kernel_rfl))
 t0:=Tryz.underlying0
 a0:=Tryz.isAgg0
 z0:=Tryz.sizeOf0
 v0:=Tryz.zeroValue0
 t3:=Tryz.underlying3
 a3:=Tryz.isAgg3
 z3:=Tryz.sizeOf3
 v3:=Tryz.zeroValue3
 t4:=Tryz.underlying4
 a4:=Tryz.isAgg4
 z4:=Tryz.sizeOf4
 v4:=Tryz.zeroValue4
 t9:=Tryz.underlying9
 a9:=Tryz.isAgg9
 z9:=Tryz.sizeOf9
 v9:=Tryz.zeroValue9
 t37:=Tryz.underlying164
 a37:=Tryz.isAgg164
 z37:=Tryz.sizeOf164
 v37:=Tryz.zeroValue164
 t127:=Tryz.underlying344
 a127:=Tryz.isAgg344
 z127:=Tryz.sizeOf344
 v127:=Tryz.zeroValue344
 t5:=Tryz.underlying5
 a5:=Tryz.isAgg5
 z5:=Tryz.sizeOf5
 v5:=Tryz.zeroValue5
 i0:=by kernel_rfl
 i3:=by kernel_rfl
 i4:=by kernel_rfl
 i5:=by kernel_rfl
 i9:=by kernel_rfl
 i37:=by kernel_rfl
 i127:=by kernel_rfl }
open Go.RowKit in
theorem Tryz.stringslite_Clone (s:ByteArray) (w:World) (hlim:s.size≤281474976710656) :
  Calls Tryz.prog 187 #[.string s] w fun e w'=>e=.returned (.string s)∧Below w.heap.size w w':=Any.stringslite_Clone Tryz.laysM316 s w hlim
def Tryz.lays192_ren:Go.Shelf.Ren:=⟨fun | 192=>426 | 190=>307 | 125=>305 | 258=>339 | 128=>337 | 129=>292 | 302=>361 | 303=>362 | 304=>363 | 305=>364 | 306=>365 | 307=>366 | 308=>367 | 309=>368 | 310=>369 | 333=>377 | 329=>357 | 330=>358 | 334=>378 | 335=>379 | 336=>380 | 344=>390 | n=>n,fun | 31=>25 | 0=>0 | 9=>9 | 3=>3 | 46=>39 | 51=>251 | 53=>34 | 4=>4 | 183=>421 | 182=>420 | 131=>313 | 5=>5 | 218=>444 | 222=>447 | 228=>461 | 229=>462 | n=>n,fun | n=>n⟩
theorem Tryz.lays192:Go.Proofs.Lays.n192 Tryz.prog Tryz.lays192_ren:={
 mixed:=by kernel_rfl
 f125:=Tryz.func305.trans (congrArg some (by kernel_rfl))
 f128:=Tryz.func337.trans (congrArg some (by kernel_rfl))
 f129:=Tryz.func292.trans (congrArg some (by kernel_rfl))
 f190:=Tryz.func307.trans (congrArg some (by kernel_rfl))
 f192:=Tryz.func426.trans (congrArg some (by kernel_rfl))
 f258:=Tryz.func339.trans (congrArg some (by kernel_rfl))
 f302:=Tryz.func361.trans (congrArg some (by kernel_rfl))
 f303:=Tryz.func362.trans (congrArg some (by kernel_rfl))
 f304:=Tryz.func363.trans (congrArg some (by kernel_rfl))
 f305:=Tryz.func364.trans (congrArg some (by kernel_rfl))
 f306:=Tryz.func365.trans (congrArg some (by kernel_rfl))
 f307:=Tryz.func366.trans (congrArg some (by kernel_rfl))
 f308:=Tryz.func367.trans (congrArg some (by kernel_rfl))
 f309:=Tryz.func368.trans (congrArg some (by kernel_rfl))
 f310:=Tryz.func369.trans (congrArg some (by kernel_rfl))
 f329:=Tryz.func357.trans (congrArg some (by kernel_rfl))
 f330:=Tryz.func358.trans (congrArg some (by kernel_rfl))
 f333:=Tryz.func377.trans (congrArg some (by kernel_rfl))
 f334:=Tryz.func378.trans (congrArg some (by kernel_rfl))
 f335:=Tryz.func379.trans (congrArg some (by kernel_rfl))
 f336:=Tryz.func380.trans (congrArg some (by kernel_rfl))
 f344:=Tryz.func390.trans (congrArg some (by kernel_rfl))
 t0:=Tryz.underlying0
 a0:=Tryz.isAgg0
 z0:=Tryz.sizeOf0
 v0:=Tryz.zeroValue0
 t3:=Tryz.underlying3
 a3:=Tryz.isAgg3
 z3:=Tryz.sizeOf3
 v3:=Tryz.zeroValue3
 t4:=Tryz.underlying4
 a4:=Tryz.isAgg4
 z4:=Tryz.sizeOf4
 v4:=Tryz.zeroValue4
 t5:=Tryz.underlying5
 a5:=Tryz.isAgg5
 z5:=Tryz.sizeOf5
 v5:=Tryz.zeroValue5
 t9:=Tryz.underlying9
 a9:=Tryz.isAgg9
 z9:=Tryz.sizeOf9
 v9:=Tryz.zeroValue9
 t31:=Tryz.underlying25
 a31:=Tryz.isAgg25
 z31:=Tryz.sizeOf25
 v31:=Tryz.zeroValue25
 t46:=Tryz.underlying39
 a46:=Tryz.isAgg39
 z46:=Tryz.sizeOf39
 v46:=Tryz.zeroValue39
 t51:=Tryz.underlying251
 a51:=Tryz.isAgg251
 z51:=Tryz.sizeOf251
 v51:=Tryz.zeroValue251
 t53:=Tryz.underlying34
 a53:=Tryz.isAgg34
 z53:=Tryz.sizeOf34
 v53:=Tryz.zeroValue34
 t131:=Tryz.underlying313
 a131:=Tryz.isAgg313
 z131:=Tryz.sizeOf313
 v131:=Tryz.zeroValue313
 t182:=Tryz.underlying420
 a182:=Tryz.isAgg420
 z182:=Tryz.sizeOf420
 v182:=Tryz.zeroValue420
 t183:=Tryz.underlying421
 a183:=Tryz.isAgg421
 z183:=Tryz.sizeOf421
 v183:=Tryz.zeroValue421
 t218:=Tryz.underlying444
 a218:=Tryz.isAgg444
 z218:=Tryz.sizeOf444
 v218:=Tryz.zeroValue444
 t222:=Tryz.underlying447
 a222:=Tryz.isAgg447
 z222:=Tryz.sizeOf447
 v222:=Tryz.zeroValue447
 t228:=Tryz.underlying461
 a228:=Tryz.isAgg461
 z228:=Tryz.sizeOf461
 v228:=Tryz.zeroValue461
 t229:=Tryz.underlying462
 a229:=Tryz.isAgg462
 z229:=Tryz.sizeOf462
 v229:=Tryz.zeroValue462 }
open Go.RowKit Go.Sort in
theorem Tryz.sort_Strings_none (p:Option Addr) (cap:Nat) (w:World) :
  Calls Tryz.prog 426 #[.slice p 0 cap] w fun e w'=>e=.returned (.tuple #[])∧w'=w:=Any.sort_Strings_none Tryz.lays192 p cap w
end Go.Proofs
namespace Go.Proofs.YtejiankgafjppaaGreatDoor
open Go.RowKit Go.Sort Go.Lib
def Pows (w:World):Prop:=Lib.TabIs Tryz.prog w "internal/strconv.uint64pow10" .u64 Lib.pow10Tab
theorem holds0 (w:World) (T:TypeId) (nd:Nat) (hs:nd≤24):Holds (fun (b:UInt8)=>Value.int .u8 (b.toNat:Int)) (w.alloc (.cells zeros24 T)) w.heap.size 0 (Array.replicate nd (0:UInt8)):=fun j hj=>by
 have hj':j<nd:=by simpa using hj
 refine ⟨?_,World.frozen?_alloc_new _ _ _ _⟩
 rw [World.cell?_alloc_new,zeros24_at _ (by omega),getElem!_pos _ j hj]
 simp
theorem below_drewN' {B:Nat} {a w:World} (h:Below B a w):∀ k,Below B a (w.drewN k)
 | 0=>h
 | k+1=>by
  have:=(below_drewN' h k).drew
  exact this
theorem below_row (w:World) (o:Obj) (dk:Array UInt8) (k:Nat):Below w.heap.size w ((putRow (fun (b:UInt8)=>Value.int .u8 (b.toNat:Int)) (w.alloc o) w.heap.size 0 dk).drewN k):=by
 have h1:Below w.heap.size w (putRow (fun (b:UInt8)=>Value.int .u8 (b.toNat:Int)) (w.alloc o) w.heap.size 0 dk):=by
  refine ⟨rfl,rfl,rfl,by simp,fun i hi=>?_⟩
  simp only [putRow,mapBlock,Array.getElem?_modify]
  rw [if_neg (by omega)]
  exact Below.heap_alloc _ _ _ hi
 exact below_drewN' h1 k
set_option maxRecDepth 100000 in
set_option maxHeartbeats 4000000 in
theorem formatIn (u:Nat) (w:World) (hu64:u<18446744073709551616) (htab:Pows w) :
  Calls Tryz.prog 250 #[.int .u64 (u:Int),.int .i64 10] w fun e w'=>e=.returned (.string ⟨(Lib.decDigits u).toArray⟩)∧Below w.heap.size w w':=by
 by_cases hs:u<100
 ·have h1:(u:Int)<100:=by omega
  go_enter Tryz.func250,Tryz.ntmps250
  go_wp2_with (first | (go_at_call 297;refine (Tryz.internal_strconv_small u hs _).mono ?_;rintro e w' ⟨rfl,rfl⟩))
  go_ret
  exact ⟨rfl,Below.refl _ _⟩
 ·have h1:¬ (u:Int)<100:=by omega
  have hu1:1≤u:=by omega
  have hnd20:Lib.nDigits u≤20:=by have:=Lib.numDigits_eq u hu1 hu64;split at this <;> omega
  have hal:Tryz.prog.arrayLen 390=24:=by simp [Program.arrayLen,Tryz.underlying390]
  have hsl:∀ W,(Instr.sliceAt 390 (.pointer (some ⟨w.heap.size,0,none⟩)) none (some (.int .i64 (Lib.nDigits u:Int))) none).run Tryz.prog W=.ok (.slice (some ⟨w.heap.size,0,none⟩) (Lib.nDigits u) 24) W:=fun W=>by
   rw [run_sliceAt_array_h W 390 ⟨w.heap.size,0,none⟩ (by simp [Program.arrayLen,Program.elem,Tryz.underlying390]) .i64 (Lib.nDigits u:Int) (by omega) (by rw [hal];omega)]
   go_simp
  have hH0:=holds0 w 390 (Lib.nDigits u) (by omega)
  have hfmt:=Tryz.internal_strconv_formatBase10 w.heap.size 0 24 u (Array.replicate (Lib.nDigits u) 0) (w.alloc (.cells Lib.zeros24 390)) hH0 (by rw [Array.size_replicate];exact Lib.lt_pow_nDigits u) hu64 (by rw [Array.size_replicate];omega)
  rw [Array.size_replicate] at hfmt
  have HH0:=Lib.hid hH0
  clear hH0 hal
  go_enter Tryz.func250,Tryz.ntmps250
  go_wp2_with (first | (go_at_call 298;refine (Tryz.internal_strconv_numDigits u hu1 hu64 _ (Lib.tabIs_alloc htab _)).mono ?_;rintro e w' ⟨rfl,rfl⟩))
  go_at_call 299
  refine hfmt.mono ?_
  rintro e w' ⟨rfl,k,v',dk,rfl,hF⟩
  have hcv:(convert 164 9 (.slice (some ⟨w.heap.size,0,none⟩) (Lib.nDigits u) 24)).run Tryz.prog ((putRow (fun (b:UInt8)=>Value.int .u8 (b.toNat:Int)) (w.alloc (.cells Lib.zeros24 390)) w.heap.size 0 dk).drewN k)=.ok (.string ⟨(Lib.decDigits u).toArray⟩) ((putRow (fun (b:UInt8)=>Value.int .u8 (b.toNat:Int)) (w.alloc (.cells Lib.zeros24 390)) w.heap.size 0 dk).drewN k):=by
   have h:=run_convert_bytes_back (P:=Tryz.prog) ((putRow (fun (b:UInt8)=>Value.int .u8 (b.toNat:Int)) (w.alloc (.cells Lib.zeros24 390)) w.heap.size 0 dk).drewN k) 164 9 5 ⟨w.heap.size,0,none⟩ 24 (Lib.decDigits u) Tryz.underlying164 Tryz.underlying5 Tryz.underlying9 (fun j hj=>by
    rw [Lib.row_is_numeral hF j hj,Lib.add_plain,World.cell?_drewN]
    exact cell?_putRow (fun (b:UInt8)=>Value.int .u8 (b.toNat:Int)) _ w.heap.size 0 _ dk HH0.out (by rw [hF.size,Array.size_replicate]) j (by rw [hF.size];rw [Lib.decDigits_length] at hj;exact hj))
   rw [Lib.decDigits_length] at h
   exact h
  go_wp2
  go_ret
  exact ⟨rfl,below_row w _ dk k⟩
set_option maxHeartbeats 1000000 in
theorem formatPub (u:Nat) (w:World) (hu64:u<18446744073709551616) (htab:Pows w) :
  Calls Tryz.prog 186 #[.int .u64 (u:Int),.int .i64 10] w fun e w'=>e=.returned (.string ⟨(Lib.decDigits u).toArray⟩)∧Below w.heap.size w w':=by
 go_enter Tryz.func186,Tryz.ntmps186
 go_wp2_with fail
 refine (formatIn u w hu64 htab).mono ?_
 rintro e w1 ⟨rfl,hb⟩
 go_wp2
 go_ret
 exact ⟨rfl,hb⟩
def segName (u:Nat):ByteArray:=⟨#[115,101,103,109,101,110,116,45]⟩++⟨(Lib.decDigits u).toArray⟩
theorem segName_size (u:Nat) (hu:u<18446744073709551616):(segName u).size≤28:=by
 have hnd20:(Lib.decDigits u).length≤20:=by
  rw [Lib.decDigits_length]
  by_cases h1:1≤u
  ·have:=Lib.numDigits_eq u h1 hu;split at this <;> omega
  ·obtain rfl:u=0:=by omega
   rw [Lib.nDigits_small (by omega)];omega
 unfold segName
 rw [ByteArray.size_append]
 show 8+(Lib.decDigits u).toArray.size≤28
 simp;omega
set_option maxHeartbeats 1000000 in
theorem segmentName_any (u:Nat) (w:World) (hu64:u<18446744073709551616) (htab:Pows w) :
  Calls Tryz.prog 121 #[.int .u64 (u:Int)] w fun e w'=>e=.returned (.string (segName u))∧Below w.heap.size w w':=by
 go_enter Tryz.func121,Tryz.ntmps121
 go_wp2_with fail
 refine (formatPub u w hu64 htab).mono ?_
 rintro e w1 ⟨rfl,hb⟩
 have hsz:=segName_size u hu64
 unfold segName at hsz
 rw [ByteArray.size_append] at hsz
 have hno:¬ 9223372036854775807<(⟨#[115,101,103,109,101,110,116,45]⟩:ByteArray).size+(⟨(Lib.decDigits u).toArray⟩:ByteArray).size:=by omega
 go_wp2
 all_goals first
  | (go_ret;exact ⟨rfl,hb⟩)
  | (exfalso;rename_i hh;exact hno hh)
end Go.Proofs.YtejiankgafjppaaGreatDoor
namespace Go.Proofs.YtejiankgafjppaaGreatDoor
open Go.RowKit
open Sc
def recHead (x k:Nat) (l:List Nat):List Nat:=be 2 l.length++be 8 x++[k]++l
def recBytes (x k:Nat) (l:List Nat):List Nat:=recHead x k l++be 4 (crc (recHead x k l))
theorem recHead_len (x k:Nat) (l:List Nat):(recHead x k l).length=11+l.length:=by simp [recHead,be_len];omega
theorem recBytes_len (x k:Nat) (l:List Nat):(recBytes x k l).length=15+l.length:=by simp [recBytes,recHead_len,be_len];omega
theorem recHead_byt (x k:Nat) (l:List Nat) (hk:k<256) (hl:Byt l):Byt (recHead x k l):=by
 intro b hb
 simp only [recHead,List.mem_append,List.mem_singleton] at hb
 rcases hb with ((hb | hb) | rfl) | hb
 ·exact be_lt _ _ _ hb
 ·exact be_lt _ _ _ hb
 ·exact hk
 ·exact hl _ hb
theorem strCells_bs (s:ByteArray):Lib.strCells s=bs (bytesOf s):=by simp [Lib.strCells,bs,bytesOf]
abbrev recO (x k:Int) (s:ByteArray):Obj:=.cells #[.int .u64 x,.int .u8 k,.string s] 44
theorem wpList_fits {w:World} {ops:Array Oper} {rest:List Oper} {o:Oper} {a:Act} {Q:Exit→Act→World→Prop} (hgd:o.guard=none) (s x:Operand)
  (ho:o.op=.call { callee:=.builtin .append,args:=#[s,x],argTypes:=#[164,9] })
  (base g n cap:Nat) (xs:List Nat) (t:ByteArray) (hs:a.eval s=.slice (some ⟨g,0,none⟩) n cap) (hown:w.ownsRow base 5 1 (.slice (some ⟨g,0,none⟩) n cap) n (bs xs)) (hx:a.eval x=.string t) (hc:0<cap) (hn:n+t.size≤cap)
  (h:∀ w',w'.ownsRow base 5 1 (.slice (some ⟨g,0,none⟩) (n+t.size) cap) (n+t.size) (bs (xs++bytesOf t))→w.grownBy w' (some g)→wpList Tryz.prog ops Q rest (a.put o.dst (.slice (some ⟨g,0,none⟩) (n+t.size) cap)) w'):wpList Tryz.prog ops Q (o :: rest) a w:=by
 obtain ⟨i0,hi,hz0,hz1,hz2⟩:=info_parts Tryz.info5
 refine Lib.wpList_append_fits_string _ hgd s x 164 9 ho base 5 i0 Tryz.underlying164 Tryz.underlying9 hi hz1 (some ⟨g,0,none⟩) n cap (bs xs) hs hown t hx hc hn ?_
 intro w' ho' hg'
 refine h w' ?_ hg'
 rw [bs_app,← strCells_bs];exact ho'
set_option maxHeartbeats 400000 in
theorem encodeR_no (x k:Int) (s:ByteArray) (w:World) (hs:255<s.size) :
  Calls Tryz.prog 117 #[.agg #[.int .u64 x,.int .u8 k,.string s]] w fun e w'=>e=.returned (.tuple #[.slice none 0 0,.iface 32 (.int .i64 1)])∧Below w.heap.size w w':=by
 have h1:(255:Int)<(s.size:Int):=by omega
 go_enter Tryz.func117,Tryz.ntmps117
 go_wp2
 go_ret2
 exact ⟨rfl,(Below.refl _ _).alloc (Nat.le_refl _) _⟩
theorem box_grown1 {w w1:World} {o:Obj} {r:Option Nat} (h:(w.alloc o).grownBy w1 r) (hr:r≠some w.heap.size) (i:Nat):w1.cell? ⟨w.heap.size,i,none⟩=(w.alloc o).cell? ⟨w.heap.size,i,none⟩ :=
 grown_row h (B:=w.heap.size) (by simp) hr i
theorem own_at1 {w w1:World} {o:Obj} {base n cap:Nat} {xs:List Value} (h:w1.ownsRow base 5 1 (.slice (some ⟨(w.alloc o).heap.size,0,none⟩) n cap) n xs):w1.ownsRow base 5 1 (.slice (some ⟨w.heap.size+1,0,none⟩) n cap) n xs:=by
 rw [World.size_alloc] at h;exact h
set_option maxRecDepth 100000 in
set_option maxHeartbeats 1000000 in
theorem encodeR_own (x k:Nat) (s:ByteArray) (w:World) (hs:s.size≤255) (hk:k<256) (hx:x<18446744073709551616) :
  Calls Tryz.prog 117 #[.agg #[.int .u64 x,.int .u8 k,.string s]] w fun e w'=>∃ g,e=.returned (.tuple #[.slice (some ⟨g,0,none⟩) (11+s.size+4) (15+s.size),.nilIface])∧w.heap.size≤g∧w'.ownsRow (w.heap.size+1) 5 1 (.slice (some ⟨g,0,none⟩) (11+s.size+4) (15+s.size)) (11+s.size+4) (bs (recBytes x k (bytesOf s)))∧Below w.heap.size w w':=by
 have h1:¬ (255:Int)<(s.size:Int):=by omega
 have HX:Hid (x<18446744073709551616):=hx
 clear hx
 obtain ⟨i0,hi,hz0,hz1,hz2⟩:=info_parts Tryz.info5
 go_enter Tryz.func117,Tryz.ntmps117
 go_wp2_with (at_make;refine wpList_make_own _ rfl _ _ 164 rfl (w.heap.size+1) 5 i0 (.int .u8 0) 1 Tryz.underlying164 hi hz0 hz1 .i64 .i64 _ (15+s.size) rfl rfl (by omega) (by rw [hz2];omega) (by unfold maxLen;omega) (by simp) ?_;intro w1 ho1 hg1;have hc1:=box_grown1 hg1 (by simp);have ho1':=own_at1 ho1;clear ho1)
 have hg1':(w.alloc (recO x k s)).grownBy w1 none:=by assumption
 have hz1':w.heap.size+1<w1.heap.size:=(own_lt (xs:=[]) ho1').2
 have HB1:Hid (Below w.heap.size w w1):=((Below.refl _ _).alloc (Nat.le_refl _) _).grown hg1' (by simp) (fun q hq=>by cases hq)
 clear hg1 hg1'
 refine (app_u16 (w.heap.size+1) _ 0 (15+s.size) [] s.size _ ho1' (by omega) (by omega)).mono ?_
 rintro e w2 ⟨rfl,ho2,hg2⟩
 have hc2:∀ i,w2.cell? ⟨w.heap.size,i,none⟩=(w.alloc (recO x k s)).cell? ⟨w.heap.size,i,none⟩:=fun i=>(grown_row hg2 (by omega) (by simp) i).trans (hc1 i)
 have HB2:Hid (Below w.heap.size w w2):=HB1.out.grown hg2 (by omega) (fun q hq=>by cases hq;omega)
 have hz2':w.heap.size+1<w2.heap.size:=(own_lt ho2).2
 clear hc1 ho1' hg2
 go_wp2_with fail
 refine (app_u64 (w.heap.size+1) _ (0+2) (15+s.size) _ x _ ho2 (by omega) HX.out).mono ?_
 rintro e w3 ⟨rfl,ho3,hg3⟩
 have hc3:∀ i,w3.cell? ⟨w.heap.size,i,none⟩=(w.alloc (recO x k s)).cell? ⟨w.heap.size,i,none⟩:=fun i=>(grown_row hg3 (by omega) (by simp) i).trans (hc2 i)
 have HB3:Hid (Below w.heap.size w w3):=HB2.out.grown hg3 (by omega) (fun q hq=>by cases hq;omega)
 have hz3':w.heap.size+1<w3.heap.size:=(own_lt ho3).2
 clear hc2 ho2 hg3
 go_wp2_with fail
 refine (app_u8 (w.heap.size+1) _ (0+2+8) (15+s.size) _ k _ ho3 (by omega) (by omega)).mono ?_
 rintro e w4 ⟨rfl,ho4,hg4⟩
 have hc4:∀ i,w4.cell? ⟨w.heap.size,i,none⟩=(w.alloc (recO x k s)).cell? ⟨w.heap.size,i,none⟩:=fun i=>(grown_row hg4 (by omega) (by simp) i).trans (hc3 i)
 have HB4:Hid (Below w.heap.size w w4):=HB3.out.grown hg4 (by omega) (fun q hq=>by cases hq;omega)
 have hz4':w.heap.size+1<w4.heap.size:=(own_lt ho4).2
 clear hc3 ho3 hg4
 go_wp2_with (at_builtin;refine wpList_fits rfl _ _ rfl (w.heap.size+1) _ (0+2+8+1) (15+s.size) _ s rfl ho4 rfl (by omega) (by omega) ?_;intro w5 ho5 hg5)
 have HB5:Hid (Below w.heap.size w w5):=HB4.out.grown hg5 (by omega) (fun q hq=>by cases hq;omega)
 have hz5':w.heap.size+1<w5.heap.size:=(own_lt ho5).2
 have ho5':w5.ownsRow (w.heap.size+1) 5 1 (.slice (some ⟨w.heap.size+1,0,none⟩) (11+s.size) (15+s.size)) (11+s.size) (bs (recHead x k (bytesOf s))):=by
  have e:((([]++be 2 s.size)++be 8 x)++be 1 k)++bytesOf s=recHead x k (bytesOf s):=by
   have e1:be 1 k=[k]:=by simp [be,digit,List.range_succ];omega
   unfold recHead;rw [bytesOf_len,List.nil_append,e1]
  rw [e] at ho5;exact ho5
 clear hc4 ho4 hg5 ho5
 refine (seal_any (w.heap.size+1) w5.heap.size (w.heap.size+1) (11+s.size) (15+s.size) false (recHead x k (bytesOf s)) _ (maker_new w5) (by omega) (ho5'.alloc _) (recHead_byt x k (bytesOf s) hk (bytesOf_byt s)) (by omega) (by omega)).mono ?_
 rintro e w6 ⟨rfl,ho6,hb6⟩
 have HB6:Hid (Below w.heap.size w w6):=(HB5.out.alloc (by omega) _).trans (hb6 w.heap.size (by omega) (by omega))
 have HR6:Hid (w6.ownsRow (w.heap.size+1) 5 1 (.slice (some ⟨w.heap.size+1,0,none⟩) (11+s.size+4) (15+s.size)) (11+s.size+4) (bs (recBytes x k (bytesOf s)))):=ho6
 clear ho6 hb6 ho5'
 go_wp2
 go_ret2
 exact ⟨w.heap.size+1,rfl,by omega,HR6.out,HB6.out⟩
def fLen (l:List Nat):Nat:=val (l.take 2)
structure Rec where
 lsn:Nat
 kind:Nat
 pay:List Nat
def recOf (l:List Nat):Rec:=⟨val ((l.drop 2).take 8),at_ l 10,(l.drop 11).take (fLen l)⟩
def st:Nat→List Nat→List Rec × Nat
 | 0,_=>([],0)
 | k+1,l=>((st k l).1++[recOf (l.drop (st k l).2)],(st k l).2+15+fLen (l.drop (st k l).2))
def recCells (r:Rec):List Value:=[.int .u64 (r.lsn:Int),.int .u8 (r.kind:Int),.string (str r.pay)]
def recsV (rs:List Rec):List Value:=rs.flatMap recCells
theorem recsV_snoc (rs:List Rec) (r:Rec):recsV (rs++[r])=recsV rs++recCells r:=by simp [recsV]
theorem recsV_len (rs:List Rec):(recsV rs).length=rs.length*3:=by
 induction rs with
 | nil=>rfl
 | cons r rs ih=>simp only [recsV,List.flatMap_cons,List.length_append,List.length_cons] at *;rw [ih];simp [recCells];omega
theorem Tryz.infoRec:(Tryz.prog.info? 44).map (fun i=>(i.zero,i.size,i.bytes))=some (some (.agg #[.int .u64 0,.int .u8 0,.string ByteArray.empty]),3,32):=by kernel_rfl
end Go.Proofs.YtejiankgafjppaaGreatDoor
