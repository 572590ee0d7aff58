import Derived.Test.YtcalalndmcemiaaGreatDoorC06
import Derived.Test.YtcalalndmcemiaaGreatDoorC07
import Derived.Test.YtcalalndmcemiaaGreatDoorC08
import Derived.Test.YtcalalndmcemiaaGreatDoorC09
import Derived.Test.YtcalalndmcemiaaGreatDoorC05
import Derived.Shelf.Small.Bits
import Derived.Shelf.Small.Wraps
import Derived.Shelf.Strconv.Itoa0
import Derived.Shelf.Strconv.Itoa1
import Derived.Shelf.LaysM
import Derived.Shelf.Strconv.Itoa2
import Derived.Shelf.Strconv.Itoa3
import Derived.Shelf.Strconv.Clone
import Derived.Ground.MpProg
import Derived.Shelf.Pu.ParseUintPublic10
import Derived.Shelf.Sort.Plain
import Derived.Shelf.Strings.Prefix
import Derived.Shelf.Slices.In.SortNone
import Derived.Shelf.Slices.In.SortNone2
import Derived.Ground.SlgnProg
import Derived.Shelf.SlicesE.Clone
import Derived.Lib.ItoaMem
import Derived.BigCall
import Derived.BigGuard
import Derived.Room.AppendFits
set_option maxRecDepth 100000
set_option maxHeartbeats 16000000
namespace Go.Proofs.YtcalalndmcemiaaGreatDoor
open Go.RowKit
theorem jTu (B p bD bN n nD nN:Nat) (pv:Value) (d:ADisk) (o:AOp) (w:World) (h:DiskIn w B p bD bN pv d n nD nN) (hn:n<67108864) (ho:o.Ok 4096) (hne:o.kind=4→(o.name.toList == o.to.toList)=false∧o.name≠o.to) :
  Calls Tryz.prog 389 #[.pointer (some ⟨p,0,none⟩),opV o] w (jB0 d o B p bD bN n nD pv w):=by
 obtain ⟨kd,nm,to,da⟩:=o
 rcases ho.kind with hk | hk | hk | hk
 ·simp only at hk;subst hk;exact jY2 B p bD bN n nD nN pv d nm to da w h hn ho sE
 ·simp only at hk;subst hk;exact jYb B p bD bN n nD nN pv d nm to da w h hn ho sE
 ·simp only at hk;subst hk;exact jYi B p bD bN n nD nN pv d nm to da w h hn ho sE
 ·simp only at hk;subst hk;exact jYf B p bD bN n nD nN pv d nm to da w h hn ho hne
end Go.Proofs.YtcalalndmcemiaaGreatDoor
set_option maxRecDepth 100000
set_option maxHeartbeats 16000000
namespace Go.Proofs.YtcalalndmcemiaaGreatDoor
open Go.RowKit
open Sc
theorem jB1 (l:List Nat):(str l).size=l.length:=by
 have h:∀ (m:List Int) (a:ByteArray),(m.foldl (λr n=>r.push (UInt8.ofNat n.toNat)) a).size=a.size+m.length:=by
  intro m
  induction m with
  | nil=>intro a;simp
  | cons x m ih=>intro a;rw [List.foldl_cons,ih];simp [ByteArray.size_push];omega
 unfold str
 rw [h];simp
def jQr (d:ADisk) (o:AOp) (B p bD bN n nD g:Nat) (pv:Value) (w:World) (e:Ending) (w':World):Prop :=
 e=.returned (errN (d.tell o).2)∧(∃ pv' nN',DiskIn w' B p bD bN pv' (d.tell o).1 (n+1) nD nN'∧Near w.heap.size pv pv')∧Fr (g :: dS p bD bN pv) w w'
theorem DiskIn.bytes {w w':World} {B p bD bN n nD nN g len cap k:Nat} {pv:Value} {d:ADisk} {xs:List Value} (h:DiskIn w B p bD bN pv d n nD nN) (hr:w.ownsRow k 5 1 (.slice (some ⟨g,0,none⟩) len cap) len xs) (hf:Fr [g] w w'):DiskIn w' B p bD bN pv d n nD nN:=by
 obtain ⟨c,hc⟩:=jA4 hr rfl
 refine h.fr hf ?_ ?_ ?_ ?_ ?_
 ·simp;intro e;subst e;rw [h.blk] at hc;cases hc
 ·simp;exact h.dur.ne_cells hc
 ·simp;exact h.now.ne_cells hc
 ·intro q hq;simp;intro e;subst e;exact jAe h.pen hc dN hq
 ·intro q hq t;simp at hq;subst hq;rw [hc];intro e;cases e
theorem jU4 {w:World} {B p bD bN n nD nN g len cap k:Nat} {pv:Value} {d:ADisk} {xs:List Value} (h:DiskIn w B p bD bN pv d n nD nN) (hr:w.ownsRow k 5 1 (.slice (some ⟨g,0,none⟩) len cap) len xs):g∉dS p bD bN pv:=by
 obtain ⟨c,hc⟩:=jA4 hr rfl
 intro hm
 rcases List.mem_cons.1 hm with e | hm
 ·subst e;rw [h.blk] at hc;cases hc
 rcases List.mem_cons.1 hm with e | hm
 ·exact h.dur.ne_cells hc e.symm
 rcases List.mem_cons.1 hm with e | hm
 ·exact h.now.ne_cells hc e.symm
 ·simp at hm;exact jAe h.pen hc dN hm
theorem jT2 {w wr:World} {g k cap n base:Nat} {ys:List Value} (hy:wr.ownsRow base 5 1 (.slice (some ⟨g,0,none⟩) n cap) n ys) (hgr:w.grownBy wr (some g)):(wr.setCell ⟨g,k,none⟩ (.int .u8 33)).ownsRow base 5 1 (.slice (some ⟨g,0,none⟩) n cap) n (ys.set k (.int .u8 33))∧w.grownBy (wr.setCell ⟨g,k,none⟩ (.int .u8 33)) (some g):=by
 obtain ⟨h1,h2⟩:=hy.stored k (.int .u8 33)
 exact ⟨h1,jAa hgr h2⟩
theorem jV5 (B p bD bN n nD nN kd g cap base:Nat) (pv:Value) (d:ADisk) (nm:ByteArray) (l:List Nat) (w:World) (h:DiskIn w B p bD bN pv d n nD nN) (hn:n<67108864) (hk:kd=1∨kd=2) (hnm:nm.size≤maxLen)
  (hr:w.ownsRow base 5 1 (.slice (some ⟨g,0,none⟩) l.length cap) l.length (bs l)) (hl:l.length≤4096) :
  Calls Tryz.prog 387 #[.pointer (some ⟨p,0,none⟩),.int .i64 (kd:Int),.string nm,.slice (some ⟨g,0,none⟩) l.length cap] w (jQr d ⟨kd,nm,ByteArray.empty,str l⟩ B p bD bN n nD g pv w):=by
 have HI:Hid (DiskIn w B p bD bN pv d n nD nN):=h
 have HR:Hid (w.ownsRow base 5 1 (.slice (some ⟨g,0,none⟩) l.length cap) l.length (bs l)):=hr
 have hcv:=jDo w g 0 l.length cap l rfl (jE1 hr)
 have HG:Hid (g∉dS p bD bN pv):=jU4 h hr
 have hgl:=(jDp hr).2
 clear h hr
 obtain ⟨m,hm⟩:∃ m,m=l.length:=⟨_,rfl⟩
 rw [← hm] at hcv HR hl ⊢
 have HL:Hid (l.length=m):=hm.symm
 clear hm
 go_enter Tryz.func387,Tryz.ntmps387
 go_wp2_with fail
 refine (jTu B p bD bN n nD nN pv d ⟨kd,nm,ByteArray.empty,str l⟩ w HI.out hn ⟨by rcases hk with h | h <;> simp [h],hnm,by simp,by rw [jB1,HL.out];exact hl⟩ (by rcases hk with h | h <;> (intro h4;simp only at h4;omega))).mono ?_
 rintro e w1 ⟨rfl,⟨pv1,nN1,hi1,hne1⟩,hf1⟩
 have HNE:Hid (Near w.heap.size pv pv1):=hne1
 clear hne1
 have HI1:Hid (DiskIn w1 B p bD bN pv1 (d.tell ⟨kd,nm,ByteArray.empty,str l⟩).1 (n+1) nD nN1):=hi1
 have HF1:Hid (Fr (dS p bD bN pv) w w1):=hf1
 have hr1:w1.ownsRow base 5 1 (.slice (some ⟨g,0,none⟩) m cap) m (bs l):=jA7 HR.out hf1 (λq hq=>by cases hq;exact HG.out)
 have hz1:=hf1.size
 clear hi1 hf1
 generalize hE:errN (d.tell ⟨kd,nm,ByteArray.empty,str l⟩).2=ev
 have HE:Hid (errN (d.tell ⟨kd,nm,ByteArray.empty,str l⟩).2=ev):=hE
 clear hE
 go_wp2
 go_loopw [20] (λi wr=>∃ k:Nat,k≤m∧i=.int .i64 k∧(∃ ys,wr.ownsRow base 5 1 (.slice (some ⟨g,0,none⟩) m cap) m ys)∧w1.grownBy wr (some g)) (λi _=>m - (intOf i).toNat)
 case atStart=>exact ⟨0,Nat.zero_le _,rfl,⟨_,hr1⟩,jAx _ _⟩
 case round =>
  obtain ⟨k,hk',rfl,⟨ys,hy⟩,hgr⟩:=hrel
  by_cases hlt:k<m
  ·have hcx:=hy.cellAt k oE
   have hlen:k<ys.length:=by have:=hy.1;omega
   rw [List.getElem?_eq_getElem hlen] at hcx
   have hfx:=hy.frozenAt k
   obtain ⟨hy2,hg2⟩:=jT2 (k:=k) hy hgr
   have HY:Hid ((wr.setCell ⟨g,k,none⟩ (.int .u8 33)).ownsRow base 5 1 (.slice (some ⟨g,0,none⟩) m cap) m (ys.set k (.int .u8 33))):=hy2
   have HGR:Hid (w1.grownBy (wr.setCell ⟨g,k,none⟩ (.int .u8 33)) (some g)):=hg2
   clear hy hy2 hg2 hgr
   go_wp2
   go_roundw
   case rel=>exact ⟨k+1,by omega,by go_num,⟨_,HY.out⟩,HGR.out⟩
   case measure=>simp [intOf];omega
  ·go_wp2
   go_ret
   have hfg:=Fr.of_grown1 hgr
   exact ⟨by rw [HE.out];rfl,⟨pv1,nN1,HI1.out.bytes hr1 hfg,HNE.out⟩,(HF1.out.mono (T:=g :: dS p bD bN pv) (λq _ hq=>List.mem_cons_of_mem _ hq)).trans (hfg.mono (λq _ hq=>by simp at hq;subst hq;simp))⟩
theorem jOk (B p bD bN n nD nN g cap base:Nat) (pv:Value) (d:ADisk) (nm:ByteArray) (l:List Nat) (w:World) (h:DiskIn w B p bD bN pv d n nD nN) (hn:n<67108864) (hnm:nm.size≤maxLen)
  (hr:w.ownsRow base 5 1 (.slice (some ⟨g,0,none⟩) l.length cap) l.length (bs l)) (hl:l.length≤4096) :
  Calls Tryz.prog 380 #[.pointer (some ⟨p,0,none⟩),.string nm,.slice (some ⟨g,0,none⟩) l.length cap] w (jQr d ⟨2,nm,ByteArray.empty,str l⟩ B p bD bN n nD g pv w):=by
 have HI:Hid (DiskIn w B p bD bN pv d n nD nN):=h
 clear h
 go_enter Tryz.func380,Tryz.ntmps380
 go_wp2_with fail
 refine (jV5 B p bD bN n nD nN 2 g cap base pv d nm l w HI.out hn (Or.inr rfl) hnm hr hl).mono ?_
 rintro e w1 ⟨rfl,h1,h2⟩
 have H1:Hid (∃ pv' nN',DiskIn w1 B p bD bN pv' (d.tell ⟨2,nm,ByteArray.empty,str l⟩).1 (n+1) nD nN'∧Near w.heap.size pv pv'):=h1
 clear h1
 go_wp2
 go_ret
 exact ⟨rfl,H1.out,h2⟩
theorem jGa {d:ADisk} (h:d.writes.2≠0):d.sync=d.writes:=by unfold ADisk.sync;simp [h]
theorem jM6 {d:ADisk} (h:d.writes.2=0):d.sync=({ d.writes.1 with durable:=d.writes.1.pending.foldl doOp d.writes.1.durable,pending:=[] },0):=by unfold ADisk.sync;simp [h]
theorem jOl {w:World} {B g cap n:Nat} {l:List AOp} (h:w.ownsRow B 182 4 (.slice (some ⟨g,0,none⟩) n cap) n (opsV l)) (k:Nat) (o:AOp) (hk:l[k]?=some o) :
  w.cell? ⟨g,k*4,none⟩=some (.int .i64 (o.kind:Int))∧w.cell? ⟨g,k*4+1,none⟩=some (.string o.name)∧w.cell? ⟨g,k*4+2,none⟩=some (.string o.to)∧w.cell? ⟨g,k*4+3,none⟩=some (.string o.data):=by
 have key:∀ (l:List AOp) (k j:Nat),j<4→(opsV l)[k*4+j]?=(l[k]?).bind (λo=>(jC0 o)[j]?):=by
  intro l
  induction l with
  | nil=>intro k j hj;simp [opsV]
  | cons x l ih =>
   intro k j hj
   have e:opsV (x :: l)=jC0 x++opsV l:=rfl
   rw [e]
   cases k with
   | zero=>rw [List.getElem?_append_left (by simp [jC0];omega)];simp
   | succ k =>
    rw [List.getElem?_append_right (by simp [jC0];omega)]
    have:(k+1)*4+j - (jC0 x).length=k*4+j:=by simp [jC0];omega
    rw [this,ih k j hj];simp
 have cel:∀ j v,j<4→(jC0 o)[j]?=some v→w.cell? ⟨g,k*4+j,none⟩=some v:=by
  intro j v hj hv
  have h1:(opsV l)[k*4+j]?=some v:=by rw [key l k j hj,hk];exact hv
  have:=h.cells (g:=g) rfl (k*4+j) v h1
  simpa [Addr.add_lit] using this
 exact ⟨cel 0 _ oE rfl,cel 1 _ oE rfl,cel 2 _ oE rfl,cel 3 _ oE rfl⟩
theorem jIa {c:Nat}:∀ (l:List AOp) (m:Files) (k:Nat),m.Le (k*c)→(∀ o∈l,o.Ok c)→(l.foldl doOp m).Le ((k+l.length)*c)
 | [],m,k,h,_=>by simpa using h
 | o :: l,m,k,h,ho=>by
  have h1:=jRr h (ho o sE)
  have h2:(doOp m o).Le ((k+1)*c):=by rw [Nat.add_mul];simpa using h1
  have h3:=jIa l (doOp m o) (k+1) h2 (λx hx=>ho x (by simp [hx]))
  rw [List.foldl_cons,List.length_cons,show k+(l.length+1)=k+1+l.length by omega];exact h3
theorem jQx (B p bD bN n nD nN g len cap:Nat) (d:ADisk) (w:World) (h:DiskIn w B p bD bN (.slice (some ⟨g,0,none⟩) len cap) d n nD nN) (hlen:d.pending.length=len) :
  Calls Tryz.prog 385 #[.pointer (some ⟨p,0,none⟩)] w λe w'=>e=.returned (errN d.sync.2)∧(∃ pv' nD',DiskIn w' B p bD bN pv' d.sync.1 n nD' nN∧Near w.heap.size (.slice (some ⟨g,0,none⟩) len cap) pv')∧Fr [p,bD] w w':=by
 have HI:Hid (DiskIn w B p bD bN (.slice (some ⟨g,0,none⟩) len cap) d n nD nN):=h
 have HL:Hid (d.pending.length=len):=hlen
 clear h hlen
 go_enter Tryz.func385,Tryz.ntmps385
 go_wp2_with fail
 refine (jDd B p bD bN n nD nN _ d w HI.out).mono ?_
 rintro e w1 ⟨rfl,hi1,hf1⟩
 have HI1:Hid (DiskIn w1 B p bD bN (.slice (some ⟨g,0,none⟩) len cap) d.writes.1 n nD nN):=hi1
 have HF1:Hid (Fr [p,bD] w w1):=hf1.mono (by intro k _ hk;simp at hk;simp [hk])
 have p2:=jA0 hi1.blk 2
 simp at p2
 clear hi1 hf1
 rcases jC1 d with hw | hw | hw
 ·rw [hw,jAc dN]
  go_wp2
  go_ret
  rw [jGa (by rw [hw];decide),hw]
  exact ⟨rfl,⟨_,nD,HI1.out,Near.refl _ _⟩,HF1.out⟩
 ·rw [hw,jAc dN]
  go_wp2
  go_ret
  rw [jGa (by rw [hw];decide),hw]
  exact ⟨rfl,⟨_,nD,HI1.out,Near.refl _ _⟩,HF1.out⟩
 ·rw [hw,jAt]
  have hpn:d.writes.1.pending=d.pending:=by rw [jEh]
  go_wp2
  go_loopw [16] (λi wr=>∃ k:Nat,k≤len∧i=.int .i64 k∧FileMap wr bD (nD+k) ((d.writes.1.pending.take k).foldl doOp d.writes.1.durable)∧Fr [bD] w1 wr) (λi _=>len - (intOf i).toNat)
  case atStart=>exact ⟨0,Nat.zero_le _,rfl,HI1.out.dur,Fr.refl _ _⟩
  case round =>
   obtain ⟨k,hk,rfl,hF,hf⟩:=hrel
   by_cases hlt:k<len
   ·have hkl:k<d.writes.1.pending.length:=by rw [hpn,HL.out];exact hlt
    obtain ⟨o,ho⟩:∃ o,d.writes.1.pending[k]?=some o:=⟨_,List.getElem?_eq_getElem hkl⟩
    have hok:o.Ok 4096:=HI1.out.ops o (List.mem_of_getElem? ho)
    have hpen:=HI1.out.pen
    rw [hpn,HL.out] at hpen
    rw [← hpn] at hpen
    have hrow:wr.ownsRow B 182 4 (.slice (some ⟨g,0,none⟩) len cap) len (opsV d.writes.1.pending):=jA7 hpen hf (λq hq=>by
     simp;intro e;subst e;obtain ⟨c,hc⟩:=jA4 hpen hq;exact HI1.out.dur.ne_cells hc rfl)
    obtain ⟨c0,c1,c2,c3⟩:=jOl hrow k o ho
    have p0:=jA0 ((hf.block p (Array.getElem?_eq_some_iff.1 HI1.out.blk).1 (by simp;exact λe=>HI1.out.dur.ne_cells HI1.out.blk e.symm)).trans HI1.out.blk) 0
    simp at p0
    have hpw:p<wr.heap.size:=World.block_lt_of_cell? wr ⟨p,0,none⟩ p0
    have hpa:∀ ob,(wr.alloc ob).cell? ⟨p,0,none⟩=some (.map (some bD)):=λob=>(World.cell?_of_block (a:=⟨p,0,none⟩) (Below.heap_alloc wr ob p hpw)).trans p0
    have HF:Hid (FileMap wr bD (nD+k) ((d.writes.1.pending.take k).foldl doOp d.writes.1.durable)):=hF
    have Hf:Hid (Fr [bD] w1 wr):=hf
    have HO:Hid (o.Ok 4096):=hok
    have HG:Hid (d.writes.1.pending[k]?=some o):=ho
    have hnk:nD+k<n:=by have:=HI1.out.hD;omega
    have hn:=HI1.out.hn
    have HLE:Hid (((d.writes.1.pending.take k).foldl doOp d.writes.1.durable).Le 549755813888):=by
     intro x t ht
     have:=jIa (d.writes.1.pending.take k) d.writes.1.durable nD HI1.out.leD (λo ho=>HI1.out.ops o (List.mem_of_mem_take ho)) x t ht
     rw [List.length_take] at this
     have hmin:min k d.writes.1.pending.length≤k:=Nat.min_le_left _ _
     have h6:(nD+min k d.writes.1.pending.length)*4096≤n*4096:=Nat.mul_le_mul_right _ oE
     omega
    clear hF hf hok ho hrow hpen hpn
    have i0:(0:Int)≤(k:Int):=by omega
    have i1:(k:Int)<(len:Int):=by omega
    go_wp2
    go_region_with (first | (go_at_call 100;refine (jGq bD (nD+k) 4096 _ o _ (HF.out.new ((((Fr.refl [] wr).alloc _).drew))) (by unfold maxLen;omega) HO.out (by omega) HLE.out).mono ?_;rintro e w2 ⟨rfl,hF2,hg2⟩))
    all_goals (
     have hg3:Fr [bD] w1 w2:=Hf.out.trans ((((Fr.refl [bD] wr).alloc _).drew).trans (Fr.of_grown1 hg2))
     clear hg2
     go_wp2
     go_roundw
     case rel =>
      refine ⟨k+1,by omega,by go_num,?_,hg3⟩
      rw [List.take_add_one,HG.out]
      simpa [List.foldl_append,Nat.add_assoc] using hF2
     case measure=>simp [intOf];omega)
   ·obtain rfl:k=len:=by omega
    have hp:=(hf.block p (Array.getElem?_eq_some_iff.1 HI1.out.blk).1 (by simp;exact λe=>HI1.out.dur.ne_cells HI1.out.blk e.symm)).trans HI1.out.blk
    have p2':=jA0 hp 2
    have g2':=jA2 hp 2
    simp at p2'
    have HP:Hid (wr.heap[p]?=some (dskO bD bN (.slice (some ⟨g,0,none⟩) k cap) d.writes.1.left d.writes.1.full d.writes.1.down)):=hp
    have HF:Hid (FileMap wr bD (nD+k) ((d.writes.1.pending.take k).foldl doOp d.writes.1.durable)):=hF
    have Hf:Hid (Fr [bD] w1 wr):=hf
    clear hF hf hp
    go_wp2
    go_ret
    have ht:d.writes.1.pending.take k=d.writes.1.pending:=List.take_of_length_le (by rw [hpn,HL.out];exact Nat.le_refl _)
    have hF:=HF.out
    rw [ht] at hF
    rw [jM6 hw]
    have hfs:Fr [p] wr (wr.setCell ⟨p,2,none⟩ (.slice none 0 0)):=Fr.set1 sE 2 _
    have hsz:=hfs.size
    have hsz2:=Hf.out.size
    have hnt:∀ q∈[p],∀ t,wr.heap[q]?≠some (jBc t):=by
     intro q hq t;simp at hq;subst hq;rw [HP.out];intro e;cases e
    have hnow:FileMap wr bN nN d.writes.1.now:=HI1.out.now.fr Hf.out (by simp;exact λe=>HI1.out.ne e.symm) (by intro q hq t e;simp at hq;subst hq;exact HI1.out.dur.ne_cells e rfl)
    refine ⟨rfl,⟨.slice none 0 0,nD+k,?_,Near.nil _ _⟩,HF1.out.trans ((Hf.out.mono (by intro q _ hq;simp at hq;simp [hq])).trans (hfs.mono (by intro q _ hq;simp at hq;simp [hq])))⟩
    have hD:=HI1.out.hD
    rw [hpn,HL.out] at hD
    refine { blk:=?_,base:=⟨HI1.out.base.1,HI1.out.base.2.1,HI1.out.base.2.2.1,by have:=HI1.out.base.2.2.2;omega⟩,ne:=HI1.out.ne,dur:=hF.fr hfs (by simp;exact hF.ne_cells HP.out) hnt,now:=hnow.fr hfs (by simp;exact hnow.ne_cells HP.out) hnt,pen:=World.ownsRow_nil _ _ _ _,hD:=by simpa using hD,hN:=HI1.out.hN,hn:=HI1.out.hn,leD:=?_,leN:=HI1.out.leN,ops:=by simp }
    ·have:=jA5 HP.out 2 (.slice none 0 0);simpa using this
    ·have:=jIa d.writes.1.pending d.writes.1.durable nD HI1.out.leD HI1.out.ops
     rw [hpn,HL.out] at this
     simp only
     rw [hpn]
     exact this
theorem jTl (B p bD bN n nD nN:Nat) (d:ADisk) (w:World) (h:DiskIn w B p bD bN (.slice none 0 0) d n nD nN) (hlen:d.pending=[]) :
  Calls Tryz.prog 385 #[.pointer (some ⟨p,0,none⟩)] w λe w'=>e=.returned (errN d.sync.2)∧(∃ pv' nD',DiskIn w' B p bD bN pv' d.sync.1 n nD' nN∧Near w.heap.size (.slice none 0 0) pv')∧Fr [p,bD] w w':=by
 have HI:Hid (DiskIn w B p bD bN (.slice none 0 0) d n nD nN):=h
 have HL:Hid (d.pending=[]):=hlen
 clear h hlen
 go_enter Tryz.func385,Tryz.ntmps385
 go_wp2_with fail
 refine (jDd B p bD bN n nD nN _ d w HI.out).mono ?_
 rintro e w1 ⟨rfl,hi1,hf1⟩
 have HI1:Hid (DiskIn w1 B p bD bN (.slice none 0 0) d.writes.1 n nD nN):=hi1
 have HF1:Hid (Fr [p,bD] w w1):=hf1.mono (by intro k _ hk;simp at hk;simp [hk])
 have p2:=jA0 hi1.blk 2
 have g2:=jA2 hi1.blk 2
 simp at p2
 clear hi1 hf1
 rcases jC1 d with hw | hw | hw
 ·rw [hw,jAc dN]
  go_wp2
  go_ret
  rw [jGa (by rw [hw];decide),hw]
  exact ⟨rfl,⟨_,nD,HI1.out,Near.refl _ _⟩,HF1.out⟩
 ·rw [hw,jAc dN]
  go_wp2
  go_ret
  rw [jGa (by rw [hw];decide),hw]
  exact ⟨rfl,⟨_,nD,HI1.out,Near.refl _ _⟩,HF1.out⟩
 ·rw [hw,jAt]
  have hpn:d.writes.1.pending=[]:=by rw [jEh];exact HL.out
  go_wp2
  refine wp_loop_rounds 1 ?_
  rw [rounds_succ]
  go_wp2
  go_ret
  rw [jM6 hw]
  have hfs:Fr [p] w1 (w1.setCell ⟨p,2,none⟩ (.slice none 0 0)):=Fr.set1 sE 2 _
  refine ⟨rfl,⟨.slice none 0 0,nD,?_,Near.nil _ _⟩,HF1.out.trans (hfs.mono (by intro q _ hq;simp at hq;simp [hq]))⟩
  have hb:(w1.setCell ⟨p,2,none⟩ (.slice none 0 0)).heap[p]?=some (dskO bD bN (.slice none 0 0) d.writes.1.left d.writes.1.full d.writes.1.down):=by have:=jA5 HI1.out.blk 2 (.slice none 0 0);simpa using this
  have:=HI1.out.turn hfs d.writes.1.left d.writes.1.full d.writes.1.down hb
  simp only [hpn,List.foldl_nil]
  rw [← hpn]
  exact this
theorem jMu (B p bD bN n nD nN:Nat) (pv:Value) (d:ADisk) (w:World) (h:DiskIn w B p bD bN pv d n nD nN) :
  Calls Tryz.prog 385 #[.pointer (some ⟨p,0,none⟩)] w λe w'=>e=.returned (errN d.sync.2)∧(∃ pv' nD',DiskIn w' B p bD bN pv' d.sync.1 n nD' nN∧Near w.heap.size pv pv')∧Fr [p,bD] w w':=by
 rcases h.pen.2 with ⟨h1,h2⟩ | ⟨g,cap,cur,h1,_⟩
 ·subst h1;exact jTl B p bD bN n nD nN d w h (List.length_eq_zero_iff.1 h2)
 ·subst h1;exact jQx B p bD bN n nD nN g _ cap d w h rfl
end Go.Proofs.YtcalalndmcemiaaGreatDoor
namespace Go.Proofs
open Go.Shelf
def Tryz.lays125_ren:Go.Shelf.Ren:=⟨fun | 125=>262 | 128=>302 | 129=>238 | n=>n,fun | 46=>175 | 3=>3 | 51=>271 | 53=>43 | 4=>4 | 5=>5 | 9=>9 | n=>n,fun | n=>n⟩
theorem Tryz.lays125:Go.Proofs.Lays.n125 Tryz.prog Tryz.lays125_ren:={
 mixed:=by kernel_rfl
 f125:=Tryz.func262.trans (congrArg some (by kernel_rfl))
 f128:=Tryz.func302.trans (congrArg some (by kernel_rfl))
 f129:=Tryz.func238.trans (congrArg some (by kernel_rfl))
 t3:=Tryz.underlying3
 a3:=Tryz.isAgg3
 z3:=Tryz.sizeOf3
 v3:=Tryz.zeroValue3
 t4:=Tryz.underlying4
 a4:=Tryz.isAgg4
 z4:=Tryz.sizeOf4
 v4:=Tryz.zeroValue4
 t5:=Tryz.underlying5
 a5:=Tryz.isAgg5
 z5:=Tryz.sizeOf5
 v5:=Tryz.zeroValue5
 t9:=Tryz.underlying9
 a9:=Tryz.isAgg9
 z9:=Tryz.sizeOf9
 v9:=Tryz.zeroValue9
 t46:=Tryz.underlying175
 a46:=Tryz.isAgg175
 z46:=Tryz.sizeOf175
 v46:=Tryz.zeroValue175
 t51:=Tryz.underlying271
 a51:=Tryz.isAgg271
 z51:=Tryz.sizeOf271
 v51:=Tryz.zeroValue271
 t53:=Tryz.underlying43
 a53:=Tryz.isAgg43
 z53:=Tryz.sizeOf43
 v53:=Tryz.zeroValue43 }
theorem Tryz.bits_Len (x:Int) (w:World) (h0:0≤x) (h1:x≤18446744073709551615) :
  Calls Tryz.prog 262 #[.int .u64 x] w fun e w'=>e=.returned (.int .i64 (Lib.bitLen x.toNat))∧w'=w:=Any.bits_Len Tryz.lays125 x w h0 h1
def Tryz.lays283_ren:Go.Shelf.Ren:=⟨fun | 283=>265 | n=>n,fun | 3=>3 | 9=>9 | 4=>4 | n=>n,fun | n=>n⟩
theorem Tryz.lays283:Go.Proofs.Lays.n283 Tryz.prog Tryz.lays283_ren:={
 mixed:=by kernel_rfl
 f283:=Tryz.func265.trans (congrArg some (by kernel_rfl))
 t3:=Tryz.underlying3
 a3:=Tryz.isAgg3
 z3:=Tryz.sizeOf3
 v3:=Tryz.zeroValue3
 t4:=Tryz.underlying4
 a4:=Tryz.isAgg4
 z4:=Tryz.sizeOf4
 v4:=Tryz.zeroValue4
 t9:=Tryz.underlying9
 a9:=Tryz.isAgg9
 z9:=Tryz.sizeOf9
 v9:=Tryz.zeroValue9 }
open Go.Lib in
theorem Tryz.internal_strconv_small (i:Nat) (h:i<100) (w:World) :
  Calls Tryz.prog 265 #[.int .i64 i] w fun e w'=>e=.returned (.string ⟨(Lib.decDigits i).toArray⟩)∧w'=w:=Any.internal_strconv_small Tryz.lays283 i h w
def Tryz.laysM284_ren:Go.Shelf.Ren:=⟨fun | 284=>266 | 129=>238 | 317=>303 | 318=>304 | n=>n,fun | 53=>43 | 3=>3 | 212=>418 | 0=>0 | 4=>4 | 46=>175 | 5=>5 | 9=>9 | n=>n,fun | 17=>1 | n=>n⟩
theorem Tryz.laysM284:Go.Proofs.LaysM.n284 Tryz.prog Tryz.laysM284_ren:={
 mixed:=by kernel_rfl
 f129:=Tryz.func238.trans (congrArg some (by kernel_rfl))
 f284:=Tryz.func266.trans (congrArg some (by kernel_rfl))
 f317:=Tryz.func303.trans (congrArg some (by kernel_rfl))
 f318:=Tryz.func304.trans (congrArg some (by kernel_rfl))
 t0:=Tryz.underlying0
 a0:=Tryz.isAgg0
 z0:=Tryz.sizeOf0
 v0:=Tryz.zeroValue0
 t3:=Tryz.underlying3
 a3:=Tryz.isAgg3
 z3:=Tryz.sizeOf3
 v3:=Tryz.zeroValue3
 t4:=Tryz.underlying4
 a4:=Tryz.isAgg4
 z4:=Tryz.sizeOf4
 v4:=Tryz.zeroValue4
 t5:=Tryz.underlying5
 a5:=Tryz.isAgg5
 z5:=Tryz.sizeOf5
 v5:=Tryz.zeroValue5
 t9:=Tryz.underlying9
 a9:=Tryz.isAgg9
 z9:=Tryz.sizeOf9
 v9:=Tryz.zeroValue9
 t46:=Tryz.underlying175
 a46:=Tryz.isAgg175
 z46:=Tryz.sizeOf175
 v46:=Tryz.zeroValue175
 t53:=Tryz.underlying43
 a53:=Tryz.isAgg43
 z53:=Tryz.sizeOf43
 v53:=Tryz.zeroValue43
 t212:=Tryz.underlying418
 a212:=Tryz.isAgg418
 z212:=Tryz.sizeOf418
 v212:=Tryz.zeroValue418
 g17:=by kernel_rfl
 i0:=by kernel_rfl
 i3:=by kernel_rfl
 i4:=by kernel_rfl
 i5:=by kernel_rfl
 i9:=by kernel_rfl
 i46:=by kernel_rfl
 i53:=by kernel_rfl
 i212:=by kernel_rfl
 m17:=by kernel_rfl }
open Go.Lib in
theorem Tryz.internal_strconv_numDigits (u:Nat) (h1:1≤u) (h2:u<18446744073709551616) (w:World) (htab:Lib.TabIs Tryz.prog w "internal/strconv.uint64pow10" .u64 Lib.pow10Tab) :
  Calls Tryz.prog 266 #[.int .u64 u] w fun e w'=>e=.returned (.int .i64 (Lib.nDigits u))∧w'=w:=Any.internal_strconv_numDigits Tryz.laysM284 u h1 h2 w htab
def Tryz.lays285_ren:Go.Shelf.Ren:=⟨fun | 285=>267 | n=>n,fun | 37=>88 | 53=>43 | 3=>3 | 4=>4 | 51=>271 | 9=>9 | 5=>5 | 0=>0 | n=>n,fun | n=>n⟩
theorem Tryz.lays285:Go.Proofs.Lays.n285 Tryz.prog Tryz.lays285_ren:={
 mixed:=by kernel_rfl
 f285:=Tryz.func267.trans (congrArg some (by kernel_rfl))
 t0:=Tryz.underlying0
 a0:=Tryz.isAgg0
 z0:=Tryz.sizeOf0
 v0:=Tryz.zeroValue0
 t3:=Tryz.underlying3
 a3:=Tryz.isAgg3
 z3:=Tryz.sizeOf3
 v3:=Tryz.zeroValue3
 t4:=Tryz.underlying4
 a4:=Tryz.isAgg4
 z4:=Tryz.sizeOf4
 v4:=Tryz.zeroValue4
 t5:=Tryz.underlying5
 a5:=Tryz.isAgg5
 z5:=Tryz.sizeOf5
 v5:=Tryz.zeroValue5
 t9:=Tryz.underlying9
 a9:=Tryz.isAgg9
 z9:=Tryz.sizeOf9
 v9:=Tryz.zeroValue9
 t37:=Tryz.underlying88
 a37:=Tryz.isAgg88
 z37:=Tryz.sizeOf88
 v37:=Tryz.zeroValue88
 t51:=Tryz.underlying271
 a51:=Tryz.isAgg271
 z51:=Tryz.sizeOf271
 v51:=Tryz.zeroValue271
 t53:=Tryz.underlying43
 a53:=Tryz.isAgg43
 z53:=Tryz.sizeOf43
 v53:=Tryz.zeroValue43 }
open Go.RowKit Go.Sort Go.Lib in
theorem Tryz.internal_strconv_formatBase10 (blk off cap:Nat) (u:Nat) (d:Array UInt8) (w:World) (hH:Holds (fun (b:UInt8)=>Value.int .u8 (b.toNat:Int)) w blk off d) (hu:u<10 ^ d.size) (hu64:u<18446744073709551616) (hsz:d.size<4611686018427387904) :
  Calls Tryz.prog 267 #[.slice (some ⟨blk,off,none⟩) d.size cap,.int .u64 u] w fun e w' =>
   e=.returned (.tuple #[])∧∃ (n v':Nat) (dk:Array UInt8),w'=(putRow (fun (b:UInt8)=>Value.int .u8 (b.toNat:Int)) w blk off dk).drewN n∧FmtInv d.size u 0 v' dk:=Any.internal_strconv_formatBase10 Tryz.lays285 blk off cap u d w hH hu hu64 hsz
def Tryz.laysM316_ren:Go.Shelf.Ren:=⟨fun | 316=>153 | n=>n,fun | 9=>9 | 3=>3 | 4=>4 | 37=>88 | 0=>0 | 127=>323 | 5=>5 | n=>n,fun | n=>n⟩
theorem Tryz.laysM316:Go.Proofs.LaysM.n316 Tryz.prog Tryz.laysM316_ren:={
 mixed:=by kernel_rfl
 f316:=Tryz.func153.trans (congrArg some (by kernel_rfl))
 t0:=Tryz.underlying0
 a0:=Tryz.isAgg0
 z0:=Tryz.sizeOf0
 v0:=Tryz.zeroValue0
 t3:=Tryz.underlying3
 a3:=Tryz.isAgg3
 z3:=Tryz.sizeOf3
 v3:=Tryz.zeroValue3
 t4:=Tryz.underlying4
 a4:=Tryz.isAgg4
 z4:=Tryz.sizeOf4
 v4:=Tryz.zeroValue4
 t9:=Tryz.underlying9
 a9:=Tryz.isAgg9
 z9:=Tryz.sizeOf9
 v9:=Tryz.zeroValue9
 t37:=Tryz.underlying88
 a37:=Tryz.isAgg88
 z37:=Tryz.sizeOf88
 v37:=Tryz.zeroValue88
 t127:=Tryz.underlying323
 a127:=Tryz.isAgg323
 z127:=Tryz.sizeOf323
 v127:=Tryz.zeroValue323
 t5:=Tryz.underlying5
 a5:=Tryz.isAgg5
 z5:=Tryz.sizeOf5
 v5:=Tryz.zeroValue5
 i0:=by kernel_rfl
 i3:=by kernel_rfl
 i4:=by kernel_rfl
 i5:=by kernel_rfl
 i9:=by kernel_rfl
 i37:=by kernel_rfl
 i127:=by kernel_rfl }
open Go.RowKit in
theorem Tryz.stringslite_Clone (s:ByteArray) (w:World) (hlim:s.size≤281474976710656) :
  Calls Tryz.prog 153 #[.string s] w fun e w'=>e=.returned (.string s)∧Below w.heap.size w w':=Any.stringslite_Clone Tryz.laysM316 s w hlim
def Tryz.lays192_ren:Go.Shelf.Ren:=⟨fun | 192=>388 | 190=>254 | 125=>262 | 258=>285 | 128=>302 | 129=>238 | 302=>316 | 303=>317 | 304=>318 | 305=>319 | 306=>320 | 307=>321 | 308=>322 | 309=>323 | 310=>324 | 333=>339 | 329=>328 | 330=>329 | 334=>340 | 335=>341 | 336=>342 | 344=>353 | n=>n,fun | 31=>35 | 0=>0 | 9=>9 | 3=>3 | 46=>175 | 51=>271 | 53=>43 | 4=>4 | 183=>410 | 182=>409 | 131=>292 | 5=>5 | 218=>436 | 222=>439 | 228=>450 | 229=>451 | n=>n,fun | n=>n⟩
theorem Tryz.lays192:Go.Proofs.Lays.n192 Tryz.prog Tryz.lays192_ren:={
 mixed:=by kernel_rfl
 f125:=Tryz.func262.trans (congrArg some (by kernel_rfl))
 f128:=Tryz.func302.trans (congrArg some (by kernel_rfl))
 f129:=Tryz.func238.trans (congrArg some (by kernel_rfl))
 f190:=Tryz.func254.trans (congrArg some (by kernel_rfl))
 f192:=Tryz.func388.trans (congrArg some (by kernel_rfl))
 f258:=Tryz.func285.trans (congrArg some (by kernel_rfl))
 f302:=Tryz.func316.trans (congrArg some (by kernel_rfl))
 f303:=Tryz.func317.trans (congrArg some (by kernel_rfl))
 f304:=Tryz.func318.trans (congrArg some (by kernel_rfl))
 f305:=Tryz.func319.trans (congrArg some (by kernel_rfl))
 f306:=Tryz.func320.trans (congrArg some (by kernel_rfl))
 f307:=Tryz.func321.trans (congrArg some (by kernel_rfl))
 f308:=Tryz.func322.trans (congrArg some (by kernel_rfl))
 f309:=Tryz.func323.trans (congrArg some (by kernel_rfl))
 f310:=Tryz.func324.trans (congrArg some (by kernel_rfl))
 f329:=Tryz.func328.trans (congrArg some (by kernel_rfl))
 f330:=Tryz.func329.trans (congrArg some (by kernel_rfl))
 f333:=Tryz.func339.trans (congrArg some (by kernel_rfl))
 f334:=Tryz.func340.trans (congrArg some (by kernel_rfl))
 f335:=Tryz.func341.trans (congrArg some (by kernel_rfl))
 f336:=Tryz.func342.trans (congrArg some (by kernel_rfl))
 f344:=Tryz.func353.trans (congrArg some (by kernel_rfl))
 t0:=Tryz.underlying0
 a0:=Tryz.isAgg0
 z0:=Tryz.sizeOf0
 v0:=Tryz.zeroValue0
 t3:=Tryz.underlying3
 a3:=Tryz.isAgg3
 z3:=Tryz.sizeOf3
 v3:=Tryz.zeroValue3
 t4:=Tryz.underlying4
 a4:=Tryz.isAgg4
 z4:=Tryz.sizeOf4
 v4:=Tryz.zeroValue4
 t5:=Tryz.underlying5
 a5:=Tryz.isAgg5
 z5:=Tryz.sizeOf5
 v5:=Tryz.zeroValue5
 t9:=Tryz.underlying9
 a9:=Tryz.isAgg9
 z9:=Tryz.sizeOf9
 v9:=Tryz.zeroValue9
 t31:=Tryz.underlying35
 a31:=Tryz.isAgg35
 z31:=Tryz.sizeOf35
 v31:=Tryz.zeroValue35
 t46:=Tryz.underlying175
 a46:=Tryz.isAgg175
 z46:=Tryz.sizeOf175
 v46:=Tryz.zeroValue175
 t51:=Tryz.underlying271
 a51:=Tryz.isAgg271
 z51:=Tryz.sizeOf271
 v51:=Tryz.zeroValue271
 t53:=Tryz.underlying43
 a53:=Tryz.isAgg43
 z53:=Tryz.sizeOf43
 v53:=Tryz.zeroValue43
 t131:=Tryz.underlying292
 a131:=Tryz.isAgg292
 z131:=Tryz.sizeOf292
 v131:=Tryz.zeroValue292
 t182:=Tryz.underlying409
 a182:=Tryz.isAgg409
 z182:=Tryz.sizeOf409
 v182:=Tryz.zeroValue409
 t183:=Tryz.underlying410
 a183:=Tryz.isAgg410
 z183:=Tryz.sizeOf410
 v183:=Tryz.zeroValue410
 t218:=Tryz.underlying436
 a218:=Tryz.isAgg436
 z218:=Tryz.sizeOf436
 v218:=Tryz.zeroValue436
 t222:=Tryz.underlying439
 a222:=Tryz.isAgg439
 z222:=Tryz.sizeOf439
 v222:=Tryz.zeroValue439
 t228:=Tryz.underlying450
 a228:=Tryz.isAgg450
 z228:=Tryz.sizeOf450
 v228:=Tryz.zeroValue450
 t229:=Tryz.underlying451
 a229:=Tryz.isAgg451
 z229:=Tryz.sizeOf451
 v229:=Tryz.zeroValue451 }
open Go.RowKit Go.Sort in
theorem Tryz.sort_Strings_none (p:Option Addr) (cap:Nat) (w:World) :
  Calls Tryz.prog 388 #[.slice p 0 cap] w fun e w'=>e=.returned (.tuple #[])∧w'=w:=Any.sort_Strings_none Tryz.lays192 p cap w
end Go.Proofs
set_option maxRecDepth 100000
set_option maxHeartbeats 16000000
namespace Go.Proofs.YtcalalndmcemiaaGreatDoor
open Go.RowKit Go.Sort Go.Lib
def Pows (w:World):Prop:=Lib.TabIs Tryz.prog w "internal/strconv.uint64pow10" .u64 Lib.pow10Tab
theorem jXi (w:World) (T:TypeId) (nd:Nat) (hs:nd≤24):Holds (λ(b:UInt8)=>Value.int .u8 (b.toNat:Int)) (w.alloc (.cells zeros24 T)) w.heap.size 0 (Array.replicate nd (0:UInt8)):=λj hj=>by
 have hj':j<nd:=by simpa using hj
 refine ⟨?_,World.frozen?_alloc_new _ _ _ _⟩
 rw [World.cell?_alloc_new,zeros24_at _ oE,getElem!_pos _ j hj]
 simp
theorem jFq {B:Nat} {a w:World} (h:Below B a w):∀ k,Below B a (w.drewN k)
 | 0=>h
 | k+1=>by
  have:=(jFq h k).drew
  exact this
theorem jQp (w:World) (o:Obj) (dk:Array UInt8) (k:Nat):Below w.heap.size w ((putRow (λ(b:UInt8)=>Value.int .u8 (b.toNat:Int)) (w.alloc o) w.heap.size 0 dk).drewN k):=by
 have h1:Below w.heap.size w (putRow (λ(b:UInt8)=>Value.int .u8 (b.toNat:Int)) (w.alloc o) w.heap.size 0 dk):=by
  refine ⟨rfl,rfl,rfl,by simp,λi hi=>?_⟩
  simp only [putRow,mapBlock,Array.getElem?_modify]
  rw [if_neg oE]
  exact Below.heap_alloc _ _ _ hi
 exact jFq h1 k
theorem jU6 (u:Nat) (w:World) (hu64:u<18446744073709551616) (htab:Pows w) :
  Calls Tryz.prog 225 #[.int .u64 (u:Int),.int .i64 10] w λe w'=>e=.returned (.string ⟨(Lib.decDigits u).toArray⟩)∧Below w.heap.size w w':=by
 by_cases hs:u<100
 ·have h1:(u:Int)<100:=by omega
  go_enter Tryz.func225,Tryz.ntmps225
  go_wp2_with (first | (go_at_call 265;refine (Tryz.internal_strconv_small u hs _).mono ?_;rintro e w' ⟨rfl,rfl⟩))
  go_ret
  exact ⟨rfl,Below.refl _ _⟩
 ·have h1:¬ (u:Int)<100:=by omega
  have hu1:1≤u:=by omega
  have hnd20:Lib.nDigits u≤20:=by have:=Lib.numDigits_eq u hu1 hu64;split at this <;> omega
  have hal:Tryz.prog.arrayLen 387=24:=by simp [Program.arrayLen,Tryz.underlying387]
  have hsl:∀ W,(Instr.sliceAt 387 (.pointer (some ⟨w.heap.size,0,none⟩)) none (some (.int .i64 (Lib.nDigits u:Int))) none).run Tryz.prog W=.ok (.slice (some ⟨w.heap.size,0,none⟩) (Lib.nDigits u) 24) W:=λW=>by
   rw [run_sliceAt_array_h W 387 ⟨w.heap.size,0,none⟩ (by simp [Program.arrayLen,Program.elem,Tryz.underlying387]) .i64 (Lib.nDigits u:Int) oE (by rw [hal];omega)]
   go_simp
  have hH0:=jXi w 387 (Lib.nDigits u) oE
  have hfmt:=Tryz.internal_strconv_formatBase10 w.heap.size 0 24 u (Array.replicate (Lib.nDigits u) 0) (w.alloc (.cells Lib.zeros24 387)) hH0 (by rw [Array.size_replicate];exact Lib.lt_pow_nDigits u) hu64 (by rw [Array.size_replicate];omega)
  rw [Array.size_replicate] at hfmt
  have HH0:=Lib.hid hH0
  clear hH0 hal
  go_enter Tryz.func225,Tryz.ntmps225
  go_wp2_with (first | (go_at_call 266;refine (Tryz.internal_strconv_numDigits u hu1 hu64 _ (Lib.tabIs_alloc htab _)).mono ?_;rintro e w' ⟨rfl,rfl⟩))
  go_at_call 267
  refine hfmt.mono ?_
  rintro e w' ⟨rfl,k,v',dk,rfl,hF⟩
  have hcv:(convert 88 9 (.slice (some ⟨w.heap.size,0,none⟩) (Lib.nDigits u) 24)).run Tryz.prog ((putRow (λ(b:UInt8)=>Value.int .u8 (b.toNat:Int)) (w.alloc (.cells Lib.zeros24 387)) w.heap.size 0 dk).drewN k)=.ok (.string ⟨(Lib.decDigits u).toArray⟩) ((putRow (λ(b:UInt8)=>Value.int .u8 (b.toNat:Int)) (w.alloc (.cells Lib.zeros24 387)) w.heap.size 0 dk).drewN k):=by
   have h:=run_convert_bytes_back (P:=Tryz.prog) ((putRow (λ(b:UInt8)=>Value.int .u8 (b.toNat:Int)) (w.alloc (.cells Lib.zeros24 387)) w.heap.size 0 dk).drewN k) 88 9 5 ⟨w.heap.size,0,none⟩ 24 (Lib.decDigits u) Tryz.underlying88 Tryz.underlying5 Tryz.underlying9 (λj hj=>by
    rw [Lib.row_is_numeral hF j hj,Lib.add_plain,World.cell?_drewN]
    exact cell?_putRow (λ(b:UInt8)=>Value.int .u8 (b.toNat:Int)) _ w.heap.size 0 _ dk HH0.out (by rw [hF.size,Array.size_replicate]) j (by rw [hF.size];rw [Lib.decDigits_length] at hj;exact hj))
   rw [Lib.decDigits_length] at h
   exact h
  go_wp2
  go_ret
  exact ⟨rfl,jQp w _ dk k⟩
theorem jRm (u:Nat) (w:World) (hu64:u<18446744073709551616) (htab:Pows w) :
  Calls Tryz.prog 178 #[.int .u64 (u:Int),.int .i64 10] w λe w'=>e=.returned (.string ⟨(Lib.decDigits u).toArray⟩)∧Below w.heap.size w w':=by
 go_enter Tryz.func178,Tryz.ntmps178
 go_wp2_with fail
 refine (jU6 u w hu64 htab).mono ?_
 rintro e w1 ⟨rfl,hb⟩
 go_wp2
 go_ret
 exact ⟨rfl,hb⟩
def jAs (u:Nat):ByteArray:=⟨#[115,101,103,109,101,110,116,45]⟩++⟨(Lib.decDigits u).toArray⟩
theorem jFy (u:Nat) (hu:u<18446744073709551616):(jAs u).size≤28:=by
 have hnd20:(Lib.decDigits u).length≤20:=by
  rw [Lib.decDigits_length]
  by_cases h1:1≤u
  ·have:=Lib.numDigits_eq u h1 hu;split at this <;> omega
  ·obtain rfl:u=0:=by omega
   rw [Lib.nDigits_small oE];omega
 unfold jAs
 rw [ByteArray.size_append]
 show 8+(Lib.decDigits u).toArray.size≤28
 simp;omega
theorem jGz (u:Nat) (w:World) (hu64:u<18446744073709551616) (htab:Pows w) :
  Calls Tryz.prog 132 #[.int .u64 (u:Int)] w λe w'=>e=.returned (.string (jAs u))∧Below w.heap.size w w':=by
 go_enter Tryz.func132,Tryz.ntmps132
 go_wp2_with fail
 refine (jRm u w hu64 htab).mono ?_
 rintro e w1 ⟨rfl,hb⟩
 have hsz:=jFy u hu64
 unfold jAs at hsz
 rw [ByteArray.size_append] at hsz
 have hno:¬ 9223372036854775807<(⟨#[115,101,103,109,101,110,116,45]⟩:ByteArray).size+(⟨(Lib.decDigits u).toArray⟩:ByteArray).size:=by omega
 go_wp2
 all_goals first
  | (go_ret;exact ⟨rfl,hb⟩)
  | (exfalso;rename_i hh;exact hno hh)
end Go.Proofs.YtcalalndmcemiaaGreatDoor
set_option maxRecDepth 100000
set_option maxHeartbeats 16000000
namespace Go.Proofs.YtcalalndmcemiaaGreatDoor
open Go.RowKit
open Sc
def jDb (x k:Nat) (l:List Nat):List Nat:=be 2 l.length++be 8 x++[k]++l
def jAq (x k:Nat) (l:List Nat):List Nat:=jDb x k l++be 4 (crc (jDb x k l))
theorem jLq (x k:Nat) (l:List Nat):(jDb x k l).length=11+l.length:=by simp [jDb,jB3];omega
theorem jJz (x k:Nat) (l:List Nat):(jAq x k l).length=15+l.length:=by simp [jAq,jLq,jB3];omega
theorem jL9 (x k:Nat) (l:List Nat) (hk:k<256) (hl:Byt l):Byt (jDb x k l):=by
 intro b hb
 simp only [jDb,List.mem_append,List.mem_singleton] at hb
 rcases hb with ((hb | hb) | rfl) | hb
 ·exact jSw _ _ _ hb
 ·exact jSw _ _ _ hb
 ·exact hk
 ·exact hl _ hb
theorem jM1 (s:ByteArray):Lib.strCells s=bs (jA6 s):=by simp [Lib.strCells,bs,jA6]
abbrev recO (x k:Int) (s:ByteArray):Obj:=.cells #[.int .u64 x,.int .u8 k,.string s] 110
theorem jLl {w:World} {ops:Array Oper} {rest:List Oper} {o:Oper} {a:Act} {Q:Exit→Act→World→Prop} (hgd:o.guard=none) (s x:Operand)
  (ho:o.op=.call { callee:=.builtin .append,args:=#[s,x],argTypes:=#[88,9] })
  (base g n cap:Nat) (xs:List Nat) (t:ByteArray) (hs:a.eval s=.slice (some ⟨g,0,none⟩) n cap) (hown:w.ownsRow base 5 1 (.slice (some ⟨g,0,none⟩) n cap) n (bs xs)) (hx:a.eval x=.string t) (hc:0<cap) (hn:n+t.size≤cap)
  (h:∀ w',w'.ownsRow base 5 1 (.slice (some ⟨g,0,none⟩) (n+t.size) cap) (n+t.size) (bs (xs++jA6 t))→w.grownBy w' (some g)→wpList Tryz.prog ops Q rest (a.put o.dst (.slice (some ⟨g,0,none⟩) (n+t.size) cap)) w'):wpList Tryz.prog ops Q (o :: rest) a w:=by
 obtain ⟨i0,hi,hz0,hz1,hz2⟩:=info_parts Tryz.info5
 refine Lib.wpList_append_fits_string _ hgd s x 88 9 ho base 5 i0 Tryz.underlying88 Tryz.underlying9 hi hz1 (some ⟨g,0,none⟩) n cap (bs xs) hs hown t hx hc hn ?_
 intro w' ho' hg'
 refine h w' ?_ hg'
 rw [jQ2,← jM1];exact ho'
theorem jP6 (x k:Int) (s:ByteArray) (w:World) (hs:255<s.size) :
  Calls Tryz.prog 128 #[.agg #[.int .u64 x,.int .u8 k,.string s]] w λe w'=>e=.returned (.tuple #[.slice none 0 0,.iface 44 (.int .i64 1)])∧Below w.heap.size w w':=by
 have h1:(255:Int)<(s.size:Int):=by omega
 go_enter Tryz.func128,Tryz.ntmps128
 go_wp2
 go_ret2
 exact ⟨rfl,(Below.refl _ _).alloc (Nat.le_refl _) _⟩
theorem jOr {w w1:World} {o:Obj} {r:Option Nat} (h:(w.alloc o).grownBy w1 r) (hr:r≠some w.heap.size) (i:Nat):w1.cell? ⟨w.heap.size,i,none⟩=(w.alloc o).cell? ⟨w.heap.size,i,none⟩ :=
 jCh h (B:=w.heap.size) sE hr i
theorem jVc {w w1:World} {o:Obj} {base n cap:Nat} {xs:List Value} (h:w1.ownsRow base 5 1 (.slice (some ⟨(w.alloc o).heap.size,0,none⟩) n cap) n xs):w1.ownsRow base 5 1 (.slice (some ⟨w.heap.size+1,0,none⟩) n cap) n xs:=by
 rw [World.size_alloc] at h;exact h
theorem jL5 (x k:Nat) (s:ByteArray) (w:World) (hs:s.size≤255) (hk:k<256) (hx:x<18446744073709551616) :
  Calls Tryz.prog 128 #[.agg #[.int .u64 x,.int .u8 k,.string s]] w λe w'=>∃ g,e=.returned (.tuple #[.slice (some ⟨g,0,none⟩) (11+s.size+4) (15+s.size),.nilIface])∧w.heap.size≤g∧w'.ownsRow (w.heap.size+1) 5 1 (.slice (some ⟨g,0,none⟩) (11+s.size+4) (15+s.size)) (11+s.size+4) (bs (jAq x k (jA6 s)))∧Below w.heap.size w w':=by
 have h1:¬ (255:Int)<(s.size:Int):=by omega
 have HX:Hid (x<18446744073709551616):=hx
 clear hx
 obtain ⟨i0,hi,hz0,hz1,hz2⟩:=info_parts Tryz.info5
 go_enter Tryz.func128,Tryz.ntmps128
 go_wp2_with (at_make;refine wpList_make_own _ rfl _ _ 88 rfl (w.heap.size+1) 5 i0 (.int .u8 0) 1 Tryz.underlying88 hi hz0 hz1 .i64 .i64 _ (15+s.size) rfl rfl (by omega) (by rw [hz2];omega) (by unfold maxLen;omega) (by simp) ?_;intro w1 ho1 hg1;have hc1:=jOr hg1 (by simp);have ho1':=jVc ho1;clear ho1)
 have hg1':(w.alloc (recO x k s)).grownBy w1 none:=by assumption
 have hz1':w.heap.size+1<w1.heap.size:=(jDp (xs:=[]) ho1').2
 have HB1:Hid (Below w.heap.size w w1):=((Below.refl _ _).alloc (Nat.le_refl _) _).grown hg1' sE (λq hq=>by cases hq)
 clear hg1 hg1'
 refine (jVi (w.heap.size+1) _ 0 (15+s.size) [] s.size _ ho1' oE oE).mono ?_
 rintro e w2 ⟨rfl,ho2,hg2⟩
 have hc2:∀ i,w2.cell? ⟨w.heap.size,i,none⟩=(w.alloc (recO x k s)).cell? ⟨w.heap.size,i,none⟩:=λi=>(jCh hg2 oE sE i).trans (hc1 i)
 have HB2:Hid (Below w.heap.size w w2):=HB1.out.grown hg2 oE (λq hq=>by cases hq;omega)
 have hz2':w.heap.size+1<w2.heap.size:=(jDp ho2).2
 clear hc1 ho1' hg2
 go_wp2_with fail
 refine (jQ8 (w.heap.size+1) _ (0+2) (15+s.size) _ x _ ho2 oE HX.out).mono ?_
 rintro e w3 ⟨rfl,ho3,hg3⟩
 have hc3:∀ i,w3.cell? ⟨w.heap.size,i,none⟩=(w.alloc (recO x k s)).cell? ⟨w.heap.size,i,none⟩:=λi=>(jCh hg3 oE sE i).trans (hc2 i)
 have HB3:Hid (Below w.heap.size w w3):=HB2.out.grown hg3 oE (λq hq=>by cases hq;omega)
 have hz3':w.heap.size+1<w3.heap.size:=(jDp ho3).2
 clear hc2 ho2 hg3
 go_wp2_with fail
 refine (jNa (w.heap.size+1) _ (0+2+8) (15+s.size) _ k _ ho3 oE oE).mono ?_
 rintro e w4 ⟨rfl,ho4,hg4⟩
 have hc4:∀ i,w4.cell? ⟨w.heap.size,i,none⟩=(w.alloc (recO x k s)).cell? ⟨w.heap.size,i,none⟩:=λi=>(jCh hg4 oE sE i).trans (hc3 i)
 have HB4:Hid (Below w.heap.size w w4):=HB3.out.grown hg4 oE (λq hq=>by cases hq;omega)
 have hz4':w.heap.size+1<w4.heap.size:=(jDp ho4).2
 clear hc3 ho3 hg4
 go_wp2_with (at_builtin;refine jLl rfl _ _ rfl (w.heap.size+1) _ (0+2+8+1) (15+s.size) _ s rfl ho4 rfl (by omega) (by omega) ?_;intro w5 ho5 hg5)
 have HB5:Hid (Below w.heap.size w w5):=HB4.out.grown hg5 oE (λq hq=>by cases hq;omega)
 have hz5':w.heap.size+1<w5.heap.size:=(jDp ho5).2
 have ho5':w5.ownsRow (w.heap.size+1) 5 1 (.slice (some ⟨w.heap.size+1,0,none⟩) (11+s.size) (15+s.size)) (11+s.size) (bs (jDb x k (jA6 s))):=by
  have e:((([]++be 2 s.size)++be 8 x)++be 1 k)++jA6 s=jDb x k (jA6 s):=by
   have e1:be 1 k=[k]:=by simp [be,digit,List.range_succ];omega
   unfold jDb;rw [jAz,List.nil_append,e1]
  rw [e] at ho5;exact ho5
 clear hc4 ho4 hg5 ho5
 refine (jN3 (w.heap.size+1) w5.heap.size (w.heap.size+1) (11+s.size) (15+s.size) false (jDb x k (jA6 s)) _ (jGn w5) oE (ho5'.alloc _) (jL9 x k (jA6 s) hk (jL4 s)) oE oE).mono ?_
 rintro e w6 ⟨rfl,ho6,hb6⟩
 have HB6:Hid (Below w.heap.size w w6):=(HB5.out.alloc oE _).trans (hb6 w.heap.size oE oE)
 have HR6:Hid (w6.ownsRow (w.heap.size+1) 5 1 (.slice (some ⟨w.heap.size+1,0,none⟩) (11+s.size+4) (15+s.size)) (11+s.size+4) (bs (jAq x k (jA6 s)))):=ho6
 clear ho6 hb6 ho5'
 go_wp2
 go_ret2
 exact ⟨w.heap.size+1,rfl,by omega,HR6.out,HB6.out⟩
def fLen (l:List Nat):Nat:=val (l.take 2)
structure Rec where
 lsn:Nat
 kind:Nat
 pay:List Nat
def recOf (l:List Nat):Rec:=⟨val ((l.drop 2).take 8),at_ l 10,(l.drop 11).take (fLen l)⟩
def st:Nat→List Nat→List Rec × Nat
 | 0,_=>([],0)
 | k+1,l=>((st k l).1++[recOf (l.drop (st k l).2)],(st k l).2+15+fLen (l.drop (st k l).2))
def jC6 (r:Rec):List Value:=[.int .u64 (r.lsn:Int),.int .u8 (r.kind:Int),.string (str r.pay)]
def jD2 (rs:List Rec):List Value:=rs.flatMap jC6
theorem jOb (rs:List Rec) (r:Rec):jD2 (rs++[r])=jD2 rs++jC6 r:=by simp [jD2]
theorem jK4 (rs:List Rec):(jD2 rs).length=rs.length*3:=by
 induction rs with
 | nil=>rfl
 | cons r rs ih=>simp only [jD2,List.flatMap_cons,List.length_append,List.length_cons] at *;rw [ih];simp [jC6];omega
theorem Tryz.infoRec:(Tryz.prog.info? 110).map (λi=>(i.zero,i.size,i.bytes))=some (some (.agg #[.int .u64 0,.int .u8 0,.string ByteArray.empty]),3,32):=by kernel_rfl
end Go.Proofs.YtcalalndmcemiaaGreatDoor
