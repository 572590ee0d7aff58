import Derived.Test.YtejiankgafjppaaGreatDoorC31
import Derived.Test.YtejiankgafjppaaGreatDoorC24
import Derived.Test.YtejiankgafjppaaGreatDoorC27
import Derived.Test.YtejiankgafjppaaGreatDoorC12
import Derived.Test.YtejiankgafjppaaGreatDoorC14
import Derived.Test.YtejiankgafjppaaGreatDoorC17
import Derived.Test.YtejiankgafjppaaGreatDoorC18
import Derived.Test.YtejiankgafjppaaGreatDoorC21
import Derived.Sort.OwnSorted
import Derived.Test.YtejiankgafjppaaGreatDoorC15
import Derived.Test.YtejiankgafjppaaGreatDoorC01
import Derived.Lib.SmallJoins
import Derived.RangeFuncNested
import Derived.RangeFuncBox
import Derived.RangeFuncBound
import Derived.RangeFuncCalls
import Derived.RangeFuncLeaves
import Derived.Shelf.Abstract
import Derived.Shelf.AbstractIn
import Derived.Shelf.RegionOpen
import Derived.WalkKit
import Derived.OwnWalkIn
import Derived.TacticsInMore
import Derived.LoopNIn
import Derived.LoopIn
import Derived.Maps.AppendAt
import Derived.RangeFuncKeeps
import Derived.Test.YtejiankgafjppaaGreatDoorC22
import Derived.Test.YtejiankgafjppaaGreatDoorC07
import Derived.Lib.AppendStr
import Derived.Test.YtejiankgafjppaaGreatDoorC28
namespace Go.Proofs.YtejiankgafjppaaGreatDoor
open Go.RowKit Go.Shelf Go.Maps
open Sc
structure CoZ (w:World) (cp bT n:Nat) (c:ACo):Prop where
 blk:w.heap[cp]?=some (coO 0 bT c (.slice none 0 0) (.slice none 0 0))
 txns:MapAs KU EX w bT n c.txns
 nums:c.next<18446744073709551616∧c.limit<18446744073709551616∧c.ticks<18446744073709551616
 emp:c.res=[]∧c.out=[]
section
variable {w w':World} {B cp bT n:Nat} {c:ACo}
theorem CoZ.co (h:CoZ w cp bT n c) (hl:B≤cp∧B≤bT∧B≤w.heap.size):CoIn w B cp 0 bT n c :=
 ⟨⟨_,_,h.blk,by rw [h.emp.1];exact World.ownsRow_nil _ _ _ _,by rw [h.emp.2];exact World.ownsRow_nil _ _ _ _,by rw [h.emp.1];exact Brd.nil _,by rw [h.emp.2];exact Brd.nil _⟩,h.txns,hl,h.nums⟩
theorem CoZ.keep (h:CoZ w cp bT n c) (hb:∀ k∈[cp,bT],w'.heap[k]?=w.heap[k]?):CoZ w' cp bT n c:=by
 obtain ⟨es,⟨es',c2,h1,h2⟩,r⟩:=h.txns
 exact ⟨(hb cp (by simp)).trans h.blk,⟨es,⟨es',c2,(hb bT (by simp)).trans h1,h2⟩,r⟩,h.nums,h.emp⟩
theorem CoZ.lts (h:CoZ w cp bT n c):cp<w.heap.size∧bT<w.heap.size∧cp≠bT:=by
 refine ⟨(Array.getElem?_eq_some_iff.1 h.blk).1,h.txns.lt,fun e=>?_⟩
 obtain ⟨es,c2,e2⟩:=h.txns.isMap
 have:=h.blk
 rw [e,e2] at this;cases this
theorem CoZ.fr {S:List Nat} (h:CoZ w cp bT n c) (hf:Fr S w w') (h1:cp∉S) (h2:bT∉S):CoZ w' cp bT n c :=
 h.keep (fun k hk=>by
  simp at hk
  rcases hk with rfl | rfl
  ·exact hf.block _ h.lts.1 h1
  ·exact hf.block _ h.lts.2.1 h2)
end
set_option maxRecDepth 100000 in
set_option maxHeartbeats 2000000 in
theorem readRes_any (n cp bT m fp M:Nat) (c:ACo) (w:World) (h:CoZ w cp bT m c) (hf:FldAt n w fp (be 8 M)) (hM:M<18446744073709551616) (hle:c.limit≤M) (hlow:cp<n∧bT<n) :
  Calls Tryz.prog 240 #[.pointer (some ⟨cp,0,none⟩),.pointer (some ⟨fp,0,none⟩)] w fun e w'=>e=.returned (.bool true)∧CoZ w' cp bT m { c with limit:=M }∧Fr [fp,cp] w w':=by
 have hnum:=num64_any n fp (be 8 M) w hf (Nat.le_of_eq (be_len 8 M).symm)
 have e1:val ((be 8 M).take 8)=M:=by rw [List.take_of_length_le (Nat.le_of_eq (be_len 8 M))];exact val_be 8 M (by simpa using hM)
 have e2:(be 8 M).drop 8=[]:=List.drop_of_length_le (Nat.le_of_eq (be_len 8 M))
 rw [e1,e2] at hnum
 have c3:=blk_cell h.blk 3
 simp at c3
 have hfl:=hf.low
 have H0:=toHid h
 have i1:(c.limit:Int)≤(M:Int):=by omega
 clear e1 e2 h hf
 go_enter Tryz.func240,Tryz.ntmps240
 go_wp2_with fail
 refine hnum.mono ?_
 clear hnum
 rintro e w1 ⟨rfl,hf1,hfr1⟩
 have hz1:=H0.out.fr hfr1 (by simp;omega) (by simp;omega)
 have d3:=blk_cell hz1.blk 3
 have g3:=blk_free hz1.blk 3
 simp at d3
 obtain ⟨W2,hW2⟩:∃ W2,W2=w1.setCell ⟨cp,3,none⟩ (.int .u64 (M:Int)):=⟨_,rfl⟩
 have hf2:Fr [cp] w1 W2:=by rw [hW2];exact Fr.set1 (by simp) _ _
 have b2:W2.heap[cp]?=some (coO 0 bT { c with limit:=M } (.slice none 0 0) (.slice none 0 0)):=by
  rw [hW2]
  have:=blk_set hz1.blk 3 (.int .u64 (M:Int))
  simpa using this
 have hz2:CoZ W2 cp bT m { c with limit:=M }:=⟨b2,hz1.txns.fr hf2 (by simpa using fun e=>hz1.lts.2.2 e.symm),⟨hz1.nums.1,hM,hz1.nums.2.2⟩,hz1.emp⟩
 have hfa2:=hf1.fr hf2 (by simp;omega)
 have hri:=right_any n fp [] W2 hfa2
 simp only [List.length_nil,Nat.lt_irrefl,decide_false,Bool.not_false] at hri
 have k3:=blk_cell b2 3
 simp at k3
 have H2:=toHid (show CoZ W2 cp bT m { c with limit:=M }∧Fr [fp,cp] w W2 from ⟨hz2,(hfr1.mono (fun k _ hk=>by simp at hk;simp [hk])).trans (hf2.mono (fun k _ hk=>by simp at hk;simp [hk]))⟩)
 clear hz1 hf2 b2 hz2 hfa2 hf1 hfr1
 go_wp2_with fail
 rw [← hW2]
 clear hW2 d3 g3 c3
 refine hri.mono ?_
 clear hri
 rintro e w3 ⟨rfl,rfl⟩
 go_wp2
 go_ret
 exact ⟨rfl,H2.out⟩
def ints (l:List Nat):List Value:=l.map fun x:Nat=>.int .i64 (x:Int)
theorem ints_snoc (l:List Nat) (x:Nat):ints (l++[x])=ints l++[.int .i64 (x:Int)]:=by simp [ints]
theorem Tryz.infoIn:(Tryz.prog.info? 3).map (fun i=>(i.zero,i.size,i.bytes))=some (some (.int .i64 0),1,8):=by kernel_rfl
theorem ints_at {w:World} {B g cap n:Nat} {l:List Nat} (h:w.ownsRow B 3 1 (.slice (some ⟨g,0,none⟩) n cap) n (ints l)):IntsAt w g l:=fun k x hk=>by
 have h1:(ints l)[k]?=some (.int .i64 (x:Int)):=by simp [ints,hk]
 have:=h.cells (g:=g) rfl k _ h1
 simpa [Addr.add_lit] using this
set_option maxRecDepth 100000 in
set_option maxHeartbeats 8000000 in
theorem readCom_any (n cp bT m fp t:Nat) (xs:List Nat) (c:ACo) (w:World) (h:CoZ w cp bT m c) (hf:FldAt n w fp (be 8 t++xs)) (ht:t<18446744073709551616) (h0:t≠0) (hlt:t<c.limit) (hst:(c.tx t).state=0) (hr:Rising xs) (hm:m+1<maxLen) (hlow:cp<n∧bT<n) :
  Calls Tryz.prog 241 #[.pointer (some ⟨cp,0,none⟩),.pointer (some ⟨fp,0,none⟩)] w fun e w'=>e=.returned (.bool true)∧CoZ w' cp bT (m+1) { c with txns:=alPut c.txns t ⟨6,partsL xs 2,0⟩ }∧Fr [fp,bT] w w':=by
 have hnum:=num64_any n fp (be 8 t++xs) w hf (by simp [be_len])
 have e1:val ((be 8 t++xs).take 8)=t:=by rw [List.take_left' (by rw [be_len])];exact val_be 8 t (by simpa using ht)
 have e2:(be 8 t++xs).drop 8=xs:=List.drop_left' (by rw [be_len])
 rw [e1,e2] at hnum
 have hfl:=hf.low
 have i0:¬ (t:Int)=0:=by omega
 have j0:((t:Int) == 0)=false:=beq_eq_false_iff_ne.2 i0
 have i1:¬ (c.limit:Int)≤(t:Int):=by omega
 obtain ⟨q0,q1,q2,q3,q4,q5,q6,q7,q8,hq⟩:=nine (partsL_len xs 2)
 have hlit:psV (partsL xs 2)=.agg #[.int .u8 (q0:Int),.int .u8 (q1:Int),.int .u8 (q2:Int),.int .u8 (q3:Int),.int .u8 (q4:Int),.int .u8 (q5:Int),.int .u8 (q6:Int),.int .u8 (q7:Int),.int .u8 (q8:Int)]:=by rw [hq];rfl
 have HPUT:=toHid (fun (W:World) (h2:CoZ W cp bT m c)=>(by
  obtain ⟨w5,hr5,hm5,hg5⟩:=h2.txns.putRun Tryz.underlying224 (by omega) (k:=t) ht (v:=(⟨6,partsL xs 2,0⟩:ATx)) (partsL_ok xs 6 2 0 (by decide))
  have hf5:=Fr.of_grown1 hg5
  refine ⟨w5,?_,⟨(hf5.block cp h2.lts.1 (by simpa using h2.lts.2.2)).trans h2.blk,hm5,h2.nums,h2.emp⟩,hf5⟩
  have e:(EX.ev ⟨6,partsL xs 2,0⟩:Value)=txV ⟨6,partsL xs 2,0⟩:=rfl
  rw [e,hq,txV_lit] at hr5
  exact hr5:∃ w5,(Instr.mapUpdate 224 (.map (some bT)) (.int .u64 (t:Int)) (.agg #[.int .i64 6,.int .u8 (q0:Int),.int .u8 (q1:Int),.int .u8 (q2:Int),.int .u8 (q3:Int),.int .u8 (q4:Int),.int .u8 (q5:Int),.int .u8 (q6:Int),.int .u8 (q7:Int),.int .u8 (q8:Int),.int .u64 0,.nilIface])).run Tryz.prog W=.ok () w5∧CoZ w5 cp bT (m+1) { c with txns:=alPut c.txns t ⟨6,partsL xs 2,0⟩ }∧Fr [bT] W w5))
 have HL:=toHid hlit
 have H0:=toHid h
 have HR:=toHid hr
 obtain ⟨ii,hi,hz0,hz1,hz2⟩:=info_parts Tryz.infoIn
 clear e1 e2 h hf hq hlit hr
 go_enter Tryz.func241,Tryz.ntmps241
 go_wp2_with fail
 refine hnum.mono ?_
 clear hnum
 rintro e w1 ⟨rfl,hf1,hfr1⟩
 have hzz:=H0.out.fr hfr1 (by simp;omega) (by simp;omega)
 have hsa:=status_any 0 cp 0 bT m t c w1 (hzz.co ⟨Nat.zero_le _,Nat.zero_le _,Nat.zero_le _⟩) ht
 rw [hst] at hsa
 have c3:=blk_cell hzz.blk 3
 simp at c3
 have H1:=toHid (show CoZ w1 cp bT m c∧FldAt n w1 fp xs∧Fr [fp] w w1 from ⟨hzz,hf1,hfr1⟩)
 have hlts:=hzz.lts
 have hfpl:=hf1.fld.lt
 clear hzz hf1 hfr1 hst
 go_wp2_with fail
 refine hsa.mono ?_
 clear hsa
 rintro e w2 ⟨rfl,hw2⟩
 subst hw2
 go_wp2
 have hdec:decide (c.limit≤t)=false:=decide_eq_false (by omega)
 rw [hdec]
 go_loopw [6] (fun v6 wr=>∃ ys zs,Hid (xs=ys++zs∧FldAt n wr fp zs∧wr.ownsRow w2.heap.size 3 1 v6 ys.length (ints ys)∧Fr [fp] w2 wr)) (fun _ wr=>fldLen wr fp)
 case atStart=>exact ⟨[],xs,rfl,H1.out.2.1,World.ownsRow_nil _ _ _ _,Fr.refl _ _⟩
 case round =>
  obtain ⟨ys,zs,HX⟩:=hrel
  have hmo:=more_any n fp zs wr HX.out.2.1
  have hyl:ys.length≤8:=by have:=HR.out.len;rw [HX.out.1,List.length_append] at this;omega
  cases zs with
  | nil =>
   have hri:=right_any n fp [] wr HX.out.2.1
   simp only [List.length_nil,Nat.lt_irrefl,decide_false,Bool.not_false] at hmo hri
   have hxy:ys=xs:=by rw [HX.out.1];simp
   have hrow:=HX.out.2.2.1
   rw [hxy] at hrow
   obtain ⟨g,cap,hv6⟩:=own_pos hrow (List.length_pos_iff.2 HR.out.ne)
   subst hv6
   have hia:=ints_at hrow
   have hrise:=rise_any g cap xs HR.out wr hia
   have hpo:=partsOf_any g cap 2 xs HR.out wr.drew hia
   rw [HL.out] at hpo
   have hzr:=H1.out.1.fr HX.out.2.2.2 (by simp;omega) (by simp;omega)
   have c1:=blk_cell hzr.blk 1
   simp at c1
   have H2:=toHid (show CoZ wr cp bT m c∧Fr [fp] w wr from ⟨hzr,H1.out.2.2.trans HX.out.2.2.2⟩)
   have hl2:=hzr.lts
   clear hrow hia hzr
   go_wp2_with fail
   refine hmo.mono ?_
   clear hmo
   rintro e w4 ⟨rfl,hw4⟩
   subst hw4
   go_wp2_with fail
   refine hri.mono ?_
   clear hri
   rintro e w5 ⟨rfl,hw5⟩
   subst hw5
   go_wp2_with fail
   refine hrise.mono ?_
   clear hrise
   rintro e w6 ⟨rfl,hw6⟩
   subst hw6
   go_wp2
   go_region_held3 (fun w'=>w'.cell? ⟨cp,1,none⟩=some (.map (some bT)))
    (simp [*])
    (first | (go_at_call 222;refine hpo.mono ?_;rintro e w7 ⟨rfl,hf7⟩;have z1:=(World.cell?_of_block (a:=⟨cp,1,none⟩) (hf7.block cp hl2.1 (by simp))).trans c1;have hz7:=(H2.out.1.fr (Fr.refl [] _).drew (by simp) (by simp)).fr hf7 (by simp) (by simp);obtain ⟨w8,hr8,hc8,hf8⟩:=HPUT.out w7 hz7;have y1:=(World.cell?_of_block (a:=⟨cp,1,none⟩) (hf8.block cp hz7.lts.1 (by simpa using hl2.2.2))).trans z1;have H8:=toHid (And.intro hc8 (And.intro hf7 hf8));clear hc8 hf7 hf8 hz7))
   go_wp2
   go_ret
   refine ⟨rfl,H8.out.1,?_⟩
   have k1:Fr [fp,bT] w w6:=H2.out.2.mono (fun k _ hk=>by simp at hk;simp [hk])
   have k2:Fr [fp,bT] w6 w7:=Fr.mono (⟨H8.out.2.1.os,H8.out.2.1.tape,H8.out.2.1.output,H8.out.2.1.size,H8.out.2.1.block⟩:Fr [] w6 w7) (by simp)
   have k3:Fr [fp,bT] w7 w8:=H8.out.2.2.mono (fun k _ hk=>by simp at hk;simp [hk])
   exact (k1.trans k2).trans k3
  | cons x zs =>
   have hpos:decide (0<(x :: zs).length)=true:=by simp
   rw [hpos] at hmo
   have hx8:=HR.out.b x (by rw [HX.out.1];simp)
   have hn8:=num8_any n fp (x :: zs) wr HX.out.2.1 (by simp)
   simp only [List.take_succ_cons,List.take_zero,List.drop_succ_cons,List.drop_zero] at hn8
   have ev:val [x]=x:=by simp [val]
   rw [ev] at hn8
   have HLEN:=toHid (show fldLen wr fp=(x :: zs).length from HX.out.2.1.fld.len)
   have jx:IntKind.i64.wrap (x:Int)=(x:Int):=by rw [IntKind.wrap_i64];omega
   clear hpos ev
   go_wp2_with fail
   refine hmo.mono ?_
   clear hmo
   rintro e w4 ⟨rfl,hw4⟩
   subst hw4
   go_wp2_with fail
   refine hn8.mono ?_
   clear hn8
   rintro e w5 ⟨rfl,hf5,hfr5⟩
   have ho5:=ownsRow_fr HX.out.2.2.1 hfr5 (fun g hg=>by have:=(HX.out.2.2.1.lt g hg).1;simp;omega)
   have hsz:=HX.out.2.2.2.size
   have hsz5:=hfr5.size
   have H5:=toHid (show FldAt n w5 fp zs∧Fr [fp] w2 w5 from ⟨hf5,HX.out.2.2.2.trans hfr5⟩)
   clear hf5 hfr5
   go_wp2_with (at_builtin;refine wpList_append_own _ rfl _ _ 26 rfl w2.heap.size 3 ii (.int .i64 0) 1 8 Tryz.underlying26 hi hz0 hz1 hz2 rfl (by decide) _ ys.length (ints ys) rfl (ho5.alloc _) ⟨w5.heap.size,0,none⟩ 1 1 [.int .i64 (x:Int)] rfl rfl (cells_new _ #[.int .i64 (x:Int)] _) (by intro u hu;simp at hu;subst hu;rfl) (by unfold maxLen;omega) (by omega) (by simp;omega) ?_)
   intro v' w6 hown' hgrow _
   have fro:=Fr.of_grown hgrow
   have hfa:Fr [] w5 (w5.alloc (.cells #[.int .i64 (x:Int)] 3)):=(Fr.refl [] w5).alloc _
   have hfld6:FldAt n w6 fp zs:=(H5.out.1.apart hfa (by simp)).apart fro (fun k hk=>by
    simp at hk
    obtain ⟨cc,hc⟩:=own_cells (ho5.alloc _) hk
    refine ⟨fun e=>?_,fun c2 fr e=>by rw [hc] at e;cases e⟩
    have:=(ho5.lt k hk).1
    omega)
   have hfr6:Fr [fp] w2 w6:=((H5.out.2).andThen (hfa.mono (T:=[fp]) (by simp)) (fun j hj _=>hj)).andThen fro (fun j hj hl=>by
    simp at hj
    have:=(ho5.lt j hj).1
    omega)
   have H6:=toHid (show xs=(ys++[x])++zs∧FldAt n w6 fp zs∧w6.ownsRow w2.heap.size 3 1 v' (ys++[x]).length (ints (ys++[x]))∧Fr [fp] w2 w6 from ⟨by rw [HX.out.1];simp,hfld6,by rw [ints_snoc,List.length_append];exact hown',hfr6⟩)
   clear hown' hgrow fro hfa hfld6 hfr6 ho5
   go_wp2
   go_roundw
   case rel=>exact ⟨ys++[x],zs,H6.out⟩
   case measure=>rw [H6.out.2.1.fld.len,HLEN.out];simp
end Go.Proofs.YtejiankgafjppaaGreatDoor
namespace Go.Proofs.YtejiankgafjppaaGreatDoor
open Go.RowKit
open Sc
def rb (S:Nat→ByteArray) (j:Nat):List Nat:=recBytes j j (bytesOf (S j))
def recs (S:Nat→ByteArray) (j:Nat):List Rec:=(List.range j).map fun q=>⟨q,q,bytesOf (S q)⟩
end Go.Proofs.YtejiankgafjppaaGreatDoor
namespace Go.Proofs.YtejiankgafjppaaGreatDoor
open Go.RowKit Go.Maps
open Sc
def encR (rs:List Rec):List Nat:=rs.flatMap fun r=>recBytes r.lsn r.kind r.pay
def FineR (rs:List Rec):Prop:=∀ (k:Nat) (r:Rec),rs[k]?=some r→r.lsn=1+k∧r.kind<256∧r.pay.length≤255∧Byt r.pay∧r.lsn<18446744073709551616
theorem encR_snoc (rs:List Rec) (r:Rec):encR (rs++[r])=encR rs++recBytes r.lsn r.kind r.pay:=by simp [encR]
def SoleD (d:ADisk) (t:ByteArray):Prop:=∀ k,d.now k=if k=segName 1 then some t else none
theorem writesE {d:ADisk} {c:Nat} (h:d.Well c) (hc:c<1099511627776):d.writes=({ d with left:=d.left - 1,full:=d.full - 1 },0):=by
 have h1:=h.left
 have h2:=h.full
 have e:=wr_ok (d:=d) (by rw [h.up];simp;omega) (by omega)
 have e1:wrap64 (d.left - 1)=d.left - 1:=by unfold wrap64;omega
 have e2:wrap64 (d.full - 1)=d.full - 1:=by unfold wrap64;omega
 rw [e1,e2] at e
 exact e
theorem syncE {d:ADisk} {c:Nat} (h:d.Well c) (hc:c<1099511627776):d.sync=({ d with left:=d.left - 1,full:=d.full - 1,durable:=d.pending.foldl doOp d.durable,pending:=[] },0):=by
 unfold ADisk.sync
 simp only [writesE h hc,if_true]
theorem str_app (a b:List Nat):str (a++b)=str a++str b:=by
 apply ByteArray.ext
 rw [ByteArray.data_append,str_data0,str_data0,str_data0]
 simp
theorem doOp_app (m:Files) (nm t:ByteArray):doOp m ⟨2,nm,ByteArray.empty,t⟩=m.set nm (some ((m nm).getD ByteArray.empty++t)):=rfl
structure One (l:ALog) (d:ADisk) (rs:List Rec):Prop where
 next:l.next=1+rs.length
 recs:l.recs=rs
 failed:l.failed=0
 file:(rs=[]∧l.segs=[]∧l.filled=600∧∀ k,d.now k=none)∨(rs≠[]∧l.segs=[1]∧l.filled=(encR rs).length∧SoleD d (str (encR rs)))
 dur:d.durable=d.now
 pen:d.pending=[]
 fine:FineR rs
 few:(encR rs).length<600
 durN:l.durable=l.next
 well:d.Well 0
theorem well_dec {d:ADisk} {c:Nat} (h:d.Well c) (f g:Files) (p:List AOp):ADisk.Well ⟨f,g,p,d.left - 1,d.full - 1,d.down⟩ (c+1):=⟨h.up,by have:=h.left;simp;omega,by have:=h.full;simp;omega⟩
theorem opensE {d:ADisk} (l:ALog) (h:d.Well 0):l.opens d=({ l with durable:=l.next },{ d with left:=d.left - 1 - 1,full:=d.full - 1 - 1,durable:=d.pending.foldl doOp d.durable,pending:=[] },0):=by
 have es:l.sync d=({ l with durable:=l.next },{ d with left:=d.left - 1,full:=d.full - 1,durable:=d.pending.foldl doOp d.durable,pending:=[] },0):=by
  unfold ALog.sync;rw [syncE h (by omega)];rfl
 unfold ALog.opens
 rw [es]
 simp only [if_true]
 have w1:ADisk.Well { d with left:=d.left - 1,full:=d.full - 1,durable:=d.pending.foldl doOp d.durable,pending:=[] } 1:=well_dec h _ _ _
 unfold ADisk.removeAll
 rw [syncE w1 (by omega)]
 rfl
theorem One.first {d:ADisk} (hno:∀ k,d.now k=none) (hdu:d.durable=d.now) (hpe:d.pending=[]) (hw:d.Well 0):((log0 1).opens d).2.2=0∧((log0 1).opens d).2.1.down=false∧((log0 1).opens d).1.recs=[]∧((log0 1).opens d).1.next=1∧One ((log0 1).opens d).1 (((log0 1).opens d).2.1.knob (-1) (-1)) []:=by
 rw [opensE _ hw]
 refine ⟨rfl,hw.up,rfl,rfl,{ next:=rfl,recs:=rfl,failed:=rfl,file:=.inl ⟨rfl,rfl,rfl,hno⟩,dur:=?_,pen:=rfl,fine:=fun k r hk=>by simp at hk,few:=by decide,durN:=rfl,well:=⟨hw.up,by simp [ADisk.knob],by simp [ADisk.knob]⟩ }⟩
 show d.pending.foldl doOp d.durable=d.now
 rw [hpe,hdu];rfl
end Go.Proofs.YtejiankgafjppaaGreatDoor
namespace Go.Proofs.YtejiankgafjppaaGreatDoor
open Go.RowKit Go.Shelf Go.Maps
open Sc
set_option maxHeartbeats 2000000 in
theorem cread_res (n cp bT m fp M:Nat) (c:ACo) (w:World) (h:CoZ w cp bT m c) (hf:FldAt n w fp (be 8 M)) (hM:M<18446744073709551616) (hle:c.limit≤M) (hlow:cp<n∧bT<n) :
  Calls Tryz.prog 175 #[.pointer (some ⟨cp,0,none⟩),.int .u8 1,.pointer (some ⟨fp,0,none⟩)] w fun e w'=>e=.returned (.bool true)∧CoZ w' cp bT m { c with limit:=M }∧Fr [fp,cp,bT] w w':=by
 have hc:=readRes_any n cp bT m fp M c w h hf hM hle hlow
 clear h hf
 go_enter Tryz.func175,Tryz.ntmps175
 go_wp2_with fail
 refine hc.mono ?_
 clear hc
 rintro e w1 ⟨rfl,hin,hfr⟩
 have H1:=toHid (show CoZ w1 cp bT m { c with limit:=M }∧Fr [fp,cp,bT] w w1 from ⟨hin,hfr.mono (fun k _ hk=>by simp at hk;rcases hk with e | e <;> simp [e])⟩)
 clear hin hfr
 go_wp2
 go_ret
 exact ⟨rfl,H1.out⟩
set_option maxHeartbeats 2000000 in
theorem cread_com (n cp bT m fp t:Nat) (xs:List Nat) (c:ACo) (w:World) (h:CoZ w cp bT m c) (hf:FldAt n w fp (be 8 t++xs)) (ht:t<18446744073709551616) (h0:t≠0) (hlt:t<c.limit) (hst:(c.tx t).state=0) (hr:Rising xs) (hm:m+1<maxLen) (hlow:cp<n∧bT<n) :
  Calls Tryz.prog 175 #[.pointer (some ⟨cp,0,none⟩),.int .u8 2,.pointer (some ⟨fp,0,none⟩)] w fun e w'=>e=.returned (.bool true)∧CoZ w' cp bT (m+1) { c with txns:=alPut c.txns t ⟨6,partsL xs 2,0⟩ }∧Fr [fp,cp,bT] w w':=by
 have hc:=readCom_any n cp bT m fp t xs c w h hf ht h0 hlt hst hr hm hlow
 clear h hf
 go_enter Tryz.func175,Tryz.ntmps175
 go_wp2_with fail
 refine hc.mono ?_
 clear hc
 rintro e w1 ⟨rfl,hin,hfr⟩
 have H1:=toHid (show CoZ w1 cp bT (m+1) { c with txns:=alPut c.txns t ⟨6,partsL xs 2,0⟩ }∧Fr [fp,cp,bT] w w1 from ⟨hin,hfr.mono (fun k _ hk=>by simp at hk;rcases hk with e | e <;> simp [e])⟩)
 clear hin hfr
 go_wp2
 go_ret
 exact ⟨rfl,H1.out⟩
abbrev eR:Rec:=⟨1,1,be 8 17⟩
abbrev eC (ys:List Nat):Rec:=⟨2,2,be 8 1++ys⟩
def cst (ys:List Nat) (k:Nat):ACo:=if k=0 then ⟨[],0,1,0,[],[]⟩ else if k=1 then ⟨[],0,17,0,[],[]⟩ else ⟨[(1,⟨6,partsL ys 2,0⟩)],0,17,0,[],[]⟩
inductive Ents (ys:List Nat):List Rec→Prop
 | none:Ents ys []
 | res:Ents ys [eR]
 | com (h:Rising ys):Ents ys [eR,eC ys]
theorem Ents.len {ys:List Nat} {rs:List Rec} (h:Ents ys rs):rs.length≤2:=by cases h <;> simp
theorem cread_ent (ys:List Nat) (rs pre:List Rec) (x:Rec) (n cp bT fp:Nat) (A:World) (he:Ents ys rs) (hp:pre++[x] <+: rs) (h:CoZ A cp bT pre.length (cst ys pre.length)) (hlow:cp<n∧bT<n) (hf:FldAt n A fp x.pay) :
  Calls Tryz.prog 175 #[.pointer (some ⟨cp,0,none⟩),.int .u8 (x.kind:Int),.pointer (some ⟨fp,0,none⟩)] A fun e w'=>e=.returned (.bool true)∧CoZ w' cp bT (pre++[x]).length (cst ys (pre++[x]).length)∧Fr [fp,cp,bT] A w':=by
 have hlen:=hp.length_le
 have hl2:=he.len
 rw [List.length_append,List.length_singleton] at hlen
 have hx:rs[pre.length]?=some x:=by
  obtain ⟨r,hr⟩:=hp
  rw [← hr]
  simp
 cases he with
 | none=>simp at hlen
 | res =>
  have h0:pre.length=0:=by have:([eR]:List Rec).length=1:=rfl;omega
  rw [h0] at hx h
  simp at hx
  subst hx
  refine (cread_res n cp bT 0 fp 17 _ A h hf (by decide) (show (1:Nat)≤17 by decide) hlow).mono ?_
  rintro e w' ⟨rfl,h1,h2⟩
  refine ⟨rfl,?_,h2⟩
  rw [List.length_append,h0]
  exact ⟨h1.blk,h1.txns.mono (by omega),h1.nums,h1.emp⟩
 | com hr =>
  have h01:pre.length=0∨pre.length=1:=by have:([eR,eC ys]:List Rec).length=2:=rfl;omega
  rcases h01 with h0 | h0
  ·rw [h0] at hx h
   simp at hx
   subst hx
   refine (cread_res n cp bT 0 fp 17 _ A h hf (by decide) (show (1:Nat)≤17 by decide) hlow).mono ?_
   rintro e w' ⟨rfl,h1,h2⟩
   refine ⟨rfl,?_,h2⟩
   rw [List.length_append,h0]
   exact ⟨h1.blk,h1.txns.mono (by omega),h1.nums,h1.emp⟩
  ·rw [h0] at hx h
   simp at hx
   subst hx
   refine (cread_com n cp bT 1 fp 1 ys _ A h hf (by decide) (by decide) (show (1:Nat)<17 by decide) rfl hr (by decide) hlow).mono ?_
   rintro e w' ⟨rfl,h1,h2⟩
   refine ⟨rfl,?_,h2⟩
   rw [List.length_append,h0]
   exact h1
def CoPost (ys:List Nat) (B p bD bN n:Nat) (R:ALog × ADisk × Nat) (w:World) (e:Ending) (w':World):Prop :=
 ∃ cp gp bT lp,e=.returned (.tuple #[.pointer (some ⟨cp,0,none⟩),.nilIface])∧CL w' B cp gp bT R.1.recs.length lp p bD bN n { cst ys R.1.recs.length with next:=(cst ys R.1.recs.length).limit } R.1 R.2.1∧(w.heap.size≤cp∧w.heap.size≤bT)∧SDFr p [] w w'
structure CoPre (ys:List Nat) (B p bD bN n:Nat) (R:ALog × ADisk × Nat) (w:World):Prop where
 disk:∃ pv d nD nN,DiskIn w B p bD bN pv d n nD nN
 jop:∀ W,Fr [] w W→Calls Tryz.prog 109 #[dskV p] W (OpenPost B p bD bN n R W)
 plain:PlainR R.1.recs
 first:firstN R.1.recs R.1.next=1
 byt:∀ r∈R.1.recs,Byt r.pay∧r.pay.length≤4096
 ents:Ents ys R.1.recs
 num:n≤67108864
theorem cst_nums (ys:List Nat) (k:Nat):(cst ys k).next<18446744073709551616∧(cst ys k).limit<18446744073709551616∧(cst ys k).ticks<18446744073709551616:=by
 unfold cst
 split
 ·decide
 ·split <;> exact ⟨show (0:Nat)<_ by decide,show (17:Nat)<_ by decide,show (0:Nat)<_ by decide⟩
set_option maxRecDepth 100000 in
set_option maxHeartbeats 4000000 in
theorem coOpen_any (ys:List Nat) (B p bD bN n:Nat) (R:ALog × ADisk × Nat) (w:World) (h:CoPre ys B p bD bN n R w) :
  Calls Tryz.prog 111 #[dskV p] w (CoPost ys B p bD bN n R w):=by
 have hmm:=@run_makeMap Tryz.prog
 obtain ⟨pv,d,nD,nN,hd⟩:=h.disk
 have hbase:=hd.base
 have hnl:=hd.now.lt
 have hdl:=hd.dur.lt
 obtain ⟨W,hW⟩:∃ W,W=(w.alloc (.map #[] 0)).alloc (coO 0 w.heap.size ⟨[],0,1,0,[],[]⟩ (.slice none 0 0) (.slice none 0 0)):=⟨_,rfl⟩
 have hfr:Fr [] w W:=by rw [hW];exact ((Fr.refl [] w).alloc _).alloc _
 have hsz:W.heap.size=w.heap.size+2:=by rw [hW];simp
 have hb0:W.heap[w.heap.size+1]?=some (coO 0 w.heap.size ⟨[],0,1,0,[],[]⟩ (.slice none 0 0) (.slice none 0 0)):=by
  rw [hW];have:=heap_alloc_new (w.alloc (.map #[] 0)) (coO 0 w.heap.size ⟨[],0,1,0,[],[]⟩ (.slice none 0 0) (.slice none 0 0));rwa [World.size_alloc] at this
 have hin:CoZ W (w.heap.size+1) w.heap.size 0 (cst ys 0):=by
  refine ⟨hb0,?_,cst_nums ys 0,⟨rfl,rfl⟩⟩
  rw [hW];exact (MapAs.made (KR:=KU) (ER:=EX) w).fr ((Fr.refl [] _).alloc _) (by simp)
 have hlo:=cled_open B p bD bN n (w.heap.size+1) w.heap.size R (fun pre A=>CoZ A (w.heap.size+1) w.heap.size pre.length (cst ys pre.length)) W hin (fun pre A A' hA _ hb=>hA.keep hb) ⟨_,hb0⟩ hin.txns.isMap ⟨_,_,_,_,hd.new hfr⟩ ⟨by omega,by omega⟩
  (fun W' hW'=>h.jop W' (hfr.trans hW')) h.plain h.first h.byt (fun pre x n' fp A hp hA h1 h2 hfa=>cread_ent ys R.1.recs pre x n' _ _ fp A h.ents hp hA ⟨h1,h2⟩ hfa) h.num
 have HF:=toHid (show Fr [] w W∧DiskIn w B p bD bN pv d n nD nN from ⟨hfr,hd⟩)
 clear h hfr hd hin hb0
 go_enter Tryz.func111,Tryz.ntmps111
 go_wp2_with fail
 have hW2:W=(w.alloc (.map #[] 0)).alloc (.cells #[.pointer none,.map (some w.heap.size),.int .u64 0,.int .u64 1,.int .u64 0,.slice none 0 0,.slice none 0 0] 226):=hW
 rw [← hW2]
 clear hW hW2
 refine hlo.mono ?_
 clear hlo
 rintro e w1 ⟨gp,lp,rfl,hin1,⟨pv1,sv1,rv1,nD1,nN1,hl1⟩,hg1,hgp,hsd1⟩
 have c0:=blk_cell hin1.blk 0
 have c2:=blk_cell hin1.blk 2
 have c3:=blk_cell hin1.blk 3
 have f0:=blk_free hin1.blk 0
 have f2:=blk_free hin1.blk 2
 simp at c0 c2 c3
 obtain ⟨K,hK⟩:∃ K,K=cst ys R.1.recs.length:=⟨_,rfl⟩
 have hnums:=cst_nums ys R.1.recs.length
 have HK:=toHid hK
 rw [← hK] at hin1 c2 c3 hnums
 clear hK
 obtain ⟨W2,hW2⟩:∃ W2,W2=(w1.setCell ⟨w.heap.size+1,0,none⟩ (.pointer (some ⟨gp,0,none⟩))).setCell ⟨w.heap.size+1,2,none⟩ (.int .u64 (K.limit:Int)):=⟨_,rfl⟩
 have hf2:Fr [w.heap.size+1] w1 W2:=by rw [hW2];exact (Fr.set1 (by simp) _ _).trans (Fr.set1 (by simp) _ _)
 have hgp1:1≤gp:=by omega
 have hb2:W2.heap[w.heap.size+1]?=some (coO gp w.heap.size { K with next:=K.limit } (.slice none 0 0) (.slice none 0 0)):=by
  have:=blk_set (blk_set hin1.blk 0 (.pointer (some ⟨gp,0,none⟩))) 2 (.int .u64 (K.limit:Int))
  simp at this
  rw [hW2];unfold coO;rw [lgP_pos hgp1];exact this
 have HS:=toHid (show CL W2 B (w.heap.size+1) gp w.heap.size R.1.recs.length lp p bD bN n { K with next:=K.limit } R.1 R.2.1∧SDFr p [] w W2 from by
  refine ⟨⟨⟨⟨_,_,hb2,by show World.ownsRow _ _ _ _ _ K.res.length (resV K.res);rw [hin1.emp.1];exact World.ownsRow_nil _ _ _ _,by show World.ownsRow _ _ _ _ _ K.out.length (dueV K.out);rw [hin1.emp.2];exact World.ownsRow_nil _ _ _ _,by show Brd _ K.res.length _;rw [hin1.emp.1];exact Brd.nil _,by show Brd _ K.out.length _;rw [hin1.emp.2];exact Brd.nil _⟩,hin1.txns.fr hf2 (by simp),⟨by omega,by omega,by have:=hf2.size;have:=hsd1.size;omega⟩,⟨hnums.2.1,hnums.2.1,hnums.2.2⟩⟩,⟨pv1,sv1,rv1,nD1,nN1,hl1.apart hf2 (fun k hk _=>?_)⟩,(hf2.block gp (Array.getElem?_eq_some_iff.1 hg1).1 (by simp;omega)).trans hg1,⟨by omega,by omega⟩,hgp1⟩,?_⟩
  ·simp at hk
   subst hk
   exact ⟨hl1.free hin1.blk (by decide) (by decide) (by decide) (by decide) (by decide),fun t e=>by rw [hin1.blk] at e;cases e⟩
  ·have hf0:=HF.out.1
   have hd0:=HF.out.2
   refine ⟨hf2.os.trans (hsd1.os.trans hf0.os),hf2.tape.trans (hsd1.tape.trans hf0.tape),hf2.output.trans (hsd1.output.trans hf0.output),by have:=hf2.size;have:=hsd1.size;omega,fun k hk ho _=>?_⟩
   rw [hf2.block k (by have:=hsd1.size;omega) (by simp;omega),hsd1.block k (by omega) (fun ho'=>ho ((hd0.ownD k).2 (((hd0.new hf0).ownD k).1 ho'))) (by simp;omega),hf0.block k hk (by simp)])
 have d2:(w1.setCell ⟨w.heap.size+1,0,none⟩ (.pointer (some ⟨gp,0,none⟩))).cell? ⟨w.heap.size+1,2,none⟩=some (.int .u64 (K.next:Int)):=by
  have:=blk_cell (blk_set hin1.blk 0 (.pointer (some ⟨gp,0,none⟩))) 2
  simpa using this
 have d3:(w1.setCell ⟨w.heap.size+1,0,none⟩ (.pointer (some ⟨gp,0,none⟩))).cell? ⟨w.heap.size+1,3,none⟩=some (.int .u64 (K.limit:Int)):=by
  have:=blk_cell (blk_set hin1.blk 0 (.pointer (some ⟨gp,0,none⟩))) 3
  simpa using this
 have g2:(w1.setCell ⟨w.heap.size+1,0,none⟩ (.pointer (some ⟨gp,0,none⟩))).frozen? ⟨w.heap.size+1,2,none⟩=false:=blk_free (blk_set hin1.blk 0 (.pointer (some ⟨gp,0,none⟩))) 2
 clear hin1 hl1 hg1 hsd1 hf2 hb2 c2 c3 f2
 go_wp2
 rw [← hW2]
 go_ret2
 exact ⟨w.heap.size+1,gp,w.heap.size,lp,rfl,by rw [← HK.out];exact HS.out.1,⟨by omega,by omega⟩,HS.out.2⟩
set_option maxHeartbeats 1000000 in
theorem openCo_any (ys:List Nat) (B p bD bN n:Nat) (R:ALog × ADisk × Nat) (w:World) (h:CoPre ys B p bD bN n R w) :
  Calls Tryz.prog 50 #[dskV p] w (CoPost ys B p bD bN n R w):=by
 have HC:=toHid (coOpen_any ys B p bD bN n R w h)
 clear h
 go_enter Tryz.func50,Tryz.ntmps50
 go_wp2_with fail
 refine HC.out.mono ?_
 rintro e w1 ⟨cp,gp,bT,lp,rfl,h1⟩
 have H1:=toHid h1
 clear h1
 go_wp2
 go_ret2
 exact ⟨cp,gp,bT,lp,rfl,H1.out⟩
end Go.Proofs.YtejiankgafjppaaGreatDoor
namespace Go.Proofs.YtejiankgafjppaaGreatDoor
open Go.RowKit Go.Shelf
open Sc
def isBook:Obj→Bool
 | .loop ..=>true
 | .deferred ..=>true
 | _=>false
structure Bk (n:Nat) (A B:World):Prop where
 os:B.os=A.os
 tape:B.tape=A.tape
 output:B.output=A.output
 size:A.heap.size≤B.heap.size
 block:∀ (k:Nat) (o:Obj),A.heap[k]?=some o→(isBook o=false∨k<n)→B.heap[k]?=some o
theorem Bk.trans {n:Nat} {A B C:World} (h:Bk n A B) (k:Bk n B C):Bk n A C :=
 ⟨k.os.trans h.os,k.tape.trans h.tape,k.output.trans h.output,Nat.le_trans h.size k.size,fun i o hi ho=>k.block i o (h.block i o hi ho) ho⟩
theorem Bk.mono {n m:Nat} {A B:World} (h:Bk n A B) (hm:m≤n):Bk m A B :=
 ⟨h.os,h.tape,h.output,h.size,fun i o hi ho=>h.block i o hi (by rcases ho with e | e;exact .inl e;exact .inr (by omega))⟩
theorem Bk.fr {n:Nat} {A B:World} (h:Fr [] A B):Bk n A B :=
 ⟨h.os,h.tape,h.output,h.size,fun k o hk _=>(h.block k (Array.getElem?_eq_some_iff.1 hk).1 (by simp)).trans hk⟩
theorem Bk.put {n k:Nat} {A:World} {o:Obj} (h:A.heap[k]?=some o) (hb:isBook o=true) (hn:n≤k) (o':Obj):Bk n A (A.putObj k o') :=
 ⟨rfl,rfl,rfl,by simp,fun i x hi hx=>by
  by_cases e:i=k
  ·subst e
   rw [h] at hi
   cases hi
   rcases hx with e | e
   ·rw [hb] at e;cases e
   ·omega
  ·exact (World.putObj_heap_other e).trans hi⟩
def books (A:World):List Nat:=(List.range A.heap.size).filter fun k=>(A.heap[k]?.map isBook).getD false
theorem mem_books {A:World} {k:Nat} (h:k∈books A):∃ o,A.heap[k]?=some o∧isBook o=true:=by
 unfold books at h
 rw [List.mem_filter] at h
 obtain ⟨h1,h2⟩:=h
 rw [List.mem_range] at h1
 rw [Array.getElem?_eq_getElem h1] at h2 ⊢
 exact ⟨_,rfl,by simpa using h2⟩
theorem Bk.toFr {n:Nat} {A B:World} (h:Bk n A B):Fr (books A) A B :=
 ⟨h.os,h.tape,h.output,h.size,fun k hk hn=>by
  rw [Array.getElem?_eq_getElem hk]
  refine h.block k _ (Array.getElem?_eq_getElem hk) (.inl ?_)
  cases hb:isBook A.heap[k] with
  | false=>rfl
  | true=>exact absurd (by unfold books;rw [List.mem_filter,List.mem_range,Array.getElem?_eq_getElem hk];exact ⟨hk,by simpa using hb⟩) hn⟩
def freeC:Obj→Bool
 | .cells _ t _=>decide (t≠226∧t≠216∧t≠212)
 | .map ..=>false
 | _=>true
structure KpC (A B:World):Prop where
 size:A.heap.size≤B.heap.size
 same:∀ (k:Nat) (o:Obj),A.heap[k]?=some o→freeC o=true→B.heap[k]?=some o
theorem KpC.fr {A B:World} (h:Fr [] A B):KpC A B:=⟨h.size,fun k o hk _=>(h.block k (Array.getElem?_eq_some_iff.1 hk).1 (by simp)).trans hk⟩
theorem KpC.alloc (A:World) (o:Obj):KpC A (A.alloc o):=KpC.fr ((Fr.refl [] A).alloc o)
theorem CoIn.bk {n0:Nat} {w w':World} {B cp lg bT n:Nat} {c:ACo} (h:CoIn w B cp lg bT n c) (hb:Bk n0 w w'):CoIn w' B cp lg bT n c :=
 h.fr hb.toFr (fun k hk=>by
  obtain ⟨o,ho,hb⟩:=mem_books hk
  refine ⟨fun e=>?_,fun e=>?_,fun e=>?_⟩
  ·obtain ⟨cs,h1⟩:=h.isCo
   rw [e,h1] at ho;cases ho;cases hb
  ·obtain ⟨es,cc,h1⟩:=h.txns.isMap
   rw [e,h1] at ho;cases ho;cases hb
  ·obtain ⟨_,cc,t,h1,_⟩:=h.rdm e
   rw [h1] at ho;cases ho;cases hb)
theorem CoIn.rdSame {n0:Nat} {w w':World} {B cp lg bT n:Nat} {c:ACo} (h:CoIn w B cp lg bT n c) (hb:Bk n0 w w'):rd cp w'=rd cp w:=by
 obtain ⟨cs,h1⟩:=h.isCo
 exact rd_same ((hb.block cp _ h1 (.inl rfl)).trans h1.symm)
theorem RFr.bk {n0:Nat} {S:List Nat} {w0 w w':World} {B cp lg bT n:Nat} {c:ACo} (hf:RFr cp S w0 w) (h:CoIn w B cp lg bT n c) (hb:Bk n0 w w') (hn:w0.heap.size≤n0):RFr cp S w0 w' :=
 ⟨⟨hb.os.trans hf.fr.os,hb.tape.trans hf.fr.tape,hb.output.trans hf.fr.output,Nat.le_trans hf.fr.size hb.size,fun k hk hS=>by
  have hk2:k<w.heap.size:=Nat.lt_of_lt_of_le hk hf.fr.size
  have h1:=hb.block k _ (Array.getElem?_eq_getElem hk2) (.inr (by omega))
  rw [h1,← Array.getElem?_eq_getElem hk2]
  exact hf.fr.block k hk hS⟩,fun k hk hm=>hf.stay k hk (by rw [h.rdSame hb] at hm;exact hm)⟩
theorem RFr.kpc {S:List Nat} {w w':World} {B cp lg bT n:Nat} {c:ACo} (hf:RFr cp S w w') (h:CoIn w B cp lg bT n c) (hS:∀ k∈S,k=cp∨k=bT):KpC w w' :=
 ⟨hf.fr.size,fun k o hk ho=>(hf.block (Array.getElem?_eq_some_iff.1 hk).1 (fun e=>by
  rcases hS k e with e | e
  ·obtain ⟨cs,h1⟩:=h.isCo
   rw [e,h1] at hk;cases hk;simp [freeC] at ho
  ·obtain ⟨es,cc,h1⟩:=h.txns.isMap
   rw [e,h1] at hk;cases hk;simp [freeC] at ho) (fun e=>by
  obtain ⟨_,cc,t,h1,ht⟩:=h.rdm e
  rw [h1] at hk;cases hk
  rcases ht with rfl | rfl <;> simp [freeC] at ho)).trans hk⟩
def SeqC {α:Type} (F:Fence) (n:Nat) (P:Program) (gf:Nat) (lb:Array Value) (encs:α→Array Value) (rs:List α) (Inv:World→Prop) (l:Nat) (W:World):Prop :=
 ∀ J:List α→World→Prop,(∀ s A,J s A→Inv A)→(∀ s A B,J s A→W.heap.size≤A.heap.size→Bk W.heap.size A B→J s B) →
  (∀ pre x W1,J pre W1→W.heap.size≤W1.heap.size→pre++[x] <+: rs→YieldAt F (n - 1) P l (encs x) W1 fun e W'=>e=.returned (.bool true)∧J (pre++[x]) W'∧KpC W1 W') →
  J [] W→CallsIn F n P gf (#[.func (.yield l) #[] #[]]++lb) W fun e W'=>(∃ v,e=.returned v)∧J rs W'
section
variable {F:Fence} {n:Nat} {P:Program}
theorem wpIn_range_c {α:Type} {g:Operand} {ps:Array Tmp} {assign body:Code} {Q:Exit→Act→World→Prop} {a:Act} {w:World}
  (hro:F.round=none) (h1:1≤n) {gf:Nat} {lb:Array Value} (hg:a.eval g=.func (.func gf) #[] lb) (hFg:F.fn gf) (eg:∀ args w,(callFunc gf args).run P w=.ok (.enter gf args) w)
  {encs:α→Array Value} {rs:List α} {Inv:World→Prop} (hps:∀ x,(encs x).size=ps.size)
  (hseq:∀ W1,Fr [] w W1→W1.heap.size=w.heap.size+2→SeqC F (n - 1) P gf lb encs rs Inv (w.heap.size+1) W1)
  (I:List α→World→Prop) (hI0:I [] w) (hInv:∀ s A,I s A→Inv A) (hIb:∀ s A B,I s A→w.heap.size≤A.heap.size→Bk w.heap.size A B→I s B)
  (Ax:α→Act→World→Prop) (hAx:∀ x a' A r,Ax x a' A→Ax x a' (A.putObj (w.heap.size+1) (.loop r)))
  (hassign:∀ (pre:List α) (x:α) (W:World) (K:Act→World→Prop),I pre W→w.heap.size+2≤W.heap.size→pre++[x] <+: rs→(∀ a' W',Bk w.heap.size W W'→KpC W W'→Ax x a' W'→K a' W') →
   assign.wpIn (F.inRound (w.heap.size+1)) (n - 1 - 1) P (Exit.then K (fun _ _ _=>False)) { tmps:=(ps.zip (encs x)).foldl (fun t (p,v)=>t.setIfInBounds p v) a.tmps,defers:=[] } W)
  (hbody:∀ (pre:List α) (x:α) (a':Act) (W:World),I pre W→w.heap.size+2≤W.heap.size→Ax x a' W→pre++[x] <+: rs→body.wpIn (F.inRound (w.heap.size+1)) (n - 1 - 1) P (fun e _ W'=>e=.normal∧I (pre++[x]) W'∧KpC W W') a' W)
  (hdone:∀ (W:World),I rs W→w.heap.size+2≤W.heap.size→W.heap[w.heap.size]?=some (.deferred (some []))→Q .normal { a with defers:={ target:=.collected w.heap.size,args:=#[] } :: a.defers } W) :
  (Code.rangeFunc g ps assign body).wpIn F n P Q a w:=by
 refine wpIn_rangeFunc fun fn hfn=>?_
 rw [hro]
 obtain ⟨L,hL⟩:∃ L:LoopState→Loop,L=fun st=>{ state:=st,pending:=none,fn,tmps:=a.tmps,params:=ps,assign,body,defers:=w.heap.size }:=⟨_,rfl⟩
 obtain ⟨W1,hW1⟩:∃ W1,W1=(w.alloc (.deferred (some []))).alloc (.loop (L .ready)):=⟨_,rfl⟩
 have hb1:Fr [] w W1:=by rw [hW1];exact ((Fr.refl [] w).alloc _).alloc _
 have hs1:W1.heap.size=w.heap.size+2:=by rw [hW1];simp
 have hl1:W1.heap[w.heap.size+1]?=some (.loop (L .ready)):=by
  rw [hW1];have:=World.alloc_heap_new (w.alloc (.deferred (some []))) (.loop (L .ready));rwa [World.size_alloc] at this
 have hd1:W1.heap[w.heap.size]?=some (.deferred (some [])):=by
  rw [hW1];exact (Below.heap_alloc _ _ _ (by simp)).trans (World.alloc_heap_new w _)
 refine ⟨w.heap.size+1,[{ target:=.collected w.heap.size,args:=#[] }],W1,{ target:=.fn (.func gf) lb,args:=#[.func (.yield (w.heap.size+1)) #[] #[]] },W1,gf,#[.func (.yield (w.heap.size+1)) #[] #[]]++lb,W1,?_,?_,?_,?_,fun _=>h1,?_⟩
 ·rw [hW1,hL];exact run_enterLoop_outer _ _ _ _ _
 ·simp only [resolve,hg];simp [go_sem]
 ·intro f' hf';simp [Target.leads] at hf';subst hf';exact hFg
 ·simp [invoke,go_sem,eg]
 refine (hseq W1 hb1 hs1 (fun s A=>I s A∧A.heap[w.heap.size+1]?=some (.loop (L .ready))∧A.heap[w.heap.size]?=some (.deferred (some []))∧w.heap.size+2≤A.heap.size) (fun s A hs=>hInv s A hs.1) ?_ ?_ ⟨hIb _ _ _ hI0 (Nat.le_refl _) (Bk.fr hb1),hl1,hd1,by omega⟩).mono ?_
 ·rintro s A B ⟨i1,i2,i3,i4⟩ _ hb
  rw [hs1] at hb
  exact ⟨hIb s A B i1 (by omega) (hb.mono (by omega)),hb.block _ _ i2 (.inr (by omega)),hb.block _ _ i3 (.inr (by omega)),Nat.le_trans i4 hb.size⟩
 ·rintro pre x W ⟨i1,i2,i3,i4⟩ _ hpre
  have hy:=run_yield (P:=P) (args:=encs x) i2 (by rw [hL];exact hps x)
  rw [hL] at hy
  refine ⟨fn,_,assign,body,hy,roundIn_of_wpIn hfn (hassign pre x W _ i1 i4 hpre fun a' Wa ba ka xa=>?_)⟩
  have la:Wa.heap[w.heap.size+1]?=some (.loop (L .ready)):=ka.same _ _ i2 rfl
  have da:Wa.heap[w.heap.size]?=some (.deferred (some [])):=ka.same _ _ i3 rfl
  have lta:w.heap.size+1<Wa.heap.size:=(Array.getElem?_eq_some_iff.1 la).1
  obtain ⟨Wb,hWb⟩:∃ Wb,Wb=Wa.putObj (w.heap.size+1) (.loop (L .busy)):=⟨_,rfl⟩
  have bb:Bk w.heap.size Wa Wb:=by rw [hWb];exact Bk.put la rfl (by omega) _
  have lb':Wb.heap[w.heap.size+1]?=some (.loop (L .busy)):=by rw [hWb];exact World.putObj_heap_same lta
  have sb:Wb.heap.size=Wa.heap.size:=by rw [hWb];simp
  refine ⟨Wb,by rw [hWb];have:=run_beginRound (P:=P) la (by rw [hL]);rw [hL] at this ⊢;exact this,?_⟩
  refine wpIn_mono (hbody pre x a' Wb (hIb _ _ _ i1 (by omega) (ba.trans bb)) (by rw [sb];omega) (by rw [hWb];exact hAx _ _ _ _ xa) hpre) ?_
  rintro e a3 W3 ⟨rfl,i3',k3⟩
  have l3:W3.heap[w.heap.size+1]?=some (.loop (L .busy)):=k3.same _ _ lb' rfl
  have lt3:w.heap.size+1<W3.heap.size:=(Array.getElem?_eq_some_iff.1 l3).1
  have d3:W3.heap[w.heap.size]?=some (.deferred (some [])):=k3.same _ _ (by rw [hWb];exact (World.putObj_heap_other (by omega)).trans da) rfl
  have hend:=run_endRound (P:=P) none l3
  refine ⟨_,_,hend,rfl,⟨hIb _ _ _ i3' (by omega) (Bk.put l3 rfl (by omega) _),?_,(World.putObj_heap_other (by omega)).trans d3,by rw [size_put0];omega⟩,?_,?_⟩
  ·rw [World.putObj_heap_same lt3,hL];rfl
  ·rw [size_put0];have:=ka.size;have:=k3.size;omega
  ·intro k o hk ho
   by_cases e:k=w.heap.size+1
   ·subst e
    rw [i2] at hk
    cases hk
    rw [World.putObj_heap_same lt3,hL];rfl
   ·rw [World.putObj_heap_other e]
    refine k3.same k o ?_ ho
    rw [hWb,World.putObj_heap_other e]
    exact ka.same k o hk ho
 ·rintro e W2 ⟨⟨v,rfl⟩,i1,i2,i3,i4⟩
  have hend:=run_endLoop (P:=P) i2 (by rw [hL];simp)
  have hp:(L .ready).pending=none:=by rw [hL]
  rw [hp] at hend
  refine ⟨none,_,hend,?_⟩
  exact hdone _ (hIb _ _ _ i1 (by omega) (Bk.put i2 rfl (by omega) _)) (by rw [size_put0];exact i4) ((World.putObj_heap_other (by omega)).trans i3)
end
end Go.Proofs.YtejiankgafjppaaGreatDoor
