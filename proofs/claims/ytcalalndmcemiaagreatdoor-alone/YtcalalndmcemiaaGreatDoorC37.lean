import Derived.Test.YtcalalndmcemiaaGreatDoorC36
import Derived.Test.YtcalalndmcemiaaGreatDoorC32
set_option maxRecDepth 100000
set_option maxHeartbeats 16000000
namespace Go.Proofs.YtcalalndmcemiaaGreatDoor
open Go.RowKit Go.Maps Go.Shelf
open Sc
structure CoZ (w:World) (cp bT n:Nat) (c:ACo):Prop where
 blk:w.heap[cp]?=some (coO 0 bT c (.slice none 0 0) (.slice none 0 0))
 txns:MapAs KU EX w bT n c.txns
 nums:c.next<18446744073709551616∧c.limit<18446744073709551616∧c.ticks<18446744073709551616
 emp:c.res=[]∧c.out=[]
section
variable {w w':World} {B cp bT n:Nat} {c:ACo}
theorem CoZ.co (h:CoZ w cp bT n c) (hl:B≤cp∧B≤bT∧B≤w.heap.size):CoIn w B cp 0 bT n c :=
 ⟨⟨_,_,h.blk,by rw [h.emp.1];exact World.ownsRow_nil _ _ _ _,by rw [h.emp.2];exact World.ownsRow_nil _ _ _ _,by rw [h.emp.1];exact Brd.nil _,by rw [h.emp.2];exact Brd.nil _⟩,h.txns,hl,h.nums⟩
theorem CoZ.keep (h:CoZ w cp bT n c) (hb:∀ k∈[cp,bT],w'.heap[k]?=w.heap[k]?):CoZ w' cp bT n c:=by
 obtain ⟨es,⟨es',c2,h1,h2⟩,r⟩:=h.txns
 exact ⟨(hb cp sE).trans h.blk,⟨es,⟨es',c2,(hb bT sE).trans h1,h2⟩,r⟩,h.nums,h.emp⟩
theorem CoZ.lts (h:CoZ w cp bT n c):cp<w.heap.size∧bT<w.heap.size∧cp≠bT:=by
 refine ⟨(Array.getElem?_eq_some_iff.1 h.blk).1,h.txns.lt,λe=>?_⟩
 obtain ⟨es,c2,e2⟩:=h.txns.isMap
 have:=h.blk
 rw [e,e2] at this;cases this
theorem CoZ.fr {S:List Nat} (h:CoZ w cp bT n c) (hf:Fr S w w') (h1:cp∉S) (h2:bT∉S):CoZ w' cp bT n c :=
 h.keep (λk hk=>by
  simp at hk
  rcases hk with rfl | rfl
  ·exact hf.block _ h.lts.1 h1
  ·exact hf.block _ h.lts.2.1 h2)
end
theorem jLt (n cp bT m fp M:Nat) (c:ACo) (w:World) (h:CoZ w cp bT m c) (hf:FldAt n w fp (be 8 M)) (hM:M<18446744073709551616) (hle:c.limit≤M) (hlow:cp<n∧bT<n) :
  Calls Tryz.prog 174 #[.pointer (some ⟨cp,0,none⟩),.pointer (some ⟨fp,0,none⟩)] w λe w'=>e=.returned (.bool true)∧CoZ w' cp bT m { c with limit:=M }∧Fr [fp,cp] w w':=by
 have hnum:=jDv n fp (be 8 M) w hf (Nat.le_of_eq (jB3 8 M).symm)
 have e1:val ((be 8 M).take 8)=M:=by rw [List.take_of_length_le (Nat.le_of_eq (jB3 8 M))];exact jH6 8 M (by simpa using hM)
 have e2:(be 8 M).drop 8=[]:=List.drop_of_length_le (Nat.le_of_eq (jB3 8 M))
 rw [e1,e2] at hnum
 have c3:=jA0 h.blk 3
 simp at c3
 have hfl:=hf.low
 have H0:=jA1 h
 have i1:(c.limit:Int)≤(M:Int):=by omega
 clear e1 e2 h hf
 go_enter Tryz.func174,Tryz.ntmps174
 go_wp2_with fail
 refine hnum.mono ?_
 clear hnum
 rintro e w1 ⟨rfl,hf1,hfr1⟩
 have hz1:=H0.out.fr hfr1 (by simp;omega) (by simp;omega)
 have d3:=jA0 hz1.blk 3
 have g3:=jA2 hz1.blk 3
 simp at d3
 obtain ⟨W2,hW2⟩:∃ W2,W2=w1.setCell ⟨cp,3,none⟩ (.int .u64 (M:Int)):=⟨_,rfl⟩
 have hf2:Fr [cp] w1 W2:=by rw [hW2];exact Fr.set1 sE _ _
 have b2:W2.heap[cp]?=some (coO 0 bT { c with limit:=M } (.slice none 0 0) (.slice none 0 0)):=by
  rw [hW2]
  have:=jA5 hz1.blk 3 (.int .u64 (M:Int))
  simpa using this
 have hz2:CoZ W2 cp bT m { c with limit:=M }:=⟨b2,hz1.txns.fr hf2 (by simpa using λe=>hz1.lts.2.2 e.symm),⟨hz1.nums.1,hM,hz1.nums.2.2⟩,hz1.emp⟩
 have hfa2:=hf1.fr hf2 (by simp;omega)
 have hri:=jDc n fp [] W2 hfa2
 simp only [List.length_nil,Nat.lt_irrefl,decide_false,Bool.not_false] at hri
 have k3:=jA0 b2 3
 simp at k3
 have H2:=jA1 (show CoZ W2 cp bT m { c with limit:=M }∧Fr [fp,cp] w W2 from ⟨hz2,(hfr1.mono (λk _ hk=>by simp at hk;simp [hk])).trans (hf2.mono (λk _ hk=>by simp at hk;simp [hk]))⟩)
 clear hz1 hf2 b2 hz2 hfa2 hf1 hfr1
 go_wp2_with fail
 rw [← hW2]
 clear hW2 d3 g3 c3
 refine hri.mono ?_
 clear hri
 rintro e w3 ⟨rfl,rfl⟩
 go_wp2
 go_ret
 exact ⟨rfl,H2.out⟩
def ints (l:List Nat):List Value:=l.map λx:Nat=>.int .i64 (x:Int)
theorem jPe (l:List Nat) (x:Nat):ints (l++[x])=ints l++[.int .i64 (x:Int)]:=by simp [ints]
theorem jW7 {w:World} {B g cap n:Nat} {l:List Nat} (h:w.ownsRow B 3 1 (.slice (some ⟨g,0,none⟩) n cap) n (ints l)):jH3 w g l:=λk x hk=>by
 have h1:(ints l)[k]?=some (.int .i64 (x:Int)):=by simp [ints,hk]
 have:=h.cells (g:=g) rfl k _ h1
 simpa [Addr.add_lit] using this
theorem jLk (n cp bT m fp t:Nat) (xs:List Nat) (c:ACo) (w:World) (h:CoZ w cp bT m c) (hf:FldAt n w fp (be 8 t++xs)) (ht:t<18446744073709551616) (h0:t≠0) (hlt:t<c.limit) (hst:(c.tx t).state=0) (hr:Rising xs) (hm:m+1<maxLen) (hlow:cp<n∧bT<n) :
  Calls Tryz.prog 175 #[.pointer (some ⟨cp,0,none⟩),.pointer (some ⟨fp,0,none⟩)] w λe w'=>e=.returned (.bool true)∧CoZ w' cp bT (m+1) { c with txns:=jAb c.txns t ⟨6,jA9 xs 2,0⟩ }∧Fr [fp,bT] w w':=by
 have hnum:=jDv n fp (be 8 t++xs) w hf (by simp [jB3])
 have e1:val ((be 8 t++xs).take 8)=t:=by rw [List.take_left' (by rw [jB3])];exact jH6 8 t (by simpa using ht)
 have e2:(be 8 t++xs).drop 8=xs:=List.drop_left' (by rw [jB3])
 rw [e1,e2] at hnum
 have hfl:=hf.low
 have i0:¬ (t:Int)=0:=by omega
 have j0:((t:Int) == 0)=false:=beq_eq_false_iff_ne.2 i0
 have i1:¬ (c.limit:Int)≤(t:Int):=by omega
 obtain ⟨q0,q1,q2,q3,q4,q5,q6,q7,q8,hq⟩:=nine (jDk xs 2)
 have hlit:psV (jA9 xs 2)=.agg #[.int .u8 (q0:Int),.int .u8 (q1:Int),.int .u8 (q2:Int),.int .u8 (q3:Int),.int .u8 (q4:Int),.int .u8 (q5:Int),.int .u8 (q6:Int),.int .u8 (q7:Int),.int .u8 (q8:Int)]:=by rw [hq];rfl
 have HPUT:=jA1 (λ(W:World) (h2:CoZ W cp bT m c)=>(by
  obtain ⟨w5,hr5,hm5,hg5⟩:=h2.txns.putRun Tryz.underlying118 oE (k:=t) ht (v:=(⟨6,jA9 xs 2,0⟩:ATx)) (jJa xs 6 2 0 dN)
  have hf5:=Fr.of_grown1 hg5
  refine ⟨w5,?_,⟨(hf5.block cp h2.lts.1 (by simpa using h2.lts.2.2)).trans h2.blk,hm5,h2.nums,h2.emp⟩,hf5⟩
  have e:(EX.ev ⟨6,jA9 xs 2,0⟩:Value)=txV ⟨6,jA9 xs 2,0⟩:=rfl
  rw [e,hq,jAl] at hr5
  exact hr5:∃ w5,(Instr.mapUpdate 118 (.map (some bT)) (.int .u64 (t:Int)) (.agg #[.int .i64 6,.int .u8 (q0:Int),.int .u8 (q1:Int),.int .u8 (q2:Int),.int .u8 (q3:Int),.int .u8 (q4:Int),.int .u8 (q5:Int),.int .u8 (q6:Int),.int .u8 (q7:Int),.int .u8 (q8:Int),.int .u64 0,.nilIface])).run Tryz.prog W=.ok () w5∧CoZ w5 cp bT (m+1) { c with txns:=jAb c.txns t ⟨6,jA9 xs 2,0⟩ }∧Fr [bT] W w5))
 have HL:=jA1 hlit
 have H0:=jA1 h
 have HR:=jA1 hr
 obtain ⟨ii,hi,hz0,hz1,hz2⟩:=info_parts Tryz.infoIn
 clear e1 e2 h hf hq hlit hr
 go_enter Tryz.func175,Tryz.ntmps175
 go_wp2_with fail
 refine hnum.mono ?_
 clear hnum
 rintro e w1 ⟨rfl,hf1,hfr1⟩
 have hzz:=H0.out.fr hfr1 (by simp;omega) (by simp;omega)
 have hsa:=jCr 0 cp 0 bT m t c w1 (hzz.co ⟨Nat.zero_le _,Nat.zero_le _,Nat.zero_le _⟩) ht
 rw [hst] at hsa
 have c3:=jA0 hzz.blk 3
 simp at c3
 have H1:=jA1 (show CoZ w1 cp bT m c∧FldAt n w1 fp xs∧Fr [fp] w w1 from ⟨hzz,hf1,hfr1⟩)
 have hlts:=hzz.lts
 have hfpl:=hf1.fld.lt
 clear hzz hf1 hfr1 hst
 go_wp2_with fail
 refine hsa.mono ?_
 clear hsa
 rintro e w2 ⟨rfl,hw2⟩
 subst hw2
 go_wp2
 have hdec:decide (c.limit≤t)=false:=decide_eq_false oE
 rw [hdec]
 go_loopw [6] (λv6 wr=>∃ ys zs,Hid (xs=ys++zs∧FldAt n wr fp zs∧wr.ownsRow w2.heap.size 3 1 v6 ys.length (ints ys)∧Fr [fp] w2 wr)) (λ_ wr=>jHi wr fp)
 case atStart=>exact ⟨[],xs,rfl,H1.out.2.1,World.ownsRow_nil _ _ _ _,Fr.refl _ _⟩
 case round =>
  obtain ⟨ys,zs,HX⟩:=hrel
  have hmo:=jIp n fp zs wr HX.out.2.1
  have hyl:ys.length≤8:=by have:=HR.out.len;rw [HX.out.1,List.length_append] at this;omega
  cases zs with
  | nil =>
   have hri:=jDc n fp [] wr HX.out.2.1
   simp only [List.length_nil,Nat.lt_irrefl,decide_false,Bool.not_false] at hmo hri
   have hxy:ys=xs:=by rw [HX.out.1];simp
   have hrow:=HX.out.2.2.1
   rw [hxy] at hrow
   obtain ⟨g,cap,hv6⟩:=jCl hrow (List.length_pos_iff.2 HR.out.ne)
   subst hv6
   have hia:=jW7 hrow
   have hrise:=jMm g cap xs HR.out wr hia
   have hpo:=jGk g cap 2 xs HR.out wr.drew hia
   rw [HL.out] at hpo
   have hzr:=H1.out.1.fr HX.out.2.2.2 (by simp;omega) (by simp;omega)
   have c1:=jA0 hzr.blk 1
   simp at c1
   have H2:=jA1 (show CoZ wr cp bT m c∧Fr [fp] w wr from ⟨hzr,H1.out.2.2.trans HX.out.2.2.2⟩)
   have hl2:=hzr.lts
   clear hrow hia hzr
   go_wp2_with fail
   refine hmo.mono ?_
   clear hmo
   rintro e w4 ⟨rfl,hw4⟩
   subst hw4
   go_wp2_with fail
   refine hri.mono ?_
   clear hri
   rintro e w5 ⟨rfl,hw5⟩
   subst hw5
   go_wp2_with fail
   refine hrise.mono ?_
   clear hrise
   rintro e w6 ⟨rfl,hw6⟩
   subst hw6
   go_wp2
   go_region_held3 (λw'=>w'.cell? ⟨cp,1,none⟩=some (.map (some bT)))
    (simp [*])
    (first | (go_at_call 66;refine hpo.mono ?_;rintro e w7 ⟨rfl,hf7⟩;have z1:=(World.cell?_of_block (a:=⟨cp,1,none⟩) (hf7.block cp hl2.1 (by simp))).trans c1;have hz7:=(H2.out.1.fr (Fr.refl [] _).drew (by simp) (by simp)).fr hf7 (by simp) (by simp);obtain ⟨w8,hr8,hc8,hf8⟩:=HPUT.out w7 hz7;have y1:=(World.cell?_of_block (a:=⟨cp,1,none⟩) (hf8.block cp hz7.lts.1 (by simpa using hl2.2.2))).trans z1;have H8:=jA1 (And.intro hc8 (And.intro hf7 hf8));clear hc8 hf7 hf8 hz7))
   go_wp2
   go_ret
   refine ⟨rfl,H8.out.1,?_⟩
   have k1:Fr [fp,bT] w w6:=H2.out.2.mono (λk _ hk=>by simp at hk;simp [hk])
   have k2:Fr [fp,bT] w6 w7:=Fr.mono (⟨H8.out.2.1.os,H8.out.2.1.tape,H8.out.2.1.output,H8.out.2.1.size,H8.out.2.1.block⟩:Fr [] w6 w7) sE
   have k3:Fr [fp,bT] w7 w8:=H8.out.2.2.mono (λk _ hk=>by simp at hk;simp [hk])
   exact (k1.trans k2).trans k3
  | cons x zs =>
   have hpos:decide (0<(x :: zs).length)=true:=by simp
   rw [hpos] at hmo
   have hx8:=HR.out.b x (by rw [HX.out.1];simp)
   have hn8:=jIc n fp (x :: zs) wr HX.out.2.1 sE
   simp only [List.take_succ_cons,List.take_zero,List.drop_succ_cons,List.drop_zero] at hn8
   have ev:val [x]=x:=by simp [val]
   rw [ev] at hn8
   have HLEN:=jA1 (show jHi wr fp=(x :: zs).length from HX.out.2.1.fld.len)
   have jx:IntKind.i64.wrap (x:Int)=(x:Int):=by rw [IntKind.wrap_i64];omega
   clear hpos ev
   go_wp2_with fail
   refine hmo.mono ?_
   clear hmo
   rintro e w4 ⟨rfl,hw4⟩
   subst hw4
   go_wp2_with fail
   refine hn8.mono ?_
   clear hn8
   rintro e w5 ⟨rfl,hf5,hfr5⟩
   have ho5:=jA7 HX.out.2.2.1 hfr5 (λg hg=>by have:=(HX.out.2.2.1.lt g hg).1;simp;omega)
   have hsz:=HX.out.2.2.2.size
   have hsz5:=hfr5.size
   have H5:=jA1 (show FldAt n w5 fp zs∧Fr [fp] w2 w5 from ⟨hf5,HX.out.2.2.2.trans hfr5⟩)
   clear hf5 hfr5
   go_wp2_with (at_builtin;refine wpList_append_own _ rfl _ _ 53 rfl w2.heap.size 3 ii (.int .i64 0) 1 8 Tryz.underlying53 hi hz0 hz1 hz2 rfl (by decide) _ ys.length (ints ys) rfl (ho5.alloc _) ⟨w5.heap.size,0,none⟩ 1 1 [.int .i64 (x:Int)] rfl rfl (jBf _ #[.int .i64 (x:Int)] _) (by intro u hu;simp at hu;subst hu;rfl) (by unfold maxLen;omega) (by omega) (by simp;omega) ?_)
   intro v' w6 hown' hgrow _
   have fro:=Fr.of_grown hgrow
   have hfa:Fr [] w5 (w5.alloc (.cells #[.int .i64 (x:Int)] 3)):=(Fr.refl [] w5).alloc _
   have hfld6:FldAt n w6 fp zs:=(H5.out.1.apart hfa sE).apart fro (λk hk=>by
    simp at hk
    obtain ⟨cc,hc⟩:=jA4 (ho5.alloc _) hk
    refine ⟨λe=>?_,λc2 fr e=>by rw [hc] at e;cases e⟩
    have:=(ho5.lt k hk).1
    omega)
   have hfr6:Fr [fp] w2 w6:=((H5.out.2).andThen (hfa.mono (T:=[fp]) sE) (λj hj _=>hj)).andThen fro (λj hj hl=>by
    simp at hj
    have:=(ho5.lt j hj).1
    omega)
   have H6:=jA1 (show xs=(ys++[x])++zs∧FldAt n w6 fp zs∧w6.ownsRow w2.heap.size 3 1 v' (ys++[x]).length (ints (ys++[x]))∧Fr [fp] w2 w6 from ⟨by rw [HX.out.1];simp,hfld6,by rw [jPe,List.length_append];exact hown',hfr6⟩)
   clear hown' hgrow fro hfa hfld6 hfr6 ho5
   go_wp2
   go_roundw
   case rel=>exact ⟨ys++[x],zs,H6.out⟩
   case measure=>rw [H6.out.2.1.fld.len,HLEN.out];simp
end Go.Proofs.YtcalalndmcemiaaGreatDoor
set_option maxRecDepth 100000
set_option maxHeartbeats 16000000
namespace Go.Proofs.YtcalalndmcemiaaGreatDoor
open Go.RowKit Go.Maps
open Sc
def SoleD (d:ADisk) (t:ByteArray):Prop:=∀ k,d.now k=if k=jAs 1 then some t else none
theorem writesE {d:ADisk} {c:Nat} (h:d.Well c) (hc:c<1099511627776):d.writes=({ d with left:=d.left - 1,full:=d.full - 1 },0):=by
 have h1:=h.left
 have h2:=h.full
 have e:=jWh (d:=d) (by rw [h.up];simp;omega) oE
 have e1:wrap64 (d.left - 1)=d.left - 1:=by unfold wrap64;omega
 have e2:wrap64 (d.full - 1)=d.full - 1:=by unfold wrap64;omega
 rw [e1,e2] at e
 exact e
theorem jXl {d:ADisk} {c:Nat} (h:d.Well c) (hc:c<1099511627776):d.sync=({ d with left:=d.left - 1,full:=d.full - 1,durable:=d.pending.foldl doOp d.durable,pending:=[] },0):=by
 unfold ADisk.sync
 simp only [writesE h hc,if_true]
structure One (l:ALog) (d:ADisk) (rs:List Rec):Prop where
 next:l.next=1+rs.length
 recs:l.recs=rs
 failed:l.failed=0
 file:(rs=[]∧l.segs=[]∧l.filled=600∧∀ k,d.now k=none)∨(rs≠[]∧l.segs=[1]∧l.filled=(encR rs).length∧SoleD d (str (encR rs)))
 dur:d.durable=d.now
 pen:d.pending=[]
 fine:FineR rs
 few:(encR rs).length<600
 durN:l.durable=l.next
 well:d.Well 0
theorem jTr {d:ADisk} {c:Nat} (h:d.Well c) (f g:Files) (p:List AOp):ADisk.Well ⟨f,g,p,d.left - 1,d.full - 1,d.down⟩ (c+1):=⟨h.up,by have:=h.left;simp;omega,by have:=h.full;simp;omega⟩
theorem opensE {d:ADisk} (l:ALog) (h:d.Well 0):l.opens d=({ l with durable:=l.next },{ d with left:=d.left - 1 - 1,full:=d.full - 1 - 1,durable:=d.pending.foldl doOp d.durable,pending:=[] },0):=by
 have es:l.sync d=({ l with durable:=l.next },{ d with left:=d.left - 1,full:=d.full - 1,durable:=d.pending.foldl doOp d.durable,pending:=[] },0):=by
  unfold ALog.sync;rw [jXl h oE];rfl
 unfold ALog.opens
 rw [es]
 simp only [if_true]
 have w1:ADisk.Well { d with left:=d.left - 1,full:=d.full - 1,durable:=d.pending.foldl doOp d.durable,pending:=[] } 1:=jTr h _ _ _
 unfold ADisk.removeAll
 rw [jXl w1 oE]
 rfl
theorem One.first {d:ADisk} (hno:∀ k,d.now k=none) (hdu:d.durable=d.now) (hpe:d.pending=[]) (hw:d.Well 0):((log0 1).opens d).2.2=0∧((log0 1).opens d).2.1.down=false∧((log0 1).opens d).1.recs=[]∧((log0 1).opens d).1.next=1∧One ((log0 1).opens d).1 (((log0 1).opens d).2.1.knob (-1) (-1)) []:=by
 rw [opensE _ hw]
 refine ⟨rfl,hw.up,rfl,rfl,{ next:=rfl,recs:=rfl,failed:=rfl,file:=.inl ⟨rfl,rfl,rfl,hno⟩,dur:=?_,pen:=rfl,fine:=λk r hk=>by simp at hk,few:=by decide,durN:=rfl,well:=⟨hw.up,by simp [ADisk.knob],by simp [ADisk.knob]⟩ }⟩
 show d.pending.foldl doOp d.durable=d.now
 rw [hpe,hdu];rfl
theorem jNs {B p bD bN n nD:Nat} {pv:Value} {d:ADisk} {w:World} (hd:DiskIn w B p bD bN pv d n nD 0) (hno:∀ k,d.now k=none) (hdu:d.durable=d.now) (hpe:d.pending=[]) (hw:d.Well 0):ShPre (λ_ s=>s=sh0) B p bD bN n ((log0 1).opens d) w:=by
 obtain ⟨o1,o2,o3,o4,o5⟩:=One.first hno hdu hpe hw
 refine { disk:=⟨_,_,_,_,hd⟩,jop:=λW hW=>jGf B p bD bN n nD pv d W (hd.new hW) hw.up (hno _) o1,plain:=?_,first:=?_,byt:=?_,none:=rfl,ents:=?_,few:=?_,num:=hd.hn }
 ·rw [o3];intro r hr;cases hr
 ·rw [o3,o4];rfl
 ·rw [o3];intro r hr;cases hr
 ·rw [o3];intro pre x s' hp;have:=hp.length_le;simp at this
 ·rw [o3];decide
end Go.Proofs.YtcalalndmcemiaaGreatDoor
set_option maxRecDepth 100000
set_option maxHeartbeats 16000000
namespace Go.Proofs.YtcalalndmcemiaaGreatDoor
open Go.RowKit Go.Maps Go.Shelf
open Sc
theorem jJ7 (n cp bT m fp M:Nat) (c:ACo) (w:World) (h:CoZ w cp bT m c) (hf:FldAt n w fp (be 8 M)) (hM:M<18446744073709551616) (hle:c.limit≤M) (hlow:cp<n∧bT<n) :
  Calls Tryz.prog 126 #[.pointer (some ⟨cp,0,none⟩),.int .u8 1,.pointer (some ⟨fp,0,none⟩)] w λe w'=>e=.returned (.bool true)∧CoZ w' cp bT m { c with limit:=M }∧Fr [fp,cp,bT] w w':=by
 have hc:=jLt n cp bT m fp M c w h hf hM hle hlow
 clear h hf
 go_enter Tryz.func126,Tryz.ntmps126
 go_wp2_with fail
 refine hc.mono ?_
 clear hc
 rintro e w1 ⟨rfl,hin,hfr⟩
 have H1:=jA1 (show CoZ w1 cp bT m { c with limit:=M }∧Fr [fp,cp,bT] w w1 from ⟨hin,hfr.mono (λk _ hk=>by simp at hk;rcases hk with e | e <;> simp [e])⟩)
 clear hin hfr
 go_wp2
 go_ret
 exact ⟨rfl,H1.out⟩
theorem jS4 (n cp bT m fp t:Nat) (xs:List Nat) (c:ACo) (w:World) (h:CoZ w cp bT m c) (hf:FldAt n w fp (be 8 t++xs)) (ht:t<18446744073709551616) (h0:t≠0) (hlt:t<c.limit) (hst:(c.tx t).state=0) (hr:Rising xs) (hm:m+1<maxLen) (hlow:cp<n∧bT<n) :
  Calls Tryz.prog 126 #[.pointer (some ⟨cp,0,none⟩),.int .u8 2,.pointer (some ⟨fp,0,none⟩)] w λe w'=>e=.returned (.bool true)∧CoZ w' cp bT (m+1) { c with txns:=jAb c.txns t ⟨6,jA9 xs 2,0⟩ }∧Fr [fp,cp,bT] w w':=by
 have hc:=jLk n cp bT m fp t xs c w h hf ht h0 hlt hst hr hm hlow
 clear h hf
 go_enter Tryz.func126,Tryz.ntmps126
 go_wp2_with fail
 refine hc.mono ?_
 clear hc
 rintro e w1 ⟨rfl,hin,hfr⟩
 have H1:=jA1 (show CoZ w1 cp bT (m+1) { c with txns:=jAb c.txns t ⟨6,jA9 xs 2,0⟩ }∧Fr [fp,cp,bT] w w1 from ⟨hin,hfr.mono (λk _ hk=>by simp at hk;rcases hk with e | e <;> simp [e])⟩)
 clear hin hfr
 go_wp2
 go_ret
 exact ⟨rfl,H1.out⟩
abbrev eR:Rec:=⟨1,1,be 8 17⟩
abbrev eC (ys:List Nat):Rec:=⟨2,2,be 8 1++ys⟩
def cst (ys:List Nat) (k:Nat):ACo:=if k=0 then ⟨[],0,1,0,[],[]⟩ else if k=1 then ⟨[],0,17,0,[],[]⟩ else ⟨[(1,⟨6,jA9 ys 2,0⟩)],0,17,0,[],[]⟩
inductive Ents (ys:List Nat):List Rec→Prop
 | none:Ents ys []
 | res:Ents ys [eR]
 | com (h:Rising ys):Ents ys [eR,eC ys]
theorem Ents.len {ys:List Nat} {rs:List Rec} (h:Ents ys rs):rs.length≤2:=by cases h <;> simp
theorem jQo (ys:List Nat) (rs pre:List Rec) (x:Rec) (n cp bT fp:Nat) (A:World) (he:Ents ys rs) (hp:pre++[x] <+: rs) (h:CoZ A cp bT pre.length (cst ys pre.length)) (hlow:cp<n∧bT<n) (hf:FldAt n A fp x.pay) :
  Calls Tryz.prog 126 #[.pointer (some ⟨cp,0,none⟩),.int .u8 (x.kind:Int),.pointer (some ⟨fp,0,none⟩)] A λe w'=>e=.returned (.bool true)∧CoZ w' cp bT (pre++[x]).length (cst ys (pre++[x]).length)∧Fr [fp,cp,bT] A w':=by
 have hlen:=hp.length_le
 have hl2:=he.len
 rw [List.length_append,List.length_singleton] at hlen
 have hx:rs[pre.length]?=some x:=by
  obtain ⟨r,hr⟩:=hp
  rw [← hr]
  simp
 cases he with
 | none=>simp at hlen
 | res =>
  have h0:pre.length=0:=by have:([eR]:List Rec).length=1:=rfl;omega
  rw [h0] at hx h
  simp at hx
  subst hx
  refine (jJ7 n cp bT 0 fp 17 _ A h hf dN (show (1:Nat)≤17 by decide) hlow).mono ?_
  rintro e w' ⟨rfl,h1,h2⟩
  refine ⟨rfl,?_,h2⟩
  rw [List.length_append,h0]
  exact ⟨h1.blk,h1.txns.mono oE,h1.nums,h1.emp⟩
 | com hr =>
  have h01:pre.length=0∨pre.length=1:=by have:([eR,eC ys]:List Rec).length=2:=rfl;omega
  rcases h01 with h0 | h0
  ·rw [h0] at hx h
   simp at hx
   subst hx
   refine (jJ7 n cp bT 0 fp 17 _ A h hf dN (show (1:Nat)≤17 by decide) hlow).mono ?_
   rintro e w' ⟨rfl,h1,h2⟩
   refine ⟨rfl,?_,h2⟩
   rw [List.length_append,h0]
   exact ⟨h1.blk,h1.txns.mono oE,h1.nums,h1.emp⟩
  ·rw [h0] at hx h
   simp at hx
   subst hx
   refine (jS4 n cp bT 1 fp 1 ys _ A h hf dN dN (show (1:Nat)<17 by decide) rfl hr dN hlow).mono ?_
   rintro e w' ⟨rfl,h1,h2⟩
   refine ⟨rfl,?_,h2⟩
   rw [List.length_append,h0]
   exact h1
def jY7 (ys:List Nat) (B p bD bN n:Nat) (R:ALog × ADisk × Nat) (w:World) (e:Ending) (w':World):Prop :=
 ∃ cp gp bT lp,e=.returned (.tuple #[.pointer (some ⟨cp,0,none⟩),.nilIface])∧CL w' B cp gp bT R.1.recs.length lp p bD bN n { cst ys R.1.recs.length with next:=(cst ys R.1.recs.length).limit } R.1 R.2.1∧(w.heap.size≤cp∧w.heap.size≤bT∧w.heap.size≤gp)∧SDFr p [] w w'
structure CoPre (ys:List Nat) (B p bD bN n:Nat) (R:ALog × ADisk × Nat) (w:World):Prop where
 disk:∃ pv d nD nN,DiskIn w B p bD bN pv d n nD nN
 jop:∀ W,Fr [] w W→Calls Tryz.prog 78 #[dskV p] W (jDl B p bD bN n R W)
 plain:jEo R.1.recs
 first:firstN R.1.recs R.1.next=1
 byt:∀ r∈R.1.recs,Byt r.pay∧r.pay.length≤4096
 ents:Ents ys R.1.recs
 num:n≤67108864
theorem jNm (ys:List Nat) (k:Nat):(cst ys k).next<18446744073709551616∧(cst ys k).limit<18446744073709551616∧(cst ys k).ticks<18446744073709551616:=by
 unfold cst
 split
 ·decide
 ·split <;> exact ⟨show (0:Nat)<_ by decide,show (17:Nat)<_ by decide,show (0:Nat)<_ by decide⟩
theorem jOv (ys:List Nat) (B p bD bN n:Nat) (R:ALog × ADisk × Nat) (w:World) (h:CoPre ys B p bD bN n R w) :
  Calls Tryz.prog 80 #[dskV p] w (jY7 ys B p bD bN n R w):=by
 have hmm:=@run_makeMap Tryz.prog
 obtain ⟨pv,d,nD,nN,hd⟩:=h.disk
 have hbase:=hd.base
 have hnl:=hd.now.lt
 have hdl:=hd.dur.lt
 obtain ⟨W,hW⟩:∃ W,W=(w.alloc (.map #[] 0)).alloc (coO 0 w.heap.size ⟨[],0,1,0,[],[]⟩ (.slice none 0 0) (.slice none 0 0)):=⟨_,rfl⟩
 have hfr:Fr [] w W:=by rw [hW];exact ((Fr.refl [] w).alloc _).alloc _
 have hsz:W.heap.size=w.heap.size+2:=by rw [hW];simp
 have hb0:W.heap[w.heap.size+1]?=some (coO 0 w.heap.size ⟨[],0,1,0,[],[]⟩ (.slice none 0 0) (.slice none 0 0)):=by
  rw [hW];have:=heap_alloc_new (w.alloc (.map #[] 0)) (coO 0 w.heap.size ⟨[],0,1,0,[],[]⟩ (.slice none 0 0) (.slice none 0 0));rwa [World.size_alloc] at this
 have hin:CoZ W (w.heap.size+1) w.heap.size 0 (cst ys 0):=by
  refine ⟨hb0,?_,jNm ys 0,⟨rfl,rfl⟩⟩
  rw [hW];exact (MapAs.made (KR:=KU) (ER:=EX) w).fr ((Fr.refl [] _).alloc _) sE
 have hlo:=jRd B p bD bN n (w.heap.size+1) w.heap.size R (λpre A=>CoZ A (w.heap.size+1) w.heap.size pre.length (cst ys pre.length)) W hin (λpre A A' hA _ hb=>hA.keep hb) ⟨_,hb0⟩ hin.txns.isMap ⟨_,_,_,_,hd.new hfr⟩ ⟨by omega,by omega⟩
  (λW' hW'=>h.jop W' (hfr.trans hW')) h.plain h.first h.byt (λpre x n' fp A hp hA h1 h2 hfa=>jQo ys R.1.recs pre x n' _ _ fp A h.ents hp hA ⟨h1,h2⟩ hfa) h.num
 have HF:=jA1 (show Fr [] w W∧DiskIn w B p bD bN pv d n nD nN from ⟨hfr,hd⟩)
 clear h hfr hd hin hb0
 go_enter Tryz.func80,Tryz.ntmps80
 go_wp2_with fail
 have hW2:W=(w.alloc (.map #[] 0)).alloc (.cells #[.pointer none,.map (some w.heap.size),.int .u64 0,.int .u64 1,.int .u64 0,.slice none 0 0,.slice none 0 0] 122):=hW
 rw [← hW2]
 clear hW hW2
 refine hlo.mono ?_
 clear hlo
 rintro e w1 ⟨gp,lp,rfl,hin1,⟨pv1,sv1,rv1,nD1,nN1,hl1⟩,hg1,hgp,hsd1⟩
 have c0:=jA0 hin1.blk 0
 have c2:=jA0 hin1.blk 2
 have c3:=jA0 hin1.blk 3
 have f0:=jA2 hin1.blk 0
 have f2:=jA2 hin1.blk 2
 simp at c0 c2 c3
 obtain ⟨K,hK⟩:∃ K,K=cst ys R.1.recs.length:=⟨_,rfl⟩
 have hnums:=jNm ys R.1.recs.length
 have HK:=jA1 hK
 rw [← hK] at hin1 c2 c3 hnums
 clear hK
 obtain ⟨W2,hW2⟩:∃ W2,W2=(w1.setCell ⟨w.heap.size+1,0,none⟩ (.pointer (some ⟨gp,0,none⟩))).setCell ⟨w.heap.size+1,2,none⟩ (.int .u64 (K.limit:Int)):=⟨_,rfl⟩
 have hf2:Fr [w.heap.size+1] w1 W2:=by rw [hW2];exact (Fr.set1 sE _ _).trans (Fr.set1 sE _ _)
 have hgp1:1≤gp:=by omega
 have hb2:W2.heap[w.heap.size+1]?=some (coO gp w.heap.size { K with next:=K.limit } (.slice none 0 0) (.slice none 0 0)):=by
  have:=jA5 (jA5 hin1.blk 0 (.pointer (some ⟨gp,0,none⟩))) 2 (.int .u64 (K.limit:Int))
  simp at this
  rw [hW2];unfold coO;rw [jB8 hgp1];exact this
 have HS:=jA1 (show CL W2 B (w.heap.size+1) gp w.heap.size R.1.recs.length lp p bD bN n { K with next:=K.limit } R.1 R.2.1∧SDFr p [] w W2 from by
  refine ⟨⟨⟨⟨_,_,hb2,by show World.ownsRow _ _ _ _ _ K.res.length (resV K.res);rw [hin1.emp.1];exact World.ownsRow_nil _ _ _ _,by show World.ownsRow _ _ _ _ _ K.out.length (dueV K.out);rw [hin1.emp.2];exact World.ownsRow_nil _ _ _ _,by show Brd _ K.res.length _;rw [hin1.emp.1];exact Brd.nil _,by show Brd _ K.out.length _;rw [hin1.emp.2];exact Brd.nil _⟩,hin1.txns.fr hf2 sE,⟨by omega,by omega,by have:=hf2.size;have:=hsd1.size;omega⟩,⟨hnums.2.1,hnums.2.1,hnums.2.2⟩⟩,⟨pv1,sv1,rv1,nD1,nN1,hl1.apart hf2 (λk hk _=>?_)⟩,(hf2.block gp (Array.getElem?_eq_some_iff.1 hg1).1 (by simp;omega)).trans hg1,⟨by omega,by omega⟩,hgp1⟩,?_⟩
  ·simp at hk
   subst hk
   exact ⟨hl1.free hin1.blk dN dN dN dN dN,λt e=>by rw [hin1.blk] at e;cases e⟩
  ·have hf0:=HF.out.1
   have hd0:=HF.out.2
   refine ⟨hf2.os.trans (hsd1.os.trans hf0.os),hf2.tape.trans (hsd1.tape.trans hf0.tape),hf2.output.trans (hsd1.output.trans hf0.output),by have:=hf2.size;have:=hsd1.size;omega,λk hk ho _=>?_⟩
   rw [hf2.block k (by have:=hsd1.size;omega) (by simp;omega),hsd1.block k oE (λho'=>ho ((hd0.ownD k).2 (((hd0.new hf0).ownD k).1 ho'))) (by simp;omega),hf0.block k hk sE])
 have d2:(w1.setCell ⟨w.heap.size+1,0,none⟩ (.pointer (some ⟨gp,0,none⟩))).cell? ⟨w.heap.size+1,2,none⟩=some (.int .u64 (K.next:Int)):=by
  have:=jA0 (jA5 hin1.blk 0 (.pointer (some ⟨gp,0,none⟩))) 2
  simpa using this
 have d3:(w1.setCell ⟨w.heap.size+1,0,none⟩ (.pointer (some ⟨gp,0,none⟩))).cell? ⟨w.heap.size+1,3,none⟩=some (.int .u64 (K.limit:Int)):=by
  have:=jA0 (jA5 hin1.blk 0 (.pointer (some ⟨gp,0,none⟩))) 3
  simpa using this
 have g2:(w1.setCell ⟨w.heap.size+1,0,none⟩ (.pointer (some ⟨gp,0,none⟩))).frozen? ⟨w.heap.size+1,2,none⟩=false:=jA2 (jA5 hin1.blk 0 (.pointer (some ⟨gp,0,none⟩))) 2
 clear hin1 hl1 hg1 hsd1 hf2 hb2 c2 c3 f2
 go_wp2
 rw [← hW2]
 go_ret2
 exact ⟨w.heap.size+1,gp,w.heap.size,lp,rfl,by rw [← HK.out];exact HS.out.1,⟨by omega,by omega,by omega⟩,HS.out.2⟩
abbrev jBj:ADisk:=⟨λ_=>none,λ_=>none,[],-1,-1,false⟩
theorem jRg (w:World) (i:Nat) :
  Calls Tryz.prog 19 #[.int .i64 4,.int .i64 (i:Int)] w λe w'=>∃ hp p bD bN,e=.returned (.pointer (some ⟨hp,0,none⟩))∧w'.heap[hp]?=some (jBu i p false none none none)∧DiskIn w' w.heap.size p bD bN (.slice none 0 0) jBj 10 0 0∧w.heap.size≤hp∧Below w.heap.size w w':=by
 have hmm:=@run_makeMap Tryz.prog
 go_enter Tryz.func19,Tryz.ntmps19
 go_wp2_with fail
 obtain ⟨W,hW⟩:∃ W,W=((w.alloc (.map #[] 0)).alloc (.cells #[.map (some w.heap.size),.map none,.slice none 0 0,.int .i64 (-1),.int .i64 (-1),.bool false] 96)).alloc (jBu i (w.heap.size+1) false none none none):=⟨_,rfl⟩
 have hW2:W=((w.alloc (.map #[] 0)).alloc (.cells #[.map (some w.heap.size),.map none,.slice none 0 0,.int .i64 (-1),.int .i64 (-1),.bool false] 96)).alloc (.cells #[.int .i64 4,.int .i64 (i:Int),.pointer (some ⟨w.heap.size+1,0,none⟩),.bool false,.pointer none,.pointer none,.pointer none,.pointer none] 79):=hW
 rw [← hW2]
 clear hW2
 have hsz:W.heap.size=w.heap.size+3:=by rw [hW];simp
 have hb0:Below w.heap.size w W:=by rw [hW];exact (((Below.refl _ w).alloc (Nat.le_refl _) _).alloc sE _).alloc (by simp;omega) _
 have hfm:FileMap W w.heap.size 0 (λ_=>none):=by rw [hW];exact ((FileMap.made w).alloc _).alloc _
 have hdb:W.heap[w.heap.size+1]?=some (.cells #[.map (some w.heap.size),.map none,.slice none 0 0,.int .i64 (-1),.int .i64 (-1),.bool false] 96):=by
  rw [hW,Below.heap_alloc _ _ (w.heap.size+1) sE];have:=heap_alloc_new (w.alloc (.map #[] 0)) (.cells #[.map (some w.heap.size),.map none,.slice none 0 0,.int .i64 (-1),.int .i64 (-1),.bool false] 96);rw [World.size_alloc] at this;exact this
 have hhb:W.heap[w.heap.size+2]?=some (jBu i (w.heap.size+1) false none none none):=by
  rw [hW];have:=heap_alloc_new ((w.alloc (.map #[] 0)).alloc (.cells #[.map (some w.heap.size),.map none,.slice none 0 0,.int .i64 (-1),.int .i64 (-1),.bool false] 96)) (jBu i (w.heap.size+1) false none none none);rw [World.size_alloc,World.size_alloc] at this;exact this
 clear hW
 have HH:Hid (W.heap[w.heap.size+2]?=some (jBu i (w.heap.size+1) false none none none)):=hhb
 refine (jY8 w.heap.size (w.heap.size+1) w.heap.size 10 0 (.slice none 0 0) (.map none) jBj W hdb ⟨by omega,by omega,by omega⟩ hfm oE dN (by intro k t ht;cases ht)).mono ?_
 rintro e w1 ⟨rfl,hd1,hf1⟩
 have hh1:w1.heap[w.heap.size+1+1]?=some (jBu i (w.heap.size+1) false none none none):=(hf1.block (w.heap.size+2) oE sE).trans HH.out
 have hb1:Below w.heap.size w w1:=hb0.trans (hf1.below oE (by intro k hk;simp at hk;omega))
 have H1:=jA1 (show DiskIn w1 w.heap.size (w.heap.size+1) w.heap.size W.heap.size (.slice none 0 0) jBj 10 0 0∧Below w.heap.size w w1∧w1.heap[w.heap.size+1+1]?=some (jBu i (w.heap.size+1) false none none none) from ⟨hd1,hb1,hh1⟩)
 clear hd1 hf1 hh1 hb1 hdb hhb hfm hb0
 go_wp2
 go_ret
 exact ⟨w.heap.size+1+1,w.heap.size+1,w.heap.size,W.heap.size,rfl,H1.out.2.2,H1.out.1,by omega,H1.out.2.1⟩
theorem DiskIn.low {w:World} {B B' p bD bN n nD nN:Nat} {pv:Value} {d:ADisk} (h:DiskIn w B p bD bN pv d n nD nN) (hB:B'≤B):DiskIn w B' p bD bN pv d n nD nN :=
 { h with base:=by have:=h.base;omega,pen:=jBa h.pen hB }
theorem LogIn.low {w:World} {B B' lp p bD bN n nD nN:Nat} {pv sv rv:Value} {l:ALog} {d:ADisk} (h:LogIn w B lp p bD bN pv sv rv l d n nD nN) (hB:B'≤B):LogIn w B' lp p bD bN pv sv rv l d n nD nN :=
 { h with disk:=h.disk.low hB,base:=by have:=h.base;omega,segs:=jBa h.segs hB,recs:=jBa h.recs hB }
theorem ShP.low {w:World} {B B' i hp nd p sp gp bV bT bH lp bD bN m n:Nat} {s:AShard} {l:ALog} {d:ADisk} {ov:Value} {out:List Msg} (h:ShP w B i hp nd p sp gp bV bT bH lp bD bN m n s l d ov out) (hB:B'≤B):ShP w B' i hp nd p sp gp bV bT bH lp bD bN m n s l d ov out:=by
 obtain ⟨pv,sv,rv,nD,nN,hl⟩:=h.sl.lg
 exact ⟨h.hh,h.hnd,jBa h.hov hB,⟨h.sl.sh,⟨pv,sv,rv,nD,nN,hl.low hB⟩,h.sl.ap,h.sl.gp1⟩,by have:=h.hb;omega⟩
theorem CoP.low {w:World} {B B' hp nd p cp gp bT lp bD bN m n:Nat} {c:ACo} {l:ALog} {d:ADisk} {ov:Value} {out:List Msg} (h:CoP w B hp nd p cp gp bT lp bD bN m n c l d ov out) (hB:B'≤B):CoP w B' hp nd p cp gp bT lp bD bN m n c l d ov out:=by
 obtain ⟨pv,sv,rv,nD,nN,hl⟩:=h.sl.lg
 obtain ⟨xv,yv,h1,h2,h3,h4⟩:=h.sl.co.ex
 exact ⟨h.hh,h.hnd,jBa h.hov hB,⟨⟨⟨xv,yv,h1,jBa h2 hB,jBa h3 hB,h4⟩,h.sl.co.txns,by have:=h.sl.co.low;omega,h.sl.co.nums⟩,⟨pv,sv,rv,nD,nN,hl.low hB⟩,h.sl.led,h.sl.ne,h.sl.gp1⟩,by have:=h.hb;omega⟩
theorem jXb {B p bD bN n nD:Nat} {pv:Value} {d:ADisk} {w:World} (ys:List Nat) (hd:DiskIn w B p bD bN pv d n nD 0) (hno:∀ k,d.now k=none) (hdu:d.durable=d.now) (hpe:d.pending=[]) (hw:d.Well 0):CoPre ys B p bD bN n ((log0 1).opens d) w:=by
 obtain ⟨o1,o2,o3,o4,o5⟩:=One.first hno hdu hpe hw
 refine { disk:=⟨_,_,_,_,hd⟩,jop:=λW hW=>jGf B p bD bN n nD pv d W (hd.new hW) hw.up (hno _) o1,plain:=?_,first:=?_,byt:=?_,ents:=?_,num:=hd.hn }
 ·rw [o3];intro r hr;cases hr
 ·rw [o3,o4];rfl
 ·rw [o3];intro r hr;cases hr
 ·rw [o3];exact .none
theorem lgw0 {l:ALog} {d:ADisk} (h:One l d []):LgW l d:=by
 rcases h.file with ⟨_,sg,fi,no⟩ | ⟨ne,_⟩
 ·exact ⟨⟨0,[],{ fail:=h.failed,segs:=by rw [sg];rfl,recs:=by rw [h.recs];rfl,next:=by rw [h.next];rfl,nums:=by simp,ne:=by simp,size:=by simp,none:=λ_=>fi,fill:=by simp,files:=by rw [sg];simp }⟩,h.well.up⟩
 ·exact absurd rfl ne
theorem jNw:jBj.Well 0:=⟨rfl,by decide,by decide⟩
def OpS (B p bD bN i:Nat) (w:World) (e:Ending) (w':World):Prop :=
 ∃ nd sp gp bV bT bH lp,e=.returned (.tuple #[.pointer (some ⟨nd,0,none⟩),.nilIface])∧w'.heap[nd]?=some (jCi i none (some ⟨sp,0,none⟩) (.slice none 0 0))∧SL w' B sp gp bV bT bH 0 lp p bD bN 10 sh0 ((log0 1).opens jBj).1 ((log0 1).opens jBj).2.1∧(w.heap.size≤nd∧w.heap.size≤sp∧w.heap.size≤bV∧w.heap.size≤bT∧w.heap.size≤bH∧w.heap.size≤gp)∧SDFr p [] w w'
theorem jPl (B p bD bN i:Nat) (w:World) (hi:1≤i∧i≤8) (h:DiskIn w B p bD bN (.slice none 0 0) jBj 10 0 0) :
  Calls Tryz.prog 81 #[dskV p,.int .i64 (i:Int)] w (OpS B p bD bN i w):=by
 obtain ⟨W,hW⟩:∃ W,W=w.alloc (jCi i none none (.slice none 0 0)):=⟨_,rfl⟩
 have hW':W=w.alloc (.cells #[.int .i64 (i:Int),.pointer none,.pointer none,.slice none 0 0] 210):=hW
 have hf0:Fr [] w W:=by rw [hW];exact (Fr.refl [] w).alloc _
 have hnd0:W.heap[w.heap.size]?=some (jCi i none none (.slice none 0 0)):=by rw [hW];exact heap_alloc_new w _
 have hop:=jOo (λ_ s=>s=sh0) B p bD bN 10 ((log0 1).opens jBj) W (jNs (h.new hf0) (λ_=>rfl) rfl rfl jNw)
 obtain ⟨o1,o2,o3,o4,o5⟩:=One.first (d:=jBj) (λ_=>rfl) rfl rfl jNw
 have i1:¬ ((i:Int)<0):=by omega
 have i2:¬ (8<(i:Int)):=by omega
 have i3:¬ ((i:Int)=0):=by omega
 have H0:=jA1 (And.intro (h.new hf0) (And.intro hf0 hnd0))
 have HS:Hid (W.heap.size=w.heap.size+1):=by rw [hW];simp [Hid]
 clear hf0 hnd0 h hW
 go_enter Tryz.func81,Tryz.ntmps81
 go_wp2_with fail
 rw [← hW']
 clear hW'
 refine hop.mono ?_
 clear hop
 rintro e w1 ⟨sp,gp,bV,bT,bH,lp,s',rfl,hs',hs1,hlow,hx1⟩
 subst hs'
 rw [o3] at hs1
 have hnd1:=(hx1.block _ (Array.getElem?_eq_some_iff.1 H0.out.2.2).1 (H0.out.1.freeD H0.out.2.2 dN dN) sE).trans H0.out.2.2
 have c0:=jA0 hnd1 2
 have f0:=jA2 hnd1 2
 simp at c0
 obtain ⟨w2,hw2⟩:∃ w2,w2=w1.setCell ⟨w.heap.size,2,none⟩ (.pointer (some ⟨sp,0,none⟩)):=⟨_,rfl⟩
 have hf2:Fr [w.heap.size] w1 w2:=by rw [hw2];exact Fr.set1 sE _ _
 have hE:=jA1 (show OpS B p bD bN i w (.returned (.tuple #[.pointer (some ⟨w.heap.size,0,none⟩),.nilIface])) w2 from by
  refine ⟨w.heap.size,sp,gp,bV,bT,bH,lp,rfl,by rw [hw2];have:=jA5 hnd1 2 (.pointer (some ⟨sp,0,none⟩));simp at this;exact this,hs1.away hf2 (λk hk _=>by simp at hk;rw [hk,hnd1];exact ⟨_,_,rfl,.inl rfl⟩),by have:=H0.out.2.1.size;omega,?_⟩
  refine ⟨hf2.os.trans (hx1.os.trans H0.out.2.1.os),hf2.tape.trans (hx1.tape.trans H0.out.2.1.tape),hf2.output.trans (hx1.output.trans H0.out.2.1.output),Nat.le_trans H0.out.2.1.size (Nat.le_trans hx1.size hf2.size),λk hk hn _=>?_⟩
  have hk1:k<W.heap.size:=Nat.lt_of_lt_of_le hk H0.out.2.1.size
  refine (hf2.block k (Nat.lt_of_lt_of_le hk1 hx1.size) (by simp;omega)).trans ((hx1.block k hk1 (λho=>hn ?_) sE).trans (H0.out.2.1.block k hk sE))
  unfold OwnD at ho ⊢
  rcases ho with e | e
  ·exact .inl e
  ·right
   rw [H0.out.2.1.block p ?_ sE] at e
   ·exact e
   ·apply Classical.byContradiction
    intro hge
    have h1:p<W.heap.size:=(Array.getElem?_eq_some_iff.1 H0.out.1.blk).1
    have h2:p=w.heap.size:=by have:=HS.out;omega
    have h3:=H0.out.1.blk
    rw [h2,H0.out.2.2] at h3
    cases h3)
 clear hs1 hlow hx1 hnd1 hf2
 go_wp2
 rw [← hw2]
 go_ret2
 exact hE.out
theorem jSj (B p bD bN i:Nat) (w:World) (hi:1≤i∧i≤8) (h:DiskIn w B p bD bN (.slice none 0 0) jBj 10 0 0) :
  Calls Tryz.prog 42 #[dskV p,.int .i64 (i:Int)] w (OpS B p bD bN i w):=by
 have hop:=jPl B p bD bN i w hi h
 clear h
 go_enter Tryz.func42,Tryz.ntmps42
 go_wp2_with fail
 refine hop.mono ?_
 clear hop
 rintro e w1 ⟨nd,sp,gp,bV,bT,bH,lp,rfl,h1,h2,h3,h4⟩
 have hE:=jA1 (show OpS B p bD bN i w (.returned (.tuple #[.pointer (some ⟨nd,0,none⟩),.nilIface])) w1 from ⟨nd,sp,gp,bV,bT,bH,lp,rfl,h1,h2,h3,h4⟩)
 clear h1 h2 h3 h4
 go_wp2
 go_ret2
 exact hE.out
def OpC (B p bD bN:Nat) (w:World) (e:Ending) (w':World):Prop :=
 ∃ nd cp gp bT lp,e=.returned (.tuple #[.pointer (some ⟨nd,0,none⟩),.nilIface])∧w'.heap[nd]?=some (jCi 0 (some ⟨cp,0,none⟩) none (.slice none 0 0))∧CL w' B cp gp bT 0 lp p bD bN 10 ⟨[],1,1,0,[],[]⟩ ((log0 1).opens jBj).1 ((log0 1).opens jBj).2.1∧(w.heap.size≤nd∧w.heap.size≤cp∧w.heap.size≤bT∧w.heap.size≤gp)∧SDFr p [] w w'
theorem jPm (B p bD bN:Nat) (w:World) (h:DiskIn w B p bD bN (.slice none 0 0) jBj 10 0 0) :
  Calls Tryz.prog 81 #[dskV p,.int .i64 0] w (OpC B p bD bN w):=by
 obtain ⟨W,hW⟩:∃ W,W=w.alloc (jCi 0 none none (.slice none 0 0)):=⟨_,rfl⟩
 have hW':W=w.alloc (.cells #[.int .i64 0,.pointer none,.pointer none,.slice none 0 0] 210):=hW
 have hf0:Fr [] w W:=by rw [hW];exact (Fr.refl [] w).alloc _
 have hnd0:W.heap[w.heap.size]?=some (jCi 0 none none (.slice none 0 0)):=by rw [hW];exact heap_alloc_new w _
 have hop:=jOv [] B p bD bN 10 ((log0 1).opens jBj) W (jXb [] (h.new hf0) (λ_=>rfl) rfl rfl jNw)
 obtain ⟨o1,o2,o3,o4,o5⟩:=One.first (d:=jBj) (λ_=>rfl) rfl rfl jNw
 have H0:=jA1 (And.intro (h.new hf0) (And.intro hf0 hnd0))
 have HS:Hid (W.heap.size=w.heap.size+1):=by rw [hW];simp [Hid]
 clear hf0 hnd0 h hW
 go_enter Tryz.func81,Tryz.ntmps81
 go_wp2_with fail
 rw [← hW']
 clear hW'
 refine hop.mono ?_
 clear hop
 rintro e w1 ⟨cp,gp,bT,lp,rfl,hs1,hlow,hx1⟩
 rw [o3] at hs1
 replace hs1:CL w1 B cp gp bT 0 lp p bD bN 10 ⟨[],1,1,0,[],[]⟩ ((log0 1).opens jBj).1 ((log0 1).opens jBj).2.1:=hs1
 have hnd1:=(hx1.block _ (Array.getElem?_eq_some_iff.1 H0.out.2.2).1 (H0.out.1.freeD H0.out.2.2 dN dN) sE).trans H0.out.2.2
 have c0:=jA0 hnd1 1
 have f0:=jA2 hnd1 1
 simp at c0
 obtain ⟨w2,hw2⟩:∃ w2,w2=w1.setCell ⟨w.heap.size,1,none⟩ (.pointer (some ⟨cp,0,none⟩)):=⟨_,rfl⟩
 have hf2:Fr [w.heap.size] w1 w2:=by rw [hw2];exact Fr.set1 sE _ _
 have hE:=jA1 (show OpC B p bD bN w (.returned (.tuple #[.pointer (some ⟨w.heap.size,0,none⟩),.nilIface])) w2 from by
  refine ⟨w.heap.size,cp,gp,bT,lp,rfl,by rw [hw2];have:=jA5 hnd1 1 (.pointer (some ⟨cp,0,none⟩));simp at this;exact this,hs1.away hf2 (λk hk _=>by simp at hk;rw [hk,hnd1];exact ⟨_,_,rfl,.inl rfl⟩),by have:=H0.out.2.1.size;omega,?_⟩
  refine ⟨hf2.os.trans (hx1.os.trans H0.out.2.1.os),hf2.tape.trans (hx1.tape.trans H0.out.2.1.tape),hf2.output.trans (hx1.output.trans H0.out.2.1.output),Nat.le_trans H0.out.2.1.size (Nat.le_trans hx1.size hf2.size),λk hk hn _=>?_⟩
  have hk1:k<W.heap.size:=Nat.lt_of_lt_of_le hk H0.out.2.1.size
  refine (hf2.block k (Nat.lt_of_lt_of_le hk1 hx1.size) (by simp;omega)).trans ((hx1.block k hk1 (λho=>hn ?_) sE).trans (H0.out.2.1.block k hk sE))
  unfold OwnD at ho ⊢
  rcases ho with e | e
  ·exact .inl e
  ·right
   rw [H0.out.2.1.block p ?_ sE] at e
   ·exact e
   ·apply Classical.byContradiction
    intro hge
    have h1:p<W.heap.size:=(Array.getElem?_eq_some_iff.1 H0.out.1.blk).1
    have h2:p=w.heap.size:=by have:=HS.out;omega
    have h3:=H0.out.1.blk
    rw [h2,H0.out.2.2] at h3
    cases h3)
 clear hs1 hlow hx1 hnd1 hf2
 go_wp2
 rw [← hw2]
 go_ret2
 exact hE.out
theorem jS9 (B p bD bN:Nat) (w:World) (h:DiskIn w B p bD bN (.slice none 0 0) jBj 10 0 0) :
  Calls Tryz.prog 42 #[dskV p,.int .i64 0] w (OpC B p bD bN w):=by
 have hop:=jPm B p bD bN w h
 clear h
 go_enter Tryz.func42,Tryz.ntmps42
 go_wp2_with fail
 refine hop.mono ?_
 clear hop
 rintro e w1 ⟨nd,cp,gp,bT,lp,rfl,h1,h2,h3,h4⟩
 have hE:=jA1 (show OpC B p bD bN w (.returned (.tuple #[.pointer (some ⟨nd,0,none⟩),.nilIface])) w1 from ⟨nd,cp,gp,bT,lp,rfl,h1,h2,h3,h4⟩)
 clear h1 h2 h3 h4
 go_wp2
 go_ret2
 exact hE.out
end Go.Proofs.YtcalalndmcemiaaGreatDoor
