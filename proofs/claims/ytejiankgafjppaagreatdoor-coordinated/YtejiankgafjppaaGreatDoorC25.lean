import Derived.Test.YtejiankgafjppaaGreatDoorC22
import Derived.Test.YtejiankgafjppaaGreatDoorC21
import Derived.Test.YtejiankgafjppaaGreatDoorC24
namespace Go.Proofs.YtejiankgafjppaaGreatDoor
open Go.RowKit Go.Maps
open Sc
structure IFr (B:Nat) (w w':World):Prop where
 below:Below B w w'
 fall:∀ (k:Nat) (a b c d:Int),w.heap[k]?=some (fallO a b c d)→w'.heap[k]?=some (fallO a b c d)
 ints:∀ (k:Nat) (c:Array Value),w.heap[k]?=some (.cells c 3 (0,0))→w'.heap[k]?=some (.cells c 3 (0,0))
theorem IFr.trans {B:Nat} {a b c:World} (h:IFr B a b) (k:IFr B b c):IFr B a c:=⟨h.below.trans k.below,fun i x y z u hi=>k.fall i x y z u (h.fall i x y z u hi),fun i x hi=>k.ints i x (h.ints i x hi)⟩
theorem IFr.new {B:Nat} {w w':World} (h:Fr [] w w') (hB:B≤w.heap.size):IFr B w w':=⟨h.below hB (by simp),fun k a b c d hk=>(h.block k (Array.getElem?_eq_some_iff.1 hk).1 (by simp)).trans hk,fun k c hk=>(h.block k (Array.getElem?_eq_some_iff.1 hk).1 (by simp)).trans hk⟩
theorem IFr.met {B:Nat} {w w':World} (h:IFr B w w') (hB:2≤B) (hm:Met w):Met w':=hm.below h.below (by omega)
theorem IFr.pows {B:Nat} {w w':World} (h:IFr B w w') (hB:2≤B) (hm:Pows w):Pows w':=hm.of_block (h.below.block 1 (by omega))
structure CFr (cp bT lp p:Nat) (w w':World):Prop where
 os:w'.os=w.os
 tape:w'.tape=w.tape
 output:w'.output=w.output
 size:w.heap.size≤w'.heap.size
 block:∀ k,k<w.heap.size→¬ Own lp p w k→k∉[cp,bT]→k∉rd cp w→w'.heap[k]?=w.heap[k]?
 stay:∀ k,k<w.heap.size→Own lp p w' k→Own lp p w k
 own:∀ k,k<w.heap.size→k∈rd cp w'→k∈rd cp w
theorem CFr.trans {cp bT lp p:Nat} {a b c:World} (h:CFr cp bT lp p a b) (k:CFr cp bT lp p b c):CFr cp bT lp p a c :=
 ⟨k.os.trans h.os,k.tape.trans h.tape,k.output.trans h.output,Nat.le_trans h.size k.size,
  fun i hi hn hm hr=>(k.block i (Nat.lt_of_lt_of_le hi h.size) (fun ho=>hn (h.stay i hi ho)) hm (fun hx=>hr (h.own i hi hx))).trans (h.block i hi hn hm hr),
  fun i hi ho=>h.stay i hi (k.stay i (Nat.lt_of_lt_of_le hi h.size) ho),fun i hi ho=>h.own i hi (k.own i (Nat.lt_of_lt_of_le hi h.size) ho)⟩
structure CL (w:World) (B cp gp bT m lp p bD bN n:Nat) (c:ACo) (l:ALog) (d:ADisk):Prop where
 co:CoIn w B cp gp bT m c
 lg:∃ pv sv rv nD nN,LogIn w B lp p bD bN pv sv rv l d n nD nN
 led:w.heap[gp]?=some (ledO lp)
 ne:bT≠bD∧bT≠bN
 gp1:1≤gp
section
variable {w w':World} {B cp gp bT m m' lp p bD bN n n':Nat} {c c':ACo} {l l':ALog} {d d':ADisk}
theorem CL.free (h:CL w B cp gp bT m lp p bD bN n c l d):∀ k,k∈[cp,bT,gp]++rd cp w→¬ Own lp p w k∧∀ t,w.heap[k]?≠some (textO t):=by
 obtain ⟨pv,sv,rv,nD,nN,hl⟩:=h.lg
 obtain ⟨cs,hcp⟩:=h.co.isCo
 intro k hk
 rcases List.mem_append.1 hk with hk | hk
 ·simp at hk
  rcases hk with rfl | rfl | rfl
  ·exact ⟨hl.free hcp (by decide) (by decide) (by decide) (by decide) (by decide),fun t e=>by rw [hcp] at e;cases e⟩
  ·exact ⟨hl.freeMap h.co.txns.isMap h.ne.1 h.ne.2,fun t e=>by obtain ⟨es,c,e2⟩:=h.co.txns.isMap;rw [e2] at e;cases e⟩
  ·exact ⟨hl.free h.led (by decide) (by decide) (by decide) (by decide) (by decide),fun t e=>by rw [h.led] at e;cases e⟩
 ·obtain ⟨_,cc,t,e,ht⟩:=h.co.rdm hk
  rcases ht with rfl | rfl
  ·exact ⟨hl.free e (by decide) (by decide) (by decide) (by decide) (by decide),fun t e2=>by rw [e] at e2;cases e2⟩
  ·exact ⟨hl.free e (by decide) (by decide) (by decide) (by decide) (by decide),fun t e2=>by rw [e] at e2;cases e2⟩
theorem CL.turn (h:CL w B cp gp bT m lp p bD bN n c l d) (hc:CoIn w' B cp gp bT m' c') (hf:RFr cp [cp,bT] w w'):CL w' B cp gp bT m' lp p bD bN n c' l d∧CFr cp bT lp p w w':=by
 obtain ⟨pv,sv,rv,nD,nN,hl⟩:=h.lg
 have h1:=hl.apart hf.fr (fun k hk _=>h.free k (by
  rcases List.mem_append.1 hk with e | e
  ·simp at e;rcases e with e | e <;> simp [e]
  ·exact List.mem_append_right _ e))
 have hg:gp∉[cp,bT]++rd cp w:=by
  intro hm
  rcases List.mem_append.1 hm with e | e
  ·simp at e
   have hled:=h.led
   rcases e with e | e
   ·obtain ⟨cs,hcp⟩:=h.co.isCo;rw [e,hcp] at hled;cases hled
   ·obtain ⟨es,c,e2⟩:=h.co.txns.isMap;rw [e,e2] at hled;cases hled
  ·exact h.co.rd_not h.led (by decide) (by decide) e
 refine ⟨⟨hc,⟨pv,sv,rv,nD,nN,h1⟩,(hf.fr.block gp (Array.getElem?_eq_some_iff.1 h.led).1 hg).trans h.led,h.ne,h.gp1⟩,hf.fr.os,hf.fr.tape,hf.fr.output,hf.fr.size,fun k hk _ hm hr=>hf.block hk hm hr,fun k _ ho=>?_,hf.stay⟩
 rw [hl.own]
 exact (h1.own k).1 ho
theorem CL.new (h:CL w B cp gp bT m lp p bD bN n c l d) (hf:Fr [] w w'):CL w' B cp gp bT m lp p bD bN n c l d∧CFr cp bT lp p w w' :=
 h.turn (h.co.new hf) (hf.r h.co.lts.1 (by simp) (by simp))
theorem CL.log (h:CL w B cp gp bT m lp p bD bN n c l d) (hf:OFr lp p w w') (hl:∃ pv sv rv nD nN,LogIn w' B lp p bD bN pv sv rv l' d' n' nD nN):CL w' B cp gp bT m lp p bD bN n' c l' d'∧CFr cp bT lp p w w':=by
 have hfree:=h.free
 obtain ⟨rv,ov,h1,h2,h3,h4,h5⟩:=h.co.ex
 have hcp2:w'.heap[cp]?=w.heap[cp]?:=hf.block cp h.co.lts.1 (hfree cp (by simp)).1
 have row:∀ {e:TypeId} {k m:Nat} {v:Value} {xs:List Value},w.ownsRow B e k v m xs→(∀ g,v.ownBlock=some g→g∈rd cp w)→w'.ownsRow B e k v m xs:=by
  intro e k m v xs hr he
  refine ⟨hr.1,?_⟩
  rcases hr.2 with h1 | ⟨g,cap,cur,rfl,h2,h3,h4⟩
  ·exact .inl h1
  ·exact .inr ⟨g,cap,cur,rfl,h2,(hf.block g (Array.getElem?_eq_some_iff.1 h3).1 (hfree g (List.mem_append_right _ (he g rfl))).1).trans h3,h4⟩
 have hT:MapAs KU EX w' bT m c.txns:=by
  have hlt:=h.co.txns.lt
  obtain ⟨es,⟨es',c2,h1,h2⟩,r⟩:=h.co.txns
  exact ⟨es,⟨es',c2,(hf.block bT hlt (hfree bT (by simp)).1).trans h1,h2⟩,r⟩
 refine ⟨⟨⟨⟨rv,ov,hcp2.trans h1,row h2 (fun g hg=>by unfold rd rdO;rw [h1];simp [hg]),row h3 (fun g hg=>by unfold rd rdO;rw [h1];simp [hg]),h4,h5⟩,hT,⟨h.co.low.1,h.co.low.2.1,Nat.le_trans h.co.low.2.2 hf.size⟩,h.co.nums⟩,hl,(hf.block gp (Array.getElem?_eq_some_iff.1 h.led).1 (hfree gp (by simp)).1).trans h.led,h.ne,h.gp1⟩,hf.os,hf.tape,hf.output,hf.size,fun i hi hn _ _=>hf.block i hi hn,hf.stay,fun k _ hm=>by rw [rd_same hcp2] at hm;exact hm⟩
theorem CFr.cells (hf:CFr cp bT lp p w w') (h:CL w B cp gp bT m lp p bD bN n c l d) {k:Nat} {cc:Array Value} {t:TypeId} (hk:w.heap[k]?=some (.cells cc t (0,0))) (h1:t≠88) (h2:t≠175) (h3:t≠168) (h4:t≠34) (h5:t≠44) (h6:t≠226) (h7:t≠216) (h8:t≠212):w'.heap[k]?=some (.cells cc t (0,0)):=by
 obtain ⟨pv,sv,rv,nD,nN,hl⟩:=h.lg
 refine (hf.block k (Array.getElem?_eq_some_iff.1 hk).1 (hl.free hk h1 h2 h3 h4 h5) ?_ (h.co.rd_not hk h7 h8)).trans hk
 intro hm
 simp at hm
 rcases hm with e | e
 ·obtain ⟨cs,hcp⟩:=h.co.isCo;rw [e,hcp] at hk;cases hk;exact h6 rfl
 ·obtain ⟨es,c2,e2⟩:=h.co.txns.isMap;rw [e,e2] at hk;cases hk
end
section
variable {w w':World} {B cp gp bT m m' lp p bD bN n n':Nat} {c c':ACo} {l l':ALog} {d d':ADisk}
theorem CFr.hfr (hf:CFr cp bT lp p w w') (h:CL w B cp gp bT m lp p bD bN n c l d):IFr B w w':=by
 obtain ⟨pv,sv,rv,nD,nN,hl⟩:=h.lg
 exact ⟨⟨hf.os,hf.tape,hf.output,hf.size,fun k hk=>hf.block k (Nat.lt_of_lt_of_le hk hl.disk.base.2.2.2) (fun ho=>by have:=hl.ge ho;omega) (by have:=h.co.low;simp;omega) (fun hm=>by have:=(h.co.rdm hm).1;omega)⟩,fun k a b x y hk=>hf.cells h hk (by decide) (by decide) (by decide) (by decide) (by decide) (by decide) (by decide) (by decide),fun k x hk=>hf.cells h hk (by decide) (by decide) (by decide) (by decide) (by decide) (by decide) (by decide) (by decide)⟩
theorem CL.knob (h:CL w B cp gp bT m lp p bD bN n c l d) (a b:Int) (hf:Fr [p] w w') {pv:Value} (hb:w'.heap[p]?=some (dskO bD bN pv a b d.down)) (hb0:w.heap[p]?=some (dskO bD bN pv d.left d.full d.down)) :
  CL w' B cp gp bT m lp p bD bN n c l (d.knob a b)∧CFr cp bT lp p w w':=by
 obtain ⟨pv',sv,rv,nD,nN,hl⟩:=h.lg
 have e:pv'=pv:=by have:=hl.disk.blk;rw [hb0] at this;cases this;rfl
 subst e
 obtain ⟨h1,h2⟩:=hl.knob a b hf hb
 exact h.log h2 ⟨_,_,_,_,_,h1⟩
theorem CL.other {q:Nat} {cc:Array Value} {t:TypeId} (h:CL w B cp gp bT m lp p bD bN n c l d) (hf:Fr [q] w w') (hq:w.heap[q]?=some (.cells cc t (0,0))) (h1:t≠88) (h2:t≠175) (h3:t≠168) (h4:t≠34) (h5:t≠44) (h6:t≠9) (h7:t≠226) (h8:t≠272) (h9:t≠216) (h10:t≠212):CL w' B cp gp bT m lp p bD bN n c l d:=by
 obtain ⟨pv,sv,rv,nD,nN,hl⟩:=h.lg
 obtain ⟨cs,hcp⟩:=h.co.isCo
 have n1:q≠cp:=by intro e;rw [e,hcp] at hq;cases hq;exact h7 rfl
 have n3:q≠bT:=by intro e;obtain ⟨es,c2,e2⟩:=h.co.txns.isMap;rw [e,e2] at hq;cases hq
 have n5:gp≠q:=by intro e;have:=h.led;rw [e,hq] at this;cases this;exact h8 rfl
 exact ⟨h.co.fr hf (fun k hk=>by simp at hk;subst hk;exact ⟨n1,n3,h.co.rd_not hq h9 h10⟩),⟨_,_,_,_,_,hl.other hf hq h1 h2 h3 h4 h5 h6⟩,(hf.block gp (Array.getElem?_eq_some_iff.1 h.led).1 (by simpa using n5)).trans h.led,h.ne,h.gp1⟩
theorem CL.otherF {q:Nat} {cc:Array Value} {t:TypeId} (h:CL w B cp gp bT m lp p bD bN n c l d) (hf:Fr [q] w w') (hq:w.heap[q]?=some (.cells cc t (0,0))) (h1:t≠88) (h2:t≠175) (h3:t≠168) (h4:t≠34) (h5:t≠44) (h6:t≠9) (h7:t≠226) (h8:t≠272) (h9:t≠216) (h10:t≠212):CL w' B cp gp bT m lp p bD bN n c l d∧∀ k,Own lp p w' k→Own lp p w k:=by
 refine ⟨h.other hf hq h1 h2 h3 h4 h5 h6 h7 h8 h9 h10,fun k ho=>?_⟩
 obtain ⟨pv,sv,rv,nD,nN,hl⟩:=h.lg
 rw [hl.own]
 exact ((hl.other hf hq h1 h2 h3 h4 h5 h6).own k).1 ho
theorem CFr.young {w0:World} {q:Nat} (h:CFr cp bT lp p w0 w) (hf:Fr [q] w w') (hq:w0.heap.size≤q) (ho:∀ k,Own lp p w' k→Own lp p w k) (hc:w'.heap[cp]?=w.heap[cp]?):CFr cp bT lp p w0 w' :=
 ⟨hf.os.trans h.os,hf.tape.trans h.tape,hf.output.trans h.output,Nat.le_trans h.size hf.size,fun k hk h1 h2 h3=>(hf.block k (Nat.lt_of_lt_of_le hk h.size) (by simp;omega)).trans (h.block k hk h1 h2 h3),fun k hk hw=>h.stay k hk (ho k hw),fun k hk hw=>h.own k hk (by rw [rd_same hc] at hw;exact hw)⟩
end
end Go.Proofs.YtejiankgafjppaaGreatDoor
namespace Go.Proofs.YtejiankgafjppaaGreatDoor
open Go.RowKit Go.Shelf Go.Maps
open Sc
theorem tx12 {w:World} {s:Int} {b p0 p1 p2 p3 p4 p5 p6 p7 p8 z:Nat} (h:w.heap[b]?=some (.cells #[.int .i64 s,.int .u8 (p0:Int),.int .u8 (p1:Int),.int .u8 (p2:Int),.int .u8 (p3:Int),.int .u8 (p4:Int),.int .u8 (p5:Int),.int .u8 (p6:Int),.int .u8 (p7:Int),.int .u8 (p8:Int),.int .u64 (z:Int),.nilIface] 297 (0,0))):w.cell? ⟨b,0,none⟩=some (.int .i64 s)∧w.cell? ⟨b,1,none⟩=some (.int .u8 (p0:Int))∧w.cell? ⟨b,2,none⟩=some (.int .u8 (p1:Int))∧w.cell? ⟨b,3,none⟩=some (.int .u8 (p2:Int))∧w.cell? ⟨b,4,none⟩=some (.int .u8 (p3:Int))∧w.cell? ⟨b,5,none⟩=some (.int .u8 (p4:Int))∧w.cell? ⟨b,6,none⟩=some (.int .u8 (p5:Int))∧w.cell? ⟨b,7,none⟩=some (.int .u8 (p6:Int))∧w.cell? ⟨b,8,none⟩=some (.int .u8 (p7:Int))∧w.cell? ⟨b,9,none⟩=some (.int .u8 (p8:Int))∧w.cell? ⟨b,10,none⟩=some (.int .u64 (z:Int))∧w.cell? ⟨b,11,none⟩=some (.nilIface):=by
 have e0:=blk_cell h 0
 have e1:=blk_cell h 1
 have e2:=blk_cell h 2
 have e3:=blk_cell h 3
 have e4:=blk_cell h 4
 have e5:=blk_cell h 5
 have e6:=blk_cell h 6
 have e7:=blk_cell h 7
 have e8:=blk_cell h 8
 have e9:=blk_cell h 9
 have e10:=blk_cell h 10
 have e11:=blk_cell h 11
 simp at e0 e1 e2 e3 e4 e5 e6 e7 e8 e9 e10 e11
 exact ⟨e0,e1,e2,e3,e4,e5,e6,e7,e8,e9,e10,e11⟩
def ACo.comm (c:ACo) (t:Nat) (T:ATx):ACo:={ c with txns:=alPut c.txns t T,res:=c.res++[(t,5)],out:=c.out++(meant isToC T.parts).map fun k=>(t,k,5) }
set_option maxRecDepth 100000 in
set_option maxHeartbeats 8000000 in
theorem ccommit_yes (B cp gp bT m lp p bD bN n t:Nat) (c:ACo) (l:ALog) (d:ADisk) (T:ATx) (hok:T.Ok) (hyes:T.parts.any hasY=true) (w:World) (h:CL w B cp gp bT m lp p bD bN n c l d) (ht:t<18446744073709551616) (hm:m+20<67108864) (hn:n+3<67108864) (hB:2≤B) (hsg:l.filled<600→l.segs≠[]) (hpow:Pows w)
  (hke:(l.keep d 2 (str (be 8 t++meant hasY T.parts))).2.2=0) :
  Calls Tryz.prog 227 #[.pointer (some ⟨cp,0,none⟩),.int .u64 (t:Int),txV T] w fun e w'=>e=.returned .nilIface∧CL w' B cp gp bT (m+11) lp p bD bN (n+3) (c.comm t { T with state:=6 }) (l.keep d 2 (str (be 8 t++meant hasY T.parts))).1 (l.keep d 2 (str (be 8 t++meant hasY T.parts))).2.1∧CFr cp bT lp p w w':=by
 have HH:=toHid (fun W=>(has_any 278 hasY hasY_m hasY_en T hok W))
 have HE:=toHid (fun W=>committedE_any t T hok W ht)
 obtain ⟨S,hS⟩:∃ S,S=str (be 8 t++meant hasY T.parts):=⟨_,rfl⟩
 rw [← hS] at HE hke ⊢
 rw [hyes] at HH
 have hok6:ATx.Ok { T with state:=6 }:=hok
 obtain ⟨T6,hT6⟩:∃ T6:ATx,T6={ T with state:=6 }:=⟨_,rfl⟩
 rw [← hT6] at hok6 ⊢
 have HT6:=toHid hT6
 clear hS hyes hT6
 obtain ⟨s,ps,z⟩:=T
 obtain ⟨p0,p1,p2,p3,p4,p5,p6,p7,p8,hps⟩:=nine hok.1
 change ps=_ at hps
 subst hps
 rw [txV_lit] at HH HE ⊢
 have hT6:T6=⟨6,[p0,p1,p2,p3,p4,p5,p6,p7,p8],z⟩:=HT6.out
 have HPUT:=toHid (fun (W:World) (m':Nat) (h2:CoIn W B cp gp bT m' c) (hm':m' < maxLen)=>(by
  obtain ⟨w5,hr5,hm5,hg5⟩:=h2.txns.putRun Tryz.underlying224 hm' (k:=t) ht (v:=T6) hok6
  refine ⟨w5,?_,h2.setTxns (Fr.of_grown1 hg5) hm5 (by omega),Fr.of_grown1 hg5⟩
  have e:(EX.ev T6:Value)=txV T6:=rfl
  rw [e,hT6,txV_lit] at hr5
  exact hr5:∃ w5,(Instr.mapUpdate 224 (.map (some bT)) (.int .u64 (t:Int)) (.agg #[.int .i64 6,.int .u8 (p0:Int),.int .u8 (p1:Int),.int .u8 (p2:Int),.int .u8 (p3:Int),.int .u8 (p4:Int),.int .u8 (p5:Int),.int .u8 (p6:Int),.int .u8 (p7:Int),.int .u8 (p8:Int),.int .u64 (z:Int),.nilIface])).run Tryz.prog W=.ok () w5∧CoIn w5 B cp gp bT (m' + 1) { c with txns:=alPut c.txns t T6 }∧Fr [bT] W w5))
 obtain ⟨W0,hW0⟩:∃ W0,W0=w.alloc (.cells #[.int .i64 (s:Int),.int .u8 (p0:Int),.int .u8 (p1:Int),.int .u8 (p2:Int),.int .u8 (p3:Int),.int .u8 (p4:Int),.int .u8 (p5:Int),.int .u8 (p6:Int),.int .u8 (p7:Int),.int .u8 (p8:Int),.int .u64 (z:Int),.nilIface] 297):=⟨_,rfl⟩
 have hf0:Fr [] w W0:=by rw [hW0];exact (Fr.refl [] w).alloc _
 obtain ⟨hc0,hx0⟩:=h.new hf0
 have r0:W0.heap[w.heap.size]?=some (.cells #[.int .i64 (s:Int),.int .u8 (p0:Int),.int .u8 (p1:Int),.int .u8 (p2:Int),.int .u8 (p3:Int),.int .u8 (p4:Int),.int .u8 (p5:Int),.int .u8 (p6:Int),.int .u8 (p7:Int),.int .u8 (p8:Int),.int .u64 (z:Int),.nilIface] 297 (0,0)):=by rw [hW0];exact heap_alloc_new w _
 have hh0:=HH.out W0
 have hgp:=h.gp1
 have H0:=toHid (show CL W0 B cp gp bT m lp p bD bN n c l d∧CFr cp bT lp p w W0∧W0.heap[w.heap.size]?=some (.cells #[.int .i64 (s:Int),.int .u8 (p0:Int),.int .u8 (p1:Int),.int .u8 (p2:Int),.int .u8 (p3:Int),.int .u8 (p4:Int),.int .u8 (p5:Int),.int .u8 (p6:Int),.int .u8 (p7:Int),.int .u8 (p8:Int),.int .u64 (z:Int),.nilIface] 297 (0,0))∧Pows W0 from ⟨hc0,hx0,r0,(hx0.hfr h).pows hB hpow⟩)
 obtain ⟨y0,y1,y2,y3,y4,y5,y6,y7,y8,y9,ya,yb⟩:=tx12 r0
 rw [hW0] at y0 y1 y2 y3 y4 y5 y6 y7 y8 y9 ya yb
 clear h hf0 hc0 hx0 r0 hok hpow
 go_enter Tryz.func227,Tryz.ntmps227
 go_wp2_with fail
 rw [← hW0]
 clear hW0 y0 y1 y2 y3 y4 y5 y6 y7 y8 y9 ya yb
 refine hh0.mono ?_
 clear hh0
 rintro e w1 ⟨rfl,hf1⟩
 obtain ⟨hc1,hx1⟩:=H0.out.1.new hf1
 have r1:=(hf1.block w.heap.size (Array.getElem?_eq_some_iff.1 H0.out.2.2.1).1 (by simp)).trans H0.out.2.2.1
 obtain ⟨e0,e1,e2,e3,e4,e5,e6,e7,e8,e9,e10,e11⟩:=tx12 r1
 obtain ⟨rv,ov,g1,_⟩:=hc1.co.ex
 have c0:=blk_cell g1 0
 simp at c0
 rw [lgP_pos hgp] at c0
 have hce:=HE.out w1.drew
 have H1:=toHid (show CL w1 B cp gp bT m lp p bD bN n c l d∧CFr cp bT lp p w w1∧w1.heap[w.heap.size]?=some (.cells #[.int .i64 (s:Int),.int .u8 (p0:Int),.int .u8 (p1:Int),.int .u8 (p2:Int),.int .u8 (p3:Int),.int .u8 (p4:Int),.int .u8 (p5:Int),.int .u8 (p6:Int),.int .u8 (p7:Int),.int .u8 (p8:Int),.int .u64 (z:Int),.nilIface] 297 (0,0))∧Pows w1 from ⟨hc1,H0.out.2.1.trans hx1,r1,(hx1.hfr H0.out.1).pows hB H0.out.2.2.2⟩)
 have hl1:=(Array.getElem?_eq_some_iff.1 r1).1
 have hl2:=hc1.co.lts.1
 clear hf1 hc1 hx1 r1 H0 g1
 go_wp2
 go_region_held3 (fun w'=>w'.cell? ⟨cp,0,none⟩=some (.pointer (some ⟨gp,0,none⟩))∧w'.cell? ⟨w.heap.size,0,none⟩=some (.int .i64 (s:Int))∧w'.cell? ⟨w.heap.size,1,none⟩=some (.int .u8 (p0:Int))∧w'.cell? ⟨w.heap.size,2,none⟩=some (.int .u8 (p1:Int))∧w'.cell? ⟨w.heap.size,3,none⟩=some (.int .u8 (p2:Int))∧w'.cell? ⟨w.heap.size,4,none⟩=some (.int .u8 (p3:Int))∧w'.cell? ⟨w.heap.size,5,none⟩=some (.int .u8 (p4:Int))∧w'.cell? ⟨w.heap.size,6,none⟩=some (.int .u8 (p5:Int))∧w'.cell? ⟨w.heap.size,7,none⟩=some (.int .u8 (p6:Int))∧w'.cell? ⟨w.heap.size,8,none⟩=some (.int .u8 (p7:Int))∧w'.cell? ⟨w.heap.size,9,none⟩=some (.int .u8 (p8:Int))∧w'.cell? ⟨w.heap.size,10,none⟩=some (.int .u64 (z:Int))∧w'.cell? ⟨w.heap.size,11,none⟩=some (.nilIface))
  (simp [*])
  (first | (go_at_call 275;refine hce.mono ?_;rintro e w2 ⟨rfl,hb2⟩;have hf2:Fr [] w1 w2:=(Fr.refl [] w1).drew.trans (Fr.of_below hb2 []);obtain ⟨hc2,hx2⟩:=H1.out.1.new hf2;have r2:=(hf2.block w.heap.size hl1 (by simp)).trans H1.out.2.2.1;obtain ⟨a0,a1,a2,a3,a4,a5,a6,a7,a8,a9,aa,ab⟩:=tx12 r2;have k0:=(World.cell?_of_block (a:=⟨cp,0,none⟩) (hf2.block cp hl2 (by simp))).trans c0;have H2:=toHid (show CL w2 B cp gp bT m lp p bD bN n c l d∧CFr cp bT lp p w w2∧w2.heap[w.heap.size]?=some (.cells #[.int .i64 (s:Int),.int .u8 (p0:Int),.int .u8 (p1:Int),.int .u8 (p2:Int),.int .u8 (p3:Int),.int .u8 (p4:Int),.int .u8 (p5:Int),.int .u8 (p6:Int),.int .u8 (p7:Int),.int .u8 (p8:Int),.int .u64 (z:Int),.nilIface] 297 (0,0))∧Pows w2 from ⟨hc2,H1.out.2.1.trans hx2,r2,(hx2.hfr H1.out.1).pows hB H1.out.2.2.2⟩);clear hf2 hb2 hc2 hx2 r2) | (go_at_call 134;obtain ⟨pv,sv,rvv,nD,nN,hlg⟩:=H2.out.1.lg;refine (keep_any B gp lp p bD bN n nD nN 2 pv sv rvv l d S w2 H2.out.1.led hlg (by omega) hn hB hsg H2.out.2.2.2).mono ?_;rintro e w3 ⟨rfl,hl3,ho3⟩;obtain ⟨hc3,hx3⟩:=H2.out.1.log ho3 hl3;have r3:=hx3.cells H2.out.1 H2.out.2.2.1 (by decide) (by decide) (by decide) (by decide) (by decide) (by decide) (by decide) (by decide);obtain ⟨b0,b1,b2,b3,b4,b5,b6,b7,b8,b9,ba,bb⟩:=tx12 r3;obtain ⟨rv3,ov3,g3,_⟩:=hc3.co.ex;have n0:=blk_cell g3 0;simp at n0;rw [lgP_pos hgp] at n0;have H3:=toHid (show CL w3 B cp gp bT m lp p bD bN (n+3) c (l.keep d 2 S).1 (l.keep d 2 S).2.1∧CFr cp bT lp p w w3∧w3.heap[w.heap.size]?=some (.cells #[.int .i64 (s:Int),.int .u8 (p0:Int),.int .u8 (p1:Int),.int .u8 (p2:Int),.int .u8 (p3:Int),.int .u8 (p4:Int),.int .u8 (p5:Int),.int .u8 (p6:Int),.int .u8 (p7:Int),.int .u8 (p8:Int),.int .u64 (z:Int),.nilIface] 297 (0,0)) from ⟨hc3,H2.out.2.1.trans hx3,r3⟩);clear hlg hl3 ho3 hc3 hx3 r3 g3))
 rw [errN_ok]
 have fz:=blk_free H3.out.2.2 0
 have hw3:w.heap.size<w3.heap.size:=(Array.getElem?_eq_some_iff.1 H3.out.2.2).1
 go_wp2
 obtain ⟨W4,hW4⟩:∃ W4,W4=w3.setCell ⟨w.heap.size,0,none⟩ (.int .i64 6):=⟨_,rfl⟩
 rw [← hW4]
 have hf4:Fr [w.heap.size] w3 W4:=by rw [hW4];exact Fr.set1 (by simp) _ _
 have r4:W4.heap[w.heap.size]?=some (.cells #[.int .i64 6,.int .u8 (p0:Int),.int .u8 (p1:Int),.int .u8 (p2:Int),.int .u8 (p3:Int),.int .u8 (p4:Int),.int .u8 (p5:Int),.int .u8 (p6:Int),.int .u8 (p7:Int),.int .u8 (p8:Int),.int .u64 (z:Int),.nilIface] 297 (0,0)):=by
  rw [hW4]
  have:=blk_set H3.out.2.2 0 (.int .i64 6)
  simpa using this
 obtain ⟨hc4,ho4⟩:=H3.out.1.otherF hf4 H3.out.2.2 (by decide) (by decide) (by decide) (by decide) (by decide) (by decide) (by decide) (by decide) (by decide) (by decide)
 have hx4:=H3.out.2.1.young hf4 (Nat.le_refl _) ho4 (hf4.block cp H3.out.1.co.lts.1 (by simp;intro e;obtain ⟨cs,hcs⟩:=H3.out.1.co.isCo;rw [e,H3.out.2.2] at hcs;cases hcs))
 obtain ⟨d0,d1,d2,d3,d4,d5,d6,d7,d8,d9,da,db⟩:=tx12 r4
 obtain ⟨rv4,ov4,g4,_⟩:=hc4.co.ex
 have u1:=blk_cell g4 1
 simp at u1
 obtain ⟨w5,hr5,hc5,hf5⟩:=HPUT.out W4.drew m (hc4.co.new (Fr.refl [] W4).drew) (by unfold maxLen;omega)
 have hlt4:=hc4.co.lts
 have hne4:¬ w.heap.size=bT:=by
  intro e
  obtain ⟨es,cc,e2⟩:=hc4.co.txns.isMap
  rw [← e,r4] at e2;cases e2
 have r5:=(hf5.block w.heap.size (by show w.heap.size<W4.heap.size;have:=hf4.size;omega) (by simpa using hne4)).trans r4
 obtain ⟨t0,t1,t2,t3,t4,t5,t6,t7,t8,t9,ta,tb⟩:=tx12 r5
 have u5:=(World.cell?_of_block (a:=⟨cp,1,none⟩) (hf5.block cp hlt4.1 (by simpa using hlt4.2.2))).trans u1
 have H5:=toHid (show CL w5 B cp gp bT (m+1) lp p bD bN (n+3) { c with txns:=alPut c.txns t T6 } (l.keep d 2 S).1 (l.keep d 2 S).2.1∧CFr cp bT lp p w w5 from by
  have hf45:Fr [bT] W4 w5:=⟨hf5.os,hf5.tape,hf5.output,hf5.size,hf5.block⟩
  obtain ⟨k1,k2⟩:=hc4.turn hc5 (hf45.r hc4.co.lts.1 (by simpa using hc4.co.lts.2.2) (by simp))
  exact ⟨k1,hx4.trans k2⟩)
 clear hf4 r4 hc4 ho4 hx4 g4 hc5 hf5 r5 hW4 fz
 clear b0 b1 b2 b3 b4 b5 b6 b7 b8 b9 ba bb a0 a1 a2 a3 a4 a5 a6 a7 a8 a9 aa ab e0 e1 e2 e3 e4 e5 e6 e7 e8 e9 e10 e11 c0 k0 n0
 go_region_held3 (fun w'=>w'.cell? ⟨cp,1,none⟩=some (.map (some bT))∧w'.cell? ⟨w.heap.size,0,none⟩=some (.int .i64 6)∧w'.cell? ⟨w.heap.size,1,none⟩=some (.int .u8 (p0:Int))∧w'.cell? ⟨w.heap.size,2,none⟩=some (.int .u8 (p1:Int))∧w'.cell? ⟨w.heap.size,3,none⟩=some (.int .u8 (p2:Int))∧w'.cell? ⟨w.heap.size,4,none⟩=some (.int .u8 (p3:Int))∧w'.cell? ⟨w.heap.size,5,none⟩=some (.int .u8 (p4:Int))∧w'.cell? ⟨w.heap.size,6,none⟩=some (.int .u8 (p5:Int))∧w'.cell? ⟨w.heap.size,7,none⟩=some (.int .u8 (p6:Int))∧w'.cell? ⟨w.heap.size,8,none⟩=some (.int .u8 (p7:Int))∧w'.cell? ⟨w.heap.size,9,none⟩=some (.int .u8 (p8:Int))∧w'.cell? ⟨w.heap.size,10,none⟩=some (.int .u64 (z:Int))∧w'.cell? ⟨w.heap.size,11,none⟩=some (.nilIface))
  (simp [*])
  (fail)
 have hbe:=became_any B cp gp bT (m+1) t 5 _ w5 H5.out.1.co (by omega)
 go_wp2_with fail
 refine hbe.mono ?_
 clear hbe
 rintro e w6 ⟨rfl,hc6,hf6⟩
 obtain ⟨k6,x6⟩:=H5.out.1.turn hc6 (RFr.mono hf6 (by simp))
 have hse:=send_any B cp gp bT (m+1+1) t 214 isToC isToC_m isToC_en 5 _ w6 hc6 ht (by omega)
 have htx:({ c with txns:=alPut c.txns t T6,res:=c.res++[(t,5)] }:ACo).tx t=T6:=tx_put _ t T6
 rw [htx] at hse
 clear htx
 have H6:=toHid (show CL w6 B cp gp bT (m+1+1) lp p bD bN (n+3) { c with txns:=alPut c.txns t T6,res:=c.res++[(t,5)] } (l.keep d 2 S).1 (l.keep d 2 S).2.1∧CFr cp bT lp p w w6 from ⟨k6,H5.out.2.trans x6⟩)
 clear hc6 hf6 k6 x6
 go_wp2_with fail
 refine hse.mono ?_
 clear hse
 rintro e w7 ⟨rfl,hc7,hf7⟩
 obtain ⟨k7,x7⟩:=H6.out.1.turn hc7 (RFr.mono hf7 (by simp))
 have H7:=toHid (show CL w7 B cp gp bT (m+11) lp p bD bN (n+3) (c.comm t T6) (l.keep d 2 S).1 (l.keep d 2 S).2.1∧CFr cp bT lp p w w7 from ⟨by rw [show m+11=m+1+1+9 by omega];exact k7,H6.out.2.trans x7⟩)
 clear hc7 hf7 k7 x7
 go_wp2
 go_ret
 exact ⟨rfl,H7.out⟩
end Go.Proofs.YtejiankgafjppaaGreatDoor
