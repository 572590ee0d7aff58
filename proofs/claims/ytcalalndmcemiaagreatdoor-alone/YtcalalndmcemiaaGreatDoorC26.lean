import Derived.Test.YtcalalndmcemiaaGreatDoorC25
set_option maxRecDepth 100000
set_option maxHeartbeats 16000000
namespace Go.Proofs.YtcalalndmcemiaaGreatDoor
open Go.RowKit Go.Maps Go.Shelf
open Sc
theorem jQd (B cp lg bT n t k:Nat) (hk:k<9) (c:ACo) (w:World) (h:CoIn w B cp lg bT n c) (ht:t<18446744073709551616) (hst:(c.tx t).state=6) (hpt:(c.tx t).parts.getD k 0=2) (hany:((c.tx t).parts.set k 5).any jDf=true) (hn:n+1<67108864) :
  Calls Tryz.prog 251 #[.pointer (some ⟨cp,0,none⟩),.int .u64 (t:Int),.int .i64 (k:Int)] w λe w'=>e=.returned .nilIface∧CoIn w' B cp lg bT (n+1) { c with txns:=jAb c.txns t { c.tx t with parts:=(c.tx t).parts.set k 5 } }∧RFr cp [cp,bT] w w':=by
 have hcoin:=h
 have hok:=hcoin.okT t
 have hla:=hcoin.lookT ht
 obtain ⟨rv,ov,g1,_⟩:=hcoin.ex
 have c1:=jA0 g1 1
 simp at c1
 have hcl:=hcoin.lts
 obtain ⟨T,hT⟩:∃ T,T=c.tx t:=⟨_,rfl⟩
 rw [← hT] at hok hst hpt hany hla ⊢
 clear hT
 obtain ⟨T2,hT2⟩:∃ T2:ATx,T2={ T with parts:=T.parts.set k 5 }:=⟨_,rfl⟩
 have hok2:T2.Ok:=by rw [hT2];exact jHr hok oE
 have e2p:T.parts.set k 5=T2.parts:=by rw [hT2]
 rw [e2p] at hany
 rw [← hT2]
 have hat0:=λW=>jGw T hok k hk W
 rw [hpt] at hat0
 have hwi:=λW=>jEt T hok k 5 hk W
 rw [← hT2] at hwi
 obtain ⟨q0,q1,q2,q3,q4,q5,q6,q7,q8,hq⟩:=nine hok2.1
 have hlit2:txV T2=.agg #[.int .i64 6,.int .u8 (q0:Int),.int .u8 (q1:Int),.int .u8 (q2:Int),.int .u8 (q3:Int),.int .u8 (q4:Int),.int .u8 (q5:Int),.int .u8 (q6:Int),.int .u8 (q7:Int),.int .u8 (q8:Int),.int .u64 (T.since:Int),.nilIface]:=by
  have e:T2=⟨6,[q0,q1,q2,q3,q4,q5,q6,q7,q8],T.since⟩:=by
   have e1:T2.state=6:=by rw [hT2];exact hst
   have e2:T2.since=T.since:=by rw [hT2]
   rw [← e1,← e2,← hq]
  rw [e,jAl]
  rfl
 rw [hlit2] at hwi
 have HPUT:=jA1 (λ(W:World) (m':Nat) (h2:CoIn W B cp lg bT m' c) (hm':m' < maxLen)=>(by
  obtain ⟨w5,hr5,hm5,hg5⟩:=h2.txns.putRun Tryz.underlying118 hm' (k:=t) ht (v:=T2) hok2
  refine ⟨w5,?_,h2.setTxns (Fr.of_grown1 hg5) hm5 oE,Fr.of_grown1 hg5⟩
  have e:(EX.ev T2:Value)=txV T2:=rfl
  rw [e,hlit2] at hr5
  exact hr5:∃ w5,(Instr.mapUpdate 118 (.map (some bT)) (.int .u64 (t:Int)) (.agg #[.int .i64 6,.int .u8 (q0:Int),.int .u8 (q1:Int),.int .u8 (q2:Int),.int .u8 (q3:Int),.int .u8 (q4:Int),.int .u8 (q5:Int),.int .u8 (q6:Int),.int .u8 (q7:Int),.int .u8 (q8:Int),.int .u64 (T.since:Int),.nilIface])).run Tryz.prog W=.ok () w5∧CoIn w5 B cp lg bT (m' + 1) { c with txns:=jAb c.txns t T2 }∧Fr [bT] W w5))
 have HHA:=jA1 (λW=>jFb 183 jDf jMd jIf T2 hok2 W)
 rw [hany,hlit2] at HHA
 have HWI:=jA1 hwi
 clear hT2 hq hwi hpt hany e2p hlit2
 obtain ⟨s,ps,z⟩:=T
 obtain ⟨p0,p1,p2,p3,p4,p5,p6,p7,p8,hps⟩:=nine hok.1
 change ps=_ at hps
 subst hps
 change s=6 at hst
 subst hst
 rw [jAl] at hla
 simp only [jAl] at hat0
 have HI:=jA1 h
 obtain ⟨W0,hW0⟩:∃ W0,W0=w.alloc (.cells #[.int .i64 6,.int .u8 (p0:Int),.int .u8 (p1:Int),.int .u8 (p2:Int),.int .u8 (p3:Int),.int .u8 (p4:Int),.int .u8 (p5:Int),.int .u8 (p6:Int),.int .u8 (p7:Int),.int .u8 (p8:Int),.int .u64 (z:Int),.nilIface] 128):=⟨_,rfl⟩
 have hf0:Fr [] w W0:=by rw [hW0];exact (Fr.refl [] w).alloc _
 have r0:W0.heap[w.heap.size]?=some (.cells #[.int .i64 6,.int .u8 (p0:Int),.int .u8 (p1:Int),.int .u8 (p2:Int),.int .u8 (p3:Int),.int .u8 (p4:Int),.int .u8 (p5:Int),.int .u8 (p6:Int),.int .u8 (p7:Int),.int .u8 (p8:Int),.int .u64 (z:Int),.nilIface] 128 (0,0)):=by rw [hW0];exact heap_alloc_new w _
 have hat:=hat0 W0
 have hl0:=(Array.getElem?_eq_some_iff.1 r0).1
 have H0:=jA1 (And.intro hf0 r0)
 clear h g1 hat0 hf0 r0 hcoin
 go_enter Tryz.func251,Tryz.ntmps251
 go_wp2_with fail
 rw [← hW0]
 clear hW0
 refine hat.mono ?_
 clear hat
 rintro e w2 ⟨rfl,hf2⟩
 have r2:=(hf2.block w.heap.size hl0 sE).trans H0.out.2
 obtain ⟨x0,x1,x2,x3,x4,x5,x6,x7,x8,x9,xa,xb⟩:=tx12 r2
 have hwi:=HWI.out w2
 have H2:=jA1 (H0.out.1.trans hf2)
 clear hf2 r2
 go_wp2_with fail
 refine hwi.mono ?_
 clear hwi x0 x1 x2 x3 x4 x5 x6 x7 x8 x9 xa xb
 rintro e w3 ⟨rfl,hf3⟩
 obtain ⟨W4,hW4⟩:∃ W4,W4=w3.alloc (.cells #[.int .i64 6,.int .u8 (q0:Int),.int .u8 (q1:Int),.int .u8 (q2:Int),.int .u8 (q3:Int),.int .u8 (q4:Int),.int .u8 (q5:Int),.int .u8 (q6:Int),.int .u8 (q7:Int),.int .u8 (q8:Int),.int .u64 (z:Int),.nilIface] 128):=⟨_,rfl⟩
 have hf4:Fr [] w W4:=by rw [hW4];exact (H2.out.trans hf3).alloc _
 have r4:W4.heap[w3.heap.size]?=some (.cells #[.int .i64 6,.int .u8 (q0:Int),.int .u8 (q1:Int),.int .u8 (q2:Int),.int .u8 (q3:Int),.int .u8 (q4:Int),.int .u8 (q5:Int),.int .u8 (q6:Int),.int .u8 (q7:Int),.int .u8 (q8:Int),.int .u64 (z:Int),.nilIface] 128 (0,0)):=by rw [hW4];exact heap_alloc_new w3 _
 have hl4:=(Array.getElem?_eq_some_iff.1 r4).1
 have H4:=jA1 (And.intro hf4 r4)
 have hha:=HHA.out W4
 clear hf4 r4 hf3
 go_wp2_with fail
 rw [← hW4]
 clear hW4
 refine hha.mono ?_
 clear hha
 rintro e w5 ⟨rfl,hf5⟩
 have H5:=jA1 (And.intro (H4.out.1.trans hf5) ((hf5.block w3.heap.size hl4 sE).trans H4.out.2))
 clear hf5
 go_wp2
 obtain ⟨d0,d1,d2,d3,d4,d5,d6,d7,d8,d9,da,db⟩:=tx12 H5.out.2
 have u1:=(World.cell?_of_block (a:=⟨cp,1,none⟩) (H5.out.1.block cp hcl.1 sE)).trans c1
 obtain ⟨w6,hr6,hc6,hf6⟩:=HPUT.out w5.drew n (HI.out.new H5.out.1.drew) (by unfold maxLen;omega)
 have hne:¬ w3.heap.size=bT:=by
  intro e
  obtain ⟨es,cc,e2⟩:=(HI.out.new H5.out.1).txns.isMap
  rw [← e,H5.out.2] at e2;cases e2
 have r6:=(hf6.block w3.heap.size (Array.getElem?_eq_some_iff.1 H5.out.2).1 (by simpa using hne)).trans H5.out.2
 obtain ⟨t0,t1,t2,t3,t4,t5,t6,t7,t8,t9,ta,tb⟩:=tx12 r6
 have u6:=(World.cell?_of_block (a:=⟨cp,1,none⟩) (hf6.block cp (by have:=H5.out.1.size;show cp<w5.heap.size;omega) (by simpa using hcl.2.2))).trans u1
 have hf6':Fr [bT] w5 w6:=⟨hf6.os,hf6.tape,hf6.output,hf6.size,hf6.block⟩
 have H6:=jA1 (show CoIn w6 B cp lg bT (n+1) { c with txns:=jAb c.txns t T2 }∧RFr cp [cp,bT] w w6 from ⟨hc6,RFr.trans (H5.out.1.r hcl.1 sE sE) (hf6'.r (Nat.lt_of_lt_of_le hcl.1 H5.out.1.size) (by simpa using hcl.2.2) sE)⟩)
 clear hc6 hf6 hf6' r6
 go_region_held3 (λw'=>w'.cell? ⟨cp,1,none⟩=some (.map (some bT))∧w'.cell? ⟨w3.heap.size,0,none⟩=some (.int .i64 6)∧w'.cell? ⟨w3.heap.size,1,none⟩=some (.int .u8 (q0:Int))∧w'.cell? ⟨w3.heap.size,2,none⟩=some (.int .u8 (q1:Int))∧w'.cell? ⟨w3.heap.size,3,none⟩=some (.int .u8 (q2:Int))∧w'.cell? ⟨w3.heap.size,4,none⟩=some (.int .u8 (q3:Int))∧w'.cell? ⟨w3.heap.size,5,none⟩=some (.int .u8 (q4:Int))∧w'.cell? ⟨w3.heap.size,6,none⟩=some (.int .u8 (q5:Int))∧w'.cell? ⟨w3.heap.size,7,none⟩=some (.int .u8 (q6:Int))∧w'.cell? ⟨w3.heap.size,8,none⟩=some (.int .u8 (q7:Int))∧w'.cell? ⟨w3.heap.size,9,none⟩=some (.int .u8 (q8:Int))∧w'.cell? ⟨w3.heap.size,10,none⟩=some (.int .u64 (z:Int))∧w'.cell? ⟨w3.heap.size,11,none⟩=some (.nilIface))
  (simp [*])
  (fail)
 go_wp2
 go_ret
 exact ⟨rfl,H6.out⟩
theorem jQs (B cp gp bT m lp p bD bN n t k:Nat) (hk:k<9) (c:ACo) (l:ALog) (d:ADisk) (w:World) (h:CL w B cp gp bT m lp p bD bN n c l d) (ht:t<18446744073709551616) (hst:(c.tx t).state=6) (hpt:(c.tx t).parts.getD k 0=2) (hany:((c.tx t).parts.set k 5).any jDf=false) (hn:n+3<67108864) (hB:2≤B) (hsg:l.filled<600→l.segs≠[]) (hpow:Pows w) (hke:(l.note d 3 (str (be 8 t))).2.2=0) :
  Calls Tryz.prog 251 #[.pointer (some ⟨cp,0,none⟩),.int .u64 (t:Int),.int .i64 (k:Int)] w λe w'=>e=.returned .nilIface∧CL w' B cp gp bT m lp p bD bN (n+3) { c with txns:=jAi c.txns t } (l.note d 3 (str (be 8 t))).1 (l.note d 3 (str (be 8 t))).2.1∧CFr cp bT lp p w w':=by
 have hcoin:=h.co
 have hok:=hcoin.okT t
 have hla:=hcoin.lookT ht
 obtain ⟨rv,ov,g1,_⟩:=hcoin.ex
 have c1:=jA0 g1 1
 simp at c1
 have hcl:=hcoin.lts
 obtain ⟨T,hT⟩:∃ T,T=c.tx t:=⟨_,rfl⟩
 rw [← hT] at hok hst hpt hany hla
 clear hT
 obtain ⟨T2,hT2⟩:∃ T2:ATx,T2={ T with parts:=T.parts.set k 5 }:=⟨_,rfl⟩
 have hok2:T2.Ok:=by rw [hT2];exact jHr hok oE
 have e2p:T.parts.set k 5=T2.parts:=by rw [hT2]
 rw [e2p] at hany
 have hat0:=λW=>jGw T hok k hk W
 rw [hpt] at hat0
 have hwi:=λW=>jEt T hok k 5 hk W
 rw [← hT2] at hwi
 obtain ⟨q0,q1,q2,q3,q4,q5,q6,q7,q8,hq⟩:=nine hok2.1
 have hlit2:txV T2=.agg #[.int .i64 6,.int .u8 (q0:Int),.int .u8 (q1:Int),.int .u8 (q2:Int),.int .u8 (q3:Int),.int .u8 (q4:Int),.int .u8 (q5:Int),.int .u8 (q6:Int),.int .u8 (q7:Int),.int .u8 (q8:Int),.int .u64 (T.since:Int),.nilIface]:=by
  have e:T2=⟨6,[q0,q1,q2,q3,q4,q5,q6,q7,q8],T.since⟩:=by
   have e1:T2.state=6:=by rw [hT2];exact hst
   have e2:T2.since=T.since:=by rw [hT2]
   rw [← e1,← e2,← hq]
  rw [e,jAl]
  rfl
 rw [hlit2] at hwi
 have HHA:=jA1 (λW=>jFb 183 jDf jMd jIf T2 hok2 W)
 rw [hany,hlit2] at HHA
 have HWI:=jA1 hwi
 clear hT2 hq hwi hpt hany e2p hlit2
 obtain ⟨s,ps,z⟩:=T
 obtain ⟨p0,p1,p2,p3,p4,p5,p6,p7,p8,hps⟩:=nine hok.1
 change ps=_ at hps
 subst hps
 change s=6 at hst
 subst hst
 rw [jAl] at hla
 simp only [jAl] at hat0
 have HI:=jA1 (And.intro h hpow)
 have hgp:=h.gp1
 obtain ⟨W0,hW0⟩:∃ W0,W0=w.alloc (.cells #[.int .i64 6,.int .u8 (p0:Int),.int .u8 (p1:Int),.int .u8 (p2:Int),.int .u8 (p3:Int),.int .u8 (p4:Int),.int .u8 (p5:Int),.int .u8 (p6:Int),.int .u8 (p7:Int),.int .u8 (p8:Int),.int .u64 (z:Int),.nilIface] 128):=⟨_,rfl⟩
 have hf0:Fr [] w W0:=by rw [hW0];exact (Fr.refl [] w).alloc _
 have r0:W0.heap[w.heap.size]?=some (.cells #[.int .i64 6,.int .u8 (p0:Int),.int .u8 (p1:Int),.int .u8 (p2:Int),.int .u8 (p3:Int),.int .u8 (p4:Int),.int .u8 (p5:Int),.int .u8 (p6:Int),.int .u8 (p7:Int),.int .u8 (p8:Int),.int .u64 (z:Int),.nilIface] 128 (0,0)):=by rw [hW0];exact heap_alloc_new w _
 have hat:=hat0 W0
 have hl0:=(Array.getElem?_eq_some_iff.1 r0).1
 have H0:=jA1 (And.intro hf0 r0)
 clear h hpow g1 hat0 hf0 r0 hcoin
 go_enter Tryz.func251,Tryz.ntmps251
 go_wp2_with fail
 rw [← hW0]
 clear hW0
 refine hat.mono ?_
 clear hat
 rintro e w2 ⟨rfl,hf2⟩
 have r2:=(hf2.block w.heap.size hl0 sE).trans H0.out.2
 obtain ⟨x0,x1,x2,x3,x4,x5,x6,x7,x8,x9,xa,xb⟩:=tx12 r2
 have hwi:=HWI.out w2
 have H2:=jA1 (H0.out.1.trans hf2)
 clear hf2 r2
 go_wp2_with fail
 refine hwi.mono ?_
 clear hwi x0 x1 x2 x3 x4 x5 x6 x7 x8 x9 xa xb
 rintro e w3 ⟨rfl,hf3⟩
 obtain ⟨W4,hW4⟩:∃ W4,W4=w3.alloc (.cells #[.int .i64 6,.int .u8 (q0:Int),.int .u8 (q1:Int),.int .u8 (q2:Int),.int .u8 (q3:Int),.int .u8 (q4:Int),.int .u8 (q5:Int),.int .u8 (q6:Int),.int .u8 (q7:Int),.int .u8 (q8:Int),.int .u64 (z:Int),.nilIface] 128):=⟨_,rfl⟩
 have hf4:Fr [] w W4:=by rw [hW4];exact (H2.out.trans hf3).alloc _
 have r4:W4.heap[w3.heap.size]?=some (.cells #[.int .i64 6,.int .u8 (q0:Int),.int .u8 (q1:Int),.int .u8 (q2:Int),.int .u8 (q3:Int),.int .u8 (q4:Int),.int .u8 (q5:Int),.int .u8 (q6:Int),.int .u8 (q7:Int),.int .u8 (q8:Int),.int .u64 (z:Int),.nilIface] 128 (0,0)):=by rw [hW4];exact heap_alloc_new w3 _
 have hl4:=(Array.getElem?_eq_some_iff.1 r4).1
 have H4:=jA1 (And.intro hf4 r4)
 have hha:=HHA.out W4
 clear hf4 r4 hf3
 go_wp2_with fail
 rw [← hW4]
 clear hW4
 refine hha.mono ?_
 clear hha
 rintro e w5 ⟨rfl,hf5⟩
 have H5:=jA1 (And.intro (H4.out.1.trans hf5) ((hf5.block w3.heap.size hl4 sE).trans H4.out.2))
 clear hf5
 go_wp2
 obtain ⟨hc5,hx5⟩:=HI.out.1.new H5.out.1
 obtain ⟨rv5,ov5,g5,_⟩:=hc5.co.ex
 have u0:=jA0 g5 0
 simp at u0
 rw [jB8 hgp] at u0
 have hl5:=hc5.co.lts.1
 have hen:=jNx t w5.drew ht
 have K5:=jA1 (show CL w5 B cp gp bT m lp p bD bN n c l d∧CFr cp bT lp p w w5∧Pows w5 from ⟨hc5,hx5,(hx5.hfr HI.out.1).pows hB HI.out.2⟩)
 clear hc5 hx5 g5
 go_region_held3 (λw'=>w'.cell? ⟨cp,0,none⟩=some (.pointer (some ⟨gp,0,none⟩)))
  (simp [*])
  (first | (go_at_call 283;refine hen.mono ?_;rintro e w6 ⟨rfl,hb6⟩;have hf6:Fr [] w5 w6:=(Fr.refl [] w5).drew.trans (Fr.of_below hb6 []);obtain ⟨hc6,hx6⟩:=K5.out.1.new hf6;have k0:=(World.cell?_of_block (a:=⟨cp,0,none⟩) (hf6.block cp hl5 (by simp))).trans u0;have K6:=jA1 (show CL w6 B cp gp bT m lp p bD bN n c l d∧CFr cp bT lp p w w6∧Pows w6 from ⟨hc6,K5.out.2.1.trans hx6,(hx6.hfr K5.out.1).pows hB K5.out.2.2⟩);clear hf6 hb6 hc6 hx6) | (go_at_call 148;obtain ⟨pv,sv,rvv,nD,nN,hlg⟩:=K6.out.1.lg;refine (jJ2 B gp lp p bD bN n nD nN 3 pv sv rvv l d (str (be 8 t)) w6 K6.out.1.led hlg (by omega) hn hB hsg K6.out.2.2).mono ?_;rintro e w7 ⟨rfl,hl7,ho7⟩;obtain ⟨hc7,hx7⟩:=K6.out.1.log ho7 hl7;obtain ⟨rv7,ov7,g7,_⟩:=hc7.co.ex;have n0:=jA0 g7 0;have n1:=jA0 g7 1;simp at n0 n1;rw [jB8 hgp] at n0;have K7:=jA1 (show CL w7 B cp gp bT m lp p bD bN (n+3) c (l.note d 3 (str (be 8 t))).1 (l.note d 3 (str (be 8 t))).2.1∧CFr cp bT lp p w w7 from ⟨hc7,K6.out.2.1.trans hx7⟩);clear hlg hl7 ho7 hc7 hx7 g7))
 rw [jAt]
 go_wp2_with (first
  | (at_delete;refine jBx (KR:=KU) (ER:=EX) rfl _ _ 118 128 rfl Tryz.underlying118 bT m c.txns rfl K7.out.1.co.txns t ht rfl ?_;intro w8 hm8 hg8)
  | fail)
 have hin8:=K7.out.1.co.setTxns (Fr.of_grown1 hg8) hm8 (Nat.le_refl _)
 obtain ⟨k8,x8⟩:=K7.out.1.turn hin8 ((Fr.of_grown1 hg8).r K7.out.1.co.lts.1 (by simpa using K7.out.1.co.lts.2.2) sE)
 have H8:=jA1 (show CL w8 B cp gp bT m lp p bD bN (n+3) { c with txns:=jAi c.txns t } (l.note d 3 (str (be 8 t))).1 (l.note d 3 (str (be 8 t))).2.1∧CFr cp bT lp p w w8 from ⟨k8,K7.out.2.trans x8⟩)
 clear hin8 hm8 hg8 k8 x8
 go_wp2
 go_ret
 exact ⟨rfl,H8.out⟩
theorem CoIn.cell {w w':World} {B cp lg lg' bT n:Nat} {c c':ACo} (h:CoIn w B cp lg bT n c) (hc:c'.txns=c.txns) (hrs:c'.res=c.res:=by rfl) (hou:c'.out=c.out:=by rfl) (hnum:c'.next<18446744073709551616∧c'.limit<18446744073709551616∧c'.ticks<18446744073709551616) (hf:Fr [cp] w w') (hb:∀ rv ov,w.heap[cp]?=some (coO lg bT c rv ov)→w'.heap[cp]?=some (coO lg' bT c' rv ov)):CoIn w' B cp lg' bT n c':=by
 obtain ⟨rv,ov,h1,h2,h3,h4,h5⟩:=h.ex
 rw [← hrs] at h2 h4
 rw [← hou] at h3 h5
 refine ⟨⟨rv,ov,hb rv ov h1,jA7 h2 hf (λg hg=>?_),jA7 h3 hf (λg hg=>?_),h4,h5⟩,by rw [hc];exact h.txns.fr hf (by simpa using λe=>h.lts.2.2 e.symm),⟨h.low.1,h.low.2.1,Nat.le_trans h.low.2.2 hf.size⟩,hnum⟩
 ·simp;intro e;subst e;exact jAe h2 h1 dN hg
 ·simp;intro e;subst e;exact jAe h3 h1 dN hg
theorem CoIn.cellR {w w':World} {B cp lg lg' bT n:Nat} {c c':ACo} {T:List Nat} (h:CoIn w B cp lg bT n c) (hf:Fr [cp] w w') (hT:cp∈T) (hb:∀ rv ov,w.heap[cp]?=some (coO lg bT c rv ov)→w'.heap[cp]?=some (coO lg' bT c' rv ov)):RFr cp T w w':=by
 obtain ⟨rv,ov,h1,_⟩:=h.ex
 have h2:=hb rv ov h1
 have e:rd cp w'=rd cp w:=by unfold rd;rw [h1,h2];rfl
 exact ⟨hf.mono (λk _ hk=>by simp at hk;subst hk;exact List.mem_append_left _ hT),λk _ hk=>by rw [e] at hk;exact hk⟩
theorem jLj (B cp gp bT m lp p bD bN n:Nat) (c:ACo) (l:ALog) (d:ADisk) (w:World) (h:CL w B cp gp bT m lp p bD bN n c l d) (hli:c.limit+16<18446744073709551616) (hn:n+3<67108864) (hB:2≤B) (hsg:l.filled<600→l.segs≠[]) (hpow:Pows w) (hke:(l.keep d 1 (str (be 8 (c.limit+16)))).2.2=0) :
  Calls Tryz.prog 58 #[.pointer (some ⟨cp,0,none⟩)] w λe w'=>e=.returned .nilIface∧CL w' B cp gp bT m lp p bD bN (n+3) { c with limit:=c.limit+16 } (l.keep d 1 (str (be 8 (c.limit+16)))).1 (l.keep d 1 (str (be 8 (c.limit+16)))).2.1∧CFr cp bT lp p w w':=by
 obtain ⟨rv,ov,g1,_⟩:=h.co.ex
 have hgp:=h.gp1
 have c0:=jA0 g1 0
 have c3:=jA0 g1 3
 simp at c0 c3
 rw [jB8 hgp] at c0
 have hl:=h.co.lts.1
 have hnums:=h.co.nums
 obtain ⟨M,hM⟩:∃ M,M=c.limit+16:=⟨_,rfl⟩
 have iM:(c.limit:Int)+16=(M:Int):=by omega
 have jM:IntKind.u64.wrap ((c.limit:Int)+16)=(M:Int):=by rw [IntKind.wrap_u64];omega
 have kM:(c.limit:Int)+16<18446744073709551616:=by omega
 rw [← hM] at hke ⊢
 have hre:=jI2 M w.drew oE
 have H0:=jA1 (And.intro h hpow)
 have HM:=jA1 hM
 clear h hpow g1 hM
 go_enter Tryz.func58,Tryz.ntmps58
 go_wp2
 clear iM jM kM
 go_region_held3 (λw'=>w'.cell? ⟨cp,0,none⟩=some (.pointer (some ⟨gp,0,none⟩)))
  (simp [*])
  (first | (go_at_call 98;refine hre.mono ?_;rintro e w6 ⟨rfl,hb6⟩;have hf6:Fr [] w w6:=(Fr.refl [] w).drew.trans (Fr.of_below hb6 []);obtain ⟨hc6,hx6⟩:=H0.out.1.new hf6;have k0:=(World.cell?_of_block (a:=⟨cp,0,none⟩) (hf6.block cp hl (by simp))).trans c0;have K6:=jA1 (show CL w6 B cp gp bT m lp p bD bN n c l d∧CFr cp bT lp p w w6∧Pows w6 from ⟨hc6,hx6,(hx6.hfr H0.out.1).pows hB H0.out.2⟩);clear hf6 hb6 hc6 hx6) | (go_at_call 97;obtain ⟨pv,sv,rvv,nD,nN,hlg⟩:=K6.out.1.lg;refine (jG9 B gp lp p bD bN n nD nN 1 pv sv rvv l d (str (be 8 M)) w6 K6.out.1.led hlg (by omega) hn hB hsg K6.out.2.2).mono ?_;rintro e w7 ⟨rfl,hl7,ho7⟩;obtain ⟨hc7,hx7⟩:=K6.out.1.log ho7 hl7;obtain ⟨rv7,ov7,g7,_⟩:=hc7.co.ex;have n0:=jA0 g7 0;have n3:=jA0 g7 3;have f3:=jA2 g7 3;simp at n0 n3;rw [jB8 hgp] at n0;have K7:=jA1 (show CL w7 B cp gp bT m lp p bD bN (n+3) c (l.keep d 1 (str (be 8 M))).1 (l.keep d 1 (str (be 8 M))).2.1∧CFr cp bT lp p w w7 from ⟨hc7,K6.out.2.1.trans hx7⟩);clear hlg hl7 ho7 hc7 hx7 g7))
 rw [jAt]
 obtain ⟨W8,hW8⟩:∃ W8,W8=w7.setCell ⟨cp,3,none⟩ (.int .u64 (M:Int)):=⟨_,rfl⟩
 have hf8:Fr [cp] w7 W8:=by rw [hW8];exact Fr.set1 sE _ _
 have hb8:∀ rv ov,w7.heap[cp]?=some (coO gp bT c rv ov)→W8.heap[cp]?=some (coO gp bT { c with limit:=M } rv ov):=λrv ov e=>by
  rw [hW8]
  have:=jA5 e 3 (.int .u64 (M:Int))
  simpa using this
 have hin8:CoIn W8 B cp gp bT m { c with limit:=M }:=K7.out.1.co.cell rfl (hnum:=⟨hnums.1,by show M<_;rw [HM.out];exact hli,hnums.2.2⟩) (hf:=hf8) (hb:=hb8)
 obtain ⟨k8,x8⟩:=K7.out.1.turn hin8 (K7.out.1.co.cellR hf8 sE hb8)
 have H8:=jA1 (show CL W8 B cp gp bT m lp p bD bN (n+3) { c with limit:=M } (l.keep d 1 (str (be 8 M))).1 (l.keep d 1 (str (be 8 M))).2.1∧CFr cp bT lp p w W8 from ⟨k8,K7.out.2.trans x8⟩)
 clear hin8 hf8 k8 x8 hb8
 go_wp2
 rw [← hW8]
 go_ret
 exact ⟨rfl,H8.out⟩
theorem CoIn.lenT {w:World} {B cp lg bT n:Nat} {c:ACo} (h:CoIn w B cp lg bT n c) (ty:TypeId):(Builtin.len_ #[118] ty #[.map (some bT)]).run Tryz.prog w=.ok (.int .i64 (c.txns.length:Int)) w :=
 h.txns.lenRun Tryz.underlying118 ty
theorem jPk (B cp gp bT m lp p bD bN n:Nat) (c:ACo) (l:ALog) (d:ADisk) (w:World) (h:CL w B cp gp bT m lp p bD bN n c l d) (hlt:c.txns.length<12) (hnx:c.next=c.limit) (hli:c.limit+16<18446744073709551616) (hm:m+1<67108864) (hn:n+3<67108864) (hB:2≤B) (hsg:l.filled<600→l.segs≠[]) (hpow:Pows w) (hke:(l.keep d 1 (str (be 8 (c.limit+16)))).2.2=0) :
  Calls Tryz.prog 28 #[.pointer (some ⟨cp,0,none⟩)] w λe w'=>e=.returned (.tuple #[.int .u64 (c.limit:Int),.nilIface])∧CL w' B cp gp bT (m+1) lp p bD bN (n+3) { c with limit:=c.limit+16,next:=c.limit+1,txns:=jAb c.txns c.limit ⟨4,[0,0,0,0,0,0,0,0,0],0⟩ } (l.keep d 1 (str (be 8 (c.limit+16)))).1 (l.keep d 1 (str (be 8 (c.limit+16)))).2.1∧CFr cp bT lp p w w':=by
 obtain ⟨rv,ov,g1,_⟩:=h.co.ex
 have hgp:=h.gp1
 have c0:=jA0 g1 0
 have c1:=jA0 g1 1
 have c2:=jA0 g1 2
 have c3:=jA0 g1 3
 simp at c0 c1 c2 c3
 rw [jB8 hgp] at c0
 rw [hnx] at c2
 have hlen:=h.co.lenT
 have hl:=h.co.lts.1
 have hnums:=h.co.nums
 have hre:=jLj B cp gp bT m lp p bD bN n c l d w.drew (h.new (Fr.refl [] w).drew).1 hli hn hB hsg hpow hke
 have H0:=jA1 h
 obtain ⟨R,hR⟩:∃ R,R=l.keep d 1 (str (be 8 (c.limit+16))):=⟨_,rfl⟩
 rw [← hR] at hre ⊢
 obtain ⟨N,hN⟩:∃ N,N=c.txns.length:=⟨_,rfl⟩
 rw [← hN] at hlen hlt
 have i12:¬ (12:Int)≤(N:Int):=by omega
 clear h hpow g1 hR hN hke
 go_enter Tryz.func28,Tryz.ntmps28
 go_wp2
 go_region_held3 (λw'=>w'.cell? ⟨cp,2,none⟩=some (.int .u64 (c.limit:Int))∧w'.cell? ⟨cp,3,none⟩=some (.int .u64 (c.limit:Int)))
  (simp [*])
  (fail)
 go_wp2_with fail
 refine hre.mono ?_
 clear hre hlen c0 c1 c2 c3
 rintro e w1 ⟨rfl,hc1,hx1⟩
 obtain ⟨rv1,ov1,g1,_⟩:=hc1.co.ex
 have c2:=jA0 g1 2
 have f2:=jA2 g1 2
 simp at c2
 rw [hnx] at c2
 have i1:IntKind.u64.wrap ((c.limit:Int)+1)=(c.limit:Int)+1:=by rw [IntKind.wrap_u64];omega
 have i2:(c.limit:Int)+1<18446744073709551616:=by omega
 obtain ⟨W2,hW2⟩:∃ W2,W2=w1.setCell ⟨cp,2,none⟩ (.int .u64 ((c.limit:Int)+1)):=⟨_,rfl⟩
 have hf2:Fr [cp] w1 W2:=by rw [hW2];exact Fr.set1 sE _ _
 have hb2:∀ rv ov,w1.heap[cp]?=some (coO gp bT { c with limit:=c.limit+16 } rv ov)→W2.heap[cp]?=some (coO gp bT { c with limit:=c.limit+16,next:=c.limit+1 } rv ov):=λrv ov e=>by
  rw [hW2]
  have:=jA5 e 2 (.int .u64 ((c.limit:Int)+1))
  simpa [coO] using this
 have hin2:CoIn W2 B cp gp bT m { c with limit:=c.limit+16,next:=c.limit+1 }:=hc1.co.cell rfl (hnum:=⟨by show c.limit+1<_;omega,hli,hnums.2.2⟩) (hf:=hf2) (hb:=hb2)
 obtain ⟨k2,x2⟩:=hc1.turn hin2 (hc1.co.cellR hf2 sE hb2)
 obtain ⟨rv2,ov2,g2,_⟩:=hin2.ex
 have d1:=jA0 g2 1
 simp at d1
 obtain ⟨w3,hr3,hm3,hg3⟩:=hin2.txns.putRun Tryz.underlying118 (by unfold maxLen;omega) (k:=c.limit) (show c.limit<18446744073709551616 by omega) (v:=(⟨4,[0,0,0,0,0,0,0,0,0],0⟩:ATx)) (show ATx.Ok _ from ⟨rfl,by decide⟩)
 change (Instr.mapUpdate _ _ (.int .u64 (c.limit:Int)) (.agg #[.int .i64 4,.int .u8 0,.int .u8 0,.int .u8 0,.int .u8 0,.int .u8 0,.int .u8 0,.int .u8 0,.int .u8 0,.int .u8 0,.int .u64 0,.nilIface])).run _ _=_ at hr3
 have hin3:=hin2.setTxns (Fr.of_grown1 hg3) hm3 oE
 obtain ⟨k3,x3⟩:=k2.turn hin3 ((Fr.of_grown1 hg3).r k2.co.lts.1 (by simpa using k2.co.lts.2.2) sE)
 have hx0:CFr cp bT lp p w w1:=(H0.out.new (Fr.refl [] w).drew).2.trans hx1
 have H3:=jA1 (show CL w3 B cp gp bT (m+1) lp p bD bN (n+3) { c with limit:=c.limit+16,next:=c.limit+1,txns:=jAb c.txns c.limit ⟨4,[0,0,0,0,0,0,0,0,0],0⟩ } R.1 R.2.1∧CFr cp bT lp p w w3 from ⟨k3,(hx0.trans x2).trans x3⟩)
 rw [hW2] at d1 hr3
 clear hc1 hx1 g1 hf2 hb2 hin2 k2 x2 g2 hm3 hg3 hin3 k3 x3 hx0 hW2
 go_wp2
 go_ret2
 exact ⟨rfl,H3.out⟩
abbrev InI (z:Int):Prop:=-9223372036854775808≤z∧z<9223372036854775808
def jDx:Int→List Int→Bool
 | l,[]=>decide (0<l)
 | l,x :: r=>if x≤l∨8<x then false else jDx x r
theorem jTi:∀ (zs:List Int) (l:Int),0≤l→jDx l zs=true→∃ xs:List Nat,zs=xs.map (λx:Nat=>(x:Int))∧xs.Pairwise (· < ·)∧(∀ x∈xs,l<x∧x≤8)∧(xs=[]→0<l):=by
 intro zs
 induction zs with
 | nil=>intro l hl h;exact ⟨[],rfl,List.Pairwise.nil,by simp,λ_=>by simpa [jDx] using h⟩
 | cons z r ih =>
  intro l hl h
  unfold jDx at h
  by_cases hc:z≤l∨8<z
  ·rw [if_pos hc] at h;cases h
  ·rw [if_neg hc] at h
   obtain ⟨xs,h1,h2,h3,h4⟩:=ih z oE h
   obtain ⟨x,rfl⟩:∃ x:Nat,z=(x:Int):=⟨z.toNat,by omega⟩
   refine ⟨x :: xs,by simp [h1],List.pairwise_cons.2 ⟨λy hy=>by have:=(h3 y hy).1;omega,h2⟩,?_,by simp⟩
   intro y hy
   rcases List.mem_cons.1 hy with e | e
   ·subst e;omega
   ·have:=h3 y e;omega
theorem jKk {zs:List Int} (h:jDx 0 zs=true):∃ xs:List Nat,zs=xs.map (λx:Nat=>(x:Int))∧Rising xs:=by
 obtain ⟨xs,h1,h2,h3,h4⟩:=jTi zs 0 oE h
 exact ⟨xs,h1,⟨λe=>by have:=h4 e;omega,h2,λx hx=>by have:=h3 x hx;omega⟩⟩
def ZsAt (w:World) (ao:Option Addr) (zs:List Int):Prop:=∀ (k:Nat) (z:Int),zs[k]?=some z→InI z∧∃ g,ao=some ⟨g,0,none⟩∧w.cell? ⟨g,k,none⟩=some (.int .i64 z)
theorem jWt (ao:Option Addr) (cap:Nat) (zs:List Int) (hlen:zs.length≤281474976710656) (w:World) (hx:ZsAt w ao zs) :
  Calls Tryz.prog 65 #[.slice ao zs.length cap] w λe w'=>e=.returned (.bool (jDx 0 zs))∧w'=w:=by
 have HX:Hid (ZsAt w ao zs):=hx
 obtain ⟨m,hm⟩:∃ m,m=zs.length:=⟨_,rfl⟩
 have HM:Hid (m=zs.length):=hm
 rw [← hm] at hlen ⊢
 obtain ⟨R,hR⟩:∃ R,R=jDx 0 zs:=⟨_,rfl⟩
 have HR:Hid (R=jDx 0 zs):=hR
 rw [← hR]
 clear hx hm hR
 go_enter Tryz.func65,Tryz.ntmps65
 go_wp2
 go_loopw [3,8] (λL i wr=>∃ (k:Nat) (y:Int),k≤m∧i=.int .i64 k∧L=.int .i64 y∧wr=w∧InI y∧Hid (jDx y (zs.drop k)=R)) (λ_ i _=>m - (intOf i).toNat)
 case atStart=>exact ⟨0,0,Nat.zero_le _,rfl,rfl,rfl,by decide,HR.out.symm⟩
 case round =>
  obtain ⟨k,y,hk,rfl,rfl,rfl,hy,H⟩:=hrel
  by_cases hlt:k<m
  ·obtain ⟨x,hxk⟩:∃ x,zs[k]?=some x:=⟨_,List.getElem?_eq_getElem (by have:=HM.out;omega)⟩
   obtain ⟨hxi,g,rfl,ck⟩:=HX.out k x hxk
   have hd:zs.drop k=x :: zs.drop (k+1):=by
    obtain ⟨b1,b2⟩:=List.getElem?_eq_some_iff.1 hxk
    rw [List.drop_eq_getElem_cons b1,b2]
   have H2:Hid ((if x≤y∨8<x then false else jDx x (zs.drop (k+1)))=R):=by
    have:=H.out
    rw [hd] at this
    exact this
   have i3:(k:Int)<(m:Int):=by omega
   clear hd hxk
   by_cases h1:x≤y
   ·go_wp2
    go_ret
    have:=H2.out
    rw [if_pos (.inl h1)] at this
    exact ⟨by rw [← this];rfl,rfl⟩
   ·by_cases h2:8<x
    ·go_wp2
     go_ret
     have:=H2.out
     rw [if_pos (.inr h2)] at this
     exact ⟨by rw [← this];rfl,rfl⟩
    ·go_wp2
     go_roundw
     case rel =>
      have:=H2.out
      rw [if_neg (by rintro (h | h);exact h1 h;exact h2 h)] at this
      exact ⟨k+1,x,by omega,by simp,rfl,by simp,hxi,this⟩
     case measure=>simp [intOf];omega
  ·obtain rfl:k=m:=by omega
   have i3:¬ (k:Int)<(k:Int):=by omega
   have H2:Hid (decide (0<y)=R):=by
    have:=H.out
    rw [HM.out,List.drop_length] at this
    exact this
   by_cases h0:0<y
   ·go_wp2
    go_ret
    have:=H2.out
    rw [decide_eq_true h0] at this
    exact ⟨by rw [← this];rfl,rfl⟩
   ·go_wp2
    go_ret
    have:=H2.out
    rw [show decide (0<y)=false from decide_eq_false oE] at this
    exact ⟨by rw [← this];rfl,rfl⟩
def partAt (t:ATx) (z:Int):Nat:=if 0≤z∧z<9 then t.parts.getD z.toNat 0 else 0
theorem at_z (t:ATx) (ht:t.Ok) (z:Int) (w:World) :
  Calls Tryz.prog 279 #[txV t,.int .i64 z] w λe w'=>e=.returned (.int .u8 ((partAt t z:Nat):Int))∧Fr [] w w':=by
 unfold partAt
 by_cases hz:0≤z∧z<9
 ·rw [if_pos hz]
  obtain ⟨k,rfl⟩:∃ k:Nat,z=(k:Int):=⟨z.toNat,by omega⟩
  rw [Int.toNat_natCast]
  exact jGw t ht k oE w
 ·rw [if_neg hz]
  obtain ⟨s,ps,y⟩:=t
  obtain ⟨p0,p1,p2,p3,p4,p5,p6,p7,p8,rfl⟩:=nine ht.1
  rw [jAl]
  by_cases h0:z<0
  ·go_enter Tryz.func279,Tryz.ntmps279
   go_wp2
   go_ret
   exact ⟨rfl,(Fr.refl [] w).alloc _⟩
  ·have h9:(9:Int)≤z:=by omega
   go_enter Tryz.func279,Tryz.ntmps279
   go_wp2
   go_ret
   exact ⟨rfl,(Fr.refl [] w).alloc _⟩
theorem jSu (B cp gp bT m:Nat) (c:ACo) (w:World) (h:CoIn w B cp gp bT m c) (hgp:1≤gp) (hlt:c.txns.length<12) (hnx:c.next≠c.limit) (hm:m+1<67108864) (hnn:c.next+1<18446744073709551616) :
  Calls Tryz.prog 28 #[.pointer (some ⟨cp,0,none⟩)] w λe w'=>e=.returned (.tuple #[.int .u64 (c.next:Int),.nilIface])∧CoIn w' B cp gp bT (m+1) { c with next:=c.next+1,txns:=jAb c.txns c.next ⟨4,[0,0,0,0,0,0,0,0,0],0⟩ }∧RFr cp [cp,bT] w w':=by
 obtain ⟨rv,ov,g1,_⟩:=h.ex
 have c0:=jA0 g1 0
 have c1:=jA0 g1 1
 have c2:=jA0 g1 2
 have c3:=jA0 g1 3
 have f2:=jA2 g1 2
 simp at c0 c1 c2 c3
 rw [jB8 hgp] at c0
 have hlen:=h.lenT
 have hnums:=h.nums
 obtain ⟨N,hN⟩:∃ N,N=c.txns.length:=⟨_,rfl⟩
 rw [← hN] at hlen hlt
 have i12:¬ (12:Int)≤(N:Int):=by omega
 have inx:¬ (c.next:Int)=(c.limit:Int):=by omega
 have jnx:((c.next:Int) == (c.limit:Int))=false:=beq_eq_false_iff_ne.2 inx
 have i1:IntKind.u64.wrap ((c.next:Int)+1)=(c.next:Int)+1:=by rw [IntKind.wrap_u64];omega
 have i2:(c.next:Int)+1<18446744073709551616:=by omega
 obtain ⟨W2,hW2⟩:∃ W2,W2=(w.setCell ⟨cp,2,none⟩ (.int .u64 ((c.next:Int)+1))).drew:=⟨_,rfl⟩
 have hf2:Fr [cp] w W2:=by rw [hW2];exact (Fr.set1 sE _ _).drew
 have hb2:∀ rv ov,w.heap[cp]?=some (coO gp bT c rv ov)→W2.heap[cp]?=some (coO gp bT { c with next:=c.next+1 } rv ov):=λrv ov e=>by
  rw [hW2]
  have:=jA5 e 2 (.int .u64 ((c.next:Int)+1))
  show (w.setCell _ _).heap[cp]?=_
  simpa [coO] using this
 have hin2:CoIn W2 B cp gp bT m { c with next:=c.next+1 }:=h.cell rfl (hnum:=⟨hnn,hnums.2.1,hnums.2.2⟩) (hf:=hf2) (hb:=hb2)
 have hx2:RFr cp [cp,bT] w W2:=h.cellR hf2 sE hb2
 obtain ⟨rv2,ov2,g2,_⟩:=hin2.ex
 have d1:=jA0 g2 1
 simp at d1
 obtain ⟨w3,hr3,hm3,hg3⟩:=hin2.txns.putRun Tryz.underlying118 (by unfold maxLen;omega) (k:=c.next) (show c.next<18446744073709551616 by omega) (v:=(⟨4,[0,0,0,0,0,0,0,0,0],0⟩:ATx)) (show ATx.Ok _ from ⟨rfl,by decide⟩)
 change (Instr.mapUpdate _ _ (.int .u64 (c.next:Int)) (.agg #[.int .i64 4,.int .u8 0,.int .u8 0,.int .u8 0,.int .u8 0,.int .u8 0,.int .u8 0,.int .u8 0,.int .u8 0,.int .u8 0,.int .u64 0,.nilIface])).run _ _=_ at hr3
 have hin3:=hin2.setTxns (Fr.of_grown1 hg3) hm3 oE
 have hx3:RFr cp [cp,bT] W2 w3:=(Fr.of_grown1 hg3).r hin2.lts.1 (by simpa using hin2.lts.2.2) sE
 have H3:=jA1 (And.intro hin3 (hx2.trans hx3))
 rw [hW2] at d1 hr3
 clear h g1 hN hf2 hb2 hin2 hx2 g2 hm3 hg3 hin3 hx3 hW2
 go_enter Tryz.func28,Tryz.ntmps28
 go_wp2
 go_region_held3 (λw'=>w'.cell? ⟨cp,2,none⟩=some (.int .u64 (c.next:Int))∧w'.cell? ⟨cp,3,none⟩=some (.int .u64 (c.limit:Int)))
  (simp [*])
  (fail)
 go_wp2
 go_ret2
 exact ⟨rfl,H3.out⟩
theorem jOp (B cp gp bT m:Nat) (c:ACo) (w:World) (h:CoIn w B cp gp bT m c) (hgp:1≤gp) (hlt:12≤c.txns.length) :
  Calls Tryz.prog 28 #[.pointer (some ⟨cp,0,none⟩)] w λe w'=>e=.returned (.tuple #[.int .u64 0,errN 5])∧Fr [] w w':=by
 obtain ⟨rv,ov,g1,_⟩:=h.ex
 have c0:=jA0 g1 0
 have c1:=jA0 g1 1
 simp at c0 c1
 rw [jB8 hgp] at c0
 have hlen:=h.lenT
 obtain ⟨N,hN⟩:∃ N,N=c.txns.length:=⟨_,rfl⟩
 rw [← hN] at hlen hlt
 have i12:(12:Int)≤(N:Int):=by omega
 clear h g1 hN
 go_enter Tryz.func28,Tryz.ntmps28
 go_wp2
 go_ret2
 exact ⟨rfl,Fr.refl [] w⟩
section
variable (B cp lg bT n t:Nat) (v:Value) (c:ACo) (w:World) (h:CoIn w B cp lg bT n c) (ht:t<18446744073709551616)
include h ht
theorem jKm (hst:(c.tx t).state=0) :
  Calls Tryz.prog 33 #[.pointer (some ⟨cp,0,none⟩),.int .u64 (t:Int),v] w λe w'=>e=.returned (errN 7)∧w'=w:=by
 have hs:=jCr B cp lg bT n t c w h ht
 rw [hst] at hs
 clear h
 go_enter Tryz.func33,Tryz.ntmps33
 go_wp2_with fail
 refine hs.mono ?_
 clear hs
 rintro e w1 ⟨rfl,hw1⟩
 subst hw1
 go_wp2
 go_ret
 exact ⟨rfl,rfl⟩
theorem jIn (h0:(c.tx t).state≠0) (h4:(c.tx t).state≠4) :
  Calls Tryz.prog 33 #[.pointer (some ⟨cp,0,none⟩),.int .u64 (t:Int),v] w λe w'=>e=.returned (errN 4)∧w'=w:=by
 have hs:=jCr B cp lg bT n t c w h ht
 obtain ⟨s,hS⟩:∃ s,s=(c.tx t).state:=⟨_,rfl⟩
 rw [← hS] at hs h0 h4
 have i0:¬ (s:Int)=0:=by omega
 have i4:¬ (s:Int)=4:=by omega
 have b0:((s:Int) == 0)=false:=beq_eq_false_iff_ne.2 i0
 have b4:((s:Int) == 4)=false:=beq_eq_false_iff_ne.2 i4
 clear h hS
 go_enter Tryz.func33,Tryz.ntmps33
 go_wp2_with fail
 refine hs.mono ?_
 clear hs
 rintro e w1 ⟨rfl,hw1⟩
 subst hw1
 go_wp2
 go_ret
 exact ⟨rfl,rfl⟩
end
theorem jIg (B cp lg bT n t cap:Nat) (ao:Option Addr) (zs:List Int) (c:ACo) (w:World) (h:CoIn w B cp lg bT n c) (ht:t<18446744073709551616) (hlen:zs.length≤281474976710656) (hx:ZsAt w ao zs) (hst:(c.tx t).state=4) (hri:jDx 0 zs=false) :
  Calls Tryz.prog 33 #[.pointer (some ⟨cp,0,none⟩),.int .u64 (t:Int),.slice ao zs.length cap] w λe w'=>e=.returned (errN 6)∧w'=w:=by
 have hs:=jCr B cp lg bT n t c w h ht
 have hr:=jWt ao cap zs hlen w hx
 rw [hri] at hr
 rw [hst] at hs
 clear h
 go_enter Tryz.func33,Tryz.ntmps33
 go_wp2_with fail
 refine hs.mono ?_
 clear hs
 rintro e w1 ⟨rfl,hw1⟩
 subst hw1
 go_wp2_with fail
 refine hr.mono ?_
 clear hr
 rintro e w2 ⟨rfl,hw2⟩
 subst hw2
 go_wp2
 go_ret
 exact ⟨rfl,rfl⟩
theorem jWj (B cp lg bT n t:Nat) (k:Int) (c:ACo) (w:World) (h:CoIn w B cp lg bT n c) (ht:t<18446744073709551616) (hst:(c.tx t).state=6) (hpt:partAt (c.tx t) k≠2) :
  Calls Tryz.prog 251 #[.pointer (some ⟨cp,0,none⟩),.int .u64 (t:Int),.int .i64 k] w λe w'=>e=.returned .nilIface∧Fr [] w w':=by
 have hok:=h.okT t
 have hla:=h.lookT ht
 obtain ⟨rv,ov,g1,_⟩:=h.ex
 have c1:=jA0 g1 1
 simp at c1
 obtain ⟨T,hT⟩:∃ T,T=c.tx t:=⟨_,rfl⟩
 rw [← hT] at hok hst hpt hla
 clear hT
 obtain ⟨P,hP⟩:∃ P,P=partAt T k:=⟨_,rfl⟩
 have hat0:=λW=>at_z T hok k W
 rw [← hP] at hpt hat0
 clear hP
 have i1:¬ (P:Int)=2:=by omega
 have j1:((P:Int) == 2)=false:=beq_eq_false_iff_ne.2 i1
 obtain ⟨s,ps,z⟩:=T
 obtain ⟨p0,p1,p2,p3,p4,p5,p6,p7,p8,hps⟩:=nine hok.1
 change ps=_ at hps
 subst hps
 change s=6 at hst
 subst hst
 rw [jAl] at hla
 simp only [jAl] at hat0
 obtain ⟨W0,hW0⟩:∃ W0,W0=w.alloc (.cells #[.int .i64 6,.int .u8 (p0:Int),.int .u8 (p1:Int),.int .u8 (p2:Int),.int .u8 (p3:Int),.int .u8 (p4:Int),.int .u8 (p5:Int),.int .u8 (p6:Int),.int .u8 (p7:Int),.int .u8 (p8:Int),.int .u64 (z:Int),.nilIface] 128):=⟨_,rfl⟩
 have hf0:Fr [] w W0:=by rw [hW0];exact (Fr.refl [] w).alloc _
 have hat:=hat0 W0
 have H0:=jA1 hf0
 clear h g1 hat0 hf0
 go_enter Tryz.func251,Tryz.ntmps251
 go_wp2_with fail
 rw [← hW0]
 clear hW0
 refine hat.mono ?_
 clear hat
 rintro e w2 ⟨rfl,hf2⟩
 have H2:=jA1 (H0.out.trans hf2)
 clear hf2
 go_wp2
 go_ret
 exact ⟨rfl,H2.out⟩
theorem jWl (B cp lg bT n t:Nat) (k:Int) (c:ACo) (w:World) (h:CoIn w B cp lg bT n c) (ht:t<18446744073709551616) (hst:(c.tx t).state≠6) :
  Calls Tryz.prog 251 #[.pointer (some ⟨cp,0,none⟩),.int .u64 (t:Int),.int .i64 k] w λe w'=>e=.returned .nilIface∧Fr [] w w':=by
 have hok:=h.okT t
 have hla:=h.lookT ht
 obtain ⟨rv,ov,g1,_⟩:=h.ex
 have c1:=jA0 g1 1
 simp at c1
 obtain ⟨T,hT⟩:∃ T,T=c.tx t:=⟨_,rfl⟩
 rw [← hT] at hok hst hla
 clear hT
 obtain ⟨s,ps,z⟩:=T
 obtain ⟨p0,p1,p2,p3,p4,p5,p6,p7,p8,hps⟩:=nine hok.1
 change ps=_ at hps
 subst hps
 change s≠6 at hst
 have i1:¬ (s:Int)=6:=by omega
 have j1:((s:Int) == 6)=false:=beq_eq_false_iff_ne.2 i1
 rw [jAl] at hla
 clear h g1
 go_enter Tryz.func251,Tryz.ntmps251
 go_wp2
 go_ret
 exact ⟨rfl,(Fr.refl [] w).alloc _⟩
theorem jM3 (B cp lg bT n:Nat) (c:ACo) (w:World) (h:CoIn w B cp lg bT n c) :
  Calls Tryz.prog 117 #[.pointer (some ⟨cp,0,none⟩)] w λe w'=>∃ v,e=.returned v∧w'.ownsRow B 157 2 v c.res.length (resV c.res)∧(c.res.length=0→v=.slice none 0 0)∧(∀ g,v.ownBlock=some g→g∈rd cp w)∧CoIn w' B cp lg bT n { c with res:=[] }∧(∀ g,v.ownBlock=some g→g∉rd cp w')∧Fr [cp] w w'∧RFr cp [cp] w w':=by
 obtain ⟨rv,ov,h1,h2,h3,h4,h5⟩:=h.ex
 have c5:=jA0 h1 5
 have f5:=jA2 h1 5
 simp at c5
 have hcl:=h.lts
 obtain ⟨W,hW⟩:∃ W,W=w.setCell ⟨cp,5,none⟩ (.slice none 0 0):=⟨_,rfl⟩
 have hf:Fr [cp] w W:=by rw [hW];exact Fr.set1 sE _ _
 have hb:W.heap[cp]?=some (coO lg bT c (.slice none 0 0) ov):=by
  rw [hW]
  have:=jA5 h1 5 (.slice none 0 0)
  simpa using this
 have n2:∀ g,rv.ownBlock=some g→g∉[cp]:=λg hg hm=>by simp at hm;subst hm;exact jAe h2 h1 dN hg
 have n3:∀ g,ov.ownBlock=some g→g∉[cp]:=λg hg hm=>by simp at hm;subst hm;exact jAe h3 h1 dN hg
 have k2:=jA7 h2 hf n2
 have k3:=jA7 h3 hf n3
 have hin:CoIn W B cp lg bT n { c with res:=[] }:=⟨⟨Value.slice none 0 0,ov,hb,World.ownsRow_nil _ _ _ _,k3,Brd.nil _,h5⟩,h.txns.fr hf (by simpa using λe=>hcl.2.2 e.symm),⟨h.low.1,h.low.2.1,Nat.le_trans h.low.2.2 hf.size⟩,h.nums⟩
 have hr0:rd cp w=rv.ownBlock.toList++ov.ownBlock.toList:=by unfold rd rdO;rw [h1];rfl
 have hr1:rd cp W=ov.ownBlock.toList:=by unfold rd rdO;rw [hb];rfl
 have hne:∀ g,rv.ownBlock=some g→g∉rd cp W:=λg hg hm=>by
  rw [hr1] at hm
  simp at hm
  obtain ⟨a1,e1⟩:=jA4 h2 hg
  obtain ⟨a2,e2⟩:=jA4 h3 hm
  rw [e1] at e2;cases e2
 have HN:=jA1 (show W.ownsRow B 157 2 rv c.res.length (resV c.res)∧(c.res.length=0→rv=.slice none 0 0)∧(∀ g,rv.ownBlock=some g→g∈rd cp w)∧CoIn W B cp lg bT n { c with res:=[] }∧(∀ g,rv.ownBlock=some g→g∉rd cp W)∧Fr [cp] w W∧RFr cp [cp] w W from ⟨k2,h4.2,λg hg=>by rw [hr0];simp [hg],hin,hne,hf,⟨hf.mono (λk _ hk=>List.mem_append_left _ hk),λk _ hk=>by rw [hr1] at hk;rw [hr0];simp at hk ⊢;simp [hk]⟩⟩)
 obtain ⟨av,mv,cv,hsl⟩:=jAu h2
 rw [hsl] at c5 HN
 clear h h1 h2 h3 h4 h5 hf hb n2 n3 k2 k3 hin hr0 hr1 hne
 go_enter Tryz.func117,Tryz.ntmps117
 go_wp2
 rw [← hW]
 go_ret
 exact ⟨_,rfl,HN.out⟩
theorem jV1 (B cp lg bT n:Nat) (c:ACo) (w:World) (h:CoIn w B cp lg bT n c) :
  Calls Tryz.prog 112 #[.pointer (some ⟨cp,0,none⟩)] w λe w'=>∃ v,e=.returned v∧w'.ownsRow B 207 3 v c.out.length (dueV c.out)∧(c.out.length=0→v=.slice none 0 0)∧(∀ g,v.ownBlock=some g→g∈rd cp w)∧CoIn w' B cp lg bT n { c with out:=[] }∧(∀ g,v.ownBlock=some g→g∉rd cp w')∧Fr [cp] w w'∧RFr cp [cp] w w':=by
 obtain ⟨rv,ov,h1,h2,h3,h4,h5⟩:=h.ex
 have c5:=jA0 h1 6
 have f5:=jA2 h1 6
 simp at c5
 have hcl:=h.lts
 obtain ⟨W,hW⟩:∃ W,W=w.setCell ⟨cp,6,none⟩ (.slice none 0 0):=⟨_,rfl⟩
 have hf:Fr [cp] w W:=by rw [hW];exact Fr.set1 sE _ _
 have hb:W.heap[cp]?=some (coO lg bT c rv (.slice none 0 0)):=by
  rw [hW]
  have:=jA5 h1 6 (.slice none 0 0)
  simpa using this
 have n2:∀ g,rv.ownBlock=some g→g∉[cp]:=λg hg hm=>by simp at hm;subst hm;exact jAe h2 h1 dN hg
 have n3:∀ g,ov.ownBlock=some g→g∉[cp]:=λg hg hm=>by simp at hm;subst hm;exact jAe h3 h1 dN hg
 have k2:=jA7 h2 hf n2
 have k3:=jA7 h3 hf n3
 have hin:CoIn W B cp lg bT n { c with out:=[] }:=⟨⟨rv,Value.slice none 0 0,hb,k2,World.ownsRow_nil _ _ _ _,h4,Brd.nil _⟩,h.txns.fr hf (by simpa using λe=>hcl.2.2 e.symm),⟨h.low.1,h.low.2.1,Nat.le_trans h.low.2.2 hf.size⟩,h.nums⟩
 have hr0:rd cp w=rv.ownBlock.toList++ov.ownBlock.toList:=by unfold rd rdO;rw [h1];rfl
 have hr1:rd cp W=rv.ownBlock.toList:=by unfold rd rdO;rw [hb];exact List.append_nil _
 have hne:∀ g,ov.ownBlock=some g→g∉rd cp W:=λg hg hm=>by
  rw [hr1] at hm
  simp at hm
  obtain ⟨a1,e1⟩:=jA4 h2 hm
  obtain ⟨a2,e2⟩:=jA4 h3 hg
  rw [e1] at e2;cases e2
 have HN:=jA1 (show W.ownsRow B 207 3 ov c.out.length (dueV c.out)∧(c.out.length=0→ov=.slice none 0 0)∧(∀ g,ov.ownBlock=some g→g∈rd cp w)∧CoIn W B cp lg bT n { c with out:=[] }∧(∀ g,ov.ownBlock=some g→g∉rd cp W)∧Fr [cp] w W∧RFr cp [cp] w W from ⟨k3,h5.2,λg hg=>by rw [hr0];simp [hg],hin,hne,hf,⟨hf.mono (λk _ hk=>List.mem_append_left _ hk),λk _ hk=>by rw [hr1] at hk;rw [hr0];simp at hk ⊢;simp [hk]⟩⟩)
 obtain ⟨av,mv,cv,hsl⟩:=jAu h3
 rw [hsl] at c5 HN
 clear h h1 h2 h3 h4 h5 hf hb n2 n3 k2 k3 hin hr0 hr1 hne
 go_enter Tryz.func112,Tryz.ntmps112
 go_wp2
 rw [← hW]
 go_ret
 exact ⟨_,rfl,HN.out⟩
end Go.Proofs.YtcalalndmcemiaaGreatDoor
set_option maxRecDepth 100000
set_option maxHeartbeats 16000000
namespace Go.Proofs.YtcalalndmcemiaaGreatDoor
open Go.RowKit Go.Maps
open Sc
theorem SL.other {w w':World} {B sp gp bV bT bH m lp p bD bN n q:Nat} {s:AShard} {l:ALog} {d:ADisk} {c:Array Value} {t:TypeId} (h:SL w B sp gp bV bT bH m lp p bD bN n s l d) (hf:Fr [q] w w') (hq:w.heap[q]?=some (.cells c t (0,0))) (h1:t≠96) (h2:t≠182) (h3:t≠222) (h4:t≠43) (h5:t≠110) (h6:t≠9) (h7:t≠139) (h8:t≠244):SL w' B sp gp bV bT bH m lp p bD bN n s l d:=by
 obtain ⟨pv,sv,rv,nD,nN,hl⟩:=h.lg
 have n1:sp≠q:=by intro e;have:=h.sh.blk;rw [e,hq] at this;cases this;exact h7 rfl
 have n2:bV≠q:=by intro e;obtain ⟨es,c2,e2⟩:=h.sh.vals.isMap;rw [e,hq] at e2;cases e2
 have n3:bT≠q:=by intro e;obtain ⟨es,c2,e2⟩:=h.sh.txns.isMap;rw [e,hq] at e2;cases e2
 have n4:bH≠q:=by intro e;obtain ⟨es,c2,e2⟩:=h.sh.holds.isMap;rw [e,hq] at e2;cases e2
 have n5:gp≠q:=by intro e;have:=h.ap.led;rw [e,hq] at this;cases this;exact h8 rfl
 exact ⟨h.sh.fr hf (by simpa using n1) (by simpa using n2) (by simpa using n3) (by simpa using n4),⟨_,_,_,_,_,hl.other hf hq h1 h2 h3 h4 h5 h6⟩,⟨(hf.block gp (Array.getElem?_eq_some_iff.1 h.ap.led).1 (by simpa using n5)).trans h.ap.led,h.ap.ne⟩,h.gp1⟩
end Go.Proofs.YtcalalndmcemiaaGreatDoor
