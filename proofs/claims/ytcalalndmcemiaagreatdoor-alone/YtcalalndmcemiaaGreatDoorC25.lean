import Derived.Test.YtcalalndmcemiaaGreatDoorC24
set_option maxRecDepth 100000
set_option maxHeartbeats 16000000
namespace Go.Proofs.YtcalalndmcemiaaGreatDoor
open Go.RowKit Go.Maps Go.Shelf
open Sc
def ACo.saidNo (c:ACo) (t k:Nat):ACo:={ c with txns:=jAi c.txns t,res:=c.res++[(t,6)],out:=c.out++(jB9 mayP ((c.tx t).parts.set k 3)).map λk=>(t,k,6) }
theorem jT7 (B cp lg bT n t k v:Nat) (hv:v=2∨v=3∨v=4) (hk:k<9) (c:ACo) (w:World) (h:CoIn w B cp lg bT n c) (ht:t<18446744073709551616) (hno:(c.tx t).parts.getD k 0≠1) :
  Calls Tryz.prog 250 #[.pointer (some ⟨cp,0,none⟩),.int .u64 (t:Int),.int .i64 (k:Int),.int .i64 (v:Int)] w λe w'=>e=.returned .nilIface∧Fr [] w w':=by
 have hok:=h.okT t
 obtain ⟨rv,ov,g1,_⟩:=h.ex
 have c1:=jA0 g1 1
 simp at c1
 have hcl:=h.lts
 have hpa:=jE8 v hv
 obtain ⟨T,hT⟩:∃ T,T=c.tx t:=⟨_,rfl⟩
 have hlb:∀ o,(Instr.lookup 118 (.map (some bT)) (.int .u64 (t:Int)) false).run Tryz.prog ((w.alloc o).drew)=.ok (txV T) ((w.alloc o).drew):=λo=>by rw [hT];exact (h.new ((Fr.refl [] w).alloc o).drew).lookT ht
 have hla:(Instr.lookup 118 (.map (some bT)) (.int .u64 (t:Int)) false).run Tryz.prog w.drew=.ok (txV T) w.drew:=by rw [hT];exact (h.new (Fr.refl [] w).drew).lookT ht
 rw [← hT] at hok hno
 clear hT
 have i0:¬ (v:Int)=0:=by omega
 have j0:((v:Int) == 0)=false:=beq_eq_false_iff_ne.2 i0
 obtain ⟨P,hP⟩:∃ P,P=T.parts.getD k 0:=⟨_,rfl⟩
 have hat0:=λW=>jGw T hok k hk W
 rw [← hP] at hno hat0
 clear hP
 have i1:¬ (P:Int)=1:=by omega
 have j1:((P:Int) == 1)=false:=beq_eq_false_iff_ne.2 i1
 have HAT:=jA1 hat0
 clear hat0
 obtain ⟨s,ps,z⟩:=T
 obtain ⟨p0,p1,p2,p3,p4,p5,p6,p7,p8,hps⟩:=nine hok.1
 change ps=_ at hps
 subst hps
 rw [jAl] at hla HAT
 simp only [jAl] at hlb
 have al1:∀ o,(w.alloc o).cell? ⟨cp,1,none⟩=some (.map (some bT)):=λo=>(World.cell?_alloc_lt _ _ _ hcl.1).trans c1
 have HI:=jA1 h
 clear h g1
 go_enter Tryz.func250,Tryz.ntmps250
 go_wp2
 go_cut [9,10] from 12 to 19 (λs9 s10 wx=>s9=.pointer (some ⟨w.heap.size,0,none⟩)∧s10=.int .u8 (v:Int)∧wx=(w.alloc (.cells #[.int .i64 (s:Int),.int .u8 (p0:Int),.int .u8 (p1:Int),.int .u8 (p2:Int),.int .u8 (p3:Int),.int .u8 (p4:Int),.int .u8 (p5:Int),.int .u8 (p6:Int),.int .u8 (p7:Int),.int .u8 (p8:Int),.int .u64 (z:Int),.nilIface] 128)).drew)
 case first =>
  go_region_held3 (λw'=>w'.cell? ⟨cp,1,none⟩=some (.map (some bT)))
   (first | exact al1 _ | simp [*])
   (first | (go_at_call 278;refine (hpa _).mono ?_;rintro e w2 ⟨rfl,rfl⟩))
  all_goals
   (go_wp2_with fail
    go_meet
    case rel=>exact ⟨rfl,rfl,rfl⟩)
 case rest =>
  obtain ⟨rfl,rfl,hwc⟩:=hcut
  have hf0:Fr [] w wc:=by rw [hwc];exact ((Fr.refl [] w).alloc _).drew
  have r0:wc.heap[w.heap.size]?=some (.cells #[.int .i64 (s:Int),.int .u8 (p0:Int),.int .u8 (p1:Int),.int .u8 (p2:Int),.int .u8 (p3:Int),.int .u8 (p4:Int),.int .u8 (p5:Int),.int .u8 (p6:Int),.int .u8 (p7:Int),.int .u8 (p8:Int),.int .u64 (z:Int),.nilIface] 128 (0,0)):=by rw [hwc];exact heap_alloc_new w _
  obtain ⟨y0,y1,y2,y3,y4,y5,y6,y7,y8,y9,ya,yb⟩:=tx12 r0
  have hl0:=(Array.getElem?_eq_some_iff.1 r0).1
  have hat:=HAT.out wc
  have H0:=jA1 (And.intro hf0 r0)
  clear hwc hf0 r0 hla hlb al1
  go_wp2_with fail
  refine hat.mono ?_
  rintro e w2 ⟨rfl,hf2⟩
  have H2:=jA1 (H0.out.1.trans hf2)
  clear hf2 hat
  go_wp2
  go_ret
  exact ⟨rfl,H2.out⟩
theorem jVh (B cp lg bT n t k v:Nat) (hv:v=3) (hk:k<9) (c:ACo) (w:World) (h:CoIn w B cp lg bT n c) (ht:t<18446744073709551616) (haw:(c.tx t).parts.getD k 0=1) (hn:n+11<67108864) :
  Calls Tryz.prog 250 #[.pointer (some ⟨cp,0,none⟩),.int .u64 (t:Int),.int .i64 (k:Int),.int .i64 (v:Int)] w λe w'=>e=.returned .nilIface∧CoIn w' B cp lg bT (n+11) (c.saidNo t k)∧RFr cp [cp,bT] w w':=by
 have hok:=h.okT t
 have HNO:Hid (∀ T2:ATx,T2={ c.tx t with parts:=(c.tx t).parts.set k v }→({ c with txns:=jAb c.txns t T2 }:ACo).aborted t=c.saidNo t k):=by
  intro T2 h2
  unfold ACo.aborted ACo.saidNo
  rw [jQf,h2,hv,jQ6]
 obtain ⟨rv,ov,g1,_⟩:=h.ex
 have c1:=jA0 g1 1
 simp at c1
 have hcl:=h.lts
 have hpa:=jE8 v (.inr (.inl hv))
 obtain ⟨T,hT⟩:∃ T,T=c.tx t:=⟨_,rfl⟩
 have hlb:∀ o,(Instr.lookup 118 (.map (some bT)) (.int .u64 (t:Int)) false).run Tryz.prog ((w.alloc o).drew)=.ok (txV T) ((w.alloc o).drew):=λo=>by rw [hT];exact (h.new ((Fr.refl [] w).alloc o).drew).lookT ht
 have hla:(Instr.lookup 118 (.map (some bT)) (.int .u64 (t:Int)) false).run Tryz.prog w.drew=.ok (txV T) w.drew:=by rw [hT];exact (h.new (Fr.refl [] w).drew).lookT ht
 rw [← hT] at hok haw HNO
 clear hT
 have i0:¬ (v:Int)=0:=by omega
 have j0:((v:Int) == 0)=false:=beq_eq_false_iff_ne.2 i0
 obtain ⟨T2,hT2⟩:∃ T2:ATx,T2={ T with parts:=T.parts.set k v }:=⟨_,rfl⟩
 have hok2:T2.Ok:=by rw [hT2];exact jHr hok oE
 have hat0:=λW=>jGw T hok k hk W
 rw [haw] at hat0
 have hwi:=λW=>jEt T hok k v hk W
 rw [← hT2] at hwi
 obtain ⟨q0,q1,q2,q3,q4,q5,q6,q7,q8,hq⟩:=nine hok2.1
 have hlit2:txV T2=.agg #[.int .i64 (T.state:Int),.int .u8 (q0:Int),.int .u8 (q1:Int),.int .u8 (q2:Int),.int .u8 (q3:Int),.int .u8 (q4:Int),.int .u8 (q5:Int),.int .u8 (q6:Int),.int .u8 (q7:Int),.int .u8 (q8:Int),.int .u64 (T.since:Int),.nilIface]:=by
  have e:T2=⟨T.state,[q0,q1,q2,q3,q4,q5,q6,q7,q8],T.since⟩:=by
   have e1:T2.state=T.state:=by rw [hT2]
   have e2:T2.since=T.since:=by rw [hT2]
   rw [← e1,← e2,← hq]
  rw [e,jAl]
 rw [hlit2] at hwi
 have HPUT:=jA1 (λ(W:World) (m':Nat) (h2:CoIn W B cp lg bT m' c) (hm':m' < maxLen)=>(by
  obtain ⟨w5,hr5,hm5,hg5⟩:=h2.txns.putRun Tryz.underlying118 hm' (k:=t) ht (v:=T2) hok2
  refine ⟨w5,?_,h2.setTxns (Fr.of_grown1 hg5) hm5 oE,Fr.of_grown1 hg5⟩
  have e:(EX.ev T2:Value)=txV T2:=rfl
  rw [e,hlit2] at hr5
  exact hr5:∃ w5,(Instr.mapUpdate 118 (.map (some bT)) (.int .u64 (t:Int)) (.agg #[.int .i64 (T.state:Int),.int .u8 (q0:Int),.int .u8 (q1:Int),.int .u8 (q2:Int),.int .u8 (q3:Int),.int .u8 (q4:Int),.int .u8 (q5:Int),.int .u8 (q6:Int),.int .u8 (q7:Int),.int .u8 (q8:Int),.int .u64 (T.since:Int),.nilIface])).run Tryz.prog W=.ok () w5∧CoIn w5 B cp lg bT (m' + 1) { c with txns:=jAb c.txns t T2 }∧Fr [bT] W w5))
 have HNO2:=jA1 (HNO.out T2 hT2)
 have HWI:=jA1 hwi
 clear hT2 hq hwi haw HNO
 have HAT:=jA1 hat0
 clear hat0 hlit2
 subst hv
 obtain ⟨s,ps,z⟩:=T
 obtain ⟨p0,p1,p2,p3,p4,p5,p6,p7,p8,hps⟩:=nine hok.1
 change ps=_ at hps
 subst hps
 rw [jAl] at hla HAT
 simp only [jAl] at hlb
 have al1:∀ o,(w.alloc o).cell? ⟨cp,1,none⟩=some (.map (some bT)):=λo=>(World.cell?_alloc_lt _ _ _ hcl.1).trans c1
 have HI:=jA1 h
 clear h g1
 go_enter Tryz.func250,Tryz.ntmps250
 go_wp2
 go_cut [9,10] from 12 to 19 (λs9 s10 wx=>s9=.pointer (some ⟨w.heap.size,0,none⟩)∧s10=.int .u8 3∧wx=(w.alloc (.cells #[.int .i64 (s:Int),.int .u8 (p0:Int),.int .u8 (p1:Int),.int .u8 (p2:Int),.int .u8 (p3:Int),.int .u8 (p4:Int),.int .u8 (p5:Int),.int .u8 (p6:Int),.int .u8 (p7:Int),.int .u8 (p8:Int),.int .u64 (z:Int),.nilIface] 128)).drew)
 case first =>
  go_region_held3 (λw'=>w'.cell? ⟨cp,1,none⟩=some (.map (some bT)))
   (first | exact al1 _ | simp [*])
   (first | (go_at_call 278;refine (hpa _).mono ?_;rintro e w2 ⟨rfl,rfl⟩))
  all_goals
   (go_wp2_with fail
    go_meet
    case rel=>exact ⟨rfl,rfl,rfl⟩)
 case rest =>
  obtain ⟨rfl,rfl,hwc⟩:=hcut
  have hf0:Fr [] w wc:=by rw [hwc];exact ((Fr.refl [] w).alloc _).drew
  have r0:wc.heap[w.heap.size]?=some (.cells #[.int .i64 (s:Int),.int .u8 (p0:Int),.int .u8 (p1:Int),.int .u8 (p2:Int),.int .u8 (p3:Int),.int .u8 (p4:Int),.int .u8 (p5:Int),.int .u8 (p6:Int),.int .u8 (p7:Int),.int .u8 (p8:Int),.int .u64 (z:Int),.nilIface] 128 (0,0)):=by rw [hwc];exact heap_alloc_new w _
  obtain ⟨y0,y1,y2,y3,y4,y5,y6,y7,y8,y9,ya,yb⟩:=tx12 r0
  have hl0:=(Array.getElem?_eq_some_iff.1 r0).1
  have hat:=HAT.out wc
  have H0:=jA1 (And.intro hf0 r0)
  clear hwc hf0 r0 hla hlb al1
  go_wp2_with fail
  refine hat.mono ?_
  clear hat
  rintro e w2 ⟨rfl,hf2⟩
  have r2:=(hf2.block w.heap.size hl0 sE).trans H0.out.2
  obtain ⟨x0,x1,x2,x3,x4,x5,x6,x7,x8,x9,xa,xb⟩:=tx12 r2
  have hwi:=HWI.out w2
  have H2:=jA1 (H0.out.1.trans hf2)
  clear hf2 r2 y0 y1 y2 y3 y4 y5 y6 y7 y8 y9 ya yb
  go_wp2_with fail
  refine hwi.mono ?_
  clear hwi x0 x1 x2 x3 x4 x5 x6 x7 x8 x9 xa xb
  rintro e w3 ⟨rfl,hf3⟩
  obtain ⟨W4,hW4⟩:∃ W4,W4=w3.alloc (.cells #[.int .i64 (s:Int),.int .u8 (q0:Int),.int .u8 (q1:Int),.int .u8 (q2:Int),.int .u8 (q3:Int),.int .u8 (q4:Int),.int .u8 (q5:Int),.int .u8 (q6:Int),.int .u8 (q7:Int),.int .u8 (q8:Int),.int .u64 (z:Int),.nilIface] 128):=⟨_,rfl⟩
  have hf4:Fr [] w W4:=by rw [hW4];exact (H2.out.trans hf3).alloc _
  have r4:W4.heap[w3.heap.size]?=some (.cells #[.int .i64 (s:Int),.int .u8 (q0:Int),.int .u8 (q1:Int),.int .u8 (q2:Int),.int .u8 (q3:Int),.int .u8 (q4:Int),.int .u8 (q5:Int),.int .u8 (q6:Int),.int .u8 (q7:Int),.int .u8 (q8:Int),.int .u64 (z:Int),.nilIface] 128 (0,0)):=by rw [hW4];exact heap_alloc_new w3 _
  have hl4:=(Array.getElem?_eq_some_iff.1 r4).1
  have H4:=jA1 (And.intro hf4 r4)
  clear hf4 r4 hf3
  go_wp2
  rw [← hW4]
  clear hW4
  obtain ⟨d0,d1,d2,d3,d4,d5,d6,d7,d8,d9,da,db⟩:=tx12 H4.out.2
  have u1:=(World.cell?_of_block (a:=⟨cp,1,none⟩) ((H4.out.1).block cp hcl.1 sE)).trans c1
  obtain ⟨w6,hr6,hc6,hf6⟩:=HPUT.out W4.drew n (HI.out.new (H4.out.1).drew) (by unfold maxLen;omega)
  have hne:¬ w3.heap.size=bT:=by
   intro e
   obtain ⟨es,cc,e2⟩:=(HI.out.new (H4.out.1)).txns.isMap
   rw [← e,H4.out.2] at e2;cases e2
  have r6:=(hf6.block w3.heap.size (Array.getElem?_eq_some_iff.1 (H4.out.2)).1 (by simpa using hne)).trans (H4.out.2)
  obtain ⟨t0,t1,t2,t3,t4,t5,t6,t7,t8,t9,ta,tb⟩:=tx12 r6
  have u6:=(World.cell?_of_block (a:=⟨cp,1,none⟩) (hf6.block cp (by have:=(H4.out.1).size;show cp<W4.heap.size;omega) (by simpa using hcl.2.2))).trans u1
  have hf6':Fr [bT] W4 w6:=⟨hf6.os,hf6.tape,hf6.output,hf6.size,hf6.block⟩
  have H6:=jA1 (show CoIn w6 B cp lg bT (n+1) { c with txns:=jAb c.txns t T2 }∧RFr cp [cp,bT] w w6 from ⟨hc6,RFr.trans (H4.out.1.r hcl.1 sE sE) (hf6'.r (Nat.lt_of_lt_of_le hcl.1 H4.out.1.size) (by simpa using hcl.2.2) sE)⟩)
  clear hc6 hf6 hf6' r6
  go_region_held3 (λw'=>w'.cell? ⟨cp,1,none⟩=some (.map (some bT))∧w'.cell? ⟨w3.heap.size,0,none⟩=some (.int .i64 (s:Int))∧w'.cell? ⟨w3.heap.size,1,none⟩=some (.int .u8 (q0:Int))∧w'.cell? ⟨w3.heap.size,2,none⟩=some (.int .u8 (q1:Int))∧w'.cell? ⟨w3.heap.size,3,none⟩=some (.int .u8 (q2:Int))∧w'.cell? ⟨w3.heap.size,4,none⟩=some (.int .u8 (q3:Int))∧w'.cell? ⟨w3.heap.size,5,none⟩=some (.int .u8 (q4:Int))∧w'.cell? ⟨w3.heap.size,6,none⟩=some (.int .u8 (q5:Int))∧w'.cell? ⟨w3.heap.size,7,none⟩=some (.int .u8 (q6:Int))∧w'.cell? ⟨w3.heap.size,8,none⟩=some (.int .u8 (q7:Int))∧w'.cell? ⟨w3.heap.size,9,none⟩=some (.int .u8 (q8:Int))∧w'.cell? ⟨w3.heap.size,10,none⟩=some (.int .u64 (z:Int))∧w'.cell? ⟨w3.heap.size,11,none⟩=some (.nilIface))
   (simp [*])
   (fail)
  have hab:=jOc B cp lg bT (n+1) t _ w6 H6.out.1 ht oE
  rw [HNO2.out] at hab
  go_wp2_with fail
  refine hab.mono ?_
  clear hab
  rintro e w7 ⟨rfl,hc7,hf7⟩
  have H7:=jA1 (show CoIn w7 B cp lg bT (n+11) (c.saidNo t k)∧RFr cp [cp,bT] w w7 from ⟨by rw [show n+11=n+1+10 by omega];exact hc7,RFr.trans H6.out.2 hf7⟩)
  clear hc7 hf7
  go_wp2
  go_ret
  exact ⟨rfl,H7.out⟩
theorem jPo (B cp lg bT n t k v:Nat) (hv:v=2∨v=4) (hk:k<9) (c:ACo) (w:World) (h:CoIn w B cp lg bT n c) (ht:t<18446744073709551616) (haw:(c.tx t).parts.getD k 0=1) (hany:((c.tx t).parts.set k v).any isAw=true) (hn:n+11<67108864) :
  Calls Tryz.prog 250 #[.pointer (some ⟨cp,0,none⟩),.int .u64 (t:Int),.int .i64 (k:Int),.int .i64 (v:Int)] w λe w'=>e=.returned .nilIface∧CoIn w' B cp lg bT (n+1) { c with txns:=jAb c.txns t { c.tx t with parts:=(c.tx t).parts.set k v } }∧RFr cp [cp,bT] w w':=by
 have hok:=h.okT t
 obtain ⟨rv,ov,g1,_⟩:=h.ex
 have c1:=jA0 g1 1
 simp at c1
 have hcl:=h.lts
 have hpa:=jE8 v oE
 obtain ⟨T,hT⟩:∃ T,T=c.tx t:=⟨_,rfl⟩
 have hlb:∀ o,(Instr.lookup 118 (.map (some bT)) (.int .u64 (t:Int)) false).run Tryz.prog ((w.alloc o).drew)=.ok (txV T) ((w.alloc o).drew):=λo=>by rw [hT];exact (h.new ((Fr.refl [] w).alloc o).drew).lookT ht
 have hla:(Instr.lookup 118 (.map (some bT)) (.int .u64 (t:Int)) false).run Tryz.prog w.drew=.ok (txV T) w.drew:=by rw [hT];exact (h.new (Fr.refl [] w).drew).lookT ht
 rw [← hT] at hok haw hany ⊢
 clear hT
 have i0:¬ (v:Int)=0:=by omega
 have j0:((v:Int) == 0)=false:=beq_eq_false_iff_ne.2 i0
 have i3:¬ (v:Int)=3:=by omega
 have j3:((v:Int) == 3)=false:=beq_eq_false_iff_ne.2 i3
 obtain ⟨T2,hT2⟩:∃ T2:ATx,T2={ T with parts:=T.parts.set k v }:=⟨_,rfl⟩
 have hok2:T2.Ok:=by rw [hT2];exact jHr hok oE
 rw [← hT2] at ⊢
 have e2p:T.parts.set k v=T2.parts:=by rw [hT2]
 rw [e2p] at hany
 have hat0:=λW=>jGw T hok k hk W
 rw [haw] at hat0
 have hwi:=λW=>jEt T hok k v hk W
 rw [← hT2] at hwi
 obtain ⟨q0,q1,q2,q3,q4,q5,q6,q7,q8,hq⟩:=nine hok2.1
 have hlit2:txV T2=.agg #[.int .i64 (T.state:Int),.int .u8 (q0:Int),.int .u8 (q1:Int),.int .u8 (q2:Int),.int .u8 (q3:Int),.int .u8 (q4:Int),.int .u8 (q5:Int),.int .u8 (q6:Int),.int .u8 (q7:Int),.int .u8 (q8:Int),.int .u64 (T.since:Int),.nilIface]:=by
  have e:T2=⟨T.state,[q0,q1,q2,q3,q4,q5,q6,q7,q8],T.since⟩:=by
   have e1:T2.state=T.state:=by rw [hT2]
   have e2:T2.since=T.since:=by rw [hT2]
   rw [← e1,← e2,← hq]
  rw [e,jAl]
 rw [hlit2] at hwi
 have HPUT:=jA1 (λ(W:World) (m':Nat) (h2:CoIn W B cp lg bT m' c) (hm':m' < maxLen)=>(by
  obtain ⟨w5,hr5,hm5,hg5⟩:=h2.txns.putRun Tryz.underlying118 hm' (k:=t) ht (v:=T2) hok2
  refine ⟨w5,?_,h2.setTxns (Fr.of_grown1 hg5) hm5 oE,Fr.of_grown1 hg5⟩
  have e:(EX.ev T2:Value)=txV T2:=rfl
  rw [e,hlit2] at hr5
  exact hr5:∃ w5,(Instr.mapUpdate 118 (.map (some bT)) (.int .u64 (t:Int)) (.agg #[.int .i64 (T.state:Int),.int .u8 (q0:Int),.int .u8 (q1:Int),.int .u8 (q2:Int),.int .u8 (q3:Int),.int .u8 (q4:Int),.int .u8 (q5:Int),.int .u8 (q6:Int),.int .u8 (q7:Int),.int .u8 (q8:Int),.int .u64 (T.since:Int),.nilIface])).run Tryz.prog W=.ok () w5∧CoIn w5 B cp lg bT (m' + 1) { c with txns:=jAb c.txns t T2 }∧Fr [bT] W w5))
 have HHA:=jA1 (λW=>jFb 68 isAw jRy jM2 T2 hok2 W)
 rw [hany,hlit2] at HHA
 have HWI:=jA1 hwi
 clear hT2 hq hwi haw
 have HAT:=jA1 hat0
 clear hat0 hlit2 hany e2p
 obtain ⟨s,ps,z⟩:=T
 obtain ⟨p0,p1,p2,p3,p4,p5,p6,p7,p8,hps⟩:=nine hok.1
 change ps=_ at hps
 subst hps
 rw [jAl] at hla HAT
 simp only [jAl] at hlb
 have al1:∀ o,(w.alloc o).cell? ⟨cp,1,none⟩=some (.map (some bT)):=λo=>(World.cell?_alloc_lt _ _ _ hcl.1).trans c1
 have HI:=jA1 h
 clear h g1
 go_enter Tryz.func250,Tryz.ntmps250
 go_wp2
 go_cut [9,10] from 12 to 19 (λs9 s10 wx=>s9=.pointer (some ⟨w.heap.size,0,none⟩)∧s10=.int .u8 (v:Int)∧wx=(w.alloc (.cells #[.int .i64 (s:Int),.int .u8 (p0:Int),.int .u8 (p1:Int),.int .u8 (p2:Int),.int .u8 (p3:Int),.int .u8 (p4:Int),.int .u8 (p5:Int),.int .u8 (p6:Int),.int .u8 (p7:Int),.int .u8 (p8:Int),.int .u64 (z:Int),.nilIface] 128)).drew)
 case first =>
  go_region_held3 (λw'=>w'.cell? ⟨cp,1,none⟩=some (.map (some bT)))
   (first | exact al1 _ | simp [*])
   (first | (go_at_call 278;refine (hpa _).mono ?_;rintro e w2 ⟨rfl,rfl⟩))
  all_goals
   (go_wp2_with fail
    go_meet
    case rel=>exact ⟨rfl,rfl,rfl⟩)
 case rest =>
  obtain ⟨rfl,rfl,hwc⟩:=hcut
  have hf0:Fr [] w wc:=by rw [hwc];exact ((Fr.refl [] w).alloc _).drew
  have r0:wc.heap[w.heap.size]?=some (.cells #[.int .i64 (s:Int),.int .u8 (p0:Int),.int .u8 (p1:Int),.int .u8 (p2:Int),.int .u8 (p3:Int),.int .u8 (p4:Int),.int .u8 (p5:Int),.int .u8 (p6:Int),.int .u8 (p7:Int),.int .u8 (p8:Int),.int .u64 (z:Int),.nilIface] 128 (0,0)):=by rw [hwc];exact heap_alloc_new w _
  obtain ⟨y0,y1,y2,y3,y4,y5,y6,y7,y8,y9,ya,yb⟩:=tx12 r0
  have hl0:=(Array.getElem?_eq_some_iff.1 r0).1
  have hat:=HAT.out wc
  have H0:=jA1 (And.intro hf0 r0)
  clear hwc hf0 r0 hla hlb al1
  go_wp2_with fail
  refine hat.mono ?_
  clear hat
  rintro e w2 ⟨rfl,hf2⟩
  have r2:=(hf2.block w.heap.size hl0 sE).trans H0.out.2
  obtain ⟨x0,x1,x2,x3,x4,x5,x6,x7,x8,x9,xa,xb⟩:=tx12 r2
  have hwi:=HWI.out w2
  have H2:=jA1 (H0.out.1.trans hf2)
  clear hf2 r2 y0 y1 y2 y3 y4 y5 y6 y7 y8 y9 ya yb
  go_wp2_with fail
  refine hwi.mono ?_
  clear hwi x0 x1 x2 x3 x4 x5 x6 x7 x8 x9 xa xb
  rintro e w3 ⟨rfl,hf3⟩
  obtain ⟨W4,hW4⟩:∃ W4,W4=w3.alloc (.cells #[.int .i64 (s:Int),.int .u8 (q0:Int),.int .u8 (q1:Int),.int .u8 (q2:Int),.int .u8 (q3:Int),.int .u8 (q4:Int),.int .u8 (q5:Int),.int .u8 (q6:Int),.int .u8 (q7:Int),.int .u8 (q8:Int),.int .u64 (z:Int),.nilIface] 128):=⟨_,rfl⟩
  have hf4:Fr [] w W4:=by rw [hW4];exact (H2.out.trans hf3).alloc _
  have r4:W4.heap[w3.heap.size]?=some (.cells #[.int .i64 (s:Int),.int .u8 (q0:Int),.int .u8 (q1:Int),.int .u8 (q2:Int),.int .u8 (q3:Int),.int .u8 (q4:Int),.int .u8 (q5:Int),.int .u8 (q6:Int),.int .u8 (q7:Int),.int .u8 (q8:Int),.int .u64 (z:Int),.nilIface] 128 (0,0)):=by rw [hW4];exact heap_alloc_new w3 _
  have hl4:=(Array.getElem?_eq_some_iff.1 r4).1
  have H4:=jA1 (And.intro hf4 r4)
  clear hf4 r4 hf3
  have hha:=HHA.out W4
  go_wp2_with fail
  rw [← hW4]
  clear hW4
  refine hha.mono ?_
  clear hha
  rintro e w5 ⟨rfl,hf5⟩
  have H5:=jA1 (And.intro (H4.out.1.trans hf5) ((hf5.block w3.heap.size hl4 sE).trans H4.out.2))
  clear hf5
  go_wp2
  obtain ⟨d0,d1,d2,d3,d4,d5,d6,d7,d8,d9,da,db⟩:=tx12 H5.out.2
  have u1:=(World.cell?_of_block (a:=⟨cp,1,none⟩) ((H5.out.1).block cp hcl.1 sE)).trans c1
  obtain ⟨w6,hr6,hc6,hf6⟩:=HPUT.out w5.drew n (HI.out.new (H5.out.1).drew) (by unfold maxLen;omega)
  have hne:¬ w3.heap.size=bT:=by
   intro e
   obtain ⟨es,cc,e2⟩:=(HI.out.new (H5.out.1)).txns.isMap
   rw [← e,H5.out.2] at e2;cases e2
  have r6:=(hf6.block w3.heap.size (Array.getElem?_eq_some_iff.1 (H5.out.2)).1 (by simpa using hne)).trans (H5.out.2)
  obtain ⟨t0,t1,t2,t3,t4,t5,t6,t7,t8,t9,ta,tb⟩:=tx12 r6
  have u6:=(World.cell?_of_block (a:=⟨cp,1,none⟩) (hf6.block cp (by have:=(H5.out.1).size;show cp<w5.heap.size;omega) (by simpa using hcl.2.2))).trans u1
  have hf6':Fr [bT] w5 w6:=⟨hf6.os,hf6.tape,hf6.output,hf6.size,hf6.block⟩
  have H6:=jA1 (show CoIn w6 B cp lg bT (n+1) { c with txns:=jAb c.txns t T2 }∧RFr cp [cp,bT] w w6 from ⟨hc6,RFr.trans (H5.out.1.r hcl.1 sE sE) (hf6'.r (Nat.lt_of_lt_of_le hcl.1 H5.out.1.size) (by simpa using hcl.2.2) sE)⟩)
  clear hc6 hf6 hf6' r6
  go_region_held3 (λw'=>w'.cell? ⟨cp,1,none⟩=some (.map (some bT))∧w'.cell? ⟨w3.heap.size,0,none⟩=some (.int .i64 (s:Int))∧w'.cell? ⟨w3.heap.size,1,none⟩=some (.int .u8 (q0:Int))∧w'.cell? ⟨w3.heap.size,2,none⟩=some (.int .u8 (q1:Int))∧w'.cell? ⟨w3.heap.size,3,none⟩=some (.int .u8 (q2:Int))∧w'.cell? ⟨w3.heap.size,4,none⟩=some (.int .u8 (q3:Int))∧w'.cell? ⟨w3.heap.size,5,none⟩=some (.int .u8 (q4:Int))∧w'.cell? ⟨w3.heap.size,6,none⟩=some (.int .u8 (q5:Int))∧w'.cell? ⟨w3.heap.size,7,none⟩=some (.int .u8 (q6:Int))∧w'.cell? ⟨w3.heap.size,8,none⟩=some (.int .u8 (q7:Int))∧w'.cell? ⟨w3.heap.size,9,none⟩=some (.int .u8 (q8:Int))∧w'.cell? ⟨w3.heap.size,10,none⟩=some (.int .u64 (z:Int))∧w'.cell? ⟨w3.heap.size,11,none⟩=some (.nilIface))
   (simp [*])
   (fail)
  go_wp2
  go_ret
  exact ⟨rfl,H6.out⟩
theorem jKn (B cp lg bT n t k v:Nat) (hv:v=2∨v=4) (hk:k<9) (c:ACo) (w:World) (h:CoIn w B cp lg bT n c) (ht:t<18446744073709551616) (haw:(c.tx t).parts.getD k 0=1) (hany:((c.tx t).parts.set k v).any isAw=false) (P:World→Prop) (hcm:∀ W,Fr [] w W→Calls Tryz.prog 282 #[.pointer (some ⟨cp,0,none⟩),.int .u64 (t:Int),txV { c.tx t with parts:=(c.tx t).parts.set k v }] W λe w'=>e=.returned .nilIface∧P w') :
  Calls Tryz.prog 250 #[.pointer (some ⟨cp,0,none⟩),.int .u64 (t:Int),.int .i64 (k:Int),.int .i64 (v:Int)] w λe w'=>e=.returned .nilIface∧P w':=by
 have hok:=h.okT t
 obtain ⟨rv,ov,g1,_⟩:=h.ex
 have c1:=jA0 g1 1
 simp at c1
 have hcl:=h.lts
 have hpa:=jE8 v oE
 obtain ⟨T,hT⟩:∃ T,T=c.tx t:=⟨_,rfl⟩
 have hlb:∀ o,(Instr.lookup 118 (.map (some bT)) (.int .u64 (t:Int)) false).run Tryz.prog ((w.alloc o).drew)=.ok (txV T) ((w.alloc o).drew):=λo=>by rw [hT];exact (h.new ((Fr.refl [] w).alloc o).drew).lookT ht
 have hla:(Instr.lookup 118 (.map (some bT)) (.int .u64 (t:Int)) false).run Tryz.prog w.drew=.ok (txV T) w.drew:=by rw [hT];exact (h.new (Fr.refl [] w).drew).lookT ht
 rw [← hT] at hok haw hany hcm
 clear hT
 have i0:¬ (v:Int)=0:=by omega
 have j0:((v:Int) == 0)=false:=beq_eq_false_iff_ne.2 i0
 have i3:¬ (v:Int)=3:=by omega
 have j3:((v:Int) == 3)=false:=beq_eq_false_iff_ne.2 i3
 obtain ⟨T2,hT2⟩:∃ T2:ATx,T2={ T with parts:=T.parts.set k v }:=⟨_,rfl⟩
 have hok2:T2.Ok:=by rw [hT2];exact jHr hok oE
 rw [← hT2] at hcm
 have e2p:T.parts.set k v=T2.parts:=by rw [hT2]
 rw [e2p] at hany
 have hat0:=λW=>jGw T hok k hk W
 rw [haw] at hat0
 have hwi:=λW=>jEt T hok k v hk W
 rw [← hT2] at hwi
 obtain ⟨q0,q1,q2,q3,q4,q5,q6,q7,q8,hq⟩:=nine hok2.1
 have hlit2:txV T2=.agg #[.int .i64 (T.state:Int),.int .u8 (q0:Int),.int .u8 (q1:Int),.int .u8 (q2:Int),.int .u8 (q3:Int),.int .u8 (q4:Int),.int .u8 (q5:Int),.int .u8 (q6:Int),.int .u8 (q7:Int),.int .u8 (q8:Int),.int .u64 (T.since:Int),.nilIface]:=by
  have e:T2=⟨T.state,[q0,q1,q2,q3,q4,q5,q6,q7,q8],T.since⟩:=by
   have e1:T2.state=T.state:=by rw [hT2]
   have e2:T2.since=T.since:=by rw [hT2]
   rw [← e1,← e2,← hq]
  rw [e,jAl]
 rw [hlit2] at hwi
 have HHA:=jA1 (λW=>jFb 68 isAw jRy jM2 T2 hok2 W)
 rw [hany,hlit2] at HHA
 rw [hlit2] at hcm
 have HCM:=jA1 hcm
 clear hcm
 have HWI:=jA1 hwi
 clear hT2 hq hwi haw
 have HAT:=jA1 hat0
 clear hat0 hlit2 hany e2p
 obtain ⟨s,ps,z⟩:=T
 obtain ⟨p0,p1,p2,p3,p4,p5,p6,p7,p8,hps⟩:=nine hok.1
 change ps=_ at hps
 subst hps
 rw [jAl] at hla HAT
 simp only [jAl] at hlb
 have al1:∀ o,(w.alloc o).cell? ⟨cp,1,none⟩=some (.map (some bT)):=λo=>(World.cell?_alloc_lt _ _ _ hcl.1).trans c1
 have HI:=jA1 h
 clear h g1
 go_enter Tryz.func250,Tryz.ntmps250
 go_wp2
 go_cut [9,10] from 12 to 19 (λs9 s10 wx=>s9=.pointer (some ⟨w.heap.size,0,none⟩)∧s10=.int .u8 (v:Int)∧wx=(w.alloc (.cells #[.int .i64 (s:Int),.int .u8 (p0:Int),.int .u8 (p1:Int),.int .u8 (p2:Int),.int .u8 (p3:Int),.int .u8 (p4:Int),.int .u8 (p5:Int),.int .u8 (p6:Int),.int .u8 (p7:Int),.int .u8 (p8:Int),.int .u64 (z:Int),.nilIface] 128)).drew)
 case first =>
  go_region_held3 (λw'=>w'.cell? ⟨cp,1,none⟩=some (.map (some bT)))
   (first | exact al1 _ | simp [*])
   (first | (go_at_call 278;refine (hpa _).mono ?_;rintro e w2 ⟨rfl,rfl⟩))
  all_goals
   (go_wp2_with fail
    go_meet
    case rel=>exact ⟨rfl,rfl,rfl⟩)
 case rest =>
  obtain ⟨rfl,rfl,hwc⟩:=hcut
  have hf0:Fr [] w wc:=by rw [hwc];exact ((Fr.refl [] w).alloc _).drew
  have r0:wc.heap[w.heap.size]?=some (.cells #[.int .i64 (s:Int),.int .u8 (p0:Int),.int .u8 (p1:Int),.int .u8 (p2:Int),.int .u8 (p3:Int),.int .u8 (p4:Int),.int .u8 (p5:Int),.int .u8 (p6:Int),.int .u8 (p7:Int),.int .u8 (p8:Int),.int .u64 (z:Int),.nilIface] 128 (0,0)):=by rw [hwc];exact heap_alloc_new w _
  obtain ⟨y0,y1,y2,y3,y4,y5,y6,y7,y8,y9,ya,yb⟩:=tx12 r0
  have hl0:=(Array.getElem?_eq_some_iff.1 r0).1
  have hat:=HAT.out wc
  have H0:=jA1 (And.intro hf0 r0)
  clear hwc hf0 r0 hla hlb al1
  go_wp2_with fail
  refine hat.mono ?_
  clear hat
  rintro e w2 ⟨rfl,hf2⟩
  have r2:=(hf2.block w.heap.size hl0 sE).trans H0.out.2
  obtain ⟨x0,x1,x2,x3,x4,x5,x6,x7,x8,x9,xa,xb⟩:=tx12 r2
  have hwi:=HWI.out w2
  have H2:=jA1 (H0.out.1.trans hf2)
  clear hf2 r2 y0 y1 y2 y3 y4 y5 y6 y7 y8 y9 ya yb
  go_wp2_with fail
  refine hwi.mono ?_
  clear hwi x0 x1 x2 x3 x4 x5 x6 x7 x8 x9 xa xb
  rintro e w3 ⟨rfl,hf3⟩
  obtain ⟨W4,hW4⟩:∃ W4,W4=w3.alloc (.cells #[.int .i64 (s:Int),.int .u8 (q0:Int),.int .u8 (q1:Int),.int .u8 (q2:Int),.int .u8 (q3:Int),.int .u8 (q4:Int),.int .u8 (q5:Int),.int .u8 (q6:Int),.int .u8 (q7:Int),.int .u8 (q8:Int),.int .u64 (z:Int),.nilIface] 128):=⟨_,rfl⟩
  have hf4:Fr [] w W4:=by rw [hW4];exact (H2.out.trans hf3).alloc _
  have r4:W4.heap[w3.heap.size]?=some (.cells #[.int .i64 (s:Int),.int .u8 (q0:Int),.int .u8 (q1:Int),.int .u8 (q2:Int),.int .u8 (q3:Int),.int .u8 (q4:Int),.int .u8 (q5:Int),.int .u8 (q6:Int),.int .u8 (q7:Int),.int .u8 (q8:Int),.int .u64 (z:Int),.nilIface] 128 (0,0)):=by rw [hW4];exact heap_alloc_new w3 _
  have hl4:=(Array.getElem?_eq_some_iff.1 r4).1
  have H4:=jA1 (And.intro hf4 r4)
  clear hf4 r4 hf3
  have hha:=HHA.out W4
  go_wp2_with fail
  rw [← hW4]
  clear hW4
  refine hha.mono ?_
  clear hha
  rintro e w5 ⟨rfl,hf5⟩
  have H5:=jA1 (And.intro (H4.out.1.trans hf5) ((hf5.block w3.heap.size hl4 sE).trans H4.out.2))
  clear hf5
  obtain ⟨d0,d1,d2,d3,d4,d5,d6,d7,d8,d9,da,db⟩:=tx12 H5.out.2
  have hcm:=HCM.out w5 H5.out.1
  go_wp2_with fail
  refine hcm.mono ?_
  clear hcm d0 d1 d2 d3 d4 d5 d6 d7 d8 d9 da db
  rintro e w6 ⟨rfl,hp6⟩
  have H6:=jA1 hp6
  clear hp6
  go_wp2
  go_ret
  exact ⟨rfl,H6.out⟩
end Go.Proofs.YtcalalndmcemiaaGreatDoor
