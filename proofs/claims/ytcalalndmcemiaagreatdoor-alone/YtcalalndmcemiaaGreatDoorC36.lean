import Derived.Test.YtcalalndmcemiaaGreatDoorC21
set_option maxRecDepth 100000
set_option maxHeartbeats 16000000
namespace Go.Proofs.YtcalalndmcemiaaGreatDoor
open Go.RowKit Go.Maps Go.Shelf
open Sc
abbrev rdC (cp:Nat):Value:=.func (.func 126) #[.pointer (some ⟨cp,0,none⟩)] #[]
theorem jKs (N:Nat) (hN:14≤N) (B p bD bN n cp bT:Nat) (R:ALog × ADisk × Nat) (I:List Rec→World→Prop) (w:World) (h00:I [] w) (hIb:∀ pre A A',I pre A→A.heap.size≤A'.heap.size→(∀ k∈[cp,bT],A'.heap[k]?=A.heap[k]?)→I pre A')
  (hcp:∃ cs,w.heap[cp]?=some (.cells cs 122 (0,0))) (hbT:∃ es c,w.heap[bT]?=some (.map es c)) (hd:∃ pv d nD nN,DiskIn w B p bD bN pv d n nD nN) (hne:bT≠bD∧bT≠bN)
  (hJ:∀ W,Fr [] w W→Calls Tryz.prog 78 #[dskV p] W (jDl B p bD bN n R W)) (hpl:jEo R.1.recs) (hfi:firstN R.1.recs R.1.next=1) (hby:∀ r∈R.1.recs,Byt r.pay∧r.pay.length≤4096)
  (hrd:∀ pre x n fp A,pre++[x] <+: R.1.recs→I pre A→cp<n→bT<n→FldAt n A fp x.pay→Calls Tryz.prog 126 #[.pointer (some ⟨cp,0,none⟩),.int .u8 (x.kind:Int),.pointer (some ⟨fp,0,none⟩)] A λe w'=>e=.returned (.bool true)∧I (pre++[x]) w'∧Fr [fp,cp,bT] A w') (hn:n≤67108864) :
  CallsIn Fence.wide N Tryz.prog 124 #[dskV p,rdC cp] w λe w'=>∃ gp lp,e=.returned (.tuple #[.pointer (some ⟨gp,0,none⟩),.nilIface])∧I R.1.recs w'∧(∃ pv sv rv nD nN,LogIn w' B lp p bD bN pv sv rv R.1 R.2.1 n nD nN)∧w'.heap[gp]?=some (ledO lp)∧w.heap.size≤gp∧SDFr p [cp,bT] w w':=by
 obtain ⟨cs,hcp⟩:=hcp
 have lcp:cp<w.heap.size:=(Array.getElem?_eq_some_iff.1 hcp).1
 have lbT:bT<w.heap.size:=by obtain ⟨es,c,e⟩:=hbT;exact (Array.getElem?_eq_some_iff.1 e).1
 have hro:Fence.wide.round=none:=rfl
 have h1:1≤N:=by omega
 have hf1:Fence.wide.fn 78:=trivial
 have hf2:Fence.wide.fn 165:=trivial
 have hf3:Fence.wide.fn 166:=trivial
 have hf4:Fence.wide.fn 167:=trivial
 have hf5:Fence.wide.fn 217:=trivial
 have hf6:Fence.wide.fn 168:=trivial
 have hf7:Fence.wide.fn 126:=trivial
 obtain ⟨W0,hW0⟩:∃ W0,W0=((w.alloc (.cells #[rdC cp] 229)).alloc (.cells #[.pointer none] 117)).alloc (.cells #[.nilIface] 82):=⟨_,rfl⟩
 have hfr0:Fr [] w W0:=by rw [hW0];exact (((Fr.refl [] w).alloc _).alloc _).alloc _
 have hs0:W0.heap.size=w.heap.size+3:=by rw [hW0];simp
 have r0:W0.heap[w.heap.size]?=some (.cells #[rdC cp] 229 (0,0)):=by rw [hW0,Below.heap_alloc _ _ w.heap.size (by simp;omega),Below.heap_alloc _ _ w.heap.size sE];exact heap_alloc_new w _
 have r1:W0.heap[w.heap.size+1]?=some (.cells #[.pointer none] 117 (0,0)):=by
  rw [hW0,Below.heap_alloc _ _ (w.heap.size+1) sE]
  have:=heap_alloc_new (w.alloc (.cells #[rdC cp] 229)) (.cells #[.pointer none] 117)
  rwa [World.size_alloc] at this
 have r2:W0.heap[w.heap.size+2]?=some (.cells #[.nilIface] 82 (0,0)):=by
  rw [hW0]
  have:=heap_alloc_new ((w.alloc (.cells #[rdC cp] 229)).alloc (.cells #[.pointer none] 117)) (.cells #[.nilIface] 82)
  rwa [World.size_alloc,World.size_alloc] at this
 have hJ0:=(callsIn_wide (n:=N - 1)).2 (hJ W0 hfr0)
 have HS0:=hIb [] w W0 h00 hfr0.size (λk hk=>hfr0.block k (by simp at hk;omega) sE)
 have p0:W0.heap[cp]?=some (.cells cs 122 (0,0)):=(hfr0.block cp lcp sE).trans hcp
 have m0:∃ es c,W0.heap[bT]?=some (.map es c):=by obtain ⟨es,c,e⟩:=hbT;exact ⟨es,c,(hfr0.block bT lbT sE).trans e⟩
 obtain ⟨pv0,d0,nD0,nN0,hd0⟩:=hd
 have HD0:=hd0.new hfr0
 refine callsIn_of_wp_marks Tryz.func124 rfl trivial ?_ hro
 simp only [Tryz.ntmps124,List.size_toArray,List.length_cons,List.length_nil,Nat.reduceAdd,Nat.reduceSub,Array.replicate_succ,Array.replicate_zero,List.push_toArray,List.append_toArray,List.nil_append,List.cons_append]
 gi_wp2_with fail
 rw [← hW0]
 refine hJ0.mono ?_
 clear hJ0 hW0
 rintro e w1 ⟨lp,rfl,hlp,⟨pv,sv,rv,nD,nN,hl1⟩,hdf1⟩
 have fD:∀ k∈[cp,bT,w.heap.size,w.heap.size+1,w.heap.size+2],w1.heap[k]?=W0.heap[k]?:=by
  intro k hk
  simp at hk
  rcases hk with rfl | rfl | rfl | rfl | rfl
  ·exact hdf1.block _ oE (HD0.freeD p0 dN dN)
  ·exact hdf1.block _ oE (HD0.freeDMap m0 hne.1 hne.2)
  ·exact hdf1.block _ oE (HD0.freeD r0 dN dN)
  ·exact hdf1.block _ oE (HD0.freeD r1 dN dN)
  ·exact hdf1.block _ oE (HD0.freeD r2 dN dN)
 have HS1:I [] w1:=hIb [] _ _ HS0 hdf1.size (λk hk=>fD k (by simp at hk ⊢;omega))
 have p1:=(fD cp sE).trans p0
 have m1:∃ es c,w1.heap[bT]?=some (.map es c):=by obtain ⟨es,c,e⟩:=m0;exact ⟨es,c,(fD bT sE).trans e⟩
 have q0:=(fD w.heap.size sE).trans r0
 have q1:=(fD (w.heap.size+1) sE).trans r1
 have q2:=(fD (w.heap.size+2) sE).trans r2
 have hz1:=hdf1.size
 have hsd1:SDFr p [cp,bT] w w1:=⟨hdf1.os.trans hfr0.os,hdf1.tape.trans hfr0.tape,hdf1.output.trans hfr0.output,by omega,λk hk ho _=>(hdf1.block k oE (λho'=>ho (by
  have:=(HD0.ownD k).1 ho'
  exact (hd0.ownD k).2 this))).trans (hfr0.block k hk sE)⟩
 clear hdf1 fD r0 r1 r2 hfr0 HS0 HD0 hd0 p0 m0
 obtain ⟨W2,hW2⟩:∃ W2,W2=w1.alloc (ledO lp):=⟨_,rfl⟩
 have hfr2:Fr [] w1 W2:=by rw [hW2];exact (Fr.refl [] w1).alloc _
 have hz2:W2.heap.size=w1.heap.size+1:=by rw [hW2];simp
 have g2:W2.heap[w1.heap.size]?=some (ledO lp):=by rw [hW2];exact heap_alloc_new w1 _
 have hl2:=hl1.new hfr2
 have HS2:=hIb [] _ _ HS1 hfr2.size (λk hk=>hfr2.block k (by simp at hk;omega) sE)
 have p2:=(hfr2.block cp oE sE).trans p1
 have m2:∃ es c,W2.heap[bT]?=some (.map es c):=by obtain ⟨es,c,e⟩:=m1;exact ⟨es,c,(hfr2.block bT oE sE).trans e⟩
 have lr2:LogRecs W2 lp rv R.1.recs:=⟨(Array.getElem?_eq_some_iff.1 hl2.blk).1,by have:=jA0 hl2.blk 3;simpa using this,jHk hl2.recs⟩
 have nx2:W2.cell? ⟨lp,4,none⟩=some (.int .u64 (R.1.next:Int)):=by have:=jA0 hl2.blk 4;simpa using this
 have gc2:W2.cell? ⟨w1.heap.size,0,none⟩=some (.pointer (some ⟨lp,0,none⟩)):=by have:=jA0 g2 0;simpa using this
 have hlen:R.1.recs.length≤67108864:=by have:=hl2.recsN;omega
 have hcp:=jGg (N - 1) oE w1.heap.size lp rv R.1.recs hlen hpl W2 gc2 lr2
 have b0:=(hfr2.block w.heap.size oE sE).trans q0
 have b1:=(hfr2.block (w.heap.size+1) oE sE).trans q1
 have b2:=(hfr2.block (w.heap.size+2) oE sE).trans q2
 clear q0 q1 q2
 gi_wp2_with fail
 have hW2':W2=w1.alloc (.cells #[.pointer (some ⟨lp,0,none⟩)] 244):=hW2
 rw [← hW2']
 refine hcp.mono ?_
 clear hcp hW2 hW2'
 rintro e w3 ⟨rfl,hb3⟩
 have hz3:=hb3.size
 have hfo:=jHs (N - 1) oE lp R.1.next rv R.1.recs hlen w3 (lr2.below hb3) ((hb3.cell (p:=⟨lp,4,none⟩) lr2.lt).trans nx2)
 rw [hfi] at hfo
 gi_wp2_with fail
 refine hfo.mono ?_
 clear hfo
 rintro e w4 ⟨rfl,hb4⟩
 have hz4:=hb4.size
 have hfa:=jJ9 (N - 1) w1.heap.size w4
 gi_wp2_with fail
 refine hfa.mono ?_
 clear hfa
 rintro e w5 ⟨rfl,hw5⟩
 have hB5:Below W2.heap.size W2 w5:=by rw [hw5];exact (hb3.trans (hb4.mono hz3)).alloc oE _
 have hz5:w5.heap.size=w4.heap.size+1:=by rw [hw5];simp
 have a5:w5.heap[w4.heap.size]?=some (.cells #[.pointer (some ⟨w1.heap.size,0,none⟩)] 117 (0,0)):=by rw [hw5];exact heap_alloc_new w4 _
 have hfr5:Fr [] W2 w5:=Fr.of_below hB5 []
 have hl5:=hl2.new hfr5
 have HS5:=hIb [] _ _ HS2 hfr5.size (λk hk=>hfr5.block k (by simp at hk;omega) sE)
 have p5:=(hfr5.block cp oE sE).trans p2
 have m5:∃ es c,w5.heap[bT]?=some (.map es c):=by obtain ⟨es,c,e⟩:=m2;exact ⟨es,c,(hfr5.block bT oE sE).trans e⟩
 have lr5:=lr2.below hB5
 have g5:=(hfr5.block w1.heap.size oE sE).trans g2
 have c0:=(hfr5.block w.heap.size oE sE).trans b0
 have c1:=(hfr5.block (w.heap.size+1) oE sE).trans b1
 have c2:=(hfr5.block (w.heap.size+2) oE sE).trans b2
 have hsd5:SDFr p [cp,bT] w w5:=⟨hfr5.os.trans (hfr2.os.trans hsd1.os),hfr5.tape.trans (hfr2.tape.trans hsd1.tape),hfr5.output.trans (hfr2.output.trans hsd1.output),by omega,λk hk ho hS=>(hfr5.block k oE sE).trans ((hfr2.block k oE sE).trans (hsd1.block k hk ho hS))⟩
 clear hw5 hB5 hfr5 hl2 HS2 lr2 g2 b0 b1 b2 hsd1 hb3 hb4 nx2 gc2 hl1 HS1 hfr2 p1 p2 m1 m2
 gi_wp2
 have z4:w5.cell? ⟨w4.heap.size,0,none⟩=some (.pointer (some ⟨w1.heap.size,0,none⟩)):=by have:=jA0 a5 0;simpa using this
 have z5:w5.cell? ⟨w1.heap.size,0,none⟩=some (.pointer (some ⟨lp,0,none⟩)):=by have:=jA0 g5 0;simpa using this
 have hrowS:∀ k∈jCa rv,k∉[cp,bT]:=λk hk hm=>by
  simp [jCa] at hk
  obtain ⟨c,hc⟩:=jA4 hl5.recs hk
  simp at hm
  rcases hm with e | e
  ·rw [e,p5] at hc;cases hc
  ·obtain ⟨es,c2,e2⟩:=m5;rw [e,e2] at hc;cases hc
 refine jCv hro h1 (gf:=217) (lb:=#[.pointer (some ⟨w4.heap.size,0,none⟩)]) rfl hf5 (enters_of Tryz.func217 (by kernel_rfl) rfl)
  (encs:=λx:Rec=>#[.int .u8 (x.kind:Int),.string (str x.pay)]) (rs:=R.1.recs) (S:=jCa rv) (λ_=>rfl) lr5.rows
  (λWx hbx _=>jS1 (N - 1) oE _ w4.heap.size w1.heap.size lp rv R.1.recs hlen hpl Wx ((hbx.cell (p:=⟨w4.heap.size,0,none⟩) (by show w4.heap.size<_;omega)).trans z4) ((hbx.cell (p:=⟨w1.heap.size,0,none⟩) (by show w1.heap.size<_;omega)).trans z5) (lr5.below hbx))
  (λpre A=>I pre A∧Fr [cp,bT] w5 A)
  (λWx hbx=>⟨hIb [] _ _ HS5 hbx.size (λk hk=>hbx.block k (by simp at hk;omega)),Fr.of_below hbx _⟩)
  (λs A B hs hb=>by
   obtain ⟨e1,e3⟩:=hs
   exact ⟨hIb _ _ _ e1 hb.size (λk hk=>hb.block k (by simp at hk;omega)),⟨hb.os.trans e3.os,hb.tape.trans e3.tape,hb.output.trans e3.output,Nat.le_trans e3.size hb.size,λk hk hS=>(hb.block k oE).trans (e3.block k hk hS)⟩⟩)
  (λs A r hs=>by
   obtain ⟨e1,e3⟩:=hs
   exact ⟨hIb _ _ _ e1 (by rw [jAw];exact Nat.le_refl _) (λk hk=>World.putObj_heap_other (by simp at hk;omega)),⟨e3.os,e3.tape,e3.output,by rw [jAw];exact e3.size,λk hk hS=>(World.putObj_heap_other oE).trans (e3.block k hk hS)⟩⟩)
  (λx a' A=>a'={ tmps:=#[dskV p,rdC cp,undef,.pointer (some ⟨w.heap.size,0,none⟩),.pointer (some ⟨w.heap.size+1,0,none⟩),.pointer (some ⟨w.heap.size+1+1,0,none⟩),.pointer (some ⟨lp,0,none⟩),.nilIface,.pointer (some ⟨w1.heap.size,0,none⟩),.int .u64 0,.int .u64 0,.int .u8 (x.kind:Int),.string (str x.pay),.tuple #[.pointer (some ⟨lp,0,none⟩),.nilIface],dskV p,.tuple #[.pointer (some ⟨lp,0,none⟩),.nilIface],.pointer (some ⟨lp,0,none⟩),.nilIface,.nilIface,.bool false,undef,.pointer (some ⟨lp,0,none⟩),.agg #[.pointer (some ⟨lp,0,none⟩)],.pointer (some ⟨w1.heap.size,0,none⟩),.tuple #[.int .u64 0,.int .u64 0],.pointer (some ⟨w1.heap.size,0,none⟩),.tuple #[.int .u64 0,.int .u64 0],.int .u64 0,.int .u64 0,.int .u64 0,.bool true,.bool true,.pointer (some ⟨lp,0,none⟩),.int .u64 1,.bool false,.bool false,undef,.pointer (some ⟨w1.heap.size,0,none⟩),.func (.func 217) #[] #[.pointer (some ⟨w4.heap.size,0,none⟩)],.int .u8 (x.kind:Int),.string (str x.pay),undef,undef,undef,undef,undef,undef,undef,undef],defers:=[] })
  (λx a' A r hs=>hs)
  ?assign ?body ?done
 case assign =>
  have hsem:=@Oper.semAt_some
  rintro pre x A K hI hsA hpre hK
  gi_wp2
  exact hK _ _ hI (Keep.refl _ _ _) rfl
 case body =>
  have hsem:=@Oper.semAt_some
  rintro pre x a' A ⟨hin1,hfA⟩ hsA rfl hpre
  have hx:x∈R.1.recs:=hpre.subset sE
  have hpl1:pre.length+1≤R.1.recs.length:=by have:=hpre.length_le;simpa using this
  obtain ⟨y1,y2⟩:=hby x hx
  have v0:A.cell? ⟨w.heap.size,0,none⟩=some (rdC cp):=by have:=jA0 ((hfA.block w.heap.size oE (by simp;omega)).trans c0) 0;simpa using this
  have h3:1≤N - 1 - 1:=by omega
  have HI:Hid (I pre A∧Fr [cp,bT] w5 A):=⟨hin1,hfA⟩
  have hzA0:=hfA.size
  have HB:Hid (∀ (w7 w8:World) (fp:Nat),A.heap.size≤fp→Fr [] A.drew w7→I (pre++[x]) w8→Fr [fp,cp,bT] w7 w8 →
    (I (pre++[x]) w8∧Fr [cp,bT] w5 w8)∧Keep w5.heap.size (jCa rv) A w8):=by
   intro w7 w8 fp hfp hfr7 hin8 hfr8
   have hzA:A.heap.size≤w7.heap.size:=hfr7.size
   have blk:∀ k,k<A.heap.size→k∉[cp,bT]→w8.heap[k]?=A.heap[k]?:=λk hk hS=>(hfr8.block k oE (by simp at hS ⊢;omega)).trans (hfr7.block k hk sE)
   refine ⟨⟨hin8,hfr8.os.trans (hfr7.os.trans hfA.os),hfr8.tape.trans (hfr7.tape.trans hfA.tape),hfr8.output.trans (hfr7.output.trans hfA.output),by have:=hfr8.size;have:=hfA.size;omega,λk hk hS=>(blk k oE hS).trans (hfA.block k hk hS)⟩,by have:=hfr8.size;omega,λk hk hlt=>blk k hlt (by simp;omega),λk hk hlt=>blk k hlt (hrowS k hk)⟩
  clear hin1 hfA
  gi_wp2
  gi_region_with (first
   | (gi_at_call 168;refine ((callsIn_wide (n:=N - 1 - 1 - 1)).2 (jFu x.pay y1 y2 _)).mono ?_;rintro e w7 ⟨fp,rfl,hfa7,hfr7⟩;have v7:w7.cell? ⟨w.heap.size,0,none⟩=some (rdC cp):=(World.cell?_of_block (a:=⟨w.heap.size,0,none⟩) (hfr7.block w.heap.size (by show w.heap.size<A.heap.size;omega) (by simp))).trans v0)
   | (gi_at_call 126;refine ((callsIn_wide (n:=N - 1 - 1 - 1)).2 (hrd pre x A.heap.size fp w7 hpre (hIb _ _ _ HI.out.1 hfr7.size (λk hk=>hfr7.block k (by simp at hk;show k<A.heap.size;omega) (by simp))) (by omega) (by omega) hfa7)).mono ?_;rintro e w8 ⟨rfl,hin8,hfr8⟩))
  all_goals
   (have HN:=jA1 (HB.out w7 w8 fp hfa7.low hfr7 hin8 hfr8)
    clear HB HI hfa7 hfr7 hin8 hfr8
    gi_wp2
    obtain ⟨⟨o1,o2⟩,o3⟩:=HN.out
    rw [hz5] at o3
    first
     | exact ⟨⟨o1,o2⟩,o3⟩
     | exact ⟨o1,o2,o3⟩)
 case done =>
  rintro W ⟨hin',hfW⟩ hsW hK
  have t1:=(hfW.block (w.heap.size+1) oE (by simp;omega)).trans c1
  have t2:=(hfW.block (w.heap.size+2) oE (by simp;omega)).trans c2
  have u1:=jA0 t1 0
  have u2:=jA0 t2 0
  have f1:=jA2 t1 0
  have f2:=jA2 t2 0
  simp at u1 u2 f1 f2
  obtain ⟨W6,hW6⟩:∃ W6,W6=(W.setCell ⟨w.heap.size+1,0,none⟩ (.pointer (some ⟨w1.heap.size,0,none⟩))).setCell ⟨w.heap.size+1+1,0,none⟩ .nilIface:=⟨_,rfl⟩
  have hf6:Fr [w.heap.size+1,w.heap.size+2] W W6:=by rw [hW6];exact (Fr.set1 sE _ _).trans (Fr.set1 sE _ _)
  have s1:W6.heap[w.heap.size+1]?=some (.cells #[.pointer (some ⟨w1.heap.size,0,none⟩)] 117 (0,0)):=by
   rw [hW6]
   have:=jA5 t1 0 (.pointer (some ⟨w1.heap.size,0,none⟩))
   rw [Below.heap_setCell _ _ _ _ (by show w.heap.size+1≠w.heap.size+1+1;omega)]
   simpa using this
  have s2:W6.heap[w.heap.size+1+1]?=some (.cells #[.nilIface] 82 (0,0)):=by
   rw [hW6]
   have t2':(W.setCell ⟨w.heap.size+1,0,none⟩ (.pointer (some ⟨w1.heap.size,0,none⟩))).heap[w.heap.size+1+1]?=some (.cells #[.nilIface] 82 (0,0)):=(Below.heap_setCell _ _ _ _ (by show w.heap.size+1+1≠w.heap.size+1;omega)).trans t2
   have:=jA5 t2' 0 .nilIface
   simpa using this
  have hK6:W6.heap[w5.heap.size]?=some (.deferred (some [])):=(hf6.block _ oE (by simp;omega)).trans hK
  have HW:Hid (I R.1.recs W∧Fr [cp,bT] w5 W):=⟨hin',hfW⟩
  clear hin' hfW
  gi_wp2
  rw [← hW6]
  clear hW6
  refine ⟨by simp,.inl ⟨_,_,rfl,run_takeDeferred hK6,?_⟩⟩
  obtain ⟨W7,hW7⟩:∃ W7,W7=W6.putObj w5.heap.size (.deferred none):=⟨_,rfl⟩
  have blk7:∀ k,k≠w5.heap.size→W7.heap[k]?=W6.heap[k]?:=λk hk=>by rw [hW7];exact World.putObj_heap_other hk
  have hf7:Fr [cp,bT,w.heap.size+1,w.heap.size+2] w5 W7:=by
   refine ⟨?_,?_,?_,?_,λk hk hS=>?_⟩
   ·rw [hW7];exact hf6.os.trans HW.out.2.os
   ·rw [hW7];exact hf6.tape.trans HW.out.2.tape
   ·rw [hW7];exact hf6.output.trans HW.out.2.output
   ·rw [hW7,jAw];have:=hf6.size;have:=HW.out.2.size;omega
   ·simp at hS
    rw [blk7 k oE,hf6.block k oE (by simp;omega),HW.out.2.block k hk (by simp;omega)]
  have hl7:=hl5.apart hf7 (λk hk _=>by
   simp at hk
   rcases hk with rfl | rfl | rfl | rfl
   ·exact ⟨hl5.free p5 dN dN dN dN dN,λt e=>by rw [p5] at e;cases e⟩
   ·exact ⟨hl5.freeMap m5 hne.1 hne.2,λt e=>by obtain ⟨es,c,e2⟩:=m5;rw [e2] at e;cases e⟩
   ·exact ⟨hl5.free c1 dN dN dN dN dN,λt e=>by rw [c1] at e;cases e⟩
   ·exact ⟨hl5.free c2 dN dN dN dN dN,λt e=>by rw [c2] at e;cases e⟩)
  have hin7:I R.1.recs W7:=hIb _ _ _ HW.out.1 (by rw [hW7,jAw];exact hf6.size) (λk hk=>by
   simp at hk
   rw [blk7 k oE,hf6.block k (by have:=HW.out.2.size;omega) (by simp;omega)])
  have q1:=jA0 ((blk7 (w.heap.size+1) oE).trans s1) 0
  have q2:=jA0 ((blk7 (w.heap.size+1+1) oE).trans s2) 0
  simp at q1 q2
  have g7:=(hf7.block w1.heap.size oE (by simp;omega)).trans g5
  have hsd7:SDFr p [cp,bT] w W7:=⟨hf7.os.trans hsd5.os,hf7.tape.trans hsd5.tape,hf7.output.trans hsd5.output,by have:=hf7.size;omega,λk hk ho hS=>(hf7.block k oE (by simp at hS ⊢;omega)).trans (hsd5.block k hk ho hS)⟩
  rw [← hW7]
  refine ⟨.tuple #[.pointer (some ⟨w1.heap.size,0,none⟩),.nilIface],?_,w1.heap.size,lp,rfl,hin7,⟨pv,sv,rv,nD,nN,hl7⟩,g7,by omega,hsd7⟩
  simp only [results,Tryz.f124]
  simp [go_sem,q1,q2]
theorem jRd (B p bD bN n cp bT:Nat) (R:ALog × ADisk × Nat) (I:List Rec→World→Prop) (w:World) (h00:I [] w) (hIb:∀ pre A A',I pre A→A.heap.size≤A'.heap.size→(∀ k∈[cp,bT],A'.heap[k]?=A.heap[k]?)→I pre A')
  (hcp:∃ cs,w.heap[cp]?=some (.cells cs 122 (0,0))) (hbT:∃ es c,w.heap[bT]?=some (.map es c)) (hd:∃ pv d nD nN,DiskIn w B p bD bN pv d n nD nN) (hne:bT≠bD∧bT≠bN)
  (hJ:∀ W,Fr [] w W→Calls Tryz.prog 78 #[dskV p] W (jDl B p bD bN n R W)) (hpl:jEo R.1.recs) (hfi:firstN R.1.recs R.1.next=1) (hby:∀ r∈R.1.recs,Byt r.pay∧r.pay.length≤4096)
  (hrd:∀ pre x n fp A,pre++[x] <+: R.1.recs→I pre A→cp<n→bT<n→FldAt n A fp x.pay→Calls Tryz.prog 126 #[.pointer (some ⟨cp,0,none⟩),.int .u8 (x.kind:Int),.pointer (some ⟨fp,0,none⟩)] A λe w'=>e=.returned (.bool true)∧I (pre++[x]) w'∧Fr [fp,cp,bT] A w') (hn:n≤67108864) :
  Calls Tryz.prog 124 #[dskV p,rdC cp] w λe w'=>∃ gp lp,e=.returned (.tuple #[.pointer (some ⟨gp,0,none⟩),.nilIface])∧I R.1.recs w'∧(∃ pv sv rv nD nN,LogIn w' B lp p bD bN pv sv rv R.1 R.2.1 n nD nN)∧w'.heap[gp]?=some (ledO lp)∧w.heap.size≤gp∧SDFr p [cp,bT] w w' :=
 (callsIn_wide (n:=14)).1 (jKs 14 (Nat.le_refl _) B p bD bN n cp bT R I w h00 hIb hcp hbT hd hne hJ hpl hfi hby hrd hn)
end Go.Proofs.YtcalalndmcemiaaGreatDoor
