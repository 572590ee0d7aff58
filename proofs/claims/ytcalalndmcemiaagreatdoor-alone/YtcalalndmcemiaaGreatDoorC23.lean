import Derived.Test.YtcalalndmcemiaaGreatDoorC22
set_option maxRecDepth 100000
set_option maxHeartbeats 16000000
namespace Go.Proofs.YtcalalndmcemiaaGreatDoor
open Go.RowKit Go.Maps Go.Shelf
open Sc
theorem jMt {w:World} {o:Oper} {a:Act} {K:Act→World→Prop} {Q:Exit→Act→World→Prop} (s x:Operand)
  (ho:o.op=.call { callee:=.builtin .append,args:=#[s,x],argTypes:=#[120,120] })
  (base:Nat) (v:Value) (n:Nat) (xs:List Value) (t:Nat) (k y:Int) (b:Nat) (hs:a.eval s=v) (hown:w.ownsRow base 207 3 v n xs) (hx:a.eval x=.slice (some ⟨b,0,none⟩) 1 1)
  (hb:w.heap[b]?=some (.cells #[.int .u64 (t:Int),.int .i64 k,.int .i64 y] 207 (0,0))) (hn:n≤1099511627776) (hbase:base≤w.heap.size)
  (h:∀ v' w',w'.ownsRow base 207 3 v' (n+1) (xs++[.int .u64 (t:Int),.int .i64 k,.int .i64 y])→w.grownBy w' v.ownBlock→(v'.ownBlock=v.ownBlock∨v'.ownBlock=some w.heap.size)→K (a.put o.dst v') w'):o.wp Tryz.prog a w K Q:=by
 obtain ⟨i0,hi,hz0,hz1,hz2⟩:=info_parts Tryz.infoDue
 have hc0:=jA0 hb 0
 have hc1:=jA0 hb 1
 have hc2:=jA0 hb 2
 simp at hc0 hc1 hc2
 refine jBn s x 120 ho base 207 i0 _ 3 24 Tryz.underlying120 hi hz0 hz1 hz2 rfl dN v n xs hs hown ⟨b,0,none⟩ 1 1 [.int .u64 (t:Int),.int .i64 k,.int .i64 y] hx rfl ?_ ?_ (by unfold maxLen;omega) oE hbase ?_
 ·intro jj u hjj
  match jj,hjj with
  | 0,hjj=>simp at hjj;subst hjj;simpa [Addr.add] using hc0
  | 1,hjj=>simp at hjj;subst hjj;simpa [Addr.add] using hc1
  | 2,hjj=>simp at hjj;subst hjj;simpa [Addr.add] using hc2
 ·intro u hu;simp at hu;rcases hu with rfl | rfl | rfl <;> rfl
 ·intro v' w' ho' hg' ha'
  exact h v' w' ho' hg' ha'
theorem jJ0 (B cp lg bT n t mf:Nat) (q:Nat→Bool) (hm:jHf mf q) (hen:jBs mf) (x:Nat) (c:ACo) (w:World) (h:CoIn w B cp lg bT n c) (ht:t<18446744073709551616) (hn:n+9<67108864) :
  Calls Tryz.prog 67 #[.pointer (some ⟨cp,0,none⟩),.int .u64 (t:Int),.int .i64 (x:Int),fnV mf] w λe w'=>e=.returned (.tuple #[])∧CoIn w' B cp lg bT (n+9) { c with out:=c.out++(jB9 q (c.tx t).parts).map λk=>(t,k,x) }∧RFr cp [cp] w w':=by
 obtain ⟨W0,hW0⟩:∃ W0,W0=((w.alloc (.cells #[.pointer (some ⟨cp,0,none⟩)] 76)).alloc (.cells #[.int .u64 (t:Int)] 43)).alloc (.cells #[.int .i64 (x:Int)] 3):=⟨_,rfl⟩
 have hfr0:Fr [] w W0:=by rw [hW0];exact (((Fr.refl [] w).alloc _).alloc _).alloc _
 have hs0:W0.heap.size=w.heap.size+3:=by rw [hW0];simp
 have r0:W0.heap[w.heap.size]?=some (.cells #[.pointer (some ⟨cp,0,none⟩)] 76 (0,0)):=by rw [hW0,Below.heap_alloc _ _ w.heap.size (by simp;omega),Below.heap_alloc _ _ w.heap.size sE];exact heap_alloc_new w _
 have r1:W0.heap[w.heap.size+1]?=some (.cells #[.int .u64 (t:Int)] 43 (0,0)):=by
  rw [hW0,Below.heap_alloc _ _ (w.heap.size+1) sE]
  have:=heap_alloc_new (w.alloc (.cells #[.pointer (some ⟨cp,0,none⟩)] 76)) (.cells #[.int .u64 (t:Int)] 43)
  rwa [World.size_alloc] at this
 have r2:W0.heap[w.heap.size+2]?=some (.cells #[.int .i64 (x:Int)] 3 (0,0)):=by
  rw [hW0]
  have:=heap_alloc_new ((w.alloc (.cells #[.pointer (some ⟨cp,0,none⟩)] 76)).alloc (.cells #[.int .u64 (t:Int)] 43)) (.cells #[.int .i64 (x:Int)] 3)
  rwa [World.size_alloc,World.size_alloc] at this
 have hc0:=h.new hfr0
 have hok:=h.okT t
 obtain ⟨rv,ov,h1,_⟩:=hc0.ex
 have hcl:cp<W0.heap.size:=hc0.lts.1
 have c1:=jA0 h1 1
 have v0:=jA0 r0 0
 have v1:=jA0 r1 0
 simp at c1 v0 v1
 have hl:∀ W,Fr [] W0 W→(Instr.lookup 118 (.map (some bT)) (.int .u64 (t:Int)) false).run Tryz.prog W=.ok (txV (c.tx t)) W:=λW hW=>(hc0.new hW).lookT ht
 have hl0:=hl W0.drew (Fr.refl [] W0).drew
 have hsf:=callsIn_wide.1 (jKd 5 mf (c.tx t) hok W0.drew)
 have H0:=jA1 (show CoIn W0 B cp lg bT n c∧Fr [] w W0∧W0.heap[w.heap.size]?=some (.cells #[.pointer (some ⟨cp,0,none⟩)] 76 (0,0))∧W0.heap[w.heap.size+1]?=some (.cells #[.int .u64 (t:Int)] 43 (0,0))∧W0.heap[w.heap.size+2]?=some (.cells #[.int .i64 (x:Int)] 3 (0,0)) from ⟨hc0,hfr0,r0,r1,r2⟩)
 obtain ⟨T,hT⟩:∃ T,T=c.tx t:=⟨_,rfl⟩
 rw [← hT] at hl0 hsf hok ⊢
 clear hT
 clear h hc0 hfr0 r0 r1 r2 h1 hl
 have hro:Fence.wide.round=none:=rfl
 have hfs:Fence.wide.fn 154:=trivial
 refine (callsIn_wide (n:=6)).1 ?_
 refine callsIn_of_wp_marks Tryz.func67 rfl trivial ?_ hro
 simp only [Tryz.ntmps67,List.size_toArray,List.length_cons,List.length_nil,Nat.reduceAdd,Nat.reduceSub,Array.replicate_succ,Array.replicate_zero,List.push_toArray,List.append_toArray,List.nil_append,List.cons_append]
 gi_wp2
 rw [← hW0]
 clear hW0
 refine wpIn_wide.2 ?_
 go_region_held3 (λw'=>w'.cell? ⟨w.heap.size,0,none⟩=some (.pointer (some ⟨cp,0,none⟩))∧w'.cell? ⟨w.heap.size+1,0,none⟩=some (.int .u64 (t:Int))∧w'.cell? ⟨cp,1,none⟩=some (.map (some bT)))
  (simp [*])
  (first | (go_at_call 111;refine hsf.mono ?_;rintro e w2 ⟨rfl,hw2⟩;have hf2:Fr [] W0 w2:=(by rw [hw2];exact ((Fr.refl [] W0).drew.alloc _).alloc _);have z0:=(World.cell?_of_block (a:=⟨w.heap.size,0,none⟩) (hf2.block w.heap.size (by omega) (by simp))).trans v0;have z1:=(World.cell?_of_block (a:=⟨w.heap.size+1,0,none⟩) (hf2.block (w.heap.size+1) (by omega) (by simp))).trans v1;have z2:=(World.cell?_of_block (a:=⟨cp,1,none⟩) (hf2.block cp hcl (by simp))).trans c1;have H2:=jA1 (show Fr [] W0 w2∧w2=(W0.drew.alloc (.cells (txC T).toArray 128)).alloc (.cells #[fnV mf] 146) from ⟨hf2,hw2⟩);clear hf2 hw2))
 have hsz2:w2.heap.size=w.heap.size+5:=by rw [H2.out.2];simp;omega
 have q1:w2.heap[w.heap.size+3]?=some (.cells (txC T).toArray 128 (0,0)):=by
  rw [H2.out.2,Below.heap_alloc _ _ _ (by simp;omega)]
  have:=heap_alloc_new W0.drew (.cells (txC T).toArray 128)
  rw [show W0.drew.heap.size=w.heap.size+3 from hs0] at this
  exact this
 have q2:w2.heap[w.heap.size+3+1]?=some (.cells #[fnV mf] 146 (0,0)):=by
  rw [H2.out.2]
  have:=heap_alloc_new (W0.drew.alloc (.cells (txC T).toArray 128)) (.cells #[fnV mf] 146)
  rw [World.size_alloc,show W0.drew.heap.size=w.heap.size+3 from hs0] at this
  exact this
 have hf2:=H2.out.1
 have hin2:=H0.out.1.new hf2
 have u0:=(hf2.block w.heap.size oE sE).trans H0.out.2.2.1
 have u1:=(hf2.block (w.heap.size+1) oE sE).trans H0.out.2.2.2.1
 have u2:=(hf2.block (w.heap.size+2) oE sE).trans H0.out.2.2.2.2
 have hcw:cp<w.heap.size:=by
  obtain ⟨cs,hc⟩:=H0.out.1.isCo
  by_cases e:cp<w.heap.size
  ·exact e
  ·have h3:cp=w.heap.size∨cp=w.heap.size+1∨cp=w.heap.size+2:=by omega
   rcases h3 with e | e | e
   ·rw [e,H0.out.2.2.1] at hc;cases hc
   ·rw [e,H0.out.2.2.2.1] at hc;cases hc
   ·rw [e,H0.out.2.2.2.2] at hc;cases hc
 have HR:=jA1 (show Fr [] w w2 from H0.out.2.1.trans hf2)
 clear H0 H2 hf2 z0 z1 z2 v0 v1 c1 hsf hl0
 gi_wp2
 refine jFv (F:=Fence.wide) (n:=6) rfl (by omega) (gf:=154) (lb:=#[.pointer (some ⟨w.heap.size+3,0,none⟩),.pointer (some ⟨w.heap.size+3+1,0,none⟩)]) rfl trivial (enters_of Tryz.func154 (by kernel_rfl) rfl)
  (encs:=λy:Nat=>#[.int .i64 (y:Int)]) (rs:=jB9 q T.parts) (S:=[w.heap.size+3,w.heap.size+3+1]) (λ_=>rfl) (by intro k hk;simp at hk;omega)
  (λWx hbx _=>jNg 5 oE _ (w.heap.size+3) (w.heap.size+3+1) mf q hm hen T hok Wx ((hbx.block _ oE).trans q1) ((hbx.block _ oE).trans q2))
  (λpre A=>CoIn A B cp lg bT (n+pre.length) { c with out:=c.out++pre.map λk=>(t,k,x) }∧RFr cp [cp] w2 A)
  (λWx hbx=>⟨by simpa using hin2.new (Fr.of_below hbx []),(Fr.of_below hbx []).r hin2.lts.1 sE sE⟩)
  (λs A r hs hsA hlo=>by
   obtain ⟨r0,hlo⟩:=hlo
   have hput:Fr [w2.heap.size+1] A (A.putObj (w2.heap.size+1) (.loop r)):=⟨rfl,rfl,rfl,by rw [jAw];exact Nat.le_refl _,λj _ hj=>World.putObj_heap_other (by simpa using hj)⟩
   have hcpn:(A.putObj (w2.heap.size+1) (.loop r)).heap[cp]?=A.heap[cp]?:=World.putObj_heap_other oE
   refine ⟨hs.1.fr hput (λk hk=>?_),⟨hs.2.fr.os,hs.2.fr.tape,hs.2.fr.output,by rw [jAw];exact hs.2.fr.size,λj hj hS=>(World.putObj_heap_other oE).trans (hs.2.fr.block j hj hS)⟩,λk hk hm=>hs.2.stay k hk (by rw [jH4 hcpn] at hm;exact hm)⟩
   simp at hk
   subst hk
   refine ⟨by omega,λe=>?_,λe=>?_⟩
   ·obtain ⟨es,cc,hmm⟩:=hs.1.txns.isMap
    rw [← e,hlo] at hmm;cases hmm
   ·obtain ⟨_,c9,t9,e9,_⟩:=hs.1.rdm e
    rw [hlo] at e9;cases e9)
  (λy a' A=>a'={ tmps:=#[.pointer (some ⟨cp,0,none⟩),.int .u64 (t:Int),.int .i64 (x:Int),fnV mf,.pointer (some ⟨w.heap.size,0,none⟩),.pointer (some ⟨w.heap.size+1,0,none⟩),.pointer (some ⟨w.heap.size+1+1,0,none⟩),undef,.int .i64 (y:Int),.pointer (some ⟨cp,0,none⟩),.pointer (some ⟨cp,0,none⟩),.pointer (some ⟨cp,1,none⟩),.map (some bT),.int .u64 (t:Int),txV T,fnV mf,.func (.func 154) #[] #[.pointer (some ⟨w.heap.size+3,0,none⟩),.pointer (some ⟨w.heap.size+3+1,0,none⟩)],.int .i64 (y:Int),undef,undef,undef,undef,undef,undef,undef,undef,undef,undef,undef,undef,undef],defers:=[] })
  (λy a' A r hs=>hs)
  ?assign ?body ?done
 case assign =>
  have hsem:=@Oper.semAt_some
  rintro pre y A K hI hsA hpre hK
  gi_wp2
  exact hK _ _ hI (KpS.refl _) rfl
 case body =>
  have hsem:=@Oper.semAt_some
  rintro pre y a' A ⟨hIA,hfA⟩ hsA rfl hpre hdf hlo
  have hpl:pre.length+1≤9:=by
   have:=hpre.length_le
   have h9:(jB9 q T.parts).length≤9:=by
    refine Nat.le_trans (List.length_filter_le _ _) ?_
    simp
   simp at this
   omega
  have B0:=RFr.cells hfA hin2 u0 (by simp;omega) dN dN
  have B1:=RFr.cells hfA hin2 u1 (by simp;omega) dN dN
  have B2:=RFr.cells hfA hin2 u2 (by simp;omega) dN dN
  have B3:=RFr.cells hfA hin2 q1 (by simp;omega) dN dN
  have B4:=RFr.cells hfA hin2 q2 (by simp;omega) dN dN
  obtain ⟨c',hc'⟩:∃ c':ACo,c'={ c with out:=c.out++pre.map λk=>(t,k,x) }:=⟨_,rfl⟩
  rw [← hc'] at hIA
  obtain ⟨rv1,ov1,g1,g2,g3,g4,g5⟩:=hIA.ex
  have g41:=g4.1
  have g51:=g5.1
  have nrow:ov1.ownBlock≠some cp:=jAe g3 g1 dN
  have m0:ov1.ownBlock≠some w.heap.size:=jAe g3 B0 dN
  have m1:ov1.ownBlock≠some (w.heap.size+1):=jAe g3 B1 dN
  have m2:ov1.ownBlock≠some (w.heap.size+1+1):=jAe g3 B2 dN
  have hlA:cp<A.heap.size:=hIA.lts.1
  have a0:=jA0 B0 0
  have a1:=jA0 B1 0
  have a2:=jA0 B2 0
  have a6:=jA0 g1 6
  simp at a0 a1 a2 a6
  have HA:=jA1 (show CoIn A B cp lg bT (n+pre.length) c'∧A.heap[cp]?=some (coO lg bT c' rv1 ov1)∧A.ownsRow B 157 2 rv1 c'.res.length (resV c'.res)∧A.ownsRow B 207 3 ov1 c'.out.length (dueV c'.out)∧Brd rv1 c'.res.length (n+pre.length)∧Brd ov1 c'.out.length (n+pre.length) from ⟨hIA,g1,g2,g3,g4,g5⟩)
  have HE:=jA1 (show ∀ W',CoIn W' B cp lg bT (n+pre.length+1) { c' with out:=c'.out++[(t,y,x)] }∧RFr cp [cp] A W'→(CoIn W' B cp lg bT (n+(pre++[y]).length) { c with out:=c.out++(pre++[y]).map λk=>(t,k,x) }∧RFr cp [cp] w2 W')∧KpS (w2.heap.size :: (w2.heap.size+1) :: [w.heap.size+3,w.heap.size+3+1]) A W' from λW' h=>⟨⟨by have h9:=h.1;rw [hc'] at h9;rw [List.length_append,List.length_singleton,← Nat.add_assoc,List.map_append,← List.append_assoc];exact h9,RFr.trans hfA h.2⟩,h.2.fr.size,λk hk hlt=>h.2.fr.block k hlt (λhmm=>by
   rcases List.mem_append.1 hmm with e | e
   ·simp at hk e;omega
   ·obtain ⟨_,c9,t9,e2,_⟩:=hIA.rdm e
    obtain ⟨r0,hlo⟩:=hlo
    simp at hk
    rcases hk with rfl | rfl | rfl | rfl
    ·rw [hdf] at e2;cases e2
    ·rw [hlo] at e2;cases e2
    ·exact hIA.rd_not B3 dN dN e
    ·exact hIA.rd_not B4 dN dN e)⟩)
  have al0:∀ o,(A.drew.alloc o).cell? ⟨w.heap.size,0,none⟩=some (.pointer (some ⟨cp,0,none⟩)):=λo=>(World.cell?_alloc_lt _ _ _ (by show w.heap.size<A.heap.size;omega)).trans a0
  have al1:∀ o,(A.drew.alloc o).cell? ⟨w.heap.size+1,0,none⟩=some (.int .u64 (t:Int)):=λo=>(World.cell?_alloc_lt _ _ _ (by show w.heap.size+1<A.heap.size;omega)).trans a1
  have al2:∀ o,(A.drew.alloc o).cell? ⟨w.heap.size+1+1,0,none⟩=some (.int .i64 (x:Int)):=λo=>(World.cell?_alloc_lt _ _ _ (by show w.heap.size+1+1<A.heap.size;omega)).trans a2
  have al6:∀ o,(A.drew.alloc o).cell? ⟨cp,6,none⟩=some ov1:=λo=>(World.cell?_alloc_lt _ _ _ hlA).trans a6
  clear hIA hfA g1 g2 g3 B3 B4
  gi_wp2
  refine jFe (S:=(λw'=>w'.cell? ⟨w.heap.size,0,none⟩=some (.pointer (some ⟨cp,0,none⟩))∧w'.cell? ⟨w.heap.size+1,0,none⟩=some (.int .u64 (t:Int))∧w'.cell? ⟨w.heap.size+1+1,0,none⟩=some (.int .i64 (x:Int)))) (by kernel_rfl) (by kernel_rfl) (by rintro ⟨a,w,hq⟩;cases hq.1) ?_ (λhHeld=>?_)
  ·simp [*]
  refine tkH (i:=0) (oi:=⟨some 18,.load 76 (.tmp 4),76,"coordinator.go:125",#[],none⟩) (v:=.pointer (some ⟨cp,0,none⟩)) ?_ ?_
  ·intro w hSw;(try dsimp only at hSw);go_simp
  (try simp only [Act.put,tP,tQ,tR])
  refine tkH (i:=1) (oi:=⟨some 19,.load 76 (.tmp 4),76,"coordinator.go:125",#[],none⟩) (v:=.pointer (some ⟨cp,0,none⟩)) ?_ ?_
  ·intro w hSw;(try dsimp only at hSw);go_simp
  (try simp only [Act.put,tP,tQ,tR])
  refine tkH (i:=2) (oi:=⟨some 20,.nilCheck (.tmp 19),0,"coordinator.go:125",#[⟨1,.data⟩],none⟩) (v:=.pointer (some ⟨cp,0,none⟩)) ?_ ?_
  ·intro w hSw;(try dsimp only at hSw);go_simp
  (try simp only [Act.put,tP,tQ,tR])
  refine tkH (i:=3) (oi:=⟨some 21,.fieldAddr 122 (.tmp 20) 6,0,"coordinator.go:125",#[⟨2,.data⟩],none⟩) (v:=.pointer (some ⟨cp,6,none⟩)) ?_ ?_
  ·intro w hSw;(try dsimp only at hSw);go_simp
  (try simp only [Act.put,tP,tQ,tR])
  refine tkH (i:=5) (oi:=⟨some 23,.load 43 (.tmp 5),43,"coordinator.go:125",#[],none⟩) (v:=.int .u64 (t:Int)) ?_ ?_
  ·intro w hSw;(try dsimp only at hSw);go_simp
  (try simp only [Act.put,tP,tQ,tR])
  refine tkH (i:=6) (oi:=⟨some 24,.move (.tmp 8),3,"coordinator.go:125",#[],none⟩) (v:=.int .i64 (y:Int)) ?_ ?_
  ·intro w hSw;(try dsimp only at hSw);go_simp
  (try simp only [Act.put,tP,tQ,tR])
  refine tkH (i:=7) (oi:=⟨some 25,.load 3 (.tmp 6),3,"coordinator.go:125",#[],none⟩) (v:=.int .i64 (x:Int)) ?_ ?_
  ·intro w hSw;(try dsimp only at hSw);go_simp
  (try simp only [Act.put,tP,tQ,tR])
  refine tkH (i:=8) (oi:=⟨some 26,.build 207 #[(0,.tmp 23),(1,.tmp 24),(2,.tmp 25)],207,"coordinator.go:125",#[⟨5,.data⟩,⟨6,.data⟩,⟨7,.data⟩],none⟩) (v:=.agg #[.int .u64 (t:Int),.int .i64 (y:Int),.int .i64 (x:Int)]) ?_ ?_
  ·intro w hSw;(try dsimp only at hSw);go_simp
  (try simp only [Act.put,tP,tQ,tR])
  refine wpAnyH_ready (rs:=[4,9]) (by kernel_rfl) (by simp) ?_
  refine AllReadyH.cons (o:=⟨some 22,.load 120 (.tmp 21),120,"coordinator.go:125",#[⟨3,.data⟩],none⟩) rfl (λK hK=>?_) (AllReadyH.cons (o:=⟨some 27,.buildSlice 120 1 #[(0,.tmp 26)],120,"coordinator.go:125",#[⟨8,.data⟩],none⟩) rfl (λK hK=>?_) AllReadyH.nil)
  ·go_simp
   refine hK.out _ _ ?_ (λhHeld=>?_)
   ·simp [*]
   clear hK K
   (try simp only [Act.put,tP,tQ,tR])
   refine wpAnyH_ready (rs:=[9]) (by kernel_rfl) (by simp) ?_
   refine AllReadyH.cons (o:=⟨some 27,.buildSlice 120 1 #[(0,.tmp 26)],120,"coordinator.go:125",#[⟨8,.data⟩],none⟩) rfl (λK hK=>?_) AllReadyH.nil
   go_simp
   refine hK.out _ _ ?_ (λhHeld=>?_)
   ·exact ⟨al0 _,al1 _,al2 _⟩
   clear hK K
   (try simp only [Act.put,tP,tQ,tR])
   refine wpAnyH_ready (rs:=[10]) (by kernel_rfl) (by simp) ?_
   refine AllReadyH.cons rfl (λK hK=>?_) AllReadyH.nil
   rw [if_pos (by rfl)]
   refine jMt _ _ rfl B ov1 c'.out.length (dueV c'.out) t (y:Int) (x:Int) A.heap.size rfl (jA7 HA.out.2.2.2.1 ((Fr.refl [] A).drew.alloc _) sE) rfl (heap_alloc_new _ _) oE (by have:=HA.out.1.low;simp;omega) ?_
   intro v' w1 hown' hgrow hat0
   obtain ⟨av,mv,cv,rfl⟩:=jAu hown'
   have hfa:Fr [] A (A.drew.alloc (.cells #[.int .u64 (t:Int),.int .i64 (y:Int),.int .i64 (x:Int)] 207)):=(Fr.refl [] A).drew.alloc _
   have HN:=jA1 (HA.out.1.due HA.out.2.1 HA.out.2.2.1 HA.out.2.2.2.1 HA.out.2.2.2.2.1 HA.out.2.2.2.2.2 (t,y,x) hfa hgrow hown' (λg hg=>hat0.elim (λe=>.inl (e▸hg)) (λe=>.inr (by rw [e] at hg;cases hg;simp))))
   have fro:Fr ov1.ownBlock.toList A w1:=(hfa.mono sE).trans (Fr.of_grown hgrow)
   have hb1:=(fro.block cp hlA (by simp;exact nrow)).trans HA.out.2.1
   have g0:=(fro.block w.heap.size oE (by simp;exact m0)).trans B0
   have g1:=(fro.block (w.heap.size+1) oE (by simp;exact m1)).trans B1
   have g2:=(fro.block (w.heap.size+1+1) oE (by simp;exact m2)).trans B2
   have d6:=jA0 hb1 6
   have f6:=jA2 hb1 6
   have k0:=jA0 g0 0
   have k1:=jA0 g1 0
   have k2:=jA0 g2 0
   simp at d6 k0 k1 k2
   have y0:=λv=>(jB7 w1 cp 6 w.heap.size 0 v oE).trans k0
   have y1:=λv=>(jB7 w1 cp 6 (w.heap.size+1) 0 v oE).trans k1
   have y2:=λv=>(jB7 w1 cp 6 (w.heap.size+1+1) 0 v oE).trans k2
   clear hown' hgrow hat0 hfa fro hb1 g0 g1 g2
   refine hK.out _ _ ?_ (λhHeld=>?_)
   ·simp [*]
   clear hK K
   (try simp only [Act.put,List.setIfInBounds_toArray])
   refine tkH (i:=11) (oi:=⟨some 29,.nilCheck (.tmp 18),0,"coordinator.go:125",#[⟨0,.data⟩,⟨0,.phase⟩,⟨1,.phase⟩,⟨2,.phase⟩,⟨3,.phase⟩,⟨4,.phase⟩,⟨5,.phase⟩,⟨6,.phase⟩,⟨7,.phase⟩,⟨8,.phase⟩,⟨9,.phase⟩,⟨10,.phase⟩],none⟩) (v:=.pointer (some ⟨cp,0,none⟩)) ?_ ?_
   ·intro w hSw;(try dsimp only at hSw);go_simp
   (try simp only [Act.put])
   refine tkH (i:=12) (oi:=⟨some 30,.fieldAddr 122 (.tmp 29) 6,0,"coordinator.go:125",#[⟨11,.data⟩,⟨0,.phase⟩,⟨1,.phase⟩,⟨2,.phase⟩,⟨3,.phase⟩,⟨4,.phase⟩,⟨5,.phase⟩,⟨6,.phase⟩,⟨7,.phase⟩,⟨8,.phase⟩,⟨9,.phase⟩,⟨10,.phase⟩],none⟩) (v:=.pointer (some ⟨cp,6,none⟩)) ?_ ?_
   ·intro w hSw;(try dsimp only at hSw);go_simp
   (try simp only [Act.put])
   refine wpAnyH_ready (rs:=[13]) (by kernel_rfl) (by simp) ?_
   refine AllReadyH.cons rfl (λK hK=>?_) AllReadyH.nil
   go_simp
   refine hK.out _ _ ?_ (λhHeld=>?_)
   ·simp [*]
   clear hK K
   (try simp only [Act.put,tP,tQ,tR])
   refine wpAnyH_done (by kernel_rfl) ?_ _
   exact ⟨rfl,HE.out _ HN.out⟩
  ·go_simp
   refine hK.out _ _ ?_ (λhHeld=>?_)
   ·exact ⟨al0 _,al1 _,al2 _⟩
   clear hK K
   (try simp only [Act.put,tP,tQ,tR])
   refine wpAnyH_ready (rs:=[4]) (by kernel_rfl) (by simp) ?_
   refine AllReadyH.cons (o:=⟨some 22,.load 120 (.tmp 21),120,"coordinator.go:125",#[⟨3,.data⟩],none⟩) rfl (λK hK=>?_) AllReadyH.nil
   go_simp
   refine hK.out _ _ ?_ (λhHeld=>?_)
   ·exact ⟨al0 _,al1 _,al2 _⟩
   clear hK K
   (try simp only [Act.put,tP,tQ,tR])
   refine wpAnyH_ready (rs:=[10]) (by kernel_rfl) (by simp) ?_
   refine AllReadyH.cons rfl (λK hK=>?_) AllReadyH.nil
   rw [if_pos (by rfl)]
   refine jMt _ _ rfl B ov1 c'.out.length (dueV c'.out) t (y:Int) (x:Int) A.heap.size rfl (jA7 HA.out.2.2.2.1 ((Fr.refl [] A).drew.alloc _) sE) rfl (heap_alloc_new _ _) oE (by have:=HA.out.1.low;simp;omega) ?_
   intro v' w1 hown' hgrow hat0
   obtain ⟨av,mv,cv,rfl⟩:=jAu hown'
   have hfa:Fr [] A (A.drew.alloc (.cells #[.int .u64 (t:Int),.int .i64 (y:Int),.int .i64 (x:Int)] 207)):=(Fr.refl [] A).drew.alloc _
   have HN:=jA1 (HA.out.1.due HA.out.2.1 HA.out.2.2.1 HA.out.2.2.2.1 HA.out.2.2.2.2.1 HA.out.2.2.2.2.2 (t,y,x) hfa hgrow hown' (λg hg=>hat0.elim (λe=>.inl (e▸hg)) (λe=>.inr (by rw [e] at hg;cases hg;simp))))
   have fro:Fr ov1.ownBlock.toList A w1:=(hfa.mono sE).trans (Fr.of_grown hgrow)
   have hb1:=(fro.block cp hlA (by simp;exact nrow)).trans HA.out.2.1
   have g0:=(fro.block w.heap.size oE (by simp;exact m0)).trans B0
   have g1:=(fro.block (w.heap.size+1) oE (by simp;exact m1)).trans B1
   have g2:=(fro.block (w.heap.size+1+1) oE (by simp;exact m2)).trans B2
   have d6:=jA0 hb1 6
   have f6:=jA2 hb1 6
   have k0:=jA0 g0 0
   have k1:=jA0 g1 0
   have k2:=jA0 g2 0
   simp at d6 k0 k1 k2
   have y0:=λv=>(jB7 w1 cp 6 w.heap.size 0 v oE).trans k0
   have y1:=λv=>(jB7 w1 cp 6 (w.heap.size+1) 0 v oE).trans k1
   have y2:=λv=>(jB7 w1 cp 6 (w.heap.size+1+1) 0 v oE).trans k2
   clear hown' hgrow hat0 hfa fro hb1 g0 g1 g2
   refine hK.out _ _ ?_ (λhHeld=>?_)
   ·simp [*]
   clear hK K
   (try simp only [Act.put,List.setIfInBounds_toArray])
   refine tkH (i:=11) (oi:=⟨some 29,.nilCheck (.tmp 18),0,"coordinator.go:125",#[⟨0,.data⟩,⟨0,.phase⟩,⟨1,.phase⟩,⟨2,.phase⟩,⟨3,.phase⟩,⟨4,.phase⟩,⟨5,.phase⟩,⟨6,.phase⟩,⟨7,.phase⟩,⟨8,.phase⟩,⟨9,.phase⟩,⟨10,.phase⟩],none⟩) (v:=.pointer (some ⟨cp,0,none⟩)) ?_ ?_
   ·intro w hSw;(try dsimp only at hSw);go_simp
   (try simp only [Act.put])
   refine tkH (i:=12) (oi:=⟨some 30,.fieldAddr 122 (.tmp 29) 6,0,"coordinator.go:125",#[⟨11,.data⟩,⟨0,.phase⟩,⟨1,.phase⟩,⟨2,.phase⟩,⟨3,.phase⟩,⟨4,.phase⟩,⟨5,.phase⟩,⟨6,.phase⟩,⟨7,.phase⟩,⟨8,.phase⟩,⟨9,.phase⟩,⟨10,.phase⟩],none⟩) (v:=.pointer (some ⟨cp,6,none⟩)) ?_ ?_
   ·intro w hSw;(try dsimp only at hSw);go_simp
   (try simp only [Act.put])
   refine wpAnyH_ready (rs:=[13]) (by kernel_rfl) (by simp) ?_
   refine AllReadyH.cons rfl (λK hK=>?_) AllReadyH.nil
   go_simp
   refine hK.out _ _ ?_ (λhHeld=>?_)
   ·simp [*]
   clear hK K
   (try simp only [Act.put,tP,tQ,tR])
   refine wpAnyH_done (by kernel_rfl) ?_ _
   exact ⟨rfl,HE.out _ HN.out⟩
 case done =>
  rintro A ⟨hIA,hfA⟩ hsA hK
  gi_wp2
  refine ⟨by simp,.inl ⟨_,_,rfl,run_takeDeferred hK,?_⟩⟩
  obtain ⟨W9,hW9⟩:∃ W9,W9=A.putObj w2.heap.size (.deferred none):=⟨_,rfl⟩
  rw [← hW9]
  have hput:Fr [w2.heap.size] A W9:=by rw [hW9];exact ⟨rfl,rfl,rfl,by rw [jAw];exact Nat.le_refl _,λj _ hj=>World.putObj_heap_other (by simpa using hj)⟩
  have h9:CoIn W9 B cp lg bT (n+(jB9 q T.parts).length) { c with out:=c.out++(jB9 q T.parts).map λk=>(t,k,x) }:=hIA.fr hput (λk hk=>by
   simp at hk
   subst hk
   refine ⟨by omega,λe=>?_,λe=>?_⟩
   ·obtain ⟨es,cc,hmm⟩:=hIA.txns.isMap
    rw [← e,hK] at hmm;cases hmm
   ·obtain ⟨_,c9,t9,e9,_⟩:=hIA.rdm e
    rw [hK] at e9;cases e9)
  have hl9:(jB9 q T.parts).length≤9:=by
   refine Nat.le_trans (List.length_filter_le _ _) ?_
   simp
  have hcw2:cp<w2.heap.size:=hin2.lts.1
  have hf9:RFr cp [cp] w W9:=by
   have k1:RFr cp [cp] w w2:=HR.out.r hcw sE sE
   have hcpn:W9.heap[cp]?=A.heap[cp]?:=hput.block cp (Nat.lt_of_lt_of_le hcw2 hfA.fr.size) (by simp;omega)
   refine k1.trans ⟨⟨hput.os.trans hfA.fr.os,hput.tape.trans hfA.fr.tape,hput.output.trans hfA.fr.output,Nat.le_trans hfA.fr.size hput.size,λj hj hS=>(hput.block j (Nat.lt_of_lt_of_le hj hfA.fr.size) (by simp;omega)).trans (hfA.fr.block j hj hS)⟩,λk hk hm=>hfA.stay k hk (by rw [jH4 hcpn] at hm;exact hm)⟩
  exact ⟨_,results_none rfl _ _ _,rfl,h9.mono oE,hf9⟩
theorem jI2 (t:Nat) (w:World) (ht:t<18446744073709551616) :
  Calls Tryz.prog 98 #[.int .u64 (t:Int)] w λe w'=>e=.returned (.string (str (be 8 t)))∧Below w.heap.size w w':=by
 have hg:=jF7 w.heap.size (.slice none 0 0) [] t 0 w (World.ownsRow_nil _ _ _ _) ht oE (Nat.le_refl _)
 go_enter Tryz.func98,Tryz.ntmps98
 go_wp2_with fail
 refine hg.mono ?_
 clear hg
 rintro e w1 ⟨v',rfl,ho,hb,_⟩
 obtain ⟨g,cap,rfl⟩:=jCl ho oE
 have hcv:=jDo w1 g 0 (0+8) cap (be 8 t) (by rw [jB3]) (jE1 (by simpa using ho))
 clear ho
 go_wp2
 go_ret
 exact ⟨rfl,hb⟩
theorem jNx (t:Nat) (w:World) (ht:t<18446744073709551616) :
  Calls Tryz.prog 283 #[.int .u64 (t:Int)] w λe w'=>e=.returned (.string (str (be 8 t)))∧Below w.heap.size w w':=by
 have hg:=jF7 w.heap.size (.slice none 0 0) [] t 0 w (World.ownsRow_nil _ _ _ _) ht oE (Nat.le_refl _)
 go_enter Tryz.func283,Tryz.ntmps283
 go_wp2_with fail
 refine hg.mono ?_
 clear hg
 rintro e w1 ⟨v',rfl,ho,hb,_⟩
 obtain ⟨g,cap,rfl⟩:=jCl ho oE
 have hcv:=jDo w1 g 0 (0+8) cap (be 8 t) (by rw [jB3]) (jE1 (by simpa using ho))
 clear ho
 go_wp2
 go_ret
 exact ⟨rfl,hb⟩
theorem jLp:jBs 237:=enters_of Tryz.func237 (by kernel_rfl) rfl
theorem jM2:jBs 68:=enters_of Tryz.func68 (by kernel_rfl) rfl
theorem jIf:jBs 183:=enters_of Tryz.func183 (by kernel_rfl) rfl
theorem jVa:jBs 230:=enters_of Tryz.func230 (by kernel_rfl) rfl
theorem jT3 {q:Nat→Bool} {ps:List Nat} {y:Nat} (h:y∈jB9 q ps):y<9:=by
 have:=(List.mem_filter.1 h).1
 simpa using this
theorem jK9 {q:Nat→Bool} {ps:List Nat}:(jB9 q ps).length≤9:=by
 refine Nat.le_trans (List.length_filter_le _ _) ?_
 simp
theorem jHc (t:Nat) (T:ATx) (hok:T.Ok) (w:World) (ht:t<18446744073709551616) :
  Calls Tryz.prog 192 #[.int .u64 (t:Int),txV T] w λe w'=>e=.returned (.string (str (be 8 t++jB9 hasY T.parts)))∧Below w.heap.size w w':=by
 obtain ⟨PS,hPS⟩:∃ PS,PS=T.parts:=⟨_,rfl⟩
 have HP1:=jA1 (λ(n l b1 b2:Nat) (hn:2≤n) (W:World)=>jNg n hn l b1 b2 237 hasY jRk jLp T hok W)
 have hsf0:=λ(n:Nat) (W:World)=>jKd n 237 T hok W
 rw [← hPS] at HP1 ⊢
 clear hPS
 obtain ⟨s,ps,z⟩:=T
 obtain ⟨p0,p1,p2,p3,p4,p5,p6,p7,p8,hps⟩:=nine hok.1
 change ps=_ at hps
 subst hps
 have HSF:=jA1 hsf0
 rw [jAl]
 obtain ⟨TC,hTC⟩:∃ TC:Array Value,TC=(txC ⟨s,[p0,p1,p2,p3,p4,p5,p6,p7,p8],z⟩).toArray:=⟨_,rfl⟩
 have hTC2:TC=#[.int .i64 (s:Int),.int .u8 (p0:Int),.int .u8 (p1:Int),.int .u8 (p2:Int),.int .u8 (p3:Int),.int .u8 (p4:Int),.int .u8 (p5:Int),.int .u8 (p6:Int),.int .u8 (p7:Int),.int .u8 (p8:Int),.int .u64 (z:Int),.nilIface]:=hTC
 obtain ⟨W0,hW0⟩:∃ W0,W0=w.alloc (.cells #[.int .i64 (s:Int),.int .u8 (p0:Int),.int .u8 (p1:Int),.int .u8 (p2:Int),.int .u8 (p3:Int),.int .u8 (p4:Int),.int .u8 (p5:Int),.int .u8 (p6:Int),.int .u8 (p7:Int),.int .u8 (p8:Int),.int .u64 (z:Int),.nilIface] 128):=⟨_,rfl⟩
 have hfr0:Below w.heap.size w W0:=by rw [hW0];exact (Below.refl _ w).alloc (Nat.le_refl _) _
 have hs0:W0.heap.size=w.heap.size+1:=by rw [hW0];simp
 have r0:W0.heap[w.heap.size]?=some (.cells #[.int .i64 (s:Int),.int .u8 (p0:Int),.int .u8 (p1:Int),.int .u8 (p2:Int),.int .u8 (p3:Int),.int .u8 (p4:Int),.int .u8 (p5:Int),.int .u8 (p6:Int),.int .u8 (p7:Int),.int .u8 (p8:Int),.int .u64 (z:Int),.nilIface] 128 (0,0)):=by rw [hW0];exact heap_alloc_new w _
 have hg:=(callsIn_wide (n:=5)).2 (jF7 W0.heap.size (.slice none 0 0) [] t 0 W0 (World.ownsRow_nil _ _ _ _) ht oE (Nat.le_refl _))
 have hro:Fence.wide.round=none:=rfl
 have hf1:Fence.wide.fn 149:=trivial
 have hf2:Fence.wide.fn 111:=trivial
 have hf3:Fence.wide.fn 156:=trivial
 have H0:=jA1 (show Below w.heap.size w W0∧W0.heap[w.heap.size]?=some (.cells #[.int .i64 (s:Int),.int .u8 (p0:Int),.int .u8 (p1:Int),.int .u8 (p2:Int),.int .u8 (p3:Int),.int .u8 (p4:Int),.int .u8 (p5:Int),.int .u8 (p6:Int),.int .u8 (p7:Int),.int .u8 (p8:Int),.int .u64 (z:Int),.nilIface] 128 (0,0)) from ⟨hfr0,r0⟩)
 have HTC:=jA1 hTC2
 have HTD:=jA1 hTC
 clear hsf0 hfr0 r0 hTC hTC2
 refine (callsIn_wide (n:=6)).1 ?_
 refine callsIn_of_wp_marks Tryz.func192 rfl trivial ?_ hro
 simp only [Tryz.ntmps192,List.size_toArray,List.length_cons,List.length_nil,Nat.reduceAdd,Nat.reduceSub,Array.replicate_succ,Array.replicate_zero,List.push_toArray,List.append_toArray,List.nil_append,List.cons_append]
 gi_wp2_with fail
 rw [← hW0]
 clear hW0
 refine hg.mono ?_
 clear hg
 rintro e w1 ⟨v1,rfl,ho1,hb1,ht1⟩
 obtain ⟨g1,c1,rfl⟩:=jCl ho1 oE
 simp only [Nat.zero_add,List.nil_append] at ho1
 have hz1:=hb1.size
 obtain ⟨W2,hW2⟩:∃ W2,W2=w1.alloc (.cells #[.slice (some ⟨g1,0,none⟩) 8 c1] 88):=⟨_,rfl⟩
 have r2:=(hb1.block w.heap.size oE).trans H0.out.2
 have q0:W2.heap[w.heap.size]?=some (.cells #[.int .i64 (s:Int),.int .u8 (p0:Int),.int .u8 (p1:Int),.int .u8 (p2:Int),.int .u8 (p3:Int),.int .u8 (p4:Int),.int .u8 (p5:Int),.int .u8 (p6:Int),.int .u8 (p7:Int),.int .u8 (p8:Int),.int .u64 (z:Int),.nilIface] 128 (0,0)):=by rw [hW2,Below.heap_alloc _ _ _ oE];exact r2
 have e0:=jA0 q0 0
 have e1:=jA0 q0 1
 have e2:=jA0 q0 2
 have e3:=jA0 q0 3
 have e4:=jA0 q0 4
 have e5:=jA0 q0 5
 have e6:=jA0 q0 6
 have e7:=jA0 q0 7
 have e8:=jA0 q0 8
 have e9:=jA0 q0 9
 have ea:=jA0 q0 10
 have eb:=jA0 q0 11
 simp at e0 e1 e2 e3 e4 e5 e6 e7 e8 e9 ea eb
 have hsf:=HSF.out 5 W2
 rw [jAl,← HTD.out] at hsf
 have hs2:W2.heap.size=w1.heap.size+1:=by rw [hW2];simp
 have qb:W2.heap[w1.heap.size]?=some (.cells #[.slice (some ⟨g1,0,none⟩) 8 c1] 88 (0,0)):=by rw [hW2];exact heap_alloc_new w1 _
 have ho2:W2.ownsRow W0.heap.size 5 1 (.slice (some ⟨g1,0,none⟩) 8 c1) 8 (bs (be 8 t)):=by rw [hW2];exact ho1.alloc _
 have hB2:Below W0.heap.size W0 W2:=by rw [hW2];exact hb1.alloc oE _
 have H2:=jA1 (show W2.heap[w1.heap.size]?=some (.cells #[.slice (some ⟨g1,0,none⟩) 8 c1] 88 (0,0))∧W2.ownsRow W0.heap.size 5 1 (.slice (some ⟨g1,0,none⟩) 8 c1) 8 (bs (be 8 t))∧Below W0.heap.size W0 W2 from ⟨qb,ho2,hB2⟩)
 rw [hW2] at e0 e1 e2 e3 e4 e5 e6 e7 e8 e9 ea eb
 clear qb ho2 hB2 ho1 hb1 ht1 r2 q0
 gi_wp2_with fail
 rw [← hW2]
 clear hW2 e0 e1 e2 e3 e4 e5 e6 e7 e8 e9 ea eb
 refine hsf.mono ?_
 clear hsf
 rintro e w5 ⟨rfl,hw5⟩
 have hs5:w5.heap.size=w1.heap.size+3:=by rw [hw5];simp;omega
 have hB5:Below W2.heap.size W2 w5:=by rw [hw5];exact ((Below.refl _ W2).alloc (Nat.le_refl _) _).alloc sE _
 have q1:w5.heap[w1.heap.size+1]?=some (.cells TC 128 (0,0)):=by
  rw [hw5,Below.heap_alloc _ _ _ (by simp;omega),← hs2]
  exact heap_alloc_new W2 _
 have q2:w5.heap[w1.heap.size+1+1]?=some (.cells #[fnV 237] 146 (0,0)):=by
  rw [hw5]
  have:=heap_alloc_new (W2.alloc (.cells TC 128)) (.cells #[fnV 237] 146)
  rw [World.size_alloc,hs2] at this
  exact this
 have q3:=(hB5.block w1.heap.size oE).trans H2.out.1
 have q4:w5.ownsRow W0.heap.size 5 1 (.slice (some ⟨g1,0,none⟩) 8 c1) 8 (bs (be 8 t)):=jA7 H2.out.2.1 (Fr.of_below hB5 []) sE
 have q5:Below W0.heap.size W0 w5:=H2.out.2.2.trans (hB5.mono oE)
 clear hw5 hB5 H2
 rw [hs2]
 have hz2:W0.heap.size≤w1.heap.size:=hz1
 gi_wp2
 refine jFv (F:=Fence.wide) (n:=6) rfl (by omega) (gf:=154) (lb:=#[.pointer (some ⟨w1.heap.size+1,0,none⟩),.pointer (some ⟨w1.heap.size+1+1,0,none⟩)]) rfl trivial (enters_of Tryz.func154 (by kernel_rfl) rfl)
  (encs:=λy:Nat=>#[.int .i64 (y:Int)]) (rs:=jB9 hasY PS) (S:=[w1.heap.size+1,w1.heap.size+1+1]) (λ_=>rfl) (by intro k hk;simp at hk;omega)
  (λWx hbx _=>HP1.out 5 _ (w1.heap.size+1) (w1.heap.size+1+1) oE Wx (by rw [← HTD.out];exact (hbx.block _ oE).trans q1) ((hbx.block _ oE).trans q2))
  (λpre A=>(∃ v,A.heap[w1.heap.size]?=some (.cells #[v] 88 (0,0))∧A.ownsRow W0.heap.size 5 1 v (8+pre.length) (bs (be 8 t++pre)))∧Below W0.heap.size W0 A∧A.heap[w1.heap.size+1]?=some (.cells TC 128 (0,0))∧A.heap[w1.heap.size+1+1]?=some (.cells #[fnV 237] 146 (0,0)))
  (λWx hbx=>⟨⟨_,(hbx.block _ oE).trans q3,by simpa using jA7 q4 (Fr.of_below hbx []) sE⟩,q5.trans (hbx.mono oE),(hbx.block _ oE).trans q1,(hbx.block _ oE).trans q2⟩)
  (λl A r hs hsA hlo=>by
   obtain ⟨r0,hlo⟩:=hlo
   have hput:Fr [w5.heap.size+1] A (A.putObj (w5.heap.size+1) (.loop r)):=⟨rfl,rfl,rfl,by rw [jAw];exact Nat.le_refl _,λj _ hj=>World.putObj_heap_other (by simpa using hj)⟩
   obtain ⟨⟨v,y1,y2⟩,y3,y4,y5⟩:=hs
   refine ⟨⟨v,(World.putObj_heap_other oE).trans y1,jA7 y2 hput (λg hg hm=>?_)⟩,y3.trans (hput.below oE (by intro k hk;simp at hk;omega)),(World.putObj_heap_other oE).trans y4,(World.putObj_heap_other oE).trans y5⟩
   simp at hm
   obtain ⟨cc,hc⟩:=jA4 y2 hg
   rw [hm,hlo] at hc;cases hc)
  (λy a' A=>a'={ tmps:=#[.int .u64 (t:Int),.agg #[.int .i64 (s:Int),.int .u8 (p0:Int),.int .u8 (p1:Int),.int .u8 (p2:Int),.int .u8 (p3:Int),.int .u8 (p4:Int),.int .u8 (p5:Int),.int .u8 (p6:Int),.int .u8 (p7:Int),.int .u8 (p8:Int),.int .u64 (z:Int),.nilIface],undef,.pointer (some ⟨w.heap.size,0,none⟩),.string { data:=#[] },.pointer (some ⟨w1.heap.size,0,none⟩),.int .i64 (y:Int),.int .u64 (t:Int),.slice (some ⟨g1,0,none⟩) 8 c1,.agg #[.int .i64 (s:Int),.int .u8 (p0:Int),.int .u8 (p1:Int),.int .u8 (p2:Int),.int .u8 (p3:Int),.int .u8 (p4:Int),.int .u8 (p5:Int),.int .u8 (p6:Int),.int .u8 (p7:Int),.int .u8 (p8:Int),.int .u64 (z:Int),.nilIface],.func (.func 154) #[] #[.pointer (some ⟨w1.heap.size+1,0,none⟩),.pointer (some ⟨w1.heap.size+1+1,0,none⟩)],.int .i64 (y:Int),undef,undef,undef,undef,undef,undef],defers:=[] })
  (λy a' A r hs=>hs)
  ?assign ?body ?done
 case assign =>
  have hsem:=@Oper.semAt_some
  rintro pre y A K hI hsA hpre hK
  gi_wp2
  exact hK _ _ hI (KpS.refl _) rfl
 case body =>
  have hsem:=@Oper.semAt_some
  rintro pre y a' A ⟨⟨v,y1,y2⟩,y3,y4,y5⟩ hsA rfl hpre hdf hlo
  have hpl:pre.length+1≤9:=by
   have:=hpre.length_le
   have h9:=jK9 (q:=hasY) (ps:=PS)
   simp at this
   omega
  have hy9:y<9:=jT3 (hpre.subset sE)
  have j1:IntKind.u8.wrap (y:Int)=(y:Int):=by rw [IntKind.wrap_u8];omega
  have hga:=(callsIn_wide (n:=3)).2 (jLr W0.heap.size v (be 8 t++pre) y (8+pre.length) A y2 oE oE oE)
  have d0:=jA0 y1 0
  simp at d0
  have HA:=jA1 (show A.heap[w1.heap.size]?=some (.cells #[v] 88 (0,0))∧Below W0.heap.size W0 A∧A.heap[w1.heap.size+1]?=some (.cells TC 128 (0,0))∧A.heap[w1.heap.size+1+1]?=some (.cells #[fnV 237] 146 (0,0))∧A.heap[w5.heap.size]?=some (.deferred (some []))∧(∃ r,A.heap[w5.heap.size+1]?=some (.loop r)) from ⟨y1,y3,y4,y5,hdf,hlo⟩)
  clear y1 y2 y3 y4 y5 hdf hlo
  gi_wp2_with fail
  refine hga.mono ?_
  clear hga
  rintro e A2 ⟨v2,rfl,o2,b2,t2⟩
  rw [be1 oE,List.append_assoc] at o2
  obtain ⟨g3,c3,rfl⟩:=jCl o2 oE
  have z1:=(t2.block w1.heap.size oE (λc e=>by rw [HA.out.1] at e;cases e)).trans HA.out.1
  have z4:=(t2.block (w1.heap.size+1) oE (λc e=>by rw [HA.out.2.2.1] at e;cases e)).trans HA.out.2.2.1
  have z5:=(t2.block (w1.heap.size+1+1) oE (λc e=>by rw [HA.out.2.2.2.1] at e;cases e)).trans HA.out.2.2.2.1
  have z6:=(t2.block w5.heap.size oE (λc e=>by rw [HA.out.2.2.2.2.1] at e;cases e)).trans HA.out.2.2.2.2.1
  obtain ⟨r,hlo⟩:=HA.out.2.2.2.2.2
  have z7:=(t2.block (w5.heap.size+1) oE (λc e=>by rw [hlo] at e;cases e)).trans hlo
  have hsz3:=t2.size
  have k0:=jA0 z1 0
  have f0:=jA2 z1 0
  simp at k0
  obtain ⟨A3,hA3⟩:∃ A3,A3=A2.setCell ⟨w1.heap.size,0,none⟩ (.slice (some ⟨g3,0,none⟩) (8+pre.length+1) c3):=⟨_,rfl⟩
  have hfs:Fr [w1.heap.size] A2 A3:=by rw [hA3];exact Fr.set1 sE _ _
  have m1:A3.heap[w1.heap.size]?=some (.cells #[.slice (some ⟨g3,0,none⟩) (8+pre.length+1) c3] 88 (0,0)):=by
   rw [hA3]
   have:=jA5 z1 0 (.slice (some ⟨g3,0,none⟩) (8+pre.length+1) c3)
   simpa using this
  have m2:A3.ownsRow W0.heap.size 5 1 (.slice (some ⟨g3,0,none⟩) (8+pre.length+1) c3) (8+pre.length+1) (bs (be 8 t++(pre++[y]))):=jA7 o2 hfs (λg hg=>by simp;intro e;subst e;exact jAe o2 z1 dN hg)
  have HN:=jA1 (show ((∃ v,A3.heap[w1.heap.size]?=some (.cells #[v] 88 (0,0))∧A3.ownsRow W0.heap.size 5 1 v (8+(pre++[y]).length) (bs (be 8 t++(pre++[y]))))∧Below W0.heap.size W0 A3∧A3.heap[w1.heap.size+1]?=some (.cells TC 128 (0,0))∧A3.heap[w1.heap.size+1+1]?=some (.cells #[fnV 237] 146 (0,0)))∧KpS (w5.heap.size :: (w5.heap.size+1) :: [w1.heap.size+1,w1.heap.size+1+1]) A A3 from
   ⟨⟨⟨_,m1,by rw [List.length_append];exact m2⟩,HA.out.2.1.trans (b2.trans (hfs.below oE (by intro k hk;simp at hk;omega))),(hfs.block _ oE sE).trans z4,(hfs.block _ oE (by simp;omega)).trans z5⟩,Nat.le_trans hsz3 hfs.size,λk hk hlt=>by
    simp at hk
    rcases hk with rfl | rfl | rfl | rfl
    ·rw [hfs.block _ oE (by simp;omega),z6,HA.out.2.2.2.2.1]
    ·rw [hfs.block _ oE (by simp;omega),z7,hlo]
    ·rw [hfs.block _ oE sE,z4,HA.out.2.2.1]
    ·rw [hfs.block _ oE (by simp;omega),z5,HA.out.2.2.2.1]⟩)
  clear o2 b2 t2 z1 z4 z5 z6 z7 hlo m1 m2 hfs HA
  gi_wp2
  rw [← hA3]
  have hn:=HN.out
  simp only [List.length_append,List.length_cons,List.length_nil,Nat.zero_add,hs0,hs5] at hn
  exact hn
 case done =>
  rintro A ⟨⟨v,y1,y2⟩,y3,y4,y5⟩ hsA hK
  obtain ⟨g3,c3,rfl⟩:=jCl y2 oE
  have d0:=jA0 y1 0
  simp at d0
  have hcv:=jDo A g3 0 (8+(jB9 hasY PS).length) c3 (be 8 t++jB9 hasY PS) (by rw [List.length_append,jB3]) (jE1 y2)
  gi_wp2
  refine ⟨by simp,.inl ⟨_,_,rfl,run_takeDeferred hK,?_⟩⟩
  refine ⟨.string (str (be 8 t++jB9 hasY PS)),by simp [results,Tryz.results192,go_sem],rfl,?_⟩
  have hput:Below w.heap.size A (A.putObj w5.heap.size (.deferred none)):=⟨rfl,rfl,rfl,by rw [jAw];exact Nat.le_refl _,λj hj=>World.putObj_heap_other oE⟩
  exact H0.out.1.trans ((y3.mono oE).trans hput)
end Go.Proofs.YtcalalndmcemiaaGreatDoor
