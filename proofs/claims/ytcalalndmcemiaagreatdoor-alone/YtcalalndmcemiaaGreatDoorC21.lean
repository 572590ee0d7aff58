import Derived.Test.YtcalalndmcemiaaGreatDoorC19
import Derived.Test.YtcalalndmcemiaaGreatDoorC20
import Derived.Stop.RegionWithIn
set_option maxRecDepth 100000
set_option maxHeartbeats 16000000
namespace Go.Proofs.YtcalalndmcemiaaGreatDoor
open Go.RowKit Go.Maps Go.Shelf
open Sc
structure SDFr (p:Nat) (S:List Nat) (w w':World):Prop where
 os:w'.os=w.os
 tape:w'.tape=w.tape
 output:w'.output=w.output
 size:w.heap.size≤w'.heap.size
 block:∀ k,k<w.heap.size→¬ OwnD p w k→k∉S→w'.heap[k]?=w.heap[k]?
theorem DiskIn.freeDMap {w:World} {B p bD bN n nD nN k:Nat} {pv:Value} {d:ADisk} (h:DiskIn w B p bD bN pv d n nD nN) (hm:∃ es c,w.heap[k]?=some (.map es c)) (h1:k≠bD) (h2:k≠bN):¬ OwnD p w k:=by
 obtain ⟨es,c,hk⟩:=hm
 intro ho
 have:=(h.ownD k).1 ho
 simp at this
 rcases this with e | e | e | e
 ·rw [e,h.blk] at hk;cases hk
 ·exact h1 e
 ·exact h2 e
 ·obtain ⟨c2,hc⟩:=jA4 h.pen e;rw [hc] at hk;cases hk
theorem ShIn.blocks {w w':World} {sp lg bV bT bH n:Nat} {s:AShard} (h:ShIn w sp lg bV bT bH n s) (hb:∀ k∈[sp,bV,bT,bH],w'.heap[k]?=w.heap[k]?):ShIn w' sp lg bV bT bH n s:=by
 have mv:∀ {K V:Type} [DecidableEq K] {kt:TypeId} {KR:KeyRep Tryz.prog K kt} {ER:ElRep V} {b k:Nat} {L:List (K × V)},MapAs KR ER w b k L→b∈[sp,bV,bT,bH]→MapAs KR ER w' b k L:=by
  intro K V _ kt KR ER b k L hM hb'
  obtain ⟨es,⟨es',c,h1,h2⟩,r⟩:=hM
  exact ⟨es,⟨es',c,(hb b hb').trans h1,h2⟩,r⟩
 exact { blk:=(hb sp sE).trans h.blk,vals:=mv h.vals sE,txns:=mv h.txns sE,holds:=mv h.holds sE,ne:=h.ne,ticks:=h.ticks }
theorem jA1 {p:Prop} (h:p):Hid p:=h
abbrev rdV (sp:Nat):Value:=.func (.func 125) #[.pointer (some ⟨sp,0,none⟩)] #[]
theorem jL3 (N:Nat) (hN:14≤N) (B p bD bN n m sp bV bT bH:Nat) (R:ALog × ADisk × Nat) (J:List Rec→AShard→Prop) (s0:AShard) (w:World) (h00:J [] s0) (hs:ShIn w sp 0 bV bT bH m s0) (hd:∃ pv d nD nN,DiskIn w B p bD bN pv d n nD nN) (hne:bV≠bD∧bV≠bN∧bT≠bD∧bT≠bN∧bH≠bD∧bH≠bN)
  (hJ:∀ W,Fr [] w W→Calls Tryz.prog 78 #[dskV p] W (jDl B p bD bN n R W)) (hpl:jEo R.1.recs) (hfi:firstN R.1.recs R.1.next=1) (hby:∀ r∈R.1.recs,Byt r.pay∧r.pay.length≤4096)
  (hEn:∀ pre x s',pre++[x] <+: R.1.recs→J pre s'→Entr (J (pre++[x])) s' x) (hm:m+20*R.1.recs.length+32<maxLen) (hn:n≤67108864) :
  CallsIn Fence.wide N Tryz.prog 124 #[dskV p,rdV sp] w λe w'=>∃ gp lp s',e=.returned (.tuple #[.pointer (some ⟨gp,0,none⟩),.nilIface])∧J R.1.recs s'∧ShIn w' sp 0 bV bT bH (m+20*R.1.recs.length) s'∧(∃ pv sv rv nD nN,LogIn w' B lp p bD bN pv sv rv R.1 R.2.1 n nD nN)∧w'.heap[gp]?=some (ledO lp)∧w.heap.size≤gp∧SDFr p [bV,bT,bH] w w':=by
 have hro:Fence.wide.round=none:=rfl
 have h1:1≤N:=by omega
 have hf1:Fence.wide.fn 78:=trivial
 have hf2:Fence.wide.fn 165:=trivial
 have hf3:Fence.wide.fn 166:=trivial
 have hf4:Fence.wide.fn 167:=trivial
 have hf5:Fence.wide.fn 217:=trivial
 have hf6:Fence.wide.fn 168:=trivial
 have hf7:Fence.wide.fn 125:=trivial
 obtain ⟨W0,hW0⟩:∃ W0,W0=((w.alloc (.cells #[rdV sp] 229)).alloc (.cells #[.pointer none] 117)).alloc (.cells #[.nilIface] 82):=⟨_,rfl⟩
 have hfr0:Fr [] w W0:=by rw [hW0];exact (((Fr.refl [] w).alloc _).alloc _).alloc _
 have hs0:W0.heap.size=w.heap.size+3:=by rw [hW0];simp
 have r0:W0.heap[w.heap.size]?=some (.cells #[rdV sp] 229 (0,0)):=by rw [hW0,Below.heap_alloc _ _ w.heap.size (by simp;omega),Below.heap_alloc _ _ w.heap.size sE];exact heap_alloc_new w _
 have r1:W0.heap[w.heap.size+1]?=some (.cells #[.pointer none] 117 (0,0)):=by
  rw [hW0,Below.heap_alloc _ _ (w.heap.size+1) sE]
  have:=heap_alloc_new (w.alloc (.cells #[rdV sp] 229)) (.cells #[.pointer none] 117)
  rwa [World.size_alloc] at this
 have r2:W0.heap[w.heap.size+2]?=some (.cells #[.nilIface] 82 (0,0)):=by
  rw [hW0]
  have:=heap_alloc_new ((w.alloc (.cells #[rdV sp] 229)).alloc (.cells #[.pointer none] 117)) (.cells #[.nilIface] 82)
  rwa [World.size_alloc,World.size_alloc] at this
 have hJ0:=(callsIn_wide (n:=N - 1)).2 (hJ W0 hfr0)
 have HS0:=hs.fr hfr0 sE sE sE sE
 obtain ⟨pv0,d0,nD0,nN0,hd0⟩:=hd
 have HD0:=hd0.new hfr0
 refine callsIn_of_wp_marks Tryz.func124 rfl trivial ?_ hro
 simp only [Tryz.ntmps124,List.size_toArray,List.length_cons,List.length_nil,Nat.reduceAdd,Nat.reduceSub,Array.replicate_succ,Array.replicate_zero,List.push_toArray,List.append_toArray,List.nil_append,List.cons_append]
 gi_wp2_with fail
 rw [← hW0]
 refine hJ0.mono ?_
 clear hJ0 hW0
 rintro e w1 ⟨lp,rfl,hlp,⟨pv,sv,rv,nD,nN,hl1⟩,hdf1⟩
 have fD:∀ k∈[sp,bV,bT,bH,w.heap.size,w.heap.size+1,w.heap.size+2],w1.heap[k]?=W0.heap[k]?:=by
  have hl:=HS0.lts
  intro k hk
  simp at hk
  rcases hk with rfl | rfl | rfl | rfl | rfl | rfl | rfl
  ·exact hdf1.block _ oE (HD0.freeD HS0.blk dN dN)
  ·exact hdf1.block _ oE (HD0.freeDMap HS0.vals.isMap hne.1 hne.2.1)
  ·exact hdf1.block _ oE (HD0.freeDMap HS0.txns.isMap hne.2.2.1 hne.2.2.2.1)
  ·exact hdf1.block _ oE (HD0.freeDMap HS0.holds.isMap hne.2.2.2.2.1 hne.2.2.2.2.2)
  ·exact hdf1.block _ oE (HD0.freeD r0 dN dN)
  ·exact hdf1.block _ oE (HD0.freeD r1 dN dN)
  ·exact hdf1.block _ oE (HD0.freeD r2 dN dN)
 have HS1:ShIn w1 sp 0 bV bT bH m s0:=HS0.blocks (λk hk=>fD k (by simp at hk ⊢;omega))
 have q0:=(fD w.heap.size sE).trans r0
 have q1:=(fD (w.heap.size+1) sE).trans r1
 have q2:=(fD (w.heap.size+2) sE).trans r2
 have hz1:=hdf1.size
 have hsd1:SDFr p [bV,bT,bH] w w1:=⟨hdf1.os.trans hfr0.os,hdf1.tape.trans hfr0.tape,hdf1.output.trans hfr0.output,by omega,λk hk ho _=>(hdf1.block k oE (λho'=>ho (by
  have:=(HD0.ownD k).1 ho'
  exact (hd0.ownD k).2 this))).trans (hfr0.block k hk sE)⟩
 clear hdf1 fD r0 r1 r2 hfr0 HS0 HD0 hd0
 obtain ⟨W2,hW2⟩:∃ W2,W2=w1.alloc (ledO lp):=⟨_,rfl⟩
 have hfr2:Fr [] w1 W2:=by rw [hW2];exact (Fr.refl [] w1).alloc _
 have hz2:W2.heap.size=w1.heap.size+1:=by rw [hW2];simp
 have g2:W2.heap[w1.heap.size]?=some (ledO lp):=by rw [hW2];exact heap_alloc_new w1 _
 have hl2:=hl1.new hfr2
 have HS2:=HS1.fr hfr2 sE sE sE sE
 have lr2:LogRecs W2 lp rv R.1.recs:=⟨(Array.getElem?_eq_some_iff.1 hl2.blk).1,by have:=jA0 hl2.blk 3;simpa using this,jHk hl2.recs⟩
 have nx2:W2.cell? ⟨lp,4,none⟩=some (.int .u64 (R.1.next:Int)):=by have:=jA0 hl2.blk 4;simpa using this
 have gc2:W2.cell? ⟨w1.heap.size,0,none⟩=some (.pointer (some ⟨lp,0,none⟩)):=by have:=jA0 g2 0;simpa using this
 have hlen:R.1.recs.length≤67108864:=by have:=hl2.recsN;omega
 have hcp:=jGg (N - 1) oE w1.heap.size lp rv R.1.recs hlen hpl W2 gc2 lr2
 have b0:=(hfr2.block w.heap.size oE sE).trans q0
 have b1:=(hfr2.block (w.heap.size+1) oE sE).trans q1
 have b2:=(hfr2.block (w.heap.size+2) oE sE).trans q2
 clear q0 q1 q2
 gi_wp2_with fail
 have hW2':W2=w1.alloc (.cells #[.pointer (some ⟨lp,0,none⟩)] 244):=hW2
 rw [← hW2']
 refine hcp.mono ?_
 clear hcp hW2 hW2'
 rintro e w3 ⟨rfl,hb3⟩
 have hz3:=hb3.size
 have hfo:=jHs (N - 1) oE lp R.1.next rv R.1.recs hlen w3 (lr2.below hb3) ((hb3.cell (p:=⟨lp,4,none⟩) lr2.lt).trans nx2)
 rw [hfi] at hfo
 gi_wp2_with fail
 refine hfo.mono ?_
 clear hfo
 rintro e w4 ⟨rfl,hb4⟩
 have hz4:=hb4.size
 have hfa:=jJ9 (N - 1) w1.heap.size w4
 gi_wp2_with fail
 refine hfa.mono ?_
 clear hfa
 rintro e w5 ⟨rfl,hw5⟩
 have hB5:Below W2.heap.size W2 w5:=by rw [hw5];exact (hb3.trans (hb4.mono hz3)).alloc oE _
 have hz5:w5.heap.size=w4.heap.size+1:=by rw [hw5];simp
 have a5:w5.heap[w4.heap.size]?=some (.cells #[.pointer (some ⟨w1.heap.size,0,none⟩)] 117 (0,0)):=by rw [hw5];exact heap_alloc_new w4 _
 have hfr5:Fr [] W2 w5:=Fr.of_below hB5 []
 have hl5:=hl2.new hfr5
 have HS5:=HS2.fr hfr5 sE sE sE sE
 have lr5:=lr2.below hB5
 have g5:=(hfr5.block w1.heap.size oE sE).trans g2
 have c0:=(hfr5.block w.heap.size oE sE).trans b0
 have c1:=(hfr5.block (w.heap.size+1) oE sE).trans b1
 have c2:=(hfr5.block (w.heap.size+2) oE sE).trans b2
 have hsd5:SDFr p [bV,bT,bH] w w5:=⟨hfr5.os.trans (hfr2.os.trans hsd1.os),hfr5.tape.trans (hfr2.tape.trans hsd1.tape),hfr5.output.trans (hfr2.output.trans hsd1.output),by omega,λk hk ho hS=>(hfr5.block k oE sE).trans ((hfr2.block k oE sE).trans (hsd1.block k hk ho hS))⟩
 clear hw5 hB5 hfr5 hl2 HS2 lr2 g2 b0 b1 b2 hsd1 hb3 hb4 nx2 gc2 hl1 HS1 hfr2
 gi_wp2
 have z4:w5.cell? ⟨w4.heap.size,0,none⟩=some (.pointer (some ⟨w1.heap.size,0,none⟩)):=by have:=jA0 a5 0;simpa using this
 have z5:w5.cell? ⟨w1.heap.size,0,none⟩=some (.pointer (some ⟨lp,0,none⟩)):=by have:=jA0 g5 0;simpa using this
 have hlts:=HS5.lts
 have noS:∀ {k:Nat} {c:Array Value} {t:TypeId} {fr:Nat × Nat},w5.heap[k]?=some (.cells c t fr)→k∉[bV,bT,bH]:=by
  intro k c t fr hk hm
  simp at hm
  rcases hm with e | e | e
  ·obtain ⟨es,c,e2⟩:=HS5.vals.isMap;rw [e,e2] at hk;cases hk
  ·obtain ⟨es,c,e2⟩:=HS5.txns.isMap;rw [e,e2] at hk;cases hk
  ·obtain ⟨es,c,e2⟩:=HS5.holds.isMap;rw [e,e2] at hk;cases hk
 have hrowS:∀ k∈jCa rv,k∉[bV,bT,bH]:=λk hk=>by
  simp [jCa] at hk
  obtain ⟨c,hc⟩:=jA4 hl5.recs hk
  exact noS hc
 refine jCv hro h1 (gf:=217) (lb:=#[.pointer (some ⟨w4.heap.size,0,none⟩)]) rfl hf5 (enters_of Tryz.func217 (by kernel_rfl) rfl)
  (encs:=λx:Rec=>#[.int .u8 (x.kind:Int),.string (str x.pay)]) (rs:=R.1.recs) (S:=jCa rv) (λ_=>rfl) lr5.rows
  (λWx hbx _=>jS1 (N - 1) oE _ w4.heap.size w1.heap.size lp rv R.1.recs hlen hpl Wx ((hbx.cell (p:=⟨w4.heap.size,0,none⟩) (by show w4.heap.size<_;omega)).trans z4) ((hbx.cell (p:=⟨w1.heap.size,0,none⟩) (by show w1.heap.size<_;omega)).trans z5) (lr5.below hbx))
  (λpre A=>(∃ s',J pre s'∧ShIn A sp 0 bV bT bH (m+20*pre.length) s')∧Fr [bV,bT,bH] w5 A)
  (λWx hbx=>⟨⟨s0,h00,HS5.fr (Fr.of_below hbx []) sE sE sE sE⟩,Fr.of_below hbx _⟩)
  (λs A B hs hb=>by
   obtain ⟨⟨s',e1,e2⟩,e3⟩:=hs
   exact ⟨⟨s',e1,e2.blocks (λk hk=>hb.block k (by simp at hk;omega))⟩,⟨hb.os.trans e3.os,hb.tape.trans e3.tape,hb.output.trans e3.output,Nat.le_trans e3.size hb.size,λk hk hS=>(hb.block k oE).trans (e3.block k hk hS)⟩⟩)
  (λs A r hs=>by
   obtain ⟨⟨s',e1,e2⟩,e3⟩:=hs
   exact ⟨⟨s',e1,e2.blocks (λk hk=>World.putObj_heap_other (by simp at hk;omega))⟩,⟨e3.os,e3.tape,e3.output,by rw [jAw];exact e3.size,λk hk hS=>(World.putObj_heap_other oE).trans (e3.block k hk hS)⟩⟩)
  (λx a' A=>a'={ tmps:=#[dskV p,rdV sp,undef,.pointer (some ⟨w.heap.size,0,none⟩),.pointer (some ⟨w.heap.size+1,0,none⟩),.pointer (some ⟨w.heap.size+1+1,0,none⟩),.pointer (some ⟨lp,0,none⟩),.nilIface,.pointer (some ⟨w1.heap.size,0,none⟩),.int .u64 0,.int .u64 0,.int .u8 (x.kind:Int),.string (str x.pay),.tuple #[.pointer (some ⟨lp,0,none⟩),.nilIface],dskV p,.tuple #[.pointer (some ⟨lp,0,none⟩),.nilIface],.pointer (some ⟨lp,0,none⟩),.nilIface,.nilIface,.bool false,undef,.pointer (some ⟨lp,0,none⟩),.agg #[.pointer (some ⟨lp,0,none⟩)],.pointer (some ⟨w1.heap.size,0,none⟩),.tuple #[.int .u64 0,.int .u64 0],.pointer (some ⟨w1.heap.size,0,none⟩),.tuple #[.int .u64 0,.int .u64 0],.int .u64 0,.int .u64 0,.int .u64 0,.bool true,.bool true,.pointer (some ⟨lp,0,none⟩),.int .u64 1,.bool false,.bool false,undef,.pointer (some ⟨w1.heap.size,0,none⟩),.func (.func 217) #[] #[.pointer (some ⟨w4.heap.size,0,none⟩)],.int .u8 (x.kind:Int),.string (str x.pay),undef,undef,undef,undef,undef,undef,undef,undef],defers:=[] })
  (λx a' A r hs=>hs)
  ?assign ?body ?done
 case assign =>
  have hsem:=@Oper.semAt_some
  rintro pre x A K hI hsA hpre hK
  gi_wp2
  exact hK _ _ hI (Keep.refl _ _ _) rfl
 case body =>
  have hsem:=@Oper.semAt_some
  rintro pre x a' A ⟨⟨s1,hr1,hin1⟩,hfA⟩ hsA rfl hpre
  have hx:x∈R.1.recs:=hpre.subset sE
  have hpl1:pre.length+1≤R.1.recs.length:=by have:=hpre.length_le;simpa using this
  obtain ⟨y1,y2⟩:=hby x hx
  have hen:=hEn pre x s1 hpre hr1
  have v0:A.cell? ⟨w.heap.size,0,none⟩=some (rdV sp):=by have:=jA0 ((hfA.block w.heap.size oE (noS c0)).trans c0) 0;simpa using this
  have h3:1≤N - 1 - 1:=by omega
  have HI:Hid (ShIn A sp 0 bV bT bH (m+20*pre.length) s1∧Fr [bV,bT,bH] w5 A):=⟨hin1,hfA⟩
  have HB:Hid (∀ (w7 w8:World) (fp:Nat) (s2:AShard),A.heap.size≤fp→Fr [] A.drew w7→J (pre++[x]) s2→ShIn w8 sp 0 bV bT bH (m+20*pre.length+20) s2→Fr [fp,bV,bT,bH] w7 w8 →
    ((∃ s',J (pre++[x]) s'∧ShIn w8 sp 0 bV bT bH (m+20*(pre.length+1)) s')∧Fr [bV,bT,bH] w5 w8)∧Keep w5.heap.size (jCa rv) A w8):=by
   intro w7 w8 fp s2 hfp hfr7 hr8 hin8 hfr8
   have hzA:A.heap.size≤w7.heap.size:=hfr7.size
   have blk:∀ k,k<A.heap.size→k∉[bV,bT,bH]→w8.heap[k]?=A.heap[k]?:=λk hk hS=>(hfr8.block k oE (by simp at hS ⊢;omega)).trans (hfr7.block k hk sE)
   refine ⟨⟨⟨s2,hr8,by rw [show m+20*(pre.length+1)=m+20*pre.length+20 by omega];exact hin8⟩,hfr8.os.trans (hfr7.os.trans hfA.os),hfr8.tape.trans (hfr7.tape.trans hfA.tape),hfr8.output.trans (hfr7.output.trans hfA.output),by have:=hfr8.size;have:=hfA.size;omega,λk hk hS=>(blk k oE hS).trans (hfA.block k hk hS)⟩,by have:=hfr8.size;omega,λk hk hlt=>blk k hlt (by simp;omega),λk hk hlt=>blk k hlt (hrowS k hk)⟩
  clear hin1 hfA
  gi_wp2
  gi_region_with (first
   | (gi_at_call 168;refine ((callsIn_wide (n:=N - 1 - 1 - 1)).2 (jFu x.pay y1 y2 _)).mono ?_;rintro e w7 ⟨fp,rfl,hfa7,hfr7⟩;have v7:w7.cell? ⟨w.heap.size,0,none⟩=some (rdV sp):=(World.cell?_of_block (a:=⟨w.heap.size,0,none⟩) (hfr7.block w.heap.size (by show w.heap.size<A.heap.size;omega) (by simp))).trans v0)
   | (gi_at_call 125;refine ((callsIn_wide (n:=N - 1 - 1 - 1)).2 (jSo A.heap.size sp 0 bV bT bH (m+20*pre.length) fp s1 x w7 (HI.out.1.fr (S:=[]) (w:=A) ⟨hfr7.os,hfr7.tape,hfr7.output,hfr7.size,hfr7.block⟩ (by simp) (by simp) (by simp) (by simp)) hfa7 (J (pre++[x])) hen (by omega) ⟨by have:=HI.out.1.lts;omega,by have:=HI.out.1.lts;omega,by have:=HI.out.1.lts;omega,by have:=HI.out.1.lts;omega⟩)).mono ?_;rintro e w8 ⟨rfl,s2,hr8,hin8,hfr8⟩))
  all_goals
   (have HN:=jA1 (HB.out w7 w8 fp s2 hfa7.low hfr7 hr8 hin8 hfr8)
    clear HB HI hfa7 hfr7 hr8 hin8 hfr8
    gi_wp2
    obtain ⟨⟨o1,o2⟩,o3⟩:=HN.out
    rw [hz5] at o3
    first
     | exact ⟨⟨o1,o2⟩,o3⟩
     | exact ⟨o1,o2,o3⟩)
 case done =>
  rintro W ⟨⟨s',hr',hin'⟩,hfW⟩ hsW hK
  have t1:=(hfW.block (w.heap.size+1) oE (noS c1)).trans c1
  have t2:=(hfW.block (w.heap.size+2) oE (noS c2)).trans c2
  have u1:=jA0 t1 0
  have u2:=jA0 t2 0
  have f1:=jA2 t1 0
  have f2:=jA2 t2 0
  simp at u1 u2 f1 f2
  obtain ⟨W6,hW6⟩:∃ W6,W6=(W.setCell ⟨w.heap.size+1,0,none⟩ (.pointer (some ⟨w1.heap.size,0,none⟩))).setCell ⟨w.heap.size+1+1,0,none⟩ .nilIface:=⟨_,rfl⟩
  have hf6:Fr [w.heap.size+1,w.heap.size+2] W W6:=by rw [hW6];exact (Fr.set1 sE _ _).trans (Fr.set1 sE _ _)
  have s1:W6.heap[w.heap.size+1]?=some (.cells #[.pointer (some ⟨w1.heap.size,0,none⟩)] 117 (0,0)):=by
   rw [hW6]
   have:=jA5 t1 0 (.pointer (some ⟨w1.heap.size,0,none⟩))
   rw [Below.heap_setCell _ _ _ _ (by show w.heap.size+1≠w.heap.size+1+1;omega)]
   simpa using this
  have s2:W6.heap[w.heap.size+1+1]?=some (.cells #[.nilIface] 82 (0,0)):=by
   rw [hW6]
   have t2':(W.setCell ⟨w.heap.size+1,0,none⟩ (.pointer (some ⟨w1.heap.size,0,none⟩))).heap[w.heap.size+1+1]?=some (.cells #[.nilIface] 82 (0,0)):=(Below.heap_setCell _ _ _ _ (by show w.heap.size+1+1≠w.heap.size+1;omega)).trans t2
   have:=jA5 t2' 0 .nilIface
   simpa using this
  have hK6:W6.heap[w5.heap.size]?=some (.deferred (some [])):=(hf6.block _ oE (by simp;omega)).trans hK
  have HW:Hid (J R.1.recs s'∧ShIn W sp 0 bV bT bH (m+20*R.1.recs.length) s'∧Fr [bV,bT,bH] w5 W):=⟨hr',hin',hfW⟩
  clear hr' hin' hfW
  gi_wp2
  rw [← hW6]
  clear hW6
  refine ⟨by simp,.inl ⟨_,_,rfl,run_takeDeferred hK6,?_⟩⟩
  have hlow:=hs.lts
  obtain ⟨W7,hW7⟩:∃ W7,W7=W6.putObj w5.heap.size (.deferred none):=⟨_,rfl⟩
  have blk7:∀ k,k≠w5.heap.size→W7.heap[k]?=W6.heap[k]?:=λk hk=>by rw [hW7];exact World.putObj_heap_other hk
  have hf7:Fr [bV,bT,bH,w.heap.size+1,w.heap.size+2] w5 W7:=by
   refine ⟨?_,?_,?_,?_,λk hk hS=>?_⟩
   ·rw [hW7];exact hf6.os.trans HW.out.2.2.os
   ·rw [hW7];exact hf6.tape.trans HW.out.2.2.tape
   ·rw [hW7];exact hf6.output.trans HW.out.2.2.output
   ·rw [hW7,jAw];have:=hf6.size;have:=HW.out.2.2.size;omega
   ·simp at hS
    rw [blk7 k oE,hf6.block k oE (by simp;omega),HW.out.2.2.block k hk (by simp;omega)]
  have hl7:=hl5.apart hf7 (λk hk _=>by
   simp at hk
   rcases hk with rfl | rfl | rfl | rfl | rfl
   ·exact ⟨hl5.freeMap HS5.vals.isMap hne.1 hne.2.1,λt e=>by obtain ⟨es,c,e2⟩:=HS5.vals.isMap;rw [e2] at e;cases e⟩
   ·exact ⟨hl5.freeMap HS5.txns.isMap hne.2.2.1 hne.2.2.2.1,λt e=>by obtain ⟨es,c,e2⟩:=HS5.txns.isMap;rw [e2] at e;cases e⟩
   ·exact ⟨hl5.freeMap HS5.holds.isMap hne.2.2.2.2.1 hne.2.2.2.2.2,λt e=>by obtain ⟨es,c,e2⟩:=HS5.holds.isMap;rw [e2] at e;cases e⟩
   ·exact ⟨hl5.free c1 dN dN dN dN dN,λt e=>by rw [c1] at e;cases e⟩
   ·exact ⟨hl5.free c2 dN dN dN dN dN,λt e=>by rw [c2] at e;cases e⟩)
  have hin7:ShIn W7 sp 0 bV bT bH (m+20*R.1.recs.length) s':=HW.out.2.1.blocks (λk hk=>by
   simp at hk
   rw [blk7 k oE,hf6.block k (by have:=HW.out.2.2.size;omega) (by simp;omega)])
  have q1:=jA0 ((blk7 (w.heap.size+1) oE).trans s1) 0
  have q2:=jA0 ((blk7 (w.heap.size+1+1) oE).trans s2) 0
  simp at q1 q2
  have g7:=(hf7.block w1.heap.size oE (by have:=noS g5;simp at this ⊢;omega)).trans g5
  have hsd7:SDFr p [bV,bT,bH] w W7:=⟨hf7.os.trans hsd5.os,hf7.tape.trans hsd5.tape,hf7.output.trans hsd5.output,by have:=hf7.size;omega,λk hk ho hS=>(hf7.block k oE (by simp at hS ⊢;omega)).trans (hsd5.block k hk ho hS)⟩
  rw [← hW7]
  refine ⟨.tuple #[.pointer (some ⟨w1.heap.size,0,none⟩),.nilIface],?_,w1.heap.size,lp,s',rfl,HW.out.1,hin7,⟨pv,sv,rv,nD,nN,hl7⟩,g7,by omega,hsd7⟩
  simp only [results,Tryz.f124]
  simp [go_sem,q1,q2]
theorem jSp (B p bD bN n m sp bV bT bH:Nat) (R:ALog × ADisk × Nat) (J:List Rec→AShard→Prop) (s0:AShard) (w:World) (h00:J [] s0) (hs:ShIn w sp 0 bV bT bH m s0) (hd:∃ pv d nD nN,DiskIn w B p bD bN pv d n nD nN) (hne:bV≠bD∧bV≠bN∧bT≠bD∧bT≠bN∧bH≠bD∧bH≠bN)
  (hJ:∀ W,Fr [] w W→Calls Tryz.prog 78 #[dskV p] W (jDl B p bD bN n R W)) (hpl:jEo R.1.recs) (hfi:firstN R.1.recs R.1.next=1) (hby:∀ r∈R.1.recs,Byt r.pay∧r.pay.length≤4096)
  (hEn:∀ pre x s',pre++[x] <+: R.1.recs→J pre s'→Entr (J (pre++[x])) s' x) (hm:m+20*R.1.recs.length+32<maxLen) (hn:n≤67108864) :
  Calls Tryz.prog 124 #[dskV p,rdV sp] w λe w'=>∃ gp lp s',e=.returned (.tuple #[.pointer (some ⟨gp,0,none⟩),.nilIface])∧J R.1.recs s'∧ShIn w' sp 0 bV bT bH (m+20*R.1.recs.length) s'∧(∃ pv sv rv nD nN,LogIn w' B lp p bD bN pv sv rv R.1 R.2.1 n nD nN)∧w'.heap[gp]?=some (ledO lp)∧w.heap.size≤gp∧SDFr p [bV,bT,bH] w w' :=
 (callsIn_wide (n:=14)).1 (jL3 14 (Nat.le_refl _) B p bD bN n m sp bV bT bH R J s0 w h00 hs hd hne hJ hpl hfi hby hEn hm hn)
end Go.Proofs.YtcalalndmcemiaaGreatDoor
set_option maxRecDepth 100000
set_option maxHeartbeats 16000000
namespace Go.Proofs.YtcalalndmcemiaaGreatDoor
open Go.RowKit Go.Maps
open Sc
abbrev sh0:AShard:=⟨[],[],[],0⟩
def jX2 (J:List Rec→AShard→Prop) (B p bD bN n:Nat) (R:ALog × ADisk × Nat) (w:World) (e:Ending) (w':World):Prop :=
 ∃ sp gp bV bT bH lp s',e=.returned (.tuple #[.pointer (some ⟨sp,0,none⟩),.nilIface])∧J R.1.recs s'∧SL w' B sp gp bV bT bH (20*R.1.recs.length) lp p bD bN n s' R.1 R.2.1∧(w.heap.size≤sp∧w.heap.size≤bV∧w.heap.size≤bT∧w.heap.size≤bH∧w.heap.size≤gp)∧SDFr p [] w w'
structure ShPre (J:List Rec→AShard→Prop) (B p bD bN n:Nat) (R:ALog × ADisk × Nat) (w:World):Prop where
 disk:∃ pv d nD nN,DiskIn w B p bD bN pv d n nD nN
 jop:∀ W,Fr [] w W→Calls Tryz.prog 78 #[dskV p] W (jDl B p bD bN n R W)
 plain:jEo R.1.recs
 first:firstN R.1.recs R.1.next=1
 byt:∀ r∈R.1.recs,Byt r.pay∧r.pay.length≤4096
 none:J [] sh0
 ents:∀ pre x s',pre++[x] <+: R.1.recs→J pre s'→Entr (J (pre++[x])) s' x
 few:20*R.1.recs.length+32<maxLen
 num:n≤67108864
theorem jOo (J:List Rec→AShard→Prop) (B p bD bN n:Nat) (R:ALog × ADisk × Nat) (w:World) (h:ShPre J B p bD bN n R w) :
  Calls Tryz.prog 79 #[dskV p] w (jX2 J B p bD bN n R w):=by
 have hmm:=@run_makeMap Tryz.prog
 obtain ⟨pv,d,nD,nN,hd⟩:=h.disk
 have hbase:=hd.base
 have hnl:=hd.now.lt
 have hdl:=hd.dur.lt
 obtain ⟨W,hW⟩:∃ W,W=(((w.alloc (.map #[] 0)).alloc (.map #[] 0)).alloc (.map #[] 0)).alloc (shO 0 w.heap.size (w.heap.size+1) (w.heap.size+1+1) 0):=⟨_,rfl⟩
 have hfr:Fr [] w W:=by rw [hW];exact ((((Fr.refl [] w).alloc _).alloc _).alloc _).alloc _
 have hsz:W.heap.size=w.heap.size+4:=by rw [hW];simp
 have hin:ShIn W (w.heap.size+1+1+1) 0 w.heap.size (w.heap.size+1) (w.heap.size+1+1) 0 sh0:=by
  refine { blk:=?_,vals:=?_,txns:=?_,holds:=?_,ne:=⟨by omega,by omega,by omega⟩,ticks:=by decide }
  ·rw [hW];have:=heap_alloc_new (((w.alloc (.map #[] 0)).alloc (.map #[] 0)).alloc (.map #[] 0)) (shO 0 w.heap.size (w.heap.size+1) (w.heap.size+1+1) 0);rwa [World.size_alloc,World.size_alloc,World.size_alloc] at this
  ·rw [hW];exact (((MapAs.made w).fr ((Fr.refl [] _).alloc _) sE).fr ((Fr.refl [] _).alloc _) sE).fr ((Fr.refl [] _).alloc _) sE
  ·rw [hW];have:=MapAs.made (KR:=KU) (ER:=ET) (w.alloc (.map #[] 0));rw [World.size_alloc] at this;exact (this.fr ((Fr.refl [] _).alloc _) sE).fr ((Fr.refl [] _).alloc _) sE
  ·rw [hW];have:=MapAs.made (KR:=KH) (ER:=EG) ((w.alloc (.map #[] 0)).alloc (.map #[] 0));rw [World.size_alloc,World.size_alloc] at this;exact this.fr ((Fr.refl [] _).alloc _) sE
 have hlo:=jSp B p bD bN n 0 (w.heap.size+1+1+1) w.heap.size (w.heap.size+1) (w.heap.size+1+1) R J sh0 W h.none hin ⟨_,_,_,_,hd.new hfr⟩ ⟨by omega,by omega,by omega,by omega,by omega,by omega⟩
  (λW' hW'=>h.jop W' (hfr.trans hW')) h.plain h.first h.byt h.ents (by have:=h.few;omega) h.num
 have HF:Hid (Fr [] w W∧DiskIn w B p bD bN pv d n nD nN):=⟨hfr,hd⟩
 clear h hfr hd hin
 go_enter Tryz.func79,Tryz.ntmps79
 go_wp2_with fail
 have hW2:W=(((w.alloc (.map #[] 0)).alloc (.map #[] 0)).alloc (.map #[] 0)).alloc (.cells #[.pointer none,.map (some w.heap.size),.map (some (w.heap.size+1)),.map (some (w.heap.size+1+1)),.int .u64 0] 139):=hW
 rw [← hW2]
 clear hW hW2
 refine hlo.mono ?_
 clear hlo
 rintro e w1 ⟨gp,lp,s',rfl,hre,hin1,⟨pv1,sv1,rv1,nD1,nN1,hl1⟩,hg1,hgp,hsd1⟩
 have c0:=jA0 hin1.blk 0
 have f0:=jA2 hin1.blk 0
 simp at c0 f0
 obtain ⟨W2,hW2⟩:∃ W2,W2=w1.setCell ⟨w.heap.size+1+1+1,0,none⟩ (.pointer (some ⟨gp,0,none⟩)):=⟨_,rfl⟩
 have hf2:Fr [w.heap.size+1+1+1] w1 W2:=by rw [hW2];exact Fr.set1 sE _ _
 have hgp1:1≤gp:=by omega
 have hb2:W2.heap[w.heap.size+1+1+1]?=some (shO gp w.heap.size (w.heap.size+1) (w.heap.size+1+1) s'.ticks):=by
  have:=jA5 hin1.blk 0 (.pointer (some ⟨gp,0,none⟩))
  simp at this
  rw [hW2];unfold shO;rw [jB8 hgp1];exact this
 have hne1:gp≠w.heap.size+1+1+1:=by omega
 have HS:Hid (J R.1.recs s'∧SL W2 B (w.heap.size+1+1+1) gp w.heap.size (w.heap.size+1) (w.heap.size+1+1) (20*R.1.recs.length) lp p bD bN n s' R.1 R.2.1∧SDFr p [] w W2):=by
  have hin2:=hin1
  rw [Nat.zero_add] at hin2
  refine ⟨hre,⟨{ blk:=hb2,vals:=hin2.vals.fr hf2 (by simp;omega),txns:=hin2.txns.fr hf2 sE,holds:=hin2.holds.fr hf2 sE,ne:=hin2.ne,ticks:=hin2.ticks },⟨pv1,sv1,rv1,nD1,nN1,hl1.apart hf2 (λk hk _=>?_)⟩,{ led:=(hf2.block gp (Array.getElem?_eq_some_iff.1 hg1).1 (by simpa using hne1)).trans hg1,ne:=⟨by omega,by omega,by omega,by omega,by omega,by omega⟩ },hgp1⟩,?_⟩
  ·simp at hk
   subst hk
   exact ⟨hl1.free hin1.blk dN dN dN dN dN,λt e=>by rw [hin1.blk] at e;cases e⟩
  ·have hf0:=HF.out.1
   have hd0:=HF.out.2
   refine ⟨hf2.os.trans (hsd1.os.trans hf0.os),hf2.tape.trans (hsd1.tape.trans hf0.tape),hf2.output.trans (hsd1.output.trans hf0.output),by have:=hf2.size;have:=hsd1.size;omega,λk hk ho _=>?_⟩
   rw [hf2.block k (by have:=hsd1.size;omega) (by simp;omega),hsd1.block k oE (λho'=>ho ((hd0.ownD k).2 (((hd0.new hf0).ownD k).1 ho'))) (by simp;omega),hf0.block k hk sE]
 clear hre hin1 hl1 hg1 hsd1 hf2 hb2
 go_wp2
 rw [← hW2]
 go_ret2
 exact ⟨w.heap.size+1+1+1,gp,w.heap.size,w.heap.size+1,w.heap.size+1+1,lp,s',rfl,HS.out.1,HS.out.2.1,⟨by omega,by omega,by omega,by omega,by omega⟩,HS.out.2.2⟩
structure HFs (B:Nat) (w w':World):Prop where
 below:Below B w w'
 fall:∀ (k:Nat) (a b c d:Int),w.heap[k]?=some (jDj a b c d)→w'.heap[k]?=some (jDj a b c d)
section
variable {w w':World} {B sp gp bV bT bH m m' lp p bD bN n n':Nat} {s s':AShard} {l l':ALog} {d d':ADisk}
theorem SFr.cells (hf:SFr sp bV bT bH lp p w w') (h:SL w B sp gp bV bT bH m lp p bD bN n s l d) {k:Nat} {c:Array Value} {t:TypeId} (hk:w.heap[k]?=some (.cells c t (0,0))) (h1:t≠96) (h2:t≠182) (h3:t≠222) (h4:t≠43) (h5:t≠110) (h6:t≠139):w'.heap[k]?=some (.cells c t (0,0)):=by
 obtain ⟨pv,sv,rv,nD,nN,hl⟩:=h.lg
 refine (hf.block k (Array.getElem?_eq_some_iff.1 hk).1 (hl.free hk h1 h2 h3 h4 h5) ?_).trans hk
 intro hm
 simp at hm
 rcases hm with e | e | e | e
 ·rw [e,h.sh.blk] at hk;cases hk;exact h6 rfl
 ·obtain ⟨es,c2,e2⟩:=h.sh.vals.isMap;rw [e,e2] at hk;cases hk
 ·obtain ⟨es,c2,e2⟩:=h.sh.txns.isMap;rw [e,e2] at hk;cases hk
 ·obtain ⟨es,c2,e2⟩:=h.sh.holds.isMap;rw [e,e2] at hk;cases hk
theorem SFr.hfr (hf:SFr sp bV bT bH lp p w w') (h:SL w B sp gp bV bT bH m lp p bD bN n s l d) (hb:B≤sp∧B≤bV∧B≤bT∧B≤bH):HFs B w w':=by
 obtain ⟨pv,sv,rv,nD,nN,hl⟩:=h.lg
 refine ⟨⟨hf.os,hf.tape,hf.output,hf.size,λk hk=>hf.block k (Nat.lt_of_lt_of_le hk hl.disk.base.2.2.2) (λho=>by have:=hl.ge ho;omega) (by simp;omega)⟩,λk a b c x hk=>hf.cells h hk dN dN dN dN dN dN⟩
theorem SL.knob (h:SL w B sp gp bV bT bH m lp p bD bN n s l d) (a b:Int) (hf:Fr [p] w w') {pv:Value} (hb:w'.heap[p]?=some (dskO bD bN pv a b d.down)) (hb0:w.heap[p]?=some (dskO bD bN pv d.left d.full d.down)) :
  SL w' B sp gp bV bT bH m lp p bD bN n s l (d.knob a b)∧SFr sp bV bT bH lp p w w':=by
 obtain ⟨pv',sv,rv,nD,nN,hl⟩:=h.lg
 have e:pv'=pv:=by have:=hl.disk.blk;rw [hb0] at this;cases this;rfl
 subst e
 obtain ⟨h1,h2⟩:=hl.knob a b hf hb
 exact h.log h2 ⟨_,_,_,_,_,h1⟩
end
theorem HFs.met {B:Nat} {w w':World} (h:HFs B w w') (hB:2≤B) (hm:Met w):Met w':=hm.below h.below oE
end Go.Proofs.YtcalalndmcemiaaGreatDoor
set_option maxRecDepth 100000
set_option maxHeartbeats 16000000
namespace Go.Proofs.YtcalalndmcemiaaGreatDoor
open Go.RowKit Go.Maps Go.Shelf
open Sc
abbrev jW3 (x:ByteArray × ByteArray):List Value:=[.string x.1,.string x.2]
def jEd (l:List (ByteArray × ByteArray)):List Value:=l.flatMap jW3
theorem jLu (l:List (ByteArray × ByteArray)) (x:ByteArray × ByteArray):jEd (l++[x])=jEd l++jW3 x:=by simp [jEd]
theorem Tryz.infoPair:(Tryz.prog.info? 164).map (λi=>(i.zero,i.size,i.bytes))=some (some (.agg #[.string ByteArray.empty,.string ByteArray.empty]),2,32):=by kernel_rfl
theorem Tryz.eqNilP (v:Array Value) (w:World):(binOp .eql 218 (.func (.func 207) #[] v) .nilFunc).run Tryz.prog w=.ok (.bool false) w:=by kernel_rfl
theorem Tryz.lenPair (p:Option Addr) (n c:Nat) (w:World):(Builtin.len_ #[159] 3 #[.slice p n c]).run Tryz.prog w=.ok (.int .i64 n) w:=by simp [Builtin.len_,run_underlying Tryz.underlying159,goInt]
theorem jXe (n:Nat) (hn:1≤n) (sp lg bV bT bH m:Nat) (s:AShard) (w:World) (h:ShIn w sp lg bV bT bH m s) :
  CallsIn Fence.wide n Tryz.prog 118 #[.pointer (some ⟨sp,0,none⟩)] w λe w'=>e=.returned (.func (.func 207) #[] #[.pointer (some ⟨w.heap.size,0,none⟩)])∧w'=w.alloc (.cells #[.map (some bV)] 135):=by
 have c1:=jA0 h.blk 1
 simp at c1
 have hbf:=jOh (n - 1) bV w
 have hf2:Fence.wide.fn 160:=trivial
 refine callsIn_of_wp Tryz.func118 rfl trivial ?_ rfl
 simp only [Tryz.ntmps118,List.size_toArray,List.length_cons,List.length_nil,Nat.reduceAdd,Nat.reduceSub,Array.replicate_succ,Array.replicate_zero,List.push_toArray,List.append_toArray,List.nil_append,List.cons_append]
 gi_wp2_with fail
 refine hbf.mono ?_
 rintro e w1 ⟨rfl,rfl⟩
 gi_wp2
 go_ret
 exact ⟨rfl,rfl⟩
def jCm {L:List (ByteArray × ByteArray)} (pre:List { x:ByteArray × ByteArray // x∈jC3 L }):List (ByteArray × ByteArray):=pre.map (·.1)
theorem jLd {L:List (ByteArray × ByteArray)} (pre:List { x:ByteArray × ByteArray // x∈jC3 L }) (x:{ x:ByteArray × ByteArray // x∈jC3 L }):jCm (pre++[x])=jCm pre++[x.1]:=by simp [jCm]
theorem jR1 (n:Nat) (hn:9≤n) (hp sp lg bV bT bH m:Nat) (s:AShard) (w:World) (o:Array Value) (ho:o[5]?=some (.pointer (some ⟨sp,0,none⟩))) (hh:w.heap[hp]?=some (.cells o 79 (0,0))) (h:ShIn w sp lg bV bT bH m s) (hm:m≤67108864) :
  CallsIn Fence.wide n Tryz.prog 76 #[.pointer (some ⟨hp,0,none⟩),.int .i64 0] w λe w'=>∃ v,e=.returned (.tuple #[v,.bool true])∧w'.ownsRow w.heap.size 164 2 v (jC3 s.vals).length (jEd (jC3 s.vals))∧Below w.heap.size w w':=by
 have hro:Fence.wide.round=none:=rfl
 have h1:1≤n:=by omega
 have hf2:Fence.wide.fn 118:=trivial
 have hf3:Fence.wide.fn 207:=trivial
 obtain ⟨i0,hi,hz0,hz1,hz2⟩:=info_parts Tryz.infoPair
 obtain ⟨W1,hW1⟩:∃ W1,W1=w.alloc (.cells #[.int .i64 0] 3):=⟨_,rfl⟩
 have hB1:Below w.heap.size w W1:=by rw [hW1];exact (Below.refl _ w).alloc (Nat.le_refl _) _
 have hs1:W1.heap.size=w.heap.size+1:=by rw [hW1];simp
 have bL:Boxed W1 w.heap.size 3 (.int .i64 0):=by rw [hW1];exact Boxed.new w _ _
 have hh1:=(hB1.block hp (Array.getElem?_eq_some_iff.1 hh).1).trans hh
 have hin1:=h.fr (Fr.of_below hB1 []) sE sE sE sE
 have c5:W1.cell? ⟨hp,5,none⟩=some (.pointer (some ⟨sp,0,none⟩)):=(jA0 hh1 5).trans ho
 have hal:=jXe (n - 1) oE sp lg bV bT bH m s W1 hin1
 have HV:Hid (MapAs KS ES W1 bV m s.vals):=hin1.vals
 have hnf:=Tryz.eqNilP
 clear h hin1 hh hh1
 rw [hW1] at c5
 refine callsIn_of_wp_marks Tryz.func76 rfl trivial ?_ hro
 simp only [Tryz.ntmps76,List.size_toArray,List.length_cons,List.length_nil,Nat.reduceAdd,Nat.reduceSub,Array.replicate_succ,Array.replicate_zero,List.push_toArray,List.append_toArray,List.nil_append,List.cons_append]
 gi_wp2_with (gi_at_call 118;rw [← hW1];refine hal.mono ?_;rintro e w2 ⟨rfl,rfl⟩)
 rw [← hW1]
 have hlenP:=Tryz.lenPair
 obtain ⟨W2,hW2⟩:∃ W2,W2=W1.alloc (.cells #[.map (some bV)] 135):=⟨_,rfl⟩
 obtain ⟨W0,hW0⟩:∃ W0,W0=W2.alloc (.cells #[.slice none 0 0] 159):=⟨_,rfl⟩
 rw [← hW2,← hW0]
 have hs2:W2.heap.size=w.heap.size+2:=by rw [hW2,World.size_alloc,hs1]
 have hsz:W0.heap.size=w.heap.size+3:=by rw [hW0,World.size_alloc,hs2]
 have bA:Boxed W0 (w.heap.size+1) 135 (.map (some bV)):=by
  rw [hW0]
  have:=Boxed.new W1 135 (.map (some bV))
  rw [hs1,← hW2] at this
  exact this.alloc _
 have bO1:Boxed W0 (w.heap.size+1+1) 159 (.slice none 0 0):=by
  have:=Boxed.new W2 159 (.slice none 0 0)
  rw [hs2,← hW0] at this
  exact this
 have bL0:Boxed W0 w.heap.size 3 (.int .i64 0):=by rw [hW0,hW2];exact (bL.alloc _).alloc _
 have hB0:Below w.heap.size w W0:=by rw [hW0,hW2];exact (hB1.alloc oE _).alloc (by simp;omega) _
 have hL0:MapAs KS ES W0 bV m s.vals:=by rw [hW0,hW2];exact (HV.out.fr ((Fr.refl [] _).alloc _) sE).fr ((Fr.refl [] _).alloc _) sE
 have hvl:s.vals.length≤67108864:=by have h1:=HV.out.len;omega
 clear hW0 hW2 hW1 bL hal c5 hB1 HV
 refine wpIn_rangeFunc_ownH hro h1 (gf:=207) (lb:=#[.pointer (some ⟨w.heap.size+1,0,none⟩)]) rfl hf3 (enters_of Tryz.func207 (by kernel_rfl) rfl)
  (jIv (n - 1) oE (w.heap.size+1) bV m s.vals (λx=>x∈jC3 s.vals) (λx hx=>hx) hm W0 oE bA.cell hL0 (KpB 9 9 w.heap.size (w.heap.size+1+1)) (λk A=>¬ jTk (w.heap.size+1+1) A k)
   (λW k A hW _ hA hr=>by
    obtain ⟨v,e1,e2⟩:=hr
    have h1:A.cell? ⟨w.heap.size+1+1,0,none⟩=W0.cell? ⟨w.heap.size+1+1,0,none⟩:=(hA.cell (p:=⟨w.heap.size+1+1,0,none⟩) (by have:=hW.size;show w.heap.size+1+1<_;omega)).trans (hW.cell (p:=⟨w.heap.size+1+1,0,none⟩) (by show w.heap.size+1+1<_;omega))
    rw [h1,bO1.cell] at e1
    cases e1
    cases e2)
   (λk A B c t ht hk hA hn=>⟨hk.same k c t ht hA hn,λhr=>hn (hk.stay k (Array.getElem?_eq_some_iff.1 hA).1 hr)⟩))
  (λh k=>h.trans k) (KpB.book oE oE) (Below.refl _ _) (λ_=>rfl)
  (λpre W=>((∃ v,Boxed W (w.heap.size+1+1) 159 v∧W.ownsRow w.heap.size 164 2 v (jCm pre).length (jEd (jCm pre))∧True)∧Boxed W w.heap.size 3 (.int .i64 0))∧Below w.heap.size w W)
  (λ_ _ _=>False)
  (OwnFrom.and (OwnFrom.and (Own.from (holdsRow_own w.heap.size (w.heap.size+1+1) 159 164 2 (λpre:List { x:ByteArray × ByteArray // x∈jC3 s.vals }=>(jCm pre).length) (λpre=>jEd (jCm pre)) (λ_ _=>True)) _) (Own.from (boxed_own _ _ _) _)) (ownFrom_below (Nat.le_refl _) oE))
  (λ_ _ _ _ _ hs _ _=>hs)
  ⟨⟨⟨_,bO1,World.ownsRow_nil _ _ _ _,trivial⟩,bL0⟩,hB0⟩
  (λx a' W=>a'={ tmps:=#[.pointer (some ⟨hp,0,none⟩),.int .i64 0,undef,.pointer (some ⟨w.heap.size,0,none⟩),.slice none 0 0,.bool false,.func (.func 207) #[] #[.pointer (some ⟨w.heap.size+1,0,none⟩)],.pointer (some ⟨w.heap.size+1+1,0,none⟩),.string x.1.1,.string x.1.2,.pointer (some ⟨hp,0,none⟩),.pointer (some ⟨hp,0,none⟩),.pointer (some ⟨hp,5,none⟩),.pointer (some ⟨sp,0,none⟩),.bool false,.pointer (some ⟨hp,0,none⟩),.pointer (some ⟨hp,0,none⟩),.pointer (some ⟨hp,5,none⟩),.pointer (some ⟨sp,0,none⟩),.func (.func 207) #[] #[.pointer (some ⟨w.heap.size+1,0,none⟩)],.func (.func 207) #[] #[.pointer (some ⟨w.heap.size+1,0,none⟩)],.bool false,.func (.func 207) #[] #[.pointer (some ⟨w.heap.size+1,0,none⟩)],.string x.1.1,.string x.1.2,undef,undef,undef,undef,undef,undef,undef,undef,undef,undef,undef],defers:=[] })
  (λx a' _ X Y row hs _ _=>hs)
  ?assign ?body ?done ?stop
 case assign =>
  have hsem:=@Oper.semAt_some
  rintro l pre x W K ⟨⟨⟨v,hv,hrow,_⟩,hlb⟩,hB1⟩ hK
  gi_wp2
  exact hK _ _ (KeepsFrom.refl _ _) (KpB.refl _) ⟨⟨⟨v,hv,hrow,trivial⟩,hlb⟩,hB1⟩ rfl
 case body =>
  have hsem:=@Oper.semAt_some
  rintro l pre x a' W hl2 _ ⟨⟨⟨v,hv,hrow,_⟩,hlb⟩,hB⟩ rfl hlt
  have hc:=hv.cell
  have hpl:(jCm pre).length=pre.length:=by unfold jCm;rw [List.length_map]
  have HW:Hid (jCm (pre++[x])=jCm pre++[x.1]):=jLd pre x
  have hpb:(jCm pre).length<67108864:=by omega
  clear hpl
  obtain ⟨q,hq⟩:∃ q,q=(jCm pre).length:=⟨_,rfl⟩
  have HQ:Hid (q=(jCm pre).length):=hq
  rw [← hq] at hrow hpb
  clear hq
  have iq:¬ ((q:Int)+1=0):=by omega
  gi_wp2_with (gi_at_builtin;refine jEv _ rfl _ _ 159 rfl w.heap.size 164 i0 _ 2 32 Tryz.underlying159 hi hz0 hz1 hz2 rfl (by decide) _ _ _ rfl (hrow.alloc _) ⟨W.heap.size,0,none⟩ 1 1 [.string x.1.1,.string x.1.2] rfl rfl (jBf _ #[.string x.1.1,.string x.1.2] _) (by intro u hu;simp at hu;rcases hu with rfl | rfl <;> rfl) (by unfold maxLen;omega) (by omega) (by have:=hB.size;simp;omega) ?_;intro v' w1 hown' hgrow hat;obtain ⟨g',cap',rfl⟩:=ownsRow_succ hown';obtain ⟨hv1,hv2,hr2,hk2,hb2⟩:=hv.appended (by decide) hrow hB.size (by omega) hown' hgrow;have hc1:=hv1.cell;have hf1:=hv1.frozen;have hc2:=hv2.cell;have hl1:Boxed (w1.setCell ⟨w.heap.size+1+1,0,none⟩ (.slice (some ⟨g',0,none⟩) (q+1) cap')) w.heap.size 3 (.int .i64 0):=(Below.heap_setCell _ _ _ w.heap.size (by show w.heap.size≠w.heap.size+1+1;omega)).trans ((hgrow.block w.heap.size (by have:=hlb.lt;simp;omega) (hlb.not_row (by decide) hrow)).trans ((Below.heap_alloc _ _ _ hlb.lt).trans hlb));have hl1c:=hl1.cell;have HKP:Hid (KpB 9 9 w.heap.size (w.heap.size+1+1) W (w1.setCell ⟨w.heap.size+1+1,0,none⟩ (.slice (some ⟨g',0,none⟩) (q+1) cap'))∧KeepsOthers W (w1.setCell ⟨w.heap.size+1+1,0,none⟩ (.slice (some ⟨g',0,none⟩) (q+1) cap'))):=⟨KpB.appended hv (by decide) (by decide) hgrow hat hb2 hv2,hk2⟩;clear hat)
  refine ⟨HKP.out.2.from _,HKP.out.1,⟨⟨_,hv2,?_,trivial⟩,hl1⟩,hB.trans hb2⟩
  rw [HW.out,jLu,List.length_append,← HQ.out]
  exact hr2
 case done =>
  rintro D ys W hD hys ⟨⟨⟨v,hv,hrow,_⟩,hlb⟩,hB⟩ hK
  have hc:=hv.cell
  have HE:Hid (jCm ys=jC3 s.vals):=by show _=_;unfold jCm;exact hys
  gi_wp2
  refine ⟨by simp,.inl ⟨_,_,rfl,run_takeDeferred hK,?_⟩⟩
  rw [HE.out] at hrow
  refine ⟨.tuple #[v,.bool true],?_,v,rfl,ownsRow_putObj hrow _ hK rfl,hB.trans (belowK_b (w:=w) (Nat.le_refl _) W D _ _ oE hK rfl rfl)⟩
  simp only [results,Tryz.f76]
  simp [go_sem]
 case stop =>
  rintro D c pre W _ _ h _
  exact h.elim
end Go.Proofs.YtcalalndmcemiaaGreatDoor
set_option maxRecDepth 100000
set_option maxHeartbeats 16000000
namespace Go.Proofs.YtcalalndmcemiaaGreatDoor
open Go.RowKit Go.Maps
open Sc
theorem jFd {α:Type} {f:α→List Value} {k:Nat} (hk:∀ x,(f x).length=k):∀ (l:List α) (i:Nat) (x:α),l[i]?=some x→∀ j,j<k→(l.flatMap f)[i*k+j]?=(f x)[j]?
 | [],i,x,h,_,_=>by simp at h
 | y :: l,0,x,h,j,hj=>by
  simp at h
  subst h
  rw [List.flatMap_cons,Nat.zero_mul,Nat.zero_add,List.getElem?_append_left (by rw [hk];exact hj)]
 | y :: l,i+1,x,h,j,hj=>by
  simp at h
  have e:(i+1)*k+j=k+(i*k+j):=by rw [Nat.add_mul,Nat.one_mul];omega
  rw [List.flatMap_cons,e,List.getElem?_append_right (by rw [hk];omega),hk,Nat.add_sub_cancel_left]
  exact jFd hk l i x h j hj
theorem jB2 {w:World} {base:Nat} {e:TypeId} {size n:Nat} {v:Value} {xs:List Value} (h:w.ownsRow base e size v n xs) {g c m:Nat} (hv:v=.slice (some ⟨g,0,none⟩) m c) {j:Nat} {u:Value} (hj:xs[j]?=some u):w.cell? ⟨g,j,none⟩=some u:=by
 have:=h.cells (g:=g) (by rw [hv];rfl) j u hj
 have e:(⟨g,0,none⟩:Addr).add j=⟨g,j,none⟩:=by unfold Addr.add;split <;> simp_all
 rw [e] at this
 exact this
structure Bs where
 b:Nat
 ok:Nat→Prop:=λ_=>True
abbrev B0 [Inhabited Bs]:Nat:=(default:Bs).b
def jUr (w:World) (x:Value) (m:Nat) (news:List Value):Prop :=
 (∃ ad c,x=.slice (some ad) m c∧∀ j u,news[j]?=some u→w.cell? (ad.add j)=some u)∨(x=.slice none 0 0∧m=0∧news=[])
theorem jBr {P:Program} {w:World} {ops:Array Oper} {rest:List Oper} {o:Oper} {a:Act} {Q:Exit→Act→World→Prop} (hgd:o.guard=none) (s x:Operand) (t:TypeId)
  (ho:o.op=.call { callee:=.builtin .append,args:=#[s,x],argTypes:=#[t,t] })
  (base:Nat) (e:TypeId) (i:TypeInfo) (z:Value) (size bytes:Nat) (ht:P.underlying t=some (.slice e)) (hi:P.info? e=some i) (hz:i.zero=some z)
  (hsize:i.size=size) (hby:i.bytes=bytes) (hzs:z.cells.size=size) (hsz:0<size)
  (v:Value) (n:Nat) (xs:List Value) (hs:a.eval s=v) (hown:w.ownsRow base e size v n xs)
  (m:Nat) (news:List Value) (hx:jUr w (a.eval x) m news) (hl:news.length=m*size) (h1:∀ u∈news,u.oneCell'=true)
  (h63:n+m≤maxLen) (hbytes:(n+m)*bytes≤140737488355328) (hbase:base≤w.heap.size)
  (h:∀ v' w',w'.ownsRow base e size v' (n+m) (xs++news)→w.grownBy w' v.ownBlock→(v'.ownBlock=v.ownBlock∨v'.ownBlock=some w.heap.size)→wpList P ops Q rest (a.put o.dst v') w') :
  wpList P ops Q (o :: rest) a w:=by
 rcases hx with ⟨ad,c,hx,hnews⟩ | ⟨hx,rfl,rfl⟩
 ·exact wpList_append_own_at (P:=P) (w:=w) hgd s x t ho base e i z size bytes ht hi hz hsize hby hzs hsz v n xs hs hown ad m c news hx hl hnews h1 h63 hbytes hbase (λv' w' a b _ c=>h v' w' a b c)
 ·exact wpList_append_own_none hgd s x t ho base e i size ht hi v n xs hs hown hx (h v w (by simpa using hown) ⟨rfl,rfl,rfl,Nat.le_refl _,λ_ _ _=>rfl⟩ (.inl rfl))
theorem jAl (s a b c d e f g i j z:Nat):txV ⟨s,[a,b,c,d,e,f,g,i,j],z⟩=.agg #[.int .i64 (s:Int),.int .u8 (a:Int),.int .u8 (b:Int),.int .u8 (c:Int),.int .u8 (d:Int),.int .u8 (e:Int),.int .u8 (f:Int),.int .u8 (g:Int),.int .u8 (i:Int),.int .u8 (j:Int),.int .u64 (z:Int),.nilIface]:=rfl
theorem jGw (t:ATx) (ht:t.Ok) (k:Nat) (hk:k<9) (w:World) :
  Calls Tryz.prog 279 #[txV t,.int .i64 (k:Int)] w λe w'=>e=.returned (.int .u8 ((t.parts.getD k 0:Nat):Int))∧Fr [] w w':=by
 obtain ⟨s,ps,z⟩:=t
 obtain ⟨p0,p1,p2,p3,p4,p5,p6,p7,p8,rfl⟩:=nine ht.1
 rw [jAl]
 rcases jMs hk with rfl | rfl | rfl | rfl | rfl | rfl | rfl | rfl | rfl
 all_goals
  (go_enter Tryz.func279,Tryz.ntmps279
   go_wp2
   go_ret
   exact ⟨rfl,(Fr.refl [] w).alloc _⟩)
theorem jEt (t:ATx) (ht:t.Ok) (k p:Nat) (hk:k<9) (w:World) :
  Calls Tryz.prog 280 #[txV t,.int .i64 (k:Int),.int .u8 (p:Int)] w λe w'=>e=.returned (txV { t with parts:=t.parts.set k p })∧Fr [] w w':=by
 obtain ⟨s,ps,z⟩:=t
 obtain ⟨p0,p1,p2,p3,p4,p5,p6,p7,p8,rfl⟩:=nine ht.1
 rw [jAl]
 rcases jMs hk with rfl | rfl | rfl | rfl | rfl | rfl | rfl | rfl | rfl
 all_goals
  (simp only [List.set_cons_zero,List.set_cons_succ,jAl]
   go_enter Tryz.func280,Tryz.ntmps280
   go_wp2
   exact bodyPost_ret (by simp [results,Tryz.results280,go_sem]) rfl ⟨rfl,((Fr.refl [] w).alloc _).alloc _⟩)
theorem jE8 (v:Nat) (hv:v=2∨v=3∨v=4) (w:World) :
  Calls Tryz.prog 278 #[.int .i64 (v:Int)] w λe w'=>e=.returned (.int .u8 (v:Int))∧w'=w:=by
 rcases hv with rfl | rfl | rfl
 all_goals
  (go_enter Tryz.func278,Tryz.ntmps278
   go_wp2
   go_ret
   exact ⟨rfl,rfl⟩)
def jHf (mf:Nat) (q:Nat→Bool):Prop:=∀ (p:Nat) (w:World),p<256→Calls Tryz.prog mf #[.int .u8 (p:Int)] w λe w'=>e=.returned (.bool (q p))∧w'=w
def isAw (p:Nat):Bool:=p == 1
def jDf (p:Nat):Bool:=p == 2
def mayP (p:Nat):Bool:=p == 1 || p == 2
def hasY (p:Nat):Bool:=p == 2 || p == 5
theorem jRy:jHf 68 isAw:=by
 intro p w hp
 by_cases h:p=1
 ·subst h
  go_enter Tryz.func68,Tryz.ntmps68
  go_wp2
  go_ret
  exact ⟨rfl,rfl⟩
 ·have i1:¬ (p:Int)=1:=by omega
  have b1:((p:Int) == 1)=false:=beq_eq_false_iff_ne.2 i1
  have e1:isAw p=false:=by unfold isAw;simpa using h
  rw [e1]
  go_enter Tryz.func68,Tryz.ntmps68
  go_wp2
  go_ret
  exact ⟨by simp,rfl⟩
theorem jMd:jHf 183 jDf:=by
 intro p w hp
 by_cases h:p=2
 ·subst h
  go_enter Tryz.func183,Tryz.ntmps183
  go_wp2
  go_ret
  exact ⟨rfl,rfl⟩
 ·have i1:¬ (p:Int)=2:=by omega
  have b1:((p:Int) == 2)=false:=beq_eq_false_iff_ne.2 i1
  have e1:jDf p=false:=by unfold jDf;simpa using h
  rw [e1]
  go_enter Tryz.func183,Tryz.ntmps183
  go_wp2
  go_ret
  exact ⟨by simp,rfl⟩
theorem jX6:jHf 230 mayP:=by
 intro p w hp
 by_cases h:p=1
 ·subst h
  go_enter Tryz.func230,Tryz.ntmps230
  go_wp2
  go_ret
  exact ⟨rfl,rfl⟩
 ·have i1:¬ (p:Int)=1:=by omega
  have b1:((p:Int) == 1)=false:=beq_eq_false_iff_ne.2 i1
  by_cases h2:p=2
  ·subst h2
   go_enter Tryz.func230,Tryz.ntmps230
   go_wp2
   go_ret
   exact ⟨rfl,rfl⟩
  ·have i2:¬ (p:Int)=2:=by omega
   have b2:((p:Int) == 2)=false:=beq_eq_false_iff_ne.2 i2
   have e1:mayP p=false:=by unfold mayP;simp [h,h2]
   rw [e1]
   go_enter Tryz.func230,Tryz.ntmps230
   go_wp2
   go_ret
   exact ⟨by simp,rfl⟩
theorem jRk:jHf 237 hasY:=by
 intro p w hp
 by_cases h:p=2
 ·subst h
  go_enter Tryz.func237,Tryz.ntmps237
  go_wp2
  go_ret
  exact ⟨rfl,rfl⟩
 ·have i1:¬ (p:Int)=2:=by omega
  have b1:((p:Int) == 2)=false:=beq_eq_false_iff_ne.2 i1
  by_cases h2:p=5
  ·subst h2
   go_enter Tryz.func237,Tryz.ntmps237
   go_wp2
   go_ret
   exact ⟨rfl,rfl⟩
  ·have i2:¬ (p:Int)=5:=by omega
   have b2:((p:Int) == 5)=false:=beq_eq_false_iff_ne.2 i2
   have e1:hasY p=false:=by unfold hasY;simp [h,h2]
   rw [e1]
   go_enter Tryz.func237,Tryz.ntmps237
   go_wp2
   go_ret
   exact ⟨by simp,rfl⟩
end Go.Proofs.YtcalalndmcemiaaGreatDoor
