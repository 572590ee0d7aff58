import Derived.Test.YtcalalndmcemiaaGreatDoorC43
set_option maxRecDepth 100000
set_option maxHeartbeats 16000000
namespace Go.Proofs.YtcalalndmcemiaaGreatDoor
open Go.RowKit Go.Maps Go.Shelf
open Sc
section
variable {w0 w:World} {B np n K:Nat} {hv:Value} {hps:List Nat} {A:ANet} {x:ADeal} {j i sq:Nat} {s s':AShard} {out:List Msg}
theorem jJc (a b c:Int) (h:NetB w0 w B np n K hv hps A) (hn:n=A.ss.length) (hnl:n≤90) (hn1:1≤n) (ha:InI a) (hb:InI b) (hc:InI c) (hj:j=A.ds.length - 1 - pkC a A.ds.length) (hx:A.ds[j]?=some x) (hi:i=pkC b n) (hdl:A.ds.length≤1000000) (hid:x.id<1000000000) (hB:2≤B) (hmet:Met w0) (hpow:Pows w0) (hK:K≤290000) (hask:x.asked=false) (hlen:x.seq.length=n+1) (hs:A.ss[i]?=some (s,out)) (hsq:x.seq[i+1]?=some sq) {val:ByteArray} {ok:Bool} {er:Nat} (hop:s.get x.id (sq:Int) (keyB (pkC c 5))=(s',val,ok,er)) (her:er≠0) :
  Calls Tryz.prog 56 #[ptrV np,stpV 2 a b c] w λe w'=>e=.returned (.bool true)∧NetB w0 w' B np n (K+1) hv hps { A with ss:=A.ss.set i (s',out),ds:=A.ds.set j { x with lost:=true } }:=by
 have hkz0:=jEm (pkC c 5) (jCn c 5 dN)
 obtain ⟨dv,bv,ov,fl,ps,hL⟩:=h.l
 obtain ⟨gh,hcap,rfl,-⟩:=hL.hvS hn
 obtain ⟨gd,dc,p,rfl,hp,-,-⟩:=hL.law.dealAt hx
 obtain ⟨pp,sv,wv⟩:=p
 obtain ⟨D,hD⟩:∃ D,D=A.ds.length:=⟨_,rfl⟩
 rw [← hD] at hL hj hdl
 have hjl:j<D:=by rw [hD];exact (List.getElem?_eq_some_iff.1 hx).1
 obtain ⟨q,hq⟩:∃ q,q=pkC a D:=⟨_,rfl⟩
 obtain ⟨cc,hcc⟩:∃ cc,cc=pkC c 5:=⟨_,rfl⟩
 have hpa:=λw'=>jBk a D w' ha.1 (by have:=ha.2;omega) oE oE
 have hpb:=λw'=>jBk b n w' hb.1 (by have:=hb.2;omega) oE oE
 have hpc:=λw'=>jBk c 5 w' hc.1 (by have:=hc.2;omega) oE oE
 rw [← hq] at hpa
 rw [← hi] at hpb
 rw [← hcc] at hpc
 have hqD:q<D:=by rw [hq];exact jCn _ _ oE
 have hin:i<n:=by rw [hi];exact jCn _ _ oE
 have hc5:cc<5:=by rw [hcc];exact jCn _ _ oE
 have hjq:j=D - 1 - q:=by rw [hj,hq]
 obtain ⟨i1,hi1⟩:∃ i1,i1=i+1:=⟨_,rfl⟩
 obtain ⟨W,hW⟩:∃ W,W=w.alloc (stpO 2 a b c):=⟨_,rfl⟩
 have hfW:Fr [] w W:=by rw [hW];exact (Fr.refl [] w).alloc _
 have hsb:W.heap[w.heap.size]?=some (stpO 2 a b c):=by rw [hW];exact heap_alloc_new w _
 have hL1:=hL.new hfW
 obtain ⟨gd1,dc1,p1,ed1,hp1,cgd,-⟩:=hL1.law.dealAt hx
 rw [← hD] at ed1
 cases ed1
 rw [hp] at hp1
 cases hp1
 have n1:=jA0 hL1.law.net 1
 have s0:=jA0 hsb 0
 have s1:=jA0 hsb 1
 simp at n1 s0 s1 cgd
 have HPA:=jA1 hpa
 have HPB:=jA1 hpb
 have HPC:=jA1 hpc
 have HL1:=jA1 (And.intro hL1 hsb)
 have H0:=jA1 (And.intro hn (And.intro hD (And.intro hx (And.intro hp (And.intro hmet (And.intro hpow (And.intro hcc hi1)))))))
 have D0:¬ (D:Int)=0:=by omega
 have D1:IntKind.i64.wrap ((D:Int) - 1)=(D:Int) - 1:=by rw [IntKind.wrap_i64];omega
 have D2:IntKind.i64.wrap ((D:Int) - 1 - (q:Int))=(j:Int):=by rw [IntKind.wrap_i64];omega
 have j0:(0:Int)≤(j:Int):=by omega
 have j1:(j:Int)<(D:Int):=by omega
 have hwi:IntKind.i64.wrap (1+(i:Int))=(i1:Int):=by rw [IntKind.wrap_i64];omega
 have hi1n:1≤i1∧i1≤n:=by omega
 rw [hW] at n1 s0 s1 cgd
 rw [← hcc] at hop hkz0
 rw [← hi1] at hsq
 have HQ:=jA1 (And.intro hsq hlen)
 have HA:=jA1 hask
 have HNs:Hid (n=(A.ss.set i (s',out)).length):=by rw [List.length_set];exact hn
 clear hask
 have HO:=jA1 (And.intro hs (And.intro hop hkz0))
 clear hs hop hkz0 hsq hlen
 clear h hL hn hD hx hp hj hi hq hcc hpa hpb hpc hfW hsb hL1 hmet hpow hqD hjq ha hb hc hi1 hdl hjl
 go_enter Tryz.func56,Tryz.ntmps56
 go_wp2_with fail
 rw [← hW]
 rw [← hW] at n1 s0 s1 cgd
 clear hW s0
 go_region_held3 (λw'=>w'.cell? ⟨np,1,none⟩=some (.slice (some ⟨gd,0,none⟩) D dc)∧w'.cell? ⟨w.heap.size,1,none⟩=some (.int .i64 a)∧w'.cell? ⟨gd,j,none⟩=some (.pointer (some ⟨pp,0,none⟩))) (simp [*])
  (first | (go_at_call 10;refine (HPA.out _).mono ?_;rintro e w3 ⟨rfl,rfl⟩))
 have HL2:=jA1 (And.intro (HL1.out.1.new (Fr.refl [] W).drew) (show W.drew.heap[w.heap.size]?=some (stpO 2 a b c) from HL1.out.2))
 generalize W.drew=W2 at HL2 ⊢
 clear n1 s1 cgd D0 D1 D2 HPA HL1
 have n4:=jA0 HL2.out.1.law.net 4
 have s2:=jA0 HL2.out.2 2
 simp at n4 s2
 go_wp2_with fail
 go_region_held3 (λw'=>w'.cell? ⟨w.heap.size,2,none⟩=some (.int .i64 b)∧w'.cell? ⟨np,4,none⟩=some (.int .i64 (n:Int))) (simp [*])
  (first | (go_at_call 10;refine (HPB.out _).mono ?_;rintro e w3 ⟨rfl,rfl⟩))
 have HL3:=jA1 (And.intro (HL2.out.1.new (Fr.refl [] W2).drew) (show W2.drew.heap[w.heap.size]?=some (stpO 2 a b c) from HL2.out.2))
 generalize W2.drew=W3 at HL3 ⊢
 clear n4 s2 HPB HL2
 have s3:=jA0 HL3.out.2 3
 simp at s3
 go_wp2_with fail
 refine (HPC.out _).mono ?_
 rintro e w4 ⟨rfl,e4⟩
 rw [e4]
 clear e4 s3 HPC
 go_wp2_with fail
 refine (jBi cc oE W3).mono ?_
 rintro e w5 ⟨rfl,hf5⟩
 have hs5:w5.heap[w.heap.size]?=some (stpO 2 a b c):=(hf5.block _ (Array.getElem?_eq_some_iff.1 HL3.out.2).1 sE).trans HL3.out.2
 have HL5:=jA1 (And.intro (HL3.out.1.new hf5) hs5)
 clear hf5 hs5 HL3
 have hkey:(⟨#[107]⟩:ByteArray)++str (dgs cc)=keyB cc:=by unfold keyB;rw [show (107 :: dgs cc)=[107]++dgs cc from rfl,jFi];rfl
 have hz1:(str (dgs cc)).size=1:=by rw [jB1,jD9 oE];rfl
 have hz0:(⟨#[107]⟩:ByteArray).size=1:=rfl
 have hks:¬ 9223372036854775807<1+(str (dgs cc)).size:=by omega
 have s0:=jA0 HL5.out.2 0
 have hdl:=HL5.out.1.law.each j _ x H0.out.2.2.2.1 H0.out.2.2.1
 have d3:=jA0 hdl.blk 3
 simp at s0 d3
 rw [HA.out] at d3
 clear hdl
 go_wp2_with fail
 clear s0 d3 hks hz1 hz0
 obtain ⟨hq,hhq⟩:∃ y,hps[i1]?=some y:=⟨_,List.getElem?_eq_getElem (by have:=HL5.out.1.b.ln;have:=H0.out.1;omega)⟩
 obtain ⟨g6,c6,eg6,hcl⟩:=HL5.out.1.hvS H0.out.1
 cases eg6
 have chi:=hcl i1 hq hhq
 have n0:=jA0 HL5.out.1.law.net 0
 have hdl:=HL5.out.1.law.each j _ x H0.out.2.2.2.1 H0.out.2.2.1
 have d0:=jA0 hdl.blk 0
 have d1:=jA0 hdl.blk 1
 obtain ⟨gq,cq,esv,cgq⟩:=jDr hdl.seq HQ.out.1
 rw [HQ.out.2] at esv
 simp only [] at esv
 subst esv
 simp at chi n0 d0 d1 cgq
 have ii0:(0:Int)≤(i1:Int):=by omega
 have ii1:(i1:Int)<(n:Int)+1:=by omega
 have hgt:∀ w',Fr [] w5 w'→Calls Tryz.prog 13 #[.pointer (some ⟨hq,0,none⟩),.int .u64 (x.id:Int),.int .i64 (sq:Int),.string (keyB cc)] w' λe w''=>e=.returned (.tuple #[.string val,.bool ok,.int .i64 (er:Int)])∧CallP w0 w5 w'' B np n (K+1) (.slice (some ⟨gh,0,none⟩) (n+1) hcap) (.slice (some ⟨gd,0,none⟩) D dc) bv ov fl hps ps { A with ss:=A.ss.set i (s',out) }:=λw' hw'=>by
  have hm:=HL5.out.1.new hw'
  obtain ⟨Ls,hNd⟩:=hm.nds
  obtain ⟨hmt,-⟩:=hm.met hB H0.out.2.2.2.2.1 H0.out.2.2.2.2.2.1
  have hg:=kGet (t:=x.id) (i:=i) (sq:Int) (keyB cc) hNd HO.out.1 (by rw [← H0.out.2.2.2.2.2.2.2];exact hhq) hB hmt oE (by unfold maxLen;have:=HO.out.2.2;omega) oE
  rw [HO.out.2.1] at hg
  refine hg.mono ?_
  rintro e w'' ⟨rfl,hp⟩
  exact ⟨rfl,(hm.call (A':={ A with ss:=A.ss.set i (s',out) }) hp rfl rfl rfl).of hw'⟩
 have HG:=jA1 hgt
 have HH:=jA1 hhq
 have her':¬ (er:Int)=0:=by omega
 clear hgt hhq hdl hcl
 go_region_held3 (λw'=>w'.cell? ⟨np,0,none⟩=some (.slice (some ⟨gh,0,none⟩) (n+1) hcap)∧w'.cell? ⟨gh,i1,none⟩=some (.pointer (some ⟨hq,0,none⟩))∧w'.cell? ⟨pp,0,none⟩=some (.int .u64 (x.id:Int))∧w'.cell? ⟨pp,1,none⟩=some (.slice (some ⟨gq,0,none⟩) (n+1) cq)∧w'.cell? ⟨gq,i1,none⟩=some (.int .i64 (sq:Int))) (simp [*])
  (first | (go_at_call 13;refine (HG.out _ (by first | exact jAk (Fr.refl [] w5) _ | exact (Fr.refl [] w5).drew | exact Fr.refl [] w5)).mono ?_;rintro e w7 ⟨rfl,hP7⟩;(obtain ⟨g7,c7,eg7,hcl7⟩:=hP7.net.hvS HNs.out);cases eg7;have chi7:=hcl7 i1 hq HH.out;have n07:=jA0 hP7.net.law.net 0;have hdl7:=hP7.net.law.each j _ x H0.out.2.2.2.1 H0.out.2.2.1;have d07:=jA0 hdl7.blk 0;have d17:=jA0 hdl7.blk 1;(obtain ⟨gq7,cq7,esv7,cgq7⟩:=jDr hdl7.seq HQ.out.1);rw [HQ.out.2] at esv7;cases esv7;simp at chi7 n07 d07 d17 cgq7;have H7:=jA1 hP7.net;clear hP7 hdl7 hcl7))
 clear chi n0 d0 d1 cgq chi7 n07 d07 d17 cgq7
 have hdl:=H7.out.law.each j _ x H0.out.2.2.2.1 H0.out.2.2.1
 have d4:=jA0 hdl.blk 4
 have f4:=jA2 hdl.blk 4
 simp at d4
 obtain ⟨hL8,hR8⟩:=H7.out.law.turnD (w':=w7.setCell ⟨pp,4,none⟩ (.bool true)) (x':={ x with lost:=true }) H0.out.2.2.2.1 H0.out.2.2.1 (Fr.set1 sE _ _) (by have:=jA5 hdl.blk 4 (.bool true);simp at this;exact this) rfl rfl
 obtain ⟨Ls7,hN7⟩:=H7.out.nds
 have H8:=jA1 (show NetB w0 (w7.setCell ⟨pp,4,none⟩ (.bool true)) B np n (K+1) (.slice (some ⟨gh,0,none⟩) (n+1) hcap) hps { A with ss:=A.ss.set i (s',out),ds:=A.ds.set j { x with lost:=true } } from ⟨_,bv,ov,fl,_,Ls7,hL8,hR8.nds hN7,H7.out.bag,H7.out.lgf.trans (hR8.lg H7.out.law.low.2)⟩)
 clear hL8 hR8 hN7 hdl
 go_wp2_with fail
 go_ret
 exact ⟨rfl,H8.out⟩
end
section
variable {w0 w:World} {B np n K:Nat} {hv:Value} {hps:List Nat} {A:ANet} {x:ADeal} {j i sq:Nat} {s s':AShard} {out:List Msg}
theorem jIq (a b c:Int) (h:NetB w0 w B np n K hv hps A) (hn:n=A.ss.length) (hnl:n≤90) (hn1:1≤n) (ha:InI a) (hb:InI b) (hc:InI c) (hj:j=A.ds.length - 1 - pkC a A.ds.length) (hx:A.ds[j]?=some x) (hi:i=pkC b n) (hdl:A.ds.length≤1000000) (hid:x.id<1000000000) (hB:2≤B) (hmet:Met w0) (hpow:Pows w0) (hK:K≤290000) (hlen:x.seq.length=n+1) (hlost:x.lost=false) (hw0:worked x.seq n≠[]) (hask:x.asked=false) (hwhat:x.what=0) (hcE:A.c.commE x.id (nzs (worked x.seq n))=0) :
  Calls Tryz.prog 56 #[ptrV np,stpV 5 a b c] w λe w'=>e=.returned (.bool true)∧NetB w0 w' B np n (K+1) hv hps { A with c:=A.c.commS x.id (nzs (worked x.seq n)),ds:=A.ds.set j { x with asked:=true } }:=by
 obtain ⟨dv,bv,ov,fl,ps,hL⟩:=h.l
 obtain ⟨gh,hcap,rfl,-⟩:=hL.hvS hn
 obtain ⟨gd,dc,p,rfl,hp,-,-⟩:=hL.law.dealAt hx
 obtain ⟨pp,sv,wv⟩:=p
 obtain ⟨D,hD⟩:∃ D,D=A.ds.length:=⟨_,rfl⟩
 rw [← hD] at hL hj hdl
 have hjl:j<D:=by rw [hD];exact (List.getElem?_eq_some_iff.1 hx).1
 obtain ⟨q,hq⟩:∃ q,q=pkC a D:=⟨_,rfl⟩
 obtain ⟨cc,hcc⟩:∃ cc,cc=pkC c 5:=⟨_,rfl⟩
 have hpa:=λw'=>jBk a D w' ha.1 (by have:=ha.2;omega) oE oE
 have hpb:=λw'=>jBk b n w' hb.1 (by have:=hb.2;omega) oE oE
 have hpc:=λw'=>jBk c 5 w' hc.1 (by have:=hc.2;omega) oE oE
 rw [← hq] at hpa
 rw [← hi] at hpb
 rw [← hcc] at hpc
 have hqD:q<D:=by rw [hq];exact jCn _ _ oE
 have hin:i<n:=by rw [hi];exact jCn _ _ oE
 have hc5:cc<5:=by rw [hcc];exact jCn _ _ oE
 have hjq:j=D - 1 - q:=by rw [hj,hq]
 obtain ⟨i1,hi1⟩:∃ i1,i1=i+1:=⟨_,rfl⟩
 obtain ⟨W,hW⟩:∃ W,W=w.alloc (stpO 5 a b c):=⟨_,rfl⟩
 have hfW:Fr [] w W:=by rw [hW];exact (Fr.refl [] w).alloc _
 have hsb:W.heap[w.heap.size]?=some (stpO 5 a b c):=by rw [hW];exact heap_alloc_new w _
 have hL1:=hL.new hfW
 obtain ⟨gd1,dc1,p1,ed1,hp1,cgd,-⟩:=hL1.law.dealAt hx
 rw [← hD] at ed1
 cases ed1
 rw [hp] at hp1
 cases hp1
 have n1:=jA0 hL1.law.net 1
 have s0:=jA0 hsb 0
 have s1:=jA0 hsb 1
 simp at n1 s0 s1 cgd
 have HPA:=jA1 hpa
 have HPB:=jA1 hpb
 have HPC:=jA1 hpc
 have HL1:=jA1 (And.intro hL1 hsb)
 have H0:=jA1 (And.intro hn (And.intro hD (And.intro hx (And.intro hp (And.intro hmet (And.intro hpow (And.intro hcc hi1)))))))
 have D0:¬ (D:Int)=0:=by omega
 have D1:IntKind.i64.wrap ((D:Int) - 1)=(D:Int) - 1:=by rw [IntKind.wrap_i64];omega
 have D2:IntKind.i64.wrap ((D:Int) - 1 - (q:Int))=(j:Int):=by rw [IntKind.wrap_i64];omega
 have j0:(0:Int)≤(j:Int):=by omega
 have j1:(j:Int)<(D:Int):=by omega
 have hwi:IntKind.i64.wrap (1+(i:Int))=(i1:Int):=by rw [IntKind.wrap_i64];omega
 have hi1n:1≤i1∧i1≤n:=by omega
 rw [hW] at n1 s0 s1 cgd
 clear h hL hn hD hx hp hj hi hq hcc hpa hpb hpc hfW hsb hL1 hmet hpow hqD hjq ha hb hc hi1 hdl hjl
 go_enter Tryz.func56,Tryz.ntmps56
 go_wp2_with fail
 rw [← hW]
 rw [← hW] at n1 s0 s1 cgd
 clear hW s0
 go_region_held3 (λw'=>w'.cell? ⟨np,1,none⟩=some (.slice (some ⟨gd,0,none⟩) D dc)∧w'.cell? ⟨w.heap.size,1,none⟩=some (.int .i64 a)∧w'.cell? ⟨gd,j,none⟩=some (.pointer (some ⟨pp,0,none⟩))) (simp [*])
  (first | (go_at_call 10;refine (HPA.out _).mono ?_;rintro e w3 ⟨rfl,rfl⟩))
 have HL2:=jA1 (And.intro (HL1.out.1.new (Fr.refl [] W).drew) (show W.drew.heap[w.heap.size]?=some (stpO 5 a b c) from HL1.out.2))
 generalize W.drew=W2 at HL2 ⊢
 clear n1 s1 cgd D0 D1 D2 HPA HL1
 have n4:=jA0 HL2.out.1.law.net 4
 have s2:=jA0 HL2.out.2 2
 simp at n4 s2
 go_wp2_with fail
 go_region_held3 (λw'=>w'.cell? ⟨w.heap.size,2,none⟩=some (.int .i64 b)∧w'.cell? ⟨np,4,none⟩=some (.int .i64 (n:Int))) (simp [*])
  (first | (go_at_call 10;refine (HPB.out _).mono ?_;rintro e w3 ⟨rfl,rfl⟩))
 have HL3:=jA1 (And.intro (HL2.out.1.new (Fr.refl [] W2).drew) (show W2.drew.heap[w.heap.size]?=some (stpO 5 a b c) from HL2.out.2))
 generalize W2.drew=W3 at HL3 ⊢
 clear n4 s2 HPB HL2
 have s3:=jA0 HL3.out.2 3
 simp at s3
 go_wp2_with fail
 refine (HPC.out _).mono ?_
 rintro e w4 ⟨rfl,e4⟩
 rw [e4]
 clear e4 s3 HPC
 go_wp2_with fail
 refine (jBi cc oE W3).mono ?_
 rintro e w5 ⟨rfl,hf5⟩
 have hs5:w5.heap[w.heap.size]?=some (stpO 5 a b c):=(hf5.block _ (Array.getElem?_eq_some_iff.1 HL3.out.2).1 sE).trans HL3.out.2
 have HL5:=jA1 (And.intro (HL3.out.1.new hf5) hs5)
 clear hf5 hs5 HL3
 have hkey:(⟨#[107]⟩:ByteArray)++str (dgs cc)=keyB cc:=by unfold keyB;rw [show (107 :: dgs cc)=[107]++dgs cc from rfl,jFi];rfl
 have hz1:(str (dgs cc)).size=1:=by rw [jB1,jD9 oE];rfl
 have hz0:(⟨#[107]⟩:ByteArray).size=1:=rfl
 have hks:¬ 9223372036854775807<1+(str (dgs cc)).size:=by omega
 have s0:=jA0 HL5.out.2 0
 have hdl:=HL5.out.1.law.each j _ x H0.out.2.2.2.1 H0.out.2.2.1
 have d3:=jA0 hdl.blk 3
 simp at s0 d3
 have s1:=jA0 HL5.out.2 1
 have s2:=jA0 HL5.out.2 2
 have s3:=jA0 HL5.out.2 3
 have s4:=jA0 HL5.out.2 4
 have s5:=jA0 HL5.out.2 5
 have s6:=jA0 HL5.out.2 6
 have s7:=jA0 HL5.out.2 7
 simp at s1 s2 s3 s4 s5 s6 s7
 obtain ⟨Ls5,hN5⟩:=HL5.out.1.nds
 obtain ⟨hmt,hpw⟩:=HL5.out.1.met hB H0.out.2.2.2.2.1 H0.out.2.2.2.2.2.1
 have hcm:=jP1 5 a b c HL5.out.1.law hN5 H0.out.1 H0.out.2.2.2.1 H0.out.2.2.1 hlen hnl hlost hw0 hask hwhat oE hcE hB hmt hpw hK
 have HCM:=jA1 hcm
 clear hdl d3 hN5 hmt hpw hcm
 go_wp2_with fail
 refine HCM.out.mono ?_
 rintro e w7 ⟨rfl,Ls7,hL7,hN7,hf7⟩
 have H8:=jA1 (show NetB w0 w7 B np n (K+1) (.slice (some ⟨gh,0,none⟩) (n+1) hcap) hps { A with c:=A.c.commS x.id (nzs (worked x.seq n)),ds:=A.ds.set j { x with asked:=true } } from ⟨_,bv,ov,fl,_,Ls7,hL7,hN7,HL5.out.1.bag,HL5.out.1.lgf.trans hf7⟩)
 clear hL7 hN7 hf7
 go_wp2_with fail
 go_ret
 exact ⟨rfl,H8.out⟩
end
section
variable {w0 w:World} {B np n K:Nat} {hv:Value} {hps:List Nat} {A A1 A2:ANet}
theorem jCc (kd a b c:Int) (hkd:kd=1∨kd=2∨kd=3∨kd=5) (h:NetB w0 w B np n K hv hps A) (ha:InI a) (hnl:n≤90)
  (hC:∀ w',NetB w0 w' B np n K hv hps A→Calls Tryz.prog 56 #[ptrV np,stpV kd a b c] w' λe w''=>e=.returned (.bool true)∧NetB w0 w'' B np n (K+1) hv hps A1) (hlk:Looks A1 A2) (hn:n=A1.ss.length) (hK:K≤290000) :
  Calls Tryz.prog 25 #[ptrV np,stpV kd a b c] w λe w'=>e=.returned (.bool true)∧NetB w0 w' B np n (K+1) hv hps A2:=by
 obtain ⟨W,hW⟩:∃ W,W=w.alloc (stpO kd a b c):=⟨_,rfl⟩
 have hfW:Fr [] w W:=by rw [hW];exact (Fr.refl [] w).alloc _
 have hsb:W.heap[w.heap.size]?=some (stpO kd a b c):=by rw [hW];exact heap_alloc_new w _
 have hL1:=h.new hfW
 have hpa:=λw'=>jBk a (n+1) w' ha.1 (by have:=ha.2;omega) oE oE
 rw [show (((n+1:Nat):Int))=(n:Int)+1 by omega] at hpa
 obtain ⟨-,n4⟩:=hL1.cells
 have s1:=jA0 hsb 1
 simp at s1
 have HPA:=jA1 hpa
 have H1:=jA1 (And.intro hL1 hsb)
 have H0:=jA1 (And.intro hC (And.intro hlk (And.intro hn hkd)))
 have hwn:IntKind.i64.wrap ((n:Int)+1)=(n:Int)+1:=by rw [IntKind.wrap_i64];omega
 rw [hW] at n4 s1
 clear h hfW hsb hL1 hpa ha hC hlk hn
 go_enter Tryz.func25,Tryz.ntmps25
 go_wp2_with fail
 rw [← hW]
 rw [← hW] at n4 s1
 clear hW
 go_region_held3 (λw'=>w'.cell? ⟨w.heap.size,1,none⟩=some (.int .i64 a)∧w'.cell? ⟨np,4,none⟩=some (.int .i64 (n:Int))) (simp [*])
  (first | (go_at_call 10;refine (HPA.out _).mono ?_;rintro e w3 ⟨rfl,rfl⟩))
 have H2:=jA1 (And.intro (H1.out.1.new (Fr.refl [] W).drew) (show W.drew.heap[w.heap.size]?=some (stpO kd a b c) from H1.out.2))
 generalize W.drew=W2 at H2 ⊢
 clear n4 s1 HPA H1 hwn
 have s0:=jA0 H2.out.2 0
 have s1:=jA0 H2.out.2 1
 have s2:=jA0 H2.out.2 2
 have s3:=jA0 H2.out.2 3
 have s4:=jA0 H2.out.2 4
 have s5:=jA0 H2.out.2 5
 have s6:=jA0 H2.out.2 6
 have s7:=jA0 H2.out.2 7
 simp at s0 s1 s2 s3 s4 s5 s6 s7
 have k7:¬ kd=7:=by omega
 have k10:¬ kd=10:=by omega
 have k11:¬ kd=11:=by omega
 have k12:¬ kd=12:=by omega
 have k13:¬ kd=13:=by omega
 have k8:¬ kd=8:=by omega
 have k9:¬ kd=9:=by omega
 have k14:¬ kd=14:=by omega
 clear hkd
 go_wp2_with fail
 refine (H0.out.1 W2 H2.out.1).mono ?_
 rintro e w3 ⟨rfl,h3⟩
 have H3:=jA1 h3
 clear h3 s0 s1 s2 s3 s4 s5 s6 s7 k7 k10 k11 k12 k13 k8 k9 k14
 go_wp2_with fail
 refine (jR9 H3.out H0.out.2.1 H0.out.2.2.1 oE oE).mono ?_
 rintro e w4 ⟨rfl,h4⟩
 have H4:=jA1 h4
 clear h4
 go_wp2_with fail
 go_ret
 exact ⟨rfl,H4.out⟩
end
end Go.Proofs.YtcalalndmcemiaaGreatDoor
set_option maxRecDepth 100000
set_option maxHeartbeats 16000000
namespace Go.Proofs.YtcalalndmcemiaaGreatDoor
open Go.Maps
open Sc
abbrev wd1 (sq:List Nat) (wr:List (Nat × ByteArray × ByteArray)) (asked:Bool) (what:Nat):ADeal:=⟨1,sq,wr,asked,false,what⟩
abbrev wd2 (lost:Bool):ADeal:=⟨2,[0,0,0],[],false,lost,0⟩
abbrev c12 (x:ATx) (r:List (Nat × Nat)) (o:List (Nat × Nat × Nat)):ACo:=⟨[(1,x),(2,⟨4,jBl,0⟩)],3,17,0,r,o⟩
abbrev wsa (st d:Nat) (k v:ByteArray):AShard:=⟨[],[(1,⟨st,d,0⟩),(2,⟨2,0,0⟩)],[((1,k),⟨1,v⟩)],0⟩
abbrev wsz (V:List (ByteArray × ByteArray)):AShard:=⟨V,[(2,⟨2,0,0⟩)],[],0⟩
section
variable (k v0 v1:ByteArray)
abbrev wwr:List (Nat × ByteArray × ByteArray):=[(1,k,v0),(2,k,v1)]
abbrev wN1:ANet:=⟨[wd1 [0,0,0] [] false 0],[],[],c1s 1 4 jBl 2 17 [] [],[],[(rs [],[]),(rs [],[])]⟩
abbrev wN2:ANet:=⟨[wd1 [0,1,0] [(1,k,v0)] false 0],[],[],c1s 1 4 jBl 2 17 [] [],[],[(hs1 [] 1 1 1 1 k v0,[]),(rs [],[])]⟩
abbrev wN3:ANet:=⟨[wd1 [0,1,1] (wwr k v0 v1) false 0],[],[],c1s 1 4 jBl 2 17 [] [],[],[(hs1 [] 1 1 1 1 k v0,[]),(hs1 [] 1 1 1 1 k v1,[])]⟩
abbrev wN4:ANet:=⟨[wd1 [0,1,1] (wwr k v0 v1) false 0,wd2 false],[],[],⟨[(2,⟨4,jBl,0⟩),(1,⟨4,jBl,0⟩)],3,17,0,[],[]⟩,[],[(hs1 [] 1 1 1 1 k v0,[]),(hs1 [] 1 1 1 1 k v1,[])]⟩
abbrev wN5:ANet:=⟨[wd1 [0,1,1] (wwr k v0 v1) false 0,wd2 true],[],[],⟨[(2,⟨4,jBl,0⟩),(1,⟨4,jBl,0⟩)],3,17,0,[],[]⟩,[],[(⟨[],[(2,⟨2,0,0⟩),(1,⟨1,1,0⟩)],[((1,k),⟨1,v0⟩)],0⟩,[]),(hs1 [] 1 1 1 1 k v1,[])]⟩
abbrev wNc (what:Nat) (ord:List Nat) (c:ACo) (ss:List (AShard × List Msg)):ANet:=⟨[wd1 [0,1,1] (wwr k v0 v1) true what,wd2 true],ord,[],c,[],ss⟩
abbrev wN6:ANet:=wNc k v0 v1 0 [] (c12 ⟨5,jA9 [1,2] 1,0⟩ [] [(1,1,1),(1,2,1)]) [(⟨[],[(2,⟨2,0,0⟩),(1,⟨1,1,0⟩)],[((1,k),⟨1,v0⟩)],0⟩,[]),(hs1 [] 1 1 1 1 k v1,[])]
abbrev wN7:ANet:=wNc k v0 v1 5 [0] ⟨[(2,⟨4,jBl,0⟩)],3,17,0,[],[]⟩ [(wsz [(k,v0)],[]),(rs [(k,v1)],[])]
theorem jT5:(c0s 1 1 [] []).begun=(c1s 1 4 jBl 2 17 [] [],1,0):=by rw [jMv];rfl
theorem jSs:(c1s 1 4 jBl 2 17 [] []).begun=(⟨[(2,⟨4,jBl,0⟩),(1,⟨4,jBl,0⟩)],3,17,0,[],[]⟩,2,0):=by simp [ACo.begun,jAb,jAi]
theorem w_get (hk:1≤k.size∧k.size≤16):(hs1 [] 1 1 1 1 k v0).get 2 0 k=(⟨[],[(2,⟨2,0,0⟩),(1,⟨1,1,0⟩)],[((1,k),⟨1,v0⟩)],0⟩,ByteArray.empty,false,3):=by
 have e1:(hs1 [] 1 1 1 1 k v0).txn 2=⟨0,0,0⟩:=by simp [AShard.txn,jA3]
 have e2:(hs1 [] 1 1 1 1 k v0).refuse1 2 0 k ByteArray.empty=0:=by
  unfold AShard.refuse1
  rw [if_neg dN,if_neg (by rw [show ByteArray.empty.size=0 from rfl];omega),e1,if_neg sE,if_neg sE,if_neg sE]
 have e3:(hs1 [] 1 1 1 1 k v0).refuse 2 0 k ByteArray.empty=0:=by
  unfold AShard.refuse
  rw [if_pos e2]
  unfold AShard.refuse2
  rw [if_neg (by simp [AShard.count])]
 have e4:(hs1 [] 1 1 1 1 k v0).clash 2 k (AGrip.writes ⟨0,ByteArray.empty⟩)=true:=by simp [AShard.clash,jE0,jA3,AShard.grip,AGrip.writes]
 have e5:(hs1 [] 1 1 1 1 k v0).operate 2 0 k ⟨0,ByteArray.empty⟩=(⟨[],[(2,⟨2,0,0⟩),(1,⟨1,1,0⟩)],[((1,k),⟨1,v0⟩)],0⟩,3):=by
  unfold AShard.operate
  rw [if_pos e3,if_pos e4,e1]
  simp [jAb,jAi]
 unfold AShard.get
 rw [e5]
 simp
theorem jYe:(⟨[(2,⟨4,jBl,0⟩),(1,⟨4,jBl,0⟩)],3,17,0,[],[]⟩:ACo).commE 1 [1,2]=0∧(⟨[(2,⟨4,jBl,0⟩),(1,⟨4,jBl,0⟩)],3,17,0,[],[]⟩:ACo).commS 1 [1,2]=c12 ⟨5,jA9 [1,2] 1,0⟩ [] [(1,1,1),(1,2,1)]:=by
 have e:(⟨[(2,⟨4,jBl,0⟩),(1,⟨4,jBl,0⟩)],3,17,0,[],[]⟩:ACo).tx 1=⟨4,jBl,0⟩:=by simp [ACo.tx,jA3]
 have h:=jQk (a:=1) (b:=2) oE
 constructor
 ·unfold ACo.commE
  rw [e]
  decide
 ·unfold ACo.commS
  rw [e,if_pos dN]
  unfold ACo.asked
  simp only [List.map_cons,List.map_nil]
  rw [show (Int.toNat 1)=1 from rfl,show (Int.toNat 2)=2 from rfl,h.aw]
  simp [jAb,jAi]
theorem jQi (sq:List Nat) (wr:List (Nat × ByteArray × ByteArray)) (asked:Bool) (hw:wr.length≤2):Nice [wd1 sq wr asked 0] [] [[],[]] where
 ids:=λa b x y hx hy e=>by
  have ha:=(List.getElem?_eq_some_iff.1 hx).1
  have hb:=(List.getElem?_eq_some_iff.1 hy).1
  simp at ha hb
  omega
 wrs:=λx hx=>by simp at hx;subst hx;exact ⟨by show wr.length≤_;omega,by show 1<_;decide⟩
 len:=by simp
 vls:=λV hV=>by simp at hV;subst hV;simp
 kno:=λj V hV y hy=>by
  match j,hV with
  | 0,hV=>cases hV;cases hy
  | 1,hV=>cases hV;cases hy
theorem jHx (what:Nat) (asked lost:Bool) (ord:List Nat) (V1 V2:List (ByteArray × ByteArray)) (ho:ord.length≤1) (h1:V1=[]∨V1=[(k,v0)]∧ord=[0]) (h2:V2=[]∨V2=[(k,v1)]∧ord=[0]):Nice [wd1 [0,1,1] (wwr k v0 v1) asked what,wd2 lost] ord [V1,V2] where
 ids:=λa b x y hx hy e=>by
  match a,b,hx,hy with
  | 0,0,_,_=>rfl
  | 1,1,_,_=>rfl
  | 0,1,hx,hy=>cases hx;cases hy;cases e
  | 1,0,hx,hy=>cases hx;cases hy;cases e
 wrs:=λx hx=>by
  simp at hx
  rcases hx with rfl | rfl
  ·exact ⟨by simp,by show 1<_;decide⟩
  ·exact ⟨by simp,by show 2<_;decide⟩
 len:=by simp;omega
 vls:=λV hV=>by
  simp at hV
  rcases hV with rfl | rfl
  ·rcases h1 with h | ⟨h,-⟩ <;> rw [h] <;> simp
  ·rcases h2 with h | ⟨h,-⟩ <;> rw [h] <;> simp
 kno:=λj V hV y hy=>by
  match j,hV with
  | 0,hV =>
   cases hV
   rcases h1 with h | ⟨h,ho⟩
   ·rw [h] at hy;cases hy
   ·rw [h] at hy;simp at hy;subst hy;subst ho;simp [jC5,wrote]
  | 1,hV =>
   cases hV
   rcases h2 with h | ⟨h,ho⟩
   ·rw [h] at hy;cases hy
   ·rw [h] at hy;simp at hy;subst hy;subst ho;simp [jC5,wrote]
theorem jI9 (s1 s2:AShard × List Msg):Tabs [s1,s2] [s1.1.vals,s2.1.vals]:=λj s hj=>by
 match j,hj with
 | 0,hj=>cases hj;rfl
 | 1,hj=>cases hj;rfl
theorem look1:Looks wN1 wN1:=jAv (jQi _ _ _ sE) (jI9 _ _) rfl (λx hx h6=>by simp at hx;subst hx;simp [ACo.tx,jA3] at h6)
theorem look2:Looks (wN2 k v0) (wN2 k v0):=jAv (jQi _ _ _ sE) (jI9 _ _) rfl (λx hx h6=>by simp at hx;subst hx;simp [ACo.tx,jA3] at h6)
theorem look3:Looks (wN3 k v0 v1) (wN3 k v0 v1):=jAv (jQi _ _ _ sE) (jI9 _ _) rfl (λx hx h6=>by simp at hx;subst hx;simp [ACo.tx,jA3] at h6)
theorem look4:Looks (wN4 k v0 v1) (wN4 k v0 v1):=jAv (jHx _ _ _ _ _ _ _ _ _ sE (.inl rfl) (.inl rfl)) (jI9 _ _) rfl (λx hx h6=>by simp at hx;rcases hx with rfl | rfl <;> simp [ACo.tx,jA3] at h6)
theorem look5:Looks (wN5 k v0 v1) (wN5 k v0 v1):=jAv (jHx _ _ _ _ _ _ _ _ _ sE (.inl rfl) (.inl rfl)) (jI9 _ _) rfl (λx hx h6=>by simp at hx;rcases hx with rfl | rfl <;> simp [ACo.tx,jA3] at h6)
theorem look6:Looks (wN6 k v0 v1) (wN6 k v0 v1):=jAv (jHx _ _ _ _ _ _ _ _ _ sE (.inl rfl) (.inl rfl)) (jI9 _ _) rfl (λx hx h6=>by simp at hx;rcases hx with rfl | rfl <;> simp [ACo.tx,jA3] at h6)
/-! ### the round -/
theorem jJh (x:ATx) (r:List (Nat × Nat)) (o:List (Nat × Nat × Nat)):(c12 x r o).tx 1=x:=by simp [ACo.tx,jA3]
theorem jM9 (x y:ATx) (r:List (Nat × Nat)) (o:List (Nat × Nat × Nat)):jAb (c12 x r o).txns 1 y=(c12 y r o).txns:=by simp [jAb,jAi]
abbrev wp1:List Nat:=jA9 [1,2] 1
theorem jVj:(c12 ⟨5,wp1,0⟩ [] []).voted 1 1 2=c12 ⟨5,wp1.set 1 2,0⟩ [] []:=by
 unfold ACo.voted
 rw [jJh,if_neg dN,if_neg dN,if_pos dN,jM9]
theorem jWf:(c12 ⟨5,wp1.set 1 2,0⟩ [] []).voted 1 2 2=c12 ⟨6,(wp1.set 1 2).set 2 2,0⟩ [(1,5)] [(1,1,5),(1,2,5)]:=by
 unfold ACo.voted
 rw [jJh,if_neg dN,if_neg dN,if_neg dN,if_pos dN]
 unfold ACo.comm
 rw [jM9]
 have:jB9 jDf ((wp1.set 1 2).set 2 2)=[1,2]:=by decide
 simp only [this]
 rfl
theorem jV0:(c12 ⟨6,(wp1.set 1 2).set 2 2,0⟩ [] []).doneS 1 1=c12 ⟨6,((wp1.set 1 2).set 2 2).set 1 5,0⟩ [] []:=by
 unfold ACo.doneS
 rw [jJh,if_neg dN,if_pos dN,jM9]
theorem jWs:(c12 ⟨6,((wp1.set 1 2).set 2 2).set 1 5,0⟩ [] []).doneS 1 2=⟨[(2,⟨4,jBl,0⟩)],3,17,0,[],[]⟩:=by
 unfold ACo.doneS
 rw [jJh,if_neg dN,if_neg dN]
 simp [jAi]
theorem jXp:jC2 1 ⟨[],[(2,⟨2,0,0⟩),(1,⟨1,1,0⟩)],[((1,k),⟨1,v0⟩)],0⟩ [] ⟨1,0,1,1⟩=(wsa 3 0 k v0,[⟨2,1,0,1⟩]):=by
 have e:(⟨[],[(2,⟨2,0,0⟩),(1,⟨1,1,0⟩)],[((1,k),⟨1,v0⟩)],0⟩:AShard).vote 1=(wsa 3 0 k v0,2):=by simp [AShard.vote,AShard.txn,jA3,AShard.wr,AGrip.writes,jAb,jAi]
 unfold jC2
 rw [if_pos rfl,e]
 rfl
theorem jXa:jC2 1 (wsa 3 0 k v0) [] ⟨5,0,1,1⟩=(wsz [(k,v0)],[⟨7,1,0,1⟩]):=by
 have e:(wsa 3 0 k v0).commS 1=wsz [(k,v0)]:=by simp [AShard.commS,AShard.txn,jA3,AShard.comm,AShard.forget,AShard.release,appl,jAb,jAi,jFp]
 unfold jC2
 rw [if_neg sE,if_pos rfl,e]
 rfl
theorem w_won:(wsa 3 0 k v0).commE 1=0:=by simp [AShard.commE,AShard.txn,jA3]
theorem jNt (what:Nat) (ord:List Nat) (x:ATx) (s1 s2:AShard × List Msg) (o:List (Nat × Nat × Nat)) (ho:ord.length≤1) (h6:x.state=6→what=5) (h1:s1.1.vals=[]∨s1.1.vals=[(k,v0)]∧ord=[0]) (h2:s2.1.vals=[]∨s2.1.vals=[(k,v1)]∧ord=[0]):Looks (wNc k v0 v1 what ord (c12 x [] o) [s1,s2]) (wNc k v0 v1 what ord (c12 x [] o) [s1,s2]) :=
 jAv (jHx _ _ _ _ _ _ _ _ _ ho h1 h2) (jI9 _ _) rfl (λy hy h=>by
  simp at hy
  rcases hy with rfl | rfl
  ·exact h6 (by rw [jJh] at h;exact h)
  ·simp [ACo.tx,jA3] at h)
theorem jMj {A:ANet} (hl:A.ss.length=2) {kd d:Nat} (hk:kd=1∨kd=5) (hd:d=1∨d=2) (hw:kd=5→∀ s,A.ss[d - 1]?=some s→s.1.commE 1=0):A.Comes ⟨kd,0,d,1⟩ :=
 ⟨jDa hk oE ⟨by decide,by decide⟩,by simp;omega,λe=>by simp at e;omega,λ_=>by simp;omega,λi s hi hs h5=>by
  simp at hi h5
  exact hw h5 s (by rw [show d - 1=i by omega];exact hs)⟩
theorem jI4 {A:ANet} {kd d:Nat} (hk:kd=2∨kd=7) (hd:d=1∨d=2):A.Comes ⟨kd,d,0,1⟩ :=
 ⟨jH9 oE oE ⟨by decide,by decide⟩,by simp,λ_=>by simp;omega,λe=>absurd rfl e,λi s hi=>by simp at hi⟩
theorem wokd {kd:Nat} (hk:kd=1∨kd=5):∀ x∈jBb [(1,1,kd),(1,2,kd)],x.Ok:=λx hx=>by
 simp [jBb] at hx
 rcases hx with rfl | rfl <;> exact jDa hk oE ⟨by decide,by decide⟩
theorem wave1:Wave (wN6 k v0 v1) (wNc k v0 v1 0 [] (c12 ⟨5,wp1,0⟩ [] []) [(wsa 3 0 k v0,[⟨2,1,0,1⟩]),(hs1 [] 1 3 0 1 k v1,[⟨2,2,0,1⟩])]) 2:=by
 refine ⟨⟨wokd (.inl rfl),Mute.outs (λx hx=>by simp at hx;rcases hx with rfl | rfl <;> rfl)⟩,rfl,rfl,?_⟩
 show Dels [⟨1,0,1,1⟩,⟨1,0,2,1⟩] (wNc k v0 v1 0 [] (c12 ⟨5,wp1,0⟩ [] []) [(⟨[],[(2,⟨2,0,0⟩),(1,⟨1,1,0⟩)],[((1,k),⟨1,v0⟩)],0⟩,[]),(hs1 [] 1 1 1 1 k v1,[])]) _
 refine .cons (A1:=wNc k v0 v1 0 [] (c12 ⟨5,wp1,0⟩ [] []) [(wsa 3 0 k v0,[⟨2,1,0,1⟩]),(hs1 [] 1 1 1 1 k v1,[])]) (jMj rfl (.inl rfl) (.inl rfl) sE) ?_ (.cons (jMj rfl (.inl rfl) (.inr rfl) sE) ?_ (.nil _))
 ·have e:=jXp k v0
  simp only [ANet.recv,List.getElem?_cons_zero,e,List.set_cons_zero]
  exact jNt k v0 v1 0 [] _ _ _ _ sE sE (.inl rfl) (.inl rfl)
 ·have e:=jC7 [] 1 1 k v1 2
  simp only [ANet.recv,List.getElem?_cons_succ,List.getElem?_cons_zero,e,List.set_cons_succ,List.set_cons_zero]
  exact jNt k v0 v1 0 [] _ _ _ _ sE sE (.inl rfl) (.inl rfl)
theorem wave2:Wave (wNc k v0 v1 0 [] (c12 ⟨5,wp1,0⟩ [] []) [(wsa 3 0 k v0,[⟨2,1,0,1⟩]),(hs1 [] 1 3 0 1 k v1,[⟨2,2,0,1⟩])]) (wNc k v0 v1 5 [0] (c12 ⟨6,(wp1.set 1 2).set 2 2,0⟩ [] [(1,1,5),(1,2,5)]) [(wsa 3 0 k v0,[]),(hs1 [] 1 3 0 1 k v1,[])]) 2:=by
 refine ⟨⟨by simp [jBb],λi s hs x hx=>?_⟩,rfl,rfl,?_⟩
 ·match i,hs with
  | 0,hs=>cases hs;simp at hx;subst hx;exact jH9 (.inl rfl) oE ⟨by decide,by decide⟩
  | 1,hs=>cases hs;simp at hx;subst hx;exact jH9 (.inl rfl) oE ⟨by decide,by decide⟩
 show Dels [⟨2,1,0,1⟩,⟨2,2,0,1⟩] (wNc k v0 v1 0 [] (c12 ⟨5,wp1,0⟩ [] []) [(wsa 3 0 k v0,[]),(hs1 [] 1 3 0 1 k v1,[])]) _
 refine .cons (A1:=wNc k v0 v1 0 [] (c12 ⟨5,wp1.set 1 2,0⟩ [] []) [(wsa 3 0 k v0,[]),(hs1 [] 1 3 0 1 k v1,[])]) (jI4 (.inl rfl) (.inl rfl)) ?_ (.cons (jI4 (.inl rfl) (.inr rfl)) ?_ (.nil _))
 ·have e:=jVj
  simp only [ANet.recv,jCk,Nat.reduceEqDiff,if_false,e]
  exact jNt k v0 v1 0 [] _ _ _ _ sE sE (.inl rfl) (.inl rfl)
 ·have e:=jWf
  simp only [ANet.recv,jCk,Nat.reduceEqDiff,if_false,e]
  exact jFg (A:=wNc k v0 v1 0 [] (c12 ⟨6,(wp1.set 1 2).set 2 2,0⟩ [(1,5)] [(1,1,5),(1,2,5)]) [(wsa 3 0 k v0,[]),(hs1 [] 1 3 0 1 k v1,[])]) (k:=0) (t:=1) (jHx _ _ _ _ _ _ _ _ _ sE (.inl rfl) (.inl rfl)) (jI9 _ _) rfl rfl rfl rfl rfl (λy hy h=>by
   simp at hy
   rcases hy with rfl | rfl
   ·exact .inr rfl
   ·simp [ACo.tx,jA3] at h)
theorem wave3:Wave (wNc k v0 v1 5 [0] (c12 ⟨6,(wp1.set 1 2).set 2 2,0⟩ [] [(1,1,5),(1,2,5)]) [(wsa 3 0 k v0,[]),(hs1 [] 1 3 0 1 k v1,[])]) (wNc k v0 v1 5 [0] (c12 ⟨6,(wp1.set 1 2).set 2 2,0⟩ [] []) [(wsz [(k,v0)],[⟨7,1,0,1⟩]),(rs [(k,v1)],[⟨7,2,0,1⟩])]) 2:=by
 refine ⟨⟨wokd (.inr rfl),Mute.outs (λx hx=>by simp at hx;rcases hx with rfl | rfl <;> rfl)⟩,rfl,rfl,?_⟩
 show Dels [⟨5,0,1,1⟩,⟨5,0,2,1⟩] (wNc k v0 v1 5 [0] (c12 ⟨6,(wp1.set 1 2).set 2 2,0⟩ [] []) [(wsa 3 0 k v0,[]),(hs1 [] 1 3 0 1 k v1,[])]) _
 refine .cons (A1:=wNc k v0 v1 5 [0] (c12 ⟨6,(wp1.set 1 2).set 2 2,0⟩ [] []) [(wsz [(k,v0)],[⟨7,1,0,1⟩]),(hs1 [] 1 3 0 1 k v1,[])]) (jMj rfl (.inr rfl) (.inl rfl) (λ_ s hs=>by cases hs;exact w_won k v0)) ?_ (.cons (jMj rfl (.inr rfl) (.inr rfl) (λ_ s hs=>by cases hs;exact jKh [] 1 k v1)) ?_ (.nil _))
 ·have e:=jXa k v0
  simp only [ANet.recv,List.getElem?_cons_zero,e,List.set_cons_zero]
  exact jNt k v0 v1 5 [0] _ _ _ _ sE sE (.inr ⟨rfl,rfl⟩) (.inl rfl)
 ·have e:=jGp [] 1 k v1 2
  simp only [ANet.recv,List.getElem?_cons_succ,List.getElem?_cons_zero,e,List.set_cons_succ,List.set_cons_zero]
  exact jNt k v0 v1 5 [0] _ _ _ _ sE sE (.inr ⟨rfl,rfl⟩) (.inr ⟨rfl,rfl⟩)
theorem wave4:Wave (wNc k v0 v1 5 [0] (c12 ⟨6,(wp1.set 1 2).set 2 2,0⟩ [] []) [(wsz [(k,v0)],[⟨7,1,0,1⟩]),(rs [(k,v1)],[⟨7,2,0,1⟩])]) (wN7 k v0 v1) 2:=by
 refine ⟨⟨by simp [jBb],λi s hs x hx=>?_⟩,rfl,rfl,?_⟩
 ·match i,hs with
  | 0,hs=>cases hs;simp at hx;subst hx;exact jH9 (.inr (.inr rfl)) oE ⟨by decide,by decide⟩
  | 1,hs=>cases hs;simp at hx;subst hx;exact jH9 (.inr (.inr rfl)) oE ⟨by decide,by decide⟩
 show Dels [⟨7,1,0,1⟩,⟨7,2,0,1⟩] (wNc k v0 v1 5 [0] (c12 ⟨6,(wp1.set 1 2).set 2 2,0⟩ [] []) [(wsz [(k,v0)],[]),(rs [(k,v1)],[])]) _
 refine .cons (A1:=wNc k v0 v1 5 [0] (c12 ⟨6,((wp1.set 1 2).set 2 2).set 1 5,0⟩ [] []) [(wsz [(k,v0)],[]),(rs [(k,v1)],[])]) (jI4 (.inr rfl) (.inl rfl)) ?_ (.cons (jI4 (.inr rfl) (.inr rfl)) ?_ (.nil _))
 ·have e:=jV0
  simp only [ANet.recv,jCk,if_true,e]
  exact jNt k v0 v1 5 [0] _ _ _ _ sE sE (.inr ⟨rfl,rfl⟩) (.inr ⟨rfl,rfl⟩)
 ·have e:=jWs
  simp only [ANet.recv,jCk,if_true,e]
  exact jAv (jHx _ _ _ _ _ _ _ _ _ sE (.inr ⟨rfl,rfl⟩) (.inr ⟨rfl,rfl⟩)) (jI9 _ _) rfl (λy hy h=>by
   simp at hy
   rcases hy with rfl | rfl <;> simp [ACo.tx,jA3] at h)
theorem jXu:Waves 6 (wN6 k v0 v1) (wN7 k v0 v1) 8:=by
 have w5:Wave (wN7 k v0 v1) (wN7 k v0 v1) 0:=jJt rfl rfl rfl (λx hx=>by simp at hx;rcases hx with rfl | rfl <;> rfl)
 exact .cons (wave1 k v0 v1) (.cons (wave2 k v0 v1) (.cons (wave3 k v0 v1) (.cons (wave4 k v0 v1) (.cons w5 (.cons w5 (.nil _))))))
end
end Go.Proofs.YtcalalndmcemiaaGreatDoor
