import Derived.Test.YtcalalndmcemiaaGreatDoorC43
set_option maxRecDepth 100000
set_option maxHeartbeats 16000000
namespace Go.Proofs.YtcalalndmcemiaaGreatDoor
open Go.RowKit Go.Maps Go.Shelf
open Sc
theorem wr_nt:¬ jAd 57:=by simp [jAd]
theorem Tryz.infoWr:(Tryz.prog.info? 57).map (λi=>(i.zero,i.size,i.bytes))=some (some (.agg #[.int .i64 0,.string ByteArray.empty,.string ByteArray.empty]),3,40):=by kernel_rfl
theorem jTd {w0 w W0:World} {B np n K j pp:Nat} {hv dv bv ov sv wv:Value} {fl:Bool} {hps:List Nat} {ps:List (Nat × Value × Value)} {A:ANet} {x:ADeal} {o:Oper} {a:Act} {Kc:Act→World→Prop} {Q:Exit→Act→World→Prop} (y:Nat × ByteArray × ByteArray) (h:NetL w0 w B np n K hv dv bv ov fl hps ps A) (hp:ps[j]?=some (pp,sv,wv)) (hx:A.ds[j]?=some x) (hl:x.writes.length≤60000000)
  (s t:Operand) (ho:o.op=.call { callee:=.builtin .append,args:=#[s,t],argTypes:=#[58,58] }) (hs:a.eval s=wv) {b:Nat} (hy:a.eval t=.slice (some ⟨b,0,none⟩) 1 1) (hf:Fr [] w W0) (hb:AtH W0 b (.cells #[.int .i64 (y.1:Int),.string y.2.1,.string y.2.2] 57))
  (post:∀ va vb vc w1,w1.heap[pp]?=some (jJk sv wv x)→NetL w0 (w1.setCell ⟨pp,2,none⟩ (.slice va vb vc)) B np n K hv dv bv ov fl hps (ps.set j (pp,sv,.slice va vb vc)) { A with ds:=A.ds.set j { x with writes:=x.writes++[y] } }→Kc (a.put o.dst (.slice va vb vc)) w1):o.wp Tryz.prog a W0 Kc Q:=by
 obtain ⟨i0,hi,hz0,hz1,hz2⟩:=info_parts Tryz.infoWr
 have hd:=h.law.each j _ x hp hx
 have hrow:W0.ownsRow B 57 3 wv x.writes.length (wrsV x.writes):=jA7 hd.wrs hf sE
 have hc0:=jA0 hb 0
 have hc1:=jA0 hb 1
 have hc2:=jA0 hb 2
 simp at hc0 hc1 hc2
 refine jBn s t 58 ho B 57 i0 _ 3 40 Tryz.underlying58 hi hz0 hz1 hz2 rfl dN wv x.writes.length _ hs hrow ⟨b,0,none⟩ 1 1 (wrC y) hy rfl (λk u hk=>?_) (by intro u hu;simp at hu;rcases hu with rfl | rfl | rfl <;> rfl) (by unfold maxLen;omega) oE (Nat.le_trans h.law.low.2 hf.size) ?_
 ·match k,hk with
  | 0,hk=>simp at hk;subst hk;simpa [Addr.add] using hc0
  | 1,hk=>simp at hk;subst hk;simpa [Addr.add] using hc1
  | 2,hk=>simp at hk;subst hk;simpa [Addr.add] using hc2
 ·intro v' w1 hown hg hat
  obtain ⟨va,vb,vc,rfl⟩:=jAu hown
  have hnl:=(Array.getElem?_eq_some_iff.1 hd.blk).1
  simp only [] at hnl
  have hn1:w1.heap[pp]?=some (jJk sv wv x):=((Fr.of_grown hg).block pp (by have:=hf.size;omega) (by simp;exact jAe hd.wrs hd.blk dN)).trans ((hf.block pp hnl sE).trans hd.blk)
  obtain ⟨q1,q2⟩:=h.law.wrApp hp hx hf hg hown (λg hg=>hat.elim (λe=>.inl (by rw [← e];exact hg)) (λe=>.inr (by rw [e] at hg;cases hg;exact hf.size)))
  obtain ⟨Ls,hN⟩:=h.nds
  exact post va vb vc w1 hn1 ⟨q1,⟨Ls,q2.nds hN⟩,h.bag,h.lgf.trans (q2.lg h.law.low.2)⟩
theorem AtH.wrote {w W:World} {g:Nat} {t:TypeId} {a b c x y z:Value} (hf:Fr [] w W) (h:AtH W g (.cells #[a,b,c] t)) (hg:w.heap.size≤g):Fr [] w (((W.setCell ⟨g,0,none⟩ x).setCell ⟨g,1,none⟩ y).setCell ⟨g,2,none⟩ z)∧AtH (((W.setCell ⟨g,0,none⟩ x).setCell ⟨g,1,none⟩ y).setCell ⟨g,2,none⟩ z) g (.cells #[x,y,z] t)∧w.heap.size≤g:=by
 refine ⟨((hf.setCell (.inr hg) _).setCell (.inr hg) _).setCell (.inr hg) _,?_,hg⟩
 have:=jA5 (jA5 (jA5 h 0 x) 1 y) 2 z
 simp at this
 exact this
def vlW (id m:Nat):ByteArray:=(((⟨#[116]⟩:ByteArray)++str (dgs id))++⟨#[46]⟩)++str (dgs m)
section
variable {w0 w:World} {B np n K:Nat} {hv:Value} {hps:List Nat} {A:ANet} {x:ADeal} {j i sq:Nat} {s s':AShard} {out:List Msg}
theorem jHn (a b c:Int) (h:NetB w0 w B np n K hv hps A) (hn:n=A.ss.length) (hnl:n≤90) (hn1:1≤n) (ha:InI a) (hb:InI b) (hc:InI c) (hj:j=A.ds.length - 1 - pkC a A.ds.length) (hx:A.ds[j]?=some x) (hi:i=pkC b n) (hdl:A.ds.length≤1000000) (hid:x.id<1000000000) (hB:2≤B) (hmet:Met w0) (hpow:Pows w0) (hK:K≤290000) (hask:x.asked=false) (hlen:x.seq.length=n+1) (hs:A.ss[i]?=some (s,out)) (hsq:x.seq[i+1]?=some sq) (hop:s.operate x.id (sq:Int) (keyB (pkC c 5)) ⟨1,vlW x.id x.writes.length⟩=(s',0)) (hwl:x.writes.length≤1000000) (hsl:sq≤1000000) :
  Calls Tryz.prog 56 #[ptrV np,stpV 3 a b c] w λe w'=>e=.returned (.bool true)∧NetB w0 w' B np n (K+1) hv hps { A with ss:=A.ss.set i (s',out),ds:=A.ds.set j { x with writes:=x.writes++[(i+1,keyB (pkC c 5),vlW x.id x.writes.length)],seq:=x.seq.set (i+1) (sq+1) } }:=by
 have hkz0:=jEm (pkC c 5) (jCn c 5 dN)
 obtain ⟨dv,bv,ov,fl,ps,hL⟩:=h.l
 obtain ⟨gh,hcap,rfl,-⟩:=hL.hvS hn
 obtain ⟨gd,dc,p,rfl,hp,-,-⟩:=hL.law.dealAt hx
 obtain ⟨pp,sv,wv⟩:=p
 obtain ⟨D,hD⟩:∃ D,D=A.ds.length:=⟨_,rfl⟩
 rw [← hD] at hL hj hdl
 have hjl:j<D:=by rw [hD];exact (List.getElem?_eq_some_iff.1 hx).1
 obtain ⟨q,hq⟩:∃ q,q=pkC a D:=⟨_,rfl⟩
 obtain ⟨cc,hcc⟩:∃ cc,cc=pkC c 5:=⟨_,rfl⟩
 have hpa:=λw'=>jBk a D w' ha.1 (by have:=ha.2;omega) oE oE
 have hpb:=λw'=>jBk b n w' hb.1 (by have:=hb.2;omega) oE oE
 have hpc:=λw'=>jBk c 5 w' hc.1 (by have:=hc.2;omega) oE oE
 rw [← hq] at hpa
 rw [← hi] at hpb
 rw [← hcc] at hpc
 have hqD:q<D:=by rw [hq];exact jCn _ _ oE
 have hin:i<n:=by rw [hi];exact jCn _ _ oE
 have hc5:cc<5:=by rw [hcc];exact jCn _ _ oE
 have hjq:j=D - 1 - q:=by rw [hj,hq]
 obtain ⟨i1,hi1⟩:∃ i1,i1=i+1:=⟨_,rfl⟩
 obtain ⟨W,hW⟩:∃ W,W=w.alloc (stpO 3 a b c):=⟨_,rfl⟩
 have hfW:Fr [] w W:=by rw [hW];exact (Fr.refl [] w).alloc _
 have hsb:W.heap[w.heap.size]?=some (stpO 3 a b c):=by rw [hW];exact heap_alloc_new w _
 have hL1:=hL.new hfW
 obtain ⟨gd1,dc1,p1,ed1,hp1,cgd,-⟩:=hL1.law.dealAt hx
 rw [← hD] at ed1
 cases ed1
 rw [hp] at hp1
 cases hp1
 have n1:=jA0 hL1.law.net 1
 have s0:=jA0 hsb 0
 have s1:=jA0 hsb 1
 simp at n1 s0 s1 cgd
 have HPA:=jA1 hpa
 have HPB:=jA1 hpb
 have HPC:=jA1 hpc
 have HL1:=jA1 (And.intro hL1 hsb)
 have H0:=jA1 (And.intro hn (And.intro hD (And.intro hx (And.intro hp (And.intro hmet (And.intro hpow (And.intro hcc hi1)))))))
 have D0:¬ (D:Int)=0:=by omega
 have D1:IntKind.i64.wrap ((D:Int) - 1)=(D:Int) - 1:=by rw [IntKind.wrap_i64];omega
 have D2:IntKind.i64.wrap ((D:Int) - 1 - (q:Int))=(j:Int):=by rw [IntKind.wrap_i64];omega
 have j0:(0:Int)≤(j:Int):=by omega
 have j1:(j:Int)<(D:Int):=by omega
 have hwi:IntKind.i64.wrap (1+(i:Int))=(i1:Int):=by rw [IntKind.wrap_i64];omega
 have hi1n:1≤i1∧i1≤n:=by omega
 rw [hW] at n1 s0 s1 cgd
 rw [← hcc] at hop hkz0 ⊢
 rw [← hi1] at hsq ⊢
 have HQ:=jA1 (And.intro hsq hlen)
 have HA:=jA1 hask
 have HNs:Hid (n=(A.ss.set i (s',out)).length):=by rw [List.length_set];exact hn
 clear hask
 have HO:=jA1 (And.intro hs (And.intro hop hkz0))
 clear hs hop hkz0 hsq hlen
 clear h hL hn hD hx hp hj hi hq hcc hpa hpb hpc hfW hsb hL1 hmet hpow hqD hjq ha hb hc hi1 hdl hjl
 go_enter Tryz.func56,Tryz.ntmps56
 go_wp2_with fail
 rw [← hW]
 rw [← hW] at n1 s0 s1 cgd
 clear hW s0
 go_region_held3 (λw'=>w'.cell? ⟨np,1,none⟩=some (.slice (some ⟨gd,0,none⟩) D dc)∧w'.cell? ⟨w.heap.size,1,none⟩=some (.int .i64 a)∧w'.cell? ⟨gd,j,none⟩=some (.pointer (some ⟨pp,0,none⟩))) (simp [*])
  (first | (go_at_call 10;refine (HPA.out _).mono ?_;rintro e w3 ⟨rfl,rfl⟩))
 have HL2:=jA1 (And.intro (HL1.out.1.new (Fr.refl [] W).drew) (show W.drew.heap[w.heap.size]?=some (stpO 3 a b c) from HL1.out.2))
 generalize W.drew=W2 at HL2 ⊢
 clear n1 s1 cgd D0 D1 D2 HPA HL1
 have n4:=jA0 HL2.out.1.law.net 4
 have s2:=jA0 HL2.out.2 2
 simp at n4 s2
 go_wp2_with fail
 go_region_held3 (λw'=>w'.cell? ⟨w.heap.size,2,none⟩=some (.int .i64 b)∧w'.cell? ⟨np,4,none⟩=some (.int .i64 (n:Int))) (simp [*])
  (first | (go_at_call 10;refine (HPB.out _).mono ?_;rintro e w3 ⟨rfl,rfl⟩))
 have HL3:=jA1 (And.intro (HL2.out.1.new (Fr.refl [] W2).drew) (show W2.drew.heap[w.heap.size]?=some (stpO 3 a b c) from HL2.out.2))
 generalize W2.drew=W3 at HL3 ⊢
 clear n4 s2 HPB HL2
 have s3:=jA0 HL3.out.2 3
 simp at s3
 go_wp2_with fail
 refine (HPC.out _).mono ?_
 rintro e w4 ⟨rfl,e4⟩
 rw [e4]
 clear e4 s3 HPC
 go_wp2_with fail
 refine (jBi cc oE W3).mono ?_
 rintro e w5 ⟨rfl,hf5⟩
 have hs5:w5.heap[w.heap.size]?=some (stpO 3 a b c):=(hf5.block _ (Array.getElem?_eq_some_iff.1 HL3.out.2).1 sE).trans HL3.out.2
 have HL5:=jA1 (And.intro (HL3.out.1.new hf5) hs5)
 clear hf5 hs5 HL3
 have hkey:(⟨#[107]⟩:ByteArray)++str (dgs cc)=keyB cc:=by unfold keyB;rw [show (107 :: dgs cc)=[107]++dgs cc from rfl,jFi];rfl
 have hz1:(str (dgs cc)).size=1:=by rw [jB1,jD9 oE];rfl
 have hz0:(⟨#[107]⟩:ByteArray).size=1:=rfl
 have hks:¬ 9223372036854775807<1+(str (dgs cc)).size:=by omega
 have s0:=jA0 HL5.out.2 0
 have hdl:=HL5.out.1.law.each j _ x H0.out.2.2.2.1 H0.out.2.2.1
 have d3:=jA0 hdl.blk 3
 simp at s0 d3
 rw [HA.out] at d3
 obtain ⟨wm,hwm⟩:∃ wm,wm=x.writes.length:=⟨_,rfl⟩
 have hwr:=hdl.wrs
 obtain ⟨wo,wcap,ewv⟩:∃ wo wcap,wv=.slice wo wm wcap:=by
  rcases hwr.2 with ⟨e,e2⟩ | ⟨g,cap,cur,e,-⟩
  ·exact ⟨none,0,by rw [hwm,e2];exact e⟩
  ·exact ⟨_,_,by rw [hwm];exact e⟩
 subst ewv
 rw [← hwm] at HO hwl
 have HWM:=jA1 hwm
 clear hdl hwr hwm
 go_wp2_with fail
 clear s0 d3 hks hz1 hz0
 have hdl:=HL5.out.1.law.each j _ x H0.out.2.2.2.1 H0.out.2.2.1
 have d0:=jA0 hdl.blk 0
 have d2:=jA0 hdl.blk 2
 simp at d0 d2
 have hpl:pp<w5.heap.size:=(Array.getElem?_eq_some_iff.1 hdl.blk).1
 have hidw:IntKind.i64.wrap (x.id:Int)=(x.id:Int):=by rw [IntKind.wrap_i64];omega
 have hb1:x.id≤1099511627776:=by omega
 have hb2:wm≤1099511627776:=by omega
 obtain ⟨si,hsi⟩:∃ si,(str (dgs x.id)).size=si:=⟨_,rfl⟩
 obtain ⟨sm,hsm⟩:∃ sm,(str (dgs wm)).size=sm:=⟨_,rfl⟩
 have hsib:si≤1000000001:=by rw [← hsi,jB1];have:=jIm x.id;omega
 have hsmb:sm≤1000000001:=by rw [← hsm,jB1];have:=jIm wm;omega
 have hz6:(⟨#[116]⟩:ByteArray).size=1:=rfl
 have hz7:(⟨#[46]⟩:ByteArray).size=1:=rfl
 have hq1:¬ 9223372036854775807<1+si:=by omega
 have hq2:¬ 9223372036854775807<1+si+1:=by omega
 have hq3:¬ 9223372036854775807<1+si+1+sm:=by omega
 have HD5:=jA1 hdl
 have hp5:pp≠w5.heap.size:=Nat.ne_of_lt hpl
 have hp5':¬ w5.heap.size=pp:=λe=>hp5 e.symm
 clear hdl
 go_cut [12] from 179 to 196 (λv wx=>∃ g,v=.pointer (some ⟨g,0,none⟩)∧Hid (Fr [] w5 wx∧AtH wx g (.cells #[.int .i64 (i1:Int),.string (keyB cc),.string (vlW x.id wm)] 57)∧w5.heap.size≤g))
 case first =>
  refine jEc (S:=(λw'=>w'.cell? ⟨pp,0,none⟩=some (.int .u64 (x.id:Int))∧w'.cell? ⟨pp,2,none⟩=some (.slice wo wm wcap))) (z:=19) (by kernel_rfl) rfl (by kernel_rfl) ((by exact ⟨d0,d2⟩)) (λhHeld=>?_)
  refine tkH (i:=0) (oi:=⟨some 179,.move (.tmp 9),3,"cluster.go:187",#[],none⟩) (v:=.int .i64 (i1:Int)) ?_ ?_
  ·intro w hSw;(try dsimp only at hSw);go_simp
  (try simp only [Act.put,tP,tQ,tR])
  refine tkH (i:=1) (oi:=⟨some 180,.move (.tmp 10),9,"cluster.go:187",#[],none⟩) (v:=.string (keyB cc)) ?_ ?_
  ·intro w hSw;(try dsimp only at hSw);go_simp
  (try simp only [Act.put,tP,tQ,tR])
  refine tkH (i:=2) (oi:=⟨some 181,.move (.tmp 8),55,"cluster.go:187",#[],none⟩) (v:=.pointer (some ⟨pp,0,none⟩)) ?_ ?_
  ·intro w hSw;(try dsimp only at hSw);go_simp
  (try simp only [Act.put,tP,tQ,tR])
  refine tkH (i:=3) (oi:=⟨some 182,.nilCheck (.tmp 181),0,"cluster.go:187",#[⟨2,.data⟩],none⟩) (v:=.pointer (some ⟨pp,0,none⟩)) ?_ ?_
  ·intro w hSw;(try dsimp only at hSw);go_simp
  (try simp only [Act.put,tP,tQ,tR])
  refine tkH (i:=4) (oi:=⟨some 183,.fieldAddr 60 (.tmp 182) 0,0,"cluster.go:187",#[⟨3,.data⟩],none⟩) (v:=.pointer (some ⟨pp,0,none⟩)) ?_ ?_
  ·intro w hSw;(try dsimp only at hSw);go_simp
  (try simp only [Act.put,tP,tQ,tR])
  refine tkH (i:=5) (oi:=⟨some 184,.load 43 (.tmp 183),43,"cluster.go:187",#[⟨4,.data⟩],none⟩) (v:=.int .u64 (x.id:Int)) ?_ ?_
  ·intro w hSw;(try dsimp only at hSw);go_simp
  (try simp only [Act.put,tP,tQ,tR])
  refine tkH (i:=6) (oi:=⟨some 185,.convert 43 3 (.tmp 184),3,"cluster.go:187",#[⟨5,.data⟩],none⟩) (v:=.int .i64 (x.id:Int)) ?_ ?_
  ·intro w hSw;(try dsimp only at hSw);go_simp
  (try simp only [Act.put,tP,tQ,tR])
  refine tkH (i:=10) (oi:=⟨some 189,.move (.tmp 8),55,"cluster.go:187",#[],none⟩) (v:=.pointer (some ⟨pp,0,none⟩)) ?_ ?_
  ·intro w hSw;(try dsimp only at hSw);go_simp
  (try simp only [Act.put,tP,tQ,tR])
  refine tkH (i:=11) (oi:=⟨some 190,.nilCheck (.tmp 189),0,"cluster.go:187",#[⟨10,.data⟩],none⟩) (v:=.pointer (some ⟨pp,0,none⟩)) ?_ ?_
  ·intro w hSw;(try dsimp only at hSw);go_simp
  (try simp only [Act.put,tP,tQ,tR])
  refine tkH (i:=12) (oi:=⟨some 191,.fieldAddr 60 (.tmp 190) 2,0,"cluster.go:187",#[⟨11,.data⟩],none⟩) (v:=.pointer (some ⟨pp,2,none⟩)) ?_ ?_
  ·intro w hSw;(try dsimp only at hSw);go_simp
  (try simp only [Act.put,tP,tQ,tR])
  refine tkH (i:=13) (oi:=⟨some 192,.load 58 (.tmp 191),58,"cluster.go:187",#[⟨12,.data⟩],none⟩) (v:=.slice wo wm wcap) ?_ ?_
  ·intro w hSw;(try dsimp only at hSw);go_simp
  (try simp only [Act.put,tP,tQ,tR])
  refine tkH (i:=14) (oi:={ dst:=some 193,op:=Op.call { callee:=Callee.builtin Builtin.len,args:=#[Operand.tmp 192],argTypes:=#[58] },type:=3,pos := "cluster.go:187",after:=#[⟨13,.data⟩],guard:=none }) (v:=.int .i64 (wm:Int)) ?_ ?_
  ·intro w hSw;(try dsimp only at hSw);go_simp
  (try simp only [Act.put,tP,tQ,tR])
  refine wpAnyH_ready (rs:=[7,18]) (by kernel_rfl) (by simp) ?_
  refine AllReadyH.cons (o:={ dst:=some 186,op:=Op.call { callee:=Callee.value (Operand.func 14),args:=#[Operand.tmp 185],argTypes:=#[3] },type:=9,pos := "cluster.go:187",after:=#[⟨6,.data⟩],guard:=none }) rfl (λK hK=>?_) (AllReadyH.cons (o:=⟨some 12,.alloc 57,0,"cluster.go:187",#[],none⟩) rfl (λK hK=>?_) (AllReadyH.nil))
  ·go_simp
   refine (jBi _ (by assumption) _).mono ?_
   rintro e w6 ⟨rfl,hf⟩
   have hf':Fr [] w5 w6:=Fr.trans (by repeat (first | with_reducible exact Fr.refl [] _ | exact HF6.out | with_reducible refine Fr.alloc ?_ _ | with_reducible refine Fr.drew ?_)) hf
   have HF6:=jA1 hf'
   have hb':=(hf'.block pp hpl sE).trans HD5.out.blk
   have d0':=jA0 hb' 0
   have d2':=jA0 hb' 2
   simp at d0' d2'
   clear hf hf' hb'
   refine hK.out _ _ ?_ (λhHeld=>?_)
   ·exact ⟨d0',d2'⟩
   clear hK K
   (try simp only [Act.put,tP,tQ,tR])
   refine tkH (i:=8) (oi:={ dst:=some 187,op:=Op.binOp BinOp.add 9 (Operand.const (Value.string { data:=#[116] })) (Operand.tmp 186) 9,type:=9,pos := "cluster.go:187",after:=#[⟨7,.data⟩],guard:=none }) (v:=.string ((⟨#[116]⟩:ByteArray)++str (dgs x.id))) ?_ ?_
   ·intro w hSw;(try dsimp only at hSw);go_simp
   (try simp only [Act.put,tP,tQ,tR])
   refine tkH (i:=9) (oi:={ dst:=some 188,op:=Op.binOp BinOp.add 9 (Operand.tmp 187) (Operand.const (Value.string { data:=#[46] })) 9,type:=9,pos := "cluster.go:187",after:=#[⟨8,.data⟩],guard:=none }) (v:=.string (((⟨#[116]⟩:ByteArray)++str (dgs x.id))++⟨#[46]⟩)) ?_ ?_
   ·intro w hSw;(try dsimp only at hSw);go_simp
   (try simp only [Act.put,tP,tQ,tR])
   refine wpAnyH_ready (rs:=[15,18]) (by kernel_rfl) (by simp) ?_
   refine AllReadyH.cons (o:={ dst:=some 194,op:=Op.call { callee:=Callee.value (Operand.func 14),args:=#[Operand.tmp 193],argTypes:=#[3] },type:=9,pos := "cluster.go:187",after:=#[⟨14,.data⟩,⟨7,.chain⟩],guard:=none }) rfl (λK hK=>?_) (AllReadyH.cons (o:=⟨some 12,.alloc 57,0,"cluster.go:187",#[],none⟩) rfl (λK hK=>?_) (AllReadyH.nil))
   ·go_simp
    refine (jBi _ (by assumption) _).mono ?_
    rintro e w7 ⟨rfl,hf⟩
    have hf':Fr [] w5 w7:=Fr.trans (by repeat (first | with_reducible exact Fr.refl [] _ | exact HF6.out | with_reducible refine Fr.alloc ?_ _ | with_reducible refine Fr.drew ?_)) hf
    have HF7:=jA1 hf'
    have hb':=(hf'.block pp hpl sE).trans HD5.out.blk
    have d0':=jA0 hb' 0
    have d2':=jA0 hb' 2
    simp at d0' d2'
    clear hf hf' hb'
    refine hK.out _ _ ?_ (λhHeld=>?_)
    ·exact ⟨d0',d2'⟩
    clear hK K
    (try simp only [Act.put,tP,tQ,tR])
    refine tkH (i:=16) (oi:=⟨some 195,.binOp BinOp.add 9 (.tmp 188) (.tmp 194) 9,9,"cluster.go:187",#[⟨9,.data⟩,⟨15,.data⟩],none⟩) (v:=.string ((((⟨#[116]⟩:ByteArray)++str (dgs x.id))++⟨#[46]⟩)++str (dgs wm))) ?_ ?_
    ·intro w hSw;(try dsimp only at hSw);go_simp
    (try simp only [Act.put,tP,tQ,tR])
    refine tkH (i:=17) (oi:=⟨some 196,.build 57 #[(0,.tmp 179),(1,.tmp 180),(2,.tmp 195)],57,"cluster.go:187",#[⟨0,.data⟩,⟨1,.data⟩,⟨16,.data⟩],none⟩) (v:=.agg #[.int .i64 (i1:Int),.string (keyB cc),.string ((((⟨#[116]⟩:ByteArray)++str (dgs x.id))++⟨#[46]⟩)++str (dgs wm))]) ?_ ?_
    ·intro w hSw;(try dsimp only at hSw);go_simp
    (try simp only [Act.put,tP,tQ,tR])
    refine wpAnyH_ready (rs:=[18]) (by kernel_rfl) (by simp) ?_
    refine AllReadyH.cons (o:=⟨some 12,.alloc 57,0,"cluster.go:187",#[],none⟩) rfl (λK hK=>?_) (AllReadyH.nil)
    go_simp
    refine hK.out _ _ ?_ (λhHeld=>?_)
    ·(first | exact ⟨jAm hHeld.1 _,jAm hHeld.2 _⟩ | (simp [*];done))
    clear hK K
    (try simp only [Act.put,tP,tQ,tR])
    refine wpAnyH_done (by kernel_rfl) ?_ _
    refine jE5 (o:=⟨none,.store 57 (.tmp 12) (.tmp 196),0,"cluster.go:187",#[⟨18,.data⟩,⟨17,.data⟩,⟨15,.chain⟩,⟨0,.phase⟩,⟨1,.phase⟩,⟨2,.phase⟩,⟨3,.phase⟩,⟨4,.phase⟩,⟨5,.phase⟩,⟨6,.phase⟩,⟨7,.phase⟩,⟨8,.phase⟩,⟨9,.phase⟩,⟨10,.phase⟩,⟨11,.phase⟩,⟨12,.phase⟩,⟨13,.phase⟩,⟨14,.phase⟩,⟨15,.phase⟩,⟨16,.phase⟩,⟨17,.phase⟩,⟨18,.phase⟩],none⟩) rfl rfl ?_
    go_simp
    go_wp2_with fail
    go_meet
    exact ⟨w7.heap.size,rfl,HF7.out.alloc _,AtH.new _ _ rfl,HF7.out.size⟩
   ·go_simp
    refine hK.out _ _ ?_ (λhHeld=>?_)
    ·(first | exact ⟨jAm hHeld.1 _,jAm hHeld.2 _⟩ | (simp [*];done))
    clear hK K
    (try simp only [Act.put,tP,tQ,tR])
    refine wpAnyH_ready (rs:=[15]) (by kernel_rfl) (by simp) ?_
    refine AllReadyH.cons (o:={ dst:=some 194,op:=Op.call { callee:=Callee.value (Operand.func 14),args:=#[Operand.tmp 193],argTypes:=#[3] },type:=9,pos := "cluster.go:187",after:=#[⟨14,.data⟩,⟨7,.chain⟩],guard:=none }) rfl (λK hK=>?_) (AllReadyH.nil)
    go_simp
    refine (jBi _ (by assumption) _).mono ?_
    rintro e w7 ⟨rfl,hf⟩
    have hf':Fr [] w5 w7:=Fr.trans (by repeat (first | with_reducible exact Fr.refl [] _ | exact HF6.out | with_reducible refine Fr.alloc ?_ _ | with_reducible refine Fr.drew ?_)) hf
    have HG7:=jA1 (show AtH w7 w6.heap.size (.cells #[.int .i64 0,.string ⟨#[]⟩,.string ⟨#[]⟩] 57) from AtH.fr (by repeat (first | exact HG6.out | with_reducible exact AtH.new _ _ (by simp) | with_reducible refine AtH.alloc ?_ _ | with_reducible refine AtH.drew ?_)) hf)
    have HF7:=jA1 hf'
    have hb':=(hf'.block pp hpl sE).trans HD5.out.blk
    have d0':=jA0 hb' 0
    have d2':=jA0 hb' 2
    simp at d0' d2'
    clear hf hf' hb'
    refine hK.out _ _ ?_ (λhHeld=>?_)
    ·exact ⟨d0',d2'⟩
    clear hK K
    (try simp only [Act.put,tP,tQ,tR])
    refine tkH (i:=16) (oi:=⟨some 195,.binOp BinOp.add 9 (.tmp 188) (.tmp 194) 9,9,"cluster.go:187",#[⟨9,.data⟩,⟨15,.data⟩],none⟩) (v:=.string ((((⟨#[116]⟩:ByteArray)++str (dgs x.id))++⟨#[46]⟩)++str (dgs wm))) ?_ ?_
    ·intro w hSw;(try dsimp only at hSw);go_simp
    (try simp only [Act.put,tP,tQ,tR])
    refine tkH (i:=17) (oi:=⟨some 196,.build 57 #[(0,.tmp 179),(1,.tmp 180),(2,.tmp 195)],57,"cluster.go:187",#[⟨0,.data⟩,⟨1,.data⟩,⟨16,.data⟩],none⟩) (v:=.agg #[.int .i64 (i1:Int),.string (keyB cc),.string ((((⟨#[116]⟩:ByteArray)++str (dgs x.id))++⟨#[46]⟩)++str (dgs wm))]) ?_ ?_
    ·intro w hSw;(try dsimp only at hSw);go_simp
    (try simp only [Act.put,tP,tQ,tR])
    refine wpAnyH_done (by kernel_rfl) ?_ _
    refine jE5 (o:=⟨none,.store 57 (.tmp 12) (.tmp 196),0,"cluster.go:187",#[⟨18,.data⟩,⟨17,.data⟩,⟨15,.chain⟩,⟨0,.phase⟩,⟨1,.phase⟩,⟨2,.phase⟩,⟨3,.phase⟩,⟨4,.phase⟩,⟨5,.phase⟩,⟨6,.phase⟩,⟨7,.phase⟩,⟨8,.phase⟩,⟨9,.phase⟩,⟨10,.phase⟩,⟨11,.phase⟩,⟨12,.phase⟩,⟨13,.phase⟩,⟨14,.phase⟩,⟨15,.phase⟩,⟨16,.phase⟩,⟨17,.phase⟩,⟨18,.phase⟩],none⟩) rfl rfl ?_
    have z0:=jA0 HG7.out 0
    have z1:=jA0 HG7.out 1
    have z2:=jA0 HG7.out 2
    have y0:=jA2 HG7.out 0
    have y1:=jA2 HG7.out 1
    have y2:=jA2 HG7.out 2
    simp at z0 z1 z2
    go_simp
    go_wp2_with fail
    go_meet
    exact ⟨w6.heap.size,rfl,AtH.wrote HF7.out HG7.out HF6.out.size⟩
  ·go_simp
   refine hK.out _ _ ?_ (λhHeld=>?_)
   ·(first | exact ⟨jAm hHeld.1 _,jAm hHeld.2 _⟩ | (simp [*];done))
   clear hK K
   (try simp only [Act.put,tP,tQ,tR])
   refine wpAnyH_ready (rs:=[7]) (by kernel_rfl) (by simp) ?_
   refine AllReadyH.cons (o:={ dst:=some 186,op:=Op.call { callee:=Callee.value (Operand.func 14),args:=#[Operand.tmp 185],argTypes:=#[3] },type:=9,pos := "cluster.go:187",after:=#[⟨6,.data⟩],guard:=none }) rfl (λK hK=>?_) (AllReadyH.nil)
   go_simp
   refine (jBi _ (by assumption) _).mono ?_
   rintro e w6 ⟨rfl,hf⟩
   have hf':Fr [] w5 w6:=Fr.trans (by repeat (first | with_reducible exact Fr.refl [] _ | exact HF6.out | with_reducible refine Fr.alloc ?_ _ | with_reducible refine Fr.drew ?_)) hf
   have HG6:=jA1 (show AtH w6 w5.heap.size (.cells #[.int .i64 0,.string ⟨#[]⟩,.string ⟨#[]⟩] 57) from AtH.fr (by repeat (first | exact HG6.out | with_reducible exact AtH.new _ _ (by simp) | with_reducible refine AtH.alloc ?_ _ | with_reducible refine AtH.drew ?_)) hf)
   have HF6:=jA1 hf'
   have hb':=(hf'.block pp hpl sE).trans HD5.out.blk
   have d0':=jA0 hb' 0
   have d2':=jA0 hb' 2
   simp at d0' d2'
   clear hf hf' hb'
   refine hK.out _ _ ?_ (λhHeld=>?_)
   ·exact ⟨d0',d2'⟩
   clear hK K
   (try simp only [Act.put,tP,tQ,tR])
   refine tkH (i:=8) (oi:={ dst:=some 187,op:=Op.binOp BinOp.add 9 (Operand.const (Value.string { data:=#[116] })) (Operand.tmp 186) 9,type:=9,pos := "cluster.go:187",after:=#[⟨7,.data⟩],guard:=none }) (v:=.string ((⟨#[116]⟩:ByteArray)++str (dgs x.id))) ?_ ?_
   ·intro w hSw;(try dsimp only at hSw);go_simp
   (try simp only [Act.put,tP,tQ,tR])
   refine tkH (i:=9) (oi:={ dst:=some 188,op:=Op.binOp BinOp.add 9 (Operand.tmp 187) (Operand.const (Value.string { data:=#[46] })) 9,type:=9,pos := "cluster.go:187",after:=#[⟨8,.data⟩],guard:=none }) (v:=.string (((⟨#[116]⟩:ByteArray)++str (dgs x.id))++⟨#[46]⟩)) ?_ ?_
   ·intro w hSw;(try dsimp only at hSw);go_simp
   (try simp only [Act.put,tP,tQ,tR])
   refine wpAnyH_ready (rs:=[15]) (by kernel_rfl) (by simp) ?_
   refine AllReadyH.cons (o:={ dst:=some 194,op:=Op.call { callee:=Callee.value (Operand.func 14),args:=#[Operand.tmp 193],argTypes:=#[3] },type:=9,pos := "cluster.go:187",after:=#[⟨14,.data⟩,⟨7,.chain⟩],guard:=none }) rfl (λK hK=>?_) (AllReadyH.nil)
   go_simp
   refine (jBi _ (by assumption) _).mono ?_
   rintro e w7 ⟨rfl,hf⟩
   have hf':Fr [] w5 w7:=Fr.trans (by repeat (first | with_reducible exact Fr.refl [] _ | exact HF6.out | with_reducible refine Fr.alloc ?_ _ | with_reducible refine Fr.drew ?_)) hf
   have HG7:=jA1 (show AtH w7 w5.heap.size (.cells #[.int .i64 0,.string ⟨#[]⟩,.string ⟨#[]⟩] 57) from AtH.fr (by repeat (first | exact HG6.out | with_reducible exact AtH.new _ _ (by simp) | with_reducible refine AtH.alloc ?_ _ | with_reducible refine AtH.drew ?_)) hf)
   have HF7:=jA1 hf'
   have hb':=(hf'.block pp hpl sE).trans HD5.out.blk
   have d0':=jA0 hb' 0
   have d2':=jA0 hb' 2
   simp at d0' d2'
   clear hf hf' hb'
   refine hK.out _ _ ?_ (λhHeld=>?_)
   ·exact ⟨d0',d2'⟩
   clear hK K
   (try simp only [Act.put,tP,tQ,tR])
   refine tkH (i:=16) (oi:=⟨some 195,.binOp BinOp.add 9 (.tmp 188) (.tmp 194) 9,9,"cluster.go:187",#[⟨9,.data⟩,⟨15,.data⟩],none⟩) (v:=.string ((((⟨#[116]⟩:ByteArray)++str (dgs x.id))++⟨#[46]⟩)++str (dgs wm))) ?_ ?_
   ·intro w hSw;(try dsimp only at hSw);go_simp
   (try simp only [Act.put,tP,tQ,tR])
   refine tkH (i:=17) (oi:=⟨some 196,.build 57 #[(0,.tmp 179),(1,.tmp 180),(2,.tmp 195)],57,"cluster.go:187",#[⟨0,.data⟩,⟨1,.data⟩,⟨16,.data⟩],none⟩) (v:=.agg #[.int .i64 (i1:Int),.string (keyB cc),.string ((((⟨#[116]⟩:ByteArray)++str (dgs x.id))++⟨#[46]⟩)++str (dgs wm))]) ?_ ?_
   ·intro w hSw;(try dsimp only at hSw);go_simp
   (try simp only [Act.put,tP,tQ,tR])
   refine wpAnyH_done (by kernel_rfl) ?_ _
   refine jE5 (o:=⟨none,.store 57 (.tmp 12) (.tmp 196),0,"cluster.go:187",#[⟨18,.data⟩,⟨17,.data⟩,⟨15,.chain⟩,⟨0,.phase⟩,⟨1,.phase⟩,⟨2,.phase⟩,⟨3,.phase⟩,⟨4,.phase⟩,⟨5,.phase⟩,⟨6,.phase⟩,⟨7,.phase⟩,⟨8,.phase⟩,⟨9,.phase⟩,⟨10,.phase⟩,⟨11,.phase⟩,⟨12,.phase⟩,⟨13,.phase⟩,⟨14,.phase⟩,⟨15,.phase⟩,⟨16,.phase⟩,⟨17,.phase⟩,⟨18,.phase⟩],none⟩) rfl rfl ?_
   have z0:=jA0 HG7.out 0
   have z1:=jA0 HG7.out 1
   have z2:=jA0 HG7.out 2
   have y0:=jA2 HG7.out 0
   have y1:=jA2 HG7.out 1
   have y2:=jA2 HG7.out 2
   simp at z0 z1 z2
   go_simp
   go_wp2_with fail
   go_meet
   exact ⟨w5.heap.size,rfl,AtH.wrote HF7.out HG7.out (Nat.le_refl _)⟩
 case rest =>
 obtain ⟨gw,rfl,HC⟩:=hcut
 have HL6:=jA1 (And.intro (HL5.out.1.new HC.out.1) HC.out.2)
 clear d0 d2 hidw hb1 hb2 hsi hsm hz6 hz7 hq1 hq2 hq3 hp5 hp5' hpl HD5 HC
 obtain ⟨hq,hhq⟩:∃ y,hps[i1]?=some y:=⟨_,List.getElem?_eq_getElem (by have:=HL6.out.1.b.ln;have:=H0.out.1;omega)⟩
 obtain ⟨g6,c6,eg6,hcl⟩:=HL6.out.1.hvS H0.out.1
 cases eg6
 have chi:=hcl i1 hq hhq
 have n0:=jA0 HL6.out.1.law.net 0
 have hdl:=HL6.out.1.law.each j _ x H0.out.2.2.2.1 H0.out.2.2.1
 have d0:=jA0 hdl.blk 0
 have d1:=jA0 hdl.blk 1
 obtain ⟨gq,cq,esv,cgq⟩:=jDr hdl.seq HQ.out.1
 rw [HQ.out.2] at esv
 simp only [] at esv
 subst esv
 simp at chi n0 d0 d1 cgq
 have ii0:(0:Int)≤(i1:Int):=by omega
 have ii1:(i1:Int)<(n:Int)+1:=by omega
 have w2:=jA0 HL6.out.2.1 2
 simp at w2
 have hpt:∀ w',Fr [] wc w'→Calls Tryz.prog 15 #[.pointer (some ⟨hq,0,none⟩),.int .u64 (x.id:Int),.int .i64 (sq:Int),.string (keyB cc),.string (vlW x.id wm)] w' λe w''=>e=.returned (.int .i64 0)∧CallP w0 wc w'' B np n (K+1) (.slice (some ⟨gh,0,none⟩) (n+1) hcap) (.slice (some ⟨gd,0,none⟩) D dc) bv ov fl hps ps { A with ss:=A.ss.set i (s',out) }:=λw' hw'=>by
  have hm:=HL6.out.1.new hw'
  obtain ⟨Ls,hNd⟩:=hm.nds
  obtain ⟨hmt,-⟩:=hm.met hB H0.out.2.2.2.2.1 H0.out.2.2.2.2.2.1
  have hg:=kPut (t:=x.id) (i:=i) (sq:Int) (keyB cc) (vlW x.id wm) hNd HO.out.1 (by rw [← H0.out.2.2.2.2.2.2.2];exact hhq) hB hmt oE oE
  rw [HO.out.2.1] at hg
  refine hg.mono ?_
  rintro e w'' ⟨rfl,hp⟩
  exact ⟨rfl,(hm.call (A':={ A with ss:=A.ss.set i (s',out) }) hp rfl rfl rfl).of hw'⟩
 have HG:=jA1 hpt
 have HH:=jA1 hhq
 clear hpt hhq hdl hcl
 go_wp2_with fail
 go_region_held3 (λw'=>w'.cell? ⟨np,0,none⟩=some (.slice (some ⟨gh,0,none⟩) (n+1) hcap)∧w'.cell? ⟨gh,i1,none⟩=some (.pointer (some ⟨hq,0,none⟩))∧w'.cell? ⟨pp,0,none⟩=some (.int .u64 (x.id:Int))∧w'.cell? ⟨pp,1,none⟩=some (.slice (some ⟨gq,0,none⟩) (n+1) cq)∧w'.cell? ⟨gq,i1,none⟩=some (.int .i64 (sq:Int))∧w'.cell? ⟨gw,2,none⟩=some (.string (vlW x.id wm))) (simp [*])
  (first | (go_at_call 15;refine (HG.out _ (by first | exact jAk (Fr.refl [] wc) _ | exact (Fr.refl [] wc).drew | exact Fr.refl [] wc)).mono ?_;rintro e w7 ⟨rfl,hP7⟩;(obtain ⟨g7,c7,eg7,hcl7⟩:=hP7.net.hvS HNs.out);cases eg7;have chi7:=hcl7 i1 hq HH.out;have n07:=jA0 hP7.net.law.net 0;have hdl7:=hP7.net.law.each j _ x H0.out.2.2.2.1 H0.out.2.2.1;have d07:=jA0 hdl7.blk 0;have d17:=jA0 hdl7.blk 1;(obtain ⟨gq7,cq7,esv7,cgq7⟩:=jDr hdl7.seq HQ.out.1);rw [HQ.out.2] at esv7;cases esv7;simp at chi7 n07 d07 d17 cgq7;have hw7:=hP7.own _ _ _ HL6.out.2.1 wr_nt;have w27:=jA0 hw7 2;simp at w27;have H7:=jA1 (And.intro hP7.net hw7);clear hP7 hdl7 hcl7 hw7))
 clear chi n0 d0 d1 cgq w2 chi7 n07 d07 d17 cgq7 w27
 have hdl:=H7.out.1.law.each j _ x H0.out.2.2.2.1 H0.out.2.2.1
 have d2:=jA0 hdl.blk 2
 have g0:=jA0 H7.out.2 0
 have g1:=jA0 H7.out.2 1
 have g2:=jA0 H7.out.2 2
 simp at d2 g0 g1 g2
 have d2a:=λo=>jAm d2 o
 have hwl':x.writes.length≤60000000:=by rw [← HWM.out];omega
 clear hdl
 go_wp2_with fail
 go_region_law (first | (rw [if_pos (by rfl)];refine jTd (y:=(i1,keyB cc,vlW x.id wm)) H7.out.1 H0.out.2.2.2.1 H0.out.2.2.1 hwl' _ _ rfl rfl rfl ?_ ?_ ?_;(repeat (first | with_reducible exact Fr.refl [] _ | with_reducible refine Fr.alloc ?_ _ | with_reducible refine Fr.drew ?_));(repeat (first | with_reducible exact AtH.new _ _ (by simp) | with_reducible refine AtH.alloc ?_ _ | with_reducible refine AtH.drew ?_));intro va vb vc w8 b8 h8;have c8:=jA0 b8 2;have f8:=jA2 b8 2;simp at c8;have H8:=jA1 h8;clear h8 b8))
 all_goals (
  obtain ⟨wy,hwy⟩:∃ y,y=w8.setCell ⟨pp,2,none⟩ (.slice va vb vc):=⟨_,rfl⟩
  rw [← hwy] at H8 ⊢
  clear hwy d2 g0 g1 g2 d2a H7 c8 f8
  have hjl:=List.getElem?_eq_some_iff.1 H0.out.2.2.1
  have hjp:=List.getElem?_eq_some_iff.1 H0.out.2.2.2.1
  have hx9:({ A with ss:=A.ss.set i (s',out),ds:=A.ds.set j { x with writes:=x.writes++[(i1,keyB cc,vlW x.id wm)] } }:ANet).ds[j]?=some { x with writes:=x.writes++[(i1,keyB cc,vlW x.id wm)] }:=List.getElem?_set_self hjl.1
  have hp9:=List.getElem?_set_self (a:=(pp,Value.slice (some ⟨gq,0,none⟩) (n+1) cq,Value.slice va vb vc)) hjp.1
  obtain ⟨g9,c9,e9,cg9,fg9,hL9,hR9⟩:=H8.out.law.seqSet (m':=sq+1) hp9 hx9 HQ.out.1
  rw [show ({ x with writes:=x.writes++[(i1,keyB cc,vlW x.id wm)] }:ADeal).seq.length=n+1 from HQ.out.2] at e9
  cases e9
  have hdl:=H8.out.law.each j _ _ hp9 hx9
  have d1:=jA0 hdl.blk 1
  simp at d1
  have i9:(((sq+1:Nat)):Int)=(sq:Int)+1:=by omega
  rw [i9] at hL9 hR9
  obtain ⟨Ls9,hN9⟩:=H8.out.nds
  have H9:=jA1 (show NetB w0 (wy.setCell ⟨gq,i1,none⟩ (.int .i64 ((sq:Int)+1))) B np n (K+1) (.slice (some ⟨gh,0,none⟩) (n+1) hcap) hps { A with ss:=A.ss.set i (s',out),ds:=A.ds.set j { x with writes:=x.writes++[(i1,keyB cc,vlW x.id wm)],seq:=x.seq.set i1 (sq+1) } } from ⟨_,bv,ov,fl,_,Ls9,by rw [List.set_set] at hL9;exact hL9,hR9.nds hN9,H8.out.bag,H8.out.lgf.trans (hR9.lg H8.out.law.low.2)⟩)
  have hwq:IntKind.i64.wrap ((sq:Int)+1)=(sq:Int)+1:=by rw [IntKind.wrap_i64];omega
  clear hL9 hR9 hN9 hdl hx9 hp9 hjl hjp i9
  go_wp2_with fail
  go_ret
  rw [HWM.out] at H9
  exact ⟨rfl,H9.out⟩)
end
end Go.Proofs.YtcalalndmcemiaaGreatDoor
