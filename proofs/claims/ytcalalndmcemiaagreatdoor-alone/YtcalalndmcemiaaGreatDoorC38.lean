import Derived.Test.YtcalalndmcemiaaGreatDoorC37
import Derived.Test.YtcalalndmcemiaaGreatDoorC35
set_option maxRecDepth 100000
set_option maxHeartbeats 16000000
namespace Go.Proofs.YtcalalndmcemiaaGreatDoor
open Go.RowKit Go.Maps Go.Shelf
open Sc
theorem getS (nd:Nat) (s:Option Addr) (w:World) (c2:w.cell? ⟨nd,2,none⟩=some (.pointer s)):Calls Tryz.prog 82 #[.pointer (some ⟨nd,0,none⟩)] w λe w'=>e=.returned (.pointer s)∧w'=w:=by
 go_enter Tryz.func82,Tryz.ntmps82
 go_wp2
 go_ret
 exact ⟨rfl,rfl⟩
theorem getC (nd:Nat) (c:Option Addr) (w:World) (c1:w.cell? ⟨nd,1,none⟩=some (.pointer c)):Calls Tryz.prog 83 #[.pointer (some ⟨nd,0,none⟩)] w λe w'=>e=.returned (.pointer c)∧w'=w:=by
 go_enter Tryz.func83,Tryz.ntmps83
 go_wp2
 go_ret
 exact ⟨rfl,rfl⟩
theorem jCb (w:World) (b i j:Nat) (v:Value) (h:i≠j):(w.setCell ⟨b,i,none⟩ v).cell? ⟨b,j,none⟩=w.cell? ⟨b,j,none⟩:=by
 simp only [World.setCell,World.cell?,Array.getElem?_modify]
 cases hb:w.heap[b]? with
 | none=>simp
 | some o=>cases o <;> simp [h]
theorem jNq (hp nd p sp i:Nat) (ov:Value) (w:World) (hi:1≤i) (hh:w.heap[hp]?=some (jBu i p false none none (some ⟨nd,0,none⟩))) (hn:w.heap[nd]?=some (jCi i none (some ⟨sp,0,none⟩) ov)) :
  Calls Tryz.prog 43 #[.pointer (some ⟨hp,0,none⟩)] w λe w'=>e=.returned (.tuple #[])∧w'.heap[hp]?=some (jBu i p true (some ⟨sp,0,none⟩) none (some ⟨nd,0,none⟩))∧Fr [hp] w w':=by
 have c3:=jA0 hh 3
 have c7:=jA0 hh 7
 have f3:=jA2 hh 3
 simp at c3 c7
 obtain ⟨W,hW⟩:∃ W,W=w.setCell ⟨hp,3,none⟩ (.bool true):=⟨_,rfl⟩
 have hf0:Fr [hp] w W:=by rw [hW];exact Fr.set1 sE _ _
 have hhW:W.heap[hp]?=some (jBu i p true none none (some ⟨nd,0,none⟩)):=by rw [hW];have:=jA5 hh 3 (.bool true);simp at this;exact this
 have hne:nd≠hp:=by intro e;rw [e,hh] at hn;cases hn
 have hne':¬ hp=nd:=λe=>hne e.symm
 have hnW:W.heap[nd]?=some (jCi i none (some ⟨sp,0,none⟩) ov):=(hf0.block nd (Array.getElem?_eq_some_iff.1 hn).1 (by simpa using hne)).trans hn
 have d1:=jA0 hhW 1
 have d5:=jA0 hhW 5
 have d6:=jA0 hhW 6
 have d7:=jA0 hhW 7
 have g5:=jA2 hhW 5
 have g6:=jA2 hhW 6
 have n1:=jA0 hnW 1
 have n2:=jA0 hnW 2
 simp at d1 d5 d6 d7 n1 n2
 have i1:(0:Int)<(i:Int):=by omega
 have i2:¬ ((i:Int)=0):=by omega
 have HH:=jA1 (And.intro hhW hf0)
 clear hh hn hhW hnW hf0
 go_enter Tryz.func43,Tryz.ntmps43
 go_wp2
 rw [← hW]
 clear hW c3 c7 f3
 go_region_held3 (λw'=>w'.cell? ⟨hp,7,none⟩=some (.pointer (some ⟨nd,0,none⟩))∧w'.cell? ⟨nd,1,none⟩=some (.pointer none)∧w'.cell? ⟨nd,2,none⟩=some (.pointer (some ⟨sp,0,none⟩))) (simp [jB7,jCb, *])
  (first | (go_at_call 82;refine (getS nd (some ⟨sp,0,none⟩) _ (by simp [*])).mono ?_;rintro e w2 ⟨rfl,rfl⟩) | (go_at_call 83;refine (getC nd none _ (by simp [*])).mono ?_;rintro e w2 ⟨rfl,rfl⟩))
 obtain ⟨W2,hW2⟩:∃ W2,W2=((W.setCell ⟨hp,5,none⟩ (.pointer (some ⟨sp,0,none⟩))).setCell ⟨hp,6,none⟩ (.pointer none)).drew:=⟨_,rfl⟩
 rw [← hW2]
 have hf2:Fr [hp] W W2:=by rw [hW2];exact ((Fr.set1 sE _ _).trans (Fr.set1 sE _ _)).drew
 have hh2:W2.heap[hp]?=some (jBu i p true (some ⟨sp,0,none⟩) none (some ⟨nd,0,none⟩)):=by
  rw [hW2]
  have:=jA5 (jA5 HH.out.1 5 (.pointer (some ⟨sp,0,none⟩))) 6 (.pointer none)
  simp at this
  exact this
 have e1:=jA0 hh2 1
 have e3:=jA0 hh2 3
 have e5:=jA0 hh2 5
 have e6:=jA0 hh2 6
 have fr3:=jA2 hh2 3
 simp at e1 e3 e5 e6
 have H2:=jA1 (And.intro hh2 (HH.out.2.trans hf2))
 have j1:0<i:=hi
 have j2:¬ i=0:=by omega
 clear hW2 hf2 hh2 HH d1 d5 d6 d7 g5 g6 n1 n2 hne hne'
 go_wp2
 go_region_held3 (λw'=>w'.cell? ⟨hp,1,none⟩=some (.int .i64 (i:Int))∧w'.cell? ⟨hp,5,none⟩=some (.pointer (some ⟨sp,0,none⟩))∧w'.cell? ⟨hp,6,none⟩=some (.pointer none)) (simp [jCb, *]) (fail)
 go_end0
 have e0:(!((i:Int) == 0))=true:=by simp;omega
 rw [e0]
 refine ⟨rfl,?_,H2.out.2.trans ((Fr.set1 sE _ _).drew)⟩
 have:=jA5 H2.out.1 3 (.bool true)
 simp at this
 exact this
theorem jOj (hp nd p cp:Nat) (ov:Value) (w:World) (hh:w.heap[hp]?=some (jBu 0 p false none none (some ⟨nd,0,none⟩))) (hn:w.heap[nd]?=some (jCi 0 (some ⟨cp,0,none⟩) none ov)) :
  Calls Tryz.prog 43 #[.pointer (some ⟨hp,0,none⟩)] w λe w'=>e=.returned (.tuple #[])∧w'.heap[hp]?=some (jBu 0 p true none (some ⟨cp,0,none⟩) (some ⟨nd,0,none⟩))∧Fr [hp] w w':=by
 have c3:=jA0 hh 3
 have c7:=jA0 hh 7
 have f3:=jA2 hh 3
 simp at c3 c7
 obtain ⟨W,hW⟩:∃ W,W=w.setCell ⟨hp,3,none⟩ (.bool true):=⟨_,rfl⟩
 have hf0:Fr [hp] w W:=by rw [hW];exact Fr.set1 sE _ _
 have hhW:W.heap[hp]?=some (jBu 0 p true none none (some ⟨nd,0,none⟩)):=by rw [hW];have:=jA5 hh 3 (.bool true);simp at this;exact this
 have hne:nd≠hp:=by intro e;rw [e,hh] at hn;cases hn
 have hne':¬ hp=nd:=λe=>hne e.symm
 have hnW:W.heap[nd]?=some (jCi 0 (some ⟨cp,0,none⟩) none ov):=(hf0.block nd (Array.getElem?_eq_some_iff.1 hn).1 (by simpa using hne)).trans hn
 have d1:=jA0 hhW 1
 have d5:=jA0 hhW 5
 have d6:=jA0 hhW 6
 have d7:=jA0 hhW 7
 have g5:=jA2 hhW 5
 have g6:=jA2 hhW 6
 have n1:=jA0 hnW 1
 have n2:=jA0 hnW 2
 simp at d1 d5 d6 d7 n1 n2
 have HH:=jA1 (And.intro hhW hf0)
 clear hh hn hhW hnW hf0
 go_enter Tryz.func43,Tryz.ntmps43
 go_wp2
 rw [← hW]
 clear hW c3 c7 f3
 go_region_held3 (λw'=>w'.cell? ⟨hp,7,none⟩=some (.pointer (some ⟨nd,0,none⟩))∧w'.cell? ⟨nd,1,none⟩=some (.pointer (some ⟨cp,0,none⟩))∧w'.cell? ⟨nd,2,none⟩=some (.pointer none)) (simp [jB7,jCb, *])
  (first | (go_at_call 82;refine (getS nd none _ (by simp [*])).mono ?_;rintro e w2 ⟨rfl,rfl⟩) | (go_at_call 83;refine (getC nd (some ⟨cp,0,none⟩) _ (by simp [*])).mono ?_;rintro e w2 ⟨rfl,rfl⟩))
 obtain ⟨W2,hW2⟩:∃ W2,W2=((W.setCell ⟨hp,5,none⟩ (.pointer none)).setCell ⟨hp,6,none⟩ (.pointer (some ⟨cp,0,none⟩))).drew:=⟨_,rfl⟩
 rw [← hW2]
 have hf2:Fr [hp] W W2:=by rw [hW2];exact ((Fr.set1 sE _ _).trans (Fr.set1 sE _ _)).drew
 have hh2:W2.heap[hp]?=some (jBu 0 p true none (some ⟨cp,0,none⟩) (some ⟨nd,0,none⟩)):=by
  rw [hW2]
  have:=jA5 (jA5 HH.out.1 5 (.pointer none)) 6 (.pointer (some ⟨cp,0,none⟩))
  simp at this
  exact this
 have e1:=jA0 hh2 1
 have e3:=jA0 hh2 3
 have e5:=jA0 hh2 5
 have e6:=jA0 hh2 6
 have fr3:=jA2 hh2 3
 simp at e1 e3 e5 e6
 have H2:=jA1 (And.intro hh2 (HH.out.2.trans hf2))
 clear hW2 hf2 hh2 HH d1 d5 d6 d7 g5 g6 n1 n2 hne hne'
 go_wp2
 go_region_held3 (λw'=>w'.cell? ⟨hp,1,none⟩=some (.int .i64 0)∧w'.cell? ⟨hp,5,none⟩=some (.pointer none)∧w'.cell? ⟨hp,6,none⟩=some (.pointer (some ⟨cp,0,none⟩))) (simp [jCb, *]) (fail)
 go_end0
 refine ⟨rfl,?_,H2.out.2.trans ((Fr.set1 sE _ _).drew)⟩
 have:=jA5 H2.out.1 3 (.bool true)
 simp at this
 exact this
theorem jXf (B b0 hp p bD bN i:Nat) (w:World) (hh:w.heap[hp]?=some (jBu i p false none none none)) (h:DiskIn w b0 p bD bN (.slice none 0 0) jBj 10 0 0) (hB:2≤B) (hb0:B≤b0) (hhp:b0≤hp) (hi:1≤i∧i≤8) (hmet:Met w) :
  Calls Tryz.prog 20 #[.pointer (some ⟨hp,0,none⟩),jD1 (-1) (-1) 0 0] w λe w'=>e=.returned (.int .i64 0)∧(∃ L,ShNode w' B i hp sh0 [] 1 L∧∀ k∈L,b0≤k)∧Below b0 w w':=by
 obtain ⟨W,hW⟩:∃ W,W=w.alloc (jDj (-1) (-1) 0 0):=⟨_,rfl⟩
 have hf0:Fr [] w W:=by rw [hW];exact (Fr.refl [] w).alloc _
 have hd0:=h.new hf0
 have hpl:=(Array.getElem?_eq_some_iff.1 hh).1
 have hh0:=(hf0.block hp hpl sE).trans hh
 have hx0:W.heap[w.heap.size]?=some (jDj (-1) (-1) 0 0):=by rw [hW];exact heap_alloc_new w _
 have hb0':Below b0 w W:=hf0.below h.base.2.2.2 sE
 have x0:=jA0 hx0 0
 have x1:=jA0 hx0 1
 have x2:=jA0 hx0 2
 have x3:=jA0 hx0 3
 simp at x0 x1 x2 x3
 rw [hW] at x0 x1 x2 x3
 have HH:=jA1 (And.intro hh0 (And.intro hx0 (And.intro hd0 hb0')))
 have HM:=jA1 hmet
 clear hh hf0 hd0 hh0 hx0 hb0' h hmet
 go_enter Tryz.func20,Tryz.ntmps20
 go_wp2_with fail
 rw [← hW]
 clear hW x0 x1 x2 x3
 refine (jEa hp p bD bN i (.slice none 0 0) _ _ _ false false (-1) (-1) (-1) (-1) 0 0 W HH.out.1 HH.out.2.2.1.blk).mono ?_
 rintro e w1 ⟨rfl,hb1,hf1⟩
 have hd1:DiskIn w1 b0 p bD bN (.slice none 0 0) jBj 10 0 0:=HH.out.2.2.1.turn hf1 (-1) (-1) false hb1
 have hne:hp≠p:=by intro e;have:=HH.out.1;rw [e,HH.out.2.2.1.blk] at this;cases this
 have hh1:=(hf1.block hp (Array.getElem?_eq_some_iff.1 HH.out.1).1 (by simpa using hne)).trans HH.out.1
 have hx1:=(hf1.block _ (Array.getElem?_eq_some_iff.1 HH.out.2.1).1 (by simp;intro e;have h1:=HH.out.2.1;rw [e,HH.out.2.2.1.blk] at h1;cases h1)).trans HH.out.2.1
 have hbl1:Below b0 w w1:=HH.out.2.2.2.trans (hf1.below HH.out.2.2.1.base.2.2.2 (by intro j hj;simp at hj;rw [hj];exact HH.out.2.2.1.base.1))
 have H1:=jA1 (And.intro hh1 (And.intro hx1 (And.intro hd1 hbl1)))
 clear hb1 hf1 hd1 hh1 hx1 hbl1 HH
 go_wp2_with fail
 refine (jPv hp p i false _ _ _ w1 H1.out.1).mono ?_
 rintro e w2 ⟨rfl,hh2,hf2⟩
 have hd2:DiskIn w2 b0 p bD bN (.slice none 0 0) jBj 10 0 0:=by
  refine H1.out.2.2.1.fr hf2 (by simpa using λe=>hne e.symm) ?_ ?_ ?_ ?_
  ·simp;exact H1.out.2.2.1.dur.ne_cells H1.out.1
  ·simp;exact H1.out.2.2.1.now.ne_cells H1.out.1
  ·intro g hg;cases hg
  ·intro q hq t;simp at hq;subst hq;rw [H1.out.1];intro e;cases e
 have hx2:=(hf2.block _ (Array.getElem?_eq_some_iff.1 H1.out.2.1).1 (by simp;intro e;have h1:=H1.out.2.1;rw [e,H1.out.1] at h1;cases h1)).trans H1.out.2.1
 have hbl2:Below b0 w w2:=H1.out.2.2.2.trans (hf2.below H1.out.2.2.1.base.2.2.2 (by intro j hj;simp at hj;omega))
 have hop:∀ w',Fr [] w2 w'→Calls Tryz.prog 42 #[dskV p,.int .i64 (i:Int)] w' (OpS b0 p bD bN i w'):=λw' hw'=>jSj b0 p bD bN i w' hi (hd2.new hw')
 have c0:=jA0 hh2 0
 have c1:=jA0 hh2 1
 have c2:=jA0 hh2 2
 simp at c0 c1 c2
 have H2:=jA1 (And.intro hh2 (And.intro hx2 (And.intro hd2 hbl2)))
 clear hh2 hf2 hd2 hx2 hbl2 H1
 go_wp2
 go_region_held3 (λw'=>w'.cell? ⟨hp,1,none⟩=some (.int .i64 (i:Int))∧w'.cell? ⟨hp,2,none⟩=some (.pointer (some ⟨p,0,none⟩))) (simp [jCb, *])
  (first | (go_at_call 42;refine (hop _ (by first | exact (Fr.refl [] w2).drew | exact Fr.refl [] w2)).mono ?_;rintro e w3 ⟨nd,sp,gp,bV,bT,bH,lp,rfl,hnd3,hs3,hlow,hx3⟩;have hh3:w3.heap[hp]?=some (jBu i p false none none none):=(hx3.block hp (by simpa using (Array.getElem?_eq_some_iff.1 H2.out.1).1) ((H2.out.2.2.1.new ((Fr.refl [] w2).drew)).freeD (c:=_) (t:=79) H2.out.1 (by decide) (by decide)) (by simp)).trans H2.out.1;have e1:=jA0 hh3 1;have e2:=jA0 hh3 2;have e7:=jA0 hh3 7;have ef7:=jA2 hh3 7;simp at e1 e2 e7;have H3:=jA1 (And.intro hnd3 (And.intro hs3 (And.intro hlow (And.intro hx3 hh3))));clear hnd3 hs3 hlow hx3 hh3))
 obtain ⟨W4,hW4⟩:∃ W4,W4=w3.setCell ⟨hp,7,none⟩ (.pointer (some ⟨nd,0,none⟩)):=⟨_,rfl⟩
 rw [← hW4]
 have hbl3:Below b0 w w3:=(H2.out.2.2.2.trans ((Below.refl b0 w2).drew)).trans ⟨H3.out.2.2.2.1.os,H3.out.2.2.2.1.tape,H3.out.2.2.2.1.output,H3.out.2.2.2.1.size,λq hq=>H3.out.2.2.2.1.block q (by have:=H2.out.2.2.1.base.2.2.2;simp;omega) (λho=>by have:=(H2.out.2.2.1.new ((Fr.refl [] w2).drew)).geD ho;omega) sE⟩
 have hf4:Fr [hp] w3 W4:=by rw [hW4];exact Fr.set1 sE _ _
 have hh4:W4.heap[hp]?=some (jBu i p false none none (some ⟨nd,0,none⟩)):=by rw [hW4];have:=jA5 H3.out.2.2.2.2 7 (.pointer (some ⟨nd,0,none⟩));simp at this;exact this
 have hnhp:nd≠hp:=by intro e;have h1:=H3.out.1;rw [e,H3.out.2.2.2.2] at h1;cases h1
 have hnd4:=(hf4.block nd (Array.getElem?_eq_some_iff.1 H3.out.1).1 (by simpa using hnhp)).trans H3.out.1
 have hs4:=H3.out.2.1.other hf4 H3.out.2.2.2.2 dN dN dN dN dN dN dN dN
 have hfa3:=(H3.out.2.2.2.1.block _ (by simpa using (Array.getElem?_eq_some_iff.1 H2.out.2.1).1) ((H2.out.2.2.1.new ((Fr.refl [] w2).drew)).freeD (c:=_) (t:=40) H2.out.2.1 dN dN) sE).trans H2.out.2.1
 have hfa4:=(hf4.block _ (Array.getElem?_eq_some_iff.1 hfa3).1 (by simp;intro e;have h1:=hfa3;rw [e,H3.out.2.2.2.2] at h1;cases h1)).trans hfa3
 have hlow4:=H3.out.2.2.1
 have hsz2:w2.drew.heap.size=w2.heap.size:=rfl
 rw [hsz2] at hlow4
 have hb02:=H2.out.2.2.1.base.2.2.2
 have hno:=jNq hp nd p sp i (.slice none 0 0) W4 hi.1 hh4 hnd4
 have H4:=jA1 (And.intro hnd4 (And.intro hs4 (And.intro hfa4 (And.intro (hbl3.trans (hf4.below (Nat.le_trans hb02 (Nat.le_trans (Nat.le_of_eq hsz2.symm) H3.out.2.2.2.1.size)) (by intro j hj;simp at hj;omega))) (And.intro hlow4 hh4)))))
 clear hbl3 hf4 hh4 hnd4 hs4 hfa3 hfa4 hlow4 hop c0 c1 c2 e1 e2 e7 ef7 hW4 H3 hsz2
 go_wp2_with fail
 refine hno.mono ?_
 clear hno
 rintro e w5 ⟨rfl,hh5,hf5⟩
 have hs5:=H4.out.2.1.other hf5 H4.out.2.2.2.2.2 dN dN dN dN dN dN dN dN
 have hnd5:=(hf5.block nd (Array.getElem?_eq_some_iff.1 H4.out.1).1 (by simpa using hnhp)).trans H4.out.1
 have hfa5:=(hf5.block _ (Array.getElem?_eq_some_iff.1 H4.out.2.2.1).1 (by simp;intro e;have h1:=H4.out.2.2.1;rw [e,H4.out.2.2.2.2.2] at h1;cases h1)).trans H4.out.2.2.1
 have hbl5:Below b0 w w5:=H4.out.2.2.2.1.trans (hf5.below (Nat.le_trans hb02 (by have:=(Array.getElem?_eq_some_iff.1 H4.out.1).1;have h9:=H4.out.2.2.2.2.1;omega)) (by intro j hj;simp at hj;omega))
 have hlow5:=H4.out.2.2.2.2.1
 have hP5:ShP w5 b0 i hp nd p sp gp bV bT bH lp bD bN 0 10 sh0 ((log0 1).opens jBj).1 ((log0 1).opens jBj).2.1 (.slice none 0 0) []:=⟨hh5,hnd5,World.ownsRow_nil _ _ _ _,hs5,⟨by omega,by omega,by omega,by omega,by omega,by omega,by omega⟩⟩
 have y0:=jA0 hfa5 0
 have y1:=jA0 hfa5 1
 have y2:=jA0 hfa5 2
 have y3:=jA0 hfa5 3
 simp at y0 y1 y2 y3
 obtain ⟨o1,o2,o3,o4,o5⟩:=One.first (d:=jBj) (λ_=>rfl) rfl rfl jNw
 obtain ⟨pv5,hd5⟩:∃ pv,w5.heap[p]?=some (dskO bD bN pv ((log0 1).opens jBj).2.1.left ((log0 1).opens jBj).2.1.full ((log0 1).opens jBj).2.1.down):=by obtain ⟨pv,sv,rv,nD,nN,hl⟩:=hP5.sl.lg;exact ⟨pv,hl.disk.blk⟩
 have H5:=jA1 (And.intro hP5 (And.intro hbl5 hd5))
 clear hs5 hnd5 hfa5 hbl5 hlow5 hP5 hh5 hf5 H4 hd5 o1 o3 o4
 go_wp2_with fail
 have hbd:=H5.out.2.2
 rw [o2] at hbd
 refine (jFc hp p bD bN i pv5 _ _ _ true _ _ (-1) (-1) 0 0 w5 H5.out.1.hh hbd).mono ?_
 clear hbd y0 y1 y2 y3
 rintro e w6 ⟨rfl,hb6,hf6⟩
 rw [← o2] at hb6
 obtain ⟨hs6,hx6⟩:=H5.out.1.sl.knob (-1) (-1) hf6 hb6 H5.out.2.2
 obtain ⟨hP6,hN6⟩:=H5.out.1.sfr hx6 hs6
 have hbl6:=H5.out.2.1.trans (hN6.below H5.out.1.size H5.out.1.obj)
 have H6:=jA1 (And.intro hP6 hbl6)
 have hmet6:=HM.out.below hbl6 oE
 have HO:=jA1 o5
 clear hb6 hf6 hs6 hx6 hP6 hN6 hbl6 o2 o5
 go_wp2_with fail
 refine (jD4 0 w6 hmet6).mono ?_
 rintro e w7 ⟨rfl,hf7⟩
 obtain ⟨hP7,hN7⟩:=H6.out.1.new hf7
 have H7:=jA1 (show (∃ L,ShNode w7 B i hp sh0 [] 1 L∧∀ k∈L,b0≤k)∧Below b0 w w7 from ⟨⟨_,⟨nd,p,sp,gp,bV,bT,bH,lp,bD,bN,0,10,_,_,_,hP7.low hb0,lgw0 HO.out,by decide,rfl⟩,λk hk=>(hP7.obj k hk).1⟩,H6.out.2.trans (hN7.below H6.out.1.size H6.out.1.obj)⟩)
 clear hP7 hN7 hf7
 go_wp2
 go_ret
 exact ⟨rfl,H7.out⟩
theorem jWz (B b0 hp p bD bN:Nat) (w:World) (hh:w.heap[hp]?=some (jBu 0 p false none none none)) (h:DiskIn w b0 p bD bN (.slice none 0 0) jBj 10 0 0) (hB:2≤B) (hb0:B≤b0) (hhp:b0≤hp) (hmet:Met w) :
  Calls Tryz.prog 20 #[.pointer (some ⟨hp,0,none⟩),jD1 (-1) (-1) 0 0] w λe w'=>e=.returned (.int .i64 0)∧(∃ L,CoNode w' B hp ⟨[],1,1,0,[],[]⟩ [] 1 L∧∀ k∈L,b0≤k)∧Below b0 w w':=by
 obtain ⟨W,hW⟩:∃ W,W=w.alloc (jDj (-1) (-1) 0 0):=⟨_,rfl⟩
 have hf0:Fr [] w W:=by rw [hW];exact (Fr.refl [] w).alloc _
 have hd0:=h.new hf0
 have hpl:=(Array.getElem?_eq_some_iff.1 hh).1
 have hh0:=(hf0.block hp hpl sE).trans hh
 have hx0:W.heap[w.heap.size]?=some (jDj (-1) (-1) 0 0):=by rw [hW];exact heap_alloc_new w _
 have hb0':Below b0 w W:=hf0.below h.base.2.2.2 sE
 have x0:=jA0 hx0 0
 have x1:=jA0 hx0 1
 have x2:=jA0 hx0 2
 have x3:=jA0 hx0 3
 simp at x0 x1 x2 x3
 rw [hW] at x0 x1 x2 x3
 have HH:=jA1 (And.intro hh0 (And.intro hx0 (And.intro hd0 hb0')))
 have HM:=jA1 hmet
 clear hh hf0 hd0 hh0 hx0 hb0' h hmet
 go_enter Tryz.func20,Tryz.ntmps20
 go_wp2_with fail
 rw [← hW]
 clear hW x0 x1 x2 x3
 refine (jEa hp p bD bN 0 (.slice none 0 0) _ _ _ false false (-1) (-1) (-1) (-1) 0 0 W HH.out.1 HH.out.2.2.1.blk).mono ?_
 rintro e w1 ⟨rfl,hb1,hf1⟩
 have hd1:DiskIn w1 b0 p bD bN (.slice none 0 0) jBj 10 0 0:=HH.out.2.2.1.turn hf1 (-1) (-1) false hb1
 have hne:hp≠p:=by intro e;have:=HH.out.1;rw [e,HH.out.2.2.1.blk] at this;cases this
 have hh1:=(hf1.block hp (Array.getElem?_eq_some_iff.1 HH.out.1).1 (by simpa using hne)).trans HH.out.1
 have hx1:=(hf1.block _ (Array.getElem?_eq_some_iff.1 HH.out.2.1).1 (by simp;intro e;have h1:=HH.out.2.1;rw [e,HH.out.2.2.1.blk] at h1;cases h1)).trans HH.out.2.1
 have hbl1:Below b0 w w1:=HH.out.2.2.2.trans (hf1.below HH.out.2.2.1.base.2.2.2 (by intro j hj;simp at hj;rw [hj];exact HH.out.2.2.1.base.1))
 have H1:=jA1 (And.intro hh1 (And.intro hx1 (And.intro hd1 hbl1)))
 clear hb1 hf1 hd1 hh1 hx1 hbl1 HH
 go_wp2_with fail
 refine (jPv hp p 0 false _ _ _ w1 H1.out.1).mono ?_
 rintro e w2 ⟨rfl,hh2,hf2⟩
 have hd2:DiskIn w2 b0 p bD bN (.slice none 0 0) jBj 10 0 0:=by
  refine H1.out.2.2.1.fr hf2 (by simpa using λe=>hne e.symm) ?_ ?_ ?_ ?_
  ·simp;exact H1.out.2.2.1.dur.ne_cells H1.out.1
  ·simp;exact H1.out.2.2.1.now.ne_cells H1.out.1
  ·intro g hg;cases hg
  ·intro q hq t;simp at hq;subst hq;rw [H1.out.1];intro e;cases e
 have hx2:=(hf2.block _ (Array.getElem?_eq_some_iff.1 H1.out.2.1).1 (by simp;intro e;have h1:=H1.out.2.1;rw [e,H1.out.1] at h1;cases h1)).trans H1.out.2.1
 have hbl2:Below b0 w w2:=H1.out.2.2.2.trans (hf2.below H1.out.2.2.1.base.2.2.2 (by intro j hj;simp at hj;omega))
 have hop:∀ w',Fr [] w2 w'→Calls Tryz.prog 42 #[dskV p,.int .i64 0] w' (OpC b0 p bD bN w'):=λw' hw'=>jS9 b0 p bD bN w' (hd2.new hw')
 have c0:=jA0 hh2 0
 have c1:=jA0 hh2 1
 have c2:=jA0 hh2 2
 simp at c0 c1 c2
 have H2:=jA1 (And.intro hh2 (And.intro hx2 (And.intro hd2 hbl2)))
 clear hh2 hf2 hd2 hx2 hbl2 H1
 go_wp2
 go_region_held3 (λw'=>w'.cell? ⟨hp,1,none⟩=some (.int .i64 0)∧w'.cell? ⟨hp,2,none⟩=some (.pointer (some ⟨p,0,none⟩))) (simp [jCb, *])
  (first | (go_at_call 42;refine (hop _ (by first | exact (Fr.refl [] w2).drew | exact Fr.refl [] w2)).mono ?_;rintro e w3 ⟨nd,cp,gp,bT,lp,rfl,hnd3,hs3,hlow,hx3⟩;have hh3:w3.heap[hp]?=some (jBu 0 p false none none none):=(hx3.block hp (by simpa using (Array.getElem?_eq_some_iff.1 H2.out.1).1) ((H2.out.2.2.1.new ((Fr.refl [] w2).drew)).freeD (c:=_) (t:=79) H2.out.1 (by decide) (by decide)) (by simp)).trans H2.out.1;have e1:=jA0 hh3 1;have e2:=jA0 hh3 2;have e7:=jA0 hh3 7;have ef7:=jA2 hh3 7;simp at e1 e2 e7;have H3:=jA1 (And.intro hnd3 (And.intro hs3 (And.intro hlow (And.intro hx3 hh3))));clear hnd3 hs3 hlow hx3 hh3))
 obtain ⟨W4,hW4⟩:∃ W4,W4=w3.setCell ⟨hp,7,none⟩ (.pointer (some ⟨nd,0,none⟩)):=⟨_,rfl⟩
 rw [← hW4]
 have hbl3:Below b0 w w3:=(H2.out.2.2.2.trans ((Below.refl b0 w2).drew)).trans ⟨H3.out.2.2.2.1.os,H3.out.2.2.2.1.tape,H3.out.2.2.2.1.output,H3.out.2.2.2.1.size,λq hq=>H3.out.2.2.2.1.block q (by have:=H2.out.2.2.1.base.2.2.2;simp;omega) (λho=>by have:=(H2.out.2.2.1.new ((Fr.refl [] w2).drew)).geD ho;omega) sE⟩
 have hf4:Fr [hp] w3 W4:=by rw [hW4];exact Fr.set1 sE _ _
 have hh4:W4.heap[hp]?=some (jBu 0 p false none none (some ⟨nd,0,none⟩)):=by rw [hW4];have:=jA5 H3.out.2.2.2.2 7 (.pointer (some ⟨nd,0,none⟩));simp at this;exact this
 have hnhp:nd≠hp:=by intro e;have h1:=H3.out.1;rw [e,H3.out.2.2.2.2] at h1;cases h1
 have hnd4:=(hf4.block nd (Array.getElem?_eq_some_iff.1 H3.out.1).1 (by simpa using hnhp)).trans H3.out.1
 have hs4:=H3.out.2.1.other hf4 H3.out.2.2.2.2 dN dN dN dN dN dN dN dN dN dN
 have hfa3:=(H3.out.2.2.2.1.block _ (by simpa using (Array.getElem?_eq_some_iff.1 H2.out.2.1).1) ((H2.out.2.2.1.new ((Fr.refl [] w2).drew)).freeD (c:=_) (t:=40) H2.out.2.1 dN dN) sE).trans H2.out.2.1
 have hfa4:=(hf4.block _ (Array.getElem?_eq_some_iff.1 hfa3).1 (by simp;intro e;have h1:=hfa3;rw [e,H3.out.2.2.2.2] at h1;cases h1)).trans hfa3
 have hlow4:=H3.out.2.2.1
 have hsz2:w2.drew.heap.size=w2.heap.size:=rfl
 rw [hsz2] at hlow4
 have hb02:=H2.out.2.2.1.base.2.2.2
 have hno:=jOj hp nd p cp (.slice none 0 0) W4 hh4 hnd4
 have H4:=jA1 (And.intro hnd4 (And.intro hs4 (And.intro hfa4 (And.intro (hbl3.trans (hf4.below (Nat.le_trans hb02 (Nat.le_trans (Nat.le_of_eq hsz2.symm) H3.out.2.2.2.1.size)) (by intro j hj;simp at hj;omega))) (And.intro hlow4 hh4)))))
 clear hbl3 hf4 hh4 hnd4 hs4 hfa3 hfa4 hlow4 hop c0 c1 c2 e1 e2 e7 ef7 hW4 H3 hsz2
 go_wp2_with fail
 refine hno.mono ?_
 clear hno
 rintro e w5 ⟨rfl,hh5,hf5⟩
 have hs5:=H4.out.2.1.other hf5 H4.out.2.2.2.2.2 dN dN dN dN dN dN dN dN dN dN
 have hnd5:=(hf5.block nd (Array.getElem?_eq_some_iff.1 H4.out.1).1 (by simpa using hnhp)).trans H4.out.1
 have hfa5:=(hf5.block _ (Array.getElem?_eq_some_iff.1 H4.out.2.2.1).1 (by simp;intro e;have h1:=H4.out.2.2.1;rw [e,H4.out.2.2.2.2.2] at h1;cases h1)).trans H4.out.2.2.1
 have hbl5:Below b0 w w5:=H4.out.2.2.2.1.trans (hf5.below (Nat.le_trans hb02 (by have:=(Array.getElem?_eq_some_iff.1 H4.out.1).1;have h9:=H4.out.2.2.2.2.1;omega)) (by intro j hj;simp at hj;omega))
 have hlow5:=H4.out.2.2.2.2.1
 have hP5:CoP w5 b0 hp nd p cp gp bT lp bD bN 0 10 ⟨[],1,1,0,[],[]⟩ ((log0 1).opens jBj).1 ((log0 1).opens jBj).2.1 (.slice none 0 0) []:=⟨hh5,hnd5,World.ownsRow_nil _ _ _ _,hs5,⟨by omega,by omega,by omega⟩⟩
 have y0:=jA0 hfa5 0
 have y1:=jA0 hfa5 1
 have y2:=jA0 hfa5 2
 have y3:=jA0 hfa5 3
 simp at y0 y1 y2 y3
 obtain ⟨o1,o2,o3,o4,o5⟩:=One.first (d:=jBj) (λ_=>rfl) rfl rfl jNw
 obtain ⟨pv5,hd5⟩:∃ pv,w5.heap[p]?=some (dskO bD bN pv ((log0 1).opens jBj).2.1.left ((log0 1).opens jBj).2.1.full ((log0 1).opens jBj).2.1.down):=by obtain ⟨pv,sv,rv,nD,nN,hl⟩:=hP5.sl.lg;exact ⟨pv,hl.disk.blk⟩
 have H5:=jA1 (And.intro hP5 (And.intro hbl5 hd5))
 clear hs5 hnd5 hfa5 hbl5 hlow5 hP5 hh5 hf5 H4 hd5 o1 o3 o4
 go_wp2_with fail
 have hbd:=H5.out.2.2
 rw [o2] at hbd
 refine (jFc hp p bD bN 0 pv5 _ _ _ true _ _ (-1) (-1) 0 0 w5 H5.out.1.hh hbd).mono ?_
 clear hbd y0 y1 y2 y3
 rintro e w6 ⟨rfl,hb6,hf6⟩
 rw [← o2] at hb6
 obtain ⟨hs6,hx6⟩:=H5.out.1.sl.knob (-1) (-1) hf6 hb6 H5.out.2.2
 obtain ⟨hP6,hN6⟩:=H5.out.1.cfr hx6 hs6
 have hbl6:=H5.out.2.1.trans (hN6.below H5.out.1.size H5.out.1.obj)
 have H6:=jA1 (And.intro hP6 hbl6)
 have hmet6:=HM.out.below hbl6 oE
 have HO:=jA1 o5
 clear hb6 hf6 hs6 hx6 hP6 hN6 hbl6 o2 o5
 go_wp2_with fail
 refine (jD4 0 w6 hmet6).mono ?_
 rintro e w7 ⟨rfl,hf7⟩
 obtain ⟨hP7,hN7⟩:=H6.out.1.new hf7
 have H7:=jA1 (show (∃ L,CoNode w7 B hp ⟨[],1,1,0,[],[]⟩ [] 1 L∧∀ k∈L,b0≤k)∧Below b0 w w7 from ⟨⟨_,⟨nd,p,cp,gp,bT,lp,bD,bN,0,10,_,_,_,hP7.low hb0,lgw0 HO.out,by decide,rfl⟩,λk hk=>(hP7.obj k hk).1⟩,H6.out.2.trans (hN7.below H6.out.1.size H6.out.1.obj)⟩)
 clear hP7 hN7 hf7
 go_wp2
 go_ret
 exact ⟨rfl,H7.out⟩
section
variable {w w' W0 w1:World} {B np n pp:Nat} {hv dv bv ov v':Value} {fl:Bool} {hps:List Nat} {ps:List (Nat × Value × Value)} {ds:List ADeal} {bag:List Msg} {ord:List Nat}
theorem LawM.hsApp (h:LawM w B np hv dv bv ov n fl hps ps ds bag ord) (hf0:Fr [] w W0) (hg:W0.grownBy w1 hv.ownBlock) (ho:w1.ownsRow B 46 1 v' (hps.length+1) ((hps.map ptrV)++[ptrV pp])) :
  LawM (w1.setCell ⟨np,0,none⟩ v') B np v' dv bv ov n fl (hps++[pp]) ps ds bag ord∧∃ S,Fr S w (w1.setCell ⟨np,0,none⟩ v')∧LawS w S∧∀ k∈S,B≤k:=by
 obtain ⟨W,hW⟩:∃ W,W=w1.setCell ⟨np,0,none⟩ v':=⟨_,rfl⟩
 rw [← hW]
 have hnl:=(Array.getElem?_eq_some_iff.1 h.net).1
 have nrow:hv.ownBlock≠some np:=jAe h.hs h.net dN
 have hb1:w1.heap[np]?=some (netO hv dv bv ov n fl):=((Fr.of_grown hg).block np (by have:=hf0.size;omega) (by simp;exact nrow)).trans ((hf0.block np hnl sE).trans h.net)
 have hfw:Fr [np] w1 W:=by rw [hW];exact Fr.set1 sE _ _
 have hf:Fr (np :: hv.ownBlock.toList) w W:=((hf0.mono sE).andThen ((Fr.of_grown hg).mono (λk _ hk=>List.mem_cons_of_mem np hk)) (λj hj _=>hj)).andThen (hfw.mono (λk _ hk=>by simp at hk;simp [hk])) (λj hj _=>hj)
 have keep:∀ (q:Nat) (c:Array Value) (t:TypeId),w.heap[q]?=some (.cells c t (0,0))→t≠37→t≠46→W.heap[q]?=some (.cells c t (0,0)):=λq c t hq h1 h2=>(hf.block q (Array.getElem?_eq_some_iff.1 hq).1 (λhm=>by
  rcases List.mem_cons.1 hm with e | e
  ·rw [e,h.net] at hq;cases hq;exact h1 rfl
  ·simp at e
   obtain ⟨c2,hc2⟩:=jA4 h.hs e
   rw [hq] at hc2
   cases hc2
   exact h2 rfl)).trans hq
 have row:∀ {b m j:Nat} {e:TypeId} {v:Value} {xs:List Value},w.ownsRow b e j v m xs→e≠37→e≠46→W.ownsRow b e j v m xs:=λ{b m j e v xs} hr h1 h2=>jAf hr (λg hg=>by
  obtain ⟨c,hc⟩:=jA4 hr hg
  exact (keep g c e hc h1 h2).trans hc.symm)
 refine ⟨⟨by rw [hW];have:=jA5 hb1 0 v';simp at this;exact this,⟨h.low.1,Nat.le_trans h.low.2 hf.size⟩,?_,row h.dl dN dN,row h.bg dN dN,h.bg0,row h.od dN dN,h.odl,h.ap,h.len,λj p y hj hy=>?_,h.dis⟩,⟨_,hf,λq hq hl=>?_,λq hq=>?_⟩⟩
 ·rw [List.length_append,List.map_append]
  exact jA7 ho hfw (λg hg=>by simp;intro e;subst e;exact jAe ho hb1 dN hg)
 ·have hd:=h.each j p y hj hy
  exact ⟨keep _ _ _ hd.blk dN dN,hd.low,row hd.seq dN dN,row hd.wrs dN dN⟩
 ·rcases List.mem_cons.1 hq with e | e
  ·rw [e,h.net];exact ⟨_,_,_,rfl,by simp [jAd],λe=>absurd e dN⟩
  ·simp at e
   obtain ⟨c2,hc2⟩:=jA4 h.hs e
   exact ⟨_,_,_,hc2,by simp [jAd],λe=>absurd e dN⟩
 ·rcases List.mem_cons.1 hq with e | e
  ·rw [e];exact h.low.1
  ·simp at e;exact (h.hs.lt q e).1
end
abbrev co0:ACo:=⟨[],1,1,0,[],[]⟩
abbrev net0 (n:Nat):ANet:=⟨[],[],[],co0,[],List.replicate n (sh0,[])⟩
def BNd (w:World) (B:Nat) (hps:List Nat) (m:Nat):Prop:=hps.length=m∧(0<m→∃ Ls,Nds w B hps co0 [] (List.replicate (m - 1) (sh0,[])) 1 Ls)
theorem jXv:SGood 1 sh0:=⟨⟨List.Pairwise.nil,List.Pairwise.nil,List.Pairwise.nil⟩,nofun,λt=>by simp [AShard.count],nofun,by simp,by simp,nofun⟩
theorem jUh:CGood 1 co0:=⟨List.Pairwise.nil,by simp,⟨by simp,by simp,by simp,by simp,by simp⟩,nofun⟩
theorem BNd.law {w w':World} {B m:Nat} {hps S:List Nat} (h:BNd w B hps m) (hf:Fr S w w') (hS:LawS w S):BNd w' B hps m :=
 ⟨h.1,λhm=>by obtain ⟨Ls,hN⟩:=h.2 hm;exact ⟨Ls,hN.law hf hS⟩⟩
theorem BNd.first {w:World} {B hp:Nat} {L:List Nat} (hB:B≤w.heap.size) (h:CoNode w B hp co0 [] 1 L):BNd w B [hp] 1 :=
 ⟨rfl,λ_=>⟨[L],⟨rfl,rfl⟩,hB,⟨hp,L,rfl,rfl,h⟩,jUh,nofun,List.pairwise_singleton _ _⟩⟩
theorem BNd.more {w w':World} {B hp m:Nat} {hps L:List Nat} (h:BNd w B hps (m+1)) (hf:Fr [] w w') (hn:ShNode w' B (m+1) hp sh0 [] 1 L) (hL:∀ k∈L,w.heap.size≤k):BNd w' B (hps++[hp]) (m+2):=by
 obtain ⟨h1,h2⟩:=h
 obtain ⟨Ls,hN⟩:=h2 (Nat.succ_pos m)
 have hN':=hN.new hf
 have hl:Ls.length=m+1:=by have:=hN.len.2;simpa using this
 refine ⟨by simp [h1],λ_=>⟨Ls++[L],⟨by simp [h1],by simp [hl]⟩,hN'.base,?_,jUh,λi s hs=>?_,?_⟩⟩
 ·obtain ⟨hq,M,a1,a2,a3⟩:=hN'.co
  exact ⟨hq,M,by rw [List.getElem?_append_left oE];exact a1,by rw [List.getElem?_append_left oE];exact a2,a3⟩
 ·have hi:i<m+1:=by have:=(List.getElem?_eq_some_iff.1 hs).1;simpa using this
  have es:s=(sh0,[]):=by
   rw [List.getElem?_replicate] at hs
   split at hs
   ·exact (Option.some.inj hs).symm
   ·cases hs
  subst es
  by_cases e:i=m
  ·subst e
   exact ⟨hp,L,by rw [List.getElem?_append_right oE,h1];simp,by rw [List.getElem?_append_right oE,hl];simp,hn,jXv⟩
  ·obtain ⟨hq,M,a1,a2,a3,a4⟩:=hN'.sh i (sh0,[]) (by rw [List.getElem?_replicate,if_pos oE])
   exact ⟨hq,M,by rw [List.getElem?_append_left oE];exact a1,by rw [List.getElem?_append_left oE];exact a2,a3,a4⟩
 ·rw [List.pairwise_append]
  refine ⟨hN.dis,List.pairwise_singleton _ _,λa ha b hb k hk hm=>?_⟩
  simp at hb
  subst hb
  have:=hN.lt a ha k hk
  have:=hL k hm
  omega
def jUk (w:World) (n:Nat) (e:Ending) (w':World):Prop:=∃ np hv hps,e=.returned (ptrV np)∧NetB w' w' w.heap.size np n 1 hv hps (net0 n)∧Below w.heap.size w w'
def OpnP (B:Nat) (hps:List Nat) (hp m:Nat) (wr:World) (e:Ending) (w':World):Prop:=e=.returned (.int .i64 0)∧BNd w' B (hps++[hp]) (m+1)∧Fr [] wr w'
theorem jPf {wr w2 w3:World} {B hp p bD bN m:Nat} {hps:List Nat} (hBn:BNd wr B hps m) (hBw:B≤wr.heap.size) (hh:w2.heap[hp]?=some (jBu m p false none none none)) (hd:DiskIn w2 wr.heap.size p bD bN (.slice none 0 0) jBj 10 0 0) (hhp:wr.heap.size≤hp) (hb:Below wr.heap.size wr w2) (hf:Fr [] w2 w3) (hB:2≤B) (hmet:Met wr) (hm8:m≤8) :
  Calls Tryz.prog 20 #[.pointer (some ⟨hp,0,none⟩),jVo] w3 λe w'=>OpnP B hps hp m wr e w':=by
 have hh3:=(hf.block hp (Array.getElem?_eq_some_iff.1 hh).1 sE).trans hh
 have hd3:=hd.new hf
 have hb3:Below wr.heap.size wr w3:=hb.trans (hf.below (Nat.le_trans (Nat.le_refl _) hb.size) sE)
 have hmet3:Met w3:=hmet.below hb3 oE
 cases m with
 | zero =>
  refine (jWz B wr.heap.size hp p bD bN w3 hh3 hd3 hB hBw hhp hmet3).mono ?_
  rintro e w' ⟨rfl,⟨L,hn,hL⟩,hb4⟩
  have hfr:Fr [] wr w':=Fr.of_below (hb3.trans hb4) []
  have e0:hps=[]:=List.eq_nil_of_length_eq_zero hBn.1
  subst e0
  exact ⟨rfl,BNd.first (Nat.le_trans hBw hfr.size) hn,hfr⟩
 | succ m =>
  refine (jXf B wr.heap.size hp p bD bN (m+1) w3 hh3 hd3 hB hBw hhp ⟨by omega,hm8⟩ hmet3).mono ?_
  rintro e w' ⟨rfl,⟨L,hn,hL⟩,hb4⟩
  have hfr:Fr [] wr w':=Fr.of_below (hb3.trans hb4) []
  exact ⟨rfl,hBn.more hfr hn hL,hfr⟩
theorem BNd.is {w:World} {B hp m:Nat} {hps:List Nat} (h:BNd w B (hps++[hp]) (m+1)):Calls Tryz.prog 21 #[.pointer (some ⟨hp,0,none⟩)] w λe w'=>e=.returned (.bool true)∧w'=w:=by
 have hl:hps.length=m:=by have:=h.1;simp at this;exact this
 obtain ⟨Ls,hN⟩:=h.2 (Nat.succ_pos m)
 have hat:(hps++[hp])[m]?=some hp:=by rw [List.getElem?_append_right oE,hl];simp
 cases m with
 | zero=>exact kIs0 hN hat
 | succ m=>exact kIs (s:=sh0) (out:=[]) (i:=m) hN (by rw [List.getElem?_replicate,if_pos oE]) hat
theorem Tryz.infoHp:(Tryz.prog.info? 46).map (λi=>(i.zero,i.size,i.bytes))=some (some (.pointer none),1,8):=by kernel_rfl
theorem jKv (w:World) (z:Int) (hB:2≤w.heap.size) (hmet:Met w) (h1:-9223372036854775808≤z) (h2:z≤9223372036854775807) :
  Calls Tryz.prog 9 #[.int .i64 z] w λe w'=>jUk w (1+pkC z 4) e w':=by
 have hpk:=jBk z 4
 have hlt:=jCn z 4 dN
 obtain ⟨n,hn⟩:∃ n,n=1+pkC z 4:=⟨_,rfl⟩
 rw [← hn]
 have hn1:(n:Int)=1+(pkC z 4:Int):=by omega
 have hn4:n≤4:=by omega
 have HPK:=jA1 hpk
 clear hpk hn hlt
 go_enter Tryz.func9,Tryz.ntmps9
 go_wp2_with fail
 refine (HPK.out w h1 h2 dN dN).mono ?_
 rintro e w1 ⟨rfl,e1⟩
 rw [e1]
 clear e1 HPK
 go_wp2_with fail
 rw [← hn1]
 obtain ⟨W,hW⟩:∃ W,W=w.alloc (netO (.slice none 0 0) (.slice none 0 0) (.slice none 0 0) (.slice none 0 0) n false):=⟨_,rfl⟩
 have hWb:W.heap[w.heap.size]?=some (netO (.slice none 0 0) (.slice none 0 0) (.slice none 0 0) (.slice none 0 0) n false):=by rw [hW];exact heap_alloc_new w _
 have hWs:w.heap.size≤W.heap.size:=by rw [hW];simp
 have hWf:Below w.heap.size w W:=by rw [hW];exact ((Fr.refl [] w).alloc _).below (Nat.le_refl _) sE
 have hL0:LawM W w.heap.size w.heap.size (.slice none 0 0) (.slice none 0 0) (.slice none 0 0) (.slice none 0 0) n false [] [] [] [] []:=⟨hWb,⟨Nat.le_refl _,hWs⟩,World.ownsRow_nil _ _ _ _,World.ownsRow_nil _ _ _ _,World.ownsRow_nil _ _ _ _,λ_=>rfl,World.ownsRow_nil _ _ _ _,nofun,nofun,rfl,nofun,List.Pairwise.nil⟩
 rw [← hW]
 have H0:=jA1 (And.intro hL0 (And.intro hWf hmet))
 clear hWb hWs hWf hL0 hW hmet hn1
 go_loopw [4] (λi wr=>∃ m:Nat,m≤n+1∧i=.int .i64 (m:Int)∧Hid (∃ hv hps,LawM wr w.heap.size w.heap.size hv (.slice none 0 0) (.slice none 0 0) (.slice none 0 0) n false hps [] [] [] []∧BNd wr w.heap.size hps m∧Below w.heap.size w wr)) (λi _=>n+1 - (intOf i).toNat)
 case atStart=>exact ⟨0,Nat.zero_le _,rfl,_,[],H0.out.1,⟨rfl,nofun⟩,H0.out.2.1⟩
 case round =>
  obtain ⟨m,hm,rfl,HM⟩:=hrel
  obtain ⟨hv,hps,hL,hBn,hBw⟩:=HM.out
  have n4:=jA0 hL.net 4
  simp at n4
  by_cases hmt:m≤n
  ·have i0:(m:Int)≤(n:Int):=by omega
   have HQ:=jA1 (And.intro hL (And.intro hBn hBw))
   clear hL hBn hBw HM
   go_wp2_with fail
   refine (jRg wr m).mono ?_
   rintro e w2 ⟨hp,p,bD,bN,rfl,hh2,hd2,hhp,hb2⟩
   have H2:=jA1 (And.intro hh2 (And.intro hd2 (And.intro hhp hb2)))
   clear hh2 hd2 hhp hb2 n4
   go_wp2_with fail
   refine (jF8 w2).mono ?_
   rintro e w3 ⟨rfl,hf3⟩
   have H3:=jA1 hf3
   clear hf3
   go_wp2_with fail
   refine (jPf HQ.out.2.1 HQ.out.1.low.2 H2.out.1 H2.out.2.1 H2.out.2.2.1 H2.out.2.2.2 H3.out hB (H0.out.2.2.below HQ.out.2.2 oE) oE).mono ?_
   rintro e w4 ⟨rfl,hB4,hf4⟩
   have hIs:=hB4.is
   have H4:=jA1 (And.intro hB4 hf4)
   clear hB4 hf4
   go_wp2_with fail
   refine hIs.mono ?_
   clear hIs
   rintro e w5 ⟨rfl,e5⟩
   rw [e5]
   clear e5
   have hL4:=HQ.out.1.new H4.out.2
   obtain ⟨i0',hi,hz0,hz1,hz2⟩:=info_parts Tryz.infoHp
   have c0:=jA0 hL4.net 0
   simp at c0
   have hrow:=hL4.hs
   have hlow:=hL4.low.2
   obtain ⟨va,vn,vc,rfl⟩:=jAu hrow
   have hpl:hps.length≤100:=by have:=HQ.out.2.1.1;omega
   have HL4:=jA1 hL4
   clear hL4
   go_wp2_with (at_builtin;refine jBr rfl _ _ 33 rfl w.heap.size 46 i0' _ 1 8 Tryz.underlying33 hi hz0 hz1 hz2 rfl (by decide) _ hps.length _ rfl (hrow.alloc _) 1 [ptrV hp] (.inl ⟨⟨w4.heap.size,0,none⟩,1,rfl,by have:=jBf w4 #[ptrV hp] 46;simpa using this⟩) rfl (by intro u hu;simp at hu;subst hu;rfl) (by unfold maxLen;omega) (by omega) (by rw [World.size_alloc];omega) ?_)
   intro v' w6 hown' hgrow hat0
   obtain ⟨va',vn',vc',rfl⟩:=jAu hown'
   have hfa:Fr [] w4 (w4.alloc (.cells #[ptrV hp] 46)):=(Fr.refl [] w4).alloc _
   obtain ⟨hL6,S6,hf6,hS6,hSb6⟩:=HL4.out.hsApp hfa hgrow hown'
   have hn6:w6.heap[w.heap.size]?=some (netO (.slice va vn vc) (.slice none 0 0) (.slice none 0 0) (.slice none 0 0) n false):=((Fr.of_grown hgrow).block _ (by have:=(Array.getElem?_eq_some_iff.1 HL4.out.net).1;simp;omega) (by simp;exact jAe HL4.out.hs HL4.out.net dN)).trans ((hfa.block _ (Array.getElem?_eq_some_iff.1 HL4.out.net).1 sE).trans HL4.out.net)
   have g0:=jA0 hn6 0
   have gf0:=jA2 hn6 0
   simp at g0
   have H6:=jA1 (And.intro hL6 (And.intro (H4.out.1.law hf6 hS6) (((HQ.out.2.2.trans (H4.out.2.below HQ.out.1.low.2 sE))).trans (hf6.below HL4.out.low.2 hSb6))))
   clear hown' hgrow hat0 hfa hL6 hf6 hS6 hSb6 hn6 hrow c0
   go_wp2_with fail
   go_roundw
   case rel=>exact ⟨m+1,by omega,by go_num,_,_,H6.out⟩
   case measure=>simp [intOf];omega
  ·have i0:¬ (m:Int)≤(n:Int):=by omega
   have em:m=n+1:=by omega
   have HF:=jA1 (show jUk w n (.returned (ptrV w.heap.size)) wr from by
    subst em
    obtain ⟨Ls,hN⟩:=hBn.2 (Nat.succ_pos n)
    exact ⟨w.heap.size,hv,hps,rfl,⟨_,_,_,_,_,Ls,hL,hN,nofun,⟨Below.refl _ _,λ_ _ _ _ hk _ _=>hk⟩⟩,hBw⟩)
   clear hL hBn hBw HM em
   go_wp2_with fail
   go_ret
   exact HF.out
end Go.Proofs.YtcalalndmcemiaaGreatDoor
