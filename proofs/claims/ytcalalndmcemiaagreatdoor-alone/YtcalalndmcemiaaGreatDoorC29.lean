import Derived.Test.YtcalalndmcemiaaGreatDoorC28
import Derived.Sort.OwnSorted
set_option maxRecDepth 100000
set_option maxHeartbeats 16000000
namespace Go.Proofs.YtcalalndmcemiaaGreatDoor
open Go.RowKit Go.Maps
open Sc
section
variable {w w':World} {B i hp nd p sp gp bV bT bH lp bD bN m n cp:Nat} {s:AShard} {c:ACo} {l:ALog} {d:ADisk} {ov:Value} {out out':List Msg}
def NdS (w:World) (S:List Nat):Prop:=∀ k∈S,k<w.heap.size→∃ c t,w.heap[k]?=some (.cells c t (0,0))∧(t=210∨t=151)
theorem NdS.free {S:List Nat} (h:NdS w S) {pv sv rv:Value} {nD nN:Nat} (hl:LogIn w B lp p bD bN pv sv rv l d n nD nN):∀ k∈S,k<w.heap.size→¬ Own lp p w k∧∀ t,w.heap[k]?≠some (jBc t):=λk hk hlt=>by
 obtain ⟨c,t,e,ht⟩:=h k hk hlt
 rcases ht with rfl | rfl
 ·exact ⟨hl.free e dN dN dN dN dN,λt e2=>by rw [e] at e2;cases e2⟩
 ·exact ⟨hl.free e dN dN dN dN dN,λt e2=>by rw [e] at e2;cases e2⟩
theorem NdS.not {S:List Nat} (h:NdS w S) {k:Nat} {o:Obj} (hk:w.heap[k]?=some o) (ho:∀ c,o≠Obj.cells c 210 (0,0)∧o≠Obj.cells c 151 (0,0)):k∉S:=λhm=>by
 obtain ⟨c,t,e,ht⟩:=h k hm (Array.getElem?_eq_some_iff.1 hk).1
 rw [hk] at e
 have e:=Option.some.inj e
 rcases ht with rfl | rfl
 ·exact (ho c).1 e
 ·exact (ho c).2 e
theorem SL.away {S:List Nat} (hs:SL w B sp gp bV bT bH m lp p bD bN n s l d) (hf:Fr S w w') (hS:NdS w S):SL w' B sp gp bV bT bH m lp p bD bN n s l d:=by
 obtain ⟨pv,sv,rv,nD,nN,hl⟩:=hs.lg
 have mp:∀ b,(∃ es c,w.heap[b]?=some (.map es c))→b∉S:=λb ⟨es,c,e⟩=>hS.not e (λ_=>⟨nofun,nofun⟩)
 have hg:=hS.not hs.ap.led (λ_=>⟨nofun,nofun⟩)
 exact ⟨hs.sh.fr hf (hS.not hs.sh.blk (λ_=>⟨nofun,nofun⟩)) (mp _ hs.sh.vals.isMap) (mp _ hs.sh.txns.isMap) (mp _ hs.sh.holds.isMap),⟨_,_,_,_,_,hl.apart hf (hS.free hl)⟩,⟨(hf.block gp (Array.getElem?_eq_some_iff.1 hs.ap.led).1 hg).trans hs.ap.led,hs.ap.ne⟩,hs.gp1⟩
theorem CL.away {S:List Nat} (hs:CL w B cp gp bT m lp p bD bN n c l d) (hf:Fr S w w') (hS:NdS w S):CL w' B cp gp bT m lp p bD bN n c l d:=by
 obtain ⟨pv,sv,rv,nD,nN,hl⟩:=hs.lg
 have mp:∀ b,(∃ es c,w.heap[b]?=some (.map es c))→b∉S:=λb ⟨es,c,e⟩=>hS.not e (λ_=>⟨nofun,nofun⟩)
 have hg:=hS.not hs.led (λ_=>⟨nofun,nofun⟩)
 obtain ⟨cs,hcp⟩:=hs.co.isCo
 refine ⟨hs.co.fr hf (λk hk=>⟨λe=>?_,λe=>?_,λe=>?_⟩),⟨_,_,_,_,_,hl.apart hf (hS.free hl)⟩,(hf.block gp (Array.getElem?_eq_some_iff.1 hs.led).1 hg).trans hs.led,hs.ne,hs.gp1⟩
 ·exact hS.not hcp (λ_=>⟨nofun,nofun⟩) (e▸hk)
 ·exact mp _ hs.co.txns.isMap (e▸hk)
 ·obtain ⟨_,cc,t,e2,ht⟩:=hs.co.rdm e
  refine hS.not e2 (λ_=>⟨λe3=>?_,λe3=>?_⟩) hk <;> (rcases ht with rfl | rfl <;> cases e3)
theorem NdS.sent {a b:Option Addr} (hnd:w.heap[nd]?=some (jCi i a b ov)) (hov:w.ownsRow B 151 4 ov out.length (jG1 out)):NdS w (nd :: ov.ownBlock.toList):=λk hk _=>by
 rcases List.mem_cons.1 hk with e | e
 ·rw [e,hnd];exact ⟨_,_,rfl,.inl rfl⟩
 ·simp at e
  obtain ⟨c,hc⟩:=jA4 hov e
  exact ⟨c,_,hc,.inr rfl⟩
theorem SentN.nfr {xp:Nat} {a b:Option Addr} (h:SentN B nd i a b ov out' w w') (hnd:w.heap[nd]?=some (jCi i a b ov)) (hov:w.ownsRow B 151 4 ov out.length (jG1 out)) (h1:w'.heap[lp]?=w.heap[lp]?) (h2:w'.heap[p]?=w.heap[p]?) (h3:w'.heap[xp]?=w.heap[xp]?) :
  NFr (ownL hp nd p lp xp gp w) (ownL hp nd p lp xp gp w') w w':=by
 obtain ⟨ov',e1,e2,e3,e4⟩:=h
 refine ⟨e3.mono (λk _ hk=>?_),λk hk hm=>?_⟩
 ·rcases List.mem_cons.1 hk with e | e
  ·exact jA8.2 (by simp [e])
  ·simp at e
   exact jA8.2 (by rw [hnd];simp only [(jCo (jAu hov) k).2 e,true_or,or_true])
 ·rcases jA8.1 hm with e | e | e | e | e | e | e | e | e | e
  ·exact jA8.2 (by simp [e])
  ·exact jA8.2 (by simp [e])
  ·exact jA8.2 (by simp [e])
  ·exact jA8.2 (by simp [e])
  ·exact jA8.2 (by simp [e])
  ·exact jA8.2 (by simp [e])
  ·rw [e1] at e
   have e:=(jCo (jAu e2) k).1 e
   rcases e4 k e with e5 | e5
   ·exact jA8.2 (by rw [hnd];simp only [(jCo (jAu hov) k).2 e5,true_or,or_true])
   ·omega
  ·rw [h1] at e;exact jA8.2 (by simp only [e,true_or,or_true])
  ·rw [h2] at e;exact jA8.2 (by simp only [e,true_or,or_true])
  ·rw [h3] at e;exact jA8.2 (by simp only [e,or_true])
end
section
variable {w w':World} {B i hp nd p sp gp bV bT bH lp bD bN m n m' n' cp:Nat} {s s':AShard} {c c':ACo} {l l':ALog} {d d':ADisk} {ov:Value} {out out':List Msg}
theorem ShP.sent (h:ShP w B i hp nd p sp gp bV bT bH lp bD bN m n s l d ov out) (hf:SentN B nd i none (some ⟨sp,0,none⟩) ov out' w w'):∃ ov',ShP w' B i hp nd p sp gp bV bT bH lp bD bN m n s l d ov' out'∧NFr (ownL hp nd p lp sp gp w) (ownL hp nd p lp sp gp w') w w':=by
 have hS:=NdS.sent h.hnd h.hov
 obtain ⟨ov',e1,e2,e3,e4⟩:=hf
 obtain ⟨pv,sv,rv,nD,nN,hl⟩:=h.sl.lg
 have keep:∀ k o,w.heap[k]?=some o→(∀ c,o≠Obj.cells c 210 (0,0)∧o≠Obj.cells c 151 (0,0))→w'.heap[k]?=w.heap[k]?:=λk o hk ho=>e3.block k (Array.getElem?_eq_some_iff.1 hk).1 (hS.not hk ho)
 have k1:=keep hp _ h.hh (λ_=>⟨nofun,nofun⟩)
 have k2:=keep lp _ hl.blk (λ_=>⟨nofun,nofun⟩)
 have k3:=keep p _ hl.disk.blk (λ_=>⟨nofun,nofun⟩)
 have k4:=keep sp _ h.sl.sh.blk (λ_=>⟨nofun,nofun⟩)
 exact ⟨ov',⟨k1.trans h.hh,e1,e2,h.sl.away e3 hS,h.hb⟩,SentN.nfr ⟨ov',e1,e2,e3,e4⟩ h.hnd h.hov k2 k3 k4⟩
theorem CoP.sent (h:CoP w B hp nd p cp gp bT lp bD bN m n c l d ov out) (hf:SentN B nd 0 (some ⟨cp,0,none⟩) none ov out' w w'):∃ ov',CoP w' B hp nd p cp gp bT lp bD bN m n c l d ov' out'∧NFr (ownL hp nd p lp cp gp w) (ownL hp nd p lp cp gp w') w w':=by
 have hS:=NdS.sent h.hnd h.hov
 obtain ⟨ov',e1,e2,e3,e4⟩:=hf
 obtain ⟨pv,sv,rv,nD,nN,hl⟩:=h.sl.lg
 obtain ⟨xv,yv,hcb,-⟩:=h.sl.co.ex
 have keep:∀ k o,w.heap[k]?=some o→(∀ c,o≠Obj.cells c 210 (0,0)∧o≠Obj.cells c 151 (0,0))→w'.heap[k]?=w.heap[k]?:=λk o hk ho=>e3.block k (Array.getElem?_eq_some_iff.1 hk).1 (hS.not hk ho)
 have k1:=keep hp _ h.hh (λ_=>⟨nofun,nofun⟩)
 have k2:=keep lp _ hl.blk (λ_=>⟨nofun,nofun⟩)
 have k3:=keep p _ hl.disk.blk (λ_=>⟨nofun,nofun⟩)
 have k4:=keep cp _ hcb (λ_=>⟨nofun,nofun⟩)
 exact ⟨ov',⟨k1.trans h.hh,e1,e2,h.sl.away e3 hS,h.hb⟩,SentN.nfr ⟨ov',e1,e2,e3,e4⟩ h.hnd h.hov k2 k3 k4⟩
end
def jH2 (B i hp nd p sp gp bV bT bH lp bD bN m n:Nat) (s':AShard) (out':List Msg) (w w':World):Prop :=
 ∃ l' d' m' n' ov',ShP w' B i hp nd p sp gp bV bT bH lp bD bN m' n' s' l' d' ov' out'∧LgW l' d'∧m'≤m+20∧n'≤n+3∧NFr (ownL hp nd p lp sp gp w) (ownL hp nd p lp sp gp w') w w'
def jMk (B hp nd p cp gp bT lp bD bN m n:Nat) (c':ACo) (out':List Msg) (w w':World):Prop :=
 ∃ l' d' m' n' ov',CoP w' B hp nd p cp gp bT lp bD bN m' n' c' l' d' ov' out'∧LgW l' d'∧m'≤m+150∧n'≤n+3∧NFr (ownL hp nd p lp cp gp w) (ownL hp nd p lp cp gp w') w w'
section
variable (B i hp nd p sp gp bV bT bH lp bD bN m n K kd src dst t:Nat) (s:AShard) (l:ALog) (d:ADisk) (ov:Value) (out:List Msg) (w:World)
theorem dPrep (h:ShP w B i hp nd p sp gp bV bT bH lp bD bN m n s l (d.knob (-1) (-1)) ov out) (hw:LgW l d) (hg:SGood K s) (h0:t≠0) (hm:m≤60000000) (hn:n≤60000000) (ho:out.length≤60000000) (hB:2≤B) (hpow:Pows w) (ht:t<18446744073709551616) :
  Calls Tryz.prog 201 #[.pointer (some ⟨nd,0,none⟩),.agg #[.int .i64 (kd:Int),.int .i64 (src:Int),.int .i64 (dst:Int),.int .u64 (t:Int)]] w λe w'=>e=.returned .nilIface∧jH2 B i hp nd p sp gp bV bT bH lp bD bN m n (s.vote t).1 (out++[⟨(s.vote t).2,i,src,t⟩]) w w':=by
 obtain ⟨W,hW⟩:∃ W,W=w.alloc (msgO (kd:Int) (src:Int) (dst:Int) (t:Int)):=⟨_,rfl⟩
 have hf0:Fr [] w W:=by rw [hW];exact (Fr.refl [] w).alloc _
 have hbx:W.heap[w.heap.size]?=some (msgO (kd:Int) (src:Int) (dst:Int) (t:Int)):=by rw [hW];exact heap_alloc_new w _
 have c0:=jA0 (h.new hf0).1.hnd 2
 have x3:=jA0 hbx 3
 simp at c0 x3
 have hop:∀ w',Fr [] W w'→Calls Tryz.prog 247 #[.pointer (some ⟨sp,0,none⟩),.int .u64 (t:Int)] w' λe w1=>e=.returned (.tuple #[.int .i64 ((s.vote t).2:Int),.nilIface])∧∃ l' d' m' n',ShP w1 B i hp nd p sp gp bV bT bH lp bD bN m' n' (s.vote t).1 l' d' ov out∧LgW l' d'∧m'≤m+20∧n'≤n+3∧NFr (ownL hp nd p lp sp gp w) (ownL hp nd p lp sp gp w1) w w1∧w1.heap[w.heap.size]?=some (msgO (kd:Int) (src:Int) (dst:Int) (t:Int)):=λw' hw'=>by
  obtain ⟨hP0,hN0⟩:=h.new (hf0.trans hw')
  have hb0:=(hw'.block _ (Array.getElem?_eq_some_iff.1 hbx).1 sE).trans hbx
  refine (jV9 B sp gp bV bT bH m lp p bD bN n t K s l d w' hP0.sl hw hg hm hn hB ((h.keeps hN0 hB).2 hpow) ht h0).mono ?_
  rintro e w1 ⟨rfl,l',d',m',n',hs1,hx1,hw1,hm1,hn1⟩
  obtain ⟨hP1,hN1⟩:=hP0.sfr hx1 hs1
  exact ⟨rfl,l',d',m',n',hP1,hw1,hm1,hn1,hN0.trans hN1,hx1.cells hP0.sl hb0 dN dN dN dN dN dN⟩
 clear hf0 hbx h hw hpow hg
 go_enter Tryz.func201,Tryz.ntmps201
 go_wp2
 rw [← hW]
 clear hW
 go_region_held3 (λw'=>w'.cell? ⟨nd,2,none⟩=some (.pointer (some ⟨sp,0,none⟩))∧w'.cell? ⟨w.heap.size,3,none⟩=some (.int .u64 (t:Int))) (simp [*])
  (first | (go_at_call 247;refine (hop _ (by first | exact (Fr.refl [] W).drew | exact Fr.refl [] W)).mono ?_;rintro e w1 ⟨rfl,l',d',m',n',h1,h2,h3,h4,h5,h6⟩;have a0:=jA0 h1.hnd 2;have y1:=jA0 h6 1;have y3:=jA0 h6 3;simp at a0 y1 y3;have H1:=jA1 (And.intro h1 (And.intro h2 (And.intro h3 (And.intro h4 (And.intro h5 h6)))));clear h1 h2 h3 h4 h5 h6 hop))
 clear c0 a0 x3
 have hse:∀ w',Fr [] w1 w'→Calls Tryz.prog 113 #[.pointer (some ⟨nd,0,none⟩),.int .i64 ((s.vote t).2:Int),.int .i64 (src:Int),.int .u64 (t:Int)] w' λe w2=>e=.returned (.tuple #[])∧jH2 B i hp nd p sp gp bV bT bH lp bD bN m n (s.vote t).1 (out++[⟨(s.vote t).2,i,src,t⟩]) w w2:=λw' hw'=>by
  obtain ⟨hP1,hN1⟩:=H1.out.1.new hw'
  refine (jH0 B nd i ((s.vote t).2) src t none (some ⟨sp,0,none⟩) ov out w' hP1.hnd hP1.hov hP1.size oE).mono ?_
  rintro e w2 ⟨rfl,hs2⟩
  obtain ⟨ov',hP2,hN2⟩:=hP1.sent hs2
  exact ⟨rfl,l',d',m',n',ov',hP2,H1.out.2.1,H1.out.2.2.1,H1.out.2.2.2.1,(H1.out.2.2.2.2.1.trans hN1).trans hN2⟩
 have HP:=jA1 hse
 clear hse
 go_wp2_with fail
 refine (HP.out _ (by first | exact (Fr.refl [] w1).drew | exact Fr.refl [] w1)).mono ?_
 rintro e w2 ⟨rfl,hp2⟩
 have H2:=jA1 hp2
 clear hp2
 go_wp2
 go_ret
 exact ⟨rfl,H2.out⟩
theorem dComm (h:ShP w B i hp nd p sp gp bV bT bH lp bD bN m n s l (d.knob (-1) (-1)) ov out) (hw:LgW l d) (hg:SGood K s) (h0:t≠0) (he:s.commE t=0) (hm:m≤60000000) (hn:n≤60000000) (ho:out.length≤60000000) (hB:2≤B) (hpow:Pows w) (ht:t<18446744073709551616) :
  Calls Tryz.prog 202 #[.pointer (some ⟨nd,0,none⟩),.agg #[.int .i64 (kd:Int),.int .i64 (src:Int),.int .i64 (dst:Int),.int .u64 (t:Int)]] w λe w'=>e=.returned .nilIface∧jH2 B i hp nd p sp gp bV bT bH lp bD bN m n (s.commS t) (out++[⟨7,i,src,t⟩]) w w':=by
 obtain ⟨W,hW⟩:∃ W,W=w.alloc (msgO (kd:Int) (src:Int) (dst:Int) (t:Int)):=⟨_,rfl⟩
 have hf0:Fr [] w W:=by rw [hW];exact (Fr.refl [] w).alloc _
 have hbx:W.heap[w.heap.size]?=some (msgO (kd:Int) (src:Int) (dst:Int) (t:Int)):=by rw [hW];exact heap_alloc_new w _
 have c0:=jA0 (h.new hf0).1.hnd 2
 have x3:=jA0 hbx 3
 simp at c0 x3
 have hop:∀ w',Fr [] W w'→Calls Tryz.prog 248 #[.pointer (some ⟨sp,0,none⟩),.int .u64 (t:Int)] w' λe w1=>e=.returned .nilIface∧∃ l' d' m' n',ShP w1 B i hp nd p sp gp bV bT bH lp bD bN m' n' (s.commS t) l' d' ov out∧LgW l' d'∧m'≤m+20∧n'≤n+3∧NFr (ownL hp nd p lp sp gp w) (ownL hp nd p lp sp gp w1) w w1∧w1.heap[w.heap.size]?=some (msgO (kd:Int) (src:Int) (dst:Int) (t:Int)):=λw' hw'=>by
  obtain ⟨hP0,hN0⟩:=h.new (hf0.trans hw')
  have hb0:=(hw'.block _ (Array.getElem?_eq_some_iff.1 hbx).1 sE).trans hbx
  refine (jW8 B sp gp bV bT bH m lp p bD bN n t K s l d w' hP0.sl hw hg hm hn hB ((h.keeps hN0 hB).2 hpow) ht h0).mono ?_
  rintro e w1 ⟨hret,l',d',m',n',hs1,hx1,hw1,hm1,hn1⟩
  rw [he,jAt] at hret
  obtain ⟨hP1,hN1⟩:=hP0.sfr hx1 hs1
  exact ⟨hret,l',d',m',n',hP1,hw1,hm1,hn1,hN0.trans hN1,hx1.cells hP0.sl hb0 dN dN dN dN dN dN⟩
 clear hf0 hbx h hw hpow hg
 go_enter Tryz.func202,Tryz.ntmps202
 go_wp2
 rw [← hW]
 clear hW
 go_region_held3 (λw'=>w'.cell? ⟨nd,2,none⟩=some (.pointer (some ⟨sp,0,none⟩))∧w'.cell? ⟨w.heap.size,3,none⟩=some (.int .u64 (t:Int))) (simp [*])
  (first | (go_at_call 248;refine (hop _ (by first | exact (Fr.refl [] W).drew | exact Fr.refl [] W)).mono ?_;rintro e w1 ⟨rfl,l',d',m',n',h1,h2,h3,h4,h5,h6⟩;have a0:=jA0 h1.hnd 2;have y1:=jA0 h6 1;have y3:=jA0 h6 3;simp at a0 y1 y3;have H1:=jA1 (And.intro h1 (And.intro h2 (And.intro h3 (And.intro h4 (And.intro h5 h6)))));clear h1 h2 h3 h4 h5 h6 hop))
 clear c0 a0 x3
 have hse:∀ w',Fr [] w1 w'→Calls Tryz.prog 113 #[.pointer (some ⟨nd,0,none⟩),.int .i64 ((7:Nat):Int),.int .i64 (src:Int),.int .u64 (t:Int)] w' λe w2=>e=.returned (.tuple #[])∧jH2 B i hp nd p sp gp bV bT bH lp bD bN m n (s.commS t) (out++[⟨7,i,src,t⟩]) w w2:=λw' hw'=>by
  obtain ⟨hP1,hN1⟩:=H1.out.1.new hw'
  refine (jH0 B nd i ((7:Nat)) src t none (some ⟨sp,0,none⟩) ov out w' hP1.hnd hP1.hov hP1.size oE).mono ?_
  rintro e w2 ⟨rfl,hs2⟩
  obtain ⟨ov',hP2,hN2⟩:=hP1.sent hs2
  exact ⟨rfl,l',d',m',n',ov',hP2,H1.out.2.1,H1.out.2.2.1,H1.out.2.2.2.1,(H1.out.2.2.2.2.1.trans hN1).trans hN2⟩
 have HP:=jA1 hse
 clear hse
 go_wp2_with fail
 refine (HP.out _ (by first | exact (Fr.refl [] w1).drew | exact Fr.refl [] w1)).mono ?_
 rintro e w2 ⟨rfl,hp2⟩
 have H2:=jA1 hp2
 clear hp2
 go_wp2
 go_ret
 exact ⟨rfl,H2.out⟩
theorem dAbrt (h:ShP w B i hp nd p sp gp bV bT bH lp bD bN m n s l (d.knob (-1) (-1)) ov out) (hw:LgW l d) (h0:t≠0) (_hm:m≤60000000) (hn:n≤60000000) (_ho:out.length≤60000000) (hB:2≤B) (hpow:Pows w) (ht:t<18446744073709551616) :
  Calls Tryz.prog 203 #[.pointer (some ⟨nd,0,none⟩),.agg #[.int .i64 (kd:Int),.int .i64 (src:Int),.int .i64 (dst:Int),.int .u64 (t:Int)]] w λe w'=>e=.returned .nilIface∧jH2 B i hp nd p sp gp bV bT bH lp bD bN m n (s.forget t) out w w':=by
 obtain ⟨W,hW⟩:∃ W,W=w.alloc (msgO (kd:Int) (src:Int) (dst:Int) (t:Int)):=⟨_,rfl⟩
 have hf0:Fr [] w W:=by rw [hW];exact (Fr.refl [] w).alloc _
 have hbx:W.heap[w.heap.size]?=some (msgO (kd:Int) (src:Int) (dst:Int) (t:Int)):=by rw [hW];exact heap_alloc_new w _
 have c0:=jA0 (h.new hf0).1.hnd 2
 have x3:=jA0 hbx 3
 simp at c0 x3
 have hop:∀ w',Fr [] W w'→Calls Tryz.prog 249 #[.pointer (some ⟨sp,0,none⟩),.int .u64 (t:Int)] w' λe w1=>e=.returned .nilIface∧∃ l' d' m' n',ShP w1 B i hp nd p sp gp bV bT bH lp bD bN m' n' (s.forget t) l' d' ov out∧LgW l' d'∧m'≤m+20∧n'≤n+3∧NFr (ownL hp nd p lp sp gp w) (ownL hp nd p lp sp gp w1) w w1∧w1.heap[w.heap.size]?=some (msgO (kd:Int) (src:Int) (dst:Int) (t:Int)):=λw' hw'=>by
  obtain ⟨hP0,hN0⟩:=h.new (hf0.trans hw')
  have hb0:=(hw'.block _ (Array.getElem?_eq_some_iff.1 hbx).1 sE).trans hbx
  refine (jVz B sp gp bV bT bH m lp p bD bN n t s l d w' hP0.sl hw hn hB ((h.keeps hN0 hB).2 hpow) ht h0).mono ?_
  rintro e w1 ⟨rfl,l',d',m',n',hs1,hx1,hw1,hm1,hn1⟩
  obtain ⟨hP1,hN1⟩:=hP0.sfr hx1 hs1
  exact ⟨rfl,l',d',m',n',hP1,hw1,hm1,hn1,hN0.trans hN1,hx1.cells hP0.sl hb0 dN dN dN dN dN dN⟩
 clear hf0 hbx h hw hpow
 go_enter Tryz.func203,Tryz.ntmps203
 go_wp2
 rw [← hW]
 clear hW
 go_region_held3 (λw'=>w'.cell? ⟨nd,2,none⟩=some (.pointer (some ⟨sp,0,none⟩))∧w'.cell? ⟨w.heap.size,3,none⟩=some (.int .u64 (t:Int))) (simp [*])
  (first | (go_at_call 249;refine (hop _ (by first | exact (Fr.refl [] W).drew | exact Fr.refl [] W)).mono ?_;rintro e w1 ⟨rfl,l',d',m',n',h1,h2,h3,h4,h5,h6⟩;have a0:=jA0 h1.hnd 2;have y3:=jA0 h6 3;simp at a0 y3;have H1:=jA1 (And.intro h1 (And.intro h2 (And.intro h3 (And.intro h4 (And.intro h5 h6)))));clear h1 h2 h3 h4 h5 h6 hop))
 go_wp2
 go_ret
 exact ⟨rfl,l',d',m',n',ov,H1.out.1,H1.out.2.1,H1.out.2.2.1,H1.out.2.2.2.1,H1.out.2.2.2.2.1⟩
end
section
variable (B hp nd p cp gp bT lp bD bN m n kd src dst t:Nat) (c:ACo) (l:ALog) (d:ADisk) (ov:Value) (out:List Msg) (w:World)
theorem dVote (h:CoP w B hp nd p cp gp bT lp bD bN m n c l (d.knob (-1) (-1)) ov out) (hw:LgW l d) (hsrc:src<9) (hkd:kd=2∨kd=3∨kd=4) (hm:m≤60000000) (hn:n≤60000000) (_ho:out.length≤60000000) (hB:2≤B) (hpow:Pows w) (ht:t<18446744073709551616) :
  Calls Tryz.prog 204 #[.pointer (some ⟨nd,0,none⟩),.agg #[.int .i64 (kd:Int),.int .i64 (src:Int),.int .i64 (dst:Int),.int .u64 (t:Int)]] w λe w'=>e=.returned .nilIface∧jMk B hp nd p cp gp bT lp bD bN m n (c.voted t src kd) out w w':=by
 obtain ⟨W,hW⟩:∃ W,W=w.alloc (msgO (kd:Int) (src:Int) (dst:Int) (t:Int)):=⟨_,rfl⟩
 have hf0:Fr [] w W:=by rw [hW];exact (Fr.refl [] w).alloc _
 have hbx:W.heap[w.heap.size]?=some (msgO (kd:Int) (src:Int) (dst:Int) (t:Int)):=by rw [hW];exact heap_alloc_new w _
 have c0:=jA0 (h.new hf0).1.hnd 1
 have x0:=jA0 hbx 0
 have x1:=jA0 hbx 1
 have x3:=jA0 hbx 3
 simp at c0 x0 x1 x3
 have hop:∀ w',Fr [] W w'→Calls Tryz.prog 250 #[.pointer (some ⟨cp,0,none⟩),.int .u64 (t:Int),.int .i64 (src:Int),.int .i64 (kd:Int)] w' λe w1=>e=.returned .nilIface∧∃ l' d' m' n',CoP w1 B hp nd p cp gp bT lp bD bN m' n' (c.voted t src kd) l' d' ov out∧LgW l' d'∧m'≤m+150∧n'≤n+3∧NFr (ownL hp nd p lp cp gp w) (ownL hp nd p lp cp gp w1) w w1∧w1.heap[w.heap.size]?=some (msgO (kd:Int) (src:Int) (dst:Int) (t:Int)):=λw' hw'=>by
  obtain ⟨hP0,hN0⟩:=h.new (hf0.trans hw')
  have hb0:=(hw'.block _ (Array.getElem?_eq_some_iff.1 hbx).1 sE).trans hbx
  refine (jVd B cp gp bT m lp p bD bN n t c l d w' src kd hsrc hkd hP0.sl hw hm hn hB ((h.keeps hN0 hB).2 hpow) ht).mono ?_
  rintro e w1 ⟨rfl,l',d',m',n',hs1,hx1,hw1,hm1,hn1⟩
  obtain ⟨hP1,hN1⟩:=hP0.cfr hx1 hs1
  exact ⟨rfl,l',d',m',n',hP1,hw1,hm1,hn1,hN0.trans hN1,hx1.cells hP0.sl hb0 dN dN dN dN dN dN dN dN⟩
 clear hf0 hbx h hw hpow
 go_enter Tryz.func204,Tryz.ntmps204
 go_wp2
 rw [← hW]
 clear hW
 go_region_held3 (λw'=>w'.cell? ⟨nd,1,none⟩=some (.pointer (some ⟨cp,0,none⟩))∧w'.cell? ⟨w.heap.size,0,none⟩=some (.int .i64 (kd:Int))∧w'.cell? ⟨w.heap.size,1,none⟩=some (.int .i64 (src:Int))∧w'.cell? ⟨w.heap.size,3,none⟩=some (.int .u64 (t:Int))) (simp [*])
  (first | (go_at_call 250;refine (hop _ (by first | exact (Fr.refl [] W).drew | exact Fr.refl [] W)).mono ?_;rintro e w1 ⟨rfl,l',d',m',n',h1,h2,h3,h4,h5,h6⟩;have a0:=jA0 h1.hnd 1;have y0:=jA0 h6 0;have y1:=jA0 h6 1;have y3:=jA0 h6 3;simp at a0 y0 y1 y3;have H1:=jA1 (And.intro h1 (And.intro h2 (And.intro h3 (And.intro h4 (And.intro h5 h6)))));clear h1 h2 h3 h4 h5 h6 hop))
 go_wp2
 go_ret
 exact ⟨rfl,l',d',m',n',ov,H1.out.1,H1.out.2.1,H1.out.2.2.1,H1.out.2.2.2.1,H1.out.2.2.2.2.1⟩
theorem dDone (h:CoP w B hp nd p cp gp bT lp bD bN m n c l (d.knob (-1) (-1)) ov out) (hw:LgW l d) (hsrc:src<9) (hm:m≤60000000) (hn:n≤60000000) (_ho:out.length≤60000000) (hB:2≤B) (hpow:Pows w) (ht:t<18446744073709551616) :
  Calls Tryz.prog 205 #[.pointer (some ⟨nd,0,none⟩),.agg #[.int .i64 (kd:Int),.int .i64 (src:Int),.int .i64 (dst:Int),.int .u64 (t:Int)]] w λe w'=>e=.returned .nilIface∧jMk B hp nd p cp gp bT lp bD bN m n (c.doneS t src) out w w':=by
 obtain ⟨W,hW⟩:∃ W,W=w.alloc (msgO (kd:Int) (src:Int) (dst:Int) (t:Int)):=⟨_,rfl⟩
 have hf0:Fr [] w W:=by rw [hW];exact (Fr.refl [] w).alloc _
 have hbx:W.heap[w.heap.size]?=some (msgO (kd:Int) (src:Int) (dst:Int) (t:Int)):=by rw [hW];exact heap_alloc_new w _
 have c0:=jA0 (h.new hf0).1.hnd 1
 have x1:=jA0 hbx 1
 have x3:=jA0 hbx 3
 simp at c0 x1 x3
 have hop:∀ w',Fr [] W w'→Calls Tryz.prog 251 #[.pointer (some ⟨cp,0,none⟩),.int .u64 (t:Int),.int .i64 (src:Int)] w' λe w1=>e=.returned .nilIface∧∃ l' d' m' n',CoP w1 B hp nd p cp gp bT lp bD bN m' n' (c.doneS t src) l' d' ov out∧LgW l' d'∧m'≤m+150∧n'≤n+3∧NFr (ownL hp nd p lp cp gp w) (ownL hp nd p lp cp gp w1) w w1∧w1.heap[w.heap.size]?=some (msgO (kd:Int) (src:Int) (dst:Int) (t:Int)):=λw' hw'=>by
  obtain ⟨hP0,hN0⟩:=h.new (hf0.trans hw')
  have hb0:=(hw'.block _ (Array.getElem?_eq_some_iff.1 hbx).1 sE).trans hbx
  refine (jW2 B cp gp bT m lp p bD bN n t c l d w' src hsrc hP0.sl hw hm hn hB ((h.keeps hN0 hB).2 hpow) ht).mono ?_
  rintro e w1 ⟨rfl,l',d',m',n',hs1,hx1,hw1,hm1,hn1⟩
  obtain ⟨hP1,hN1⟩:=hP0.cfr hx1 hs1
  exact ⟨rfl,l',d',m',n',hP1,hw1,hm1,hn1,hN0.trans hN1,hx1.cells hP0.sl hb0 dN dN dN dN dN dN dN dN⟩
 clear hf0 hbx h hw hpow
 go_enter Tryz.func205,Tryz.ntmps205
 go_wp2
 rw [← hW]
 clear hW
 go_region_held3 (λw'=>w'.cell? ⟨nd,1,none⟩=some (.pointer (some ⟨cp,0,none⟩))∧w'.cell? ⟨w.heap.size,1,none⟩=some (.int .i64 (src:Int))∧w'.cell? ⟨w.heap.size,3,none⟩=some (.int .u64 (t:Int))) (simp [*])
  (first | (go_at_call 251;refine (hop _ (by first | exact (Fr.refl [] W).drew | exact Fr.refl [] W)).mono ?_;rintro e w1 ⟨rfl,l',d',m',n',h1,h2,h3,h4,h5,h6⟩;have a0:=jA0 h1.hnd 1;have y1:=jA0 h6 1;have y3:=jA0 h6 3;simp at a0 y1 y3;have H1:=jA1 (And.intro h1 (And.intro h2 (And.intro h3 (And.intro h4 (And.intro h5 h6)))));clear h1 h2 h3 h4 h5 h6 hop))
 go_wp2
 go_ret
 exact ⟨rfl,l',d',m',n',ov,H1.out.1,H1.out.2.1,H1.out.2.2.1,H1.out.2.2.2.1,H1.out.2.2.2.2.1⟩
end
end Go.Proofs.YtcalalndmcemiaaGreatDoor
set_option maxRecDepth 100000
set_option maxHeartbeats 16000000
namespace Go.Proofs.YtcalalndmcemiaaGreatDoor
open Go.RowKit
open Sc
def rb (S:Nat→ByteArray) (j:Nat):List Nat:=jAq j j (jA6 (S j))
def recs (S:Nat→ByteArray) (j:Nat):List Rec:=(List.range j).map λq=>⟨q,q,jA6 (S q)⟩
end Go.Proofs.YtcalalndmcemiaaGreatDoor
set_option maxRecDepth 100000
set_option maxHeartbeats 16000000
namespace Go.Proofs.YtcalalndmcemiaaGreatDoor
open Go.RowKit Go.Maps
open Sc
theorem jG5 (l:List Nat):(str l).data=(l.map λx=>UInt8.ofNat x).toArray:=by
 have aux:∀ (l:List Nat) (r:ByteArray),((l.map λx:Nat=>(x:Int)).foldl (λr n=>r.push (UInt8.ofNat n.toNat)) r).data=r.data++(l.map λx=>UInt8.ofNat x).toArray:=by
  intro l
  induction l with
  | nil=>intro r;simp
  | cons x l ih =>
   intro r
   rw [List.map_cons,List.foldl_cons,ih]
   simp [ByteArray.push]
 unfold str
 rw [aux]
 simp
theorem jCt {l:List Nat} (h:Byt l):jA6 (str l)=l:=by
 unfold jA6
 rw [jG5]
 simp only [List.map_map]
 have:∀ (m:List Nat),Byt m→m.map (UInt8.toNat ∘ λx=>UInt8.ofNat x)=m:=by
  intro m
  induction m with
  | nil=>intro _;rfl
  | cons x m ih =>
   intro hb
   have hx:x<256:=hb x sE
   rw [List.map_cons,ih (λy hy=>hb y (by simp [hy]))]
   congr 1
   simp
   omega
 exact this l h
def encR (rs:List Rec):List Nat:=rs.flatMap λr=>jAq r.lsn r.kind r.pay
def FineR (rs:List Rec):Prop:=∀ (k:Nat) (r:Rec),rs[k]?=some r→r.lsn=1+k∧r.kind<256∧r.pay.length≤255∧Byt r.pay∧r.lsn<18446744073709551616
structure Msg.Ok (x:Msg):Prop where
 sound:jEq x.kind x.src x.dst x.txn=true
 id:x.txn<18446744073709551616
def Msg.bytes (x:Msg):List Nat:=jD6 x.kind x.src x.dst x.txn
theorem Msg.Ok.small {x:Msg} (h:x.Ok):x.kind≤8∧x.src≤8∧x.dst≤8∧x.txn≠0:=by
 have:=h.sound
 unfold jEq at this
 simp at this
 omega
theorem Msg.bytes_len (x:Msg):x.bytes.length=15:=jJs _ _ _ _
theorem Msg.Ok.byt {x:Msg} (h:x.Ok):Byt x.bytes:=by
 have:=h.small
 exact jJi _ _ _ _ oE oE oE
theorem Msg.Ok.dec {x:Msg} (h:x.Ok):jG0 x.bytes=true∧decV x.bytes=.agg #[.int .i64 (x.kind:Int),.int .i64 (x.src:Int),.int .i64 (x.dst:Int),.int .u64 (x.txn:Int)]:=by
 have hl:=x.bytes_len
 have hsm:=h.small
 have e0:at_ x.bytes 0=x.kind:=rfl
 have e1:at_ x.bytes 1=x.src:=rfl
 have e2:at_ x.bytes 2=x.dst:=rfl
 have e3:msgTxn x.bytes=x.txn:=by
  unfold msgTxn Msg.bytes jD6 jCd
  rw [show ([x.kind,x.src,x.dst]++be 8 x.txn++be 4 (crc ([x.kind,x.src,x.dst]++be 8 x.txn))).drop 3=be 8 x.txn++be 4 (crc ([x.kind,x.src,x.dst]++be 8 x.txn)) from rfl,List.take_left' (jB3 8 x.txn)]
  exact jH6 8 x.txn (by have:=h.id;omega)
 have e4:x.bytes.take 11=jCd x.kind x.src x.dst x.txn:=List.take_left' (jEk _ _ _ _)
 have e5:x.bytes.drop 11=be 4 (crc (jCd x.kind x.src x.dst x.txn)):=List.drop_left' (jEk _ _ _ _)
 have hok:jE2 x.bytes=true:=by
  unfold jE2
  rw [e0,e1,e2,e3,e4,e5,jH6 4 _ (jUo _ (jEe _ _ _ _ oE oE oE)),h.sound]
  simp
 refine ⟨by rw [jG4 hl];exact hok,?_⟩
 rw [jKz hl,jJr hok,e0,e1,e2,e3]
section
variable (B hp m n t:Nat) (seq:Int) (k:ByteArray) (s:AShard) (l:ALog) (d:ADisk) (w:World)
theorem SL.ops {w w':World} {B sp gp bV bT bH m m' lp p bD bN n:Nat} {s s':AShard} {l:ALog} {d:ADisk} (h:SL w B sp gp bV bT bH m lp p bD bN n s l d) (hin:ShIn w' sp gp bV bT bH m' s') (hf:Fr [bT,bH] w w'):SL w' B sp gp bV bT bH m' lp p bD bN n s' l d∧SFr sp bV bT bH lp p w w' :=
 h.turn hin hf (by intro k hk;simp at hk ⊢;rcases hk with e | e <;> simp [e])
end
theorem SFr.metN {w w':World} {B sp gp bV bT bH m lp p bD bN n:Nat} {s:AShard} {l:ALog} {d:ADisk} (hf:SFr sp bV bT bH lp p w w') (hs:SL w B sp gp bV bT bH m lp p bD bN n s l d) (hb:B≤sp∧B≤bV∧B≤bT∧B≤bH) (hB:2≤B) (hm:Met w):Met w':=(hf.hfr hs hb).met hB hm
section
variable (B i hp K t:Nat) (seq:Int) (k:ByteArray) (s:AShard) (out:List Msg) (L:List Nat) (w:World)
theorem nPut (v:ByteArray) (h:ShNode w B i hp s out K L) (hg:SGood K s) (hB:2≤B) (hmet:Met w) (ht:t<18446744073709551616) (hK:K≤300000) :
  Calls Tryz.prog 15 #[.pointer (some ⟨hp,0,none⟩),.int .u64 (t:Int),.int .i64 seq,.string k,.string v] w λe w'=>e=.returned (.int .i64 ((s.operate t seq k ⟨1,v⟩).2:Int))∧∃ L',ShNode w' B i hp (s.operate t seq k ⟨1,v⟩).1 out (K+1) L'∧NFr L L' w w':=by
 obtain ⟨nd,p,sp,gp,bV,bT,bH,lp,bD,bN,m,n,l,d,ov,hP,hw,hm,rfl⟩:=h
 have hlg:=hP.sl.gp1
 have hpu:=jXr sp gp bV bT bH m t seq k s w v hP.sl.sh ht (by unfold maxLen;omega) (hg.st t) (by have:=hg.done t;omega)
 obtain ⟨r,hr⟩:∃ r,r=(s.operate t seq k ⟨1,v⟩):=⟨_,rfl⟩
 rw [← hr] at hpu ⊢
 have c5:=jA0 hP.hh 5
 simp at c5
 have H0:=jA1 (And.intro hP (And.intro hw hm))
 clear hP hw hm hr hg
 go_enter Tryz.func15,Tryz.ntmps15
 go_wp2_with fail
 refine hpu.mono ?_
 clear hpu
 rintro e w1 ⟨rfl,hin1,hf1⟩
 obtain ⟨hs1,hx1⟩:=H0.out.1.sl.ops hin1 hf1
 have hmet1:=hx1.metN H0.out.1.sl H0.out.1.hb.2.2.2 hB hmet
 have H1:=jA1 (And.intro hs1 hx1)
 clear hin1 hf1 hs1 hx1 c5
 go_wp2_with fail
 refine (jD4 r.2 w1 hmet1).mono ?_
 rintro e w2 ⟨rfl,hf2⟩
 obtain ⟨hs2,hx2⟩:=H1.out.1.new hf2
 have hE:=H0.out.1.sfr (H1.out.2.trans hx2) hs2
 have H2:=jA1 (show ShNode w2 B i hp r.1 out (K+1) (ownL hp nd p lp sp gp w2)∧NFr (ownL hp nd p lp sp gp w) (ownL hp nd p lp sp gp w2) w w2 from ⟨⟨nd,p,sp,gp,bV,bT,bH,lp,bD,bN,m+2,n,l,d,ov,hE.1,H0.out.2.1,(by have:=H0.out.2.2;omega),rfl⟩,hE.2⟩)
 clear hs2 hx2 hf2 hE
 go_wp2
 go_ret
 exact ⟨rfl,_,H2.out⟩
theorem nGet (h:ShNode w B i hp s out K L) (hg:SGood K s) (hB:2≤B) (hmet:Met w) (ht:t<18446744073709551616) (hk:k.size≤maxLen) (hK:K≤300000) :
  Calls Tryz.prog 13 #[.pointer (some ⟨hp,0,none⟩),.int .u64 (t:Int),.int .i64 seq,.string k] w λe w'=>e=.returned (.tuple #[.string (s.get t seq k).2.1,.bool (s.get t seq k).2.2.1,.int .i64 ((s.get t seq k).2.2.2:Int)])∧∃ L',ShNode w' B i hp (s.get t seq k).1 out (K+1) L'∧NFr L L' w w':=by
 obtain ⟨nd,p,sp,gp,bV,bT,bH,lp,bD,bN,m,n,l,d,ov,hP,hw,hm,rfl⟩:=h
 have hlg:=hP.sl.gp1
 have hpu:=jX0 sp gp bV bT bH m t seq k s w hP.sl.sh ht hk (by unfold maxLen;omega) (hg.st t) (by have:=hg.done t;omega)
 obtain ⟨r,hr⟩:∃ r,r=(s.get t seq k):=⟨_,rfl⟩
 rw [← hr] at hpu ⊢
 have c5:=jA0 hP.hh 5
 simp at c5
 have H0:=jA1 (And.intro hP (And.intro hw hm))
 clear hP hw hm hr hg
 go_enter Tryz.func13,Tryz.ntmps13
 go_wp2_with fail
 refine hpu.mono ?_
 clear hpu
 rintro e w1 ⟨rfl,hin1,hf1⟩
 obtain ⟨hs1,hx1⟩:=H0.out.1.sl.ops hin1 hf1
 have hmet1:=hx1.metN H0.out.1.sl H0.out.1.hb.2.2.2 hB hmet
 have H1:=jA1 (And.intro hs1 hx1)
 clear hin1 hf1 hs1 hx1 c5
 go_wp2_with fail
 refine (jD4 r.2.2.2 w1 hmet1).mono ?_
 rintro e w2 ⟨rfl,hf2⟩
 obtain ⟨hs2,hx2⟩:=H1.out.1.new hf2
 have hE:=H0.out.1.sfr (H1.out.2.trans hx2) hs2
 have H2:=jA1 (show ShNode w2 B i hp r.1 out (K+1) (ownL hp nd p lp sp gp w2)∧NFr (ownL hp nd p lp sp gp w) (ownL hp nd p lp sp gp w2) w w2 from ⟨⟨nd,p,sp,gp,bV,bT,bH,lp,bD,bN,m+2,n,l,d,ov,hE.1,H0.out.2.1,(by have:=H0.out.2.2;omega),rfl⟩,hE.2⟩)
 clear hs2 hx2 hf2 hE
 go_wp2
 go_ret3
 exact ⟨rfl,_,H2.out⟩
theorem jX5 (h:ShNode w B i hp s out K L) (hk:k.size≤maxLen) :
  Calls Tryz.prog 26 #[.pointer (some ⟨hp,0,none⟩),.string k] w λe w'=>e=.returned (.tuple #[.string ((jA3 s.vals k).getD ByteArray.empty),.bool (jA3 s.vals k).isSome])∧Fr [] w w':=by
 obtain ⟨nd,p,sp,gp,bV,bT,bH,lp,bD,bN,m,n,l,d,ov,⟨hh,hnd,hov,hs,hb⟩,hw,hm,rfl⟩:=h
 have hpu:=jJq sp gp bV bT bH m k s w hs.sh hk
 have c5:=jA0 hh 5
 simp at c5
 clear hh hs hnd hov hw hb hm
 go_enter Tryz.func26,Tryz.ntmps26
 go_wp2_with fail
 refine hpu.mono ?_
 clear hpu
 rintro e w1 ⟨rfl,q,rfl⟩
 go_wp2
 go_ret2
 exact ⟨rfl,jAk (Fr.refl [] w) q⟩
theorem nIs (x1 x2 x3:Option Addr) (p:Nat) (up:Bool) (hh:w.heap[hp]?=some (jBu i p up x1 x2 x3)) :
  Calls Tryz.prog 21 #[.pointer (some ⟨hp,0,none⟩)] w λe w'=>e=.returned (.bool up)∧w'=w:=by
 have c3:=jA0 hh 3
 simp at c3
 clear hh
 go_enter Tryz.func21,Tryz.ntmps21
 go_wp2
 go_ret
 exact ⟨rfl,rfl⟩
theorem nIsS (h:ShNode w B i hp s out K L):Calls Tryz.prog 21 #[.pointer (some ⟨hp,0,none⟩)] w λe w'=>e=.returned (.bool true)∧w'=w:=by
 obtain ⟨nd,p,sp,gp,bV,bT,bH,lp,bD,bN,m,n,l,d,ov,hP,-⟩:=h
 exact nIs i hp w _ _ _ p true hP.hh
theorem nIsC (c:ACo) (h:CoNode w B hp c out K L):Calls Tryz.prog 21 #[.pointer (some ⟨hp,0,none⟩)] w λe w'=>e=.returned (.bool true)∧w'=w:=by
 obtain ⟨nd,p,cp,gp,bT,lp,bD,bN,m,n,l,d,ov,hP,-⟩:=h
 exact nIs 0 hp w _ _ _ p true hP.hh
theorem jXt (h:ShNode w B i hp s out K L) (hK:K≤300000) :
  Calls Tryz.prog 76 #[.pointer (some ⟨hp,0,none⟩),.int .i64 0] w λe w'=>∃ v,e=.returned (.tuple #[v,.bool true])∧w'.ownsRow w.heap.size 164 2 v (jC3 s.vals).length (jEd (jC3 s.vals))∧Fr [] w w':=by
 obtain ⟨nd,p,sp,gp,bV,bT,bH,lp,bD,bN,m,n,l,d,ov,⟨hh,hnd,hov,hs,hb⟩,hw,hm,rfl⟩:=h
 refine ((callsIn_wide (n:=9)).1 (jR1 9 (Nat.le_refl _) hp sp gp bV bT bH m s w _ rfl hh hs.sh oE)).mono ?_
 rintro e w' ⟨v,rfl,hr,hbl⟩
 exact ⟨v,rfl,hr,Fr.of_below hbl _⟩
end
theorem jFs (g n cap:Nat) (c:Array Value) (w:World) (hg:w.heap[g]?=some (.cells c 5 (c.size,c.size+1))) (hn:n≤c.size) (hn2:n≤1099511627776) :
  Calls Tryz.prog 70 #[.slice (some ⟨g,0,none⟩) n cap] w λe w'=>e=.returned (.tuple #[])∧Fr [g] w w':=by
 have HG:=jA1 hg
 clear hg
 go_enter Tryz.func70,Tryz.ntmps70
 go_wp2
 go_loopw [5] (λi wr=>∃ k:Nat,k≤n∧i=.int .i64 k∧Hid ((∃ c':Array Value,c'.size=c.size∧wr.heap[g]?=some (.cells c' 5 (c.size,c.size+1)))∧Fr [g] w wr)) (λi _=>n - (intOf i).toNat)
 case atStart=>exact ⟨0,Nat.zero_le _,rfl,⟨c,rfl,HG.out⟩,Fr.refl _ _⟩
 case round =>
  obtain ⟨k,hk,rfl,HR⟩:=hrel
  by_cases hlt:k<n
  ·obtain ⟨⟨c',hs,hb⟩,hf⟩:=HR.out
   obtain ⟨vk,hcx⟩:∃ vk,wr.cell? ⟨g,k,none⟩=some vk:=⟨c'[k]' oE,by simp [World.cell?,hb]⟩
   have hfx:wr.frozen? ⟨g,k,none⟩=false:=by simp [World.frozen?,hb];omega
   have HN:Hid ((∃ c'':Array Value,c''.size=c.size∧(wr.setCell ⟨g,k,none⟩ (.int .u8 33)).heap[g]?=some (.cells c'' 5 (c.size,c.size+1)))∧Fr [g] w (wr.setCell ⟨g,k,none⟩ (.int .u8 33))):=⟨⟨c'.setIfInBounds k (.int .u8 33),by simp [hs],by simp [World.setCell,Array.getElem?_modify,hb]⟩,hf.trans (Fr.set1 sE _ _)⟩
   clear hb hf hs
   have i0:(0:Int)≤(k:Int):=by omega
   have i1:(k:Int)<(n:Int):=by omega
   go_wp2
   go_roundw
   case rel=>exact ⟨k+1,by omega,by go_num,HN⟩
   case measure=>simp [intOf];omega
  ·go_wp2
   go_end0
   exact ⟨rfl,HR.out.2⟩
theorem jW6:jBs 201:=enters_of Tryz.func201 (by kernel_rfl) rfl
theorem jWq:jBs 202:=enters_of Tryz.func202 (by kernel_rfl) rfl
theorem jWp:jBs 203:=enters_of Tryz.func203 (by kernel_rfl) rfl
theorem jWk:jBs 204:=enters_of Tryz.func204 (by kernel_rfl) rfl
theorem jW9:jBs 205:=enters_of Tryz.func205 (by kernel_rfl) rfl
theorem jNc (nd i g cap f:Nat) (cc ss:Option Addr) (ov:Value) (x:Msg) (hx:x.Ok) (hd:x.dst=i) (hfn:jA3 jP5 x.kind=some (some f)) (hen:jBs f) (hne:(cc=none∧∃ a,ss=some a)∨(∃ a,cc=some a)∧ss=none) (w:World) (hnd:w.heap[nd]?=some (jCi i cc ss ov)) (hrow:RowAt w g 0 x.bytes) (hcap:15≤cap∧cap≤maxLen) (Q:World→Prop)
  (hdeed:∀ w',Fr [] w w'→Calls Tryz.prog f #[.pointer (some ⟨nd,0,none⟩),.agg #[.int .i64 (x.kind:Int),.int .i64 (x.src:Int),.int .i64 (x.dst:Int),.int .u64 (x.txn:Int)]] w' λe w2=>e=.returned .nilIface∧Q w2∧∀ k,w.heap.size≤k→k<w'.heap.size→w2.heap[k]?=w'.heap[k]?) :
  Calls Tryz.prog 116 #[.pointer (some ⟨nd,0,none⟩),.slice (some ⟨g,0,none⟩) 15 cap] w λe w'=>e=.returned .nilIface∧Q w':=by
 have hdc:=jJj g 0 cap x.bytes w x.bytes_len hx.byt hcap.1 hcap.2 hrow
 obtain ⟨d1,d2⟩:=hx.dec
 rw [jG4 x.bytes_len] at d1
 rw [jKz x.bytes_len] at d2
 rw [d1,d2,jIo] at hdc
 clear hrow hcap d1 d2
 go_enter Tryz.func116,Tryz.ntmps116
 go_wp2_with fail
 refine hdc.mono ?_
 rintro e w1 ⟨rfl,hb1⟩
 clear hdc
 obtain ⟨W,hW⟩:∃ W,W=w1.alloc (msgO (x.kind:Int) (x.src:Int) (i:Int) (x.txn:Int)):=⟨_,rfl⟩
 obtain ⟨bx,hbx⟩:∃ bx,bx=w1.heap.size:=⟨_,rfl⟩
 have hf1:Fr [] w W:=by rw [hW];exact (Fr.of_below hb1 []).alloc _
 have hB1:W.heap[bx]?=some (msgO (x.kind:Int) (x.src:Int) (i:Int) (x.txn:Int)):=by rw [hW,hbx];exact heap_alloc_new w1 _
 have hnd1:=(hf1.block nd (Array.getElem?_eq_some_iff.1 hnd).1 sE).trans hnd
 have hbg:w.heap.size≤bx:=by rw [hbx];exact hb1.size
 have H1:=jA1 (And.intro hf1 (And.intro hB1 hnd1))
 have c0:=jA0 hnd1 0
 have c1:=jA0 hnd1 1
 have c2:=jA0 hnd1 2
 have x2:=jA0 hB1 2
 simp at c0 c1 c2 x2
 have hkd:=hx.small.1
 clear hf1 hB1 hnd1 hb1 hnd hx
 subst hd
 go_wp2_with fail
 rw [← hW,← hbx]
 clear hW hbx
 go_quiet (fail)
 have hfq:Fr [] W (W.drewN nq):=jAk (Fr.refl [] W) nq
 have hB2:=(hfq.block bx (Array.getElem?_eq_some_iff.1 H1.out.2.1).1 sE).trans H1.out.2.1
 have hnd2:=(hfq.block nd (Array.getElem?_eq_some_iff.1 H1.out.2.2).1 sE).trans H1.out.2.2
 have H2:=jA1 (And.intro (H1.out.1.trans hfq) hB2)
 generalize W.drewN nq=W2 at H2 hB2 hnd2 hfq ⊢
 clear hfq c0 c1 c2 x2 H1
 have c1:=jA0 hnd2 1
 have c2:=jA0 hnd2 2
 have x0:=jA0 hB2 0
 have x1:=jA0 hB2 1
 have x2:=jA0 hB2 2
 have x3:=jA0 hB2 3
 simp at c1 c2 x0 x1 x2 x3
 have hbl:bx<W2.heap.size:=(Array.getElem?_eq_some_iff.1 hB2).1
 clear hB2 hnd2
 unfold jBs at hen
 have HD:=jA1 hdeed
 clear hdeed
 have hlk:∀ (w':World) (b:Nat),MapAs KI EF w' b 8 jP5→(Instr.lookup 286 (.map (some b)) (.int .i64 (x.kind:Int)) false).run Tryz.prog w'=.ok (.func (.func f) #[] #[]) w':=λw' b hm=>by
  have:=MapAs.look hm Tryz.underlying286 (jTv w') trivial (k:=x.kind) (show x.kind<256 by omega)
  rw [hfn] at this
  exact this
 have HL:=jA1 hlk
 clear hlk hfn hkd
 rcases hne with ⟨rfl,a,rfl⟩ | ⟨⟨a,rfl⟩,rfl⟩
 all_goals
  go_wp2_with fail
  clear c1 c2
  go_region_held3 (λw'=>w'.cell? ⟨bx,0,none⟩=some (.int .i64 (x.kind:Int))∧w'.cell? ⟨bx,1,none⟩=some (.int .i64 (x.src:Int))∧w'.cell? ⟨bx,2,none⟩=some (.int .i64 (x.dst:Int))∧w'.cell? ⟨bx,3,none⟩=some (.int .u64 (x.txn:Int))) (simp [*])
   (first
    | (go_at_call 159;refine (jS6 _).mono ?_;rintro e w3 ⟨b3,rfl,hm3,hf3⟩;have hB3:w3.heap[bx]?=some (msgO (x.kind:Int) (x.src:Int) (x.dst:Int) (x.txn:Int)):=(hf3.block bx (by simpa using hbl) (by simp)).trans H2.out.2;have y0:=jA0 hB3 0;have y1:=jA0 hB3 1;have y2:=jA0 hB3 2;have y3:=jA0 hB3 3;simp at y0 y1 y2 y3;have hr3:=HL.out w3 b3 hm3;have H3:=jA1 (And.intro ((H2.out.1.drew).trans hf3) hB3);clear hm3 hf3 hB3)
    | (refine (HD.out _ H3.out.1).mono ?_;rintro e w4 ⟨rfl,hQ,hst⟩;have hB4:=(hst bx hbg (Array.getElem?_eq_some_iff.1 H3.out.2).1).trans H3.out.2;have z0:=jA0 hB4 0;have z1:=jA0 hB4 1;have z2:=jA0 hB4 2;have z3:=jA0 hB4 3;simp at z0 z1 z2 z3;have H4:=jA1 hQ;clear hQ hst hB4))
  go_wp2
  go_ret
  exact ⟨rfl,H4.out⟩
end Go.Proofs.YtcalalndmcemiaaGreatDoor
