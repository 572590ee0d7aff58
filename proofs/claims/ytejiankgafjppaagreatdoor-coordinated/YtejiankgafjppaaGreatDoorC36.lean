import Derived.Test.YtejiankgafjppaaGreatDoorC30
import Derived.Test.YtejiankgafjppaaGreatDoorC35
import Derived.Test.YtejiankgafjppaaGreatDoorC34
import Derived.Test.YtejiankgafjppaaGreatDoorC17
import Derived.Test.YtejiankgafjppaaGreatDoorC01
namespace Go.Proofs.YtejiankgafjppaaGreatDoor
open Go.RowKit Go.Maps Go.Shelf
open Sc
abbrev judO (hp mp:Nat) (cv:Value):Obj:=.cells #[.pointer (some ⟨hp,0,none⟩),.pointer (some ⟨mp,0,none⟩),cv,.int .u64 0,.bool false,.bool false] 82
theorem jlist (n:Nat) (Q:Nat→Prop):∃ S:List Nat,(∀ k∈S,Q k)∧∀ k,k<n→Q k→k∈S:=by
 classical
 refine ⟨(List.range n).filter (fun k=>decide (Q k)),fun k hk=>?_,fun k hk hq=>?_⟩
 ·simpa using (List.mem_filter.1 hk).2
 ·exact List.mem_filter.2 ⟨List.mem_range.2 hk,by simpa using hq⟩
theorem jcne {c c':Array Value} {t t':TypeId} {fr fr':Nat × Nat} (hne:t≠t'):some (Obj.cells c t fr)≠some (Obj.cells c' t' fr'):=by
 intro e
 injection e with e
 injection e with _ e2 _
 exact hne e2
structure JFr [Inhabited Bs] (w w':World):Prop where
 below:Below B0 w w'
 step:∀ (k:Nat) (c:Array Value),w.heap[k]?=some (.cells c 64 (0,0))→w'.heap[k]?=some (.cells c 64 (0,0))
section
variable [Inhabited Bs] {w w' w2:World}
theorem JFr.trans (h:JFr w w') (k:JFr w' w2):JFr w w2:=⟨h.below.trans k.below,fun i c hi=>k.step i c (h.step i c hi)⟩
theorem JFr.of_fr {S:List Nat} (hf:Fr S w w') (hB:B0≤w.heap.size) (hS:∀ k∈S,B0≤k∧∀ c,w.heap[k]?≠some (.cells c 64 (0,0))):JFr w w' :=
 ⟨hf.below hB (fun k hk=>(hS k hk).1),fun k c hk=>(hf.block k (Array.getElem?_eq_some_iff.1 hk).1 (fun hm=>(hS k hm).2 c hk)).trans hk⟩
theorem JFr.new (hf:Fr [] w w') (hB:B0≤w.heap.size):JFr w w':=JFr.of_fr hf hB (by simp)
theorem JFr.met (h:JFr w w') (hB:2≤(B0:Nat)) (hm:Met w):Met w':=hm.below h.below (by omega)
theorem JFr.pows (h:JFr w w') (hB:2≤(B0:Nat)) (hm:Pows w):Pows w':=hm.of_block (h.below.block 1 (by omega))
end
section
variable {w w':World} {B hp p cp gp bT lp bD bN m n m' n':Nat} {c c':ACo} {l l':ALog} {d d':ADisk}
theorem CFr.list (h:CFr cp bT lp p w w'):∃ S,Fr S w w'∧∀ k∈S,Own lp p w k∨k∈[cp,bT]∨k∈rd cp w:=by
 obtain ⟨S,h1,h2⟩:=jlist w.heap.size fun k=>Own lp p w k∨k∈[cp,bT]∨k∈rd cp w
 exact ⟨S,⟨h.os,h.tape,h.output,h.size,fun k hk hn=>h.block k hk (fun ho=>hn (h2 k hk (.inl ho))) (fun hm=>hn (h2 k hk (.inr (.inl hm)))) (fun hm=>hn (h2 k hk (.inr (.inr hm))))⟩,h1⟩
structure Lwc (w:World) (hp p cp gp bT lp k:Nat):Prop where
 own:¬ Own lp p w k
 text:∀ t,w.heap[k]?≠some (textO t)
 ne:k∉[hp,cp,gp,bT]
 rd:k∉rd cp w
theorem HCx.law {S:List Nat} (h:HCx w B hp p cp gp bT lp bD bN m n c l d) (hf:Fr S w w') (hS:∀ k∈S,k<w.heap.size→Lwc w hp p cp gp bT lp k):HCx w' B hp p cp gp bT lp bD bN m n c l d∧(∀ k,Own lp p w' k→Own lp p w k)∧rd cp w'=rd cp w:=by
 obtain ⟨hh,hs⟩:=h
 obtain ⟨pv,sv,rv,nD,nN,hl⟩:=hs.lg
 have hno:∀ k,k<w.heap.size→k∈[hp,cp,gp,bT]→k∉S:=fun k hk hm hx=>(hS k hx hk).ne hm
 have hl2:=hl.apart hf fun k hk hlt=>⟨(hS k hk hlt).own,(hS k hk hlt).text⟩
 have e1:=(Array.getElem?_eq_some_iff.1 hh).1
 have e2:=hs.co.lts
 have e3:=(Array.getElem?_eq_some_iff.1 hs.led).1
 obtain ⟨ro,oo,h1,h2,h3,h4,h5⟩:=hs.co.ex
 have hcp:w'.heap[cp]?=w.heap[cp]?:=hf.block cp e2.1 (hno cp e2.1 (by simp))
 have row:∀ {e:TypeId} {k m:Nat} {v:Value} {xs:List Value},w.ownsRow B e k v m xs→(∀ g,v.ownBlock=some g→g∈rd cp w)→w'.ownsRow B e k v m xs:=fun hr he=>ownsRow_fr hr hf fun g hg hm=>(hS g hm (hr.lt g hg).2).rd (he g hg)
 refine ⟨⟨(hf.block hp e1 (hno hp e1 (by simp))).trans hh,⟨⟨⟨ro,oo,hcp.trans h1,row h2 (fun g hg=>by unfold Go.Proofs.YtejiankgafjppaaGreatDoor.rd Go.Proofs.YtejiankgafjppaaGreatDoor.rdO;rw [h1];simp [hg]),row h3 (fun g hg=>by unfold Go.Proofs.YtejiankgafjppaaGreatDoor.rd Go.Proofs.YtejiankgafjppaaGreatDoor.rdO;rw [h1];simp [hg]),h4,h5⟩,hs.co.txns.fr hf (hno bT e2.2.1 (by simp)),⟨hs.co.low.1,hs.co.low.2.1,Nat.le_trans hs.co.low.2.2 hf.size⟩,hs.co.nums⟩,⟨pv,sv,rv,nD,nN,hl2⟩,(hf.block gp e3 (hno gp e3 (by simp))).trans hs.led,hs.ne,hs.gp1⟩⟩,fun k ho=>(hl.own k).2 ((hl2.own k).1 ho),rd_same hcp⟩
theorem HCx.apart (h:HCx w B hp p cp gp bT lp bD bN m n c l d) {k:Nat} {cc:Array Value} {t:TypeId} (hk:w.heap[k]?=some (.cells cc t (0,0))) (h6:t≠226) (h7:t≠272) (h9:t≠94):k∉[hp,cp,gp,bT]:=by
 obtain ⟨hh,hs⟩:=h
 obtain ⟨cs,hcp⟩:=hs.co.isCo
 intro hm
 simp at hm
 rcases hm with e | e | e | e
 ·rw [e,hh] at hk;exact jcne h9.symm hk
 ·rw [e,hcp] at hk;exact jcne h6.symm hk
 ·rw [e,hs.led] at hk;exact jcne h7.symm hk
 ·obtain ⟨es,c2,e2⟩:=hs.co.txns.isMap;rw [e,e2] at hk;cases hk
theorem HCx.lwr (h:HCx w B hp p cp gp bT lp bD bN m n c l d) {k:Nat} {cc:Array Value} {t:TypeId} (hk:w.heap[k]?=some (.cells cc t (0,0))) (hr:k∉rd cp w) (h1:t≠88) (h2:t≠175) (h3:t≠168) (h4:t≠34) (h5:t≠44) (h6:t≠226) (h7:t≠272) (h8:t≠9) (h9:t≠94):Lwc w hp p cp gp bT lp k:=by
 obtain ⟨pv,sv,rv,nD,nN,hl⟩:=h.2.lg
 exact ⟨hl.free hk h1 h2 h3 h4 h5,fun t e=>jcne h8 (hk.symm.trans e),h.apart hk h6 h7 h9,hr⟩
theorem HCx.lw (h:HCx w B hp p cp gp bT lp bD bN m n c l d) {k:Nat} {cc:Array Value} {t:TypeId} (hk:w.heap[k]?=some (.cells cc t (0,0))) (h1:t≠88) (h2:t≠175) (h3:t≠168) (h4:t≠34) (h5:t≠44) (h6:t≠226) (h7:t≠272) (h8:t≠9) (h9:t≠94) (h10:t≠216) (h11:t≠212):Lwc w hp p cp gp bT lp k :=
 h.lwr hk (h.2.co.rd_not hk h10 h11) h1 h2 h3 h4 h5 h6 h7 h8 h9
theorem HCx.kinds (h:HCx w B hp p cp gp bT lp bD bN m n c l d) {k:Nat} (hk:Own lp p w k∨k∈[cp,bT]∨k∈rd cp w) {cc:Array Value} {t:TypeId} (hc:w.heap[k]?=some (.cells cc t (0,0))):t=88∨t=175∨t=168∨t=34∨t=44∨t=226∨k∈rd cp w:=by
 obtain ⟨hh,hs⟩:=h
 obtain ⟨pv,sv,rv,nD,nN,hl⟩:=hs.lg
 by_cases h1:t=88
 ·exact .inl h1
 by_cases h2:t=175
 ·exact .inr (.inl h2)
 by_cases h3:t=168
 ·exact .inr (.inr (.inl h3))
 by_cases h4:t=34
 ·exact .inr (.inr (.inr (.inl h4)))
 by_cases h5:t=44
 ·exact .inr (.inr (.inr (.inr (.inl h5))))
 refine .inr (.inr (.inr (.inr (.inr ?_))))
 rcases hk with ho | hm | hm
 ·exact absurd ho (hl.free hc h1 h2 h3 h4 h5)
 ·simp at hm
  rcases hm with e | e
  ·obtain ⟨cs,hcp⟩:=hs.co.isCo;rw [e,hcp] at hc;injection hc with e1;injection e1 with _ e2 _;exact .inl e2.symm
  ·obtain ⟨es,c2,e2⟩:=hs.co.txns.isMap;rw [e,e2] at hc;cases hc
 ·exact .inr hm
end
section
variable [Inhabited Bs] {w w':World} {rp:Nat} {S T:List Nat} {R:RCo}
theorem RkN.frT (h:RkN w rp S R) (hf:Fr T w w') (hT:∀ k∈S,k∉T):RkN w' rp S R:=by
 obtain ⟨xv,rv,ov,ps,h,rfl⟩:=h
 refine ⟨xv,rv,ov,ps,{ base:=h.base,blk:=(hf.block rp (Array.getElem?_eq_some_iff.1 h.blk).1 (hT rp (mem_kb.2 (.inl rfl)))).trans h.blk,dls:=ownsRow_fr h.dls hf fun g hg=>hT g (mem_kb.2 (.inr (.inl hg))),prt:=fun p hp=>ownsRow_fr (h.prt p hp) hf fun g hg=>hT g (mem_kb.2 (.inr (.inr (.inr (.inr ⟨p,hp,hg⟩))))),apart:=h.apart,res:=ownsRow_fr h.res hf fun g hg=>hT g (mem_kb.2 (.inr (.inr (.inl hg)))),out:=ownsRow_fr h.out hf fun g hg=>hT g (mem_kb.2 (.inr (.inr (.inr (.inl hg))))),rs:=h.rs },rfl⟩
theorem RkN.kinds (h:RkN w rp S R) {k:Nat} (hk:k∈S):B0≤k∧k<w.heap.size∧∃ cc t,w.heap[k]?=some (.cells cc t (0,0))∧(t=141∨t=144∨t=204∨t=216∨t=212):=by
 obtain ⟨xv,rv,ov,ps,h,rfl⟩:=h
 rcases mem_kb.1 hk with rfl | e | e | e | ⟨q,hq,e⟩
 ·exact ⟨h.base,(Array.getElem?_eq_some_iff.1 h.blk).1,_,_,h.blk,.inl rfl⟩
 ·obtain ⟨cc,hc⟩:=own_cells h.dls e
  exact ⟨(h.dls.lt k e).1,(h.dls.lt k e).2,_,_,hc,.inr (.inl rfl)⟩
 ·obtain ⟨cc,hc⟩:=own_cells h.res e
  exact ⟨(h.res.lt k e).1,(h.res.lt k e).2,_,_,hc,.inr (.inr (.inr (.inl rfl)))⟩
 ·obtain ⟨cc,hc⟩:=own_cells h.out e
  exact ⟨(h.out.lt k e).1,(h.out.lt k e).2,_,_,hc,.inr (.inr (.inr (.inr rfl)))⟩
 ·obtain ⟨cc,hc⟩:=own_cells (h.prt q hq) e
  exact ⟨((h.prt q hq).lt k e).1,((h.prt q hq).lt k e).2,_,_,hc,.inr (.inr (.inl rfl))⟩
theorem RkN.size (h:RkN w rp S R):B0≤w.heap.size:=by obtain ⟨xv,rv,ov,ps,h,rfl⟩:=h;exact h.low
theorem RkN.root (h:RkN w rp S R):rp∈S∧∃ xv rv ov,w.heap[rp]?=some (rcoO xv rv ov R.next):=by obtain ⟨xv,rv,ov,ps,h,rfl⟩:=h;exact ⟨mem_kb.2 (.inl rfl),_,_,_,h.blk⟩
variable {hp p cp gp bT lp bD bN m n m' n':Nat} {c c':ACo} {l l':ALog} {d d':ADisk}
theorem RkN.cfr (h:RkN w rp S R) (hx:HCx w B0 hp p cp gp bT lp bD bN m n c l d) (ha:∀ k∈S,k∉rd cp w) (hf:CFr cp bT lp p w w'):RkN w' rp S R∧∀ k∈S,k∉rd cp w':=by
 obtain ⟨T,h1,h2⟩:=hf.list
 refine ⟨h.frT h1 fun k hk hm=>?_,fun k hk hm=>ha k hk (hf.own k (h.kinds hk).2.1 hm)⟩
 obtain ⟨_,_,cc,t,hc,ht⟩:=h.kinds hk
 rcases hx.kinds (h2 k hm) hc with e | e | e | e | e | e | e
 ·subst e;revert ht;decide
 ·subst e;revert ht;decide
 ·subst e;revert ht;decide
 ·subst e;revert ht;decide
 ·subst e;revert ht;decide
 ·subst e;revert ht;decide
 ·exact ha k hk e
theorem RkN.lw (h:RkN w rp S R) (hx:HCx w B0 hp p cp gp bT lp bD bN m n c l d) (ha:∀ k∈S,k∉rd cp w) {k:Nat} (hk:k∈S):Lwc w hp p cp gp bT lp k:=by
 obtain ⟨_,_,cc,t,hc,ht⟩:=h.kinds hk
 rcases ht with rfl | rfl | rfl | rfl | rfl <;> exact hx.lwr hc (ha k hk) (by decide) (by decide) (by decide) (by decide) (by decide) (by decide) (by decide) (by decide) (by decide)
theorem JFr.hostC (h:HCx w B0 hp p cp gp bT lp bD bN m n c l d) (hf:CFr cp bT lp p w w'):JFr w w' :=
 ⟨(hf.hfr h.2).below,fun _ _ hk=>hf.cells h.2 hk (by decide) (by decide) (by decide) (by decide) (by decide) (by decide) (by decide) (by decide)⟩
theorem KFr.lfr {S':List Nat} (hf:KFr S S' w w') (h:RkN w rp S R):JFr w w':=by
 refine JFr.of_fr hf.fr h.size fun k hk=>⟨(h.kinds hk).1,fun cc e=>?_⟩
 obtain ⟨_,_,c2,t,hc,ht⟩:=h.kinds hk
 rw [e] at hc
 rcases ht with rfl | rfl | rfl | rfl | rfl <;> exact jcne (by decide) hc
end
structure JIy [Inhabited Bs] (w:World) (hp p cp gp bT lp bD bN m n:Nat) (c:ACo) (l:ALog) (d:ADisk) (jp mp mr:Nat) (cv:Value) (cs:List Value) (S:List Nat) (R:RCo):Prop where
 host:HCx w B0 hp p cp gp bT lp bD bN m n c l d
 low:B0≤jp
 kb:w.heap[jp]?=some (judO hp mp cv)
 ref:RkN w mr S R
 cands:w.ownsRow B0 78 1 cv cs.length cs
 apart:∀ k∈S,k∉rd cp w
abbrev JIn [Inhabited Bs] (w:World) (hp p cp gp bT lp bD bN m n:Nat) (c:ACo) (l:ALog) (d:ADisk) (jp mp:Nat) (cv:Value) (cs:List Value) (S:List Nat) (R:RCo):Prop:=JIy w hp p cp gp bT lp bD bN m n c l d jp mp mp cv cs S R
section
variable [Inhabited Bs] {w w' w2:World} {hp p cp gp bT lp bD bN m n m' n' jp mp mp' mr mr' np:Nat} {c c':ACo} {l l':ALog} {d d':ADisk} {cv cv':Value} {cs cs':List Value} {S S':List Nat} {R R':RCo}
theorem JIy.size (h:JIy w hp p cp gp bT lp bD bN m n c l d jp mp mr cv cs S R):B0≤w.heap.size:=Nat.le_trans h.low (Nat.le_of_lt (Array.getElem?_eq_some_iff.1 h.kb).1)
theorem JIy.cfr (h:JIy w hp p cp gp bT lp bD bN m n c l d jp mp mr cv cs S R) (hh:HCx w' B0 hp p cp gp bT lp bD bN m' n' c' l' d') (hf:CFr cp bT lp p w w'):JIy w' hp p cp gp bT lp bD bN m' n' c' l' d' jp mp mr cv cs S R:=by
 obtain ⟨T,h1,h2⟩:=hf.list
 obtain ⟨h3,h4⟩:=h.ref.cfr h.host h.apart hf
 refine ⟨hh,h.low,hf.cells h.host.2 h.kb (by decide) (by decide) (by decide) (by decide) (by decide) (by decide) (by decide) (by decide),h3,ownsRow_fr h.cands h1 fun q hq hm=>?_,h4⟩
 obtain ⟨cc,e⟩:=own_cells h.cands hq
 rcases h.host.kinds (h2 q hm) e with e2 | e2 | e2 | e2 | e2 | e2 | e2
 ·revert e2;decide
 ·revert e2;decide
 ·revert e2;decide
 ·revert e2;decide
 ·revert e2;decide
 ·revert e2;decide
 ·exact h.host.2.co.rd_not e (by decide) (by decide) e2
theorem JIy.law {T:List Nat} (h:JIy w hp p cp gp bT lp bD bN m n c l d jp mp mr cv cs S R) (hf:Fr T w w') (hT:∀ k∈T,k<w.heap.size→Lwc w hp p cp gp bT lp k)
  (hkb:w'.heap[jp]?=some (judO hp mp' cv')) (hr:RkN w' mr' S' R') (hc:w'.ownsRow B0 78 1 cv' cs'.length cs') (ha:∀ k∈S',k∉rd cp w) :
  JIy w' hp p cp gp bT lp bD bN m n c l d jp mp' mr' cv' cs' S' R':=by
 obtain ⟨h1,h2,h3⟩:=h.host.law hf hT
 exact ⟨h1,h.low,hkb,hr,hc,fun k hk=>by rw [h3];exact ha k hk⟩
theorem JIy.rdl (h:JIy w hp p cp gp bT lp bD bN m n c l d jp mp mr cv cs S R) {k:Nat} (hk:k∈rd cp w):k<w.heap.size:=by
 obtain ⟨_,cc,t,e,_⟩:=h.host.2.co.rdm hk
 exact (Array.getElem?_eq_some_iff.1 e).1
theorem JIy.new (h:JIy w hp p cp gp bT lp bD bN m n c l d jp mp mr cv cs S R) (hf:Fr [] w w'):JIy w' hp p cp gp bT lp bD bN m n c l d jp mp mr cv cs S R :=
 h.law hf (by simp) ((hf.block jp (Array.getElem?_eq_some_iff.1 h.kb).1 (by simp)).trans h.kb) (h.ref.frT hf (by simp)) (ownsRow_fr h.cands hf (by simp)) h.apart
theorem JIy.swap (h:JIy w hp p cp gp bT lp bD bN m n c l d jp mp mr cv cs S R) (hr:RkN w mr' S' R') (ha:∀ k∈S',k∉rd cp w):JIy w hp p cp gp bT lp bD bN m n c l d jp mp mr' cv cs S' R':=⟨h.host,h.low,h.kb,hr,h.cands,ha⟩
theorem JIy.kfr (h:JIy w hp p cp gp bT lp bD bN m n c l d jp mp mr cv cs S R) (hf:KFr S S' w w') (hr:RkN w' mr S' R'):JIy w' hp p cp gp bT lp bD bN m n c l d jp mp mr cv cs S' R':=by
 refine h.law hf.fr (fun k hk _=>h.ref.lw h.host h.apart hk) ((hf.fr.block jp (Array.getElem?_eq_some_iff.1 h.kb).1 fun hm=>?_).trans h.kb) hr (ownsRow_fr h.cands hf.fr fun q hq hm=>?_) fun k hk hm=>h.apart k (hf.stay k hk (h.rdl hm)) hm
 ·obtain ⟨_,_,cc,t,e,ht⟩:=h.ref.kinds hm
  rw [h.kb] at e
  rcases ht with rfl | rfl | rfl | rfl | rfl <;> exact jcne (by decide) e
 ·obtain ⟨_,_,cc,t,e,ht⟩:=h.ref.kinds hm
  obtain ⟨c2,e2⟩:=own_cells h.cands hq
  rw [e2] at e
  rcases ht with rfl | rfl | rfl | rfl | rfl <;> exact jcne (by decide) e
theorem JIy.jpw (h:JIy w hp p cp gp bT lp bD bN m n c l d jp mp mr cv cs S R):Lwc w hp p cp gp bT lp jp:=h.host.lw h.kb (by decide) (by decide) (by decide) (by decide) (by decide) (by decide) (by decide) (by decide) (by decide) (by decide) (by decide)
theorem JIy.jpn (h:JIy w hp p cp gp bT lp bD bN m n c l d jp mp mr cv cs S R) (hr:RkN w mr' S' R'):jp∉S':=fun hm=>by
 obtain ⟨_,_,cc,t,e,ht⟩:=hr.kinds hm
 rw [h.kb] at e
 rcases ht with rfl | rfl | rfl | rfl | rfl <;> exact jcne (by decide) e
theorem JIy.setM (h:JIy w hp p cp gp bT lp bD bN m n c l d jp mp mr cv cs S R) (hr:RkN w np S' R') (ha:∀ k∈S',k∉rd cp w):JIn (w.setCell ⟨jp,1,none⟩ (.pointer (some ⟨np,0,none⟩))) hp p cp gp bT lp bD bN m n c l d jp np cv cs S' R'∧JFr w (w.setCell ⟨jp,1,none⟩ (.pointer (some ⟨np,0,none⟩))):=by
 have hf:Fr [jp] w (w.setCell ⟨jp,1,none⟩ (.pointer (some ⟨np,0,none⟩))):=Fr.set1 (by simp) _ _
 refine ⟨h.law hf (fun k hk _=>by simp at hk;subst hk;exact h.jpw) ?_ (hr.frT hf fun k hk hm=>?_) (ownsRow_set h.cands h.kb (by decide)) ha,JFr.of_fr hf h.size fun k hk=>?_⟩
 ·have:=blk_set h.kb 1 (.pointer (some ⟨np,0,none⟩))
  simpa using this
 ·simp at hm
  subst hm
  exact h.jpn hr hk
 ·simp at hk
  subst hk
  exact ⟨h.low,fun c e=>jcne (by decide) (h.kb.symm.trans e)⟩
theorem JIy.setS (h:JIy w hp p cp gp bT lp bD bN m n c l d jp mp mr cv cs S R) {i:Nat} {u:Value} (hi:(i=3∧u=.int .u64 0)∨(i=4∧u=.bool false)):JIy (w.setCell ⟨jp,i,none⟩ u) hp p cp gp bT lp bD bN m n c l d jp mp mr cv cs S R∧JFr w (w.setCell ⟨jp,i,none⟩ u):=by
 have hf:Fr [jp] w (w.setCell ⟨jp,i,none⟩ u):=Fr.set1 (by simp) _ _
 refine ⟨h.law hf (fun k hk _=>by simp at hk;subst hk;exact h.jpw) ?_ (h.ref.frT hf fun k hk hm=>?_) (ownsRow_set h.cands h.kb (by decide)) h.apart,JFr.of_fr hf h.size fun k hk=>?_⟩
 ·have:=blk_set h.kb i u
  rcases hi with ⟨rfl,rfl⟩ | ⟨rfl,rfl⟩ <;> simpa using this
 ·simp at hm
  subst hm
  exact h.jpn h.ref hk
 ·simp at hk
  subst hk
  exact ⟨h.low,fun c e=>jcne (by decide) (h.kb.symm.trans e)⟩
theorem JIy.setC (h:JIy w hp p cp gp bT lp bD bN m n c l d jp mp mr cv cs S R) (hf:Fr cv.ownBlock.toList w w2) (ho:w2.ownsRow B0 78 1 cv' cs'.length cs'):JIy (w2.setCell ⟨jp,2,none⟩ cv') hp p cp gp bT lp bD bN m n c l d jp mp mr cv' cs' S R∧JFr w (w2.setCell ⟨jp,2,none⟩ cv'):=by
 have hkn:jp∉cv.ownBlock.toList:=fun hm=>own_ne h.cands h.kb (by decide) (by simpa using hm)
 have hk2:w2.heap[jp]?=some (judO hp mp cv):=(hf.block jp (Array.getElem?_eq_some_iff.1 h.kb).1 hkn).trans h.kb
 have hf2:Fr (jp :: cv.ownBlock.toList) w (w2.setCell ⟨jp,2,none⟩ cv'):=(hf.mono (by simp +contextual)).trans (Fr.set1 (by simp) _ _)
 have hcv:∀ k∈cv.ownBlock.toList,B0≤k∧∃ c,w.heap[k]?=some (.cells c 78 (0,0)):=fun k hk=>by
  have hk2:cv.ownBlock=some k:=by simpa using hk
  exact ⟨(h.cands.lt k hk2).1,own_cells h.cands hk2⟩
 refine ⟨h.law hf2 (fun k hk _=>?_) ?_ (h.ref.frT hf2 fun k hk hm=>?_) (ownsRow_set ho hk2 (by decide)) h.apart,JFr.of_fr hf2 h.size fun k hk=>?_⟩
 ·rcases List.mem_cons.1 hk with rfl | hk
  ·exact h.jpw
  ·obtain ⟨_,c,e⟩:=hcv k hk
   exact h.host.lw e (by decide) (by decide) (by decide) (by decide) (by decide) (by decide) (by decide) (by decide) (by decide) (by decide) (by decide)
 ·have:=blk_set hk2 2 cv'
  simpa using this
 ·rcases List.mem_cons.1 hm with rfl | hm
  ·exact h.jpn h.ref hk
  ·obtain ⟨_,c2,e⟩:=hcv k hm
   obtain ⟨_,_,cc,t,e2,ht⟩:=h.ref.kinds hk
   rw [e] at e2
   rcases ht with rfl | rfl | rfl | rfl | rfl <;> exact jcne (by decide) e2
 ·rcases List.mem_cons.1 hk with rfl | hk
  ·exact ⟨h.low,fun c e=>jcne (by decide) (h.kb.symm.trans e)⟩
  ·obtain ⟨hb,c2,e⟩:=hcv k hk
   exact ⟨hb,fun c e2=>jcne (by decide) (e.symm.trans e2)⟩
end
def RPart.code (st:Nat) (p:RPart):Nat:=if p.vote=0 then 1 else if p.vote=2 then (if st=6∧p.left=false then 5 else 2) else p.vote
def partFor (ps:List RPart) (k:Nat):Option RPart:=ps.find? fun p=>decide (p.shard=k)
def codes (st:Nat) (ps:List RPart):List Nat:=(List.range 9).map fun k=>((partFor ps k).map (RPart.code st)).getD 0
structure PsUp (ps:List RPart):Prop where
 up:ps.Pairwise fun p q=>p.shard<q.shard
 b:∀ p∈ps,1≤p.shard∧p.shard≤8
theorem partFor_some {ps:List RPart} {k:Nat} {p:RPart} (h:partFor ps k=some p):p∈ps∧p.shard=k:=by
 unfold partFor at h
 exact ⟨List.mem_of_find?_eq_some h,by simpa using List.find?_some h⟩
theorem PsUp.for {ps:List RPart} (h:PsUp ps) {p:RPart} (hp:p∈ps):partFor ps p.shard=some p:=by
 have h1:=h.up
 clear h
 unfold partFor
 induction ps with
 | nil=>cases hp
 | cons a r ih =>
  obtain ⟨h2,h3⟩:=List.pairwise_cons.1 h1
  rw [List.find?_cons]
  rcases List.mem_cons.1 hp with e | e
  ·subst e;simp
  ·have:=h2 p e
   have hne:decide (a.shard=p.shard)=false:=by simp;omega
   rw [hne]
   exact ih e h3
theorem codes_at {st:Nat} {ps:List RPart} {k:Nat} (hk:k<9):(codes st ps).getD k 0=((partFor ps k).map (RPart.code st)).getD 0:=by
 unfold codes
 rw [List.getD_eq_getElem?_getD,List.getElem?_map,List.getElem?_range hk]
 rfl
theorem codes_len {st:Nat} {ps:List RPart}:(codes st ps).length=9:=by simp [codes]
theorem meant_codes {q:Nat→Bool} (h0:q 0=false) {st:Nat} {ps:List RPart} (h:PsUp ps):meant q (codes st ps)=(ps.filter fun p=>q (p.code st)).map (·.shard):=by
 have e1:(meant q (codes st ps)).Pairwise (· < ·):=by
  unfold meant meantTo
  exact List.Pairwise.filter _ (List.pairwise_lt_range)
 have e2:((ps.filter fun p=>q (p.code st)).map (·.shard)).Pairwise (· < ·):=by
  rw [List.pairwise_map]
  exact h.up.filter _
 refine List.Perm.eq_of_pairwise (le:=fun a b:Nat=>a≤b) (fun a b _ _ h1 h2=>Nat.le_antisymm h1 h2) (e1.imp fun h=>Nat.le_of_lt h) (e2.imp fun h=>Nat.le_of_lt h) ?_
 rw [List.perm_ext_iff_of_nodup (e1.imp fun h=>by omega) (e2.imp fun h=>by omega)]
 intro k
 unfold meant meantTo
 constructor
 ·intro hk
  obtain ⟨h1,h2⟩:=List.mem_filter.1 hk
  rw [codes_at (List.mem_range.1 h1)] at h2
  cases hp:partFor ps k with
  | none=>rw [hp] at h2;simp [h0] at h2
  | some p =>
   rw [hp] at h2
   obtain ⟨hm,hs⟩:=partFor_some hp
   exact List.mem_map.2 ⟨p,List.mem_filter.2 ⟨hm,h2⟩,hs⟩
 ·intro hk
  obtain ⟨p,hp,rfl⟩:=List.mem_map.1 hk
  obtain ⟨hm,hq⟩:=List.mem_filter.1 hp
  have hb:=h.b p hm
  refine List.mem_filter.2 ⟨List.mem_range.2 (by omega),?_⟩
  rw [codes_at (by omega),h.for hm]
  exact hq
theorem any_codes {q:Nat→Bool} (h0:q 0=false) {st:Nat} {ps:List RPart} (h:PsUp ps):(codes st ps).any q=ps.any fun p=>q (p.code st):=by
 rw [Bool.eq_iff_iff,List.any_eq_true,List.any_eq_true]
 constructor
 ·rintro ⟨x,hx,hq⟩
  unfold codes at hx
  obtain ⟨k,hk,rfl⟩:=List.mem_map.1 hx
  cases hp:partFor ps k with
  | none=>rw [hp] at hq;simp [h0] at hq
  | some p=>rw [hp] at hq;exact ⟨p,(partFor_some hp).1,hq⟩
 ·rintro ⟨p,hp,hq⟩
  have hb:=h.b p hp
  refine ⟨p.code st,?_,hq⟩
  unfold codes
  exact List.mem_map.2 ⟨p.shard,List.mem_range.2 (by omega),by rw [h.for hp];rfl⟩
theorem codes_ext {l:List Nat} {st:Nat} {ps:List RPart} (hl:l.length=9) (h:∀ k,k<9→l.getD k 0=((partFor ps k).map (RPart.code st)).getD 0):l=codes st ps:=by
 refine List.ext_getElem? fun k=>?_
 by_cases hk:k<9
 ·have h1:l[k]?=some (l.getD k 0):=by rw [List.getD_eq_getElem?_getD,List.getElem?_eq_getElem (by omega)];rfl
  have h2:(codes st ps)[k]?=some ((codes st ps).getD k 0):=by rw [List.getD_eq_getElem?_getD,List.getElem?_eq_getElem (by rw [codes_len];omega)];rfl
  rw [h1,h2,h k hk,codes_at hk]
 ·rw [List.getElem?_eq_none (by omega),List.getElem?_eq_none (by rw [codes_len];omega)]
theorem partFor_map {ps:List RPart} {f:RPart→RPart} (hf:∀ p,(f p).shard=p.shard) (k:Nat):partFor (ps.map f) k=(partFor ps k).map f:=by
 unfold partFor
 rw [List.find?_map]
 congr 2
 funext p
 simp [hf p]
theorem PsUp.map {ps:List RPart} (h:PsUp ps) {f:RPart→RPart} (hf:∀ p,(f p).shard=p.shard):PsUp (ps.map f):=by
 refine ⟨?_,fun p hp=>?_⟩
 ·rw [List.pairwise_map];exact h.up.imp fun h=>by rw [hf,hf];exact h
 ·obtain ⟨q,hq,rfl⟩:=List.mem_map.1 hp
  rw [hf];exact h.b q hq
theorem codes_set {st st':Nat} {ps:List RPart} {f:RPart→RPart} (hf:∀ p,(f p).shard=p.shard) {k v:Nat} {p:RPart} (hp:partFor ps k=some p) (hv:(f p).code st'=v) (hne:∀ y∈ps,y.shard≠k→(f y).code st'=y.code st):(codes st ps).set k v=codes st' (ps.map f):=by
 refine codes_ext (by simp [codes_len]) fun j hj=>?_
 rw [partFor_map hf]
 by_cases e:j=k
 ·subst e
  rw [hp,List.getD_eq_getElem?_getD,List.getElem?_set_self (by rw [codes_len];omega)]
  simp [hv]
 ·rw [List.getD_eq_getElem?_getD,List.getElem?_set_ne (by omega),← List.getD_eq_getElem?_getD,codes_at hj]
  cases hq:partFor ps j with
  | none=>rfl
  | some y =>
   obtain ⟨h1,h2⟩:=partFor_some hq
   simp [hne y h1 (by omega)]
theorem codes_map {st st':Nat} {ps:List RPart} {f:RPart→RPart} (hf:∀ p,(f p).shard=p.shard) (hne:∀ y∈ps,(f y).code st'=y.code st):codes st' (ps.map f)=codes st ps:=by
 refine (codes_ext codes_len fun j hj=>?_).symm
 rw [partFor_map hf,codes_at hj]
 cases hq:partFor ps j with
 | none=>rfl
 | some y=>simp [hne y (partFor_some hq).1]
def askedP (xs:List Nat):List RPart:=xs.map fun x=>⟨x,0,false⟩
theorem partsL_codes:∀ {xs:List Nat},(∀ x∈xs,x≤8)→partsL xs 1=codes 5 (askedP xs):=by
 intro xs hb
 refine codes_ext (partsL_len xs 1) fun k hk=>?_
 have key:∀ (xs ps:List Nat),ps.length=9→(∀ x∈xs,x≤8)→(xs.foldl (fun ps x=>ps.set x 1) ps).getD k 0=if k∈xs then 1 else ps.getD k 0:=by
  intro xs
  induction xs with
  | nil=>intro ps _ _;simp
  | cons a r ih =>
   intro ps hl hb
   rw [List.foldl_cons,ih _ (by simpa using hl) (fun x hx=>hb x (by simp [hx])),getD_set (by have:=hb a (by simp);omega)]
   by_cases h1:k∈r
   ·simp [h1]
   ·by_cases h2:k=a
    ·simp [h2]
    ·simp [h1,h2]
 have e:=key xs [0,0,0,0,0,0,0,0,0] rfl hb
 unfold partsL
 rw [e]
 have e0:([0,0,0,0,0,0,0,0,0]:List Nat).getD k 0=0:=by
  have:k=0∨k=1∨k=2∨k=3∨k=4∨k=5∨k=6∨k=7∨k=8:=by omega
  rcases this with rfl | rfl | rfl | rfl | rfl | rfl | rfl | rfl | rfl <;> rfl
 rw [e0]
 unfold partFor askedP
 rw [List.find?_map]
 by_cases h1:k∈xs
 ·rw [if_pos h1]
  cases hf:xs.find? ((fun p:RPart=>decide (p.shard=k)) ∘ fun x=>⟨x,0,false⟩) with
  | none=>rw [List.find?_eq_none] at hf;exact absurd (hf k h1) (by simp)
  | some y=>rfl
 ·rw [if_neg h1]
  rw [List.find?_eq_none.2 (fun x hx=>by simp;intro e;subst e;exact h1 hx)]
  rfl
def voteP (z:Int) (v:Nat) (p:RPart):RPart:=if (p.shard:Int)=z∧p.vote=0 then { p with vote:=v } else p
def mineP (z:Int) (p:RPart):Bool:=decide ((p.shard:Int)=z∧p.vote=0)
def leftP (p:RPart):RPart:=if p.vote=2 then { p with left:=true } else p
def doneP (z:Int) (p:RPart):RPart:=if (p.shard:Int)=z then { p with left:=false } else p
def RCo.without (R:RCo) (i:Nat):RCo:={ R with deals:=R.deals.take i++R.deals.drop (i+1) }
def RCo.setAt (R:RCo) (i:Nat) (x:RDeal):RCo:={ R with deals:=R.deals.set i x }
def RCo.undone (R:RCo) (i:Nat) (x:RDeal):RCo:={ R with deals:=R.deals.take i++R.deals.drop (i+1),res:=R.res++[(x.id,6)],out:=R.out++undoL x.id x.parts }
def isZ (p:RPart):Bool:=p.vote == 0
def isY (p:RPart):Bool:=p.vote == 2
def toPs (f:RPart→Bool) (t what:Nat) (ps:List RPart):List (Nat × Nat × Nat):=(ps.filter f).map fun p=>(t,p.shard,what)
def RCo.commitE (R:RCo) (t:Nat) (zs:List Int):Nat:=match dealAt R.deals t with | none=>7 | some x=>if x.st=4 then (if riseB 0 zs then 0 else 6) else 4
def RCo.commit (R:RCo) (t:Nat) (xs:List Nat):RCo:=match dealIx R.deals t with
 | none=>R
 | some i=>match R.deals[i]? with
  | none=>R
  | some x=>if x.st=4 then { R with deals:=R.deals.set i ⟨x.id,5,0,x.parts++askedP xs⟩,out:=R.out++xs.map fun k=>(t,k,1) } else R
def RCo.voted (R:RCo) (i:Nat) (x:RDeal) (z:Int) (v t:Nat):RCo :=
 let ps:=x.parts.map (voteP z v)
 if x.parts.any (mineP z)=false then R
 else if v=3 then (R.setAt i { x with parts:=ps }).undone i { x with parts:=ps }
 else if ps.any isZ then R.setAt i { x with parts:=ps }
 else if ps.any isY=false then { R with deals:=R.deals.take i++R.deals.drop (i+1),res:=R.res++[(t,5)] }
 else { R with deals:=R.deals.set i ⟨x.id,6,x.age,ps.map leftP⟩,res:=R.res++[(t,5)],out:=R.out++toPs isY t 5 ps }
def RCo.vote (R:RCo) (t:Nat) (z v:Int):RCo:=match dealIx R.deals t with
 | none=>R
 | some i=>match R.deals[i]? with
  | none=>R
  | some x=>if x.st=5∧2≤v∧v≤4 then R.voted i x z v.toNat t else R
def RCo.doneB (R:RCo) (t:Nat) (z:Int):Bool:=match dealAt R.deals t with
 | none=>false
 | some x=>decide (x.st=6) && !((x.parts.map (doneP z)).any (·.left))
def RCo.done (R:RCo) (t:Nat) (z:Int):RCo:=match dealIx R.deals t with
 | none=>R
 | some i=>match R.deals[i]? with
  | none=>R
  | some x=>if x.st=6 then (if (x.parts.map (doneP z)).any (·.left) then R.setAt i { x with parts:=x.parts.map (doneP z) } else R.without i) else R
def RCo.tickOne (R:RCo) (t:Nat):RCo:=match dealIx R.deals t with
 | none=>R
 | some i=>match R.deals[i]? with
  | none=>R
  | some x=>if x.st=5 then (if x.age+1=8 then (R.setAt i { x with age:=x.age+1 }).undone i { x with age:=x.age+1 } else { R with deals:=R.deals.set i { x with age:=x.age+1 },out:=R.out++toPs isZ x.id 1 x.parts })
   else if x.st=6 then { R with out:=R.out++toPs (·.left) x.id 5 x.parts } else R
def RCo.tick (R:RCo):RCo:=(R.deals.map (·.id)).foldl RCo.tickOne R
structure RDeal.Ok (x:RDeal):Prop where
 st:x.st=4∨x.st=5∨x.st=6
 up:PsUp x.parts
 act:x.st=4→x.parts=[]
 vot:x.st=5→x.age<8∧∀ p∈x.parts,(p.vote=0∨p.vote=2∨p.vote=4)∧p.left=false
 com:x.st=6→(∀ p∈x.parts,(p.vote=2∨p.vote=4)∧(p.left=true→p.vote=2))∧x.parts.any (·.left)=true
 ne:x.st=5→x.parts≠[]
structure TxIs (ticks lag:Nat) (T:ATx) (x:RDeal):Prop where
 st:T.state=x.st
 ps:T.parts=codes x.st x.parts
 age:x.st=5→T.since+x.age+lag=ticks
def DAsc (xs:List RDeal):Prop:=xs.Pairwise fun x y=>x.id<y.id
structure CRelL (L:Nat→Nat) (c:ACo) (R:RCo):Prop where
 asc:DAsc R.deals
 som:∀ x∈R.deals,∃ T,alLook c.txns x.id=some T∧TxIs c.ticks (L x.id) T x
 non:∀ t,dealAt R.deals t=none→alLook c.txns t=none
 ok:∀ x∈R.deals,x.Ok∧x.id<R.next
 len:R.deals.length≤12
 o1:Once1 c.txns
 sin:∀ x∈c.txns,x.2.since≤c.ticks
 next:c.next=R.next
 res:c.res=R.res
 out:c.out=R.out
abbrev CRel (c:ACo) (R:RCo):Prop:=CRelL (fun _=>0) c R
theorem dealAt_mem {xs:List RDeal} {t:Nat} {x:RDeal} (h:dealAt xs t=some x):x∈xs∧x.id=t:=by
 unfold dealAt at h
 exact ⟨List.mem_of_find?_eq_some h,by simpa using List.find?_some h⟩
theorem DAsc.at {xs:List RDeal} (h:DAsc xs) {x:RDeal} (hx:x∈xs):dealAt xs x.id=some x:=by
 unfold dealAt
 induction xs with
 | nil=>cases hx
 | cons a r ih =>
  obtain ⟨h2,h3⟩:=List.pairwise_cons.1 h
  rw [List.find?_cons]
  rcases List.mem_cons.1 hx with e | e
  ·subst e;simp
  ·have:=h2 x e
   have hne:decide (a.id=x.id)=false:=by simp;omega
   rw [hne]
   exact ih h3 e
theorem DAsc.ne {xs:List RDeal} (h:DAsc xs) {i j:Nat} {x y:RDeal} (hi:xs[i]?=some x) (hj:xs[j]?=some y) (e:x.id=y.id):i=j:=by
 have key:∀ (xs:List RDeal),DAsc xs→∀ (i j:Nat) (x y:RDeal),xs[i]?=some x→xs[j]?=some y→i<j→x.id<y.id:=by
  intro xs h i j x y hi hj hl
  obtain ⟨h1,h2⟩:=List.getElem?_eq_some_iff.1 hi
  obtain ⟨h3,h4⟩:=List.getElem?_eq_some_iff.1 hj
  have:=List.pairwise_iff_getElem.1 h i j h1 h3 hl
  rw [h2,h4] at this
  exact this
 rcases Nat.lt_trichotomy i j with hl | hl | hl
 ·have:=key xs h i j x y hi hj hl;omega
 ·exact hl
 ·have:=key xs h j i y x hj hi hl;omega
theorem dealAt_ix {xs:List RDeal} {t:Nat} {x:RDeal} (h:dealAt xs t=some x):∃ i,dealIx xs t=some i∧xs[i]?=some x∧x.id=t:=by
 cases hi:dealIx xs t with
 | none=>rw [dealIx_none hi] at h;cases h
 | some i =>
  obtain ⟨y,h1,h2,h3⟩:=dealIx_some hi
  rw [h] at h3
  cases h3
  exact ⟨i,rfl,h1,h2⟩
theorem dealAt_nix {xs:List RDeal} {t:Nat} (h:dealAt xs t=none):dealIx xs t=none:=by
 cases hi:dealIx xs t with
 | none=>rfl
 | some i=>obtain ⟨y,h1,h2,h3⟩:=dealIx_some hi;rw [h] at h3;cases h3
theorem dealAt_none {xs:List RDeal} {t:Nat}:dealAt xs t=none↔∀ x∈xs,x.id≠t:=by
 unfold dealAt
 simp [List.find?_eq_none]
theorem DAsc.set {xs:List RDeal} (h:DAsc xs) {i:Nat} {x y:RDeal} (hi:xs[i]?=some x) (e:y.id=x.id):DAsc (xs.set i y):=by
 unfold DAsc
 rw [List.pairwise_iff_getElem]
 intro a b ha hb hl
 simp only [List.length_set] at ha hb
 have h0:=List.pairwise_iff_getElem.1 h a b ha hb hl
 obtain ⟨h1,h2⟩:=List.getElem?_eq_some_iff.1 hi
 rw [List.getElem_set,List.getElem_set]
 split <;> split <;> simp_all
theorem mem_set {xs:List RDeal} (h:DAsc xs) {i:Nat} {x y z:RDeal} (hi:xs[i]?=some x) (hz:z∈xs.set i y):z=y∨(z∈xs∧z.id≠x.id):=by
 obtain ⟨j,hj⟩:=List.mem_iff_getElem?.1 hz
 by_cases e:i=j
 ·subst e
  rw [List.getElem?_set_self (List.getElem?_eq_some_iff.1 hi).1] at hj
  left;cases hj;rfl
 ·rw [List.getElem?_set_ne e] at hj
  exact .inr ⟨List.mem_of_getElem? hj,fun e2=>e (h.ne hi hj e2.symm)⟩
theorem set_has {xs:List RDeal} {i:Nat} {x y:RDeal} (hi:xs[i]?=some x):y∈xs.set i y:=List.mem_of_getElem? (i:=i) (List.getElem?_set_self (List.getElem?_eq_some_iff.1 hi).1)
theorem drop_sub (xs:List RDeal) (i:Nat):(xs.take i++xs.drop (i+1)).Sublist xs:=by
 have:=List.eraseIdx_sublist xs i
 rwa [List.eraseIdx_eq_take_drop_succ] at this
theorem mem_drop {xs:List RDeal} (h:DAsc xs) {i:Nat} {x:RDeal} (hi:xs[i]?=some x) {z:RDeal}:z∈xs.take i++xs.drop (i+1)↔z∈xs∧z.id≠x.id:=by
 constructor
 ·intro hz
  refine ⟨(drop_sub xs i).subset hz,fun e=>?_⟩
  rcases List.mem_append.1 hz with hz | hz
  ·obtain ⟨j,hj⟩:=List.mem_iff_getElem?.1 hz
   rw [List.getElem?_take] at hj
   split at hj
   ·have:=h.ne hi hj e.symm;omega
   ·cases hj
  ·obtain ⟨j,hj⟩:=List.mem_iff_getElem?.1 hz
   rw [List.getElem?_drop] at hj
   have:=h.ne hi hj e.symm;omega
 ·rintro ⟨hz,hne⟩
  obtain ⟨j,hj⟩:=List.mem_iff_getElem?.1 hz
  rcases Nat.lt_trichotomy j i with hl | hl | hl
  ·exact List.mem_append_left _ (List.mem_of_getElem? (i:=j) (by rw [List.getElem?_take,if_pos hl];exact hj))
  ·subst hl;rw [hi] at hj;cases hj;exact absurd rfl hne
  ·exact List.mem_append_right _ (List.mem_of_getElem? (i:=j - (i+1)) (by rw [List.getElem?_drop];rw [show i+1+(j - (i+1))=j from by omega];exact hj))
theorem set_drop {xs:List RDeal} {i:Nat} {y:RDeal}:(xs.set i y).take i++(xs.set i y).drop (i+1)=xs.take i++xs.drop (i+1):=by
 rw [List.take_set_of_le (Nat.le_refl i),List.drop_set_of_lt (Nat.lt_succ_self i)]
section
variable {L L':Nat→Nat} {c:ACo} {R:RCo}
theorem CRelL.keys (h:CRelL L c R):(R.deals.map (·.id)).Perm (c.txns.map (·.1)):=by
 have n2:(R.deals.map (·.id)).Nodup:=by
  unfold List.Nodup
  rw [List.pairwise_map]
  exact h.asc.imp fun hab=>by omega
 rw [List.perm_ext_iff_of_nodup n2 (once_keys h.o1)]
 intro t
 constructor
 ·intro ht
  obtain ⟨x,hx,rfl⟩:=List.mem_map.1 ht
  obtain ⟨T,hT,_⟩:=h.som x hx
  exact List.mem_map.2 ⟨_,alLook_mem hT,rfl⟩
 ·intro ht
  obtain ⟨p,hp,rfl⟩:=List.mem_map.1 ht
  have:=alLook_of h.o1 (k:=p.1) (v:=p.2) hp
  cases hx:dealAt R.deals p.1 with
  | none=>rw [h.non _ hx] at this;cases this
  | some x=>exact List.mem_map.2 ⟨x,(dealAt_mem hx).1,(dealAt_mem hx).2⟩
theorem CRelL.len_eq (h:CRelL L c R):c.txns.length=R.deals.length:=by simpa using h.keys.length_eq.symm
theorem CRelL.keysU (h:CRelL L c R):keysU c.txns=R.deals.map (·.id):=by
 refine (keysU_is h.keys ?_).symm
 rw [List.pairwise_map]
 exact h.asc.imp fun hab=>by omega
theorem CRelL.tx_none (h:CRelL L c R) {t:Nat} (hn:dealAt R.deals t=none):c.tx t=tx0:=by unfold ACo.tx;rw [h.non t hn];rfl
theorem CRelL.tx_some (h:CRelL L c R) {t:Nat} {x:RDeal} (hx:dealAt R.deals t=some x):TxIs c.ticks (L t) (c.tx t) x∧alLook c.txns t=some (c.tx t):=by
 obtain ⟨hm,rfl⟩:=dealAt_mem hx
 obtain ⟨T,hT,hi⟩:=h.som x hm
 unfold ACo.tx
 rw [hT]
 exact ⟨hi,rfl⟩
theorem CRelL.status (h:CRelL L c R) (t:Nat):(c.tx t).state=((dealAt R.deals t).map RDeal.st).getD 0:=by
 cases hx:dealAt R.deals t with
 | none=>rw [h.tx_none hx];rfl
 | some x=>exact (h.tx_some hx).1.st
theorem CRelL.turn (h:CRelL L c R) {i:Nat} {x y:RDeal} (hi:R.deals[i]?=some x) (hL:∀ t,t≠x.id→L' t=L t) (e:y.id=x.id) {ts:List (Nat × ATx)} (h1:Once1 ts) (hs:∀ x∈ts,x.2.since≤c.ticks) {T:ATx} (ht:∀ t,alLook ts t=if t=x.id then some T else alLook c.txns t) (hT:TxIs c.ticks (L' x.id) T y) (hy:y.Ok) {res:List (Nat × Nat)} {o1 o2:List (Nat × Nat × Nat)} (ho:o1=o2) :
  CRelL L' { c with txns:=ts,res:=res,out:=o1 } { R with deals:=R.deals.set i y,res:=res,out:=o2 }:=by
 refine ⟨h.asc.set hi e,fun z hz=>?_,fun t hn=>?_,fun z hz=>?_,by simpa using h.len,h1,hs,h.next,rfl,ho⟩
 ·simp only
  rw [ht]
  rcases mem_set h.asc hi hz with rfl | ⟨h1,h2⟩
  ·rw [if_pos e,e];exact ⟨T,rfl,hT⟩
  ·rw [if_neg h2,hL _ h2];exact h.som z h1
 ·simp only
  rw [ht]
  have h1:=dealAt_none.1 hn y (set_has hi)
  rw [if_neg (by omega)]
  refine h.non t (dealAt_none.2 fun z hz e2=>?_)
  obtain ⟨j,hj⟩:=List.mem_iff_getElem?.1 hz
  by_cases eij:i=j
  ·subst eij;rw [hi] at hj;cases hj;omega
  ·exact dealAt_none.1 hn z (List.mem_of_getElem? (i:=j) (by simp only;rw [List.getElem?_set_ne eij];exact hj)) e2
 ·rcases mem_set h.asc hi hz with rfl | ⟨h1,h2⟩
  ·exact ⟨hy,by rw [e];exact (h.ok x (List.mem_of_getElem? hi)).2⟩
  ·exact h.ok z h1
theorem CRelL.setOne (h:CRelL L c R) {i:Nat} {x y:RDeal} (hi:R.deals[i]?=some x) (e:y.id=x.id) {T:ATx} (hT:TxIs c.ticks (L x.id) T y) (hs:T.since≤c.ticks) (hy:y.Ok) {res:List (Nat × Nat)} {o1 o2:List (Nat × Nat × Nat)} (ho:o1=o2) :
  CRelL L { c with txns:=alPut c.txns x.id T,res:=res,out:=o1 } { R with deals:=R.deals.set i y,res:=res,out:=o2 } :=
 h.turn hi (fun _ _=>rfl) e (h.o1.put _ _) (fun z hz=>by
  rcases List.mem_cons.1 hz with rfl | hz
  ·exact hs
  ·exact h.sin z (List.mem_filter.1 hz).1) (fun t=>alLook_put) hT hy ho
theorem CRelL.delOne (h:CRelL L c R) {i:Nat} {x:RDeal} (hi:R.deals[i]?=some x) (hL:∀ t,t≠x.id→L' t=L t) {res:List (Nat × Nat)} {o1 o2:List (Nat × Nat × Nat)} (ho:o1=o2) :
  CRelL L' { c with txns:=alDel c.txns x.id,res:=res,out:=o1 } { R with deals:=R.deals.take i++R.deals.drop (i+1),res:=res,out:=o2 }:=by
 refine ⟨h.asc.sublist (drop_sub _ _),fun z hz=>?_,fun t ht=>?_,fun z hz=>h.ok z ((drop_sub _ _).subset hz),Nat.le_trans (drop_sub _ _).length_le h.len,h.o1.del _,fun z hz=>h.sin z (List.mem_filter.1 hz).1,h.next,rfl,ho⟩
 ·simp only
  have:=(mem_drop h.asc hi).1 hz
  rw [alLook_del,if_neg this.2,hL _ this.2]
  exact h.som z this.1
 ·simp only
  rw [alLook_del]
  by_cases e:t=x.id
  ·rw [if_pos e]
  ·rw [if_neg e]
   refine h.non t (dealAt_none.2 fun z hz e2=>?_)
   exact dealAt_none.1 ht z ((mem_drop h.asc hi).2 ⟨hz,by omega⟩) e2
theorem CRelL.outs (h:CRelL L c R) {o1 o2:List (Nat × Nat × Nat)} (ho:o1=o2):CRelL L { c with out:=o1 } { R with out:=o2 }:=⟨h.asc,h.som,h.non,h.ok,h.len,h.o1,h.sin,h.next,h.res,ho⟩
end
end Go.Proofs.YtejiankgafjppaaGreatDoor
