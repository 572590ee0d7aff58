import Derived.Test.YtejiankgafjppaaGreatDoorC21
import Derived.Test.YtejiankgafjppaaGreatDoorC17
import Derived.Test.YtejiankgafjppaaGreatDoorC20
namespace Go.Proofs.YtejiankgafjppaaGreatDoor
open Go.RowKit Go.Maps
open Sc
def rdO:Option Obj→List Nat
 | some (.cells c _ _)=>(c.getD 5 .nilIface).ownBlock.toList++(c.getD 6 .nilIface).ownBlock.toList
 | _=>[]
def rd (cp:Nat) (w:World):List Nat:=rdO w.heap[cp]?
structure RFr (cp:Nat) (S:List Nat) (w w':World):Prop where
 fr:Fr (S++rd cp w) w w'
 stay:∀ k,k<w.heap.size→k∈rd cp w'→k∈rd cp w
section
variable {cp:Nat}
theorem RFr.trans {S:List Nat} {a b c:World} (h:RFr cp S a b) (k:RFr cp S b c):RFr cp S a c :=
 ⟨h.fr.andThen k.fr (fun j hj hl=>by
  rcases List.mem_append.1 hj with h1 | h1
  ·exact List.mem_append_left _ h1
  ·exact List.mem_append_right _ (h.stay j hl h1)),fun j hj hm=>h.stay j hj (k.stay j (Nat.lt_of_lt_of_le hj h.fr.size) hm)⟩
theorem RFr.mono {S T:List Nat} {a b:World} (h:RFr cp S a b) (hs:∀ k∈S,k∈T):RFr cp T a b:=⟨h.fr.mono (fun k _ hk=>by
 rcases List.mem_append.1 hk with h1 | h1
 ·exact List.mem_append_left _ (hs k h1)
 ·exact List.mem_append_right _ h1),h.stay⟩
theorem rd_same {w w':World} (h:w'.heap[cp]?=w.heap[cp]?):rd cp w'=rd cp w:=by unfold rd;rw [h]
theorem Fr.r {S T:List Nat} {w w':World} (h:Fr S w w') (hl:cp<w.heap.size) (hn:cp∉S) (hs:∀ k∈S,k∈T):RFr cp T w w' :=
 ⟨h.mono (fun k _ hk=>List.mem_append_left _ (hs k hk)),fun k _ hm=>by rw [rd_same (h.block cp hl hn)] at hm;exact hm⟩
theorem RFr.block {S:List Nat} {w w':World} (h:RFr cp S w w') {k:Nat} (hk:k<w.heap.size) (hS:k∉S) (hr:k∉rd cp w):w'.heap[k]?=w.heap[k]? :=
 h.fr.block k hk (by rw [List.mem_append];exact fun e=>e.elim hS hr)
end
structure ACo where
 txns:List (Nat × ATx)
 next:Nat
 limit:Nat
 ticks:Nat
 res:List (Nat × Nat)
 out:List (Nat × Nat × Nat)
abbrev resC (x:Nat × Nat):List Value:=[.int .u64 (x.1:Int),.int .i64 (x.2:Int)]
abbrev dueC (x:Nat × Nat × Nat):List Value:=[.int .u64 (x.1:Int),.int .i64 (x.2.1:Int),.int .i64 (x.2.2:Int)]
def resV (l:List (Nat × Nat)):List Value:=l.flatMap resC
def dueV (l:List (Nat × Nat × Nat)):List Value:=l.flatMap dueC
theorem resV_app (a b:List (Nat × Nat)):resV (a++b)=resV a++resV b:=by simp [resV]
theorem dueV_app (a b:List (Nat × Nat × Nat)):dueV (a++b)=dueV a++dueV b:=by simp [dueV]
def ACo.tx (c:ACo) (t:Nat):ATx:=(alLook c.txns t).getD tx0
abbrev coO (lg bT:Nat) (c:ACo) (rv ov:Value):Obj:=.cells #[.pointer (lgP lg),.map (some bT),.int .u64 (c.next:Int),.int .u64 (c.limit:Int),.int .u64 (c.ticks:Int),rv,ov] 226
def Brd (v:Value) (k n:Nat):Prop:=k≤n∧(k=0→v=.slice none 0 0)
theorem Brd.mono {v:Value} {k n m:Nat} (h:Brd v k n) (hm:n≤m):Brd v k m:=⟨Nat.le_trans h.1 hm,h.2⟩
theorem Brd.nil (n:Nat):Brd (.slice none 0 0) 0 n:=⟨Nat.zero_le _,fun _=>rfl⟩
structure CoIn (w:World) (B cp lg bT n:Nat) (c:ACo):Prop where
 ex:∃ rv ov,w.heap[cp]?=some (coO lg bT c rv ov)∧w.ownsRow B 216 2 rv c.res.length (resV c.res)∧w.ownsRow B 212 3 ov c.out.length (dueV c.out)∧Brd rv c.res.length n∧Brd ov c.out.length n
 txns:MapAs KU EX w bT n c.txns
 low:B≤cp∧B≤bT∧B≤w.heap.size
 nums:c.next<18446744073709551616∧c.limit<18446744073709551616∧c.ticks<18446744073709551616
section
variable {w w':World} {B cp lg bT n:Nat} {c:ACo}
theorem CoIn.isCo (h:CoIn w B cp lg bT n c):∃ cs,w.heap[cp]?=some (.cells cs 226 (0,0)):=by obtain ⟨rv,ov,h1,_⟩:=h.ex;exact ⟨_,h1⟩
theorem CoIn.lts (h:CoIn w B cp lg bT n c):cp<w.heap.size∧bT<w.heap.size∧cp≠bT:=by
 obtain ⟨cs,h1⟩:=h.isCo
 refine ⟨(Array.getElem?_eq_some_iff.1 h1).1,h.txns.lt,fun e=>?_⟩
 obtain ⟨es,c2,e2⟩:=h.txns.isMap
 rw [e,e2] at h1;cases h1
theorem CoIn.mono (h:CoIn w B cp lg bT n c) {m:Nat} (hm:n≤m):CoIn w B cp lg bT m c:=by
 obtain ⟨rv,ov,h1,h2,h3,h4,h5⟩:=h.ex
 exact ⟨⟨rv,ov,h1,h2,h3,h4.mono hm,h5.mono hm⟩,h.txns.mono hm,h.low,h.nums⟩
theorem CoIn.fr {S:List Nat} (h:CoIn w B cp lg bT n c) (hf:Fr S w w') (hS:∀ k∈S,k≠cp∧k≠bT∧k∉rd cp w):CoIn w' B cp lg bT n c:=by
 obtain ⟨rv,ov,h1,h2,h3,h4,h5⟩:=h.ex
 refine ⟨⟨rv,ov,(hf.block cp h.lts.1 (fun e=>(hS _ e).1 rfl)).trans h1,ownsRow_fr h2 hf ?_,ownsRow_fr h3 hf ?_,h4,h5⟩,h.txns.fr hf (fun e=>(hS _ e).2.1 rfl),⟨h.low.1,h.low.2.1,Nat.le_trans h.low.2.2 hf.size⟩,h.nums⟩
 ·intro g hg e
  exact (hS g e).2.2 (by unfold rd rdO;rw [h1];simp [hg])
 ·intro g hg e
  exact (hS g e).2.2 (by unfold rd rdO;rw [h1];simp [hg])
theorem CoIn.rdm (h:CoIn w B cp lg bT n c) {k:Nat} (hk:k∈rd cp w):B≤k∧∃ cc t,w.heap[k]?=some (.cells cc t (0,0))∧(t=216∨t=212):=by
 obtain ⟨rv,ov,h1,h2,h3,h4,h5⟩:=h.ex
 unfold rd rdO at hk
 rw [h1] at hk
 simp at hk
 rcases hk with hk | hk
 ·obtain ⟨cc,hc⟩:=own_cells h2 hk;exact ⟨(h2.lt k hk).1,cc,_,hc,.inl rfl⟩
 ·obtain ⟨cc,hc⟩:=own_cells h3 hk;exact ⟨(h3.lt k hk).1,cc,_,hc,.inr rfl⟩
theorem CoIn.rd_not (h:CoIn w B cp lg bT n c) {k:Nat} {cc:Array Value} {t:TypeId} {fr:Nat × Nat} (hk:w.heap[k]?=some (.cells cc t fr)) (h1:t≠216) (h2:t≠212):k∉rd cp w:=fun hm=>by
 obtain ⟨_,c2,t2,e,ht⟩:=h.rdm hm
 rw [hk] at e
 cases e
 rcases ht with ht | ht
 ·exact h1 ht
 ·exact h2 ht
theorem RFr.cells {S:List Nat} (hf:RFr cp S w w') (h:CoIn w B cp lg bT n c) {k:Nat} {cc:Array Value} {t:TypeId} {fr:Nat × Nat} (hk:w.heap[k]?=some (.cells cc t fr)) (hS:k∉S) (h1:t≠216) (h2:t≠212):w'.heap[k]?=some (.cells cc t fr) :=
 (hf.block (Array.getElem?_eq_some_iff.1 hk).1 hS (h.rd_not hk h1 h2)).trans hk
theorem CoIn.new (h:CoIn w B cp lg bT n c) (hf:Fr [] w w'):CoIn w' B cp lg bT n c:=h.fr hf (by simp)
theorem CoIn.lookT (h:CoIn w B cp lg bT n c) {t:Nat} (ht:t<18446744073709551616) :
  (Instr.lookup 224 (.map (some bT)) (.int .u64 (t:Int)) false).run Tryz.prog w=.ok (txV (c.tx t)) w :=
 h.txns.look Tryz.underlying224 (zeroTx w) tx0_ok (k:=t) ht
theorem CoIn.okT (h:CoIn w B cp lg bT n c) (t:Nat):(c.tx t).Ok:=by
 unfold ACo.tx
 cases hl:alLook c.txns t with
 | none=>exact tx0_ok
 | some u=>obtain ⟨_,_,_,_,hk⟩:=h.txns;exact (hk _ (alLook_mem hl)).2
theorem CoIn.setTxns {ts:List (Nat × ATx)} {m:Nat} (h:CoIn w B cp lg bT n c) (hf:Fr [bT] w w') (hm:MapAs KU EX w' bT m ts) (hn:n≤m):CoIn w' B cp lg bT m { c with txns:=ts }:=by
 obtain ⟨rv,ov,h1,h2,h3,h4,h5⟩:=h.ex
 obtain ⟨es,c2,e2⟩:=h.txns.isMap
 have no:∀ {g:Nat} {e:TypeId} {k m:Nat} {v:Value} {xs:List Value},w.ownsRow B e k v m xs→v.ownBlock=some g→g∉[bT]:=fun hr hg hm=>by
  simp at hm;subst hm
  obtain ⟨cc,hc⟩:=own_cells hr hg
  rw [hc] at e2;cases e2
 exact ⟨⟨rv,ov,(hf.block cp h.lts.1 (by simpa using h.lts.2.2)).trans h1,ownsRow_fr h2 hf (fun g hg=>no h2 hg),ownsRow_fr h3 hf (fun g hg=>no h3 hg),h4.mono hn,h5.mono hn⟩,hm,⟨h.low.1,h.low.2.1,Nat.le_trans h.low.2.2 hf.size⟩,h.nums⟩
end
set_option maxRecDepth 100000 in
set_option maxHeartbeats 2000000 in
theorem status_any (B cp lg bT n t:Nat) (c:ACo) (w:World) (h:CoIn w B cp lg bT n c) (ht:t<18446744073709551616) :
  Calls Tryz.prog 152 #[.pointer (some ⟨cp,0,none⟩),.int .u64 (t:Int)] w fun e w'=>e=.returned (.int .i64 ((c.tx t).state:Int))∧w'=w:=by
 obtain ⟨rv,ov,h1,_⟩:=h.ex
 have c1:=blk_cell h1 1
 simp at c1
 have hl:=h.lookT ht
 have hf0:=fieldX0 (c.tx t) (h.okT t)
 obtain ⟨T,hT⟩:∃ T,T=c.tx t:=⟨_,rfl⟩
 rw [← hT] at hl hf0 ⊢
 clear h hT h1
 go_enter Tryz.func152,Tryz.ntmps152
 go_wp2
 go_ret
 exact ⟨rfl,rfl⟩
def answerOf (state:Nat):Nat:=if state=0 then 6 else if state=6 then 5 else 0
set_option maxRecDepth 100000 in
set_option maxHeartbeats 2000000 in
theorem answer_any (B cp lg bT n t:Nat) (c:ACo) (w:World) (h:CoIn w B cp lg bT n c) (ht:t<18446744073709551616) :
  Calls Tryz.prog 154 #[.pointer (some ⟨cp,0,none⟩),.int .u64 (t:Int)] w fun e w'=>e=.returned (.int .i64 (answerOf (c.tx t).state:Int))∧w'=w:=by
 have hs:=status_any B cp lg bT n t c w h ht
 obtain ⟨s,hS⟩:∃ s,s=(c.tx t).state:=⟨_,rfl⟩
 rw [← hS] at hs ⊢
 clear h hS
 go_enter Tryz.func154,Tryz.ntmps154
 go_wp2_with fail
 refine hs.mono ?_
 rintro e w1 ⟨rfl,rfl⟩
 by_cases h0:s=0
 ·subst h0
  go_wp2
  go_ret
  exact ⟨rfl,rfl⟩
 ·by_cases h6:s=6
  ·subst h6
   go_wp2
   go_ret
   exact ⟨rfl,rfl⟩
  ·have i0:¬ (s:Int)=0:=by omega
   have i6:¬ (s:Int)=6:=by omega
   have b0:((s:Int) == 0)=false:=beq_eq_false_iff_ne.2 i0
   have b6:((s:Int) == 6)=false:=beq_eq_false_iff_ne.2 i6
   go_wp2
   go_ret
   exact ⟨by unfold answerOf;rw [if_neg h0,if_neg h6];rfl,rfl⟩
theorem txV_lit (s a b c d e f g i j z:Nat):txV ⟨s,[a,b,c,d,e,f,g,i,j],z⟩=.agg #[.int .i64 (s:Int),.int .u8 (a:Int),.int .u8 (b:Int),.int .u8 (c:Int),.int .u8 (d:Int),.int .u8 (e:Int),.int .u8 (f:Int),.int .u8 (g:Int),.int .u8 (i:Int),.int .u8 (j:Int),.int .u64 (z:Int),.nilIface]:=rfl
set_option maxRecDepth 100000 in
set_option maxHeartbeats 4000000 in
theorem at_any (t:ATx) (ht:t.Ok) (k:Nat) (hk:k<9) (w:World) :
  Calls Tryz.prog 224 #[txV t,.int .i64 (k:Int)] w fun e w'=>e=.returned (.int .u8 ((t.parts.getD k 0:Nat):Int))∧Fr [] w w':=by
 obtain ⟨s,ps,z⟩:=t
 obtain ⟨p0,p1,p2,p3,p4,p5,p6,p7,p8,rfl⟩:=nine ht.1
 rw [txV_lit]
 rcases below9 hk with rfl | rfl | rfl | rfl | rfl | rfl | rfl | rfl | rfl
 all_goals
  (go_enter Tryz.func224,Tryz.ntmps224
   go_wp2
   go_ret
   exact ⟨rfl,(Fr.refl [] w).alloc _⟩)
set_option maxRecDepth 100000 in
set_option maxHeartbeats 4000000 in
theorem with_any (t:ATx) (ht:t.Ok) (k p:Nat) (hk:k<9) (w:World) :
  Calls Tryz.prog 225 #[txV t,.int .i64 (k:Int),.int .u8 (p:Int)] w fun e w'=>e=.returned (txV { t with parts:=t.parts.set k p })∧Fr [] w w':=by
 obtain ⟨s,ps,z⟩:=t
 obtain ⟨p0,p1,p2,p3,p4,p5,p6,p7,p8,rfl⟩:=nine ht.1
 rw [txV_lit]
 rcases below9 hk with rfl | rfl | rfl | rfl | rfl | rfl | rfl | rfl | rfl
 all_goals
  (simp only [List.set_cons_zero,List.set_cons_succ,txV_lit]
   go_enter Tryz.func225,Tryz.ntmps225
   go_wp2
   exact bodyPost_ret (by simp [results,Tryz.results225,go_sem]) rfl ⟨rfl,((Fr.refl [] w).alloc _).alloc _⟩)
set_option maxRecDepth 100000 in
set_option maxHeartbeats 1000000 in
theorem partOf_any (v:Nat) (hv:v=2∨v=3∨v=4) (w:World) :
  Calls Tryz.prog 223 #[.int .i64 (v:Int)] w fun e w'=>e=.returned (.int .u8 (v:Int))∧w'=w:=by
 rcases hv with rfl | rfl | rfl
 all_goals
  (go_enter Tryz.func223,Tryz.ntmps223
   go_wp2
   go_ret
   exact ⟨rfl,rfl⟩)
def Means (mf:Nat) (q:Nat→Bool):Prop:=∀ (p:Nat) (w:World),p<256→Calls Tryz.prog mf #[.int .u8 (p:Int)] w fun e w'=>e=.returned (.bool (q p))∧w'=w
def isAw (p:Nat):Bool:=p == 1
def isToC (p:Nat):Bool:=p == 2
def mayP (p:Nat):Bool:=p == 1 || p == 2
def hasY (p:Nat):Bool:=p == 2 || p == 5
set_option maxHeartbeats 1000000 in
theorem isAw_m:Means 213 isAw:=by
 intro p w hp
 by_cases h:p=1
 ·subst h
  go_enter Tryz.func213,Tryz.ntmps213
  go_wp2
  go_ret
  exact ⟨rfl,rfl⟩
 ·have i1:¬ (p:Int)=1:=by omega
  have b1:((p:Int) == 1)=false:=beq_eq_false_iff_ne.2 i1
  have e1:isAw p=false:=by unfold isAw;simpa using h
  rw [e1]
  go_enter Tryz.func213,Tryz.ntmps213
  go_wp2
  go_ret
  exact ⟨by simp,rfl⟩
set_option maxHeartbeats 1000000 in
theorem isToC_m:Means 214 isToC:=by
 intro p w hp
 by_cases h:p=2
 ·subst h
  go_enter Tryz.func214,Tryz.ntmps214
  go_wp2
  go_ret
  exact ⟨rfl,rfl⟩
 ·have i1:¬ (p:Int)=2:=by omega
  have b1:((p:Int) == 2)=false:=beq_eq_false_iff_ne.2 i1
  have e1:isToC p=false:=by unfold isToC;simpa using h
  rw [e1]
  go_enter Tryz.func214,Tryz.ntmps214
  go_wp2
  go_ret
  exact ⟨by simp,rfl⟩
set_option maxHeartbeats 1000000 in
theorem mayP_m:Means 269 mayP:=by
 intro p w hp
 by_cases h:p=1
 ·subst h
  go_enter Tryz.func269,Tryz.ntmps269
  go_wp2
  go_ret
  exact ⟨rfl,rfl⟩
 ·have i1:¬ (p:Int)=1:=by omega
  have b1:((p:Int) == 1)=false:=beq_eq_false_iff_ne.2 i1
  by_cases h2:p=2
  ·subst h2
   go_enter Tryz.func269,Tryz.ntmps269
   go_wp2
   go_ret
   exact ⟨rfl,rfl⟩
  ·have i2:¬ (p:Int)=2:=by omega
   have b2:((p:Int) == 2)=false:=beq_eq_false_iff_ne.2 i2
   have e1:mayP p=false:=by unfold mayP;simp [h,h2]
   rw [e1]
   go_enter Tryz.func269,Tryz.ntmps269
   go_wp2
   go_ret
   exact ⟨by simp,rfl⟩
set_option maxHeartbeats 1000000 in
theorem hasY_m:Means 278 hasY:=by
 intro p w hp
 by_cases h:p=2
 ·subst h
  go_enter Tryz.func278,Tryz.ntmps278
  go_wp2
  go_ret
  exact ⟨rfl,rfl⟩
 ·have i1:¬ (p:Int)=2:=by omega
  have b1:((p:Int) == 2)=false:=beq_eq_false_iff_ne.2 i1
  by_cases h2:p=5
  ·subst h2
   go_enter Tryz.func278,Tryz.ntmps278
   go_wp2
   go_ret
   exact ⟨rfl,rfl⟩
  ·have i2:¬ (p:Int)=5:=by omega
   have b2:((p:Int) == 5)=false:=beq_eq_false_iff_ne.2 i2
   have e1:hasY p=false:=by unfold hasY;simp [h,h2]
   rw [e1]
   go_enter Tryz.func278,Tryz.ntmps278
   go_wp2
   go_ret
   exact ⟨by simp,rfl⟩
def idxOf (q:Nat→Bool) (ps:List Nat):Int:=if ps.any q then (ps.findIdx q:Int) else -1
theorem any_getD {q:Nat→Bool} {ps:List Nat} (h:ps.length=9):ps.any q=false↔∀ k,k<9→q (ps.getD k 0)=false:=by
 rw [List.any_eq_false]
 constructor
 ·intro hx k hk
  have e:ps.getD k 0=ps[k]'(by omega):=by simp [h,hk]
  rw [e]
  simpa using hx _ (List.getElem_mem (by omega))
 ·intro hx x hm
  obtain ⟨k,hk,rfl⟩:=List.mem_iff_getElem.1 hm
  have:=hx k (by omega)
  have e:ps.getD k 0=ps[k]:=by simp [hk]
  rw [e] at this
  simp [this]
theorem findIdx_getD {q:Nat→Bool} {ps:List Nat} (h:ps.length=9) {k:Nat} (hk:k<9) (h1:q (ps.getD k 0)=true) (h0:∀ j,j<k→q (ps.getD j 0)=false):idxOf q ps=(k:Int):=by
 have e:∀ j,(hj:j<ps.length)→ps.getD j 0=ps[j]:=fun j hj=>by simp [hj]
 have ha:ps.any q=true:=by
  rw [List.any_eq_true]
  exact ⟨ps[k]'(by omega),List.getElem_mem (by omega),by rw [← e k (by omega)];exact h1⟩
 unfold idxOf
 rw [if_pos ha]
 congr 1
 rw [List.findIdx_eq (by omega)]
 exact ⟨by rw [← e k (by omega)];exact h1,fun j hj=>by rw [← e j (by omega)];exact h0 j hj⟩
abbrev fnV (mf:Nat):Value:=.func (.func mf) #[] #[]
def Enters (mf:Nat):Prop:=∀ args w,(callFunc mf args).run Tryz.prog w=.ok (.enter mf args) w
set_option maxRecDepth 100000 in
set_option maxHeartbeats 2000000 in
theorem idx_any (mf:Nat) (q:Nat→Bool) (hm:Means mf q) (hen:Enters mf) (b:Nat) (ps:List Nat) (hl:ps.length=9) (hp:∀ p∈ps,p<256) (w:World) (hc:∀ k,k<9→w.cell? ⟨b,1+k,none⟩=some (.int .u8 ((ps.getD k 0:Nat):Int))) :
  Calls Tryz.prog 311 #[.slice (some ⟨b,1,none⟩) 9 9,fnV mf] w fun e w'=>e=.returned (.int .i64 (idxOf q ps))∧w'=w:=by
 have HC:Hid (∀ k,k<9→w.cell? ⟨b,1+k,none⟩=some (.int .u8 ((ps.getD k 0:Nat):Int))):=hc
 clear hc
 go_enter Tryz.func311,Tryz.ntmps311
 go_wp2
 go_loopw [8] (fun i wr=>∃ k:Nat,k≤9∧i=.int .i64 k∧wr=w∧Hid (∀ j,j<k→q (ps.getD j 0)=false)) (fun i _=>9 - (intOf i).toNat)
 case atStart=>exact ⟨0,Nat.zero_le _,rfl,rfl,fun j hj=>by omega⟩
 case round =>
  obtain ⟨k,hk,rfl,rfl,H⟩:=hrel
  by_cases hlt:k<9
  ·have i9:(k:Int)<9:=by omega
   have i0:(0:Int)≤(k:Int):=by omega
   have ck:=HC.out k hlt
   have hmk:=hm (ps.getD k 0) wr (by
    by_cases hx:ps.getD k 0∈ps
    ·exact hp _ hx
    ·exact absurd (by simp [hl,hlt]:ps.getD k 0∈ps) hx)
   obtain ⟨P,hP⟩:∃ P,P=ps.getD k 0:=⟨_,rfl⟩
   rw [← hP] at ck hmk
   have HP:Hid (P=ps.getD k 0):=hP
   clear hP
   unfold Enters at hen
   go_wp2_with fail
   refine hmk.mono ?_
   rintro e w2 ⟨rfl,rfl⟩
   cases hq:q P with
   | true =>
    go_wp2
    go_ret
    exact ⟨by rw [findIdx_getD hl hlt (by rw [← HP.out];exact hq) H.out];rfl,rfl⟩
   | false =>
    go_wp2
    go_roundw
    case rel=>exact ⟨k+1,by omega,by simp,by simp,fun j hj=>by
     by_cases e:j=k
     ·rw [e,← HP.out];exact hq
     ·exact H.out j (by omega)⟩
    case measure=>simp [intOf];omega
  ·obtain rfl:k=9:=by omega
   go_wp2
   go_ret
   refine ⟨?_,rfl⟩
   unfold idxOf
   rw [if_neg (by rw [(any_getD hl).2 H.out];decide)]
   rfl
set_option maxRecDepth 100000 in
set_option maxHeartbeats 2000000 in
theorem contains_any (mf:Nat) (q:Nat→Bool) (hm:Means mf q) (hen:Enters mf) (b:Nat) (ps:List Nat) (hl:ps.length=9) (hp:∀ p∈ps,p<256) (w:World) (hc:∀ k,k<9→w.cell? ⟨b,1+k,none⟩=some (.int .u8 ((ps.getD k 0:Nat):Int))) :
  Calls Tryz.prog 277 #[.slice (some ⟨b,1,none⟩) 9 9,fnV mf] w fun e w'=>e=.returned (.bool (ps.any q))∧w'=w:=by
 have hi:=idx_any mf q hm hen b ps hl hp w hc
 clear hc hp hm hen
 by_cases h:ps.any q=true
 ·have e:idxOf q ps=(ps.findIdx q:Int):=by unfold idxOf;rw [if_pos h]
  rw [e] at hi
  rw [h]
  clear e h
  have i0:(0:Int)≤(ps.findIdx q:Int):=by omega
  obtain ⟨I,hI⟩:∃ I:Int,I=(ps.findIdx q:Int):=⟨_,rfl⟩
  rw [← hI] at hi i0
  clear hI
  go_enter Tryz.func277,Tryz.ntmps277
  go_wp2_with fail
  refine hi.mono ?_
  rintro e w2 ⟨rfl,rfl⟩
  go_wp2
  go_ret
  exact ⟨by simp,rfl⟩
 ·have e:idxOf q ps=-1:=by unfold idxOf;rw [if_neg h]
  rw [e] at hi
  have hf:ps.any q=false:=by simpa using h
  rw [hf]
  clear e h hf
  go_enter Tryz.func277,Tryz.ntmps277
  go_wp2_with fail
  refine hi.mono ?_
  rintro e w2 ⟨rfl,rfl⟩
  go_wp2
  go_ret
  exact ⟨rfl,rfl⟩
theorem tx_cells {w:World} {b:Nat} {t:ATx} (h:w.heap[b]?=some (.cells (txC t).toArray 297 (0,0))) (ht:t.Ok):∀ k,k<9→w.cell? ⟨b,1+k,none⟩=some (.int .u8 ((t.parts.getD k 0:Nat):Int)):=by
 intro k hk
 have:=blk_cell h (1+k)
 rw [this]
 obtain ⟨s,ps,z⟩:=t
 obtain ⟨p0,p1,p2,p3,p4,p5,p6,p7,p8,rfl⟩:=nine ht.1
 rcases below9 hk with rfl | rfl | rfl | rfl | rfl | rfl | rfl | rfl | rfl <;> rfl
set_option maxRecDepth 100000 in
set_option maxHeartbeats 2000000 in
theorem has_any (mf:Nat) (q:Nat→Bool) (hm:Means mf q) (hen:Enters mf) (t:ATx) (ht:t.Ok) (w:World) :
  Calls Tryz.prog 226 #[txV t,fnV mf] w fun e w'=>e=.returned (.bool (t.parts.any q))∧Fr [] w w':=by
 obtain ⟨W,hW⟩:∃ W,W=w.alloc (.cells (txC t).toArray 297):=⟨_,rfl⟩
 have hb:W.heap[w.heap.size]?=some (.cells (txC t).toArray 297 (0,0)):=by rw [hW];exact heap_alloc_new w _
 have hi:=contains_any mf q hm hen w.heap.size t.parts ht.1 ht.2 W (tx_cells hb ht)
 have HF:Hid (Fr [] w W):=by rw [hW];exact (Fr.refl [] w).alloc _
 clear hm hen hb
 obtain ⟨A,hA⟩:∃ A,A=t.parts.any q:=⟨_,rfl⟩
 rw [← hA] at hi ⊢
 clear hA
 obtain ⟨s,ps,z⟩:=t
 obtain ⟨p0,p1,p2,p3,p4,p5,p6,p7,p8,rfl⟩:=nine ht.1
 rw [txV_lit]
 go_enter Tryz.func226,Tryz.ntmps226
 go_wp2_with fail
 have hW2:W=w.alloc (.cells #[.int .i64 (s:Int),.int .u8 (p0:Int),.int .u8 (p1:Int),.int .u8 (p2:Int),.int .u8 (p3:Int),.int .u8 (p4:Int),.int .u8 (p5:Int),.int .u8 (p6:Int),.int .u8 (p7:Int),.int .u8 (p8:Int),.int .u64 (z:Int),.nilIface] 297):=hW
 rw [← hW2]
 clear hW hW2
 refine hi.mono ?_
 rintro e w2 ⟨rfl,rfl⟩
 go_wp2
 go_ret
 exact ⟨rfl,HF.out⟩
end Go.Proofs.YtejiankgafjppaaGreatDoor
namespace Go.Proofs.YtejiankgafjppaaGreatDoor
open Go.RowKit Go.Shelf
open Sc
def SeqQ {α:Type} (F:Fence) (n:Nat) (P:Program) (gf:Nat) (lb:Array Value) (encs:α→Array Value) (rs:List α) (S:List Nat) (l:Nat) (W:World):Prop :=
 ∀ J:List α→World→Prop,
  (∀ pre x W1,J pre W1→W.heap.size≤W1.heap.size→pre++[x] <+: rs→YieldAt F (n - 1) P l (encs x) W1 fun e W'=>e=.returned (.bool true)∧J (pre++[x]) W'∧KpS S W1 W') →
  J [] W→CallsIn F n P gf (#[.func (.yield l) #[] #[]]++lb) W fun e W'=>(∃ v,e=.returned v)∧J rs W'
section
variable {F:Fence} {n:Nat} {P:Program}
theorem wpIn_range_s {α:Type} {g:Operand} {ps:Array Tmp} {assign body:Code} {Q:Exit→Act→World→Prop} {a:Act} {w:World}
  (hro:F.round=none) (h1:1≤n) {gf:Nat} {lb:Array Value} (hg:a.eval g=.func (.func gf) #[] lb) (hFg:F.fn gf) (eg:∀ args w,(callFunc gf args).run P w=.ok (.enter gf args) w)
  {encs:α→Array Value} {rs:List α} {S:List Nat} (hps:∀ x,(encs x).size=ps.size) (hS:∀ k∈S,k<w.heap.size)
  (hseq:∀ W1,Below w.heap.size w W1→W1.heap.size=w.heap.size+2→SeqQ F (n - 1) P gf lb encs rs S (w.heap.size+1) W1)
  (I:List α→World→Prop) (hI0:∀ W1,Below w.heap.size w W1→I [] W1) (hIl:∀ s A r,I s A→w.heap.size+2≤A.heap.size→(∃ r0,A.heap[w.heap.size+1]?=some (.loop r0))→I s (A.putObj (w.heap.size+1) (.loop r)))
  (Ax:α→Act→World→Prop) (hAx:∀ x a' A r,Ax x a' A→Ax x a' (A.putObj (w.heap.size+1) (.loop r)))
  (hassign:∀ (pre:List α) (x:α) (W:World) (K:Act→World→Prop),I pre W→w.heap.size+2≤W.heap.size→pre++[x] <+: rs→(∀ a' W',I pre W'→KpS (w.heap.size :: (w.heap.size+1) :: S) W W'→Ax x a' W'→K a' W') →
   assign.wpIn (F.inRound (w.heap.size+1)) (n - 1 - 1) P (Exit.then K (fun _ _ _=>False)) { tmps:=(ps.zip (encs x)).foldl (fun t (p,v)=>t.setIfInBounds p v) a.tmps,defers:=[] } W)
  (hbody:∀ (pre:List α) (x:α) (a':Act) (W:World),I pre W→w.heap.size+2≤W.heap.size→Ax x a' W→pre++[x] <+: rs→W.heap[w.heap.size]?=some (.deferred (some []))→(∃ r,W.heap[w.heap.size+1]?=some (.loop r))→body.wpIn (F.inRound (w.heap.size+1)) (n - 1 - 1) P (fun e _ W'=>e=.normal∧I (pre++[x]) W'∧KpS (w.heap.size :: (w.heap.size+1) :: S) W W') a' W)
  (hdone:∀ (W:World),I rs W→w.heap.size+2≤W.heap.size→W.heap[w.heap.size]?=some (.deferred (some []))→Q .normal { a with defers:={ target:=.collected w.heap.size,args:=#[] } :: a.defers } W) :
  (Code.rangeFunc g ps assign body).wpIn F n P Q a w:=by
 refine wpIn_rangeFunc fun fn hfn=>?_
 rw [hro]
 obtain ⟨L,hL⟩:∃ L:LoopState→Loop,L=fun st=>{ state:=st,pending:=none,fn,tmps:=a.tmps,params:=ps,assign,body,defers:=w.heap.size }:=⟨_,rfl⟩
 obtain ⟨W1,hW1⟩:∃ W1,W1=(w.alloc (.deferred (some []))).alloc (.loop (L .ready)):=⟨_,rfl⟩
 have hb1:Below w.heap.size w W1:=by rw [hW1];exact ((Below.refl _ w).alloc (Nat.le_refl _) _).alloc (by simp) _
 have hs1:W1.heap.size=w.heap.size+2:=by rw [hW1];simp
 have hl1:W1.heap[w.heap.size+1]?=some (.loop (L .ready)):=by
  rw [hW1];have:=World.alloc_heap_new (w.alloc (.deferred (some []))) (.loop (L .ready));rwa [World.size_alloc] at this
 have hd1:W1.heap[w.heap.size]?=some (.deferred (some [])):=by
  rw [hW1];exact (Below.heap_alloc _ _ _ (by simp)).trans (World.alloc_heap_new w _)
 refine ⟨w.heap.size+1,[{ target:=.collected w.heap.size,args:=#[] }],W1,{ target:=.fn (.func gf) lb,args:=#[.func (.yield (w.heap.size+1)) #[] #[]] },W1,gf,#[.func (.yield (w.heap.size+1)) #[] #[]]++lb,W1,?_,?_,?_,?_,fun _=>h1,?_⟩
 ·rw [hW1,hL];exact run_enterLoop_outer _ _ _ _ _
 ·simp only [resolve,hg];simp [go_sem]
 ·intro f' hf';simp [Target.leads] at hf';subst hf';exact hFg
 ·simp [invoke,go_sem,eg]
 refine (hseq W1 hb1 hs1 (fun s A=>I s A∧A.heap[w.heap.size+1]?=some (.loop (L .ready))∧A.heap[w.heap.size]?=some (.deferred (some []))∧w.heap.size+2≤A.heap.size) ?_ ⟨hI0 W1 hb1,hl1,hd1,by omega⟩).mono ?_
 ·rintro pre x W ⟨i1,i2,i3,i4⟩ _ hpre
  have hy:=run_yield (P:=P) (args:=encs x) i2 (by rw [hL];exact hps x)
  rw [hL] at hy
  refine ⟨fn,_,assign,body,hy,roundIn_of_wpIn hfn (hassign pre x W _ i1 i4 hpre fun a' Wa ia ka xa=>?_)⟩
  have la:Wa.heap[w.heap.size+1]?=some (.loop (L .ready)):=(ka.same _ (by simp) (by omega)).trans i2
  have da:Wa.heap[w.heap.size]?=some (.deferred (some [])):=(ka.same _ (by simp) (by omega)).trans i3
  have lta:w.heap.size+1<Wa.heap.size:=(Array.getElem?_eq_some_iff.1 la).1
  obtain ⟨Wb,hWb⟩:∃ Wb,Wb=Wa.putObj (w.heap.size+1) (.loop (L .busy)):=⟨_,rfl⟩
  have lb':Wb.heap[w.heap.size+1]?=some (.loop (L .busy)):=by rw [hWb];exact World.putObj_heap_same lta
  have db:Wb.heap[w.heap.size]?=some (.deferred (some [])):=by rw [hWb];exact (World.putObj_heap_other (by omega)).trans da
  have sb:Wb.heap.size=Wa.heap.size:=by rw [hWb];simp
  refine ⟨Wb,by rw [hWb];have:=run_beginRound (P:=P) la (by rw [hL]);rw [hL] at this ⊢;exact this,?_⟩
  refine wpIn_mono (hbody pre x a' Wb (by rw [hWb];exact hIl _ _ _ ia (by have:=ka.size;omega) ⟨_,la⟩) (by rw [sb];omega) (by rw [hWb];exact hAx _ _ _ _ xa) hpre db ⟨_,lb'⟩) ?_
  rintro e a3 W3 ⟨rfl,i3',k3⟩
  have l3:W3.heap[w.heap.size+1]?=some (.loop (L .busy)):=(k3.same _ (by simp) (by omega)).trans lb'
  have d3:W3.heap[w.heap.size]?=some (.deferred (some [])):=(k3.same _ (by simp) (by omega)).trans db
  have lt3:w.heap.size+1<W3.heap.size:=(Array.getElem?_eq_some_iff.1 l3).1
  have hend:=run_endRound (P:=P) none l3
  refine ⟨_,_,hend,rfl,⟨hIl _ _ _ i3' (by have:=k3.size;have:=ka.size;omega) ⟨_,l3⟩,?_,(World.putObj_heap_other (by omega)).trans d3,by rw [size_put0];omega⟩,?_,?_⟩
  ·rw [World.putObj_heap_same lt3,hL];rfl
  ·rw [size_put0];have:=ka.size;have:=k3.size;omega
  ·intro k hk hlt
   have hkw:=hS k hk
   rw [World.putObj_heap_other (by omega),k3.same k (by simp [hk]) (by have:=ka.size;omega),hWb,World.putObj_heap_other (by omega),ka.same k (by simp [hk]) hlt]
 ·rintro e W2 ⟨⟨v,rfl⟩,i1,i2,i3,i4⟩
  have hend:=run_endLoop (P:=P) i2 (by rw [hL];simp)
  have hp:(L .ready).pending=none:=by rw [hL]
  rw [hp] at hend
  refine ⟨none,_,hend,?_⟩
  exact hdone _ (hIl _ _ _ i1 i4 ⟨_,i2⟩) (by rw [size_put0];exact i4) ((World.putObj_heap_other (by omega)).trans i3)
end
end Go.Proofs.YtejiankgafjppaaGreatDoor
namespace Go.Proofs.YtejiankgafjppaaGreatDoor
open Go.RowKit Go.Shelf Go.Maps
open Sc
def meantTo (q:Nat→Bool) (ps:List Nat) (k:Nat):List Nat:=(List.range k).filter fun j=>q (ps.getD j 0)
abbrev meant (q:Nat→Bool) (ps:List Nat):List Nat:=meantTo q ps 9
theorem meantTo_yes {q:Nat→Bool} {ps:List Nat} {k:Nat} (h:q (ps.getD k 0)=true):meantTo q ps (k+1)=meantTo q ps k++[k]:=by
 unfold meantTo
 rw [List.range_succ,List.filter_append]
 simp only [List.filter_cons,h,if_true,List.filter_nil]
theorem meantTo_no {q:Nat→Bool} {ps:List Nat} {k:Nat} (h:q (ps.getD k 0)=false):meantTo q ps (k+1)=meantTo q ps k:=by
 unfold meantTo
 rw [List.range_succ,List.filter_append]
 simp only [List.filter_cons,h,List.filter_nil]
 simp
theorem meantTo_pre {q:Nat→Bool} {ps:List Nat}:∀ {k:Nat},k≤9→meantTo q ps k <+: meant q ps:=by
 intro k hk
 have:List.range k <+: List.range 9:=by
  rw [List.prefix_iff_eq_take]
  rw [List.take_range]
  simp [Nat.min_eq_left hk]
 exact this.filter _
theorem getD_lt {ps:List Nat} (hl:ps.length=9) (hp:∀ p∈ps,p<256) {k:Nat} (hk:k<9):ps.getD k 0<256:=by
 have e:ps.getD k 0=ps[k]'(by omega):=by simp [hl,hk]
 rw [e]
 exact hp _ (List.getElem_mem _)
set_option maxHeartbeats 1000000 in
theorem shards_fn (n mf:Nat) (t:ATx) (ht:t.Ok) (w:World) :
  CallsIn Fence.wide n Tryz.prog 270 #[txV t,fnV mf] w fun e w'=>e=.returned (.func (.func 310) #[] #[.pointer (some ⟨w.heap.size,0,none⟩),.pointer (some ⟨w.heap.size+1,0,none⟩)])∧w'=(w.alloc (.cells (txC t).toArray 297)).alloc (.cells #[fnV mf] 299):=by
 obtain ⟨s,ps,z⟩:=t
 obtain ⟨p0,p1,p2,p3,p4,p5,p6,p7,p8,rfl⟩:=nine ht.1
 rw [txV_lit]
 refine callsIn_of_wp Tryz.func270 rfl trivial ?_ rfl
 simp only [Tryz.ntmps270,List.size_toArray,List.length_cons,List.length_nil,Nat.reduceAdd,Nat.reduceSub,Array.replicate_succ,Array.replicate_zero,List.push_toArray,List.append_toArray,List.nil_append,List.cons_append]
 gi_wp2
 go_ret
 exact ⟨rfl,rfl⟩
set_option maxRecDepth 100000 in
set_option maxHeartbeats 4000000 in
theorem shards1_in (n:Nat) (hn:2≤n) (l b1 b2 mf:Nat) (q:Nat→Bool) (hm:Means mf q) (hen:Enters mf) (t:ATx) (ht:t.Ok) (W:World) (h1:W.heap[b1]?=some (.cells (txC t).toArray 297 (0,0))) (h2:W.heap[b2]?=some (.cells #[fnV mf] 299 (0,0)))
  (J:List Nat→World→Prop)
  (hY:∀ pre (x:Nat) W1,J pre W1→W.heap.size≤W1.heap.size→pre++[x] <+: meant q t.parts→YieldAt Fence.wide (n - 1) Tryz.prog l #[.int .i64 (x:Int)] W1 fun e W'=>e=.returned (.bool true)∧J (pre++[x]) W'∧KpS [b1,b2] W1 W') (h0:J [] W) :
  CallsIn Fence.wide n Tryz.prog 310 #[.func (.yield l) #[] #[],.pointer (some ⟨b1,0,none⟩),.pointer (some ⟨b2,0,none⟩)] W fun e W'=>(∃ v,e=.returned v)∧J (meant q t.parts) W':=by
 have hro:Fence.wide.round=none:=rfl
 have hg:1≤n:=by omega
 have hfm:Fence.wide.fn mf:=trivial
 have hb2:b2<W.heap.size:=(Array.getElem?_eq_some_iff.1 h2).1
 have hid:∀ k:Nat,k<9→∀ w,(Instr.index 295 (psV t.parts) (.int .i64 (k:Int))).run Tryz.prog w=.ok (.int .u8 ((t.parts.getD k 0:Nat):Int)) w:=fun k hk w=>indexP ht.1 hk w
 have HD:Hid (∀ k:Nat,k<9→∀ w,(Instr.index 295 (psV t.parts) (.int .i64 (k:Int))).run Tryz.prog w=.ok (.int .u8 ((t.parts.getD k 0:Nat):Int)) w):=hid
 have HY:Hid (∀ pre (x:Nat) W1,J pre W1→W.heap.size≤W1.heap.size→pre++[x] <+: meant q t.parts→YieldAt Fence.wide (n - 1) Tryz.prog l #[.int .i64 (x:Int)] W1 fun e W'=>e=.returned (.bool true)∧J (pre++[x]) W'∧KpS [b1,b2] W1 W'):=hY
 have HP:Hid (∀ k,k<9→t.parts.getD k 0<256):=fun k hk=>getD_lt ht.1 ht.2 hk
 have HC2:Hid (W.heap[b2]?=some (.cells #[fnV mf] 299 (0,0))):=h2
 clear hid hY h2
 obtain ⟨s,ps,z⟩:=t
 obtain ⟨PS,hPS⟩:∃ PS,PS=ps:=⟨_,rfl⟩
 obtain ⟨V,hV⟩:∃ V,V=psV ps:=⟨_,rfl⟩
 have c1:=blk_cell h1 1
 have c2:=blk_cell h1 2
 have c3:=blk_cell h1 3
 have c4:=blk_cell h1 4
 have c5:=blk_cell h1 5
 have c6:=blk_cell h1 6
 have c7:=blk_cell h1 7
 have c8:=blk_cell h1 8
 have c9:=blk_cell h1 9
 obtain ⟨p0,p1,p2,p3,p4,p5,p6,p7,p8,hnine⟩:=nine ht.1
 rw [← hPS] at HD HY HP ⊢
 change Hid (∀ k:Nat,k<9→∀ w,(Instr.index 295 (psV PS) (.int .i64 (k:Int))).run Tryz.prog w=.ok (.int .u8 ((PS.getD k 0:Nat):Int)) w) at HD
 have hnine':ps=[p0,p1,p2,p3,p4,p5,p6,p7,p8]:=hnine
 have hV2:psV PS=.agg #[.int .u8 (p0:Int),.int .u8 (p1:Int),.int .u8 (p2:Int),.int .u8 (p3:Int),.int .u8 (p4:Int),.int .u8 (p5:Int),.int .u8 (p6:Int),.int .u8 (p7:Int),.int .u8 (p8:Int)]:=by rw [hPS,hnine'];rfl
 rw [hV2] at HD
 subst hnine'
 simp [txC] at c1 c2 c3 c4 c5 c6 c7 c8 c9
 clear hPS hV hV2 h1 ht hnine
 refine callsIn_of_wp Tryz.func310 rfl trivial ?_ hro
 simp only [Tryz.ntmps310,List.size_toArray,List.length_cons,List.length_nil,Nat.reduceAdd,Nat.reduceSub,Array.replicate_succ,Array.replicate_zero,List.push_toArray,List.append_toArray,List.nil_append,List.cons_append]
 gi_wp2
 clear c1 c2 c3 c4 c5 c6 c7 c8 c9
 gi_loopw [8] (fun i wr=>∃ k:Nat,k≤9∧i=.int .i64 k∧Hid (J (meantTo q PS k) wr∧KpS [b2] W wr)) (fun i _=>9 - (intOf i).toNat)
 case atStart=>exact ⟨0,Nat.zero_le _,rfl,h0,KpS.refl _⟩
 case round =>
  obtain ⟨k,hk,rfl,hQ⟩:=hrel
  by_cases hlt:k<9
  ·have i9:(k:Int)<9:=by omega
   have hidx:=HD.out k hlt
   have hmk:=(callsIn_wide (n:=n - 1)).2 (hm (PS.getD k 0) wr (HP.out k hlt))
   have hbg:=(hQ.out.2.same b2 (by simp) hb2).trans HC2.out
   have d2:=blk_cell hbg 0
   simp at d2
   obtain ⟨P,hP⟩:∃ P,P=PS.getD k 0:=⟨_,rfl⟩
   rw [← hP] at hidx hmk
   cases hq:q P with
   | true =>
    have hsn:=meantTo_yes (q:=q) (ps:=PS) (k:=k) (by rw [← hP];exact hq)
    obtain ⟨fn,tmps,assign,body,hy,hRR⟩:=HY.out _ k wr hQ.out.1 hQ.out.2.size (by rw [← hsn];exact meantTo_pre (by omega))
    rw [hq] at hmk
    have HS:Hid (meantTo q PS (k+1)=meantTo q PS k++[k]):=hsn
    clear hP hsn hbg
    unfold Enters at hen
    gi_wp2_with fail
    refine hmk.mono ?_
    rintro e w2 ⟨rfl,rfl⟩
    gi_wp2
    refine hRR.mono ?_
    rintro e W3 ⟨rfl,hJ3,hk3⟩
    have HN:Hid (J (meantTo q PS (k+1)) W3∧KpS [b2] W W3):=⟨by rw [HS.out];exact hJ3,hQ.out.2.trans ⟨hk3.size,fun j hj=>hk3.same j (by simp at hj ⊢;exact .inr hj)⟩⟩
    clear hJ3 hk3
    gi_wp2
    go_roundw
    case rel=>exact ⟨k+1,by omega,by simp,HN.out⟩
    case measure=>simp [intOf];omega
   | false =>
    have HS:Hid (meantTo q PS (k+1)=meantTo q PS k):=meantTo_no (by rw [← hP];exact hq)
    rw [hq] at hmk
    clear hP hbg
    unfold Enters at hen
    have hsem:=@Oper.semAt_some
    gi_wp2_with fail
    refine hmk.mono ?_
    rintro e w2 ⟨rfl,rfl⟩
    gi_wp2
    refine ⟨fun f hf=>(by cases hf),?_⟩
    gi_wp2
    go_roundw
    case rel=>exact ⟨k+1,by omega,by simp,by rw [HS.out];exact hQ.out.1,hQ.out.2⟩
    case measure=>simp [intOf];omega
  ·obtain rfl:k=9:=by omega
   gi_wp2
   go_end0
   exact ⟨⟨_,rfl⟩,hQ.out.1⟩
theorem shards1P (n:Nat) (hn:2≤n) (l b1 b2 mf:Nat) (q:Nat→Bool) (hm:Means mf q) (hen:Enters mf) (t:ATx) (ht:t.Ok) (W:World) (h1:W.heap[b1]?=some (.cells (txC t).toArray 297 (0,0))) (h2:W.heap[b2]?=some (.cells #[fnV mf] 299 (0,0))) :
  SeqQ Fence.wide n Tryz.prog 310 #[.pointer (some ⟨b1,0,none⟩),.pointer (some ⟨b2,0,none⟩)] (fun x:Nat=>#[.int .i64 (x:Int)]) (meant q t.parts) [b1,b2] l W:=fun J hY h0 =>
 shards1_in n hn l b1 b2 mf q hm hen t ht W h1 h2 J hY h0
theorem Tryz.infoRes:(Tryz.prog.info? 216).map (fun i=>(i.zero,i.size,i.bytes))=some (some (.agg #[.int .u64 0,.int .i64 0]),2,16):=by kernel_rfl
theorem Tryz.infoDue:(Tryz.prog.info? 212).map (fun i=>(i.zero,i.size,i.bytes))=some (some (.agg #[.int .u64 0,.int .i64 0,.int .i64 0]),3,24):=by kernel_rfl
section
variable {w W0 w1:World} {B cp lg bT n:Nat} {c:ACo} {rv ov v':Value}
theorem CoIn.res (h:CoIn w B cp lg bT n c) (h1:w.heap[cp]?=some (coO lg bT c rv ov)) (h2:w.ownsRow B 216 2 rv c.res.length (resV c.res)) (h3:w.ownsRow B 212 3 ov c.out.length (dueV c.out)) (h4:Brd rv c.res.length n) (h5:Brd ov c.out.length n) (x:Nat × Nat) (hf0:Fr [] w W0) (hg:W0.grownBy w1 rv.ownBlock) (ho:w1.ownsRow B 216 2 v' (c.res.length+1) (resV c.res++resC x)) (hat:∀ g,v'.ownBlock=some g→rv.ownBlock=some g∨w.heap.size≤g) :
  CoIn (w1.setCell ⟨cp,5,none⟩ v') B cp lg bT (n+1) { c with res:=c.res++[x] }∧RFr cp [cp] w (w1.setCell ⟨cp,5,none⟩ v'):=by
 obtain ⟨W,hW⟩:∃ W,W=w1.setCell ⟨cp,5,none⟩ v':=⟨_,rfl⟩
 rw [← hW]
 have hcl:=h.lts
 have nrow:rv.ownBlock≠some cp:=own_ne h2 h1 (by decide)
 have hb1:w1.heap[cp]?=some (coO lg bT c rv ov):=((Fr.of_grown hg).block cp (by have:=hf0.size;omega) (by simp;exact nrow)).trans ((hf0.block cp hcl.1 (by simp)).trans h1)
 have hfw:Fr [cp] w1 W:=by rw [hW];exact Fr.set1 (by simp) _ _
 have hf:Fr (cp :: rv.ownBlock.toList) w W:=((hf0.mono (by simp)).andThen ((Fr.of_grown hg).mono (fun k _ hk=>List.mem_cons_of_mem cp hk)) (fun j hj _=>hj)).andThen (hfw.mono (fun k _ hk=>by simp at hk;simp [hk])) (fun j hj _=>hj)
 have hb:W.heap[cp]?=some (coO lg bT c v' ov):=by
  rw [hW]
  have:=blk_set hb1 5 v'
  simpa using this
 have hr:W.ownsRow B 216 2 v' (c.res.length+1) (resV c.res++resC x):=ownsRow_fr ho hfw (fun g hg=>by simp;intro e;subst e;exact own_ne ho hb1 (by decide) hg)
 have inS:∀ {g:Nat},g∈cp :: rv.ownBlock.toList→g=cp∨∃ cc,w.heap[g]?=some (.cells cc 216 (0,0)):=fun {g} hm=>by
  rcases List.mem_cons.1 hm with e | e
  ·exact .inl e
  ·simp at e;exact .inr (own_cells h2 e)
 refine ⟨⟨⟨v',ov,hb,by rw [resV_app,List.length_append];exact hr,ownsRow_fr h3 hf (fun g hg hm=>?_),⟨by rw [List.length_append];show c.res.length+1≤_;have:=h4.1;omega,fun e=>by simp at e⟩,h5.mono (by omega)⟩,(h.txns.fr hf (fun hm=>?_)).mono (by omega),⟨h.low.1,h.low.2.1,Nat.le_trans h.low.2.2 hf.size⟩,h.nums⟩,⟨Fr.mono hf (fun k _ hk=>?_),fun k hk hm=>?_⟩⟩
 ·obtain ⟨cc,hc⟩:=own_cells h3 hg
  rcases inS hm with e | ⟨cc2,e⟩
  ·rw [e,h1] at hc;cases hc
  ·rw [e] at hc;cases hc
 ·obtain ⟨es,cc,hm2⟩:=h.txns.isMap
  rcases inS hm with e | ⟨cc2,e⟩
  ·exact hcl.2.2 e.symm
  ·rw [e] at hm2;cases hm2
 ·rcases List.mem_cons.1 hk with e | e
  ·simp [e]
  ·simp at e
   exact List.mem_append_right _ (by unfold rd rdO;rw [h1];simp [e])
 ·unfold rd rdO at hm ⊢
  rw [hb] at hm
  rw [h1]
  simp at hm ⊢
  rcases hm with hm | hm
  ·rcases hat k hm with e | e
   ·exact .inl e
   ·omega
  ·exact .inr hm
theorem CoIn.due (h:CoIn w B cp lg bT n c) (h1:w.heap[cp]?=some (coO lg bT c rv ov)) (h2:w.ownsRow B 216 2 rv c.res.length (resV c.res)) (h3:w.ownsRow B 212 3 ov c.out.length (dueV c.out)) (h4:Brd rv c.res.length n) (h5:Brd ov c.out.length n) (x:Nat × Nat × Nat) (hf0:Fr [] w W0) (hg:W0.grownBy w1 ov.ownBlock) (ho:w1.ownsRow B 212 3 v' (c.out.length+1) (dueV c.out++dueC x)) (hat:∀ g,v'.ownBlock=some g→ov.ownBlock=some g∨w.heap.size≤g) :
  CoIn (w1.setCell ⟨cp,6,none⟩ v') B cp lg bT (n+1) { c with out:=c.out++[x] }∧RFr cp [cp] w (w1.setCell ⟨cp,6,none⟩ v'):=by
 obtain ⟨W,hW⟩:∃ W,W=w1.setCell ⟨cp,6,none⟩ v':=⟨_,rfl⟩
 rw [← hW]
 have hcl:=h.lts
 have nrow:ov.ownBlock≠some cp:=own_ne h3 h1 (by decide)
 have hb1:w1.heap[cp]?=some (coO lg bT c rv ov):=((Fr.of_grown hg).block cp (by have:=hf0.size;omega) (by simp;exact nrow)).trans ((hf0.block cp hcl.1 (by simp)).trans h1)
 have hfw:Fr [cp] w1 W:=by rw [hW];exact Fr.set1 (by simp) _ _
 have hf:Fr (cp :: ov.ownBlock.toList) w W:=((hf0.mono (by simp)).andThen ((Fr.of_grown hg).mono (fun k _ hk=>List.mem_cons_of_mem cp hk)) (fun j hj _=>hj)).andThen (hfw.mono (fun k _ hk=>by simp at hk;simp [hk])) (fun j hj _=>hj)
 have hb:W.heap[cp]?=some (coO lg bT c rv v'):=by
  rw [hW]
  have:=blk_set hb1 6 v'
  simpa using this
 have hr:W.ownsRow B 212 3 v' (c.out.length+1) (dueV c.out++dueC x):=ownsRow_fr ho hfw (fun g hg=>by simp;intro e;subst e;exact own_ne ho hb1 (by decide) hg)
 have inS:∀ {g:Nat},g∈cp :: ov.ownBlock.toList→g=cp∨∃ cc,w.heap[g]?=some (.cells cc 212 (0,0)):=fun {g} hm=>by
  rcases List.mem_cons.1 hm with e | e
  ·exact .inl e
  ·simp at e;exact .inr (own_cells h3 e)
 refine ⟨⟨⟨rv,v',hb,ownsRow_fr h2 hf (fun g hg hm=>?_),by rw [dueV_app,List.length_append];exact hr,h4.mono (by omega),⟨by rw [List.length_append];show c.out.length+1≤_;have:=h5.1;omega,fun e=>by simp at e⟩⟩,(h.txns.fr hf (fun hm=>?_)).mono (by omega),⟨h.low.1,h.low.2.1,Nat.le_trans h.low.2.2 hf.size⟩,h.nums⟩,⟨Fr.mono hf (fun k _ hk=>?_),fun k hk hm=>?_⟩⟩
 ·obtain ⟨cc,hc⟩:=own_cells h2 hg
  rcases inS hm with e | ⟨cc2,e⟩
  ·rw [e,h1] at hc;cases hc
  ·rw [e] at hc;cases hc
 ·obtain ⟨es,cc,hm2⟩:=h.txns.isMap
  rcases inS hm with e | ⟨cc2,e⟩
  ·exact hcl.2.2 e.symm
  ·rw [e] at hm2;cases hm2
 ·rcases List.mem_cons.1 hk with e | e
  ·simp [e]
  ·simp at e
   exact List.mem_append_right _ (by unfold rd rdO;rw [h1];simp [e])
 ·unfold rd rdO at hm ⊢
  rw [hb] at hm
  rw [h1]
  simp at hm ⊢
  rcases hm with hm | hm
  ·exact .inl hm
  ·rcases hat k hm with e | e
   ·exact .inr e
   ·omega
end
set_option maxRecDepth 100000 in
set_option maxHeartbeats 2000000 in
theorem became_any (B cp lg bT n t x:Nat) (c:ACo) (w:World) (h:CoIn w B cp lg bT n c) (hn:n<67108864) :
  Calls Tryz.prog 268 #[.pointer (some ⟨cp,0,none⟩),.int .u64 (t:Int),.int .i64 (x:Int)] w fun e w'=>e=.returned (.tuple #[])∧CoIn w' B cp lg bT (n+1) { c with res:=c.res++[(t,x)] }∧RFr cp [cp] w w':=by
 obtain ⟨i0,hi,hz0,hz1,hz2⟩:=info_parts Tryz.infoRes
 obtain ⟨rv,ov,h1,h2,h3,h4,h5⟩:=h.ex
 have h41:=h4.1
 have HB4:=toHid (And.intro h4 h5)
 clear h4 h5
 have c5:=blk_cell h1 5
 simp at c5
 have hcl:=h.lts
 have nrow:rv.ownBlock≠some cp:=own_ne h2 h1 (by decide)
 have HI:Hid (CoIn w B cp lg bT n c∧w.heap[cp]?=some (coO lg bT c rv ov)∧w.ownsRow B 216 2 rv c.res.length (resV c.res)∧w.ownsRow B 212 3 ov c.out.length (dueV c.out)):=⟨h,h1,h2,h3⟩
 have hlow:=h.low
 clear h h1 h3
 go_enter Tryz.func268,Tryz.ntmps268
 go_wp2_with (at_builtin;refine wpList_app rfl _ _ 138 rfl B 216 i0 _ 2 16 Tryz.underlying138 hi hz0 hz1 hz2 rfl (by decide) rv c.res.length (resV c.res) rfl (h2.alloc _) 1 [.int .u64 (t:Int),.int .i64 (x:Int)] (.inl ⟨⟨w.heap.size,0,none⟩,1,rfl,cells_new _ #[.int .u64 (t:Int),.int .i64 (x:Int)] _⟩) rfl (by intro u hu;simp at hu;rcases hu with rfl | rfl <;> rfl) (by unfold maxLen;omega) (by omega) (by simp;omega) ?_)
 intro v' w1 hown' hgrow hat0
 obtain ⟨av,mv,cv,rfl⟩:=own_sl hown'
 have hfa:Fr [] w (w.alloc (.cells #[.int .u64 (t:Int),.int .i64 (x:Int)] 216)):=(Fr.refl [] w).alloc _
 have hb1:w1.heap[cp]?=some (coO lg bT c rv ov):=((Fr.of_grown hgrow).block cp (by simp;omega) (by simp;exact nrow)).trans ((hfa.block cp hcl.1 (by simp)).trans HI.out.2.1)
 have d5:=blk_cell hb1 5
 have f5:=blk_free hb1 5
 simp at d5
 have HN:Hid (CoIn (w1.setCell ⟨cp,5,none⟩ (.slice av mv cv)) B cp lg bT (n+1) { c with res:=c.res++[(t,x)] }∧RFr cp [cp] w (w1.setCell ⟨cp,5,none⟩ (.slice av mv cv))):=HI.out.1.res HI.out.2.1 HI.out.2.2.1 HI.out.2.2.2 HB4.out.1 HB4.out.2 (t,x) hfa hgrow hown' (fun g hg=>hat0.elim (fun e=>.inl (e▸hg)) (fun e=>.inr (by rw [e] at hg;cases hg;simp)))
 clear hown' hgrow hb1 hfa
 go_wp2
 go_end0
 exact ⟨rfl,HN.out⟩
end Go.Proofs.YtejiankgafjppaaGreatDoor
