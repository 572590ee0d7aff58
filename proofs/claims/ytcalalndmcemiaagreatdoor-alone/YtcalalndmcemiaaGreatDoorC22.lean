import Derived.Test.YtcalalndmcemiaaGreatDoorC21
set_option maxRecDepth 100000
set_option maxHeartbeats 16000000
namespace Go.Proofs.YtcalalndmcemiaaGreatDoor
open Go.RowKit Go.Maps
open Sc
def jJe (q:Nat→Bool) (ps:List Nat):Int:=if ps.any q then (ps.findIdx q:Int) else -1
theorem jUb {q:Nat→Bool} {ps:List Nat} (h:ps.length=9):ps.any q=false↔∀ k,k<9→q (ps.getD k 0)=false:=by
 rw [List.any_eq_false]
 constructor
 ·intro hx k hk
  have e:ps.getD k 0=ps[k]' oE:=by simp [h,hk]
  rw [e]
  simpa using hx _ (List.getElem_mem oE)
 ·intro hx x hm
  obtain ⟨k,hk,rfl⟩:=List.mem_iff_getElem.1 hm
  have:=hx k oE
  have e:ps.getD k 0=ps[k]:=by simp [hk]
  rw [e] at this
  simp [this]
theorem jJl {q:Nat→Bool} {ps:List Nat} (h:ps.length=9) {k:Nat} (hk:k<9) (h1:q (ps.getD k 0)=true) (h0:∀ j,j<k→q (ps.getD j 0)=false):jJe q ps=(k:Int):=by
 have e:∀ j,(hj:j<ps.length)→ps.getD j 0=ps[j]:=λj hj=>by simp [hj]
 have ha:ps.any q=true:=by
  rw [List.any_eq_true]
  exact ⟨ps[k]' oE,List.getElem_mem oE,by rw [← e k oE];exact h1⟩
 unfold jJe
 rw [if_pos ha]
 congr 1
 rw [List.findIdx_eq oE]
 exact ⟨by rw [← e k oE];exact h1,λj hj=>by rw [← e j oE];exact h0 j hj⟩
abbrev fnV (mf:Nat):Value:=.func (.func mf) #[] #[]
def jBs (mf:Nat):Prop:=∀ args w,(callFunc mf args).run Tryz.prog w=.ok (.enter mf args) w
theorem jWo (mf:Nat) (q:Nat→Bool) (hm:jHf mf q) (hen:jBs mf) (b:Nat) (ps:List Nat) (hl:ps.length=9) (hp:∀ p∈ps,p<256) (w:World) (hc:∀ k,k<9→w.cell? ⟨b,1+k,none⟩=some (.int .u8 ((ps.getD k 0:Nat):Int))) :
  Calls Tryz.prog 338 #[.slice (some ⟨b,1,none⟩) 9 9,fnV mf] w λe w'=>e=.returned (.int .i64 (jJe q ps))∧w'=w:=by
 have HC:Hid (∀ k,k<9→w.cell? ⟨b,1+k,none⟩=some (.int .u8 ((ps.getD k 0:Nat):Int))):=hc
 clear hc
 go_enter Tryz.func338,Tryz.ntmps338
 go_wp2
 go_loopw [8] (λi wr=>∃ k:Nat,k≤9∧i=.int .i64 k∧wr=w∧Hid (∀ j,j<k→q (ps.getD j 0)=false)) (λi _=>9 - (intOf i).toNat)
 case atStart=>exact ⟨0,Nat.zero_le _,rfl,rfl,λj hj=>by omega⟩
 case round =>
  obtain ⟨k,hk,rfl,rfl,H⟩:=hrel
  by_cases hlt:k<9
  ·have i9:(k:Int)<9:=by omega
   have i0:(0:Int)≤(k:Int):=by omega
   have ck:=HC.out k hlt
   have hmk:=hm (ps.getD k 0) wr (by
    by_cases hx:ps.getD k 0∈ps
    ·exact hp _ hx
    ·exact absurd (by simp [hl,hlt]:ps.getD k 0∈ps) hx)
   obtain ⟨P,hP⟩:∃ P,P=ps.getD k 0:=⟨_,rfl⟩
   rw [← hP] at ck hmk
   have HP:Hid (P=ps.getD k 0):=hP
   clear hP
   unfold jBs at hen
   go_wp2_with fail
   refine hmk.mono ?_
   rintro e w2 ⟨rfl,rfl⟩
   cases hq:q P with
   | true =>
    go_wp2
    go_ret
    exact ⟨by rw [jJl hl hlt (by rw [← HP.out];exact hq) H.out];rfl,rfl⟩
   | false =>
    go_wp2
    go_roundw
    case rel=>exact ⟨k+1,by omega,by simp,by simp,λj hj=>by
     by_cases e:j=k
     ·rw [e,← HP.out];exact hq
     ·exact H.out j oE⟩
    case measure=>simp [intOf];omega
  ·obtain rfl:k=9:=by omega
   go_wp2
   go_ret
   refine ⟨?_,rfl⟩
   unfold jJe
   rw [if_neg (by rw [(jUb hl).2 H.out];decide)]
   rfl
theorem jJp (mf:Nat) (q:Nat→Bool) (hm:jHf mf q) (hen:jBs mf) (b:Nat) (ps:List Nat) (hl:ps.length=9) (hp:∀ p∈ps,p<256) (w:World) (hc:∀ k,k<9→w.cell? ⟨b,1+k,none⟩=some (.int .u8 ((ps.getD k 0:Nat):Int))) :
  Calls Tryz.prog 314 #[.slice (some ⟨b,1,none⟩) 9 9,fnV mf] w λe w'=>e=.returned (.bool (ps.any q))∧w'=w:=by
 have hi:=jWo mf q hm hen b ps hl hp w hc
 clear hc hp hm hen
 by_cases h:ps.any q=true
 ·have e:jJe q ps=(ps.findIdx q:Int):=by unfold jJe;rw [if_pos h]
  rw [e] at hi
  rw [h]
  clear e h
  have i0:(0:Int)≤(ps.findIdx q:Int):=by omega
  obtain ⟨I,hI⟩:∃ I:Int,I=(ps.findIdx q:Int):=⟨_,rfl⟩
  rw [← hI] at hi i0
  clear hI
  go_enter Tryz.func314,Tryz.ntmps314
  go_wp2_with fail
  refine hi.mono ?_
  rintro e w2 ⟨rfl,rfl⟩
  go_wp2
  go_ret
  exact ⟨by simp,rfl⟩
 ·have e:jJe q ps=-1:=by unfold jJe;rw [if_neg h]
  rw [e] at hi
  have hf:ps.any q=false:=by simpa using h
  rw [hf]
  clear e h hf
  go_enter Tryz.func314,Tryz.ntmps314
  go_wp2_with fail
  refine hi.mono ?_
  rintro e w2 ⟨rfl,rfl⟩
  go_wp2
  go_ret
  exact ⟨rfl,rfl⟩
theorem jUd {w:World} {b:Nat} {t:ATx} (h:w.heap[b]?=some (.cells (txC t).toArray 128 (0,0))) (ht:t.Ok):∀ k,k<9→w.cell? ⟨b,1+k,none⟩=some (.int .u8 ((t.parts.getD k 0:Nat):Int)):=by
 intro k hk
 have:=jA0 h (1+k)
 rw [this]
 obtain ⟨s,ps,z⟩:=t
 obtain ⟨p0,p1,p2,p3,p4,p5,p6,p7,p8,rfl⟩:=nine ht.1
 rcases jMs hk with rfl | rfl | rfl | rfl | rfl | rfl | rfl | rfl | rfl <;> rfl
theorem jFb (mf:Nat) (q:Nat→Bool) (hm:jHf mf q) (hen:jBs mf) (t:ATx) (ht:t.Ok) (w:World) :
  Calls Tryz.prog 281 #[txV t,fnV mf] w λe w'=>e=.returned (.bool (t.parts.any q))∧Fr [] w w':=by
 obtain ⟨W,hW⟩:∃ W,W=w.alloc (.cells (txC t).toArray 128):=⟨_,rfl⟩
 have hb:W.heap[w.heap.size]?=some (.cells (txC t).toArray 128 (0,0)):=by rw [hW];exact heap_alloc_new w _
 have hi:=jJp mf q hm hen w.heap.size t.parts ht.1 ht.2 W (jUd hb ht)
 have HF:Hid (Fr [] w W):=by rw [hW];exact (Fr.refl [] w).alloc _
 clear hm hen hb
 obtain ⟨A,hA⟩:∃ A,A=t.parts.any q:=⟨_,rfl⟩
 rw [← hA] at hi ⊢
 clear hA
 obtain ⟨s,ps,z⟩:=t
 obtain ⟨p0,p1,p2,p3,p4,p5,p6,p7,p8,rfl⟩:=nine ht.1
 rw [jAl]
 go_enter Tryz.func281,Tryz.ntmps281
 go_wp2_with fail
 have hW2:W=w.alloc (.cells #[.int .i64 (s:Int),.int .u8 (p0:Int),.int .u8 (p1:Int),.int .u8 (p2:Int),.int .u8 (p3:Int),.int .u8 (p4:Int),.int .u8 (p5:Int),.int .u8 (p6:Int),.int .u8 (p7:Int),.int .u8 (p8:Int),.int .u64 (z:Int),.nilIface] 128):=hW
 rw [← hW2]
 clear hW hW2
 refine hi.mono ?_
 rintro e w2 ⟨rfl,rfl⟩
 go_wp2
 go_ret
 exact ⟨rfl,HF.out⟩
end Go.Proofs.YtcalalndmcemiaaGreatDoor
set_option maxRecDepth 100000
set_option maxHeartbeats 16000000
namespace Go.Proofs.YtcalalndmcemiaaGreatDoor
open Go.RowKit Go.Shelf
open Sc
def SeqQ {α:Type} (F:Fence) (n:Nat) (P:Program) (gf:Nat) (lb:Array Value) (encs:α→Array Value) (rs:List α) (S:List Nat) (l:Nat) (W:World):Prop :=
 ∀ J:List α→World→Prop,
  (∀ pre x W1,J pre W1→W.heap.size≤W1.heap.size→pre++[x] <+: rs→YieldAt F (n - 1) P l (encs x) W1 λe W'=>e=.returned (.bool true)∧J (pre++[x]) W'∧KpS S W1 W') →
  J [] W→CallsIn F n P gf (#[.func (.yield l) #[] #[]]++lb) W λe W'=>(∃ v,e=.returned v)∧J rs W'
section
variable {F:Fence} {n:Nat} {P:Program}
theorem jFv {α:Type} {g:Operand} {ps:Array Tmp} {assign body:Code} {Q:Exit→Act→World→Prop} {a:Act} {w:World}
  (hro:F.round=none) (h1:1≤n) {gf:Nat} {lb:Array Value} (hg:a.eval g=.func (.func gf) #[] lb) (hFg:F.fn gf) (eg:∀ args w,(callFunc gf args).run P w=.ok (.enter gf args) w)
  {encs:α→Array Value} {rs:List α} {S:List Nat} (hps:∀ x,(encs x).size=ps.size) (hS:∀ k∈S,k<w.heap.size)
  (hseq:∀ W1,Below w.heap.size w W1→W1.heap.size=w.heap.size+2→SeqQ F (n - 1) P gf lb encs rs S (w.heap.size+1) W1)
  (I:List α→World→Prop) (hI0:∀ W1,Below w.heap.size w W1→I [] W1) (hIl:∀ s A r,I s A→w.heap.size+2≤A.heap.size→(∃ r0,A.heap[w.heap.size+1]?=some (.loop r0))→I s (A.putObj (w.heap.size+1) (.loop r)))
  (Ax:α→Act→World→Prop) (hAx:∀ x a' A r,Ax x a' A→Ax x a' (A.putObj (w.heap.size+1) (.loop r)))
  (hassign:∀ (pre:List α) (x:α) (W:World) (K:Act→World→Prop),I pre W→w.heap.size+2≤W.heap.size→pre++[x] <+: rs→(∀ a' W',I pre W'→KpS (w.heap.size :: (w.heap.size+1) :: S) W W'→Ax x a' W'→K a' W') →
   assign.wpIn (F.inRound (w.heap.size+1)) (n - 1 - 1) P (Exit.then K (λ_ _ _=>False)) { tmps:=(ps.zip (encs x)).foldl (λt (p,v)=>t.setIfInBounds p v) a.tmps,defers:=[] } W)
  (hbody:∀ (pre:List α) (x:α) (a':Act) (W:World),I pre W→w.heap.size+2≤W.heap.size→Ax x a' W→pre++[x] <+: rs→W.heap[w.heap.size]?=some (.deferred (some []))→(∃ r,W.heap[w.heap.size+1]?=some (.loop r))→body.wpIn (F.inRound (w.heap.size+1)) (n - 1 - 1) P (λe _ W'=>e=.normal∧I (pre++[x]) W'∧KpS (w.heap.size :: (w.heap.size+1) :: S) W W') a' W)
  (hdone:∀ (W:World),I rs W→w.heap.size+2≤W.heap.size→W.heap[w.heap.size]?=some (.deferred (some []))→Q .normal { a with defers:={ target:=.collected w.heap.size,args:=#[] } :: a.defers } W) :
  (Code.rangeFunc g ps assign body).wpIn F n P Q a w:=by
 refine wpIn_rangeFunc λfn hfn=>?_
 rw [hro]
 obtain ⟨L,hL⟩:∃ L:LoopState→Loop,L=λst=>{ state:=st,pending:=none,fn,tmps:=a.tmps,params:=ps,assign,body,defers:=w.heap.size }:=⟨_,rfl⟩
 obtain ⟨W1,hW1⟩:∃ W1,W1=(w.alloc (.deferred (some []))).alloc (.loop (L .ready)):=⟨_,rfl⟩
 have hb1:Below w.heap.size w W1:=by rw [hW1];exact ((Below.refl _ w).alloc (Nat.le_refl _) _).alloc sE _
 have hs1:W1.heap.size=w.heap.size+2:=by rw [hW1];simp
 have hl1:W1.heap[w.heap.size+1]?=some (.loop (L .ready)):=by
  rw [hW1];have:=World.alloc_heap_new (w.alloc (.deferred (some []))) (.loop (L .ready));rwa [World.size_alloc] at this
 have hd1:W1.heap[w.heap.size]?=some (.deferred (some [])):=by
  rw [hW1];exact (Below.heap_alloc _ _ _ sE).trans (World.alloc_heap_new w _)
 refine ⟨w.heap.size+1,[{ target:=.collected w.heap.size,args:=#[] }],W1,{ target:=.fn (.func gf) lb,args:=#[.func (.yield (w.heap.size+1)) #[] #[]] },W1,gf,#[.func (.yield (w.heap.size+1)) #[] #[]]++lb,W1,?_,?_,?_,?_,λ_=>h1,?_⟩
 ·rw [hW1,hL];exact run_enterLoop_outer _ _ _ _ _
 ·simp only [resolve,hg];simp [go_sem]
 ·intro f' hf';simp [Target.leads] at hf';subst hf';exact hFg
 ·simp [invoke,go_sem,eg]
 refine (hseq W1 hb1 hs1 (λs A=>I s A∧A.heap[w.heap.size+1]?=some (.loop (L .ready))∧A.heap[w.heap.size]?=some (.deferred (some []))∧w.heap.size+2≤A.heap.size) ?_ ⟨hI0 W1 hb1,hl1,hd1,by omega⟩).mono ?_
 ·rintro pre x W ⟨i1,i2,i3,i4⟩ _ hpre
  have hy:=run_yield (P:=P) (args:=encs x) i2 (by rw [hL];exact hps x)
  rw [hL] at hy
  refine ⟨fn,_,assign,body,hy,roundIn_of_wpIn hfn (hassign pre x W _ i1 i4 hpre λa' Wa ia ka xa=>?_)⟩
  have la:Wa.heap[w.heap.size+1]?=some (.loop (L .ready)):=(ka.same _ sE oE).trans i2
  have da:Wa.heap[w.heap.size]?=some (.deferred (some [])):=(ka.same _ sE oE).trans i3
  have lta:w.heap.size+1<Wa.heap.size:=(Array.getElem?_eq_some_iff.1 la).1
  obtain ⟨Wb,hWb⟩:∃ Wb,Wb=Wa.putObj (w.heap.size+1) (.loop (L .busy)):=⟨_,rfl⟩
  have lb':Wb.heap[w.heap.size+1]?=some (.loop (L .busy)):=by rw [hWb];exact World.putObj_heap_same lta
  have db:Wb.heap[w.heap.size]?=some (.deferred (some [])):=by rw [hWb];exact (World.putObj_heap_other oE).trans da
  have sb:Wb.heap.size=Wa.heap.size:=by rw [hWb];simp
  refine ⟨Wb,by rw [hWb];have:=run_beginRound (P:=P) la (by rw [hL]);rw [hL] at this ⊢;exact this,?_⟩
  refine wpIn_mono (hbody pre x a' Wb (by rw [hWb];exact hIl _ _ _ ia (by have:=ka.size;omega) ⟨_,la⟩) (by rw [sb];omega) (by rw [hWb];exact hAx _ _ _ _ xa) hpre db ⟨_,lb'⟩) ?_
  rintro e a3 W3 ⟨rfl,i3',k3⟩
  have l3:W3.heap[w.heap.size+1]?=some (.loop (L .busy)):=(k3.same _ sE oE).trans lb'
  have d3:W3.heap[w.heap.size]?=some (.deferred (some [])):=(k3.same _ sE oE).trans db
  have lt3:w.heap.size+1<W3.heap.size:=(Array.getElem?_eq_some_iff.1 l3).1
  have hend:=run_endRound (P:=P) none l3
  refine ⟨_,_,hend,rfl,⟨hIl _ _ _ i3' (by have:=k3.size;have:=ka.size;omega) ⟨_,l3⟩,?_,(World.putObj_heap_other oE).trans d3,by rw [jAw];omega⟩,?_,?_⟩
  ·rw [World.putObj_heap_same lt3,hL];rfl
  ·rw [jAw];have:=ka.size;have:=k3.size;omega
  ·intro k hk hlt
   have hkw:=hS k hk
   rw [World.putObj_heap_other oE,k3.same k (by simp [hk]) (by have:=ka.size;omega),hWb,World.putObj_heap_other oE,ka.same k (by simp [hk]) hlt]
 ·rintro e W2 ⟨⟨v,rfl⟩,i1,i2,i3,i4⟩
  have hend:=run_endLoop (P:=P) i2 (by rw [hL];simp)
  have hp:(L .ready).pending=none:=by rw [hL]
  rw [hp] at hend
  refine ⟨none,_,hend,?_⟩
  exact hdone _ (hIl _ _ _ i1 i4 ⟨_,i2⟩) (by rw [jAw];exact i4) ((World.putObj_heap_other oE).trans i3)
end
end Go.Proofs.YtcalalndmcemiaaGreatDoor
set_option maxRecDepth 100000
set_option maxHeartbeats 16000000
namespace Go.Proofs.YtcalalndmcemiaaGreatDoor
open Go.RowKit Go.Maps Go.Shelf
open Sc
def jC8 (q:Nat→Bool) (ps:List Nat) (k:Nat):List Nat:=(List.range k).filter λj=>q (ps.getD j 0)
abbrev jB9 (q:Nat→Bool) (ps:List Nat):List Nat:=jC8 q ps 9
theorem jL2 {q:Nat→Bool} {ps:List Nat} {k:Nat} (h:q (ps.getD k 0)=true):jC8 q ps (k+1)=jC8 q ps k++[k]:=by
 unfold jC8
 rw [List.range_succ,List.filter_append]
 simp only [List.filter_cons,h,if_true,List.filter_nil]
theorem jP3 {q:Nat→Bool} {ps:List Nat} {k:Nat} (h:q (ps.getD k 0)=false):jC8 q ps (k+1)=jC8 q ps k:=by
 unfold jC8
 rw [List.range_succ,List.filter_append]
 simp only [List.filter_cons,h,List.filter_nil]
 simp
theorem jLw {q:Nat→Bool} {ps:List Nat}:∀ {k:Nat},k≤9→jC8 q ps k <+: jB9 q ps:=by
 intro k hk
 have:List.range k <+: List.range 9:=by
  rw [List.prefix_iff_eq_take]
  rw [List.take_range]
  simp [Nat.min_eq_left hk]
 exact this.filter _
theorem jV8 {ps:List Nat} (hl:ps.length=9) (hp:∀ p∈ps,p<256) {k:Nat} (hk:k<9):ps.getD k 0<256:=by
 have e:ps.getD k 0=ps[k]' oE:=by simp [hl,hk]
 rw [e]
 exact hp _ (List.getElem_mem _)
theorem jKd (n mf:Nat) (t:ATx) (ht:t.Ok) (w:World) :
  CallsIn Fence.wide n Tryz.prog 111 #[txV t,fnV mf] w λe w'=>e=.returned (.func (.func 154) #[] #[.pointer (some ⟨w.heap.size,0,none⟩),.pointer (some ⟨w.heap.size+1,0,none⟩)])∧w'=(w.alloc (.cells (txC t).toArray 128)).alloc (.cells #[fnV mf] 146):=by
 obtain ⟨s,ps,z⟩:=t
 obtain ⟨p0,p1,p2,p3,p4,p5,p6,p7,p8,rfl⟩:=nine ht.1
 rw [jAl]
 refine callsIn_of_wp Tryz.func111 rfl trivial ?_ rfl
 simp only [Tryz.ntmps111,List.size_toArray,List.length_cons,List.length_nil,Nat.reduceAdd,Nat.reduceSub,Array.replicate_succ,Array.replicate_zero,List.push_toArray,List.append_toArray,List.nil_append,List.cons_append]
 gi_wp2
 go_ret
 exact ⟨rfl,rfl⟩
theorem jO7 (n:Nat) (hn:2≤n) (l b1 b2 mf:Nat) (q:Nat→Bool) (hm:jHf mf q) (hen:jBs mf) (t:ATx) (ht:t.Ok) (W:World) (h1:W.heap[b1]?=some (.cells (txC t).toArray 128 (0,0))) (h2:W.heap[b2]?=some (.cells #[fnV mf] 146 (0,0)))
  (J:List Nat→World→Prop)
  (hY:∀ pre (x:Nat) W1,J pre W1→W.heap.size≤W1.heap.size→pre++[x] <+: jB9 q t.parts→YieldAt Fence.wide (n - 1) Tryz.prog l #[.int .i64 (x:Int)] W1 λe W'=>e=.returned (.bool true)∧J (pre++[x]) W'∧KpS [b1,b2] W1 W') (h0:J [] W) :
  CallsIn Fence.wide n Tryz.prog 154 #[.func (.yield l) #[] #[],.pointer (some ⟨b1,0,none⟩),.pointer (some ⟨b2,0,none⟩)] W λe W'=>(∃ v,e=.returned v)∧J (jB9 q t.parts) W':=by
 have hro:Fence.wide.round=none:=rfl
 have hg:1≤n:=by omega
 have hfm:Fence.wide.fn mf:=trivial
 have hb2:b2<W.heap.size:=(Array.getElem?_eq_some_iff.1 h2).1
 have hid:∀ k:Nat,k<9→∀ w,(Instr.index 126 (psV t.parts) (.int .i64 (k:Int))).run Tryz.prog w=.ok (.int .u8 ((t.parts.getD k 0:Nat):Int)) w:=λk hk w=>jXc ht.1 hk w
 have HD:Hid (∀ k:Nat,k<9→∀ w,(Instr.index 126 (psV t.parts) (.int .i64 (k:Int))).run Tryz.prog w=.ok (.int .u8 ((t.parts.getD k 0:Nat):Int)) w):=hid
 have HY:Hid (∀ pre (x:Nat) W1,J pre W1→W.heap.size≤W1.heap.size→pre++[x] <+: jB9 q t.parts→YieldAt Fence.wide (n - 1) Tryz.prog l #[.int .i64 (x:Int)] W1 λe W'=>e=.returned (.bool true)∧J (pre++[x]) W'∧KpS [b1,b2] W1 W'):=hY
 have HP:Hid (∀ k,k<9→t.parts.getD k 0<256):=λk hk=>jV8 ht.1 ht.2 hk
 have HC2:Hid (W.heap[b2]?=some (.cells #[fnV mf] 146 (0,0))):=h2
 clear hid hY h2
 obtain ⟨s,ps,z⟩:=t
 obtain ⟨PS,hPS⟩:∃ PS,PS=ps:=⟨_,rfl⟩
 obtain ⟨V,hV⟩:∃ V,V=psV ps:=⟨_,rfl⟩
 have c1:=jA0 h1 1
 have c2:=jA0 h1 2
 have c3:=jA0 h1 3
 have c4:=jA0 h1 4
 have c5:=jA0 h1 5
 have c6:=jA0 h1 6
 have c7:=jA0 h1 7
 have c8:=jA0 h1 8
 have c9:=jA0 h1 9
 obtain ⟨p0,p1,p2,p3,p4,p5,p6,p7,p8,hnine⟩:=nine ht.1
 rw [← hPS] at HD HY HP ⊢
 change Hid (∀ k:Nat,k<9→∀ w,(Instr.index 126 (psV PS) (.int .i64 (k:Int))).run Tryz.prog w=.ok (.int .u8 ((PS.getD k 0:Nat):Int)) w) at HD
 have hnine':ps=[p0,p1,p2,p3,p4,p5,p6,p7,p8]:=hnine
 have hV2:psV PS=.agg #[.int .u8 (p0:Int),.int .u8 (p1:Int),.int .u8 (p2:Int),.int .u8 (p3:Int),.int .u8 (p4:Int),.int .u8 (p5:Int),.int .u8 (p6:Int),.int .u8 (p7:Int),.int .u8 (p8:Int)]:=by rw [hPS,hnine'];rfl
 rw [hV2] at HD
 subst hnine'
 simp [txC] at c1 c2 c3 c4 c5 c6 c7 c8 c9
 clear hPS hV hV2 h1 ht hnine
 refine callsIn_of_wp Tryz.func154 rfl trivial ?_ hro
 simp only [Tryz.ntmps154,List.size_toArray,List.length_cons,List.length_nil,Nat.reduceAdd,Nat.reduceSub,Array.replicate_succ,Array.replicate_zero,List.push_toArray,List.append_toArray,List.nil_append,List.cons_append]
 gi_wp2
 clear c1 c2 c3 c4 c5 c6 c7 c8 c9
 gi_loopw [8] (λi wr=>∃ k:Nat,k≤9∧i=.int .i64 k∧Hid (J (jC8 q PS k) wr∧KpS [b2] W wr)) (λi _=>9 - (intOf i).toNat)
 case atStart=>exact ⟨0,Nat.zero_le _,rfl,h0,KpS.refl _⟩
 case round =>
  obtain ⟨k,hk,rfl,hQ⟩:=hrel
  by_cases hlt:k<9
  ·have i9:(k:Int)<9:=by omega
   have hidx:=HD.out k hlt
   have hmk:=(callsIn_wide (n:=n - 1)).2 (hm (PS.getD k 0) wr (HP.out k hlt))
   have hbg:=(hQ.out.2.same b2 sE hb2).trans HC2.out
   have d2:=jA0 hbg 0
   simp at d2
   obtain ⟨P,hP⟩:∃ P,P=PS.getD k 0:=⟨_,rfl⟩
   rw [← hP] at hidx hmk
   cases hq:q P with
   | true =>
    have hsn:=jL2 (q:=q) (ps:=PS) (k:=k) (by rw [← hP];exact hq)
    obtain ⟨fn,tmps,assign,body,hy,hRR⟩:=HY.out _ k wr hQ.out.1 hQ.out.2.size (by rw [← hsn];exact jLw oE)
    rw [hq] at hmk
    have HS:Hid (jC8 q PS (k+1)=jC8 q PS k++[k]):=hsn
    clear hP hsn hbg
    unfold jBs at hen
    gi_wp2_with fail
    refine hmk.mono ?_
    rintro e w2 ⟨rfl,rfl⟩
    gi_wp2
    refine hRR.mono ?_
    rintro e W3 ⟨rfl,hJ3,hk3⟩
    have HN:Hid (J (jC8 q PS (k+1)) W3∧KpS [b2] W W3):=⟨by rw [HS.out];exact hJ3,hQ.out.2.trans ⟨hk3.size,λj hj=>hk3.same j (by simp at hj ⊢;exact .inr hj)⟩⟩
    clear hJ3 hk3
    gi_wp2
    go_roundw
    case rel=>exact ⟨k+1,by omega,by simp,HN.out⟩
    case measure=>simp [intOf];omega
   | false =>
    have HS:Hid (jC8 q PS (k+1)=jC8 q PS k):=jP3 (by rw [← hP];exact hq)
    rw [hq] at hmk
    clear hP hbg
    unfold jBs at hen
    have hsem:=@Oper.semAt_some
    gi_wp2_with fail
    refine hmk.mono ?_
    rintro e w2 ⟨rfl,rfl⟩
    gi_wp2
    refine ⟨λf hf=>(by cases hf),?_⟩
    gi_wp2
    go_roundw
    case rel=>exact ⟨k+1,by omega,by simp,by rw [HS.out];exact hQ.out.1,hQ.out.2⟩
    case measure=>simp [intOf];omega
  ·obtain rfl:k=9:=by omega
   gi_wp2
   go_end0
   exact ⟨⟨_,rfl⟩,hQ.out.1⟩
theorem jNg (n:Nat) (hn:2≤n) (l b1 b2 mf:Nat) (q:Nat→Bool) (hm:jHf mf q) (hen:jBs mf) (t:ATx) (ht:t.Ok) (W:World) (h1:W.heap[b1]?=some (.cells (txC t).toArray 128 (0,0))) (h2:W.heap[b2]?=some (.cells #[fnV mf] 146 (0,0))) :
  SeqQ Fence.wide n Tryz.prog 154 #[.pointer (some ⟨b1,0,none⟩),.pointer (some ⟨b2,0,none⟩)] (λx:Nat=>#[.int .i64 (x:Int)]) (jB9 q t.parts) [b1,b2] l W:=λJ hY h0 =>
 jO7 n hn l b1 b2 mf q hm hen t ht W h1 h2 J hY h0
theorem Tryz.infoRes:(Tryz.prog.info? 157).map (λi=>(i.zero,i.size,i.bytes))=some (some (.agg #[.int .u64 0,.int .i64 0]),2,16):=by kernel_rfl
theorem Tryz.infoDue:(Tryz.prog.info? 207).map (λi=>(i.zero,i.size,i.bytes))=some (some (.agg #[.int .u64 0,.int .i64 0,.int .i64 0]),3,24):=by kernel_rfl
section
variable {w W0 w1:World} {B cp lg bT n:Nat} {c:ACo} {rv ov v':Value}
theorem CoIn.res (h:CoIn w B cp lg bT n c) (h1:w.heap[cp]?=some (coO lg bT c rv ov)) (h2:w.ownsRow B 157 2 rv c.res.length (resV c.res)) (h3:w.ownsRow B 207 3 ov c.out.length (dueV c.out)) (h4:Brd rv c.res.length n) (h5:Brd ov c.out.length n) (x:Nat × Nat) (hf0:Fr [] w W0) (hg:W0.grownBy w1 rv.ownBlock) (ho:w1.ownsRow B 157 2 v' (c.res.length+1) (resV c.res++resC x)) (hat:∀ g,v'.ownBlock=some g→rv.ownBlock=some g∨w.heap.size≤g) :
  CoIn (w1.setCell ⟨cp,5,none⟩ v') B cp lg bT (n+1) { c with res:=c.res++[x] }∧RFr cp [cp] w (w1.setCell ⟨cp,5,none⟩ v'):=by
 obtain ⟨W,hW⟩:∃ W,W=w1.setCell ⟨cp,5,none⟩ v':=⟨_,rfl⟩
 rw [← hW]
 have hcl:=h.lts
 have nrow:rv.ownBlock≠some cp:=jAe h2 h1 dN
 have hb1:w1.heap[cp]?=some (coO lg bT c rv ov):=((Fr.of_grown hg).block cp (by have:=hf0.size;omega) (by simp;exact nrow)).trans ((hf0.block cp hcl.1 sE).trans h1)
 have hfw:Fr [cp] w1 W:=by rw [hW];exact Fr.set1 sE _ _
 have hf:Fr (cp :: rv.ownBlock.toList) w W:=((hf0.mono sE).andThen ((Fr.of_grown hg).mono (λk _ hk=>List.mem_cons_of_mem cp hk)) (λj hj _=>hj)).andThen (hfw.mono (λk _ hk=>by simp at hk;simp [hk])) (λj hj _=>hj)
 have hb:W.heap[cp]?=some (coO lg bT c v' ov):=by
  rw [hW]
  have:=jA5 hb1 5 v'
  simpa using this
 have hr:W.ownsRow B 157 2 v' (c.res.length+1) (resV c.res++resC x):=jA7 ho hfw (λg hg=>by simp;intro e;subst e;exact jAe ho hb1 dN hg)
 have inS:∀ {g:Nat},g∈cp :: rv.ownBlock.toList→g=cp∨∃ cc,w.heap[g]?=some (.cells cc 157 (0,0)):=λ{g} hm=>by
  rcases List.mem_cons.1 hm with e | e
  ·exact .inl e
  ·simp at e;exact .inr (jA4 h2 e)
 refine ⟨⟨⟨v',ov,hb,by rw [jTj,List.length_append];exact hr,jA7 h3 hf (λg hg hm=>?_),⟨by rw [List.length_append];show c.res.length+1≤_;have:=h4.1;omega,λe=>by simp at e⟩,h5.mono oE⟩,(h.txns.fr hf (λhm=>?_)).mono oE,⟨h.low.1,h.low.2.1,Nat.le_trans h.low.2.2 hf.size⟩,h.nums⟩,⟨Fr.mono hf (λk _ hk=>?_),λk hk hm=>?_⟩⟩
 ·obtain ⟨cc,hc⟩:=jA4 h3 hg
  rcases inS hm with e | ⟨cc2,e⟩
  ·rw [e,h1] at hc;cases hc
  ·rw [e] at hc;cases hc
 ·obtain ⟨es,cc,hm2⟩:=h.txns.isMap
  rcases inS hm with e | ⟨cc2,e⟩
  ·exact hcl.2.2 e.symm
  ·rw [e] at hm2;cases hm2
 ·rcases List.mem_cons.1 hk with e | e
  ·simp [e]
  ·simp at e
   exact List.mem_append_right _ (by unfold rd rdO;rw [h1];simp [e])
 ·unfold rd rdO at hm ⊢
  rw [hb] at hm
  rw [h1]
  simp at hm ⊢
  rcases hm with hm | hm
  ·rcases hat k hm with e | e
   ·exact .inl e
   ·omega
  ·exact .inr hm
theorem CoIn.due (h:CoIn w B cp lg bT n c) (h1:w.heap[cp]?=some (coO lg bT c rv ov)) (h2:w.ownsRow B 157 2 rv c.res.length (resV c.res)) (h3:w.ownsRow B 207 3 ov c.out.length (dueV c.out)) (h4:Brd rv c.res.length n) (h5:Brd ov c.out.length n) (x:Nat × Nat × Nat) (hf0:Fr [] w W0) (hg:W0.grownBy w1 ov.ownBlock) (ho:w1.ownsRow B 207 3 v' (c.out.length+1) (dueV c.out++dueC x)) (hat:∀ g,v'.ownBlock=some g→ov.ownBlock=some g∨w.heap.size≤g) :
  CoIn (w1.setCell ⟨cp,6,none⟩ v') B cp lg bT (n+1) { c with out:=c.out++[x] }∧RFr cp [cp] w (w1.setCell ⟨cp,6,none⟩ v'):=by
 obtain ⟨W,hW⟩:∃ W,W=w1.setCell ⟨cp,6,none⟩ v':=⟨_,rfl⟩
 rw [← hW]
 have hcl:=h.lts
 have nrow:ov.ownBlock≠some cp:=jAe h3 h1 dN
 have hb1:w1.heap[cp]?=some (coO lg bT c rv ov):=((Fr.of_grown hg).block cp (by have:=hf0.size;omega) (by simp;exact nrow)).trans ((hf0.block cp hcl.1 sE).trans h1)
 have hfw:Fr [cp] w1 W:=by rw [hW];exact Fr.set1 sE _ _
 have hf:Fr (cp :: ov.ownBlock.toList) w W:=((hf0.mono sE).andThen ((Fr.of_grown hg).mono (λk _ hk=>List.mem_cons_of_mem cp hk)) (λj hj _=>hj)).andThen (hfw.mono (λk _ hk=>by simp at hk;simp [hk])) (λj hj _=>hj)
 have hb:W.heap[cp]?=some (coO lg bT c rv v'):=by
  rw [hW]
  have:=jA5 hb1 6 v'
  simpa using this
 have hr:W.ownsRow B 207 3 v' (c.out.length+1) (dueV c.out++dueC x):=jA7 ho hfw (λg hg=>by simp;intro e;subst e;exact jAe ho hb1 dN hg)
 have inS:∀ {g:Nat},g∈cp :: ov.ownBlock.toList→g=cp∨∃ cc,w.heap[g]?=some (.cells cc 207 (0,0)):=λ{g} hm=>by
  rcases List.mem_cons.1 hm with e | e
  ·exact .inl e
  ·simp at e;exact .inr (jA4 h3 e)
 refine ⟨⟨⟨rv,v',hb,jA7 h2 hf (λg hg hm=>?_),by rw [jTg,List.length_append];exact hr,h4.mono oE,⟨by rw [List.length_append];show c.out.length+1≤_;have:=h5.1;omega,λe=>by simp at e⟩⟩,(h.txns.fr hf (λhm=>?_)).mono oE,⟨h.low.1,h.low.2.1,Nat.le_trans h.low.2.2 hf.size⟩,h.nums⟩,⟨Fr.mono hf (λk _ hk=>?_),λk hk hm=>?_⟩⟩
 ·obtain ⟨cc,hc⟩:=jA4 h2 hg
  rcases inS hm with e | ⟨cc2,e⟩
  ·rw [e,h1] at hc;cases hc
  ·rw [e] at hc;cases hc
 ·obtain ⟨es,cc,hm2⟩:=h.txns.isMap
  rcases inS hm with e | ⟨cc2,e⟩
  ·exact hcl.2.2 e.symm
  ·rw [e] at hm2;cases hm2
 ·rcases List.mem_cons.1 hk with e | e
  ·simp [e]
  ·simp at e
   exact List.mem_append_right _ (by unfold rd rdO;rw [h1];simp [e])
 ·unfold rd rdO at hm ⊢
  rw [hb] at hm
  rw [h1]
  simp at hm ⊢
  rcases hm with hm | hm
  ·exact .inl hm
  ·rcases hat k hm with e | e
   ·exact .inr e
   ·omega
end
theorem jFf (B cp lg bT n t x:Nat) (c:ACo) (w:World) (h:CoIn w B cp lg bT n c) (hn:n<67108864) :
  Calls Tryz.prog 229 #[.pointer (some ⟨cp,0,none⟩),.int .u64 (t:Int),.int .i64 (x:Int)] w λe w'=>e=.returned (.tuple #[])∧CoIn w' B cp lg bT (n+1) { c with res:=c.res++[(t,x)] }∧RFr cp [cp] w w':=by
 obtain ⟨i0,hi,hz0,hz1,hz2⟩:=info_parts Tryz.infoRes
 obtain ⟨rv,ov,h1,h2,h3,h4,h5⟩:=h.ex
 have h41:=h4.1
 have HB4:=jA1 (And.intro h4 h5)
 clear h4 h5
 have c5:=jA0 h1 5
 simp at c5
 have hcl:=h.lts
 have nrow:rv.ownBlock≠some cp:=jAe h2 h1 dN
 have HI:Hid (CoIn w B cp lg bT n c∧w.heap[cp]?=some (coO lg bT c rv ov)∧w.ownsRow B 157 2 rv c.res.length (resV c.res)∧w.ownsRow B 207 3 ov c.out.length (dueV c.out)):=⟨h,h1,h2,h3⟩
 have hlow:=h.low
 clear h h1 h3
 go_enter Tryz.func229,Tryz.ntmps229
 go_wp2_with (at_builtin;refine jBr rfl _ _ 119 rfl B 157 i0 _ 2 16 Tryz.underlying119 hi hz0 hz1 hz2 rfl (by decide) rv c.res.length (resV c.res) rfl (h2.alloc _) 1 [.int .u64 (t:Int),.int .i64 (x:Int)] (.inl ⟨⟨w.heap.size,0,none⟩,1,rfl,jBf _ #[.int .u64 (t:Int),.int .i64 (x:Int)] _⟩) rfl (by intro u hu;simp at hu;rcases hu with rfl | rfl <;> rfl) (by unfold maxLen;omega) (by omega) (by simp;omega) ?_)
 intro v' w1 hown' hgrow hat0
 obtain ⟨av,mv,cv,rfl⟩:=jAu hown'
 have hfa:Fr [] w (w.alloc (.cells #[.int .u64 (t:Int),.int .i64 (x:Int)] 157)):=(Fr.refl [] w).alloc _
 have hb1:w1.heap[cp]?=some (coO lg bT c rv ov):=((Fr.of_grown hgrow).block cp (by simp;omega) (by simp;exact nrow)).trans ((hfa.block cp hcl.1 sE).trans HI.out.2.1)
 have d5:=jA0 hb1 5
 have f5:=jA2 hb1 5
 simp at d5
 have HN:Hid (CoIn (w1.setCell ⟨cp,5,none⟩ (.slice av mv cv)) B cp lg bT (n+1) { c with res:=c.res++[(t,x)] }∧RFr cp [cp] w (w1.setCell ⟨cp,5,none⟩ (.slice av mv cv))):=HI.out.1.res HI.out.2.1 HI.out.2.2.1 HI.out.2.2.2 HB4.out.1 HB4.out.2 (t,x) hfa hgrow hown' (λg hg=>hat0.elim (λe=>.inl (e▸hg)) (λe=>.inr (by rw [e] at hg;cases hg;simp)))
 clear hown' hgrow hb1 hfa
 go_wp2
 go_end0
 exact ⟨rfl,HN.out⟩
end Go.Proofs.YtcalalndmcemiaaGreatDoor
set_option maxRecDepth 100000
set_option maxHeartbeats 16000000
namespace Go.Proofs.YtcalalndmcemiaaGreatDoor
open Go.RowKit Go.Shelf
open Sc
section
variable {P:Program} {ops:Array Oper} {Q:Exit→Act→World→Prop} {l n:Nat}
theorem jPg {o:Oper} {a:Act} {w:World} {K:Act→World→Prop} (hd:∀ c,o.op≠.defer c) (h:o.wp P a w K Q):o.wpIn (Fence.wide.inRound l) n P a w K Q:=by
 refine ⟨λ_ _=>trivial,?_⟩
 rw [Oper.semAt_eq _ _ _ hd]
 unfold Oper.wp at h
 generalize (execOp a.eval o).run P w=r at *
 cases r with
 | ok x w' =>
  cases x <;> simp only [Oper.upon,Oper.uponIn] at h ⊢
  case value=>exact h
  case skip=>exact h
  case defer=>exact h
  case enter f args=>exact ⟨λhh=>(by cases hh),CallsIn.inRound l (callsIn_wide.2 h)⟩
  case row row args=>exact ⟨λhh=>(by cases hh),λc cs _=>let ⟨v,w',r,s⟩:=h c cs;⟨v,w',r,stepsIn_wide.2 s⟩⟩
 | halt x w'=>cases x <;> simp only [Oper.upon,Oper.uponIn] at h ⊢ <;> exact h
theorem jWy {i:Nat} {a:Act} {w:World} {K:Act→World→Prop} (hd:∀ o,ops[i]?=some o→∀ c,o.op≠.defer c) (hL:¬ LetsOut Q) (h:wpOp P ops Q i K a w):wpOpIn (Fence.wide.inRound l) n P ops Q i K a w:=by
 unfold wpOp at h
 unfold wpOpIn
 cases ho:ops[i]? with
 | none=>rw [ho] at h;exact h
 | some o =>
  rw [ho] at h
  simp only at h ⊢
  by_cases hw:Region.wanted o (yielded ops a.tmps)=true
  ·rw [if_pos hw] at h ⊢
   rcases h with h | h
   ·exact jPg (hd o ho) h
   ·exact absurd h.2 hL
  ·rw [if_neg hw] at h ⊢
   exact ⟨λ_ _=>trivial,h⟩
theorem jNe (hd:∀ (i:Nat) o,ops[i]?=some o→∀ c,o.op≠.defer c) (hL:¬ LetsOut Q):∀ (fuel:Nat) (listed:Array Bool) (a:Act) (w:World),wpAny P .any ops Q fuel listed a w→wpAnyIn (Fence.wide.inRound l) n P .any ops Q fuel listed a w
 | 0,_,_,_,h=>h
 | fuel+1,_,_,_,h=>⟨h.1,λi hi=>wpOpIn_mono (λa' w' h'=>jNe hd hL fuel _ a' w' h') (jWy (hd i) hL (h.2 i hi))⟩
def jNk (ops:Array Oper):Bool:=ops.toList.all λo=>match o.op with | .defer _=>false | _=>true
theorem jL1 (h:jNk ops=true):∀ (i:Nat) o,ops[i]?=some o→∀ c,o.op≠.defer c:=by
 intro i o ho c hc
 have:=List.all_eq_true.1 h o (List.mem_of_getElem? (i:=i) (by simpa using ho))
 rw [hc] at this
 cases this
theorem jFe {S:World→Prop} {id:Nat} {a:Act} {w:World} (hm:P.follows .mixedOrders=true) (hd:jNk ops=true) (hL:¬ LetsOut Q) (hS:S w.drew)
  (h:S w.drew→wpAnyH P .any ops Q S ops.size (Array.replicate ops.size false) a w.drew):(Code.region id ops true).wpIn (Fence.wide.inRound l) n P Q a w :=
 wpIn_region_any hm (jNe (jL1 hd) hL _ _ _ _ (wpAny_of_held _ _ _ _ (h hS)))
end
end Go.Proofs.YtcalalndmcemiaaGreatDoor
