import Derived.Test.YtcalalndmcemiaaGreatDoorC27
set_option maxRecDepth 100000
set_option maxHeartbeats 16000000
namespace Go.Proofs.YtcalalndmcemiaaGreatDoor
open Go.RowKit Go.Maps
open Sc
theorem SFr.same (sp bV bT bH lp p:Nat) (w:World):SFr sp bV bT bH lp p w w:=⟨rfl,rfl,rfl,Nat.le_refl _,λ_ _ _ _=>rfl,λ_ _ h=>h⟩
theorem CFr.same (cp bT lp p:Nat) (w:World):CFr cp bT lp p w w:=⟨rfl,rfl,rfl,Nat.le_refl _,λ_ _ _ _ _=>rfl,λ_ _ h=>h,λ_ _ h=>h⟩
def jV7 (B sp gp bV bT bH m lp p bD bN n:Nat) (s':AShard) (w w':World):Prop :=
 ∃ l' d' m' n',SL w' B sp gp bV bT bH m' lp p bD bN n' s' l' d'∧SFr sp bV bT bH lp p w w'∧LgW l' d'∧m'≤m+20∧n'≤n+3
def jOn (B cp gp bT m lp p bD bN n:Nat) (c':ACo) (w w':World):Prop :=
 ∃ l' d' m' n',CL w' B cp gp bT m' lp p bD bN n' c' l' d'∧CFr cp bT lp p w w'∧LgW l' d'∧m'≤m+150∧n'≤n+3
def AShard.commE (s:AShard) (t:Nat):Nat:=if (s.txn t).state=0∨(s.txn t).state=3 then 0 else 4
def AShard.commS (s:AShard) (t:Nat):AShard:=if (s.txn t).state=3 then s.comm t else s
section
variable (B sp gp bV bT bH m lp p bD bN n t K:Nat) (s:AShard) (l:ALog) (d:ADisk) (w:World)
theorem jV9 (hs:SL w B sp gp bV bT bH m lp p bD bN n s l (d.knob (-1) (-1))) (hw:LgW l d) (hg:SGood K s) (hm:m≤60000000) (hn:n≤60000000) (hB:2≤B) (hpow:Pows w) (ht:t<18446744073709551616) (h0:t≠0) :
  Calls Tryz.prog 247 #[.pointer (some ⟨sp,0,none⟩),.int .u64 (t:Int)] w λe w'=>e=.returned (.tuple #[.int .i64 ((s.vote t).2:Int),.nilIface])∧jV7 B sp gp bV bT bH m lp p bD bN n (s.vote t).1 w w':=by
 refine (jMe B sp gp bV bT bH m lp p bD bN n t s l _ w hs ht oE hB hw.segs hpow oE (by have:=hg.cnt t;omega) hg.small).mono ?_
 rintro e w' ⟨L,h1,h2,rfl,hs',hf⟩
 have hk:=hw.keep 1 _ (hg.entry t h1 h2)
 have hwr:=jX7 hg.once.2.2 h1 h2
 unfold AShard.prepare at hs' ⊢
 unfold AShard.vote
 rw [if_neg h0] at hs' ⊢
 by_cases h3:(s.txn t).state=3
 ·rw [if_pos h3] at hs' ⊢
  rw [if_pos h3]
  exact ⟨rfl,l,_,_,_,hs',hf,hw.knob _ _,by omega,by omega⟩
 ·rw [if_neg h3] at hs' ⊢
  rw [if_neg h3]
  by_cases h4:(s.txn t).state=1
  ·rw [if_pos h4] at hs' ⊢
   rw [if_pos h4]
   unfold AShard.prep at hs' ⊢
   rw [hwr] at hs' ⊢
   by_cases h5:s.wr t=true
   ·rw [if_pos h5,if_pos hk.1] at hs' ⊢
    rw [if_pos h5]
    exact ⟨rfl,_,_,_,_,hs',hf,hk.2,by omega,by omega⟩
   ·rw [if_neg h5] at hs' ⊢
    rw [if_neg h5]
    exact ⟨rfl,l,_,_,_,hs',hf,hw.knob _ _,by omega,by omega⟩
  ·rw [if_neg h4] at hs' ⊢
   rw [if_neg h4]
   exact ⟨rfl,l,_,_,_,hs',hf,hw.knob _ _,by omega,by omega⟩
theorem jW8 (hs:SL w B sp gp bV bT bH m lp p bD bN n s l (d.knob (-1) (-1))) (hw:LgW l d) (hg:SGood K s) (hm:m≤60000000) (hn:n≤60000000) (hB:2≤B) (hpow:Pows w) (ht:t<18446744073709551616) (h0:t≠0) :
  Calls Tryz.prog 248 #[.pointer (some ⟨sp,0,none⟩),.int .u64 (t:Int)] w λe w'=>e=.returned (errN (s.commE t))∧jV7 B sp gp bV bT bH m lp p bD bN n (s.commS t) w w':=by
 unfold AShard.commE AShard.commS
 by_cases h3:(s.txn t).state=3
 ·have hk:=hw.keep 2 (str (be 8 t)) (by rw [jB1,jB3];decide)
  refine (jP2 B sp gp bV bT bH m lp p bD bN n t 16 s l (d.knob (-1) (-1)) w hs ht h0 h3 oE hB hw.segs hpow (by unfold maxLen;omega) (by have:=hg.cnt t;omega) (λq hq=>by have:=(hg.small q hq).2.1;unfold maxLen;simp only [] at this;omega)).mono ?_
  rintro e w2 ⟨rfl,⟨s',hs2,hcm⟩,hx2⟩
  rw [hk.1] at hcm ⊢
  rw [if_pos rfl] at hcm
  rw [if_pos (.inr h3),if_pos h3]
  exact ⟨rfl,_,_,_,_,⟨jHa hg hcm hs2.sh,hs2.lg,hs2.ap,hs2.gp1⟩,hx2,hk.2,by omega,by omega⟩
 ·refine (jMh sp gp bV bT bH m t s w hs.sh ht (.inr h3)).mono ?_
  rintro e w2 ⟨rfl,rfl⟩
  rw [if_neg h0,if_neg h3]
  refine ⟨?_,l,_,m,n,hs,SFr.same _ _ _ _ _ _ _,hw.knob _ _,by omega,by omega⟩
  congr 2
  simp only [h3,or_false]
theorem jVz (hs:SL w B sp gp bV bT bH m lp p bD bN n s l (d.knob (-1) (-1))) (hw:LgW l d) (hn:n≤60000000) (hB:2≤B) (hpow:Pows w) (ht:t<18446744073709551616) (h0:t≠0) :
  Calls Tryz.prog 249 #[.pointer (some ⟨sp,0,none⟩),.int .u64 (t:Int)] w λe w'=>e=.returned (errN 0)∧jV7 B sp gp bV bT bH m lp p bD bN n (s.forget t) w w':=by
 by_cases h3:(s.txn t).state=3
 ·have hk:=hw.note 3 (str (be 8 t)) (by rw [jB1,jB3];decide)
  refine (jPx B sp gp bV bT bH m lp p bD bN n t s l (d.knob (-1) (-1)) w hs ht h0 h3 oE hB hw.segs hpow).mono ?_
  rintro e w2 ⟨rfl,hs2,hx2⟩
  rw [hk.1] at hs2 ⊢
  rw [if_pos rfl] at hs2
  exact ⟨rfl,_,_,_,_,hs2,hx2,hk.2,by omega,by omega⟩
 ·refine (jOy sp gp bV bT bH m t s w hs.sh ht (.inr h3)).mono ?_
  rintro e w2 ⟨rfl,hin2,hf2⟩
  rw [if_neg h0] at hin2 ⊢
  obtain ⟨hs2,hx2⟩:=hs.turn hin2 hf2 (by intro k hk;simp at hk ⊢;rcases hk with e | e <;> simp [e])
  exact ⟨rfl,l,_,m,n,hs2,hx2,hw.knob _ _,by omega,by omega⟩
end
/-! ### the coordinator -/
abbrev jBl:List Nat:=[0,0,0,0,0,0,0,0,0]
structure CGood (K:Nat) (c:ACo):Prop where
 once:Once1 c.txns
 len:c.txns.length≤12
 nums:1≤c.next∧c.next≤K+1∧c.next≤c.limit∧c.limit≤c.next+16∧c.ticks≤K
 txs:∀ q∈c.txns,1≤q.1∧q.1<c.next∧q.2.since≤c.ticks∧4≤q.2.state∧q.2.state≤6
def ACo.begun (c:ACo):ACo × Nat × Nat :=
 if 12≤c.txns.length then (c,0,5) else ({ c with next:=c.next+1,limit:=if c.next=c.limit then c.limit+16 else c.limit,txns:=jAb c.txns c.next ⟨4,jBl,0⟩ },c.next,0)
def ACo.commE (c:ACo) (t:Nat) (zs:List Int):Nat:=if (c.tx t).state=0 then 7 else if (c.tx t).state≠4 then 4 else if jDx 0 zs=true then 0 else 6
def ACo.commS (c:ACo) (t:Nat) (zs:List Int):ACo:=if (c.tx t).state=4∧jDx 0 zs=true then c.asked t (zs.map Int.toNat) else c
def ACo.voted (c:ACo) (t k v:Nat):ACo :=
 if (c.tx t).parts.getD k 0≠1 then c
 else if v=3 then c.saidNo t k
 else if ((c.tx t).parts.set k v).any isAw=true then { c with txns:=jAb c.txns t { c.tx t with parts:=(c.tx t).parts.set k v } }
 else if ((c.tx t).parts.set k v).any hasY=true then c.comm t { c.tx t with parts:=(c.tx t).parts.set k v,state:=6 }
 else { c with txns:=jAi c.txns t,res:=c.res++[(t,5)] }
def ACo.doneS (c:ACo) (t k:Nat):ACo :=
 if (c.tx t).state≠6∨(c.tx t).parts.getD k 0≠2 then c
 else if ((c.tx t).parts.set k 5).any jDf=true then { c with txns:=jAb c.txns t { c.tx t with parts:=(c.tx t).parts.set k 5 } }
 else { c with txns:=jAi c.txns t }
section
variable (B cp gp bT m lp p bD bN n t K:Nat) (c:ACo) (l:ALog) (d:ADisk) (w:World)
theorem jTf (hs:CL w B cp gp bT m lp p bD bN n c l (d.knob (-1) (-1))) (hw:LgW l d) (hg:CGood K c) (hK:K≤1000000) (hm:m≤60000000) (hn:n≤60000000) (hB:2≤B) (hpow:Pows w) :
  Calls Tryz.prog 28 #[.pointer (some ⟨cp,0,none⟩)] w λe w'=>e=.returned (.tuple #[.int .u64 (c.begun.2.1:Int),errN c.begun.2.2])∧jOn B cp gp bT m lp p bD bN n c.begun.1 w w':=by
 have hnm:=hg.nums
 unfold ACo.begun
 by_cases h12:12≤c.txns.length
 ·rw [if_pos h12]
  refine (jOp B cp gp bT m c w hs.co hs.gp1 h12).mono ?_
  rintro e w2 ⟨rfl,hf2⟩
  obtain ⟨hs2,hx2⟩:=hs.new hf2
  exact ⟨rfl,l,_,m,n,hs2,hx2,hw.knob _ _,by omega,by omega⟩
 ·rw [if_neg h12]
  by_cases hx:c.next=c.limit
  ·have hk:=hw.keep 1 (str (be 8 (c.limit+16))) (by rw [jB1,jB3];decide)
   refine (jPk B cp gp bT m lp p bD bN n c l _ w hs oE hx oE oE oE hB hw.segs hpow hk.1).mono ?_
   rintro e w2 ⟨rfl,hs2,hx2⟩
   simp only [hx,if_true]
   exact ⟨rfl,_,_,_,_,hs2,hx2,hk.2,by omega,by omega⟩
  ·refine (jSu B cp gp bT m c w hs.co hs.gp1 oE hx oE oE).mono ?_
   rintro e w2 ⟨rfl,hc2,hf2⟩
   obtain ⟨hs2,hx2⟩:=hs.turn hc2 hf2
   simp only [hx,if_false]
   exact ⟨rfl,l,_,_,n,hs2,hx2,hw.knob _ _,by omega,by omega⟩
theorem jU2 (xs:List Nat):(xs.map λx:Nat=>(x:Int)).map Int.toNat=xs:=by rw [List.map_map];exact (List.map_congr_left λ_ _=>by simp).trans (List.map_id _)
theorem jS8 (cap:Nat) (ao:Option Addr) (zs:List Int) (hlen:zs.length≤100) (hx:ZsAt w ao zs) (hs:CL w B cp gp bT m lp p bD bN n c l (d.knob (-1) (-1))) (hw:LgW l d) (hm:m≤60000000) (ht:t<18446744073709551616) :
  Calls Tryz.prog 33 #[.pointer (some ⟨cp,0,none⟩),.int .u64 (t:Int),.slice ao zs.length cap] w λe w'=>e=.returned (errN (c.commE t zs))∧jOn B cp gp bT m lp p bD bN n (c.commS t zs) w w':=by
 unfold ACo.commE ACo.commS
 by_cases h0:(c.tx t).state=0
 ·rw [if_pos h0,if_neg oE]
  refine (jKm B cp gp bT m t _ c w hs.co ht h0).mono ?_
  rintro e w2 ⟨rfl,rfl⟩
  exact ⟨rfl,l,_,m,n,hs,CFr.same _ _ _ _ _,hw.knob _ _,by omega,by omega⟩
 ·by_cases h4:(c.tx t).state=4
  ·cases hb:jDx 0 zs with
   | false =>
    rw [if_neg h0,if_neg oE,if_neg sE,if_neg sE]
    refine (jIg B cp gp bT m t cap ao zs c w hs.co ht oE hx h4 hb).mono ?_
    rintro e w2 ⟨rfl,rfl⟩
    exact ⟨rfl,l,_,m,n,hs,CFr.same _ _ _ _ _,hw.knob _ _,by omega,by omega⟩
   | true =>
    rw [if_neg h0,if_neg oE,if_pos rfl,if_pos ⟨h4,rfl⟩]
    obtain ⟨xs,rfl,hr⟩:=jKk hb
    obtain ⟨x0,hx0⟩:∃ x0,xs[0]?=some x0:=⟨_,List.getElem?_eq_getElem (List.length_pos_iff.2 hr.ne)⟩
    have hat:∀ (j y:Nat),xs[j]?=some y→(xs.map λx:Nat=>(x:Int))[j]?=some (y:Int):=λj y hy=>by rw [List.getElem?_map,hy];rfl
    obtain ⟨_,gz,rfl,_⟩:=hx 0 (x0:Int) (hat 0 x0 hx0)
    have hia:jH3 w gz xs:=λj y hy=>by
     obtain ⟨_,g2,e2,hcl⟩:=hx j (y:Int) (hat j y hy)
     simp only [Option.some.injEq,Addr.mk.injEq,and_true] at e2
     rw [e2];exact hcl
    rw [jU2,List.length_map]
    refine (jLx B cp gp bT m t gz cap xs c w hs.co ht h4 hr hia oE).mono ?_
    rintro e w2 ⟨rfl,hc2,hf2⟩
    obtain ⟨hs2,hx2⟩:=hs.turn hc2 hf2
    exact ⟨rfl,l,_,_,n,hs2,hx2,hw.knob _ _,by omega,by omega⟩
  ·rw [if_neg h0,if_pos h4,if_neg oE]
   refine (jIn B cp gp bT m t _ c w hs.co ht h0 h4).mono ?_
   rintro e w2 ⟨rfl,rfl⟩
   exact ⟨rfl,l,_,m,n,hs,CFr.same _ _ _ _ _,hw.knob _ _,by omega,by omega⟩
theorem jVd (k v:Nat) (hk:k<9) (hv:v=2∨v=3∨v=4) (hs:CL w B cp gp bT m lp p bD bN n c l (d.knob (-1) (-1))) (hw:LgW l d) (hm:m≤60000000) (hn:n≤60000000) (hB:2≤B) (hpow:Pows w) (ht:t<18446744073709551616) :
  Calls Tryz.prog 250 #[.pointer (some ⟨cp,0,none⟩),.int .u64 (t:Int),.int .i64 (k:Int),.int .i64 (v:Int)] w λe w'=>e=.returned .nilIface∧jOn B cp gp bT m lp p bD bN n (c.voted t k v) w w':=by
 unfold ACo.voted
 by_cases haw:(c.tx t).parts.getD k 0=1
 ·rw [if_neg oE]
  by_cases h3:v=3
  ·rw [if_pos h3]
   refine (jVh B cp gp bT m t k v h3 hk c w hs.co ht haw oE).mono ?_
   rintro e w2 ⟨rfl,hc2,hf2⟩
   obtain ⟨hs2,hx2⟩:=hs.turn hc2 hf2
   exact ⟨rfl,l,_,_,n,hs2,hx2,hw.knob _ _,by omega,by omega⟩
  ·rw [if_neg h3]
   have hv24:v=2∨v=4:=by omega
   cases ha:((c.tx t).parts.set k v).any isAw with
   | true =>
    rw [if_pos rfl]
    refine (jPo B cp gp bT m t k v hv24 hk c w hs.co ht haw ha oE).mono ?_
    rintro e w2 ⟨rfl,hc2,hf2⟩
    obtain ⟨hs2,hx2⟩:=hs.turn hc2 hf2
    exact ⟨rfl,l,_,_,n,hs2,hx2,hw.knob _ _,by omega,by omega⟩
   | false =>
    rw [if_neg sE]
    have hok:ATx.Ok { c.tx t with parts:=(c.tx t).parts.set k v }:=jHr (hs.co.okT t) oE
    cases hy:((c.tx t).parts.set k v).any hasY with
    | false =>
     rw [if_neg sE]
     refine (jKn B cp gp bT m t k v hv24 hk c w hs.co ht haw ha (λw2=>jOn B cp gp bT m lp p bD bN n { c with txns:=jAi c.txns t,res:=c.res++[(t,5)] } w w2) λW hW=>?_)
     obtain ⟨hsW,hxW⟩:=hs.new hW
     refine (jKi B cp gp bT m t c _ hok hy W hsW.co ht oE).mono ?_
     rintro e w2 ⟨rfl,hc2,hf2⟩
     obtain ⟨hs2,hx2⟩:=hsW.turn hc2 hf2
     exact ⟨rfl,l,_,_,n,hs2,hxW.trans hx2,hw.knob _ _,by omega,by omega⟩
    | true =>
     rw [if_pos rfl]
     have hkp:=hw.keep 2 (str (be 8 t++jB9 hasY ((c.tx t).parts.set k v))) (by rw [jB1,List.length_append,jB3];have:=jK9 (q:=hasY) (ps:=(c.tx t).parts.set k v);omega)
     refine (jKn B cp gp bT m t k v hv24 hk c w hs.co ht haw ha (λw2=>jOn B cp gp bT m lp p bD bN n (c.comm t { c.tx t with parts:=(c.tx t).parts.set k v,state:=6 }) w w2) λW hW=>?_)
     obtain ⟨hsW,hxW⟩:=hs.new hW
     refine (jM5 B cp gp bT m lp p bD bN n t c l _ _ hok hy W hsW ht oE oE hB hw.segs ((hxW.hfr hs).pows hB hpow) hkp.1).mono ?_
     rintro e w2 ⟨rfl,hs2,hx2⟩
     exact ⟨rfl,_,_,_,_,hs2,hxW.trans hx2,hkp.2,by omega,by omega⟩
 ·rw [if_pos haw]
  refine (jT7 B cp gp bT m t k v hv hk c w hs.co ht haw).mono ?_
  rintro e w2 ⟨rfl,hf2⟩
  obtain ⟨hs2,hx2⟩:=hs.new hf2
  exact ⟨rfl,l,_,m,n,hs2,hx2,hw.knob _ _,by omega,by omega⟩
theorem jW2 (k:Nat) (hk:k<9) (hs:CL w B cp gp bT m lp p bD bN n c l (d.knob (-1) (-1))) (hw:LgW l d) (hm:m≤60000000) (hn:n≤60000000) (hB:2≤B) (hpow:Pows w) (ht:t<18446744073709551616) :
  Calls Tryz.prog 251 #[.pointer (some ⟨cp,0,none⟩),.int .u64 (t:Int),.int .i64 (k:Int)] w λe w'=>e=.returned .nilIface∧jOn B cp gp bT m lp p bD bN n (c.doneS t k) w w':=by
 unfold ACo.doneS
 by_cases h6:(c.tx t).state=6
 ·by_cases hp:(c.tx t).parts.getD k 0=2
  ·rw [if_neg oE]
   cases ha:((c.tx t).parts.set k 5).any jDf with
   | true =>
    rw [if_pos rfl]
    refine (jQd B cp gp bT m t k hk c w hs.co ht h6 hp ha oE).mono ?_
    rintro e w2 ⟨rfl,hc2,hf2⟩
    obtain ⟨hs2,hx2⟩:=hs.turn hc2 hf2
    exact ⟨rfl,l,_,_,n,hs2,hx2,hw.knob _ _,by omega,by omega⟩
   | false =>
    rw [if_neg sE]
    have hkp:=hw.note 3 (str (be 8 t)) (by rw [jB1,jB3];decide)
    refine (jQs B cp gp bT m lp p bD bN n t k hk c l _ w hs ht h6 hp ha oE hB hw.segs hpow hkp.1).mono ?_
    rintro e w2 ⟨rfl,hs2,hx2⟩
    exact ⟨rfl,_,_,_,_,hs2,hx2,hkp.2,by omega,by omega⟩
  ·rw [if_pos (.inr hp)]
   refine (jWj B cp gp bT m t (k:Int) c w hs.co ht h6 (by unfold partAt;rw [if_pos oE];simpa using hp)).mono ?_
   rintro e w2 ⟨rfl,hf2⟩
   obtain ⟨hs2,hx2⟩:=hs.new hf2
   exact ⟨rfl,l,_,m,n,hs2,hx2,hw.knob _ _,by omega,by omega⟩
 ·rw [if_pos (.inl h6)]
  refine (jWl B cp gp bT m t (k:Int) c w hs.co ht h6).mono ?_
  rintro e w2 ⟨rfl,hf2⟩
  obtain ⟨hs2,hx2⟩:=hs.new hf2
  exact ⟨rfl,l,_,m,n,hs2,hx2,hw.knob _ _,by omega,by omega⟩
end
structure NLf (B:Nat) (w w':World):Prop where
 below:Below B w w'
 cells:∀ (k:Nat) (c:Array Value) (t:TypeId) (fr:Nat × Nat),w.heap[k]?=some (.cells c t fr)→¬ jAd t→w'.heap[k]?=some (.cells c t fr)
theorem NLf.trans {B:Nat} {a b c:World} (h:NLf B a b) (k:NLf B b c):NLf B a c:=⟨h.below.trans k.below,λi x t fr hi ht=>k.cells i x t fr (h.cells i x t fr hi ht) ht⟩
theorem NLf.new {B:Nat} {w w':World} (h:Fr [] w w') (hB:B≤w.heap.size):NLf B w w':=⟨h.below hB sE,λk _ _ _ hk _=>(h.block k (Array.getElem?_eq_some_iff.1 hk).1 sE).trans hk⟩
theorem NLf.of {B:Nat} {w w':World} {L:List Nat} (h:Fr L w w') (hB:B≤w.heap.size) (hL:∀ k∈L,B≤k∧NodeObj w.heap[k]?):NLf B w w' :=
 ⟨h.below hB (λk hk=>(hL k hk).1),λk c t fr hk ht=>(h.block k (Array.getElem?_eq_some_iff.1 hk).1 (λhm=>ht (by have:=(hL k hm).2;rw [hk] at this;exact this.not))).trans hk⟩
def LawS (w:World) (S:List Nat):Prop:=∀ k∈S,k<w.heap.size→∃ c t fr,w.heap[k]?=some (.cells c t fr)∧¬ jAd t∧(t=9→2≤c.size)
theorem LawS.nil (w:World):LawS w []:=λk hk=>by cases hk
theorem LawS.one {w:World} {k:Nat} {c:Array Value} {t:TypeId} {fr:Nat × Nat} (h:w.heap[k]?=some (.cells c t fr)) (ht:¬ jAd t) (hs:t≠9):LawS w [k]:=λj hj _=>by
 simp at hj
 subst hj
 exact ⟨c,t,fr,h,ht,λe=>absurd e hs⟩
theorem LawS.away {w:World} {S L:List Nat} (h:LawS w S) (hL:∀ k∈L,NodeObj w.heap[k]?):∀ k∈S,k<w.heap.size→k∉L∧∀ t,w.heap[k]?≠some (jBc t):=λk hk hl=>by
 obtain ⟨c,t,fr,e,ht,hs⟩:=h k hk hl
 refine ⟨λhm=>ht (by have:=hL k hm;rw [e] at this;exact this.not),λu hu=>?_⟩
 rw [e] at hu
 have:=Option.some.inj hu
 simp only [Obj.cells.injEq] at this
 have h2:=hs this.2.1
 rw [this.1] at h2
 simp at h2
theorem ShNode.mono {w:World} {B i hp K K':Nat} {s:AShard} {out:List Msg} {L:List Nat} (h:ShNode w B i hp s out K L) (hK:K≤K'):ShNode w B i hp s out K' L:=by
 obtain ⟨nd,p,sp,gp,bV,bT,bH,lp,bD,bN,m,n,l,d,ov,hh,hw,hm,rfl⟩:=h
 exact ⟨nd,p,sp,gp,bV,bT,bH,lp,bD,bN,m,n,l,d,ov,hh,hw,by omega,rfl⟩
theorem CoNode.mono {w:World} {B hp K K':Nat} {c:ACo} {out:List Msg} {L:List Nat} (h:CoNode w B hp c out K L) (hK:K≤K'):CoNode w B hp c out K' L:=by
 obtain ⟨nd,p,cp,gp,bT,lp,bD,bN,m,n,l,d,ov,hh,hw,hm,rfl⟩:=h
 exact ⟨nd,p,cp,gp,bT,lp,bD,bN,m,n,l,d,ov,hh,hw,by omega,rfl⟩
theorem CGood.mono {K K':Nat} {c:ACo} (h:CGood K c) (hK:K≤K'):CGood K' c:=⟨h.once,h.len,by have:=h.nums;omega,h.txs⟩
structure Nds (w:World) (B:Nat) (hps:List Nat) (c:ACo) (co:List Msg) (ss:List (AShard × List Msg)) (K:Nat) (Ls:List (List Nat)):Prop where
 len:hps.length=ss.length+1∧Ls.length=ss.length+1
 base:B≤w.heap.size
 co:∃ hp L,hps[0]?=some hp∧Ls[0]?=some L∧CoNode w B hp c co K L
 cg:CGood K c
 sh:∀ i s,ss[i]?=some s→∃ hp L,hps[i+1]?=some hp∧Ls[i+1]?=some L∧ShNode w B (i+1) hp s.1 s.2 K L∧SGood K s.1
 dis:Ls.Pairwise λa b=>∀ k∈a,k∉b
section
variable {w w':World} {B K K':Nat} {hps:List Nat} {c c':ACo} {co co':List Msg} {ss:List (AShard × List Msg)} {Ls:List (List Nat)}
theorem Nds.obj (h:Nds w B hps c co ss K Ls) {i:Nat} {L:List Nat} (hL:Ls[i]?=some L):∀ k∈L,B≤k∧NodeObj w.heap[k]?:=by
 cases i with
 | zero =>
  obtain ⟨hp,L',-,e,h1⟩:=h.co
  rw [hL] at e
  cases e
  exact h1.obj
 | succ i =>
  have hi:i<ss.length:=by have:=(List.getElem?_eq_some_iff.1 hL).1;have:=h.len.2;omega
  obtain ⟨hp,L',-,e,h1,-⟩:=h.sh i _ (List.getElem?_eq_getElem hi)
  rw [hL] at e
  cases e
  exact h1.obj
theorem Nds.apart (h:Nds w B hps c co ss K Ls) {i j:Nat} {L M:List Nat} (hL:Ls[i]?=some L) (hM:Ls[j]?=some M) (hij:i≠j):∀ k∈L,k∉M:=by
 have key:∀ (i j:Nat) (L M:List Nat),Ls[i]?=some L→Ls[j]?=some M→i<j→∀ k∈L,k∉M:=λi j L M hL hM hij=>by
  have:=List.pairwise_iff_getElem.1 h.dis i j (List.getElem?_eq_some_iff.1 hL).1 (List.getElem?_eq_some_iff.1 hM).1 hij
  rw [(List.getElem?_eq_some_iff.1 hL).2,(List.getElem?_eq_some_iff.1 hM).2] at this
  exact this
 rcases Nat.lt_or_gt_of_ne hij with e | e
 ·exact key i j L M hL hM e
 ·exact λk hk hm=>key j i M L hM hL e k hm hk
theorem Nds.law {S:List Nat} (h:Nds w B hps c co ss K Ls) (hf:Fr S w w') (hS:LawS w S):Nds w' B hps c co ss K Ls:=by
 refine ⟨h.len,Nat.le_trans h.base hf.size,?_,h.cg,λi s hs=>?_,h.dis⟩
 ·obtain ⟨hp,L,e1,e2,h1⟩:=h.co
  exact ⟨hp,L,e1,e2,h1.apart hf (hS.away (λk hk=>(h1.obj k hk).2))⟩
 ·obtain ⟨hp,L,e1,e2,h1,h2⟩:=h.sh i s hs
  exact ⟨hp,L,e1,e2,h1.apart hf (hS.away (λk hk=>(h1.obj k hk).2)),h2⟩
theorem Nds.new (h:Nds w B hps c co ss K Ls) (hf:Fr [] w w'):Nds w' B hps c co ss K Ls:=h.law hf (LawS.nil w)
theorem Nds.mono (h:Nds w B hps c co ss K Ls) (hK:K≤K'):Nds w B hps c co ss K' Ls:=by
 refine ⟨h.len,h.base,?_,h.cg.mono hK,λi s hs=>?_,h.dis⟩
 ·obtain ⟨hp,L,e1,e2,h1⟩:=h.co
  exact ⟨hp,L,e1,e2,h1.mono hK⟩
 ·obtain ⟨hp,L,e1,e2,h1,h2⟩:=h.sh i s hs
  exact ⟨hp,L,e1,e2,h1.mono hK,h2.mono hK⟩
theorem jPq {Ls:List (List Nat)} {i:Nat} {L L':List Nat} {n:Nat} (h:Ls.Pairwise λa b=>∀ k∈a,k∉b) (hL:Ls[i]?=some L) (hst:∀ k,k<n→k∈L'→k∈L) (hlt:∀ M∈Ls,∀ k∈M,k<n):(Ls.set i L').Pairwise λa b=>∀ k∈a,k∉b:=by
 rw [List.pairwise_iff_getElem] at h ⊢
 intro a b ha hb hab
 rw [List.length_set] at ha hb
 have hi:=List.getElem?_eq_some_iff.1 hL
 obtain ⟨hi,hLe⟩:=hi
 rw [List.getElem_set,List.getElem_set]
 split
 ·rename_i e
  subst e
  rw [if_neg oE]
  intro k hk hm
  have h2:=hlt _ (List.getElem_mem hb) k hm
  have h3:=h i b hi hb hab
  rw [hLe] at h3
  exact h3 k (hst k h2 hk) hm
 ·split
  ·rename_i e
   subst e
   intro k hk hm
   have h2:=hlt _ (List.getElem_mem ha) k hk
   have h3:=h a i ha hi hab
   rw [hLe] at h3
   exact h3 k hk (hst k h2 hm)
  ·exact h a b ha hb hab
theorem Nds.lt (h:Nds w B hps c co ss K Ls):∀ M∈Ls,∀ k∈M,k<w.heap.size:=λM hM k hk=>by
 obtain ⟨i,hi,e⟩:=List.getElem_of_mem hM
 exact (h.obj (i:=i) (by rw [List.getElem?_eq_getElem hi,e]) k hk).2.lt
theorem Nds.shard (h:Nds w B hps c co ss K Ls) {i:Nat} {s:AShard × List Msg} (hs:ss[i]?=some s):∃ hp L,hps[i+1]?=some hp∧ShNode w B (i+1) hp s.1 s.2 K L∧SGood K s.1 ∧
  ∀ {w':World} {s':AShard × List Msg} {K':Nat} {L':List Nat},K≤K'→ShNode w' B (i+1) hp s'.1 s'.2 K' L'→SGood K' s'.1→NFr L L' w w'→(∃ Ls',Nds w' B hps c co (ss.set i s') K' Ls')∧NLf B w w'∧∃ L∈Ls,Fr L w w':=by
 obtain ⟨hp,L,e1,e2,h1,h2⟩:=h.sh i s hs
 refine ⟨hp,L,e1,h1,h2,λ{w' s' K' L'} hK hn hg hf=>⟨⟨Ls.set (i+1) L',?_⟩,NLf.of hf.fr h.base (h.obj e2),L,List.mem_of_getElem? e2,hf.fr⟩⟩
 have hil:=(List.getElem?_eq_some_iff.1 hs).1
 have hm:=h.mono hK
 refine ⟨by rw [List.length_set,List.length_set];exact h.len,Nat.le_trans h.base hf.fr.size,?_,hm.cg,λj t ht=>?_,jPq h.dis e2 hf.stay h.lt⟩
 ·obtain ⟨hq,M,a1,a2,a3⟩:=hm.co
  refine ⟨hq,M,a1,by rw [List.getElem?_set_ne oE];exact a2,a3.apart hf.fr (λk hk hl=>⟨h.apart e2 a2 oE k hk,(h.obj e2 k hk).2.text⟩)⟩
 ·by_cases e:i=j
  ·subst e
   rw [List.getElem?_set_self hil] at ht
   cases ht
   exact ⟨hp,L',e1,by rw [List.getElem?_set_self (List.getElem?_eq_some_iff.1 e2).1],hn,hg⟩
  ·rw [List.getElem?_set_ne e] at ht
   obtain ⟨hq,M,a1,a2,a3,a4⟩:=hm.sh j t ht
   exact ⟨hq,M,a1,by rw [List.getElem?_set_ne oE];exact a2,a3.apart hf.fr (λk hk hl=>⟨h.apart e2 a2 oE k hk,(h.obj e2 k hk).2.text⟩),a4⟩
theorem Nds.coord (h:Nds w B hps c co ss K Ls):∃ hp L,hps[0]?=some hp∧CoNode w B hp c co K L ∧
  ∀ {w':World} {c':ACo} {co':List Msg} {K':Nat} {L':List Nat},K≤K'→CoNode w' B hp c' co' K' L'→CGood K' c'→NFr L L' w w'→(∃ Ls',Nds w' B hps c' co' ss K' Ls')∧NLf B w w'∧∃ L∈Ls,Fr L w w':=by
 obtain ⟨hp,L,e1,e2,h1⟩:=h.co
 refine ⟨hp,L,e1,h1,λ{w' c' co' K' L'} hK hn hg hf=>⟨⟨Ls.set 0 L',?_⟩,NLf.of hf.fr h.base (h.obj e2),L,List.mem_of_getElem? e2,hf.fr⟩⟩
 have hm:=h.mono hK
 refine ⟨by rw [List.length_set];exact h.len,Nat.le_trans h.base hf.fr.size,⟨hp,L',e1,by rw [List.getElem?_set_self (List.getElem?_eq_some_iff.1 e2).1],hn⟩,hg,λj t ht=>?_,jPq h.dis e2 hf.stay h.lt⟩
 obtain ⟨hq,M,a1,a2,a3,a4⟩:=hm.sh j t ht
 exact ⟨hq,M,a1,by rw [List.getElem?_set_ne oE];exact a2,a3.apart hf.fr (λk hk hl=>⟨h.apart e2 a2 oE k hk,(h.obj e2 k hk).2.text⟩),a4⟩
end
theorem Tryz.infoMsg:(Tryz.prog.info? 151).map (λi=>(i.zero,i.size,i.bytes))=some (some (.agg #[.int .i64 0,.int .i64 0,.int .i64 0,.int .u64 0]),4,32):=by kernel_rfl
def SentN (B nd i:Nat) (cc ss:Option Addr) (ov:Value) (out:List Msg) (w w':World):Prop :=
 ∃ ov',w'.heap[nd]?=some (jCi i cc ss ov')∧w'.ownsRow B 151 4 ov' out.length (jG1 out)∧Fr (nd :: ov.ownBlock.toList) w w'∧∀ g,ov'.ownBlock=some g→ov.ownBlock=some g∨w.heap.size≤g
theorem jH0 (B nd i kind dst txn:Nat) (cc ss:Option Addr) (ov:Value) (out:List Msg) (w:World) (hnd:w.heap[nd]?=some (jCi i cc ss ov)) (hov:w.ownsRow B 151 4 ov out.length (jG1 out)) (hB:B≤w.heap.size) (hlen:out.length<67108864) :
  Calls Tryz.prog 113 #[.pointer (some ⟨nd,0,none⟩),.int .i64 (kind:Int),.int .i64 (dst:Int),.int .u64 (txn:Int)] w λe w'=>e=.returned (.tuple #[])∧SentN B nd i cc ss ov (out++[⟨kind,i,dst,txn⟩]) w w':=by
 obtain ⟨i0,hin,hz0,hz1,hz2⟩:=info_parts Tryz.infoMsg
 have hne:ov.ownBlock≠some nd:=jAe hov hnd dN
 obtain ⟨uo,uc,eu⟩:=jCx hov
 have HX:=jA1 (And.intro hnd hov)
 have hkl:nd<w.heap.size:=(Array.getElem?_eq_some_iff.1 hnd).1
 have k0:=jA0 hnd 0
 have k3:=jA0 hnd 3
 simp at k0 k3
 obtain ⟨nu,hnu⟩:∃ nu,nu=out.length:=⟨_,rfl⟩
 rw [← hnu] at hov eu hlen
 have HN:Hid (out.length=nu):=hnu.symm
 rw [eu] at k3
 have HE:Hid (ov=.slice uo nu uc):=eu
 have hka:∀ ob,(w.alloc ob).cell? ⟨nd,3,none⟩=some (.slice uo nu uc):=λob=>(World.cell?_of_block (a:=⟨nd,3,none⟩) (Below.heap_alloc w ob nd hkl)).trans k3
 have hxa:∀ ob,(w.alloc ob).cell? ⟨nd,0,none⟩=some (.int .i64 (i:Int)):=λob=>(World.cell?_of_block (a:=⟨nd,0,none⟩) (Below.heap_alloc w ob nd hkl)).trans k0
 rw [eu] at hov hne
 have hne':(Value.slice uo nu uc).ownBlock≠some nd:=hne
 have HQ:=jA1 hov
 clear hov hnu eu hnd hne
 go_enter Tryz.func113,Tryz.ntmps113
 go_wp2
 go_region_law (first | (rw [if_pos (by rfl)];refine jBn _ _ 208 rfl B 151 i0 _ 4 32 Tryz.underlying208 hin hz0 hz1 hz2 rfl (by decide) _ nu (jG1 out) rfl (HQ.out.alloc _) ⟨w.heap.size,0,none⟩ 1 1 [.int .i64 (kind:Int),.int .i64 (i:Int),.int .i64 (dst:Int),.int .u64 (txn:Int)] rfl rfl (jBf _ #[.int .i64 (kind:Int),.int .i64 (i:Int),.int .i64 (dst:Int),.int .u64 (txn:Int)] _) (by intro u hu;simp at hu;rcases hu with rfl | rfl | rfl | rfl <;> rfl) (by unfold maxLen;omega) (by omega) (Nat.le_trans hB (by simp)) ?_;intro v5 w5 ho5 hg5 ha5;obtain ⟨o5,c5,rfl⟩:=jCx ho5;have hb5:w5.heap[nd]?=some (jCi i cc ss (.slice uo nu uc)):=(hg5.block nd (by simp;omega) (λe=>hne' e.symm)).trans ((Below.heap_alloc w _ nd hkl).trans (by rw [← HE.out];exact HX.out.1));have t5:=jA0 hb5 3;have tf:=jA2 hb5 3;simp at t5))
 all_goals
  have hfw:Fr [nd] w5 (w5.setCell ⟨nd,3,none⟩ (.slice o5 (nu+1) c5)):=Fr.set1 sE _ _
  have HR:Hid (SentN B nd i cc ss ov (out++[⟨kind,i,dst,txn⟩]) w (w5.setCell ⟨nd,3,none⟩ (.slice o5 (nu+1) c5))):=by
   refine ⟨.slice o5 (nu+1) c5,?_,?_,?_,?_⟩
   ·have:=jA5 hb5 3 (.slice o5 (nu+1) c5)
    simpa using this
   ·rw [jOf,List.length_append,HN.out]
    exact jA7 ho5 hfw (λg hg=>by simp;intro e;subst e;exact jAe ho5 hb5 dN hg)
   ·rw [HE.out]
    exact ((((Fr.refl _ w).alloc _).drew).andThen ((Fr.of_grown hg5).mono (λk _ hk=>List.mem_cons_of_mem nd hk)) (λj hj _=>hj)).andThen (hfw.mono (λk _ hk=>by simp at hk;simp [hk])) (λj hj _=>hj)
   ·rw [HE.out]
    exact λg hg=>ha5.elim (λe=>.inl (e▸hg)) (λe=>.inr (by rw [e] at hg;cases hg;simp))
  clear ho5 hg5 ha5 hb5 hfw
  go_wp2
  go_end0
  exact ⟨rfl,HR.out⟩
theorem wfI {x:Nat} (h:x<256):(Lit.int .i64 (x:Int)).wf=true:=by
 have h1:IntKind.i64.min=-9223372036854775808:=rfl
 have h2:IntKind.i64.max=9223372036854775807:=rfl
 simp [Lit.wf,h1,h2]
 omega
noncomputable def KI:KeyRep Tryz.prog Nat 3 where
 kv:=λx=>.int .i64 (x:Int)
 kl:=λx=>.int .i64 (x:Int)
 ok:=λx=>x<256
 law:=Go.Maps.int_keyed Tryz.underlying3
 key:=λ_ hk=>Go.Maps.keyOf_int_mk Tryz.underlying3 (wfI hk)
 inj:=λa b h=>by simp at h;omega
def fnR:Value→Option (DataW Unit × List MemPlace)
 | .func (.func f) a b=>if a=#[]∧b=#[] then some (.lit (.int .i64 (f:Int)),[]) else none
 | .nilFunc=>some (.lit (.int .i64 (-1)),[])
 | _=>none
noncomputable def EF:ElRep (Option Nat) where
 R:=fnR
 ev:=λo=>match o with | none=>.nilFunc | some f=>fnV f
 el:=λo=>match o with | none=>.lit (.int .i64 (-1)) | some f=>.lit (.int .i64 (f:Int))
 ok:=λ_=>True
 made:=λo _=>by cases o <;> simp [fnR]
 inv:=λx o ps _ h=>by
  unfold fnR at h
  split at h
  ·rename_i f a b
   split at h
   ·rename_i hab
    obtain ⟨rfl,rfl⟩:=hab
    cases o with
    | none=>simp at h
    | some g =>
     simp at h
     obtain ⟨h,-⟩:=h
     have e:f=g:=Int.ofNat_inj.1 h
     rw [e]
   ·cases h
  ·cases o with
   | none=>rfl
   | some g=>simp at h
  ·cases h
theorem jTv (w:World):(zeroValue 285).run Tryz.prog w=.ok (EF.ev none) w:=by kernel_rfl
def jP5:List (Nat × Option Nat):=[(8,some 206),(7,some 205),(4,some 204),(3,some 204),(2,some 204),(6,some 203),(5,some 202),(1,some 201)]
theorem jS6 (w:World):Calls Tryz.prog 159 #[] w λe w'=>∃ b,e=.returned (.map (some b))∧MapAs KI EF w' b 8 jP5∧Fr [] w w':=by
 have hmm:=@run_makeMap Tryz.prog
 have h0:=MapAs.made (KR:=KI) (ER:=EF) w
 obtain ⟨w1,r1,h1,g1⟩:=MapAs.putRun h0 Tryz.underlying286 (by unfold maxLen;decide) (k:=1) (show 1<256 by decide) (v:=some 201) trivial
 replace r1:(Instr.mapUpdate 286 (.map (some w.heap.size)) (.int .i64 1) (.func (.func 201) #[] #[])).run Tryz.prog (w.alloc (.map #[] 0))=.ok () w1:=r1
 obtain ⟨w5,r5,h5,g5⟩:=MapAs.putRun h1 Tryz.underlying286 (by unfold maxLen;decide) (k:=5) (show 5<256 by decide) (v:=some 202) trivial
 replace r5:(Instr.mapUpdate 286 (.map (some w.heap.size)) (.int .i64 5) (.func (.func 202) #[] #[])).run Tryz.prog w1=.ok () w5:=r5
 obtain ⟨w6,r6,h6,g6⟩:=MapAs.putRun h5 Tryz.underlying286 (by unfold maxLen;decide) (k:=6) (show 6<256 by decide) (v:=some 203) trivial
 replace r6:(Instr.mapUpdate 286 (.map (some w.heap.size)) (.int .i64 6) (.func (.func 203) #[] #[])).run Tryz.prog w5=.ok () w6:=r6
 obtain ⟨w2,r2,h2,g2⟩:=MapAs.putRun h6 Tryz.underlying286 (by unfold maxLen;decide) (k:=2) (show 2<256 by decide) (v:=some 204) trivial
 replace r2:(Instr.mapUpdate 286 (.map (some w.heap.size)) (.int .i64 2) (.func (.func 204) #[] #[])).run Tryz.prog w6=.ok () w2:=r2
 obtain ⟨w3,r3,h3,g3⟩:=MapAs.putRun h2 Tryz.underlying286 (by unfold maxLen;decide) (k:=3) (show 3<256 by decide) (v:=some 204) trivial
 replace r3:(Instr.mapUpdate 286 (.map (some w.heap.size)) (.int .i64 3) (.func (.func 204) #[] #[])).run Tryz.prog w2=.ok () w3:=r3
 obtain ⟨w4,r4,h4,g4⟩:=MapAs.putRun h3 Tryz.underlying286 (by unfold maxLen;decide) (k:=4) (show 4<256 by decide) (v:=some 204) trivial
 replace r4:(Instr.mapUpdate 286 (.map (some w.heap.size)) (.int .i64 4) (.func (.func 204) #[] #[])).run Tryz.prog w3=.ok () w4:=r4
 obtain ⟨w7,r7,h7,g7⟩:=MapAs.putRun h4 Tryz.underlying286 (by unfold maxLen;decide) (k:=7) (show 7<256 by decide) (v:=some 205) trivial
 replace r7:(Instr.mapUpdate 286 (.map (some w.heap.size)) (.int .i64 7) (.func (.func 205) #[] #[])).run Tryz.prog w4=.ok () w7:=r7
 obtain ⟨w8,r8,h8,g8⟩:=MapAs.putRun h7 Tryz.underlying286 (by unfold maxLen;decide) (k:=8) (show 8<256 by decide) (v:=some 206) trivial
 replace r8:(Instr.mapUpdate 286 (.map (some w.heap.size)) (.int .i64 8) (.func (.func 206) #[] #[])).run Tryz.prog w7=.ok () w8:=r8
 have HM:Hid (MapAs KI EF w8 w.heap.size 8 jP5∧Fr [] w w8):=⟨h8,(((((((((Fr.refl [w.heap.size] w).alloc _).trans (Fr.of_grown1 g1)).trans (Fr.of_grown1 g5)).trans (Fr.of_grown1 g6)).trans (Fr.of_grown1 g2)).trans (Fr.of_grown1 g3)).trans (Fr.of_grown1 g4)).trans (Fr.of_grown1 g7)).trans (Fr.of_grown1 g8) |>.mono (λk hk hm=>by simp at hm;omega)⟩
 clear h0 h1 h5 h6 h2 h3 h4 h7 h8 g1 g5 g6 g2 g3 g4 g7 g8
 go_enter Tryz.func159,Tryz.ntmps159
 go_wp2
 go_ret
 exact ⟨_,rfl,HM.out⟩
end Go.Proofs.YtcalalndmcemiaaGreatDoor
