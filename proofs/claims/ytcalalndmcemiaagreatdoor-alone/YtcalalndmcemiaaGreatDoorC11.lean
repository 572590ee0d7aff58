import Derived.Test.YtcalalndmcemiaaGreatDoorC10
set_option maxRecDepth 100000
set_option maxHeartbeats 16000000
namespace Go.Proofs.YtcalalndmcemiaaGreatDoor
open Go.RowKit
open Sc
structure ALog where
 segs:List Nat
 filled:Nat
 recs:List Rec
 next:Nat
 durable:Nat
 failed:Nat
def u64s (l:List Nat):List Value:=l.map λx:Nat=>.int .u64 (x:Int)
theorem jRw (l:List Nat) (x:Nat):u64s (l++[x])=u64s l++[.int .u64 (x:Int)]:=by simp [u64s]
abbrev dskV (p:Nat):Value:=.iface 73 (.pointer (some ⟨p,0,none⟩))
abbrev logO (p:Nat) (sv rv:Value) (l:ALog):Obj:=.cells #[dskV p,sv,.int .i64 (l.filled:Int),rv,.int .u64 (l.next:Int),.int .u64 (l.durable:Int),errN l.failed] 222
def refs:Option Obj→List Nat
 | some (.cells c _ _)=>c.toList.filterMap λv=>match v with
  | .map r=>r
  | .slice (some a) _ _=>some a.block
  | _=>none
 | _=>[]
def Own (lp p:Nat) (w:World) (k:Nat):Prop:=k=lp∨k=p∨k∈refs w.heap[lp]?∨k∈refs w.heap[p]?
structure OFr (lp p:Nat) (w w':World):Prop where
 os:w'.os=w.os
 tape:w'.tape=w.tape
 output:w'.output=w.output
 size:w.heap.size≤w'.heap.size
 block:∀ k,k<w.heap.size→¬ Own lp p w k→w'.heap[k]?=w.heap[k]?
 stay:∀ k,k<w.heap.size→Own lp p w' k→Own lp p w k
theorem OFr.refl (lp p:Nat) (w:World):OFr lp p w w:=⟨rfl,rfl,rfl,Nat.le_refl _,λ_ _ _=>rfl,λ_ _ h=>h⟩
theorem OFr.trans {lp p:Nat} {a b c:World} (h:OFr lp p a b) (k:OFr lp p b c):OFr lp p a c :=
 ⟨k.os.trans h.os,k.tape.trans h.tape,k.output.trans h.output,Nat.le_trans h.size k.size,
  λi hi hn=>(k.block i (Nat.lt_of_lt_of_le hi h.size) (λho=>hn (h.stay i hi ho))).trans (h.block i hi hn),
  λi hi ho=>h.stay i hi (k.stay i (Nat.lt_of_lt_of_le hi h.size) ho)⟩
structure LogIn (w:World) (B lp p bD bN:Nat) (pv sv rv:Value) (l:ALog) (d:ADisk) (n nD nN:Nat):Prop where
 disk:DiskIn w B p bD bN pv d n nD nN
 blk:w.heap[lp]?=some (logO p sv rv l)
 base:B≤lp
 segs:w.ownsRow B 43 1 sv l.segs.length (u64s l.segs)
 recs:w.ownsRow B 110 3 rv l.recs.length (jD2 l.recs)
 segsN:l.segs.length≤n∧∀ s∈l.segs,s<18446744073709551616
 recsN:l.recs.length≤n
 fillN:l.filled≤4096
 nextN:l.next≤n+1
 durN:l.durable<18446744073709551616
theorem jAu {w:World} {B n:Nat} {e:TypeId} {k:Nat} {v:Value} {xs:List Value} (h:w.ownsRow B e k v n xs):∃ a m c,v=.slice a m c:=by
 rcases h.2 with ⟨rfl,_⟩ | ⟨g,cap,cur,rfl,_⟩
 ·exact ⟨_,_,_,rfl⟩
 ·exact ⟨_,_,_,rfl⟩
def ref1 (v:Value):Option Nat:=match v with
 | .map r=>r
 | .slice (some a) _ _=>some a.block
 | _=>none
theorem jHl (c:Array Value) (t:TypeId) (fr:Nat × Nat):refs (some (.cells c t fr))=c.toList.filterMap ref1:=rfl
theorem jFh {v:Value} (h:∃ a m c,v=.slice a m c):ref1 v=v.ownBlock:=by
 obtain ⟨a,m,c,rfl⟩:=h
 cases a <;> rfl
theorem jTo (n:Nat):ref1 (errN n)=none:=by unfold errN;split <;> rfl
theorem jVq {p:Nat} {sv rv:Value} {l:ALog} (hs:∃ a m c,sv=.slice a m c) (hr:∃ a m c,rv=.slice a m c) (k:Nat):k∈refs (some (logO p sv rv l))↔sv.ownBlock=some k∨rv.ownBlock=some k:=by
 rw [jHl]
 simp only [List.mem_filterMap,List.mem_cons,List.not_mem_nil,or_false]
 constructor
 ·rintro ⟨v,hv,hk⟩
  rcases hv with rfl | rfl | rfl | rfl | rfl | rfl | rfl
  ·cases hk
  ·left;rw [← jFh hs];exact hk
  ·cases hk
  ·right;rw [← jFh hr];exact hk
  ·cases hk
  ·cases hk
  ·rw [jTo] at hk;cases hk
 ·rintro (h | h)
  ·exact ⟨sv,by simp,by rw [jFh hs];exact h⟩
  ·exact ⟨rv,by simp,by rw [jFh hr];exact h⟩
theorem jPj {bD bN:Nat} {pv:Value} {a b:Int} {dn:Bool} (hp:∃ a m c,pv=.slice a m c) (k:Nat):k∈refs (some (dskO bD bN pv a b dn))↔k=bD∨k=bN∨pv.ownBlock=some k:=by
 rw [jHl]
 simp only [List.mem_filterMap,List.mem_cons,List.not_mem_nil,or_false]
 constructor
 ·rintro ⟨v,hv,hk⟩
  rcases hv with rfl | rfl | rfl | rfl | rfl | rfl
  ·left;cases hk;rfl
  ·right;left;cases hk;rfl
  ·right;right;rw [← jFh hp];exact hk
  ·cases hk
  ·cases hk
  ·cases hk
 ·rintro (h | h | h)
  ·exact ⟨.map (some bD),by simp,by subst h;rfl⟩
  ·exact ⟨.map (some bN),by simp,by subst h;rfl⟩
  ·exact ⟨pv,by simp,by rw [jFh hp];exact h⟩
section
variable {w w':World} {B lp p bD bN n nD nN bN' n' nD' nN':Nat} {pv sv rv pv' sv' rv':Value} {l l':ALog} {d d':ADisk}
theorem LogIn.own (h:LogIn w B lp p bD bN pv sv rv l d n nD nN) (k:Nat):Own lp p w k↔k=lp∨k=p∨k=bD∨k=bN∨pv.ownBlock=some k∨sv.ownBlock=some k∨rv.ownBlock=some k:=by
 unfold Own
 rw [h.blk,h.disk.blk,jVq (jAu h.segs) (jAu h.recs),jPj (jAu h.disk.pen)]
 constructor
 ·rintro (h | h | (h | h) | (h | h | h)) <;> simp [h]
 ·rintro (h | h | h | h | h | h | h) <;> simp [h]
theorem LogIn.ofr {S:List Nat} (h:LogIn w B lp p bD bN pv sv rv l d n nD nN) (h':LogIn w' B lp p bD bN' pv' sv' rv' l' d' n' nD' nN') (hf:Fr S w w')
  (hS:∀ k∈S,k<w.heap.size→k=lp∨k=p∨k=bD∨k=bN∨pv.ownBlock=some k∨sv.ownBlock=some k∨rv.ownBlock=some k)
  (hb:bN'=bN∨w.heap.size≤bN') (h1:Near w.heap.size pv pv') (h2:Near w.heap.size sv sv') (h3:Near w.heap.size rv rv'):OFr lp p w w':=by
 refine ⟨hf.os,hf.tape,hf.output,hf.size,λk hk hn=>hf.block k hk (λhm=>hn ((h.own k).2 (hS k hm hk))),λk hk ho=>?_⟩
 rw [h.own]
 rcases (h'.own k).1 ho with e | e | e | e | e | e | e
 ·exact .inl e
 ·exact .inr (.inl e)
 ·exact .inr (.inr (.inl e))
 ·rcases hb with hb | hb
  ·exact .inr (.inr (.inr (.inl (e.trans hb))))
  ·omega
 ·rcases h1 k e with e | e
  ·exact .inr (.inr (.inr (.inr (.inl e))))
  ·omega
 ·rcases h2 k e with e | e
  ·exact .inr (.inr (.inr (.inr (.inr (.inl e)))))
  ·omega
 ·rcases h3 k e with e | e
  ·exact .inr (.inr (.inr (.inr (.inr (.inr e)))))
  ·omega
theorem LogIn.sep (h:LogIn w B lp p bD bN pv sv rv l d n nD nN):∀ k∈dS p bD bN pv,k≠lp∧sv.ownBlock≠some k∧rv.ownBlock≠some k:=by
 intro k hk
 have key:∀ (c:Array Value) (t:TypeId) (q:Nat),w.heap[q]?=some (.cells c t (0,0))→t≠96→t≠182→k≠q:=by
  intro c t q hq h1 h2 e
  subst e
  rcases List.mem_cons.1 hk with e | hk
  ·rw [e,h.disk.blk] at hq;cases hq;exact h1 rfl
  rcases List.mem_cons.1 hk with e | hk
  ·exact h.disk.dur.ne_cells hq e.symm
  rcases List.mem_cons.1 hk with e | hk
  ·exact h.disk.now.ne_cells hq e.symm
  ·simp at hk;exact jAe h.disk.pen hq (λe=>h2 e.symm) hk
 refine ⟨key _ _ lp h.blk dN dN,λe=>?_,λe=>?_⟩
 ·obtain ⟨c,hc⟩:=jA4 h.segs e
  exact key _ _ k hc dN dN rfl
 ·obtain ⟨c,hc⟩:=jA4 h.recs e
  exact key _ _ k hc dN dN rfl
theorem LogIn.turned {S:List Nat} (h:LogIn w B lp p bD bN pv sv rv l d n nD nN) (hd:DiskIn w' B p bD bN pv' d' n' nD' nN') (hf:Fr S w w') (hS:∀ k∈S,k<w.heap.size→k≠lp∧sv.ownBlock≠some k∧rv.ownBlock≠some k) (hn:n≤n'):LogIn w' B lp p bD bN pv' sv rv l d' n' nD' nN' where
 disk:=hd
 blk:=(hf.block lp (Array.getElem?_eq_some_iff.1 h.blk).1 (λhm=>(hS lp hm (Array.getElem?_eq_some_iff.1 h.blk).1).1 rfl)).trans h.blk
 base:=h.base
 segs:=jA7 h.segs hf (λg hg hm=>(hS g hm (h.segs.lt g hg).2).2.1 hg)
 recs:=jA7 h.recs hf (λg hg hm=>(hS g hm (h.recs.lt g hg).2).2.2 hg)
 segsN:=⟨by have:=h.segsN.1;omega,h.segsN.2⟩
 recsN:=by have:=h.recsN;omega
 fillN:=h.fillN
 nextN:=by have:=h.nextN;omega
 durN:=h.durN
end
theorem LogIn.own1 {w w':World} {B lp p bD bN n nD nN:Nat} {pv sv rv:Value} {l l':ALog} {d:ADisk} (h:LogIn w B lp p bD bN pv sv rv l d n nD nN) (hf:Fr [lp] w w') (hb:w'.heap[lp]?=some (logO p sv rv l'))
  (h1:l'.segs.length≤n∧∀ s∈l'.segs,s<18446744073709551616) (h2:l'.recs.length≤n) (h3:l'.filled≤4096) (h4:l'.next≤n+1) (h5:l'.durable<18446744073709551616) (e1:l'.segs=l.segs) (e2:l'.recs=l.recs):LogIn w' B lp p bD bN pv sv rv l' d n nD nN:=by
 have hne:∀ k∈dS p bD bN pv,k∉[lp]:=λk hk hm=>by simp at hm;exact (h.sep k hk).1 hm
 refine { disk:=?_,blk:=hb,base:=h.base,segs:=?_,recs:=?_,segsN:=h1,recsN:=h2,fillN:=h3,nextN:=h4,durN:=h5 }
 ·refine h.disk.fr hf (hne p sE) (hne bD sE) (hne bN sE) (λg hg=>hne g (by simp [hg])) ?_
  intro q hq t;simp at hq;subst hq;rw [h.blk];intro e;cases e
 ·rw [e1];exact jA7 h.segs hf (λg hg=>by simp;intro e;subst e;exact jAe h.segs h.blk dN hg)
 ·rw [e2];exact jA7 h.recs hf (λg hg=>by simp;intro e;subst e;exact jAe h.recs h.blk dN hg)
def jQv (B lp p bD bN:Nat) (l:ALog) (d:ADisk) (n:Nat) (w w':World):Prop :=
 (∃ pv sv rv nD nN,LogIn w' B lp p bD bN pv sv rv l d n nD nN)∧OFr lp p w w'
theorem Tryz.mAppend (h:Value) (w:World):(Go.method 593 73 h "Append").run Tryz.prog w=.ok (380,h) w:=by kernel_rfl
theorem Tryz.mNames (h:Value) (w:World):(Go.method 593 73 h "Names").run Tryz.prog w=.ok (381,h) w:=by kernel_rfl
theorem Tryz.mRead (h:Value) (w:World):(Go.method 593 73 h "Read").run Tryz.prog w=.ok (382,h) w:=by kernel_rfl
theorem Tryz.mSync (h:Value) (w:World):(Go.method 593 73 h "Sync").run Tryz.prog w=.ok (385,h) w:=by kernel_rfl
def ALog.sync (l:ALog) (d:ADisk):ALog × ADisk × Nat :=
 if d.sync.2=0 then ({ l with durable:=l.next },d.sync.1,0) else (l,d.sync.1,d.sync.2)
theorem jGl (B lp p bD bN n nD nN:Nat) (pv sv rv:Value) (l:ALog) (d:ADisk) (w:World) (h:LogIn w B lp p bD bN pv sv rv l d n nD nN) (hn:n≤67108864) :
  Calls Tryz.prog 121 #[.pointer (some ⟨lp,0,none⟩)] w λe w'=>e=.returned (errN (l.sync d).2.2)∧jQv B lp p bD bN (l.sync d).1 (l.sync d).2.1 n w w':=by
 have c0:=jA0 h.blk 0
 simp at c0
 have HI:Hid (LogIn w B lp p bD bN pv sv rv l d n nD nN):=h
 clear h
 go_enter Tryz.func121,Tryz.ntmps121
 have hm:=Tryz.mSync
 go_wp2_with fail
 refine (jMu B p bD bN n nD nN pv d w HI.out.disk).mono ?_
 rintro e w1 ⟨rfl,⟨pv1,nD1,hd1,hne1⟩,hf1⟩
 have hl1:LogIn w1 B lp p bD bN pv1 sv rv l d.sync.1 n nD1 nN:=HI.out.turned hd1 hf1 (λk hk _=>HI.out.sep k (by simp at hk;rcases hk with h | h <;> simp [h])) (Nat.le_refl _)
 have ho1:OFr lp p w w1:=HI.out.ofr hl1 hf1 (λk hk _=>by simp at hk;rcases hk with h | h <;> simp [h]) (.inl rfl) hne1 (Near.refl _ _) (Near.refl _ _)
 have H1:Hid (LogIn w1 B lp p bD bN pv1 sv rv l d.sync.1 n nD1 nN):=hl1
 have HO:Hid (OFr lp p w w1):=ho1
 have k4:=jA0 hl1.blk 4
 have k5:=jA0 hl1.blk 5
 have f5:=jA2 hl1.blk 5
 simp at k4 k5
 clear hd1 hne1 hf1 hl1 ho1 c0
 by_cases hc:d.sync.2=0
 ·rw [hc,jAt]
  go_wp2
  go_ret
  have e:l.sync d=({ l with durable:=l.next },d.sync.1,0):=by unfold ALog.sync;rw [if_pos hc]
  rw [e]
  obtain ⟨W,hW⟩:∃ W,W=w1.setCell ⟨lp,5,none⟩ (.int .u64 (l.next:Int)):=⟨_,rfl⟩
  rw [← hW]
  have hf:Fr [lp] w1 W:=by rw [hW];exact Fr.set1 sE _ _
  have hb:W.heap[lp]?=some (logO p sv rv { l with durable:=l.next }):=by rw [hW];have:=jA5 H1.out.blk 5 (.int .u64 (l.next:Int));simpa using this
  have hl2:LogIn W B lp p bD bN pv1 sv rv { l with durable:=l.next } d.sync.1 n nD1 nN:=H1.out.own1 hf hb H1.out.segsN H1.out.recsN H1.out.fillN H1.out.nextN (by have:=H1.out.nextN;simp;omega) rfl rfl
  exact ⟨rfl,⟨pv1,sv,rv,nD1,nN,hl2⟩,HO.out.trans (H1.out.ofr hl2 hf (λk hk _=>by simp at hk;simp [hk]) (.inl rfl) (Near.refl _ _) (Near.refl _ _) (Near.refl _ _))⟩
 ·have e:l.sync d=(l,d.sync.1,d.sync.2):=by unfold ALog.sync;rw [if_neg hc]
  rw [jAc hc]
  go_wp2
  go_ret
  rw [e]
  exact ⟨by rw [jAc hc];rfl,⟨pv1,sv,rv,nD1,nN,H1.out⟩,HO.out⟩
theorem Tryz.infoU64:(Tryz.prog.info? 43).map (λi=>(i.zero,i.size,i.bytes))=some (some (.int .u64 0),1,8):=by kernel_rfl
theorem jPs {w:World} {o:Oper} {a:Act} {K:Act→World→Prop} {Q:Exit→Act→World→Prop} (s x:Operand)
  (ho:o.op=.call { callee:=.builtin .append,args:=#[s,x],argTypes:=#[220,220] })
  (base:Nat) (v:Value) (n:Nat) (l:List Nat) (r:Nat) (b:Nat) (hs:a.eval s=v) (hown:w.ownsRow base 43 1 v n (u64s l)) (hx:a.eval x=.slice (some ⟨b,0,none⟩) 1 1)
  (hb:w.cell? ⟨b,0,none⟩=some (.int .u64 (r:Int))) (hn:n≤1073741824) (hbase:base≤w.heap.size)
  (h:∀ v' w',w'.ownsRow base 43 1 v' (n+1) (u64s (l++[r]))→w.grownBy w' v.ownBlock→(v'.ownBlock=v.ownBlock∨v'.ownBlock=some w.heap.size)→K (a.put o.dst v') w'):o.wp Tryz.prog a w K Q:=by
 obtain ⟨i0,hi,hz0,hz1,hz2⟩:=info_parts Tryz.infoU64
 refine jBn s x 220 ho base 43 i0 _ 1 8 Tryz.underlying220 hi hz0 hz1 hz2 rfl dN v n (u64s l) hs hown ⟨b,0,none⟩ 1 1 [.int .u64 (r:Int)] hx rfl ?_ ?_ (by unfold maxLen;omega) oE hbase ?_
 ·intro jj u hjj
  match jj,hjj with
  | 0,hjj=>simp at hjj;subst hjj;simpa [Addr.add] using hb
 ·intro u hu;simp at hu;subst hu;rfl
 ·intro v' w' ho' hg' hl'
  refine h v' w' ?_ hg' hl'
  rw [jRw];exact ho'
def ALog.room (l:ALog) (d:ADisk):ALog × ADisk × Nat :=
 if l.filled<600 then (l,d,0)
 else if (l.sync d).2.2=0 then ({ (l.sync d).1 with segs:=(l.sync d).1.segs++[(l.sync d).1.next],filled:=0 },(l.sync d).2.1,0)
 else l.sync d
theorem LogIn.more {w:World} {B lp p bD bN n nD nN:Nat} {pv sv rv:Value} {l:ALog} {d:ADisk} (h:LogIn w B lp p bD bN pv sv rv l d n nD nN) (hn:n<67108864):LogIn w B lp p bD bN pv sv rv l d (n+1) nD nN :=
 { h with disk:=h.disk.more hn,segsN:=⟨by have:=h.segsN.1;omega,h.segsN.2⟩,recsN:=by have:=h.recsN;omega,nextN:=by have:=h.nextN;omega }
theorem jVr {w1 w4:World} {B lp p bD bN n nD nN:Nat} {pv sv rv:Value} {l:ALog} {d:ADisk} {ob:Obj} {r:Option Nat} (h:LogIn w1 B lp p bD bN pv sv rv l d n nD nN) (hg:(w1.alloc ob).drew.grownBy w4 r) (hr:r≠some lp) (i:Nat) :
  w4.cell? ⟨lp,i,none⟩=w1.cell? ⟨lp,i,none⟩∧w4.frozen? ⟨lp,i,none⟩=false∧w4.heap[lp]?=some (logO p sv rv l):=by
 have hl:=(Array.getElem?_eq_some_iff.1 h.blk).1
 have k1:w4.heap[lp]?=w1.heap[lp]?:=by
  rw [hg.block lp (by simp;omega) (λe=>hr e.symm)]
  exact Below.heap_alloc w1 _ lp hl
 exact ⟨World.cell?_of_block (a:=⟨lp,i,none⟩) k1,(World.frozen?_of_block (a:=⟨lp,i,none⟩) k1).trans (jA2 h.blk i),k1.trans h.blk⟩
theorem LogIn.rows {w W:World} {B lp p bD bN n nD nN n':Nat} {pv sv rv sv' rv':Value} {l l':ALog} {d:ADisk} {S:List Nat} (h:LogIn w B lp p bD bN pv sv rv l d n nD nN) (hf:Fr S w W) (hS:∀ k∈S,k<w.heap.size→k=lp∨sv.ownBlock=some k∨rv.ownBlock=some k)
  (hb:W.heap[lp]?=some (logO p sv' rv' l')) (hs:W.ownsRow B 43 1 sv' l'.segs.length (u64s l'.segs)) (hr:W.ownsRow B 110 3 rv' l'.recs.length (jD2 l'.recs))
  (hn:n≤n') (hn':n'≤67108864) (h1:l'.segs.length≤n'∧∀ s∈l'.segs,s<18446744073709551616) (h2:l'.recs.length≤n') (h3:l'.filled≤4096) (h4:l'.next≤n' + 1) (h5:l'.durable<18446744073709551616):LogIn W B lp p bD bN pv sv' rv' l' d n' nD nN:=by
 have hne:∀ k∈dS p bD bN pv,k<w.heap.size→k∉S:=λk hk hl hm=>by
  have:=h.sep k hk
  rcases hS k hm hl with e | e | e
  ·exact this.1 e
  ·exact this.2.1 e
  ·exact this.2.2 e
 have hl1:=(Array.getElem?_eq_some_iff.1 h.disk.blk).1
 have hd:DiskIn W B p bD bN pv d n nD nN:=by
  refine h.disk.fr hf (hne p sE hl1) (hne bD sE h.disk.dur.lt) (hne bN sE h.disk.now.lt) (λg hg=>hne g (by simp [hg]) (h.disk.pen.lt g hg).2) ?_
  intro q hq t e
  have hql:=(Array.getElem?_eq_some_iff.1 e).1
  rcases hS q hq hql with e1 | e1 | e1
  ·subst e1;rw [h.blk] at e;cases e
  ·exact jAe h.segs e dN e1
  ·exact jAe h.recs e dN e1
 exact { disk:={ hd with hD:=by have:=hd.hD;omega,hN:=by have:=hd.hN;omega,hn:=hn' },blk:=hb,base:=h.base,segs:=hs,recs:=hr,segsN:=h1,recsN:=h2,fillN:=h3,nextN:=h4,durN:=h5 }
theorem jSq (B lp p bD bN n nD nN:Nat) (pv sv rv:Value) (l:ALog) (d:ADisk) (w:World) (h:LogIn w B lp p bD bN pv sv rv l d n nD nN) (hn:n<67108864) :
  Calls Tryz.prog 130 #[.pointer (some ⟨lp,0,none⟩)] w λe w'=>e=.returned (errN (l.room d).2.2)∧jQv B lp p bD bN (l.room d).1 (l.room d).2.1 (n+1) w w':=by
 have c2:=jA0 h.blk 2
 simp at c2
 have HI:Hid (LogIn w B lp p bD bN pv sv rv l d n nD nN):=h
 clear h
 by_cases hf:l.filled<600
 ·have e:l.room d=(l,d,0):=by unfold ALog.room;rw [if_pos hf]
  rw [e]
  have i1:(l.filled:Int)<600:=by omega
  go_enter Tryz.func130,Tryz.ntmps130
  go_wp2
  go_ret
  exact ⟨rfl,⟨pv,sv,rv,nD,nN,HI.out.more hn⟩,OFr.refl _ _ _⟩
 ·have i1:¬ (l.filled:Int)<600:=by omega
  have HF:Hid (¬ l.filled<600):=hf
  clear hf
  go_enter Tryz.func130,Tryz.ntmps130
  go_wp2_with fail
  refine (jGl B lp p bD bN n nD nN pv sv rv l d w HI.out oE).mono ?_
  rintro e w1 ⟨rfl,⟨pv1,sv1,rv1,nD1,nN1,hl1⟩,ho1⟩
  have H1:Hid (LogIn w1 B lp p bD bN pv1 sv1 rv1 (l.sync d).1 (l.sync d).2.1 n nD1 nN1):=hl1
  have HO:Hid (OFr lp p w w1):=ho1
  have k1:=jA0 hl1.blk 1
  have k2:=jA0 hl1.blk 2
  have k4:=jA0 hl1.blk 4
  have f1:=jA2 hl1.blk 1
  simp at k1 k2 k4
  have hlp:lp<w1.heap.size:=(Array.getElem?_eq_some_iff.1 hl1.blk).1
  have ha:∀ ob i,(w1.alloc ob).cell? ⟨lp,i,none⟩=w1.cell? ⟨lp,i,none⟩:=λob i=>World.cell?_of_block (a:=⟨lp,i,none⟩) (Below.heap_alloc w1 ob lp hlp)
  have ha1:∀ ob,(w1.alloc ob).cell? ⟨lp,1,none⟩=some sv1:=λob=>(ha ob 1).trans k1
  have ha4:∀ ob,(w1.alloc ob).cell? ⟨lp,4,none⟩=some (.int .u64 ((l.sync d).1.next:Int)):=λob=>(ha ob 4).trans k4
  clear ha
  clear hl1 ho1 c2
  by_cases hc:(l.sync d).2.2=0
  ·rw [hc,jAt]
   go_wp2
   go_region_law (first | (rw [if_pos (by rfl)];refine jPs _ _ rfl B sv1 (l.sync d).1.segs.length (l.sync d).1.segs (l.sync d).1.next w1.heap.size rfl ?_ rfl ?_ ?_ ?_ ?_;(exact H1.out.segs.alloc _);(simp);(have:=H1.out.segsN.1;omega);(have:=H1.out.disk.base.2.2.2;simp;omega);intro v4 w4 ho4 hg4 hl4;obtain ⟨g4,cap4,rfl⟩:=jBy ho4;obtain ⟨q1,q2,q3⟩:=jVr H1.out hg4 (jAe H1.out.segs H1.out.blk (by decide)) 1;rw [k1] at q1;have HL4:Hid (Near w1.heap.size sv1 (.slice (some ⟨g4,0,none⟩) ((l.sync d).1.segs.length+1) cap4)):=Near.of_at hl4 (by simp);clear hl4))
   all_goals (
    have r2:=(jA0 q3 2)
    have t2:=(jA2 q3 2)
    simp at r2
    have Q3:Hid (w4.heap[lp]?=some (logO p sv1 rv1 (l.sync d).1)):=q3
    clear q3
    go_wp2
    go_ret
    have e:l.room d=({ (l.sync d).1 with segs:=(l.sync d).1.segs++[(l.sync d).1.next],filled:=0 },(l.sync d).2.1,0):=by unfold ALog.room;rw [if_neg HF.out,if_pos hc]
    rw [e]
    obtain ⟨W,hW⟩:∃ W,W=(w4.setCell ⟨lp,1,none⟩ (.slice (some ⟨g4,0,none⟩) ((l.sync d).1.segs.length+1) cap4)).setCell ⟨lp,2,none⟩ (.int .i64 0):=⟨_,rfl⟩
    rw [← hW]
    have hfw:Fr [lp] w4 W:=by rw [hW];exact (Fr.set1 sE _ _).trans (Fr.set1 sE _ _)
    have hf:Fr (lp :: sv1.ownBlock.toList) w1 W:=((((Fr.refl _ w1).alloc _).drew).trans ((Fr.of_grown hg4).mono (λk _ hk=>List.mem_cons_of_mem _ hk))).trans (hfw.mono (by intro k _ hk;simp at hk;simp [hk]))
    have hb:W.heap[lp]?=some (logO p (.slice (some ⟨g4,0,none⟩) ((l.sync d).1.segs.length+1) cap4) rv1 { (l.sync d).1 with segs:=(l.sync d).1.segs++[(l.sync d).1.next],filled:=0 }):=by
     rw [hW]
     have:=jA5 (jA5 Q3.out 1 (.slice (some ⟨g4,0,none⟩) ((l.sync d).1.segs.length+1) cap4)) 2 (.int .i64 0)
     simp at this
     exact this
    have hs:W.ownsRow B 43 1 (.slice (some ⟨g4,0,none⟩) ((l.sync d).1.segs.length+1) cap4) ((l.sync d).1.segs++[(l.sync d).1.next]).length (u64s ((l.sync d).1.segs++[(l.sync d).1.next])):=by
     have:=jA7 ho4 hfw (λg hg=>by simp;intro e;subst e;exact jAe ho4 Q3.out dN hg)
     simpa using this
    have hr:W.ownsRow B 110 3 rv1 (l.sync d).1.recs.length (jD2 (l.sync d).1.recs):=jA7 H1.out.recs hf (λg hg hm=>by
     rcases List.mem_cons.1 hm with e | hm
     ·subst e;exact jAe H1.out.recs H1.out.blk dN hg
     ·simp at hm;obtain ⟨c,hcc⟩:=jA4 H1.out.segs hm;exact jAe H1.out.recs hcc dN hg)
    have hnx:=H1.out.nextN
    have hl2:=H1.out.rows (n':=n+1) hf (by intro k hk _;rcases List.mem_cons.1 hk with e | hk;exact .inl e;simp at hk;exact .inr (.inl hk)) hb hs hr oE oE
     ⟨by have:=H1.out.segsN.1;simp;omega,by intro x hx;rcases List.mem_append.1 hx with hx | hx;exact H1.out.segsN.2 x hx;simp at hx;omega⟩ (by have:=H1.out.recsN;simp;omega) sE (by simp;omega) H1.out.durN
    exact ⟨rfl,⟨pv1,_,rv1,nD1,nN1,hl2⟩,HO.out.trans (H1.out.ofr hl2 hf (by intro k hk _;rcases List.mem_cons.1 hk with e | hk;simp [e];simp at hk;simp [hk]) (.inl rfl) (Near.refl _ _) HL4.out (Near.refl _ _))⟩)
  ·have e:l.room d=l.sync d:=by unfold ALog.room;rw [if_neg HF.out,if_neg hc]
   rw [jAc hc]
   go_wp2
   go_ret
   rw [e]
   exact ⟨by rw [jAc hc];rfl,⟨pv1,sv1,rv1,nD1,nN1,H1.out.more hn⟩,HO.out⟩
theorem jNn {w:World} {B p bD bN n nD nN q:Nat} {pv:Value} {d:ADisk} {c:Array Value} {t:TypeId} {fr:Nat × Nat} (h:DiskIn w B p bD bN pv d n nD nN) (hq:w.heap[q]?=some (.cells c t fr)) (h1:t≠96) (h2:t≠182):q∉dS p bD bN pv:=by
 intro hm
 rcases List.mem_cons.1 hm with e | hm
 ·rw [e,h.blk] at hq;cases hq;exact h1 rfl
 rcases List.mem_cons.1 hm with e | hm
 ·exact h.dur.ne_cells hq e.symm
 rcases List.mem_cons.1 hm with e | hm
 ·exact h.now.ne_cells hq e.symm
 ·simp at hm;exact jAe h.pen hq (λe=>h2 e.symm) hm
theorem jDy {w:World} {B p bD bN n nD nN q g k len cap:Nat} {pv:Value} {d:ADisk} {c:Array Value} {t:TypeId} {fr:Nat × Nat} {xs:List Value} (h:DiskIn w B p bD bN pv d n nD nN) (hr:w.ownsRow k 5 1 (.slice (some ⟨g,0,none⟩) len cap) len xs) (hq:w.heap[q]?=some (.cells c t fr)) (h1:t≠96) (h2:t≠182) (h3:t≠5):q∉g :: dS p bD bN pv:=by
 intro hm
 rcases List.mem_cons.1 hm with e | hm
 ·subst e;obtain ⟨c',hc⟩:=jA4 hr rfl;rw [hc] at hq;cases hq;exact h3 rfl
 ·exact jNn h hq h1 h2 hm
def jUe (B lp p bD bN n nD g:Nat) (pv sv rv:Value) (l:ALog) (d:ADisk) (o:AOp) (w:World) (e:Ending) (w':World):Prop :=
 e=.returned (errN (d.tell o).2)∧(∃ pv' nN',LogIn w' B lp p bD bN pv' sv rv l (d.tell o).1 (n+1) nD nN'∧Near w.heap.size pv pv')∧Fr (g :: dS p bD bN pv) w w'
theorem jRx {w:World} {B g cap n:Nat} {l:List Nat} (h:w.ownsRow B 43 1 (.slice (some ⟨g,0,none⟩) n cap) n (u64s l)) (k x:Nat) (hk:l[k]?=some x):w.cell? ⟨g,k,none⟩=some (.int .u64 (x:Int)):=by
 have h1:(u64s l)[k]?=some (.int .u64 (x:Int)):=by simp [u64s,hk]
 have:=h.cells (g:=g) rfl k _ h1
 simpa [Addr.add_lit] using this
theorem jU5 (B lp p bD bN n nD nN bl bb g m cap base gs cs last:Nat) (pv rv:Value) (l:ALog) (d:ADisk) (by_:List Nat) (w:World) (h:LogIn w B lp p bD bN pv (.slice (some ⟨gs,0,none⟩) l.segs.length cs) rv l d n nD nN) (hn:n<67108864)
  (hlast:l.segs[l.segs.length - 1]?=some last) (hbl:w.heap[bl]?=some (.cells #[.pointer (some ⟨lp,0,none⟩)] 74)) (hbb:w.heap[bb]?=some (.cells #[.slice (some ⟨g,0,none⟩) m cap] 88))
  (hm:by_.length=m) (hr:w.ownsRow base 5 1 (.slice (some ⟨g,0,none⟩) m cap) m (bs by_)) (hm2:m≤4096) (hpow:Pows w) (hu:last<18446744073709551616) :
  Calls Tryz.prog 131 #[.pointer (some ⟨bl,0,none⟩),.pointer (some ⟨bb,0,none⟩)] w (jUe B lp p bD bN n nD g pv (.slice (some ⟨gs,0,none⟩) l.segs.length cs) rv l d ⟨2,jAs last,ByteArray.empty,str by_⟩ w):=by
 subst hm
 have hL:0<l.segs.length:=by
  have:=(List.getElem?_eq_some_iff.1 hlast).1;omega
 have x0:=jA0 hbl 0
 have y0:=jA0 hbb 0
 have c0:=jA0 h.blk 0
 have c1:=jA0 h.blk 1
 have s0:=jRx h.segs _ _ hlast
 simp at x0 y0 c0 c1
 have hcs:=h.segs
 obtain ⟨S,hS⟩:∃ S,S+1=l.segs.length:=⟨l.segs.length - 1,by omega⟩
 have hSn:S<67108864:=by have:=h.segsN.1;omega
 have i0:(0:Int)≤(S:Int):=by omega
 have i1:(S:Int)<(S:Int)+1:=by omega
 have i2:wrap64 (S:Int)=(S:Int):=by unfold wrap64;omega
 have i3:IntKind.i64.wrap (S:Int)=(S:Int):=by rw [IntKind.wrap_i64];omega
 have HI:Hid (LogIn w B lp p bD bN pv (.slice (some ⟨gs,0,none⟩) l.segs.length cs) rv l d n nD nN):=h
 have HX:Hid (w.heap[bl]?=some (.cells #[.pointer (some ⟨lp,0,none⟩)] 74)):=hbl
 have HY:Hid (w.heap[bb]?=some (.cells #[.slice (some ⟨g,0,none⟩) by_.length cap] 88)):=hbb
 have HR:Hid (w.ownsRow base 5 1 (.slice (some ⟨g,0,none⟩) by_.length cap) by_.length (bs by_)):=hr
 have hma:=Tryz.mAppend
 rw [← hS] at c1 s0
 simp only [Nat.add_sub_cancel] at s0
 have HS:Hid (l.segs.length=S+1):=hS.symm
 have hlt:bl<w.heap.size∧bb<w.heap.size∧lp<w.heap.size∧gs<w.heap.size:=⟨(Array.getElem?_eq_some_iff.1 hbl).1,(Array.getElem?_eq_some_iff.1 hbb).1,(Array.getElem?_eq_some_iff.1 h.blk).1,(h.segs.lt gs rfl).2⟩
 have hnt:bl∉g :: dS p bD bN pv∧bb∉g :: dS p bD bN pv∧lp∉g :: dS p bD bN pv∧gs∉g :: dS p bD bN pv:=by
  obtain ⟨cg,hcg⟩:=jA4 h.segs (g:=gs) rfl
  exact ⟨jDy h.disk hr hbl dN dN dN,jDy h.disk hr hbb dN dN dN,jDy h.disk hr h.blk dN dN dN,jDy h.disk hr hcg dN dN dN⟩
 clear h hbl hbb hr hcs hS
 go_enter Tryz.func131,Tryz.ntmps131
 go_wp2
 go_region_held3 (λw'=>w'.cell? ⟨bl,0,none⟩=some (.pointer (some ⟨lp,0,none⟩))∧w'.cell? ⟨bb,0,none⟩=some (.slice (some ⟨g,0,none⟩) by_.length cap)∧w'.cell? ⟨lp,0,none⟩=some (dskV p)∧w'.cell? ⟨lp,1,none⟩=some (.slice (some ⟨gs,0,none⟩) (S+1) cs)∧w'.cell? ⟨gs,S,none⟩=some (.int .u64 (last:Int)))
  (simp [*])
  (first | (go_at_call 380;refine (jOk B p bD bN n nD nN g cap base pv d (jAs last) by_ _ (HI.out.disk.new (Fr.of_below HB1.out [])) hn (by have:=jFy last hu;unfold maxLen;omega) (jA7 HR.out (Fr.of_below HB1.out []) (by simp)) hm2).mono ?_;rintro e w2 ⟨rfl,hd2,hf2⟩;have x2:=(World.cell?_of_block (a:=⟨bl,0,none⟩) (hf2.block bl (Nat.lt_of_lt_of_le hlt.1 HB1.out.size) hnt.1)).trans x1;have y2:=(World.cell?_of_block (a:=⟨bb,0,none⟩) (hf2.block bb (Nat.lt_of_lt_of_le hlt.2.1 HB1.out.size) hnt.2.1)).trans y1;have e0:=(World.cell?_of_block (a:=⟨lp,0,none⟩) (hf2.block lp (Nat.lt_of_lt_of_le hlt.2.2.1 HB1.out.size) hnt.2.2.1)).trans d0;have e1:=(World.cell?_of_block (a:=⟨lp,1,none⟩) (hf2.block lp (Nat.lt_of_lt_of_le hlt.2.2.1 HB1.out.size) hnt.2.2.1)).trans d1;have s2:=(World.cell?_of_block (a:=⟨gs,S,none⟩) (hf2.block gs (Nat.lt_of_lt_of_le hlt.2.2.2 HB1.out.size) hnt.2.2.2)).trans s1) | (go_at_call 132;refine (jGz last w.drew hu (show Pows w.drew from hpow)).mono ?_;rintro e w1 ⟨rfl,hb0⟩;have hb1:Below w.heap.size w w1:=⟨hb0.os,hb0.tape,hb0.output,hb0.size,hb0.block⟩;have x1:=(hb1.cell (p:=⟨bl,0,none⟩) hlt.1).trans x0;have y1:=(hb1.cell (p:=⟨bb,0,none⟩) hlt.2.1).trans y0;have d0:=(hb1.cell (p:=⟨lp,0,none⟩) hlt.2.2.1).trans c0;have d1:=(hb1.cell (p:=⟨lp,1,none⟩) hlt.2.2.1).trans c1;have s1:=(hb1.cell (p:=⟨gs,S,none⟩) hlt.2.2.2).trans s0;have HB1:Hid (Below w.heap.size w w1):=hb1;clear hb1 hb0))
 go_wp2
 go_ret
 obtain ⟨pv2,nN2,hd,hne⟩:=hd2
 have hf0:Fr [] w w1:=Fr.of_below HB1.out []
 have hl1:LogIn w1 B lp p bD bN pv (.slice (some ⟨gs,0,none⟩) l.segs.length cs) rv l d n nD nN:=HI.out.turned (HI.out.disk.new hf0) hf0 sE (Nat.le_refl _)
 have hrv:∀ k∈g :: dS p bD bN pv,rv.ownBlock≠some k:=by
  intro k hk e
  obtain ⟨c,hc⟩:=jA4 HI.out.recs e
  exact jDy HI.out.disk HR.out hc dN dN dN hk
 have hl2:=hl1.turned hd hf2 (λk hk _=>⟨λe=>hnt.2.2.1 (e▸hk),λe=>hnt.2.2.2 (by cases e;exact hk),hrv k hk⟩) oE
 refine ⟨rfl,⟨pv2,nN2,hl2,λk hk=>?_⟩,(hf0.mono sE).trans hf2⟩
 rcases hne k hk with e | e
 ·exact .inl e
 ·right;have:=HB1.out.size;omega
structure OFx (X:List Nat) (lp p:Nat) (w w':World):Prop where
 os:w'.os=w.os
 tape:w'.tape=w.tape
 output:w'.output=w.output
 size:w.heap.size≤w'.heap.size
 block:∀ k,k<w.heap.size→¬ Own lp p w k→k∉X→w'.heap[k]?=w.heap[k]?
 stay:∀ k,k<w.heap.size→Own lp p w' k→Own lp p w k
theorem OFr.x {X:List Nat} {lp p:Nat} {w w':World} (h:OFr lp p w w'):OFx X lp p w w':=⟨h.os,h.tape,h.output,h.size,λk hk hn _=>h.block k hk hn,h.stay⟩
theorem OFx.trans {X:List Nat} {lp p:Nat} {a b c:World} (h:OFx X lp p a b) (k:OFx X lp p b c):OFx X lp p a c :=
 ⟨k.os.trans h.os,k.tape.trans h.tape,k.output.trans h.output,Nat.le_trans h.size k.size,
  λi hi hn hx=>(k.block i (Nat.lt_of_lt_of_le hi h.size) (λho=>hn (h.stay i hi ho)) hx).trans (h.block i hi hn hx),
  λi hi ho=>h.stay i hi (k.stay i (Nat.lt_of_lt_of_le hi h.size) ho)⟩
section
variable {w w':World} {B lp p bD bN n nD nN n' nD' nN':Nat} {pv sv rv pv' sv' rv':Value} {l l':ALog} {d d':ADisk}
theorem LogIn.ofx {X S:List Nat} (h:LogIn w B lp p bD bN pv sv rv l d n nD nN) (h':LogIn w' B lp p bD bN pv' sv' rv' l' d' n' nD' nN') (hf:Fr S w w')
  (hS:∀ k∈S,k<w.heap.size→k∈X∨k=lp∨k=p∨k=bD∨k=bN∨pv.ownBlock=some k∨sv.ownBlock=some k∨rv.ownBlock=some k)
  (h1:Near w.heap.size pv pv') (h2:Near w.heap.size sv sv') (h3:Near w.heap.size rv rv'):OFx X lp p w w':=by
 refine ⟨hf.os,hf.tape,hf.output,hf.size,λk hk hn hx=>hf.block k hk (λhm=>?_),λk hk ho=>?_⟩
 ·rcases hS k hm hk with e | e
  ·exact hx e
  ·exact hn ((h.own k).2 e)
 rw [h.own]
 rcases (h'.own k).1 ho with e | e | e | e | e | e | e
 ·exact .inl e
 ·exact .inr (.inl e)
 ·exact .inr (.inr (.inl e))
 ·exact .inr (.inr (.inr (.inl e)))
 ·rcases h1 k e with e | e
  ·exact .inr (.inr (.inr (.inr (.inl e))))
  ·omega
 ·rcases h2 k e with e | e
  ·exact .inr (.inr (.inr (.inr (.inr (.inl e)))))
  ·omega
 ·rcases h3 k e with e | e
  ·exact .inr (.inr (.inr (.inr (.inr (.inr e)))))
  ·omega
theorem LogIn.ge (h:LogIn w B lp p bD bN pv sv rv l d n nD nN) {k:Nat} (hk:Own lp p w k):B≤k:=by
 rcases (h.own k).1 hk with e | e | e | e | e | e | e
 ·rw [e];exact h.base
 ·rw [e];exact h.disk.base.1
 ·rw [e];exact h.disk.base.2.1
 ·rw [e];exact h.disk.base.2.2.1
 ·exact (h.disk.pen.lt k e).1
 ·exact (h.segs.lt k e).1
 ·exact (h.recs.lt k e).1
theorem LogIn.free (h:LogIn w B lp p bD bN pv sv rv l d n nD nN) {q:Nat} {c:Array Value} {t:TypeId} {fr:Nat × Nat} (hq:w.heap[q]?=some (.cells c t fr)) (h1:t≠96) (h2:t≠182) (h3:t≠222) (h4:t≠43) (h5:t≠110):¬ Own lp p w q:=by
 intro ho
 have hn:=jNn h.disk hq h1 h2
 rcases (h.own q).1 ho with e | e | e | e | e | e | e
 ·rw [e,h.blk] at hq;cases hq;exact h3 rfl
 ·exact hn (by simp [e])
 ·exact hn (by simp [e])
 ·exact hn (by simp [e])
 ·exact hn (by simp [e])
 ·exact jAe h.segs hq (λe=>h4 e.symm) e
 ·exact jAe h.recs hq (λe=>h5 e.symm) e
end
theorem Tryz.powG:Tryz.prog.globalNamed "internal/strconv.uint64pow10"=some 1:=by kernel_rfl
theorem Pows.of_block {w w':World} (h:Pows w) (hb:w'.heap[1]?=w.heap[1]?):Pows w':=by
 unfold Pows Lib.TabIs World.var? at *
 rw [Tryz.powG] at *
 simp only [Option.bind_some] at *
 rw [hb];exact h
def ALog.put (l:ALog) (d:ADisk) (by_:List Nat):ALog × ADisk × Nat :=
 if (l.room d).2.2=0 then ((l.room d).1,((l.room d).2.1.tell ⟨2,jAs ((l.room d).1.segs.getLastD 0),ByteArray.empty,str by_⟩).1,((l.room d).2.1.tell ⟨2,jAs ((l.room d).1.segs.getLastD 0),ByteArray.empty,str by_⟩).2)
 else l.room d
def PutL (B lp p bD bN n:Nat) (X:List Nat) (r:ALog × ADisk × Nat) (w:World) (e:Ending) (w':World):Prop :=
 e=.returned (errN r.2.2)∧(∃ pv sv rv nD nN,LogIn w' B lp p bD bN pv sv rv r.1 r.2.1 n nD nN)∧OFx X lp p w w'
theorem jRa {l:ALog} {d:ADisk} (h:l.filled<600→l.segs≠[]) (hr:(l.room d).2.2=0):(l.room d).1.segs≠[]:=by
 unfold ALog.room at *
 split
 ·rename_i hf;exact h hf
 ·rename_i hf
  rw [if_neg hf] at hr
  split at hr
  ·rename_i hs;rw [if_pos hs];simp
  ·rename_i hs;exact absurd hr hs
theorem jNv {l:List Nat} (h:l≠[]):l[l.length - 1]?=some (l.getLastD 0):=by
 rw [List.getLastD_eq_getLast?,← List.getLast?_eq_getElem?]
 cases hh:l.getLast? with
 | none=>exact absurd (List.getLast?_eq_none_iff.1 hh) h
 | some x=>rfl
theorem jV6 (B lp p bD bN n nD nN bl bb g cap base gst:Nat) (pv sv rv:Value) (l:ALog) (d:ADisk) (by_:List Nat) (w:World) (h:LogIn w B lp p bD bN pv sv rv l d n nD nN) (hn:n+1<67108864) (hB:2≤B) (hsg:l.filled<600→l.segs≠[])
  (hst:w.heap[gst]?=some (.cells #[.func (.func 130) #[.pointer (some ⟨lp,0,none⟩)] #[],.func (.func 131) #[] #[.pointer (some ⟨bl,0,none⟩),.pointer (some ⟨bb,0,none⟩)]] 123))
  (hbl:w.heap[bl]?=some (.cells #[.pointer (some ⟨lp,0,none⟩)] 74)) (hbb:w.heap[bb]?=some (.cells #[.slice (some ⟨g,0,none⟩) by_.length cap] 88))
  (hr:w.ownsRow base 5 1 (.slice (some ⟨g,0,none⟩) by_.length cap) by_.length (bs by_)) (hm2:by_.length≤4096) (hpow:Pows w) :
  Calls Tryz.prog 120 #[.slice (some ⟨gst,0,none⟩) 2 2] w (PutL B lp p bD bN (n+2) [g] (l.put d by_) w):=by
 have z0:=jA0 hst 0
 have z1:=jA0 hst 1
 simp at z0 z1
 have HI:Hid (LogIn w B lp p bD bN pv sv rv l d n nD nN):=h
 go_enter Tryz.func120,Tryz.ntmps120
 go_wp2
 refine wp_loop_rounds 3 ?_
 rw [rounds_succ]
 go_wp2_with fail
 refine (jSq B lp p bD bN n nD nN pv sv rv l d w HI.out oE).mono ?_
 rintro e w1 ⟨rfl,⟨pv1,sv1,rv1,nD1,nN1,hl1⟩,ho1⟩
 have fre:∀ {q:Nat} {c:Array Value} {t:TypeId},w.heap[q]?=some (.cells c t (0,0))→t≠96→t≠182→t≠222→t≠43→t≠110→w1.heap[q]?=some (.cells c t (0,0)):=λ{q c t} hq h1 h2 h3 h4 h5 =>
  (ho1.block q (Array.getElem?_eq_some_iff.1 hq).1 (HI.out.free hq h1 h2 h3 h4 h5)).trans hq
 have hst1:=fre hst dN dN dN dN dN
 have hbl1:=fre hbl dN dN dN dN dN
 have hbb1:=fre hbb dN dN dN dN dN
 have hr1:w1.ownsRow base 5 1 (.slice (some ⟨g,0,none⟩) by_.length cap) by_.length (bs by_):=by
  obtain ⟨h1,h2⟩:=hr
  refine ⟨h1,?_⟩
  rcases h2 with h2 | ⟨g',cap',cur,e,b1,b2,b3⟩
  ·exact .inl h2
  ·exact .inr ⟨g',cap',cur,e,b1,fre b2 dN dN dN dN dN,b3⟩
 have hb6:1<w.heap.size:=by have:=HI.out.disk.base.2.2.2;omega
 have hpow1:Pows w1:=hpow.of_block (ho1.block 1 hb6 (λho=>by have:=HI.out.ge ho;omega))
 have z2:=jA0 hst1 1
 simp at z2
 have H1:Hid (LogIn w1 B lp p bD bN pv1 sv1 rv1 (l.room d).1 (l.room d).2.1 (n+1) nD1 nN1):=hl1
 have HO:Hid (OFr lp p w w1):=ho1
 have HBL:Hid (w1.heap[bl]?=some (.cells #[.pointer (some ⟨lp,0,none⟩)] 74)):=hbl1
 have HBB:Hid (w1.heap[bb]?=some (.cells #[.slice (some ⟨g,0,none⟩) by_.length cap] 88)):=hbb1
 have HR1:Hid (w1.ownsRow base 5 1 (.slice (some ⟨g,0,none⟩) by_.length cap) by_.length (bs by_)):=hr1
 have HSG:Hid (l.filled<600→l.segs≠[]):=hsg
 clear h hl1 ho1 hst1 hbl1 hbb1 hr1 hst hbl hbb hr hsg fre z0 z1
 by_cases hc:(l.room d).2.2=0
 ·have hseg:=jRa HSG.out hc
  obtain ⟨last,hlast⟩:∃ last,last=(l.room d).1.segs.getLastD 0:=⟨_,rfl⟩
  have hla:=jNv hseg
  rw [← hlast] at hla
  have e:l.put d by_=((l.room d).1,((l.room d).2.1.tell ⟨2,jAs last,ByteArray.empty,str by_⟩).1,((l.room d).2.1.tell ⟨2,jAs last,ByteArray.empty,str by_⟩).2):=by unfold ALog.put;rw [if_pos hc,← hlast]
  have HE:Hid (l.put d by_=((l.room d).1,((l.room d).2.1.tell ⟨2,jAs last,ByteArray.empty,str by_⟩).1,((l.room d).2.1.tell ⟨2,jAs last,ByteArray.empty,str by_⟩).2)):=e
  have hlt:last<18446744073709551616:=H1.out.segsN.2 last (List.mem_of_getElem? hla)
  have HLA:Hid ((l.room d).1.segs[(l.room d).1.segs.length - 1]?=some last):=hla
  clear e hla hlast
  obtain ⟨gs,cs,hsv⟩:∃ gs cs,sv1=.slice (some ⟨gs,0,none⟩) (l.room d).1.segs.length cs:=by
   rcases H1.out.segs.2 with ⟨_,h2⟩ | ⟨g',cap',cur,e,_⟩
   ·exact absurd (List.length_eq_zero_iff.1 h2) hseg
   ·exact ⟨g',cap',e⟩
  subst hsv
  clear hseg
  rw [hc,jAt]
  go_wp2
  rw [rounds_succ]
  go_wp2_with fail
  refine (jU5 B lp p bD bN (n+1) nD1 nN1 bl bb g by_.length cap base gs cs last pv1 rv1 (l.room d).1 (l.room d).2.1 by_ w1 H1.out hn HLA.out HBL.out HBB.out rfl HR1.out hm2 hpow1 hlt).mono ?_
  rintro e w2 ⟨rfl,⟨pv2,nN2,hl2,hne2⟩,hf2⟩
  have ho2:OFx [g] lp p w1 w2:=H1.out.ofx hl2 hf2 (by intro k hk _;rcases List.mem_cons.1 hk with e | hk;exact .inl (by simp [e]);right;rcases List.mem_cons.1 hk with e | hk;simp [e];rcases List.mem_cons.1 hk with e | hk;simp [e];rcases List.mem_cons.1 hk with e | hk;simp [e];simp at hk;simp [hk]) hne2 (Near.refl _ _) (Near.refl _ _)
  have H2:Hid (PutL B lp p bD bN (n+2) [g] (l.put d by_) w (.returned (errN ((l.room d).2.1.tell ⟨2,jAs last,ByteArray.empty,str by_⟩).2)) w2):=by
   show PutL _ _ _ _ _ _ _ _ _ _ _
   rw [HE.out]
   exact ⟨rfl,⟨pv2,_,rv1,nD1,nN2,hl2⟩,HO.out.x.trans ho2⟩
  clear hl2 hne2 hf2 ho2
  by_cases hc2:((l.room d).2.1.tell ⟨2,jAs last,ByteArray.empty,str by_⟩).2=0
  ·rw [hc2,jAt] at H2 ⊢
   go_wp2
   rw [rounds_succ]
   go_wp2
   go_ret
   exact H2.out
  ·rw [jAc hc2] at H2 ⊢
   go_wp2
   go_ret
   exact H2.out
 ·have e:l.put d by_=l.room d:=by unfold ALog.put;rw [if_neg hc]
  have HE:Hid (l.put d by_=l.room d):=e
  clear e
  have H2:Hid (PutL B lp p bD bN (n+2) [g] (l.put d by_) w (.returned (errN (l.room d).2.2)) w1):=by
   show PutL _ _ _ _ _ _ _ _ _ _ _
   rw [HE.out]
   exact ⟨rfl,⟨pv1,sv1,rv1,nD1,nN1,H1.out.more hn⟩,HO.out.x⟩
  rw [jAc hc] at H2 ⊢
  go_wp2
  go_ret
  exact H2.out
def OwnD (p:Nat) (w:World) (k:Nat):Prop:=k=p∨k∈refs w.heap[p]?
structure DFr (p:Nat) (w w':World):Prop where
 os:w'.os=w.os
 tape:w'.tape=w.tape
 output:w'.output=w.output
 size:w.heap.size≤w'.heap.size
 block:∀ k,k<w.heap.size→¬ OwnD p w k→w'.heap[k]?=w.heap[k]?
 stay:∀ k,k<w.heap.size→OwnD p w' k→OwnD p w k
section
variable {w w':World} {B p bD bN n nD nN n' nD' nN':Nat} {pv pv':Value} {d d':ADisk}
theorem DiskIn.ownD (h:DiskIn w B p bD bN pv d n nD nN) (k:Nat):OwnD p w k↔k∈dS p bD bN pv:=by
 unfold OwnD
 rw [h.blk,jPj (jAu h.pen)]
 simp
theorem DiskIn.dfr {S:List Nat} (h:DiskIn w B p bD bN pv d n nD nN) (h':DiskIn w' B p bD bN pv' d' n' nD' nN') (hf:Fr S w w') (hS:∀ k∈S,k<w.heap.size→k∈dS p bD bN pv) (hne:Near w.heap.size pv pv'):DFr p w w':=by
 refine ⟨hf.os,hf.tape,hf.output,hf.size,λk hk hn=>hf.block k hk (λhm=>hn ((h.ownD k).2 (hS k hm hk))),λk hk ho=>?_⟩
 rw [h.ownD]
 have:=(h'.ownD k).1 ho
 rcases List.mem_cons.1 this with e | this
 ·simp [e]
 rcases List.mem_cons.1 this with e | this
 ·simp [e]
 rcases List.mem_cons.1 this with e | this
 ·simp [e]
 ·simp at this
  rcases hne k this with e | e
  ·simp [e]
  ·omega
theorem DiskIn.freeD (h:DiskIn w B p bD bN pv d n nD nN) {q:Nat} {c:Array Value} {t:TypeId} {fr:Nat × Nat} (hq:w.heap[q]?=some (.cells c t fr)) (h1:t≠96) (h2:t≠182):¬ OwnD p w q:=by
 rw [h.ownD]
 intro hm
 rcases List.mem_cons.1 hm with e | hm
 ·rw [e,h.blk] at hq;cases hq;exact h1 rfl
 rcases List.mem_cons.1 hm with e | hm
 ·exact h.dur.ne_cells hq e.symm
 rcases List.mem_cons.1 hm with e | hm
 ·exact h.now.ne_cells hq e.symm
 ·simp at hm;exact jAe h.pen hq (λe=>h2 e.symm) hm
end
def ADisk.removeAll (d:ADisk):List ByteArray→ADisk × Nat
 | []=>d.sync
 | nm :: r=>if (d.tell ⟨3,nm,ByteArray.empty,ByteArray.empty⟩).2=0 then (d.tell ⟨3,nm,ByteArray.empty,ByteArray.empty⟩).1.removeAll r else d.tell ⟨3,nm,ByteArray.empty,ByteArray.empty⟩
def jQn (B p bD bN n:Nat) (r:ADisk × Nat) (w:World) (e:Ending) (w':World):Prop :=
 e=.returned (errN r.2)∧(∃ pv nD nN,DiskIn w' B p bD bN pv r.1 n nD nN)∧DFr p w w'
theorem DiskIn.mores {w:World} {B p bD bN n nD nN:Nat} {pv:Value} {d:ADisk} (h:DiskIn w B p bD bN pv d n nD nN) {m:Nat} (hm:n≤m) (hm2:m≤67108864):DiskIn w B p bD bN pv d m nD nN :=
 { h with hD:=by have:=h.hD;omega,hN:=by have:=h.hN;omega,hn:=hm2 }
theorem Tryz.infoStr:(Tryz.prog.info? 9).map (λi=>(i.zero,i.size,i.bytes))=some (some (.string ByteArray.empty),1,16):=by kernel_rfl
theorem jM4 (w:World):Calls Tryz.prog 137 #[.slice none 0 0] w λe w'=>e=.returned (.slice none 0 0)∧w'=w:=by
 go_enter Tryz.func137,Tryz.ntmps137
 go_wp2
 refine wp_loop_rounds 1 ?_
 rw [rounds_succ]
 go_wp2
 go_ret
 exact ⟨rfl,rfl⟩
theorem jId (B p bD bN n nD nN:Nat) (pv:Value) (d:ADisk) (w:World) (h:DiskIn w B p bD bN pv d n nD nN) :
  Calls Tryz.prog 123 #[dskV p,.slice none 0 0] w (jQn B p bD bN n (d.removeAll []) w):=by
 have HI:Hid (DiskIn w B p bD bN pv d n nD nN):=h
 have m2:=Tryz.mSync
 clear h
 go_enter Tryz.func123,Tryz.ntmps123
 go_wp2
 refine wp_loop_rounds 1 ?_
 rw [rounds_succ]
 go_wp2_with fail
 refine (jMu B p bD bN n nD nN pv d w HI.out).mono ?_
 rintro e w1 ⟨rfl,⟨pv1,nD1,hd1,hne1⟩,hf1⟩
 have H1:Hid (jQn B p bD bN n (d.removeAll []) w (.returned (errN d.sync.2)) w1):=⟨rfl,⟨pv1,nD1,nN,hd1⟩,HI.out.dfr hd1 hf1 (λq hq _=>by simp at hq;rcases hq with e | e <;> simp [e]) hne1⟩
 clear hd1 hne1 hf1
 go_wp2
 go_ret
 exact H1.out
def jKa:ByteArray:=⟨#[109,97,114,107]⟩
end Go.Proofs.YtcalalndmcemiaaGreatDoor
