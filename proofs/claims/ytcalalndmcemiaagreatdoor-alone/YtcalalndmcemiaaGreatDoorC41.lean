import Derived.Test.YtcalalndmcemiaaGreatDoorC39
set_option maxRecDepth 100000
set_option maxHeartbeats 16000000
namespace Go.Proofs.YtcalalndmcemiaaGreatDoor
open Go.RowKit Go.Maps Go.Shelf
open Sc
theorem jRi (l:List (Nat × ByteArray × ByteArray)) (y:Nat × ByteArray × ByteArray):wrsV (l++[y])=wrsV l++wrC y:=by simp [wrsV]
section
variable {w W0 w1:World} {B np n pp k:Nat} {hv dv bv ov v' sv wv:Value} {fl:Bool} {hps:List Nat} {ps:List (Nat × Value × Value)} {ds:List ADeal} {bag:List Msg} {ord:List Nat} {x:ADeal} {y:Nat × ByteArray × ByteArray}
theorem LawM.wrApp (h:LawM w B np hv dv bv ov n fl hps ps ds bag ord) (hp:ps[k]?=some (pp,sv,wv)) (hx:ds[k]?=some x) (hf0:Fr [] w W0) (hg:W0.grownBy w1 wv.ownBlock) (ho:w1.ownsRow B 57 3 v' (x.writes.length+1) (wrsV x.writes++wrC y)) (hat:∀ g,v'.ownBlock=some g→wv.ownBlock=some g∨w.heap.size≤g) :
  LawM (w1.setCell ⟨pp,2,none⟩ v') B np hv dv bv ov n fl hps (ps.set k (pp,sv,v')) (ds.set k { x with writes:=x.writes++[y] }) bag ord∧LwR B w (w1.setCell ⟨pp,2,none⟩ v'):=by
 obtain ⟨W,hW⟩:∃ W,W=w1.setCell ⟨pp,2,none⟩ v':=⟨_,rfl⟩
 rw [← hW]
 have hd:=h.each k _ x hp hx
 have hpl:=List.getElem?_eq_some_iff.1 hp
 have hxl:=List.getElem?_eq_some_iff.1 hx
 have hdl:=(Array.getElem?_eq_some_iff.1 hd.blk).1
 have nrow:wv.ownBlock≠some pp:=jAe hd.wrs hd.blk dN
 have hb1:w1.heap[pp]?=some (jJk sv wv x):=((Fr.of_grown hg).block pp (by have:=hf0.size;simp only [] at hdl;omega) (by simp;exact nrow)).trans ((hf0.block pp hdl sE).trans hd.blk)
 have hfw:Fr [pp] w1 W:=by rw [hW];exact Fr.set1 sE _ _
 have hf:Fr (pp :: wv.ownBlock.toList) w W:=((hf0.mono sE).andThen ((Fr.of_grown hg).mono (λk _ hk=>List.mem_cons_of_mem pp hk)) (λj hj _=>hj)).andThen (hfw.mono (λk _ hk=>by simp at hk;simp [hk])) (λj hj _=>hj)
 have keep:∀ (q:Nat) (c:Array Value) (t:TypeId),w.heap[q]?=some (.cells c t (0,0))→q≠pp→(t≠57∨wv.ownBlock≠some q)→W.heap[q]?=some (.cells c t (0,0)):=λq c t hq h1 h2=>(hf.block q (Array.getElem?_eq_some_iff.1 hq).1 (λhm=>by
  rcases List.mem_cons.1 hm with e | e
  ·exact h1 e
  ·simp at e
   rcases h2 with h2 | h2
   ·obtain ⟨c2,hc2⟩:=jA4 hd.wrs e
    rw [hq] at hc2
    cases hc2
    exact h2 rfl
   ·exact h2 e)).trans hq
 have npp:∀ (q:Nat) (c:Array Value) (t:TypeId),w.heap[q]?=some (.cells c t (0,0))→t≠60→q≠pp:=λq c t hq ht e=>by
  rw [e,hd.blk] at hq
  cases hq
  exact ht rfl
 have row:∀ {b m j:Nat} {e:TypeId} {v:Value} {xs:List Value},w.ownsRow b e j v m xs→e≠60→(e≠57∨Apt wv v)→W.ownsRow b e j v m xs:=λ{b m j e v xs} hr h1 h2=>jAf hr (λg hg=>by
  obtain ⟨c,hc⟩:=jA4 hr hg
  exact (keep g c e hc (npp g c e hc h1) (h2.imp id (λh3 e=>h3 g e hg))).trans hc.symm)
 have hod:(ord.map λj=>ptrV (((ps.set k (pp,sv,v'))[j]?.map (·.1)).getD 0))=ord.map λj=>ptrV ((ps[j]?.map (·.1)).getD 0):=List.map_congr_left (λj hj=>by
  by_cases e:k=j
  ·subst e;rw [List.getElem?_set_self hpl.1,hp];rfl
  ·rw [List.getElem?_set_ne e])
 have hdm:((ps.set k (pp,sv,v')).map λp=>ptrV p.1)=ps.map λp=>ptrV p.1:=by
  rw [List.map_set]
  have:(ps.map λp=>ptrV p.1)[k]?=some (ptrV pp):=by rw [List.getElem?_map,hp];rfl
  exact List.ext_getElem? (λj=>by
   by_cases e:k=j
   ·subst e;rw [List.getElem?_set_self (by simpa using hpl.1),this]
   ·rw [List.getElem?_set_ne e])
 have apt:∀ (j:Nat) (p:Nat × Value × Value),ps[j]?=some p→k≠j→p.1≠pp∧Apt wv p.2.2:=λj p hj e=>by
  have hjl:=List.getElem?_eq_some_iff.1 hj
  rcases Nat.lt_or_gt_of_ne e with e | e
  ·have:=List.pairwise_iff_getElem.1 h.dis k j hpl.1 hjl.1 e
   rw [hpl.2,hjl.2] at this
   exact ⟨λe2=>this.1 e2.symm,this.2.2⟩
  ·have:=List.pairwise_iff_getElem.1 h.dis j k hjl.1 hpl.1 e
   rw [hpl.2,hjl.2] at this
   exact ⟨this.1,λg hg e2=>this.2.2 g e2 hg⟩
 refine ⟨⟨keep _ _ _ h.net (npp _ _ _ h.net dN) (.inl dN),⟨h.low.1,Nat.le_trans h.low.2 hf.size⟩,row h.hs dN (.inl dN),by rw [List.length_set,hdm];exact row h.dl dN (.inl dN),row h.bg dN (.inl dN),h.bg0,by rw [hod];exact row h.od dN (.inl dN),λj hj=>by rw [List.length_set];exact h.odl j hj,h.ap,by simp [h.len],λj p z hj hz=>?_,?_⟩,⟨_,hf,λq hq hl=>?_,λq hq=>?_⟩⟩
 ·by_cases e:k=j
  ·subst e
   rw [List.getElem?_set_self hpl.1] at hj
   rw [List.getElem?_set_self hxl.1] at hz
   cases hj
   cases hz
   refine ⟨by rw [hW];have:=jA5 hb1 2 v';simp at this;exact this,hd.low,row hd.seq dN (.inl dN),?_⟩
   show W.ownsRow B _ 3 v' (x.writes++[y]).length (wrsV (x.writes++[y]))
   rw [List.length_append,jRi]
   exact jA7 ho hfw (λg hg=>by simp;intro e;subst e;exact jAe ho hb1 dN hg)
  ·rw [List.getElem?_set_ne e] at hj hz
   have hdj:=h.each j p z hj hz
   have ha:=apt j p hj e
   exact ⟨keep _ _ _ hdj.blk ha.1 (.inl dN),hdj.low,row hdj.seq dN (.inl dN),row hdj.wrs dN (.inr ha.2)⟩
 ·rw [List.pairwise_iff_getElem]
  intro i j hi hj hij
  rw [List.length_set] at hi hj
  have hold:=List.pairwise_iff_getElem.1 h.dis i j hi hj hij
  have big:∀ (j:Nat) (p:Nat × Value × Value),ps[j]?=some p→∀ g,p.2.2.ownBlock=some g→g<w.heap.size:=λj p hj g hg=>by
   obtain ⟨z,hz⟩:∃ z,ds[j]?=some z:=⟨_,List.getElem?_eq_getElem (by rw [← h.len];exact (List.getElem?_eq_some_iff.1 hj).1)⟩
   exact ((h.each j p z hj hz).wrs.lt g hg).2
  rw [List.getElem_set,List.getElem_set]
  by_cases e1:k=i
  ·subst e1
   rw [if_pos rfl,if_neg oE]
   rw [hpl.2] at hold
   refine ⟨hold.1,hold.2.1,λg hg e=>?_⟩
   rcases hat g hg with e2 | e2
   ·exact hold.2.2 g e2 e
   ·have:=big j _ (List.getElem?_eq_getElem hj) g e;omega
  ·rw [if_neg e1]
   by_cases e2:k=j
   ·subst e2
    rw [if_pos rfl]
    rw [hpl.2] at hold
    refine ⟨hold.1,hold.2.1,λg hg e=>?_⟩
    rcases hat g e with e3 | e3
    ·exact hold.2.2 g hg e3
    ·have:=big i _ (List.getElem?_eq_getElem hi) g hg;omega
   ·rw [if_neg e2]
    exact hold
 ·rcases List.mem_cons.1 hq with e | e
  ·rw [e,hd.blk];exact ⟨_,_,_,rfl,.inr (.inl rfl)⟩
  ·simp at e
   obtain ⟨c2,hc2⟩:=jA4 hd.wrs e
   exact ⟨_,_,_,hc2,.inr (.inr (.inr (.inl rfl)))⟩
 ·rcases List.mem_cons.1 hq with e | e
  ·rw [e];exact hd.low
  ·simp at e;exact (hd.wrs.lt q e).1
theorem LawM.seqSet {i m m':Nat} (h:LawM w B np hv dv bv ov n fl hps ps ds bag ord) (hp:ps[k]?=some (pp,sv,wv)) (hx:ds[k]?=some x) (hi:x.seq[i]?=some m) :
  ∃ g c,sv=.slice (some ⟨g,0,none⟩) x.seq.length c∧w.cell? ⟨g,i,none⟩=some (.int .i64 (m:Int))∧w.frozen? ⟨g,i,none⟩=false∧LawM (w.setCell ⟨g,i,none⟩ (.int .i64 (m':Int))) B np hv dv bv ov n fl hps ps (ds.set k { x with seq:=x.seq.set i m' }) bag ord∧LwR B w (w.setCell ⟨g,i,none⟩ (.int .i64 (m':Int))):=by
 have hd:=h.each k _ x hp hx
 have hpl:=List.getElem?_eq_some_iff.1 hp
 have hxl:=List.getElem?_eq_some_iff.1 hx
 obtain ⟨g,c,e⟩:∃ g c,sv=.slice (some ⟨g,0,none⟩) x.seq.length c:=by
  rcases hd.seq.2 with ⟨-,e⟩ | ⟨g,cap,cur,e,-⟩
  ·have:=(List.getElem?_eq_some_iff.1 hi).1;omega
  ·exact ⟨g,cap,e⟩
 subst e
 have hsq:=hd.seq
 obtain ⟨cur,hcur⟩:=jA4 hsq rfl
 obtain ⟨W,hW⟩:∃ W,W=w.setCell ⟨g,i,none⟩ (.int .i64 (m':Int)):=⟨_,rfl⟩
 have hf:Fr [g] w W:=by rw [hW];exact Fr.set1 sE _ _
 have keep:∀ (q:Nat) (c:Array Value) (t:TypeId),w.heap[q]?=some (.cells c t (0,0))→t≠3→W.heap[q]?=some (.cells c t (0,0)):=λq c t hq h1=>(hf.block q (Array.getElem?_eq_some_iff.1 hq).1 (λhm=>by
  simp at hm
  subst hm
  rw [hcur] at hq
  cases hq
  exact h1 rfl)).trans hq
 have row:∀ {b m j:Nat} {e:TypeId} {v:Value} {xs:List Value},w.ownsRow b e j v m xs→(e≠3∨v.ownBlock≠some g)→W.ownsRow b e j v m xs:=λ{b m j e v xs} hr h1=>jAf hr (λg' hg'=>by
  obtain ⟨c,hc⟩:=jA4 hr hg'
  rcases h1 with h1 | h1
  ·exact (keep g' c e hc h1).trans hc.symm
  ·exact hf.block g' (Array.getElem?_eq_some_iff.1 hc).1 (λhm=>by simp at hm;subst hm;exact h1 hg'))
 refine ⟨g,c,rfl,jB2 hsq rfl (by unfold seqV;rw [List.getElem?_map,hi];rfl),jA2 hcur i,?_,by rw [← hW];exact ⟨[g],hf,λq hq _=>by simp at hq;subst hq;exact ⟨_,_,_,hcur,.inr (.inr (.inr (.inr rfl)))⟩,λq hq=>by simp at hq;rw [hq];exact (hsq.lt g rfl).1⟩⟩
 rw [← hW]
 refine ⟨keep _ _ _ h.net dN,⟨h.low.1,Nat.le_trans h.low.2 hf.size⟩,row h.hs (.inl dN),row h.dl (.inl dN),row h.bg (.inl dN),h.bg0,row h.od (.inl dN),h.odl,h.ap,by rw [List.length_set];exact h.len,λj p z hj hz=>?_,h.dis⟩
 by_cases e:k=j
 ·subst e
  rw [hp] at hj
  rw [List.getElem?_set_self hxl.1] at hz
  cases hj
  cases hz
  refine ⟨keep _ _ _ hd.blk dN,hd.low,?_,row hd.wrs (.inl dN)⟩
  show W.ownsRow B _ 1 _ (x.seq.set i m').length (seqV (x.seq.set i m'))
  have:=(World.ownsRow.stored hsq i (.int .i64 (m':Int))).1
  rw [← hW] at this
  rw [List.length_set]
  unfold seqV at this ⊢
  rw [List.map_set]
  exact this
 ·rw [List.getElem?_set_ne e] at hz
  have hdj:=h.each j p z hj hz
  have hjl:=List.getElem?_eq_some_iff.1 hj
  have ha:p.2.1.ownBlock≠some g:=by
   rcases Nat.lt_or_gt_of_ne e with e | e
   ·have:=List.pairwise_iff_getElem.1 h.dis k j hpl.1 hjl.1 e
    rw [hpl.2,hjl.2] at this
    exact this.2.1 g rfl
   ·have:=List.pairwise_iff_getElem.1 h.dis j k hjl.1 hpl.1 e
    rw [hpl.2,hjl.2] at this
    exact λe2=>this.2.1 g e2 rfl
  exact ⟨keep _ _ _ hdj.blk dN,hdj.low,row hdj.seq (.inr ha),row hdj.wrs (.inl dN)⟩
end
def AtH (W:World) (g:Nat) (o:Obj):Prop:=W.heap[g]?=some o
theorem AtH.new (W:World) (o:Obj) {g:Nat} (hg:g=W.heap.size):AtH (W.alloc o) g o:=by subst hg;exact heap_alloc_new W o
theorem AtH.alloc {W:World} {g:Nat} {o:Obj} (h:AtH W g o) (o':Obj):AtH (W.alloc o') g o:=(Below.heap_alloc W o' g (Array.getElem?_eq_some_iff.1 h).1).trans h
theorem AtH.drew {W:World} {g:Nat} {o:Obj} (h:AtH W g o):AtH W.drew g o:=h
theorem jAm {w:World} {a:Addr} {v:Value} (h:w.cell? a=some v) (o:Obj):(w.alloc o).cell? a=some v:=(World.cell?_of_block (Below.heap_alloc w o a.block (World.block_lt_of_cell? w _ h))).trans h
theorem AtH.fr {W W':World} {g:Nat} {o:Obj} (h:AtH W g o) (hf:Fr [] W W'):AtH W' g o:=(hf.block g (Array.getElem?_eq_some_iff.1 h).1 sE).trans h
theorem jFn {W:World} {B g n k:Nat} {t:TypeId} {c:Array Value} {xs:List Value} (hb:AtH W g (.cells c t)) (hB:B≤g) (hc:c.toList=xs) (hn:xs.length=n*k) (hm:n≤maxLen):W.ownsRow B t k (.slice (some ⟨g,0,none⟩) n n) n xs:=by
 subst hc
 exact ⟨hn,.inr ⟨g,n,c,rfl,hB,hb,Nat.le_refl _,hm,by simpa using hn,by rw [← hn,List.take_length]⟩⟩
structure Dealt (w0 w w':World) (B np n K:Nat) (hv:Value) (hps:List Nat) (A:ANet):Prop where
 net:NetB w0 w' B np n K hv hps A
 lgf:LgF B w w'
def NewW (w W0:World) (wv:Value) (l:List (Nat × ByteArray × ByteArray)):Prop:=(wv=.slice none 0 0∧l=[])∨∃ g c,wv=.slice (some ⟨g,0,none⟩) 1 1∧AtH W0 g (.cells c 57)∧c.toList=wrsV l∧l.length=1∧w.heap.size≤g
theorem NewW.row {w W0:World} {wv:Value} {l:List (Nat × ByteArray × ByteArray)} {B:Nat} (h:NewW w W0 wv l) (hB:B≤w.heap.size):W0.ownsRow B 57 3 wv l.length (wrsV l)∧∀ g,wv.ownBlock=some g→w.heap.size≤g:=by
 rcases h with ⟨rfl,rfl⟩ | ⟨g,c,rfl,h1,h2,h3,h4⟩
 ·exact ⟨World.ownsRow_nil _ _ _ _,nofun⟩
 ·refine ⟨?_,λg' hg=>by cases hg;exact h4⟩
  rw [h3]
  refine jFn h1 (Nat.le_trans hB h4) h2 ?_ dN
  match l,h3 with
  | [y],_=>rfl
section
variable {w0 w W0:World} {B np n K:Nat} {hv dv bv ov:Value} {fl:Bool} {hps:List Nat} {ps:List (Nat × Value × Value)} {A:ANet} {Ls:List (List Nat)}
theorem jIi {o:Oper} {a:Act} {Kc:Act→World→Prop} {Q:Exit→Act→World→Prop} (x:ADeal) (h1:LawM w B np hv dv bv ov n fl hps ps A.ds A.bag A.ord) (h2:Nds w B hps A.c A.co A.ss K Ls) (h3:∀ g,bv.ownBlock=some g→w0.heap.size≤g) (h4:LgF B w0 w) (hlen:ps.length≤60000000)
  (s y:Operand) (ho:o.op=.call { callee:=.builtin .append,args:=#[s,y],argTypes:=#[34,34] }) (hs:a.eval s=dv) {b dp g1 m:Nat} {wv:Value} {c1:Array Value} {z:Int} (hy:a.eval y=.slice (some ⟨b,0,none⟩) 1 1)
  (hf:Fr [] w W0) (hb:AtH W0 b (.cells #[ptrV dp] 55)) (hd:AtH W0 dp (.cells #[.int .u64 z,.slice (some ⟨g1,0,none⟩) m m,wv,.bool x.asked,.bool x.lost,.int .i64 0] 60)) (hg1:AtH W0 g1 (.cells c1 3)) (hwv:NewW w W0 wv x.writes)
  (hdp:w.heap.size≤dp) (hgl:w.heap.size≤g1) (hc1:c1.toList=seqV x.seq) (hm:m=x.seq.length) (hm2:m≤1000) (hz:z=(x.id:Int)) (hw0:x.what=0)
  (post:∀ va vb vc w1,w1.heap[np]?=some (netO hv dv bv ov n fl)→Dealt w0 w (w1.setCell ⟨np,1,none⟩ (.slice va vb vc)) B np n K hv hps { A with ds:=A.ds++[x] }→Kc (a.put o.dst (.slice va vb vc)) w1):o.wp Tryz.prog a W0 Kc Q:=by
 obtain ⟨i0,hi,hz0,hz1,hz2⟩:=info_parts Tryz.infoDp
 have hrow:W0.ownsRow B 55 1 dv ps.length (ps.map λp=>ptrV p.1):=jA7 h1.dl hf sE
 have hW:=hwv.row h1.low.2
 subst hm
 have hdeal:DealAt W0 B (dp,.slice (some ⟨g1,0,none⟩) x.seq.length x.seq.length,wv) x:=by
  refine ⟨?_,Nat.le_trans h1.low.2 hdp,jFn hg1 (Nat.le_trans h1.low.2 hgl) hc1 (by simp [seqV]) (by unfold maxLen;omega),hW.1⟩
  have:=hd
  rw [hz] at this
  show W0.heap[dp]?=some (jJk _ _ x)
  unfold jJk
  rw [hw0]
  exact this
 refine jBn s y 34 ho B 55 i0 _ 1 8 Tryz.underlying34 hi hz0 hz1 hz2 rfl dN dv ps.length _ hs hrow ⟨b,0,none⟩ 1 1 [ptrV dp] hy rfl (λj u hj=>?_) (by intro u hu;simp at hu;subst hu;rfl) (by unfold maxLen;omega) oE (Nat.le_trans h1.low.2 hf.size) ?_
 ·match j,hj with
  | 0,hj =>
   simp at hj
   subst hj
   have:=jA0 hb 0
   simpa [Addr.add] using this
 ·intro v' w1 hown hg hat
  obtain ⟨va,vb,vc,rfl⟩:=jAu hown
  have hnl:=(Array.getElem?_eq_some_iff.1 h1.net).1
  have hn1:w1.heap[np]?=some (netO hv dv bv ov n fl):=((Fr.of_grown hg).block np (by have:=hf.size;omega) (by simp;exact jAe h1.dl h1.net dN)).trans ((hf.block np hnl sE).trans h1.net)
  obtain ⟨q1,q2⟩:=h1.dlApp hf hdeal hdp (λg hg=>by cases hg;exact hgl) hW.2 hg hown (λg hg=>hat.elim (λe=>.inl (by rw [← e];exact hg)) (λe=>.inr (by rw [e] at hg;cases hg;exact hf.size)))
  exact post va vb vc w1 hn1 ⟨⟨_,bv,ov,fl,_,Ls,q1,q2.nds h2,h3,h4.trans (q2.lg h1.low.2)⟩,q2.lg h1.low.2⟩
theorem LawM.dealAt {ds:List ADeal} {bag:List Msg} {ord:List Nat} {j:Nat} {x:ADeal} (h:LawM w B np hv dv bv ov n fl hps ps ds bag ord) (hx:ds[j]?=some x):∃ gd dc p,dv=.slice (some ⟨gd,0,none⟩) ds.length dc∧ps[j]?=some p∧w.cell? ⟨gd,j,none⟩=some (ptrV p.1)∧DealAt w B p x:=by
 obtain ⟨p,hp⟩:∃ p,ps[j]?=some p:=⟨_,List.getElem?_eq_getElem (by rw [h.len];exact (List.getElem?_eq_some_iff.1 hx).1)⟩
 obtain ⟨ao,c,e,hcl⟩:=jBg (f:=λp:Nat × Value × Value=>p.1) h.dl
 obtain ⟨g,rfl,hg⟩:=hcl j p hp
 exact ⟨g,c,p,by rw [e,h.len],hp,hg,h.each j p x hp hx⟩
theorem LawM.dvS {ds:List ADeal} {bag:List Msg} {ord:List Nat} (h:LawM w B np hv dv bv ov n fl hps ps ds bag ord):∃ ao c,dv=.slice ao ds.length c:=by
 obtain ⟨ao,c,e,-⟩:=jBg (f:=λp:Nat × Value × Value=>p.1) h.dl
 exact ⟨ao,c,by rw [e,h.len]⟩
theorem NetB.dealAt {j:Nat} {x:ADeal} (h:NetB w0 w B np n K hv hps A) (hx:A.ds[j]?=some x):∃ gd dc pp,w.cell? ⟨np,1,none⟩=some (.slice (some ⟨gd,0,none⟩) A.ds.length dc)∧w.cell? ⟨gd,j,none⟩=some (ptrV pp)∧w.cell? ⟨pp,5,none⟩=some (.int .i64 (x.what:Int))∧w.cell? ⟨pp,4,none⟩=some (.bool x.lost):=by
 obtain ⟨dv,bv,ov,fl,ps,Ls,h1,h2,h3,h4⟩:=h
 obtain ⟨g,c,p,e,hp,hg,hd⟩:=h1.dealAt hx
 exact ⟨g,c,p.1,(jA0 h1.net 1).trans (by simp [e]),hg,(jA0 hd.blk 5).trans sE,(jA0 hd.blk 4).trans sE⟩
end
end Go.Proofs.YtcalalndmcemiaaGreatDoor
set_option maxRecDepth 100000
set_option maxHeartbeats 16000000
namespace Go.Proofs.YtcalalndmcemiaaGreatDoor
open Go
theorem jN7 {α:Type} {p:α→Bool} {xs:Array α} (h:xs.any p=true):∃ x∈xs,p x=true:=by
 rw [← Array.any_toList,List.any_eq_true] at h
 obtain ⟨x,hx,hp⟩:=h
 exact ⟨x,by simpa using hx,hp⟩
section
variable {P:Program} {ops:Array Oper} {Q Q1:Exit→Act→World→Prop} {md:Region.Mode} {S:World→Prop}
theorem jO1 (hq:∀ e a w,e≠.normal→Q1 e a w→Q e a w) {i:Nat} {K:Act→World→Prop} {a:Act} {w:World} (h:wpOp P ops Q1 i K a w):wpOp P ops Q i K a w:=by
 have hl:LetsOut Q1→LetsOut Q:=λ⟨a,w,h⟩=>⟨a,w,hq _ a w sE h⟩
 unfold wpOp at *
 split
 ·rename_i ho;simp only [ho] at h;exact h
 ·rename_i o ho
  simp only [ho] at h
  split
  ·rename_i hw
   simp only [hw,if_true] at h
   rcases h with h | ⟨h1,h2⟩
   ·refine .inl ?_
    unfold Oper.wp at *
    generalize (execOp a.eval o).run P w=r at *
    cases r with
    | ok n w' =>
     cases n <;> simp only [Oper.upon] at h ⊢
     case enter f args =>
      refine Calls.mono h λe w'' he=>?_
      cases e with
      | returned u=>exact he
      | panicked c=>exact hq _ _ _ sE he
      | outgrown=>exact hl he
     all_goals exact h
    | halt x w' =>
     cases x <;> simp only [Oper.upon] at h ⊢
     case panic u=>exact hq _ _ _ sE h
   ·exact .inr ⟨h1,hl h2⟩
  ·rename_i hw;simp only [hw] at h;exact h
def jU0 (P:Program) (ops:Array Oper) (Q:Exit→Act→World→Prop) (z:Nat):Exit→Act→World→Prop
 | .normal,a,w=>wpOp P ops Q z (λa' w'=>Q .normal a' w') a w
 | e,a,w=>Q e a w
theorem jE5 {z:Nat} {o:Oper} {a:Act} {w:World} (ho:ops[z]?=some o) (hg:o.guard=none) (h:o.wp P a w (λa' w'=>Q .normal a' w') Q):jU0 P ops Q z .normal a w:=by
 show wpOp P ops Q z _ a w
 unfold wpOp
 simp only [ho]
 rw [if_pos (by simp [Region.wanted,hg])]
 exact .inl h
theorem jL7 {z:Nat} (e:Exit) (a:Act) (w:World) (h:e≠.normal) (hq:jU0 P ops Q z e a w):Q e a w:=by
 cases e <;> first | exact absurd rfl h | exact hq
def jN4 (md:Region.Mode) (ops:Array Oper) (z:Nat):Bool :=
 decide (z<ops.size) && (List.range ops.size).all λi=>match ops[i]? with
  | none=>true
  | some o=>o.after.all (λe=>decide (e.on<i) && decide (e.on≠z)) && (decide (i≠z) || (List.range ops.size).all λj=>decide (j=z) || o.after.any λe=>Region.binds md e && (decide (e.on=j) || match ops[e.on]? with
   | none=>false
   | some o'=>o'.after.any λe'=>Region.binds md e' && decide (e'.on=j)))
def jT0 (md:Region.Mode) (ops:Array Oper) (l:Array Bool):Prop:=∀ (i:Nat) (o:Oper),ops[i]?=some o→l.getD i false=true→∀ e∈o.after,Region.binds md e=true→l.getD e.on false=true
theorem jJd (l:Array Bool) (i j:Nat) (d:Bool) (hi:i<l.size):(l.setIfInBounds i true).getD j d=if i=j then true else l.getD j d:=by
 by_cases e:i=j
 ·subst e;simp [Array.getD,hi]
 ·rw [if_neg e,getD_set_ne d e]
theorem jOg {z:Nat} (hok:jN4 md ops z=true):∀ (fuel:Nat) (l:Array Bool) (a:Act) (w:World),l.size=ops.size→l.getD z true=false→jT0 md ops l→wpAny P md ops (jU0 P ops Q z) fuel (l.setIfInBounds z true) a w→wpAny P md ops Q (fuel+1) l a w:=by
 simp only [jN4,Bool.and_eq_true,decide_eq_true_eq,List.all_eq_true,List.mem_range] at hok
 obtain ⟨hzs,hall⟩:=hok
 have hback:∀ (i:Nat) (o:Oper),ops[i]?=some o→∀ e∈o.after,e.on<i∧e.on≠z:=λi o ho e he=>by
  have:=hall i (Array.getElem?_eq_some_iff.1 ho).1
  rw [ho] at this
  simp only [Bool.and_eq_true,Array.all_eq_true_iff_forall_mem,decide_eq_true_eq] at this
  exact this.1 e he
 have hwait:∀ (oz:Oper),ops[z]?=some oz→∀ j,j<ops.size→j≠z→∃ e∈oz.after,Region.binds md e=true∧(e.on=j∨∃ o',ops[e.on]?=some o'∧∃ e'∈o'.after,Region.binds md e'=true∧e'.on=j):=λoz ho j hj hne=>by
  have:=hall z hzs
  rw [ho] at this
  simp only [Bool.and_eq_true,Bool.or_eq_true,decide_eq_true_eq,List.all_eq_true,List.mem_range] at this
  rcases this.2 with e | h
  ·exact absurd rfl e
  ·rcases h j hj with e | h
   ·exact absurd e hne
   ·obtain ⟨e,he,h⟩:=jN7 h
    simp only [Bool.and_eq_true,Bool.or_eq_true,decide_eq_true_eq] at h
    refine ⟨e,he,h.1,h.2.imp id λh=>?_⟩
    cases ho':ops[e.on]? with
    | none=>rw [ho'] at h;cases h
    | some o' =>
     rw [ho'] at h
     obtain ⟨e',he',h⟩:=jN7 h
     simp only [Bool.and_eq_true,decide_eq_true_eq] at h
     exact ⟨o',rfl,e',he',h.1,h.2⟩
 have lst:∀ {l:Array Bool} {j:Nat},j<l.size→l.getD j false=true→l.getD j true≠false:=λ{l j} hj h1 h2=>by
  simp [Array.getD,hj] at h1 h2
  rw [h1] at h2;cases h2
 have some_:∀ (l:Array Bool),l.size=ops.size→∀ k,k<ops.size→l.getD k true=false→∃ i,i∈Region.ready md ops l:=λl hsz k=>by
  induction k using Nat.strongRecOn with
  | _ k ihk =>
  intro hk hun
  by_cases hp:∀ e∈(ops[k]'hk).after,Region.binds md e=true→l.getD e.on false=true
  ·exact ⟨k,mem_ready.2 ⟨hun,_,Array.getElem?_eq_getElem hk,hp⟩⟩
  ·simp only [Classical.not_forall] at hp
   obtain ⟨e,he,hb,hl⟩:=hp
   have hlt:=(hback k _ (Array.getElem?_eq_getElem hk) e he).1
   refine ihk e.on hlt oE ?_
   have:e.on<l.size:=by omega
   simp [Array.getD,this] at hl ⊢
   exact hl
 have allz:∀ (l:Array Bool),l.size=ops.size→jT0 md ops l→z∈Region.ready md ops l→Region.ready md ops (l.setIfInBounds z true)=[]:=λl hsz hcl hr=>by
  obtain ⟨hz,oz,hoz,hall'⟩:=mem_ready.1 hr
  rw [List.eq_nil_iff_forall_not_mem]
  intro j hj
  obtain ⟨hju,oj,hoj,-⟩:=mem_ready.1 hj
  have hjs:=(Array.getElem?_eq_some_iff.1 hoj).1
  rw [jJd l z j true oE] at hju
  by_cases hne:z=j
  ·rw [if_pos hne] at hju;cases hju
  ·rw [if_neg hne] at hju
   obtain ⟨e,he,hb,h⟩:=hwait oz hoz j hjs (λe=>hne e.symm)
   have h1:=hall' e he hb
   rcases h with h | ⟨o',ho',e',he',hb',h⟩
   ·subst h;exact lst oE h1 hju
   ·have:=hcl e.on o' ho' h1 e' he' hb'
    rw [h] at this
    exact lst oE this hju
 have clos:∀ (l:Array Bool) (i:Nat),l.size=ops.size→jT0 md ops l→i∈Region.ready md ops l→jT0 md ops (l.setIfInBounds i true):=λl i hsz hcl hr k o ho hk e he hb=>by
  obtain ⟨hu,oi,hoi,hall'⟩:=mem_ready.1 hr
  have his:=(Array.getElem?_eq_some_iff.1 hoi).1
  rw [jJd l i _ false oE] at hk ⊢
  by_cases e1:i=e.on
  ·rw [if_pos e1]
  ·rw [if_neg e1]
   by_cases e2:i=k
   ·subst e2
    rw [hoi] at ho
    cases ho
    exact hall' e he hb
   ·rw [if_neg e2] at hk
    exact hcl k o ho hk e he hb
 intro fuel
 induction fuel with
 | zero =>
  intro l a w hsz hz hsh H
  refine ⟨λh=>?_,λi hi=>?_⟩
  ·obtain ⟨i,hi⟩:=some_ l hsz z hzs hz
   rw [h] at hi;cases hi
  ·by_cases e:i=z
   ·subst e
    exact wpOp_mono (λa' w' hq=>⟨H.1,hq⟩) H.2
   ·have:=ready_mono hi e
    rw [H.1] at this;cases this
 | succ fuel ih =>
  intro l a w hsz hz hsh H
  refine ⟨λh=>?_,λi hi=>?_⟩
  ·obtain ⟨i,hi⟩:=some_ l hsz z hzs hz
   rw [h] at hi;cases hi
  ·by_cases e:i=z
   ·subst e
    have hnil:=allz l hsz hsh hi
    exact wpOp_mono (λa' w' hq=>⟨λ_=>hq,by rw [hnil];simp⟩) (H.1 hnil)
   ·refine wpOp_mono (λa' w' h=>?_) (jO1 jL7 (H.2 i (ready_mono hi e)))
    refine ih (l.setIfInBounds i true) a' w' (by simpa using hsz) ?_ (clos l i hsz hsh hi) ?_
    ·rw [getD_set_ne true e];exact hz
    ·rw [Array.setIfInBounds_comm _ _ e];exact h
theorem jEc {id z f:Nat} {a:Act} {w:World} (hm:P.follows .mixedOrders=true) (hf:ops.size=f+1) (hok:jN4 .any ops z=true) (hS:S w.drew)
  (h:S w.drew→wpAnyH P .any ops (jU0 P ops Q z) S f ((Array.replicate ops.size false).setIfInBounds z true) a w.drew):(Code.region id ops true).wp P Q a w:=by
 refine wp_region_any hm ?_
 have hzs:z<ops.size:=by
  have:=hok
  simp only [jN4,Bool.and_eq_true,decide_eq_true_eq] at this
  exact this.1
 have:=jOg (P:=P) (Q:=Q) hok f (Array.replicate ops.size false) a w.drew sE (by simp [Array.getD,hzs]) (λi o _ hi=>by
  exfalso
  by_cases hs:i<ops.size
  ·simp [Array.getD,hs] at hi
  ·simp [Array.getD,hs] at hi) (wpAny_of_held _ _ _ _ (h hS))
 rw [← hf] at this
 exact this
end
end Go.Proofs.YtcalalndmcemiaaGreatDoor
