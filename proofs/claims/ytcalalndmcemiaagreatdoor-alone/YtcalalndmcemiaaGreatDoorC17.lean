import Derived.RangeFuncNested
import Derived.Test.YtcalalndmcemiaaGreatDoorC16
import Derived.RangeFuncBox
import Derived.RangeFuncBound
import Derived.RangeFuncCalls
import Derived.RangeFuncLeaves
import Derived.Shelf.Abstract
import Derived.Shelf.RegionOpen
import Derived.OwnWalkIn
import Derived.TacticsInMore
import Derived.LoopNIn
import Derived.LoopIn
set_option maxRecDepth 100000
set_option maxHeartbeats 16000000
namespace Go.Proofs.YtcalalndmcemiaaGreatDoor
open Go.RowKit Go.Maps
open Sc
theorem jAn {w:World} {p:Nat} {c:Array Value} {t:TypeId} (h:w.heap[p]?=some (.cells c t (0,0))) (i:Nat):w.cell? ⟨p,i,none⟩=c[i]?:=by simp [World.cell?,h]
theorem jF0 {w:World} {B n:Nat} {e:TypeId} {k:Nat} {v:Value} {xs:List Value} (h:w.ownsRow B e k v n xs) (hn:0<n):∃ g cap,v=.slice (some ⟨g,0,none⟩) n cap:=by
 rcases h.2 with ⟨_,h3⟩ | ⟨g,cap,cur,rfl,_⟩
 ·omega
 ·exact ⟨g,cap,rfl⟩
theorem jCx {w:World} {B n:Nat} {e:TypeId} {k:Nat} {v:Value} {xs:List Value} (h:w.ownsRow B e k v n xs):∃ p cap,v=.slice p n cap:=by
 rcases h.2 with ⟨rfl,rfl⟩ | ⟨g,cap,cur,rfl,_⟩
 ·exact ⟨_,_,rfl⟩
 ·exact ⟨_,_,rfl⟩
theorem jBa {w:World} {B B' n:Nat} {e:TypeId} {k:Nat} {v:Value} {xs:List Value} (h:w.ownsRow B e k v n xs) (hB:B'≤B):w.ownsRow B' e k v n xs:=by
 refine ⟨h.1,?_⟩
 rcases h.2 with h2 | ⟨g,cap,cur,hv,hb,r⟩
 ·exact .inl h2
 ·exact .inr ⟨g,cap,cur,hv,Nat.le_trans hB hb,r⟩
theorem jBf (w:World) (cs:Array Value) (t:TypeId):∀ j u,cs.toList[j]?=some u→(w.alloc (.cells cs t)).cell? ((⟨w.heap.size,0,none⟩:Addr).add j)=some u:=by
 intro j u hj
 have hn:(w.alloc (.cells cs t)).heap[w.heap.size]?=some (.cells cs t (0,0)):=World.alloc_heap_new w _
 have:((⟨w.heap.size,0,none⟩:Addr).add j)=⟨w.heap.size,j,none⟩:=by simp [Addr.add];exact λh=>h.symm
 rw [this,jAn hn]
 simpa using hj
structure KpT (t1 t2:TypeId) (n₀:Nat) (A B:World):Prop where
 below:Below n₀ A B
 same:∀ (k:Nat) (c:Array Value) (t:TypeId),(t=t1∨t=t2)→A.heap[k]?=some (Obj.cells c t (0,0))→B.heap[k]?=A.heap[k]?
theorem KpT.trans {t1 t2:TypeId} {n₀:Nat} {A B C:World} (h:KpT t1 t2 n₀ A B) (k:KpT t1 t2 n₀ B C):KpT t1 t2 n₀ A C :=
 ⟨h.below.trans k.below,λi c t ht hi=>by have e:=h.same i c t ht hi;exact (k.same i c t ht (e.trans hi)).trans e⟩
theorem KpT.book {t1 t2:TypeId} {n₀:Nat} {w:World} (hn:n₀≤w.heap.size) (W:World) (l:Nat) (o o':Obj) (hl:w.heap.size≤l) (h:W.heap[l]?=some o) (hc:o.isCells=false) (hw:o.isWalk=false):KpT t1 t2 n₀ W (W.putObj l o') :=
 ⟨belowK_b hn W l o o' hl h hc hw,λk _ _ _ hk=>World.putObj_heap_other (λe=>by rw [e,h] at hk;cases hk;cases hc)⟩
theorem KpT.alloc {t1 t2:TypeId} {n₀:Nat} (W:World) (hn:n₀≤W.heap.size) (o:Obj):KpT t1 t2 n₀ W (W.alloc o) :=
 ⟨(Below.refl n₀ W).alloc hn o,λk _ _ _ hk=>Below.heap_alloc _ _ k (Array.getElem?_eq_some_iff.1 hk).1⟩
def jTk (box:Nat) (A:World) (k:Nat):Prop:=∃ v,A.cell? ⟨box,0,none⟩=some v∧v.ownBlock=some k
structure KpB (t1 t2:TypeId) (n₀ box:Nat) (A B:World):Prop where
 below:Below n₀ A B
 same:∀ (k:Nat) (c:Array Value) (t:TypeId),(t=t1∨t=t2)→A.heap[k]?=some (Obj.cells c t (0,0))→¬ jTk box A k→B.heap[k]?=A.heap[k]?
 stay:∀ k,k<A.heap.size→jTk box B k→jTk box A k
theorem KpB.trans {t1 t2:TypeId} {n₀ box:Nat} {A B C:World} (h:KpB t1 t2 n₀ box A B) (k:KpB t1 t2 n₀ box B C):KpB t1 t2 n₀ box A C :=
 ⟨h.below.trans k.below,λi c t ht hi hn=>by
  have hl:=(Array.getElem?_eq_some_iff.1 hi).1
  have e:=h.same i c t ht hi hn
  exact (k.same i c t ht (e.trans hi) (λhr=>hn (h.stay i hl hr))).trans e,
  λi hi hr=>h.stay i hi (k.stay i (Nat.lt_of_lt_of_le hi h.below.size) hr)⟩
theorem KpB.book {t1 t2:TypeId} {n₀ box:Nat} {w:World} (hn:n₀≤w.heap.size) (hb:box<w.heap.size) (W:World) (l:Nat) (o o':Obj) (hl:w.heap.size≤l) (h:W.heap[l]?=some o) (hc:o.isCells=false) (hw:o.isWalk=false):KpB t1 t2 n₀ box W (W.putObj l o') :=
 ⟨belowK_b hn W l o o' hl h hc hw,λk _ _ _ hk _=>World.putObj_heap_other (λe=>by rw [e,h] at hk;cases hk;cases hc),λk _ hr=>by
  obtain ⟨v,h1,h2⟩:=hr
  refine ⟨v,?_,h2⟩
  rw [← h1]
  exact (World.cell?_of_block (a:=⟨box,0,none⟩) (World.putObj_heap_other (show box≠l by omega))).symm⟩
theorem KpB.refl {t1 t2:TypeId} {n₀ box:Nat} (W:World):KpB t1 t2 n₀ box W W:=⟨Below.refl _ _,λ_ _ _ _ _ _=>rfl,λ_ _ h=>h⟩
theorem KpB.appended {t1 t2 t:TypeId} {n₀ box:Nat} {W w1:World} {v v':Value} {tmp:Obj} (hv:Boxed W box t v) (ht1:t≠t1) (ht2:t≠t2) (hg:(W.alloc tmp).grownBy w1 v.ownBlock) (hat:v'.ownBlock=v.ownBlock∨v'.ownBlock=some (W.alloc tmp).heap.size) (hb:Below n₀ W (w1.setCell ⟨box,0,none⟩ v')) (hv2:Boxed (w1.setCell ⟨box,0,none⟩ v') box t v'):KpB t1 t2 n₀ box W (w1.setCell ⟨box,0,none⟩ v') :=
 ⟨hb,λk c t' ht hk hn=>by
  have hl:=(Array.getElem?_eq_some_iff.1 hk).1
  have hne:k≠box:=λe=>by
   subst e
   rw [show W.heap[k]?=_ from hv] at hk
   have e2:=(Obj.cells.inj (Option.some.inj hk)).2.1
   rcases ht with rfl | rfl
   ·exact ht1 e2
   ·exact ht2 e2
  refine (Below.heap_setCell _ _ _ k (λe=>hne (by simpa using e))).trans ((hg.block k (by simp;omega) (λe=>hn ⟨v,hv.cell,e.symm⟩)).trans (Below.heap_alloc _ _ k hl)),
  λk hk hr=>by
  obtain ⟨u,h1,h2⟩:=hr
  rw [hv2.cell] at h1
  cases h1
  rcases hat with e | e
  ·exact ⟨v,hv.cell,by rw [← e];exact h2⟩
  ·rw [e] at h2
   simp at h2
   omega⟩
end Go.Proofs.YtcalalndmcemiaaGreatDoor
set_option maxRecDepth 100000
set_option maxHeartbeats 16000000
namespace Go.Proofs.YtcalalndmcemiaaGreatDoor
open Go.RowKit Go.Maps Go.Shelf
open Sc
abbrev elG (g:AGrip):List Value:=[.int .u8 (g.way:Int),.string g.val]
def elsG (l:List AGrip):List Value:=l.flatMap elG
theorem jPi (l:List AGrip) (g:AGrip):elsG (l++[g])=elsG l++elG g:=by simp [elsG]
theorem jRh:∀ (l:List AGrip) (k:Nat) (g:AGrip),l[k]?=some g→(elsG l)[k*2]?=some (.int .u8 (g.way:Int))∧(elsG l)[k*2+1]?=some (.string g.val)
 | [],k,g,h=>by simp at h
 | x :: l,0,g,h=>by simp at h;subst h;simp [elsG]
 | x :: l,k+1,g,h=>by
  have:=jRh l k g (by simpa using h)
  simp only [elsG,List.flatMap_cons] at this ⊢
  rw [show (k+1)*2=k*2+1+1 by omega]
  simpa using this
theorem Tryz.infoBG:(Tryz.prog.info? 134).map (λi=>(i.zero,i.size,i.bytes))=some (some (.agg #[.int .u8 0,.string ByteArray.empty]),2,24):=by kernel_rfl
def jBt (L:List (ByteArray × AGrip)):List (ByteArray × AGrip):=(jBw L).map λk=>(k,(jA3 L k).getD ⟨0,ByteArray.empty⟩)
theorem Tryz.lenSG (p:Option Addr) (n c:Nat) (w:World):(Builtin.len_ #[35] 3 #[.slice p n c]).run Tryz.prog w=.ok (.int .i64 n) w:=by simp [Builtin.len_,run_underlying Tryz.underlying35,goInt]
theorem jOd (n:Nat) (hn:6≤n) (l Bn b m:Nat) (L:List (ByteArray × AGrip)) (hm:m≤67108864) (W:World) (Kp:World→World→Prop) (Pk:Nat→World→Prop)
  (hP0:∀ k A,W.heap.size≤k→Below W.heap.size W A→Pk k A)
  (hP2:∀ k A B c t,(t=9∨t=134)→Kp A B→A.heap[k]?=some (.cells c t (0,0))→Pk k A→B.heap[k]?=A.heap[k]?∧Pk k B)
  (J Jx:List (ByteArray × AGrip)→World→Prop)
  (hJ:∀ s A B,J s A→A.grownBy B none→J s B)
  (hY:∀ pre x W1,J pre W1→pre.length<L.length→pre++[x] <+: jBt L→YieldAt Fence.wide (n - 1) Tryz.prog l #[.string x.1,.agg #[.int .u8 (x.2.way:Int),.string x.2.val]] W1 λe W' =>
   (e=.returned (.bool true)∧J (pre++[x]) W'∧Kp W1 W')∨(e=.returned (.bool false)∧Jx (pre++[x]) W'))
  (hBn:W.cell? ⟨Bn,0,none⟩=some (.map (some b))) (hL:MapAs KS EG W b m L) (h0:J [] W) :
  CallsIn Fence.wide n Tryz.prog 272 #[.func (.yield l) #[] #[],.pointer (some ⟨Bn,0,none⟩)] W λe W'=>(∃ v,e=.returned v) ∧
   ((∃ ys,ys=jBt L∧J ys W')∨(∃ pre,pre <+: jBt L∧Jx pre W')):=by
 have hBl:Bn<W.heap.size:=World.block_lt_of_cell? W ⟨Bn,0,none⟩ hBn
 obtain ⟨cK,cS⟩:=jMi (n - 1) oE b m L W hL hm
 obtain ⟨i0,hi,hz0,hz1,hz2⟩:=info_parts Tryz.infoBG
 have hfK:Fence.wide.fn 273:=trivial
 have hfS:Fence.wide.fn 208:=trivial
 have hfM:Fence.wide.fn 272:=trivial
 have hro:Fence.wide.round=none:=rfl
 have h1:1≤n:=by omega
 have hlenS:=Tryz.lenSG
 have hLm:=hL.len
 have HL:Hid (MapAs KS EG W b m L):=hL
 have HB:Hid (Bn<W.heap.size∧W.cell? ⟨Bn,0,none⟩=some (.map (some b))):=⟨hBl,hBn⟩
 obtain ⟨m0,hm0⟩:∃ m0,m0=L.length:=⟨_,rfl⟩
 have HM:Hid (m0=L.length):=hm0
 rw [← hm0] at cS hLm
 have hm00:m0≤67108864:=by omega
 clear hL hm0
 refine callsIn_of_wp Tryz.func272 rfl hfM ?_ hro
 simp only [Tryz.ntmps272,List.size_toArray,List.length_cons,List.length_nil,Nat.reduceAdd,Nat.reduceSub,Array.replicate_succ,Array.replicate_zero,List.push_toArray,List.append_toArray,List.nil_append,List.cons_append]
 gi_wp2_with (first
  | (gi_at_call 273;refine cK.mono ?_;rintro e w0 ⟨rfl,rfl⟩)
  | (gi_at_call 208;refine cS.mono ?_;rintro e w1 ⟨v,rfl,hrow,hnil,hb1⟩;obtain ⟨pp,cap,rfl⟩:=jCx hrow;have HR:Hid (w1.ownsRow W.heap.size 9 1 (.slice pp m0 cap) m0 ((jBw L).map Value.string)∧(Value.slice pp m0 cap=.slice none 0 0↔m0=0)):=⟨hrow,hnil⟩;clear hrow hnil))
 clear cK cS
 have HB1:Hid (Below W.heap.size W w1):=hb1
 have HJ1:Hid (∀ A,Below W.heap.size W A→J [] A):=λA hA=>hJ [] W A h0 ⟨hA.os,hA.tape,hA.output,hA.size,λk hk _=>hA.block k hk⟩
 clear hb1 hBn
 by_cases hm1:m0=0
 ·subst hm1
  obtain ⟨rfl,rfl⟩:pp=none∧cap=0:=by have:=HR.out.2.2 rfl;simpa using this
  clear HR
  have HE:Hid (jBt L=[]):=by show _=_;have:=HM.out;rw [List.length_eq_zero_iff.1 this.symm];simp [jBt,jBw]
  gi_loopw [14] (λi wr=>i=.int .i64 0∧wr=w1) (λ_ _=>0)
  case atStart=>exact ⟨rfl,rfl⟩
  case round =>
   obtain ⟨rfl,rfl⟩:=hrel
   gi_wp2
   gi_loopw [27] (λi wr2=>i=.int .i64 0∧wr2=wr) (λ_ _=>0)
   case atStart=>exact ⟨rfl,rfl⟩
   case round =>
    obtain ⟨rfl,rfl⟩:=hrel
    gi_wp2
    go_end0
    exact ⟨⟨_,rfl⟩,.inl ⟨_,rfl,by rw [HE.out];exact HJ1.out _ HB1.out⟩⟩
 obtain ⟨g,rfl⟩:∃ g,pp=some ⟨g,0,none⟩:=by obtain ⟨g,cap',e⟩:=jF0 HR.out.1 oE;exact ⟨g,by simp at e;exact e.1⟩
 have hrow:=HR.out.1
 have HK:Hid (∃ cur,w1.heap[g]?=some (.cells cur 9 (0,0))∧W.heap.size≤g∧∀ (k:Nat) (x:ByteArray),(jBw L)[k]?=some x→cur[k]?=some (Value.string x)):=by
  rcases hrow.2 with ⟨_,h3⟩ | ⟨g',cap',cur,e,hb,hg,_,_,hsz,htk⟩
  ·omega
  ·obtain ⟨e1,e2⟩:g=g'∧cap=cap':=by simpa using e
   subst e1
   refine ⟨cur,hg,hb,λk x hk=>?_⟩
   have hkl:k<m0:=by have:=(List.getElem?_eq_some_iff.1 hk).1;rw [jB5] at this;have:=HM.out;omega
   have:(cur.toList.take (m0*1))[k]?=some (.string x):=by rw [htk,List.getElem?_map,hk];rfl
   rw [List.getElem?_take_of_lt oE] at this
   simpa using this
 clear hrow HR
 obtain ⟨vs,hvs⟩:∃ vs:List AGrip,vs=(jBw L).map λk=>(jA3 L k).getD ⟨0,ByteArray.empty⟩:=⟨_,rfl⟩
 have HV:Hid (vs=(jBw L).map λk=>(jA3 L k).getD ⟨0,ByteArray.empty⟩):=hvs
 clear hvs
 have HG:Hid (g<w1.heap.size):=by obtain ⟨cur,hg,_⟩:=HK.out;exact (Array.getElem?_eq_some_iff.1 hg).1
 gi_loopw [14,4] (λi v wr=>∃ k:Nat,k≤m0∧i=.int .i64 k∧Hid (wr.ownsRow w1.heap.size 134 2 v k (elsG (vs.take k))∧Below w1.heap.size w1 wr))
  (λi _ _=>m0 - (intOf i).toNat)
 case atStart=>exact ⟨0,Nat.zero_le _,rfl,World.ownsRow_nil _ _ _ _,Below.refl _ _⟩
 case round =>
  obtain ⟨k,hk,rfl,hR⟩:=hrel
  by_cases hlt:k<m0
  ·obtain ⟨x,hx⟩:∃ x,(jBw L)[k]?=some x:=⟨_,List.getElem?_eq_getElem (by rw [jB5];have:=HM.out;omega)⟩
   obtain ⟨y,hy⟩:∃ y,y=(jA3 L x).getD ⟨0,ByteArray.empty⟩:=⟨_,rfl⟩
   have hbW:Below W.heap.size W wr:=HB1.out.trans (hR.out.2.mono HB1.out.size)
   have ck:wr.cell? ⟨g,k,none⟩=some (.string x):=by
    obtain ⟨cur,hg,_,hc⟩:=HK.out
    have:=(hR.out.2.block g HG.out).trans hg
    rw [jAn this]
    exact hc k x hx
   have cB:wr.cell? ⟨Bn,0,none⟩=some (.map (some b)):=(hbW.cell (p:=⟨Bn,0,none⟩) HB.out.1).trans HB.out.2
   have hxs:x.size≤maxLen:=by
    obtain ⟨v',hv'⟩:=jEs.1 (List.mem_of_getElem? hx)
    obtain ⟨_,_,_,_,hok⟩:=HL.out
    exact (hok _ hv').1
   have hlk:=(HL.out.fr (S:=[]) ⟨hbW.os,hbW.tape,hbW.output,hbW.size,λk hk _=>hbW.block k hk⟩ sE).look Tryz.underlying262 (jF2 wr) trivial (k:=x) hxs
   rw [← hy] at hlk
   have HY:Hid (y=(jA3 L x).getD ⟨0,ByteArray.empty⟩∧(jBw L)[k]?=some x):=⟨hy,hx⟩
   clear hy hx
   change (Instr.lookup _ _ (.string x) false).run _ _=.ok (.agg #[.int .u8 (y.way:Int),.string y.val]) _ at hlk
   have hsz:=hR.out.2.size
   have hrk:k<((jBw L).map λk=>(jA3 L k).getD ⟨0,ByteArray.empty⟩).length:=by rw [List.length_map,jB5];have:=HM.out;omega
   have HT:Hid (vs.take (k+1)=vs.take k++[y]):=by
    show _=_
    rw [HV.out,List.take_add_one,List.getElem?_map,HY.out.2,HY.out.1];rfl
   clear hrk
   gi_wp2_with (gi_at_builtin;refine wpListIn_append_own _ rfl _ _ 393 rfl w1.heap.size 134 i0 _ 2 24 Tryz.underlying393 hi hz0 hz1 hz2 rfl (by decide) _ k _ rfl (hR.out.1.alloc _) ⟨wr.heap.size,0,none⟩ 1 1 (elG y) rfl rfl (jBf _ #[.int .u8 (y.way:Int),.string y.val] _) (by intro u hu;simp [elG] at hu;rcases hu with rfl | rfl <;> rfl) (by unfold maxLen;omega) (by omega) (by simp;omega) ?_;intro v' w2 hown' hgrow _)
   go_roundw
   case rel =>
    refine ⟨k+1,by omega,by simp,by rw [HT.out,jPi];exact hown',?_⟩
    exact ((hR.out.2.alloc hsz _).grown hgrow (by simp;omega) (λj hj=>(hR.out.1.lt j hj).1))
   case measure=>simp [intOf];omega
  ·obtain rfl:k=m0:=by omega
   obtain ⟨g2,cap2,rfl⟩:=jF0 hR.out.1 oE
   have HK2:Hid (∃ cur2,wr.heap[g2]?=some (.cells cur2 134 (0,0))∧W.heap.size≤g2∧∀ (j:Nat) (y:AGrip),vs[j]?=some y→cur2[j*2]?=some (Value.int .u8 (y.way:Int))∧cur2[j*2+1]?=some (Value.string y.val)):=by
    rcases hR.out.1.2 with ⟨_,h3⟩ | ⟨g',cap',cur,e,hb,hg,_,_,hsz,htk⟩
    ·omega
    ·obtain ⟨e1,e2⟩:g2=g'∧cap2=cap':=by simpa using e
     subst e1
     have hvl:vs.length=k:=by rw [HV.out,List.length_map,jB5,HM.out]
     refine ⟨cur,hg,Nat.le_trans HB1.out.size hb,λj y hj=>?_⟩
     have hjk:j<k:=by have:=(List.getElem?_eq_some_iff.1 hj).1;omega
     have e3:vs.take k=vs:=List.take_of_length_le oE
     rw [e3] at htk
     have hat:=jRh vs j y hj
     rw [← htk] at hat
     rw [List.getElem?_take_of_lt oE,List.getElem?_take_of_lt oE] at hat
     simpa using hat
   obtain ⟨cur,hgc,hgW,hcs⟩:=HK.out
   obtain ⟨cur2,hgc2,hgW2,hcs2⟩:=HK2.out
   have hgr:=(hR.out.2.block g HG.out).trans hgc
   have hbW:Below W.heap.size W wr:=HB1.out.trans (hR.out.2.mono HB1.out.size)
   have HC:Hid ((∀ (k:Nat) (x:ByteArray),(jBw L)[k]?=some x→cur[k]?=some (Value.string x))∧∀ (j:Nat) (y:AGrip),vs[j]?=some y→cur2[j*2]?=some (Value.int .u8 (y.way:Int))∧cur2[j*2+1]?=some (Value.string y.val)):=⟨hcs,hcs2⟩
   have HS:Hid (J [] wr∧wr.heap[g]?=some (.cells cur 9 (0,0))∧Pk g wr∧wr.heap[g2]?=some (.cells cur2 134 (0,0))∧Pk g2 wr):=⟨HJ1.out _ hbW,hgr,hP0 _ _ hgW hbW,hgc2,hP0 _ _ hgW2 hbW⟩
   clear HK HK2 hgc hcs hgc2 hcs2 hgr hbW hP0
   gi_wp2
   gi_loopw [27] (λi wr=>∃ j:Nat,j≤k∧i=.int .i64 j∧Hid (J ((jBt L).take j) wr∧wr.heap[g]?=some (.cells cur 9 (0,0))∧Pk g wr∧wr.heap[g2]?=some (.cells cur2 134 (0,0))∧Pk g2 wr))
    (λi _=>k - (intOf i).toNat)
   case atStart=>exact ⟨0,Nat.zero_le _,rfl,by rw [List.take_zero];exact HS.out⟩
   case round =>
    obtain ⟨j,hj,rfl,hQ⟩:=hrel
    by_cases hlt2:j<k
    ·obtain ⟨x,hx⟩:∃ x,(jBw L)[j]?=some x:=⟨_,List.getElem?_eq_getElem (by rw [jB5];have:=HM.out;omega)⟩
     obtain ⟨y,hy⟩:∃ y,y=(jA3 L x).getD ⟨0,ByteArray.empty⟩:=⟨_,rfl⟩
     have hvy:vs[j]?=some y:=by rw [HV.out,List.getElem?_map,hx,hy];rfl
     have HXY:Hid ((jBt L).take (j+1)=(jBt L).take j++[(x,y)]):=by
      show _=_
      rw [List.take_add_one]
      unfold jBt
      rw [List.getElem?_map,hx,hy];rfl
     have cx:wr.cell? ⟨g,j,none⟩=some (.string x):=by rw [jAn hQ.out.2.1];exact HC.out.1 j x hx
     have cy0:wr.cell? ⟨g2,j*2,none⟩=some (.int .u8 (y.way:Int)):=by rw [jAn hQ.out.2.2.2.1];exact (HC.out.2 j y hvy).1
     have cy1:wr.cell? ⟨g2,j*2+1,none⟩=some (.string y.val):=by rw [jAn hQ.out.2.2.2.1];exact (HC.out.2 j y hvy).2
     obtain ⟨fn,tmps,assign,body,hy2,hRR⟩:=hY _ (x,y) wr hQ.out.1 (by rw [List.length_take,← HM.out];omega) (by rw [← HXY.out];exact List.take_prefix _ _)
     clear hx hy hvy
     gi_wp2
     refine hRR.mono ?_
     rintro e W3 (⟨rfl,hJ3,hk3⟩ | ⟨rfl,hJx3⟩)
     ·have p1:=hP2 _ _ _ _ _ (.inl rfl) hk3 hQ.out.2.1 hQ.out.2.2.1
      have p2:=hP2 _ _ _ _ _ (.inr rfl) hk3 hQ.out.2.2.2.1 hQ.out.2.2.2.2
      have HN:Hid (J ((jBt L).take (j+1)) W3∧W3.heap[g]?=some (.cells cur 9 (0,0))∧Pk g W3∧W3.heap[g2]?=some (.cells cur2 134 (0,0))∧Pk g2 W3):=⟨by rw [HXY.out];exact hJ3,p1.1.trans hQ.out.2.1,p1.2,p2.1.trans hQ.out.2.2.2.1,p2.2⟩
      clear p1 p2 hJ3 hk3
      gi_wp2
      go_roundw
      case rel=>exact ⟨j+1,by omega,by simp,HN.out⟩
      case measure=>simp [intOf];omega
     ·gi_wp2
      refine bodyPost_ret (results_none rfl _ _ _) rfl ?_
      exact ⟨⟨_,rfl⟩,.inr ⟨_,by rw [← HXY.out];exact List.take_prefix _ _,hJx3⟩⟩
    ·obtain rfl:j=k:=by omega
     gi_wp2
     go_end0
     refine ⟨⟨_,rfl⟩,.inl ⟨_,?_,hQ.out.1⟩⟩
     rw [List.take_of_length_le]
     unfold jBt
     rw [List.length_map,jB5,HM.out]
     exact Nat.le_refl _
theorem jIx (n:Nat) (hn:6≤n) (Bn b m:Nat) (L:List (ByteArray × AGrip)) (Q:ByteArray × AGrip→Prop) (hQ:∀ x∈jBt L,Q x) (hm:m≤67108864) (w:World) (hBl:Bn<w.heap.size) (hBn:w.cell? ⟨Bn,0,none⟩=some (.map (some b))) (hL:MapAs KS EG w b m L)
  (Kp:World→World→Prop) (Pk:Nat→World→Prop)
  (hP0:∀ W k A,Below w.heap.size w W→W.heap.size≤k→Below W.heap.size W A→Pk k A)
  (hP2:∀ k A B c t,(t=9∨t=134)→Kp A B→A.heap[k]?=some (.cells c t (0,0))→Pk k A→B.heap[k]?=A.heap[k]?∧Pk k B) :
  SeqStopsK Fence.wide n Tryz.prog 272 #[.pointer (some ⟨Bn,0,none⟩)] (λy:{ x:ByteArray × AGrip // Q x }=>#[.string y.1.1,.agg #[.int .u8 (y.1.2.way:Int),.string y.1.2.val]]) Kp (λys=>ys.map (·.1)=jBt L) (λ_=>True) L.length w:=λl J Jx W hW hJ _ hY h0=>by
 have h:=jOd n hn l Bn b m L hm W Kp Pk (λk A=>hP0 W k A hW) hP2 (λpre W=>∃ pre':List { x:ByteArray × AGrip // Q x },pre'.map (·.1)=pre∧J pre' W) (λpre W=>∃ pre':List { x:ByteArray × AGrip // Q x },pre'.map (·.1)=pre∧Jx pre' W)
  (λs A B hs hgr=>by obtain ⟨p',e,hj⟩:=hs;exact ⟨p',e,hJ p' A B none hj hgr (λr e=>by cases e)⟩)
  (λpre x W1 hj hlt hpre=>by
   obtain ⟨p',e,hj⟩:=hj
   have hx:Q x:=hQ x (hpre.subset sE)
   obtain ⟨fn,tmps,assign,body,hy,hR⟩:=hY p' ⟨x,hx⟩ W1 hj (by rw [← e,List.length_map] at hlt;exact hlt)
   refine ⟨fn,tmps,assign,body,hy,hR.mono ?_⟩
   rintro e2 W' (⟨r1,r2,r3⟩ | ⟨r1,r2⟩)
   ·exact .inl ⟨r1,⟨p'++[⟨x,hx⟩],by simp [e],r2⟩,r3⟩
   ·exact .inr ⟨r1,⟨p'++[⟨x,hx⟩],by simp [e],r2⟩⟩)
  ((hW.cell (p:=⟨Bn,0,none⟩) hBl).trans hBn) (hL.fr (S:=[]) ⟨hW.os,hW.tape,hW.output,hW.size,λk hk _=>hW.block k hk⟩ sE) ⟨[],rfl,h0⟩
 refine h.mono ?_
 rintro e W' ⟨he,⟨ys,rfl,p',e2,hj⟩ | ⟨pre,_,p',_,hj⟩⟩
 ·exact ⟨he,.inl ⟨p',e2,hj⟩⟩
 ·exact ⟨he,.inr ⟨p',trivial,hj⟩⟩
theorem jOe (n:Nat) (b:Nat) (w:World) :
  CallsIn Fence.wide n Tryz.prog 236 #[.map (some b)] w λe w'=>e=.returned (.func (.func 272) #[] #[.pointer (some ⟨w.heap.size,0,none⟩)])∧w'=w.alloc (.cells #[.map (some b)] 262):=by
 refine callsIn_of_wp Tryz.func236 rfl trivial ?_ rfl
 simp only [Tryz.ntmps236,List.size_toArray,List.length_cons,List.length_nil,Nat.reduceAdd,Nat.reduceSub,Array.replicate_succ,Array.replicate_zero,List.push_toArray,List.append_toArray,List.nil_append,List.cons_append]
 gi_wp2
 go_ret
 exact ⟨rfl,rfl⟩
def jLh (x:ByteArray × AGrip):List Nat:=[x.2.way]++[x.1.size]++jA6 x.1++[x.2.val.size]++jA6 x.2.val
def jAp (xs:List (ByteArray × AGrip)):List Nat:=xs.flatMap jLh
def jCj (x:ByteArray × AGrip):Prop:=x.1.size≤16∧x.2.val.size≤32∧x.2.way<256
def jAr (pre:List { x:ByteArray × AGrip // jCj x }):List Nat:=jAp (pre.map (·.1))
theorem jKl {x:ByteArray × AGrip} (h:jCj x):(jLh x).length≤51:=by
 obtain ⟨h1,h2,_⟩:=h
 simp only [jLh,List.length_append,List.length_cons,List.length_nil,jAz]
 omega
theorem jGx (pre:List { x:ByteArray × AGrip // jCj x }) (x:{ x:ByteArray × AGrip // jCj x }):jAr (pre++[x])=jAr pre++jLh x.1:=by simp [jAr,jAp]
theorem jHj:∀ (pre:List { x:ByteArray × AGrip // jCj x }),(jAr pre).length≤pre.length*51
 | []=>by simp [jAr,jAp]
 | x :: r=>by
  have h1:=jKl x.2
  have h2:=jHj r
  simp only [jAr,jAp,List.map_cons,List.flatMap_cons,List.length_append,List.length_cons] at *
  omega
theorem be1 {n:Nat} (h:n<256):be 1 n=[n]:=by
 unfold be
 have:digit 1 n 0=n:=by unfold digit;simp;omega
 simp [List.range_succ,this]
theorem jGv {W W':World} {B:Nat} {t t2:TypeId} {v:Value} (h:Boxed W B t v) (hf:TFr t2 W W') (ht:t≠t2):Boxed W' B t v :=
 (hf.block B h.lt (λc e=>by rw [show W.heap[B]?=_ from h] at e;exact ht (by simpa using (Obj.cells.inj (Option.some.inj e)).2.1))).trans h
theorem jIb {W W':World} {B:Nat} {t t2:TypeId} {c:Array Value} (h:W.heap[B]?=some (.cells c t (0,0))) (hf:TFr t2 W W') (ht:t≠t2):W'.heap[B]?=some (.cells c t (0,0)) :=
 (hf.block B (Array.getElem?_eq_some_iff.1 h).1 (λc' e=>by rw [h] at e;exact ht (by simpa using (Obj.cells.inj (Option.some.inj e)).2.1))).trans h
theorem KpT.of {t1 t2 t3 t4:TypeId} {n₀ B:Nat} {W W':World} {v u:Value} (hb:Below n₀ W W') (hf:TFr t3 W W') (hB:Boxed W' B t4 v) (h13:t1≠t3) (h23:t2≠t3) (h14:t1≠t4) (h24:t2≠t4) (hn:n₀≤B):KpT t1 t2 n₀ W (W'.setCell ⟨B,0,none⟩ u) :=
 ⟨hb.setCell (p:=⟨B,0,none⟩) hn u,λk c t ht hk=>by
  have h1:t≠t3:=by rcases ht with rfl | rfl <;> assumption
  have h2:t≠t4:=by rcases ht with rfl | rfl <;> assumption
  have e:=jIb hk hf h1
  refine (Below.heap_setCell _ _ _ k (λek=>?_)).trans (e.trans hk.symm)
  simp at ek
  subst ek
  rw [show W'.heap[k]?=_ from hB] at e
  exact h2 (by simpa using (Obj.cells.inj (Option.some.inj e)).2.1.symm)⟩
theorem TFr.others {t:TypeId} {W W':World} (h:TFr t W W'):KeepsOthers W W' :=
 ⟨h.size,λk o hk ho=>(h.block k (Array.getElem?_eq_some_iff.1 hk).1 (λc e=>by rw [hk] at e;cases e;cases ho)).trans hk⟩
theorem jEj {W:World} {B k:Nat} {o:Obj} {u:Value} (h:W.heap[k]?=some o) (hne:k≠B):(W.setCell ⟨B,0,none⟩ u).heap[k]?=some o:=(Below.heap_setCell _ _ _ k (λe=>hne (by simpa using e))).trans h
theorem jLa {W:World} {base size n B:Nat} {e t:TypeId} {v u x:Value} {xs:List Value} (h:W.ownsRow base e size v n xs) (hB:Boxed W B t u) (hte:t≠e):(W.setCell ⟨B,0,none⟩ x).ownsRow base e size v n xs :=
 h.kept (grownBy_setCell' W B x) (.inr (hB.not_row hte h).symm)
theorem jLm (n:Nat) (hn:8≤n) (t b m:Nat) (L:List (ByteArray × AGrip)) (hm:m≤67108864) (w:World) (hL:MapAs KS EG w b m L) (ht:t<18446744073709551616) (hsm:∀ x∈jBt L,jCj x) (hl:L.length≤16) :
  CallsIn Fence.wide n Tryz.prog 190 #[.int .u64 (t:Int),.map (some b)] w λe w'=>e=.returned (.string (str (be 8 t++jAp (jBt L))))∧Below w.heap.size w w':=by
 have hro:Fence.wide.round=none:=rfl
 have h1:1≤n:=by omega
 have hg:=(callsIn_wide (n:=n - 1)).2 (jF7 w.heap.size (.slice none 0 0) [] t 0 w (World.ownsRow_nil _ _ _ _) ht oE (Nat.le_refl _))
 have hf1:Fence.wide.fn 149:=trivial
 have hf2:Fence.wide.fn 236:=trivial
 have hf3:Fence.wide.fn 272:=trivial
 have HL:Hid (MapAs KS EG w b m L∧(∀ x∈jBt L,jCj x)∧L.length≤16):=⟨hL,hsm,hl⟩
 clear hL hsm hl
 refine callsIn_of_wp_marks Tryz.func190 rfl trivial ?_ hro
 simp only [Tryz.ntmps190,List.size_toArray,List.length_cons,List.length_nil,Nat.reduceAdd,Nat.reduceSub,Array.replicate_succ,Array.replicate_zero,List.push_toArray,List.append_toArray,List.nil_append,List.cons_append]
 gi_wp2_with (first
  | (gi_at_call 149;refine hg.mono ?_;rintro e w1 ⟨v1,rfl,ho1,hb1,_⟩;obtain ⟨g,cap,rfl⟩:=jCl ho1 (by omega))
  | (gi_at_call 236;refine (jOe _ b _).mono ?_;rintro e w2 ⟨rfl,rfl⟩))
 have bO:=Boxed.new w1 88 (.slice (some ⟨g,0,none⟩) 8 cap)
 have bA:=Boxed.new (w1.alloc (.cells #[.slice (some ⟨g,0,none⟩) 8 cap] 88)) 262 (.map (some b))
 rw [World.size_alloc] at bA
 have bO1:=bO.alloc (.cells #[.map (some b)] 262)
 have hB0:Below w.heap.size w ((w1.alloc (.cells #[.slice (some ⟨g,0,none⟩) 8 cap] 88)).alloc (.cells #[.map (some b)] 262)):=(hb1.alloc hb1.size _).alloc (by have:=hb1.size;simp;omega) _
 have hsz:((w1.alloc (.cells #[.slice (some ⟨g,0,none⟩) 8 cap] 88)).alloc (.cells #[.map (some b)] 262)).heap.size=w1.heap.size+2:=by simp
 have hw1:=hb1.size
 have hoO:=(ho1.alloc (.cells #[.slice (some ⟨g,0,none⟩) 8 cap] 88)).alloc (.cells #[.map (some b)] 262)
 obtain ⟨W0,hW0⟩:∃ W0,((w1.alloc (.cells #[.slice (some ⟨g,0,none⟩) 8 cap] 88)).alloc (.cells #[.map (some b)] 262))=W0:=⟨_,rfl⟩
 rw [hW0] at bA bO1 hB0 hsz hoO ⊢
 clear hW0 bO ho1 hg
 have hL0:MapAs KS EG W0 b m L:=HL.out.1.fr (S:=[]) ⟨hB0.os,hB0.tape,hB0.output,hB0.size,λk hk _=>hB0.block k hk⟩ sE
 refine wpIn_rangeFunc_ownH hro h1 (gf:=272) (lb:=#[.pointer (some ⟨w1.heap.size+1,0,none⟩)]) rfl hf3 (enters_of Tryz.func272 (by kernel_rfl) rfl)
  (jIx (n - 1) oE (w1.heap.size+1) b m L jCj HL.out.2.1 hm W0 oE bA.cell hL0 (KpT 9 134 w.heap.size) (λ_ _=>True) (λ_ _ _ _ _ _=>trivial) (λk A B c t ht hk hA _=>⟨hk.same k c t ht hA,trivial⟩))
  (λh k=>h.trans k) (KpT.book oE) (Below.refl _ _) (λ_=>rfl)
  (λpre W=>(∃ v,Boxed W w1.heap.size 88 v∧W.ownsRow w.heap.size 5 1 v (8+(jAr pre).length) (bs (be 8 t++jAr pre))∧True)∧Below w.heap.size w W)
  (λ_ _ _=>False)
  (OwnFrom.and (Own.from (holdsRow_own w.heap.size w1.heap.size 88 5 1 (λpre:List { x:ByteArray × AGrip // jCj x }=>8+(jAr pre).length) (λpre=>bs (be 8 t++jAr pre)) (λ_ _=>True)) _) (ownFrom_below (Nat.le_refl _) oE))
  (λ_ _ _ _ _ hs _ _=>hs)
  ⟨⟨_,bO1,by simpa [jAr,jAp] using hoO,trivial⟩,hB0⟩
  (λx a' W=>∃ Bx,w1.heap.size<Bx∧W.heap[Bx]?=some (.cells #[.int .u8 (x.1.2.way:Int),.string x.1.2.val] 134 (0,0))∧a'={ tmps:=#[.int .u64 (t:Int),.map (some b),undef,undef,.string { data:=#[] },.pointer (some ⟨w1.heap.size,0,none⟩),.string x.1.1,.pointer (some ⟨Bx,0,none⟩),.int .u64 (t:Int),.slice (some ⟨g,0,none⟩) 8 cap,.map (some b),.func (.func 272) #[] #[.pointer (some ⟨w1.heap.size+1,0,none⟩)],.string x.1.1,.agg #[.int .u8 (x.1.2.way:Int),.string x.1.2.val],undef,undef,undef,undef,undef,undef,undef,undef,undef,undef,undef,undef,undef],defers:=[] })
  (λx a' _ X Y row hs hg hr=>by
   obtain ⟨Bx,h1,h2,h3⟩:=hs
   exact ⟨Bx,h1,(hg.block Bx (Array.getElem?_eq_some_iff.1 h2).1 (λe=>by obtain ⟨_,o,ho,hc⟩:=hr Bx e.symm;rw [h2] at ho;cases ho;cases hc)).trans h2,h3⟩)
  ?assign ?body ?done ?stop
 case assign =>
  have hsem:=@Oper.semAt_some
  rintro l pre x W K ⟨⟨v,hv,hrow,_⟩,hB1⟩ hK
  gi_wp2
  exact hK _ _ ((KeepsOthers.alloc _ _).from _) (KpT.alloc _ hB1.size _) ⟨⟨v,hv.alloc _,hrow.alloc _,trivial⟩,hB1.alloc hB1.size _⟩ ⟨W.heap.size,hv.lt,World.alloc_heap_new W _,rfl⟩
 case body =>
  have hsem:=@Oper.semAt_some
  rintro l pre x a' W hl2 _ ⟨⟨v,hv,hrow,_⟩,hB⟩ ⟨Bx,hBx,bX,rfl⟩ hlt
  have hc:=hv.cell
  have x0:=jAn bX 0
  have x1:=jAn bX 1
  simp at x0 x1
  have h3:1≤n - 1 - 1:=by omega
  have hq1:Fence.wide.fn 156:=trivial
  have hq2:Fence.wide.fn 235:=trivial
  have hlen:=jHj pre
  have hL16:=HL.out.2.2
  obtain ⟨z1,z2,z3⟩:=x.2
  have c1:=(callsIn_wide (n:=n - 1 - 1 - 1)).2 (jLr w.heap.size v (be 8 t++jAr pre) x.1.2.way (8+(jAr pre).length) W hrow z3 oE hB.size)
  gi_wp2_with fail
  refine c1.mono ?_
  clear c1
  rintro e W1 ⟨v1,rfl,ho1,hb1,ht1⟩
  obtain ⟨g1,k1,rfl⟩:=jCl ho1 oE
  have hv1:=jGv hv ht1 dN
  have bX1:=jIb bX ht1 dN
  have hc1:=hv1.cell
  have hf1:=hv1.frozen
  obtain ⟨W1',hW1'⟩:∃ W1',W1'=W1.setCell ⟨w1.heap.size,0,none⟩ (.slice (some ⟨g1,0,none⟩) (8+(jAr pre).length+1) k1):=⟨_,rfl⟩
  have HA:Hid (Boxed W1' w1.heap.size 88 (.slice (some ⟨g1,0,none⟩) (8+(jAr pre).length+1) k1)∧W1'.heap[Bx]?=some (.cells #[.int .u8 (x.1.2.way:Int),.string x.1.2.val] 134 (0,0))∧W1'.ownsRow w.heap.size 5 1 (.slice (some ⟨g1,0,none⟩) (8+(jAr pre).length+1) k1) (8+(jAr pre).length+1) (bs (be 8 t++jAr pre++be 1 x.1.2.way))∧KpT 9 134 w.heap.size W W1'∧KeepsOthers W W1'):=by
   rw [hW1']
   exact ⟨hv1.set _,jEj bX1 oE,jLa ho1 hv1 dN,KpT.of hb1 ht1 hv1 dN dN dN dN oE,ht1.others.trans (KeepsOthers.setCell _ _ _)⟩
  have yc1:=jAn HA.out.2.1 1
  simp at yc1
  have c2:=(callsIn_wide (n:=n - 1 - 1 - 1)).2 (jNd w.heap.size (.slice (some ⟨g1,0,none⟩) (8+(jAr pre).length+1) k1) (be 8 t++jAr pre++be 1 x.1.2.way) (8+(jAr pre).length+1) x.1.1 W1' HA.out.2.2.1 oE oE (Nat.le_trans hB.size HA.out.2.2.2.1.below.size))
  clear hc x0 x1
  rw [hW1'] at yc1
  gi_wp2_with fail
  rw [← hW1']
  clear hW1'
  refine c2.mono ?_
  clear c2
  rintro e W2 ⟨v2,rfl,ho2,hb2,ht2⟩
  obtain ⟨g2,k2,rfl⟩:=jCl ho2 oE
  have hv2:=jGv HA.out.1 ht2 dN
  have bX2:=jIb HA.out.2.1 ht2 dN
  have hc2:=hv2.cell
  have hf2:=hv2.frozen
  have y0_2:=jAn bX2 0
  have y1_2:=jAn bX2 1
  simp at y0_2 y1_2
  obtain ⟨W2',hW2'⟩:∃ W2',W2'=W2.setCell ⟨w1.heap.size,0,none⟩ (.slice (some ⟨g2,0,none⟩) (8+(jAr pre).length+1+1+x.1.1.size) k2):=⟨_,rfl⟩
  have HA2:Hid (Boxed W2' w1.heap.size 88 (.slice (some ⟨g2,0,none⟩) (8+(jAr pre).length+1+1+x.1.1.size) k2)∧W2'.heap[Bx]?=some (.cells #[.int .u8 (x.1.2.way:Int),.string x.1.2.val] 134 (0,0))∧W2'.ownsRow w.heap.size 5 1 (.slice (some ⟨g2,0,none⟩) (8+(jAr pre).length+1+1+x.1.1.size) k2) (8+(jAr pre).length+1+1+x.1.1.size) (bs (be 8 t++jAr pre++be 1 x.1.2.way++[x.1.1.size]++jA6 x.1.1))∧KpT 9 134 w.heap.size W W2'∧KeepsOthers W W2'):=by
   rw [hW2']
   exact ⟨hv2.set _,jEj bX2 oE,jLa ho2 hv2 dN,HA.out.2.2.2.1.trans (KpT.of hb2 ht2 hv2 dN dN dN dN oE),HA.out.2.2.2.2.trans (ht2.others.trans (KeepsOthers.setCell _ _ _))⟩
  have yc2:=jAn HA2.out.2.1 1
  simp at yc2
  have c3:=(callsIn_wide (n:=n - 1 - 1 - 1)).2 (jNd w.heap.size (.slice (some ⟨g2,0,none⟩) (8+(jAr pre).length+1+1+x.1.1.size) k2) (be 8 t++jAr pre++be 1 x.1.2.way++[x.1.1.size]++jA6 x.1.1) (8+(jAr pre).length+1+1+x.1.1.size) x.1.2.val W2' HA2.out.2.2.1 oE oE (Nat.le_trans hB.size HA2.out.2.2.2.1.below.size))
  clear hc1 hf1 yc1
  rw [hW2'] at yc2
  gi_wp2_with fail
  rw [← hW2']
  clear hW2'
  refine c3.mono ?_
  clear c3
  rintro e W3 ⟨v3,rfl,ho3,hb3,ht3⟩
  obtain ⟨g3,k3,rfl⟩:=jCl ho3 oE
  have hv3:=jGv HA2.out.1 ht3 dN
  have bX3:=jIb HA2.out.2.1 ht3 dN
  have hc3:=hv3.cell
  have hf3:=hv3.frozen
  have y0_3:=jAn bX3 0
  have y1_3:=jAn bX3 1
  simp at y0_3 y1_3
  obtain ⟨W3',hW3'⟩:∃ W3',W3'=W3.setCell ⟨w1.heap.size,0,none⟩ (.slice (some ⟨g3,0,none⟩) (8+(jAr pre).length+1+1+x.1.1.size+1+x.1.2.val.size) k3):=⟨_,rfl⟩
  have HA3:Hid (Boxed W3' w1.heap.size 88 (.slice (some ⟨g3,0,none⟩) (8+(jAr pre).length+1+1+x.1.1.size+1+x.1.2.val.size) k3)∧W3'.heap[Bx]?=some (.cells #[.int .u8 (x.1.2.way:Int),.string x.1.2.val] 134 (0,0))∧W3'.ownsRow w.heap.size 5 1 (.slice (some ⟨g3,0,none⟩) (8+(jAr pre).length+1+1+x.1.1.size+1+x.1.2.val.size) k3) (8+(jAr pre).length+1+1+x.1.1.size+1+x.1.2.val.size) (bs (be 8 t++jAr pre++be 1 x.1.2.way++[x.1.1.size]++jA6 x.1.1++[x.1.2.val.size]++jA6 x.1.2.val))∧KpT 9 134 w.heap.size W W3'∧KeepsOthers W W3'):=by
   rw [hW3']
   exact ⟨hv3.set _,jEj bX3 oE,jLa ho3 hv3 dN,HA2.out.2.2.2.1.trans (KpT.of hb3 ht3 hv3 dN dN dN dN oE),HA2.out.2.2.2.2.trans (ht3.others.trans (KeepsOthers.setCell _ _ _))⟩
  have yc3:=jAn HA3.out.2.1 1
  simp at yc3
  clear hc2 hf2 yc2 yc3
  gi_wp2
  rw [← hW3']
  clear hW3'
  have h:=HA3.out
  have e1:be 8 t++jAr pre++be 1 x.1.2.way++[x.1.1.size]++jA6 x.1.1++[x.1.2.val.size]++jA6 x.1.2.val=be 8 t++jAr (pre++[x]):=by
   rw [jGx,be1 z3];simp [jLh]
  have e2:8+(jAr pre).length+1+1+x.1.1.size+1+x.1.2.val.size=8+(jAr (pre++[x])).length:=by
   rw [jGx];simp only [jLh,List.length_append,List.length_cons,List.length_nil,jAz];omega
  rw [e1,e2] at h
  exact ⟨h.2.2.2.2.from _,h.2.2.2.1,⟨_,h.1,h.2.2.1,trivial⟩,hB.trans h.2.2.2.1.below⟩
 case done =>
  rintro D ys W hD hys ⟨⟨v,hv,hrow,_⟩,hB⟩ hK
  have hc:=hv.cell
  obtain ⟨g5,k5,rfl⟩:=jCl hrow oE
  have hcv:=jDo W g5 0 (8+(jAr ys).length) k5 (be 8 t++jAr ys) (by rw [List.length_append,jB3]) (jE1 hrow)
  gi_wp2
  refine ⟨by simp,.inl ⟨_,_,rfl,run_takeDeferred hK,?_⟩⟩
  have e:jAr ys=jAp (jBt L):=by unfold jAr;rw [hys]
  exact ⟨_,results_tmp rfl _ _ _,by rw [← e];rfl,hB.trans (belowK_b (w:=w) (Nat.le_refl _) W D _ _ oE hK rfl rfl)⟩
 case stop =>
  rintro D c pre W _ _ h _
  exact h.elim
theorem jKw (t b m:Nat) (L:List (ByteArray × AGrip)) (hm:m≤67108864) (w:World) (hL:MapAs KS EG w b m L) (ht:t<18446744073709551616) (hsm:∀ x∈jBt L,jCj x) (hl:L.length≤16) :
  Calls Tryz.prog 190 #[.int .u64 (t:Int),.map (some b)] w λe w'=>e=.returned (.string (str (be 8 t++jAp (jBt L))))∧Below w.heap.size w w' :=
 (callsIn_wide (n:=8)).1 (jLm 8 (Nat.le_refl _) t b m L hm w hL ht hsm hl)
end Go.Proofs.YtcalalndmcemiaaGreatDoor
