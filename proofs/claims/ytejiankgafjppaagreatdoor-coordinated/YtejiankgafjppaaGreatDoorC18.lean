import Derived.Test.YtejiankgafjppaaGreatDoorC01
import Derived.Sort.MapsRangeIn
import Derived.RangeFuncSeq
import Derived.Test.YtejiankgafjppaaGreatDoorC14
import Derived.Test.YtejiankgafjppaaGreatDoorC13
import Derived.Test.YtejiankgafjppaaGreatDoorC02
import Derived.BigQuiet
import Derived.Test.YtejiankgafjppaaGreatDoorC17
import Derived.RangeFuncKeeps
import Derived.RangeFuncBound
import Derived.Shelf.Abstract
import Derived.Shelf.AbstractIn
import Derived.WalkKit
import Derived.OwnWalkIn
import Derived.TacticsInMore
import Derived.LoopNIn
import Derived.LoopIn
import Derived.Test.YtejiankgafjppaaGreatDoorC07
import Derived.Maps.AppendAt
import Derived.RangeFuncNested
import Derived.RangeFuncBox
import Derived.RangeFuncCalls
import Derived.RangeFuncLeaves
import Derived.Shelf.RegionOpen
import Derived.Lib.AppendStr
namespace Go.Proofs.YtejiankgafjppaaGreatDoor
open Go.RowKit Go.Maps
open Sc
section
variable {P:Program} {K V:Type} [DecidableEq K] {kt:TypeId} {KR:KeyRep P K kt} {ER:ElRep V} {w w':World} {b r n:Nat} {l rem:List (K × V)}
theorem del_perm:∀ {l:List (K × V)} {k:K} {v:V},Once1 l→(k,v)∈l→l.Perm ((k,v) :: alDel l k)
 | [],_,_,_,h=>by cases h
 | p :: r,k,v,h1,h2=>by
  obtain ⟨h3,h4⟩:=List.pairwise_cons.1 h1
  rcases List.mem_cons.1 h2 with e | hm
  ·subst e
   have:alDel ((k,v) :: r) k=r:=by
    unfold alDel
    rw [List.filter_cons_of_neg (by simp),List.filter_eq_self]
    intro q hq
    have:=h3 q hq
    simp;exact fun e=>this e.symm
   rw [this]
  ·have hne:p.1≠k:=fun e=>h3 _ hm e
   have:alDel (p :: r) k=p :: alDel r k:=by unfold alDel;rw [List.filter_cons_of_pos (by simp [hne])]
   rw [this]
   exact ((del_perm h4 hm).cons p).trans (List.Perm.swap _ _ _)
theorem RangesAs.walks (h:RangesAs KR ER w b r n l rem) (hk:KeepsWalks w w'):RangesAs KR ER w' b r n l rem∧w'.rangeLeft b r=w.rangeLeft b r:=by
 obtain ⟨es,left,cnt,h1,h2⟩:=h
 have h1':=h1.of_walks hk
 exact ⟨⟨es,left,cnt,h1',h2⟩,by rw [h1'.left_eq,h1.left_eq]⟩
theorem RangesAs.iter (h:RangesAs KR ER w b r n l rem):∃ o:Obj,w.heap[r]?=some o∧o.isWalk=true:=by
 obtain ⟨es,left,cnt,h1,h2⟩:=h
 exact h1.iter_walk
theorem RangesAs.once (h:RangesAs KR ER w b r n l rem):Once1 rem:=by
 obtain ⟨_,_,_,_,_,_,_,h5,_⟩:=h
 exact h5
end
section
variable {F:Fence} {nF:Nat} {P:Program} {K V:Type} [DecidableEq K] {kt:TypeId} {KR:KeyRep P K kt} {ER:ElRep V} {w:World} {ops:Array Oper} {rest:List Oper} {o:Oper} {a:Act} {Q:Exit→Act→World→Prop}
theorem wpListIn_map_range (hg:o.guard=none) (m:Operand) (t e:TypeId) (hop:o.op=Op.range t m) (ht:P.underlying t=some (.map kt e)) (b n:Nat) (l:List (K × V)) (hm:a.eval m=.map (some b)) (hM:MapAs KR ER w b n l)
  (hK:∀ w',RangesAs KR ER w' b w.heap.size n l l→w.grownBy w' none→w'.heap.size=w.heap.size+1→wpListIn F nF P ops Q rest (a.put o.dst (.pointer (some ⟨w.heap.size,0,none⟩))) w'):wpListIn F nF P ops Q (o :: rest) a w:=by
 obtain ⟨es,ho,hp,h1,hok⟩:=hM
 refine wpListIn_range_own w hg m t hop kt e KR.law ht ER.R b n _ hm ho ?_
 intro w' hrg hgr hsz
 exact hK w' ⟨es,_,_,hrg,hp,h1,hok,h1,fun p hp=>hp,fun k hk=>has_of hp hok hk⟩ hgr hsz
theorem wpListIn_map_next (hg:o.guard=none) (it:Operand) (hop:o.op=Op.next it false) (b r n:Nat) (l rem:List (K × V)) (hit:a.eval it=.pointer (some ⟨r,0,none⟩)) (hM:RangesAs KR ER w b r n l rem)
  (hDone:rem=[]→wpListIn F nF P ops Q rest (a.put o.dst (.tuple #[.bool false])) w)
  (hMore:∀ (k:K) (v:V) (w':World),(k,v)∈rem→RangesAs KR ER w' b r n l (alDel rem k)→w'.rangeLeft b r<w.rangeLeft b r→w.grownBy w' (some r)→w'.heap.size=w.heap.size →
   (Instr.entry (.pointer (some ⟨r,0,none⟩))).run P w'=.ok (.tuple #[KR.kv k,ER.ev v]) w'→wpListIn F nF P ops Q rest (a.put o.dst (.tuple #[.bool true,KR.kv k,ER.ev v])) w'):wpListIn F nF P ops Q (o :: rest) a w:=by
 obtain ⟨es,left,cnt,hrg,hp,h1,hok,h5,h6,h7⟩:=hM
 refine wpListIn_next_ranges (α:=Value) (β:=Value) w hg it hop kt KR.law ER.R id id (fun key _ _=>⟨key,rfl⟩) (fun v _ _=>⟨v,rfl⟩) b r n _ left cnt hit hrg ?_ ?_
 ·intro _ hl
  refine hDone ?_
  cases hr:rem with
  | nil=>rfl
  | cons p q =>
   have hm:(p.1,p.2)∈rem:=by rw [hr];exact List.mem_cons_self
   have:=h7 p.1 (hok _ (h6 _ hm)).1
   rw [hl,alLook_of h5 hm] at this
   cases this
 ·intro key val kl y w' cnt' hkey hlk hv hat hrg' hlt hgr hsz hen
  have hhas:Maps.has (.map es) kl=true:=Maps.has_true_of_atKey hat
  rw [Maps.has_eq,List.any_eq_true] at hhas
  obtain ⟨p,hpm,hps⟩:=hhas
  obtain ⟨q,hq,rfl⟩:=List.mem_map.1 (hp.mem_iff.1 hpm)
  obtain ⟨k,v⟩:=q
  have hkk:=(hok _ hq).1
  have hvk:=(hok _ hq).2
  have ekl:KR.kl k=kl:=WideAt.sameKey_eq hps
  subst ekl
  have ek:key=KR.kv k:=KR.law.inj hkey (KR.key k hkk)
  have ey:=hat (ER.el v)
  rw [atKey_of hp h1 hok hkk (alLook_of h1 hq)] at ey
  have ev:val=ER.ev v:=ER.inv val v y.2 hvk (by rw [ey];exact hv)
  have hmem:(k,v)∈rem:=by
   have:=h7 k hkk
   rw [hlk] at this
   cases hr:alLook rem k with
   | none=>rw [hr] at this;cases this
   | some u =>
    have e2:=h1.same (h6 _ (alLook_mem hr)) hq rfl
    rw [← e2];exact alLook_mem hr
  subst ek ev
  refine hMore k v w' hmem ⟨es,_,cnt',hrg',hp,h1,hok,h5.del k,fun p hp=>h6 p (List.mem_filter.1 hp).1,fun j hj=>?_⟩ (by rw [hrg'.left_eq,hrg.left_eq];exact hlt) hgr hsz hen
  rw [h7 j hj,KR.same hj hkk,alLook_del]
  by_cases e:j=k
  ·simp [e]
  ·simp [e]
end
def swapN (l:List Nat) (j:Nat):List Nat:=(l.set j (l.getD (j - 1) 0)).set (j - 1) (l.getD j 0)
theorem getD_at {l:List Nat} {j:Nat} (h:j<l.length):l.getD j 0=l[j]:=by simp [List.getD,List.getElem?_eq_getElem h]
theorem swapN_perm {l:List Nat} {j:Nat} (h:j<l.length):(swapN l j).Perm l:=by
 unfold swapN
 rw [getD_at h,getD_at (by omega:j - 1<l.length)]
 exact List.set_set_perm h (by omega)
theorem swapN_at {l:List Nat} {j:Nat} (h:j<l.length) (hj:0<j) (a:Nat):(swapN l j).getD a 0=if a=j then l.getD (j - 1) 0 else if a=j - 1 then l.getD j 0 else l.getD a 0:=by
 unfold swapN
 simp only [List.getD_eq_getElem?_getD,List.getElem?_set,List.length_set]
 by_cases h1:a=j
 ·subst h1
  rw [if_neg (by omega),if_pos rfl,if_pos h,if_pos rfl]
  rfl
 ·by_cases h2:a=j - 1
  ·subst h2
   rw [if_pos rfl,if_pos (by omega),if_neg h1,if_pos rfl]
   rfl
  ·rw [if_neg (fun e=>h2 e.symm),if_neg (fun e=>h1 e.symm),if_neg h1,if_neg h2]
def AscTo (l:List Nat) (k:Nat):Prop:=∀ a b,a<b→b<k→l.getD a 0≤l.getD b 0
def AscBut (l:List Nat) (k j:Nat):Prop:=∀ a b,a<b→b<k→b≠j→l.getD a 0≤l.getD b 0
theorem AscTo.but {l:List Nat} {k:Nat} (h:AscTo l k):AscBut l (k+1) k:=fun a b h1 h2 h3=>h a b h1 (by omega)
theorem AscBut.first {l:List Nat} {k:Nat} (h:AscBut l k 0):AscTo l k:=fun a b h1 h2=>h a b h1 h2 (by omega)
theorem AscBut.stop {l:List Nat} {k j:Nat} (h:AscBut l k j) (hj:0<j) (hle:l.getD (j - 1) 0≤l.getD j 0):AscTo l k:=by
 intro a b h1 h2
 by_cases e:b=j
 ·subst e
  by_cases e2:a=b - 1
  ·rw [e2];exact hle
  ·exact Nat.le_trans (h a (b - 1) (by omega) (by omega) (by omega)) hle
 ·exact h a b h1 h2 e
theorem AscBut.swap {l:List Nat} {k j:Nat} (h:AscBut l k j) (hj:0<j) (hjl:j<l.length) (hjk:j<k) (hlt:l.getD j 0<l.getD (j - 1) 0):AscBut (swapN l j) k (j - 1):=by
 intro a b h1 h2 h3
 rw [swapN_at hjl hj,swapN_at hjl hj]
 by_cases e:b=j
 ·rw [if_pos e,if_neg (by omega:¬ a=j)]
  by_cases e2:a=j - 1
  ·rw [if_pos e2];omega
  ·rw [if_neg e2];exact h a (j - 1) (by omega) (by omega) (by omega)
 ·rw [if_neg e,if_neg h3]
  by_cases e2:a=j
  ·rw [if_pos e2];exact h (j - 1) b (by omega) h2 e
  ·rw [if_neg e2]
   by_cases e3:a=j - 1
   ·rw [if_pos e3];exact h j b (by omega) h2 e
   ·rw [if_neg e3];exact h a b h1 h2 e
theorem AscTo.pairwise {l:List Nat} (h:AscTo l l.length):l.Pairwise (·≤·):=by
 rw [List.pairwise_iff_getElem]
 intro i j hi hj hij
 have:=h i j hij hj
 rwa [getD_at hi,getD_at hj] at this
set_option maxRecDepth 100000 in
set_option maxHeartbeats 2000000 in
theorem nanU (x:Int) (w:World):Calls Tryz.prog 318 #[.int .u64 x] w fun e w'=>e=.returned (.bool false)∧w'=w:=by
 go_enter Tryz.func318,Tryz.ntmps318
 go_wp2
 go_ret
 exact ⟨by simp,rfl⟩
set_option maxRecDepth 100000 in
set_option maxHeartbeats 2000000 in
theorem lessU (x y:Int) (w:World):Calls Tryz.prog 283 #[.int .u64 x,.int .u64 y] w fun e w'=>e=.returned (.bool (decide (x<y)))∧w'=w:=by
 go_enter Tryz.func283,Tryz.ntmps283
 go_wp2_with fail
 refine (nanU x w).mono ?_
 rintro e w1 ⟨rfl,rfl⟩
 go_wp2
 go_ret
 exact ⟨rfl,rfl⟩
theorem u64s_swap (l:List Nat) (j:Nat):((u64s l).set j (.int .u64 (l.getD (j - 1) 0:Nat))).set (j - 1) (.int .u64 (l.getD j 0:Nat))=u64s (swapN l j):=by
 unfold u64s swapN
 rw [List.map_set,List.map_set]
structure SrtIn (w wr:World) (B g n cap:Nat) (l l':List Nat):Prop where
 perm:l'.Perm l
 row:wr.ownsRow B 34 1 (.slice (some ⟨g,0,none⟩) n cap) n (u64s l')
 fr:Fr [g] w wr
theorem SrtIn.swap {w wr:World} {B g n cap j:Nat} {l l':List Nat} (h:SrtIn w wr B g n cap l l') (hj:j<l'.length) :
  SrtIn w ((wr.setCell ⟨g,j,none⟩ (.int .u64 (l'.getD (j - 1) 0:Nat))).setCell ⟨g,j - 1,none⟩ (.int .u64 (l'.getD j 0:Nat))) B g n cap l (swapN l' j) where
 perm:=(swapN_perm hj).trans h.perm
 row:=by
  have h1:=((h.row.stored j (.int .u64 (l'.getD (j - 1) 0:Nat))).1.stored (j - 1) (.int .u64 (l'.getD j 0:Nat))).1
  rwa [u64s_swap] at h1
 fr:=(h.fr.setCell (.inl (by simp)) _).setCell (.inl (by simp)) _
theorem SrtIn.drewN {w wr:World} {B g n cap:Nat} {l l':List Nat} (h:SrtIn w wr B g n cap l l') (k:Nat):SrtIn w (wr.drewN k) B g n cap l l' where
 perm:=h.perm
 row:=ownsRow_fr h.row (frDrewN (Fr.refl [] wr) k) (fun _ _=>by simp)
 fr:=frDrewN h.fr k
theorem SrtIn.at {w wr:World} {B g n cap:Nat} {l l':List Nat} (h:SrtIn w wr B g n cap l l') {k:Nat} (hk:k<l'.length):wr.cell? ⟨g,k,none⟩=some (.int .u64 ((l'.getD k 0:Nat):Int)) :=
 segs_cell h.row k _ (by rw [getD_at hk];exact List.getElem?_eq_getElem hk)
theorem SrtIn.free {w wr:World} {B g n cap:Nat} {l l':List Nat} (h:SrtIn w wr B g n cap l l') (k:Nat):wr.frozen? ⟨g,k,none⟩=false:=by
 rcases h.row.2 with ⟨h',_⟩ | ⟨g',cap',cur,h',hb,hg,_⟩
 ·simp at h'
 ·simp only [Value.slice.injEq,Option.some.injEq,Addr.mk.injEq,and_true,true_and] at h'
  obtain ⟨rfl,rfl⟩:=h'
  exact blk_free hg _
set_option maxRecDepth 100000 in
set_option maxHeartbeats 4000000 in
theorem insertU (B g n cap:Nat) (l:List Nat) (w:World) (h:w.ownsRow B 34 1 (.slice (some ⟨g,0,none⟩) n cap) n (u64s l)) (hl:l.length=n) (hn:n≤67108864) :
  Calls Tryz.prog 329 #[.slice (some ⟨g,0,none⟩) n cap,.int .i64 0,.int .i64 (n:Int)] w fun e w'=>e=.returned (.tuple #[])∧∃ l',SrtIn w w' B g n cap l l'∧AscTo l' n:=by
 have HL:Hid (l.length=n):=hl
 have H0:Hid (SrtIn w w B g n cap l l):=⟨List.Perm.refl _,h,Fr.refl _ _⟩
 clear h hl
 go_enter Tryz.func329,Tryz.ntmps329
 go_wp2
 go_loopw [6] (fun i wr=>∃ k:Nat,i=.int .i64 k∧1≤k∧(k≤n∨k=1)∧∃ l',SrtIn w wr B g n cap l l'∧AscTo l' k) (fun i _=>n - (intOf i).toNat)
 case atStart=>exact ⟨1,rfl,by omega,.inr rfl,l,H0.out,fun a b h1 h2=>by omega⟩
 case round =>
  obtain ⟨k,rfl,hk1,hkn,l1,hs1,ha1⟩:=hrel
  by_cases hlt:k<n
  ·have j1:(k:Int)<(n:Int):=by omega
   have j2:IntKind.i64.wrap ((k:Int)+1)=(k:Int)+1:=by rw [IntKind.wrap_i64];omega
   have HS1:Hid (SrtIn w wr B g n cap l l1):=hs1
   have HA1:Hid (AscTo l1 k):=ha1
   clear hs1 ha1
   go_wp2
   go_loopw [7] (fun i wq=>∃ j:Nat,i=.int .i64 j∧j≤k∧∃ l',SrtIn w wq B g n cap l l'∧AscBut l' (k+1) j) (fun i _=>(intOf i).toNat)
   case atStart=>exact ⟨k,rfl,by omega,l1,HS1.out,HA1.out.but⟩
   case round =>
    obtain ⟨j,rfl,hjk,l2,hs2,ha2⟩:=hrel
    have HS2:Hid (SrtIn w wr B g n cap l l2):=hs2
    have HA2:Hid (AscBut l2 (k+1) j):=ha2
    have HLn:Hid (l2.length=n):=by rw [← HL.out];exact hs2.perm.length_eq
    clear hs2 ha2
    have j7:IntKind.i64.wrap ((k:Int)+1)=(k:Int)+1:=j2
    cases j with
    | zero =>
     go_wp2
     go_quiet (first | (go_at_call 283;refine Calls.quiet_of_same (lessU _ _ _)))
     go_wp2
     refine ⟨⟨k+1,by simp,by omega,.inl (by omega),l2,HS2.out.drewN _,HA2.out.first⟩,by simp [intOf];omega⟩
    | succ i =>
     have c1:=HS2.out.at (k:=i+1) (by rw [HLn.out];omega)
     have c2:=HS2.out.at (k:=i) (by rw [HLn.out];omega)
     have f1:wr.frozen? ⟨g,i+1,none⟩=false:=HS2.out.free _
     have f2:wr.frozen? ⟨g,i,none⟩=false:=HS2.out.free _
     have j3:(0:Int)<((i+1:Nat):Int):=by omega
     have j4:IntKind.i64.wrap (((i+1:Nat):Int) - 1)=(i:Int):=by rw [IntKind.wrap_i64];omega
     have j5:((i+1:Nat):Int)<(n:Int):=by omega
     have j6:(i:Int)<(n:Int):=by omega
     obtain ⟨x,hx⟩:∃ x,x=l2.getD (i+1) 0:=⟨_,rfl⟩
     obtain ⟨y,hy⟩:∃ y,y=l2.getD i 0:=⟨_,rfl⟩
     rw [← hx] at c1
     rw [← hy] at c2
     have HX:Hid (x=l2.getD (i+1) 0):=hx
     have HY:Hid (y=l2.getD i 0):=hy
     clear hx hy
     by_cases hxy:(x:Int)<(y:Int)
     ·have hd:decide ((x:Int)<(y:Int))=true:=by simp [hxy]
      go_wp2
      go_quiet (first | (go_at_call 283;refine Calls.quiet_of_same (lessU _ _ _)))
      go_wp2
      go_region
      all_goals go_wp2
      have hlen:i+1<l2.length:=by rw [HLn.out];omega
      have hsw:=(HS2.out.drewN (nq+1)).swap hlen
      rw [show i+1 - 1=i from rfl,← HX.out,← HY.out] at hsw
      refine ⟨⟨i,rfl,by omega,swapN l2 (i+1),hsw,?_⟩,by simp [intOf]⟩
      exact HA2.out.swap (by omega) hlen (by omega) (by rw [show i+1 - 1=i from rfl,← HX.out,← HY.out];omega)
     ·have hd:decide ((x:Int)<(y:Int))=false:=by simp [hxy]
      go_wp2
      go_quiet (first | (go_at_call 283;refine Calls.quiet_of_same (lessU _ _ _)))
      go_wp2
      refine ⟨⟨k+1,by simp,by omega,.inl (by omega),l2,HS2.out.drewN _,HA2.out.stop (by omega) ?_⟩,by simp [intOf];omega⟩
      rw [show i+1 - 1=i from rfl,← HX.out,← HY.out];omega
  ·have j1:¬ (k:Int)<(n:Int):=by omega
   have HS1:Hid (SrtIn w wr B g n cap l l1):=hs1
   have HA1:Hid (AscTo l1 k):=ha1
   clear hs1 ha1
   go_wp2
   go_end0
   refine ⟨rfl,l1,HS1.out,fun a b h1 h2=>HA1.out a b h1 (by omega)⟩
set_option maxRecDepth 100000 in
set_option maxHeartbeats 2000000 in
theorem pdqU_few (B g n cap:Nat) (k:Int) (l:List Nat) (w:World) (h:w.ownsRow B 34 1 (.slice (some ⟨g,0,none⟩) n cap) n (u64s l)) (hl:l.length=n) (hn:n≤12) :
  Calls Tryz.prog 304 #[.slice (some ⟨g,0,none⟩) n cap,.int .i64 0,.int .i64 (n:Int),.int .i64 k] w fun e w'=>e=.returned (.tuple #[])∧∃ l',SrtIn w w' B g n cap l l'∧AscTo l' n:=by
 have hi:=insertU B g n cap l w h hl (by omega)
 have j1:(n:Int)≤12:=by omega
 have j2:IntKind.i64.wrap ((n:Int) - 0)=(n:Int):=by rw [IntKind.wrap_i64];omega
 have j3:IntKind.i64.wrap (n:Int)=(n:Int):=by rw [IntKind.wrap_i64];omega
 clear h hl
 go_enter Tryz.func304,Tryz.ntmps304
 go_wp2
 refine wp_loop_rounds 1 ?_
 rw [rounds_succ]
 go_wp2_with fail
 refine hi.mono ?_
 clear hi
 rintro e w1 ⟨rfl,hp⟩
 go_wp2
 refine bodyPost_ret (results_none rfl _ _ _) rfl ?_
 exact ⟨rfl,hp⟩
set_option maxRecDepth 100000 in
set_option maxHeartbeats 2000000 in
theorem sortU_few (B g n cap:Nat) (l:List Nat) (w:World) (h:w.ownsRow B 34 1 (.slice (some ⟨g,0,none⟩) n cap) n (u64s l)) (hl:l.length=n) (hn:n≤12) :
  Calls Tryz.prog 256 #[.slice (some ⟨g,0,none⟩) n cap] w fun e w'=>e=.returned (.tuple #[])∧∃ l',SrtIn w w' B g n cap l l'∧AscTo l' n:=by
 have hp:=fun k=>pdqU_few B g n cap k l w h hl hn
 clear h hl
 go_enter Tryz.func256,Tryz.ntmps256
 go_wp2_with fail
 refine (Tryz.bits_Len n w (by omega) (by omega)).mono ?_
 rintro e w1 ⟨rfl,rfl⟩
 go_wp2_with fail
 refine (hp _).mono ?_
 rintro e w1 ⟨rfl,hq⟩
 go_wp2
 go_end0
 exact ⟨rfl,hq⟩
end Go.Proofs.YtejiankgafjppaaGreatDoor
namespace Go.Proofs.YtejiankgafjppaaGreatDoor
open Go.RowKit Go.Maps Go.Shelf
open Sc
set_option maxRecDepth 100000 in
set_option maxHeartbeats 2000000 in
theorem appendSeqU_in (n:Nat) (hn:3≤n) (g:Nat) (lb:Array Value) (hFg:Fence.wide.fn g) (eg:∀ args w,(callFunc g args).run Tryz.prog w=.ok (.enter g args) w) (S:List Nat→Prop) (N:Nat) (hN:N≤67108864) (w:World)
  (hseq:SeqStopsK Fence.wide (n - 1) Tryz.prog g lb (fun x:Nat=>#[.int .u64 (x:Int)]) KeepsWalks S (fun _=>True) N w) :
  CallsIn Fence.wide n Tryz.prog 303 #[.slice none 0 0,.func (.func g) #[] lb] w fun e w'=>∃ v ss,e=.returned v∧S ss∧w'.ownsRow w.heap.size 34 1 v ss.length (u64s ss)∧(v=.slice none 0 0↔ss=[])∧Below w.heap.size w w':=by
 have h1:1≤n:=by omega
 have hro:Fence.wide.round=none:=rfl
 obtain ⟨i0,hi,hz0,hz1,hz2⟩:=info_parts Tryz.infoU64
 refine callsIn_of_wp_marks Tryz.func303 rfl trivial ?_ hro
 simp only [Tryz.ntmps303,List.size_toArray,List.length_cons,List.length_nil,Nat.reduceAdd,Nat.reduceSub,Array.replicate_succ,Array.replicate_zero,List.push_toArray,List.append_toArray,List.nil_append,List.cons_append]
 gi_wp2
 have bO:=Boxed.new w 56 (.slice none 0 0)
 have hB0:Below w.heap.size w (w.alloc (.cells #[.slice none 0 0] 56)):=(Below.refl _ w).alloc (Nat.le_refl _) _
 have hsz:(w.alloc (.cells #[.slice none 0 0] 56)).heap.size=w.heap.size+1:=by simp
 obtain ⟨W0,hW0⟩:∃ W0,(w.alloc (.cells #[.slice none 0 0] 56))=W0:=⟨_,rfl⟩
 rw [hW0] at bO hB0 hsz ⊢
 clear hW0
 refine wpIn_rangeFunc_ownH hro h1 (gf:=g) (lb:=lb) rfl hFg eg hseq walksK_t walksK_b hB0 (fun _=>rfl)
  (fun pre W=>(∃ v,Boxed W w.heap.size 56 v∧W.ownsRow w.heap.size 34 1 v pre.length (u64s pre)∧(v=.slice none 0 0↔pre=[]))∧Below w.heap.size w W)
  (fun _ _ _=>False)
  (OwnFrom.and (Own.from (holdsRow_own w.heap.size w.heap.size 56 34 1 (fun pre:List Nat=>pre.length) (fun pre=>u64s pre) (fun pre v=>(v=.slice none 0 0↔pre=[]))) _) (ownFrom_below (Nat.le_refl _) (by omega)))
  (fun _ _ _ _ _ hs _ _=>hs)
  ⟨⟨_,bO,World.ownsRow_nil _ _ _ _,by simp⟩,hB0⟩
  (fun x a' W=>a'={ tmps:=#[.slice none 0 0,.func (.func g) #[] lb,.pointer (some ⟨w.heap.size,0,none⟩),undef,.slice none 0 0,.int .u64 (x:Int),.func (.func g) #[] lb,.int .u64 (x:Int),undef,undef,undef,undef,undef],defers:=[] })
  (fun x a' _ X Y row hs _ _=>hs)
  ?assign ?body ?done ?stop
 case assign =>
  have hsem:=@Oper.semAt_some
  rintro l pre x W K hI hK
  gi_wp2
  exact hK _ _ (KeepsFrom.refl _ _) (KeepsWalks.refl _) hI rfl
 case body =>
  have hsem:=@Oper.semAt_some
  rintro l pre x a' W hl2 _ ⟨⟨v,hv,hrow,hnil⟩,hB⟩ rfl hlt
  have hc:=hv.cell
  have HNL:Hid (v=.slice none 0 0↔pre=[]):=hnil
  clear hnil
  gi_wp2_with (gi_at_builtin;refine wpListIn_append_own _ rfl _ _ 56 rfl w.heap.size 34 i0 _ 1 8 Tryz.underlying56 hi hz0 hz1 hz2 rfl (by decide) _ _ _ rfl (hrow.alloc _) ⟨W.heap.size,0,none⟩ 1 1 [.int .u64 (x:Int)] rfl rfl (cells_new _ #[.int .u64 (x:Int)] _) (by intro u hu;simp at hu;subst hu;rfl) (by unfold maxLen;omega) (by omega) (by have:=hB.size;simp;omega) ?_;intro v' w1 hown' hgrow _;obtain ⟨g',cap',rfl⟩:=ownsRow_succ hown';obtain ⟨hv1,hv2,hr2,hk2,hb2⟩:=hv.appended (by decide) hrow hB.size (Nat.le_refl _) hown' hgrow;have hc1:=hv1.cell;have hf1:=hv1.frozen;have HW:Hid (KeepsWalks W (w1.setCell ⟨w.heap.size,0,none⟩ (.slice (some ⟨g',0,none⟩) (pre.length+1) cap'))):=hk2.walks)
  exact ⟨hk2.from _,HW.out,⟨_,hv2,by rw [u64s_snoc];simpa using hr2,by simp⟩,hB.trans hb2⟩
 case done =>
  rintro D ys W hD hys ⟨⟨v,hv,hrow,hnil⟩,hB⟩ hK
  have hc:=hv.cell
  have HNL:Hid (v=.slice none 0 0↔ys=[]):=hnil
  clear hnil
  gi_wp2
  refine ⟨by simp,.inl ⟨_,_,rfl,run_takeDeferred hK,?_⟩⟩
  exact ⟨_,results_tmp rfl _ _ _,v,ys,rfl,hys,ownsRow_putObj hrow _ hK rfl,HNL.out,hB.trans (belowK_b (w:=w) (Nat.le_refl _) W D _ _ (by omega) hK rfl rfl)⟩
 case stop =>
  rintro D c pre W _ _ h _
  exact h.elim
set_option maxHeartbeats 1000000 in
theorem collectU_in (n:Nat) (hn:4≤n) (g:Nat) (lb:Array Value) (hFg:Fence.wide.fn g) (eg:∀ args w,(callFunc g args).run Tryz.prog w=.ok (.enter g args) w) (S:List Nat→Prop) (N:Nat) (hN:N≤67108864) (w:World)
  (hseq:SeqStopsK Fence.wide (n - 1 - 1) Tryz.prog g lb (fun x:Nat=>#[.int .u64 (x:Int)]) KeepsWalks S (fun _=>True) N w) :
  CallsIn Fence.wide n Tryz.prog 255 #[.func (.func g) #[] lb] w fun e w'=>∃ v ss,e=.returned v∧S ss∧w'.ownsRow w.heap.size 34 1 v ss.length (u64s ss)∧(v=.slice none 0 0↔ss=[])∧Below w.heap.size w w':=by
 have h1:1≤n:=by omega
 have hro:Fence.wide.round=none:=rfl
 have hf1:Fence.wide.fn 303:=trivial
 have hA:=appendSeqU_in (n - 1) (by omega) g lb hFg eg S N hN w hseq
 refine callsIn_of_wp Tryz.func255 rfl trivial ?_ hro
 simp only [Tryz.ntmps255,List.size_toArray,List.length_cons,List.length_nil,Nat.reduceAdd,Nat.reduceSub,Array.replicate_succ,Array.replicate_zero,List.push_toArray,List.append_toArray,List.nil_append,List.cons_append]
 gi_wp2_with (gi_at_call 303;refine hA.mono ?_;rintro e w1 ⟨v,ss,rfl,hS⟩)
 go_ret
 exact ⟨v,ss,rfl,hS⟩
set_option maxHeartbeats 2000000 in
theorem sortedU_in (n:Nat) (hn:5≤n) (g:Nat) (lb:Array Value) (hFg:Fence.wide.fn g) (eg:∀ args w,(callFunc g args).run Tryz.prog w=.ok (.enter g args) w) (ks:List Nat) (N:Nat) (hN:N≤12) (hks:ks.length≤N) (w:World)
  (hseq:SeqStopsK Fence.wide (n - 1 - 1 - 1) Tryz.prog g lb (fun x:Nat=>#[.int .u64 (x:Int)]) KeepsWalks (fun ys=>ys.Perm ks) (fun _=>True) N w) :
  CallsIn Fence.wide n Tryz.prog 196 #[.func (.func g) #[] lb] w fun e w'=>∃ v ss,e=.returned v∧ss.Perm ks∧ss.Pairwise (·≤·)∧w'.ownsRow w.heap.size 34 1 v ss.length (u64s ss)∧(v=.slice none 0 0↔ss=[])∧Below w.heap.size w w':=by
 have h1:1≤n:=by omega
 have hro:Fence.wide.round=none:=rfl
 have hf1:Fence.wide.fn 255:=trivial
 have hf2:Fence.wide.fn 256:=trivial
 have hA:=collectU_in (n - 1) (by omega) g lb hFg eg (fun ys=>ys.Perm ks) N (by omega) w hseq
 clear hseq
 refine callsIn_of_wp Tryz.func196 rfl trivial ?_ hro
 simp only [Tryz.ntmps196,List.size_toArray,List.length_cons,List.length_nil,Nat.reduceAdd,Nat.reduceSub,Array.replicate_succ,Array.replicate_zero,List.push_toArray,List.append_toArray,List.nil_append,List.cons_append]
 gi_wp2_with (gi_at_call 255;refine hA.mono ?_;rintro e w1 ⟨v,ss,rfl,hS,hrow,hnil,hb⟩;have HX:Hid (ss.Perm ks∧w1.ownsRow w.heap.size 34 1 v ss.length (u64s ss)∧(v=.slice none 0 0↔ss=[])∧Below w.heap.size w w1):=⟨hS,hrow,hnil,hb⟩;clear hS hrow hnil hb)
 by_cases hz:ss=[]
 ·have hv:=HX.out.2.2.1.2 hz
  subst hv
  refine ((callsIn_wide (n:=n - 1)).2 (sortU_nil w1)).mono ?_
  rintro e w2 ⟨rfl,rfl⟩
  gi_wp2
  go_ret
  exact ⟨.slice none 0 0,ss,rfl,HX.out.1,by rw [hz];exact List.Pairwise.nil,HX.out.2.1,⟨fun _=>hz,fun _=>rfl⟩,HX.out.2.2.2⟩
 ·have hpos:0<ss.length:=List.length_pos_iff.2 hz
  obtain ⟨gg,cap,rfl⟩:=own_pos0 HX.out.2.1 hpos
  have hle:ss.length≤12:=by rw [HX.out.1.length_eq];omega
  refine ((callsIn_wide (n:=n - 1)).2 (sortU_few w.heap.size gg ss.length cap ss w1 HX.out.2.1 rfl hle)).mono ?_
  rintro e w2 ⟨rfl,l',hs2,ha2⟩
  have HY:Hid (SrtIn w1 w2 w.heap.size gg ss.length cap ss l'∧AscTo l' ss.length):=⟨hs2,ha2⟩
  clear hs2 ha2
  gi_wp2
  go_ret
  have hll:l'.length=ss.length:=HY.out.1.perm.length_eq
  have hgl:=(HX.out.2.1.lt gg rfl).1
  refine ⟨.slice (some ⟨gg,0,none⟩) ss.length cap,l',rfl,HY.out.1.perm.trans HX.out.1,AscTo.pairwise (by rw [hll];exact HY.out.2),by rw [hll];exact HY.out.1.row,⟨fun e=>by simp at e,fun e=>by rw [e] at hll;simp at hll;omega⟩,HX.out.2.2.2.trans ?_⟩
  have hf:=HY.out.1.fr
  exact ⟨hf.os,hf.tape,hf.output,hf.size,fun k hk=>hf.block k (by have:=HX.out.2.2.2.size;omega) (by simp;omega)⟩
end Go.Proofs.YtejiankgafjppaaGreatDoor
namespace Go.Proofs.YtejiankgafjppaaGreatDoor
open Go.RowKit Go.Maps Go.Sort
open Sc
section
variable {s:AShard} {R:RSh}
def RSh.got (R:RSh) (t:Nat) (k:ByteArray):ByteArray × Bool :=
 match lockAt (R.tx t).locks k with
 | some l=>if l.wr=true then (l.val,!l.gone) else ((alLook R.table k).getD ByteArray.empty,(alLook R.table k).isSome)
 | none=>((alLook R.table k).getD ByteArray.empty,(alLook R.table k).isSome)
def RTx.ready (x:RTx):RTx:=⟨x.id,3,x.ops,x.age,x.locks⟩
def RTx.older (x:RTx):Option RTx:=if x.st=3 then some x else if x.age+1=16 then none else some ⟨x.id,x.st,x.ops,x.age+1,x.locks⟩
def RSh.tick (R:RSh):RSh:=⟨R.table,R.txns.filterMap RTx.older⟩
end
end Go.Proofs.YtejiankgafjppaaGreatDoor
