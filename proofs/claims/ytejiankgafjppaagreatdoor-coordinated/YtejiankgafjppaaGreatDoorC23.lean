import Derived.Test.YtejiankgafjppaaGreatDoorC21
import Derived.Test.YtejiankgafjppaaGreatDoorC22
import Derived.Deep.RegionHeld3
namespace Go.Proofs.YtejiankgafjppaaGreatDoor
open Go.RowKit Go.Maps
open Sc
structure RPart where
 shard:Nat
 vote:Nat
 left:Bool
structure RDeal where
 id:Nat
 st:Nat
 age:Nat
 parts:List RPart
structure RCo where
 deals:List RDeal
 next:Nat
 res:List (Nat × Nat)
 out:List (Nat × Nat × Nat)
def dealAt (xs:List RDeal) (t:Nat):Option RDeal:=xs.find? fun x=>decide (x.id=t)
def dealIx (xs:List RDeal) (t:Nat):Option Nat:=xs.findIdx? fun x=>decide (x.id=t)
theorem dealIx_some {xs:List RDeal} {t i:Nat} (h:dealIx xs t=some i):∃ x,xs[i]?=some x∧x.id=t∧dealAt xs t=some x:=by
 obtain ⟨x,h1,h2,h3⟩:=(find_ix _ xs).1 i h
 exact ⟨x,h1,by simpa using h2,h3⟩
theorem dealIx_none {xs:List RDeal} {t:Nat} (h:dealIx xs t=none):dealAt xs t=none:=(find_ix _ xs).2 h
abbrev partC (p:RPart):List Value:=[.int .i64 (p.shard:Int),.int .i64 (p.vote:Int),.bool p.left]
def prtsV (l:List RPart):List Value:=l.flatMap partC
abbrev dealC (p:RDeal × Value):List Value:=[.int .u64 (p.1.id:Int),.int .i64 (p.1.st:Int),.int .i64 (p.1.age:Int),p.2,.bool false]
def dealsV (ps:List (RDeal × Value)):List Value:=ps.flatMap dealC
abbrev rcoO (xv rv ov:Value) (n:Nat):Obj:=.cells #[xv,.int .u64 (n:Int),rv,ov] 141
structure RkIn [Inhabited Bs] (w:World) (rp:Nat) (xv rv ov:Value) (ps:List (RDeal × Value)) (R:RCo):Prop where
 base:B0≤rp
 blk:w.heap[rp]?=some (rcoO xv rv ov R.next)
 dls:w.ownsRow B0 144 5 xv ps.length (dealsV ps)
 prt:∀ p∈ps,w.ownsRow B0 204 3 p.2 p.1.parts.length (prtsV p.1.parts)
 apart:ps.Pairwise fun p q=>p.2.ownBlock=none∨p.2.ownBlock≠q.2.ownBlock
 res:w.ownsRow B0 216 2 rv R.res.length (resV R.res)
 out:w.ownsRow B0 212 3 ov R.out.length (dueV R.out)
 rs:ps.map (·.1)=R.deals
section
variable {w w':World} {rp:Nat} {xv rv ov:Value} {ps:List (RDeal × Value)} {R:RCo}
theorem RkIn.fr [Inhabited Bs] (h:RkIn w rp xv rv ov ps R) (hf:Fr [] w w'):RkIn w' rp xv rv ov ps R where
 base:=h.base
 blk:=(hf.block rp (Array.getElem?_eq_some_iff.1 h.blk).1 (by simp)).trans h.blk
 dls:=ownsRow_fr h.dls hf (by simp)
 prt:=fun p hp=>ownsRow_fr (h.prt p hp) hf (by simp)
 apart:=h.apart
 res:=ownsRow_fr h.res hf (by simp)
 out:=ownsRow_fr h.out hf (by simp)
 rs:=h.rs
theorem RkIn.low [Inhabited Bs] (h:RkIn w rp xv rv ov ps R):B0≤w.heap.size:=Nat.le_trans h.base (Nat.le_of_lt (Array.getElem?_eq_some_iff.1 h.blk).1)
theorem RkIn.len [Inhabited Bs] (h:RkIn w rp xv rv ov ps R):ps.length=R.deals.length:=by rw [← h.rs,List.length_map]
theorem RkIn.at [Inhabited Bs] (h:RkIn w rp xv rv ov ps R) {i:Nat} {x:RDeal} (hi:R.deals[i]?=some x):∃ v,ps[i]?=some (x,v):=by
 rw [← h.rs,List.getElem?_map] at hi
 cases hp:ps[i]? with
 | none=>rw [hp] at hi;cases hi
 | some p=>rw [hp] at hi;exact ⟨p.2,by rw [← Option.some.inj hi]⟩
theorem RkIn.back [Inhabited Bs] (h:RkIn w rp xv rv ov ps R) {i:Nat} {p:RDeal × Value} (hi:ps[i]?=some p):R.deals[i]?=some p.1:=by rw [← h.rs,List.getElem?_map,hi];rfl
theorem RkIn.slice [Inhabited Bs] (h:RkIn w rp xv rv ov ps R):∃ ao c,xv=.slice ao ps.length c∧(∀ i p,ps[i]?=some p→∃ g,ao=some ⟨g,0,none⟩∧w.cell? ⟨g,i*5,none⟩=some (.int .u64 (p.1.id:Int))∧w.cell? ⟨g,i*5+1,none⟩=some (.int .i64 (p.1.st:Int))∧w.cell? ⟨g,i*5+2,none⟩=some (.int .i64 (p.1.age:Int))∧w.cell? ⟨g,i*5+3,none⟩=some p.2∧w.cell? ⟨g,i*5+4,none⟩=some (.bool false)):=by
 rcases h.dls.2 with ⟨e,h0⟩ | ⟨g,cap,cur,e,rest⟩
 ·refine ⟨none,0,by rw [e,h0],fun i p hp=>?_⟩
  have:=(List.getElem?_eq_some_iff.1 hp).1
  omega
 ·refine ⟨some ⟨g,0,none⟩,cap,e,fun i p hp=>⟨g,rfl,?_⟩⟩
  have key:=fun j hj=>flat_at (f:=dealC) (k:=5) (fun _=>rfl) ps i p hp j hj
  exact ⟨row_cell h.dls e (key 0 (by decide)),row_cell h.dls e (key 1 (by decide)),row_cell h.dls e (key 2 (by decide)),row_cell h.dls e (key 3 (by decide)),row_cell h.dls e (key 4 (by decide))⟩
end
theorem part_slice [Inhabited Bs] {w:World} {v:Value} {ls:List RPart} (h:w.ownsRow B0 204 3 v ls.length (prtsV ls)):∃ ao c,v=.slice ao ls.length c∧(∀ i l,ls[i]?=some l→∃ g,ao=some ⟨g,0,none⟩∧w.cell? ⟨g,i*3,none⟩=some (.int .i64 (l.shard:Int))∧w.cell? ⟨g,i*3+1,none⟩=some (.int .i64 (l.vote:Int))∧w.cell? ⟨g,i*3+2,none⟩=some (.bool l.left)):=by
 rcases h.2 with ⟨e,h0⟩ | ⟨g,cap,cur,e,rest⟩
 ·refine ⟨none,0,by rw [e,h0],fun i p hp=>?_⟩
  have:=(List.getElem?_eq_some_iff.1 hp).1
  omega
 ·refine ⟨some ⟨g,0,none⟩,cap,e,fun i p hp=>⟨g,rfl,?_⟩⟩
  have key:=fun j hj=>flat_at (f:=partC) (k:=3) (fun _=>rfl) ls i p hp j hj
  exact ⟨row_cell h e (key 0 (by decide)),row_cell h e (key 1 (by decide)),row_cell h e (key 2 (by decide))⟩
set_option maxRecDepth 100000 in
set_option maxHeartbeats 2000000 in
theorem kfind_any [Inhabited Bs] (rp t:Nat) (xv rv ov:Value) (ps:List (RDeal × Value)) (R:RCo) (w:World) (h:RkIn w rp xv rv ov ps R) (hn:ps.length≤1099511627776) :
  Calls Tryz.prog 153 #[.pointer (some ⟨rp,0,none⟩),.int .u64 (t:Int)] w fun e w'=>e=.returned (.int .i64 (ixI (dealIx R.deals t)))∧∃ q,w'=w.drewN q:=by
 have c1:=blk_cell h.blk 0
 simp at c1
 obtain ⟨ao,c,rfl,H⟩:=h.slice
 have G:Hid (∀ i p,ps[i]?=some p→∃ g,ao=some ⟨g,0,none⟩∧w.cell? ⟨g,i*5,none⟩=some (.int .u64 (p.1.id:Int))):=fun i p hp=>by obtain ⟨g,e,a,_⟩:=H i p hp;exact ⟨g,e,a⟩
 have hrs:Hid (ps.map (·.1)=R.deals):=h.rs
 obtain ⟨n,hnn⟩:∃ n,n=ps.length:=⟨_,rfl⟩
 rw [← hnn] at hn c1
 have HN:Hid (ps.length=n):=hnn.symm
 clear hnn h H
 go_enter Tryz.func153,Tryz.ntmps153
 go_wp2
 go_loopw [5] (fun i wr=>∃ k:Nat,k≤n∧i=.int .i64 k∧Hid (∀ j p,j<k→ps[j]?=some p→p.1.id≠t)∧∃ q,wr=w.drewN q) (fun i _=>n - (intOf i).toNat)
 case atStart=>exact ⟨0,Nat.zero_le _,rfl,fun j p hj=>by omega,0,rfl⟩
 case round =>
  obtain ⟨k,hk,rfl,hpre,q,rfl⟩:=hrel
  by_cases hlt:k<n
  ·obtain ⟨p,hp⟩:∃ p,ps[k]?=some p:=⟨_,List.getElem?_eq_getElem (by rw [HN.out];exact hlt)⟩
   obtain ⟨g,rfl,x0⟩:=G.out k p hp
   have i0:(0:Int)≤(k:Int):=by omega
   have i1:(k:Int)<(n:Int):=by omega
   have HP:Hid (ps[k]?=some p):=hp
   obtain ⟨d,hd⟩:∃ d,d=p.1.id:=⟨_,rfl⟩
   have HD:Hid (d=p.1.id):=hd
   rw [← hd] at x0
   clear hp hd
   by_cases he:d=t
   ·have be:((d:Int) == (t:Int))=true:=by simp [he]
    go_wp2
    go_ret
    refine ⟨?_,_,rfl⟩
    have:dealIx R.deals t=some k:=ix_some (x:=p.1) (by rw [← hrs.out,List.getElem?_map,HP.out];rfl) (by simp [← HD.out,he]) fun i y hi hy=>by
     rw [← hrs.out,List.getElem?_map] at hy
     cases hq:ps[i]? with
     | none=>rw [hq] at hy;cases hy
     | some z=>rw [hq] at hy;cases hy;simpa using hpre.out i z hi hq
    rw [this];rfl
   ·have be:((d:Int) == (t:Int))=false:=by simp;omega
    go_wp2
    go_roundw
    case rel=>exact ⟨k+1,by omega,by go_num,fun j p' hj hp'=>by
     by_cases e:j=k
     ·subst e;rw [HP.out] at hp';cases hp';rw [← HD.out];exact he
     ·exact hpre.out j p' (by omega) hp',_,rfl⟩
    case measure=>simp [intOf];omega
  ·go_wp2
   go_ret
   refine ⟨?_,q,rfl⟩
   have:dealIx R.deals t=none:=ix_none fun i y hy=>by
    rw [← hrs.out,List.getElem?_map] at hy
    cases hq:ps[i]? with
    | none=>rw [hq] at hy;cases hy
    | some z=>rw [hq] at hy;cases hy;simpa using hpre.out i z (by have:=(List.getElem?_eq_some_iff.1 hq).1;rw [HN.out] at this;omega) hq
   rw [this];rfl
set_option maxRecDepth 100000 in
set_option maxHeartbeats 2000000 in
theorem kstatus_any [Inhabited Bs] (rp t:Nat) (xv rv ov:Value) (ps:List (RDeal × Value)) (R:RCo) (w:World) (h:RkIn w rp xv rv ov ps R) (hn:ps.length≤1099511627776) :
  Calls Tryz.prog 89 #[.pointer (some ⟨rp,0,none⟩),.int .u64 (t:Int)] w fun e w'=>e=.returned (.int .i64 ((((dealAt R.deals t).map RDeal.st).getD 0:Nat):Int))∧∃ q,w'=w.drewN q:=by
 have hf:=kfind_any rp t xv rv ov ps R w h hn
 have c0:=blk_cell h.blk 0
 simp at c0
 obtain ⟨ao,c,rfl,H⟩:=h.slice
 cases hix:dealIx R.deals t with
 | none =>
  have hat:=dealIx_none hix
  rw [hix] at hf
  rw [hat]
  clear h H hix hat
  go_enter Tryz.func89,Tryz.ntmps89
  go_wp2_with fail
  refine hf.mono ?_
  clear hf
  rintro e w1 ⟨rfl,q,rfl⟩
  change _ at *
  have e1:ixI none=-1:=rfl
  rw [e1]
  go_wp2
  go_ret
  exact ⟨rfl,_,rfl⟩
 | some i =>
  obtain ⟨x,hx,hid,hat⟩:=dealIx_some hix
  obtain ⟨v,hv⟩:=h.at hx
  obtain ⟨g,rfl,x0,x1,x2,x3,x4⟩:=H i _ hv
  have hil:=(List.getElem?_eq_some_iff.1 hv).1
  rw [hix] at hf
  rw [hat]
  have e1:ixI (some i)=(i:Int):=rfl
  rw [e1] at hf
  obtain ⟨n,hnn⟩:∃ n,n=ps.length:=⟨_,rfl⟩
  rw [← hnn] at hn c0 hil
  have i0:¬ (i:Int)<0:=by omega
  have i1:(0:Int)≤(i:Int):=by omega
  have i2:(i:Int)<(n:Int):=by omega
  obtain ⟨st,hst⟩:∃ st,st=x.st:=⟨_,rfl⟩
  simp only [Option.map_some,Option.getD_some]
  rw [← hst] at x1 ⊢
  clear h H hix hat hx hid hv e1 hnn hst
  go_enter Tryz.func89,Tryz.ntmps89
  go_wp2_with fail
  refine hf.mono ?_
  clear hf
  rintro e w1 ⟨rfl,q,rfl⟩
  go_wp2
  go_ret
  exact ⟨rfl,_,rfl⟩
set_option maxRecDepth 100000 in
set_option maxHeartbeats 2000000 in
theorem kanswer_any [Inhabited Bs] (rp t:Nat) (xv rv ov:Value) (ps:List (RDeal × Value)) (R:RCo) (w:World) (h:RkIn w rp xv rv ov ps R) (hn:ps.length≤1099511627776) :
  Calls Tryz.prog 91 #[.pointer (some ⟨rp,0,none⟩),.int .u64 (t:Int)] w fun e w'=>e=.returned (.int .i64 ((((dealAt R.deals t).map fun x=>if x.st=6 then 5 else 0).getD 6:Nat):Int))∧∃ q,w'=w.drewN q:=by
 have hf:=kfind_any rp t xv rv ov ps R w h hn
 have c0:=blk_cell h.blk 0
 simp at c0
 obtain ⟨ao,c,rfl,H⟩:=h.slice
 cases hix:dealIx R.deals t with
 | none =>
  have hat:=dealIx_none hix
  rw [hix] at hf
  rw [hat]
  clear h H hix hat
  go_enter Tryz.func91,Tryz.ntmps91
  go_wp2_with fail
  refine hf.mono ?_
  clear hf
  rintro e w1 ⟨rfl,q,rfl⟩
  change _ at *
  have e1:ixI none=-1:=rfl
  rw [e1]
  go_wp2
  go_ret
  exact ⟨rfl,_,rfl⟩
 | some i =>
  obtain ⟨x,hx,hid,hat⟩:=dealIx_some hix
  obtain ⟨v,hv⟩:=h.at hx
  obtain ⟨g,rfl,x0,x1,x2,x3,x4⟩:=H i _ hv
  have hil:=(List.getElem?_eq_some_iff.1 hv).1
  rw [hix] at hf
  rw [hat]
  have e1:ixI (some i)=(i:Int):=rfl
  rw [e1] at hf
  obtain ⟨n,hnn⟩:∃ n,n=ps.length:=⟨_,rfl⟩
  rw [← hnn] at hn c0 hil
  have i0:¬ (i:Int)<0:=by omega
  have i1:(0:Int)≤(i:Int):=by omega
  have i2:(i:Int)<(n:Int):=by omega
  obtain ⟨st,hst⟩:∃ st,st=x.st:=⟨_,rfl⟩
  simp only [Option.map_some,Option.getD_some]
  rw [← hst] at x1 ⊢
  clear h H hix hat hx hid hv e1 hnn hst
  by_cases h6:st=6
  ·subst h6
   go_enter Tryz.func91,Tryz.ntmps91
   go_wp2_with fail
   refine hf.mono ?_
   clear hf
   rintro e w1 ⟨rfl,q,rfl⟩
   go_wp2
   go_ret
   exact ⟨rfl,_,rfl⟩
  ·have j6:¬ (st:Int)=6:=by omega
   have b6:((st:Int) == 6)=false:=beq_eq_false_iff_ne.2 j6
   rw [if_neg h6]
   go_enter Tryz.func91,Tryz.ntmps91
   go_wp2_with fail
   refine hf.mono ?_
   clear hf
   rintro e w1 ⟨rfl,q,rfl⟩
   go_wp2
   go_ret
   exact ⟨rfl,_,rfl⟩
set_option maxRecDepth 100000 in
set_option maxHeartbeats 2000000 in
theorem kdoubtful_any [Inhabited Bs] (rp t:Nat) (xv rv ov:Value) (ps:List (RDeal × Value)) (R:RCo) (w:World) (h:RkIn w rp xv rv ov ps R) (hn:ps.length≤1099511627776) :
  Calls Tryz.prog 99 #[.pointer (some ⟨rp,0,none⟩),.int .u64 (t:Int)] w fun e w'=>e=.returned (.bool false)∧∃ q,w'=w.drewN q:=by
 have hf:=kfind_any rp t xv rv ov ps R w h hn
 have c0:=blk_cell h.blk 0
 simp at c0
 obtain ⟨ao,c,rfl,H⟩:=h.slice
 cases hix:dealIx R.deals t with
 | none =>
  have hat:=dealIx_none hix
  rw [hix] at hf
  clear h H hix hat
  go_enter Tryz.func99,Tryz.ntmps99
  go_wp2_with fail
  refine hf.mono ?_
  clear hf
  rintro e w1 ⟨rfl,q,rfl⟩
  change _ at *
  have e1:ixI none=-1:=rfl
  rw [e1]
  go_wp2
  go_ret
  exact ⟨rfl,_,rfl⟩
 | some i =>
  obtain ⟨x,hx,hid,hat⟩:=dealIx_some hix
  obtain ⟨v,hv⟩:=h.at hx
  obtain ⟨g,rfl,x0,x1,x2,x3,x4⟩:=H i _ hv
  have hil:=(List.getElem?_eq_some_iff.1 hv).1
  rw [hix] at hf
  have e1:ixI (some i)=(i:Int):=rfl
  rw [e1] at hf
  obtain ⟨n,hnn⟩:∃ n,n=ps.length:=⟨_,rfl⟩
  rw [← hnn] at hn c0 hil
  have i0:¬ (i:Int)<0:=by omega
  have i1:(0:Int)≤(i:Int):=by omega
  have i2:(i:Int)<(n:Int):=by omega
  obtain ⟨st,hst⟩:∃ st,st=x.st:=⟨_,rfl⟩
  rw [← hst] at x1
  clear h H hix hat hx hid hv e1 hnn hst
  go_enter Tryz.func99,Tryz.ntmps99
  go_wp2_with fail
  refine hf.mono ?_
  clear hf
  rintro e w1 ⟨rfl,q,rfl⟩
  go_wp2
  go_ret
  exact ⟨rfl,_,rfl⟩
end Go.Proofs.YtejiankgafjppaaGreatDoor
namespace Go.Proofs.YtejiankgafjppaaGreatDoor
open Go.RowKit Go.Shelf
open Sc
section
variable {P:Program} {ops:Array Oper} {Q:Exit→Act→World→Prop} {l n:Nat}
theorem operIn_of {o:Oper} {a:Act} {w:World} {K:Act→World→Prop} (hd:∀ c,o.op≠.defer c) (h:o.wp P a w K Q):o.wpIn (Fence.wide.inRound l) n P a w K Q:=by
 refine ⟨fun _ _=>trivial,?_⟩
 rw [Oper.semAt_eq _ _ _ hd]
 unfold Oper.wp at h
 generalize (execOp a.eval o).run P w=r at *
 cases r with
 | ok x w' =>
  cases x <;> simp only [Oper.upon,Oper.uponIn] at h ⊢
  case value=>exact h
  case skip=>exact h
  case defer=>exact h
  case enter f args=>exact ⟨fun hh=>(by cases hh),CallsIn.inRound l (callsIn_wide.2 h)⟩
  case row row args=>exact ⟨fun hh=>(by cases hh),fun c cs _=>let ⟨v,w',r,s⟩:=h c cs;⟨v,w',r,stepsIn_wide.2 s⟩⟩
 | halt x w'=>cases x <;> simp only [Oper.upon,Oper.uponIn] at h ⊢ <;> exact h
theorem opIn_of {i:Nat} {a:Act} {w:World} {K:Act→World→Prop} (hd:∀ o,ops[i]?=some o→∀ c,o.op≠.defer c) (hL:¬ LetsOut Q) (h:wpOp P ops Q i K a w):wpOpIn (Fence.wide.inRound l) n P ops Q i K a w:=by
 unfold wpOp at h
 unfold wpOpIn
 cases ho:ops[i]? with
 | none=>rw [ho] at h;exact h
 | some o =>
  rw [ho] at h
  simp only at h ⊢
  by_cases hw:Region.wanted o (yielded ops a.tmps)=true
  ·rw [if_pos hw] at h ⊢
   rcases h with h | h
   ·exact operIn_of (hd o ho) h
   ·exact absurd h.2 hL
  ·rw [if_neg hw] at h ⊢
   exact ⟨fun _ _=>trivial,h⟩
theorem anyIn_of (hd:∀ (i:Nat) o,ops[i]?=some o→∀ c,o.op≠.defer c) (hL:¬ LetsOut Q):∀ (fuel:Nat) (listed:Array Bool) (a:Act) (w:World),wpAny P .any ops Q fuel listed a w→wpAnyIn (Fence.wide.inRound l) n P .any ops Q fuel listed a w
 | 0,_,_,_,h=>h
 | fuel+1,_,_,_,h=>⟨h.1,fun i hi=>wpOpIn_mono (fun a' w' h'=>anyIn_of hd hL fuel _ a' w' h') (opIn_of (hd i) hL (h.2 i hi))⟩
def noDefers (ops:Array Oper):Bool:=ops.toList.all fun o=>match o.op with | .defer _=>false | _=>true
theorem noDefers_of (h:noDefers ops=true):∀ (i:Nat) o,ops[i]?=some o→∀ c,o.op≠.defer c:=by
 intro i o ho c hc
 have:=List.all_eq_true.1 h o (List.mem_of_getElem? (i:=i) (by simpa using ho))
 rw [hc] at this
 cases this
theorem wpIn_region_round {S:World→Prop} {id:Nat} {a:Act} {w:World} (hm:P.follows .mixedOrders=true) (hd:noDefers ops=true) (hL:¬ LetsOut Q) (hS:S w.drew)
  (h:S w.drew→wpAnyH P .any ops Q S ops.size (Array.replicate ops.size false) a w.drew):(Code.region id ops true).wpIn (Fence.wide.inRound l) n P Q a w :=
 wpIn_region_any hm (anyIn_of (noDefers_of hd) hL _ _ _ _ (wpAny_of_held _ _ _ _ (h hS)))
end
end Go.Proofs.YtejiankgafjppaaGreatDoor
namespace Go.Proofs.YtejiankgafjppaaGreatDoor
open Go.RowKit Go.Shelf Go.Maps
open Sc
theorem wp_dueat {w:World} {o:Oper} {a:Act} {K:Act→World→Prop} {Q:Exit→Act→World→Prop} (s x:Operand)
  (ho:o.op=.call { callee:=.builtin .append,args:=#[s,x],argTypes:=#[139,139] })
  (base:Nat) (v:Value) (n:Nat) (xs:List Value) (t:Nat) (k y:Int) (b:Nat) (hs:a.eval s=v) (hown:w.ownsRow base 212 3 v n xs) (hx:a.eval x=.slice (some ⟨b,0,none⟩) 1 1)
  (hb:w.heap[b]?=some (.cells #[.int .u64 (t:Int),.int .i64 k,.int .i64 y] 212 (0,0))) (hn:n≤1099511627776) (hbase:base≤w.heap.size)
  (h:∀ v' w',w'.ownsRow base 212 3 v' (n+1) (xs++[.int .u64 (t:Int),.int .i64 k,.int .i64 y])→w.grownBy w' v.ownBlock→(v'.ownBlock=v.ownBlock∨v'.ownBlock=some w.heap.size)→K (a.put o.dst v') w'):o.wp Tryz.prog a w K Q:=by
 obtain ⟨i0,hi,hz0,hz1,hz2⟩:=info_parts Tryz.infoDue
 have hc0:=blk_cell hb 0
 have hc1:=blk_cell hb 1
 have hc2:=blk_cell hb 2
 simp at hc0 hc1 hc2
 refine wp_append_at s x 139 ho base 212 i0 _ 3 24 Tryz.underlying139 hi hz0 hz1 hz2 rfl (by decide) v n xs hs hown ⟨b,0,none⟩ 1 1 [.int .u64 (t:Int),.int .i64 k,.int .i64 y] hx rfl ?_ ?_ (by unfold maxLen;omega) (by omega) hbase ?_
 ·intro jj u hjj
  match jj,hjj with
  | 0,hjj=>simp at hjj;subst hjj;simpa [Addr.add] using hc0
  | 1,hjj=>simp at hjj;subst hjj;simpa [Addr.add] using hc1
  | 2,hjj=>simp at hjj;subst hjj;simpa [Addr.add] using hc2
 ·intro u hu;simp at hu;rcases hu with rfl | rfl | rfl <;> rfl
 ·intro v' w' ho' hg' ha'
  exact h v' w' ho' hg' ha'
set_option maxRecDepth 100000 in
set_option maxHeartbeats 4000000 in
theorem send_any (B cp lg bT n t mf:Nat) (q:Nat→Bool) (hm:Means mf q) (hen:Enters mf) (x:Nat) (c:ACo) (w:World) (h:CoIn w B cp lg bT n c) (ht:t<18446744073709551616) (hn:n+9<67108864) :
  Calls Tryz.prog 212 #[.pointer (some ⟨cp,0,none⟩),.int .u64 (t:Int),.int .i64 (x:Int),fnV mf] w fun e w'=>e=.returned (.tuple #[])∧CoIn w' B cp lg bT (n+9) { c with out:=c.out++(meant q (c.tx t).parts).map fun k=>(t,k,x) }∧RFr cp [cp] w w':=by
 obtain ⟨W0,hW0⟩:∃ W0,W0=((w.alloc (.cells #[.pointer (some ⟨cp,0,none⟩)] 91)).alloc (.cells #[.int .u64 (t:Int)] 34)).alloc (.cells #[.int .i64 (x:Int)] 3):=⟨_,rfl⟩
 have hfr0:Fr [] w W0:=by rw [hW0];exact (((Fr.refl [] w).alloc _).alloc _).alloc _
 have hs0:W0.heap.size=w.heap.size+3:=by rw [hW0];simp
 have r0:W0.heap[w.heap.size]?=some (.cells #[.pointer (some ⟨cp,0,none⟩)] 91 (0,0)):=by rw [hW0,Below.heap_alloc _ _ w.heap.size (by simp;omega),Below.heap_alloc _ _ w.heap.size (by simp)];exact heap_alloc_new w _
 have r1:W0.heap[w.heap.size+1]?=some (.cells #[.int .u64 (t:Int)] 34 (0,0)):=by
  rw [hW0,Below.heap_alloc _ _ (w.heap.size+1) (by simp)]
  have:=heap_alloc_new (w.alloc (.cells #[.pointer (some ⟨cp,0,none⟩)] 91)) (.cells #[.int .u64 (t:Int)] 34)
  rwa [World.size_alloc] at this
 have r2:W0.heap[w.heap.size+2]?=some (.cells #[.int .i64 (x:Int)] 3 (0,0)):=by
  rw [hW0]
  have:=heap_alloc_new ((w.alloc (.cells #[.pointer (some ⟨cp,0,none⟩)] 91)).alloc (.cells #[.int .u64 (t:Int)] 34)) (.cells #[.int .i64 (x:Int)] 3)
  rwa [World.size_alloc,World.size_alloc] at this
 have hc0:=h.new hfr0
 have hok:=h.okT t
 obtain ⟨rv,ov,h1,_⟩:=hc0.ex
 have hcl:cp<W0.heap.size:=hc0.lts.1
 have c1:=blk_cell h1 1
 have v0:=blk_cell r0 0
 have v1:=blk_cell r1 0
 simp at c1 v0 v1
 have hl:∀ W,Fr [] W0 W→(Instr.lookup 224 (.map (some bT)) (.int .u64 (t:Int)) false).run Tryz.prog W=.ok (txV (c.tx t)) W:=fun W hW=>(hc0.new hW).lookT ht
 have hl0:=hl W0.drew (Fr.refl [] W0).drew
 have hsf:=callsIn_wide.1 (shards_fn 5 mf (c.tx t) hok W0.drew)
 have H0:=toHid (show CoIn W0 B cp lg bT n c∧Fr [] w W0∧W0.heap[w.heap.size]?=some (.cells #[.pointer (some ⟨cp,0,none⟩)] 91 (0,0))∧W0.heap[w.heap.size+1]?=some (.cells #[.int .u64 (t:Int)] 34 (0,0))∧W0.heap[w.heap.size+2]?=some (.cells #[.int .i64 (x:Int)] 3 (0,0)) from ⟨hc0,hfr0,r0,r1,r2⟩)
 obtain ⟨T,hT⟩:∃ T,T=c.tx t:=⟨_,rfl⟩
 rw [← hT] at hl0 hsf hok ⊢
 clear hT
 clear h hc0 hfr0 r0 r1 r2 h1 hl
 have hro:Fence.wide.round=none:=rfl
 have hfs:Fence.wide.fn 310:=trivial
 refine (callsIn_wide (n:=6)).1 ?_
 refine callsIn_of_wp_marks Tryz.func212 rfl trivial ?_ hro
 simp only [Tryz.ntmps212,List.size_toArray,List.length_cons,List.length_nil,Nat.reduceAdd,Nat.reduceSub,Array.replicate_succ,Array.replicate_zero,List.push_toArray,List.append_toArray,List.nil_append,List.cons_append]
 gi_wp2
 rw [← hW0]
 clear hW0
 refine wpIn_wide.2 ?_
 go_region_held3 (fun w'=>w'.cell? ⟨w.heap.size,0,none⟩=some (.pointer (some ⟨cp,0,none⟩))∧w'.cell? ⟨w.heap.size+1,0,none⟩=some (.int .u64 (t:Int))∧w'.cell? ⟨cp,1,none⟩=some (.map (some bT)))
  (simp [*])
  (first | (go_at_call 270;refine hsf.mono ?_;rintro e w2 ⟨rfl,hw2⟩;have hf2:Fr [] W0 w2:=(by rw [hw2];exact ((Fr.refl [] W0).drew.alloc _).alloc _);have z0:=(World.cell?_of_block (a:=⟨w.heap.size,0,none⟩) (hf2.block w.heap.size (by omega) (by simp))).trans v0;have z1:=(World.cell?_of_block (a:=⟨w.heap.size+1,0,none⟩) (hf2.block (w.heap.size+1) (by omega) (by simp))).trans v1;have z2:=(World.cell?_of_block (a:=⟨cp,1,none⟩) (hf2.block cp hcl (by simp))).trans c1;have H2:=toHid (show Fr [] W0 w2∧w2=(W0.drew.alloc (.cells (txC T).toArray 297)).alloc (.cells #[fnV mf] 299) from ⟨hf2,hw2⟩);clear hf2 hw2))
 have hsz2:w2.heap.size=w.heap.size+5:=by rw [H2.out.2];simp;omega
 have q1:w2.heap[w.heap.size+3]?=some (.cells (txC T).toArray 297 (0,0)):=by
  rw [H2.out.2,Below.heap_alloc _ _ _ (by simp;omega)]
  have:=heap_alloc_new W0.drew (.cells (txC T).toArray 297)
  rw [show W0.drew.heap.size=w.heap.size+3 from hs0] at this
  exact this
 have q2:w2.heap[w.heap.size+3+1]?=some (.cells #[fnV mf] 299 (0,0)):=by
  rw [H2.out.2]
  have:=heap_alloc_new (W0.drew.alloc (.cells (txC T).toArray 297)) (.cells #[fnV mf] 299)
  rw [World.size_alloc,show W0.drew.heap.size=w.heap.size+3 from hs0] at this
  exact this
 have hf2:=H2.out.1
 have hin2:=H0.out.1.new hf2
 have u0:=(hf2.block w.heap.size (by omega) (by simp)).trans H0.out.2.2.1
 have u1:=(hf2.block (w.heap.size+1) (by omega) (by simp)).trans H0.out.2.2.2.1
 have u2:=(hf2.block (w.heap.size+2) (by omega) (by simp)).trans H0.out.2.2.2.2
 have hcw:cp<w.heap.size:=by
  obtain ⟨cs,hc⟩:=H0.out.1.isCo
  by_cases e:cp<w.heap.size
  ·exact e
  ·have h3:cp=w.heap.size∨cp=w.heap.size+1∨cp=w.heap.size+2:=by omega
   rcases h3 with e | e | e
   ·rw [e,H0.out.2.2.1] at hc;cases hc
   ·rw [e,H0.out.2.2.2.1] at hc;cases hc
   ·rw [e,H0.out.2.2.2.2] at hc;cases hc
 have HR:=toHid (show Fr [] w w2 from H0.out.2.1.trans hf2)
 clear H0 H2 hf2 z0 z1 z2 v0 v1 c1 hsf hl0
 gi_wp2
 refine wpIn_range_s (F:=Fence.wide) (n:=6) rfl (by omega) (gf:=310) (lb:=#[.pointer (some ⟨w.heap.size+3,0,none⟩),.pointer (some ⟨w.heap.size+3+1,0,none⟩)]) rfl trivial (enters_of Tryz.func310 (by kernel_rfl) rfl)
  (encs:=fun y:Nat=>#[.int .i64 (y:Int)]) (rs:=meant q T.parts) (S:=[w.heap.size+3,w.heap.size+3+1]) (fun _=>rfl) (by intro k hk;simp at hk;omega)
  (fun Wx hbx _=>shards1P 5 (by omega) _ (w.heap.size+3) (w.heap.size+3+1) mf q hm hen T hok Wx ((hbx.block _ (by omega)).trans q1) ((hbx.block _ (by omega)).trans q2))
  (fun pre A=>CoIn A B cp lg bT (n+pre.length) { c with out:=c.out++pre.map fun k=>(t,k,x) }∧RFr cp [cp] w2 A)
  (fun Wx hbx=>⟨by simpa using hin2.new (Fr.of_below hbx []),(Fr.of_below hbx []).r hin2.lts.1 (by simp) (by simp)⟩)
  (fun s A r hs hsA hlo=>by
   obtain ⟨r0,hlo⟩:=hlo
   have hput:Fr [w2.heap.size+1] A (A.putObj (w2.heap.size+1) (.loop r)):=⟨rfl,rfl,rfl,by rw [size_put0];exact Nat.le_refl _,fun j _ hj=>World.putObj_heap_other (by simpa using hj)⟩
   have hcpn:(A.putObj (w2.heap.size+1) (.loop r)).heap[cp]?=A.heap[cp]?:=World.putObj_heap_other (by omega)
   refine ⟨hs.1.fr hput (fun k hk=>?_),⟨hs.2.fr.os,hs.2.fr.tape,hs.2.fr.output,by rw [size_put0];exact hs.2.fr.size,fun j hj hS=>(World.putObj_heap_other (by omega)).trans (hs.2.fr.block j hj hS)⟩,fun k hk hm=>hs.2.stay k hk (by rw [rd_same hcpn] at hm;exact hm)⟩
   simp at hk
   subst hk
   refine ⟨by omega,fun e=>?_,fun e=>?_⟩
   ·obtain ⟨es,cc,hmm⟩:=hs.1.txns.isMap
    rw [← e,hlo] at hmm;cases hmm
   ·obtain ⟨_,c9,t9,e9,_⟩:=hs.1.rdm e
    rw [hlo] at e9;cases e9)
  (fun y a' A=>a'={ tmps:=#[.pointer (some ⟨cp,0,none⟩),.int .u64 (t:Int),.int .i64 (x:Int),fnV mf,.pointer (some ⟨w.heap.size,0,none⟩),.pointer (some ⟨w.heap.size+1,0,none⟩),.pointer (some ⟨w.heap.size+1+1,0,none⟩),undef,.int .i64 (y:Int),.pointer (some ⟨cp,0,none⟩),.pointer (some ⟨cp,0,none⟩),.pointer (some ⟨cp,1,none⟩),.map (some bT),.int .u64 (t:Int),txV T,fnV mf,.func (.func 310) #[] #[.pointer (some ⟨w.heap.size+3,0,none⟩),.pointer (some ⟨w.heap.size+3+1,0,none⟩)],.int .i64 (y:Int),undef,undef,undef,undef,undef,undef,undef,undef,undef,undef,undef,undef,undef],defers:=[] })
  (fun y a' A r hs=>hs)
  ?assign ?body ?done
 case assign =>
  have hsem:=@Oper.semAt_some
  rintro pre y A K hI hsA hpre hK
  gi_wp2
  exact hK _ _ hI (KpS.refl _) rfl
 case body =>
  have hsem:=@Oper.semAt_some
  rintro pre y a' A ⟨hIA,hfA⟩ hsA rfl hpre hdf hlo
  have hpl:pre.length+1≤9:=by
   have:=hpre.length_le
   have h9:(meant q T.parts).length≤9:=by
    refine Nat.le_trans (List.length_filter_le _ _) ?_
    simp
   simp at this
   omega
  have B0:=RFr.cells hfA hin2 u0 (by simp;omega) (by decide) (by decide)
  have B1:=RFr.cells hfA hin2 u1 (by simp;omega) (by decide) (by decide)
  have B2:=RFr.cells hfA hin2 u2 (by simp;omega) (by decide) (by decide)
  have B3:=RFr.cells hfA hin2 q1 (by simp;omega) (by decide) (by decide)
  have B4:=RFr.cells hfA hin2 q2 (by simp;omega) (by decide) (by decide)
  obtain ⟨c',hc'⟩:∃ c':ACo,c'={ c with out:=c.out++pre.map fun k=>(t,k,x) }:=⟨_,rfl⟩
  rw [← hc'] at hIA
  obtain ⟨rv1,ov1,g1,g2,g3,g4,g5⟩:=hIA.ex
  have g41:=g4.1
  have g51:=g5.1
  have nrow:ov1.ownBlock≠some cp:=own_ne g3 g1 (by decide)
  have m0:ov1.ownBlock≠some w.heap.size:=own_ne g3 B0 (by decide)
  have m1:ov1.ownBlock≠some (w.heap.size+1):=own_ne g3 B1 (by decide)
  have m2:ov1.ownBlock≠some (w.heap.size+1+1):=own_ne g3 B2 (by decide)
  have hlA:cp<A.heap.size:=hIA.lts.1
  have a0:=blk_cell B0 0
  have a1:=blk_cell B1 0
  have a2:=blk_cell B2 0
  have a6:=blk_cell g1 6
  simp at a0 a1 a2 a6
  have HA:=toHid (show CoIn A B cp lg bT (n+pre.length) c'∧A.heap[cp]?=some (coO lg bT c' rv1 ov1)∧A.ownsRow B 216 2 rv1 c'.res.length (resV c'.res)∧A.ownsRow B 212 3 ov1 c'.out.length (dueV c'.out)∧Brd rv1 c'.res.length (n+pre.length)∧Brd ov1 c'.out.length (n+pre.length) from ⟨hIA,g1,g2,g3,g4,g5⟩)
  have HE:=toHid (show ∀ W',CoIn W' B cp lg bT (n+pre.length+1) { c' with out:=c'.out++[(t,y,x)] }∧RFr cp [cp] A W'→(CoIn W' B cp lg bT (n+(pre++[y]).length) { c with out:=c.out++(pre++[y]).map fun k=>(t,k,x) }∧RFr cp [cp] w2 W')∧KpS (w2.heap.size :: (w2.heap.size+1) :: [w.heap.size+3,w.heap.size+3+1]) A W' from fun W' h=>⟨⟨by have h9:=h.1;rw [hc'] at h9;rw [List.length_append,List.length_singleton,← Nat.add_assoc,List.map_append,← List.append_assoc];exact h9,RFr.trans hfA h.2⟩,h.2.fr.size,fun k hk hlt=>h.2.fr.block k hlt (fun hmm=>by
   rcases List.mem_append.1 hmm with e | e
   ·simp at hk e;omega
   ·obtain ⟨_,c9,t9,e2,_⟩:=hIA.rdm e
    obtain ⟨r0,hlo⟩:=hlo
    simp at hk
    rcases hk with rfl | rfl | rfl | rfl
    ·rw [hdf] at e2;cases e2
    ·rw [hlo] at e2;cases e2
    ·exact hIA.rd_not B3 (by decide) (by decide) e
    ·exact hIA.rd_not B4 (by decide) (by decide) e)⟩)
  have al0:∀ o,(A.drew.alloc o).cell? ⟨w.heap.size,0,none⟩=some (.pointer (some ⟨cp,0,none⟩)):=fun o=>(World.cell?_alloc_lt _ _ _ (by show w.heap.size<A.heap.size;omega)).trans a0
  have al1:∀ o,(A.drew.alloc o).cell? ⟨w.heap.size+1,0,none⟩=some (.int .u64 (t:Int)):=fun o=>(World.cell?_alloc_lt _ _ _ (by show w.heap.size+1<A.heap.size;omega)).trans a1
  have al2:∀ o,(A.drew.alloc o).cell? ⟨w.heap.size+1+1,0,none⟩=some (.int .i64 (x:Int)):=fun o=>(World.cell?_alloc_lt _ _ _ (by show w.heap.size+1+1<A.heap.size;omega)).trans a2
  have al6:∀ o,(A.drew.alloc o).cell? ⟨cp,6,none⟩=some ov1:=fun o=>(World.cell?_alloc_lt _ _ _ hlA).trans a6
  clear hIA hfA g1 g2 g3 B3 B4
  gi_wp2
  refine wpIn_region_round (S:=(fun w'=>w'.cell? ⟨w.heap.size,0,none⟩=some (.pointer (some ⟨cp,0,none⟩))∧w'.cell? ⟨w.heap.size+1,0,none⟩=some (.int .u64 (t:Int))∧w'.cell? ⟨w.heap.size+1+1,0,none⟩=some (.int .i64 (x:Int)))) (by kernel_rfl) (by kernel_rfl) (by rintro ⟨a,w,hq⟩;cases hq.1) ?_ (fun hHeld=>?_)
  ·simp [*]
  refine wpAnyH_take (i:=0) (oi:=⟨some 18,.load 91 (.tmp 4),91,"coordinator.go:125",#[],none⟩) (v:=.pointer (some ⟨cp,0,none⟩)) rfl (by kernel_rfl) (by kernel_rfl) (by kernel_rfl) (fun _ _ _ h=>h) (Or.inl ⟨by rfl,?_⟩) (by assumption) ?_
  ·intro w hSw;(try dsimp only at hSw);go_simp
  (try simp only [Act.put,List.setIfInBounds_toArray,List.set_cons_zero,List.set_cons_succ])
  refine wpAnyH_take (i:=1) (oi:=⟨some 19,.load 91 (.tmp 4),91,"coordinator.go:125",#[],none⟩) (v:=.pointer (some ⟨cp,0,none⟩)) rfl (by kernel_rfl) (by kernel_rfl) (by kernel_rfl) (fun _ _ _ h=>h) (Or.inl ⟨by rfl,?_⟩) (by assumption) ?_
  ·intro w hSw;(try dsimp only at hSw);go_simp
  (try simp only [Act.put,List.setIfInBounds_toArray,List.set_cons_zero,List.set_cons_succ])
  refine wpAnyH_take (i:=2) (oi:=⟨some 20,.nilCheck (.tmp 19),0,"coordinator.go:125",#[⟨1,.data⟩],none⟩) (v:=.pointer (some ⟨cp,0,none⟩)) rfl (by kernel_rfl) (by kernel_rfl) (by kernel_rfl) (fun _ _ _ h=>h) (Or.inl ⟨by rfl,?_⟩) (by assumption) ?_
  ·intro w hSw;(try dsimp only at hSw);go_simp
  (try simp only [Act.put,List.setIfInBounds_toArray,List.set_cons_zero,List.set_cons_succ])
  refine wpAnyH_take (i:=3) (oi:=⟨some 21,.fieldAddr 226 (.tmp 20) 6,0,"coordinator.go:125",#[⟨2,.data⟩],none⟩) (v:=.pointer (some ⟨cp,6,none⟩)) rfl (by kernel_rfl) (by kernel_rfl) (by kernel_rfl) (fun _ _ _ h=>h) (Or.inl ⟨by rfl,?_⟩) (by assumption) ?_
  ·intro w hSw;(try dsimp only at hSw);go_simp
  (try simp only [Act.put,List.setIfInBounds_toArray,List.set_cons_zero,List.set_cons_succ])
  refine wpAnyH_take (i:=5) (oi:=⟨some 23,.load 34 (.tmp 5),34,"coordinator.go:125",#[],none⟩) (v:=.int .u64 (t:Int)) rfl (by kernel_rfl) (by kernel_rfl) (by kernel_rfl) (fun _ _ _ h=>h) (Or.inl ⟨by rfl,?_⟩) (by assumption) ?_
  ·intro w hSw;(try dsimp only at hSw);go_simp
  (try simp only [Act.put,List.setIfInBounds_toArray,List.set_cons_zero,List.set_cons_succ])
  refine wpAnyH_take (i:=6) (oi:=⟨some 24,.move (.tmp 8),3,"coordinator.go:125",#[],none⟩) (v:=.int .i64 (y:Int)) rfl (by kernel_rfl) (by kernel_rfl) (by kernel_rfl) (fun _ _ _ h=>h) (Or.inl ⟨by rfl,?_⟩) (by assumption) ?_
  ·intro w hSw;(try dsimp only at hSw);go_simp
  (try simp only [Act.put,List.setIfInBounds_toArray,List.set_cons_zero,List.set_cons_succ])
  refine wpAnyH_take (i:=7) (oi:=⟨some 25,.load 3 (.tmp 6),3,"coordinator.go:125",#[],none⟩) (v:=.int .i64 (x:Int)) rfl (by kernel_rfl) (by kernel_rfl) (by kernel_rfl) (fun _ _ _ h=>h) (Or.inl ⟨by rfl,?_⟩) (by assumption) ?_
  ·intro w hSw;(try dsimp only at hSw);go_simp
  (try simp only [Act.put,List.setIfInBounds_toArray,List.set_cons_zero,List.set_cons_succ])
  refine wpAnyH_take (i:=8) (oi:=⟨some 26,.build 212 #[(0,.tmp 23),(1,.tmp 24),(2,.tmp 25)],212,"coordinator.go:125",#[⟨5,.data⟩,⟨6,.data⟩,⟨7,.data⟩],none⟩) (v:=.agg #[.int .u64 (t:Int),.int .i64 (y:Int),.int .i64 (x:Int)]) rfl (by kernel_rfl) (by kernel_rfl) (by kernel_rfl) (fun _ _ _ h=>h) (Or.inl ⟨by rfl,?_⟩) (by assumption) ?_
  ·intro w hSw;(try dsimp only at hSw);go_simp
  (try simp only [Act.put,List.setIfInBounds_toArray,List.set_cons_zero,List.set_cons_succ])
  refine wpAnyH_ready (rs:=[4,9]) (by kernel_rfl) (by simp) ?_
  refine AllReadyH.cons (o:=⟨some 22,.load 139 (.tmp 21),139,"coordinator.go:125",#[⟨3,.data⟩],none⟩) rfl (fun K hK=>?_) (AllReadyH.cons (o:=⟨some 27,.buildSlice 139 1 #[(0,.tmp 26)],139,"coordinator.go:125",#[⟨8,.data⟩],none⟩) rfl (fun K hK=>?_) AllReadyH.nil)
  ·go_simp
   refine hK.out _ _ ?_ (fun hHeld=>?_)
   ·simp [*]
   clear hK K
   (try simp only [Act.put,List.setIfInBounds_toArray,List.set_cons_zero,List.set_cons_succ])
   refine wpAnyH_ready (rs:=[9]) (by kernel_rfl) (by simp) ?_
   refine AllReadyH.cons (o:=⟨some 27,.buildSlice 139 1 #[(0,.tmp 26)],139,"coordinator.go:125",#[⟨8,.data⟩],none⟩) rfl (fun K hK=>?_) AllReadyH.nil
   go_simp
   refine hK.out _ _ ?_ (fun hHeld=>?_)
   ·exact ⟨al0 _,al1 _,al2 _⟩
   clear hK K
   (try simp only [Act.put,List.setIfInBounds_toArray,List.set_cons_zero,List.set_cons_succ])
   refine wpAnyH_ready (rs:=[10]) (by kernel_rfl) (by simp) ?_
   refine AllReadyH.cons rfl (fun K hK=>?_) AllReadyH.nil
   rw [if_pos (by rfl)]
   refine wp_dueat _ _ rfl B ov1 c'.out.length (dueV c'.out) t (y:Int) (x:Int) A.heap.size rfl (ownsRow_fr HA.out.2.2.2.1 ((Fr.refl [] A).drew.alloc _) (by simp)) rfl (heap_alloc_new _ _) (by omega) (by have:=HA.out.1.low;simp;omega) ?_
   intro v' w1 hown' hgrow hat0
   obtain ⟨av,mv,cv,rfl⟩:=own_sl hown'
   have hfa:Fr [] A (A.drew.alloc (.cells #[.int .u64 (t:Int),.int .i64 (y:Int),.int .i64 (x:Int)] 212)):=(Fr.refl [] A).drew.alloc _
   have HN:=toHid (HA.out.1.due HA.out.2.1 HA.out.2.2.1 HA.out.2.2.2.1 HA.out.2.2.2.2.1 HA.out.2.2.2.2.2 (t,y,x) hfa hgrow hown' (fun g hg=>hat0.elim (fun e=>.inl (e▸hg)) (fun e=>.inr (by rw [e] at hg;cases hg;simp))))
   have fro:Fr ov1.ownBlock.toList A w1:=(hfa.mono (by simp)).trans (Fr.of_grown hgrow)
   have hb1:=(fro.block cp hlA (by simp;exact nrow)).trans HA.out.2.1
   have g0:=(fro.block w.heap.size (by omega) (by simp;exact m0)).trans B0
   have g1:=(fro.block (w.heap.size+1) (by omega) (by simp;exact m1)).trans B1
   have g2:=(fro.block (w.heap.size+1+1) (by omega) (by simp;exact m2)).trans B2
   have d6:=blk_cell hb1 6
   have f6:=blk_free hb1 6
   have k0:=blk_cell g0 0
   have k1:=blk_cell g1 0
   have k2:=blk_cell g2 0
   simp at d6 k0 k1 k2
   have y0:=fun v=>(setCell_far w1 cp 6 w.heap.size 0 v (by omega)).trans k0
   have y1:=fun v=>(setCell_far w1 cp 6 (w.heap.size+1) 0 v (by omega)).trans k1
   have y2:=fun v=>(setCell_far w1 cp 6 (w.heap.size+1+1) 0 v (by omega)).trans k2
   clear hown' hgrow hat0 hfa fro hb1 g0 g1 g2
   refine hK.out _ _ ?_ (fun hHeld=>?_)
   ·simp [*]
   clear hK K
   (try simp only [Act.put,List.setIfInBounds_toArray])
   refine wpAnyH_take (i:=11) (oi:=⟨some 29,.nilCheck (.tmp 18),0,"coordinator.go:125",#[⟨0,.data⟩,⟨0,.phase⟩,⟨1,.phase⟩,⟨2,.phase⟩,⟨3,.phase⟩,⟨4,.phase⟩,⟨5,.phase⟩,⟨6,.phase⟩,⟨7,.phase⟩,⟨8,.phase⟩,⟨9,.phase⟩,⟨10,.phase⟩],none⟩) (v:=.pointer (some ⟨cp,0,none⟩)) rfl (by kernel_rfl) (by kernel_rfl) (by kernel_rfl) (fun _ _ _ h=>h) (Or.inl ⟨by rfl,?_⟩) (by assumption) ?_
   ·intro w hSw;(try dsimp only at hSw);go_simp
   (try simp only [Act.put])
   refine wpAnyH_take (i:=12) (oi:=⟨some 30,.fieldAddr 226 (.tmp 29) 6,0,"coordinator.go:125",#[⟨11,.data⟩,⟨0,.phase⟩,⟨1,.phase⟩,⟨2,.phase⟩,⟨3,.phase⟩,⟨4,.phase⟩,⟨5,.phase⟩,⟨6,.phase⟩,⟨7,.phase⟩,⟨8,.phase⟩,⟨9,.phase⟩,⟨10,.phase⟩],none⟩) (v:=.pointer (some ⟨cp,6,none⟩)) rfl (by kernel_rfl) (by kernel_rfl) (by kernel_rfl) (fun _ _ _ h=>h) (Or.inl ⟨by rfl,?_⟩) (by assumption) ?_
   ·intro w hSw;(try dsimp only at hSw);go_simp
   (try simp only [Act.put])
   refine wpAnyH_ready (rs:=[13]) (by kernel_rfl) (by simp) ?_
   refine AllReadyH.cons rfl (fun K hK=>?_) AllReadyH.nil
   go_simp
   refine hK.out _ _ ?_ (fun hHeld=>?_)
   ·simp [*]
   clear hK K
   (try simp only [Act.put,List.setIfInBounds_toArray,List.set_cons_zero,List.set_cons_succ])
   refine wpAnyH_done (by kernel_rfl) ?_ _
   exact ⟨rfl,HE.out _ HN.out⟩
  ·go_simp
   refine hK.out _ _ ?_ (fun hHeld=>?_)
   ·exact ⟨al0 _,al1 _,al2 _⟩
   clear hK K
   (try simp only [Act.put,List.setIfInBounds_toArray,List.set_cons_zero,List.set_cons_succ])
   refine wpAnyH_ready (rs:=[4]) (by kernel_rfl) (by simp) ?_
   refine AllReadyH.cons (o:=⟨some 22,.load 139 (.tmp 21),139,"coordinator.go:125",#[⟨3,.data⟩],none⟩) rfl (fun K hK=>?_) AllReadyH.nil
   go_simp
   refine hK.out _ _ ?_ (fun hHeld=>?_)
   ·exact ⟨al0 _,al1 _,al2 _⟩
   clear hK K
   (try simp only [Act.put,List.setIfInBounds_toArray,List.set_cons_zero,List.set_cons_succ])
   refine wpAnyH_ready (rs:=[10]) (by kernel_rfl) (by simp) ?_
   refine AllReadyH.cons rfl (fun K hK=>?_) AllReadyH.nil
   rw [if_pos (by rfl)]
   refine wp_dueat _ _ rfl B ov1 c'.out.length (dueV c'.out) t (y:Int) (x:Int) A.heap.size rfl (ownsRow_fr HA.out.2.2.2.1 ((Fr.refl [] A).drew.alloc _) (by simp)) rfl (heap_alloc_new _ _) (by omega) (by have:=HA.out.1.low;simp;omega) ?_
   intro v' w1 hown' hgrow hat0
   obtain ⟨av,mv,cv,rfl⟩:=own_sl hown'
   have hfa:Fr [] A (A.drew.alloc (.cells #[.int .u64 (t:Int),.int .i64 (y:Int),.int .i64 (x:Int)] 212)):=(Fr.refl [] A).drew.alloc _
   have HN:=toHid (HA.out.1.due HA.out.2.1 HA.out.2.2.1 HA.out.2.2.2.1 HA.out.2.2.2.2.1 HA.out.2.2.2.2.2 (t,y,x) hfa hgrow hown' (fun g hg=>hat0.elim (fun e=>.inl (e▸hg)) (fun e=>.inr (by rw [e] at hg;cases hg;simp))))
   have fro:Fr ov1.ownBlock.toList A w1:=(hfa.mono (by simp)).trans (Fr.of_grown hgrow)
   have hb1:=(fro.block cp hlA (by simp;exact nrow)).trans HA.out.2.1
   have g0:=(fro.block w.heap.size (by omega) (by simp;exact m0)).trans B0
   have g1:=(fro.block (w.heap.size+1) (by omega) (by simp;exact m1)).trans B1
   have g2:=(fro.block (w.heap.size+1+1) (by omega) (by simp;exact m2)).trans B2
   have d6:=blk_cell hb1 6
   have f6:=blk_free hb1 6
   have k0:=blk_cell g0 0
   have k1:=blk_cell g1 0
   have k2:=blk_cell g2 0
   simp at d6 k0 k1 k2
   have y0:=fun v=>(setCell_far w1 cp 6 w.heap.size 0 v (by omega)).trans k0
   have y1:=fun v=>(setCell_far w1 cp 6 (w.heap.size+1) 0 v (by omega)).trans k1
   have y2:=fun v=>(setCell_far w1 cp 6 (w.heap.size+1+1) 0 v (by omega)).trans k2
   clear hown' hgrow hat0 hfa fro hb1 g0 g1 g2
   refine hK.out _ _ ?_ (fun hHeld=>?_)
   ·simp [*]
   clear hK K
   (try simp only [Act.put,List.setIfInBounds_toArray])
   refine wpAnyH_take (i:=11) (oi:=⟨some 29,.nilCheck (.tmp 18),0,"coordinator.go:125",#[⟨0,.data⟩,⟨0,.phase⟩,⟨1,.phase⟩,⟨2,.phase⟩,⟨3,.phase⟩,⟨4,.phase⟩,⟨5,.phase⟩,⟨6,.phase⟩,⟨7,.phase⟩,⟨8,.phase⟩,⟨9,.phase⟩,⟨10,.phase⟩],none⟩) (v:=.pointer (some ⟨cp,0,none⟩)) rfl (by kernel_rfl) (by kernel_rfl) (by kernel_rfl) (fun _ _ _ h=>h) (Or.inl ⟨by rfl,?_⟩) (by assumption) ?_
   ·intro w hSw;(try dsimp only at hSw);go_simp
   (try simp only [Act.put])
   refine wpAnyH_take (i:=12) (oi:=⟨some 30,.fieldAddr 226 (.tmp 29) 6,0,"coordinator.go:125",#[⟨11,.data⟩,⟨0,.phase⟩,⟨1,.phase⟩,⟨2,.phase⟩,⟨3,.phase⟩,⟨4,.phase⟩,⟨5,.phase⟩,⟨6,.phase⟩,⟨7,.phase⟩,⟨8,.phase⟩,⟨9,.phase⟩,⟨10,.phase⟩],none⟩) (v:=.pointer (some ⟨cp,6,none⟩)) rfl (by kernel_rfl) (by kernel_rfl) (by kernel_rfl) (fun _ _ _ h=>h) (Or.inl ⟨by rfl,?_⟩) (by assumption) ?_
   ·intro w hSw;(try dsimp only at hSw);go_simp
   (try simp only [Act.put])
   refine wpAnyH_ready (rs:=[13]) (by kernel_rfl) (by simp) ?_
   refine AllReadyH.cons rfl (fun K hK=>?_) AllReadyH.nil
   go_simp
   refine hK.out _ _ ?_ (fun hHeld=>?_)
   ·simp [*]
   clear hK K
   (try simp only [Act.put,List.setIfInBounds_toArray,List.set_cons_zero,List.set_cons_succ])
   refine wpAnyH_done (by kernel_rfl) ?_ _
   exact ⟨rfl,HE.out _ HN.out⟩
 case done =>
  rintro A ⟨hIA,hfA⟩ hsA hK
  gi_wp2
  refine ⟨by simp,.inl ⟨_,_,rfl,run_takeDeferred hK,?_⟩⟩
  obtain ⟨W9,hW9⟩:∃ W9,W9=A.putObj w2.heap.size (.deferred none):=⟨_,rfl⟩
  rw [← hW9]
  have hput:Fr [w2.heap.size] A W9:=by rw [hW9];exact ⟨rfl,rfl,rfl,by rw [size_put0];exact Nat.le_refl _,fun j _ hj=>World.putObj_heap_other (by simpa using hj)⟩
  have h9:CoIn W9 B cp lg bT (n+(meant q T.parts).length) { c with out:=c.out++(meant q T.parts).map fun k=>(t,k,x) }:=hIA.fr hput (fun k hk=>by
   simp at hk
   subst hk
   refine ⟨by omega,fun e=>?_,fun e=>?_⟩
   ·obtain ⟨es,cc,hmm⟩:=hIA.txns.isMap
    rw [← e,hK] at hmm;cases hmm
   ·obtain ⟨_,c9,t9,e9,_⟩:=hIA.rdm e
    rw [hK] at e9;cases e9)
  have hl9:(meant q T.parts).length≤9:=by
   refine Nat.le_trans (List.length_filter_le _ _) ?_
   simp
  have hcw2:cp<w2.heap.size:=hin2.lts.1
  have hf9:RFr cp [cp] w W9:=by
   have k1:RFr cp [cp] w w2:=HR.out.r hcw (by simp) (by simp)
   have hcpn:W9.heap[cp]?=A.heap[cp]?:=hput.block cp (Nat.lt_of_lt_of_le hcw2 hfA.fr.size) (by simp;omega)
   refine k1.trans ⟨⟨hput.os.trans hfA.fr.os,hput.tape.trans hfA.fr.tape,hput.output.trans hfA.fr.output,Nat.le_trans hfA.fr.size hput.size,fun j hj hS=>(hput.block j (Nat.lt_of_lt_of_le hj hfA.fr.size) (by simp;omega)).trans (hfA.fr.block j hj hS)⟩,fun k hk hm=>hfA.stay k hk (by rw [rd_same hcpn] at hm;exact hm)⟩
  exact ⟨_,results_none rfl _ _ _,rfl,h9.mono (by omega),hf9⟩
end Go.Proofs.YtejiankgafjppaaGreatDoor
