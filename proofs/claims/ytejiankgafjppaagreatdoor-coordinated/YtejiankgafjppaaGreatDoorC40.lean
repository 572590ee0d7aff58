import Derived.Test.YtejiankgafjppaaGreatDoorC30
import Derived.Test.YtejiankgafjppaaGreatDoorC37
import Derived.Test.YtejiankgafjppaaGreatDoorC39
import Derived.Test.YtejiankgafjppaaGreatDoorC38
namespace Go.Proofs.YtejiankgafjppaaGreatDoor
open Go.RowKit Go.Maps Go.Shelf
open Sc
theorem ksrc_row {w:World} {base:Nat} {e:TypeId} {size n:Nat} {v:Value} {xs:List Value} (h:w.ownsRow base e size v n xs):AppSrc w v n xs:=by
 rcases h.2 with ⟨rfl,rfl⟩ | ⟨g,cap,cur,rfl,rest⟩
 ·exact .inr ⟨rfl,rfl,List.eq_nil_of_length_eq_zero (by rw [h.1];simp)⟩
 ·refine .inl ⟨_,_,rfl,h.cells (g:=g) rfl⟩
theorem kFr_new {w w1 w2:World} {v:Value} (h:Fr [] w w1) (k:Fr v.ownBlock.toList w1 w2) (hv:NewV w v):Fr [] w w2 :=
 ⟨k.os.trans h.os,k.tape.trans h.tape,k.output.trans h.output,Nat.le_trans h.size k.size,fun i hi hn=>(k.block i (Nat.lt_of_lt_of_le hi h.size) (fun hm=>by have:=hv i (by simpa using hm);omega)).trans (h.block i hi hn)⟩
theorem resV_len (l:List (Nat × Nat)):(resV l).length=l.length*2:=flat_len (f:=resC) (k:=2) (fun _=>rfl) l
theorem dueV_len (l:List (Nat × Nat × Nat)):(dueV l).length=l.length*3:=flat_len (f:=dueC) (k:=3) (fun _=>rfl) l
theorem res_one (l:List (Nat × Nat)):∀ u∈resV l,u.oneCell'=true:=by
 intro u hu
 obtain ⟨p,hp,hq⟩:=List.mem_flatMap.1 hu
 simp at hq
 rcases hq with rfl | rfl <;> rfl
theorem due_one (l:List (Nat × Nat × Nat)):∀ u∈dueV l,u.oneCell'=true:=by
 intro u hu
 obtain ⟨p,hp,hq⟩:=List.mem_flatMap.1 hu
 simp at hq
 rcases hq with rfl | rfl | rfl <;> rfl
section
variable [Inhabited Bs] {w w2 w4:World} {cp:Nat} {xv rv ov v2 v4 lv:Value} {qs:List (RDeal × Value)} {R:RCo} {x:RDeal}
theorem RkIn.pushD (h:RkIn w cp xv rv ov qs R) (hf:Fr xv.ownBlock.toList w w4) (ho:w4.ownsRow B0 144 5 v4 (qs.length+1) (dealsV qs++dealC (x,lv))) (hl:w4.ownsRow B0 204 3 lv x.parts.length (prtsV x.parts)) (hnew:NewV w lv) :
  RkIn (w4.setCell ⟨cp,0,none⟩ v4) cp v4 rv ov (qs++[(x,lv)]) { R with deals:=R.deals++[x] }:=by
 have hno:∀ {e:TypeId} {size n:Nat} {v:Value} {ys:List Value},e≠144→w.ownsRow B0 e size v n ys→∀ g,v.ownBlock=some g→g∉xv.ownBlock.toList:=by
  intro e size n v ys hne hv g hg hm
  exact own_apart hv h.dls hne hg (by simpa using hm)
 have hcp:w4.heap[cp]?=some (rcoO xv rv ov R.next):=(hf.block cp (Array.getElem?_eq_some_iff.1 h.blk).1 (fun hm=>own_ne h.dls h.blk (by decide) (by simpa using hm))).trans h.blk
 refine { base:=h.base,blk:=?_,dls:=?_,prt:=fun p hp=>?_,apart:=?_,res:=ownsRow_set (ownsRow_fr h.res hf (hno (by decide) h.res)) hcp (by decide),out:=ownsRow_set (ownsRow_fr h.out hf (hno (by decide) h.out)) hcp (by decide),rs:=by rw [List.map_append,h.rs];rfl }
 ·have:=blk_set hcp 0 v4
  simpa using this
 ·rw [List.length_append,dealsV_app]
  refine ownsRow_set ?_ hcp (by decide)
  have e:dealsV [(x,lv)]=dealC (x,lv):=rfl
  rw [e]
  exact ho
 ·rcases List.mem_append.1 hp with hp | hp
  ·exact ownsRow_set (ownsRow_fr (h.prt p hp) hf (hno (by decide) (h.prt p hp))) hcp (by decide)
  ·simp at hp
   subst hp
   exact ownsRow_set hl hcp (by decide)
 ·refine List.pairwise_append.2 ⟨h.apart,by simp,fun p hp q hq=>?_⟩
  simp at hq
  subst hq
  cases hb:p.2.ownBlock with
  | none=>exact .inl rfl
  | some g =>
   refine .inr fun e=>?_
   have h1:=((h.prt p hp).lt g hb).2
   have h2:=hnew g e.symm
   omega
theorem RkIn.putRes (h:RkIn w cp xv rv ov qs R) (hf:Fr [] w w2) {T:List (Nat × Nat)} (ho:w2.ownsRow B0 216 2 v2 T.length (resV T)):RkIn (w2.setCell ⟨cp,2,none⟩ v2) cp xv v2 ov qs { R with res:=T }:=by
 have h2:=h.fr hf
 refine { base:=h.base,blk:=?_,dls:=ownsRow_set h2.dls h2.blk (by decide),prt:=fun p hp=>ownsRow_set (h2.prt p hp) h2.blk (by decide),apart:=h.apart,res:=ownsRow_set ho h2.blk (by decide),out:=ownsRow_set h2.out h2.blk (by decide),rs:=h.rs }
 have:=blk_set h2.blk 2 v2
 simpa using this
theorem RkIn.putOut (h:RkIn w cp xv rv ov qs R) (hf:Fr [] w w2) {T:List (Nat × Nat × Nat)} (ho:w2.ownsRow B0 212 3 v2 T.length (dueV T)):RkIn (w2.setCell ⟨cp,3,none⟩ v2) cp xv rv v2 qs { R with out:=T }:=by
 have h2:=h.fr hf
 refine { base:=h.base,blk:=?_,dls:=ownsRow_set h2.dls h2.blk (by decide),prt:=fun p hp=>ownsRow_set (h2.prt p hp) h2.blk (by decide),apart:=h.apart,res:=ownsRow_set h2.res h2.blk (by decide),out:=ownsRow_set ho h2.blk (by decide),rs:=h.rs }
 have:=blk_set h2.blk 3 v2
 simpa using this
end
set_option maxRecDepth 100000 in
set_option maxHeartbeats 8000000 in
theorem kcopy_any [Inhabited Bs] (rp:Nat) (S:List Nat) (R:RCo) (w:World) (h:RkN w rp S R) (hn:R.deals.length≤1048576) (hl:∀ x∈R.deals,x.parts.length≤1000) (hrl:R.res.length≤1048576) (hol:R.out.length≤1048576) :
  Calls Tryz.prog 41 #[.pointer (some ⟨rp,0,none⟩)] w fun e w'=>∃ cp S',e=.returned (.pointer (some ⟨cp,0,none⟩))∧RkN w' cp S' R∧(∀ k∈S',w.heap.size≤k)∧Fr [] w w':=by
 obtain ⟨xv,rv,ov,ps,h,_⟩:=h
 obtain ⟨i0,hin,hz0,hz1,hz2⟩:=info_parts Tryz.infoRes
 obtain ⟨d0,hdn,dz0,dz1,dz2⟩:=info_parts Tryz.infoDue
 obtain ⟨j0,hjn,gz0,gz1,gz2⟩:=info_parts Tryz.infoDeal
 obtain ⟨l0,hln0,lz0,lz1,lz2⟩:=info_parts Tryz.infoPart
 have c1:=blk_cell h.blk 1
 simp at c1
 have hrpl:rp<w.heap.size:=(Array.getElem?_eq_some_iff.1 h.blk).1
 have HI:Hid (RkIn w rp xv rv ov ps R):=h
 obtain ⟨cp,hcp⟩:∃ cp,cp=w.heap.size:=⟨_,rfl⟩
 obtain ⟨W1,hW1⟩:∃ W1,W1=w.alloc (.cells #[.slice none 0 0,.int .u64 (R.next:Int),.slice none 0 0,.slice none 0 0] 141):=⟨_,rfl⟩
 have hfW:Fr [] w W1:=by rw [hW1];exact (Fr.refl [] w).alloc _
 have hRW:RkIn W1 cp (.slice none 0 0) (.slice none 0 0) (.slice none 0 0) [] ⟨[],R.next,[],[]⟩:=by
  refine { base:=by rw [hcp];exact HI.out.low,blk:=?_,dls:=World.ownsRow_nil _ _ _ _,prt:=by simp,apart:=by simp,res:=World.ownsRow_nil _ _ _ _,out:=World.ownsRow_nil _ _ _ _,rs:=rfl }
  rw [hW1,hcp];exact heap_alloc_new w _
 have hcw:w.heap.size≤cp:=by rw [hcp];exact Nat.le_refl _
 have hcl:cp<W1.heap.size:=(Array.getElem?_eq_some_iff.1 hRW.blk).1
 have H1:=toHid (show RkIn W1 cp (.slice none 0 0) (.slice none 0 0) (.slice none 0 0) [] ⟨[],R.next,[],[]⟩∧Fr [] w W1∧w.heap.size≤cp∧cp<W1.heap.size from ⟨hRW,hfW,hcw,hcl⟩)
 clear h hRW hfW hcw hcl
 go_enter Tryz.func41,Tryz.ntmps41
 go_wp2
 rw [← hW1]
 rw [← hcp]
 clear hW1 hcp c1
 obtain ⟨n,hnn⟩:∃ n,n=ps.length:=⟨_,rfl⟩
 have HN:Hid (ps.length=n):=hnn.symm
 rw [← HI.out.len,← hnn] at hn
 clear hnn
 have HL:Hid (∀ x∈R.deals,x.parts.length≤1000):=hl
 clear hl
 go_loopw [4] (fun i wr=>∃ (k:Nat) (xv':Value) (qs:List (RDeal × Value)),k≤n∧i=.int .i64 k∧Hid (RkIn wr cp xv' (.slice none 0 0) (.slice none 0 0) qs ⟨R.deals.take k,R.next,[],[]⟩∧Fr [] w wr∧qs.length=k∧NewV w xv'∧W1.heap.size≤wr.heap.size∧∀ q∈qs,NewV w q.2)) (fun i _=>n - (intOf i).toNat)
 case atStart=>exact ⟨0,.slice none 0 0,[],Nat.zero_le _,rfl,H1.out.1,H1.out.2.1,rfl,NewV.nil _,Nat.le_refl _,by simp⟩
 case round =>
  obtain ⟨k,xv',qs,hk,rfl,hr⟩:=hrel
  have hrI:=HI.out.fr hr.out.2.1
  have c1:=blk_cell hrI.blk 0
  simp at c1
  obtain ⟨ao,c,e0,H⟩:=hrI.slice
  rw [e0,HN.out] at c1
  have hsz:=hr.out.2.1.size
  have hBr:B0≤wr.heap.size:=Nat.le_trans HI.out.low hsz
  have hcl:cp<wr.heap.size:=Nat.lt_of_lt_of_le H1.out.2.2.2 hr.out.2.2.2.2.1
  by_cases hlt:k<n
  ·obtain ⟨p,hp⟩:∃ p,ps[k]?=some p:=⟨_,List.getElem?_eq_getElem (by rw [HN.out];exact hlt)⟩
   obtain ⟨g,rfl,x0,x1,x2,x3,x4⟩:=H k p hp
   have hlk:=hrI.prt p (List.mem_of_getElem? hp)
   obtain ⟨pa,pc,ep⟩:=own_slice hlk
   have hln:=HL.out p.1 (List.mem_of_getElem? (HI.out.back hp))
   obtain ⟨nl,hnl⟩:∃ nl,nl=p.1.parts.length:=⟨_,rfl⟩
   rw [ep] at x3 hlk
   rw [← hnl] at x3 hlk hln
   have hbc:=blk_cell hr.out.1.blk 0
   simp at hbc
   have i1:(0:Int)≤(k:Int):=by omega
   have i2:(k:Int)<(n:Int):=by omega
   have HP:Hid (ps[k]?=some p∧nl=p.1.parts.length):=⟨hp,hnl⟩
   have hls:=ksrc_row (hlk.alloc (.cells #[.int .u64 (p.1.id:Int),.int .i64 (p.1.st:Int),.int .i64 (p.1.age:Int),.slice pa nl pc,.bool false] 144))
   clear H hp hrI hnl ep hlk
   go_wp2_with (at_builtin;refine wpList_app rfl _ _ 142 rfl wr.heap.size 204 l0 _ 3 24 Tryz.underlying142 hln0 lz0 lz1 lz2 rfl (by decide) (.slice none 0 0) 0 [] rfl (World.ownsRow_nil _ _ _ _) nl (prtsV p.1.parts) hls (by rw [prtsV_len,← HP.out.2]) (prts_one _) (by unfold maxLen;omega) (by omega) (by simp) ?_;intro lv w2 ho2 hg2 ha2;obtain ⟨o2,k2,rfl⟩:=own_slice ho2;have hb2:=(hg2.block wr.heap.size (by simp) (by simp [Value.ownBlock])).trans (heap_alloc_new wr _);have q0:=blk_cell hb2 0;have q1:=blk_cell hb2 1;have q2:=blk_cell hb2 2;have q3:=blk_cell hb2 3;have q4:=blk_cell hb2 4;have qf:=blk_free hb2 3;have hc2:=hg2.cell ((World.cell?_of_block (a:=⟨cp,0,none⟩) (Below.heap_alloc wr _ cp hcl)).trans hbc) (by simp [Value.ownBlock]);simp at q0 q1 q2 q3 q4)
   have hW3:Fr [] wr (w2.setCell ⟨wr.heap.size,3,none⟩ (.slice o2 nl k2)):=(Fr.new_grown ((Fr.refl [] wr).alloc _) (NewV.nil wr) hg2).setCell (.inr (Nat.le_refl _)) _
   have hl3:(w2.setCell ⟨wr.heap.size,3,none⟩ (.slice o2 nl k2)).ownsRow wr.heap.size 204 3 (.slice o2 nl k2) nl (prtsV p.1.parts):=ownsRow_set (by simpa using ho2) hb2 (by decide)
   have hb3:=blk_set hb2 3 (.slice o2 nl k2)
   obtain ⟨W3,hw3⟩:∃ W3,W3=w2.setCell ⟨wr.heap.size,3,none⟩ (.slice o2 nl k2):=⟨_,rfl⟩
   rw [← hw3] at hW3 hl3 hb3 ⊢
   clear hw3 q0 q1 q2 q3 q4 qf hc2 hg2 ha2 ho2 hb2 hbc hls
   have b0:=blk_cell hb3 0
   have b1:=blk_cell hb3 1
   have b2:=blk_cell hb3 2
   have b3:=blk_cell hb3 3
   have b4:=blk_cell hb3 4
   simp at b0 b1 b2 b3 b4
   have hr3:=hr.out.1.fr hW3
   have p2:=blk_cell hr3.blk 0
   have g2:=blk_free hr3.blk 0
   simp at p2
   have hc3:cp<W3.heap.size:=Nat.lt_of_lt_of_le hcl hW3.size
   have hfa:∀ ob,(W3.alloc ob).frozen? ⟨cp,0,none⟩=false:=fun ob=>(World.frozen?_of_block (a:=⟨cp,0,none⟩) (Below.heap_alloc W3 ob cp hc3)).trans g2
   have hpa:∀ ob,(W3.alloc ob).cell? ⟨cp,0,none⟩=some xv':=fun ob=>(World.cell?_of_block (a:=⟨cp,0,none⟩) (Below.heap_alloc W3 ob cp hc3)).trans p2
   have hrow:=hr3.dls
   rw [hr.out.2.2.1] at hrow
   obtain ⟨xo,xc,ex⟩:=own_slice hrow
   subst ex
   have HB:Hid (W3.heap[cp]?=some (rcoO (.slice xo k xc) (.slice none 0 0) (.slice none 0 0) R.next)∧some cp≠(Value.slice xo k xc).ownBlock):=⟨hr3.blk,fun e=>own_ne hrow hr3.blk (by decide) e.symm⟩
   have hB3:B0≤W3.heap.size:=Nat.le_trans hBr hW3.size
   have H3:=toHid (show Fr [] wr W3∧W3.ownsRow wr.heap.size 204 3 (.slice o2 nl k2) nl (prtsV p.1.parts)∧W3.ownsRow B0 144 5 (.slice xo k xc) k (dealsV qs) from ⟨hW3,hl3,hrow⟩)
   clear hW3 hl3 hb3 hr3 hrow
   go_region_law (first | (rw [if_pos (by rfl)];refine wp_append_at _ _ 137 rfl B0 144 j0 _ 5 56 Tryz.underlying137 hjn gz0 gz1 gz2 rfl (by decide) _ k (dealsV qs) rfl (H3.out.2.2.alloc _) ⟨W3.heap.size,0,none⟩ 1 1 [.int .u64 (p.1.id:Int),.int .i64 (p.1.st:Int),.int .i64 (p.1.age:Int),.slice o2 nl k2,.bool false] rfl rfl (cells_new _ #[.int .u64 (p.1.id:Int),.int .i64 (p.1.st:Int),.int .i64 (p.1.age:Int),.slice o2 nl k2,.bool false] _) (by intro u hu;simp at hu;rcases hu with rfl | rfl | rfl | rfl | rfl <;> rfl) (by unfold maxLen;omega) (by omega) (Nat.le_trans hB3 (by simp)) ?_;intro v4 w4 ho4 hg4 hl4;obtain ⟨o4,c4,rfl⟩:=own_slice ho4;have hb4:w4.heap[cp]?=some (rcoO (.slice xo k xc) (.slice none 0 0) (.slice none 0 0) R.next):=(hg4.block cp (by simp;omega) HB.out.2).trans ((Below.heap_alloc W3 _ cp hc3).trans HB.out.1);have t2:=blk_cell hb4 0;have tf:=blk_free hb4 0;simp at t2))
   all_goals
    have hf4:Fr (Value.slice xo k xc).ownBlock.toList wr w4:=(H3.out.1.mono (by simp)).trans ((((Fr.refl _ W3).alloc _).drew).trans (Fr.of_grown (r:=(Value.slice xo k xc).ownBlock) hg4))
    have HR:Hid (RkIn (w4.setCell ⟨cp,0,none⟩ (.slice o4 (k+1) c4)) cp (.slice o4 (k+1) c4) (.slice none 0 0) (.slice none 0 0) (qs++[(p.1,.slice o2 nl k2)]) ⟨R.deals.take (k+1),R.next,[],[]⟩∧Fr [] w (w4.setCell ⟨cp,0,none⟩ (.slice o4 (k+1) c4))∧(qs++[(p.1,(.slice o2 nl k2:Value))]).length=k+1∧NewV w (.slice o4 (k+1) c4)∧W1.heap.size≤(w4.setCell ⟨cp,0,none⟩ (.slice o4 (k+1) c4)).heap.size∧∀ q∈qs++[(p.1,(.slice o2 nl k2:Value))],NewV w q.2):=by
     have hlf:w4.ownsRow B0 204 3 (.slice o2 nl k2) p.1.parts.length (prtsV p.1.parts):=by
      have h1:=ownsRow_fr (ownsRow_base_a H3.out.2.1 hBr) (((Fr.refl [] W3).alloc (.cells #[.int .u64 (p.1.id:Int),.int .i64 (p.1.st:Int),.int .i64 (p.1.age:Int),.slice o2 nl k2,.bool false] 144)).drew) (by simp)
      have h2:=ownsRow_fr H3.out.2.2 (((Fr.refl [] W3).alloc (.cells #[.int .u64 (p.1.id:Int),.int .i64 (p.1.st:Int),.int .i64 (p.1.age:Int),.slice o2 nl k2,.bool false] 144)).drew) (by simp)
      rw [← HP.out.2]
      refine ownsRow_fr h1 (Fr.of_grown (r:=(Value.slice xo k xc).ownBlock) hg4) fun g hg hm=>?_
      have hm2:(Value.slice xo k xc).ownBlock=some g:=by simpa using hm
      exact own_apart h1 h2 (by decide) hg hm2
     have e1:R.deals.take (k+1)=R.deals.take k++[p.1]:=by rw [List.take_add_one,HI.out.back HP.out.1];rfl
     have hq:=hr.out.2.2.1
     have hnl2:NewV wr (.slice o2 nl k2):=fun g hg=>(H3.out.2.1.lt g hg).1
     refine ⟨?_,?_,by simp [hq],?_,?_,fun q hqm=>?_⟩
     ·rw [e1]
      exact hr.out.1.pushD hf4 (by rw [hq];exact ho4) hlf hnl2
     ·have hx:Fr [] w w4:=kFr_new hr.out.2.1 hf4 hr.out.2.2.2.1
      exact hx.setCell (.inr H1.out.2.2.1) _
     ·exact NewV.next hr.out.2.2.2.1 (by have:=H3.out.1.size;simp;omega) hl4
     ·have h1:=hf4.size
      have h2:=hr.out.2.2.2.2.1
      simp [World.setCell];omega
     ·rcases List.mem_append.1 hqm with hqm | hqm
      ·exact hr.out.2.2.2.2.2 q hqm
      ·simp at hqm
       subst hqm
       exact fun g hg=>Nat.le_trans hsz (hnl2 g hg)
    clear hf4 hg4 ho4 hl4 hb4
    go_wp2
    go_roundw
    case rel=>exact ⟨k+1,_,_,by omega,by go_num,HR.out⟩
    case measure=>simp [intOf];omega
  ·have hkn:k=n:=by omega
   have HT:Hid (R.deals.take k=R.deals):=List.take_of_length_le (by rw [hkn,← HN.out,HI.out.len];omega)
   have c2:=blk_cell hrI.blk 2
   have c3:=blk_cell hrI.blk 3
   simp at c2 c3
   have p2:=blk_cell hr.out.1.blk 2
   have g2:=blk_free hr.out.1.blk 2
   simp at p2
   have hsr:=ksrc_row hrI.res
   have hrpw:rp<wr.heap.size:=(Array.getElem?_eq_some_iff.1 hrI.blk).1
   have hne:¬ rp=cp:=by have:=H1.out.2.2.1;omega
   have hne2:¬ cp=rp:=fun e=>hne e.symm
   obtain ⟨ra,rm,rc,er⟩:=own_sl hrI.res
   obtain ⟨oa,om,oc,eo⟩:=own_sl hrI.out
   rw [er] at c2 hsr
   rw [eo] at c3
   have HE:Hid (rv=.slice ra rm rc∧ov=.slice oa om oc):=⟨er,eo⟩
   clear H hrI er eo
   have HR:Hid (RkIn wr cp xv' (.slice none 0 0) (.slice none 0 0) qs ⟨R.deals,R.next,[],[]⟩∧Fr [] w wr∧cp<wr.heap.size∧w.heap.size≤cp∧NewV w xv'∧(∀ q∈qs,NewV w q.2)):=by
    have:=hr.out.1
    rw [HT.out] at this
    exact ⟨this,hr.out.2.1,hcl,H1.out.2.2.1,hr.out.2.2.2.1,hr.out.2.2.2.2.2⟩
   clear hr HT hkn
   go_upto_region 9 with (at_builtin;refine wpList_app rfl _ _ 138 rfl wr.heap.size 216 i0 _ 2 16 Tryz.underlying138 hin hz0 hz1 hz2 rfl (by decide) (.slice none 0 0) 0 [] rfl (World.ownsRow_nil _ _ _ _) R.res.length (resV R.res) hsr (resV_len _) (res_one _) (by unfold maxLen;omega) (by omega) (Nat.le_refl _) ?_;intro v2 w2 ho2 hg2 ha2;obtain ⟨o2,m2,k2,rfl⟩:=own_sl ho2;have hf2:Fr [] wr w2:=Fr.new_grown (Fr.refl [] wr) (NewV.nil wr) hg2;have hb2:=(hf2.block cp HR.out.2.2.1 (by simp)).trans HR.out.1.blk;have t2:=blk_cell hb2 2;have tf:=blk_free hb2 2;simp at t2;clear hb2 hg2 ha2)
   obtain ⟨W2,hW2⟩:∃ W2,W2=w2.setCell ⟨cp,2,none⟩ (.slice o2 m2 k2):=⟨_,rfl⟩
   rw [← hW2]
   have hR2:RkIn W2 cp xv' (.slice o2 m2 k2) (.slice none 0 0) qs ⟨R.deals,R.next,R.res,[]⟩:=by
    rw [hW2]
    exact HR.out.1.putRes hf2 (by rw [Nat.zero_add] at ho2;exact ownsRow_base_a ho2 hBr)
   have hF2:Fr [] w W2:=by rw [hW2];exact (HR.out.2.1.trans hf2).setCell (.inr HR.out.2.2.2.1) _
   have hN2:NewV w (.slice o2 m2 k2):=fun q hq=>Nat.le_trans hsz (ho2.lt q hq).1
   have hI2:=HI.out.fr hF2
   have c3':=blk_cell hI2.blk 3
   simp at c3'
   rw [HE.out.2] at c3'
   have hso:=ksrc_row hI2.out
   rw [HE.out.2] at hso
   have hB2:B0≤W2.heap.size:=hI2.low
   have hcl2:cp<W2.heap.size:=(Array.getElem?_eq_some_iff.1 hR2.blk).1
   have p3:=blk_cell hR2.blk 3
   have g3:=blk_free hR2.blk 3
   simp at p3
   have HR2:=toHid (And.intro hR2 (And.intro hF2 (And.intro hcl2 hN2)))
   clear hW2 hR2 hF2 hN2 hI2 ho2 hf2 t2 tf c1 c2 c3 p2 g2 hsr hcl hrpw
   go_wp2_with (at_builtin;refine wpList_app rfl _ _ 139 rfl W2.heap.size 212 d0 _ 3 24 Tryz.underlying139 hdn dz0 dz1 dz2 rfl (by decide) (.slice none 0 0) 0 [] rfl (World.ownsRow_nil _ _ _ _) R.out.length (dueV R.out) hso (dueV_len _) (due_one _) (by unfold maxLen;omega) (by omega) (Nat.le_refl _) ?_;intro v4 w4 ho4 hg4 ha4;obtain ⟨o4,m4,k4,rfl⟩:=own_sl ho4;have hf4:Fr [] W2 w4:=Fr.new_grown (Fr.refl [] W2) (NewV.nil W2) hg4;have hb4:=(hf4.block cp HR2.out.2.2.1 (by simp)).trans HR2.out.1.blk;have t4:=blk_cell hb4 3;have tf4:=blk_free hb4 3;simp at t4;clear hb4 hg4 ha4)
   go_ret
   refine ⟨cp,_,rfl,⟨_,_,_,_,HR2.out.1.putOut hf4 (T:=R.out) (by rw [Nat.zero_add] at ho4;exact ownsRow_base_a ho4 hB2),rfl⟩,fun q hq=>?_,(HR2.out.2.1.trans hf4).setCell (.inr HR.out.2.2.2.1) _⟩
   rcases mem_kb.1 hq with rfl | e | e | e | ⟨y,hy,e⟩
   ·exact HR.out.2.2.2.1
   ·exact HR.out.2.2.2.2.1 q e
   ·exact HR2.out.2.2.2 q e
   ·exact Nat.le_trans HR2.out.2.1.size (ho4.lt q e).1
   ·exact HR.out.2.2.2.2.2 y hy q e
theorem Tryz.infoPtrC:(Tryz.prog.info? 78).map (fun i=>(i.zero,i.size,i.bytes))=some (some (.pointer none),1,8):=by kernel_rfl
section
variable [Inhabited Bs] (hp p cp gp bT lp bD bN m n jp mp mr np:Nat) (c:ACo) (l:ALog) (d:ADisk) (cv:Value) (cs:List Value) (S S':List Nat) (R R':RCo) (w:World)
set_option maxRecDepth 100000 in
set_option maxHeartbeats 8000000 in
theorem jwrote_any (forced:Bool) (h:JIy w hp p cp gp bT lp bD bN m n c l d jp mp mr cv cs S R) (hr:RkN w np S' R') (ha:∀ q∈S',q∉rd cp w) (hn:R'.deals.length≤1048576) (hl:∀ x∈R'.deals,x.parts.length≤1000) (hrl:R'.res.length≤1048576) (hol:R'.out.length≤1048576) (hc:cs.length≤1048576) :
  Calls Tryz.prog 105 #[.pointer (some ⟨jp,0,none⟩),.pointer (some ⟨np,0,none⟩),.int .i64 0,.bool forced] w fun ev w'=>ev=.returned (.bool true)∧∃ cv' cs',cs'.length≤cs.length+1∧JIn w' hp p cp gp bT lp bD bN m n c l d jp np cv' cs' S' R'∧JFr w w':=by
 obtain ⟨i0,hin,hz0,hz1,hz2⟩:=info_parts Tryz.infoPtrC
 have k4:=blk_cell h.kb 5
 have k2:=blk_cell h.kb 2
 have f1:=blk_free h.kb 1
 have f2:=blk_free h.kb 2
 have k1:=blk_cell h.kb 1
 simp at k4 k2 k1
 obtain ⟨K1,L1⟩:=h.setM hr ha
 have HC:Hid (cs.length≤1048576):=hc
 clear hc
 obtain ⟨co,cc,ec⟩:=own_slice h.cands
 subst ec
 have hcpT:Hid (∀ W,W=(w.setCell ⟨jp,1,none⟩ (.pointer (some ⟨np,0,none⟩))).setCell ⟨jp,2,none⟩ (.slice none 0 0)→JIn W hp p cp gp bT lp bD bN m n c l d jp np (.slice none 0 0) [] S' R'∧JFr w W):=fun W e=>by
  obtain ⟨K2,L2⟩:=K1.setC (Fr.refl _ _) (cv':=.slice none 0 0) (cs':=[]) (World.ownsRow_nil _ _ _ _)
  rw [e]
  exact ⟨K2,L1.trans L2⟩
 have H1:=toHid (And.intro K1 L1)
 have hcp:∀ W cvX csX,JIn W hp p cp gp bT lp bD bN m n c l d jp np cvX csX S' R'→Calls Tryz.prog 41 #[.pointer (some ⟨np,0,none⟩)] W fun e w'=>∃ cq SQ,e=.returned (.pointer (some ⟨cq,0,none⟩))∧RkN w' cq SQ R'∧(∀ k∈SQ,W.heap.size≤k)∧Fr [] W w':=fun W _ _ hK=>kcopy_any np S' R' W hK.ref hn hl hrl hol
 clear K1 L1 h hr ha hn hl hrl hol
 cases forced
 ·go_enter Tryz.func105,Tryz.ntmps105
  go_wp2_with fail
  refine (hcp _ _ _ H1.out.1).mono ?_
  rintro ev W ⟨cq,SQ,rfl,hrc,hge,hfr⟩
  have HK3:Hid (∃ (co cc:_) (csX:List Value),csX.length≤cs.length∧JIn W hp p cp gp bT lp bD bN m n c l d jp np (.slice co csX.length cc) csX S' R'∧JFr w W):=⟨co,cc,cs,Nat.le_refl _,H1.out.1.new hfr,H1.out.2.trans (JFr.new hfr H1.out.1.size)⟩
  clear H1 hcp hcpT hge hrc hfr k1 k2 k4 f1 f2
  obtain ⟨co3,cc3,csX,hcx,K3,L3⟩:=HK3.out
  have k2:=blk_cell K3.kb 2
  have hkl:jp<W.heap.size:=(Array.getElem?_eq_some_iff.1 K3.kb).1
  simp at k2
  have hrow:=K3.cands
  have hBW:=K3.size
  obtain ⟨cn,hcn⟩:∃ cn,cn=csX.length:=⟨_,rfl⟩
  have hcn2:cn≤1048576:=by have:=HC.out;omega
  have hne:some jp≠(Value.slice co3 cn cc3).ownBlock:=by rw [hcn];exact fun e=>own_ne hrow K3.kb (by decide) e.symm
  have HX:Hid (csX.length=cn∧csX.length≤cs.length∧JIn W hp p cp gp bT lp bD bN m n c l d jp np (.slice co3 cn cc3) csX S' R'∧JFr w W):=⟨hcn.symm,hcx,by rw [hcn];exact K3,L3⟩
  rw [← hcn] at hrow k2
  clear K3 L3 hcx hcn HK3
  go_wp2_with (at_builtin;refine wpList_app rfl _ _ 80 rfl B0 78 i0 _ 1 8 Tryz.underlying80 hin hz0 hz1 hz2 rfl (by decide) _ cn csX rfl (hrow.alloc _) 1 [.pointer (some ⟨cq,0,none⟩)] (.inl ⟨⟨W.heap.size,0,none⟩,1,rfl,cells_new _ #[.pointer (some ⟨cq,0,none⟩)] _⟩) rfl (by intro u hu;simp at hu;subst hu;rfl) (by unfold maxLen;omega) (by omega) (Nat.le_trans hBW (by simp)) ?_;intro v5 w5 ho5 hg5 ha5;obtain ⟨o5,c5,rfl⟩:=own_slice ho5;have hb5:w5.heap[jp]?=some (judO hp np (.slice co3 cn cc3)):=(hg5.block jp (by simp;omega) hne).trans ((Below.heap_alloc W _ jp hkl).trans HX.out.2.2.1.kb);have t2:=blk_cell hb5 2;have tf:=blk_free hb5 2;have HR:=toHid (HX.out.2.2.1.setC (cs':=csX++[.pointer (some ⟨cq,0,none⟩)]) (((Fr.refl _ W).alloc _).trans (Fr.of_grown (r:=(Value.slice co3 cn cc3).ownBlock) hg5)) (by rw [List.length_append,HX.out.1];exact ho5));simp at t2;clear ho5 hg5 ha5 hb5)
  go_ret
  exact ⟨rfl,_,_,by rw [List.length_append];have:=HX.out.2.1;simp;omega,HR.out.1,HX.out.2.2.2.trans HR.out.2⟩
 ·go_enter Tryz.func105,Tryz.ntmps105
  go_wp2_with fail
  refine (hcp _ _ _ (hcpT.out _ rfl).1).mono ?_
  rintro ev W ⟨cq,SQ,rfl,hrc,hge,hfr⟩
  have HK3:Hid (∃ (co cc:_) (csX:List Value),csX.length≤cs.length∧JIn W hp p cp gp bT lp bD bN m n c l d jp np (.slice co csX.length cc) csX S' R'∧JFr w W):=⟨none,0,[],Nat.zero_le _,(hcpT.out _ rfl).1.new hfr,(hcpT.out _ rfl).2.trans (JFr.new hfr (hcpT.out _ rfl).1.size)⟩
  clear H1 hcp hcpT hge hrc hfr k1 k2 k4 f1 f2
  obtain ⟨co3,cc3,csX,hcx,K3,L3⟩:=HK3.out
  have k2:=blk_cell K3.kb 2
  have hkl:jp<W.heap.size:=(Array.getElem?_eq_some_iff.1 K3.kb).1
  simp at k2
  have hrow:=K3.cands
  have hBW:=K3.size
  obtain ⟨cn,hcn⟩:∃ cn,cn=csX.length:=⟨_,rfl⟩
  have hcn2:cn≤1048576:=by have:=HC.out;omega
  have hne:some jp≠(Value.slice co3 cn cc3).ownBlock:=by rw [hcn];exact fun e=>own_ne hrow K3.kb (by decide) e.symm
  have HX:Hid (csX.length=cn∧csX.length≤cs.length∧JIn W hp p cp gp bT lp bD bN m n c l d jp np (.slice co3 cn cc3) csX S' R'∧JFr w W):=⟨hcn.symm,hcx,by rw [hcn];exact K3,L3⟩
  rw [← hcn] at hrow k2
  clear K3 L3 hcx hcn HK3
  go_wp2_with (at_builtin;refine wpList_app rfl _ _ 80 rfl B0 78 i0 _ 1 8 Tryz.underlying80 hin hz0 hz1 hz2 rfl (by decide) _ cn csX rfl (hrow.alloc _) 1 [.pointer (some ⟨cq,0,none⟩)] (.inl ⟨⟨W.heap.size,0,none⟩,1,rfl,cells_new _ #[.pointer (some ⟨cq,0,none⟩)] _⟩) rfl (by intro u hu;simp at hu;subst hu;rfl) (by unfold maxLen;omega) (by omega) (Nat.le_trans hBW (by simp)) ?_;intro v5 w5 ho5 hg5 ha5;obtain ⟨o5,c5,rfl⟩:=own_slice ho5;have hb5:w5.heap[jp]?=some (judO hp np (.slice co3 cn cc3)):=(hg5.block jp (by simp;omega) hne).trans ((Below.heap_alloc W _ jp hkl).trans HX.out.2.2.1.kb);have t2:=blk_cell hb5 2;have tf:=blk_free hb5 2;have HR:=toHid (HX.out.2.2.1.setC (cs':=csX++[.pointer (some ⟨cq,0,none⟩)]) (((Fr.refl _ W).alloc _).trans (Fr.of_grown (r:=(Value.slice co3 cn cc3).ownBlock) hg5)) (by rw [List.length_append,HX.out.1];exact ho5));simp at t2;clear ho5 hg5 ha5 hb5)
  go_ret
  exact ⟨rfl,_,_,by rw [List.length_append];have:=HX.out.2.1;simp;omega,HR.out.1,HX.out.2.2.2.trans HR.out.2⟩
end
abbrev jstepV (kd:Int) (txn:Nat) (sq nn:Int) (key s:ByteArray) (ao:Option Addr) (x y:Nat) (f1 f2 f3 f4:Int):Value:=.agg #[.int .i64 kd,.int .u64 (txn:Int),.int .i64 sq,.int .i64 nn,.string key,.string s,.slice ao x y,.int .i64 f1,.int .i64 f2,.int .i64 f3,.int .i64 f4]
abbrev jstepO (kd:Int) (txn:Nat) (sq nn:Int) (key s:ByteArray) (ao:Option Addr) (x y:Nat) (f1 f2 f3 f4:Int):Obj:=.cells #[.int .i64 kd,.int .u64 (txn:Int),.int .i64 sq,.int .i64 nn,.string key,.string s,.slice ao x y,.int .i64 f1,.int .i64 f2,.int .i64 f3,.int .i64 f4] 64
def JBd [Inhabited Bs] (m n k txn:Nat) (cs:List Value):Prop:=m≤50000000∧n≤1000000∧k≤10000∧cs.length≤100001∧2≤(B0:Nat)∧txn<18446744073709551616
structure JSt [Inhabited Bs] (w w':World) (hp p cp gp bT lp bD bN m n jp k fst:Nat) (cs:List Value):Prop where
 jin:∃ m' n' c' l' d' g' mp' cv' cs' S' R',m'≤m+3000∧n'≤n+3∧cs'.length≤cs.length+1∧JIn w' hp p cp gp bT lp bD bN m' n' c' l' d' jp mp' cv' cs' S' R'∧Mu l' d' fst g'∧d'.down=false∧Jd (k+1) c' R'
 fr:JFr w w'
theorem RkN.setNext [Inhabited Bs] {w:World} {rp:Nat} {S:List Nat} {R:RCo} (h:RkN w rp S R):RkN (w.setCell ⟨rp,1,none⟩ (.int .u64 (R.next:Int))) rp S R∧KFr S S w (w.setCell ⟨rp,1,none⟩ (.int .u64 (R.next:Int))):=by
 obtain ⟨xv,rv,ov,ps,h,rfl⟩:=h
 refine ⟨⟨xv,rv,ov,ps,{ base:=h.base,blk:=?_,dls:=ownsRow_set h.dls h.blk (by decide),prt:=fun p hp=>ownsRow_set (h.prt p hp) h.blk (by decide),apart:=h.apart,res:=ownsRow_set h.res h.blk (by decide),out:=ownsRow_set h.out h.blk (by decide),rs:=h.rs },rfl⟩,⟨Fr.set1 (mem_kb.2 (.inl rfl)) _ _,fun _ hk _=>hk⟩⟩
 have:=blk_set h.blk 1 (.int .u64 (R.next:Int))
 simpa using this
section
variable [Inhabited Bs] {w w':World} {hp p cp gp bT lp bD bN m n jp mp mr np:Nat} {c:ACo} {l:ALog} {d:ADisk} {cv:Value} {cs:List Value} {S S2 S3:List Nat} {R R2:RCo}
theorem JIy.fresh (h:JIy w hp p cp gp bT lp bD bN m n c l d jp mp mr cv cs S R) (hf:Fr [] w w') (hnew:∀ q∈S2,w.heap.size≤q):∀ q∈S2,q∉rd cp w'∧q∉S:=fun q hq=>⟨fun hm=>by
 have h9:=hnew q hq
 rw [(h.host.law hf (by simp)).2.2] at hm
 have:=h.rdl hm
 omega,fun hm=>by
 have h9:=hnew q hq
 have:=(h.ref.kinds hm).2.1
 omega⟩
theorem JIy.aside (h:JIy w hp p cp gp bT lp bD bN m n c l d jp mp mr cv cs S R) (hr:RkN w np S2 R2) (ha:∀ q∈S2,q∉rd cp w∧q∉S) (hk:KFr S2 S3 w w'):JIy w' hp p cp gp bT lp bD bN m n c l d jp mp mr cv cs S R:=by
 have hlaw:=h.host.law hk.fr (fun z hz _=>hr.lw h.host (fun u hu=>(ha u hu).1) hz)
 refine ⟨hlaw.1,h.low,(hk.fr.block jp (Array.getElem?_eq_some_iff.1 h.kb).1 (h.jpn hr)).trans h.kb,h.ref.frT hk.fr (fun q hq hm=>(ha q hm).2 hq),ownsRow_fr h.cands hk.fr (fun q hq hm=>?_),fun q hq hm=>h.apart q hq (by rw [hlaw.2.2] at hm;exact hm)⟩
 obtain ⟨_,_,cc,t,e,ht⟩:=hr.kinds hm
 obtain ⟨c2,e2⟩:=own_cells h.cands hq
 rw [e2] at e
 rcases ht with rfl | rfl | rfl | rfl | rfl <;> exact jcne (by decide) e
end
section
variable [Inhabited Bs] (hp p cp gp bT lp bD bN m n jp mp k fst:Nat) (c:ACo) (l:ALog) (d:ADisk) (cv:Value) (cs:List Value) (S:List Nat) (R:RCo) (g:List (List Rec)) (w:World)
set_option maxRecDepth 100000 in
set_option maxHeartbeats 8000000 in
theorem jbegin_any (kd sq nn:Int) (txn x y:Nat) (key sv:ByteArray) (ao:Option Addr) (h:JIn w hp p cp gp bT lp bD bN m n c l d jp mp cv cs S R) (hmu:Mu l d fst g) (hdn:d.down=false) (hg:Jd k c R) (hbd:JBd m n k txn cs) (hmet:Met w) (hpow:Pows w) :
  Calls Tryz.prog 94 #[.pointer (some ⟨jp,0,none⟩),jstepV kd txn sq nn key sv ao x y (-1) (-1) 0 0] w fun e w'=>e=.returned (.bool true)∧JSt w w' hp p cp gp bT lp bD bN m n jp k fst cs:=by
 obtain ⟨hm,hn,hk,hcs,hB,ht⟩:=hbd
 obtain ⟨W,hW⟩:∃ W,W=w.alloc (jstepO kd txn sq nn key sv ao x y (-1) (-1) 0 0):=⟨_,rfl⟩
 have hf0:Fr [] w W:=by rw [hW];exact (Fr.refl [] w).alloc _
 have hs0:W.heap[w.heap.size]?=some (jstepO kd txn sq nn key sv ao x y (-1) (-1) 0 0):=by rw [hW];exact heap_alloc_new w _
 have HJ:=toHid (h.new hf0)
 have HLF:=toHid (JFr.new hf0 h.size)
 have HSB:=toHid hs0
 have k0:=blk_cell HJ.out.kb 0
 simp at k0
 have hlen:=hg.rel.len
 have HD:=toHid (show ∀ x∈R.deals,x.parts.length≤1000 from fun x hx=>by have:=hg.rel.parts x hx;omega)
 have HG:=toHid hg
 have hres:=hg.res
 have hout:=hg.out
 have hnx:=hg.nxt
 have HMP:=toHid (And.intro hmet (And.intro hpow (And.intro hmu hdn)))
 obtain ⟨bx,hbx⟩:∃ bx,bx=w.heap.size:=⟨_,rfl⟩
 rw [← hbx] at HSB hs0
 have z7:=blk_cell hs0 7
 have z8:=blk_cell hs0 8
 have z9:=blk_cell hs0 9
 have z10:=blk_cell hs0 10
 simp at z7 z8 z9 z10
 clear h hg hs0 hf0 hmet hpow hmu hdn
 by_cases h12:R.deals.length=12
 ·have hop:∀ w',Fr [] W w'→Calls Tryz.prog 161 #[.pointer (some ⟨hp,0,none⟩),jwellV] w' fun e w3=>e=.returned (.tuple #[.int .u64 0,.int .i64 5])∧∃ m' n' c' l' d' g',m'≤m+20∧n'≤n+3∧JIn w3 hp p cp gp bT lp bD bN m' n' c' l' d' jp mp cv cs S R∧Mu l' d' fst g'∧d'.down=false∧Jd (k+1) c' (R)∧JFr w w3∧w3.heap[bx]?=some (jstepO kd txn sq nn key sv ao x y (-1) (-1) 0 0):=fun w' hw'=>by
   have J:=HJ.out.new hw'
   have L:=JFr.new hw' HJ.out.size
   have HF1:=HLF.out.trans L
   refine (jBegin_many hp p cp gp bT lp bD bN m n jp mp k fst c l d cv cs S R g w' J HMP.out.2.2.1 HMP.out.2.2.2 HG.out h12 hB (HF1.met hB HMP.out.1)).mono ?_
   rintro e w3 ⟨rfl,hWr⟩
   obtain ⟨m',n',c',l',d',g',e1,e2,e3,e4,e5,e6⟩:=hWr.jin
   exact ⟨rfl,m',n',c',l',d',g',e1,e2,e3,e4,e5,e6,HF1.trans hWr.fr,hWr.fr.step _ _ (L.step _ _ HSB.out)⟩
  rw [hW] at k0 z7 z8 z9 z10
  have HHOP:=toHid hop
  clear hop
  go_enter Tryz.func94,Tryz.ntmps94
  rw [hbx] at z7 z8 z9 z10
  go_wp2
  rw [← hW]
  rw [← hW] at k0 z7 z8 z9 z10
  rw [← hbx] at z7 z8 z9 z10 ⊢
  have hop:=HHOP.out
  clear hW hbx HHOP
  go_region_held3 (fun w'=>w'.cell? ⟨jp,0,none⟩=some (.pointer (some ⟨hp,0,none⟩))∧w'.cell? ⟨bx,7,none⟩=some (.int .i64 (-1))∧w'.cell? ⟨bx,8,none⟩=some (.int .i64 (-1))∧w'.cell? ⟨bx,9,none⟩=some (.int .i64 0)∧w'.cell? ⟨bx,10,none⟩=some (.int .i64 0)) (simp [*])
   (first | (go_at_call 161;refine (hop _ (by first | exact (Fr.refl [] W).drew | exact Fr.refl [] W)).mono ?_;rintro e W1 ⟨rfl,m',n',c',l',d',g',h1,h2,h3,h4,h5,h6,h7,h8⟩;have aj0:=blk_cell h3.kb 0;have ab7:=blk_cell h8 7;have ab8:=blk_cell h8 8;have ab9:=blk_cell h8 9;have ab10:=blk_cell h8 10;simp at aj0 ab7 ab8 ab9 ab10;have H3:=toHid (And.intro h1 (And.intro h2 (And.intro h4 (And.intro h5 h6))));have HJ3:=toHid h3;have HL3:=toHid h7;have HS3:=toHid h8;clear h1 h2 h3 h4 h5 h6 h7 h8 hop))
  clear k0 z7 z8 z9 z10
  have k1:=blk_cell HJ3.out.kb 1
  simp at k1
  have hcp:=kcopy_any mp S R W1 HJ3.out.ref (by omega) HD.out (by omega) (by omega)
  go_wp2_with fail
  refine hcp.mono ?_
  clear hcp
  rintro e W2 ⟨np,S2,rfl,hr2,hnew,hf2⟩
  have hbm:=kbegin_many np S2 R W2 hr2 h12
  have H2:=toHid (And.intro (HJ3.out.new hf2) (HL3.out.trans (JFr.new hf2 HJ3.out.size)))
  clear hr2 hnew hf2 k1
  go_wp2_with fail
  refine hbm.mono ?_
  clear hbm
  rintro e W3 ⟨rfl,q,rfl⟩
  have HF:=toHid (show JSt w (W2.drewN q) hp p cp gp bT lp bD bN m n jp k fst cs from ⟨⟨m',n',c',l',d',g',mp,cv,cs,S,R,by have:=H3.out.1;omega,H3.out.2.1,by omega,H2.out.1.new ((Fr.refl [] W2).drewM q),H3.out.2.2.1,H3.out.2.2.2.1,H3.out.2.2.2.2⟩,H2.out.2.trans (JFr.new ((Fr.refl [] W2).drewM q) H2.out.1.size)⟩)
  go_wp2
  go_ret
  exact ⟨rfl,HF.out⟩
 ·have hl12:R.deals.length<12:=by omega
  have hop:∀ w',Fr [] W w'→Calls Tryz.prog 161 #[.pointer (some ⟨hp,0,none⟩),jwellV] w' fun e w3=>e=.returned (.tuple #[.int .u64 (R.next:Int),.int .i64 0])∧∃ m' n' c' l' d' g',m'≤m+20∧n'≤n+3∧JIn w3 hp p cp gp bT lp bD bN m' n' c' l' d' jp mp cv cs S R∧Mu l' d' fst g'∧d'.down=false∧Jd (k+1) c' ({ R with deals:=R.deals++[⟨R.next,4,0,[]⟩],next:=R.next+1 })∧JFr w w3∧w3.heap[bx]?=some (jstepO kd txn sq nn key sv ao x y (-1) (-1) 0 0):=fun w' hw'=>by
   have J:=HJ.out.new hw'
   have L:=JFr.new hw' HJ.out.size
   have HF1:=HLF.out.trans L
   refine (jBegin hp p cp gp bT lp bD bN m n jp mp k fst c l d cv cs S R g w' J HMP.out.2.2.1 HMP.out.2.2.2 HG.out hl12 (by omega) (by omega) (by omega) hB (HF1.met hB HMP.out.1) (HF1.pows hB HMP.out.2.1)).mono ?_
   rintro e w3 ⟨rfl,hWr⟩
   obtain ⟨m',n',c',l',d',g',e1,e2,e3,e4,e5,e6⟩:=hWr.jin
   exact ⟨rfl,m',n',c',l',d',g',e1,e2,e3,e4,e5,e6,HF1.trans hWr.fr,hWr.fr.step _ _ (L.step _ _ HSB.out)⟩
  rw [hW] at k0 z7 z8 z9 z10
  have HHOP:=toHid hop
  clear hop
  go_enter Tryz.func94,Tryz.ntmps94
  rw [hbx] at z7 z8 z9 z10
  go_wp2
  rw [← hW]
  rw [← hW] at k0 z7 z8 z9 z10
  rw [← hbx] at z7 z8 z9 z10 ⊢
  have hop:=HHOP.out
  clear hW hbx HHOP
  go_region_held3 (fun w'=>w'.cell? ⟨jp,0,none⟩=some (.pointer (some ⟨hp,0,none⟩))∧w'.cell? ⟨bx,7,none⟩=some (.int .i64 (-1))∧w'.cell? ⟨bx,8,none⟩=some (.int .i64 (-1))∧w'.cell? ⟨bx,9,none⟩=some (.int .i64 0)∧w'.cell? ⟨bx,10,none⟩=some (.int .i64 0)) (simp [*])
   (first | (go_at_call 161;refine (hop _ (by first | exact (Fr.refl [] W).drew | exact Fr.refl [] W)).mono ?_;rintro e W1 ⟨rfl,m',n',c',l',d',g',h1,h2,h3,h4,h5,h6,h7,h8⟩;have aj0:=blk_cell h3.kb 0;have ab7:=blk_cell h8 7;have ab8:=blk_cell h8 8;have ab9:=blk_cell h8 9;have ab10:=blk_cell h8 10;simp at aj0 ab7 ab8 ab9 ab10;have H3:=toHid (And.intro h1 (And.intro h2 (And.intro h4 (And.intro h5 h6))));have HJ3:=toHid h3;have HL3:=toHid h7;have HS3:=toHid h8;clear h1 h2 h3 h4 h5 h6 h7 h8 hop))
  clear k0 z7 z8 z9 z10
  have k1:=blk_cell HJ3.out.kb 1
  simp at k1
  have hcp:=kcopy_any mp S R W1 HJ3.out.ref (by omega) HD.out (by omega) (by omega)
  go_wp2_with fail
  refine hcp.mono ?_
  clear hcp
  rintro e W2 ⟨np,S2,rfl,hr2,hnew,hf2⟩
  have hbm:=kbegin_any np S2 R W2 hr2 hl12 (by omega)
  have H2:=toHid (And.intro (HJ3.out.new hf2) (And.intro (HL3.out.trans (JFr.new hf2 HJ3.out.size)) (And.intro hr2 (HJ3.out.fresh hf2 hnew))))
  clear hr2 hnew hf2 k1
  go_wp2_with fail
  refine hbm.mono ?_
  clear hbm
  rintro e W3 ⟨rfl,S3,hr3,hk3⟩
  have J3:=H2.out.1.aside H2.out.2.2.1 H2.out.2.2.2 hk3
  have L3:=H2.out.2.1.trans (hk3.lfr H2.out.2.2.1)
  have k33:=blk_cell J3.kb 3
  have k31:=blk_cell J3.kb 1
  simp at k33 k31
  have hcp:=kcopy_any mp S R W3 J3.ref (by omega) HD.out (by omega) (by omega)
  have H3':=toHid (And.intro J3 L3)
  clear J3 L3 hr3 hk3
  have i0:¬ (R.next:Int)<(R.next:Int):=by omega
  have di0:decide ((R.next:Int)<(R.next:Int))=false:=decide_eq_false i0
  go_wp2_with fail
  refine hcp.mono ?_
  clear hcp k33 k31
  rintro e W4 ⟨np2,S4,rfl,hr4,hnew4,hf4⟩
  have J4:=H3'.out.1.new hf4
  have hfr4:=H3'.out.1.fresh hf4 hnew4
  obtain ⟨_,xv4,rv4,ov4,hb4⟩:=hr4.root
  have n1:=blk_cell hb4 1
  have nf:=blk_free hb4 1
  simp at n1
  obtain ⟨hr5,hk5⟩:=hr4.setNext
  obtain ⟨W5,hW5⟩:∃ W5,W5=W4.setCell ⟨np2,1,none⟩ (.int .u64 (R.next:Int)):=⟨_,rfl⟩
  rw [← hW5] at hr5 hk5
  have hbg5:=kbegin_any np2 S4 R W5 hr5 hl12 (by omega)
  have J5:=(J4.swap hr4 (fun q hq=>(hfr4 q hq).1)).kfr hk5 hr5
  have H5:=toHid (And.intro J5 ((H3'.out.2.trans (JFr.new hf4 H3'.out.1.size)).trans (hk5.lfr hr4)))
  clear J4 hfr4 hb4 hr4 hnew4 hf4 hk5 hr5 J5
  go_wp2_with fail
  rw [← hW5]
  refine hbg5.mono ?_
  clear hbg5 hW5 n1 nf
  rintro e W6 ⟨rfl,S6,hr6,hk6⟩
  have J6:=H5.out.1.kfr hk6 hr6
  have L6:=H5.out.2.trans (hk6.lfr H5.out.1.ref)
  obtain ⟨J7,L7⟩:=J6.setM hr6 J6.apart
  obtain ⟨J8,L8⟩:=J7.setS (i:=3) (u:=.int .u64 0) (.inl ⟨rfl,rfl⟩)
  have b1:=blk_cell J6.kb 1
  have bf1:=blk_free J6.kb 1
  have b3:=blk_cell J6.kb 3
  have bf3:=blk_free J6.kb 3
  simp at b1 b3
  have HF:=toHid (show JSt w ((W6.setCell ⟨jp,1,none⟩ (.pointer (some ⟨np2,0,none⟩))).setCell ⟨jp,3,none⟩ (.int .u64 0)) hp p cp gp bT lp bD bN m n jp k fst cs from ⟨⟨m',n',c',l',d',g',np2,cv,cs,S6,_,by have:=H3.out.1;omega,H3.out.2.1,by omega,J8,H3.out.2.2.1,H3.out.2.2.2.1,H3.out.2.2.2.2⟩,(L6.trans L7).trans L8⟩)
  clear J6 L6 J7 L7 J8 L8 hr6 hk6
  go_wp2
  go_ret
  exact ⟨rfl,HF.out⟩
end
def ZsIn [Inhabited Bs] (w:World) (ao:Option Addr) (zs:List Int):Prop:=∀ (k:Nat) (z:Int),zs[k]?=some z→InI z∧∃ g off,ao=some ⟨g,off,none⟩∧g<B0∧w.cell? ⟨g,off+k,none⟩=some (.int .i64 z)
theorem ZsIn.below [Inhabited Bs] {w w':World} {ao:Option Addr} {zs:List Int} (h:ZsIn w ao zs) (hb:Below B0 w w'):ZsIn w' ao zs:=fun k z hz=>by
 obtain ⟨h1,g,off,e,hg,hc⟩:=h k z hz
 exact ⟨h1,g,off,e,hg,(World.cell?_of_block (a:=⟨g,off+k,none⟩) (hb.block g hg)).trans hc⟩
set_option maxRecDepth 100000 in
set_option maxHeartbeats 1000000 in
theorem kcommit_no [Inhabited Bs] (rp t:Nat) (ao:Option Addr) (cap:Nat) (zs:List Int) (xv rv ov:Value) (ps:List (RDeal × Value)) (R:RCo) (w:World) (h:RkIn w rp xv rv ov ps R) (hn:R.deals.length≤1048576) (hlen:zs.length≤1048576) (hz:ZsIn w ao zs) (hE:R.commitE t zs≠0) :
  Calls Tryz.prog 97 #[.pointer (some ⟨rp,0,none⟩),.int .u64 (t:Int),.slice ao zs.length cap] w fun e w'=>e=.returned (.int .i64 (R.commitE t zs:Int))∧∃ q,w'=w.drewN q:=by
 have hps:=h.len
 have hf:=kfind_any rp t xv rv ov ps R w h (by omega)
 have c0:=blk_cell h.blk 0
 simp at c0
 obtain ⟨ax,c,hxv,H⟩:=h.slice
 rw [hxv] at c0
 cases hix:dealIx R.deals t with
 | none =>
  have hat:=dealIx_none hix
  rw [hix] at hf
  have e1:ixI none=-1:=rfl
  rw [e1] at hf
  have eE:R.commitE t zs=7:=by unfold RCo.commitE;rw [hat]
  rw [eE]
  clear h H hix hat e1 eE hxv hps hE hz
  go_enter Tryz.func97,Tryz.ntmps97
  go_wp2_with fail
  refine hf.mono ?_
  clear hf
  rintro e w1 ⟨rfl,q,rfl⟩
  go_wp2
  go_ret
  exact ⟨rfl,_,rfl⟩
 | some i =>
  obtain ⟨x,hx,hid,hat⟩:=dealIx_some hix
  obtain ⟨v,hv⟩:=h.at hx
  obtain ⟨g,rfl,x0,x1,x2,x3,x4⟩:=H i _ hv
  have hil:=(List.getElem?_eq_some_iff.1 hv).1
  rw [hix] at hf
  have e1:ixI (some i)=(i:Int):=rfl
  rw [e1] at hf
  have i0:¬ (i:Int)<0:=by omega
  have i1:(0:Int)≤(i:Int):=by omega
  have i2:(i:Int)<(ps.length:Int):=by omega
  obtain ⟨st,hst⟩:∃ st,st=x.st:=⟨_,rfl⟩
  simp only at x1
  rw [← hst] at x1
  have eE:R.commitE t zs=if st=4 then (if riseB 0 zs then 0 else 6) else 4:=by unfold RCo.commitE;rw [hat,hst]
  by_cases h4:st=4
  ·rw [if_pos h4] at eE
   have hrb:riseB 0 zs=false:=by
    cases hb:riseB 0 zs with
    | false=>rfl
    | true=>rw [hb] at eE;exact absurd eE hE
   rw [hrb] at eE
   rw [eE]
   subst h4
   have HZ:=toHid hz
   have HRB:=toHid hrb
   obtain ⟨m,hm⟩:∃ m,m=zs.length:=⟨_,rfl⟩
   rw [← hm] at hlen ⊢
   have HM:Hid (zs.length=m):=hm.symm
   clear h H hix hat hx hid hv e1 hst eE hxv hps hE hz hm hrb
   by_cases h0:m=0
   ·subst h0
    go_enter Tryz.func97,Tryz.ntmps97
    go_wp2_with fail
    refine hf.mono ?_
    clear hf
    rintro e w1 ⟨rfl,q,rfl⟩
    go_wp2
    go_ret
    exact ⟨rfl,_,rfl⟩
   ·have m0:¬ (m:Int)=0:=by omega
    have bm0:((m:Int) == 0)=false:=beq_eq_false_iff_ne.2 m0
    go_enter Tryz.func97,Tryz.ntmps97
    go_wp2_with fail
    refine hf.mono ?_
    clear hf
    rintro e w1 ⟨rfl,q,rfl⟩
    go_wp2
    go_loopw [8] (fun j wr=>∃ k:Nat,k≤m∧j=.int .i64 k∧Hid (riseTo zs k)∧∃ q,wr=w.drewN q) (fun j _=>m - (intOf j).toNat)
    case atStart=>exact ⟨0,Nat.zero_le _,rfl,riseTo_zero zs,_,rfl⟩
    case round =>
     obtain ⟨k,hk,rfl,HR,q,rfl⟩:=hrel
     by_cases hlt:k<m
     ·obtain ⟨z,hz⟩:∃ z,zs[k]?=some z:=⟨_,List.getElem?_eq_getElem (by rw [HM.out];exact hlt)⟩
      obtain ⟨hzi,gz,off,rfl,hgB,y0⟩:=HZ.out k z hz
      have k0:(0:Int)≤(k:Int):=by omega
      have k1:(k:Int)<(m:Int):=by omega
      have HZK:=toHid hz
      by_cases h1:z<1
      ·clear hz
       have d1:decide (z<1)=true:=decide_eq_true h1
       go_wp2
       go_quiet (fail)
       go_wp2
       go_ret
       exact ⟨rfl,_,rfl⟩
      have d1:decide (z<1)=false:=decide_eq_false h1
      by_cases h8:8<z
      ·clear hz
       have d8:decide (8<z)=true:=decide_eq_true h8
       go_wp2
       go_quiet (fail)
       go_wp2
       go_ret
       exact ⟨rfl,_,rfl⟩
      have d8:decide (8<z)=false:=decide_eq_false h8
      by_cases hk0:k=0
      ·subst hk0
       rw [Nat.add_zero] at y0
       have HR2:=toHid (riseTo_next HR.out hz (by omega) (by omega) (fun y hy=>by omega))
       clear hz
       go_wp2
       go_quiet (fail)
       go_wp2
       go_roundw
       case rel=>exact ⟨1,by omega,by go_num,HR2,_,rfl⟩
       case measure=>simp [intOf];omega
      ·obtain ⟨j,rfl⟩:∃ j,k=j+1:=⟨k - 1,by omega⟩
       obtain ⟨y,hy⟩:∃ y,zs[j]?=some y:=⟨_,List.getElem?_eq_getElem (by rw [HM.out];omega)⟩
       obtain ⟨hyi,gy,offy,ey,_,y1⟩:=HZ.out j y hy
       simp only [Option.some.injEq,Addr.mk.injEq,and_true] at ey
       obtain ⟨rfl,rfl⟩:=ey
       have kp:(0:Int)<((j+1:Nat):Int):=by omega
       have ks:(((j+1:Nat):Int) - 1)=(j:Int):=by omega
       have kw:IntKind.i64.wrap (j:Int)=(j:Int):=by rw [IntKind.wrap_i64];omega
       have dk:decide ((0:Int)<(j:Int)+1)=true:=decide_eq_true (by omega)
       have j0:(0:Int)≤(j:Int):=by omega
       have j1:(j:Int)<(m:Int):=by omega
       by_cases hzy:z≤y
       ·have dz:decide (z≤y)=true:=decide_eq_true hzy
        clear hz hy
        go_wp2
        go_quiet (fail)
        go_wp2
        go_ret
        exact ⟨rfl,_,rfl⟩
       ·have HR2:=toHid (riseTo_next HR.out hz (by omega) (by omega) (fun u _ hu=>by rw [show j+1 - 1=j by omega,hy] at hu;cases hu;omega))
        have dz:decide (z≤y)=false:=decide_eq_false hzy
        clear hz hy
        go_wp2
        go_quiet (fail)
        go_wp2
        go_roundw
        case rel=>exact ⟨j+1+1,by omega,by go_num,HR2,_,rfl⟩
        case measure=>simp [intOf];omega
     ·have hkm:k=m:=by omega
      exact absurd (rise_all (HM.out.trans hkm.symm) HR.out (by omega)) (by rw [HRB.out];simp)
  ·have n4:¬ (st:Int)=4:=by omega
   have b4:((st:Int) == 4)=false:=beq_eq_false_iff_ne.2 n4
   have bn4:((st:Int) != 4)=true:=by unfold bne;rw [b4];rfl
   rw [if_neg h4] at eE
   rw [eE]
   clear h H hix hat hx hid hv e1 hst eE hxv hps hE hz
   go_enter Tryz.func97,Tryz.ntmps97
   go_wp2_with fail
   refine hf.mono ?_
   clear hf
   rintro e w1 ⟨rfl,q,rfl⟩
   go_wp2
   go_ret
   exact ⟨rfl,_,rfl⟩
end Go.Proofs.YtejiankgafjppaaGreatDoor
