import Derived.Test.YtcalalndmcemiaaGreatDoorC03
set_option maxRecDepth 100000
set_option maxHeartbeats 16000000
namespace Go.Proofs.YtcalalndmcemiaaGreatDoor
open Go.RowKit
theorem jYf (B p bD bN n nD nN:Nat) (pv:Value) (d:ADisk) (nm to da:ByteArray) (w:World) (h:DiskIn w B p bD bN pv d n nD nN) (hn:n<67108864) (ho:AOp.Ok ⟨4,nm,to,da⟩ 4096) (hne:4=4→(nm.toList == to.toList)=false∧nm≠to) :
  Calls Tryz.prog 389 #[.pointer (some ⟨p,0,none⟩),opV ⟨4,nm,to,da⟩] w (jB0 d ⟨4,nm,to,da⟩ B p bD bN n nD pv w):=by
 have hpl:=(Array.getElem?_eq_some_iff.1 h.blk).1
 have HI:Hid (DiskIn w B p bD bN pv d n nD nN):=h
 have HE:Hid (¬ (4=4∧nm=to)):=λh=>(hne h.1).2 h.2
 have HT:Hid (4=4→(nm.toList == to.toList)=false):=λh=>(hne h).1
 clear h hne
 have HO:Hid (AOp.Ok ⟨4,nm,to,da⟩ 4096):=ho
 clear ho
 go_enter Tryz.func389,Tryz.ntmps389
 go_wp2_with fail
 refine (jDd B p bD bN n nD nN pv d _ (HI.out.new ((Fr.refl [] w).alloc _))).mono ?_
 rintro e w1 ⟨rfl,hi1,hf1⟩
 have HI1:Hid (DiskIn w1 B p bD bN pv d.writes.1 n nD nN):=hi1
 have hbx:w1.heap[w.heap.size]?=some (opO ⟨4,nm,to,da⟩):=(hf1.block w.heap.size sE (by simp;omega)).trans (heap_alloc_new _ _)
 have HF1:Hid (Fr (dS p bD bN pv) w w1):=(((Fr.refl _ w).alloc _).mono (λk _ hk=>hk)).trans (hf1.mono (T:=dS p bD bN pv) (by intro k _ hk;simp at hk;subst hk;simp))
 have hz1:w.heap.size<w1.heap.size:=(Array.getElem?_eq_some_iff.1 hbx).1
 have HB:Hid (w1.heap[w.heap.size]?=some (opO ⟨4,nm,to,da⟩)):=hbx
 have b0:=jA0 hbx 0
 have b1:=jA0 hbx 1
 have b2:=jA0 hbx 2
 have b3:=jA0 hbx 3
 have p2:=jA0 hi1.blk 2
 have g2:=jA2 hi1.blk 2
 simp at b0 b1 b2 b3 p2
 clear hi1 hf1 hbx
 have e1:=Tryz.eqDD
 have e2:=Tryz.eqFD
 have hfa:∀ ob,(w1.alloc ob).frozen? ⟨p,2,none⟩=false:=λob=>(World.frozen?_of_block (a:=⟨p,2,none⟩) (Below.heap_alloc w1 ob p oE)).trans g2
 have hpa:∀ ob,(w1.alloc ob).cell? ⟨p,2,none⟩=some pv:=λob=>(World.cell?_of_block (a:=⟨p,2,none⟩) (Below.heap_alloc w1 ob p oE)).trans p2
 have HLE:Hid (d.writes.1.now.Le 549755813888):=λk t ht=>by have h1:=HI1.out.leN k t ht;have h2:=HI1.out.hN;have h3:=HI1.out.hn;omega
 rcases jC1 d with hw | hw | hw
 ·rw [hw,jAc dN]
  go_wp2
  go_region_law (first | (rw [if_pos (by rfl)];refine jCg _ _ rfl B pv d.writes.1.pending.length d.writes.1.pending ⟨4,nm,to,da⟩ w1.heap.size rfl ?_ rfl ?_ ?_ ?_ ?_;(exact HI1.out.pen.alloc _);(exact heap_alloc_new w1 (opO ⟨4,nm,to,da⟩));(have h8:nD+d.writes.1.pending.length≤n:=HI1.out.hD;have:=HI1.out.hn;omega);(have:=HI1.out.base.2.2.2;simp;omega);intro v4 w4 ho4 hg4 hl4;obtain ⟨g4,cap4,rfl⟩:=jBy ho4;have HL4:Hid (Near w.heap.size pv (.slice (some ⟨g4,0,none⟩) (d.writes.1.pending.length+1) cap4)):=Near.of_at hl4 (by simp;omega);clear hl4;obtain ⟨p2',g2',b0',b1',b2',b3'⟩:=jHe HI1.out HB.out hg4 (λe=>by have h9:=(HI.out.pen.lt _ e).2;omega)))
  all_goals go_wp2
  all_goals go_ret
  all_goals unfold jB0
  all_goals rw [jEw hw]
  all_goals obtain ⟨q1,q2⟩:=HI1.out.pend hn HO.out (jAa (jAg (jAo w1 _ _)) hg4) ho4 rfl
  all_goals exact ⟨rfl,⟨_,nN,q1,HL4.out⟩,HF1.out.trans (q2.mono (by intro k _ hk;rcases List.mem_cons.1 hk with rfl | hk;simp;simp at hk;simp [hk]))⟩
 ·rw [hw,jAc dN]
  go_wp2
  go_ret
  unfold jB0
  rw [jEx hw]
  exact ⟨rfl,⟨pv,nN,HI1.out.more hn,Near.refl _ _⟩,HF1.out⟩
 ·rw [hw,jAt]
  have p1:=jA0 HI1.out.blk 1
  simp at p1
  rcases FileMap.look (w:=w1.drew) HI1.out.now nm HO.out.name with ⟨hN,hl⟩ | ⟨t,q,hN,hq,hl⟩
  ·have HN:Hid (d.writes.1.now nm=none):=hN
   clear hN
   go_wp2
   go_region
   go_wp2
   go_ret
   unfold jB0
   rw [jJg hw ⟨HN.out,by simp⟩]
   exact ⟨rfl,⟨pv,nN,(HI1.out.new (Fr.refl [] w1).drew).more hn,Near.refl _ _⟩,HF1.out.drew⟩
  ·have HN:Hid (d.writes.1.now nm=some t):=hN
   clear hN hq
   go_wp2
   go_region
   have hnt:=HT.out trivial
   go_wp2
   go_region_with (first | (go_at_call 100;refine (jGq bN nN 4096 d.writes.1.now ⟨4,nm,to,da⟩ _ (HI1.out.now.new (Fr.refl [] w1).drew.drew) (by have:=HI1.out.hN;have:=HI1.out.hn;unfold maxLen;omega) HO.out (by omega) HLE.out).mono ?_;rintro e w2 ⟨rfl,hF2,hg2⟩))
   all_goals have hg3:w1.grownBy w2 (some bN):=jAa (jAg (jAg (jAx w1 _))) hg2
   all_goals obtain ⟨hi2,hb2,hf2⟩:=HI1.out.done HB.out hF2 hg3 hn HO.out
   all_goals have HI2:Hid (DiskIn w2 B p bD bN pv { d.writes.1 with now:=doOp d.writes.1.now ⟨4,nm,to,da⟩ } (n+1) nD (nN+1)):=hi2
   all_goals have HB2:Hid (w2.heap[w.heap.size]?=some (opO ⟨4,nm,to,da⟩)):=hb2
   all_goals have HF2:Hid (Fr (dS p bD bN pv) w w2):=HF1.out.trans (hf2.mono (by intro k _ hk;simp at hk;subst hk;simp))
   all_goals have hz2:w1.heap.size≤w2.heap.size:=hg3.size
   all_goals have c0:=jA0 hb2 0
   all_goals have c1:=jA0 hb2 1
   all_goals have c2:=jA0 hb2 2
   all_goals have c3:=jA0 hb2 3
   all_goals have d2:=jA0 hi2.blk 2
   all_goals have e2':=jA2 hi2.blk 2
   all_goals simp at c0 c1 c2 c3 d2
   all_goals have hfb:∀ ob,(w2.alloc ob).frozen? ⟨p,2,none⟩=false:=λob=>(World.frozen?_of_block (a:=⟨p,2,none⟩) (Below.heap_alloc w2 ob p oE)).trans e2'
   all_goals have hpb:∀ ob,(w2.alloc ob).cell? ⟨p,2,none⟩=some pv:=λob=>(World.cell?_of_block (a:=⟨p,2,none⟩) (Below.heap_alloc w2 ob p oE)).trans d2
   all_goals clear hi2 hb2 hf2 hF2 hg2 hg3
   all_goals go_wp2
   all_goals go_region_law (first | (rw [if_pos (by rfl)];refine jCg _ _ rfl B pv d.writes.1.pending.length d.writes.1.pending ⟨4,nm,to,da⟩ w2.heap.size rfl ?_ rfl ?_ ?_ ?_ ?_;(exact HI2.out.pen.alloc _);(exact heap_alloc_new w2 (opO ⟨4,nm,to,da⟩));(have h8:nD+d.writes.1.pending.length≤n:=HI1.out.hD;have:=HI1.out.hn;omega);(have:=HI2.out.base.2.2.2;simp;omega);intro v4 w4 ho4 hg4 hl4;obtain ⟨g4,cap4,rfl⟩:=jBy ho4;have HL4:Hid (Near w.heap.size pv (.slice (some ⟨g4,0,none⟩) (d.writes.1.pending.length+1) cap4)):=Near.of_at hl4 (by simp;omega);clear hl4;obtain ⟨p2',g2',b0',b1',b2',b3'⟩:=jHe HI2.out HB2.out hg4 (λe=>by have h9:=(HI.out.pen.lt _ e).2;omega)))
   all_goals go_wp2
   all_goals go_ret
   all_goals unfold jB0
   all_goals rw [jFo hw (by rw [HN.out];simp) (by first | exact HE.out | simpa using HE.out | simp)]
   all_goals obtain ⟨q1,q2⟩:=HI2.out.pend' HO.out (jAa (jAg (jAo w2 _ _)) hg4) ho4 rfl HI1.out.hD
   all_goals exact ⟨rfl,⟨_,nN+1,q1,HL4.out⟩,HF2.out.trans (q2.mono (by intro k _ hk;rcases List.mem_cons.1 hk with rfl | hk;simp;simp at hk;simp [hk]))⟩
end Go.Proofs.YtcalalndmcemiaaGreatDoor
