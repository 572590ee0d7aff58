import Derived.Test.YtcalalndmcemiaaGreatDoorC17
import Derived.RangeFuncKeeps
import Derived.Sort.MapsRangeIn
import Derived.RangeFuncSeq
set_option maxRecDepth 100000
set_option maxHeartbeats 16000000
namespace Go.Proofs.YtcalalndmcemiaaGreatDoor
open Go.RowKit Go.Maps
open Sc
theorem jJn {L:List (ByteArray × AGrip)} (h1:Once1 L) {x:ByteArray × AGrip} (hx:x∈jBt L):x∈L:=by
 unfold jBt at hx
 obtain ⟨k,hk,rfl⟩:=List.mem_map.1 hx
 obtain ⟨v,hv⟩:=jEs.1 hk
 rw [jB6 h1 hv]
 exact hv
theorem jKy {hs:List ((Nat × ByteArray) × AGrip)} (h:Once1 hs) (t:Nat):∃ L:List (ByteArray × AGrip),Once1 L∧∀ k,jA3 L k=jA3 hs (t,k):=by
 refine ⟨(hs.filter λp=>decide (p.1.1=t)).map λp=>(p.1.2,p.2),?_,λk=>?_⟩
 ·unfold Once1
  rw [List.pairwise_map]
  refine (List.Pairwise.filter _ h).imp_of_mem ?_
  intro a b ha hb hne e
  have h1:=(List.mem_filter.1 ha).2
  have h2:=(List.mem_filter.1 hb).2
  simp at h1 h2
  exact hne (Prod.ext (h1.trans h2.symm) e)
 ·unfold jA3
  rw [List.find?_map,List.find?_filter,Option.map_map]
  have hp:∀ (p q:(Nat × ByteArray) × AGrip→Bool),(∀ a,p a=q a)→hs.find? p=hs.find? q:=λp q e=>by rw [funext e]
  rw [hp _ (λp=>decide (p.1=(t,k))) λa=>by obtain ⟨⟨a1,a2⟩,a3⟩:=a;simp [Prod.ext_iff]]
  rfl
def AShard.Small (s:AShard):Prop:=∀ p∈s.holds,jCj (p.1.2,p.2)
def AShard.prep (s:AShard) (l:ALog) (d:ADisk) (t:Nat) (L:List (ByteArray × AGrip)):AShard × ALog × ADisk × Nat × Nat :=
 if anyW L=true then
  if (l.keep d 1 (str (be 8 t++jAp (jBt L)))).2.2=0 then ({ s with txns:=jAb s.txns t ⟨3,0,0⟩ },(l.keep d 1 (str (be 8 t++jAp (jBt L)))).1,(l.keep d 1 (str (be 8 t++jAp (jBt L)))).2.1,2,0)
  else (s,(l.keep d 1 (str (be 8 t++jAp (jBt L)))).1,(l.keep d 1 (str (be 8 t++jAp (jBt L)))).2.1,0,(l.keep d 1 (str (be 8 t++jAp (jBt L)))).2.2)
 else (s.forget t,l,d,4,0)
section
variable (B sp gp bV bT bH m lp p bD bN n t:Nat) (s:AShard) (l:ALog) (d:ADisk) (w:World)
theorem jSx (h:SL w B sp gp bV bT bH m lp p bD bN n s l d) (ht:t<18446744073709551616) (hn:n+3<67108864) (hB:2≤B) (hsg:l.filled<600→l.segs≠[]) (hpow:Pows w) (hm:m<67108864) (hc:s.count t≤16) (hv:s.Small) :
  Calls Tryz.prog 276 #[.pointer (some ⟨sp,0,none⟩),.int .u64 (t:Int)] w λe w'=>∃ L,Once1 L∧(∀ k,jA3 L k=jA3 s.holds (t,k))∧e=.returned (.tuple #[.int .i64 ((s.prep l d t L).2.2.2.1:Int),errN (s.prep l d t L).2.2.2.2])∧SL w' B sp gp bV bT bH (m+1) lp p bD bN (n+3) (s.prep l d t L).1 (s.prep l d t L).2.1 (s.prep l d t L).2.2.1∧SFr sp bV bT bH lp p w w':=by
 have hho:=jEg sp gp bV bT bH m t s w h.sh ht (by unfold maxLen;omega)
 have HH:Hid (SL w B sp gp bV bT bH m lp p bD bN n s l d∧Pows w∧s.count t≤16∧s.Small∧(l.filled<600→l.segs≠[])):=⟨h,hpow,hc,hv,hsg⟩
 have hsp:=h.sh.lts.1
 clear h hc hv hsg hpow
 go_enter Tryz.func276,Tryz.ntmps276
 go_wp2_with fail
 refine hho.mono ?_
 clear hho
 rintro e w1 ⟨b,L,rfl,hb,hL,hlk,hf1⟩
 have haw:=jIe b m L w1 hL
 have HL:Hid (MapAs KS EG w1 b m L∧(∀ k,jA3 L k=jA3 s.holds (t,k))∧Fr [] w w1):=⟨hL,hlk,hf1⟩
 have HO:Hid (Once1 L):=by obtain ⟨_,_,_,h3,_⟩:=hL;exact h3
 have hbl:=hL.lt
 clear hL hlk hf1
 go_wp2_with fail
 refine haw.mono ?_
 clear haw
 rintro e w2 ⟨rfl,hf2⟩
 have HF2:Hid (Fr [] w w2):=HL.out.2.2.trans hf2
 have HL2:Hid (MapAs KS EG w2 b m L):=HL.out.1.fr hf2 sE
 obtain ⟨h2,hs2⟩:=HH.out.1.new HF2.out
 have H2:Hid (SL w2 B sp gp bV bT bH m lp p bD bN n s l d∧SFr sp bV bT bH lp p w w2):=⟨h2,hs2⟩
 clear hf2 h2 hs2
 cases hw:anyW L with
 | false =>
  have HP:Hid (s.prep l d t L=(s.forget t,l,d,4,0)):=by show _=_;unfold AShard.prep;rw [if_neg (by rw [hw];decide)]
  clear hw
  go_wp2_with fail
  refine (jCs sp gp bV bT bH m t s w2 H2.out.1.sh ht).mono ?_
  rintro e w3 ⟨rfl,hs3,hf3⟩
  obtain ⟨h3,hx3⟩:=H2.out.1.turn hs3 hf3 sE
  have H3:Hid (SL w3 B sp gp bV bT bH m lp p bD bN n (s.forget t) l d∧SFr sp bV bT bH lp p w w3):=⟨h3,H2.out.2.trans hx3⟩
  clear hs3 hf3 h3 hx3
  go_wp2
  go_ret2
  obtain ⟨pv,sv,rv,nD,nN,hl⟩:=H3.out.1.lg
  refine ⟨L,HO.out,HL.out.2.1,?_,?_,H3.out.2⟩
  ·rw [HP.out];rfl
  ·rw [HP.out];exact ⟨H3.out.1.sh.mono oE,⟨pv,sv,rv,nD,nN,hl.mores oE oE⟩,H3.out.1.ap,H3.out.1.gp1⟩
 | true =>
  have hsmall:∀ x∈jBt L,jCj x:=λx hx=>by
   have h1:=jB6 HO.out (jJn HO.out hx)
   rw [HL.out.2.1] at h1
   exact HH.out.2.2.2.1 _ (jAh h1)
  have hlen:L.length≤16:=by
   have hso:Once1 s.holds:=by obtain ⟨_,_,_,h3,_⟩:=H2.out.1.sh.holds;exact h3
   rw [AShard.count_of hso HO.out HL.out.2.1]
   exact HH.out.2.2.1
  have hpe:=jKw t b m L oE w2.drew (HL2.out.fr (Fr.refl [] w2).drew sE) ht hsmall hlen
  obtain ⟨X,hX⟩:∃ X,X=str (be 8 t++jAp (jBt L)):=⟨_,rfl⟩
  rw [← hX] at hpe
  have HK:Hid (∀ w1,Fr [] w2 w1→Calls Tryz.prog 97 #[.pointer (some ⟨gp,0,none⟩),.int .u8 1,.string X] w1 λe w2=>e=.returned (errN (l.keep d 1 X).2.2)∧SL w2 B sp gp bV bT bH m lp p bD bN (n+3) s (l.keep d 1 X).1 (l.keep d 1 X).2.1∧SFr sp bV bT bH lp p w w2):=λw1 hf1=>by
   obtain ⟨h1,hs1⟩:=H2.out.1.new hf1
   obtain ⟨pv,sv,rv,nD,nN,hl⟩:=h1.lg
   have hp1:Pows w1:=HH.out.2.1.of_block ((HF2.out.trans hf1).block 1 (by obtain ⟨_,_,_,_,_,h2⟩:=HH.out.1.lg;have:=h2.disk.base.2.2.2;omega) sE)
   refine (jG9 B gp lp p bD bN n nD nN 1 pv sv rv l d X w1 h1.ap.led hl oE hn hB HH.out.2.2.2.2 hp1).mono ?_
   rintro e w2 ⟨he,hl2,ho2⟩
   obtain ⟨h2,hs2⟩:=h1.log ho2 hl2
   exact ⟨he,h2,H2.out.2.trans (hs1.trans hs2)⟩
  obtain ⟨R,hR⟩:∃ R,R=l.keep d 1 X:=⟨_,rfl⟩
  have HP:Hid (s.prep l d t L=if R.2.2=0 then ({ s with txns:=jAb s.txns t ⟨3,0,0⟩ },R.1,R.2.1,2,0) else (s,R.1,R.2.1,0,R.2.2)):=by show _=_;unfold AShard.prep;rw [if_pos hw,← hX,← hR]
  rw [← hR] at HK
  clear hR hX hw hsmall hlen
  have c0:=jA0 H2.out.1.sh.blk 0
  simp at c0
  rw [jB8 H2.out.1.gp1] at c0
  have hsp2:=H2.out.1.sh.lts.1
  go_wp2
  go_region_held3 (λw'=>w'.cell? ⟨sp,0,none⟩=some (.pointer (some ⟨gp,0,none⟩)))
   (simp [*])
   (first
    | (go_at_call 190;refine hpe.mono ?_;rintro e w3 ⟨rfl,hb3⟩;have hf3:Fr [] w2 w3:=⟨hb3.os,hb3.tape,hb3.output,hb3.size,λk hk _=>hb3.block k hk⟩;have p0:w3.cell? ⟨sp,0,none⟩=some (.pointer (some ⟨gp,0,none⟩)):=(World.cell?_of_block (a:=⟨sp,0,none⟩) (hf3.block sp hsp2 (by simp))).trans c0;have H3:Hid (Fr [] w2 w3):=hf3;clear hb3 hf3)
    | (go_at_call 97;refine (HK.out w3 H3.out).mono ?_;rintro e w4 ⟨rfl,h4,hs4⟩;have q0:w4.cell? ⟨sp,0,none⟩=some (.pointer (some ⟨gp,0,none⟩)):=(jA0 h4.sh.blk 0).trans (by simp [jB8 h4.gp1]);have H4:Hid (SL w4 B sp gp bV bT bH m lp p bD bN (n+3) s R.1 R.2.1∧SFr sp bV bT bH lp p w w4):=⟨h4,hs4⟩;clear h4 hs4))
  by_cases hr:R.2.2=0
  ·rw [hr,jAt]
   have HP2:Hid (s.prep l d t L=({ s with txns:=jAb s.txns t ⟨3,0,0⟩ },R.1,R.2.1,2,0)):=by show _=_;rw [HP.out,if_pos hr]
   have c2:=jA0 H4.out.1.sh.blk 2
   simp at c2
   obtain ⟨w5,hr5,hm5,hg5⟩:=H4.out.1.sh.txns.putRun Tryz.underlying136 (by unfold maxLen;omega) (k:=t) ht (v:=(⟨3,0,0⟩:ATxn)) trivial
   change (Instr.mapUpdate _ _ (.int .u64 (t:Int)) (.agg #[.int .i64 3,.int .i64 0,.int .u64 0])).run _ _=_ at hr5
   have hf5:Fr [bT] w4 w5:=Fr.of_grown1 hg5
   obtain ⟨h5,hx5⟩:=H4.out.1.turn (H4.out.1.sh.setTxns hf5 hm5 oE) hf5 sE
   have H5:Hid (SL w5 B sp gp bV bT bH (m+1) lp p bD bN (n+3) { s with txns:=jAb s.txns t ⟨3,0,0⟩ } R.1 R.2.1∧SFr sp bV bT bH lp p w w5):=⟨h5,H4.out.2.trans hx5⟩
   clear hr HP hm5 hg5 hf5 h5 hx5
   go_wp2
   go_ret2
   refine ⟨L,HO.out,HL.out.2.1,?_,?_,H5.out.2⟩
   ·rw [HP2.out];rfl
   ·rw [HP2.out];exact H5.out.1
  ·have HP2:Hid (s.prep l d t L=(s,R.1,R.2.1,0,R.2.2)):=by show _=_;rw [HP.out,if_neg hr]
   rw [jAc hr]
   go_wp2
   go_ret2
   refine ⟨L,HO.out,HL.out.2.1,?_,?_,H4.out.2⟩
   ·rw [HP2.out,jAc hr];rfl
   ·rw [HP2.out];exact ⟨H4.out.1.sh.mono oE,H4.out.1.lg,H4.out.1.ap,H4.out.1.gp1⟩
def AShard.prepare (s:AShard) (l:ALog) (d:ADisk) (t:Nat) (L:List (ByteArray × AGrip)):AShard × ALog × ADisk × Nat × Nat :=
 if t=0 then (s,l,d,0,7) else if (s.txn t).state=3 then (s,l,d,2,0) else if (s.txn t).state=1 then s.prep l d t L else (s.forget t,l,d,3,0)
theorem jMe (h:SL w B sp gp bV bT bH m lp p bD bN n s l d) (ht:t<18446744073709551616) (hn:n+3<67108864) (hB:2≤B) (hsg:l.filled<600→l.segs≠[]) (hpow:Pows w) (hm:m<67108864) (hc:s.count t≤16) (hv:s.Small) :
  Calls Tryz.prog 247 #[.pointer (some ⟨sp,0,none⟩),.int .u64 (t:Int)] w λe w'=>∃ L,Once1 L∧(∀ k,jA3 L k=jA3 s.holds (t,k))∧e=.returned (.tuple #[.int .i64 ((s.prepare l d t L).2.2.2.1:Int),errN (s.prepare l d t L).2.2.2.2])∧SL w' B sp gp bV bT bH (m+1) lp p bD bN (n+3) (s.prepare l d t L).1 (s.prepare l d t L).2.1 (s.prepare l d t L).2.2.1∧SFr sp bV bT bH lp p w w':=by
 have hso:Once1 s.holds:=by obtain ⟨_,_,_,h3,_⟩:=h.sh.holds;exact h3
 obtain ⟨L0,hL0,hL1⟩:∃ L,Once1 L∧∀ k,jA3 L k=jA3 s.holds (t,k):=jKy hso t
 have HL0:Hid (Once1 L0∧∀ k,jA3 L0 k=jA3 s.holds (t,k)):=⟨hL0,hL1⟩
 have hmore:Hid (∀ {w':World} {s':AShard},SL w' B sp gp bV bT bH m lp p bD bN n s' l d→SL w' B sp gp bV bT bH (m+1) lp p bD bN (n+3) s' l d):=λ{w' s'} h'=>by
  obtain ⟨pv,sv,rv,nD,nN,hl⟩:=h'.lg
  exact ⟨h'.sh.mono oE,⟨pv,sv,rv,nD,nN,hl.mores oE oE⟩,h'.ap,h'.gp1⟩
 have HH:Hid (SL w B sp gp bV bT bH m lp p bD bN n s l d):=h
 have HS:Hid (SFr sp bV bT bH lp p w w):=(h.new (Fr.refl [] w)).2
 have hsa:=jD3 sp gp bV bT bH m t s w h.sh ht
 have hpr:=jSx B sp gp bV bT bH m lp p bD bN n t s l d w h ht hn hB hsg hpow hm hc hv
 have hfo:=jCs sp gp bV bT bH m t s w h.sh ht
 clear hL0 hL1 hso h hsg hpow hc hv
 by_cases h0:t=0
 ·have HP:Hid (∀ L,s.prepare l d t L=(s,l,d,0,7)):=λL=>by unfold AShard.prepare;rw [if_pos h0]
  subst h0
  clear hsa hpr hfo
  go_enter Tryz.func247,Tryz.ntmps247
  go_wp2
  go_ret2
  refine ⟨L0,HL0.out.1,HL0.out.2,?_,?_,HS.out⟩
  ·rw [HP.out];show _=Ending.returned (.tuple #[.int .i64 0,errN 7]);rw [jAc dN];rfl
  ·rw [HP.out];exact hmore.out HH.out
 have i0:¬ (t:Int)=0:=by omega
 by_cases h3:(s.txn t).state=3
 ·have HP:Hid (∀ L,s.prepare l d t L=(s,l,d,2,0)):=λL=>by unfold AShard.prepare;rw [if_neg h0,if_pos h3]
  rw [h3] at hsa
  clear hpr hfo h3
  go_enter Tryz.func247,Tryz.ntmps247
  go_wp2_with fail
  refine hsa.mono ?_
  clear hsa
  rintro e w1 ⟨rfl,rfl⟩
  go_wp2
  go_ret2
  refine ⟨L0,HL0.out.1,HL0.out.2,?_,?_,HS.out⟩
  ·rw [HP.out];rfl
  ·rw [HP.out];exact hmore.out HH.out
 have i3:¬ ((s.txn t).state:Int)=3:=by omega
 by_cases h1:(s.txn t).state=1
 ·have HP:Hid (∀ L,s.prepare l d t L=s.prep l d t L):=λL=>by unfold AShard.prepare;rw [if_neg h0,if_neg h3,if_pos h1]
  rw [h1] at hsa
  clear hfo h1 h3 i3
  go_enter Tryz.func247,Tryz.ntmps247
  go_wp2_with fail
  refine hsa.mono ?_
  clear hsa
  rintro e w1 ⟨rfl,rfl⟩
  go_wp2_with fail
  refine hpr.mono ?_
  clear hpr
  rintro e w2 ⟨L,a1,a2,rfl,a3,a4⟩
  have H2:Hid (Once1 L∧(∀ k,jA3 L k=jA3 s.holds (t,k))∧SL w2 B sp gp bV bT bH (m+1) lp p bD bN (n+3) (s.prep l d t L).1 (s.prep l d t L).2.1 (s.prep l d t L).2.2.1∧SFr sp bV bT bH lp p w1 w2):=⟨a1,a2,a3,a4⟩
  clear a1 a2 a3 a4
  go_wp2
  go_ret2
  refine ⟨L,H2.out.1,H2.out.2.1,?_,?_,H2.out.2.2.2⟩
  ·rw [HP.out];rfl
  ·rw [HP.out];exact H2.out.2.2.1
 ·have i1:¬ ((s.txn t).state:Int)=1:=by omega
  have HP:Hid (∀ L,s.prepare l d t L=(s.forget t,l,d,3,0)):=λL=>by unfold AShard.prepare;rw [if_neg h0,if_neg h3,if_neg h1]
  clear hpr h1 h3
  go_enter Tryz.func247,Tryz.ntmps247
  go_wp2_with fail
  refine hsa.mono ?_
  clear hsa
  rintro e w1 ⟨rfl,rfl⟩
  go_wp2_with fail
  refine hfo.mono ?_
  clear hfo
  rintro e w2 ⟨rfl,hs2,hf2⟩
  obtain ⟨h2,hx2⟩:=HH.out.turn hs2 hf2 sE
  have H2:Hid (SL w2 B sp gp bV bT bH m lp p bD bN n (s.forget t) l d∧SFr sp bV bT bH lp p w1 w2):=⟨h2,hx2⟩
  clear hs2 hf2 h2 hx2
  go_wp2
  go_ret2
  refine ⟨L0,HL0.out.1,HL0.out.2,?_,?_,H2.out.2⟩
  ·rw [HP.out];rfl
  ·rw [HP.out];exact hmore.out H2.out.1
end
end Go.Proofs.YtcalalndmcemiaaGreatDoor
set_option maxRecDepth 100000
set_option maxHeartbeats 16000000
namespace Go.Proofs.YtcalalndmcemiaaGreatDoor
open Go.RowKit Go.Maps Go.Shelf
open Sc
abbrev elV (g:ByteArray):List Value:=[.string g]
def elsV (l:List ByteArray):List Value:=l.flatMap elV
theorem jQb (l:List ByteArray) (g:ByteArray):elsV (l++[g])=elsV l++elV g:=by simp [elsV]
theorem jS7:∀ (l:List ByteArray) (k:Nat) (g:ByteArray),l[k]?=some g→(elsV l)[k]?=some (.string g)
 | [],k,g,h=>by simp at h
 | x :: l,0,g,h=>by simp at h;subst h;simp [elsV]
 | x :: l,k+1,g,h=>by
  have:=jS7 l k g (by simpa using h)
  simp only [elsV,List.flatMap_cons] at this ⊢
  simpa using this
theorem Tryz.infoBV:(Tryz.prog.info? 9).map (λi=>(i.zero,i.size,i.bytes))=some (some (.string ByteArray.empty),1,16):=by kernel_rfl
def jC3 (L:List (ByteArray × ByteArray)):List (ByteArray × ByteArray):=(jBw L).map λk=>(k,(jA3 L k).getD ByteArray.empty)
theorem Tryz.lenSV (p:Option Addr) (n c:Nat) (w:World):(Builtin.len_ #[35] 3 #[.slice p n c]).run Tryz.prog w=.ok (.int .i64 n) w:=by simp [Builtin.len_,run_underlying Tryz.underlying35,goInt]
theorem jPb (n:Nat) (hn:6≤n) (l Bn b m:Nat) (L:List (ByteArray × ByteArray)) (hm:m≤67108864) (W:World) (Kp:World→World→Prop) (Pk:Nat→World→Prop)
  (hP0:∀ k A,W.heap.size≤k→Below W.heap.size W A→Pk k A)
  (hP2:∀ k A B c t,(t=9∨t=9)→Kp A B→A.heap[k]?=some (.cells c t (0,0))→Pk k A→B.heap[k]?=A.heap[k]?∧Pk k B)
  (J Jx:List (ByteArray × ByteArray)→World→Prop)
  (hJ:∀ s A B,J s A→A.grownBy B none→J s B)
  (hY:∀ pre x W1,J pre W1→pre.length<L.length→pre++[x] <+: jC3 L→YieldAt Fence.wide (n - 1) Tryz.prog l #[.string x.1,.string x.2] W1 λe W' =>
   (e=.returned (.bool true)∧J (pre++[x]) W'∧Kp W1 W')∨(e=.returned (.bool false)∧Jx (pre++[x]) W'))
  (hBn:W.cell? ⟨Bn,0,none⟩=some (.map (some b))) (hL:MapAs KS ES W b m L) (h0:J [] W) :
  CallsIn Fence.wide n Tryz.prog 207 #[.func (.yield l) #[] #[],.pointer (some ⟨Bn,0,none⟩)] W λe W'=>(∃ v,e=.returned v) ∧
   ((∃ ys,ys=jC3 L∧J ys W')∨(∃ pre,pre <+: jC3 L∧Jx pre W')):=by
 have hBl:Bn<W.heap.size:=World.block_lt_of_cell? W ⟨Bn,0,none⟩ hBn
 obtain ⟨cK,cS⟩:=jMb (n - 1) oE b m L W hL hm
 obtain ⟨i0,hi,hz0,hz1,hz2⟩:=info_parts Tryz.infoBV
 have hfK:Fence.wide.fn 209:=trivial
 have hfS:Fence.wide.fn 208:=trivial
 have hfM:Fence.wide.fn 207:=trivial
 have hro:Fence.wide.round=none:=rfl
 have h1:1≤n:=by omega
 have hlenS:=Tryz.lenSV
 have hLm:=hL.len
 have HL:Hid (MapAs KS ES W b m L):=hL
 have HB:Hid (Bn<W.heap.size∧W.cell? ⟨Bn,0,none⟩=some (.map (some b))):=⟨hBl,hBn⟩
 obtain ⟨m0,hm0⟩:∃ m0,m0=L.length:=⟨_,rfl⟩
 have HM:Hid (m0=L.length):=hm0
 rw [← hm0] at cS hLm
 have hm00:m0≤67108864:=by omega
 clear hL hm0
 refine callsIn_of_wp Tryz.func207 rfl hfM ?_ hro
 simp only [Tryz.ntmps207,List.size_toArray,List.length_cons,List.length_nil,Nat.reduceAdd,Nat.reduceSub,Array.replicate_succ,Array.replicate_zero,List.push_toArray,List.append_toArray,List.nil_append,List.cons_append]
 gi_wp2_with (first
  | (gi_at_call 209;refine cK.mono ?_;rintro e w0 ⟨rfl,rfl⟩)
  | (gi_at_call 208;refine cS.mono ?_;rintro e w1 ⟨v,rfl,hrow,hnil,hb1⟩;obtain ⟨pp,cap,rfl⟩:=jCx hrow;have HR:Hid (w1.ownsRow W.heap.size 9 1 (.slice pp m0 cap) m0 ((jBw L).map Value.string)∧(Value.slice pp m0 cap=.slice none 0 0↔m0=0)):=⟨hrow,hnil⟩;clear hrow hnil))
 clear cK cS
 have HB1:Hid (Below W.heap.size W w1):=hb1
 have HJ1:Hid (∀ A,Below W.heap.size W A→J [] A):=λA hA=>hJ [] W A h0 ⟨hA.os,hA.tape,hA.output,hA.size,λk hk _=>hA.block k hk⟩
 clear hb1 hBn
 by_cases hm1:m0=0
 ·subst hm1
  obtain ⟨rfl,rfl⟩:pp=none∧cap=0:=by have:=HR.out.2.2 rfl;simpa using this
  clear HR
  have HE:Hid (jC3 L=[]):=by show _=_;have:=HM.out;rw [List.length_eq_zero_iff.1 this.symm];simp [jC3,jBw]
  gi_loopw [14] (λi wr=>i=.int .i64 0∧wr=w1) (λ_ _=>0)
  case atStart=>exact ⟨rfl,rfl⟩
  case round =>
   obtain ⟨rfl,rfl⟩:=hrel
   gi_wp2
   gi_loopw [27] (λi wr2=>i=.int .i64 0∧wr2=wr) (λ_ _=>0)
   case atStart=>exact ⟨rfl,rfl⟩
   case round =>
    obtain ⟨rfl,rfl⟩:=hrel
    gi_wp2
    go_end0
    exact ⟨⟨_,rfl⟩,.inl ⟨_,rfl,by rw [HE.out];exact HJ1.out _ HB1.out⟩⟩
 obtain ⟨g,rfl⟩:∃ g,pp=some ⟨g,0,none⟩:=by obtain ⟨g,cap',e⟩:=jF0 HR.out.1 oE;exact ⟨g,by simp at e;exact e.1⟩
 have hrow:=HR.out.1
 have HK:Hid (∃ cur,w1.heap[g]?=some (.cells cur 9 (0,0))∧W.heap.size≤g∧∀ (k:Nat) (x:ByteArray),(jBw L)[k]?=some x→cur[k]?=some (Value.string x)):=by
  rcases hrow.2 with ⟨_,h3⟩ | ⟨g',cap',cur,e,hb,hg,_,_,hsz,htk⟩
  ·omega
  ·obtain ⟨e1,e2⟩:g=g'∧cap=cap':=by simpa using e
   subst e1
   refine ⟨cur,hg,hb,λk x hk=>?_⟩
   have hkl:k<m0:=by have:=(List.getElem?_eq_some_iff.1 hk).1;rw [jB5] at this;have:=HM.out;omega
   have:(cur.toList.take (m0*1))[k]?=some (.string x):=by rw [htk,List.getElem?_map,hk];rfl
   rw [List.getElem?_take_of_lt oE] at this
   simpa using this
 clear hrow HR
 obtain ⟨vs,hvs⟩:∃ vs:List ByteArray,vs=(jBw L).map λk=>(jA3 L k).getD ByteArray.empty:=⟨_,rfl⟩
 have HV:Hid (vs=(jBw L).map λk=>(jA3 L k).getD ByteArray.empty):=hvs
 clear hvs
 have HG:Hid (g<w1.heap.size):=by obtain ⟨cur,hg,_⟩:=HK.out;exact (Array.getElem?_eq_some_iff.1 hg).1
 gi_loopw [14,4] (λi v wr=>∃ k:Nat,k≤m0∧i=.int .i64 k∧Hid (wr.ownsRow w1.heap.size 9 1 v k (elsV (vs.take k))∧Below w1.heap.size w1 wr))
  (λi _ _=>m0 - (intOf i).toNat)
 case atStart=>exact ⟨0,Nat.zero_le _,rfl,World.ownsRow_nil _ _ _ _,Below.refl _ _⟩
 case round =>
  obtain ⟨k,hk,rfl,hR⟩:=hrel
  by_cases hlt:k<m0
  ·obtain ⟨x,hx⟩:∃ x,(jBw L)[k]?=some x:=⟨_,List.getElem?_eq_getElem (by rw [jB5];have:=HM.out;omega)⟩
   obtain ⟨y,hy⟩:∃ y,y=(jA3 L x).getD ByteArray.empty:=⟨_,rfl⟩
   have hbW:Below W.heap.size W wr:=HB1.out.trans (hR.out.2.mono HB1.out.size)
   have ck:wr.cell? ⟨g,k,none⟩=some (.string x):=by
    obtain ⟨cur,hg,_,hc⟩:=HK.out
    have:=(hR.out.2.block g HG.out).trans hg
    rw [jAn this]
    exact hc k x hx
   have cB:wr.cell? ⟨Bn,0,none⟩=some (.map (some b)):=(hbW.cell (p:=⟨Bn,0,none⟩) HB.out.1).trans HB.out.2
   have hxs:x.size≤maxLen:=by
    obtain ⟨v',hv'⟩:=jEs.1 (List.mem_of_getElem? hx)
    obtain ⟨_,_,_,_,hok⟩:=HL.out
    exact (hok _ hv').1
   have hlk:=(HL.out.fr (S:=[]) ⟨hbW.os,hbW.tape,hbW.output,hbW.size,λk hk _=>hbW.block k hk⟩ sE).look Tryz.underlying135 (jQz wr) (by show (0:Nat)≤maxLen;omega) (k:=x) hxs
   rw [← hy] at hlk
   have HY:Hid (y=(jA3 L x).getD ByteArray.empty∧(jBw L)[k]?=some x):=⟨hy,hx⟩
   clear hy hx
   change (Instr.lookup _ _ (.string x) false).run _ _=.ok (.string y) _ at hlk
   have hsz:=hR.out.2.size
   have hrk:k<((jBw L).map λk=>(jA3 L k).getD ByteArray.empty).length:=by rw [List.length_map,jB5];have:=HM.out;omega
   have HT:Hid (vs.take (k+1)=vs.take k++[y]):=by
    show _=_
    rw [HV.out,List.take_add_one,List.getElem?_map,HY.out.2,HY.out.1];rfl
   clear hrk
   gi_wp2_with (gi_at_builtin;refine wpListIn_append_own _ rfl _ _ 35 rfl w1.heap.size 9 i0 _ 1 16 Tryz.underlying35 hi hz0 hz1 hz2 rfl (by decide) _ k _ rfl (hR.out.1.alloc _) ⟨wr.heap.size,0,none⟩ 1 1 (elV y) rfl rfl (jBf _ #[.string y] _) (by intro u hu;simp [elV] at hu;subst hu;rfl) (by unfold maxLen;omega) (by omega) (by simp;omega) ?_;intro v' w2 hown' hgrow _)
   go_roundw
   case rel =>
    refine ⟨k+1,by omega,by simp,by rw [HT.out,jQb];exact hown',?_⟩
    exact ((hR.out.2.alloc hsz _).grown hgrow (by simp;omega) (λj hj=>(hR.out.1.lt j hj).1))
   case measure=>simp [intOf];omega
  ·obtain rfl:k=m0:=by omega
   obtain ⟨g2,cap2,rfl⟩:=jF0 hR.out.1 oE
   have HK2:Hid (∃ cur2,wr.heap[g2]?=some (.cells cur2 9 (0,0))∧W.heap.size≤g2∧∀ (j:Nat) (y:ByteArray),vs[j]?=some y→cur2[j]?=some (Value.string y)):=by
    rcases hR.out.1.2 with ⟨_,h3⟩ | ⟨g',cap',cur,e,hb,hg,_,_,hsz,htk⟩
    ·omega
    ·obtain ⟨e1,e2⟩:g2=g'∧cap2=cap':=by simpa using e
     subst e1
     have hvl:vs.length=k:=by rw [HV.out,List.length_map,jB5,HM.out]
     refine ⟨cur,hg,Nat.le_trans HB1.out.size hb,λj y hj=>?_⟩
     have hjk:j<k:=by have:=(List.getElem?_eq_some_iff.1 hj).1;omega
     have e3:vs.take k=vs:=List.take_of_length_le oE
     rw [e3] at htk
     have hat:=jS7 vs j y hj
     rw [← htk] at hat
     rw [List.getElem?_take_of_lt oE] at hat
     simpa using hat
   obtain ⟨cur,hgc,hgW,hcs⟩:=HK.out
   obtain ⟨cur2,hgc2,hgW2,hcs2⟩:=HK2.out
   have hgr:=(hR.out.2.block g HG.out).trans hgc
   have hbW:Below W.heap.size W wr:=HB1.out.trans (hR.out.2.mono HB1.out.size)
   have HC:Hid ((∀ (k:Nat) (x:ByteArray),(jBw L)[k]?=some x→cur[k]?=some (Value.string x))∧∀ (j:Nat) (y:ByteArray),vs[j]?=some y→cur2[j]?=some (Value.string y)):=⟨hcs,hcs2⟩
   have HS:Hid (J [] wr∧wr.heap[g]?=some (.cells cur 9 (0,0))∧Pk g wr∧wr.heap[g2]?=some (.cells cur2 9 (0,0))∧Pk g2 wr):=⟨HJ1.out _ hbW,hgr,hP0 _ _ hgW hbW,hgc2,hP0 _ _ hgW2 hbW⟩
   clear HK HK2 hgc hcs hgc2 hcs2 hgr hbW hP0
   gi_wp2
   gi_loopw [27] (λi wr=>∃ j:Nat,j≤k∧i=.int .i64 j∧Hid (J ((jC3 L).take j) wr∧wr.heap[g]?=some (.cells cur 9 (0,0))∧Pk g wr∧wr.heap[g2]?=some (.cells cur2 9 (0,0))∧Pk g2 wr))
    (λi _=>k - (intOf i).toNat)
   case atStart=>exact ⟨0,Nat.zero_le _,rfl,by rw [List.take_zero];exact HS.out⟩
   case round =>
    obtain ⟨j,hj,rfl,hQ⟩:=hrel
    by_cases hlt2:j<k
    ·obtain ⟨x,hx⟩:∃ x,(jBw L)[j]?=some x:=⟨_,List.getElem?_eq_getElem (by rw [jB5];have:=HM.out;omega)⟩
     obtain ⟨y,hy⟩:∃ y,y=(jA3 L x).getD ByteArray.empty:=⟨_,rfl⟩
     have hvy:vs[j]?=some y:=by rw [HV.out,List.getElem?_map,hx,hy];rfl
     have HXY:Hid ((jC3 L).take (j+1)=(jC3 L).take j++[(x,y)]):=by
      show _=_
      rw [List.take_add_one]
      unfold jC3
      rw [List.getElem?_map,hx,hy];rfl
     have cx:wr.cell? ⟨g,j,none⟩=some (.string x):=by rw [jAn hQ.out.2.1];exact HC.out.1 j x hx
     have cy0:wr.cell? ⟨g2,j,none⟩=some (.string y):=by rw [jAn hQ.out.2.2.2.1];exact HC.out.2 j y hvy
     obtain ⟨fn,tmps,assign,body,hy2,hRR⟩:=hY _ (x,y) wr hQ.out.1 (by rw [List.length_take,← HM.out];omega) (by rw [← HXY.out];exact List.take_prefix _ _)
     clear hx hy hvy
     gi_wp2
     refine hRR.mono ?_
     rintro e W3 (⟨rfl,hJ3,hk3⟩ | ⟨rfl,hJx3⟩)
     ·have p1:=hP2 _ _ _ _ _ (.inl rfl) hk3 hQ.out.2.1 hQ.out.2.2.1
      have p2:=hP2 _ _ _ _ _ (.inr rfl) hk3 hQ.out.2.2.2.1 hQ.out.2.2.2.2
      have HN:Hid (J ((jC3 L).take (j+1)) W3∧W3.heap[g]?=some (.cells cur 9 (0,0))∧Pk g W3∧W3.heap[g2]?=some (.cells cur2 9 (0,0))∧Pk g2 W3):=⟨by rw [HXY.out];exact hJ3,p1.1.trans hQ.out.2.1,p1.2,p2.1.trans hQ.out.2.2.2.1,p2.2⟩
      clear p1 p2 hJ3 hk3
      gi_wp2
      go_roundw
      case rel=>exact ⟨j+1,by omega,by simp,HN.out⟩
      case measure=>simp [intOf];omega
     ·gi_wp2
      refine bodyPost_ret (results_none rfl _ _ _) rfl ?_
      exact ⟨⟨_,rfl⟩,.inr ⟨_,by rw [← HXY.out];exact List.take_prefix _ _,hJx3⟩⟩
    ·obtain rfl:j=k:=by omega
     gi_wp2
     go_end0
     refine ⟨⟨_,rfl⟩,.inl ⟨_,?_,hQ.out.1⟩⟩
     rw [List.take_of_length_le]
     unfold jC3
     rw [List.length_map,jB5,HM.out]
     exact Nat.le_refl _
theorem jIv (n:Nat) (hn:6≤n) (Bn b m:Nat) (L:List (ByteArray × ByteArray)) (Q:ByteArray × ByteArray→Prop) (hQ:∀ x∈jC3 L,Q x) (hm:m≤67108864) (w:World) (hBl:Bn<w.heap.size) (hBn:w.cell? ⟨Bn,0,none⟩=some (.map (some b))) (hL:MapAs KS ES w b m L)
  (Kp:World→World→Prop) (Pk:Nat→World→Prop)
  (hP0:∀ W k A,Below w.heap.size w W→W.heap.size≤k→Below W.heap.size W A→Pk k A)
  (hP2:∀ k A B c t,(t=9∨t=9)→Kp A B→A.heap[k]?=some (.cells c t (0,0))→Pk k A→B.heap[k]?=A.heap[k]?∧Pk k B) :
  SeqStopsK Fence.wide n Tryz.prog 207 #[.pointer (some ⟨Bn,0,none⟩)] (λy:{ x:ByteArray × ByteArray // Q x }=>#[.string y.1.1,.string y.1.2]) Kp (λys=>ys.map (·.1)=jC3 L) (λ_=>True) L.length w:=λl J Jx W hW hJ _ hY h0=>by
 have h:=jPb n hn l Bn b m L hm W Kp Pk (λk A=>hP0 W k A hW) hP2 (λpre W=>∃ pre':List { x:ByteArray × ByteArray // Q x },pre'.map (·.1)=pre∧J pre' W) (λpre W=>∃ pre':List { x:ByteArray × ByteArray // Q x },pre'.map (·.1)=pre∧Jx pre' W)
  (λs A B hs hgr=>by obtain ⟨p',e,hj⟩:=hs;exact ⟨p',e,hJ p' A B none hj hgr (λr e=>by cases e)⟩)
  (λpre x W1 hj hlt hpre=>by
   obtain ⟨p',e,hj⟩:=hj
   have hx:Q x:=hQ x (hpre.subset sE)
   obtain ⟨fn,tmps,assign,body,hy,hR⟩:=hY p' ⟨x,hx⟩ W1 hj (by rw [← e,List.length_map] at hlt;exact hlt)
   refine ⟨fn,tmps,assign,body,hy,hR.mono ?_⟩
   rintro e2 W' (⟨r1,r2,r3⟩ | ⟨r1,r2⟩)
   ·exact .inl ⟨r1,⟨p'++[⟨x,hx⟩],by simp [e],r2⟩,r3⟩
   ·exact .inr ⟨r1,⟨p'++[⟨x,hx⟩],by simp [e],r2⟩⟩)
  ((hW.cell (p:=⟨Bn,0,none⟩) hBl).trans hBn) (hL.fr (S:=[]) ⟨hW.os,hW.tape,hW.output,hW.size,λk hk _=>hW.block k hk⟩ sE) ⟨[],rfl,h0⟩
 refine h.mono ?_
 rintro e W' ⟨he,⟨ys,rfl,p',e2,hj⟩ | ⟨pre,_,p',_,hj⟩⟩
 ·exact ⟨he,.inl ⟨p',e2,hj⟩⟩
 ·exact ⟨he,.inr ⟨p',trivial,hj⟩⟩
theorem jOh (n:Nat) (b:Nat) (w:World) :
  CallsIn Fence.wide n Tryz.prog 160 #[.map (some b)] w λe w'=>e=.returned (.func (.func 207) #[] #[.pointer (some ⟨w.heap.size,0,none⟩)])∧w'=w.alloc (.cells #[.map (some b)] 135):=by
 refine callsIn_of_wp Tryz.func160 rfl trivial ?_ rfl
 simp only [Tryz.ntmps160,List.size_toArray,List.length_cons,List.length_nil,Nat.reduceAdd,Nat.reduceSub,Array.replicate_succ,Array.replicate_zero,List.push_toArray,List.append_toArray,List.nil_append,List.cons_append]
 gi_wp2
 go_ret
 exact ⟨rfl,rfl⟩
end Go.Proofs.YtcalalndmcemiaaGreatDoor
set_option maxRecDepth 100000
set_option maxHeartbeats 16000000
namespace Go.Proofs.YtcalalndmcemiaaGreatDoor
open Go.RowKit Go.Maps
open Sc
structure RLock where
 key:ByteArray
 wr:Bool
 gone:Bool
 val:ByteArray
structure RTx where
 id:Nat
 st:Nat
 ops:Nat
 age:Nat
 locks:List RLock
structure RSh where
 table:List (ByteArray × ByteArray)
 txns:List RTx
def RLock.grip (l:RLock):AGrip:=⟨if l.wr=true then (if l.gone=true then 2 else 1) else 0,l.val⟩
def jUx (ls:List RLock) (k:ByteArray):Option RLock:=ls.find? λl=>decide (l.key=k)
def txAt (xs:List RTx) (t:Nat):Option RTx:=xs.find? λx=>decide (x.id=t)
def upd (xs:List RTx) (x:RTx):List RTx:=xs.map λy=>if y.id=x.id then x else y
def del (xs:List RTx) (t:Nat):List RTx:=xs.filter λy=>!decide (y.id=t)
def ins (xs:List RTx) (x:RTx):List RTx:=(xs.takeWhile λy=>decide (y.id<x.id))++x :: (xs.dropWhile λy=>decide (y.id<x.id))
def OnceK (ls:List RLock):Prop:=ls.Pairwise λa b=>a.key≠b.key
structure RTx.Ok (ticks:Nat) (x:RTx):Prop where
 id0:x.id≠0
 idb:x.id<18446744073709551616
 st:x.st=1∨x.st=2∨x.st=3
 age:x.st≠3→x.age≤ticks∧x.age<16
 once:OnceK x.locks
 four:x.locks.length≤4
 small:∀ l∈x.locks,1≤l.key.size∧l.key.size≤16∧l.val.size≤32
 read:∀ l∈x.locks,l.wr=false→l.val=ByteArray.empty
section
variable {s:AShard} {R:RSh}
def RSh.state (R:RSh) (t:Nat):Nat:=((txAt R.txns t).map (·.st)).getD 0
def RSh.refuse (R:RSh) (t:Nat) (seq:Int) (k:ByteArray):Nat :=
 if t=0 then 7 else if k.size<1∨16<k.size then 1 else
 match txAt R.txns t with
 | some x=>if x.st=3 then 4 else if seq≠(x.ops:Int) then 4 else if x.st=2 then 3 else if (jUx x.locks k).isSome=false∧x.locks.length=4 then 5 else 0
 | none=>if seq≠0 then 4 else if R.txns.length=12 then 5 else 0
def jWb (t:Nat) (k:ByteArray) (wr:Bool) (x:RTx):Bool:=!decide (x.id=t) && ((jUx x.locks k).map λl=>wr || l.wr).getD false
def meets (xs:List RTx) (t:Nat) (k:ByteArray) (wr:Bool):Bool:=xs.any (jWb t k wr)
def RSh.tx (R:RSh) (t:Nat):RTx:=(txAt R.txns t).getD ⟨t,1,0,0,[]⟩
def jVl (xs:List RTx) (t:Nat):List RTx:=if (txAt xs t).isSome=true then xs else ins xs ⟨t,1,0,0,[]⟩
def RTx.doomed (x:RTx):RTx:=⟨x.id,2,x.ops,0,x.locks⟩
def RTx.worked (x:RTx) (f:List RLock→List RLock):RTx:=⟨x.id,x.st,x.ops+1,0,f x.locks⟩
def RSh.op (R:RSh) (t:Nat) (seq:Int) (k:ByteArray) (wr:Bool) (f:List RLock→List RLock):RSh × Nat :=
 if R.refuse t seq k=0 then
  if meets (jVl R.txns t) t k wr=true then (⟨R.table,upd (jVl R.txns t) (R.tx t).doomed⟩,3)
  else (⟨R.table,upd (jVl R.txns t) ((R.tx t).worked f)⟩,0)
 else (R,R.refuse t seq k)
end
end Go.Proofs.YtcalalndmcemiaaGreatDoor
set_option maxRecDepth 100000
set_option maxHeartbeats 16000000
namespace Go.Proofs.YtcalalndmcemiaaGreatDoor
open Go.RowKit Go.Maps Go.Shelf
open Sc
theorem jEv {F:Fence} {n:Nat} {P:Program} (w:World) {ops:Array Oper} {rest:List Oper} {o:Oper} {a:Act} {Q:Exit→Act→World→Prop}
  (hg:o.guard=none) (s x:Operand) (t:TypeId) (hop:o.op=Op.call { callee:=Callee.builtin Builtin.append,args:=#[s,x],argTypes:=#[t,t] })
  (base:Nat) (e:TypeId) (i:TypeInfo) (z:Value) (size bytes:Nat) (h1:P.underlying t=some (.slice e)) (h2:P.info? e=some i) (h3:i.zero=some z) (h4:i.size=size) (h5:i.bytes=bytes) (h6:z.cells.size=size) (h7:0<size)
  (v:Value) (k:Nat) (xs:List Value) (hs:a.eval s=v) (hown:w.ownsRow base e size v k xs) (ad:Addr) (m c:Nat) (news:List Value) (hx:a.eval x=.slice (some ad) m c) (hn:news.length=m*size)
  (hc:∀ j u,news[j]?=some u→w.cell? (ad.add j)=some u) (h1c:∀ u∈news,u.oneCell'=true) (b1:k+m≤maxLen) (b2:(k+m)*bytes≤140737488355328) (b3:base≤w.heap.size)
  (hK:∀ v' w',w'.ownsRow base e size v' (k+m) (xs++news)→w.grownBy w' v.ownBlock→(v'.ownBlock=v.ownBlock∨v'.ownBlock=some w.heap.size)→wpListIn F n P ops Q rest (a.put o.dst v') w') :
  wpListIn F n P ops Q (o :: rest) a w:=by
 refine wpListIn_plain hg λK hK'=>?_
 obtain ⟨v',w',hrun,r1,r2,_,r3⟩:=run_append_own_at (P:=P) w base t o.type e i z size bytes h1 h2 h3 h4 h5 h6 h7 v k xs hown ad m c news hn hc h1c b1 b2 b3
 unfold Oper.wpIn
 refine ⟨?_,?_⟩
 ·simp [Oper.about,hop,resolve,Target.leads,Sem.run_pure]
 ·rw [Oper.semAt_plain F _ _ (by rw [hop];intro c hc';cases hc')]
  simp [execOp,hop,resolve,invoke,builtin,hs,hx,hrun,Result.andThen]
  exact hK' _ _ (hK v' w' r1 r2 r3)
end Go.Proofs.YtcalalndmcemiaaGreatDoor
set_option maxRecDepth 100000
set_option maxHeartbeats 16000000
namespace Go.Proofs.YtcalalndmcemiaaGreatDoor
open Go.RowKit Go.Maps Go.Sort
open Sc
section
variable {s:AShard} {R:RSh}
def RTx.ready (x:RTx):RTx:=⟨x.id,3,x.ops,x.age,x.locks⟩
def RSh.prepare (R:RSh) (t:Nat):RSh × Nat × Nat :=
 if t=0 then (R,0,7) else
 match txAt R.txns t with
 | none=>(R,3,0)
 | some x=>if x.st=3 then (R,2,0) else if x.st=2 then (⟨R.table,del R.txns t⟩,3,0) else if x.locks.any (·.wr)=true then (⟨R.table,upd R.txns x.ready⟩,2,0) else (⟨R.table,del R.txns t⟩,4,0)
end
end Go.Proofs.YtcalalndmcemiaaGreatDoor
set_option maxRecDepth 100000
set_option maxHeartbeats 16000000
namespace Go.Proofs.YtcalalndmcemiaaGreatDoor
open Go.RowKit Go.Shelf
open Sc
abbrev recA (r:Rec):Value:=.agg #[.int .u64 (r.lsn:Int),.int .u8 (r.kind:Int),.string (str r.pay)]
def RecsIn (W:World) (g:Nat) (rs:List Rec):Prop :=
 ∀ k r,rs[k]?=some r→W.cell? ⟨g,k*3,none⟩=some (.int .u64 (r.lsn:Int))∧W.cell? ⟨g,k*3+1,none⟩=some (.int .u8 (r.kind:Int))∧W.cell? ⟨g,k*3+2,none⟩=some (.string (str r.pay))
theorem RecsIn.below {n₀ g:Nat} {A B:World} {rs:List Rec} (h:Below n₀ A B) (hg:g<n₀) (hr:RecsIn A g rs):RecsIn B g rs:=λk r hk =>
 ⟨(h.cell (p:=⟨g,k*3,none⟩) hg).trans (hr k r hk).1,(h.cell (p:=⟨g,k*3+1,none⟩) hg).trans (hr k r hk).2.1,(h.cell (p:=⟨g,k*3+2,none⟩) hg).trans (hr k r hk).2.2⟩
theorem jD5 {rs:List Rec} {k:Nat} {r:Rec} (h:rs[k]?=some r):rs.take (k+1)=rs.take k++[r]:=by
 rw [List.take_add_one,h];rfl
theorem jMq (F:Fence) (n:Nat) (hF:F.fn 127) (hro:F.round=none) (l Bn lp:Nat) (J:List Rec→World→Prop)
  (W:World) (hBn:W.cell? ⟨Bn,0,none⟩=some (.pointer (some ⟨lp,0,none⟩))) (h3:W.cell? ⟨lp,3,none⟩=some (.slice none 0 0)) (h0:J [] W) :
  CallsIn F n Tryz.prog 127 #[.func (.yield l) #[] #[],.pointer (some ⟨Bn,0,none⟩)] W λe W'=>(∃ v,e=.returned v)∧J [] W':=by
 refine callsIn_of_wp Tryz.func127 rfl hF ?_ hro
 simp only [Tryz.ntmps127,List.size_toArray,List.length_cons,List.length_nil,Nat.reduceAdd,Nat.reduceSub,Array.replicate_succ,Array.replicate_zero,List.push_toArray,List.append_toArray,List.nil_append,List.cons_append]
 gi_wp2
 gi_loopw [10] (λi wr=>i=.int .i64 0∧J [] wr) (λ_ _=>0)
 case atStart=>exact ⟨rfl,h0⟩
 case round =>
  obtain ⟨rfl,hJs⟩:=hrel
  gi_wp2
  go_end0
  exact ⟨⟨_,rfl⟩,hJs⟩
theorem jSc (F:Fence) (n:Nat) (hF:F.fn 85) (hro:F.round=none) (p0:Option Addr) (w:World) :
  CallsIn F n Tryz.prog 85 #[.pointer p0] w λe w'=>e=.returned (.func (.func 127) #[] #[.pointer (some ⟨w.heap.size,0,none⟩)])∧w'=w.alloc (.cells #[.pointer p0] 74):=by
 refine callsIn_of_wp Tryz.func85 rfl hF ?_ hro
 simp only [Tryz.ntmps85,List.size_toArray,List.length_cons,List.length_nil,Nat.reduceAdd,Nat.reduceSub,Array.replicate_succ,Array.replicate_zero,List.push_toArray,List.append_toArray,List.nil_append,List.cons_append]
 gi_wp2
 go_ret
 exact ⟨rfl,rfl⟩
def RecsSl (n₀:Nat) (W:World) (v:Value) (rs:List Rec):Prop :=
 (v=.slice none 0 0∧rs=[])∨∃ g cap,v=.slice (some ⟨g,0,none⟩) rs.length cap∧g<n₀∧RecsIn W g rs
theorem RecsSl.below {n₀:Nat} {A B:World} {v:Value} {rs:List Rec} (h:Below n₀ A B) (hr:RecsSl n₀ A v rs):RecsSl n₀ B v rs:=by
 rcases hr with e | ⟨g,cap,e,hg,hr⟩
 ·exact .inl e
 ·exact .inr ⟨g,cap,e,hg,hr.below h hg⟩
structure KpS (S:List Nat) (A B:World):Prop where
 size:A.heap.size≤B.heap.size
 same:∀ k∈S,k<A.heap.size→B.heap[k]?=A.heap[k]?
theorem KpS.trans {S:List Nat} {A B C:World} (h:KpS S A B) (k:KpS S B C):KpS S A C :=
 ⟨Nat.le_trans h.size k.size,λi hi hl=>(k.same i hi (Nat.lt_of_lt_of_le hl h.size)).trans (h.same i hi hl)⟩
theorem KpS.book {S:List Nat} {w:World} (hS:∀ k∈S,k<w.heap.size) (W:World) (l:Nat) (o o':Obj) (hl:w.heap.size≤l) (_:W.heap[l]?=some o) (_:o.isCells=false) (_:o.isWalk=false):KpS S W (W.putObj l o') :=
 ⟨by simp,λk hk _=>World.putObj_heap_other (λe=>by have:=hS k hk;omega)⟩
theorem KpS.alloc {S:List Nat} (W:World) (o:Obj):KpS S W (W.alloc o):=⟨by simp,λk _ hl=>Below.heap_alloc _ _ k hl⟩
theorem KpS.refl {S:List Nat} (W:World):KpS S W W:=⟨Nat.le_refl _,λ_ _ _=>rfl⟩
theorem KpS.below {S:List Nat} {n:Nat} {A B:World} (h:Below n A B) (hS:∀ k∈S,k<n):KpS S A B:=⟨h.size,λk hk _=>h.block k (hS k hk)⟩
def jCa (rv:Value):List Nat:=rv.ownBlock.toList
theorem jTs (n:Nat) (hn:1≤n) (l Bn lp g cap:Nat) (rs:List Rec) (hlen:rs.length≤67108864) (J Jx:List Rec→World→Prop)
  (hJ:∀ s W W',J s W→W.grownBy W' none→J s W')
  (hY:∀ pre x W,J pre W→pre.length<rs.length→x∈rs→YieldAt Fence.wide (n - 1) Tryz.prog l #[recA x] W λe W' =>
   (e=.returned (.bool true)∧J (pre++[x]) W'∧KpS [g] W W')∨(e=.returned (.bool false)∧Jx (pre++[x]) W'))
  (W:World) (hgl:g<W.heap.size) (hBn:W.cell? ⟨Bn,0,none⟩=some (.pointer (some ⟨lp,0,none⟩))) (h3:W.cell? ⟨lp,3,none⟩=some (.slice (some ⟨g,0,none⟩) rs.length cap)) (hR:RecsIn W g rs) (h0:J [] W) :
  CallsIn Fence.wide n Tryz.prog 127 #[.func (.yield l) #[] #[],.pointer (some ⟨Bn,0,none⟩)] W λe W'=>(∃ v,e=.returned v) ∧
   ((∃ ys,ys=rs∧J ys W')∨(∃ pre,pre <+: rs∧Jx pre W')):=by
 obtain ⟨m,hm⟩:∃ m,m=rs.length:=⟨_,rfl⟩
 rw [← hm] at h3 hlen
 have HM:Hid (m=rs.length):=hm
 have hro:Fence.wide.round=none:=rfl
 clear hm
 refine callsIn_of_wp Tryz.func127 rfl trivial ?_ hro
 simp only [Tryz.ntmps127,List.size_toArray,List.length_cons,List.length_nil,Nat.reduceAdd,Nat.reduceSub,Array.replicate_succ,Array.replicate_zero,List.push_toArray,List.append_toArray,List.nil_append,List.cons_append]
 gi_wp2
 gi_loopw [10] (λi wr=>∃ k:Nat,k≤m∧i=.int .i64 k∧J (rs.take k) wr∧KpS [g] W wr)
  (λi _=>m - (intOf i).toNat)
 case atStart=>exact ⟨0,Nat.zero_le _,rfl,by simpa using h0,KpS.refl _⟩
 case round =>
  obtain ⟨k,hk,rfl,hJs,hnx⟩:=hrel
  by_cases hlt:k<m
  ·obtain ⟨r,hr⟩:∃ r,rs[k]?=some r:=⟨_,List.getElem?_eq_getElem (by have:=HM.out;omega)⟩
   have hbg:=hnx.same g sE hgl
   obtain ⟨q1,q2,q3⟩:=hR k r hr
   have r1:=(World.cell?_of_block (a:=⟨g,k*3,none⟩) hbg).trans q1
   have r2:=(World.cell?_of_block (a:=⟨g,k*3+1,none⟩) hbg).trans q2
   have r3:=(World.cell?_of_block (a:=⟨g,k*3+2,none⟩) hbg).trans q3
   obtain ⟨W2,hW2⟩:∃ W2,W2=wr.alloc (.cells #[.int .u64 (r.lsn:Int),.int .u8 (r.kind:Int),.string (str r.pay)] 110):=⟨_,rfl⟩
   have hg2:wr.grownBy W2 none:=by rw [hW2];exact World.grownBy_alloc wr _ none
   have hJ2:=hJ _ _ _ hJs hg2
   have hb2:KpS [g] W W2:=by rw [hW2];exact hnx.trans (KpS.alloc _ _)
   obtain ⟨fn,tmps,assign,body,hy,hRR⟩:=hY _ r W2 hJ2 (by rw [List.length_take];have:=HM.out;omega) (List.mem_of_getElem? hr)
   subst hW2
   clear q1 q2 q3 hbg
   gi_wp2
   refine hRR.mono ?_
   rintro e W3 (⟨rfl,hJ3,hk3⟩ | ⟨rfl,hJx3⟩)
   ·gi_wp2
    go_roundw
    case rel=>exact ⟨k+1,by omega,by simp,by rw [jD5 hr];exact hJ3,hb2.trans hk3⟩
    case measure=>simp [intOf];omega
   ·gi_wp2
    refine bodyPost_ret (results_none rfl _ _ _) rfl ?_
    exact ⟨⟨_,rfl⟩,.inr ⟨_,by rw [← jD5 hr];exact List.take_prefix _ _,hJx3⟩⟩
  ·obtain rfl:k=m:=by omega
   gi_wp2
   go_end0
   exact ⟨⟨_,rfl⟩,.inl ⟨_,by rw [HM.out,List.take_length],hJs⟩⟩
theorem jHu (n:Nat) (hn:1≤n) (Bn lp:Nat) (rv:Value) (rs:List Rec) (w:World) (hlen:rs.length≤67108864) (hBl:Bn<w.heap.size) (hlp:lp<w.heap.size)
  (hc:w.cell? ⟨Bn,0,none⟩=some (.pointer (some ⟨lp,0,none⟩))) (h3:w.cell? ⟨lp,3,none⟩=some rv) (hL:RecsSl w.heap.size w rv rs) :
  SeqStopsK Fence.wide n Tryz.prog 127 #[.pointer (some ⟨Bn,0,none⟩)] (λx:{ x:Rec // x∈rs }=>#[recA x.1]) (KpS (jCa rv)) (λys=>ys.map (·.1)=rs) (λpre=>pre.map (·.1) <+: rs) rs.length w:=λl J Jx W hW hJ _ hY h0=>by
 have c1:=(hW.cell (p:=⟨Bn,0,none⟩) hBl).trans hc
 have c2:=(hW.cell (p:=⟨lp,3,none⟩) hlp).trans h3
 rcases hL.below (hW.mono (Nat.le_refl _)) with ⟨rfl,rfl⟩ | ⟨g,cap,rfl,hg,hr⟩
 ·refine (jMq Fence.wide n trivial rfl l Bn lp (λ_ W=>J [] W) W c1 c2 h0).mono ?_
  rintro e W' ⟨he,hj⟩
  exact ⟨he,.inl ⟨[],rfl,hj⟩⟩
 ·have h:=jTs n hn l Bn lp g cap rs hlen (λpre W=>∃ pre':List { x:Rec // x∈rs },pre'.map (·.1)=pre∧J pre' W) (λpre W=>∃ pre':List { x:Rec // x∈rs },pre'.map (·.1)=pre∧Jx pre' W)
   (λs A B hs hgr=>by obtain ⟨p',e,hj⟩:=hs;exact ⟨p',e,hJ p' A B none hj hgr (λr e=>by cases e)⟩)
   (λpre x W1 hj hlt hx=>by
    obtain ⟨p',e,hj⟩:=hj
    obtain ⟨fn,tmps,assign,body,hy,hR⟩:=hY p' ⟨x,hx⟩ W1 hj (by rw [← e,List.length_map] at hlt;exact hlt)
    refine ⟨fn,tmps,assign,body,hy,hR.mono ?_⟩
    rintro e2 W' (⟨r1,r2,r3⟩ | ⟨r1,r2⟩)
    ·exact .inl ⟨r1,⟨p'++[⟨x,hx⟩],by simp [e],r2⟩,by simpa [jCa,Value.ownBlock] using r3⟩
    ·exact .inr ⟨r1,⟨p'++[⟨x,hx⟩],by simp [e],r2⟩⟩)
   W (Nat.lt_of_lt_of_le hg hW.size) c1 c2 hr ⟨[],rfl,h0⟩
  refine h.mono ?_
  rintro e W' ⟨he,⟨ys,rfl,p',e2,hj⟩ | ⟨pre,hp,p',e2,hj⟩⟩
  ·exact ⟨he,.inl ⟨p',e2,hj⟩⟩
  ·exact ⟨he,.inr ⟨p',by show _ <+: rs;rw [e2];exact hp,hj⟩⟩
end Go.Proofs.YtcalalndmcemiaaGreatDoor
