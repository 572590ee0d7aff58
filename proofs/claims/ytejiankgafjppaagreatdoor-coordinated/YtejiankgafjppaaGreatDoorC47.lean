import Derived.Test.YtejiankgafjppaaGreatDoorC40
import Derived.Test.YtejiankgafjppaaGreatDoorC46
import Derived.Test.YtejiankgafjppaaGreatDoorC41
import Derived.Test.YtejiankgafjppaaGreatDoorC45
import Derived.Test.YtejiankgafjppaaGreatDoorC38
import Derived.Deep.CutRange
namespace Go.Proofs.YtejiankgafjppaaGreatDoor
open Go.RowKit Go.Maps Go.Shelf
open Sc
structure JTk (k r:Nat) (c:ACo) (R:RCo):Prop where
 rel:CRel c R
 lim:c.next≤c.limit∧c.limit≤c.next+16
 nxt:1≤R.next∧R.next≤k+1
 tks:c.ticks≤21*k+r
 out:R.out.length≤8*k
 res:R.res.length≤k
structure JTq (k r:Nat) (c:ACo) (R:RCo):Prop where
 rel:CRel c R
 lim:c.next≤c.limit∧c.limit≤c.next+16
 nxt:1≤R.next∧R.next≤k+1
 tks:c.ticks≤21*k+r
 out:R.out.length≤8*k+96
 res:R.res.length≤k+12
theorem tick_limit (l:List (Nat × ATx)):∀ c:ACo,(l.foldl ACo.tickOne c).limit=c.limit∧(l.foldl ACo.tickOne c).next=c.next:=by
 induction l with
 | nil=>intro c;exact ⟨rfl,rfl⟩
 | cons x r ih =>
  intro c
  rw [List.foldl_cons]
  have e:(c.tickOne x).limit=c.limit∧(c.tickOne x).next=c.next:=by
   unfold ACo.tickOne ACo.aborted
   split
   ·split <;> exact ⟨rfl,rfl⟩
   ·split <;> exact ⟨rfl,rfl⟩
  exact ⟨(ih _).1.trans e.1,(ih _).2.trans e.2⟩
section
variable {k r:Nat} {c:ACo} {R:RCo}
theorem Jd.tk (h:Jd k c R):JTk k 0 c R:=⟨h.rel,h.lim,h.nxt,by have:=h.tks;omega,h.out,h.res⟩
theorem JTk.mono (h:JTk k r c R) {s:Nat} (hs:r≤s):JTk k s c R:=⟨h.rel,h.lim,h.nxt,by have:=h.tks;omega,h.out,h.res⟩
theorem JTk.jd (h:JTk k r c R) (hr:r≤21):Jd (k+1) c R:=⟨h.rel,h.lim,by have:=h.nxt;omega,by have:=h.tks;omega,by have:=h.out;omega,by have:=h.res;omega⟩
theorem JTk.ids (h:JTk k r c R) (hk:k≤1000000):∀ x∈c.txns,x.2.since≤c.ticks∧x.1<18446744073709551616:=fun x hx=>by
 refine ⟨h.rel.sin x hx,?_⟩
 have:=alLook_of h.rel.o1 (k:=x.1) (v:=x.2) hx
 cases hd:dealAt R.deals x.1 with
 | none=>rw [h.rel.non _ hd] at this;cases this
 | some y =>
  obtain ⟨hm,e⟩:=dealAt_mem hd
  have h1:=(h.rel.ok y hm).2
  have h2:=h.nxt.2
  omega
theorem JTk.tick (h:JTk k r c R):JTq k (r+1) c.tick R.tick:=by
 have hl:=ticks_len (R.deals.map (·.id)) R h.rel.parts
 rw [List.length_map] at hl
 have h12:=h.rel.len
 have ht:=tick_limit (atX c.txns (keysU c.txns)) { c with ticks:=c.ticks+1 }
 have hk:=tick_ticks (atX c.txns (keysU c.txns)) { c with ticks:=c.ticks+1 }
 refine ⟨h.rel.tick,?_,?_,?_,?_,?_⟩
 ·unfold ACo.tick;rw [ht.1,ht.2];exact h.lim
 ·unfold RCo.tick;rw [hl.2.2];exact h.nxt
 ·unfold ACo.tick;rw [hk];have:=h.tks;simp only;omega
 ·unfold RCo.tick;have:=h.out;omega
 ·unfold RCo.tick;have:=h.res;omega
theorem JTq.asked (h:JTq k r c R):JTk k r { c with res:=[],out:=[] } { R with res:=[],out:=[] } :=
 ⟨⟨h.rel.asc,h.rel.som,h.rel.non,h.rel.ok,h.rel.len,h.rel.o1,h.rel.sin,h.rel.next,rfl,rfl⟩,h.lim,h.nxt,h.tks,by simp,by simp⟩
end
def jpk (c:Int) (n:Nat):Nat:=((if c<0 then -(c+1) else c) % (n:Int)).toNat
theorem jpk_lt (c:Int) (n:Nat) (h:0<n):jpk c n<n:=by
 unfold jpk
 have h1:=Int.emod_nonneg (if c<0 then -(c+1) else c) (show (n:Int)≠0 by omega)
 have h2:=Int.emod_lt_of_pos (if c<0 then -(c+1) else c) (show 0<(n:Int) by omega)
 omega
theorem jret_int {a b:Int} (h:a=b):Ending.returned (.int .i64 a)=.returned (.int .i64 b):=by rw [h]
set_option maxHeartbeats 400000 in
theorem jpick_fn (c:Int) (n:Nat) (w:World) (hc1:-9223372036854775808≤c) (hc2:c≤9223372036854775807) (hn:0<n) (hn2:n≤1099511627776) :
  Calls Tryz.prog 80 #[.int .i64 c,.int .i64 (n:Int)] w fun e w'=>e=.returned (.int .i64 (jpk c n:Int))∧w'=w:=by
 have hn0:¬ (n:Int)=0:=by omega
 by_cases h:c<0
 ·go_enter Tryz.func80,Tryz.ntmps80
  go_wp2
  go_ret
  have e:-(c+1).tmod (n:Int)=(-(c+1)) % (n:Int):=by
   rw [← Int.neg_tmod,Int.tmod_eq_emod_of_nonneg (by omega)]
  have h1:=Int.emod_nonneg (-(c+1)) hn0
  refine ⟨jret_int ?_,rfl⟩
  unfold jpk
  rw [e,if_pos h];omega
 ·go_enter Tryz.func80,Tryz.ntmps80
  go_wp2
  go_ret
  have h1:=Int.emod_nonneg c hn0
  refine ⟨jret_int ?_,rfl⟩
  unfold jpk
  rw [if_neg (by omega)];omega
section
variable [Inhabited Bs] (hp p cp gp bT lp bD bN m n jp mp k fst:Nat) (c:ACo) (l:ALog) (d:ADisk) (cv:Value) (cs:List Value) (S:List Nat) (R:RCo) (g:List (List Rec)) (w:World)
set_option maxRecDepth 100000 in
set_option maxHeartbeats 8000000 in
theorem jstep_tick (sq nn:Int) (txn x y:Nat) (key sv:ByteArray) (ao:Option Addr) (h:JIn w hp p cp gp bT lp bD bN m n c l d jp mp cv cs S R) (hmu:Mu l d fst g) (hdn:d.down=false) (hg:Jd k c R) (hbd:JBd m n k txn cs) (hmet:Met w) (hpow:Pows w) (hn1:-9223372036854775808≤nn) (hn2:nn≤9223372036854775807) :
  Calls Tryz.prog 44 #[.pointer (some ⟨jp,0,none⟩),jstepV 3 txn sq nn key sv ao x y (-1) (-1) 0 0] w fun e w'=>e=.returned (.bool true)∧JSt w w' hp p cp gp bT lp bD bN m n jp k fst cs:=by
 obtain ⟨hm,hn,hk,hcs,hB,ht⟩:=hbd
 obtain ⟨W,hW⟩:∃ W,W=w.alloc (jstepO 3 txn sq nn key sv ao x y (-1) (-1) 0 0):=⟨_,rfl⟩
 have hf0:Fr [] w W:=by rw [hW];exact (Fr.refl [] w).alloc _
 have hs0:W.heap[w.heap.size]?=some (jstepO 3 txn sq nn key sv ao x y (-1) (-1) 0 0):=by rw [hW];exact heap_alloc_new w _
 have J0:=h.new hf0
 have L0:=JFr.new hf0 h.size
 have hlen:=hg.rel.len
 have HD:=toHid (show ∀ x∈R.deals,x.parts.length≤1000 from fun x hx=>by have:=hg.rel.parts x hx;omega)
 have hres:=hg.res
 have hout:=hg.out
 have hnx:=hg.nxt
 have hcp:=kcopy_any mp S R W J0.ref (by omega) HD.out (by omega) (by omega)
 have k1:=blk_cell J0.kb 1
 simp at k1
 rw [hW] at k1
 have HG:=toHid hg
 have HMP:=toHid (And.intro hmet (And.intro hpow (And.intro hmu hdn)))
 have HJ0:=toHid (And.intro J0 (And.intro L0 hs0))
 clear h hg hs0 J0 L0 hf0 hmet hpow hmu hdn
 go_enter Tryz.func44,Tryz.ntmps44
 go_wp2_with fail
 rw [← hW]
 obtain ⟨bx,hbx⟩:∃ bx,bx=w.heap.size:=⟨_,rfl⟩
 rw [← hbx] at HJ0 ⊢
 clear hW hbx k1
 refine hcp.mono ?_
 rintro e W1 ⟨np,S2,rfl,hr1,hnew,hf1⟩
 clear hcp
 have J1:=HJ0.out.1.new hf1
 have hs1:W1.heap[bx]?=some (jstepO 3 txn sq nn key sv ao x y (-1) (-1) 0 0):=(hf1.block bx (Array.getElem?_eq_some_iff.1 HJ0.out.2.2).1 (by simp)).trans HJ0.out.2.2
 have L1:=HJ0.out.2.1.trans (JFr.new hf1 HJ0.out.1.size)
 have k1:=blk_cell J1.kb 1
 have z1:=blk_cell hs1 1
 simp at k1 z1
 have hst:∀ q:Nat,Calls Tryz.prog 89 #[.pointer (some ⟨mp,0,none⟩),.int .u64 (txn:Int)] (W1.drewN q) fun e w'=>e=.returned (.int .i64 ((((dealAt R.deals txn).map RDeal.st).getD 0:Nat):Int))∧∃ q',w'=(W1.drewN q).drewN q':=fun q=>by
  obtain ⟨xv,rv,ov,ps,hi,_⟩:=(J1.new ((Fr.refl [] W1).drewM q)).ref
  exact kstatus_any mp txn xv rv ov ps R _ hi (by rw [hi.len];omega)
 obtain ⟨st,hst0⟩:∃ st:Nat,st=((dealAt R.deals txn).map RDeal.st).getD 0:=⟨_,rfl⟩
 rw [← hst0] at hst
 have HST:=toHid hst0
 have HJ1:=toHid (And.intro J1 (And.intro L1 (And.intro hs1 (And.intro hr1 (HJ0.out.1.fresh hf1 hnew)))))
 clear J1 L1 hs1 hr1 hst0 hnew hf1 HJ0
 go_wp2
 go_quiet (first | (go_at_call 89;refine Calls.quiet_of (hst _)))
 clear hst k1 z1
 have hfq:Fr [] W1 (W1.drewN nq):=(Fr.refl [] W1).drewM nq
 have HJ:=toHid (HJ1.out.1.new hfq)
 have HLF:=toHid (HJ1.out.2.1.trans (JFr.new hfq HJ1.out.1.size))
 have HSB:=toHid (show (W1.drewN nq).heap[bx]?=some (jstepO 3 txn sq nn key sv ao x y (-1) (-1) 0 0) from (hfq.block bx (Array.getElem?_eq_some_iff.1 HJ1.out.2.2.1).1 (by simp)).trans HJ1.out.2.2.1)
 have HRN:=toHid (show RkN (W1.drewN nq) np S2 R∧(∀ q∈S2,q∉rd cp (W1.drewN nq)∧q∉S) from ⟨HJ1.out.2.2.2.1.frT hfq (by simp),fun q hq=>⟨fun hm2=>(HJ1.out.2.2.2.2 q hq).1 (by rw [(HJ1.out.1.host.law hfq (by simp)).2.2] at hm2;exact hm2),(HJ1.out.2.2.2.2 q hq).2⟩⟩)
 generalize W1.drewN nq=W2 at HJ HLF HSB HRN hfq ⊢
 clear hfq HJ1
 have k0:=blk_cell HJ.out.kb 0
 have k1:=blk_cell HJ.out.kb 1
 have f1:=blk_free HJ.out.kb 1
 have z0:=blk_cell HSB.out 0
 have z1:=blk_cell HSB.out 1
 have z2:=blk_cell HSB.out 2
 have z3:=blk_cell HSB.out 3
 have z4:=blk_cell HSB.out 4
 have z5:=blk_cell HSB.out 5
 have z6:=blk_cell HSB.out 6
 have z7:=blk_cell HSB.out 7
 have z8:=blk_cell HSB.out 8
 have z9:=blk_cell HSB.out 9
 have z10:=blk_cell HSB.out 10
 simp at k0 k1 z0 z1 z2 z3 z4 z5 z6 z7 z8 z9 z10
 have hpk:=jpick_fn nn 20 W2 hn1 hn2 (by decide) (by decide)
 have hpl:=jpk_lt nn 20 (by decide)
 obtain ⟨z,hz⟩:∃ z,z=jpk nn 20:=⟨_,rfl⟩
 rw [← hz] at hpk hpl
 clear hz
 go_wp2_with fail
 refine hpk.mono ?_
 rintro e w3 ⟨rfl,rfl⟩
 clear hpk k0 k1 f1 z0 z1 z2 z3 z4 z5 z6 z7 z8 z9 z10
 have H0:Hid (∃ m1 c1 S1 R1,m1≤m+120*(20 - ((z:Int)+1)).toNat∧JIn w3 hp p cp gp bT lp bD bN m1 n c1 l d jp mp cv cs S1 R1∧JTk k (19 - (z:Int)).toNat c1 R1∧JFr w w3):=⟨m,c,S,R,by omega,HJ.out,HG.out.tk.mono (by omega),HLF.out⟩
 go_wp2
 go_loopw [7] (fun i wr=>∃ j:Int,-1≤j∧j≤19∧i=.int .i64 j∧Hid (∃ m1 c1 S1 R1,m1≤m+120*(20 - (j+1)).toNat∧JIn wr hp p cp gp bT lp bD bN m1 n c1 l d jp mp cv cs S1 R1∧JTk k (19 - j).toNat c1 R1∧JFr w wr)) (fun i _=>(intOf i+1).toNat)
 case atStart=>exact ⟨(z:Int),by omega,by omega,rfl,H0⟩
 case round =>
  obtain ⟨j,hj1,hj2,rfl,m1,c1,S1,R1,hm1,K,hG,hL⟩:=hrel
  have k0:=blk_cell K.kb 0
  simp at k0
  by_cases hj0:0≤j
  ·have hti:=hTick_x B0 hp p cp gp bT lp bD bN m1 n c1 l d wr K.host (by rw [hG.rel.len_eq];exact hG.rel.len) (hG.ids (by omega)) (by have:=hG.tks;omega) (by omega)
   have H:=toHid (And.intro K (And.intro hG (And.intro hL hm1)))
   clear K hG hL hm1
   go_wp2_with fail
   refine hti.mono ?_
   rintro e w4 ⟨rfl,hH,hS⟩
   have K4:=H.out.1.cfr hH hS
   have L4:=H.out.2.2.1.trans (JFr.hostC H.out.1.host hS)
   have b1:=blk_cell K4.kb 1
   simp at b1
   have hri:=ktick_any mp S1 R1 w4 K4.ref H.out.2.1.rel.asc H.out.2.1.rel.len H.out.2.1.rel.parts (fun x hx h5=>by have:=((H.out.2.1.rel.ok x hx).1.vot h5).1;omega) (by have:=H.out.2.1.out;omega) (by have:=H.out.2.1.res;omega)
   have H4:=toHid (And.intro K4 L4)
   clear K4 L4 hH hS hti k0
   go_wp2_with fail
   refine hri.mono ?_
   rintro e w5 ⟨rfl,S5,hR5,hk5⟩
   have K5:=H4.out.1.kfr hk5 hR5
   have L5:=H4.out.2.trans (hk5.lfr H4.out.1.ref)
   have hT5:=H.out.2.1.tick
   have hak:=jasks_any hp p cp gp bT lp bD bN _ n jp mp _ l d cv cs S5 _ w5 K5 hT5.rel (by have:=hT5.res;omega) (by have:=hT5.out;omega)
   have HL5:=toHid (And.intro L5 hT5)
   clear hri b1 K5 L5 hT5 hR5 hk5
   go_wp2_with fail
   refine hak.mono ?_
   clear hak
   rintro e w6 ⟨rfl,S6,K6,L6⟩
   have H6:Hid (∃ m1 c1 S1 R1,m1≤m+120*(20 - (j - 1+1)).toNat∧JIn w6 hp p cp gp bT lp bD bN m1 n c1 l d jp mp cv cs S1 R1∧JTk k (19 - (j - 1)).toNat c1 R1∧JFr w w6):=⟨m1+120,_,S6,_,by have:=H.out.2.2.2;omega,K6,HL5.out.2.asked.mono (by omega),HL5.out.1.trans L6⟩
   clear K6 L6
   go_wp2
   go_roundw
   case rel=>exact ⟨j - 1,by omega,by omega,by go_num,H6⟩
   case measure=>simp [intOf];omega
  ·have hjm:j=-1:=by omega
   have HF:=toHid (show JSt w wr hp p cp gp bT lp bD bN m n jp k fst cs from ⟨⟨m1,n,c1,l,d,g,mp,cv,cs,S1,R1,by omega,by omega,by omega,K,HMP.out.2.2.1,HMP.out.2.2.2,hG.jd (by omega)⟩,hL⟩)
   clear K hG hL hm1
   go_wp2
   go_ret
   exact ⟨rfl,HF.out⟩
end
theorem coPre_none {B p bD bN n nD:Nat} {pv:Value} {d:ADisk} {w:World} (ys:List Nat) (hd:DiskIn w B p bD bN pv d n nD 0) (hno:∀ k,d.now k=none) (hdu:d.durable=d.now) (hpe:d.pending=[]) (hw:d.Well 0):CoPre ys B p bD bN n ((log0 1).opens d) w:=by
 obtain ⟨o1,o2,o3,o4,o5⟩:=One.first hno hdu hpe hw
 refine { disk:=⟨_,_,_,_,hd⟩,jop:=fun W hW=>jopen_empty B p bD bN n nD pv d W (hd.new hW) hw.up (hno _) o1,plain:=?_,first:=?_,byt:=?_,ents:=?_,num:=hd.hn }
 ·rw [o3];intro r hr;cases hr
 ·rw [o3,o4];rfl
 ·rw [o3];intro r hr;cases hr
 ·rw [o3];exact .none
theorem jOpen0 (hp p bD bN B:Nat) (w:World) (hh:w.heap[hp]?=some (hostC p false (.pointer none))) (h:DiskIn w B p bD bN (.slice none 0 0) ⟨fun _=>none,fun _=>none,[],-1,-1,false⟩ 10 0 0) (hB:2≤B) (hhp:B≤hp) (hmet:Met w) :
  Calls Tryz.prog 17 #[.pointer (some ⟨hp,0,none⟩),jwellV] w fun e w'=>e=.returned (.int .i64 0)∧(∃ l d,HCt w' B hp 0 10 ⟨[],1,1,0,[],[]⟩ l d∧One l d [])∧IFr B w w':=by
 have hw:ADisk.Well ⟨fun _=>none,fun _=>none,[],-1,-1,false⟩ 0:=⟨rfl,by decide,by decide⟩
 obtain ⟨o1,o2,o3,o4,o5⟩:=One.first (d:=⟨fun _=>none,fun _=>none,[],-1,-1,false⟩) (fun _=>rfl) rfl rfl hw
 refine (hOpen_c B hp p bD bN 10 0 0 _ _ (-1) (-1) 0 0 [] ((log0 1).opens ⟨fun _=>none,fun _=>none,[],-1,-1,false⟩) w hh h hB hhp hmet (fun W hW _=>coPre_none [] hW (fun _=>rfl) rfl rfl hw) o2).mono ?_
 rintro e w' ⟨rfl,hs,hf⟩
 rw [o3] at hs
 exact ⟨rfl,⟨_,_,hs,o5⟩,hf⟩
theorem jmu0 {l:ALog} {d:ADisk} (h:One l d []):Mu l d 0 []:=by
 rcases h.file with ⟨_,sg,fi,no⟩ | ⟨ne,_⟩
 ·refine { ok:={ fail:=h.failed,segs:=by rw [sg];rfl,recs:=by rw [h.recs];rfl,next:=by rw [h.next];rfl,nums:=by simp,ne:=by simp,size:=by simp,none:=fun _=>fi,fill:=by simp,files:=by rw [sg];simp },now:=?_,con:=by unfold ADisk.Con;rw [h.pen,h.dur];rfl,dur:=Nat.le_of_eq h.durN,fine:=by simp }
  funext k
  rw [no];rfl
 ·exact absurd rfl ne
set_option maxHeartbeats 1000000 in
theorem jwell_fn (w:World):Calls Tryz.prog 16 #[] w fun e w'=>e=.returned jwellV∧Fr [] w w':=by
 go_enter Tryz.func16,Tryz.ntmps16
 go_wp2
 exact bodyPost_ret (v:=jwellV) (by simp [results,Tryz.results16,go_sem]) rfl ⟨rfl,(Fr.refl [] w).alloc _⟩
set_option maxRecDepth 100000 in
set_option maxHeartbeats 2000000 in
theorem jIs_x (B hp p cp gp bT lp bD bN m n:Nat) (c:ACo) (l:ALog) (d:ADisk) (w:World) (h:HCx w B hp p cp gp bT lp bD bN m n c l d) :
  Calls Tryz.prog 32 #[.pointer (some ⟨hp,0,none⟩)] w fun e w'=>e=.returned (.bool true)∧w'=w:=by
 have c3:=blk_cell h.1 3
 simp at c3
 clear h
 go_enter Tryz.func32,Tryz.ntmps32
 go_wp2
 go_ret
 exact ⟨rfl,rfl⟩
section
variable [Inhabited Bs] (hp p cp gp bT lp bD bN m n jp mp k fst:Nat) (c:ACo) (l:ALog) (d:ADisk) (cv:Value) (cs:List Value) (S:List Nat) (R:RCo) (g:List (List Rec)) (w:World)
theorem jstep_all (kd sq nn:Int) (txn x y:Nat) (key sv:ByteArray) (ao:Option Addr) (zs:List Int) (h:JIn w hp p cp gp bT lp bD bN m n c l d jp mp cv cs S R) (hmu:Mu l d fst g) (hdn:d.down=false) (hg:Jd k c R) (hbd:JBd m n k txn cs) (hmet:Met w) (hpow:Pows w) (h2:kd≠2) (hn1:-9223372036854775808≤nn) (hn2:nn≤9223372036854775807) (hz:ZsIn w ao zs) (hz0:zs=[]→(ao=none∧y=0)∨∃ ad:Addr,ao=some ad) (hxz:x=zs.length) (hzl:zs.length≤16384) :
  Calls Tryz.prog 44 #[.pointer (some ⟨jp,0,none⟩),jstepV kd txn sq nn key sv ao x y (-1) (-1) 0 0] w fun e w'=>e=.returned (.bool true)∧JSt w w' hp p cp gp bT lp bD bN m n jp k fst cs:=by
 by_cases h3:kd=3
 ·subst h3;exact jstep_tick hp p cp gp bT lp bD bN m n jp mp k fst c l d cv cs S R g w sq nn txn x y key sv ao h hmu hdn hg hbd hmet hpow hn1 hn2
 by_cases h13:kd=13
 ·subst h13;exact jstep_begin hp p cp gp bT lp bD bN m n jp mp k fst c l d cv cs S R g w sq nn txn x y key sv ao h hmu hdn hg hbd hmet hpow
 by_cases h14:kd=14
 ·subst h14;exact jstep_commit hp p cp gp bT lp bD bN m n jp mp k fst c l d cv cs S R g w sq nn txn x y key sv ao h hmu hdn hg hbd hmet hpow zs hz hz0 hxz hzl
 by_cases h15:kd=15
 ·subst h15;exact jstep_abort hp p cp gp bT lp bD bN m n jp mp k fst c l d cv cs S R g w sq nn txn x y key sv ao h hmu hdn hg hbd hmet hpow
 by_cases h16:kd=16
 ·subst h16;exact jstep_vote hp p cp gp bT lp bD bN m n jp mp k fst c l d cv cs S R g w sq nn txn x y key sv ao h hmu hdn hg hbd hmet hpow
 by_cases h17:kd=17
 ·subst h17;exact jstep_done hp p cp gp bT lp bD bN m n jp mp k fst c l d cv cs S R g w sq nn txn x y key sv ao h hmu hdn hg hbd hmet hpow
 by_cases h18:kd=18
 ·subst h18;exact jstep_out hp p cp gp bT lp bD bN m n jp mp k fst c l d cv cs S R g w sq nn txn x y key sv ao h hmu hdn hg hbd hmet hpow
 exact jstep_none hp p cp gp bT lp bD bN m n jp mp k fst c l d cv cs S R g w kd sq nn txn x y key sv ao h hmu hdn hg hbd hmet hpow h2 h3 h13 h14 h15 h16 h17 h18
end
section
variable [Inhabited Bs] {w w' w2:World} {hp p cp gp bT lp bD bN m n jp mp mr:Nat} {c:ACo} {l:ALog} {d:ADisk} {cv:Value} {cs:List Value} {S:List Nat} {R:RCo}
theorem JIy.stepT (h:JIy w hp p cp gp bT lp bD bN m n c l d jp mp mr cv cs S R) {q:Nat} {cc:Array Value} (hf:Fr [q] w w') (hq:w.heap[q]?=some (.cells cc 64 (0,0))):JIy w' hp p cp gp bT lp bD bN m n c l d jp mp mr cv cs S R:=by
 have hne:jp∉[q]:=fun hm=>by simp at hm;subst hm;exact jcne (by decide) (h.kb.symm.trans hq)
 refine h.law hf (fun k hk _=>?_) ((hf.block jp (Array.getElem?_eq_some_iff.1 h.kb).1 hne).trans h.kb) (h.ref.frT hf fun k hk hm=>?_) (ownsRow_fr h.cands hf fun g hg hm=>?_) h.apart
 ·simp at hk;subst hk
  exact h.host.lw hq (by decide) (by decide) (by decide) (by decide) (by decide) (by decide) (by decide) (by decide) (by decide) (by decide) (by decide)
 ·simp at hm;subst hm
  obtain ⟨_,_,c2,t,e,ht⟩:=h.ref.kinds hk
  rw [hq] at e
  rcases ht with rfl | rfl | rfl | rfl | rfl <;> exact jcne (by decide) e
 ·simp at hm;subst hm
  exact own_ne h.cands hq (by decide) hg
def JQs (w0 w:World) (hp jp k:Nat):Prop:=∃ (p cp gp bT lp bD bN m n:Nat) (c:ACo) (l:ALog) (d:ADisk) (fst mp:Nat) (g:List (List Rec)) (cv:Value) (cs:List Value) (S:List Nat) (R:RCo),JIn w hp p cp gp bT lp bD bN m n c l d jp mp cv cs S R∧Mu l d fst g∧d.down=false∧m≤3000*k∧n≤10+3*k∧cs.length≤k+1∧Jd k c R∧Below B0 w0 w
theorem JIn.first (h:HCx w B0 hp p cp gp bT lp bD bN m n c l d) (hr:RkN w mp [mp] R) (hm:mp∉rd cp w) (hB:B0≤w.heap.size):JIn (w.alloc (judO hp mp (.slice none 0 0))) hp p cp gp bT lp bD bN m n c l d w.heap.size mp (.slice none 0 0) [] [mp] R:=by
 have hf:Fr [] w (w.alloc (judO hp mp (.slice none 0 0))):=(Fr.refl [] w).alloc _
 refine ⟨(h.new hf).1,hB,heap_alloc_new w _,hr.frT hf (by simp),World.ownsRow_nil _ _ _ _,fun q hq hm2=>?_⟩
 rw [(h.law hf (by simp)).2.2] at hm2
 simp at hq
 subst hq
 exact hm hm2
end
theorem jone_row {w:World} {B:Nat} {e:TypeId} {x:Value} (hB:B≤w.heap.size):(w.alloc (.cells #[x] e)).ownsRow B e 1 (.slice (some ⟨w.heap.size,0,none⟩) 1 1) 1 [x] :=
 ⟨rfl,.inr ⟨_,1,#[x],rfl,hB,heap_alloc_new w _,Nat.le_refl _,by unfold maxLen;decide,rfl,rfl⟩⟩
set_option maxRecDepth 100000 in
set_option maxHeartbeats 16000000 in
theorem coords_any [Inhabited Bs] (v:Value) (L:List AStep) (w:World) (hB0:w.heap.size=B0) (h:StepsAt w v L) (hbn:∀ (i:Nat) (a:AStep),L[i]?=some a→(a.txn<18446744073709551616∧-9223372036854775808≤a.nn∧a.nn≤9223372036854775807)∧ShardsAt w a) (hmet:Met w) (hpow:Pows w) (hB:2≤(B0:Nat)) :
  Calls Tryz.prog 14 #[v,.bool false] w fun e w'=>e=.returned (.bool true)∧Below B0 w w':=by
 have hsm:=small_any v L w h
 have HST:Hid (StepsAt w v L):=h
 have HBN:=toHid hbn
 have HB0:=toHid hB0
 obtain ⟨hlen,ao,cap,rfl,hc⟩:=h
 obtain ⟨m,hm⟩:∃ m,m=L.length:=⟨_,rfl⟩
 rw [← hm] at hlen hsm ⊢
 have HM:Hid (m=L.length):=hm
 have HMP:Hid (Met w∧Pows w):=⟨hmet,hpow⟩
 clear hm hc hbn hB0
 by_cases hbig:m+sumW L≤16384
 ·rw [decide_eq_true hbig] at hsm
  have HBIG:Hid (m+sumW L≤16384):=hbig
  have HSM:=toHid hsm
  clear hsm hmet hpow
  by_cases h400:400<m
  ·have d400:decide ((400:Int)<(m:Int))=true:=decide_eq_true (by omega)
   go_enter Tryz.func14,Tryz.ntmps14
   go_wp2_with fail
   refine HSM.out.mono ?_
   rintro e w1 ⟨rfl,q,rfl⟩
   go_wp2
   go_ret
   exact ⟨rfl,(Fr.refl [] w).drewM q |>.below (Nat.le_of_eq HB0.out.symm) (by simp)⟩
  have d400:decide ((400:Int)<(m:Int))=false:=decide_eq_false (by omega)
  go_enter Tryz.func14,Tryz.ntmps14
  go_wp2_with fail
  refine HSM.out.mono ?_
  rintro e w1 ⟨rfl,q,rfl⟩
  have hb1:Below B0 w (w.drewN q):=(Fr.refl [] w).drewM q |>.below (Nat.le_of_eq HB0.out.symm) (by simp)
  have hsz1:(w.drewN q).heap.size=B0:=by rw [← HB0.out];simp
  have hnh:=newHost_c (w.drewN q) 10 (by decide)
  rw [hsz1] at hnh
  go_wp2_with fail
  refine hnh.mono ?_
  rintro e w2 ⟨hp,p,bD,bN,rfl,hh2,hd2,hhp,hb2⟩
  have hb02:Below B0 w w2:=hb1.trans hb2
  have H2:=toHid (And.intro hh2 (And.intro hd2 (And.intro hhp (And.intro hb02 (And.intro (HMP.out.1.below hb02 (by omega)) (HMP.out.2.of_block (hb02.block 1 (by omega))))))))
  clear hh2 hd2 hb2 hb02 hb1 hsz1 hnh hhp
  go_wp2_with fail
  refine (jwell_fn w2).mono ?_
  rintro e w3 ⟨rfl,hf3⟩
  have hb3:Below B0 w2 w3:=hf3.below (Nat.le_trans (Nat.le_of_eq HB0.out.symm) H2.out.2.2.2.1.size) (by simp)
  have hh3:w3.heap[hp]?=some (hostC p false (.pointer none)):=(hf3.block hp (Array.getElem?_eq_some_iff.1 H2.out.1).1 (by simp)).trans H2.out.1
  have hop:=jOpen0 hp p bD bN B0 w3 hh3 (H2.out.2.1.new hf3) hB H2.out.2.2.1 (H2.out.2.2.2.2.1.below hb3 (by omega))
  have HB3:=toHid (H2.out.2.2.2.1.trans hb3)
  clear hh3 hf3 hb3
  go_wp2_with fail
  refine hop.mono ?_
  rintro e w4 ⟨rfl,⟨l0,d0,hHC,hO⟩,hf4⟩
  obtain ⟨p',cp,gp,bT,lp,bD',bN',X4⟩:=hHC.named
  have H4:=toHid (And.intro X4 (And.intro hO (HB3.out.trans hf4.below)))
  have his:=jIs_x B0 hp p' cp gp bT lp bD' bN' 0 10 _ l0 d0 w4 X4
  clear hop X4 hO hHC hf4 HB3 H2
  go_wp2_with fail
  refine his.mono ?_
  rintro e w5 ⟨rfl,rfl⟩
  clear his
  have hBw:B0≤w5.heap.size:=Nat.le_trans (Nat.le_of_eq HB0.out.symm) H4.out.2.2.size
  have hkn:=knew_any w5 hBw
  go_wp2_with fail
  refine hkn.mono ?_
  rintro e w6 ⟨rfl,hr6,hf6⟩
  clear hkn
  obtain ⟨mp,hmp⟩:∃ mp,mp=w5.heap.size:=⟨_,rfl⟩
  rw [← hmp] at hr6 ⊢
  have X6:=(H4.out.1.new hf6).1
  have hnr:mp∉rd cp w6:=fun hm2=>by
   rw [(H4.out.1.law hf6 (by simp)).2.2] at hm2
   obtain ⟨_,cc,t,e9,_⟩:=H4.out.1.2.co.rdm hm2
   have:=(Array.getElem?_eq_some_iff.1 e9).1
   omega
  have hB6:B0≤w6.heap.size:=Nat.le_trans hBw hf6.size
  have K6:=JIn.first X6 hr6 hnr hB6
  obtain ⟨jp,hjp⟩:∃ jp,jp=w6.heap.size:=⟨_,rfl⟩
  obtain ⟨W6,hW6⟩:∃ W6,W6=w6.alloc (judO hp mp (.slice none 0 0)):=⟨_,rfl⟩
  have hW6':W6=w6.alloc (.cells #[.pointer (some ⟨hp,0,none⟩),.pointer (some ⟨mp,0,none⟩),.slice none 0 0,.int .u64 0,.bool false,.bool false] 82):=hW6
  rw [← hW6,← hjp] at K6
  have hb6:Below B0 w W6:=by rw [hW6];exact ((H4.out.2.2.trans (hf6.below hBw (by simp))).alloc hB6 _)
  have hcp:=kcopy_any mp [mp] ⟨[],1,[],[]⟩ W6 K6.ref (by simp) (by simp) (by simp) (by simp)
  have H6:=toHid (And.intro K6 hb6)
  have k1:=blk_cell K6.kb 1
  simp at k1
  rw [hW6'] at k1
  clear K6 hb6 hW6 X6 hnr hB6 hr6 hf6 hmp hBw
  rw [hjp] at k1
  go_wp2_with fail
  rw [← hW6',← hjp]
  clear hW6' hjp k1
  refine hcp.mono ?_
  rintro e w7 ⟨cq,SQ,rfl,hrc,hge,hf7⟩
  have K7:=H6.out.1.new hf7
  have hb7:Below B0 w w7:=H6.out.2.trans (hf7.below H6.out.1.size (by simp))
  have hkl:jp<w7.heap.size:=(Array.getElem?_eq_some_iff.1 K7.kb).1
  have k1:=blk_cell K7.kb 1
  have k2:=blk_cell K7.kb 2
  have f2:=blk_free K7.kb 2
  simp at k1 k2
  obtain ⟨K8,L8⟩:=K7.setC (cv':=.slice (some ⟨w7.heap.size,0,none⟩) 1 1) (cs':=[.pointer (some ⟨cq,0,none⟩)]) ((Fr.refl _ w7).alloc _) (jone_row K7.size)
  have hlk:=jlooks_any hp p' cp gp bT lp bD' bN' 0 10 jp mp mp _ l0 d0 _ _ [mp] ⟨[],1,[],[]⟩ _ K8 Jd.first.rel (by decide)
  have H8:=toHid (And.intro K8 (hb7.trans L8.below))
  rw [World.setCell_alloc_past _ _ _ _ hkl] at hlk H8
  clear hcp hrc hge hf7 K7 hb7 K8 L8
  go_wp2_with fail
  refine hlk.mono ?_
  rintro e w9 ⟨rfl,q9,rfl⟩
  have H9:Hid (JQs w (((w7.setCell ⟨jp,2,none⟩ (.slice (some ⟨w7.heap.size,0,none⟩) 1 1)).alloc (.cells #[.pointer (some ⟨cq,0,none⟩)] 78)).drewN q9) hp jp 0):=⟨p',cp,gp,bT,lp,bD',bN',0,10,_,l0,d0,0,mp,[],_,_,[mp],⟨[],1,[],[]⟩,H8.out.1.new ((Fr.refl [] _).drewM q9),jmu0 H4.out.2.1,H4.out.2.1.well.up,by omega,by omega,by simp,Jd.first,H8.out.2.trans (((Fr.refl [] _).drewM q9).below H8.out.1.size (by simp))⟩
  clear hlk H8 H6 H4 k1 k2 f2 hkl
  go_wp2
  go_loopw [5,8,10] (fun ok is i wr=>∃ k:Nat,k≤m∧ok=.bool true∧is=.bool true∧i=.int .i64 (k:Int)∧Hid (JQs w wr hp jp k)) (fun _ _ i _=>m - (intOf i).toNat)
  case atStart=>exact ⟨0,Nat.zero_le _,rfl,rfl,rfl,H9⟩
  case round =>
   obtain ⟨k,hkm,rfl,rfl,rfl,HK⟩:=hrel
   by_cases hlt:k<m
   ·obtain ⟨a,ha⟩:∃ a,L[k]?=some a:=⟨_,List.getElem?_eq_getElem (by have:=HM.out;omega)⟩
    obtain ⟨_,ao',cap',e',hcc⟩:=HST.out
    obtain ⟨⟨b0,off,rfl,hb0,hcell⟩,z1,z2,z3⟩:=hcc k a ha
    cases e'
    rw [HB0.out] at hb0
    obtain ⟨p,cp,gp,bT,lp,bD,bN,m1,n1,c1,l1,d1,fst,mp1,g1,cv,cs,S1,R,hKI,hMu,hdn,hm1,hn1,hcs,hJd,hbl⟩:=HK.out
    have hcell':=hcell.below hbl hb0
    obtain ⟨c0,c1',c2,c3,c4,c5,c6,c7,c8,c9,c10⟩:=hcell'
    have hst:=sumW_take L (k+1)
    have hsn:=sumW_snoc ha
    have HW:Hid (a.sx≤16384):=by
     have h1:=HBIG.out
     have h2:a.wt=a.key.size+a.s.size+a.sx:=rfl
     show _≤_
     omega
    have HBA:=toHid (HBN.out k a ha)
    have HB:=toHid (And.intro hKI (And.intro hMu (And.intro hdn (And.intro hm1 (And.intro hn1 (And.intro hcs (And.intro hJd hbl)))))))
    clear hcell hcc hsn hst hKI hMu hdn hm1 hn1 hcs hJd hbl HK
    have i1:(k:Int)<(m:Int):=by omega
    obtain ⟨kd,txn,sq,nn,key,s,sa,sx,sy,f1,f2,f3,f4⟩:=a
    simp only at c0 c1' c2 c3 c4 c5 c6 c7 c8 c9 c10 z1 z2 z3 HW HBA
    have hskip:∀ w',Fr [] wr w'→JQs w w' hp jp (k+1):=fun w' hw'=>⟨p,cp,gp,bT,lp,bD,bN,m1,n1,c1,l1,d1,fst,mp1,g1,cv,cs,S1,R,HB.out.1.new hw',HB.out.2.1,HB.out.2.2.1,by have:=HB.out.2.2.2.1;omega,by have:=HB.out.2.2.2.2.1;omega,by have:=HB.out.2.2.2.2.2.1;omega,HB.out.2.2.2.2.2.2.1.mono (by omega),HB.out.2.2.2.2.2.2.2.trans (hw'.below HB.out.1.size (by simp))⟩
    have HSK:=toHid hskip
    clear hskip
    by_cases hk1:kd=1
    ·subst hk1
     go_wp2
     go_roundw
     case rel=>exact ⟨k+1,by omega,rfl,rfl,by go_num,HSK.out _ ((Fr.refl [] wr).alloc _)⟩
     case measure=>simp [intOf];omega
    by_cases hk2:kd=2
    ·subst hk2
     go_wp2
     go_roundw
     case rel=>exact ⟨k+1,by omega,rfl,rfl,by go_num,HSK.out _ ((Fr.refl [] wr).alloc _)⟩
     case measure=>simp [intOf];omega
    have hk1':(kd == 1)=false:=by simpa using hk1
    have hk2':(kd == 2)=false:=by simpa using hk2
    obtain ⟨bx,hbx⟩:∃ bx,bx=wr.heap.size:=⟨_,rfl⟩
    obtain ⟨Wa,hWa⟩:∃ Wa,Wa=wr.alloc (jstepO kd txn sq nn key s sa sx sy f1 f2 f3 f4):=⟨_,rfl⟩
    have hfa:Fr [] wr Wa:=by rw [hWa];exact (Fr.refl [] wr).alloc _
    have hsa:Wa.heap[bx]?=some (jstepO kd txn sq nn key s sa sx sy f1 f2 f3 f4):=by rw [hWa,hbx];exact heap_alloc_new wr _
    have hBb:B0≤bx:=by rw [hbx];exact HB.out.1.size
    have HA:=toHid (And.intro (HB.out.1.new hfa) (And.intro hsa (HB.out.2.2.2.2.2.2.2.trans (hfa.below HB.out.1.size (by simp)))))
    clear hfa hsa
    go_wp2_with fail
    rw [← hWa,← hbx]
    clear hWa hbx c0 c1' c2 c3 c4 c5 c6 c7 c8 c9 c10
    refine (jwell_fn Wa).mono ?_
    rintro e w8 ⟨rfl,hf8⟩
    have K8:=HA.out.1.new hf8
    have hs8:w8.heap[bx]?=some (jstepO kd txn sq nn key s sa sx sy f1 f2 f3 f4):=(hf8.block _ (Array.getElem?_eq_some_iff.1 HA.out.2.1).1 (by simp)).trans HA.out.2.1
    have hb8:Below B0 w w8:=HA.out.2.2.trans (hf8.below HA.out.1.size (by simp))
    have x7:=blk_cell hs8 7
    have x8:=blk_cell hs8 8
    have x9:=blk_cell hs8 9
    have x10:=blk_cell hs8 10
    have g7:=blk_free hs8 7
    have g8:=blk_free hs8 8
    have g9:=blk_free hs8 9
    have g10:=blk_free hs8 10
    simp at x7 x8 x9 x10
    have hne:¬ jp=bx:=by intro e;have:=K8.kb;rw [e,hs8] at this;cases this
    have hne2:¬ bx=jp:=fun e=>hne e.symm
    obtain ⟨Wc,hWc⟩:∃ Wc,Wc=(((w8.setCell ⟨bx,7,none⟩ (.int .i64 (-1))).setCell ⟨bx,8,none⟩ (.int .i64 (-1))).setCell ⟨bx,9,none⟩ (.int .i64 0)).setCell ⟨bx,10,none⟩ (.int .i64 0):=⟨_,rfl⟩
    have hfc:Fr [bx] w8 Wc:=by rw [hWc];exact (((Fr.set1 (by simp) _ _).trans (Fr.set1 (by simp) _ _)).trans (Fr.set1 (by simp) _ _)).trans (Fr.set1 (by simp) _ _)
    have hsc:Wc.heap[bx]?=some (jstepO kd txn sq nn key s sa sx sy (-1) (-1) 0 0):=by
     rw [hWc];have:=blk_set (blk_set (blk_set (blk_set hs8 7 (.int .i64 (-1))) 8 (.int .i64 (-1))) 9 (.int .i64 0)) 10 (.int .i64 0);simp at this;exact this
    have Kc:=K8.stepT hfc hs8
    have hbc:Below B0 w Wc:=hb8.trans (hfc.below K8.size (by intro j hj;simp at hj;rw [hj];exact hBb))
    obtain ⟨Kd,Ld⟩:=Kc.setS (i:=4) (u:=.bool false) (.inr ⟨rfl,rfl⟩)
    obtain ⟨Wd,hWd⟩:∃ Wd,Wd=Wc.setCell ⟨jp,4,none⟩ (.bool false):=⟨_,rfl⟩
    rw [← hWd] at Kd Ld
    have hsd:=Ld.step _ _ hsc
    have y3:=blk_cell Kc.kb 4
    have gy3:=blk_free Kc.kb 4
    have u7:=blk_cell hsc 7
    have u8:=blk_cell hsc 8
    simp at y3 u7 u8
    have HDD:=toHid (And.intro Kd (And.intro hsd (hbc.trans Ld.below)))
    clear Kc Kd Ld hsd hbc hfc hsc K8 hs8 hb8 hf8 hk1 hk1' hk2' z1 z2 z3 hb0
    go_upto_region 21 with fail
    rw [← hWc]
    clear hWc x7 x8 x9 x10 g7 g8 g9 g10
    go_upto_region 22 with fail
    rw [← hWd]
    clear hWd y3 gy3 u7 u8
    have sc0:=blk_cell HDD.out.2.1 0
    have sc1:=blk_cell HDD.out.2.1 1
    have sc2:=blk_cell HDD.out.2.1 2
    have sc3:=blk_cell HDD.out.2.1 3
    have sc4:=blk_cell HDD.out.2.1 4
    have sc5:=blk_cell HDD.out.2.1 5
    have sc6:=blk_cell HDD.out.2.1 6
    have sc7:=blk_cell HDD.out.2.1 7
    have sc8:=blk_cell HDD.out.2.1 8
    have sc9:=blk_cell HDD.out.2.1 9
    have sc10:=blk_cell HDD.out.2.1 10
    simp at sc0 sc1 sc2 sc3 sc4 sc5 sc6 sc7 sc8 sc9 sc10
    have hkk:k≤400:=by omega
    obtain ⟨zs,hz1,hz2,hz3⟩:=HBA.out.2
    simp only at hz1 hz2 hz3
    have hsp:=jstep_all hp p cp gp bT lp bD bN m1 n1 jp mp1 k fst c1 l1 d1 cv cs S1 R g1 Wd kd sq nn txn sx sy key s sa zs HDD.out.1 HB.out.2.1 HB.out.2.2.1 HB.out.2.2.2.2.2.2.1 ⟨by have:=HB.out.2.2.2.1;omega,by have:=HB.out.2.2.2.2.1;omega,by omega,by have:=HB.out.2.2.2.2.2.1;omega,hB,HBA.out.1.1⟩ (HMP.out.1.below HDD.out.2.2 (by omega)) (HMP.out.2.of_block (HDD.out.2.2.block 1 (by omega))) hk2 HBA.out.1.2.1 HBA.out.1.2.2 (hz2.below HDD.out.2.2) hz3 hz1 (by have:=HW.out;omega)
    clear hkk hk2 hz1 hz2 hz3
    go_wp2_with fail
    refine hsp.mono ?_
    rintro e w9 ⟨rfl,hSt⟩
    obtain ⟨m2,n2,c2',l2,d2,g2,mp2,cv2,cs2,S2,R2,r1,r2,r3,K9,M9,D9,G9⟩:=hSt.jin
    have k1:=blk_cell K9.kb 1
    simp at k1
    have his:=jIs_x B0 hp p cp gp bT lp bD bN m2 n2 c2' l2 d2 w9 K9.host
    have hlk:=jlooks_any hp p cp gp bT lp bD bN m2 n2 jp mp2 mp2 c2' l2 d2 cv2 cs2 S2 R2 w9 K9 G9.rel (by have:=G9.nxt;omega)
    have H9':=toHid (And.intro r1 (And.intro r2 (And.intro r3 (And.intro K9 (And.intro M9 (And.intro D9 (And.intro G9 (HDD.out.2.2.trans hSt.fr.below))))))))
    clear hsp hSt r1 r2 r3 K9 M9 D9 G9 sc0 sc1 sc2 sc3 sc4 sc5 sc6 sc7 sc8 sc9 sc10
    go_wp2_with fail
    refine his.mono ?_
    rintro e w10 ⟨rfl,hw10⟩
    subst hw10
    clear his
    go_wp2_with fail
    refine hlk.mono ?_
    rintro e w11 ⟨rfl,q11,rfl⟩
    have HF:Hid (JQs w (w10.drewN q11) hp jp (k+1)):=⟨p,cp,gp,bT,lp,bD,bN,m2,n2,c2',l2,d2,fst,mp2,g2,cv2,cs2,S2,R2,H9'.out.2.2.2.1.new ((Fr.refl [] w10).drewM q11),H9'.out.2.2.2.2.1,H9'.out.2.2.2.2.2.1,by have:=H9'.out.1;have:=HB.out.2.2.2.1;omega,by have:=H9'.out.2.1;have:=HB.out.2.2.2.2.1;omega,by have:=H9'.out.2.2.1;have:=HB.out.2.2.2.2.2.1;omega,H9'.out.2.2.2.2.2.2.1,H9'.out.2.2.2.2.2.2.2.trans (((Fr.refl [] w10).drewM q11).below H9'.out.2.2.2.1.size (by simp))⟩
    clear hlk k1
    go_wp2
    go_roundw
    case rel=>exact ⟨k+1,by omega,rfl,rfl,by go_num,HF⟩
    case measure=>simp [intOf];omega
   ·go_wp2
    go_ret
    obtain ⟨p,cp,gp,bT,lp,bD,bN,m1,n1,c1,l1,d1,fst,mp1,g1,cv,cs,S1,R,hKI,hMu,hdn,hm1,hn1,hcs,hJd,hbl⟩:=HK.out
    exact ⟨rfl,hbl⟩
 ·rw [decide_eq_false hbig] at hsm
  have HSM:=toHid hsm
  clear hsm
  go_enter Tryz.func14,Tryz.ntmps14
  go_wp2_with fail
  refine HSM.out.mono ?_
  rintro e w1 ⟨rfl,q,rfl⟩
  go_wp2
  go_ret
  exact ⟨rfl,(Fr.refl [] w).drewM q |>.below (Nat.le_of_eq HB0.out.symm) (by simp)⟩
set_option maxRecDepth 100000 in
set_option maxHeartbeats 1000000 in
theorem coordinated_any (v:Value) (L:List AStep) (w:World) (h:StepsAt w v L) (hbn:∀ (i:Nat) (a:AStep),L[i]?=some a→(a.txn<18446744073709551616∧-9223372036854775808≤a.nn∧a.nn≤9223372036854775807)∧@ShardsAt ⟨⟨w.heap.size⟩⟩ w a) (hmet:Met w) (hpow:Pows w) (hB:2≤w.heap.size) :
  Calls Tryz.prog 7 #[v] w fun e w'=>e=.returned (.bool true)∧Below w.heap.size w w':=by
 have HC:Hid (Calls Tryz.prog 14 #[v,.bool false] w fun e w'=>e=.returned (.bool true)∧Below w.heap.size w w'):=@coords_any ⟨⟨w.heap.size⟩⟩ v L w rfl h hbn hmet hpow hB
 obtain ⟨_,ao,cap,rfl,_⟩:=h
 go_enter Tryz.func7,Tryz.ntmps7
 go_wp2_with fail
 refine HC.out.mono ?_
 rintro e w1 ⟨rfl,hb⟩
 go_wp2
 go_ret
 exact ⟨rfl,hb⟩
end Go.Proofs.YtejiankgafjppaaGreatDoor
