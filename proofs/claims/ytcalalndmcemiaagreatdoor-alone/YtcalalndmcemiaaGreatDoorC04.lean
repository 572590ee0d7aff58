import Derived.Test.YtcalalndmcemiaaGreatDoorC03
import Derived.LaidEql
import Derived.Stop.Asserts
import Derived.RowKitTokens
set_option maxRecDepth 100000
set_option maxHeartbeats 16000000
namespace Go.Proofs.YtcalalndmcemiaaGreatDoor
open Go.RowKit
open Sc
structure Maker (w:World) (b:Nat) (done:Bool):Prop where
 c0:w.cell? ⟨b,0,none⟩=some (.int .u32 (if done then 1 else 0))
 c1:w.cell? ⟨b,1,none⟩=some (.int .i32 0)
 tab:done=true→∀ i,i<256→w.cell? ⟨b,3+i,none⟩=some (.int .u32 (halves 8 i:Nat))
 any:∀ i,i<256→∃ v,w.cell? ⟨b,3+i,none⟩=some v
 free:∀ i,w.frozen? ⟨b,i,none⟩=false
theorem jPa (c:Int) (C:Nat) (w:World) (hc:c=C) (hC:C<4294967296) :
  Calls Tryz.prog 242 #[.int .u32 c] w λe w'=>e=.returned (.int .u32 (halves 8 C:Nat))∧w'=w:=by subst hc;exact jP0 C w hC
theorem jU8 (b:Nat) (pl:Addr) (hpb:¬ pl.block=b) (w:World) (hp:w.cell? pl=some (.pointer (some ⟨b,0,none⟩)))
  (hany:∀ i,i<256→∃ v,w.cell? ⟨b,3+i,none⟩=some v) (hfree:∀ i,w.frozen? ⟨b,i,none⟩=false) :
  Calls Tryz.prog 241 #[.pointer (some pl)] w λe w'=>e=.returned (.tuple #[])∧w.grownBy w' (some b) ∧
   (∀ i,i<3→w'.cell? ⟨b,i,none⟩=w.cell? ⟨b,i,none⟩)∧(∀ i,w'.frozen? ⟨b,i,none⟩=false)∧(∀ i,i<256→w'.cell? ⟨b,3+i,none⟩=some (.int .u32 (halves 8 i:Nat))):=by
 go_enter Tryz.func241,Tryz.ntmps241
 go_wp2
 go_loopw [2] (λi wr=>∃ k:Nat,k≤256∧i=.int .i64 k∧w.grownBy wr (some b)∧(∀ i,i<3→wr.cell? ⟨b,i,none⟩=w.cell? ⟨b,i,none⟩)∧(∀ i,wr.frozen? ⟨b,i,none⟩=false)∧(∀ i,i<k→wr.cell? ⟨b,3+i,none⟩=some (.int .u32 (halves 8 i:Nat)))∧(∀ i,i<256→∃ v,wr.cell? ⟨b,3+i,none⟩=some v))
  (λi _=>256 - (intOf i).toNat)
 case atStart=>exact ⟨0,Nat.zero_le _,rfl,jAx _ _,λ_ _=>rfl,hfree,λi hi=>absurd hi (Nat.not_lt_zero i),hany⟩
 case round =>
  obtain ⟨k,hk,rfl,hgr,hlow,hfr,htab,hall⟩:=hrel
  have hpr:wr.cell? pl=some (.pointer (some ⟨b,0,none⟩)):=(jDe hgr hpb (World.block_lt_of_cell? w pl hp)).trans hp
  by_cases hlt:k<256
  ·obtain ⟨old,hold⟩:=hall k hlt
   have hfk:=hfr (3+k)
   have hpb':¬ b=pl.block:=λh=>hpb h.symm
   have i1:(0:Int)≤(k:Int):=by omega
   have i2:(k:Int)<256:=by omega
   have HG:Hid (w.grownBy wr (some b)):=hgr
   have HLow:Hid (∀ i,i<3→wr.cell? ⟨b,i,none⟩=w.cell? ⟨b,i,none⟩):=hlow
   have HF:Hid (∀ i,wr.frozen? ⟨b,i,none⟩=false):=hfr
   have HT:Hid (∀ i,i<k→wr.cell? ⟨b,3+i,none⟩=some (.int .u32 (halves 8 i:Nat))):=htab
   have HA:Hid (∀ i,i<256→∃ v,wr.cell? ⟨b,3+i,none⟩=some v):=hall
   clear hgr hlow hfr htab hall hany hfree hp
   go_wp2
   go_region_held3 (λw'=>w'.cell? pl=some (.pointer (some ⟨b,0,none⟩)))
    (go_keep)
    (first | (go_at_call 242;refine (jPa _ k _ ?_ (by omega)).mono ?_;(rw [IntKind.wrap_u32'];omega);rintro e w' ⟨rfl,rfl⟩))
   go_wp2
   go_roundw
   case rel =>
    refine ⟨k+1,by omega,by go_num,jAg (jAa HG.out (jEp _ _ _ _)),λi hi=>?_,λi=>?_,λi hi=>?_,λi hi=>?_⟩
    ·rw [World.cell?_drew,World.cell?_setCell_other _ _ _ _ (by simp <;> omega)];exact HLow.out i hi
    ·rw [World.frozen?_drew,World.frozen?_setCell];exact HF.out i
    ·rw [World.cell?_drew]
     by_cases e:i=k
     ·subst e;exact World.cell?_setCell_same _ _ _ hold
     ·rw [World.cell?_setCell_other _ _ _ _ (by simp <;> omega)];exact HT.out i oE
    ·rw [World.cell?_drew]
     by_cases e:i=k
     ·subst e;exact ⟨_,World.cell?_setCell_same _ _ _ hold⟩
     ·rw [World.cell?_setCell_other _ _ _ _ (by simp <;> omega)];exact HA.out i hi
   case measure=>simp [intOf];omega
  ·have ek:k=256:=by omega
   subst ek
   go_wp2
   go_end0
   exact ⟨rfl,hgr,hlow,hfr,htab⟩
theorem jOq (w:World) (b:Nat) (k0:w.cell? ⟨b,0,none⟩=some (.int .u32 0)) (k1:w.cell? ⟨b,1,none⟩=some (.int .i32 1)) (hf:∀ i,w.frozen? ⟨b,i,none⟩=false)
  (ht:∀ i,i<256→w.cell? ⟨b,3+i,none⟩=some (.int .u32 (halves 8 i:Nat))):Maker ((w.drew.setCell ⟨b,0,none⟩ (.int .u32 1)).setCell ⟨b,1,none⟩ (.int .i32 0)) b true:=by
 have tb:∀ i,i<256→((w.drew.setCell ⟨b,0,none⟩ (.int .u32 1)).setCell ⟨b,1,none⟩ (.int .i32 0)).cell? ⟨b,3+i,none⟩=some (.int .u32 (halves 8 i:Nat)):=λi hi=>by
  rw [World.cell?_setCell_other _ _ _ _ (by simp <;> omega),World.cell?_setCell_other _ _ _ _ (by simp <;> omega),World.cell?_drew];exact ht i hi
 refine ⟨?_,?_,λ_=>tb,λi hi=>⟨_,tb i hi⟩,λi=>?_⟩
 ·rw [World.cell?_setCell_other _ _ _ _ sE]
  exact World.cell?_setCell_same _ _ _ ((World.cell?_drew _ _).trans k0)
 ·refine World.cell?_setCell_same (u:=.int .i32 1) _ _ _ ?_
  rw [World.cell?_setCell_other _ _ _ _ sE,World.cell?_drew];exact k1
 ·rw [World.frozen?_setCell,World.frozen?_setCell,World.frozen?_drew];exact hf i
theorem jU1 (b:Nat) (pl:Addr) (hpb:¬ pl.block=b) (w:World) (hp:w.cell? pl=some (.pointer (some ⟨b,0,none⟩))) (hm:Maker w b false) :
  Calls Tryz.prog 275 #[.pointer (some ⟨b,0,none⟩),.func (.func 241) #[] #[.pointer (some pl)]] w λe w'=>e=.returned (.tuple #[])∧Maker w' b true∧w.grownBy w' (some b):=by
 have h0:w.cell? ⟨b,0,none⟩=some (.int .u32 0):=hm.c0
 have h1:=hm.c1
 have f0:=hm.free 0
 have f1:=hm.free 1
 have HM:Hid (Maker w b false):=hm
 clear hm
 have hl:=run_call_load (P:=Tryz.prog) Tryz.func309 (by kernel_rfl) (by kernel_rfl) (by kernel_rfl) .u32 (by kernel_rfl) (w:=w.setCell ⟨b,1,none⟩ (.int .i32 1)) (a:=⟨b,0,none⟩) (x:=0) ((World.cell?_setCell_other _ ⟨b,1,none⟩ ⟨b,0,none⟩ _ (by simp)).trans h0)
 have HP1:Hid ((w.setCell ⟨b,1,none⟩ (.int .i32 1)).cell? pl=some (.pointer (some ⟨b,0,none⟩))):=(World.cell?_setCell_other _ ⟨b,1,none⟩ pl _ (λh=>hpb (by rw [← h]))).trans hp
 have hnot:∀ (x:Bool) (w:World),(Op.unary .not (.bool x)).run Tryz.prog w=.ok (.bool (!x)) w:=λ_ _=>rfl
 go_enter_defers Tryz.func275,Tryz.ntmps275
 go_wp2_with (first | (go_at_call 310;refine (jPy ⟨b,1,none⟩ _ (by go_simp) (by go_simp)).mono ?_;rintro e w' ⟨rfl,rfl⟩) | (go_at_call 274;go_in))
 refine (jU8 b pl hpb _ HP1.out (λi hi=>?_) (λi=>?_)).mono ?_
 ·obtain ⟨v,hv⟩:=HM.out.any i hi
  exact ⟨v,(World.cell?_setCell_other _ ⟨b,1,none⟩ ⟨b,3+i,none⟩ _ (by simp <;> omega)).trans hv⟩
 ·rw [World.frozen?_setCell];exact HM.out.free i
 rintro e w1 ⟨rfl,hgr,hlow,hfr,htab⟩
 have k0:w1.cell? ⟨b,0,none⟩=some (.int .u32 0):=(hlow 0 oE).trans ((World.cell?_setCell_other _ ⟨b,1,none⟩ ⟨b,0,none⟩ _ sE).trans h0)
 have k1:w1.cell? ⟨b,1,none⟩=some (.int .i32 1):=(hlow 1 oE).trans (World.cell?_setCell_same _ _ _ h1)
 have g0:=hfr 0
 have g1:=hfr 1
 have HG:Hid ((w.setCell ⟨b,1,none⟩ (.int .i32 1)).grownBy w1 (some b)):=hgr
 have HF:Hid (∀ i,w1.frozen? ⟨b,i,none⟩=false):=hfr
 have HT:Hid (∀ i,i<256→w1.cell? ⟨b,3+i,none⟩=some (.int .u32 (halves 8 i:Nat))):=htab
 clear hgr hlow hfr htab
 go_wp2
 refine leaves_cons (f:=312) (args:=#[.pointer (some ⟨b,0,none⟩),.bool true]) (by simp) (by simp [go_sem]) ?_
 refine (jHh ⟨b,0,none⟩ (.int .u32 0) .returning _ k0 g0).mono ?_
 rintro e u' w'' ⟨rfl,rfl,rfl⟩
 refine leaves_cons (f:=311) (args:=#[.pointer (some ⟨b,1,none⟩)]) (by simp [settle]) (by simp [go_sem]) ?_
 refine (jGs ⟨b,1,none⟩ _ _ ?_ (by simp [g1])).mono ?_
 ·refine (World.cell?_setCell_other _ ⟨b,0,none⟩ ⟨b,1,none⟩ _ sE).trans ?_
  rw [World.cell?_drew]
  exact k1
 rintro e u' w'' ⟨rfl,rfl,rfl⟩
 simp only [Leaves,settle]
 refine ⟨.tuple #[],by simp [results,Tryz.results275],rfl,?_,?_⟩
 ·exact jOq w1 b k0 k1 HF.out HT.out
 ·exact jAa (jEp _ _ _ _) (jAa (jAa (jAg HG.out) (jEp _ _ _ _)) (jEp _ _ _ _))
theorem jSz (b:Nat) (pl:Addr) (hpb:¬ pl.block=b) (w:World) (hp:w.cell? pl=some (.pointer (some ⟨b,0,none⟩))) (hm:Maker w b false) :
  Calls Tryz.prog 240 #[.pointer (some ⟨b,0,none⟩),.func (.func 241) #[] #[.pointer (some pl)]] w λe w'=>e=.returned (.tuple #[])∧Maker w' b true∧w.grownBy w' (some b):=by
 have h0:w.cell? ⟨b,0,none⟩=some (.int .u32 0):=hm.c0
 have hl:=run_call_load (P:=Tryz.prog) Tryz.func309 (by kernel_rfl) (by kernel_rfl) (by kernel_rfl) .u32 (by kernel_rfl) h0
 have hnot:∀ (x:Bool) (w:World),(Op.unary .not (.bool x)).run Tryz.prog w=.ok (.bool (!x)) w:=λ_ _=>rfl
 go_enter Tryz.func240,Tryz.ntmps240
 go_wp2_with (first | (go_at_call 275;refine (jU1 b pl hpb _ hp hm).mono ?_;rintro e w' ⟨rfl,hm',hgr⟩) | (go_at_call 274;go_in))
 go_end0
 exact ⟨rfl,by assumption,by assumption⟩
theorem jVg (b:Nat) (fv:Value) (w:World) (hm:Maker w b true) :
  Calls Tryz.prog 240 #[.pointer (some ⟨b,0,none⟩),fv] w λe w'=>e=.returned (.tuple #[])∧w'=w:=by
 have h0:w.cell? ⟨b,0,none⟩=some (.int .u32 1):=hm.c0
 have hl:=run_call_load (P:=Tryz.prog) Tryz.func309 (by kernel_rfl) (by kernel_rfl) (by kernel_rfl) .u32 (by kernel_rfl) h0
 have hnot:∀ (x:Bool) (w:World),(Op.unary .not (.bool x)).run Tryz.prog w=.ok (.bool (!x)) w:=λ_ _=>rfl
 go_enter Tryz.func240,Tryz.ntmps240
 go_wp2
 go_end0
 exact ⟨rfl,rfl⟩
theorem Maker.alloc {w:World} {b:Nat} {d:Bool} (h:Maker w b d) (o:Obj):Maker (w.alloc o) b d:=by
 have hb:b<w.heap.size:=World.block_lt_of_cell? w ⟨b,0,none⟩ h.c0
 have e:∀ i,(w.alloc o).cell? ⟨b,i,none⟩=w.cell? ⟨b,i,none⟩:=λi=>World.cell?_alloc_lt _ _ ⟨b,i,none⟩ hb
 refine ⟨by rw [e];exact h.c0,by rw [e];exact h.c1,λhd i hi=>by rw [e];exact h.tab hd i hi,λi hi=>?_,λi=>?_⟩
 ·rw [e];exact h.any i hi
 ·rw [World.frozen?_alloc_old _ _ ⟨b,i,none⟩ (Nat.ne_of_lt hb)];exact h.free i
theorem Maker.lt {w:World} {b:Nat} {d:Bool} (h:Maker w b d):b<w.heap.size:=World.block_lt_of_cell? w ⟨b,0,none⟩ h.c0
theorem Maker.of_block {w w':World} {b:Nat} {d:Bool} (h:Maker w b d) (hb:w'.heap[b]?=w.heap[b]?):Maker w' b d:=by
 have e:∀ i,w'.cell? ⟨b,i,none⟩=w.cell? ⟨b,i,none⟩:=λi=>World.cell?_of_block (a:=⟨b,i,none⟩) hb
 refine ⟨by rw [e];exact h.c0,by rw [e];exact h.c1,λhd i hi=>by rw [e];exact h.tab hd i hi,λi hi=>?_,λi=>?_⟩
 ·rw [e];exact h.any i hi
 ·rw [World.frozen?_of_block (a:=⟨b,i,none⟩) hb];exact h.free i
theorem jVu (b g off n cap:Nat) (l:List Nat) (w:World) (hm:Maker w b true) (hn:l.length=n) (hl:Byt l) (hs:n≤1099511627776) (hrow:RowAt w g off l) :
  Calls Tryz.prog 198 #[.pointer (some ⟨b,0,none⟩),.slice (some ⟨g,off,none⟩) n cap] w λe w'=>e=.returned (.int .u32 (crc l:Nat))∧Maker w' b true∧w.grownBy w' (some b):=by
 have HN:Hid (l.length=n):=hn
 have hmf:∀ (fn:Fn) (first cap:Array Value) (w:World),(Instr.makeFunc fn first cap).run Tryz.prog w=.ok (.func fn first cap) w:=λ_ _ _ _=>rfl
 have hbl:=hm.lt
 have hm1:Maker (w.alloc (.cells #[.pointer (some ⟨b,0,none⟩)] 324)) b true:=hm.alloc _
 have hrow1:RowAt (w.alloc (.cells #[.pointer (some ⟨b,0,none⟩)] 324)) g off l:=by
  by_cases h0:0<l.length
  ·exact (jCf (hrow.lt h0)).2 hrow
  ·intro i hi;omega
 clear hn hrow hm
 go_enter Tryz.func198,Tryz.ntmps198
 go_wp2_with (go_at_call 240;refine (jVg b _ _ hm1).mono ?_;rintro e w' ⟨rfl,rfl⟩)
 have HM:Hid (Maker (w.alloc (.cells #[.pointer (some ⟨b,0,none⟩)] 324)) b true):=hm1
 have HR:Hid (RowAt (w.alloc (.cells #[.pointer (some ⟨b,0,none⟩)] 324)) g off l):=hrow1
 clear hm1 hrow1
 go_loop [5,15] (λc i=>∃ k:Nat,k≤n∧i=.int .i64 k∧c=.int .u32 (crcS 4294967295 (l.take k):Nat)) (λ_ i=>n - (intOf i).toNat)
 case atStart=>exact ⟨0,Nat.zero_le _,rfl,rfl⟩
 case round =>
  obtain ⟨k,hk,rfl,rfl⟩:=hrel
  have hB:crcS 4294967295 (l.take k)<4294967296:=jL6 _ _ dN (hl.take_ k)
  by_cases hlt:k<n
  ·have hcx:=HR.out k (by rw [HN.out];exact hlt)
   have ha:=jIs hl k
   obtain ⟨C,hC⟩:∃ C,C=crcS 4294967295 (l.take k):=⟨_,rfl⟩
   rw [← hC] at hB ⊢
   have HC:Hid (crcS 4294967295 (l.take (k+1))=jRs C (at_ l k)):=by
    show _=_
    rw [jFj l k (by rw [HN.out];exact hlt),jK8,hC,jN0]
   clear hC
   have hx:bits .xor .u8 ((C:Int) % 256) (at_ l k:Int)=((C % 256 ^^^ at_ l k:Nat):Int):=by
    rw [show ((C:Int) % 256)=((C % 256:Nat):Int) by omega];exact u8_xor_nat _ _ oE ha
   have ht:C % 256 ^^^ at_ l k<256:=jS0 _ _ oE ha
   obtain ⟨T,hT⟩:∃ T,T=C % 256 ^^^ at_ l k:=⟨_,rfl⟩
   rw [← hT] at hx ht
   have HTS:Hid (jRs C (at_ l k)=halves 8 T ^^^ C / 256):=by show _=_;rw [hT];rfl
   clear hT
   have htab:=HM.out.tab rfl T ht
   have hh:=jF1 8 T oE
   have hx2:bits .xor .u32 ((halves 8 T:Nat):Int) ((C:Int) / 256)=((halves 8 T ^^^ C / 256:Nat):Int):=by
    rw [show ((C:Int) / 256)=((C / 256:Nat):Int) by omega];exact u32_xor_nat _ _ hh oE
   have hT1:(0:Int)≤(T:Int):=by omega
   have hT2:(T:Int)<256:=by omega
   go_wp2
   go_round
   case rel=>exact ⟨k+1,by omega,by go_num,by rw [HC.out,HTS.out]⟩
   case measure=>simp [intOf];omega
  ·have ek:k=n:=by omega
   subst ek
   have a3:bits .xor .u32 IntKind.u32.max (crcS 4294967295 (l.take k):Int)=((4294967295 ^^^ crcS 4294967295 (l.take k):Nat):Int):=notU _ hB
   have hsg:IntKind.u32.signed=false:=rfl
   go_wp2
   go_ret
   refine ⟨jPd ?_,HM.out,jAo _ _ _⟩
   rw [List.take_of_length_le (by rw [HN.out];omega)]
   rfl
theorem jSn (b g off n cap:Nat) (l:List Nat) (w:World) (hm:Maker w b false) (hgb:g≠b) (hn:l.length=n) (hl:Byt l) (hs:n≤1099511627776) (hrow:RowAt w g off l) :
  Calls Tryz.prog 198 #[.pointer (some ⟨b,0,none⟩),.slice (some ⟨g,off,none⟩) n cap] w λe w'=>e=.returned (.int .u32 (crc l:Nat))∧Maker w' b true∧w.grownBy w' (some b):=by
 have HN:Hid (l.length=n):=hn
 have hmf:∀ (fn:Fn) (first cap:Array Value) (w:World),(Instr.makeFunc fn first cap).run Tryz.prog w=.ok (.func fn first cap) w:=λ_ _ _ _=>rfl
 have hbl:=hm.lt
 have hm1:Maker (w.alloc (.cells #[.pointer (some ⟨b,0,none⟩)] 324)) b false:=hm.alloc _
 have hrow1:RowAt (w.alloc (.cells #[.pointer (some ⟨b,0,none⟩)] 324)) g off l:=by
  by_cases h0:0<l.length
  ·exact (jCf (hrow.lt h0)).2 hrow
  ·intro i hi;omega
 clear hn hrow hm
 go_enter Tryz.func198,Tryz.ntmps198
 go_wp2_with fail
 refine (jSz b ⟨w.heap.size,0,none⟩ (by simp;omega) _ sE hm1).mono ?_
 rintro e w1 ⟨rfl,hm2,hgr⟩
 have hbox:w1.cell? ⟨w.heap.size,0,none⟩=some (.pointer (some ⟨b,0,none⟩)):=by
  rw [jDe hgr (a:=⟨w.heap.size,0,none⟩) (by simp;omega) sE];simp
 have HM:Hid (Maker w1 b true):=hm2
 have HR:Hid (RowAt w1 g off l):=jKq hrow1 hgr hgb
 have HG:Hid (w.grownBy w1 (some b)):=jAa (jAo _ _ _) hgr
 clear hm1 hrow1 hm2 hgr
 go_wp2
 go_loop [5,15] (λc i=>∃ k:Nat,k≤n∧i=.int .i64 k∧c=.int .u32 (crcS 4294967295 (l.take k):Nat)) (λ_ i=>n - (intOf i).toNat)
 case atStart=>exact ⟨0,Nat.zero_le _,rfl,rfl⟩
 case round =>
  obtain ⟨k,hk,rfl,rfl⟩:=hrel
  have hB:crcS 4294967295 (l.take k)<4294967296:=jL6 _ _ dN (hl.take_ k)
  by_cases hlt:k<n
  ·have hcx:=HR.out k (by rw [HN.out];exact hlt)
   have ha:=jIs hl k
   obtain ⟨C,hC⟩:∃ C,C=crcS 4294967295 (l.take k):=⟨_,rfl⟩
   rw [← hC] at hB ⊢
   have HC:Hid (crcS 4294967295 (l.take (k+1))=jRs C (at_ l k)):=by
    show _=_
    rw [jFj l k (by rw [HN.out];exact hlt),jK8,hC,jN0]
   clear hC
   have hx:bits .xor .u8 ((C:Int) % 256) (at_ l k:Int)=((C % 256 ^^^ at_ l k:Nat):Int):=by
    rw [show ((C:Int) % 256)=((C % 256:Nat):Int) by omega];exact u8_xor_nat _ _ oE ha
   have ht:C % 256 ^^^ at_ l k<256:=jS0 _ _ oE ha
   obtain ⟨T,hT⟩:∃ T,T=C % 256 ^^^ at_ l k:=⟨_,rfl⟩
   rw [← hT] at hx ht
   have HTS:Hid (jRs C (at_ l k)=halves 8 T ^^^ C / 256):=by show _=_;rw [hT];rfl
   clear hT
   have htab:=HM.out.tab rfl T ht
   have hh:=jF1 8 T oE
   have hx2:bits .xor .u32 ((halves 8 T:Nat):Int) ((C:Int) / 256)=((halves 8 T ^^^ C / 256:Nat):Int):=by
    rw [show ((C:Int) / 256)=((C / 256:Nat):Int) by omega];exact u32_xor_nat _ _ hh oE
   have hT1:(0:Int)≤(T:Int):=by omega
   have hT2:(T:Int)<256:=by omega
   go_wp2
   go_round
   case rel=>exact ⟨k+1,by omega,by go_num,by rw [HC.out,HTS.out]⟩
   case measure=>simp [intOf];omega
  ·have ek:k=n:=by omega
   subst ek
   have a3:bits .xor .u32 IntKind.u32.max (crcS 4294967295 (l.take k):Int)=((4294967295 ^^^ crcS 4294967295 (l.take k):Nat):Int):=notU _ hB
   have hsg:IntKind.u32.signed=false:=rfl
   go_wp2
   go_ret
   refine ⟨jPd ?_,HM.out,HG.out⟩
   rw [List.take_of_length_le (by rw [HN.out];omega)]
   rfl
theorem jUm (b g off n cap:Nat) (d:Bool) (l:List Nat) (w:World) (hm:Maker w b d) (hgb:g≠b) (hn:l.length=n) (hl:Byt l) (hs:n≤1099511627776) (hrow:RowAt w g off l) :
  Calls Tryz.prog 198 #[.pointer (some ⟨b,0,none⟩),.slice (some ⟨g,off,none⟩) n cap] w λe w'=>e=.returned (.int .u32 (crc l:Nat))∧Maker w' b true∧w.grownBy w' (some b):=by
 cases d with
 | true=>exact jVu b g off n cap l w hm hn hl hs hrow
 | false=>exact jSn b g off n cap l w hm hgb hn hl hs hrow
theorem jJx (b off n cap k:Nat) (w:World) (hk:k≤n) (hn:n≤cap) (hcap:cap≤maxLen) :
  Calls Tryz.prog 243 #[.slice (some ⟨b,off,none⟩) n cap,.int .i64 k] w λe w'=>e=.returned (.tuple #[.slice (some ⟨b,off,none⟩) k k,.slice (cutA b off k cap) (n - k) (cap - k)])∧∃ q,w'=w.drewN q:=by
 unfold maxLen at hcap
 have i0:(0:Int)≤(k:Int):=by omega
 have i1:(k:Int)≤(cap:Int):=by omega
 have i2:(k:Int)≤(n:Int):=by omega
 by_cases hck:cap=k
 ·subst hck
  obtain rfl:n=cap:=by omega
  go_enter Tryz.func243,Tryz.ntmps243
  go_wp2
  go_quiet (fail)
  go_wp2
  go_ret2
  refine ⟨?_,_,rfl⟩
  rw [jEr,Nat.sub_self]
  rfl
 ·go_enter Tryz.func243,Tryz.ntmps243
  go_wp2
  go_quiet (fail)
  go_wp2
  go_ret2
  refine ⟨?_,_,rfl⟩
  rw [jCp oE]
  rfl
theorem jN3 (base b g k cap:Nat) (d:Bool) (xs:List Nat) (w:World) (hm:Maker w b d) (hne:g≠b) (hown:w.ownsRow base 5 1 (.slice (some ⟨g,0,none⟩) k cap) k (bs xs)) (hb:Byt xs) (hk:k≤1099511627776) (hr:k+4≤cap) :
  Calls Tryz.prog 157 #[.pointer (some ⟨b,0,none⟩),.slice (some ⟨g,0,none⟩) k cap] w λe w'=>e=.returned (.slice (some ⟨g,0,none⟩) (k+4) cap) ∧
   w'.ownsRow base 5 1 (.slice (some ⟨g,0,none⟩) (k+4) cap) (k+4) (bs (xs++be 4 (crc xs)))∧(∀ B,B≤b→B≤g→Below B w w'):=by
 have hlen:=jQ7 hown
 have hlt:=hm.lt
 have hcl:=jUo xs hb
 have HL:Hid (xs.length=k):=hlen
 clear hlen
 go_enter Tryz.func157,Tryz.ntmps157
 go_wp2_with fail
 refine (jUm b g 0 k cap d xs _ hm hne HL.out hb hk (jE1 hown)).mono ?_
 rintro e w1 ⟨rfl,hm1,hg1⟩
 have ho1:=hown.kept hg1 (Or.inr (by simp [Value.ownBlock,hne]))
 go_wp2_with fail
 refine (jWm base g k cap xs (crc xs) _ ho1 hr hcl).mono ?_
 rintro e w2 ⟨rfl,ho2,hg2⟩
 go_wp2
 go_ret
 exact ⟨rfl,ho2,λB h1 h2=>jRt hg1 hg2 h1 h2 oE⟩
theorem jDh (w:World) (q:Nat):(w.drewN q).heap=w.heap:=by simp
theorem jGd (w:World) (q:Nat) (r:Option Nat):w.grownBy (w.drewN q) r:=⟨rfl,rfl,rfl,by simp,λk _ _=>by simp⟩
def jCz (l:List Nat):Bool:=crc (l.take (l.length - 4)) == val (l.drop (l.length - 4))
def unsV (g off n:Nat) (l:List Nat):Value:=if jCz l=true then .slice (some ⟨g,off,none⟩) (n - 4) (n - 4) else .slice none 0 0
theorem jMl {g off n:Nat} {l:List Nat} (h:jCz l=true):unsV g off n l=.slice (some ⟨g,off,none⟩) (n - 4) (n - 4):=by unfold unsV;rw [if_pos h]
theorem jQe {g off n:Nat} {l:List Nat} (h:jCz l=false):unsV g off n l=.slice none 0 0:=by unfold unsV;rw [if_neg (by rw [h];decide)]
theorem jOx (b g off n cap:Nat) (d:Bool) (l:List Nat) (w:World) (hm:Maker w b d) (hne:g≠b) (hl:l.length=n) (hb:Byt l) (hn:5≤n) (hn2:n≤1099511627776) (hcap:n≤cap) (hcap2:cap≤maxLen) (hrow:RowAt w g off l) :
  Calls Tryz.prog 199 #[.pointer (some ⟨b,0,none⟩),.slice (some ⟨g,off,none⟩) n cap] w λe w' =>
   e=.returned (.tuple #[unsV g off n l,.bool (jCz l)])∧Maker w' b true∧w.grownBy w' (some b):=by
 have HL:Hid (l.length=n):=hl
 have HM:Hid (Maker w b d):=hm
 have HR:Hid (RowAt w g off l):=hrow
 have hcap3:=hcap2
 unfold maxLen at hcap3
 clear hl hm hrow
 go_enter Tryz.func199,Tryz.ntmps199
 go_wp2_with fail
 rw [show ((n:Int) - 4)=((n - 4:Nat):Int) by omega]
 refine (jJx g off n cap (n - 4) _ oE hcap hcap2).mono ?_
 rintro e w1 ⟨rfl,q1,hw1'⟩
 have HW1:Hid (w1=w.drewN q1):=hw1'
 clear hw1'
 have hc4:cutA g off (n - 4) cap=some ⟨g,off+(n - 4),none⟩:=jCp oE
 rw [hc4]
 have hn4:n - (n - 4)=4:=by omega
 rw [hn4]
 go_wp2_with fail
 have hr1:RowAt w1 g (off+(n - 4)) (l.drop (n - 4)):=by
  have h:=(HR.out.drewN q1).sub (n - 4) 4 (by rw [HL.out];omega)
  rw [List.take_of_length_le (by rw [List.length_drop,HL.out];omega)] at h
  rw [HW1.out];exact h
 refine (jSl g (off+(n - 4)) 4 (cap - (n - 4)) (l.drop (n - 4)) _ (λx hx=>hb x (List.mem_of_mem_drop hx)) (by rw [List.length_drop,HL.out];omega) oE oE (by unfold maxLen;omega) hr1).mono ?_
 rintro e w2 ⟨rfl,q2,hw2'⟩
 have HW2:Hid (w2=w1.drewN q2):=hw2'
 clear hw2'
 rw [List.take_of_length_le (l:=l.drop (n - 4)) (by rw [List.length_drop,HL.out];omega)]
 go_wp2_with fail
 have hh2:w2.heap=w.heap:=by rw [HW2.out,HW1.out,jDh,jDh]
 have hg2:w.grownBy w2 (some b):=by rw [HW2.out,HW1.out];exact jAa (jGd _ _ _) (jGd _ _ _)
 clear hr1 hc4
 refine (jUm b g off (n - 4) (n - 4) d (l.take (n - 4)) _ (HM.out.of_block (by rw [hh2])) hne (by rw [List.length_take,HL.out];omega) (hb.take_ _) oE ?_).mono ?_
 ·intro i hi
  rw [List.length_take,HL.out] at hi
  have h:=HR.out i (by rw [HL.out];omega)
  rw [show at_ (l.take (n - 4)) i=at_ l i by simp [at_,show i<n - 4 by omega]]
  rw [World.cell?_of_block (w:=w) (w':=w2) (a:=⟨g,off+i,none⟩) (by rw [hh2])];exact h
 rintro e w3 ⟨rfl,hm3,hg3⟩
 have HM3:Hid (Maker w3 b true):=hm3
 have HG3:Hid (w.grownBy w3 (some b)):=jAa hg2 hg3
 clear hm3 hg3 hg2 hh2
 by_cases hs:crc (l.take (n - 4))=val (l.drop (n - 4))
 ·have hse:jCz l=true:=by unfold jCz;rw [HL.out,hs];simp
  have ht:((val (l.drop (n - 4)):Int) != (crc (l.take (n - 4)):Int))=false:=by rw [hs];simp
  have HS:Hid (jCz l=true):=hse
  clear hs hse
  go_wp2
  go_ret2
  exact ⟨by rw [jMl HS.out,HS.out];rfl,HM3.out,HG3.out⟩
 ·have hse:jCz l=false:=by unfold jCz;rw [HL.out];simp [hs]
  have ht:((val (l.drop (n - 4)):Int) != (crc (l.take (n - 4)):Int))=true:=by simp;omega
  have HS:Hid (jCz l=false):=hse
  clear hs hse
  go_wp2
  go_ret2
  exact ⟨by rw [jQe HS.out,HS.out];rfl,HM3.out,HG3.out⟩
def jEq (k f t x:Int):Bool:=decide (x≠0∧((k=1∨k=5∨k=6)∧f=0∧1≤t∧t≤8∨(k=2∨k=3∨k=4∨k=7∨k=8)∧t=0∧1≤f∧f≤8))
theorem jNi {a b:Bool} (h:a=b):Ending.returned (.bool a)=.returned (.bool b):=by rw [h]
abbrev msgV (k f t x:Int):Value:=.agg #[.int .i64 k,.int .i64 f,.int .i64 t,.int .u64 x]
abbrev msgO (k f t x:Int):Obj:=.cells #[.int .i64 k,.int .i64 f,.int .i64 t,.int .u64 x] 151
def jCd (k f t x:Nat):List Nat:=[k,f,t]++be 8 x
def jD6 (k f t x:Nat):List Nat:=jCd k f t x++be 4 (crc (jCd k f t x))
theorem jEk (k f t x:Nat):(jCd k f t x).length=11:=by simp [jCd,jB3]
theorem jJs (k f t x:Nat):(jD6 k f t x).length=15:=by simp [jD6,jEk,jB3]
theorem jEe (k f t x:Nat) (hk:k<256) (hf:f<256) (ht:t<256):Byt (jCd k f t x):=by
 intro b hb
 simp only [jCd,List.mem_append,List.mem_cons,List.not_mem_nil,or_false] at hb
 rcases hb with (rfl | rfl | rfl) | hb
 ·exact hk
 ·exact hf
 ·exact ht
 ·exact jSw _ _ _ hb
theorem jJi (k f t x:Nat) (hk:k<256) (hf:f<256) (ht:t<256):Byt (jD6 k f t x):=by
 intro b hb
 simp only [jD6,List.mem_append] at hb
 rcases hb with hb | hb
 ·exact jEe _ _ _ _ hk hf ht _ hb
 ·exact jSw _ _ _ hb
theorem jI8 (l:List Nat) (n i:Nat) (h:i<n):at_ (l.take n) i=at_ l i:=by simp [at_,h]
theorem jMg (l:List Nat) (n i:Nat):at_ (l.drop n) i=at_ l (n+i):=by simp [at_,List.getElem?_drop]
theorem Byt.take {l:List Nat} (h:Byt l) (n:Nat):Byt (l.take n):=λx hx=>h x (List.mem_of_mem_take hx)
theorem Byt.drop {l:List Nat} (h:Byt l) (n:Nat):Byt (l.drop n):=λx hx=>h x (List.mem_of_mem_drop hx)
def msgTxn (l:List Nat):Nat:=val ((l.drop 3).take 8)
def jE2 (l:List Nat):Bool:=jEq (at_ l 0) (at_ l 1) (at_ l 2) (msgTxn l) && (crc (l.take 11) == val (l.drop 11))
def jL8 (l:List Nat):Value:=if jE2 l=true then msgV (at_ l 0) (at_ l 1) (at_ l 2) (msgTxn l) else msgV 0 0 0 0
theorem jJr {l:List Nat} (h:jE2 l=true):jL8 l=.agg #[.int .i64 (at_ l 0:Nat),.int .i64 (at_ l 1:Nat),.int .i64 (at_ l 2:Nat),.int .u64 (msgTxn l:Nat)]:=by unfold jL8;rw [if_pos h]
theorem jMz {l:List Nat} (h:jE2 l=false):jL8 l=.agg #[.int .i64 0,.int .i64 0,.int .i64 0,.int .u64 0]:=by unfold jL8;rw [if_neg (by rw [h];decide)]
theorem jFa (x:Int) (w:World):Calls Tryz.prog 194 #[.int .i64 x] w λe w'=>e=.returned (.bool (x == 0))∧w'=w:=by
 go_enter Tryz.func194,Tryz.ntmps194
 go_wp2
 go_ret
 exact ⟨rfl,rfl⟩
def jR7 (x:Int):Bool:=decide (1≤x∧x≤8)
theorem jL0 (x:Int) (w:World):Calls Tryz.prog 195 #[.int .i64 x] w λe w'=>e=.returned (.bool (jR7 x))∧w'=w:=by
 go_enter Tryz.func195,Tryz.ntmps195
 go_wp2
 all_goals go_ret
 all_goals refine ⟨jNi ?_,rfl⟩
 all_goals rw [Bool.eq_iff_iff]
 all_goals simp only [jR7,decide_eq_true_eq,Bool.false_eq_true]
 all_goals first | omega | (rw [false_iff];intro hh;omega)
theorem jEl (k f t x:Int) (w:World) :
  Calls Tryz.prog 155 #[.agg #[.int .i64 k,.int .i64 f,.int .i64 t,.int .u64 x]] w λe w'=>e=.returned (.bool (jEq k f t x))∧w'=w.alloc (msgO k f t x):=by
 go_enter Tryz.func155,Tryz.ntmps155
 go_wp2_with (first | (go_at_call 194;refine (jFa _ _).mono ?_;rintro e w' ⟨rfl,rfl⟩) | (go_at_call 195;refine (jL0 _ _).mono ?_;rintro e w' ⟨rfl,rfl⟩))
 all_goals go_ret
 all_goals refine ⟨jNi ?_,by subst_vars;rfl⟩
 all_goals rw [Bool.eq_iff_iff]
 all_goals simp only [jEq,jR7,decide_eq_true_eq,Bool.false_eq_true,beq_iff_eq,beq_eq_false_iff_ne] at *
 all_goals first | omega | (rw [false_iff];intro hh;omega)
theorem jLf (l:List Nat) (h:0<l.length):val (l.take 1)=at_ l 0:=by
 cases l with
 | nil=>simp at h
 | cons a l=>simp [val,at_]
theorem RowAt.drop {w:World} {b off:Nat} {l:List Nat} (h:RowAt w b off l) (o:Nat) (hl:o≤l.length):RowAt w b (off+o) (l.drop o):=λi hi=>by
 rw [List.length_drop] at hi
 have:=h (o+i) oE
 rw [show off+o+i=off+(o+i) by omega,this,jMg]
theorem jDm {B:Nat} {a w:World} (h:Below B a w) (q:Nat):Below B a (w.drewN q):=⟨h.os,h.tape,h.output,h.size,h.block⟩
theorem jGe (g off:Nat) (l:List Nat) (w:World) (hl:l.length=11) (hb:Byt l) (hrow:RowAt w g off l) :
  Calls Tryz.prog 200 #[.slice (some ⟨g,off,none⟩) 11 11] w λe w'=>e=.returned (.agg #[.int .i64 (at_ l 0:Nat),.int .i64 (at_ l 1:Nat),.int .i64 (at_ l 2:Nat),.int .u64 (val (l.drop 3):Nat)])∧Below w.heap.size w w':=by
 have HL:Hid (l.length=11):=hl
 have hlt:=hrow.lt oE
 have a0:=jIs hb 0
 have a1:=jIs hb 1
 have a2:=jIs hb 2
 have HR:Hid (RowAt (w.alloc (msgO 0 0 0 0)) g off l):=(jCf hlt).2 hrow
 clear hl hrow
 have k1:cutA g off 1 11=some ⟨g,off+1,none⟩:=jCp oE
 have k2:cutA g (off+1) 1 10=some ⟨g,off+2,none⟩:=jCp oE
 have k3:cutA g (off+2) 1 9=some ⟨g,off+3,none⟩:=jCp oE
 go_enter Tryz.func200,Tryz.ntmps200
 go_wp2_with fail
 refine (jI5 g off 11 11 l _ hb HL.out oE oE dN HR.out).mono ?_
 rintro e w1 ⟨rfl,q1,hw1'⟩
 have HW1:Hid (w1=(w.alloc (msgO 0 0 0 0)).drewN q1):=hw1'
 have HR1:Hid (RowAt w1 g off l):=by rw [hw1'];exact HR.out.drewN q1
 clear hw1'
 rw [jLf l (by rw [HL.out];omega)]
 go_wp2_with fail
 refine (jI5 g (off+1) 10 10 (l.drop 1) _ (hb.drop 1) (by rw [List.length_drop,HL.out]) oE oE dN (HR1.out.drop 1 (by rw [HL.out];omega))).mono ?_
 rintro e w2 ⟨rfl,q2,hw2'⟩
 have HW2:Hid (w2=w1.drewN q2):=hw2'
 have HR2:Hid (RowAt w2 g off l):=by rw [hw2'];exact HR1.out.drewN q2
 clear hw2'
 rw [jLf (l.drop 1) (by rw [List.length_drop,HL.out];omega),jMg]
 go_wp2_with fail
 refine (jI5 g (off+2) 9 9 (l.drop 2) _ (hb.drop 2) (by rw [List.length_drop,HL.out]) oE oE dN (HR2.out.drop 2 (by rw [HL.out];omega))).mono ?_
 rintro e w3 ⟨rfl,q3,hw3'⟩
 have HW3:Hid (w3=w2.drewN q3):=hw3'
 have HR3:Hid (RowAt w3 g off l):=by rw [hw3'];exact HR2.out.drewN q3
 clear hw3'
 rw [jLf (l.drop 2) (by rw [List.length_drop,HL.out];omega),jMg]
 go_wp2_with fail
 refine (jNb g (off+3) 8 8 (l.drop 3) _ (hb.drop 3) (by rw [List.length_drop,HL.out]) oE oE dN (HR3.out.drop 3 (by rw [HL.out];omega))).mono ?_
 rintro e w4 ⟨rfl,q4,hw4'⟩
 have HW4:Hid (w4=w3.drewN q4):=hw4'
 clear hw4'
 rw [List.take_of_length_le (l:=l.drop 3) (by rw [List.length_drop,HL.out];omega)]
 have hc4:∀ i,w4.cell? ⟨w.heap.size,i,none⟩=(w.alloc (msgO 0 0 0 0)).cell? ⟨w.heap.size,i,none⟩:=λi=>by rw [HW4.out,HW3.out,HW2.out,HW1.out];simp
 have hz4:w4.heap.size=w.heap.size+1:=by rw [HW4.out,HW3.out,HW2.out,HW1.out];simp
 have hB4:Below w.heap.size w w4:=by
  rw [HW4.out,HW3.out,HW2.out,HW1.out]
  exact jDm (jDm (jDm (jDm ((Below.refl _ _).alloc (Nat.le_refl _) _) _) _) _) _
 have hf4:∀ i,w4.frozen? ⟨w.heap.size,i,none⟩=false:=λi=>by rw [HW4.out,HW3.out,HW2.out,HW1.out];simp
 have hB5:Below w.heap.size w ((((w4.setCell ⟨w.heap.size,0,none⟩ (.int .i64 (at_ l 0:Nat))).setCell ⟨w.heap.size,1,none⟩ (.int .i64 (at_ l 1:Nat))).setCell ⟨w.heap.size,2,none⟩ (.int .i64 (at_ l 2:Nat))).setCell ⟨w.heap.size,3,none⟩ (.int .u64 (val (l.drop 3):Nat))) :=
  (((hB4.setCell (Nat.le_refl _) _).setCell (Nat.le_refl _) _).setCell (Nat.le_refl _) _).setCell (Nat.le_refl _) _
 clear hB4
 go_wp2
 exact bodyPost_ret (v:=.agg #[.int .i64 (at_ l 0:Nat),.int .i64 (at_ l 1:Nat),.int .i64 (at_ l 2:Nat),.int .u64 (val (l.drop 3):Nat)]) (by simp [results,Tryz.results200,go_sem,hc4]) rfl ⟨rfl,hB5⟩
theorem jHz (ao:Option Addr) (n cap:Nat) (w:World) (hn:n≠15) :
  Calls Tryz.prog 158 #[.slice ao n cap] w λe w'=>e=.returned (.tuple #[.agg #[.int .i64 0,.int .i64 0,.int .i64 0,.int .u64 0],.iface 44 (.int .i64 2)])∧Below w.heap.size w w':=by
 have hn':(((n:Int)) != 15)=true:=by simp;omega
 go_enter Tryz.func158,Tryz.ntmps158
 go_wp2
 exact bodyPost_ret (v:=.tuple #[.agg #[.int .i64 0,.int .i64 0,.int .i64 0,.int .u64 0],.iface 44 (.int .i64 2)]) (by simp [results,Tryz.results158,go_sem]) rfl ⟨rfl,(Below.refl _ _).alloc (Nat.le_refl _) _⟩
theorem jGn (w:World):Maker (w.alloc (.cells Tryz.zeroCells282 282)) w.heap.size false:=by
 have e:∀ i,(w.alloc (.cells Tryz.zeroCells282 282)).cell? ⟨w.heap.size,i,none⟩=Tryz.zeroCells282[i]?:=λi=>World.cell?_alloc_new w _ _ i
 have hs:Tryz.zeroCells282.size=259:=by kernel_rfl
 refine ⟨?_,?_,λh=>absurd h dN,λi hi=>?_,λi=>?_⟩
 ·rw [e];kernel_rfl
 ·rw [e];kernel_rfl
 ·rw [e];exact ⟨_,Array.getElem?_eq_getElem (by rw [hs];omega)⟩
 ·exact World.frozen?_alloc_new w _ _ i
theorem jUq {w w2:World} (h:Below w.heap.size w w2) (hz:w.heap.size<w2.heap.size) (a b c d:Value) (o p:Obj) :
  Below w.heap.size w ((((((w2.setCell ⟨w.heap.size,0,none⟩ a).setCell ⟨w.heap.size,1,none⟩ b).setCell ⟨w.heap.size,2,none⟩ c).setCell ⟨w.heap.size,3,none⟩ d).alloc o).alloc p):=by
 refine Below.alloc (Below.alloc ((((h.setCell (Nat.le_refl _) _).setCell (Nat.le_refl _) _).setCell (Nat.le_refl _) _).setCell (Nat.le_refl _) _) ?_ _) ?_ _
 ·simp [World.setCell];omega
 ·simp [World.setCell];omega
def errV (b:Bool):Value:=if b=true then .nilIface else .iface 44 (.int .i64 2)
theorem jIo:errV true=.nilIface:=rfl
theorem jJ4:errV false=.iface 44 (.int .i64 2):=rfl
theorem jQw {l:List Nat} (hl:l.length=15):jCz l=(crc (l.take 11) == val (l.drop 11)):=by unfold jCz;rw [hl]
theorem jJj (g off cap:Nat) (l:List Nat) (w:World) (hl:l.length=15) (hb:Byt l) (hcap:15≤cap) (hcap2:cap≤maxLen) (hrow:RowAt w g off l) :
  Calls Tryz.prog 158 #[.slice (some ⟨g,off,none⟩) 15 cap] w λe w'=>e=.returned (.tuple #[jL8 l,errV (jE2 l)])∧Below w.heap.size w w':=by
 have hnot:∀ (x:Bool) (w:World),(Op.unary .not (.bool x)).run Tryz.prog w=.ok (.bool (!x)) w:=λ_ _=>rfl
 have hlt:=hrow.lt oE
 have HL:Hid (l.length=15):=hl
 have HR0:Hid (RowAt w g off l):=hrow
 have HR:Hid (RowAt ((w.alloc (msgO 0 0 0 0)).alloc (.cells Tryz.zeroCells282 282)) g off l):=(jCf (by simp;omega)).2 ((jCf hlt).2 hrow)
 have HM:Hid (Maker ((w.alloc (msgO 0 0 0 0)).alloc (.cells Tryz.zeroCells282 282)) (w.heap.size+1) false):=by
  have:=jGn (w.alloc (msgO 0 0 0 0));rw [World.size_alloc] at this;exact this
 clear hl hrow
 go_enter Tryz.func158,Tryz.ntmps158
 go_wp2_with fail
 refine (jOx (w.heap.size+1) g off 15 cap false l _ HM.out oE HL.out hb oE oE hcap hcap2 HR.out).mono ?_
 rintro e w1 ⟨rfl,hm1,hg1⟩
 have hB1:Below (w.heap.size+1) (w.alloc (msgO 0 0 0 0)) w1:=((Below.refl _ _).alloc sE _).grown hg1 sE (λq hq=>by cases hq;exact Nat.le_refl _)
 have HB1:Hid (Below w.heap.size w w1):=((Below.refl _ _).alloc (Nat.le_refl _) _).trans (hB1.mono oE)
 have hc1:∀ i,w1.cell? ⟨w.heap.size,i,none⟩=(w.alloc (msgO 0 0 0 0)).cell? ⟨w.heap.size,i,none⟩:=λi=>hB1.cell (p:=⟨w.heap.size,i,none⟩) sE
 have hf1:∀ i,w1.frozen? ⟨w.heap.size,i,none⟩=false:=λi=>by rw [hB1.frozen (p:=⟨w.heap.size,i,none⟩) sE];simp
 have hz1:w.heap.size<w1.heap.size:=by have:=hB1.size;simp at this;omega
 have HR1:Hid (RowAt w1 g off l):=jKq HR.out hg1 oE
 clear hm1 hg1 hB1
 have hsl:jCz l=(crc (l.take 11) == val (l.drop 11)):=jQw HL.out
 rcases Bool.eq_false_or_eq_true (jCz l) with hs | hs
 ·rw [jMl hs,hs]
  have HS:Hid (jCz l=true):=hs
  rw [hsl] at hs
  have HS2:Hid ((crc (l.take 11) == val (l.drop 11))=true):=hs
  clear hs hsl
  go_wp2_with fail
  refine (jGe g off (l.take 11) _ (by rw [List.length_take,HL.out];rfl) (hb.take_ 11) (λi hi=>?_)).mono ?_
  ·rw [List.length_take,HL.out] at hi
   rw [jI8 l 11 i oE];exact HR1.out i (by rw [HL.out];omega)
  rintro e w2 ⟨rfl,hb2⟩
  rw [jI8 l 11 0 oE,jI8 l 11 1 oE,jI8 l 11 2 oE,show (l.take 11).drop 3=(l.drop 3).take 8 by rw [List.drop_take]]
  rw [show val ((l.drop 3).take 8)=msgTxn l from rfl]
  have hc2:∀ i,w2.cell? ⟨w.heap.size,i,none⟩=(w.alloc (msgO 0 0 0 0)).cell? ⟨w.heap.size,i,none⟩:=λi=>(hb2.cell (p:=⟨w.heap.size,i,none⟩) hz1).trans (hc1 i)
  have hf2:∀ i,w2.frozen? ⟨w.heap.size,i,none⟩=false:=λi=>(hb2.frozen (p:=⟨w.heap.size,i,none⟩) hz1).trans (hf1 i)
  have hz2:w.heap.size<w2.heap.size:=Nat.lt_of_lt_of_le hz1 hb2.size
  have HB2:Hid (Below w.heap.size w w2):=HB1.out.trans (hb2.mono oE)
  clear hb2 hc1 hf1
  go_wp2_with fail
  refine (jEl _ _ _ _ _).mono ?_
  rintro e w3 ⟨rfl,rfl⟩
  rcases Bool.eq_false_or_eq_true (jEq (at_ l 0) (at_ l 1) (at_ l 2) (msgTxn l)) with hsn | hsn
  ·have ho:jE2 l=true:=by unfold jE2;rw [hsn,HS2.out];rfl
   have HO:Hid (jE2 l=true):=ho
   clear ho
   go_wp2
   rw [jJr HO.out,HO.out,jIo]
   exact bodyPost_ret (v:=.tuple #[.agg #[.int .i64 (at_ l 0:Nat),.int .i64 (at_ l 1:Nat),.int .i64 (at_ l 2:Nat),.int .u64 (msgTxn l:Nat)],.nilIface]) (by simp [results,Tryz.results158,go_sem,hc2,hz2]) rfl ⟨rfl,jUq HB2.out hz2 _ _ _ _ _ _⟩
  ·have ho:jE2 l=false:=by unfold jE2;rw [hsn];rfl
   have HO:Hid (jE2 l=false):=ho
   clear ho
   go_wp2
   rw [jMz HO.out,HO.out,jJ4]
   exact bodyPost_ret (v:=.tuple #[.agg #[.int .i64 0,.int .i64 0,.int .i64 0,.int .u64 0],.iface 44 (.int .i64 2)]) (by simp [results,Tryz.results158,go_sem,hc2,hz2]) rfl ⟨rfl,jUq HB2.out hz2 _ _ _ _ _ _⟩
 ·rw [jQe hs,hs]
  have ho:jE2 l=false:=by unfold jE2;rw [hsl] at hs;rw [hs];simp
  have HO:Hid (jE2 l=false):=ho
  clear hs hsl ho
  go_wp2
  rw [jMz HO.out,HO.out,jJ4]
  exact bodyPost_ret (v:=.tuple #[.agg #[.int .i64 0,.int .i64 0,.int .i64 0,.int .u64 0],.iface 44 (.int .i64 2)]) (by simp [results,Tryz.results158,go_sem,hc1]) rfl ⟨rfl,((((HB1.out.setCell (Nat.le_refl _) _).setCell (Nat.le_refl _) _).setCell (Nat.le_refl _) _).setCell (Nat.le_refl _) _)⟩
theorem jCh {w w1:World} {r:Option Nat} (h:w.grownBy w1 r) {B:Nat} (hB:B<w.heap.size) (hr:r≠some B) (i:Nat):w1.cell? ⟨B,i,none⟩=w.cell? ⟨B,i,none⟩ :=
 World.cell?_of_block (a:=⟨B,i,none⟩) (h.block B hB (λe=>hr e.symm))
theorem jSg {w w1:World} {o p:Obj} {r:Option Nat} (h:((w.alloc o).alloc p).grownBy w1 r) (hr:r≠some w.heap.size) (i:Nat):w1.cell? ⟨w.heap.size,i,none⟩=(w.alloc o).cell? ⟨w.heap.size,i,none⟩:=by
 rw [jCh h (B:=w.heap.size) (by simp;omega) hr i,World.cell?_alloc_lt _ _ ⟨w.heap.size,i,none⟩ sE]
theorem jXx {w w1:World} {o p:Obj} {base n cap:Nat} {xs:List Value} (h:w1.ownsRow base 5 1 (.slice (some ⟨((w.alloc o).alloc p).heap.size,0,none⟩) n cap) n xs):w1.ownsRow base 5 1 (.slice (some ⟨w.heap.size+1+1,0,none⟩) n cap) n xs:=by
 rw [World.size_alloc,World.size_alloc] at h;exact h
end Go.Proofs.YtcalalndmcemiaaGreatDoor
set_option maxRecDepth 100000
set_option maxHeartbeats 16000000
namespace Go.Proofs.YtcalalndmcemiaaGreatDoor
open Go.RowKit Go.Extern.Stop Go.Stop Go.Extern
/-! closed facts on the model's entries for internal/reflectlite at *api.Errno and api.Errno -/
theorem Tryz.valueOfP (t:Addr) (w:World):(ReflectliteValue.unpack (.iface 130 (.pointer (some t)))).run Tryz.prog w
  = .ok (.agg #[.pointer (some ⟨6,130,none⟩),.pointer (some ⟨w.heap.size,0,none⟩),.int .u64 150]) (w.alloc (.cells #[.pointer (some t)] 130)):=by kernel_rfl
theorem Tryz.typeP (a:Addr) (w:World):(ReflectliteValue.methodAny (ReflectliteValue.valueError "reflectlite.Value.Type" 0) (λt _ _ _=>ReflectliteType.toType t) #[.agg #[.pointer (some ⟨6,130,none⟩),.pointer (some a),.int .u64 150]]).run Tryz.prog w
  = .ok (.iface 248 (.agg #[.pointer (some ⟨6,130,none⟩)])) w:=by kernel_rfl
theorem Tryz.methodKind (h:Value) (w:World):(Go.method 593 248 (.agg #[h]) "Kind").run Tryz.prog w=.ok (376,h) w:=by kernel_rfl
theorem Tryz.kindP (w:World):((ReflectliteType.abiMethod λt=>(λa:Nat=>Value.int IntKind.u8 (a:Int)) <$> Rtype.kind t) #[.pointer (some ⟨6,130,none⟩)]).run Tryz.prog w=.ok (.int .u8 22) w:=by kernel_rfl
theorem Tryz.kindE (w:World):((ReflectliteType.abiMethod λt=>(λa:Nat=>Value.int IntKind.u8 (a:Int)) <$> Rtype.kind t) #[.pointer (some ⟨6,44,none⟩)]).run Tryz.prog w=.ok (.int .u8 2) w:=by kernel_rfl
theorem Tryz.partsP (a:Addr) (w:World):(ReflectliteValue.parts (.agg #[.pointer (some ⟨6,130,none⟩),.pointer (some a),.int .u64 150])).run Tryz.prog w=.ok (some (130,a,150)) w:=by kernel_rfl
theorem Tryz.isNilP (a p:Addr) (W:World) (ha:W.cell? a=some (.pointer (some p))) :
  (ReflectliteValue.method (ReflectliteValue.valueError "reflectlite.Value.IsNil" 0) ReflectliteValue.isNil #[.agg #[.pointer (some ⟨6,130,none⟩),.pointer (some a),.int .u64 150]]).run Tryz.prog W=.ok (.bool false) W:=by
 change Sem.run Tryz.prog (bind (ReflectliteValue.parts (.agg #[.pointer (some ⟨6,130,none⟩),.pointer (some a),.int .u64 150])) _) W=_
 simp only [Sem.run_bind,Tryz.partsP,Result.andThen]
 simp [ReflectliteValue.isNil,loadVar,isAgg,underlying,Tryz.underlying130,ha,Result.andThen]
theorem Tryz.methodElem (h:Value) (w:World):(Go.method 593 248 (.agg #[h]) "Elem").run Tryz.prog w=.ok (397,.agg #[h]) w:=by kernel_rfl
theorem Tryz.methodImplements (h:Value) (w:World):(Go.method 593 248 (.agg #[h]) "Implements").run Tryz.prog w=.ok (398,.agg #[h]) w:=by kernel_rfl
theorem Tryz.methodAssignableTo (h:Value) (w:World):(Go.method 593 248 (.agg #[h]) "AssignableTo").run Tryz.prog w=.ok (395,.agg #[h]) w:=by kernel_rfl
theorem Tryz.methodComparable (h:Value) (w:World):(Go.method 593 248 (.agg #[h]) "Comparable").run Tryz.prog w=.ok (396,.agg #[h]) w:=by kernel_rfl
theorem Tryz.elemP (w:World):(ReflectliteType.method ReflectliteType.elem #[.agg #[.pointer (some ⟨6,130,none⟩)]]).run Tryz.prog w=.ok (.iface 248 (.agg #[.pointer (some ⟨6,44,none⟩)])) w:=by kernel_rfl
theorem Tryz.implementsE (w:World):(ReflectliteType.relation "Implements" ReflectliteType.implements_ #[.agg #[.pointer (some ⟨6,44,none⟩)],.iface 248 (.agg #[.pointer (some ⟨6,82,none⟩)])]).run Tryz.prog w=.ok (.bool true) w:=by kernel_rfl
theorem Tryz.typeOfE (v:Value) (w:World):(ReflectliteType.typeOf #[.iface 44 v]).run Tryz.prog w=.ok (.iface 248 (.agg #[.pointer (some ⟨6,44,none⟩)])) w:=by kernel_rfl
theorem Tryz.assignableE (w:World):(ReflectliteType.relation "AssignableTo" ReflectliteType.assignableTo #[.agg #[.pointer (some ⟨6,44,none⟩)],.iface 248 (.agg #[.pointer (some ⟨6,44,none⟩)])]).run Tryz.prog w=.ok (.bool true) w:=by kernel_rfl
theorem Tryz.valueOfE (n:Int) (w:World):(ReflectliteValue.unpack (.iface 44 (.int .i64 n))).run Tryz.prog w
  = .ok (.agg #[.pointer (some ⟨6,44,none⟩),.pointer (some ⟨w.heap.size,0,none⟩),.int .u64 130]) (w.alloc (.cells #[.int .i64 n] 44)):=by kernel_rfl
theorem Tryz.elemOfP (w:World):(Rtype.elem? 130).run Tryz.prog w=.ok (some 44) w:=by kernel_rfl
theorem Tryz.mkE (p:Addr) (w:World):(ReflectliteValue.mk 44 p ReflectliteValue.flagAddr).run Tryz.prog w=.ok (.agg #[.pointer (some ⟨6,44,none⟩),.pointer (some p),.int .u64 386]) w:=by kernel_rfl
theorem Tryz.elemVP (a p:Addr) (W:World) (ha:W.cell? a=some (.pointer (some p))) :
  (ReflectliteValue.method (ReflectliteValue.valueError "reflectlite.Value.Elem" 0) ReflectliteValue.elem #[.agg #[.pointer (some ⟨6,130,none⟩),.pointer (some a),.int .u64 150]]).run Tryz.prog W
   = .ok (.agg #[.pointer (some ⟨6,44,none⟩),.pointer (some p),.int .u64 386]) W:=by
 change Sem.run Tryz.prog (bind (ReflectliteValue.parts (.agg #[.pointer (some ⟨6,130,none⟩),.pointer (some a),.int .u64 150])) _) W=_
 simp only [Sem.run_bind,Tryz.partsP,Result.andThen]
 simp [ReflectliteValue.elem,loadVar,isAgg,underlying,Tryz.underlying130,ha,Result.andThen,Tryz.elemOfP,Tryz.mkE]
theorem Tryz.partsEa (a:Addr) (w:World):(ReflectliteValue.parts (.agg #[.pointer (some ⟨6,44,none⟩),.pointer (some a),.int .u64 386])).run Tryz.prog w=.ok (some (44,a,386)) w:=by kernel_rfl
theorem Tryz.partsE (a:Addr) (w:World):(ReflectliteValue.parts (.agg #[.pointer (some ⟨6,44,none⟩),.pointer (some a),.int .u64 130])).run Tryz.prog w=.ok (some (44,a,130)) w:=by kernel_rfl
theorem Tryz.directE (w:World):(Rtype.directlyAssignable 44 44).run Tryz.prog w=.ok true w:=by kernel_rfl
theorem Tryz.setE (ta b:Addr) (n:Int) (old:Value) (W:World) (hb:W.cell? b=some (.int .i64 n)) (ht:W.cell? ta=some old) (hf:W.frozen? ta=false) :
  (ReflectliteValue.set #[.agg #[.pointer (some ⟨6,44,none⟩),.pointer (some ta),.int .u64 386],.agg #[.pointer (some ⟨6,44,none⟩),.pointer (some b),.int .u64 130]]).run Tryz.prog W
   = .ok (.tuple #[]) (W.setCell ta (.int .i64 n)):=by
 change Sem.run Tryz.prog (bind (ReflectliteValue.parts (.agg #[.pointer (some ⟨6,44,none⟩),.pointer (some ta),.int .u64 386])) λ_=>bind (ReflectliteValue.parts (.agg #[.pointer (some ⟨6,44,none⟩),.pointer (some b),.int .u64 130])) _) W=_
 simp only [Sem.run_bind,Tryz.partsEa,Tryz.partsE,Result.andThen]
 simp [ReflectliteValue.flagAddr,loadVar,isAgg,underlying,Tryz.underlying44,hb,Result.andThen,Tryz.directE,storeVar,Value.cells,storeCells,Addr.add]
 rw [run_store Tryz.prog W ta _ _ (by rfl)]
 simp [ht,hf]
theorem Tryz.comparableE (w:World):(callFunc 396 #[.agg #[.pointer (some ⟨6,44,none⟩)]]).run Tryz.prog w=.ok (.value (.bool true)) w:=by kernel_rfl
end Go.Proofs.YtcalalndmcemiaaGreatDoor
