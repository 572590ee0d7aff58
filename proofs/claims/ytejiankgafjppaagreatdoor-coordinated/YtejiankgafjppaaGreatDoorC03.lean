import Derived.Test.YtejiankgafjppaaGreatDoorC02
import Derived.BigQuiet
import Derived.Defers
import Derived.Laws.Pointers
import Derived.Laws.LoneSync
import Derived.Laws.NewBlocks
import Derived.RegionTactic
import Derived.RegionCalls
import Derived.ChangeAlike
import Derived.Deep.RegionHeld3
namespace Go.Proofs.YtejiankgafjppaaGreatDoor
open Go.RowKit
open Sc
def cutA (b off k cap:Nat):Option Addr:=if cap=k then some ⟨b,off,none⟩ else some ⟨b,off+k,none⟩
theorem cutA_far {b off k cap:Nat} (h:k<cap):cutA b off k cap=some ⟨b,off+k,none⟩:=by unfold cutA;rw [if_neg (by omega)]
theorem cutA_end (b off k:Nat):cutA b off k k=some ⟨b,off,none⟩:=by unfold cutA;rw [if_pos rfl]
theorem bs_snoc (xs:List Nat) (k n j:Nat):bs (xs++(List.range (j+1)).map (digit k n))=bs (xs++(List.range j).map (digit k n))++[.int .u8 ((digit k n j:Nat):Int)]:=by
 rw [List.range_succ,List.map_append,← List.append_assoc,bs_app];rfl
set_option maxRecDepth 100000 in
set_option maxHeartbeats 400000 in
theorem width_u16 (w:World):Calls Tryz.prog 245 #[] w fun e w'=>e=.returned (.int .i64 2)∧w'=w:=by
 have hsg:IntKind.u16.signed=false:=rfl
 have hb:bits .xor .u16 IntKind.u16.max 0=65535:=by decide +kernel
 go_enter Tryz.func245,Tryz.ntmps245
 go_wp2
 go_ret
 refine ⟨?_,rfl⟩
 kernel_rfl
set_option maxRecDepth 100000 in
set_option maxHeartbeats 400000 in
theorem app_u16 (base g k cap:Nat) (xs:List Nat) (n:Nat) (w:World) (hown:w.ownsRow base 5 1 (.slice (some ⟨g,0,none⟩) k cap) k (bs xs)) (hr:k+2≤cap) (hn:n<65536) :
  Calls Tryz.prog 182 #[.slice (some ⟨g,0,none⟩) k cap,.int .u16 n] w fun e w'=>e=.returned (.slice (some ⟨g,0,none⟩) (k+2) cap)∧w'.ownsRow base 5 1 (.slice (some ⟨g,0,none⟩) (k+2) cap) (k+2) (bs (xs++be 2 n))∧w.grownBy w' (some g):=by
 obtain ⟨i0,hi,hz0,hz1,hz2⟩:=info_parts Tryz.info5
 have HNN:Hid (n<65536):=hn
 skip
 go_enter Tryz.func182,Tryz.ntmps182
 go_wp2_with (go_at_call 245;refine (width_u16 _).mono ?_;rintro e w' ⟨rfl,hw⟩;have hw2:=hw.symm;subst hw2;clear hw)
 go_loopw [0,5] (fun v i wr=>∃ j:Nat,j≤2∧i=.int .i64 ((2:Int) - 1 - j)∧v=.slice (some ⟨g,0,none⟩) (k+j) cap∧wr.ownsRow base 5 1 (.slice (some ⟨g,0,none⟩) (k+j) cap) (k+j) (bs (xs++(List.range j).map (digit 2 n)))∧w.grownBy wr (some g)) (fun _ i _=>(intOf i+1).toNat)
 case atStart=>exact ⟨0,Nat.zero_le _,by go_num,rfl,by simpa using hown,grown_refl _ _⟩
 case round =>
  obtain ⟨j,hj,rfl,rfl,hownr,hgr⟩:=hrel
  by_cases hlt:j<2
  ·have HD:Hid (((n:Int) / 2 ^ (8*(1 - j)) % 256)=((digit 2 n j:Nat):Int)):=digit_int n 2 j
   skip
   skip
   go_wp2_with (at_builtin;refine wpList_append_fits _ rfl _ _ 164 rfl base 5 i0 1 Tryz.underlying164 hi hz1 g (k+j) cap _ rfl (hownr.alloc _) ⟨wr.heap.size,0,none⟩ 1 1 [.int .u8 ((n:Int) / 2 ^ (8*(1 - j)) % 256)] rfl rfl ?c1 ?c2 ?c3 ?_)
   case c1 =>
    intro jj u hjj
    match jj,hjj with
    | 0,hjj=>simp at hjj;subst hjj;simp [Addr.add]
   case c2=>intro u hu;simp at hu;subst hu;rfl
   case c3=>omega
   ·intro w1 hown' hgrow
    have hG1:w.grownBy w1 (some g):=grown_trans hgr (grown_trans (grown_alloc _ _ _) hgrow)
    have hO1:w1.ownsRow base 5 1 (.slice (some ⟨g,0,none⟩) (k+(j+1)) cap) (k+(j+1)) (bs (xs++(List.range (j+1)).map (digit 2 n))):=by
     rw [HD.out] at hown'
     rw [bs_snoc,← Nat.add_assoc]
     exact hown'
    clear hown' hgrow hownr hgr
    go_wp2
    go_roundw
    case rel=>exact ⟨j+1,by omega,int_eq (by omega),rfl,hO1,hG1⟩
    case measure=>simp [intOf] <;> omega
  ·have ek:j=2:=by omega
   subst ek
   go_wp2
   go_ret
   exact ⟨rfl,hownr,hgr⟩
theorem shl_u16 (C A:Nat) (hC:C<72057594037927936) (ha:A<256):bits .or .u64 ((C:Int)*256) (A:Int)=((C*256+A:Nat):Int):=by
 have h:=u64_or_nat (C*256) A (by omega) (by omega)
 rw [show ((C:Int)*256)=((C*256:Nat):Int) by omega,h]
 congr 1
 rw [show C*256=C <<< 8 from (Nat.shiftLeft_eq C 8).symm,← Nat.shiftLeft_add_eq_or_of_lt (show A<2 ^ 8 from ha)]
set_option maxRecDepth 100000 in
set_option maxHeartbeats 400000 in
theorem take_u16 (b off n cap:Nat) (l:List Nat) (w:World) (hl:Byt l) (hn:l.length=n) (hw:2≤n) (hcap:n≤cap) (hcap2:cap≤maxLen) (hc:RowAt w b off l) :
  Calls Tryz.prog 340 #[.slice (some ⟨b,off,none⟩) n cap] w fun e w'=>e=.returned (.tuple #[.int .u16 (val (l.take 2):Nat),.slice (cutA b off 2 cap) (n - 2) (cap - 2)])∧∃ q,w'=w.drewN q:=by
 have HN:Hid (l.length=n):=hn
 clear hn
 unfold maxLen at hcap2
 have i1:(2:Int)≤(cap:Int):=by omega
 have i2:(2:Int)≤(n:Int):=by omega
 go_enter Tryz.func340,Tryz.ntmps340
 go_wp2_with (go_at_call 245;refine (width_u16 _).mono ?_;rintro e w' ⟨rfl,hw⟩;have hw2:=hw.symm;subst hw2;clear hw)
 go_loop [5,13] (fun c i=>∃ k:Nat,k≤2∧i=.int .i64 k∧c=.int .u64 (val (l.take k):Nat)) (fun _ i=>2 - (intOf i).toNat)
 case atStart=>exact ⟨0,Nat.zero_le _,rfl,rfl⟩
 case round =>
  obtain ⟨k,hk,rfl,rfl⟩:=hrel
  by_cases hlt:k<2
  ·have hcx:=hc k (by rw [HN.out];omega)
   have HRow:Hid (RowAt w b off l):=hc
   clear hc
   have ha:=at_lt hl k
   have hB:val (l.take k)<72057594037927936:=by
    have h1:=val_lt (l.take k) (hl.take_ k)
    have h2:(l.take k).length≤7:=by rw [List.length_take,HN.out];omega
    have h3:256 ^ (l.take k).length≤256 ^ 7:=Nat.pow_le_pow_right (by omega) h2
    omega
   obtain ⟨C,hC⟩:∃ C,C=val (l.take k):=⟨_,rfl⟩
   rw [← hC] at hB ⊢
   have HC:Hid (val (l.take (k+1))=C*256+at_ l k):=by
    show _=_
    rw [take_at l k (by rw [HN.out];omega),val_snoc,hC]
   clear hC
   have ho:=shl_u16 C (at_ l k) hB ha
   go_wp2
   go_round
   case rel=>exact ⟨k+1,by omega,by go_num,by rw [HC.out];exact int_eq (by omega)⟩
   case measure=>simp [intOf];omega
  ·have ek:k=2:=by omega
   subst ek
   have hB:val (l.take 2)<65536:=by
    have h1:=val_lt (l.take 2) (hl.take_ 2)
    have h2:(l.take 2).length=2:=by rw [List.length_take,HN.out];omega
    rw [h2] at h1
    exact h1
   by_cases hcw:cap=2
   ·subst hcw
    obtain rfl:n=2:=by omega
    skip
    go_wp2
    go_quiet (fail)
    go_wp2
    go_ret2
    refine ⟨?_,_,rfl⟩
    rw [cutA_end]
    rfl
   ·skip
    go_wp2
    go_quiet (fail)
    go_wp2
    go_ret2
    refine ⟨?_,_,rfl⟩
    rw [cutA_far (by omega)]
    rfl
set_option maxRecDepth 100000 in
set_option maxHeartbeats 400000 in
theorem width_u64 (w:World):Calls Tryz.prog 246 #[] w fun e w'=>e=.returned (.int .i64 8)∧w'=w:=by
 have hsg:IntKind.u64.signed=false:=rfl
 have hb:bits .xor .u64 IntKind.u64.max 0=18446744073709551615:=by decide +kernel
 go_enter Tryz.func246,Tryz.ntmps246
 go_wp2
 go_ret
 refine ⟨?_,rfl⟩
 kernel_rfl
set_option maxRecDepth 100000 in
set_option maxHeartbeats 400000 in
theorem app_u64 (base g k cap:Nat) (xs:List Nat) (n:Nat) (w:World) (hown:w.ownsRow base 5 1 (.slice (some ⟨g,0,none⟩) k cap) k (bs xs)) (hr:k+8≤cap) (hn:n<18446744073709551616) :
  Calls Tryz.prog 183 #[.slice (some ⟨g,0,none⟩) k cap,.int .u64 n] w fun e w'=>e=.returned (.slice (some ⟨g,0,none⟩) (k+8) cap)∧w'.ownsRow base 5 1 (.slice (some ⟨g,0,none⟩) (k+8) cap) (k+8) (bs (xs++be 8 n))∧w.grownBy w' (some g):=by
 obtain ⟨i0,hi,hz0,hz1,hz2⟩:=info_parts Tryz.info5
 have HNN:Hid (n<18446744073709551616):=hn
 clear hn
 go_enter Tryz.func183,Tryz.ntmps183
 go_wp2_with (go_at_call 246;refine (width_u64 _).mono ?_;rintro e w' ⟨rfl,hw⟩;have hw2:=hw.symm;subst hw2;clear hw)
 go_loopw [0,5] (fun v i wr=>∃ j:Nat,j≤8∧i=.int .i64 ((8:Int) - 1 - j)∧v=.slice (some ⟨g,0,none⟩) (k+j) cap∧wr.ownsRow base 5 1 (.slice (some ⟨g,0,none⟩) (k+j) cap) (k+j) (bs (xs++(List.range j).map (digit 8 n)))∧w.grownBy wr (some g)) (fun _ i _=>(intOf i+1).toNat)
 case atStart=>exact ⟨0,Nat.zero_le _,by go_num,rfl,by simpa using hown,grown_refl _ _⟩
 case round =>
  obtain ⟨j,hj,rfl,rfl,hownr,hgr⟩:=hrel
  by_cases hlt:j<8
  ·have HD:Hid (((n:Int) / 2 ^ (8*(7 - j)) % 256)=((digit 8 n j:Nat):Int)):=digit_int n 8 j
   skip
   skip
   go_wp2_with (at_builtin;refine wpList_append_fits _ rfl _ _ 164 rfl base 5 i0 1 Tryz.underlying164 hi hz1 g (k+j) cap _ rfl (hownr.alloc _) ⟨wr.heap.size,0,none⟩ 1 1 [.int .u8 ((n:Int) / 2 ^ (8*(7 - j)) % 256)] rfl rfl ?c1 ?c2 ?c3 ?_)
   case c1 =>
    intro jj u hjj
    match jj,hjj with
    | 0,hjj=>simp at hjj;subst hjj;simp [Addr.add]
   case c2=>intro u hu;simp at hu;subst hu;rfl
   case c3=>omega
   ·intro w1 hown' hgrow
    have hG1:w.grownBy w1 (some g):=grown_trans hgr (grown_trans (grown_alloc _ _ _) hgrow)
    have hO1:w1.ownsRow base 5 1 (.slice (some ⟨g,0,none⟩) (k+(j+1)) cap) (k+(j+1)) (bs (xs++(List.range (j+1)).map (digit 8 n))):=by
     rw [HD.out] at hown'
     rw [bs_snoc,← Nat.add_assoc]
     exact hown'
    clear hown' hgrow hownr hgr
    go_wp2
    go_roundw
    case rel=>exact ⟨j+1,by omega,int_eq (by omega),rfl,hO1,hG1⟩
    case measure=>simp [intOf] <;> omega
  ·have ek:j=8:=by omega
   subst ek
   go_wp2
   go_ret
   exact ⟨rfl,hownr,hgr⟩
theorem shl_u64 (C A:Nat) (hC:C<72057594037927936) (ha:A<256):bits .or .u64 ((C:Int)*256) (A:Int)=((C*256+A:Nat):Int):=by
 have h:=u64_or_nat (C*256) A (by omega) (by omega)
 rw [show ((C:Int)*256)=((C*256:Nat):Int) by omega,h]
 congr 1
 rw [show C*256=C <<< 8 from (Nat.shiftLeft_eq C 8).symm,← Nat.shiftLeft_add_eq_or_of_lt (show A<2 ^ 8 from ha)]
set_option maxRecDepth 100000 in
set_option maxHeartbeats 400000 in
theorem take_u64 (b off n cap:Nat) (l:List Nat) (w:World) (hl:Byt l) (hn:l.length=n) (hw:8≤n) (hcap:n≤cap) (hcap2:cap≤maxLen) (hc:RowAt w b off l) :
  Calls Tryz.prog 319 #[.slice (some ⟨b,off,none⟩) n cap] w fun e w'=>e=.returned (.tuple #[.int .u64 (val (l.take 8):Nat),.slice (cutA b off 8 cap) (n - 8) (cap - 8)])∧∃ q,w'=w.drewN q:=by
 have HN:Hid (l.length=n):=hn
 clear hn
 unfold maxLen at hcap2
 have i1:(8:Int)≤(cap:Int):=by omega
 have i2:(8:Int)≤(n:Int):=by omega
 go_enter Tryz.func319,Tryz.ntmps319
 go_wp2_with (go_at_call 246;refine (width_u64 _).mono ?_;rintro e w' ⟨rfl,hw⟩;have hw2:=hw.symm;subst hw2;clear hw)
 go_loop [5,13] (fun c i=>∃ k:Nat,k≤8∧i=.int .i64 k∧c=.int .u64 (val (l.take k):Nat)) (fun _ i=>8 - (intOf i).toNat)
 case atStart=>exact ⟨0,Nat.zero_le _,rfl,rfl⟩
 case round =>
  obtain ⟨k,hk,rfl,rfl⟩:=hrel
  by_cases hlt:k<8
  ·have hcx:=hc k (by rw [HN.out];omega)
   have HRow:Hid (RowAt w b off l):=hc
   clear hc
   have ha:=at_lt hl k
   have hB:val (l.take k)<72057594037927936:=by
    have h1:=val_lt (l.take k) (hl.take_ k)
    have h2:(l.take k).length≤7:=by rw [List.length_take,HN.out];omega
    have h3:256 ^ (l.take k).length≤256 ^ 7:=Nat.pow_le_pow_right (by omega) h2
    omega
   obtain ⟨C,hC⟩:∃ C,C=val (l.take k):=⟨_,rfl⟩
   rw [← hC] at hB ⊢
   have HC:Hid (val (l.take (k+1))=C*256+at_ l k):=by
    show _=_
    rw [take_at l k (by rw [HN.out];omega),val_snoc,hC]
   clear hC
   have ho:=shl_u64 C (at_ l k) hB ha
   go_wp2
   go_round
   case rel=>exact ⟨k+1,by omega,by go_num,by rw [HC.out];exact int_eq (by omega)⟩
   case measure=>simp [intOf];omega
  ·have ek:k=8:=by omega
   subst ek
   have hB:val (l.take 8)<18446744073709551616:=by
    have h1:=val_lt (l.take 8) (hl.take_ 8)
    have h2:(l.take 8).length=8:=by rw [List.length_take,HN.out];omega
    rw [h2] at h1
    exact h1
   by_cases hcw:cap=8
   ·subst hcw
    obtain rfl:n=8:=by omega
    clear hB
    go_wp2
    go_quiet (fail)
    go_wp2
    go_ret2
    refine ⟨?_,_,rfl⟩
    rw [cutA_end]
    rfl
   ·clear hB
    go_wp2
    go_quiet (fail)
    go_wp2
    go_ret2
    refine ⟨?_,_,rfl⟩
    rw [cutA_far (by omega)]
    rfl
set_option maxRecDepth 100000 in
set_option maxHeartbeats 400000 in
theorem width_u8 (w:World):Calls Tryz.prog 247 #[] w fun e w'=>e=.returned (.int .i64 1)∧w'=w:=by
 have hsg:IntKind.u8.signed=false:=rfl
 have hb:bits .xor .u8 IntKind.u8.max 0=255:=by decide +kernel
 go_enter Tryz.func247,Tryz.ntmps247
 go_wp2
 go_ret
 refine ⟨?_,rfl⟩
 kernel_rfl
set_option maxRecDepth 100000 in
set_option maxHeartbeats 400000 in
theorem app_u8 (base g k cap:Nat) (xs:List Nat) (n:Nat) (w:World) (hown:w.ownsRow base 5 1 (.slice (some ⟨g,0,none⟩) k cap) k (bs xs)) (hr:k+1≤cap) (hn:n<256) :
  Calls Tryz.prog 184 #[.slice (some ⟨g,0,none⟩) k cap,.int .u8 n] w fun e w'=>e=.returned (.slice (some ⟨g,0,none⟩) (k+1) cap)∧w'.ownsRow base 5 1 (.slice (some ⟨g,0,none⟩) (k+1) cap) (k+1) (bs (xs++be 1 n))∧w.grownBy w' (some g):=by
 obtain ⟨i0,hi,hz0,hz1,hz2⟩:=info_parts Tryz.info5
 have HNN:Hid (n<256):=hn
 skip
 go_enter Tryz.func184,Tryz.ntmps184
 go_wp2_with (go_at_call 247;refine (width_u8 _).mono ?_;rintro e w' ⟨rfl,hw⟩;have hw2:=hw.symm;subst hw2;clear hw)
 go_loopw [0,5] (fun v i wr=>∃ j:Nat,j≤1∧i=.int .i64 ((1:Int) - 1 - j)∧v=.slice (some ⟨g,0,none⟩) (k+j) cap∧wr.ownsRow base 5 1 (.slice (some ⟨g,0,none⟩) (k+j) cap) (k+j) (bs (xs++(List.range j).map (digit 1 n)))∧w.grownBy wr (some g)) (fun _ i _=>(intOf i+1).toNat)
 case atStart=>exact ⟨0,Nat.zero_le _,by go_num,rfl,by simpa using hown,grown_refl _ _⟩
 case round =>
  obtain ⟨j,hj,rfl,rfl,hownr,hgr⟩:=hrel
  by_cases hlt:j<1
  ·have HD:Hid ((n:Int)=((digit 1 n 0:Nat):Int)):=by show _=_;unfold digit;simp;omega
   obtain rfl:j=0:=by omega
   rw [Nat.add_zero] at hownr
   go_wp2_with (at_builtin;refine wpList_append_fits _ rfl _ _ 164 rfl base 5 i0 1 Tryz.underlying164 hi hz1 g k cap _ rfl (hownr.alloc _) ⟨wr.heap.size,0,none⟩ 1 1 [.int .u8 (n:Int)] rfl rfl ?c1 ?c2 ?c3 ?_)
   case c1 =>
    intro jj u hjj
    match jj,hjj with
    | 0,hjj=>simp at hjj;subst hjj;simp [Addr.add]
   case c2=>intro u hu;simp at hu;subst hu;rfl
   case c3=>omega
   ·intro w1 hown' hgrow
    have hG1:w.grownBy w1 (some g):=grown_trans hgr (grown_trans (grown_alloc _ _ _) hgrow)
    have hO1:w1.ownsRow base 5 1 (.slice (some ⟨g,0,none⟩) (k+(0+1)) cap) (k+(0+1)) (bs (xs++(List.range (0+1)).map (digit 1 n))):=by
     have e:=HD.out
     rw [bs_snoc,← e]
     simpa using hown'
    clear hown' hgrow hownr hgr
    go_wp2
    go_roundw
    case rel=>exact ⟨0+1,by omega,int_eq (by omega),rfl,hO1,hG1⟩
    case measure=>simp [intOf] <;> omega
  ·have ek:j=1:=by omega
   subst ek
   go_wp2
   go_ret
   exact ⟨rfl,hownr,hgr⟩
theorem shl_u8 (C A:Nat) (hC:C<72057594037927936) (ha:A<256):bits .or .u64 ((C:Int)*256) (A:Int)=((C*256+A:Nat):Int):=by
 have h:=u64_or_nat (C*256) A (by omega) (by omega)
 rw [show ((C:Int)*256)=((C*256:Nat):Int) by omega,h]
 congr 1
 rw [show C*256=C <<< 8 from (Nat.shiftLeft_eq C 8).symm,← Nat.shiftLeft_add_eq_or_of_lt (show A<2 ^ 8 from ha)]
set_option maxRecDepth 100000 in
set_option maxHeartbeats 400000 in
theorem take_u8 (b off n cap:Nat) (l:List Nat) (w:World) (hl:Byt l) (hn:l.length=n) (hw:1≤n) (hcap:n≤cap) (hcap2:cap≤maxLen) (hc:RowAt w b off l) :
  Calls Tryz.prog 321 #[.slice (some ⟨b,off,none⟩) n cap] w fun e w'=>e=.returned (.tuple #[.int .u8 (val (l.take 1):Nat),.slice (cutA b off 1 cap) (n - 1) (cap - 1)])∧∃ q,w'=w.drewN q:=by
 have HN:Hid (l.length=n):=hn
 clear hn
 unfold maxLen at hcap2
 have i1:(1:Int)≤(cap:Int):=by omega
 have i2:(1:Int)≤(n:Int):=by omega
 go_enter Tryz.func321,Tryz.ntmps321
 go_wp2_with (go_at_call 247;refine (width_u8 _).mono ?_;rintro e w' ⟨rfl,hw⟩;have hw2:=hw.symm;subst hw2;clear hw)
 go_loop [5,13] (fun c i=>∃ k:Nat,k≤1∧i=.int .i64 k∧c=.int .u64 (val (l.take k):Nat)) (fun _ i=>1 - (intOf i).toNat)
 case atStart=>exact ⟨0,Nat.zero_le _,rfl,rfl⟩
 case round =>
  obtain ⟨k,hk,rfl,rfl⟩:=hrel
  by_cases hlt:k<1
  ·have hcx:=hc k (by rw [HN.out];omega)
   have HRow:Hid (RowAt w b off l):=hc
   clear hc
   have ha:=at_lt hl k
   have hB:val (l.take k)<72057594037927936:=by
    have h1:=val_lt (l.take k) (hl.take_ k)
    have h2:(l.take k).length≤7:=by rw [List.length_take,HN.out];omega
    have h3:256 ^ (l.take k).length≤256 ^ 7:=Nat.pow_le_pow_right (by omega) h2
    omega
   obtain ⟨C,hC⟩:∃ C,C=val (l.take k):=⟨_,rfl⟩
   rw [← hC] at hB ⊢
   have HC:Hid (val (l.take (k+1))=C*256+at_ l k):=by
    show _=_
    rw [take_at l k (by rw [HN.out];omega),val_snoc,hC]
   clear hC
   have ho:=shl_u8 C (at_ l k) hB ha
   go_wp2
   go_round
   case rel=>exact ⟨k+1,by omega,by go_num,by rw [HC.out];exact int_eq (by omega)⟩
   case measure=>simp [intOf];omega
  ·have ek:k=1:=by omega
   subst ek
   have hB:val (l.take 1)<256:=by
    have h1:=val_lt (l.take 1) (hl.take_ 1)
    have h2:(l.take 1).length=1:=by rw [List.length_take,HN.out];omega
    rw [h2] at h1
    exact h1
   by_cases hcw:cap=1
   ·subst hcw
    obtain rfl:n=1:=by omega
    skip
    go_wp2
    go_quiet (fail)
    go_wp2
    go_ret2
    refine ⟨?_,_,rfl⟩
    rw [cutA_end]
    rfl
   ·skip
    go_wp2
    go_quiet (fail)
    go_wp2
    go_ret2
    refine ⟨?_,_,rfl⟩
    rw [cutA_far (by omega)]
    rfl
set_option maxRecDepth 100000 in
set_option maxHeartbeats 400000 in
theorem width_u32 (w:World):Calls Tryz.prog 293 #[] w fun e w'=>e=.returned (.int .i64 4)∧w'=w:=by
 have hsg:IntKind.u32.signed=false:=rfl
 have hb:bits .xor .u32 IntKind.u32.max 0=4294967295:=by decide +kernel
 go_enter Tryz.func293,Tryz.ntmps293
 go_wp2
 go_ret
 refine ⟨?_,rfl⟩
 kernel_rfl
set_option maxRecDepth 100000 in
set_option maxHeartbeats 400000 in
theorem app_u32 (base g k cap:Nat) (xs:List Nat) (n:Nat) (w:World) (hown:w.ownsRow base 5 1 (.slice (some ⟨g,0,none⟩) k cap) k (bs xs)) (hr:k+4≤cap) (hn:n<4294967296) :
  Calls Tryz.prog 248 #[.slice (some ⟨g,0,none⟩) k cap,.int .u32 n] w fun e w'=>e=.returned (.slice (some ⟨g,0,none⟩) (k+4) cap)∧w'.ownsRow base 5 1 (.slice (some ⟨g,0,none⟩) (k+4) cap) (k+4) (bs (xs++be 4 n))∧w.grownBy w' (some g):=by
 obtain ⟨i0,hi,hz0,hz1,hz2⟩:=info_parts Tryz.info5
 have HNN:Hid (n<4294967296):=hn
 skip
 go_enter Tryz.func248,Tryz.ntmps248
 go_wp2_with (go_at_call 293;refine (width_u32 _).mono ?_;rintro e w' ⟨rfl,hw⟩;have hw2:=hw.symm;subst hw2;clear hw)
 go_loopw [0,5] (fun v i wr=>∃ j:Nat,j≤4∧i=.int .i64 ((4:Int) - 1 - j)∧v=.slice (some ⟨g,0,none⟩) (k+j) cap∧wr.ownsRow base 5 1 (.slice (some ⟨g,0,none⟩) (k+j) cap) (k+j) (bs (xs++(List.range j).map (digit 4 n)))∧w.grownBy wr (some g)) (fun _ i _=>(intOf i+1).toNat)
 case atStart=>exact ⟨0,Nat.zero_le _,by go_num,rfl,by simpa using hown,grown_refl _ _⟩
 case round =>
  obtain ⟨j,hj,rfl,rfl,hownr,hgr⟩:=hrel
  by_cases hlt:j<4
  ·have HD:Hid (((n:Int) / 2 ^ (8*(3 - j)) % 256)=((digit 4 n j:Nat):Int)):=digit_int n 4 j
   skip
   skip
   go_wp2_with (at_builtin;refine wpList_append_fits _ rfl _ _ 164 rfl base 5 i0 1 Tryz.underlying164 hi hz1 g (k+j) cap _ rfl (hownr.alloc _) ⟨wr.heap.size,0,none⟩ 1 1 [.int .u8 ((n:Int) / 2 ^ (8*(3 - j)) % 256)] rfl rfl ?c1 ?c2 ?c3 ?_)
   case c1 =>
    intro jj u hjj
    match jj,hjj with
    | 0,hjj=>simp at hjj;subst hjj;simp [Addr.add]
   case c2=>intro u hu;simp at hu;subst hu;rfl
   case c3=>omega
   ·intro w1 hown' hgrow
    have hG1:w.grownBy w1 (some g):=grown_trans hgr (grown_trans (grown_alloc _ _ _) hgrow)
    have hO1:w1.ownsRow base 5 1 (.slice (some ⟨g,0,none⟩) (k+(j+1)) cap) (k+(j+1)) (bs (xs++(List.range (j+1)).map (digit 4 n))):=by
     rw [HD.out] at hown'
     rw [bs_snoc,← Nat.add_assoc]
     exact hown'
    clear hown' hgrow hownr hgr
    go_wp2
    go_roundw
    case rel=>exact ⟨j+1,by omega,int_eq (by omega),rfl,hO1,hG1⟩
    case measure=>simp [intOf] <;> omega
  ·have ek:j=4:=by omega
   subst ek
   go_wp2
   go_ret
   exact ⟨rfl,hownr,hgr⟩
theorem disable (w:World):(callFunc 382 #[]).run Tryz.prog w=.ok (.value (.tuple #[])) w:=run_call_mark0 Tryz.func382 (by kernel_rfl) (by kernel_rfl) (by kernel_rfl) .disable (by kernel_rfl) w
theorem enable (w:World):(callFunc 384 #[]).run Tryz.prog w=.ok (.value (.tuple #[])) w:=run_call_mark0 Tryz.func384 (by kernel_rfl) (by kernel_rfl) (by kernel_rfl) .enable (by kernel_rfl) w
theorem acquire (a:Addr) (w:World):(callFunc 385 #[.pointer (some a)]).run Tryz.prog w=.ok (.value (.tuple #[])) w:=run_call_marked Tryz.func385 (by kernel_rfl) (by kernel_rfl) (by kernel_rfl) .acquire (by kernel_rfl) a w
theorem releaseMerge (a:Addr) (w:World):(callFunc 387 #[.pointer (some a)]).run Tryz.prog w=.ok (.value (.tuple #[])) w:=run_call_marked Tryz.func387 (by kernel_rfl) (by kernel_rfl) (by kernel_rfl) .releaseMerge (by kernel_rfl) a w
theorem store_deferred (a:Addr) (x:Value) (u:FrameMode) (w:World) (hc:w.cell? a=some x) (hz:w.frozen? a=false) :
  CallsD Tryz.prog 353 #[.pointer (some a),.bool true] u w fun e u' w'=>u'=u∧(e=.returned (.tuple #[])∧w'=w.drew.setCell a (.int .u32 1)):=by
 have hc':w.drew.cell? a=some x:=by go_simp
 have hz':w.drew.frozen? a=false:=by go_simp
 have hst:=run_call_store (P:=Tryz.prog) Tryz.func374 (by kernel_rfl) (by kernel_rfl) (by kernel_rfl) (by kernel_rfl) (k:=.u32) (y:=1) hc' hz'
 go_enter_d Tryz.func353,Tryz.ntmps353
 go_wp2
 go_region_calls
 all_goals (go_end0;exact ⟨rfl,rfl⟩)
set_option maxRecDepth 100000 in
set_option maxHeartbeats 1600000 in
theorem unlock_deferred (a:Addr) (u:FrameMode) (w:World) (hc:w.cell? a=some (.int .i32 1)) (hz:w.frozen? a=false) :
  CallsD Tryz.prog 352 #[.pointer (some a)] u w fun e u' w'=>u'=u∧(e=.returned (.tuple #[])∧w'=w.setCell a (.int .i32 0)):=by
 have hd:=disable
 have he:=enable
 have hr:=releaseMerge
 have hadd:=run_call_add (P:=Tryz.prog) Tryz.func388 (by kernel_rfl) (by kernel_rfl) (by kernel_rfl) .i32 (by kernel_rfl) (y:=-1) (s:=0) hc hz (by simp [go_sem];rfl)
 have hcv:=run_convert_to_unsafe (P:=Tryz.prog) (src:=469) (dst:=230) Tryz.underlying469 Tryz.underlying230 (by kernel_rfl) hc
 go_enter_d Tryz.func352,Tryz.ntmps352
 go_wp2
 go_end0
 go_wp2
 go_end0
 exact ⟨rfl,rfl⟩
set_option maxRecDepth 100000 in
set_option maxHeartbeats 1600000 in
theorem lock_free (a:Addr) (w:World) (hc:w.cell? a=some (.int .i32 0)) (hz:w.frozen? a=false) :
  Calls Tryz.prog 351 #[.pointer (some a)] w fun e w'=>e=.returned (.tuple #[])∧w'=w.setCell a (.int .i32 1):=by
 have hd:=disable
 have he:=enable
 have ha:=acquire
 have hcas:=run_call_cas_hit (P:=Tryz.prog) Tryz.func383 (by kernel_rfl) (by kernel_rfl) (by kernel_rfl) .i32 (by kernel_rfl) (y:=1) hc hz
 have hc':(w.setCell a (.int .i32 1)).cell? a=some (.int .i32 1):=World.cell?_setCell_same w a _ hc
 have hcv:=run_convert_to_unsafe (P:=Tryz.prog) (src:=469) (dst:=230) Tryz.underlying469 Tryz.underlying230 (by kernel_rfl) hc'
 go_enter Tryz.func351,Tryz.ntmps351
 go_wp2
 first | go_end0 | (simp only [Exit.inBlock,Exit.then];refine bodyPost_ret (results_none rfl _ _ _) rfl ?_) | refine bodyPost_ret (results_none rfl _ _ _) rfl ?_
 go_wp2
 go_end0
 exact ⟨rfl,rfl⟩
set_option maxHeartbeats 400000 in
theorem turned_any (C:Nat) (w:World) (hC:C<4294967296) :
  Calls Tryz.prog 296 #[.int .u32 C] w fun e w'=>e=.returned (.int .u32 (halves 8 C:Nat))∧w'=w:=by
 go_enter Tryz.func296,Tryz.ntmps296
 go_wp2
 go_loop [0,4] (fun c j=>∃ q:Nat,q≤8∧j=.int .i64 q∧c=.int .u32 (halves q C:Nat)) (fun _ j=>8 - (intOf j).toNat)
 case atStart=>exact ⟨0,Nat.zero_le _,rfl,rfl⟩
 case round =>
  obtain ⟨q,hq,rfl,rfl⟩:=hrel
  have hX:=halves_lt q C hC
  have HX:Hid (halves (q+1) C=half (halves q C)):=rfl
  by_cases hq8:q<8
  ·generalize halves q C=X at hX HX
   have a1:=and1 X hX
   have hx2:X / 2<4294967296:=by omega
   have a2:bits .xor .u32 ((X:Int) / 2) 3988292384=((X / 2 ^^^ 3988292384:Nat):Int):=by rw [show ((X:Int) / 2)=((X / 2:Nat):Int) by omega];exact xorP (X / 2) hx2
   by_cases ho:X % 2=1
   ·have HO:Hid (half X=X / 2 ^^^ 3988292384):=half_odd X ho
    go_wp2
    go_round
    case rel=>exact ⟨q+1,by omega,by go_num,by rw [HX.out,HO.out]⟩
    case measure=>simp [intOf];omega
   ·have HO:Hid (half X=X / 2):=half_even X ho
    go_wp2
    go_round
    case rel=>exact ⟨q+1,by omega,by go_num,by rw [HX.out,HO.out];exact int_eq (by omega)⟩
    case measure=>simp [intOf];omega
  ·have e8:q=8:=by omega
   subst e8
   go_wp2
   go_ret
   exact ⟨rfl,rfl⟩
structure Maker (w:World) (b:Nat) (done:Bool):Prop where
 c0:w.cell? ⟨b,0,none⟩=some (.int .u32 (if done then 1 else 0))
 c1:w.cell? ⟨b,1,none⟩=some (.int .i32 0)
 tab:done=true→∀ i,i<256→w.cell? ⟨b,3+i,none⟩=some (.int .u32 (halves 8 i:Nat))
 any:∀ i,i<256→∃ v,w.cell? ⟨b,3+i,none⟩=some v
 free:∀ i,w.frozen? ⟨b,i,none⟩=false
theorem turned_int (c:Int) (C:Nat) (w:World) (hc:c=C) (hC:C<4294967296) :
  Calls Tryz.prog 296 #[.int .u32 c] w fun e w'=>e=.returned (.int .u32 (halves 8 C:Nat))∧w'=w:=by subst hc;exact turned_any C w hC
set_option maxRecDepth 100000 in
set_option maxHeartbeats 1600000 in
theorem fill_any (b:Nat) (pl:Addr) (hpb:¬ pl.block=b) (w:World) (hp:w.cell? pl=some (.pointer (some ⟨b,0,none⟩)))
  (hany:∀ i,i<256→∃ v,w.cell? ⟨b,3+i,none⟩=some v) (hfree:∀ i,w.frozen? ⟨b,i,none⟩=false) :
  Calls Tryz.prog 295 #[.pointer (some pl)] w fun e w'=>e=.returned (.tuple #[])∧w.grownBy w' (some b) ∧
   (∀ i,i<3→w'.cell? ⟨b,i,none⟩=w.cell? ⟨b,i,none⟩)∧(∀ i,w'.frozen? ⟨b,i,none⟩=false)∧(∀ i,i<256→w'.cell? ⟨b,3+i,none⟩=some (.int .u32 (halves 8 i:Nat))):=by
 go_enter Tryz.func295,Tryz.ntmps295
 go_wp2
 go_loopw [2] (fun i wr=>∃ k:Nat,k≤256∧i=.int .i64 k∧w.grownBy wr (some b)∧(∀ i,i<3→wr.cell? ⟨b,i,none⟩=w.cell? ⟨b,i,none⟩)∧(∀ i,wr.frozen? ⟨b,i,none⟩=false)∧(∀ i,i<k→wr.cell? ⟨b,3+i,none⟩=some (.int .u32 (halves 8 i:Nat)))∧(∀ i,i<256→∃ v,wr.cell? ⟨b,3+i,none⟩=some v))
  (fun i _=>256 - (intOf i).toNat)
 case atStart=>exact ⟨0,Nat.zero_le _,rfl,grown_refl _ _,fun _ _=>rfl,hfree,fun i hi=>absurd hi (Nat.not_lt_zero i),hany⟩
 case round =>
  obtain ⟨k,hk,rfl,hgr,hlow,hfr,htab,hall⟩:=hrel
  have hpr:wr.cell? pl=some (.pointer (some ⟨b,0,none⟩)):=(grown_cell hgr hpb (World.block_lt_of_cell? w pl hp)).trans hp
  by_cases hlt:k<256
  ·obtain ⟨old,hold⟩:=hall k hlt
   have hfk:=hfr (3+k)
   have hpb':¬ b=pl.block:=fun h=>hpb h.symm
   have i1:(0:Int)≤(k:Int):=by omega
   have i2:(k:Int)<256:=by omega
   have HG:Hid (w.grownBy wr (some b)):=hgr
   have HLow:Hid (∀ i,i<3→wr.cell? ⟨b,i,none⟩=w.cell? ⟨b,i,none⟩):=hlow
   have HF:Hid (∀ i,wr.frozen? ⟨b,i,none⟩=false):=hfr
   have HT:Hid (∀ i,i<k→wr.cell? ⟨b,3+i,none⟩=some (.int .u32 (halves 8 i:Nat))):=htab
   have HA:Hid (∀ i,i<256→∃ v,wr.cell? ⟨b,3+i,none⟩=some v):=hall
   clear hgr hlow hfr htab hall hany hfree hp
   go_wp2
   go_region_held3 (fun w'=>w'.cell? pl=some (.pointer (some ⟨b,0,none⟩)))
    (go_keep)
    (first | (go_at_call 296;refine (turned_int _ k _ ?_ (by omega)).mono ?_;(rw [IntKind.wrap_u32'];omega);rintro e w' ⟨rfl,rfl⟩))
   go_wp2
   go_roundw
   case rel =>
    refine ⟨k+1,by omega,by go_num,grown_drew (grown_trans HG.out (grown_set _ _ _ _)),fun i hi=>?_,fun i=>?_,fun i hi=>?_,fun i hi=>?_⟩
    ·rw [World.cell?_drew,World.cell?_setCell_other _ _ _ _ (by simp <;> omega)];exact HLow.out i hi
    ·rw [World.frozen?_drew,World.frozen?_setCell];exact HF.out i
    ·rw [World.cell?_drew]
     by_cases e:i=k
     ·subst e;exact World.cell?_setCell_same _ _ _ hold
     ·rw [World.cell?_setCell_other _ _ _ _ (by simp <;> omega)];exact HT.out i (by omega)
    ·rw [World.cell?_drew]
     by_cases e:i=k
     ·subst e;exact ⟨_,World.cell?_setCell_same _ _ _ hold⟩
     ·rw [World.cell?_setCell_other _ _ _ _ (by simp <;> omega)];exact HA.out i hi
   case measure=>simp [intOf];omega
  ·have ek:k=256:=by omega
   subst ek
   go_wp2
   go_end0
   exact ⟨rfl,hgr,hlow,hfr,htab⟩
theorem maker_done (w:World) (b:Nat) (k0:w.cell? ⟨b,0,none⟩=some (.int .u32 0)) (k1:w.cell? ⟨b,1,none⟩=some (.int .i32 1)) (hf:∀ i,w.frozen? ⟨b,i,none⟩=false)
  (ht:∀ i,i<256→w.cell? ⟨b,3+i,none⟩=some (.int .u32 (halves 8 i:Nat))):Maker ((w.drew.setCell ⟨b,0,none⟩ (.int .u32 1)).setCell ⟨b,1,none⟩ (.int .i32 0)) b true:=by
 have tb:∀ i,i<256→((w.drew.setCell ⟨b,0,none⟩ (.int .u32 1)).setCell ⟨b,1,none⟩ (.int .i32 0)).cell? ⟨b,3+i,none⟩=some (.int .u32 (halves 8 i:Nat)):=fun i hi=>by
  rw [World.cell?_setCell_other _ _ _ _ (by simp <;> omega),World.cell?_setCell_other _ _ _ _ (by simp <;> omega),World.cell?_drew];exact ht i hi
 refine ⟨?_,?_,fun _=>tb,fun i hi=>⟨_,tb i hi⟩,fun i=>?_⟩
 ·rw [World.cell?_setCell_other _ _ _ _ (by simp)]
  exact World.cell?_setCell_same _ _ _ ((World.cell?_drew _ _).trans k0)
 ·refine World.cell?_setCell_same (u:=.int .i32 1) _ _ _ ?_
  rw [World.cell?_setCell_other _ _ _ _ (by simp),World.cell?_drew];exact k1
 ·rw [World.frozen?_setCell,World.frozen?_setCell,World.frozen?_drew];exact hf i
set_option maxRecDepth 100000 in
set_option maxHeartbeats 1600000 in
theorem slow_any (b:Nat) (pl:Addr) (hpb:¬ pl.block=b) (w:World) (hp:w.cell? pl=some (.pointer (some ⟨b,0,none⟩))) (hm:Maker w b false) :
  Calls Tryz.prog 323 #[.pointer (some ⟨b,0,none⟩),.func (.func 295) #[] #[.pointer (some pl)]] w fun e w'=>e=.returned (.tuple #[])∧Maker w' b true∧w.grownBy w' (some b):=by
 have h0:w.cell? ⟨b,0,none⟩=some (.int .u32 0):=hm.c0
 have h1:=hm.c1
 have f0:=hm.free 0
 have f1:=hm.free 1
 have HM:Hid (Maker w b false):=hm
 clear hm
 have hl:=run_call_load (P:=Tryz.prog) Tryz.func350 (by kernel_rfl) (by kernel_rfl) (by kernel_rfl) .u32 (by kernel_rfl) (w:=w.setCell ⟨b,1,none⟩ (.int .i32 1)) (a:=⟨b,0,none⟩) (x:=0) ((World.cell?_setCell_other _ ⟨b,1,none⟩ ⟨b,0,none⟩ _ (by simp)).trans h0)
 have HP1:Hid ((w.setCell ⟨b,1,none⟩ (.int .i32 1)).cell? pl=some (.pointer (some ⟨b,0,none⟩))):=(World.cell?_setCell_other _ ⟨b,1,none⟩ pl _ (fun h=>hpb (by rw [← h]))).trans hp
 have hnot:∀ (x:Bool) (w:World),(Op.unary .not (.bool x)).run Tryz.prog w=.ok (.bool (!x)) w:=fun _ _=>rfl
 go_enter_defers Tryz.func323,Tryz.ntmps323
 go_wp2_with (first | (go_at_call 351;refine (lock_free ⟨b,1,none⟩ _ (by go_simp) (by go_simp)).mono ?_;rintro e w' ⟨rfl,rfl⟩) | (go_at_call 322;go_in))
 refine (fill_any b pl hpb _ HP1.out (fun i hi=>?_) (fun i=>?_)).mono ?_
 ·obtain ⟨v,hv⟩:=HM.out.any i hi
  exact ⟨v,(World.cell?_setCell_other _ ⟨b,1,none⟩ ⟨b,3+i,none⟩ _ (by simp <;> omega)).trans hv⟩
 ·rw [World.frozen?_setCell];exact HM.out.free i
 rintro e w1 ⟨rfl,hgr,hlow,hfr,htab⟩
 have k0:w1.cell? ⟨b,0,none⟩=some (.int .u32 0):=(hlow 0 (by omega)).trans ((World.cell?_setCell_other _ ⟨b,1,none⟩ ⟨b,0,none⟩ _ (by simp)).trans h0)
 have k1:w1.cell? ⟨b,1,none⟩=some (.int .i32 1):=(hlow 1 (by omega)).trans (World.cell?_setCell_same _ _ _ h1)
 have g0:=hfr 0
 have g1:=hfr 1
 have HG:Hid ((w.setCell ⟨b,1,none⟩ (.int .i32 1)).grownBy w1 (some b)):=hgr
 have HF:Hid (∀ i,w1.frozen? ⟨b,i,none⟩=false):=hfr
 have HT:Hid (∀ i,i<256→w1.cell? ⟨b,3+i,none⟩=some (.int .u32 (halves 8 i:Nat))):=htab
 clear hgr hlow hfr htab
 go_wp2
 refine leaves_cons (f:=353) (args:=#[.pointer (some ⟨b,0,none⟩),.bool true]) (by simp) (by simp [go_sem]) ?_
 refine (store_deferred ⟨b,0,none⟩ (.int .u32 0) .returning _ k0 g0).mono ?_
 rintro e u' w'' ⟨rfl,rfl,rfl⟩
 refine leaves_cons (f:=352) (args:=#[.pointer (some ⟨b,1,none⟩)]) (by simp [settle]) (by simp [go_sem]) ?_
 refine (unlock_deferred ⟨b,1,none⟩ _ _ ?_ (by simp [g1])).mono ?_
 ·refine (World.cell?_setCell_other _ ⟨b,0,none⟩ ⟨b,1,none⟩ _ (by simp)).trans ?_
  rw [World.cell?_drew]
  exact k1
 rintro e u' w'' ⟨rfl,rfl,rfl⟩
 simp only [Leaves,settle]
 refine ⟨.tuple #[],by simp [results,Tryz.results323],rfl,?_,?_⟩
 ·exact maker_done w1 b k0 k1 HF.out HT.out
 ·exact grown_trans (grown_set _ _ _ _) (grown_trans (grown_trans (grown_drew HG.out) (grown_set _ _ _ _)) (grown_set _ _ _ _))
set_option maxRecDepth 100000 in
set_option maxHeartbeats 1600000 in
theorem do_first (b:Nat) (pl:Addr) (hpb:¬ pl.block=b) (w:World) (hp:w.cell? pl=some (.pointer (some ⟨b,0,none⟩))) (hm:Maker w b false) :
  Calls Tryz.prog 294 #[.pointer (some ⟨b,0,none⟩),.func (.func 295) #[] #[.pointer (some pl)]] w fun e w'=>e=.returned (.tuple #[])∧Maker w' b true∧w.grownBy w' (some b):=by
 have h0:w.cell? ⟨b,0,none⟩=some (.int .u32 0):=hm.c0
 have hl:=run_call_load (P:=Tryz.prog) Tryz.func350 (by kernel_rfl) (by kernel_rfl) (by kernel_rfl) .u32 (by kernel_rfl) h0
 have hnot:∀ (x:Bool) (w:World),(Op.unary .not (.bool x)).run Tryz.prog w=.ok (.bool (!x)) w:=fun _ _=>rfl
 go_enter Tryz.func294,Tryz.ntmps294
 go_wp2_with (first | (go_at_call 323;refine (slow_any b pl hpb _ hp hm).mono ?_;rintro e w' ⟨rfl,hm',hgr⟩) | (go_at_call 322;go_in))
 go_end0
 exact ⟨rfl,by assumption,by assumption⟩
theorem do_done (b:Nat) (fv:Value) (w:World) (hm:Maker w b true) :
  Calls Tryz.prog 294 #[.pointer (some ⟨b,0,none⟩),fv] w fun e w'=>e=.returned (.tuple #[])∧w'=w:=by
 have h0:w.cell? ⟨b,0,none⟩=some (.int .u32 1):=hm.c0
 have hl:=run_call_load (P:=Tryz.prog) Tryz.func350 (by kernel_rfl) (by kernel_rfl) (by kernel_rfl) .u32 (by kernel_rfl) h0
 have hnot:∀ (x:Bool) (w:World),(Op.unary .not (.bool x)).run Tryz.prog w=.ok (.bool (!x)) w:=fun _ _=>rfl
 go_enter Tryz.func294,Tryz.ntmps294
 go_wp2
 go_end0
 exact ⟨rfl,rfl⟩
theorem Maker.alloc {w:World} {b:Nat} {d:Bool} (h:Maker w b d) (o:Obj):Maker (w.alloc o) b d:=by
 have hb:b<w.heap.size:=World.block_lt_of_cell? w ⟨b,0,none⟩ h.c0
 have e:∀ i,(w.alloc o).cell? ⟨b,i,none⟩=w.cell? ⟨b,i,none⟩:=fun i=>World.cell?_alloc_lt _ _ ⟨b,i,none⟩ hb
 refine ⟨by rw [e];exact h.c0,by rw [e];exact h.c1,fun hd i hi=>by rw [e];exact h.tab hd i hi,fun i hi=>?_,fun i=>?_⟩
 ·rw [e];exact h.any i hi
 ·rw [World.frozen?_alloc_old _ _ ⟨b,i,none⟩ (Nat.ne_of_lt hb)];exact h.free i
theorem Maker.lt {w:World} {b:Nat} {d:Bool} (h:Maker w b d):b<w.heap.size:=World.block_lt_of_cell? w ⟨b,0,none⟩ h.c0
set_option maxRecDepth 100000 in
set_option maxHeartbeats 1600000 in
theorem of_done (b g off n cap:Nat) (l:List Nat) (w:World) (hm:Maker w b true) (hn:l.length=n) (hl:Byt l) (hs:n≤1099511627776) (hrow:RowAt w g off l) :
  Calls Tryz.prog 249 #[.pointer (some ⟨b,0,none⟩),.slice (some ⟨g,off,none⟩) n cap] w fun e w'=>e=.returned (.int .u32 (crc l:Nat))∧Maker w' b true∧w.grownBy w' (some b):=by
 have HN:Hid (l.length=n):=hn
 have hmf:∀ (fn:Fn) (first cap:Array Value) (w:World),(Instr.makeFunc fn first cap).run Tryz.prog w=.ok (.func fn first cap) w:=fun _ _ _ _=>rfl
 have hbl:=hm.lt
 have hm1:Maker (w.alloc (.cells #[.pointer (some ⟨b,0,none⟩)] 341)) b true:=hm.alloc _
 have hrow1:RowAt (w.alloc (.cells #[.pointer (some ⟨b,0,none⟩)] 341)) g off l:=by
  by_cases h0:0<l.length
  ·exact (RowAt_alloc (hrow.lt h0)).2 hrow
  ·intro i hi;omega
 clear hn hrow hm
 go_enter Tryz.func249,Tryz.ntmps249
 go_wp2_with (go_at_call 294;refine (do_done b _ _ hm1).mono ?_;rintro e w' ⟨rfl,rfl⟩)
 have HM:Hid (Maker (w.alloc (.cells #[.pointer (some ⟨b,0,none⟩)] 341)) b true):=hm1
 have HR:Hid (RowAt (w.alloc (.cells #[.pointer (some ⟨b,0,none⟩)] 341)) g off l):=hrow1
 clear hm1 hrow1
 go_loop [5,15] (fun c i=>∃ k:Nat,k≤n∧i=.int .i64 k∧c=.int .u32 (crcS 4294967295 (l.take k):Nat)) (fun _ i=>n - (intOf i).toNat)
 case atStart=>exact ⟨0,Nat.zero_le _,rfl,rfl⟩
 case round =>
  obtain ⟨k,hk,rfl,rfl⟩:=hrel
  have hB:crcS 4294967295 (l.take k)<4294967296:=crcS_lt _ _ (by decide) (hl.take_ k)
  by_cases hlt:k<n
  ·have hcx:=HR.out k (by rw [HN.out];exact hlt)
   have ha:=at_lt hl k
   obtain ⟨C,hC⟩:∃ C,C=crcS 4294967295 (l.take k):=⟨_,rfl⟩
   rw [← hC] at hB ⊢
   have HC:Hid (crcS 4294967295 (l.take (k+1))=tstep C (at_ l k)):=by
    show _=_
    rw [take_at l k (by rw [HN.out];exact hlt),crcS_snoc,hC,tstep_eq]
   clear hC
   have hx:bits .xor .u8 ((C:Int) % 256) (at_ l k:Int)=((C % 256 ^^^ at_ l k:Nat):Int):=by
    rw [show ((C:Int) % 256)=((C % 256:Nat):Int) by omega];exact u8_xor_nat _ _ (by omega) ha
   have ht:C % 256 ^^^ at_ l k<256:=xor_lt8 _ _ (by omega) ha
   obtain ⟨T,hT⟩:∃ T,T=C % 256 ^^^ at_ l k:=⟨_,rfl⟩
   rw [← hT] at hx ht
   have HTS:Hid (tstep C (at_ l k)=halves 8 T ^^^ C / 256):=by show _=_;rw [hT];rfl
   clear hT
   have htab:=HM.out.tab rfl T ht
   have hh:=halves_lt 8 T (by omega)
   have hx2:bits .xor .u32 ((halves 8 T:Nat):Int) ((C:Int) / 256)=((halves 8 T ^^^ C / 256:Nat):Int):=by
    rw [show ((C:Int) / 256)=((C / 256:Nat):Int) by omega];exact u32_xor_nat _ _ hh (by omega)
   have hT1:(0:Int)≤(T:Int):=by omega
   have hT2:(T:Int)<256:=by omega
   go_wp2
   go_round
   case rel=>exact ⟨k+1,by omega,by go_num,by rw [HC.out,HTS.out]⟩
   case measure=>simp [intOf];omega
  ·have ek:k=n:=by omega
   subst ek
   have a3:bits .xor .u32 IntKind.u32.max (crcS 4294967295 (l.take k):Int)=((4294967295 ^^^ crcS 4294967295 (l.take k):Nat):Int):=notU _ hB
   have hsg:IntKind.u32.signed=false:=rfl
   go_wp2
   go_ret
   refine ⟨ret_int ?_,HM.out,grown_alloc _ _ _⟩
   rw [List.take_of_length_le (by rw [HN.out];omega)]
   rfl
set_option maxRecDepth 100000 in
set_option maxHeartbeats 1600000 in
theorem of_first (b g off n cap:Nat) (l:List Nat) (w:World) (hm:Maker w b false) (hgb:g≠b) (hn:l.length=n) (hl:Byt l) (hs:n≤1099511627776) (hrow:RowAt w g off l) :
  Calls Tryz.prog 249 #[.pointer (some ⟨b,0,none⟩),.slice (some ⟨g,off,none⟩) n cap] w fun e w'=>e=.returned (.int .u32 (crc l:Nat))∧Maker w' b true∧w.grownBy w' (some b):=by
 have HN:Hid (l.length=n):=hn
 have hmf:∀ (fn:Fn) (first cap:Array Value) (w:World),(Instr.makeFunc fn first cap).run Tryz.prog w=.ok (.func fn first cap) w:=fun _ _ _ _=>rfl
 have hbl:=hm.lt
 have hm1:Maker (w.alloc (.cells #[.pointer (some ⟨b,0,none⟩)] 341)) b false:=hm.alloc _
 have hrow1:RowAt (w.alloc (.cells #[.pointer (some ⟨b,0,none⟩)] 341)) g off l:=by
  by_cases h0:0<l.length
  ·exact (RowAt_alloc (hrow.lt h0)).2 hrow
  ·intro i hi;omega
 clear hn hrow hm
 go_enter Tryz.func249,Tryz.ntmps249
 go_wp2_with fail
 refine (do_first b ⟨w.heap.size,0,none⟩ (by simp;omega) _ (by simp) hm1).mono ?_
 rintro e w1 ⟨rfl,hm2,hgr⟩
 have hbox:w1.cell? ⟨w.heap.size,0,none⟩=some (.pointer (some ⟨b,0,none⟩)):=by
  rw [grown_cell hgr (a:=⟨w.heap.size,0,none⟩) (by simp;omega) (by simp)];simp
 have HM:Hid (Maker w1 b true):=hm2
 have HR:Hid (RowAt w1 g off l):=row_grown hrow1 hgr hgb
 have HG:Hid (w.grownBy w1 (some b)):=grown_trans (grown_alloc _ _ _) hgr
 clear hm1 hrow1 hm2 hgr
 go_wp2
 go_loop [5,15] (fun c i=>∃ k:Nat,k≤n∧i=.int .i64 k∧c=.int .u32 (crcS 4294967295 (l.take k):Nat)) (fun _ i=>n - (intOf i).toNat)
 case atStart=>exact ⟨0,Nat.zero_le _,rfl,rfl⟩
 case round =>
  obtain ⟨k,hk,rfl,rfl⟩:=hrel
  have hB:crcS 4294967295 (l.take k)<4294967296:=crcS_lt _ _ (by decide) (hl.take_ k)
  by_cases hlt:k<n
  ·have hcx:=HR.out k (by rw [HN.out];exact hlt)
   have ha:=at_lt hl k
   obtain ⟨C,hC⟩:∃ C,C=crcS 4294967295 (l.take k):=⟨_,rfl⟩
   rw [← hC] at hB ⊢
   have HC:Hid (crcS 4294967295 (l.take (k+1))=tstep C (at_ l k)):=by
    show _=_
    rw [take_at l k (by rw [HN.out];exact hlt),crcS_snoc,hC,tstep_eq]
   clear hC
   have hx:bits .xor .u8 ((C:Int) % 256) (at_ l k:Int)=((C % 256 ^^^ at_ l k:Nat):Int):=by
    rw [show ((C:Int) % 256)=((C % 256:Nat):Int) by omega];exact u8_xor_nat _ _ (by omega) ha
   have ht:C % 256 ^^^ at_ l k<256:=xor_lt8 _ _ (by omega) ha
   obtain ⟨T,hT⟩:∃ T,T=C % 256 ^^^ at_ l k:=⟨_,rfl⟩
   rw [← hT] at hx ht
   have HTS:Hid (tstep C (at_ l k)=halves 8 T ^^^ C / 256):=by show _=_;rw [hT];rfl
   clear hT
   have htab:=HM.out.tab rfl T ht
   have hh:=halves_lt 8 T (by omega)
   have hx2:bits .xor .u32 ((halves 8 T:Nat):Int) ((C:Int) / 256)=((halves 8 T ^^^ C / 256:Nat):Int):=by
    rw [show ((C:Int) / 256)=((C / 256:Nat):Int) by omega];exact u32_xor_nat _ _ hh (by omega)
   have hT1:(0:Int)≤(T:Int):=by omega
   have hT2:(T:Int)<256:=by omega
   go_wp2
   go_round
   case rel=>exact ⟨k+1,by omega,by go_num,by rw [HC.out,HTS.out]⟩
   case measure=>simp [intOf];omega
  ·have ek:k=n:=by omega
   subst ek
   have a3:bits .xor .u32 IntKind.u32.max (crcS 4294967295 (l.take k):Int)=((4294967295 ^^^ crcS 4294967295 (l.take k):Nat):Int):=notU _ hB
   have hsg:IntKind.u32.signed=false:=rfl
   go_wp2
   go_ret
   refine ⟨ret_int ?_,HM.out,HG.out⟩
   rw [List.take_of_length_le (by rw [HN.out];omega)]
   rfl
theorem of_any (b g off n cap:Nat) (d:Bool) (l:List Nat) (w:World) (hm:Maker w b d) (hgb:g≠b) (hn:l.length=n) (hl:Byt l) (hs:n≤1099511627776) (hrow:RowAt w g off l) :
  Calls Tryz.prog 249 #[.pointer (some ⟨b,0,none⟩),.slice (some ⟨g,off,none⟩) n cap] w fun e w'=>e=.returned (.int .u32 (crc l:Nat))∧Maker w' b true∧w.grownBy w' (some b):=by
 cases d with
 | true=>exact of_done b g off n cap l w hm hn hl hs hrow
 | false=>exact of_first b g off n cap l w hm hgb hn hl hs hrow
set_option maxHeartbeats 400000 in
theorem split_any (b off n cap k:Nat) (w:World) (hk:k≤n) (hn:n≤cap) (hcap:cap≤maxLen) :
  Calls Tryz.prog 341 #[.slice (some ⟨b,off,none⟩) n cap,.int .i64 k] w fun e w'=>e=.returned (.tuple #[.slice (some ⟨b,off,none⟩) k k,.slice (cutA b off k cap) (n - k) (cap - k)])∧∃ q,w'=w.drewN q:=by
 unfold maxLen at hcap
 have i0:(0:Int)≤(k:Int):=by omega
 have i1:(k:Int)≤(cap:Int):=by omega
 have i2:(k:Int)≤(n:Int):=by omega
 by_cases hck:cap=k
 ·subst hck
  obtain rfl:n=cap:=by omega
  go_enter Tryz.func341,Tryz.ntmps341
  go_wp2
  go_quiet (fail)
  go_wp2
  go_ret2
  refine ⟨?_,_,rfl⟩
  rw [cutA_end,Nat.sub_self]
  rfl
 ·go_enter Tryz.func341,Tryz.ntmps341
  go_wp2
  go_quiet (fail)
  go_wp2
  go_ret2
  refine ⟨?_,_,rfl⟩
  rw [cutA_far (by omega)]
  rfl
set_option maxHeartbeats 400000 in
theorem seal_any (base b g k cap:Nat) (d:Bool) (xs:List Nat) (w:World) (hm:Maker w b d) (hne:g≠b) (hown:w.ownsRow base 5 1 (.slice (some ⟨g,0,none⟩) k cap) k (bs xs)) (hb:Byt xs) (hk:k≤1099511627776) (hr:k+4≤cap) :
  Calls Tryz.prog 185 #[.pointer (some ⟨b,0,none⟩),.slice (some ⟨g,0,none⟩) k cap] w fun e w'=>e=.returned (.slice (some ⟨g,0,none⟩) (k+4) cap) ∧
   w'.ownsRow base 5 1 (.slice (some ⟨g,0,none⟩) (k+4) cap) (k+4) (bs (xs++be 4 (crc xs)))∧(∀ B,B≤b→B≤g→Below B w w'):=by
 have hlen:=own_len hown
 have hlt:=hm.lt
 have hcl:=crc_lt xs hb
 have HL:Hid (xs.length=k):=hlen
 clear hlen
 go_enter Tryz.func185,Tryz.ntmps185
 go_wp2_with fail
 refine (of_any b g 0 k cap d xs _ hm hne HL.out hb hk (own_row hown)).mono ?_
 rintro e w1 ⟨rfl,hm1,hg1⟩
 have ho1:=hown.kept hg1 (Or.inr (by simp [Value.ownBlock,hne]))
 go_wp2_with fail
 refine (app_u32 base g k cap xs (crc xs) _ ho1 hr hcl).mono ?_
 rintro e w2 ⟨rfl,ho2,hg2⟩
 go_wp2
 go_ret
 exact ⟨rfl,ho2,fun B h1 h2=>below_two hg1 hg2 h1 h2 (by omega)⟩
theorem heap_drewN (w:World) (q:Nat):(w.drewN q).heap=w.heap:=by simp
theorem Byt.take {l:List Nat} (h:Byt l) (n:Nat):Byt (l.take n):=fun x hx=>h x (List.mem_of_mem_take hx)
theorem Byt.drop {l:List Nat} (h:Byt l) (n:Nat):Byt (l.drop n):=fun x hx=>h x (List.mem_of_mem_drop hx)
end Go.Proofs.YtejiankgafjppaaGreatDoor
