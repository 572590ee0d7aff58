import Derived.Test.YtcalalndmcemiaaGreatDoorC15
import Derived.Lib.AppendStr
import Derived.Shelf.SlIter.Nil
import Derived.Ground.GgzProg
import Derived.Shelf.AbstractIn
set_option maxRecDepth 100000
set_option maxHeartbeats 16000000
namespace Go.Proofs.YtcalalndmcemiaaGreatDoor
open Go.RowKit Go.Maps
open Sc
section
variable (sp lg bV bT bH n t:Nat) (seq:Int) (k:ByteArray) (s:AShard) (w:World)
theorem jXr (v:ByteArray) (h:ShIn w sp lg bV bT bH n s) (ht:t<18446744073709551616) (hn:n+2<maxLen) (hst:(s.txn t).state≤3) (hdn:(s.txn t).done<4611686018427387904) (hlg:1≤lg:=by first | assumption | omega) :
  Calls Tryz.prog 32 #[.pointer (some ⟨sp,0,none⟩),.int .u64 (t:Int),.int .i64 seq,.string k,.string v] w λe w'=>e=.returned (errN (s.operate t seq k ⟨1,v⟩).2)∧ShIn w' sp lg bV bT bH (n+2) (s.operate t seq k ⟨1,v⟩).1∧Fr [bT,bH] w w':=by
 have ho:=jH8 sp lg bV bT bH n t seq k ⟨1,v⟩ s w h ht hn hst hdn
 clear h
 go_enter Tryz.func32,Tryz.ntmps32
 go_wp2_with fail
 refine ho.mono ?_
 clear ho
 rintro e w1 ⟨rfl,h1⟩
 have H1:Hid _:=h1
 clear h1
 go_wp2
 go_ret
 exact ⟨rfl,H1.out⟩
end
def AShard.get (s:AShard) (t:Nat) (seq:Int) (k:ByteArray):AShard × ByteArray × Bool × Nat :=
 if (s.operate t seq k ⟨0,ByteArray.empty⟩).2=0 then
  if ((s.operate t seq k ⟨0,ByteArray.empty⟩).1.grip t k).writes=true then ((s.operate t seq k ⟨0,ByteArray.empty⟩).1,((s.operate t seq k ⟨0,ByteArray.empty⟩).1.grip t k).val,decide (((s.operate t seq k ⟨0,ByteArray.empty⟩).1.grip t k).way=1),0)
  else ((s.operate t seq k ⟨0,ByteArray.empty⟩).1,(jA3 (s.operate t seq k ⟨0,ByteArray.empty⟩).1.vals k).getD ByteArray.empty,(jA3 (s.operate t seq k ⟨0,ByteArray.empty⟩).1.vals k).isSome,0)
 else ((s.operate t seq k ⟨0,ByteArray.empty⟩).1,ByteArray.empty,false,(s.operate t seq k ⟨0,ByteArray.empty⟩).2)
theorem jX0 (sp lg bV bT bH n t:Nat) (seq:Int) (k:ByteArray) (s:AShard) (w:World) (h:ShIn w sp lg bV bT bH n s) (ht:t<18446744073709551616) (hk:k.size≤maxLen) (hn:n+2<maxLen) (hst:(s.txn t).state≤3) (hdn:(s.txn t).done<4611686018427387904) (hlg:1≤lg:=by first | assumption | omega) :
  Calls Tryz.prog 31 #[.pointer (some ⟨sp,0,none⟩),.int .u64 (t:Int),.int .i64 seq,.string k] w λe w'=>e=.returned (.tuple #[.string (s.get t seq k).2.1,.bool (s.get t seq k).2.2.1,errN (s.get t seq k).2.2.2])∧ShIn w' sp lg bV bT bH (n+2) (s.get t seq k).1∧Fr [bT,bH] w w':=by
 have ho:=jH8 sp lg bV bT bH n t seq k ⟨0,ByteArray.empty⟩ s w h ht hn hst hdn
 clear h
 have HG:Hid (s.get t seq k=if (s.operate t seq k ⟨0,ByteArray.empty⟩).2=0 then
  if ((s.operate t seq k ⟨0,ByteArray.empty⟩).1.grip t k).writes=true then ((s.operate t seq k ⟨0,ByteArray.empty⟩).1,((s.operate t seq k ⟨0,ByteArray.empty⟩).1.grip t k).val,decide (((s.operate t seq k ⟨0,ByteArray.empty⟩).1.grip t k).way=1),0)
  else ((s.operate t seq k ⟨0,ByteArray.empty⟩).1,(jA3 (s.operate t seq k ⟨0,ByteArray.empty⟩).1.vals k).getD ByteArray.empty,(jA3 (s.operate t seq k ⟨0,ByteArray.empty⟩).1.vals k).isSome,0)
 else ((s.operate t seq k ⟨0,ByteArray.empty⟩).1,ByteArray.empty,false,(s.operate t seq k ⟨0,ByteArray.empty⟩).2)):=rfl
 obtain ⟨R,hR⟩:∃ R,R=s.operate t seq k ⟨0,ByteArray.empty⟩:=⟨_,rfl⟩
 rw [← hR] at ho HG
 clear hR
 go_enter Tryz.func31,Tryz.ntmps31
 go_wp2_with fail
 refine ho.mono ?_
 clear ho
 rintro e w1 ⟨rfl,hin1,hf1⟩
 have H1:Hid (ShIn w1 sp lg bV bT bH (n+2) R.1∧Fr [bT,bH] w w1):=⟨hin1,hf1⟩
 have c3:=jA0 hin1.blk 3
 simp at c3
 have l3:=hin1.lookH ht hk
 obtain ⟨G,hG⟩:∃ G,G=R.1.grip t k:=⟨_,rfl⟩
 rw [← hG] at l3 HG
 clear hG hin1 hf1
 by_cases hc:R.2=0
 ·rw [hc,jAt]
  cases hg:G.writes with
  | true =>
   have hG2:Hid (s.get t seq k=(R.1,G.val,decide (G.way=1),0)):=by show _=_;rw [HG.out,if_pos hc,if_pos hg]
   have hgw:=jGt G (w1.alloc (.cells #[.int .u8 (G.way:Int),.string G.val] 134))
   rw [hg] at hgw
   have HGW:Hid (G.writes=true):=hg
   clear HG hg hc
   go_wp2_with fail
   refine hgw.mono ?_
   clear hgw
   rintro e w2 ⟨rfl,rfl⟩
   go_wp2
   go_quiet (fail)
   go_wp2
   go_ret3
   rw [hG2.out]
   have hb:((G.way:Int) == 1)=decide (G.way=1):=by
    by_cases e:G.way=1
    ·simp [e]
    ·have:¬ (G.way:Int)=1:=by omega
     simp [e,this]
   refine ⟨by rw [← hb];rfl,H1.out.1.fr ((jAk (((Fr.refl [] w1).alloc _).alloc _) _)) sE sE sE sE,H1.out.2.trans ((jAk (((Fr.refl [] w1).alloc _).alloc _) _).mono sE)⟩
  | false =>
   have hG2:Hid (s.get t seq k=(R.1,(jA3 R.1.vals k).getD ByteArray.empty,(jA3 R.1.vals k).isSome,0)):=by show _=_;rw [HG.out,if_pos hc,if_neg (by rw [hg];decide)]
   have hgw:=jGt G (w1.alloc (.cells #[.int .u8 (G.way:Int),.string G.val] 134))
   rw [hg] at hgw
   clear HG hg hc
   go_wp2_with fail
   refine hgw.mono ?_
   clear hgw
   rintro e w2 ⟨rfl,rfl⟩
   have hfa:=(((Fr.refl [] w1).alloc (.cells #[.int .u8 (G.way:Int),.string G.val] 134)).alloc (.cells #[.int .u8 (G.way:Int),.string G.val] 134))
   have hva:=jJq sp lg bV bT bH (n+2) k R.1 _ (H1.out.1.fr hfa sE sE sE sE) hk
   have HFA:Hid _:=hfa
   clear hfa
   go_wp2_with fail
   refine hva.mono ?_
   clear hva
   rintro e w3 ⟨rfl,q,rfl⟩
   go_wp2
   go_ret3
   rw [hG2.out]
   exact ⟨rfl,H1.out.1.fr (jAk HFA.out q) sE sE sE sE,H1.out.2.trans ((jAk HFA.out q).mono sE)⟩
 ·have hG2:Hid (s.get t seq k=(R.1,ByteArray.empty,false,R.2)):=by show _=_;rw [HG.out,if_neg hc]
  clear HG
  rw [jAc hc]
  go_wp2
  go_ret3
  rw [hG2.out]
  exact ⟨by rw [jAc hc];rfl,H1.out⟩
end Go.Proofs.YtcalalndmcemiaaGreatDoor
set_option maxRecDepth 100000
set_option maxHeartbeats 16000000
namespace Go.Proofs.YtcalalndmcemiaaGreatDoor
open Go.RowKit
open Sc
structure TFr (t:TypeId) (w w':World):Prop where
 os:w'.os=w.os
 tape:w'.tape=w.tape
 output:w'.output=w.output
 size:w.heap.size≤w'.heap.size
 block:∀ k,k<w.heap.size→(∀ c,w.heap[k]?≠some (.cells c t (0,0)))→w'.heap[k]?=w.heap[k]?
theorem TFr.refl (t:TypeId) (w:World):TFr t w w:=⟨rfl,rfl,rfl,Nat.le_refl _,λ_ _ _=>rfl⟩
theorem TFr.trans {t:TypeId} {a b c:World} (h:TFr t a b) (k:TFr t b c):TFr t a c :=
 ⟨k.os.trans h.os,k.tape.trans h.tape,k.output.trans h.output,Nat.le_trans h.size k.size,
  λi hi hn=>(k.block i (Nat.lt_of_lt_of_le hi h.size) (λc e=>hn c ((h.block i hi hn).symm.trans e))).trans (h.block i hi hn)⟩
theorem TFr.alloc {t:TypeId} {a w:World} (h:TFr t a w) (o:Obj):TFr t a (w.alloc o) :=
 ⟨h.os,h.tape,h.output,Nat.le_trans h.size sE,λk hk hn=>(Below.heap_alloc w o k (Nat.lt_of_lt_of_le hk h.size)).trans (h.block k hk hn)⟩
theorem TFr.grown {t:TypeId} {a b c:World} {r:Option Nat} (h:TFr t a b) (hg:b.grownBy c r) (hr:∀ q,r=some q→∃ x,b.heap[q]?=some (.cells x t (0,0))):TFr t a c :=
 h.trans ⟨hg.os,hg.tape,hg.output,hg.size,λk hk hn=>hg.block k hk (λe=>by obtain ⟨x,hx⟩:=hr k e.symm;exact hn x hx)⟩
theorem jF7 (base:Nat) (v:Value) (xs:List Nat) (n m:Nat) (w:World) (hown:w.ownsRow base 5 1 v m (bs xs)) (hn:n<18446744073709551616) (hm:m≤1099511627776) (hbase:base≤w.heap.size) :
  Calls Tryz.prog 149 #[v,.int .u64 n] w λe w'=>∃ v',e=.returned v'∧w'.ownsRow base 5 1 v' (m+8) (bs (xs++be 8 n))∧Below base w w'∧TFr 5 w w':=by
 obtain ⟨i0,hi,hz0,hz1,hz2⟩:=info_parts Tryz.info5
 have HNN:Hid (n<18446744073709551616):=hn
 clear hn
 go_enter Tryz.func149,Tryz.ntmps149
 go_wp2_with (go_at_call 193;refine (jEn _).mono ?_;rintro e w' ⟨rfl,hw⟩;have hw2:=hw.symm;subst hw2;clear hw)
 go_loopw [0,5] (λv i wr=>∃ j:Nat,j≤8∧i=.int .i64 ((8:Int) - 1 - j)∧wr.ownsRow base 5 1 v (m+j) (bs (xs++(List.range j).map (digit 8 n)))∧Below base w wr∧TFr 5 w wr) (λ_ i _=>(intOf i+1).toNat)
 case atStart=>exact ⟨0,Nat.zero_le _,by go_num,by simpa using hown,Below.refl _ _,TFr.refl _ _⟩
 case round =>
  obtain ⟨j,hj,rfl,hownr,hbel,htf⟩:=hrel
  by_cases hlt:j<8
  ·have HD:Hid (((n:Int) / 2 ^ (8*(7 - j)) % 256)=((digit 8 n j:Nat):Int)):=jEz n 8 j
   go_wp2_with (at_builtin;refine wpList_append_own _ rfl _ _ 88 rfl base 5 i0 (.int .u8 0) 1 1 Tryz.underlying88 hi hz0 hz1 hz2 rfl (by decide) _ _ _ rfl (hownr.alloc _) ⟨wr.heap.size,0,none⟩ 1 1 [.int .u8 ((n:Int) / 2 ^ (8*(7 - j)) % 256)] rfl rfl ?c1 ?c2 ?c3 ?c4 ?c5 ?_)
   case c1 =>
    intro jj u hjj
    match jj,hjj with
    | 0,hjj=>simp at hjj;subst hjj;simp [Addr.add]
   case c2=>intro u hu;simp at hu;subst hu;rfl
   case c3=>unfold maxLen;omega
   case c4=>omega
   case c5=>have:=hbel.size;simp;omega
   ·intro v' w1 hown' hgrow _
    have hs1:=hbel.size
    have hB1:Below base w w1:=Below.grown (hbel.alloc oE _) hgrow (by simp;omega) (λq hq=>(hownr.lt q hq).1)
    have hT1:TFr 5 w w1:=(htf.alloc _).grown hgrow (λq hq=>jA4 (hownr.alloc _) hq)
    have hO1:w1.ownsRow base 5 1 v' (m+(j+1)) (bs (xs++(List.range (j+1)).map (digit 8 n))):=by
     rw [HD.out] at hown'
     rw [jFk,← Nat.add_assoc]
     exact hown'
    clear hown' hgrow hownr hbel htf
    go_wp2
    go_roundw
    case rel=>exact ⟨j+1,by omega,jDt oE,hO1,hB1,hT1⟩
    case measure=>simp [intOf] <;> omega
  ·have ek:j=8:=by omega
   subst ek
   go_wp2
   go_ret
   exact ⟨_,rfl,hownr,hbel,htf⟩
theorem jLr (base:Nat) (v:Value) (xs:List Nat) (n m:Nat) (w:World) (hown:w.ownsRow base 5 1 v m (bs xs)) (hn:n<256) (hm:m≤1099511627776) (hbase:base≤w.heap.size) :
  Calls Tryz.prog 156 #[v,.int .u8 n] w λe w'=>∃ v',e=.returned v'∧w'.ownsRow base 5 1 v' (m+1) (bs (xs++be 1 n))∧Below base w w'∧TFr 5 w w':=by
 obtain ⟨i0,hi,hz0,hz1,hz2⟩:=info_parts Tryz.info5
 have HNN:Hid (n<256):=hn
 go_enter Tryz.func156,Tryz.ntmps156
 go_wp2_with (go_at_call 196;refine (jGb _).mono ?_;rintro e w' ⟨rfl,hw⟩;have hw2:=hw.symm;subst hw2;clear hw)
 go_loopw [0,5] (λv i wr=>∃ j:Nat,j≤1∧i=.int .i64 ((1:Int) - 1 - j)∧wr.ownsRow base 5 1 v (m+j) (bs (xs++(List.range j).map (digit 1 n)))∧Below base w wr∧TFr 5 w wr) (λ_ i _=>(intOf i+1).toNat)
 case atStart=>exact ⟨0,Nat.zero_le _,by go_num,by simpa using hown,Below.refl _ _,TFr.refl _ _⟩
 case round =>
  obtain ⟨j,hj,rfl,hownr,hbel,htf⟩:=hrel
  by_cases hlt:j<1
  ·have HD:Hid ((n:Int)=((digit 1 n 0:Nat):Int)):=by show _=_;unfold digit;simp;omega
   obtain rfl:j=0:=by omega
   rw [Nat.add_zero] at hownr
   go_wp2_with (at_builtin;refine wpList_append_own _ rfl _ _ 88 rfl base 5 i0 (.int .u8 0) 1 1 Tryz.underlying88 hi hz0 hz1 hz2 rfl (by decide) _ _ _ rfl (hownr.alloc _) ⟨wr.heap.size,0,none⟩ 1 1 [.int .u8 (n:Int)] rfl rfl ?c1 ?c2 ?c3 ?c4 ?c5 ?_)
   case c1 =>
    intro jj u hjj
    match jj,hjj with
    | 0,hjj=>simp at hjj;subst hjj;simp [Addr.add]
   case c2=>intro u hu;simp at hu;subst hu;rfl
   case c3=>unfold maxLen;omega
   case c4=>omega
   case c5=>have:=hbel.size;simp;omega
   ·intro v' w1 hown' hgrow _
    have hs1:=hbel.size
    have hB1:Below base w w1:=Below.grown (hbel.alloc oE _) hgrow (by simp;omega) (λq hq=>(hownr.lt q hq).1)
    have hT1:TFr 5 w w1:=(htf.alloc _).grown hgrow (λq hq=>jA4 (hownr.alloc _) hq)
    have hO1:w1.ownsRow base 5 1 v' (m+(0+1)) (bs (xs++(List.range (0+1)).map (digit 1 n))):=by
     rw [HD.out] at hown'
     rw [jFk,← Nat.add_assoc]
     simpa using hown'
    clear hown' hgrow hownr hbel htf
    go_wp2
    go_roundw
    case rel=>exact ⟨0+1,by omega,jDt oE,hO1,hB1,hT1⟩
    case measure=>simp [intOf] <;> omega
  ·have ek:j=1:=by omega
   subst ek
   go_wp2
   go_ret
   exact ⟨_,rfl,hownr,hbel,htf⟩
theorem jH1 (t:Nat) (w:World) (ht:t<18446744073709551616) :
  Calls Tryz.prog 277 #[.int .u64 (t:Int)] w λe w'=>e=.returned (.string (str (be 8 t)))∧Below w.heap.size w w':=by
 have hg:=jF7 w.heap.size (.slice none 0 0) [] t 0 w (World.ownsRow_nil _ _ _ _) ht oE (Nat.le_refl _)
 go_enter Tryz.func277,Tryz.ntmps277
 go_wp2_with fail
 refine hg.mono ?_
 clear hg
 rintro e w1 ⟨v',rfl,ho,hb,_⟩
 obtain ⟨g,cap,rfl⟩:=jCl ho oE
 have hcv:=jDo w1 g 0 (0+8) cap (be 8 t) (by rw [jB3]) (jE1 (by simpa using ho))
 clear ho
 go_wp2
 go_ret
 exact ⟨rfl,hb⟩
theorem jNd (base:Nat) (v:Value) (xs:List Nat) (m:Nat) (s:ByteArray) (w:World) (hown:w.ownsRow base 5 1 v m (bs xs)) (hs:s.size<256) (hm:m≤1048576) (hbase:base≤w.heap.size) :
  Calls Tryz.prog 235 #[v,.string s] w λe w'=>∃ v',e=.returned v'∧w'.ownsRow base 5 1 v' (m+1+s.size) (bs (xs++[s.size]++jA6 s))∧Below base w w'∧TFr 5 w w':=by
 have hg:=jLr base v xs s.size m w hown hs oE hbase
 have j1:IntKind.u8.wrap (s.size:Int)=(s.size:Int):=by rw [IntKind.wrap_u8];omega
 clear hown
 go_enter Tryz.func235,Tryz.ntmps235
 go_wp2_with fail
 refine hg.mono ?_
 clear hg
 rintro e w1 ⟨v1,rfl,ho,hb,ht⟩
 obtain ⟨i0,hi,hz0,hz1,hz2⟩:=info_parts Tryz.info5
 have hl:=hb.size
 have hlow:∀ q,v1.ownBlock=some q→base≤q:=λq hq=>(ho.lt q hq).1
 go_wp2_with (first
  | (at_builtin;refine Lib.wpList_append_own_string _ rfl _ _ 88 9 rfl base 5 i0 Tryz.underlying88 Tryz.underlying9 hi hz0 hz1 hz2 v1 (m+1) (bs (xs++be 1 s.size)) rfl ho s rfl (by unfold maxLen;omega) (by omega) (by omega) ?_;intro v2 w2 ho2 hg2 _)
  | fail)
 have hb2:Below base w w2:=Below.grown hb hg2 oE hlow
 have e1:be 1 s.size=[s.size]:=by
  unfold be
  have:digit 1 s.size 0=s.size:=by unfold digit;simp;omega
  simp [List.range_succ,this]
 have e2:Lib.strCells s=bs (jA6 s):=by
  unfold Lib.strCells bs jA6
  rw [List.map_map]
  rfl
 have ht2:TFr 5 w w2:=ht.grown hg2 (λq hq=>jA4 ho hq)
 rw [e1,e2,← jQ2] at ho2
 clear ho hg2
 go_wp2
 go_ret
 exact ⟨_,rfl,ho2,hb2,ht2⟩
end Go.Proofs.YtcalalndmcemiaaGreatDoor
set_option maxRecDepth 100000
set_option maxHeartbeats 16000000
namespace Go.Proofs.YtcalalndmcemiaaGreatDoor
open Go.RowKit Go.Maps
open Sc
structure SFr (sp bV bT bH lp p:Nat) (w w':World):Prop where
 os:w'.os=w.os
 tape:w'.tape=w.tape
 output:w'.output=w.output
 size:w.heap.size≤w'.heap.size
 block:∀ k,k<w.heap.size→¬ Own lp p w k→k∉[sp,bV,bT,bH]→w'.heap[k]?=w.heap[k]?
 stay:∀ k,k<w.heap.size→Own lp p w' k→Own lp p w k
theorem SFr.trans {sp bV bT bH lp p:Nat} {a b c:World} (h:SFr sp bV bT bH lp p a b) (k:SFr sp bV bT bH lp p b c):SFr sp bV bT bH lp p a c :=
 ⟨k.os.trans h.os,k.tape.trans h.tape,k.output.trans h.output,Nat.le_trans h.size k.size,
  λi hi hn hm=>(k.block i (Nat.lt_of_lt_of_le hi h.size) (λho=>hn (h.stay i hi ho)) hm).trans (h.block i hi hn hm),
  λi hi ho=>h.stay i hi (k.stay i (Nat.lt_of_lt_of_le hi h.size) ho)⟩
theorem OFr.s {sp bV bT bH lp p:Nat} {a b:World} (h:OFr lp p a b):SFr sp bV bT bH lp p a b:=⟨h.os,h.tape,h.output,h.size,λi hi hn _=>h.block i hi hn,h.stay⟩
structure SL (w:World) (B sp gp bV bT bH m lp p bD bN n:Nat) (s:AShard) (l:ALog) (d:ADisk):Prop where
 sh:ShIn w sp gp bV bT bH m s
 lg:∃ pv sv rv nD nN,LogIn w B lp p bD bN pv sv rv l d n nD nN
 ap:ShLog w sp gp bV bT bH bD bN lp
 gp1:1≤gp
section
variable {w w':World} {B sp gp bV bT bH m m' lp p bD bN n n':Nat} {s s':AShard} {l l':ALog} {d d':ADisk}
theorem SL.turn {S:List Nat} (h:SL w B sp gp bV bT bH m lp p bD bN n s l d) (hs:ShIn w' sp gp bV bT bH m' s') (hf:Fr S w w') (hS:∀ k∈S,k∈[sp,bV,bT,bH]):SL w' B sp gp bV bT bH m' lp p bD bN n s' l d∧SFr sp bV bT bH lp p w w':=by
 obtain ⟨pv,sv,rv,nD,nN,hl⟩:=h.lg
 obtain ⟨h1,h2⟩:=hl.shard h.sh h.ap hf hS
 refine ⟨⟨hs,⟨pv,sv,rv,nD,nN,h1⟩,h2,h.gp1⟩,hf.os,hf.tape,hf.output,hf.size,λk hk _ hm=>hf.block k hk (λhx=>hm (hS k hx)),λk _ ho=>?_⟩
 rw [hl.own]
 exact (h1.own k).1 ho
theorem SL.new (h:SL w B sp gp bV bT bH m lp p bD bN n s l d) (hf:Fr [] w w'):SL w' B sp gp bV bT bH m lp p bD bN n s l d∧SFr sp bV bT bH lp p w w' :=
 h.turn (h.sh.fr hf sE sE sE sE) hf sE
theorem SL.log (h:SL w B sp gp bV bT bH m lp p bD bN n s l d) (hf:OFr lp p w w') (hl:∃ pv sv rv nD nN,LogIn w' B lp p bD bN pv sv rv l' d' n' nD nN):SL w' B sp gp bV bT bH m lp p bD bN n' s l' d'∧SFr sp bV bT bH lp p w w':=by
 obtain ⟨pv,sv,rv,nD,nN,h1⟩:=h.lg
 obtain ⟨a,b⟩:=h.sh.ofr h1 h.ap hf
 exact ⟨⟨a,hl,b,h.gp1⟩,hf.s⟩
end
theorem jD3 (sp lg bV bT bH n t:Nat) (s:AShard) (w:World) (h:ShIn w sp lg bV bT bH n s) (ht:t<18446744073709551616) :
  Calls Tryz.prog 219 #[.pointer (some ⟨sp,0,none⟩),.int .u64 (t:Int)] w λe w'=>e=.returned (.int .i64 ((s.txn t).state:Int))∧w'=w:=by
 have c2:=jA0 h.blk 2
 simp at c2
 have hl:=h.lookT ht
 have hf0:=jPn
 obtain ⟨T,hT⟩:∃ T,T=s.txn t:=⟨_,rfl⟩
 rw [← hT] at hl ⊢
 clear h hT
 go_enter Tryz.func219,Tryz.ntmps219
 go_wp2
 go_ret
 exact ⟨rfl,rfl⟩
theorem jMh (sp gp bV bT bH m t:Nat) (s:AShard) (w:World) (h:ShIn w sp gp bV bT bH m s) (ht:t<18446744073709551616) (hst:t=0∨(s.txn t).state≠3) :
  Calls Tryz.prog 248 #[.pointer (some ⟨sp,0,none⟩),.int .u64 (t:Int)] w λe w'=>e=.returned (errN (if t=0 then 7 else if (s.txn t).state=0 then 0 else 4))∧w'=w:=by
 have hsa:=jD3 sp gp bV bT bH m t s w h ht
 clear h
 by_cases h0:t=0
 ·rw [if_pos h0]
  subst h0
  clear hst hsa
  go_enter Tryz.func248,Tryz.ntmps248
  go_wp2
  go_ret
  exact ⟨by rw [jAc dN];rfl,rfl⟩
 ·rw [if_neg h0]
  have i0:¬ (t:Int)=0:=by omega
  by_cases hz:(s.txn t).state=0
  ·rw [if_pos hz]
   rw [hz] at hsa
   clear hst
   go_enter Tryz.func248,Tryz.ntmps248
   go_wp2_with fail
   refine hsa.mono ?_
   clear hsa
   rintro e w1 ⟨rfl,rfl⟩
   go_wp2
   go_ret
   exact ⟨rfl,rfl⟩
  ·rw [if_neg hz]
   have j1:¬ ((s.txn t).state:Int)=0:=by omega
   have j2:(((s.txn t).state:Int) != 3)=true:=by simp;omega
   clear hst
   go_enter Tryz.func248,Tryz.ntmps248
   go_wp2_with fail
   refine hsa.mono ?_
   rintro e w1 ⟨rfl,rfl⟩
   go_wp2_with fail
   refine hsa.mono ?_
   rintro e w2 ⟨rfl,rfl⟩
   clear hsa
   go_wp2
   go_ret
   exact ⟨by rw [jAc dN];rfl,rfl⟩
def jDi (s s':AShard) (t:Nat):Prop:=∃ vs,s'=AShard.forget { s with vals:=vs } t∧∀ k,jA3 vs k=jC9 (jA3 s.holds (t,k)) (jA3 s.vals k)
section
variable (B sp gp bV bT bH m lp p bD bN n t c:Nat) (s:AShard) (l:ALog) (d:ADisk) (w:World)
theorem jP2 (h:SL w B sp gp bV bT bH m lp p bD bN n s l d) (ht:t<18446744073709551616) (h0:t≠0) (hst:(s.txn t).state=3) (hn:n+3<67108864) (hB:2≤B) (hsg:l.filled<600→l.segs≠[]) (hpow:Pows w) (hm:m+c<maxLen) (hc:s.count t≤c) (hv:∀ p∈s.holds,p.2.val.size≤maxLen) :
  Calls Tryz.prog 248 #[.pointer (some ⟨sp,0,none⟩),.int .u64 (t:Int)] w λe w'=>e=.returned (errN (l.keep d 2 (str (be 8 t))).2.2)∧(∃ s',SL w' B sp gp bV bT bH (m+c) lp p bD bN (n+3) s' (l.keep d 2 (str (be 8 t))).1 (l.keep d 2 (str (be 8 t))).2.1∧(if (l.keep d 2 (str (be 8 t))).2.2=0 then jDi s s' t else s'=s))∧SFr sp bV bT bH lp p w w':=by
 have hsa:=jD3 sp gp bV bT bH m t s w h.sh ht
 rw [hst] at hsa
 have i0:¬ (t:Int)=0:=by omega
 have c0:=jA0 h.sh.blk 0
 simp at c0
 rw [jB8 h.gp1] at c0
 have hsp:=h.sh.lts.1
 have hde:=jH1 t w.drew ht
 have HO:Hid (Once1 s.holds):=by obtain ⟨_,_,_,h3,_⟩:=h.sh.holds;exact h3
 have HK:Hid (∀ w1,Fr [] w w1→Calls Tryz.prog 97 #[.pointer (some ⟨gp,0,none⟩),.int .u8 2,.string (str (be 8 t))] w1 λe w2=>e=.returned (errN (l.keep d 2 (str (be 8 t))).2.2)∧SL w2 B sp gp bV bT bH m lp p bD bN (n+3) s (l.keep d 2 (str (be 8 t))).1 (l.keep d 2 (str (be 8 t))).2.1∧SFr sp bV bT bH lp p w w2):=λw1 hf1=>by
  obtain ⟨h1,hs1⟩:=h.new hf1
  obtain ⟨pv,sv,rv,nD,nN,hl⟩:=h1.lg
  have hp1:Pows w1:=hpow.of_block (hf1.block 1 (by obtain ⟨_,_,_,_,_,h2⟩:=h.lg;have:=h2.disk.base.2.2.2;omega) sE)
  refine (jG9 B gp lp p bD bN n nD nN 2 pv sv rv l d (str (be 8 t)) w1 h1.ap.led hl oE hn hB hsg hp1).mono ?_
  rintro e w2 ⟨he,hl2,ho2⟩
  obtain ⟨h2,hs2⟩:=h1.log ho2 hl2
  exact ⟨he,h2,hs1.trans hs2⟩
 have HH:Hid (SL w B sp gp bV bT bH m lp p bD bN n s l d):=h
 have HC:Hid (s.count t≤c∧∀ p∈s.holds,p.2.val.size≤maxLen):=⟨hc,hv⟩
 clear h hc hv hsg
 obtain ⟨R,hR⟩:∃ R,R=l.keep d 2 (str (be 8 t)):=⟨_,rfl⟩
 rw [← hR] at HK ⊢
 clear hR
 go_enter Tryz.func248,Tryz.ntmps248
 go_wp2_with fail
 refine hsa.mono ?_
 rintro e w1 ⟨rfl,rfl⟩
 go_wp2_with fail
 refine hsa.mono ?_
 rintro e w2 ⟨rfl,rfl⟩
 clear hsa
 go_wp2
 go_region_held3 (λw'=>w'.cell? ⟨sp,0,none⟩=some (.pointer (some ⟨gp,0,none⟩)))
  (simp [*])
  (first
   | (go_at_call 277;refine hde.mono ?_;rintro e w3 ⟨rfl,hb3⟩;have hf3:Fr [] w2 w3:=⟨hb3.os,hb3.tape,hb3.output,hb3.size,λk hk _=>hb3.block k hk⟩;have p0:w3.cell? ⟨sp,0,none⟩=some (.pointer (some ⟨gp,0,none⟩)):=(World.cell?_of_block (a:=⟨sp,0,none⟩) (hf3.block sp hsp (by simp))).trans c0;have H3:Hid (Fr [] w2 w3):=hf3;clear hb3 hf3)
   | (go_at_call 97;refine (HK.out w3 H3.out).mono ?_;rintro e w4 ⟨rfl,h4,hs4⟩;have q0:w4.cell? ⟨sp,0,none⟩=some (.pointer (some ⟨gp,0,none⟩)):=(jA0 h4.sh.blk 0).trans (by simp [jB8 h4.gp1]);have H4:Hid (SL w4 B sp gp bV bT bH m lp p bD bN (n+3) s R.1 R.2.1∧SFr sp bV bT bH lp p w2 w4):=⟨h4,hs4⟩;clear h4 hs4))
 by_cases hr:R.2.2=0
 ·rw [hr,jAt]
  go_wp2_with fail
  refine (jKr sp gp bV bT bH m t c s w4 H4.out.1.sh ht hm (λL h1 h2=>by rw [AShard.count_of HO.out h1 h2];exact HC.out.1) HC.out.2).mono ?_
  rintro e w5 ⟨rfl,vs,hs5,hlk,hf5⟩
  obtain ⟨h5,hx5⟩:=H4.out.1.turn hs5 hf5 sE
  have H5:Hid (SL w5 B sp gp bV bT bH (m+c) lp p bD bN (n+3) (AShard.forget { s with vals:=vs } t) R.1 R.2.1∧SFr sp bV bT bH lp p w2 w5):=⟨h5,H4.out.2.trans hx5⟩
  clear hs5 hf5 h5 hx5
  go_wp2
  go_ret
  exact ⟨rfl,⟨_,H5.out.1,⟨vs,rfl,hlk⟩⟩,H5.out.2⟩
 ·rw [jAc hr]
  go_wp2
  go_ret
  exact ⟨by rw [jAc hr];rfl,⟨H4.out.1.sh.mono (Nat.le_add_right _ _),H4.out.1.lg,H4.out.1.ap,H4.out.1.gp1⟩,H4.out.2⟩
theorem jOy (h:ShIn w sp gp bV bT bH m s) (ht:t<18446744073709551616) (hst:t=0∨(s.txn t).state≠3) :
  Calls Tryz.prog 249 #[.pointer (some ⟨sp,0,none⟩),.int .u64 (t:Int)] w λe w'=>e=.returned (errN (if t=0 then 7 else 0))∧ShIn w' sp gp bV bT bH m (if t=0 then s else s.forget t)∧Fr [bT,bH] w w':=by
 have hsa:=jD3 sp gp bV bT bH m t s w h ht
 by_cases h0:t=0
 ·rw [if_pos h0,if_pos h0]
  subst h0
  have HI:Hid (ShIn w sp gp bV bT bH m s):=h
  clear hst hsa h
  go_enter Tryz.func249,Tryz.ntmps249
  go_wp2
  go_ret
  exact ⟨by rw [jAc dN];rfl,HI.out,Fr.refl _ _⟩
 ·rw [if_neg h0,if_neg h0]
  have i0:¬ (t:Int)=0:=by omega
  have j1:¬ ((s.txn t).state:Int)=3:=by omega
  have hfo:=jCs sp gp bV bT bH m t s w h ht
  clear hst h
  go_enter Tryz.func249,Tryz.ntmps249
  go_wp2_with fail
  refine hsa.mono ?_
  rintro e w1 ⟨rfl,rfl⟩
  go_wp2_with fail
  refine hfo.mono ?_
  clear hsa hfo
  rintro e w2 ⟨rfl,h2,hf2⟩
  have H2:Hid (ShIn w2 sp gp bV bT bH m (s.forget t)∧Fr [bT,bH] w1 w2):=⟨h2,hf2⟩
  clear h2 hf2
  go_wp2
  go_ret
  exact ⟨rfl,H2.out⟩
theorem jPx (h:SL w B sp gp bV bT bH m lp p bD bN n s l d) (ht:t<18446744073709551616) (h0:t≠0) (hst:(s.txn t).state=3) (hn:n+3<67108864) (hB:2≤B) (hsg:l.filled<600→l.segs≠[]) (hpow:Pows w) :
  Calls Tryz.prog 249 #[.pointer (some ⟨sp,0,none⟩),.int .u64 (t:Int)] w λe w'=>e=.returned (errN (l.note d 3 (str (be 8 t))).2.2)∧SL w' B sp gp bV bT bH m lp p bD bN (n+3) (if (l.note d 3 (str (be 8 t))).2.2=0 then s.forget t else s) (l.note d 3 (str (be 8 t))).1 (l.note d 3 (str (be 8 t))).2.1∧SFr sp bV bT bH lp p w w':=by
 have hsa:=jD3 sp gp bV bT bH m t s w h.sh ht
 rw [hst] at hsa
 have i0:¬ (t:Int)=0:=by omega
 have c0:=jA0 h.sh.blk 0
 simp at c0
 rw [jB8 h.gp1] at c0
 have hsp:=h.sh.lts.1
 have hde:=jH1 t w.drew ht
 have HK:Hid (∀ w1,Fr [] w w1→Calls Tryz.prog 148 #[.pointer (some ⟨gp,0,none⟩),.int .u8 3,.string (str (be 8 t))] w1 λe w2=>e=.returned (errN (l.note d 3 (str (be 8 t))).2.2)∧SL w2 B sp gp bV bT bH m lp p bD bN (n+3) s (l.note d 3 (str (be 8 t))).1 (l.note d 3 (str (be 8 t))).2.1∧SFr sp bV bT bH lp p w w2):=λw1 hf1=>by
  obtain ⟨h1,hs1⟩:=h.new hf1
  obtain ⟨pv,sv,rv,nD,nN,hl⟩:=h1.lg
  have hp1:Pows w1:=hpow.of_block (hf1.block 1 (by obtain ⟨_,_,_,_,_,h2⟩:=h.lg;have:=h2.disk.base.2.2.2;omega) sE)
  refine (jJ2 B gp lp p bD bN n nD nN 3 pv sv rv l d (str (be 8 t)) w1 h1.ap.led hl oE hn hB hsg hp1).mono ?_
  rintro e w2 ⟨he,hl2,ho2⟩
  obtain ⟨h2,hs2⟩:=h1.log ho2 hl2
  exact ⟨he,h2,hs1.trans hs2⟩
 clear h hsg
 obtain ⟨R,hR⟩:∃ R,R=l.note d 3 (str (be 8 t)):=⟨_,rfl⟩
 rw [← hR] at HK ⊢
 clear hR
 go_enter Tryz.func249,Tryz.ntmps249
 go_wp2_with fail
 refine hsa.mono ?_
 rintro e w2 ⟨rfl,rfl⟩
 clear hsa
 go_wp2
 go_region_held3 (λw'=>w'.cell? ⟨sp,0,none⟩=some (.pointer (some ⟨gp,0,none⟩)))
  (simp [*])
  (first
   | (go_at_call 277;refine hde.mono ?_;rintro e w3 ⟨rfl,hb3⟩;have hf3:Fr [] w2 w3:=⟨hb3.os,hb3.tape,hb3.output,hb3.size,λk hk _=>hb3.block k hk⟩;have p0:w3.cell? ⟨sp,0,none⟩=some (.pointer (some ⟨gp,0,none⟩)):=(World.cell?_of_block (a:=⟨sp,0,none⟩) (hf3.block sp hsp (by simp))).trans c0;have H3:Hid (Fr [] w2 w3):=hf3;clear hb3 hf3)
   | (go_at_call 148;refine (HK.out w3 H3.out).mono ?_;rintro e w4 ⟨rfl,h4,hs4⟩;have q0:w4.cell? ⟨sp,0,none⟩=some (.pointer (some ⟨gp,0,none⟩)):=(jA0 h4.sh.blk 0).trans (by simp [jB8 h4.gp1]);have H4:Hid (SL w4 B sp gp bV bT bH m lp p bD bN (n+3) s R.1 R.2.1∧SFr sp bV bT bH lp p w2 w4):=⟨h4,hs4⟩;clear h4 hs4))
 by_cases hr:R.2.2=0
 ·rw [hr,jAt]
  go_wp2_with fail
  refine (jCs sp gp bV bT bH m t s w4 H4.out.1.sh ht).mono ?_
  rintro e w5 ⟨rfl,hs5,hf5⟩
  obtain ⟨h5,hx5⟩:=H4.out.1.turn hs5 hf5 sE
  have H5:Hid (SL w5 B sp gp bV bT bH m lp p bD bN (n+3) (s.forget t) R.1 R.2.1∧SFr sp bV bT bH lp p w2 w5):=⟨h5,H4.out.2.trans hx5⟩
  clear hs5 hf5 h5 hx5
  go_wp2
  go_ret
  exact ⟨rfl,H5.out.1,H5.out.2⟩
 ·rw [jAc hr]
  go_wp2
  go_ret
  exact ⟨by rw [jAc hr];rfl,H4.out.1,H4.out.2⟩
end
end Go.Proofs.YtcalalndmcemiaaGreatDoor
namespace Go.Proofs
open Go.Shelf
def Tryz.lays190_ren:Go.Shelf.Ren:=⟨fun | 190=>254 | 125=>262 | 258=>285 | 128=>302 | 129=>238 | 302=>316 | 303=>317 | 304=>318 | 305=>319 | 306=>320 | 307=>321 | 308=>322 | 309=>323 | 310=>324 | 333=>339 | 329=>328 | 330=>329 | 334=>340 | 335=>341 | 336=>342 | 344=>353 | n=>n,fun | 31=>35 | 9=>9 | 3=>3 | 46=>175 | 0=>0 | 51=>271 | 53=>43 | 4=>4 | 183=>410 | 182=>409 | 131=>292 | 5=>5 | 218=>436 | 222=>439 | 228=>450 | 229=>451 | n=>n,fun | n=>n⟩
theorem Tryz.lays190:Go.Proofs.Lays.n190 Tryz.prog Tryz.lays190_ren:={
 mixed:=by kernel_rfl
 f125:=Tryz.func262.trans (congrArg some (by kernel_rfl))
 f128:=Tryz.func302.trans (congrArg some (by kernel_rfl))
 f129:=Tryz.func238.trans (congrArg some (by kernel_rfl))
 f190:=Tryz.func254.trans (congrArg some (by kernel_rfl))
 f258:=Tryz.func285.trans (congrArg some (by kernel_rfl))
 f302:=Tryz.func316.trans (congrArg some (by kernel_rfl))
 f303:=Tryz.func317.trans (congrArg some (by kernel_rfl))
 f304:=Tryz.func318.trans (congrArg some (by kernel_rfl))
 f305:=Tryz.func319.trans (congrArg some (by kernel_rfl))
 f306:=Tryz.func320.trans (congrArg some (by kernel_rfl))
 f307:=Tryz.func321.trans (congrArg some (by kernel_rfl))
 f308:=Tryz.func322.trans (congrArg some (by kernel_rfl))
 f309:=Tryz.func323.trans (congrArg some (by kernel_rfl))
 f310:=Tryz.func324.trans (congrArg some (by kernel_rfl))
 f329:=Tryz.func328.trans (congrArg some (by kernel_rfl))
 f330:=Tryz.func329.trans (congrArg some (by kernel_rfl))
 f333:=Tryz.func339.trans (congrArg some (by kernel_rfl))
 f334:=Tryz.func340.trans (congrArg some (by kernel_rfl))
 f335:=Tryz.func341.trans (congrArg some (by kernel_rfl))
 f336:=Tryz.func342.trans (congrArg some (by kernel_rfl))
 f344:=Tryz.func353.trans (congrArg some (by kernel_rfl))
 t0:=Tryz.underlying0
 a0:=Tryz.isAgg0
 z0:=Tryz.sizeOf0
 v0:=Tryz.zeroValue0
 t3:=Tryz.underlying3
 a3:=Tryz.isAgg3
 z3:=Tryz.sizeOf3
 v3:=Tryz.zeroValue3
 t4:=Tryz.underlying4
 a4:=Tryz.isAgg4
 z4:=Tryz.sizeOf4
 v4:=Tryz.zeroValue4
 t5:=Tryz.underlying5
 a5:=Tryz.isAgg5
 z5:=Tryz.sizeOf5
 v5:=Tryz.zeroValue5
 t9:=Tryz.underlying9
 a9:=Tryz.isAgg9
 z9:=Tryz.sizeOf9
 v9:=Tryz.zeroValue9
 t31:=Tryz.underlying35
 a31:=Tryz.isAgg35
 z31:=Tryz.sizeOf35
 v31:=Tryz.zeroValue35
 t46:=Tryz.underlying175
 a46:=Tryz.isAgg175
 z46:=Tryz.sizeOf175
 v46:=Tryz.zeroValue175
 t51:=Tryz.underlying271
 a51:=Tryz.isAgg271
 z51:=Tryz.sizeOf271
 v51:=Tryz.zeroValue271
 t53:=Tryz.underlying43
 a53:=Tryz.isAgg43
 z53:=Tryz.sizeOf43
 v53:=Tryz.zeroValue43
 t131:=Tryz.underlying292
 a131:=Tryz.isAgg292
 z131:=Tryz.sizeOf292
 v131:=Tryz.zeroValue292
 t182:=Tryz.underlying409
 a182:=Tryz.isAgg409
 z182:=Tryz.sizeOf409
 v182:=Tryz.zeroValue409
 t183:=Tryz.underlying410
 a183:=Tryz.isAgg410
 z183:=Tryz.sizeOf410
 v183:=Tryz.zeroValue410
 t218:=Tryz.underlying436
 a218:=Tryz.isAgg436
 z218:=Tryz.sizeOf436
 v218:=Tryz.zeroValue436
 t222:=Tryz.underlying439
 a222:=Tryz.isAgg439
 z222:=Tryz.sizeOf439
 v222:=Tryz.zeroValue439
 t228:=Tryz.underlying450
 a228:=Tryz.isAgg450
 z228:=Tryz.sizeOf450
 v228:=Tryz.zeroValue450
 t229:=Tryz.underlying451
 a229:=Tryz.isAgg451
 z229:=Tryz.sizeOf451
 v229:=Tryz.zeroValue451 }
open Go.Sort Go.RowKit in
theorem Tryz.slices_Sort_string (blk off cap:Nat) (ss:List (List UInt8)) (w:World) (hH:Holds encStr w blk off ss.toArray) (hblk:blk<w.heap.size) (hsz:ss.length<4611686018427387904) :
  Calls Tryz.prog 254 #[.slice (some ⟨blk,off,none⟩) ss.length cap] w fun e w' =>
   e=.returned (.tuple #[])∧∃ n os,w'=grow (putRow encStr (Sort.ahead w n) blk off (ss.mergeSort fun x y=>decide (x≤y)).toArray) os:=Any.slices_Sort_string Tryz.lays190 blk off cap ss w hH hblk hsz
open Go.RowKit Go.Sort in
theorem Tryz.slices_Sort_string_none (p:Option Addr) (cap:Nat) (w:World) :
  Calls Tryz.prog 254 #[.slice p 0 cap] w fun e w'=>e=.returned (.tuple #[])∧w'=w:=Any.slices_Sort_string_none Tryz.lays190 p cap w
def Tryz.keysG_ren:Go.Shelf.Ren:=⟨fun | 7=>273 | 10=>308 | n=>n,fun | 23=>262 | 26=>9 | 3=>134 | 28=>334 | 0=>0 | 27=>333 | 33=>381 | 4=>4 | n=>n,fun | n=>n⟩
theorem Tryz.keysG:Go.Proofs.SlLaysZ.n7 Tryz.prog Tryz.keysG_ren:={
 mixed:=by kernel_rfl
 f7:=⟨Tryz.f273.name,by decide,Tryz.func273.trans (congrArg some (by kernel_rfl))⟩
 f10:=⟨Tryz.f308.name,by decide,Tryz.func308.trans (congrArg some (by kernel_rfl))⟩
 t0:=Tryz.underlying0
 a0:=Tryz.isAgg0
 z0:=Tryz.sizeOf0
 v0:=Tryz.zeroValue0
 t4:=Tryz.underlying4
 a4:=Tryz.isAgg4
 z4:=Tryz.sizeOf4
 v4:=Tryz.zeroValue4
 t23:=Tryz.underlying262
 a23:=Tryz.isAgg262
 z23:=Tryz.sizeOf262
 v23:=Tryz.zeroValue262
 t26:=Tryz.underlying9
 a26:=Tryz.isAgg9
 z26:=Tryz.sizeOf9
 v26:=Tryz.zeroValue9
 t27:=Tryz.underlying333
 a27:=Tryz.isAgg333
 z27:=Tryz.sizeOf333
 v27:=Tryz.zeroValue333
 t28:=Tryz.underlying334
 a28:=Tryz.isAgg334
 z28:=Tryz.sizeOf334
 v28:=Tryz.zeroValue334
 t33:=Tryz.underlying381
 a33:=Tryz.isAgg381
 z33:=Tryz.sizeOf381
 v33:=Tryz.zeroValue381 }
def Tryz.keysV_ren:Go.Shelf.Ren:=⟨fun | 7=>209 | 10=>255 | n=>n,fun | 23=>135 | 26=>9 | 3=>9 | 28=>334 | 0=>0 | 27=>333 | 33=>381 | 4=>4 | n=>n,fun | n=>n⟩
theorem Tryz.keysV:Go.Proofs.SlLaysZ.n7 Tryz.prog Tryz.keysV_ren:={
 mixed:=by kernel_rfl
 f7:=⟨Tryz.f209.name,by decide,Tryz.func209.trans (congrArg some (by kernel_rfl))⟩
 f10:=⟨Tryz.f255.name,by decide,Tryz.func255.trans (congrArg some (by kernel_rfl))⟩
 t0:=Tryz.underlying0
 a0:=Tryz.isAgg0
 z0:=Tryz.sizeOf0
 v0:=Tryz.zeroValue0
 t4:=Tryz.underlying4
 a4:=Tryz.isAgg4
 z4:=Tryz.sizeOf4
 v4:=Tryz.zeroValue4
 t23:=Tryz.underlying135
 a23:=Tryz.isAgg135
 z23:=Tryz.sizeOf135
 v23:=Tryz.zeroValue135
 t26:=Tryz.underlying9
 a26:=Tryz.isAgg9
 z26:=Tryz.sizeOf9
 v26:=Tryz.zeroValue9
 t27:=Tryz.underlying333
 a27:=Tryz.isAgg333
 z27:=Tryz.sizeOf333
 v27:=Tryz.zeroValue333
 t28:=Tryz.underlying334
 a28:=Tryz.isAgg334
 z28:=Tryz.sizeOf334
 v28:=Tryz.zeroValue334
 t33:=Tryz.underlying381
 a33:=Tryz.isAgg381
 z33:=Tryz.sizeOf381
 v33:=Tryz.zeroValue381 }
def Tryz.sortedS_ren:Go.Shelf.Ren:=⟨fun | 6=>208 | 8=>253 | 9=>254 | 11=>284 | 13=>262 | 12=>285 | 23=>302 | 24=>238 | 14=>316 | 15=>317 | 16=>318 | 17=>319 | 18=>320 | 19=>321 | 20=>322 | 21=>323 | 22=>324 | 25=>339 | 26=>328 | 27=>329 | 28=>340 | 29=>341 | 30=>342 | 31=>353 | n=>n,fun | 26=>9 | 28=>334 | 24=>35 | 0=>0 | 3=>3 | 37=>175 | 48=>271 | 50=>43 | 4=>4 | 40=>410 | 39=>409 | 45=>292 | 5=>5 | 9=>9 | 51=>436 | 55=>439 | 57=>450 | 58=>451 | 33=>381 | n=>n,fun | n=>n⟩
theorem Tryz.sortedS:Go.Proofs.SlLaysZ.n6 Tryz.prog Tryz.sortedS_ren:={
 mixed:=by kernel_rfl
 f6:=⟨Tryz.f208.name,by decide,Tryz.func208.trans (congrArg some (by kernel_rfl))⟩
 f8:=⟨Tryz.f253.name,by decide,Tryz.func253.trans (congrArg some (by kernel_rfl))⟩
 f11:=⟨Tryz.f284.name,by decide,Tryz.func284.trans (congrArg some (by kernel_rfl))⟩
 t0:=Tryz.underlying0
 a0:=Tryz.isAgg0
 z0:=Tryz.sizeOf0
 v0:=Tryz.zeroValue0
 t24:=Tryz.underlying35
 a24:=Tryz.isAgg35
 z24:=Tryz.sizeOf35
 v24:=Tryz.zeroValue35
 t26:=Tryz.underlying9
 a26:=Tryz.isAgg9
 z26:=Tryz.sizeOf9
 v26:=Tryz.zeroValue9
 t28:=Tryz.underlying334
 a28:=Tryz.isAgg334
 z28:=Tryz.sizeOf334
 v28:=Tryz.zeroValue334
 i26:=by kernel_rfl }
end Go.Proofs
set_option maxRecDepth 100000
set_option maxHeartbeats 16000000
namespace Go.Proofs.YtcalalndmcemiaaGreatDoor
open Go.RowKit Go.Maps Go.Shelf Go.Sort
open Sc
def jBw {V:Type} (L:List (ByteArray × V)):List ByteArray:=((L.map λp=>p.1.data.toList).mergeSort leB).map λb=>⟨b.toArray⟩
theorem jB5 {V:Type} (L:List (ByteArray × V)):(jBw L).length=L.length:=by simp [jBw]
theorem jEs {V:Type} {L:List (ByteArray × V)} {k:ByteArray}:k∈jBw L↔∃ v,(k,v)∈L:=by
 unfold jBw
 simp only [List.mem_map,List.mem_mergeSort]
 constructor
 ·rintro ⟨x,⟨p,hp,rfl⟩,rfl⟩
  exact ⟨p.2,by simpa using hp⟩
 ·rintro ⟨v,hv⟩
  exact ⟨k.data.toList,⟨(k,v),hv,rfl⟩,by simp⟩
theorem jUj (m:Nat):AnyZ.SortsIn Tryz.prog Tryz.sortedS_ren Fence.wide m :=
 ⟨λblk off cap ss W hH hblk hsz=>callsIn_wide.2 (Tryz.slices_Sort_string blk off cap ss W hH hblk hsz),λp cap W=>callsIn_wide.2 (Tryz.slices_Sort_string_none p cap W)⟩
theorem jFz {V:Type} {ER:ElRep V} {es:List (Lit × DataW Unit)} {L:List (ByteArray × V)} (h:es.Perm (L.map (jEi KS ER))):(strKeys (DataW.map es)).Perm (L.map λp=>p.1.data.toList):=by
 show (es.map λp=>strOf p.1).Perm _
 refine (h.map _).trans ?_
 rw [List.map_map]
 exact List.Perm.refl _
theorem jMi (n:Nat) (hn:5≤n) (b m:Nat) (L:List (ByteArray × AGrip)) (w:World) (hL:MapAs KS EG w b m L) (hm:m≤67108864) :
  (CallsIn Fence.wide n Tryz.prog 273 #[.map (some b)] w λe w'=>e=.returned (.func (.func 308) #[] #[.pointer (some ⟨w.heap.size,0,none⟩)])∧w'=w.alloc (.cells #[.map (some b)] 262)) ∧
  (CallsIn Fence.wide n Tryz.prog 208 #[.func (.func 308) #[] #[.pointer (some ⟨w.heap.size,0,none⟩)]] (w.alloc (.cells #[.map (some b)] 262)) λe w'=>∃ v,e=.returned v∧w'.ownsRow w.heap.size 9 1 v L.length ((jBw L).map Value.string)∧(v=.slice none 0 0↔L.length=0)∧Below w.heap.size w w'):=by
 obtain ⟨es,hown,hp,h1,hok⟩:=hL
 have hlen:Maps.size (DataW.map es)=L.length:=by rw [Maps.size_eq,hp.length_eq,List.length_map]
 have hsz:=hown.size_le
 have hbl:=hown.lt
 have hseq:SeqGives Fence.wide (n - 1 - 1 - 1) Tryz.prog 308 #[.pointer (some ⟨w.heap.size,0,none⟩)] encStr (λss=>ss.Perm (strKeys (DataW.map es))) (Maps.size (DataW.map es)) (w.alloc (.cells #[.map (some b)] 262)) :=
  AnyZ.keys_gives (ρ:=Tryz.keysG_ren) { Tryz.keysG with } Fence.wide _ trivial rfl oE w.heap.size b m (DataW.map es) _ sE sE (by
   obtain ⟨es',clock,hb,Ft,hs,hD⟩:=hown
   exact ⟨es',clock,(Below.heap_alloc _ _ b hbl).trans hb,Ft,hs,hD⟩)
 refine ⟨AnyZ.keys_in Tryz.keysG Fence.wide n trivial rfl _ w,?_⟩
 have cS:=AnyZ.sorted_in Tryz.sortedS Fence.wide n trivial trivial trivial trivial rfl (by omega) (jUj _) (enters_of Tryz.func254 (by kernel_rfl) rfl) 308 #[.pointer (some ⟨w.heap.size,0,none⟩)] trivial (enters_of Tryz.func308 (by kernel_rfl) rfl) _ _ (by unfold maxLen;omega) (by omega) _ hseq
 change CallsIn _ _ Tryz.prog 208 _ _ _ at cS
 refine cS.mono ?_
 rintro e w' ⟨v,ss,rfl,hS,hrow,hnil,hb⟩
 have hpm:=hS.trans (jFz hp)
 have el:ss.length=L.length:=by rw [hpm.length_eq,List.length_map]
 have es2:(ss.mergeSort λx y=>decide (x≤y)).map encStr=(jBw L).map Value.string:=by
  have:=mergeSort_of_perm hpm
  unfold jBw
  rw [show (ss.mergeSort λx y=>decide (x≤y))=ss.mergeSort leB from rfl,this,List.map_map]
  rfl
 rw [el,es2] at hrow
 refine ⟨v,rfl,ownsRow_base_a hrow sE,by rw [hnil,← el];exact List.length_eq_zero_iff.symm,((Below.refl _ w).alloc (Nat.le_refl _) _).trans (hb.mono sE)⟩
theorem jMb (n:Nat) (hn:5≤n) (b m:Nat) (L:List (ByteArray × ByteArray)) (w:World) (hL:MapAs KS ES w b m L) (hm:m≤67108864) :
  (CallsIn Fence.wide n Tryz.prog 209 #[.map (some b)] w λe w'=>e=.returned (.func (.func 255) #[] #[.pointer (some ⟨w.heap.size,0,none⟩)])∧w'=w.alloc (.cells #[.map (some b)] 135)) ∧
  (CallsIn Fence.wide n Tryz.prog 208 #[.func (.func 255) #[] #[.pointer (some ⟨w.heap.size,0,none⟩)]] (w.alloc (.cells #[.map (some b)] 135)) λe w'=>∃ v,e=.returned v∧w'.ownsRow w.heap.size 9 1 v L.length ((jBw L).map Value.string)∧(v=.slice none 0 0↔L.length=0)∧Below w.heap.size w w'):=by
 obtain ⟨es,hown,hp,h1,hok⟩:=hL
 have hlen:Maps.size (DataW.map es)=L.length:=by rw [Maps.size_eq,hp.length_eq,List.length_map]
 have hsz:=hown.size_le
 have hbl:=hown.lt
 have hseq:SeqGives Fence.wide (n - 1 - 1 - 1) Tryz.prog 255 #[.pointer (some ⟨w.heap.size,0,none⟩)] encStr (λss=>ss.Perm (strKeys (DataW.map es))) (Maps.size (DataW.map es)) (w.alloc (.cells #[.map (some b)] 135)) :=
  AnyZ.keys_gives (ρ:=Tryz.keysV_ren) { Tryz.keysV with } Fence.wide _ trivial rfl oE w.heap.size b m (DataW.map es) _ sE sE (by
   obtain ⟨es',clock,hb,Ft,hs,hD⟩:=hown
   exact ⟨es',clock,(Below.heap_alloc _ _ b hbl).trans hb,Ft,hs,hD⟩)
 refine ⟨AnyZ.keys_in Tryz.keysV Fence.wide n trivial rfl _ w,?_⟩
 have cS:=AnyZ.sorted_in Tryz.sortedS Fence.wide n trivial trivial trivial trivial rfl (by omega) (jUj _) (enters_of Tryz.func254 (by kernel_rfl) rfl) 255 #[.pointer (some ⟨w.heap.size,0,none⟩)] trivial (enters_of Tryz.func255 (by kernel_rfl) rfl) _ _ (by unfold maxLen;omega) (by omega) _ hseq
 change CallsIn _ _ Tryz.prog 208 _ _ _ at cS
 refine cS.mono ?_
 rintro e w' ⟨v,ss,rfl,hS,hrow,hnil,hb⟩
 have hpm:=hS.trans (jFz hp)
 have el:ss.length=L.length:=by rw [hpm.length_eq,List.length_map]
 have es2:(ss.mergeSort λx y=>decide (x≤y)).map encStr=(jBw L).map Value.string:=by
  have:=mergeSort_of_perm hpm
  unfold jBw
  rw [show (ss.mergeSort λx y=>decide (x≤y))=ss.mergeSort leB from rfl,this,List.map_map]
  rfl
 rw [el,es2] at hrow
 refine ⟨v,rfl,ownsRow_base_a hrow sE,by rw [hnil,← el];exact List.length_eq_zero_iff.symm,((Below.refl _ w).alloc (Nat.le_refl _) _).trans (hb.mono sE)⟩
end Go.Proofs.YtcalalndmcemiaaGreatDoor
