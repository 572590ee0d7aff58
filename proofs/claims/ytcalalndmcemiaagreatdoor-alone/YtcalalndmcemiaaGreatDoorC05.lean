import Derived.Test.YtcalalndmcemiaaGreatDoorC04
import Derived.Laws.AppendOwnNone
import Derived.Laws.BytesString
import Derived.Laws.IdiomStrings
set_option maxRecDepth 100000
set_option maxHeartbeats 16000000
namespace Go.Proofs.YtcalalndmcemiaaGreatDoor
open Go.RowKit Go.Extern.Stop Go.Stop Go.Extern
def Met (w:World):Prop:=w.cell? ⟨0,0,none⟩=some (.iface 248 (.agg #[.pointer (some ⟨6,82,none⟩)]))
theorem Met.lt {w:World} (h:Met w):0<w.heap.size:=World.block_lt_of_cell? w ⟨0,0,none⟩ h
theorem Met.below {w w':World} {B:Nat} (h:Met w) (hb:Below B w w') (hB:0<B):Met w':=(hb.cell (p:=⟨0,0,none⟩) hB).trans h
theorem jXo (n:Int) (t:Addr) (old:Value) (w:World) (hg:Met w) (ht0:w.cell? t=some old) (hf0:w.frozen? t=false) :
  Calls Tryz.prog 60 #[.iface 44 (.int .i64 n),.iface 130 (.pointer (some t))] w λev w'=>ev=.returned (.bool true)∧w'=((((w.alloc (.cells #[.pointer (some t)] 130)).alloc (.cells #[.pointer (some ⟨6,130,none⟩),.pointer (some ⟨w.heap.size,0,none⟩),.int .u64 150] 187)).alloc (.cells #[.pointer (some ⟨6,130,none⟩),.pointer (some ⟨w.heap.size,0,none⟩),.int .u64 150] 187)).alloc (.cells #[.int .i64 n] 44)).setCell t (.int .i64 n):=by
 have h6:=@run_callFunc_extern Tryz.prog 101 _ (λargs=>ReflectliteValue.unpack (args.getD 0 (.tuple #[]))) Tryz.func101 (by kernel_rfl) (by kernel_rfl) (by kernel_rfl) (by kernel_rfl)
 have h7:=@run_callFunc_extern Tryz.prog 102 _ (ReflectliteValue.methodAny (ReflectliteValue.valueError "reflectlite.Value.Type" 0) (λt _ _ _=>ReflectliteType.toType t)) Tryz.func102 (by kernel_rfl) (by kernel_rfl) (by kernel_rfl) (by kernel_rfl)
 have h8:=@run_callFunc_extern Tryz.prog 103 _ (ReflectliteValue.method (ReflectliteValue.valueError "reflectlite.Value.IsNil" 0) ReflectliteValue.isNil) Tryz.func103 (by kernel_rfl) (by kernel_rfl) (by kernel_rfl) (by kernel_rfl)
 have h27:=@run_callFunc_extern Tryz.prog 376 _ (ReflectliteType.abiMethod λt=>do pure (.int .u8 (← Rtype.kind t))) Tryz.func376 (by kernel_rfl) (by kernel_rfl) (by kernel_rfl) (by kernel_rfl)
 have h37:=@run_callFunc_extern Tryz.prog 397 _ (ReflectliteType.method ReflectliteType.elem) Tryz.func397 (by kernel_rfl) (by kernel_rfl) (by kernel_rfl) (by kernel_rfl)
 have h38:=@run_callFunc_extern Tryz.prog 398 _ (ReflectliteType.relation "Implements" ReflectliteType.implements_) Tryz.func398 (by kernel_rfl) (by kernel_rfl) (by kernel_rfl) (by kernel_rfl)
 have h10:=@run_callFunc_extern Tryz.prog 105 _ ReflectliteType.typeOf Tryz.func105 (by kernel_rfl) (by kernel_rfl) (by kernel_rfl) (by kernel_rfl)
 have h35:=@run_callFunc_extern Tryz.prog 395 _ (ReflectliteType.relation "AssignableTo" ReflectliteType.assignableTo) Tryz.func395 (by kernel_rfl) (by kernel_rfl) (by kernel_rfl) (by kernel_rfl)
 have h11:=@run_callFunc_extern Tryz.prog 150 _ (ReflectliteValue.method (ReflectliteValue.valueError "reflectlite.Value.Elem" 0) ReflectliteValue.elem) Tryz.func150 (by kernel_rfl) (by kernel_rfl) (by kernel_rfl) (by kernel_rfl)
 have h12:=@run_callFunc_extern Tryz.prog 151 _ ReflectliteValue.set Tryz.func151 (by kernel_rfl) (by kernel_rfl) (by kernel_rfl) (by kernel_rfl)
 have tO:=Tryz.typeOfE
 have mA:=Tryz.methodAssignableTo
 have a25:=Tryz.assignableE
 have v25:=Tryz.valueOfE
 have f6:=Tryz.valueOfP
 have f7:=Tryz.typeP
 have mK:=Tryz.methodKind
 have mE:=Tryz.methodElem
 have mI:=Tryz.methodImplements
 have k27:=Tryz.kindP
 have k25:=Tryz.kindE
 have e27:=Tryz.elemP
 have i25:=Tryz.implementsE
 have n8:=Tryz.isNilP ⟨w.heap.size,0,none⟩ t ((w.alloc (.cells #[.pointer (some t)] 130)).alloc (.cells #[.pointer (some ⟨6,130,none⟩),.pointer (some ⟨w.heap.size,0,none⟩),.int .u64 150] 187)) sE
 have hlt:=hg.lt
 unfold Met at hg
 have hg2:((w.alloc (.cells #[.pointer (some t)] 130)).alloc (.cells #[.pointer (some ⟨6,130,none⟩),.pointer (some ⟨w.heap.size,0,none⟩),.int .u64 150] 187)).cell? ⟨0,0,none⟩=some (.iface 248 (.agg #[.pointer (some ⟨6,82,none⟩)])):=by
  rw [World.cell?_alloc_lt _ _ ⟨0,0,none⟩ sE,World.cell?_alloc_lt _ _ ⟨0,0,none⟩ hlt];exact hg
 have htl:t.block<w.heap.size:=World.block_lt_of_cell? w t ht0
 have el:=Tryz.elemVP ⟨w.heap.size,0,none⟩ t (((w.alloc (.cells #[.pointer (some t)] 130)).alloc (.cells #[.pointer (some ⟨6,130,none⟩),.pointer (some ⟨w.heap.size,0,none⟩),.int .u64 150] 187)).alloc (.cells #[.pointer (some ⟨6,130,none⟩),.pointer (some ⟨w.heap.size,0,none⟩),.int .u64 150] 187)) (by rw [World.cell?_alloc_lt _ _ ⟨w.heap.size,0,none⟩ (by simp;omega)];simp)
 have st:=Tryz.setE t ⟨w.heap.size+1+1+1,0,none⟩ n old ((((w.alloc (.cells #[.pointer (some t)] 130)).alloc (.cells #[.pointer (some ⟨6,130,none⟩),.pointer (some ⟨w.heap.size,0,none⟩),.int .u64 150] 187)).alloc (.cells #[.pointer (some ⟨6,130,none⟩),.pointer (some ⟨w.heap.size,0,none⟩),.int .u64 150] 187)).alloc (.cells #[.int .i64 n] 44))
  (by rw [World.cell?_alloc_at _ _ _ _ sE];rfl)
  (by rw [World.cell?_alloc_lt _ _ t (by simp;omega),World.cell?_alloc_lt _ _ t (by simp;omega),World.cell?_alloc_lt _ _ t (by simp;omega),World.cell?_alloc_lt _ _ t htl];exact ht0)
  (by rw [World.frozen?_alloc_old _ _ t (by simp;omega),World.frozen?_alloc_old _ _ t (by simp;omega),World.frozen?_alloc_old _ _ t (by simp;omega),World.frozen?_alloc_old _ _ t (Nat.ne_of_lt htl)];exact hf0)
 go_enter Tryz.func60,Tryz.ntmps60
 go_wp2
 refine wp_loop_rounds 1 ?_
 rw [rounds_succ]
 go_wp2
 go_ret
 exact ⟨rfl,rfl⟩
theorem jJ3 (w:World) (d:Nat) (a b:Int) :
  (Op.equalIn (d+2) 82 (.iface 44 (.int .i64 a)) (.iface 44 (.int .i64 b))).run Tryz.prog w=.ok (a == b) w:=by
 have hc:(Tryz.prog.info? 44).map (·.comparable)=some true:=by kernel_rfl
 obtain ⟨i,hi,hcomp⟩:=Option.map_eq_some_iff.1 hc
 simp [Op.equalIn,run_underlying Tryz.underlying82,run_underlying Tryz.underlying44,typeInfo,hi,hcomp]
theorem jRc (w:World) (a b:Int) :
  (binOp .eql 82 (.iface 44 (.int .i64 a)) (.iface 44 (.int .i64 b))).run Tryz.prog w=.ok (.bool (a == b)) w:=by
 simp only [binOp]
 simp [Op.equal,Op.maxDepth,jJ3 w 9998 a b]
theorem jQy (n:Int) (w:World) :
  Calls Tryz.prog 61 #[.iface 44 (.int .i64 n),.iface 44 (.int .i64 n)] w λev w'=>ev=.returned (.bool true)∧w'=w:=by
 have h10:=@run_callFunc_extern Tryz.prog 105 _ ReflectliteType.typeOf Tryz.func105 (by kernel_rfl) (by kernel_rfl) (by kernel_rfl) (by kernel_rfl)
 have tO:=Tryz.typeOfE
 have mC:=Tryz.methodComparable
 have cE:=Tryz.comparableE
 have he:∀ w,(binOp .eql 82 (.iface 44 (.int .i64 n)) (.iface 44 (.int .i64 n))).run Tryz.prog w=.ok (.bool true) w:=λw=>by rw [jRc];simp
 go_enter Tryz.func61,Tryz.ntmps61
 go_wp2
 refine wp_loop_rounds 1 ?_
 rw [rounds_succ]
 go_wp2
 go_ret
 exact ⟨rfl,rfl⟩
theorem jNl (w:World) :
  Calls Tryz.prog 30 #[.nilIface] w λe w'=>e=.returned (.int .i64 0)∧Below w.heap.size w w':=by
 go_enter Tryz.func30,Tryz.ntmps30
 go_wp2
 go_ret
 exact ⟨rfl,(Below.refl _ _).alloc (Nat.le_refl _) _⟩
theorem jNj (n:Int) (w:World) (hg:Met w) :
  Calls Tryz.prog 30 #[.iface 44 (.int .i64 n)] w λe w'=>e=.returned (.int .i64 n)∧Below w.heap.size w w':=by
 have hlt:=hg.lt
 have HG:Hid (Met (w.alloc (.cells #[.int .i64 0] 44))):=by
  show Met _
  unfold Met
  rw [World.cell?_alloc_lt _ _ ⟨0,0,none⟩ hlt];exact hg
 clear hg
 go_enter Tryz.func30,Tryz.ntmps30
 go_wp2_with fail
 refine (jXo n ⟨w.heap.size,0,none⟩ (.int .i64 0) _ HG.out sE sE).mono ?_
 rintro e w1 ⟨rfl,hw1⟩
 have hB1:Below w.heap.size w w1:=by
  rw [hw1]
  exact ((((((Below.refl _ _).alloc (Nat.le_refl _) _).alloc sE _).alloc (by simp;omega) _).alloc (by simp;omega) _).alloc (by simp;omega) _).setCell (Nat.le_refl _) _
 have hc1:w1.cell? ⟨w.heap.size,0,none⟩=some (.int .i64 n):=by
  rw [hw1]
  refine World.cell?_setCell_same (u:=.int .i64 0) _ _ _ ?_
  rw [World.cell?_alloc_lt _ _ ⟨w.heap.size,0,none⟩ (by simp;omega),World.cell?_alloc_lt _ _ ⟨w.heap.size,0,none⟩ (by simp;omega),World.cell?_alloc_lt _ _ ⟨w.heap.size,0,none⟩ (by simp;omega),World.cell?_alloc_lt _ _ ⟨w.heap.size,0,none⟩ sE]
  simp
 clear hw1
 go_wp2_with (go_at_call 61;refine (jQy n _).mono ?_;rintro e w' ⟨rfl,rfl⟩)
 go_ret
 exact ⟨rfl,hB1⟩
end Go.Proofs.YtcalalndmcemiaaGreatDoor
set_option maxRecDepth 100000
set_option maxHeartbeats 16000000
namespace Go.Proofs.YtcalalndmcemiaaGreatDoor
open Go.RowKit
open Sc
theorem jF5 (base g n cap:Nat) (xs:List Value) (w:World) (hown:w.ownsRow base 5 1 (.slice (some ⟨g,0,none⟩) n cap) n xs) (hn:n≤1099511627776) :
  Calls Tryz.prog 70 #[.slice (some ⟨g,0,none⟩) n cap] w λe w'=>e=.returned (.tuple #[])∧w.grownBy w' (some g):=by
 go_enter Tryz.func70,Tryz.ntmps70
 go_wp2
 go_loopw [5] (λi wr=>∃ k:Nat,k≤n∧i=.int .i64 k∧(∃ ys,wr.ownsRow base 5 1 (.slice (some ⟨g,0,none⟩) n cap) n ys)∧w.grownBy wr (some g)) (λi _=>n - (intOf i).toNat)
 case atStart=>exact ⟨0,Nat.zero_le _,rfl,⟨xs,hown⟩,jAx _ _⟩
 case round =>
  obtain ⟨k,hk,rfl,⟨ys,hy⟩,hgr⟩:=hrel
  by_cases hlt:k<n
  ·have hcx:=hy.cellAt k oE
   have hlen:k<ys.length:=by have:=hy.1;omega
   rw [List.getElem?_eq_getElem hlen] at hcx
   have hfx:=hy.frozenAt k
   obtain ⟨hy2,hg2⟩:=hy.stored k (.int .u8 33)
   have HY:Hid ((wr.setCell ⟨g,k,none⟩ (.int .u8 33)).ownsRow base 5 1 (.slice (some ⟨g,0,none⟩) n cap) n (ys.set k (.int .u8 33))):=hy2
   have HG:Hid (w.grownBy (wr.setCell ⟨g,k,none⟩ (.int .u8 33)) (some g)):=jAa hgr hg2
   clear hy hy2 hg2 hgr
   go_wp2
   go_roundw
   case rel=>exact ⟨k+1,by omega,by go_num,⟨_,HY.out⟩,HG.out⟩
   case measure=>simp [intOf];omega
  ·go_wp2
   go_end0
   exact ⟨rfl,hgr⟩
theorem jK7 (w:World):Calls Tryz.prog 70 #[.slice none 0 0] w λe w'=>e=.returned (.tuple #[])∧w'=w:=by
 go_enter Tryz.func70,Tryz.ntmps70
 go_wp2
 refine wp_loop_rounds 1 ?_
 rw [rounds_succ]
 go_wp2
 go_end0
 exact ⟨rfl,rfl⟩
def jG0 (l:List Nat):Bool:=(l.length == 15) && jE2 l
def decV (l:List Nat):Value:=if jG0 l=true then msgV (at_ l 0) (at_ l 1) (at_ l 2) (msgTxn l) else msgV 0 0 0 0
def decE (l:List Nat):Int:=if jG0 l=true then 0 else 2
theorem jKc {l:List Nat} (h:l.length≠15):jG0 l=false:=by unfold jG0;simp [h]
theorem jG4 {l:List Nat} (h:l.length=15):jG0 l=jE2 l:=by unfold jG0;simp [h]
theorem jKz {l:List Nat} (h:l.length=15):decV l=jL8 l:=by unfold decV jL8;rw [jG4 h]
theorem jUa {l:List Nat} (h:l.length≠15):decV l=.agg #[.int .i64 0,.int .i64 0,.int .i64 0,.int .u64 0]:=by unfold decV;rw [jKc h];rfl
theorem jP9 (base n:Nat) (v:Value) (l:List Nat) (w:World) (hown:w.ownsRow base 5 1 v n (bs l)) (hb:Byt l) :
  Calls Tryz.prog 158 #[v] w λe w'=>e=.returned (.tuple #[decV l,errV (jG0 l)])∧Below w.heap.size w w':=by
 have hlen:=jQ7 hown
 by_cases h15:n=15
 ·obtain ⟨g,cap,rfl,_,_,hc,hc2,hrow⟩:=jS2 hown oE
  subst h15
  rw [jKz hlen,jG4 hlen]
  exact jJj g 0 cap l w hlen hb hc hc2 hrow
 ·rw [jUa oE,jKc oE,jJ4]
  have h2:=hown.2
  rcases h2 with ⟨rfl,rfl⟩ | ⟨g,cap,cur,rfl,hg,_⟩
  ·exact jHz none 0 0 w oE
  ·exact jHz _ n cap w h15
theorem jJ6 (l:List Nat):∃ k f t x:Int,decV l=.agg #[.int .i64 k,.int .i64 f,.int .i64 t,.int .u64 x]:=by
 unfold decV;split
 ·exact ⟨_,_,_,_,rfl⟩
 ·exact ⟨_,_,_,_,rfl⟩
theorem jT4 (base n:Nat) (v:Value) (l:List Nat) (w:World) (hown:w.ownsRow base 5 1 v n (bs l)) (hb:Byt l) :
  Calls Tryz.prog 115 #[v] w λe w'=>e=.returned (.tuple #[decV l,errV (jG0 l)])∧Below w.heap.size w w':=by
 obtain ⟨k,f,t,x,hV⟩:=jJ6 l
 rw [hV]
 have HO:=hown.alloc (msgO 0 0 0 0)
 have HOH:Hid ((w.alloc (msgO 0 0 0 0)).ownsRow base 5 1 v n (bs l)):=HO
 have HV:Hid (decV l=.agg #[.int .i64 k,.int .i64 f,.int .i64 t,.int .u64 x]):=hV
 clear HO hV hown
 go_enter Tryz.func115,Tryz.ntmps115
 go_wp2_with fail
 refine (jP9 base n v l _ HOH.out hb).mono ?_
 rintro e w1 ⟨rfl,hb1⟩
 rw [HV.out]
 have hb1':Below (w.heap.size+1) (w.alloc (msgO 0 0 0 0)) w1:=by rw [World.size_alloc] at hb1;exact hb1
 have hc1:∀ i,w1.cell? ⟨w.heap.size,i,none⟩=(w.alloc (msgO 0 0 0 0)).cell? ⟨w.heap.size,i,none⟩:=λi=>hb1'.cell (p:=⟨w.heap.size,i,none⟩) sE
 have hf1:∀ i,w1.frozen? ⟨w.heap.size,i,none⟩=false:=λi=>by rw [hb1'.frozen (p:=⟨w.heap.size,i,none⟩) sE];simp
 have HB1:Hid (Below w.heap.size w w1):=((Below.refl _ _).alloc (Nat.le_refl _) _).trans (hb1'.mono oE)
 clear hb1 hb1'
 go_wp2
 exact bodyPost_ret (v:=.tuple #[.agg #[.int .i64 k,.int .i64 f,.int .i64 t,.int .u64 x],errV (jG0 l)]) (by simp [results,Tryz.results115,go_sem,hc1]) rfl ⟨rfl,(((HB1.out.setCell (Nat.le_refl _) _).setCell (Nat.le_refl _) _).setCell (Nat.le_refl _) _).setCell (Nat.le_refl _) _⟩
def toldN (b:Bool):Int:=if b=true then 0 else 2
theorem jS3 (l:List Nat):decE l=toldN (jG0 l):=rfl
theorem toldE (b:Bool) (w:World) (hg:Met w):Calls Tryz.prog 30 #[errV b] w λe w'=>e=.returned (.int .i64 (toldN b))∧Below w.heap.size w w':=by
 cases b with
 | true=>rw [jIo];exact jNl w
 | false=>rw [jJ4];exact jNj 2 w hg
def Src (w:World) (v:Value) (l:List Nat):Prop :=
 (v=.slice none 0 0∧l=[])∨∃ b off cap,v=.slice (some ⟨b,off,none⟩) l.length cap∧RowAt w b off l∧b<w.heap.size∧l.length≤cap∧cap≤maxLen
theorem Src.alloc {w:World} {v:Value} {l:List Nat} (h:Src w v l) (o:Obj):Src (w.alloc o) v l:=by
 rcases h with h | ⟨b,off,cap,h1,h2,h3,h4⟩
 ·exact Or.inl h
 ·exact Or.inr ⟨b,off,cap,h1,(jCf h3).2 h2,by simp;omega,h4⟩
theorem jOz {w:World} {ops:Array Oper} {rest:List Oper} {o:Oper} {a:Act} {Q:Exit→Act→World→Prop} (hgd:o.guard=none) (x:Operand)
  (ho:o.op=.call { callee:=.builtin .append,args:=#[.const (.slice none 0 0),x],argTypes:=#[88,88] })
  (v:Value) (l:List Nat) (hx:a.eval x=v) (hs:Src w v l) (hl:l.length≤1099511627776)
  (h:∀ v' w',w'.ownsRow w.heap.size 5 1 v' l.length (bs l)→Below w.heap.size w w'→wpList Tryz.prog ops Q rest (a.put o.dst v') w'):wpList Tryz.prog ops Q (o :: rest) a w:=by
 obtain ⟨i0,hi,hz0,hz1,hz2⟩:=info_parts Tryz.info5
 rcases hs with ⟨rfl,rfl⟩ | ⟨b,off,cap,rfl,hrow,hlt,_,_⟩
 ·exact wpList_append_own_none hgd _ x 88 ho w.heap.size 5 i0 1 Tryz.underlying88 hi (.slice none 0 0) 0 [] rfl (World.ownsRow_nil _ _ _ _) hx
   (h _ _ (World.ownsRow_nil _ _ _ _) (Below.refl _ _))
 ·refine wpList_append_own w hgd _ x 88 ho w.heap.size 5 i0 (.int .u8 0) 1 1 Tryz.underlying88 hi hz0 hz1 hz2 rfl dN (.slice none 0 0) 0 [] rfl (World.ownsRow_nil _ _ _ _) ⟨b,off,none⟩ l.length cap (bs l) hx (by rw [jJo];omega) ?_ ?_ (by unfold maxLen;omega) oE (Nat.le_refl _) ?_
  ·intro j u hj
   have hjl:j<l.length:=by
    have:=(List.getElem?_eq_some_iff.1 hj).1;rwa [jJo] at this
   rw [jSk l j hjl] at hj
   cases hj
   have:=hrow j hjl
   simpa [Addr.add_lit] using this
  ·intro u hu
   unfold bs at hu
   obtain ⟨y,_,rfl⟩:=List.mem_map.1 hu
   rfl
  ·intro v' w' hown hgr _
   refine h v' w' (by simpa using hown) ((Below.refl _ _).grown hgr (Nat.le_refl _) (λq hq=>by simp [Value.ownBlock] at hq))
theorem jHb {w w':World} (h:Below w.heap.size w w') (r:Option Nat):w.grownBy w' r:=⟨h.os,h.tape,h.output,h.size,λk hk _=>h.block k hk⟩
theorem jR4 {w w':World} {base n:Nat} {v:Value} {xs:List Value} (h:w.ownsRow base 5 1 v n xs) (hb:Below w.heap.size w w'):w'.ownsRow base 5 1 v n xs :=
 h.kept (jHb hb none) (by cases v.ownBlock <;> simp)
theorem jIr (base n:Nat) (v:Value) (xs:List Value) (w:World) (hown:w.ownsRow base 5 1 v n xs) (hn:n≤1099511627776) :
  Calls Tryz.prog 70 #[v] w λe w'=>e=.returned (.tuple #[])∧w.grownBy w' v.ownBlock:=by
 have h2:=hown.2
 rcases h2 with ⟨rfl,rfl⟩ | ⟨g,cap,cur,rfl,hg,_⟩
 ·refine (jK7 w).mono ?_
  rintro e w' ⟨rfl,rfl⟩
  exact ⟨rfl,jAx _ _⟩
 ·refine (jF5 base g n cap xs w hown hn).mono ?_
  rintro e w' ⟨rfl,hgr⟩
  exact ⟨rfl,hgr⟩
def Four (w:World) (B:Nat) (k f t x:Int):Prop:=w.cell? ⟨B,0,none⟩=some (.int .i64 k)∧w.cell? ⟨B,1,none⟩=some (.int .i64 f)∧w.cell? ⟨B,2,none⟩=some (.int .i64 t)∧w.cell? ⟨B,3,none⟩=some (.int .u64 x)
def Free (w:World) (B:Nat):Prop:=∀ i,w.frozen? ⟨B,i,none⟩=false
theorem Four.of_block {w w':World} {B:Nat} {k f t x:Int} (h:Four w B k f t x) (hb:w'.heap[B]?=w.heap[B]?):Four w' B k f t x:=by
 have e:∀ i,w'.cell? ⟨B,i,none⟩=w.cell? ⟨B,i,none⟩:=λi=>World.cell?_of_block (a:=⟨B,i,none⟩) hb
 exact ⟨(e 0).trans h.1,(e 1).trans h.2.1,(e 2).trans h.2.2.1,(e 3).trans h.2.2.2⟩
theorem Free.of_block {w w':World} {B:Nat} (h:Free w B) (hb:w'.heap[B]?=w.heap[B]?):Free w' B:=λi=>(World.frozen?_of_block (a:=⟨B,i,none⟩) hb).trans (h i)
theorem decP (v:Value) (l:List Nat) (w:World) (hs:Src w v l) (hb:Byt l) (hl:l.length≤1099511627776) (hg:Met w) :
  Calls Tryz.prog 71 #[v] w λe w'=>e=.returned (.tuple #[decV l,.int .i64 (decE l)])∧Below w.heap.size w w':=by
 obtain ⟨k,f,t,x,hV⟩:=jJ6 l
 have HV:Hid (decV l=.agg #[.int .i64 k,.int .i64 f,.int .i64 t,.int .u64 x]):=hV
 rw [hV]
 have HG:Hid (Met w):=hg
 have h0:=hg.lt
 have HS:Hid (Src (w.alloc (msgO 0 0 0 0)) v l):=hs.alloc _
 clear hV hs hg
 go_enter Tryz.func71,Tryz.ntmps71
 go_wp2_with (at_builtin;refine jOz rfl _ rfl v l rfl HS.out hl ?_;intro v1 w1 ho1 hb1)
 have ho1':w1.ownsRow (w.heap.size+1) 5 1 v1 l.length (bs l):=by
  have h:=ho1
  rwa [World.size_alloc] at h
 have hb1':Below (w.heap.size+1) (w.alloc (msgO 0 0 0 0)) w1:=by
  have h:=hb1
  rwa [World.size_alloc] at h
 clear ho1 hb1
 have hz1:w.heap.size+1≤w1.heap.size:=by have:=hb1'.size;simp at this;omega
 refine (jT4 (w.heap.size+1) l.length v1 l _ ho1' hb).mono ?_
 rintro e w2 ⟨rfl,hb2⟩
 rw [HV.out]
 have ho2:=jR4 ho1' hb2
 have hz2:w1.heap.size≤w2.heap.size:=hb2.size
 have hb12:Below (w.heap.size+1) (w.alloc (msgO 0 0 0 0)) w2:=hb1'.trans (hb2.mono hz1)
 have HO2:Hid (w2.ownsRow (w.heap.size+1) 5 1 v1 l.length (bs l)):=ho2
 have HO1:Hid (w1.ownsRow (w.heap.size+1) 5 1 v1 l.length (bs l)):=ho1'
 have HB2:Hid (Below (w.heap.size+1) (w.alloc (msgO 0 0 0 0)) w2):=hb12
 clear ho2 hb12 ho1' hb1' hb2
 go_wp2_with fail
 refine (jIr (w.heap.size+1) l.length v1 (bs l) _ (HO2.out.alloc _) hl).mono ?_
 rintro e w3 ⟨rfl,hg3⟩
 have hown1:∀ q,v1.ownBlock=some q→w.heap.size+1≤q∧q<w1.heap.size:=λq hq=>HO1.out.lt q hq
 have bM:w3.heap[w2.heap.size]?=(w2.alloc (msgO k f t x)).heap[w2.heap.size]?:=hg3.block _ sE (λe=>by have:=(hown1 _ e.symm).2;omega)
 have bR:w3.heap[w.heap.size]?=(w.alloc (msgO 0 0 0 0)).heap[w.heap.size]?:=by
  rw [hg3.block _ (by simp;omega) (λe=>by have:=(hown1 _ e.symm).1;omega),Below.heap_alloc _ _ _ oE,HB2.out.block _ oE]
 have hB3:Below w.heap.size w w3:=(((((Below.refl _ _).alloc (Nat.le_refl _) _).trans (HB2.out.mono oE)).alloc oE _)).grown hg3 (by simp;omega) (λq hq=>by have:=(hown1 _ hq).1;omega)
 have f4:Four w3 w2.heap.size k f t x:=Four.of_block (w:=w2.alloc (msgO k f t x)) ⟨by simp,by simp,by simp,by simp⟩ bM
 have r4:Four w3 w.heap.size 0 0 0 0:=Four.of_block (w:=w.alloc (msgO 0 0 0 0)) ⟨by simp,by simp,by simp,by simp⟩ bR
 have rF:Free w3 w.heap.size:=Free.of_block (w:=w.alloc (msgO 0 0 0 0)) (λi=>by simp) bR
 have hz3:w2.heap.size<w3.heap.size:=by have:=hg3.size;simp at this;omega
 have HB3:Hid (Below w.heap.size w w3):=hB3
 have HM3:Hid (Met w3):=HG.out.below hB3 h0
 clear hg3 bM bR hB3 hown1
 obtain ⟨c0,c1,c2,c3⟩:=f4
 obtain ⟨r0,r1,r2,r3⟩:=r4
 have q0:=rF 0
 have q1:=rF 1
 have q2:=rF 2
 have q3:=rF 3
 clear rF
 have hz0:w.heap.size<w3.heap.size:=by omega
 have hne:¬ w.heap.size=w2.heap.size:=by omega
 go_wp2
 go_region_held3 (λw'=>w'.cell? ⟨w2.heap.size,0,none⟩=some (.int .i64 k)∧w'.cell? ⟨w2.heap.size,1,none⟩=some (.int .i64 f)∧w'.cell? ⟨w2.heap.size,2,none⟩=some (.int .i64 t)∧w'.cell? ⟨w2.heap.size,3,none⟩=some (.int .u64 x)) (go_keep)
  (first | (go_at_call 30;refine (toldE _ _ ?_).mono ?_;exact HM3.out;rintro e w4 ⟨rfl,hb4⟩;have m0:=(hb4.cell (p:=⟨w2.heap.size,0,none⟩) hz3).trans c0;have s0:=(hb4.cell (p:=⟨w.heap.size,0,none⟩) hz0).trans r0;have p0:=(hb4.frozen (p:=⟨w.heap.size,0,none⟩) hz0).trans q0;have m1:=(hb4.cell (p:=⟨w2.heap.size,1,none⟩) hz3).trans c1;have s1:=(hb4.cell (p:=⟨w.heap.size,1,none⟩) hz0).trans r1;have p1:=(hb4.frozen (p:=⟨w.heap.size,1,none⟩) hz0).trans q1;have m2:=(hb4.cell (p:=⟨w2.heap.size,2,none⟩) hz3).trans c2;have s2:=(hb4.cell (p:=⟨w.heap.size,2,none⟩) hz0).trans r2;have p2:=(hb4.frozen (p:=⟨w.heap.size,2,none⟩) hz0).trans q2;have m3:=(hb4.cell (p:=⟨w2.heap.size,3,none⟩) hz3).trans c3;have s3:=(hb4.cell (p:=⟨w.heap.size,3,none⟩) hz0).trans r3;have p3:=(hb4.frozen (p:=⟨w.heap.size,3,none⟩) hz0).trans q3))
 have HB4:Hid (Below w.heap.size w w4):=HB3.out.drew.trans (hb4.mono (by show w.heap.size≤w3.heap.size;omega))
 clear hb4
 go_wp2
 rw [jS3]
 refine bodyPost_ret (v:=.tuple #[.agg #[.int .i64 k,.int .i64 f,.int .i64 t,.int .u64 x],.int .i64 (toldN (jG0 l))]) (by simp [results,Tryz.results71,go_sem,s0,s1,s2,s3]) rfl ⟨rfl,?_⟩
 exact (((HB4.out.setCell (Nat.le_refl _) _).setCell (Nat.le_refl _) _).setCell (Nat.le_refl _) _).setCell (Nat.le_refl _) _
def jA6 (s:ByteArray):List Nat:=s.data.toList.map UInt8.toNat
theorem jAz (s:ByteArray):(jA6 s).length=s.size:=by unfold jA6;rw [List.length_map,Array.length_toList];rfl
theorem jL4 (s:ByteArray):Byt (jA6 s):=by
 intro x hx
 unfold jA6 at hx
 obtain ⟨y,_,rfl⟩:=List.mem_map.1 hx
 exact y.toNat_lt
def strO (s:ByteArray) (c:Nat):Obj:=.cells (bytesRow s c) 5 ((bytesRow s c).size,(bytesRow s c).size+1)
theorem jE3 (w:World) (s:ByteArray):(convert 9 88 (.string s)).run Tryz.prog w=.ok (.slice (some ⟨w.heap.size,0,none⟩) s.size (grownCap w s.size 0 5)) (w.drew.alloc (strO s (grownCap w s.size 0 5))) :=
 run_bytes_of_string w _ _ _ s Tryz.underlying9 Tryz.underlying88 Tryz.underlying5
theorem jIk (w:World) (s:ByteArray) (c:Nat):RowAt (w.drew.alloc (strO s c)) w.heap.size 0 (jA6 s):=λi hi=>by
 have h1:(w.drew.alloc (strO s c)).cell? ⟨w.heap.size,0+i,none⟩=(bytesRow s c)[0+i]?:=by
  have:=cell_of_row (w.drew.alloc (strO s c)) w.heap.size (0+i) (bytesRow s c) 5 ((bytesRow s c).size,(bytesRow s c).size+1) (heap_alloc_new w.drew _)
  exact this
 rw [jAz] at hi
 have hi':i<s.data.size:=hi
 rw [h1,Nat.zero_add,bytesRow_at s c i hi']
 simp [at_,jA6,Array.getElem?_eq_getElem hi']
theorem jS5 (w:World) (s:ByteArray) (hs:s.size≤maxLen):Src (w.drew.alloc (strO s (grownCap w s.size 0 5))) (.slice (some ⟨w.heap.size,0,none⟩) s.size (grownCap w s.size 0 5)) (jA6 s) :=
 Or.inr ⟨w.heap.size,0,_,by rw [jAz],jIk w s _,by simp,by rw [jAz];exact grownCap_ge _ _ _ _,grownCap_le_maxLen _ _ _ _ hs⟩
def str (l:List Nat):ByteArray:=(l.map λx:Nat=>(x:Int)).foldl (λr n=>r.push (UInt8.ofNat n.toNat)) ByteArray.empty
theorem jDo (w:World) (g off n cap:Nat) (l:List Nat) (hl:l.length=n) (hrow:RowAt w g off l):(convert 88 9 (.slice (some ⟨g,off,none⟩) n cap)).run Tryz.prog w=.ok (.string (str l)) w:=by
 rw [run_convert_bytes_string w _ _ _ _ _ _ Tryz.underlying88 Tryz.underlying5 Tryz.underlying9]
 refine run_bytesToString w _ _ _ _ ?_
 have h:=run_loadCells_list (P:=Tryz.prog) w ⟨g,off,none⟩ (bs l) (λj v hv=>?_)
 ·rw [jJo,hl] at h
  rw [h]
  simp [bs]
 ·have hjl:j<l.length:=by
   have:=(List.getElem?_eq_some_iff.1 hv).1;rwa [jJo] at this
  rw [jSk l j hjl] at hv
  cases hv
  simpa [Addr.add_lit] using hrow j hjl
def ADisk.read (d:ADisk) (nm:ByteArray):Option ByteArray × Nat :=
 if d.down=true then (none,10) else match d.now nm with | none=>(none,8) | some t=>(some t,0)
def Got (t:Option ByteArray) (v:Value) (w':World):Prop :=
 match t with
 | none=>v=.slice none 0 0
 | some t=>Src w' v (jA6 t)
def jTx (d:ADisk) (nm:ByteArray) (w:World) (e:Ending) (w':World):Prop :=
 ∃ v,e=.returned (.tuple #[v,errN (d.read nm).2])∧Got (d.read nm).1 v w'∧Below w.heap.size w w'
theorem jTz (B p bD bN n nD nN:Nat) (pv:Value) (d:ADisk) (nm:ByteArray) (w:World) (h:DiskIn w B p bD bN pv d n nD nN) (hnm:nm.size≤maxLen) :
  Calls Tryz.prog 382 #[.pointer (some ⟨p,0,none⟩),.string nm] w (jTx d nm w):=by
 have p1:=jA0 h.blk 1
 have p5:=jA0 h.blk 5
 simp at p1 p5
 have HI:Hid (DiskIn w B p bD bN pv d n nD nN):=h
 clear h
 cases hd:d.down with
 | true =>
  rw [hd] at p5
  have HD:Hid (d.down=true):=hd
  clear hd
  go_enter Tryz.func382,Tryz.ntmps382
  go_wp2
  go_ret2
  have e:d.read nm=(none,10):=by unfold ADisk.read;rw [if_pos HD.out]
  refine ⟨.slice none 0 0,by rw [e];rfl,by rw [e];rfl,Below.refl _ _⟩
 | false =>
  rw [hd] at p5
  have HD:Hid (d.down=false):=hd
  clear hd
  rcases HI.out.now.look nm hnm with ⟨hN,hl⟩ | ⟨t,q,hN,hq,hl⟩
  ·have HN:Hid (d.now nm=none):=hN
   clear hN
   go_enter Tryz.func382,Tryz.ntmps382
   go_wp2
   go_ret2
   have e:d.read nm=(none,8):=by unfold ADisk.read;rw [if_neg (by rw [HD.out];decide),HN.out]
   refine ⟨.slice none 0 0,by rw [e];rfl,by rw [e];rfl,Below.refl _ _⟩
  ·have HN:Hid (d.now nm=some t):=hN
   have hc:=jKj hq
   have hsz:t.size≤maxLen:=by
    have h1:=HI.out.leN nm t hN
    have h2:=HI.out.hN
    have h3:=HI.out.hn
    unfold maxLen
    omega
   have hrb:=jE3 w t
   clear hN hq
   go_enter Tryz.func382,Tryz.ntmps382
   go_wp2
   go_ret2
   have e:d.read nm=(some t,0):=by unfold ADisk.read;rw [if_neg (by rw [HD.out];decide),HN.out]
   refine ⟨_,by rw [e];rfl,by rw [e];exact jS5 w t hsz,?_⟩
   exact (Below.refl _ _).drew.alloc (Nat.le_refl _) _
end Go.Proofs.YtcalalndmcemiaaGreatDoor
