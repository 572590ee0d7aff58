import Derived.Test.YtcalalndmcemiaaGreatDoorC13
set_option maxRecDepth 100000
set_option maxHeartbeats 16000000
namespace Go.Proofs.YtcalalndmcemiaaGreatDoor
open Go.RowKit Go.Maps
open Sc
section
variable {w w':World} {B lp p bD bN n nD nN:Nat} {pv sv rv:Value} {l:ALog} {d:ADisk}
theorem LogIn.freeMap (h:LogIn w B lp p bD bN pv sv rv l d n nD nN) {b:Nat} (hb:∃ es c,w.heap[b]?=some (.map es c)) (h1:b≠bD) (h2:b≠bN):¬ Own lp p w b:=by
 obtain ⟨es,c,hb⟩:=hb
 rw [h.own]
 rintro (e | e | e | e | e | e | e)
 ·subst e;rw [h.blk] at hb;cases hb
 ·subst e;rw [h.disk.blk] at hb;cases hb
 ·exact h1 e
 ·exact h2 e
 ·obtain ⟨c,hc⟩:=jA4 h.disk.pen e;rw [hc] at hb;cases hb
 ·obtain ⟨c,hc⟩:=jA4 h.segs e;rw [hc] at hb;cases hb
 ·obtain ⟨c,hc⟩:=jA4 h.recs e;rw [hc] at hb;cases hb
theorem LogIn.apart {S:List Nat} (h:LogIn w B lp p bD bN pv sv rv l d n nD nN) (hf:Fr S w w') (hS:∀ k∈S,k<w.heap.size→¬ Own lp p w k∧∀ t,w.heap[k]?≠some (jBc t)):LogIn w' B lp p bD bN pv sv rv l d n nD nN:=by
 have key:∀ k,k<w.heap.size→Own lp p w k→k∉S:=λk hk ho hm=>(hS k hm hk).1 ho
 have lt:∀ k,Own lp p w k→k<w.heap.size:=λk ho=>by
  rcases (h.own k).1 ho with e | e | e | e | e | e | e
  ·rw [e];exact (Array.getElem?_eq_some_iff.1 h.blk).1
  ·rw [e];exact (Array.getElem?_eq_some_iff.1 h.disk.blk).1
  ·rw [e];exact h.disk.dur.lt
  ·rw [e];exact h.disk.now.lt
  ·exact (h.disk.pen.lt k e).2
  ·exact (h.segs.lt k e).2
  ·exact (h.recs.lt k e).2
 have no:∀ k,Own lp p w k→k∉S:=λk ho=>key k (lt k ho) ho
 have hin:∀ {k},(k=lp∨k=p∨k=bD∨k=bN∨pv.ownBlock=some k∨sv.ownBlock=some k∨rv.ownBlock=some k)→k∉S:=λ{k} hk=>no k ((h.own k).2 hk)
 refine h.turned (h.disk.fr hf (hin sE) (hin sE) (hin sE) (λg hg=>hin (by simp [hg])) (λq hq t=>?_)) hf (λk hk hl=>?_) (Nat.le_refl _)
 ·by_cases hl:q<w.heap.size
  ·exact (hS q hq hl).2 t
  ·intro e;exact hl (Array.getElem?_eq_some_iff.1 e).1
 ·have:=(hS k hk hl).1
  rw [h.own] at this
  simp only [not_or] at this
  exact ⟨this.1,this.2.2.2.2.2.1,this.2.2.2.2.2.2⟩
end
structure ShLog (w:World) (sp gp bV bT bH bD bN lp:Nat):Prop where
 led:w.heap[gp]?=some (ledO lp)
 ne:bV≠bD∧bV≠bN∧bT≠bD∧bT≠bN∧bH≠bD∧bH≠bN
section
variable {w w':World} {B sp gp bV bT bH m lp p bD bN n nD nN:Nat} {pv sv rv:Value} {l:ALog} {d:ADisk} {s:AShard}
theorem ShIn.free (hs:ShIn w sp gp bV bT bH m s) (h:LogIn w B lp p bD bN pv sv rv l d n nD nN) (hx:ShLog w sp gp bV bT bH bD bN lp):∀ k∈[sp,gp,bV,bT,bH],¬ Own lp p w k∧∀ t,w.heap[k]?≠some (jBc t):=by
 intro k hk
 simp at hk
 rcases hk with rfl | rfl | rfl | rfl | rfl
 ·exact ⟨h.free hs.blk dN dN dN dN dN,λt e=>by rw [hs.blk] at e;cases e⟩
 ·exact ⟨h.free hx.led dN dN dN dN dN,λt e=>by rw [hx.led] at e;cases e⟩
 ·exact ⟨h.freeMap hs.vals.isMap hx.ne.1 hx.ne.2.1,λt e=>by obtain ⟨es,c,e2⟩:=hs.vals.isMap;rw [e2] at e;cases e⟩
 ·exact ⟨h.freeMap hs.txns.isMap hx.ne.2.2.1 hx.ne.2.2.2.1,λt e=>by obtain ⟨es,c,e2⟩:=hs.txns.isMap;rw [e2] at e;cases e⟩
 ·exact ⟨h.freeMap hs.holds.isMap hx.ne.2.2.2.2.1 hx.ne.2.2.2.2.2,λt e=>by obtain ⟨es,c,e2⟩:=hs.holds.isMap;rw [e2] at e;cases e⟩
theorem ShIn.ofr (hs:ShIn w sp gp bV bT bH m s) (h:LogIn w B lp p bD bN pv sv rv l d n nD nN) (hx:ShLog w sp gp bV bT bH bD bN lp) (hf:OFr lp p w w'):ShIn w' sp gp bV bT bH m s∧ShLog w' sp gp bV bT bH bD bN lp:=by
 have hfree:=hs.free h hx
 have mv:∀ {K V:Type} [DecidableEq K] {kt:TypeId} {KR:KeyRep Tryz.prog K kt} {ER:ElRep V} {b k:Nat} {L:List (K × V)},MapAs KR ER w b k L→b∈[sp,gp,bV,bT,bH]→MapAs KR ER w' b k L:=by
  intro K V _ kt KR ER b k L hM hb
  have hlt:=hM.lt
  obtain ⟨es,⟨es',c,h1,h2⟩,r⟩:=hM
  exact ⟨es,⟨es',c,(hf.block b hlt (hfree b hb).1).trans h1,h2⟩,r⟩
 exact ⟨{ blk:=(hf.block sp hs.lts.1 (hfree sp sE).1).trans hs.blk,vals:=mv hs.vals sE,txns:=mv hs.txns sE,holds:=mv hs.holds sE,ne:=hs.ne,ticks:=hs.ticks },
  { led:=(hf.block gp (Array.getElem?_eq_some_iff.1 hx.led).1 (hfree gp sE).1).trans hx.led,ne:=hx.ne }⟩
theorem LogIn.shard {S:List Nat} (h:LogIn w B lp p bD bN pv sv rv l d n nD nN) (hs:ShIn w sp gp bV bT bH m s) (hx:ShLog w sp gp bV bT bH bD bN lp) (hf:Fr S w w') (hS:∀ k∈S,k∈[sp,bV,bT,bH]):LogIn w' B lp p bD bN pv sv rv l d n nD nN∧ShLog w' sp gp bV bT bH bD bN lp:=by
 have hfree:=hs.free h hx
 have sub:∀ k∈S,k∈[sp,gp,bV,bT,bH]:=λk hk=>by have:=hS k hk;simp at this ⊢;rcases this with e | e | e | e <;> simp [e]
 refine ⟨h.apart hf (λk hk _=>hfree k (sub k hk)),{ led:=(hf.block gp (Array.getElem?_eq_some_iff.1 hx.led).1 (λhm=>?_)).trans hx.led,ne:=hx.ne }⟩
 have:=hS gp hm
 simp at this
 have hled:=hx.led
 rcases this with e | e | e | e
 ·rw [e,hs.blk] at hled;simp at hled
 ·obtain ⟨es,c,e2⟩:=hs.vals.isMap;rw [e,e2] at hled;cases hled
 ·obtain ⟨es,c,e2⟩:=hs.txns.isMap;rw [e,e2] at hled;cases hled
 ·obtain ⟨es,c,e2⟩:=hs.holds.isMap;rw [e,e2] at hled;cases hled
end
theorem jCu {K V:Type} [DecidableEq K] {l:List (K × V)} {k:K} {v:V} (h:(k,v)∈l):(jAi l k).length+1≤l.length:=by
 have:(jAi l k).length<l.length:=by
  unfold jAi
  rw [List.length_filter_lt_length_iff_exists]
  exact ⟨_,h,by simp⟩
 omega
theorem jCq {K V:Type} [DecidableEq K] {l:List (K × V)} {k j:K} {v:V}:jA3 (jAb l k v) j=if j=k then some v else jA3 l j:=by
 by_cases e:j=k
 ·subst e
  rw [if_pos rfl]
  simp [jA3,jAb]
 ·rw [if_neg e]
  have h1:=jBq (rem:=l) (k:=k) (j:=j)
  rw [if_neg e] at h1
  rw [← h1]
  have e2:¬ k=j:=λx=>e x.symm
  simp [jA3,jAb,e2]
theorem jYh (W:World):(Instr.makeMap 262 none).run Tryz.prog W=.ok (.map (some W.heap.size)) (W.alloc (.map #[] 0)):=by
 simp [Instr.makeMap]
theorem jEg (sp lg bV bT bH n t:Nat) (s:AShard) (w:World) (h:ShIn w sp lg bV bT bH n s) (ht:t<18446744073709551616) (hn:n<maxLen) :
  Calls Tryz.prog 152 #[.pointer (some ⟨sp,0,none⟩),.int .u64 (t:Int)] w λe w'=>∃ b L,e=.returned (.map (some b))∧w.heap.size≤b∧MapAs KS EG w' b n L∧(∀ k,jA3 L k=jA3 s.holds (t,k))∧Fr [] w w':=by
 have HI:Hid (ShIn w sp lg bV bT bH n s):=h
 have c3:=jA0 h.blk 3
 simp at c3
 have hsp:sp<w.heap.size:=(Array.getElem?_eq_some_iff.1 h.blk).1
 clear h
 have hmk:=jYh
 go_enter Tryz.func152,Tryz.ntmps152
 go_wp2_with (first
  | (at_range;refine jBd (KR:=KH) (ER:=EG) rfl _ 137 134 rfl Tryz.underlying137 bH n s.holds rfl (HI.out.holds.fr ((Fr.refl [] w).alloc _) sE) ?_;intro w0 hrg0 hg0 hs0)
  | go_in)
 have hsz1:(w.alloc (.map #[] 0)).heap.size=w.heap.size+1:=by simp
 rw [hsz1] at hrg0 hs0 ⊢
 clear hsz1
 go_frame
 have HF0:Hid (Fr [] w w0):=((Fr.refl [] w).alloc _).trans (Fr.of_grown hg0)
 have HM0:Hid (MapAs KS EG w0 w.heap.size 0 []):=(MapAs.made w).fr (Fr.of_grown hg0) sE
 have HR0:Hid (RangesAs KH EG w0 bH (w.heap.size+1) n s.holds s.holds):=hrg0
 have hlen:=HI.out.holds.len
 clear hrg0 hg0
 go_loopw [6] (λ_ wr=>∃ rem L m,Hid (RangesAs KH EG wr bH (w.heap.size+1) n s.holds rem∧MapAs KS EG wr w.heap.size m L∧m+rem.length≤n∧(∀ k,jA3 L k=if (jA3 rem (t,k)).isSome=true then none else jA3 s.holds (t,k))∧Fr [] w wr∧w.heap.size+2≤wr.heap.size)) (λ_ wr=>wr.rangeLeft bH (w.heap.size+1))
 case atStart =>
  refine ⟨s.holds,[],0,HR0.out,HM0.out,by omega,λk=>?_,HF0.out,by omega⟩
  cases jA3 s.holds (t,k) with
  | none=>rfl
  | some v=>rfl
 case round =>
  obtain ⟨rem,L,m,HX⟩:=hrel
  have hrg:=HX.out.1
  go_wp2_with (first
   | (at_next;refine jBp (KR:=KH) (ER:=EG) rfl _ rfl bH (w.heap.size+1) n s.holds rem rfl hrg ?_ ?_)
   | go_in)
  ·intro hnil
   go_wp2
   go_ret
   refine ⟨w.heap.size,L,rfl,Nat.le_refl _,HX.out.2.1.mono (by have:=HX.out.2.2.1;omega),λk=>?_,HX.out.2.2.2.2.1⟩
   rw [HX.out.2.2.2.1 k,hnil]
   rfl
  ·intro tx k2 x w2 hm hrg2 hlt hg2 hs2 hen
   have hms:((tx,k2),x)∈s.holds:=by
    obtain ⟨_,_,_,_,_,_,_,_,h6,_⟩:=hrg
    exact h6 _ hm
   have hok:tx<18446744073709551616∧k2.size≤maxLen:=by
    obtain ⟨_,_,_,_,hok⟩:=hrg.owns
    exact (hok _ hms).1
   have HLT:Hid (w2.rangeLeft bH (w.heap.size+1)<wr.rangeLeft bH (w.heap.size+1)):=hlt
   have HRG2:Hid (RangesAs KH EG w2 bH (w.heap.size+1) n s.holds (jAi rem (tx,k2))):=hrg2
   have HF2:Hid (Fr [] w w2):=HX.out.2.2.2.2.1.andThen (Fr.of_grown1 hg2) (λj hj hl=>by simp at hj;omega)
   have HM2:Hid (MapAs KS EG w2 w.heap.size m L):=HX.out.2.1.fr (Fr.of_grown1 hg2) sE
   have hsz2:w.heap.size+2≤w2.heap.size:=by have:=HX.out.2.2.2.2.2;omega
   have hen':(Instr.entry (.pointer (some ⟨w.heap.size+1,0,none⟩))).run Tryz.prog w2=.ok (.tuple #[.agg #[.int .u64 (tx:Int),.string k2],.agg #[.int .u8 (x.way:Int),.string x.val]]) w2:=hen
   have HMM:Hid (((tx,k2),x)∈rem∧((tx,k2),x)∈s.holds):=⟨hm,hms⟩
   have HONE:Hid (Once1 s.holds):=by obtain ⟨_,_,_,h3,_⟩:=hrg.owns;exact h3
   clear hrg hrg2 hm hms hen hg2 hs2 hlt
   have hmb:m<maxLen:=by
    have h1:=jCu HMM.out.1
    have h2:=HX.out.2.2.1
    omega
   by_cases htt:tx=t
   ·subst htt
    go_wp2_with (first
     | (at_mapUpdate;refine jHg (KR:=KS) (ER:=EG) rfl _ _ _ 262 134 rfl Tryz.underlying262 w.heap.size m L rfl (HM2.out.fr (((Fr.refl [] w2).alloc _).alloc _) sE) hmb k2 hok.2 rfl x trivial rfl ?_;intro w3 hm3 hg3)
     | go_in)
    go_frame
    go_wp2
    have hf3:Fr [w.heap.size] w2 w3:=(((Fr.refl [w.heap.size] w2).alloc _).alloc _).trans (Fr.of_grown1 hg3)
    have hbl:bH<w.heap.size:=HI.out.lts.2.2.2.1
    obtain ⟨r1,r2⟩:=HRG2.out.fr hf3 (by simp;omega) sE
    go_roundw
    case rel =>
     refine ⟨jAi rem (tx,k2),jAb L k2 x,m+1,r1,hm3,?_,λk=>?_,HF2.out.andThen hf3 (λj hj hl=>by simp at hj;omega),Nat.le_trans hsz2 hf3.size⟩
     ·have h1:=jCu HMM.out.1
      have h2:=HX.out.2.2.1
      omega
     ·rw [jCq,jBq]
      by_cases e:k=k2
      ·subst e
       rw [if_pos rfl,if_pos (rfl:(tx,k)=(tx,k))]
       exact (jB6 HONE.out HMM.out.2).symm
      ·have e1:¬ (tx,k)=(tx,k2):=by simp [e]
       rw [if_neg e,if_neg e1]
       exact HX.out.2.2.2.1 k
    case measure=>rw [r2];exact HLT.out
   ·have hb:((tx:Int) == (t:Int))=false:=by simp;omega
    go_wp2
    obtain ⟨r1,r2⟩:=HRG2.out.fr (((Fr.refl [] w2).alloc (.cells #[.int .u64 (tx:Int),.string k2] 141)).alloc (.cells #[.int .u8 (x.way:Int),.string x.val] 134)) sE sE
    refine ⟨⟨jAi rem (tx,k2),L,m,r1,HM2.out.fr (((Fr.refl [] w2).alloc _).alloc _) sE,?_,λk=>?_,HF2.out.trans (((Fr.refl [] w2).alloc _).alloc _),Nat.le_trans hsz2 (by simp;omega)⟩,by rw [r2];exact HLT.out⟩
    ·have h1:=jCu HMM.out.1
     have h2:=HX.out.2.2.1
     omega
    ·have e1:¬ (t,k)=(tx,k2):=λe=>htt (congrArg Prod.fst e).symm
     rw [jBq,if_neg e1]
     exact HX.out.2.2.2.1 k
def anyW (L:List (ByteArray × AGrip)):Bool:=L.any λp=>p.2.writes
theorem jIe (b n:Nat) (L:List (ByteArray × AGrip)) (w:World) (h:MapAs KS EG w b n L) :
  Calls Tryz.prog 313 #[.map (some b)] w λe w'=>e=.returned (.bool (anyW L))∧Fr [] w w':=by
 have HI:Hid (MapAs KS EG w b n L):=h
 clear h
 go_enter Tryz.func313,Tryz.ntmps313
 go_wp2_with (first
  | (at_range;refine jBd (KR:=KS) (ER:=EG) rfl _ 262 134 rfl Tryz.underlying262 b n L rfl HI.out ?_;intro w0 hrg0 hg0 hs0)
  | go_in)
 go_frame
 have HF0:Hid (Fr [] w w0):=Fr.of_grown hg0
 have HR0:Hid (RangesAs KS EG w0 b w.heap.size n L L):=hrg0
 clear hrg0 hg0
 go_loopw [4] (λ_ wr=>∃ rem,Hid (RangesAs KS EG wr b w.heap.size n L rem∧(∀ p∈L,p∉rem→p.2.writes=false)∧Fr [] w wr∧w.heap.size+1≤wr.heap.size)) (λ_ wr=>wr.rangeLeft b w.heap.size)
 case atStart=>exact ⟨L,HR0.out,λp h1 h2=>absurd h1 h2,HF0.out,by omega⟩
 case round =>
  obtain ⟨rem,HX⟩:=hrel
  have hrg:=HX.out.1
  go_wp2_with (first
   | (at_next;refine jBp (KR:=KS) (ER:=EG) rfl _ rfl b w.heap.size n L rem rfl hrg ?_ ?_)
   | go_in)
  ·intro hnil
   go_wp2
   go_ret
   refine ⟨?_,HX.out.2.2.1⟩
   have hno:anyW L=false:=by
    unfold anyW
    rw [List.any_eq_false]
    intro p hp
    rw [HX.out.2.1 p hp (by rw [hnil];simp)]
    simp
   rw [hno];rfl
  ·intro k x w2 hm hrg2 hlt hg2 hs2 hen
   have hms:(k,x)∈L:=by
    obtain ⟨_,_,_,_,_,_,_,_,h6,_⟩:=hrg
    exact h6 _ hm
   have HF2:Hid (Fr [] w w2):=HX.out.2.2.1.andThen (Fr.of_grown1 hg2) (λj hj hl=>by simp at hj;omega)
   have hsz2:w.heap.size+1≤w2.heap.size:=by have:=HX.out.2.2.2;omega
   have hen':(Instr.entry (.pointer (some ⟨w.heap.size,0,none⟩))).run Tryz.prog w2=.ok (.tuple #[.string k,.agg #[.int .u8 (x.way:Int),.string x.val]]) w2:=hen
   have GO:Hid (x.writes=false→∀ W,Fr [] w2 W→(∃ rem,Hid (RangesAs KS EG W b w.heap.size n L rem∧(∀ p∈L,p∉rem→p.2.writes=false)∧Fr [] w W∧w.heap.size+1≤W.heap.size))∧W.rangeLeft b w.heap.size<wr.rangeLeft b w.heap.size):=λhc W hW=>by
    obtain ⟨r1,r2⟩:=hrg2.fr hW sE sE
    refine ⟨⟨jAi rem k,r1,λp hp hn=>?_,HF2.out.trans hW,Nat.le_trans hsz2 hW.size⟩,by rw [r2];exact hlt⟩
    by_cases hpr:p∈rem
    ·have hpo:p.1=k:=Decidable.byContradiction λhne=>hn (List.mem_filter.2 ⟨hpr,by simp [hne]⟩)
     have hone:Once1 L:=by obtain ⟨_,_,_,h3,_⟩:=hrg.owns;exact h3
     have:=hone.same hp hms hpo
     rw [this];exact hc
    ·exact HX.out.2.1 p hp hpr
   have YES:Hid (x.writes=true→anyW L=true):=λhc=>by
    unfold anyW
    rw [List.any_eq_true]
    exact ⟨_,hms,hc⟩
   clear hrg hrg2 hm hms hen hg2 hs2 hlt
   by_cases hx:x.way=0
   ·have hb:((x.way:Int) != 0)=false:=by simp [hx]
    have GO2:Hid _:=GO.out (by simp [AGrip.writes,hx])
    clear GO YES hx
    go_wp2
    exact GO2.out _ (((Fr.refl [] w2).alloc _).alloc _)
   ·have hb:((x.way:Int) != 0)=true:=by simp [hx]
    have YES2:Hid _:=YES.out (by simp [AGrip.writes,hx])
    clear GO YES hx
    go_wp2
    go_ret
    exact ⟨by rw [YES2.out];rfl,HF2.out.trans (((Fr.refl [] w2).alloc _).alloc _)⟩
section
variable {P:Program} {K V:Type} [DecidableEq K] {kt:TypeId} {KR:KeyRep P K kt} {ER:ElRep V} {w:World} {ops:Array Oper} {rest:List Oper} {o:Oper} {a:Act} {Q:Exit→Act→World→Prop}
theorem jH7 (hg:o.guard=none) (m x:Operand) (t e:TypeId) (hop:o.op=Op.call { callee:=Callee.builtin Builtin.delete,args:=#[m,x],argTypes:=#[t,kt] }) (ht:P.underlying t=some (.map kt e)) (b r n:Nat) (l rem:List (K × V)) (hm:a.eval m=.map (some b)) (hM:RangesAs KR ER w b r n l rem)
  (k:K) (hk:KR.ok k) (hx:a.eval x=KR.kv k)
  (hK:∀ w',RangesAs KR ER w' b r n (jAi l k) (jAi rem k)→w'.rangeLeft b r≤w.rangeLeft b r→w.grownBy w' (some b)→wpList P ops Q rest (a.put o.dst (.tuple #[])) w'):wpList P ops Q (o :: rest) a w:=by
 obtain ⟨es,left,cnt,hrg,hp,h1,hok,h5,h6,h7⟩:=hM
 refine wpList_delete_ranges w hg m x t kt hop e KR.law ht ER.R b r n _ left cnt hm hrg _ (KR.kl k) hx (KR.key k hk) ?_
 intro w' cnt' hrg' hle htr
 have hle':w'.rangeLeft b r≤w.rangeLeft b r:=by rw [hrg'.left_eq,hrg.left_eq];exact hle
 rw [DataW.del_eq] at hrg'
 refine hK w' ⟨_,_,cnt',hrg',jGu hp hok hk,h1.del k,λp hp=>hok p (List.mem_filter.1 hp).1,h5.del k,λp hp=>?_,λj hj=>?_⟩ hle' htr.grown
 ·have:=List.mem_filter.1 hp
  exact List.mem_filter.2 ⟨h6 p this.1,this.2⟩
 ·rw [h7 j hj,KR.same hj hk,jBq]
  by_cases e:j=k
  ·simp [e]
  ·simp [e]
end
theorem jJ5 (bs sp lg bV bT bH n tx:Nat) (k:ByteArray) (x:AGrip) (s:AShard) (w:World) (h:ShIn w sp lg bV bT bH n s) (hbs:w.heap[bs]?=some (.cells #[.pointer (some ⟨sp,0,none⟩)] 75)) (htx:tx<18446744073709551616) :
  Calls Tryz.prog 232 #[.agg #[.int .u64 (tx:Int),.string k],.agg #[.int .u8 (x.way:Int),.string x.val],.pointer (some ⟨bs,0,none⟩)] w λe w'=>e=.returned (.bool (decide ((s.txn tx).state=0)))∧Fr [] w w':=by
 have HI:Hid (ShIn w sp lg bV bT bH n s):=h
 have d0:=jA0 hbs 0
 simp at d0
 have hbl:bs<w.heap.size:=(Array.getElem?_eq_some_iff.1 hbs).1
 have z1:¬ bs=w.heap.size:=by omega
 have z2:¬ bs=w.heap.size+1:=by omega
 clear h hbs
 go_enter Tryz.func232,Tryz.ntmps232
 go_wp2_with fail
 refine (jR8 sp lg bV bT bH n tx s _ (HI.out.fr (((Fr.refl [] w).alloc _).alloc _) sE sE sE sE) htx).mono ?_
 rintro e w1 ⟨rfl,q,rfl⟩
 go_wp2
 go_ret
 refine ⟨?_,jAk (((Fr.refl [] w).alloc _).alloc _) q⟩
 congr 2
 by_cases e:(s.txn tx).state=0
 ·simp [e]
 ·simp [e]
def jFp (s:AShard) (p:(Nat × ByteArray) × AGrip):Bool:=!decide ((s.txn p.1.1).state=0)
theorem jM0 (bs sp lg bV bT bH n:Nat) (s:AShard) (w:World) (h:ShIn w sp lg bV bT bH n s) (hbs:w.heap[bs]?=some (.cells #[.pointer (some ⟨sp,0,none⟩)] 75)) :
  Calls Tryz.prog 231 #[.map (some bH),.func (.func 232) #[] #[.pointer (some ⟨bs,0,none⟩)]] w λe w'=>e=.returned (.tuple #[])∧ShIn w' sp lg bV bT bH n { s with holds:=s.holds.filter (jFp s) }∧Fr [bH] w w':=by
 have HI:Hid (ShIn w sp lg bV bT bH n s):=h
 have HB:Hid (w.heap[bs]?=some (.cells #[.pointer (some ⟨sp,0,none⟩)] 75)):=hbs
 have hbl:bs<w.heap.size:=(Array.getElem?_eq_some_iff.1 hbs).1
 have hbH:bH<w.heap.size:=h.lts.2.2.2.1
 have hne:bs≠bH:=by rintro rfl;obtain ⟨es,c,e⟩:=h.holds.isMap;rw [hbs] at e;cases e
 clear h hbs
 go_enter Tryz.func231,Tryz.ntmps231
 go_wp2_with (first
  | (at_range;refine jBd (KR:=KH) (ER:=EG) rfl _ 137 134 rfl Tryz.underlying137 bH n s.holds rfl HI.out.holds ?_;intro w0 hrg0 hg0 hs0)
  | go_in)
 go_frame
 have HF0:Hid (Fr [bH] w w0):=(Fr.of_grown hg0).mono sE
 have HR0:Hid (RangesAs KH EG w0 bH w.heap.size n (s.holds.filter λ_=>true) s.holds):=by
  have e:(s.holds.filter λ_=>true)=s.holds:=List.filter_eq_self.2 sE
  rw [e];exact hrg0
 clear hrg0 hg0
 go_loopw [4] (λ_ wr=>∃ rem g,Hid (RangesAs KH EG wr bH w.heap.size n (s.holds.filter g) rem∧(∀ p∈s.holds,p∉rem→g p=jFp s p)∧(∀ p∈rem,p∈s.holds)∧Fr [bH] w wr∧w.heap.size+1≤wr.heap.size)) (λ_ wr=>wr.rangeLeft bH w.heap.size)
 case atStart=>exact ⟨s.holds,λ_=>true,HR0.out,λp h1 h2=>absurd h1 h2,λp hp=>hp,HF0.out,by omega⟩
 case round =>
  obtain ⟨rem,g,HX⟩:=hrel
  have hrg:=HX.out.1
  go_wp2_with (first
   | (at_next;refine jBp (KR:=KH) (ER:=EG) rfl _ rfl bH w.heap.size n (s.holds.filter g) rem rfl hrg ?_ ?_)
   | go_in)
  ·intro hnil
   go_wp2
   go_end0
   have e:s.holds.filter g=s.holds.filter (jFp s):=List.filter_congr λp hp=>HX.out.2.1 p hp (by rw [hnil];simp)
   refine ⟨rfl,?_,HX.out.2.2.2.1⟩
   rw [← e]
   exact HI.out.setHolds HX.out.2.2.2.1 HX.out.1.owns (Nat.le_refl _)
  ·intro tx k2 x w2 hm hrg2 hlt hg2 hs2 hen
   have hms:((tx,k2),x)∈s.holds:=HX.out.2.2.1 _ hm
   have hok:tx<18446744073709551616∧k2.size≤maxLen:=by
    obtain ⟨_,_,_,_,hok⟩:=HI.out.holds
    exact (hok _ hms).1
   have HLT:Hid (w2.rangeLeft bH w.heap.size<wr.rangeLeft bH w.heap.size):=hlt
   have HRG2:Hid (RangesAs KH EG w2 bH w.heap.size n (s.holds.filter g) (jAi rem (tx,k2))):=hrg2
   have HF2:Hid (Fr [bH] w w2):=HX.out.2.2.2.1.andThen (Fr.of_grown1 hg2) (λj hj hl=>by simp at hj;omega)
   have hsz2:w.heap.size+1≤w2.heap.size:=by have:=HX.out.2.2.2.2;omega
   have hen':(Instr.entry (.pointer (some ⟨w.heap.size,0,none⟩))).run Tryz.prog w2=.ok (.tuple #[.agg #[.int .u64 (tx:Int),.string k2],.agg #[.int .u8 (x.way:Int),.string x.val]]) w2:=hen
   have HIN2:Hid (ShIn w2 sp lg bV bT bH n { s with holds:=s.holds.filter g }):=HI.out.setHolds HF2.out HRG2.out.owns (Nat.le_refl _)
   have HB2:Hid (w2.heap[bs]?=some (.cells #[.pointer (some ⟨sp,0,none⟩)] 75)):=(HF2.out.block bs hbl (by simp;exact hne)).trans HB.out
   have HONE:Hid (Once1 s.holds):=by obtain ⟨_,_,_,h3,_⟩:=HI.out.holds;exact h3
   have HMM:Hid (((tx,k2),x)∈rem∧((tx,k2),x)∈s.holds):=⟨hm,hms⟩
   have HG:Hid (g ((tx,k2),x)=true):=by
    obtain ⟨_,_,_,_,_,_,_,_,h6,_⟩:=hrg
    exact (List.mem_filter.1 (h6 _ hm)).2
   clear hrg hrg2 hm hms hen hg2 hs2 hlt
   go_wp2_with fail
   refine (jJ5 bs sp lg bV bT bH n tx k2 x { s with holds:=s.holds.filter g } _ (HIN2.out.fr (((Fr.refl [] w2).alloc _).alloc _) sE sE sE sE) (((((Fr.refl [] w2).alloc _).alloc _).block bs oE sE).trans HB2.out) hok.1).mono ?_
   rintro e w3 ⟨rfl,hf3'⟩
   have HF3:Hid (Fr [] w2 w3):=(((Fr.refl [] w2).alloc _).alloc _).trans hf3'
   have hbx:w3.heap[w2.heap.size]?=some (.cells #[.int .u64 (tx:Int),.string k2] 141):=by
    rw [hf3'.block w2.heap.size (by simp;omega) sE,((Fr.refl [] (w2.alloc (.cells #[.int .u64 (tx:Int),.string k2] 141))).alloc _).block w2.heap.size sE sE]
    exact heap_alloc_new _ _
   have k0:=jA0 hbx 0
   have k1:=jA0 hbx 1
   simp at k0 k1
   clear hf3' hbx
   have HAL:Hid (jFp s ((tx,k2),x)=!decide ((s.txn tx).state=0)):=rfl
   have HSZ:Hid (w.heap.size+1≤w3.heap.size):=Nat.le_trans hsz2 HF3.out.size
   have hst:({ s with holds:=s.holds.filter g }:AShard).txn tx=s.txn tx:=rfl
   rw [hst]
   clear hst
   obtain ⟨r1,r2⟩:=HRG2.out.fr HF3.out sE sE
   have HR3:Hid (RangesAs KH EG w3 bH w.heap.size n (s.holds.filter g) (jAi rem (tx,k2))∧w3.rangeLeft bH w.heap.size<wr.rangeLeft bH w.heap.size):=⟨r1,by rw [r2];exact HLT.out⟩
   have HWF:Hid (Fr [bH] w w3):=HF2.out.trans (HF3.out.mono sE)
   have HREM:Hid (∀ p∈jAi rem (tx,k2),p∈s.holds):=λp hp=>HX.out.2.2.1 p (List.mem_filter.1 hp).1
   have HOLD:Hid (∀ p∈s.holds,p∉jAi rem (tx,k2)→p=((tx,k2),x)∨p∉rem):=λp hp hn=>by
    by_cases hpr:p∈rem
    ·have hpo:p.1=(tx,k2):=Decidable.byContradiction λhne=>hn (List.mem_filter.2 ⟨hpr,by simp [hne]⟩)
     exact .inl (HONE.out.same hp HMM.out.2 hpo)
    ·exact .inr hpr
   clear r1 r2
   by_cases hz:(s.txn tx).state=0
   ·have hd:decide ((s.txn tx).state=0)=true:=by simp [hz]
    rw [hd] at HAL ⊢
    clear hz hd
    go_wp2_with (first
     | (at_delete;refine jH7 (KR:=KH) (ER:=EG) rfl _ _ 137 134 rfl Tryz.underlying137 bH w.heap.size n (s.holds.filter g) (jAi rem (tx,k2)) rfl HR3.out.1 (tx,k2) hok rfl ?_;intro w4 hr4 hl4 hg4)
     | go_in)
    go_frame
    go_wp2
    have hf4:Fr [bH] w3 w4:=Fr.of_grown1 hg4
    have e4:jAi (s.holds.filter g) (tx,k2)=s.holds.filter λp=>!decide (p.1=(tx,k2)) && g p:=List.filter_filter ..
    rw [e4] at hr4
    go_roundw
    case rel =>
     refine ⟨jAi (jAi rem (tx,k2)) (tx,k2),λp=>!decide (p.1=(tx,k2)) && g p,hr4,λp hp hn=>?_,λp hp=>HREM.out p (List.mem_filter.1 hp).1,HWF.out.trans hf4,Nat.le_trans HSZ.out hf4.size⟩
     have hn2:p∉jAi rem (tx,k2):=λhm=>hn (List.mem_filter.2 ⟨hm,(List.mem_filter.1 hm).2⟩)
     rcases HOLD.out p hp hn2 with rfl | hnr
     ·rw [HAL.out];simp
     ·have hpk:¬ p.1=(tx,k2):=λe=>hnr (by rw [HONE.out.same hp HMM.out.2 e];exact HMM.out.1)
      rw [← HX.out.2.1 p hp hnr]
      simp [hpk]
    case measure=>exact Nat.lt_of_le_of_lt hl4 HR3.out.2
   ·have hd:decide ((s.txn tx).state=0)=false:=by simp [hz]
    rw [hd] at HAL ⊢
    clear hz hd
    go_wp2
    refine ⟨⟨jAi rem (tx,k2),g,HR3.out.1,λp hp hn=>?_,HREM.out,HWF.out,HSZ.out⟩,HR3.out.2⟩
    rcases HOLD.out p hp hn with rfl | hnr
    ·rw [HG.out,HAL.out];rfl
    ·exact HX.out.2.1 p hp hnr
def AShard.release (s:AShard):AShard:={ s with holds:=s.holds.filter (jFp s) }
def AShard.forget (s:AShard) (t:Nat):AShard:=AShard.release { s with txns:=jAi s.txns t }
theorem ShIn.setTxns {w w':World} {sp lg bV bT bH n m:Nat} {s:AShard} {ts:List (Nat × ATxn)} (h:ShIn w sp lg bV bT bH n s) (hf:Fr [bT] w w') (hm:MapAs KU ET w' bT m ts) (hn:n≤m):ShIn w' sp lg bV bT bH m { s with txns:=ts } :=
 { blk:=(hf.block sp h.lts.1 (by simp;exact h.lts.2.2.2.2.2.1)).trans h.blk,vals:=(h.vals.fr hf (by simp;exact h.ne.1)).mono hn,txns:=hm,holds:=(h.holds.fr hf (by simp;exact λe=>h.ne.2.2 e.symm)).mono hn,ne:=h.ne,ticks:=h.ticks }
theorem jLn (sp lg bV bT bH n:Nat) (s:AShard) (w:World) (h:ShIn w sp lg bV bT bH n s) :
  Calls Tryz.prog 186 #[.pointer (some ⟨sp,0,none⟩)] w λe w'=>e=.returned (.tuple #[])∧ShIn w' sp lg bV bT bH n s.release∧Fr [bH] w w':=by
 have HI:Hid (ShIn w sp lg bV bT bH n s):=h
 have c3:=jA0 h.blk 3
 simp at c3
 have hsp:=h.lts.1
 have z1:¬ sp=w.heap.size:=by omega
 have z2:¬ w.heap.size=sp:=by omega
 clear h
 go_enter Tryz.func186,Tryz.ntmps186
 go_wp2_with fail
 refine (jM0 w.heap.size sp lg bV bT bH n s _ (HI.out.fr ((Fr.refl [] w).alloc _) sE sE sE sE) (heap_alloc_new _ _)).mono ?_
 rintro e w1 ⟨rfl,hs1,hf1⟩
 have HS1:Hid (ShIn w1 sp lg bV bT bH n s.release):=hs1
 clear hs1
 go_wp2
 go_end0
 exact ⟨rfl,HS1.out,((Fr.refl [bH] w).alloc _).trans hf1⟩
theorem jCs (sp lg bV bT bH n t:Nat) (s:AShard) (w:World) (h:ShIn w sp lg bV bT bH n s) (ht:t<18446744073709551616) :
  Calls Tryz.prog 172 #[.pointer (some ⟨sp,0,none⟩),.int .u64 (t:Int)] w λe w'=>e=.returned (.tuple #[])∧ShIn w' sp lg bV bT bH n (s.forget t)∧Fr [bT,bH] w w':=by
 have HI:Hid (ShIn w sp lg bV bT bH n s):=h
 have c2:=jA0 h.blk 2
 simp at c2
 clear h
 go_enter Tryz.func172,Tryz.ntmps172
 go_wp2_with (first
  | (at_delete;refine jBx (KR:=KU) (ER:=ET) rfl _ _ 136 199 rfl Tryz.underlying136 bT n s.txns rfl HI.out.txns t ht rfl ?_;intro w1 hm1 hg1)
  | fail)
 have hin1:=HI.out.setTxns (Fr.of_grown1 hg1) hm1 (Nat.le_refl _)
 have hr:=jLn sp lg bV bT bH n _ w1 hin1
 have HF1:Hid (Fr [bT] w w1):=Fr.of_grown1 hg1
 clear hin1 hm1 hg1 c2
 go_wp2_with fail
 refine hr.mono ?_
 rintro e w2 ⟨rfl,hs2,hf2⟩
 have HS2:Hid (ShIn w2 sp lg bV bT bH n (s.forget t)):=hs2
 clear hs2
 go_wp2
 go_end0
 exact ⟨rfl,HS2.out,(HF1.out.mono (by intro k _ hk;simp at hk;simp [hk])).trans (hf2.mono (by intro k _ hk;simp at hk;simp [hk]))⟩
theorem ShIn.setVals {w w':World} {sp lg bV bT bH n m:Nat} {s:AShard} {vs:List (ByteArray × ByteArray)} (h:ShIn w sp lg bV bT bH n s) (hf:Fr [bV] w w') (hm:MapAs KS ES w' bV m vs) (hn:n≤m):ShIn w' sp lg bV bT bH m { s with vals:=vs } :=
 { blk:=(hf.block sp h.lts.1 (by simp;exact h.lts.2.2.2.2.1)).trans h.blk,vals:=hm,txns:=(h.txns.fr hf (by simp;exact λe=>h.ne.1 e.symm)).mono hn,holds:=(h.holds.fr hf (by simp;exact λe=>h.ne.2.1 e.symm)).mono hn,ne:=h.ne,ticks:=h.ticks }
theorem MapAs.putRun {K V:Type} [DecidableEq K] {kt t e:TypeId} {KR:KeyRep Tryz.prog K kt} {ER:ElRep V} {w:World} {b n:Nat} {l:List (K × V)} (h:MapAs KR ER w b n l) (ht:Tryz.prog.underlying t=some (.map kt e)) (hn:n<maxLen) {k:K} (hk:KR.ok k) {v:V} (hv:ER.ok v) :
  ∃ w',(Instr.mapUpdate t (.map (some b)) (KR.kv k) (ER.ev v)).run Tryz.prog w=.ok () w'∧MapAs KR ER w' b (n+1) (jAb l k v)∧w.grownBy w' (some b):=by
 obtain ⟨es,ho,hp,h1,hok⟩:=h
 obtain ⟨w',hr,ho',htr⟩:=ho.store KR.law ht hn (KR.key k hk) (ER.made v hv)
 exact ⟨w',hr,MapAs.ofPut hp h1 hok hk hv ho',htr.grown⟩
def jC9 (g:Option AGrip) (old:Option ByteArray):Option ByteArray :=
 match g with
 | none=>old
 | some g=>if g.way=1 then some g.val else if g.way=2 then none else old
theorem jKr (sp lg bV bT bH n t c:Nat) (s:AShard) (w:World) (h:ShIn w sp lg bV bT bH n s) (ht:t<18446744073709551616) (hn:n+c<maxLen)
  (hc:∀ L:List (ByteArray × AGrip),Once1 L→(∀ k,jA3 L k=jA3 s.holds (t,k))→L.length≤c) (hv:∀ p∈s.holds,p.2.val.size≤maxLen) :
  Calls Tryz.prog 171 #[.pointer (some ⟨sp,0,none⟩),.int .u64 (t:Int)] w λe w'=>e=.returned (.tuple #[])∧∃ vs,ShIn w' sp lg bV bT bH (n+c) (AShard.forget { s with vals:=vs } t)∧(∀ k,jA3 vs k=jC9 (jA3 s.holds (t,k)) (jA3 s.vals k))∧Fr [bV,bT,bH] w w':=by
 have HI:Hid (ShIn w sp lg bV bT bH n s):=h
 have c1:=jA0 h.blk 1
 simp at c1
 have ho:=jEg sp lg bV bT bH n t s w h ht oE
 clear h
 go_enter Tryz.func171,Tryz.ntmps171
 go_wp2_with fail
 refine ho.mono ?_
 clear ho
 rintro e w1 ⟨b,L,rfl,hb,hL,hlk,hf1⟩
 have HL:Hid (MapAs KS EG w1 b n L):=hL
 have HIN1:Hid (ShIn w1 sp lg bV bT bH n s):=HI.out.fr hf1 sE sE sE sE
 have HF1:Hid (Fr [] w w1):=hf1
 have HLK:Hid (∀ k,jA3 L k=jA3 s.holds (t,k)):=hlk
 clear hL hf1 hlk
 go_wp2_with (first
  | (at_range;refine jBd (KR:=KS) (ER:=EG) rfl _ 262 134 rfl Tryz.underlying262 b n L rfl HL.out ?_;intro w0 hrg0 hg0 hs0)
  | fail)
 go_frame
 have HF0:Hid (Fr [bV] w1 w0):=(Fr.of_grown hg0).mono sE
 have HR0:Hid (RangesAs KS EG w0 b w1.heap.size n L L):=hrg0
 have HV0:Hid (MapAs KS ES w0 bV n s.vals):=HIN1.out.vals.fr (Fr.of_grown hg0) sE
 have hLc:L.length≤c:=by obtain ⟨_,_,_,h3,_⟩:=HL.out;exact hc L h3 HLK.out
 have hbV:bV<w.heap.size:=HI.out.lts.2.1
 have hbb:=HL.out.lt
 have hneb:b≠bV:=by omega
 have HC:Hid (∀ L:List (ByteArray × AGrip),Once1 L→(∀ k,jA3 L k=jA3 s.holds (t,k))→L.length≤c):=hc
 have HVV:Hid (∀ p∈s.holds,p.2.val.size≤maxLen):=hv
 clear hrg0 hg0 hc hv
 go_loopw [4] (λ_ wr=>∃ rem vs m,Hid (RangesAs KS EG wr b w1.heap.size n L rem∧MapAs KS ES wr bV m vs∧m+rem.length≤n+L.length∧(∀ k,jA3 vs k=if (jA3 rem k).isSome=true then jA3 s.vals k else jC9 (jA3 s.holds (t,k)) (jA3 s.vals k))∧Fr [bV] w1 wr∧w1.heap.size+1≤wr.heap.size)) (λ_ wr=>wr.rangeLeft b w1.heap.size)
 case atStart =>
  refine ⟨L,s.vals,n,HR0.out,HV0.out,Nat.le_refl _,λk=>?_,HF0.out,by omega⟩
  have:=HLK.out k
  cases e:jA3 L k with
  | none=>rw [e] at this;rw [← this];rfl
  | some v=>rfl
 case round =>
  obtain ⟨rem,vs,m,HX⟩:=hrel
  have hrg:=HX.out.1
  go_wp2_with (first
   | (at_next;refine jBp (KR:=KS) (ER:=EG) rfl _ rfl b w1.heap.size n L rem rfl hrg ?_ ?_)
   | go_in)
  ·intro hnil
   have hin:=HIN1.out.setVals HX.out.2.2.2.2.1 (HX.out.2.1.mono (n':=n+c) (by have:=HX.out.2.2.1;omega)) oE
   have hfo:=jCs sp lg bV bT bH (n+c) t _ wr hin ht
   clear hin hrg
   go_wp2_with fail
   refine hfo.mono ?_
   rintro e w5 ⟨rfl,hs5,hf5⟩
   have HS5:Hid (ShIn w5 sp lg bV bT bH (n+c) (AShard.forget { s with vals:=vs } t)):=hs5
   have HF5:Hid (Fr [bT,bH] wr w5):=hf5
   clear hs5 hf5 hfo
   go_wp2
   go_end0
   refine ⟨rfl,vs,HS5.out,λk=>?_,((HF1.out.mono sE).trans (HX.out.2.2.2.2.1.mono (by intro k _ hk;simp at hk;simp [hk]))).trans (HF5.out.mono (by intro k _ hk;simp at hk;rcases hk with rfl | rfl <;> simp))⟩
   rw [HX.out.2.2.2.1 k,hnil]
   rfl
  ·intro k x w2 hm hrg2 hlt hg2 hs2 hen
   have hms:(k,x)∈L:=by
    obtain ⟨_,_,_,_,_,_,_,_,h6,_⟩:=hrg
    exact h6 _ hm
   have hok:k.size≤maxLen:=by
    obtain ⟨_,_,_,_,hok⟩:=hrg.owns
    exact (hok _ hms).1
   have HONE:Hid (Once1 L):=by obtain ⟨_,_,_,h3,_⟩:=hrg.owns;exact h3
   have HLX:Hid (jA3 s.holds (t,k)=some x):=(HLK.out k).symm.trans (jB6 HONE.out hms)
   have hxv:x.val.size≤maxLen:=HVV.out _ (jAh HLX.out)
   have HF2:Hid (Fr [bV] w1 w2):=HX.out.2.2.2.2.1.andThen (Fr.of_grown1 hg2) (λj hj hl=>by simp at hj;omega)
   have HV2:Hid (MapAs KS ES w2 bV m vs):=HX.out.2.1.fr (Fr.of_grown1 hg2) (by simp;have:=HIN1.out.lts.2.1;omega)
   have hmb:m<maxLen:=by
    have h1:=jCu hm
    have h2:=HX.out.2.2.1
    omega
   have HLN:Hid ((jAi rem k).length+1≤rem.length):=jCu hm
   have c1':=jA0 ((HF2.out.block sp HIN1.out.lts.1 (by simp;exact HIN1.out.lts.2.2.2.2.1)).trans HIN1.out.blk) 1
   simp at c1'
   have hspl:sp<w2.heap.size:=Nat.lt_of_lt_of_le HIN1.out.lts.1 HF2.out.size
   have z1:¬ sp=w2.heap.size:=by omega
   have hsz2:w1.heap.size+1≤w2.heap.size:=by have:=HX.out.2.2.2.2.2;omega
   have hen':(Instr.entry (.pointer (some ⟨w1.heap.size,0,none⟩))).run Tryz.prog w2=.ok (.tuple #[.string k,.agg #[.int .u8 (x.way:Int),.string x.val]]) w2:=hen
   have GO:Hid (∀ W vs' m',Fr [bV] w2 W→MapAs KS ES W bV m' vs'→m'≤m+1→(∀ j,jA3 vs' j=if j=k then jC9 (some x) (jA3 s.vals k) else jA3 vs j) →
     (∃ rem vs m,Hid (RangesAs KS EG W b w1.heap.size n L rem∧MapAs KS ES W bV m vs∧m+rem.length≤n+L.length∧(∀ k,jA3 vs k=if (jA3 rem k).isSome=true then jA3 s.vals k else jC9 (jA3 s.holds (t,k)) (jA3 s.vals k))∧Fr [bV] w1 W∧w1.heap.size+1≤W.heap.size))∧W.rangeLeft b w1.heap.size<wr.rangeLeft b w1.heap.size):=λW vs' m' hW hM hm' hl=>by
    obtain ⟨r1,r2⟩:=hrg2.fr hW (by simp;exact hneb) (by simp;have:=HIN1.out.lts.2.1;omega)
    refine ⟨⟨jAi rem k,vs',m',r1,hM,by have:=HLN.out;have:=HX.out.2.2.1;omega,λj=>?_,HF2.out.trans hW,Nat.le_trans hsz2 hW.size⟩,by rw [r2];exact hlt⟩
    rw [hl j,jBq]
    by_cases e:j=k
    ·subst e
     rw [if_pos rfl,if_pos rfl,HLX.out];rfl
    ·rw [if_neg e,if_neg e];exact HX.out.2.2.2.1 j
   have HOWN:Hid (jA3 vs k=jA3 s.vals k):=by
    have e:=HX.out.2.2.2.1 k
    rw [jB6 (by obtain ⟨_,_,_,_,_,_,_,h5,_⟩:=hrg;exact h5) hm] at e
    exact e
   clear hrg hrg2 hm hms hen hg2 hs2 hlt c1
   by_cases h1:x.way=1
   ·have hb:((x.way:Int) == 1)=true:=by simp [h1]
    have hi:(x.way:Int)=1:=by omega
    have HG:Hid (jC9 (some x) (jA3 s.vals k)=some x.val):=by unfold Hid;simp [jC9,h1]
    clear h1
    obtain ⟨w3,hrun3,hm3,hg3⟩:=MapAs.putRun (HV2.out.fr ((Fr.refl [] w2).alloc (.cells #[.int .u8 (x.way:Int),.string x.val] 134)).drew sE) Tryz.underlying135 hmb (k:=k) hok (v:=x.val) hxv
    have hrun:(Instr.mapUpdate 135 (.map (some bV)) (.string k) (.string x.val)).run Tryz.prog (w2.alloc (.cells #[.int .u8 (x.way:Int),.string x.val] 134)).drew=.ok () w3:=hrun3
    have HM3:Hid (MapAs KS ES w3 bV (m+1) (jAb vs k x.val)):=hm3
    have HF3:Hid (Fr [bV] w2 w3):=((Fr.refl [bV] w2).alloc _).drew.trans (Fr.of_grown1 hg3)
    clear hrun3 hm3 hg3
    rw [hi] at hrun
    go_wp2
    go_region
    all_goals go_wp2
    exact GO.out w3 _ _ HF3.out HM3.out (Nat.le_refl _) (λj=>by rw [jCq,HG.out])
   ·have hb:((x.way:Int) == 1)=false:=by simp;omega
    have hi:¬ (x.way:Int)=1:=by omega
    by_cases h2:x.way=2
    ·have hb2:((x.way:Int) == 2)=true:=by simp [h2]
     have hi2:(x.way:Int)=2:=by omega
     have HG:Hid (jC9 (some x) (jA3 s.vals k)=none):=by unfold Hid;simp [jC9,h2]
     clear h1 h2
     go_wp2_with (first
      | (at_delete;refine jBx (KR:=KS) (ER:=ES) rfl _ _ 135 9 rfl Tryz.underlying135 bV m vs rfl (HV2.out.fr ((Fr.refl [] w2).alloc _) sE) k hok rfl ?_;intro w3 hm3 hg3)
      | go_in)
     go_frame
     go_wp2
     have HF3:Hid (Fr [bV] w2 w3):=((Fr.refl [bV] w2).alloc _).trans (Fr.of_grown1 hg3)
     have fin:=GO.out w3 _ _ HF3.out hm3 oE (λj=>by rw [jBq,HG.out])
     go_roundw
     case rel=>exact fin.1
     case measure=>exact fin.2
    ·have hb2:((x.way:Int) == 2)=false:=by simp;omega
     have HG:Hid (jC9 (some x) (jA3 s.vals k)=jA3 s.vals k):=by unfold Hid;simp [jC9,h1,h2]
     clear h1 h2
     go_wp2
     refine GO.out _ vs m ((Fr.refl [bV] w2).alloc _) (HV2.out.fr ((Fr.refl [] w2).alloc _) sE) oE (λj=>?_)
     by_cases e:j=k
     ·subst e;rw [if_pos rfl,HG.out];exact HOWN.out
     ·rw [if_neg e]
def rdO:Option Obj→List Nat
 | some (.cells c _ _)=>(c.getD 5 .nilIface).ownBlock.toList++(c.getD 6 .nilIface).ownBlock.toList
 | _=>[]
def rd (cp:Nat) (w:World):List Nat:=rdO w.heap[cp]?
structure RFr (cp:Nat) (S:List Nat) (w w':World):Prop where
 fr:Fr (S++rd cp w) w w'
 stay:∀ k,k<w.heap.size→k∈rd cp w'→k∈rd cp w
section
variable {cp:Nat}
theorem RFr.trans {S:List Nat} {a b c:World} (h:RFr cp S a b) (k:RFr cp S b c):RFr cp S a c :=
 ⟨h.fr.andThen k.fr (λj hj hl=>by
  rcases List.mem_append.1 hj with h1 | h1
  ·exact List.mem_append_left _ h1
  ·exact List.mem_append_right _ (h.stay j hl h1)),λj hj hm=>h.stay j hj (k.stay j (Nat.lt_of_lt_of_le hj h.fr.size) hm)⟩
theorem RFr.mono {S T:List Nat} {a b:World} (h:RFr cp S a b) (hs:∀ k∈S,k∈T):RFr cp T a b:=⟨h.fr.mono (λk _ hk=>by
 rcases List.mem_append.1 hk with h1 | h1
 ·exact List.mem_append_left _ (hs k h1)
 ·exact List.mem_append_right _ h1),h.stay⟩
theorem jH4 {w w':World} (h:w'.heap[cp]?=w.heap[cp]?):rd cp w'=rd cp w:=by unfold rd;rw [h]
theorem Fr.r {S T:List Nat} {w w':World} (h:Fr S w w') (hl:cp<w.heap.size) (hn:cp∉S) (hs:∀ k∈S,k∈T):RFr cp T w w' :=
 ⟨h.mono (λk _ hk=>List.mem_append_left _ (hs k hk)),λk _ hm=>by rw [jH4 (h.block cp hl hn)] at hm;exact hm⟩
theorem RFr.block {S:List Nat} {w w':World} (h:RFr cp S w w') {k:Nat} (hk:k<w.heap.size) (hS:k∉S) (hr:k∉rd cp w):w'.heap[k]?=w.heap[k]? :=
 h.fr.block k hk (by rw [List.mem_append];exact λe=>e.elim hS hr)
end
structure ACo where
 txns:List (Nat × ATx)
 next:Nat
 limit:Nat
 ticks:Nat
 res:List (Nat × Nat)
 out:List (Nat × Nat × Nat)
abbrev resC (x:Nat × Nat):List Value:=[.int .u64 (x.1:Int),.int .i64 (x.2:Int)]
abbrev dueC (x:Nat × Nat × Nat):List Value:=[.int .u64 (x.1:Int),.int .i64 (x.2.1:Int),.int .i64 (x.2.2:Int)]
def resV (l:List (Nat × Nat)):List Value:=l.flatMap resC
def dueV (l:List (Nat × Nat × Nat)):List Value:=l.flatMap dueC
theorem jTj (a b:List (Nat × Nat)):resV (a++b)=resV a++resV b:=by simp [resV]
theorem jTg (a b:List (Nat × Nat × Nat)):dueV (a++b)=dueV a++dueV b:=by simp [dueV]
def ACo.tx (c:ACo) (t:Nat):ATx:=(jA3 c.txns t).getD tx0
abbrev coO (lg bT:Nat) (c:ACo) (rv ov:Value):Obj:=.cells #[.pointer (lgP lg),.map (some bT),.int .u64 (c.next:Int),.int .u64 (c.limit:Int),.int .u64 (c.ticks:Int),rv,ov] 122
def Brd (v:Value) (k n:Nat):Prop:=k≤n∧(k=0→v=.slice none 0 0)
theorem Brd.mono {v:Value} {k n m:Nat} (h:Brd v k n) (hm:n≤m):Brd v k m:=⟨Nat.le_trans h.1 hm,h.2⟩
theorem Brd.nil (n:Nat):Brd (.slice none 0 0) 0 n:=⟨Nat.zero_le _,λ_=>rfl⟩
structure CoIn (w:World) (B cp lg bT n:Nat) (c:ACo):Prop where
 ex:∃ rv ov,w.heap[cp]?=some (coO lg bT c rv ov)∧w.ownsRow B 157 2 rv c.res.length (resV c.res)∧w.ownsRow B 207 3 ov c.out.length (dueV c.out)∧Brd rv c.res.length n∧Brd ov c.out.length n
 txns:MapAs KU EX w bT n c.txns
 low:B≤cp∧B≤bT∧B≤w.heap.size
 nums:c.next<18446744073709551616∧c.limit<18446744073709551616∧c.ticks<18446744073709551616
section
variable {w w':World} {B cp lg bT n:Nat} {c:ACo}
theorem CoIn.isCo (h:CoIn w B cp lg bT n c):∃ cs,w.heap[cp]?=some (.cells cs 122 (0,0)):=by obtain ⟨rv,ov,h1,_⟩:=h.ex;exact ⟨_,h1⟩
theorem CoIn.lts (h:CoIn w B cp lg bT n c):cp<w.heap.size∧bT<w.heap.size∧cp≠bT:=by
 obtain ⟨cs,h1⟩:=h.isCo
 refine ⟨(Array.getElem?_eq_some_iff.1 h1).1,h.txns.lt,λe=>?_⟩
 obtain ⟨es,c2,e2⟩:=h.txns.isMap
 rw [e,e2] at h1;cases h1
theorem CoIn.mono (h:CoIn w B cp lg bT n c) {m:Nat} (hm:n≤m):CoIn w B cp lg bT m c:=by
 obtain ⟨rv,ov,h1,h2,h3,h4,h5⟩:=h.ex
 exact ⟨⟨rv,ov,h1,h2,h3,h4.mono hm,h5.mono hm⟩,h.txns.mono hm,h.low,h.nums⟩
theorem CoIn.fr {S:List Nat} (h:CoIn w B cp lg bT n c) (hf:Fr S w w') (hS:∀ k∈S,k≠cp∧k≠bT∧k∉rd cp w):CoIn w' B cp lg bT n c:=by
 obtain ⟨rv,ov,h1,h2,h3,h4,h5⟩:=h.ex
 refine ⟨⟨rv,ov,(hf.block cp h.lts.1 (λe=>(hS _ e).1 rfl)).trans h1,jA7 h2 hf ?_,jA7 h3 hf ?_,h4,h5⟩,h.txns.fr hf (λe=>(hS _ e).2.1 rfl),⟨h.low.1,h.low.2.1,Nat.le_trans h.low.2.2 hf.size⟩,h.nums⟩
 ·intro g hg e
  exact (hS g e).2.2 (by unfold rd rdO;rw [h1];simp [hg])
 ·intro g hg e
  exact (hS g e).2.2 (by unfold rd rdO;rw [h1];simp [hg])
theorem CoIn.rdm (h:CoIn w B cp lg bT n c) {k:Nat} (hk:k∈rd cp w):B≤k∧∃ cc t,w.heap[k]?=some (.cells cc t (0,0))∧(t=157∨t=207):=by
 obtain ⟨rv,ov,h1,h2,h3,h4,h5⟩:=h.ex
 unfold rd rdO at hk
 rw [h1] at hk
 simp at hk
 rcases hk with hk | hk
 ·obtain ⟨cc,hc⟩:=jA4 h2 hk;exact ⟨(h2.lt k hk).1,cc,_,hc,.inl rfl⟩
 ·obtain ⟨cc,hc⟩:=jA4 h3 hk;exact ⟨(h3.lt k hk).1,cc,_,hc,.inr rfl⟩
theorem CoIn.rd_not (h:CoIn w B cp lg bT n c) {k:Nat} {cc:Array Value} {t:TypeId} {fr:Nat × Nat} (hk:w.heap[k]?=some (.cells cc t fr)) (h1:t≠157) (h2:t≠207):k∉rd cp w:=λhm=>by
 obtain ⟨_,c2,t2,e,ht⟩:=h.rdm hm
 rw [hk] at e
 cases e
 rcases ht with ht | ht
 ·exact h1 ht
 ·exact h2 ht
theorem RFr.cells {S:List Nat} (hf:RFr cp S w w') (h:CoIn w B cp lg bT n c) {k:Nat} {cc:Array Value} {t:TypeId} {fr:Nat × Nat} (hk:w.heap[k]?=some (.cells cc t fr)) (hS:k∉S) (h1:t≠157) (h2:t≠207):w'.heap[k]?=some (.cells cc t fr) :=
 (hf.block (Array.getElem?_eq_some_iff.1 hk).1 hS (h.rd_not hk h1 h2)).trans hk
theorem CoIn.new (h:CoIn w B cp lg bT n c) (hf:Fr [] w w'):CoIn w' B cp lg bT n c:=h.fr hf sE
theorem CoIn.lookT (h:CoIn w B cp lg bT n c) {t:Nat} (ht:t<18446744073709551616) :
  (Instr.lookup 118 (.map (some bT)) (.int .u64 (t:Int)) false).run Tryz.prog w=.ok (txV (c.tx t)) w :=
 h.txns.look Tryz.underlying118 (jY0 w) jUu (k:=t) ht
theorem CoIn.okT (h:CoIn w B cp lg bT n c) (t:Nat):(c.tx t).Ok:=by
 unfold ACo.tx
 cases hl:jA3 c.txns t with
 | none=>exact jUu
 | some u=>obtain ⟨_,_,_,_,hk⟩:=h.txns;exact (hk _ (jAh hl)).2
theorem CoIn.setTxns {ts:List (Nat × ATx)} {m:Nat} (h:CoIn w B cp lg bT n c) (hf:Fr [bT] w w') (hm:MapAs KU EX w' bT m ts) (hn:n≤m):CoIn w' B cp lg bT m { c with txns:=ts }:=by
 obtain ⟨rv,ov,h1,h2,h3,h4,h5⟩:=h.ex
 obtain ⟨es,c2,e2⟩:=h.txns.isMap
 have no:∀ {g:Nat} {e:TypeId} {k m:Nat} {v:Value} {xs:List Value},w.ownsRow B e k v m xs→v.ownBlock=some g→g∉[bT]:=λhr hg hm=>by
  simp at hm;subst hm
  obtain ⟨cc,hc⟩:=jA4 hr hg
  rw [hc] at e2;cases e2
 exact ⟨⟨rv,ov,(hf.block cp h.lts.1 (by simpa using h.lts.2.2)).trans h1,jA7 h2 hf (λg hg=>no h2 hg),jA7 h3 hf (λg hg=>no h3 hg),h4.mono hn,h5.mono hn⟩,hm,⟨h.low.1,h.low.2.1,Nat.le_trans h.low.2.2 hf.size⟩,h.nums⟩
end
theorem jCr (B cp lg bT n t:Nat) (c:ACo) (w:World) (h:CoIn w B cp lg bT n c) (ht:t<18446744073709551616) :
  Calls Tryz.prog 64 #[.pointer (some ⟨cp,0,none⟩),.int .u64 (t:Int)] w λe w'=>e=.returned (.int .i64 ((c.tx t).state:Int))∧w'=w:=by
 obtain ⟨rv,ov,h1,_⟩:=h.ex
 have c1:=jA0 h1 1
 simp at c1
 have hl:=h.lookT ht
 have hf0:=jVn (c.tx t) (h.okT t)
 obtain ⟨T,hT⟩:∃ T,T=c.tx t:=⟨_,rfl⟩
 rw [← hT] at hl hf0 ⊢
 clear h hT h1
 go_enter Tryz.func64,Tryz.ntmps64
 go_wp2
 go_ret
 exact ⟨rfl,rfl⟩
end Go.Proofs.YtcalalndmcemiaaGreatDoor
