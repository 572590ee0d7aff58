import Derived.Test.YtejiankgafjppaaGreatDoorC40
import Derived.Test.YtejiankgafjppaaGreatDoorRows
import Derived.ProofKit
import Derived.ChangeSame
import Derived.ChangeVars
import Derived.JoinedOf
import Derived.RowKit
import Derived.RowKitTokens
import Derived.LaidLaws
import Derived.LaidHandle
import Derived.Stop.Joined
import Derived.SizedLaws
import Derived.Lib.SmallJoins
import Derived.OpenShut
import Derived.Deep.Strs
namespace Go.Proofs.YtejiankgafjppaaGreatDoor
open Go.RowKit Go.Maps Go.Shelf
open Sc
structure AStep where
 kd:Int
 txn:Nat
 sq:Int
 nn:Int
 key:ByteArray
 s:ByteArray
 sa:Option Addr
 sx:Nat
 sy:Nat
 f1:Int
 f2:Int
 f3:Int
 f4:Int
def StepCells (w:World) (b o:Nat) (a:AStep):Prop :=
 w.cell? ⟨b,o,none⟩=some (.int .i64 a.kd)∧w.cell? ⟨b,o+1,none⟩=some (.int .u64 (a.txn:Int))∧w.cell? ⟨b,o+2,none⟩=some (.int .i64 a.sq)∧w.cell? ⟨b,o+3,none⟩=some (.int .i64 a.nn)∧w.cell? ⟨b,o+4,none⟩=some (.string a.key)∧w.cell? ⟨b,o+5,none⟩=some (.string a.s)∧w.cell? ⟨b,o+6,none⟩=some (.slice a.sa a.sx a.sy) ∧
 w.cell? ⟨b,o+7,none⟩=some (.int .i64 a.f1)∧w.cell? ⟨b,o+8,none⟩=some (.int .i64 a.f2)∧w.cell? ⟨b,o+9,none⟩=some (.int .i64 a.f3)∧w.cell? ⟨b,o+10,none⟩=some (.int .i64 a.f4)
def StepsAt (w:World) (v:Value) (L:List AStep):Prop :=
 L.length≤281474976710656∧∃ ao cap,v=.slice ao L.length cap∧∀ i a,L[i]?=some a→(∃ b off,ao=some ⟨b,off,none⟩∧b<w.heap.size∧StepCells w b (off+i*11) a)∧a.key.size≤281474976710656∧a.s.size≤281474976710656∧a.sx≤281474976710656
def ShardsAt [Inhabited Bs] (w:World) (a:AStep):Prop:=∃ zs:List Int,a.sx=zs.length∧ZsIn w a.sa zs∧(zs=[]→(a.sa=none∧a.sy=0)∨∃ ad:Addr,a.sa=some ad)
theorem StepCells.below {w w':World} {b o B:Nat} {a:AStep} (h:StepCells w b o a) (hb:Below B w w') (hlt:b<B):StepCells w' b o a:=by
 obtain ⟨h0,h1,h2,h3,h4,h5,h6,h7,h8,h9,h10⟩:=h
 exact ⟨(hb.cell (p:=⟨b,o,none⟩) hlt).trans h0,(hb.cell (p:=⟨b,o+1,none⟩) hlt).trans h1,(hb.cell (p:=⟨b,o+2,none⟩) hlt).trans h2,(hb.cell (p:=⟨b,o+3,none⟩) hlt).trans h3,(hb.cell (p:=⟨b,o+4,none⟩) hlt).trans h4,(hb.cell (p:=⟨b,o+5,none⟩) hlt).trans h5,(hb.cell (p:=⟨b,o+6,none⟩) hlt).trans h6,(hb.cell (p:=⟨b,o+7,none⟩) hlt).trans h7,(hb.cell (p:=⟨b,o+8,none⟩) hlt).trans h8,(hb.cell (p:=⟨b,o+9,none⟩) hlt).trans h9,(hb.cell (p:=⟨b,o+10,none⟩) hlt).trans h10⟩
def AStep.wt (a:AStep):Nat:=a.key.size+a.s.size+a.sx
def sumW:List AStep→Nat
 | []=>0
 | a :: L=>a.wt+sumW L
theorem sumW_app (K L:List AStep):sumW (K++L)=sumW K+sumW L:=by
 induction K with
 | nil=>simp [sumW]
 | cons a K ih=>simp [sumW,ih];omega
theorem sumW_take (L:List AStep) (k:Nat):sumW (L.take k)≤sumW L:=by
 have:=sumW_app (L.take k) (L.drop k)
 rw [List.take_append_drop] at this
 omega
theorem sumW_snoc {L:List AStep} {k:Nat} {a:AStep} (h:L[k]?=some a):sumW (L.take (k+1))=sumW (L.take k)+a.wt:=by
 rw [List.take_add_one,h,sumW_app];simp [sumW]
set_option maxRecDepth 100000 in
set_option maxHeartbeats 4000000 in
theorem small_any (v:Value) (L:List AStep) (w:World) (h:StepsAt w v L) :
  Calls Tryz.prog 31 #[v] w fun e w'=>e=.returned (.bool (decide (L.length+sumW L≤16384)))∧∃ q,w'=w.drewN q:=by
 obtain ⟨hlen,ao,cap,rfl,hc⟩:=h
 obtain ⟨m,hm⟩:∃ m,m=L.length:=⟨_,rfl⟩
 rw [← hm] at hlen ⊢
 have HM:Hid (m=L.length):=hm
 have HC:Hid (∀ i a,L[i]?=some a→(∃ b off,ao=some ⟨b,off,none⟩∧b<w.heap.size∧StepCells w b (off+i*11) a)∧a.key.size≤281474976710656∧a.s.size≤281474976710656∧a.sx≤281474976710656):=hc
 clear hm hc
 go_enter Tryz.func31,Tryz.ntmps31
 go_wp2
 go_loopw [3,4] (fun n i wr=>∃ k:Nat,k≤m∧i=.int .i64 (k:Int)∧n=.int .i64 ((m+sumW (L.take k):Nat):Int)∧(k=0∨m+sumW (L.take (k - 1))≤16384)∧∃ q,wr=w.drewN q) (fun _ i _=>m - (intOf i).toNat)
 case atStart=>exact ⟨0,Nat.zero_le _,rfl,by simp [sumW],.inl rfl,0,rfl⟩
 case round =>
  obtain ⟨k,hk,rfl,rfl,hpr,q,rfl⟩:=hrel
  have hsz:∀ j,m+sumW (L.take j)≤m+sumW L:=fun j=>by have:=sumW_take L j;omega
  by_cases hkm:k<m
  ·obtain ⟨a,ha⟩:∃ a,L[k]?=some a:=⟨_,List.getElem?_eq_getElem (by have:=HM.out;omega)⟩
   obtain ⟨⟨b,off,rfl,hb,h0,h1,h2,h3,h4,h5,h6,h7,h8,h9,h10⟩,w1,w2,w3⟩:=HC.out k a ha
   have hsn:=sumW_snoc ha
   have HT:Hid (sumW (L.take (k+1))=sumW (L.take k)+a.wt∧m+sumW (L.take k)≤m+sumW L∧m+sumW (L.take (k+1))≤m+sumW L):=⟨hsn,hsz k,hsz (k+1)⟩
   by_cases hle:m+sumW (L.take k)≤16384
   ·have HW:Hid (a.wt=a.key.size+a.s.size+a.sx):=rfl
    generalize hz:sumW (L.take k)=z at hle HT ⊢
    have HZ:Hid (sumW (L.take k)=z):=hz
    clear hz hsn hsz hpr h0 h1 h2 h3 h7 h8 h9 h10
    have i0:(0:Int)≤(k:Int):=by omega
    have i1:(k:Int)<(m:Int):=by omega
    go_wp2
    go_quiet (fail)
    go_wp2
    go_roundw
    case rel=>exact ⟨k+1,by omega,by go_num,by rw [HT.out.1,HW.out];congr 1;omega,.inr (by simpa [HZ.out] using hle),_,rfl⟩
    case measure=>simp [intOf];omega
   ·have hbig:¬ m+sumW L≤16384:=by have:=HT.out;omega
    have hdd:decide (m+sumW L≤16384)=false:=decide_eq_false hbig
    generalize hz:sumW (L.take k)=z at hle HT ⊢
    clear hz hsn hsz hpr h0 h1 h2 h3 h4 h5 h6 h7 h8 h9 h10
    go_wp2
    go_ret
    have hd2:decide ((m:Int)+(z:Int)≤16384)=false:=decide_eq_false (by omega)
    refine ⟨?_,q,rfl⟩
    rw [hdd]
    show Ending.returned (Value.bool (decide ((m:Int)+(z:Int)≤16384)))=_
    rw [hd2]
  ·obtain rfl:k=m:=by omega
   have hall:L.take k=L:=by rw [HM.out,List.take_length]
   rw [hall]
   clear hsz hpr
   generalize hz:sumW L=z
   have HZ:Hid (sumW L=z):=hz
   clear hz hall
   go_wp2
   go_ret
   refine ⟨?_,q,rfl⟩
   show Ending.returned (Value.bool (decide ((k:Int)+(z:Int)≤16384)))=_
   rw [HZ.out]
   congr 2
   exact decide_eq_decide.2 (by omega)
end Go.Proofs.YtejiankgafjppaaGreatDoor
namespace Go.Proofs.YtejiankgafjppaaGreatDoor
open Go.ChangeShapes Go.WideShapes Go.RowKit Go.Joins
open Go.ChangeMaps (setBlock shut_map_nil open_string shut_string keptBut_setBlock frozen?_setBlock heap_setBlock_same)
open Sc
theorem Tryz.cellsStep:Tryz.prog.cellsOf 64=11:=by kernel_rfl
theorem Tryz.cellsFall:Tryz.prog.cellsOf 30=4:=by kernel_rfl
theorem Tryz.cellsI:Tryz.prog.cellsOf 3=1:=by kernel_rfl
theorem Tryz.cellsU64':Tryz.prog.cellsOf 34=1:=by kernel_rfl
theorem Tryz.cellsStr':Tryz.prog.cellsOf 9=1:=by kernel_rfl
theorem Tryz.cellsInts:Tryz.prog.cellsOf 26=1:=by kernel_rfl
theorem Tryz.bytesStep:Tryz.prog.bytesOf 64=120:=by kernel_rfl
theorem Tryz.bytesI:Tryz.prog.bytesOf 3=8:=by kernel_rfl
theorem eleven_of {cs:List Value} (h:cs.length=11):∃ a b c d e f g i j k l,cs=[a,b,c,d,e,f,g,i,j,k,l]:=by
 match cs,h with
 | [a,b,c,d,e,f,g,i,j,k,l],_=>exact ⟨a,b,c,d,e,f,g,i,j,k,l,rfl⟩
section
variable {H:Type} {enc:TypeId × Value→H} {P:Program} {w:World} {base:Nat} {spare:Nat→Bool} {held:Bool}
theorem trod_struct8 {t:TypeId} {f0 f1 f2 f3 f4 f5 f6 f7:Field} {fuel:Nat} {cs:List Value} {x:DataW H × List MemPlace} (ht:P.underlying t=some (.struct #[f0,f1,f2,f3,f4,f5,f6,f7])) (h:DataW.trod enc P w base spare held fuel t cs=some x) :
  ∃ y0 y1 y2 y3 y4 y5 y6 y7 n,x.1=.agg [y0.1,y1.1,y2.1,y3.1,y4.1,y5.1,y6.1,y7.1]∧DataW.trod enc P w base spare held n f0.type ((cs.drop f0.offset).take (P.cellsOf f0.type))=some y0 ∧
   DataW.trod enc P w base spare held n f1.type ((cs.drop f1.offset).take (P.cellsOf f1.type))=some y1∧DataW.trod enc P w base spare held n f2.type ((cs.drop f2.offset).take (P.cellsOf f2.type))=some y2 ∧
   DataW.trod enc P w base spare held n f3.type ((cs.drop f3.offset).take (P.cellsOf f3.type))=some y3∧DataW.trod enc P w base spare held n f4.type ((cs.drop f4.offset).take (P.cellsOf f4.type))=some y4 ∧
   DataW.trod enc P w base spare held n f5.type ((cs.drop f5.offset).take (P.cellsOf f5.type))=some y5∧DataW.trod enc P w base spare held n f6.type ((cs.drop f6.offset).take (P.cellsOf f6.type))=some y6 ∧
   DataW.trod enc P w base spare held n f7.type ((cs.drop f7.offset).take (P.cellsOf f7.type))=some y7:=by
 obtain ⟨xs,n,_,rfl,hl,hlen,hf⟩:=DataW.trod_struct ht h
 match xs,hlen with
 | [y0,y1,y2,y3,y4,y5,y6,y7],_=>exact ⟨y0,y1,y2,y3,y4,y5,y6,y7,n,by simp,by simpa using hf 0 f0 rfl,by simpa using hf 1 f1 rfl,by simpa using hf 2 f2 rfl,by simpa using hf 3 f3 rfl,by simpa using hf 4 f4 rfl,by simpa using hf 5 f5 rfl,by simpa using hf 6 f6 rfl,by simpa using hf 7 f7 rfl⟩
theorem weightsAll_mem {e:TypeId} {d:DataW H} {k:Nat}:∀ {l:List (DataW H)},d∈l→k∈d.weights P e→k∈DataW.weightsAll P e l
 | x :: l,h,hk=>by
  rcases List.mem_cons.1 h with rfl | h
  ·simp [DataW.weightsAll,hk]
  ·simp [DataW.weightsAll,weightsAll_mem h hk]
end
theorem ints_of {a6:Addr} {len6:Nat} {W:World} (hx:∀ i,i<len6→∃ z:Int,InI z∧W.cell? (a6.add i)=some (.int .i64 z)):∃ zs:List Int,len6=zs.length∧@ZsIn ⟨⟨W.heap.size⟩⟩ W (some a6) zs:=by
 have hx':∀ i,∃ z:Int,i<len6→InI z∧W.cell? (a6.add i)=some (.int .i64 z):=fun i=>by
  by_cases hi:i<len6
  ·obtain ⟨z,h⟩:=hx i hi;exact ⟨z,fun _=>h⟩
  ·exact ⟨0,fun h=>absurd h hi⟩
 obtain ⟨f,hf⟩:=Classical.skolem.1 hx'
 refine ⟨(List.range len6).map f,by simp,fun k z hz=>?_⟩
 have hk:k<len6:=by have:=(List.getElem?_eq_some_iff.1 hz).1;simpa using this
 rw [List.getElem?_map,List.getElem?_range hk] at hz
 cases hz
 obtain ⟨h1,h2⟩:=hf k hk
 obtain ⟨b,off,spot⟩:=a6
 have hspot:spot=none:=by simpa [Addr.add] using World.cell?_spot (hf 0 (by omega)).2
 subst hspot
 have ea:(⟨b,off,none⟩:Addr).add k=⟨b,off+k,none⟩:=by
  unfold Addr.add;split
  ·rename_i h0;subst h0;rfl
  ·rfl
 rw [ea] at h2
 exact ⟨h1,b,off,rfl,World.block_lt_of_cell? W _ h2,h2⟩
set_option maxRecDepth 100000 in
theorem steps_ofC {H:Type} {enc:TypeId × Value→H} {W:World} {v:Value} {d:DataW H} {p:List MemPlace} (h:DataW.Trod enc Tryz.prog W 0 (fun _=>true) true 22 v d p) (hv:∃ a len cap,v=.slice a len cap) (hz:(DataW.weightsEach Tryz.prog [22] [d]).all (·≤reachBytes)=true):∃ L,StepsAt W v L∧∀ (i:Nat) (a:AStep),L[i]?=some a→(a.txn<18446744073709551616∧-9223372036854775808≤a.nn∧a.nn≤9223372036854775807)∧@ShardsAt ⟨⟨W.heap.size⟩⟩ W a:=by
 obtain ⟨a0,len0,cap0,rfl⟩:=hv
 obtain ⟨fuel,hf⟩:=h
 rcases Deep.open_slice Tryz.underlying22 hf with ⟨hcs,_⟩ | ⟨a',len',cap',m,n,D,Pl,hcs,_,hl,_,hm,hd,hx⟩
 ·simp [Value.cells] at hcs
  obtain ⟨rfl,rfl,rfl⟩:=hcs
  exact ⟨[],⟨by simp,none,0,rfl,by simp⟩,by simp⟩
 ·simp [Value.cells] at hcs
  obtain ⟨rfl,rfl,rfl⟩:=hcs
  simp only [if_true] at hm
  have hd1:d=.slice ((List.range len0).map D) ((List.range (m - len0)).map fun j=>D (len0+j)):=congrArg Prod.fst hd
  have hall:=List.all_eq_true.1 hz
  have hrb:reachBytes≤140737488355328:=by have:=reachBytes_lt;omega
  have hwt:∀ i,i<len0→∀ k∈(D i).weights Tryz.prog 64,k≤140737488355328:=fun i hi k hk=>by
   have:=hall k (by
    rw [hd1]
    simp only [DataW.weightsEach,DataW.weights,Tryz.underlying22,List.append_nil]
    exact List.mem_cons_of_mem _ (List.mem_append_left _ (weightsAll_mem (List.mem_map.2 ⟨i,List.mem_range.2 hi,rfl⟩) hk)))
   simp at this;omega
  have hlen:len0≤281474976710656:=by
   have:=sized_slice (j:=0) hz rfl (by rw [hd1];rfl) Tryz.underlying22
   rw [Tryz.bytesStep] at this
   simp at this;omega
  have key:∀ i,∃ s:AStep,i<len0→(∃ b off,(some a':Option Addr)=some ⟨b,off,none⟩∧b<W.heap.size∧StepCells W b (off+i*11) s)∧s.key.size≤281474976710656∧s.s.size≤281474976710656∧s.sx≤281474976710656∧((s.txn<18446744073709551616∧-9223372036854775808≤s.nn∧s.nn≤9223372036854775807)∧@ShardsAt ⟨⟨W.heap.size⟩⟩ W s):=fun i=>by
   by_cases hi:i<len0
   ·obtain ⟨cs',h1,h2⟩:=hx i (by omega)
    rw [Tryz.cellsStep] at h1
    obtain ⟨_,hcl,hcell⟩:=World.cells?_some h1
    obtain ⟨y0,y1,y2,y3,y4,y5,y6,y7,n',hy,g0,g1,g2,g3,g4,g5,g6,g7⟩:=trod_struct8 Tryz.underlying64 h2
    obtain ⟨v0,v1,v2,v3,v4,v5,v6,v7,v8,v9,v10,rfl⟩:=eleven_of hcl
    have g0':DataW.trod enc Tryz.prog W 0 (fun _=>true) true n' 3 [v0]=some y0:=by simpa [Tryz.cellsI] using g0
    have g1':DataW.trod enc Tryz.prog W 0 (fun _=>true) true n' 34 [v1]=some y1:=by simpa [Tryz.cellsU64'] using g1
    have g2':DataW.trod enc Tryz.prog W 0 (fun _=>true) true n' 3 [v2]=some y2:=by simpa [Tryz.cellsI] using g2
    have g3':DataW.trod enc Tryz.prog W 0 (fun _=>true) true n' 3 [v3]=some y3:=by simpa [Tryz.cellsI] using g3
    have g4':DataW.trod enc Tryz.prog W 0 (fun _=>true) true n' 9 [v4]=some y4:=by simpa [Tryz.cellsStr'] using g4
    have g5':DataW.trod enc Tryz.prog W 0 (fun _=>true) true n' 9 [v5]=some y5:=by simpa [Tryz.cellsStr'] using g5
    have g6':DataW.trod enc Tryz.prog W 0 (fun _=>true) true n' 26 [v6]=some y6:=by simpa [Tryz.cellsInts] using g6
    have g7':DataW.trod enc Tryz.prog W 0 (fun _=>true) true n' 30 [v7,v8,v9,v10]=some y7:=by simpa [Tryz.cellsFall] using g7
    obtain ⟨q0,q1,q2,q3,n'',_,_,r0,r1,r2,r3⟩:=trod_struct4 Tryz.underlying30 g7'
    have r0':DataW.trod enc Tryz.prog W 0 (fun _=>true) true n'' 3 [v7]=some q0:=by simpa [Tryz.cellsI] using r0
    have r1':DataW.trod enc Tryz.prog W 0 (fun _=>true) true n'' 3 [v8]=some q1:=by simpa [Tryz.cellsI] using r1
    have r2':DataW.trod enc Tryz.prog W 0 (fun _=>true) true n'' 3 [v9]=some q2:=by simpa [Tryz.cellsI] using r2
    have r3':DataW.trod enc Tryz.prog W 0 (fun _=>true) true n'' 3 [v10]=some q3:=by simpa [Tryz.cellsI] using r3
    obtain ⟨x0,e0,_,_⟩:=DataW.trod_int Tryz.underlying3 g0'
    obtain ⟨x1,e1,_,wx1⟩:=DataW.trod_int Tryz.underlying34 g1'
    obtain ⟨x2,e2,_,_⟩:=DataW.trod_int Tryz.underlying3 g2'
    obtain ⟨x3,e3,_,wx3⟩:=DataW.trod_int Tryz.underlying3 g3'
    obtain ⟨x4,e4,ey4,_⟩:=DataW.trod_string Tryz.underlying9 g4'
    obtain ⟨x5,e5,ey5,_⟩:=DataW.trod_string Tryz.underlying9 g5'
    obtain ⟨x7,e7,_,_⟩:=DataW.trod_int Tryz.underlying3 r0'
    obtain ⟨x8,e8,_,_⟩:=DataW.trod_int Tryz.underlying3 r1'
    obtain ⟨x9,e9,_,_⟩:=DataW.trod_int Tryz.underlying3 r2'
    obtain ⟨x10,e10,_,_⟩:=DataW.trod_int Tryz.underlying3 r3'
    simp at e0 e1 e2 e3 e4 e5 e7 e8 e9 e10
    subst e0 e1 e2 e3 e4 e5 e7 e8 e9 e10
    have bx:=bounds_u64 wx1
    have b3:=bounds_i64 wx3
    obtain ⟨X1,rfl⟩:=Int.eq_ofNat_of_zero_le bx.1
    have hyw:∀ k∈DataW.weightsEach Tryz.prog [3,34,3,3,9,9,26,30] [y0.1,y1.1,y2.1,y3.1,y4.1,y5.1,y6.1,y7.1],k≤140737488355328:=fun k hk=>hwt i hi k (by
     have hy':D i=.agg [y0.1,y1.1,y2.1,y3.1,y4.1,y5.1,y6.1,y7.1]:=hy
     rw [hy']
     simpa [DataW.weights,Tryz.underlying64] using hk)
    have s4:x4.size≤281474976710656:=by
     have:=hyw x4.data.toList.length (DataW.weights_mem_each (j:=4) rfl rfl _ (by rw [ey4];simp [DataW.weights]))
     simp at this;omega
    have s5:x5.size≤281474976710656:=by
     have:=hyw x5.data.toList.length (DataW.weights_mem_each (j:=5) rfl rfl _ (by rw [ey5];simp [DataW.weights]))
     simp at this;omega
    obtain ⟨sa,sx,sy,ev6,s6,s7⟩:∃ sa sx sy,v6=.slice sa sx sy∧sx≤281474976710656∧∃ zs:List Int,sx=zs.length∧@ZsIn ⟨⟨W.heap.size⟩⟩ W sa zs∧(zs=[]→(sa=none∧sy=0)∨∃ ad:Addr,sa=some ad):=by
     rcases Deep.open_slice Tryz.underlying26 g6' with ⟨h6,_⟩ | ⟨a6,len6,cap6,m6,n6,D6,P6,h6,_,hl6,_,hm6,h6d,hx6⟩
     ·simp at h6;exact ⟨none,0,0,h6,by omega,[],rfl,(fun k z hz=>by simp at hz),fun _=>.inl ⟨rfl,rfl⟩⟩
     ·simp at h6
      refine ⟨_,_,_,h6,?_,?_⟩
      ·have:=hyw (((List.range len6).map D6).length+((List.range (m6 - len6)).map fun j=>D6 (len6+j)).length |>.mul 8) (DataW.weights_mem_each (j:=6) rfl rfl _ (by
        rw [h6d]
        simp [DataW.weights,Tryz.underlying26,Tryz.bytesI]))
       simp at this;omega
      ·simp only [if_true] at hm6
       obtain ⟨zs,e1,e2⟩:=ints_of (W:=W) (a6:=a6) (len6:=len6) fun i hi=>by
        obtain ⟨cs6,w1,w2⟩:=hx6 i (by omega)
        rw [Tryz.cellsI] at w1
        obtain ⟨_,wl,wc⟩:=World.cells?_some w1
        match cs6,wl with
        | [u],_ =>
         obtain ⟨z,ez,_,wz⟩:=DataW.trod_int Tryz.underlying3 w2
         simp at ez
         subst ez
         have c0:=wc 0 (by omega)
         rw [Deep.add_add] at c0
         have bz:=bounds_i64 wz
         exact ⟨z,⟨by omega,by omega⟩,by simpa using c0⟩
       exact ⟨zs,e1,e2,fun _=>.inr ⟨_,rfl⟩⟩
    subst ev6
    obtain ⟨b,off,spot⟩:=a'
    have c0:=hcell 0 (by omega)
    have c1:=hcell 1 (by omega)
    have c2:=hcell 2 (by omega)
    have c3:=hcell 3 (by omega)
    have c4:=hcell 4 (by omega)
    have c5:=hcell 5 (by omega)
    have c6:=hcell 6 (by omega)
    have c7:=hcell 7 (by omega)
    have c8:=hcell 8 (by omega)
    have c9:=hcell 9 (by omega)
    have c10:=hcell 10 (by omega)
    rw [Deep.add_add] at c0 c1 c2 c3 c4 c5 c6 c7 c8 c9 c10
    have hspot:spot=none:=by
     obtain ⟨cs0,z1,_⟩:=hx 0 (by omega)
     rw [Tryz.cellsStep] at z1
     obtain ⟨_,zl,zc⟩:=World.cells?_some z1
     obtain ⟨u0,u1,u2,u3,u4,u5,u6,u7,u8,u9,u10,rfl⟩:=eleven_of zl
     have z0:=zc 0 (by omega)
     rw [Deep.add_add] at z0
     simpa [Addr.add] using World.cell?_spot z0
    subst hspot
    have ea:∀ j,((⟨b,off,none⟩:Addr).add j)=⟨b,off+j,none⟩:=fun j=>by
     unfold Addr.add;split
     ·rename_i h0;subst h0;rfl
     ·rfl
    rw [ea] at c0 c1 c2 c3 c4 c5 c6 c7 c8 c9 c10
    simp only [Nat.add_zero] at c0
    simp only [← Nat.add_assoc] at c1 c2 c3 c4 c5 c6 c7 c8 c9 c10
    exact ⟨⟨x0,X1,x2,x3,x4,x5,sa,sx,sy,x7,x8,x9,x10⟩,fun _=>⟨⟨b,off,rfl,World.block_lt_of_cell? W _ c0,c0,c1,c2,c3,c4,c5,c6,c7,c8,c9,c10⟩,s4,s5,s6,⟨by show X1<_;omega,by show _≤x3;omega,by show x3≤_;omega⟩,s7⟩⟩
   ·exact ⟨⟨0,0,0,0,ByteArray.empty,ByteArray.empty,none,0,0,0,0,0,0⟩,fun h=>absurd h hi⟩
  obtain ⟨f,hf'⟩:=Classical.skolem.1 key
  have hat:∀ (i:Nat) (s:AStep),((List.range len0).map f)[i]?=some s→i<len0∧s=f i:=fun i s hs=>by
   rw [List.getElem?_map] at hs
   have hi:i<len0:=by
    obtain ⟨j,hj,_⟩:=Option.map_eq_some_iff.1 hs
    have:=(List.getElem?_eq_some_iff.1 hj).1
    simpa using this
   rw [List.getElem?_range hi] at hs
   simp at hs
   exact ⟨hi,hs.symm⟩
  refine ⟨(List.range len0).map f,⟨by simpa using hlen,some a',cap0,by simp,fun i s hs=>?_⟩,fun i s hs=>?_⟩
  ·obtain ⟨hi,rfl⟩:=hat i s hs
   obtain ⟨k1,k2,k3,k4,_⟩:=hf' i hi
   exact ⟨k1,k2,k3,k4⟩
  ·obtain ⟨hi,rfl⟩:=hat i s hs
   exact (hf' i hi).2.2.2.2
end Go.Proofs.YtejiankgafjppaaGreatDoor
namespace Go.Proofs.YtejiankgafjppaaGreatDoor
open Go.RowKit Go.Maps Go.Shelf
open Sc
section
variable [Inhabited Bs] (hp p cp gp bT lp bD bN m n jp mp k fst:Nat) (c:ACo) (l:ALog) (d:ADisk) (cv:Value) (cs:List Value) (S:List Nat) (R:RCo) (g:List (List Rec)) (w:World)
set_option maxRecDepth 100000 in
set_option maxHeartbeats 8000000 in
theorem jstep_none (kd sq nn:Int) (txn x y:Nat) (key sv:ByteArray) (ao:Option Addr) (h:JIn w hp p cp gp bT lp bD bN m n c l d jp mp cv cs S R) (hmu:Mu l d fst g) (hdn:d.down=false) (hg:Jd k c R) (hbd:JBd m n k txn cs) (hmet:Met w) (hpow:Pows w) (h2:kd≠2) (h3:kd≠3) (h13:kd≠13) (h14:kd≠14) (h15:kd≠15) (h16:kd≠16) (h17:kd≠17) (h18:kd≠18) :
  Calls Tryz.prog 44 #[.pointer (some ⟨jp,0,none⟩),jstepV kd txn sq nn key sv ao x y (-1) (-1) 0 0] w fun e w'=>e=.returned (.bool true)∧JSt w w' hp p cp gp bT lp bD bN m n jp k fst cs:=by
 obtain ⟨hm,hn,hk,hcs,hB,ht⟩:=hbd
 obtain ⟨W,hW⟩:∃ W,W=w.alloc (jstepO kd txn sq nn key sv ao x y (-1) (-1) 0 0):=⟨_,rfl⟩
 have hf0:Fr [] w W:=by rw [hW];exact (Fr.refl [] w).alloc _
 have hs0:W.heap[w.heap.size]?=some (jstepO kd txn sq nn key sv ao x y (-1) (-1) 0 0):=by rw [hW];exact heap_alloc_new w _
 have J0:=h.new hf0
 have L0:=JFr.new hf0 h.size
 have hlen:=hg.rel.len
 have HD:=toHid (show ∀ x∈R.deals,x.parts.length≤1000 from fun x hx=>by have:=hg.rel.parts x hx;omega)
 have hres:=hg.res
 have hout:=hg.out
 have hnx:=hg.nxt
 have hcp:=kcopy_any mp S R W J0.ref (by omega) HD.out (by omega) (by omega)
 have k1:=blk_cell J0.kb 1
 simp at k1
 rw [hW] at k1
 have HG:=toHid hg
 have HMP:=toHid (And.intro hmet (And.intro hpow (And.intro hmu hdn)))
 have HJ0:=toHid (And.intro J0 (And.intro L0 hs0))
 clear h hg hs0 J0 L0 hf0 hmet hpow hmu hdn
 go_enter Tryz.func44,Tryz.ntmps44
 go_wp2_with fail
 rw [← hW]
 obtain ⟨bx,hbx⟩:∃ bx,bx=w.heap.size:=⟨_,rfl⟩
 rw [← hbx] at HJ0 ⊢
 clear hW hbx k1
 refine hcp.mono ?_
 rintro e W1 ⟨np,S2,rfl,hr1,hnew,hf1⟩
 clear hcp
 have J1:=HJ0.out.1.new hf1
 have hs1:W1.heap[bx]?=some (jstepO kd txn sq nn key sv ao x y (-1) (-1) 0 0):=(hf1.block bx (Array.getElem?_eq_some_iff.1 HJ0.out.2.2).1 (by simp)).trans HJ0.out.2.2
 have L1:=HJ0.out.2.1.trans (JFr.new hf1 HJ0.out.1.size)
 have k1:=blk_cell J1.kb 1
 have z1:=blk_cell hs1 1
 simp at k1 z1
 have hst:∀ q:Nat,Calls Tryz.prog 89 #[.pointer (some ⟨mp,0,none⟩),.int .u64 (txn:Int)] (W1.drewN q) fun e w'=>e=.returned (.int .i64 ((((dealAt R.deals txn).map RDeal.st).getD 0:Nat):Int))∧∃ q',w'=(W1.drewN q).drewN q':=fun q=>by
  obtain ⟨xv,rv,ov,ps,hi,_⟩:=(J1.new ((Fr.refl [] W1).drewM q)).ref
  exact kstatus_any mp txn xv rv ov ps R _ hi (by rw [hi.len];omega)
 obtain ⟨st,hst0⟩:∃ st:Nat,st=((dealAt R.deals txn).map RDeal.st).getD 0:=⟨_,rfl⟩
 rw [← hst0] at hst
 have HST:=toHid hst0
 have HJ1:=toHid (And.intro J1 (And.intro L1 (And.intro hs1 (And.intro hr1 (HJ0.out.1.fresh hf1 hnew)))))
 clear J1 L1 hs1 hr1 hst0 hnew hf1 HJ0
 go_wp2
 go_quiet (first | (go_at_call 89;refine Calls.quiet_of (hst _)))
 clear hst k1 z1
 have hfq:Fr [] W1 (W1.drewN nq):=(Fr.refl [] W1).drewM nq
 have HJ:=toHid (HJ1.out.1.new hfq)
 have HLF:=toHid (HJ1.out.2.1.trans (JFr.new hfq HJ1.out.1.size))
 have HSB:=toHid (show (W1.drewN nq).heap[bx]?=some (jstepO kd txn sq nn key sv ao x y (-1) (-1) 0 0) from (hfq.block bx (Array.getElem?_eq_some_iff.1 HJ1.out.2.2.1).1 (by simp)).trans HJ1.out.2.2.1)
 have HRN:=toHid (show RkN (W1.drewN nq) np S2 R∧(∀ q∈S2,q∉rd cp (W1.drewN nq)∧q∉S) from ⟨HJ1.out.2.2.2.1.frT hfq (by simp),fun q hq=>⟨fun hm2=>(HJ1.out.2.2.2.2 q hq).1 (by rw [(HJ1.out.1.host.law hfq (by simp)).2.2] at hm2;exact hm2),(HJ1.out.2.2.2.2 q hq).2⟩⟩)
 generalize W1.drewN nq=W2 at HJ HLF HSB HRN hfq ⊢
 clear hfq HJ1
 have k0:=blk_cell HJ.out.kb 0
 have k1:=blk_cell HJ.out.kb 1
 have f1:=blk_free HJ.out.kb 1
 have z0:=blk_cell HSB.out 0
 have z1:=blk_cell HSB.out 1
 have z2:=blk_cell HSB.out 2
 have z3:=blk_cell HSB.out 3
 have z4:=blk_cell HSB.out 4
 have z5:=blk_cell HSB.out 5
 have z6:=blk_cell HSB.out 6
 have z7:=blk_cell HSB.out 7
 have z8:=blk_cell HSB.out 8
 have z9:=blk_cell HSB.out 9
 have z10:=blk_cell HSB.out 10
 simp at k0 k1 z0 z1 z2 z3 z4 z5 z6 z7 z8 z9 z10
 have y2:(kd == 2)=false:=by simpa using h2
 have y3:(kd == 3)=false:=by simpa using h3
 have y13:(kd == 13)=false:=by simpa using h13
 have y14:(kd == 14)=false:=by simpa using h14
 have y15:(kd == 15)=false:=by simpa using h15
 have y16:(kd == 16)=false:=by simpa using h16
 have y17:(kd == 17)=false:=by simpa using h17
 have y18:(kd == 18)=false:=by simpa using h18
 go_wp2
 go_ret
 exact ⟨rfl,⟨⟨m,n,c,l,d,g,mp,cv,cs,S,R,by omega,by omega,by omega,HJ.out,HMP.out.2.2.1,HMP.out.2.2.2,HG.out.mono (by omega)⟩,HLF.out⟩⟩
set_option maxRecDepth 100000 in
set_option maxHeartbeats 8000000 in
theorem jstep_out (sq nn:Int) (txn x y:Nat) (key sv:ByteArray) (ao:Option Addr) (h:JIn w hp p cp gp bT lp bD bN m n c l d jp mp cv cs S R) (hmu:Mu l d fst g) (hdn:d.down=false) (hg:Jd k c R) (hbd:JBd m n k txn cs) (hmet:Met w) (hpow:Pows w) :
  Calls Tryz.prog 44 #[.pointer (some ⟨jp,0,none⟩),jstepV 18 txn sq nn key sv ao x y (-1) (-1) 0 0] w fun e w'=>e=.returned (.bool true)∧JSt w w' hp p cp gp bT lp bD bN m n jp k fst cs:=by
 obtain ⟨hm,hn,hk,hcs,hB,ht⟩:=hbd
 obtain ⟨W,hW⟩:∃ W,W=w.alloc (jstepO 18 txn sq nn key sv ao x y (-1) (-1) 0 0):=⟨_,rfl⟩
 have hf0:Fr [] w W:=by rw [hW];exact (Fr.refl [] w).alloc _
 have hs0:W.heap[w.heap.size]?=some (jstepO 18 txn sq nn key sv ao x y (-1) (-1) 0 0):=by rw [hW];exact heap_alloc_new w _
 have J0:=h.new hf0
 have L0:=JFr.new hf0 h.size
 have hlen:=hg.rel.len
 have HD:=toHid (show ∀ x∈R.deals,x.parts.length≤1000 from fun x hx=>by have:=hg.rel.parts x hx;omega)
 have hres:=hg.res
 have hout:=hg.out
 have hnx:=hg.nxt
 have hcp:=kcopy_any mp S R W J0.ref (by omega) HD.out (by omega) (by omega)
 have k1:=blk_cell J0.kb 1
 simp at k1
 rw [hW] at k1
 have HG:=toHid hg
 have HMP:=toHid (And.intro hmet (And.intro hpow (And.intro hmu hdn)))
 have HJ0:=toHid (And.intro J0 (And.intro L0 hs0))
 clear h hg hs0 J0 L0 hf0 hmet hpow hmu hdn
 go_enter Tryz.func44,Tryz.ntmps44
 go_wp2_with fail
 rw [← hW]
 obtain ⟨bx,hbx⟩:∃ bx,bx=w.heap.size:=⟨_,rfl⟩
 rw [← hbx] at HJ0 ⊢
 clear hW hbx k1
 refine hcp.mono ?_
 rintro e W1 ⟨np,S2,rfl,hr1,hnew,hf1⟩
 clear hcp
 have J1:=HJ0.out.1.new hf1
 have hs1:W1.heap[bx]?=some (jstepO 18 txn sq nn key sv ao x y (-1) (-1) 0 0):=(hf1.block bx (Array.getElem?_eq_some_iff.1 HJ0.out.2.2).1 (by simp)).trans HJ0.out.2.2
 have L1:=HJ0.out.2.1.trans (JFr.new hf1 HJ0.out.1.size)
 have k1:=blk_cell J1.kb 1
 have z1:=blk_cell hs1 1
 simp at k1 z1
 have hst:∀ q:Nat,Calls Tryz.prog 89 #[.pointer (some ⟨mp,0,none⟩),.int .u64 (txn:Int)] (W1.drewN q) fun e w'=>e=.returned (.int .i64 ((((dealAt R.deals txn).map RDeal.st).getD 0:Nat):Int))∧∃ q',w'=(W1.drewN q).drewN q':=fun q=>by
  obtain ⟨xv,rv,ov,ps,hi,_⟩:=(J1.new ((Fr.refl [] W1).drewM q)).ref
  exact kstatus_any mp txn xv rv ov ps R _ hi (by rw [hi.len];omega)
 obtain ⟨st,hst0⟩:∃ st:Nat,st=((dealAt R.deals txn).map RDeal.st).getD 0:=⟨_,rfl⟩
 rw [← hst0] at hst
 have HST:=toHid hst0
 have HJ1:=toHid (And.intro J1 (And.intro L1 (And.intro hs1 (And.intro hr1 (HJ0.out.1.fresh hf1 hnew)))))
 clear J1 L1 hs1 hr1 hst0 hnew hf1 HJ0
 go_wp2
 go_quiet (first | (go_at_call 89;refine Calls.quiet_of (hst _)))
 clear hst k1 z1
 have hfq:Fr [] W1 (W1.drewN nq):=(Fr.refl [] W1).drewM nq
 have HJ:=toHid (HJ1.out.1.new hfq)
 have HLF:=toHid (HJ1.out.2.1.trans (JFr.new hfq HJ1.out.1.size))
 have HSB:=toHid (show (W1.drewN nq).heap[bx]?=some (jstepO 18 txn sq nn key sv ao x y (-1) (-1) 0 0) from (hfq.block bx (Array.getElem?_eq_some_iff.1 HJ1.out.2.2.1).1 (by simp)).trans HJ1.out.2.2.1)
 have HRN:=toHid (show RkN (W1.drewN nq) np S2 R∧(∀ q∈S2,q∉rd cp (W1.drewN nq)∧q∉S) from ⟨HJ1.out.2.2.2.1.frT hfq (by simp),fun q hq=>⟨fun hm2=>(HJ1.out.2.2.2.2 q hq).1 (by rw [(HJ1.out.1.host.law hfq (by simp)).2.2] at hm2;exact hm2),(HJ1.out.2.2.2.2 q hq).2⟩⟩)
 generalize W1.drewN nq=W2 at HJ HLF HSB HRN hfq ⊢
 clear hfq HJ1
 have k0:=blk_cell HJ.out.kb 0
 have k1:=blk_cell HJ.out.kb 1
 have f1:=blk_free HJ.out.kb 1
 have z0:=blk_cell HSB.out 0
 have z1:=blk_cell HSB.out 1
 have z2:=blk_cell HSB.out 2
 have z3:=blk_cell HSB.out 3
 have z4:=blk_cell HSB.out 4
 have z5:=blk_cell HSB.out 5
 have z6:=blk_cell HSB.out 6
 have z7:=blk_cell HSB.out 7
 have z8:=blk_cell HSB.out 8
 have z9:=blk_cell HSB.out 9
 have z10:=blk_cell HSB.out 10
 simp at k0 k1 z0 z1 z2 z3 z4 z5 z6 z7 z8 z9 z10
 have hak:=jasks_any hp p cp gp bT lp bD bN m n jp mp c l d cv cs S R W2 HJ.out HG.out.rel (by omega) (by omega)
 go_wp2_with fail
 refine hak.mono ?_
 clear hak
 rintro e W3 ⟨rfl,S',J3,L3⟩
 have HF:=toHid (show JSt w W3 hp p cp gp bT lp bD bN m n jp k fst cs from ⟨⟨m,n,_,l,d,g,mp,cv,cs,S',_,by omega,by omega,by omega,J3,HMP.out.2.2.1,HMP.out.2.2.2,HG.out.asked.mono (by omega)⟩,HLF.out.trans L3⟩)
 clear J3 L3
 go_wp2
 go_ret
 exact ⟨rfl,HF.out⟩
set_option maxRecDepth 100000 in
set_option maxHeartbeats 8000000 in
theorem jstep_begin (sq nn:Int) (txn x y:Nat) (key sv:ByteArray) (ao:Option Addr) (h:JIn w hp p cp gp bT lp bD bN m n c l d jp mp cv cs S R) (hmu:Mu l d fst g) (hdn:d.down=false) (hg:Jd k c R) (hbd:JBd m n k txn cs) (hmet:Met w) (hpow:Pows w) :
  Calls Tryz.prog 44 #[.pointer (some ⟨jp,0,none⟩),jstepV 13 txn sq nn key sv ao x y (-1) (-1) 0 0] w fun e w'=>e=.returned (.bool true)∧JSt w w' hp p cp gp bT lp bD bN m n jp k fst cs:=by
 obtain ⟨hm,hn,hk,hcs,hB,ht⟩:=hbd
 obtain ⟨W,hW⟩:∃ W,W=w.alloc (jstepO 13 txn sq nn key sv ao x y (-1) (-1) 0 0):=⟨_,rfl⟩
 have hf0:Fr [] w W:=by rw [hW];exact (Fr.refl [] w).alloc _
 have hs0:W.heap[w.heap.size]?=some (jstepO 13 txn sq nn key sv ao x y (-1) (-1) 0 0):=by rw [hW];exact heap_alloc_new w _
 have J0:=h.new hf0
 have L0:=JFr.new hf0 h.size
 have hlen:=hg.rel.len
 have HD:=toHid (show ∀ x∈R.deals,x.parts.length≤1000 from fun x hx=>by have:=hg.rel.parts x hx;omega)
 have hres:=hg.res
 have hout:=hg.out
 have hnx:=hg.nxt
 have hcp:=kcopy_any mp S R W J0.ref (by omega) HD.out (by omega) (by omega)
 have k1:=blk_cell J0.kb 1
 simp at k1
 rw [hW] at k1
 have HG:=toHid hg
 have HMP:=toHid (And.intro hmet (And.intro hpow (And.intro hmu hdn)))
 have HJ0:=toHid (And.intro J0 (And.intro L0 hs0))
 clear h hg hs0 J0 L0 hf0 hmet hpow hmu hdn
 go_enter Tryz.func44,Tryz.ntmps44
 go_wp2_with fail
 rw [← hW]
 obtain ⟨bx,hbx⟩:∃ bx,bx=w.heap.size:=⟨_,rfl⟩
 rw [← hbx] at HJ0 ⊢
 clear hW hbx k1
 refine hcp.mono ?_
 rintro e W1 ⟨np,S2,rfl,hr1,hnew,hf1⟩
 clear hcp
 have J1:=HJ0.out.1.new hf1
 have hs1:W1.heap[bx]?=some (jstepO 13 txn sq nn key sv ao x y (-1) (-1) 0 0):=(hf1.block bx (Array.getElem?_eq_some_iff.1 HJ0.out.2.2).1 (by simp)).trans HJ0.out.2.2
 have L1:=HJ0.out.2.1.trans (JFr.new hf1 HJ0.out.1.size)
 have k1:=blk_cell J1.kb 1
 have z1:=blk_cell hs1 1
 simp at k1 z1
 have hst:∀ q:Nat,Calls Tryz.prog 89 #[.pointer (some ⟨mp,0,none⟩),.int .u64 (txn:Int)] (W1.drewN q) fun e w'=>e=.returned (.int .i64 ((((dealAt R.deals txn).map RDeal.st).getD 0:Nat):Int))∧∃ q',w'=(W1.drewN q).drewN q':=fun q=>by
  obtain ⟨xv,rv,ov,ps,hi,_⟩:=(J1.new ((Fr.refl [] W1).drewM q)).ref
  exact kstatus_any mp txn xv rv ov ps R _ hi (by rw [hi.len];omega)
 obtain ⟨st,hst0⟩:∃ st:Nat,st=((dealAt R.deals txn).map RDeal.st).getD 0:=⟨_,rfl⟩
 rw [← hst0] at hst
 have HST:=toHid hst0
 have HJ1:=toHid (And.intro J1 (And.intro L1 (And.intro hs1 (And.intro hr1 (HJ0.out.1.fresh hf1 hnew)))))
 clear J1 L1 hs1 hr1 hst0 hnew hf1 HJ0
 go_wp2
 go_quiet (first | (go_at_call 89;refine Calls.quiet_of (hst _)))
 clear hst k1 z1
 have hfq:Fr [] W1 (W1.drewN nq):=(Fr.refl [] W1).drewM nq
 have HJ:=toHid (HJ1.out.1.new hfq)
 have HLF:=toHid (HJ1.out.2.1.trans (JFr.new hfq HJ1.out.1.size))
 have HSB:=toHid (show (W1.drewN nq).heap[bx]?=some (jstepO 13 txn sq nn key sv ao x y (-1) (-1) 0 0) from (hfq.block bx (Array.getElem?_eq_some_iff.1 HJ1.out.2.2.1).1 (by simp)).trans HJ1.out.2.2.1)
 have HRN:=toHid (show RkN (W1.drewN nq) np S2 R∧(∀ q∈S2,q∉rd cp (W1.drewN nq)∧q∉S) from ⟨HJ1.out.2.2.2.1.frT hfq (by simp),fun q hq=>⟨fun hm2=>(HJ1.out.2.2.2.2 q hq).1 (by rw [(HJ1.out.1.host.law hfq (by simp)).2.2] at hm2;exact hm2),(HJ1.out.2.2.2.2 q hq).2⟩⟩)
 generalize W1.drewN nq=W2 at HJ HLF HSB HRN hfq ⊢
 clear hfq HJ1
 have k0:=blk_cell HJ.out.kb 0
 have k1:=blk_cell HJ.out.kb 1
 have f1:=blk_free HJ.out.kb 1
 have z0:=blk_cell HSB.out 0
 have z1:=blk_cell HSB.out 1
 have z2:=blk_cell HSB.out 2
 have z3:=blk_cell HSB.out 3
 have z4:=blk_cell HSB.out 4
 have z5:=blk_cell HSB.out 5
 have z6:=blk_cell HSB.out 6
 have z7:=blk_cell HSB.out 7
 have z8:=blk_cell HSB.out 8
 have z9:=blk_cell HSB.out 9
 have z10:=blk_cell HSB.out 10
 simp at k0 k1 z0 z1 z2 z3 z4 z5 z6 z7 z8 z9 z10
 have hbg:=jbegin_any hp p cp gp bT lp bD bN m n jp mp k fst c l d cv cs S R g W2 13 sq nn txn x y key sv ao HJ.out HMP.out.2.2.1 HMP.out.2.2.2 HG.out ⟨hm,hn,hk,hcs,hB,ht⟩ (HLF.out.met hB HMP.out.1) (HLF.out.pows hB HMP.out.2.1)
 go_wp2_with fail
 refine hbg.mono ?_
 clear hbg
 rintro e W3 ⟨rfl,hS3⟩
 have HF:=toHid (show JSt w W3 hp p cp gp bT lp bD bN m n jp k fst cs from ⟨hS3.jin,HLF.out.trans hS3.fr⟩)
 clear hS3
 go_wp2
 go_ret
 exact ⟨rfl,HF.out⟩
end
section
variable [Inhabited Bs] (hp p cp gp bT lp bD bN m n jp mp k fst:Nat) (c:ACo) (l:ALog) (d:ADisk) (cv:Value) (cs:List Value) (S:List Nat) (R:RCo) (g:List (List Rec)) (w:World)
set_option maxRecDepth 100000 in
set_option maxHeartbeats 8000000 in
theorem jstep_abort (sq nn:Int) (txn x y:Nat) (key sv:ByteArray) (ao:Option Addr) (h:JIn w hp p cp gp bT lp bD bN m n c l d jp mp cv cs S R) (hmu:Mu l d fst g) (hdn:d.down=false) (hg:Jd k c R) (hbd:JBd m n k txn cs) (hmet:Met w) (hpow:Pows w) :
  Calls Tryz.prog 44 #[.pointer (some ⟨jp,0,none⟩),jstepV 15 txn sq nn key sv ao x y (-1) (-1) 0 0] w fun e w'=>e=.returned (.bool true)∧JSt w w' hp p cp gp bT lp bD bN m n jp k fst cs:=by
 obtain ⟨hm,hn,hk,hcs,hB,ht⟩:=hbd
 obtain ⟨W,hW⟩:∃ W,W=w.alloc (jstepO 15 txn sq nn key sv ao x y (-1) (-1) 0 0):=⟨_,rfl⟩
 have hf0:Fr [] w W:=by rw [hW];exact (Fr.refl [] w).alloc _
 have hs0:W.heap[w.heap.size]?=some (jstepO 15 txn sq nn key sv ao x y (-1) (-1) 0 0):=by rw [hW];exact heap_alloc_new w _
 have J0:=h.new hf0
 have L0:=JFr.new hf0 h.size
 have hlen:=hg.rel.len
 have HD:=toHid (show ∀ x∈R.deals,x.parts.length≤1000 from fun x hx=>by have:=hg.rel.parts x hx;omega)
 have hres:=hg.res
 have hout:=hg.out
 have hnx:=hg.nxt
 have hcp:=kcopy_any mp S R W J0.ref (by omega) HD.out (by omega) (by omega)
 have k1:=blk_cell J0.kb 1
 simp at k1
 rw [hW] at k1
 have HG:=toHid hg
 have HMP:=toHid (And.intro hmet (And.intro hpow (And.intro hmu hdn)))
 have HJ0:=toHid (And.intro J0 (And.intro L0 hs0))
 clear h hg hs0 J0 L0 hf0 hmet hpow hmu hdn
 go_enter Tryz.func44,Tryz.ntmps44
 go_wp2_with fail
 rw [← hW]
 obtain ⟨bx,hbx⟩:∃ bx,bx=w.heap.size:=⟨_,rfl⟩
 rw [← hbx] at HJ0 ⊢
 clear hW hbx k1
 refine hcp.mono ?_
 rintro e W1 ⟨np,S2,rfl,hr1,hnew,hf1⟩
 clear hcp
 have J1:=HJ0.out.1.new hf1
 have hs1:W1.heap[bx]?=some (jstepO 15 txn sq nn key sv ao x y (-1) (-1) 0 0):=(hf1.block bx (Array.getElem?_eq_some_iff.1 HJ0.out.2.2).1 (by simp)).trans HJ0.out.2.2
 have L1:=HJ0.out.2.1.trans (JFr.new hf1 HJ0.out.1.size)
 have k1:=blk_cell J1.kb 1
 have z1:=blk_cell hs1 1
 simp at k1 z1
 have hst:∀ q:Nat,Calls Tryz.prog 89 #[.pointer (some ⟨mp,0,none⟩),.int .u64 (txn:Int)] (W1.drewN q) fun e w'=>e=.returned (.int .i64 ((((dealAt R.deals txn).map RDeal.st).getD 0:Nat):Int))∧∃ q',w'=(W1.drewN q).drewN q':=fun q=>by
  obtain ⟨xv,rv,ov,ps,hi,_⟩:=(J1.new ((Fr.refl [] W1).drewM q)).ref
  exact kstatus_any mp txn xv rv ov ps R _ hi (by rw [hi.len];omega)
 obtain ⟨st,hst0⟩:∃ st:Nat,st=((dealAt R.deals txn).map RDeal.st).getD 0:=⟨_,rfl⟩
 rw [← hst0] at hst
 have HST:=toHid hst0
 have HJ1:=toHid (And.intro J1 (And.intro L1 (And.intro hs1 (And.intro hr1 (HJ0.out.1.fresh hf1 hnew)))))
 clear J1 L1 hs1 hr1 hst0 hnew hf1 HJ0
 go_wp2
 go_quiet (first | (go_at_call 89;refine Calls.quiet_of (hst _)))
 clear hst k1 z1
 have hfq:Fr [] W1 (W1.drewN nq):=(Fr.refl [] W1).drewM nq
 have HJ:=toHid (HJ1.out.1.new hfq)
 have HLF:=toHid (HJ1.out.2.1.trans (JFr.new hfq HJ1.out.1.size))
 have HSB:=toHid (show (W1.drewN nq).heap[bx]?=some (jstepO 15 txn sq nn key sv ao x y (-1) (-1) 0 0) from (hfq.block bx (Array.getElem?_eq_some_iff.1 HJ1.out.2.2.1).1 (by simp)).trans HJ1.out.2.2.1)
 have HRN:=toHid (show RkN (W1.drewN nq) np S2 R∧(∀ q∈S2,q∉rd cp (W1.drewN nq)∧q∉S) from ⟨HJ1.out.2.2.2.1.frT hfq (by simp),fun q hq=>⟨fun hm2=>(HJ1.out.2.2.2.2 q hq).1 (by rw [(HJ1.out.1.host.law hfq (by simp)).2.2] at hm2;exact hm2),(HJ1.out.2.2.2.2 q hq).2⟩⟩)
 generalize W1.drewN nq=W2 at HJ HLF HSB HRN hfq ⊢
 clear hfq HJ1
 have k0:=blk_cell HJ.out.kb 0
 have k1:=blk_cell HJ.out.kb 1
 have f1:=blk_free HJ.out.kb 1
 have z0:=blk_cell HSB.out 0
 have z1:=blk_cell HSB.out 1
 have z2:=blk_cell HSB.out 2
 have z3:=blk_cell HSB.out 3
 have z4:=blk_cell HSB.out 4
 have z5:=blk_cell HSB.out 5
 have z6:=blk_cell HSB.out 6
 have z7:=blk_cell HSB.out 7
 have z8:=blk_cell HSB.out 8
 have z9:=blk_cell HSB.out 9
 have z10:=blk_cell HSB.out 10
 simp at k0 k1 z0 z1 z2 z3 z4 z5 z6 z7 z8 z9 z10
 have hop:∀ w',Fr [] W2 w'→Calls Tryz.prog 98 #[.pointer (some ⟨hp,0,none⟩),.int .u64 (txn:Int),jwellV] w' fun e w3=>e=.returned (.int .i64 (R.abortE txn:Int))∧∃ m' n' c' l' d' g',m'≤m+20∧n'≤n+3∧JIn w3 hp p cp gp bT lp bD bN m' n' c' l' d' jp mp cv cs S R∧Mu l' d' fst g'∧d'.down=false∧Jd (k+1) c' (R.abort txn)∧JFr w w3∧w3.heap[bx]?=some (jstepO 15 txn sq nn key sv ao x y (-1) (-1) 0 0):=fun w' hw'=>by
  have J:=HJ.out.new hw'
  have L:=JFr.new hw' HJ.out.size
  have HF1:=HLF.out.trans L
  refine (jAbort hp p cp gp bT lp bD bN m n jp mp k txn fst c l d cv cs S R g w' J HMP.out.2.2.1 HMP.out.2.2.2 HG.out (by omega) hB (HF1.met hB HMP.out.1) ht).mono ?_
  rintro e w3 ⟨rfl,hWr⟩
  obtain ⟨m',n',c',l',d',g',e1,e2,e3,e4,e5,e6⟩:=hWr.jin
  exact ⟨rfl,m',n',c',l',d',g',e1,e2,e3,e4,e5,e6,HF1.trans hWr.fr,hWr.fr.step _ _ (L.step _ _ HSB.out)⟩
 obtain ⟨ae,hae⟩:∃ ae,ae=R.abortE txn:=⟨_,rfl⟩
 rw [← hae] at hop
 have HAE:=toHid hae
 clear hae
 go_wp2
 go_region_held3 (fun w'=>w'.cell? ⟨jp,0,none⟩=some (.pointer (some ⟨hp,0,none⟩))∧w'.cell? ⟨bx,1,none⟩=some (.int .u64 (txn:Int))∧w'.cell? ⟨bx,7,none⟩=some (.int .i64 (-1))∧w'.cell? ⟨bx,8,none⟩=some (.int .i64 (-1))∧w'.cell? ⟨bx,9,none⟩=some (.int .i64 0)∧w'.cell? ⟨bx,10,none⟩=some (.int .i64 0)) (simp [*])
  (first | (go_at_call 98;refine (hop _ (by first | exact (Fr.refl [] W2).drew | exact Fr.refl [] W2)).mono ?_;rintro e W3 ⟨rfl,m',n',c',l',d',g',h1,h2,h3,h4,h5,h6,h7,h8⟩;have aj0:=blk_cell h3.kb 0;have ab1:=blk_cell h8 1;have ab7:=blk_cell h8 7;have ab8:=blk_cell h8 8;have ab9:=blk_cell h8 9;have ab10:=blk_cell h8 10;simp at aj0 ab1 ab7 ab8 ab9 ab10;have H3:=toHid (And.intro h1 (And.intro h2 (And.intro h4 (And.intro h5 h6))));have HJ3:=toHid h3;have HL3:=toHid h7;have HS3:=toHid h8;clear h1 h2 h3 h4 h5 h6 h7 h8 hop))
 clear k0 k1 f1 z0 z1 z2 z3 z4 z5 z6 z7 z8 z9 z10 aj0 ab7 ab8 ab9 ab10
 have k1:=blk_cell HJ3.out.kb 1
 simp at k1
 have hdb:∀ q:Nat,Calls Tryz.prog 99 #[.pointer (some ⟨mp,0,none⟩),.int .u64 (txn:Int)] (W3.drewN q) fun e w'=>e=.returned (.bool false)∧∃ q',w'=(W3.drewN q).drewN q':=fun q=>by
  obtain ⟨xv,rv,ov,ps,hi,_⟩:=(HJ3.out.new ((Fr.refl [] W3).drewM q)).ref
  exact kdoubtful_any mp txn xv rv ov ps R _ hi (by rw [hi.len];omega)
 go_wp2
 go_quiet (first | (go_at_call 99;refine Calls.quiet_of (hdb _)))
 clear hdb k1 ab1
 have hfq:Fr [] W3 (W3.drewN nq):=(Fr.refl [] W3).drewM nq
 have HJ4:=toHid (HJ3.out.new hfq)
 have HL4:=toHid (HL3.out.trans (JFr.new hfq HJ3.out.size))
 have hs4:(W3.drewN nq).heap[bx]?=some (jstepO 15 txn sq nn key sv ao x y (-1) (-1) 0 0):=(hfq.block bx (Array.getElem?_eq_some_iff.1 HS3.out).1 (by simp)).trans HS3.out
 have HS4:=toHid hs4
 clear hs4
 generalize W3.drewN nq=W4 at HJ4 HL4 HS4 hfq ⊢
 clear hfq
 have k1:=blk_cell HJ4.out.kb 1
 simp at k1
 have z1:=blk_cell HS4.out 1
 simp at z1
 have hab:∀ w',Fr [] W4 w'→Calls Tryz.prog 101 #[.pointer (some ⟨mp,0,none⟩),.int .u64 (txn:Int)] w' fun e w5=>e=.returned (.int .i64 (ae:Int))∧∃ S5,JIy w5 hp p cp gp bT lp bD bN m' n' c' l' d' jp mp mp cv cs S5 (R.abort txn)∧JFr w w5∧w5.heap[bx]?=some (jstepO 15 txn sq nn key sv ao x y (-1) (-1) 0 0):=fun w' hw'=>by
  have J:=HJ4.out.new hw'
  have L:=JFr.new hw' HJ4.out.size
  refine (kabort_any mp txn S R w' J.ref (by omega) HG.out.rel.parts (by omega) (by omega)).mono ?_
  rintro e w5 ⟨he,S5,hr,hk⟩
  exact ⟨by rw [he,HAE.out],S5,J.kfr hk hr,(HL4.out.trans L).trans (hk.lfr J.ref),(hk.lfr J.ref).step _ _ (L.step _ _ HS4.out)⟩
 go_wp2
 go_region_held3 (fun w'=>w'.cell? ⟨jp,1,none⟩=some (.pointer (some ⟨mp,0,none⟩))∧w'.cell? ⟨bx,1,none⟩=some (.int .u64 (txn:Int))) (simp [*])
  (first | (go_at_call 101;refine (hab _ (by first | exact (Fr.refl [] W4).drew | exact Fr.refl [] W4)).mono ?_;rintro e W5 ⟨rfl,S5,h1,h2,h3⟩;have aj1:=blk_cell h1.kb 1;have ab1:=blk_cell h3 1;simp at aj1 ab1;have HJ5:=toHid h1;have HL5:=toHid h2;have HS5:=toHid h3;clear h1 h2 h3 hab))
 have HF:=toHid (show JSt w W5 hp p cp gp bT lp bD bN m n jp k fst cs from ⟨⟨m',n',c',l',d',g',mp,cv,cs,S5,_,by have:=H3.out.1;omega,H3.out.2.1,by omega,HJ5.out,H3.out.2.2.1,H3.out.2.2.2.1,H3.out.2.2.2.2⟩,HL5.out⟩)
 clear k1 z1 aj1 ab1
 go_wp2
 go_ret
 exact ⟨rfl,HF.out⟩
end
end Go.Proofs.YtejiankgafjppaaGreatDoor
