import Derived.Test.YtcalalndmcemiaaGreatDoorC34
set_option maxRecDepth 100000
set_option maxHeartbeats 16000000
namespace Go.Proofs.YtcalalndmcemiaaGreatDoor
open Go.RowKit Go.Maps Go.Shelf
open Sc
def ANet.send (A:ANet):Nat→ANet
 | 0=>{ A with bag:=A.bag++(A.co++jBb A.c.out),c:={ A.c with out:=[] },co:=[] }
 | i+1=>match A.ss[i]? with
  | none=>A
  | some s=>{ A with bag:=A.bag++s.2,ss:=A.ss.set i (s.1,[]) }
def ANet.sends (A:ANet):Nat→ANet
 | 0=>A
 | m+1=>(A.sends m).send m
structure Looks (A A':ANet):Prop where
 ok:LookOk A.c A.ss A.ds A.ord A'.ds A'.ord
 eq:A'={ A with ds:=A'.ds,ord:=A'.ord,c:={ A.c with res:=[] } }
 len:A.ord.length+A.c.res.length≤60000000∧A.ds.length≤60000000
 wrs:Wrs A.ds
 vls:∀ (i:Nat) (s:AShard × List Msg),A.ss[i]?=some s→s.1.vals.length≤60000000
inductive Dels:List Msg→ANet→ANet→Prop
 | nil (A:ANet):Dels [] A A
 | cons {x:Msg} {l:List Msg} {A A1 A2:ANet}:A.Comes x→Looks (A.recv x) A1→Dels l A1 A2→Dels (x :: l) A A2
structure Wave (A A':ANet) (m:Nat):Prop where
 ok:(∀ x∈A.co++jBb A.c.out,x.Ok)∧∀ (i:Nat) (s:AShard × List Msg),A.ss[i]?=some s→∀ x∈s.2,x.Ok
 nil:A.bag=[]
 cnt:m=(A.sends (A.ss.length+1)).bag.length
 del:Dels (A.sends (A.ss.length+1)).bag { A.sends (A.ss.length+1) with bag:=[] } A'
inductive Waves:Nat→ANet→ANet→Nat→Prop
 | nil (A:ANet):Waves 0 A A 0
 | cons {r m k:Nat} {A A1 A2:ANet}:Wave A A1 m→Waves r A1 A2 k→Waves (r+1) A A2 (m+k)
theorem jWr (A:ANet) (i:Nat):(A.send i).ss.length=A.ss.length:=by
 unfold ANet.send
 split
 ·rfl
 ·split
  ·rfl
  ·simp
theorem jIj (A:ANet) (m:Nat):(A.sends m).ss.length=A.ss.length:=by
 induction m with
 | zero=>rfl
 | succ m ih=>unfold ANet.sends;rw [jWr,ih]
theorem jOu (A:ANet) (i j:Nat) (h:j+1≠i):(A.send i).ss[j]?=A.ss[j]?:=by
 unfold ANet.send
 split
 ·rfl
 ·rename_i i
  split
  ·rfl
  ·rw [List.getElem?_set_ne oE]
theorem jMf (A:ANet) (m j:Nat) (h:m≤j+1):(A.sends m).ss[j]?=A.ss[j]?:=by
 induction m with
 | zero=>rfl
 | succ m ih=>unfold ANet.sends;rw [jOu _ _ _ oE,ih oE]
theorem jIt (A:ANet) (x:Msg):(A.recv x).ss.length=A.ss.length∧(A.recv x).bag=A.bag∧(A.recv x).ds=A.ds∧(A.recv x).ord=A.ord:=by
 unfold ANet.recv
 split
 ·exact ⟨rfl,rfl,rfl,rfl⟩
 ·split
  ·exact ⟨rfl,rfl,rfl,rfl⟩
  ·exact ⟨by simp,rfl,rfl,rfl⟩
theorem jQ9 (A:ANet) (i:Nat):(A.send i).ds=A.ds∧(A.send i).ord=A.ord:=by
 unfold ANet.send
 split
 ·exact ⟨rfl,rfl⟩
 ·split <;> exact ⟨rfl,rfl⟩
def NetB (w0 w:World) (B np n K:Nat) (hv:Value) (hps:List Nat) (A:ANet):Prop :=
 ∃ dv bv ov fl ps Ls,LawM w B np hv dv bv ov n fl hps ps A.ds A.bag A.ord∧Nds w B hps A.c A.co A.ss K Ls∧(∀ g,bv.ownBlock=some g→w0.heap.size≤g)∧LgF B w0 w
section
variable {w0 w w':World} {B np n K:Nat} {hv:Value} {hps:List Nat} {A A':ANet}
theorem NetB.ln (h:NetB w0 w B np n K hv hps A):hps.length=A.ss.length+1:=by
 obtain ⟨dv,bv,ov,fl,ps,Ls,-,h2,-⟩:=h
 exact h2.len.1
theorem NetB.new (h:NetB w0 w B np n K hv hps A) (hf:Fr [] w w'):NetB w0 w' B np n K hv hps A:=by
 obtain ⟨dv,bv,ov,fl,ps,Ls,h1,h2,h3,h4⟩:=h
 exact ⟨dv,bv,ov,fl,ps,Ls,h1.new hf,h2.new hf,h3,h4.trans (NLf.new hf h1.low.2).lg⟩
theorem NetB.hs (h:NetB w0 w B np n K hv hps A):w.ownsRow B 46 1 hv hps.length (hps.map ptrV)∧B≤w.heap.size:=by
 obtain ⟨dv,bv,ov,fl,ps,Ls,h1,h2,h3,h4⟩:=h
 exact ⟨h1.hs,h1.low.2⟩
theorem NetB.cells (h:NetB w0 w B np n K hv hps A):w.cell? ⟨np,0,none⟩=some hv∧w.cell? ⟨np,4,none⟩=some (.int .i64 (n:Int)):=by
 obtain ⟨dv,bv,ov,fl,ps,Ls,h1,h2,h3,h4⟩:=h
 exact ⟨(jA0 h1.net 0).trans sE,(jA0 h1.net 4).trans sE⟩
theorem jR9 (h:NetB w0 w B np n K hv hps A) (hl:Looks A A') (hn:n=A.ss.length) (hK:K≤300000) (hnl:n≤1000) :
  Calls Tryz.prog 36 #[ptrV np] w λe w'=>e=.returned (.bool true)∧NetB w0 w' B np n K hv hps A':=by
 obtain ⟨dv,bv,ov,fl,ps,Ls,h1,h2,h3,h4⟩:=h
 refine (jTp w B np n K hv dv bv ov fl hps ps A.ds A'.ds A.bag A.ord A'.ord A.c A.co A.ss Ls h1 h2 hn hl.ok hK hl.len.1 hl.len.2 hl.wrs oE hl.vls).mono ?_
 rintro e w' ⟨rfl,ov',Ls',q1,q2,q3⟩
 refine ⟨rfl,?_⟩
 rw [hl.eq]
 exact ⟨dv,bv,ov',fl,ps,Ls',q1,q2,h3,h4.trans q3⟩
theorem jOt (x:Msg) (h:NetB w0 w B np n K hv hps A) (hx:A.Comes x) (hn:n=A.ss.length) (hK:K≤290000) (hB:2≤B) (hmet:Met w0) (hpow:Pows w0) :
  Calls Tryz.prog 35 #[ptrV np,.string (str x.bytes),jD1 (-1) (-1) 0 0] w λe w'=>e=.returned (.bool true)∧NetB w0 w' B np n (K+1) hv hps (A.recv x):=by
 obtain ⟨dv,bv,ov,fl,ps,Ls,h1,h2,h3,h4⟩:=h
 refine (jLz x h1 h2 hn hx hB (h4.met hB hmet) (h4.pows hB hpow) hK).mono ?_
 rintro e w' ⟨rfl,⟨Ls',q1⟩,q2,-⟩
 refine ⟨rfl,dv,bv,ov,fl,ps,Ls',?_,q1,h3,h4.trans q2.lg⟩
 obtain ⟨-,e1,e2,e3⟩:=jIt A x
 rw [e1,e2,e3]
 exact h1.nlf q2
def ANet.outs (A:ANet):Nat→List Msg
 | 0=>A.co++jBb A.c.out
 | i+1=>(A.ss[i]?.map (·.2)).getD []
theorem jIw (A:ANet) (i:Nat):(A.send i).bag=A.bag++A.outs i:=by
 cases i with
 | zero=>rfl
 | succ i =>
  simp only [ANet.send,ANet.outs]
  cases A.ss[i]? with
  | none=>simp
  | some s=>rfl
theorem jTw {Ls:List (List Nat)} {hp i:Nat} (h:Nds w B hps A.c A.co A.ss K Ls) (hp0:hps[i]?=some hp) (hi:i≤A.ss.length) (hok:∀ x∈A.outs i,x.Ok) (hK:K≤140000) :
  Calls Tryz.prog 34 #[.pointer (some ⟨hp,0,none⟩)] w λe w'=>∃ v,e=.returned v∧w'.ownsRow w.heap.size 9 1 v (A.outs i).length (msgT (A.outs i))∧(A.outs i=[]→v=.slice none 0 0)∧NdP Ls B hps (A.send i).c (A.send i).co (A.send i).ss K w w':=by
 cases i with
 | zero=>exact jX3 h hp0 hok hK
 | succ i =>
  have hil:i<A.ss.length:=hi
  have hs:A.ss[i]?=some A.ss[i]:=List.getElem?_eq_getElem hil
  have e1:A.outs (i+1)=A.ss[i].2:=by simp only [ANet.outs];rw [hs];rfl
  have e2:A.send (i+1)={ A with bag:=A.bag++A.ss[i].2,ss:=A.ss.set i (A.ss[i].1,[]) }:=by simp only [ANet.send];rw [hs]
  rw [e1] at hok ⊢
  rw [e2]
  exact kSend h hs hp0 hok oE
end
end Go.Proofs.YtcalalndmcemiaaGreatDoor
