import Derived.Test.YtcalalndmcemiaaGreatDoorC32
set_option maxRecDepth 100000
set_option maxHeartbeats 16000000
namespace Go.Proofs.YtcalalndmcemiaaGreatDoor
open Go.RowKit Go.Maps Go.Shelf
open Sc
def wrote (ds:List ADeal) (y:Nat × ByteArray × ByteArray) (j:Nat):Bool:=match ds[j]? with | none=>false | some x=>x.writes.any λz=>decide (z=y)
def jC5 (ds:List ADeal) (ord:List Nat) (y:Nat × ByteArray × ByteArray):Bool:=ord.any (wrote ds y)
theorem jBg {w:World} {b n:Nat} {e:TypeId} {v:Value} {α:Type} {f:α→Nat} {l:List α} (h:w.ownsRow b e 1 v n (l.map λj=>ptrV (f j))):∃ ao c,v=.slice ao n c∧(∀ i j,l[i]?=some j→∃ g,ao=some ⟨g,0,none⟩∧w.cell? ⟨g,i,none⟩=some (ptrV (f j))):=by
 rcases h.2 with ⟨e,h0⟩ | ⟨g,cap,cur,e,rest⟩
 ·refine ⟨none,0,by rw [e,h0],λi p hp=>?_⟩
  have:=(List.getElem?_eq_some_iff.1 hp).1
  have h1:=h.1
  simp at h1
  omega
 ·exact ⟨some ⟨g,0,none⟩,cap,e,λi p hp=>⟨g,rfl,jB2 h e (by rw [List.getElem?_map,hp];rfl)⟩⟩
theorem jAj {w:World} {b n:Nat} {e:TypeId} {ao:Option Addr} {m c:Nat} {α:Type} {f:α→Nat} {l:List α} {i:Nat} {j:α} (h:w.ownsRow b e 1 (.slice ao m c) n (l.map λj=>ptrV (f j))) (hj:l[i]?=some j):∃ g,ao=some ⟨g,0,none⟩∧w.cell? ⟨g,i,none⟩=some (ptrV (f j)):=by
 obtain ⟨ao',c',e,hc⟩:=jBg h
 cases e
 exact hc i j hj
theorem jQm {a b:ByteArray} (h:a≠b):(a.toList == b.toList)=false:=by
 rw [beq_eq_false_iff_ne]
 intro e
 exact h (ByteArray.ext (Array.ext' (by simpa [Lib.toList_data] using e)))
theorem jNo {w:World} {b:Nat} {v:Value} {T:List (Nat × ByteArray × ByteArray)} (h:w.ownsRow b 57 3 v T.length (wrsV T)):∃ ao c,v=.slice ao T.length c∧(∀ i x,T[i]?=some x→∃ g,ao=some ⟨g,0,none⟩∧w.cell? ⟨g,i*3,none⟩=some (.int .i64 (x.1:Int))∧w.cell? ⟨g,i*3+1,none⟩=some (.string x.2.1)∧w.cell? ⟨g,i*3+2,none⟩=some (.string x.2.2)):=by
 rcases h.2 with ⟨e,h0⟩ | ⟨g,cap,cur,e,rest⟩
 ·refine ⟨none,0,by rw [e,h0],λi p hp=>?_⟩
  have:=(List.getElem?_eq_some_iff.1 hp).1
  omega
 ·refine ⟨some ⟨g,0,none⟩,cap,e,λi p hp=>⟨g,rfl,?_⟩⟩
  have key:=λj hj=>jFd (f:=wrC) (k:=3) (λ_=>rfl) T i p hp j hj
  exact ⟨jB2 h e (key 0 dN),jB2 h e (key 1 dN),jB2 h e (key 2 dN)⟩
theorem jU7 {w:World} {b:Nat} {ao:Option Addr} {m c:Nat} {T:List (Nat × ByteArray × ByteArray)} {i:Nat} {x:Nat × ByteArray × ByteArray} (h:w.ownsRow b 57 3 (.slice ao m c) T.length (wrsV T)) (hj:T[i]?=some x):∃ g,ao=some ⟨g,0,none⟩∧w.cell? ⟨g,i*3,none⟩=some (.int .i64 (x.1:Int))∧w.cell? ⟨g,i*3+1,none⟩=some (.string x.2.1)∧w.cell? ⟨g,i*3+2,none⟩=some (.string x.2.2):=by
 obtain ⟨ao',c',e,hc⟩:=jNo h
 cases e
 exact hc i x hj
section
variable (w:World) (B np n:Nat) (hv dv bv ov:Value) (fl:Bool) (hps:List Nat) (ps:List (Nat × Value × Value)) (ds:List ADeal) (bag:List Msg) (ord:List Nat)
theorem jQa (sh:Nat) (key val:ByteArray) (h:LawM w B np hv dv bv ov n fl hps ps ds bag ord) (hl:ord.length≤60000000) (hwl:∀ x∈ds,x.writes.length≤60000000) :
  Calls Tryz.prog 77 #[ptrV np,.int .i64 (sh:Int),.agg #[.string key,.string val]] w λe w'=>e=.returned (.bool (jC5 ds ord (sh,key,val)))∧Fr [] w w':=by
 obtain ⟨W,hW⟩:∃ W,W=w.alloc (.cells #[.string key,.string val] 164):=⟨_,rfl⟩
 have hf0:Fr [] w W:=by rw [hW];exact (Fr.refl [] w).alloc _
 have hbx:W.heap[w.heap.size]?=some (.cells #[.string key,.string val] 164):=by rw [hW];exact heap_alloc_new w _
 have hL:=h.new hf0
 obtain ⟨N,hN⟩:∃ N,N=ord.length:=⟨_,rfl⟩
 have HN:=jA1 hN
 obtain ⟨ao,ca,eo,-⟩:=jBg hL.od
 rw [← hN] at eo
 subst eo
 have H0:=jA1 (And.intro hL (And.intro hf0 (And.intro hbx hwl)))
 rw [← hN] at hl
 clear h hL hf0 hbx hwl hN
 go_enter Tryz.func77,Tryz.ntmps77
 go_wp2
 rw [← hW]
 clear hW
 go_loopw [7] (λi wr=>∃ k:Nat,k≤N∧i=.int .i64 (k:Int)∧Hid ((ord.take k).any (wrote ds (sh,key,val))=false∧Fr [] W wr)) (λi _=>N - (intOf i).toNat)
 case atStart=>exact ⟨0,Nat.zero_le _,rfl,by simp,Fr.refl [] W⟩
 case round =>
  obtain ⟨i,hi,rfl,HI⟩:=hrel
  by_cases hlt:i<N
  ·obtain ⟨j,hj⟩:∃ j,ord[i]?=some j:=⟨_,List.getElem?_eq_getElem (by rw [← HN.out];exact hlt)⟩
   have hjl:=H0.out.1.odl j (List.mem_of_getElem? hj)
   obtain ⟨p,hp⟩:∃ p,ps[j]?=some p:=⟨_,List.getElem?_eq_getElem hjl⟩
   obtain ⟨x,hx⟩:∃ x,ds[j]?=some x:=⟨_,List.getElem?_eq_getElem (by rw [← H0.out.1.len];exact hjl)⟩
   have hLr:=H0.out.1.new HI.out.2
   obtain ⟨g,rfl,cgr⟩:=jAj hLr.od hj
   rw [hp] at cgr
   have hd:=hLr.each j p x hp hx
   obtain ⟨pp,sv,wv⟩:=p
   have hdb:=hd.blk
   obtain ⟨wa,wc,ew,hwc⟩:=jNo hd.wrs
   simp only [] at hdb ew
   obtain ⟨M,hM⟩:∃ M,M=x.writes.length:=⟨_,rfl⟩
   rw [← hM] at ew
   subst ew
   have hwx:=H0.out.2.2.2 x (List.mem_of_getElem? hx)
   have c2:=jA0 hdb 2
   have cn3:=jA0 hLr.net 3
   have cb0:=(HI.out.2.block w.heap.size (Array.getElem?_eq_some_iff.1 H0.out.2.2.1).1 sE).trans H0.out.2.2.1
   simp at c2 cn3 cgr
   rw [← hM] at hwx
   have HH:=jA1 (And.intro hx (And.intro hwc (And.intro hdb (And.intro hLr (And.intro cb0 (And.intro hM hj))))))
   have HP:=jA1 hp
   have i0:(0:Int)≤(i:Int):=by omega
   have i1:(i:Int)<(N:Int):=by omega
   clear hLr hd hdb hwc cb0 hx hp hM hj hjl
   go_wp2
   go_loopw [8] (λk wx=>∃ q:Nat,q≤M∧k=.int .i64 (q:Int)∧Hid ((x.writes.take q).any (λz=>decide (z=(sh,key,val)))=false∧Fr [] wr wx)) (λk _=>M - (intOf k).toNat)
   case atStart=>exact ⟨0,Nat.zero_le _,rfl,by simp,Fr.refl [] wr⟩
   case round =>
    obtain ⟨q,hq,rfl,HQ⟩:=hrel
    have hLx:=HH.out.2.2.2.1.new HQ.out.2
    obtain ⟨hLx',-⟩:=And.intro hLx trivial
    have hdx:=hLx.each j _ x HP.out HH.out.1
    have dx2:=jA0 hdx.blk 2
    have nx3:=jA0 hLx.net 3
    obtain ⟨g',eg,cgx⟩:=jAj hLx.od HH.out.2.2.2.2.2.2
    cases eg
    rw [HP.out] at cgx
    simp at dx2 nx3 cgx
    by_cases hqt:q<M
    ·obtain ⟨⟨z1,z2,z3⟩,hz⟩:∃ z,x.writes[q]?=some z:=⟨_,List.getElem?_eq_getElem (by rw [← HH.out.2.2.2.2.2.1];exact hqt)⟩
     obtain ⟨g3,eg3,y0,y1,y2⟩:=jU7 hdx.wrs hz
     subst eg3
     have hbb:=(HQ.out.2.block w.heap.size (Array.getElem?_eq_some_iff.1 HH.out.2.2.2.2.1).1 sE).trans HH.out.2.2.2.2.1
     have b0:=jA0 hbb 0
     have b1:=jA0 hbb 1
     have hlw:w.heap.size<wr.heap.size:=(Array.getElem?_eq_some_iff.1 hbb).1
     simp at b0 b1 y0 y1 y2
     have j0:(0:Int)≤(q:Int):=by omega
     have j1:(q:Int)<(M:Int):=by omega
     have HZ:=jA1 hz
     clear hLx hLx' hdx hbb hz
     have next:¬ (z1=sh∧z2=key∧z3=val)→Hid ((x.writes.take (q+1)).any (λz=>decide (z=(sh,key,val)))=false):=λe=>by
      show _=_
      rw [List.take_add_one,List.any_append,HQ.out.1,HZ.out]
      simp
      exact λa b c=>e ⟨a,b,c⟩
     by_cases e1:z1=sh
     ·subst e1
      by_cases e2:z2=key
      ·subst e2
       by_cases e3:z3=val
       ·subst e3
        clear next
        go_wp2
        go_ret
        refine ⟨?_,H0.out.2.1.trans (HI.out.2.trans (HQ.out.2.alloc _))⟩
        have e:jC5 ds ord (z1,z2,z3)=true:=by
         unfold jC5
         rw [List.any_eq_true]
         refine ⟨j,List.mem_of_getElem? HH.out.2.2.2.2.2.2,?_⟩
         unfold wrote
         rw [HH.out.1]
         simp only []
         rw [List.any_eq_true]
         exact ⟨_,List.mem_of_getElem? HZ.out,by simp⟩
        rw [e]
        rfl
       ·have HX:=next (λe=>e3 e.2.2)
        have e3':=jQm e3
        clear next
        go_wp2
        go_roundw
        case rel=>exact ⟨q+1,by omega,by go_num,HX.out,HQ.out.2.alloc _⟩
        case measure=>simp [intOf];omega
      ·have HX:=next (λe=>e2 e.2.1)
       have e2':=jQm e2
       clear next
       go_wp2
       go_roundw
       case rel=>exact ⟨q+1,by omega,by go_num,HX.out,HQ.out.2.alloc _⟩
       case measure=>simp [intOf];omega
     ·have HX:=next (λe=>e1 e.1)
      have e1':¬ (z1:Int)=(sh:Int):=by omega
      clear next
      go_wp2
      go_roundw
      case rel=>exact ⟨q+1,by omega,by go_num,HX.out,HQ.out.2.alloc _⟩
      case measure=>simp [intOf];omega
    ·have j1:¬ (q:Int)<(M:Int):=by omega
     clear hLx hLx' hdx
     go_wp2
     go_roundw
     case rel =>
      refine ⟨i+1,by omega,by go_num,?_,HI.out.2.trans HQ.out.2⟩
      rw [List.take_add_one,List.any_append,HI.out.1,HH.out.2.2.2.2.2.2]
      have:=HQ.out.1
      rw [List.take_of_length_le (by rw [← HH.out.2.2.2.2.2.1];omega)] at this
      simp only [Option.toList,List.any_cons,List.any_nil,Bool.or_false,Bool.false_or]
      unfold wrote
      rw [HH.out.1]
      exact this
     case measure=>simp [intOf];omega
  ·have i1:¬ (i:Int)<(N:Int):=by omega
   have cn3:=jA0 (H0.out.1.new HI.out.2).net 3
   simp at cn3
   go_wp2
   go_ret
   refine ⟨?_,H0.out.2.1.trans HI.out.2⟩
   have:=HI.out.1
   rw [List.take_of_length_le (by rw [← HN.out];omega)] at this
   unfold jC5
   rw [this]
   rfl
end
end Go.Proofs.YtcalalndmcemiaaGreatDoor
set_option maxRecDepth 100000
set_option maxHeartbeats 16000000
namespace Go.Proofs.YtcalalndmcemiaaGreatDoor
open Go.RowKit Go.Maps
open Sc
theorem jDs (c:ACo) (t:Nat):(jA3 c.txns t=none∧c.tx t=tx0)∨∃ x,jA3 c.txns t=some x∧c.tx t=x∧(t,x)∈c.txns:=by
 unfold ACo.tx
 cases h:jA3 c.txns t with
 | none=>exact .inl ⟨rfl,rfl⟩
 | some x=>exact .inr ⟨x,rfl,rfl,jAh h⟩
theorem CGood.put {K:Nat} {c:ACo} (h:CGood K c) {t:Nat} {x:ATx} (hs:(c.tx t).state≠0) (hx:x.since≤c.ticks∧4≤x.state∧x.state≤6) (r:List (Nat × Nat)) (o:List (Nat × Nat × Nat)):CGood K { c with txns:=jAb c.txns t x,res:=r,out:=o }:=by
 rcases jDs c t with ⟨-,e⟩ | ⟨y,hy,-,hm⟩
 ·rw [e] at hs;exact absurd rfl hs
 ·have ht:=h.txs _ hm
  refine ⟨h.once.put t x,?_,h.nums,λq hq=>?_⟩
  ·show (jAi c.txns t).length+1≤12
   have:=jEf hm
   have:=h.len
   omega
  ·rcases List.mem_cons.1 hq with e | e
   ·rw [e];exact ⟨ht.1,ht.2.1,hx⟩
   ·exact h.txs q (List.mem_filter.1 e).1
theorem CGood.del {K:Nat} {c:ACo} (h:CGood K c) (t:Nat) (r:List (Nat × Nat)) (o:List (Nat × Nat × Nat)):CGood K { c with txns:=jAi c.txns t,res:=r,out:=o } :=
 ⟨h.once.del t,by have:=jDg c.txns t;have:=h.len;show (jAi c.txns t).length≤12;omega,h.nums,λq hq=>h.txs q (List.mem_filter.1 hq).1⟩
theorem CGood.out {K:Nat} {c:ACo} (h:CGood K c) (r:List (Nat × Nat)) (o:List (Nat × Nat × Nat)):CGood K { c with res:=r,out:=o }:=⟨h.once,h.len,h.nums,h.txs⟩
theorem CGood.begun {K:Nat} {c:ACo} (h:CGood K c):CGood (K+1) c.begun.1:=by
 unfold ACo.begun
 have hn:=h.nums
 split
 ·exact h.mono oE
 ·rename_i h12
  refine ⟨h.once.put _ _,?_,⟨?_,?_,?_,?_,?_⟩,λq hq=>?_⟩
  ·have:=jDg c.txns c.next
   show (jAi c.txns c.next).length+1≤12
   omega
  ·simp
  ·simp;omega
  ·simp only [];split <;> omega
  ·simp only [];split <;> omega
  ·simp;omega
  ·rcases List.mem_cons.1 hq with e | e
   ·rw [e];simp;omega
   ·have:=h.txs q (List.mem_filter.1 e).1
    exact ⟨this.1,by simp;omega,this.2.2⟩
theorem CGood.since {K:Nat} {c:ACo} (h:CGood K c) (t:Nat):(c.tx t).since≤c.ticks:=by
 rcases jDs c t with ⟨-,e⟩ | ⟨y,-,e,hm⟩
 ·rw [e];exact Nat.zero_le _
 ·rw [e];exact (h.txs _ hm).2.2.1
theorem CGood.st {K:Nat} {c:ACo} (h:CGood K c) {t:Nat} (h0:(c.tx t).state≠0):4≤(c.tx t).state∧(c.tx t).state≤6:=by
 rcases jDs c t with ⟨-,e⟩ | ⟨y,-,e,hm⟩
 ·rw [e] at h0;exact absurd rfl h0
 ·rw [e];exact (h.txs _ hm).2.2.2
theorem jTa (l:List Nat) (k:Nat) (h:∀ x∈l,x=0):l.getD k 0=0:=by
 rw [List.getD_eq_getElem?_getD]
 cases e:l[k]? with
 | none=>rfl
 | some x=>exact h x (List.mem_of_getElem? e)
theorem jV3 {c:ACo} {t k p:Nat} (h:(c.tx t).parts.getD k 0=p) (hp:p≠0):(c.tx t).state≠0∨jA3 c.txns t≠none:=by
 rcases jDs c t with ⟨-,e⟩ | ⟨y,hy,-,-⟩
 ·rw [e] at h
  exfalso
  apply hp
  rw [← h]
  exact jTa _ k dN
 ·exact .inr (by rw [hy];simp)
theorem CGood.has {K:Nat} {c:ACo} (h:CGood K c) {t:Nat} (h0:jA3 c.txns t≠none):(c.tx t).state≠0:=by
 rcases jDs c t with ⟨e,-⟩ | ⟨y,-,e,hm⟩
 ·exact absurd e h0
 ·rw [e];have:=(h.txs _ hm).2.2.2;simp at this;omega
theorem CGood.commS {K:Nat} {c:ACo} (h:CGood K c) (t:Nat) (zs:List Int):CGood K (c.commS t zs):=by
 unfold ACo.commS
 split
 ·rename_i e
  exact h.put oE ⟨Nat.le_refl _,by simp,by simp⟩ _ _
 ·exact h
theorem CGood.voted {K:Nat} {c:ACo} (h:CGood K c) (t k v:Nat):CGood K (c.voted t k v):=by
 unfold ACo.voted
 split
 ·exact h
 ·rename_i e
  have hs:(c.tx t).state≠0:=(jV3 (p:=1) (Decidable.not_not.1 e) dN).elim id h.has
  have h2:=h.st hs
  have h3:=h.since t
  split
  ·exact h.del t _ _
  ·split
   ·exact h.put (x:={ c.tx t with parts:=(c.tx t).parts.set k v }) hs ⟨h3,h2⟩ _ _
   ·split
    ·exact h.put (x:={ c.tx t with parts:=(c.tx t).parts.set k v,state:=6 }) hs ⟨h3,(show 4≤6 by decide),(show 6≤6 by decide)⟩ _ _
    ·exact h.del t _ _
theorem CGood.doneS {K:Nat} {c:ACo} (h:CGood K c) (t k:Nat):CGood K (c.doneS t k):=by
 unfold ACo.doneS
 split
 ·exact h
 ·rename_i e
  have hs:(c.tx t).state≠0:=by omega
  split
  ·exact h.put (x:={ c.tx t with parts:=(c.tx t).parts.set k 5 }) hs ⟨h.since t,h.st hs⟩ _ _
  ·exact h.del t _ _
theorem CGood.recv {K:Nat} {c:ACo} (h:CGood K c) (out:List Msg) (x:Msg):CGood K (jCk c out x).1:=by
 unfold jCk
 split
 ·exact h.doneS _ _
 ·exact h.voted _ _ _
theorem SGood.recv {K:Nat} {s:AShard} (h:SGood K s) (i:Nat) (out:List Msg) (x:Msg):SGood K (jC2 i s out x).1:=by
 unfold jC2
 split
 ·exact h.vote _
 ·split
  ·unfold AShard.commS
   split
   ·exact h.comm _
   ·exact h
  ·exact h.forget _
section
variable {w:World} {B K:Nat} {hps:List Nat} {c:ACo} {co:List Msg} {ss:List (AShard × List Msg)} {Ls:List (List Nat)} {hp i t:Nat} {s:AShard} {out:List Msg}
abbrev NdP (Ls:List (List Nat)) (B:Nat) (hps:List Nat) (c:ACo) (co:List Msg) (ss:List (AShard × List Msg)) (K:Nat) (w w':World):Prop:=(∃ Ls',Nds w' B hps c co ss K Ls')∧NLf B w w'∧∃ L∈Ls,Fr L w w'
theorem jU9 (h:Nds w B hps c co ss K Ls) (hp0:hps[0]?=some hp) :
  Calls Tryz.prog 73 #[.pointer (some ⟨hp,0,none⟩)] w λe w'=>∃ v,e=.returned v∧w'.ownsRow B 157 2 v c.res.length (resV c.res)∧NdP Ls B hps { c with res:=[] } co ss K w w':=by
 obtain ⟨hq,L,e1,h1,hset⟩:=h.coord
 rw [hp0] at e1
 cases e1
 refine (jT1 _ _ _ _ _ _ _ h1).mono ?_
 rintro e w' ⟨v,L',rfl,hr,hn,hf,-⟩
 exact ⟨v,rfl,hr,hset (Nat.le_refl K) hn (h.cg.out _ _) hf⟩
theorem jWa (h:Nds w B hps c co ss K Ls) (hp0:hps[0]?=some hp) (ht:t<18446744073709551616) :
  Calls Tryz.prog 75 #[.pointer (some ⟨hp,0,none⟩),.int .u64 (t:Int)] w λe w'=>e=.returned (.int .i64 ((c.tx t).state:Int))∧w'=w:=by
 obtain ⟨hq,L,e1,h1,-⟩:=h.coord
 rw [hp0] at e1
 cases e1
 exact jVp _ _ _ _ _ _ _ _ h1 ht
theorem kIs0 (h:Nds w B hps c co ss K Ls) (hp0:hps[0]?=some hp):Calls Tryz.prog 21 #[.pointer (some ⟨hp,0,none⟩)] w λe w'=>e=.returned (.bool true)∧w'=w:=by
 obtain ⟨hq,L,e1,h1,-⟩:=h.coord
 rw [hp0] at e1
 cases e1
 exact nIsC _ _ _ _ _ _ _ h1
theorem kIs (h:Nds w B hps c co ss K Ls) (hs:ss[i]?=some (s,out)) (hp0:hps[i+1]?=some hp):Calls Tryz.prog 21 #[.pointer (some ⟨hp,0,none⟩)] w λe w'=>e=.returned (.bool true)∧w'=w:=by
 obtain ⟨hq,L,e1,h1,-,-⟩:=h.shard hs
 rw [hp0] at e1
 cases e1
 exact nIsS _ _ _ _ _ _ _ _ h1
theorem jXj (h:Nds w B hps c co ss K Ls) (hs:ss[i]?=some (s,out)) (hp0:hps[i+1]?=some hp) (hK:K≤300000) :
  Calls Tryz.prog 76 #[.pointer (some ⟨hp,0,none⟩),.int .i64 0] w λe w'=>∃ v,e=.returned (.tuple #[v,.bool true])∧w'.ownsRow w.heap.size 164 2 v (jC3 s.vals).length (jEd (jC3 s.vals))∧Fr [] w w':=by
 obtain ⟨hq,L,e1,h1,-,-⟩:=h.shard hs
 rw [hp0] at e1
 cases e1
 exact jXt _ _ _ _ _ _ _ _ h1 hK
theorem jUl (k:ByteArray) (h:Nds w B hps c co ss K Ls) (hs:ss[i]?=some (s,out)) (hp0:hps[i+1]?=some hp) (hk:k.size≤maxLen) :
  Calls Tryz.prog 26 #[.pointer (some ⟨hp,0,none⟩),.string k] w λe w'=>e=.returned (.tuple #[.string ((jA3 s.vals k).getD ByteArray.empty),.bool (jA3 s.vals k).isSome])∧Fr [] w w':=by
 obtain ⟨hq,L,e1,h1,-,-⟩:=h.shard hs
 rw [hp0] at e1
 cases e1
 exact jX5 _ _ _ _ _ _ _ _ _ h1 hk
theorem jUv (h:Nds w B hps c co ss K Ls) (hp0:hps[0]?=some hp) (hB:2≤B) (hmet:Met w) (hpow:Pows w) (hK:K≤290000) :
  Calls Tryz.prog 11 #[.pointer (some ⟨hp,0,none⟩),jD1 (-1) (-1) 0 0] w λe w'=>e=.returned (.tuple #[.int .u64 (c.begun.2.1:Int),.int .i64 (c.begun.2.2:Int)])∧NdP Ls B hps c.begun.1 co ss (K+1) w w':=by
 obtain ⟨hq,L,e1,h1,hset⟩:=h.coord
 rw [hp0] at e1
 cases e1
 refine (jX4 _ _ _ _ _ _ _ h1 h.cg hB hmet hpow hK).mono ?_
 rintro e w' ⟨rfl,L',hn,hf⟩
 exact ⟨rfl,hset (Nat.le_succ K) hn h.cg.begun hf⟩
theorem jR2 (v:Value) (zs:List Int) (h:Nds w B hps c co ss K Ls) (hp0:hps[0]?=some hp) (ht:t<18446744073709551616) (hB:2≤B) (hmet:Met w) (hpow:Pows w) (hK:K≤290000) (hlen:zs.length≤100) (hpos:0<zs.length) (hz:∀ z∈zs,InI z) (hsrc:∃ b0,w.ownsRow b0 3 1 v zs.length (zsV zs)) :
  Calls Tryz.prog 16 #[.pointer (some ⟨hp,0,none⟩),.int .u64 (t:Int),v,jD1 (-1) (-1) 0 0] w λe w'=>e=.returned (.int .i64 (c.commE t zs:Int))∧NdP Ls B hps (c.commS t zs) co ss (K+1) w w':=by
 obtain ⟨hq,L,e1,h1,hset⟩:=h.coord
 rw [hp0] at e1
 cases e1
 refine (jVy _ _ _ _ _ _ _ _ v zs h1 ht hB hmet hpow hK hlen hpos hz hsrc).mono ?_
 rintro e w' ⟨rfl,L',hn,hf⟩
 exact ⟨rfl,hset (Nat.le_succ K) hn ((h.cg.commS t zs).mono (Nat.le_succ K)) hf⟩
theorem kPut (seq:Int) (k v:ByteArray) (h:Nds w B hps c co ss K Ls) (hs:ss[i]?=some (s,out)) (hp0:hps[i+1]?=some hp) (hB:2≤B) (hmet:Met w) (ht:t<18446744073709551616) (hK:K≤300000) :
  Calls Tryz.prog 15 #[.pointer (some ⟨hp,0,none⟩),.int .u64 (t:Int),.int .i64 seq,.string k,.string v] w λe w'=>e=.returned (.int .i64 ((s.operate t seq k ⟨1,v⟩).2:Int))∧NdP Ls B hps c co (ss.set i ((s.operate t seq k ⟨1,v⟩).1,out)) (K+1) w w':=by
 obtain ⟨hq,L,e1,h1,hg,hset⟩:=h.shard hs
 rw [hp0] at e1
 cases e1
 refine (nPut _ _ _ _ _ _ _ _ _ _ _ v h1 hg hB hmet ht hK).mono ?_
 rintro e w' ⟨rfl,L',hn,hf⟩
 exact ⟨rfl,hset (s':=(_,out)) (Nat.le_succ K) hn (hg.operate t seq k ⟨1,v⟩ sE) hf⟩
theorem kGet (seq:Int) (k:ByteArray) (h:Nds w B hps c co ss K Ls) (hs:ss[i]?=some (s,out)) (hp0:hps[i+1]?=some hp) (hB:2≤B) (hmet:Met w) (ht:t<18446744073709551616) (hk:k.size≤maxLen) (hK:K≤300000) :
  Calls Tryz.prog 13 #[.pointer (some ⟨hp,0,none⟩),.int .u64 (t:Int),.int .i64 seq,.string k] w λe w'=>e=.returned (.tuple #[.string (s.get t seq k).2.1,.bool (s.get t seq k).2.2.1,.int .i64 ((s.get t seq k).2.2.2:Int)])∧NdP Ls B hps c co (ss.set i ((s.get t seq k).1,out)) (K+1) w w':=by
 obtain ⟨hq,L,e1,h1,hg,hset⟩:=h.shard hs
 rw [hp0] at e1
 cases e1
 refine (nGet _ _ _ _ _ _ _ _ _ _ _ h1 hg hB hmet ht hk hK).mono ?_
 rintro e w' ⟨rfl,L',hn,hf⟩
 exact ⟨rfl,hset (s':=(_,out)) (Nat.le_succ K) hn (hg.get t seq k) hf⟩
theorem kRecv (x:Msg) (h:Nds w B hps c co ss K Ls) (hs:ss[i]?=some (s,out)) (hp0:hps[i+1]?=some hp) (hx:x.Ok) (hdst:x.dst=i+1) (hk:x.kind=1∨x.kind=5∨x.kind=6) (he:x.kind=5→s.commE x.txn=0) (hB:2≤B) (hmet:Met w) (hpow:Pows w) (hK:K≤290000) :
  Calls Tryz.prog 72 #[.pointer (some ⟨hp,0,none⟩),.string (str x.bytes),jD1 (-1) (-1) 0 0] w λe w'=>e=.returned (.int .i64 0)∧NdP Ls B hps c co (ss.set i (jC2 (i+1) s out x)) (K+1) w w':=by
 obtain ⟨hq,L,e1,h1,hg,hset⟩:=h.shard hs
 rw [hp0] at e1
 cases e1
 refine (jY9 _ _ _ _ _ _ _ _ x hx hdst hk he h1 hg hB hmet hpow hK).mono ?_
 rintro e w' ⟨rfl,L',hn,hf⟩
 exact ⟨rfl,hset (Nat.le_succ K) hn ((hg.recv _ _ _).mono (Nat.le_succ K)) hf⟩
theorem jXg (x:Msg) (h:Nds w B hps c co ss K Ls) (hp0:hps[0]?=some hp) (hx:x.Ok) (hdst:x.dst=0) (hk:x.kind=2∨x.kind=3∨x.kind=4∨x.kind=7) (hB:2≤B) (hmet:Met w) (hpow:Pows w) (hK:K≤290000) :
  Calls Tryz.prog 72 #[.pointer (some ⟨hp,0,none⟩),.string (str x.bytes),jD1 (-1) (-1) 0 0] w λe w'=>e=.returned (.int .i64 0)∧NdP Ls B hps (jCk c co x).1 (jCk c co x).2 ss (K+1) w w':=by
 obtain ⟨hq,L,e1,h1,hset⟩:=h.coord
 rw [hp0] at e1
 cases e1
 refine (jXw _ _ _ _ _ _ _ x hx hdst hk h1 hB hmet hpow hK).mono ?_
 rintro e w' ⟨rfl,L',hn,hf⟩
 exact ⟨rfl,hset (Nat.le_succ K) hn ((h.cg.recv _ _).mono (Nat.le_succ K)) hf⟩
theorem kSend (h:Nds w B hps c co ss K Ls) (hs:ss[i]?=some (s,out)) (hp0:hps[i+1]?=some hp) (hok:∀ x∈out,x.Ok) (hK:K≤290000) :
  Calls Tryz.prog 34 #[.pointer (some ⟨hp,0,none⟩)] w λe w'=>∃ v,e=.returned v∧w'.ownsRow w.heap.size 9 1 v out.length (msgT out)∧(out=[]→v=.slice none 0 0)∧NdP Ls B hps c co (ss.set i (s,[])) K w w':=by
 obtain ⟨hq,L,e1,h1,hg,hset⟩:=h.shard hs
 rw [hp0] at e1
 cases e1
 refine (jXz _ _ _ _ _ _ _ _ h1 hok hK).mono ?_
 rintro e w' ⟨v,L',rfl,hr,hn,h2,hf⟩
 exact ⟨v,rfl,hr,hn,hset (s':=(s,[])) (Nat.le_refl K) h2 hg hf⟩
theorem jX3 (h:Nds w B hps c co ss K Ls) (hp0:hps[0]?=some hp) (hok:∀ x∈co++jBb c.out,x.Ok) (hK:K≤140000) :
  Calls Tryz.prog 34 #[.pointer (some ⟨hp,0,none⟩)] w λe w'=>∃ v,e=.returned v∧w'.ownsRow w.heap.size 9 1 v (co++jBb c.out).length (msgT (co++jBb c.out))∧(co++jBb c.out=[]→v=.slice none 0 0)∧NdP Ls B hps { c with out:=[] } [] ss K w w':=by
 obtain ⟨hq,L,e1,h1,hset⟩:=h.coord
 rw [hp0] at e1
 cases e1
 refine (jXm _ _ _ _ _ _ _ h1 hok hK).mono ?_
 rintro e w' ⟨v,L',rfl,hr,hn,h2,hf⟩
 exact ⟨v,rfl,hr,hn,hset (Nat.le_refl K) h2 (h.cg.out _ _) hf⟩
end
end Go.Proofs.YtcalalndmcemiaaGreatDoor
