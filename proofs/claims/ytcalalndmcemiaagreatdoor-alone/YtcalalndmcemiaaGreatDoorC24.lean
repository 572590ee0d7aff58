import Derived.Test.YtcalalndmcemiaaGreatDoorC23
set_option maxRecDepth 100000
set_option maxHeartbeats 16000000
namespace Go.Proofs.YtcalalndmcemiaaGreatDoor
open Go.RowKit Go.Maps
open Sc
def jH3 (w:World) (g:Nat) (xs:List Nat):Prop:=∀ (k x:Nat),xs[k]?=some x→w.cell? ⟨g,k,none⟩=some (.int .i64 (x:Int))
structure Rising (xs:List Nat):Prop where
 ne:xs≠[]
 up:xs.Pairwise (· < ·)
 b:∀ x∈xs,1≤x∧x≤8
theorem Rising.len {xs:List Nat} (h:Rising xs):xs.length≤8:=by
 have key:∀ (l:List Nat) (lo:Nat),l.Pairwise (· < ·)→(∀ x∈l,lo<x∧x≤8)→l.length+lo≤8∨l=[]:=by
  intro l
  induction l with
  | nil=>intro lo _ _;exact .inr rfl
  | cons a r ih =>
   intro lo hp hb
   obtain ⟨h1,h2⟩:=List.pairwise_cons.1 hp
   have ha:=hb a sE
   left
   rcases ih a h2 (λx hx=>⟨h1 x hx,(hb x (by simp [hx])).2⟩) with h | h
   ·simp;omega
   ·subst h;simp;omega
 rcases key xs 0 h.up (λx hx=>⟨(h.b x hx).1,(h.b x hx).2⟩) with e | e
 ·omega
 ·subst e;simp
theorem jMm (g cap:Nat) (xs:List Nat) (hr:Rising xs) (w:World) (hx:jH3 w g xs) :
  Calls Tryz.prog 65 #[.slice (some ⟨g,0,none⟩) xs.length cap] w λe w'=>e=.returned (.bool true)∧w'=w:=by
 have HR:Hid (Rising xs):=hr
 have HX:Hid (jH3 w g xs):=hx
 obtain ⟨m,hm⟩:∃ m,m=xs.length:=⟨_,rfl⟩
 have HM:Hid (m=xs.length):=hm
 have hm8:m≤8:=by rw [hm];exact hr.len
 have hm0:0<m:=by rw [hm];exact List.length_pos_iff.2 hr.ne
 rw [← hm]
 clear hr hx hm
 go_enter Tryz.func65,Tryz.ntmps65
 go_wp2
 go_loopw [3,8] (λL i wr=>∃ k y:Nat,k≤m∧i=.int .i64 k∧L=.int .i64 y∧wr=w∧Hid ((k=0→y=0)∧(∀ j,k=j+1→xs[j]?=some y))) (λ_ i _=>m - (intOf i).toNat)
 case atStart=>exact ⟨0,0,Nat.zero_le _,rfl,rfl,rfl,λ_=>rfl,λj hj=>by omega⟩
 case round =>
  obtain ⟨k,y,hk,rfl,rfl,rfl,H⟩:=hrel
  by_cases hlt:k<m
  ·obtain ⟨x,hxk⟩:∃ x,xs[k]?=some x:=⟨_,List.getElem?_eq_getElem (by have:=HM.out;omega)⟩
   have ck:=HX.out k x hxk
   have hb:=HR.out.b x (List.mem_of_getElem? hxk)
   have hyx:y<x:=by
    rcases Nat.eq_zero_or_pos k with e | e
    ·rw [H.out.1 e];omega
    ·obtain ⟨j,rfl⟩:∃ j,k=j+1:=⟨k - 1,by omega⟩
     have h1:=H.out.2 j rfl
     obtain ⟨a1,a2⟩:=List.getElem?_eq_some_iff.1 h1
     obtain ⟨b1,b2⟩:=List.getElem?_eq_some_iff.1 hxk
     have:=List.pairwise_iff_getElem.1 HR.out.up j (j+1) a1 b1 oE
     rw [a2,b2] at this
     exact this
   have i1:¬ (x:Int)≤(y:Int):=by omega
   have i2:¬ (8:Int)<(x:Int):=by omega
   have i3:(k:Int)<(m:Int):=by omega
   have HK:Hid (xs[k]?=some x):=hxk
   clear hxk
   go_wp2
   go_roundw
   case rel =>
    have HJ:∀ j,k+1=j+1→xs[j]?=some x:=λj hj=>by
     have e:j=k:=by omega
     rw [e];exact HK.out
    exact ⟨k+1,x,by omega,by simp,rfl,by simp,λe=>by omega,HJ⟩
   case measure=>simp [intOf];omega
  ·obtain rfl:k=m:=by omega
   have hy:0<y:=by
    obtain ⟨j,hj⟩:∃ j,k=j+1:=⟨k - 1,by omega⟩
    have:=HR.out.b y (List.mem_of_getElem? (H.out.2 j hj))
    omega
   have i1:(0:Int)<(y:Int):=by omega
   have i3:¬ (k:Int)<(k:Int):=by omega
   go_wp2
   go_ret
   exact ⟨by simp,rfl⟩
def jA9 (xs:List Nat) (e:Nat):List Nat:=xs.foldl (λps x=>ps.set x e) [0,0,0,0,0,0,0,0,0]
theorem jLv (xs:List Nat) (x e:Nat):jA9 (xs++[x]) e=(jA9 xs e).set x e:=by simp [jA9]
theorem jDk (xs:List Nat) (e:Nat):(jA9 xs e).length=9:=by
 unfold jA9
 have:∀ (l:List Nat) (ps:List Nat),(l.foldl (λps x=>ps.set x e) ps).length=ps.length:=by
  intro l
  induction l with
  | nil=>intro ps;rfl
  | cons a r ih=>intro ps;rw [List.foldl_cons,ih];simp
 rw [this];rfl
abbrev u8s (ps:List Nat):Array Value:=(ps.map λp:Nat=>Value.int .u8 (p:Int)).toArray
theorem jGk (g cap e0:Nat) (xs:List Nat) (hr:Rising xs) (w:World) (hx:jH3 w g xs) :
  Calls Tryz.prog 66 #[.slice (some ⟨g,0,none⟩) xs.length cap,.int .u8 (e0:Int)] w λe w'=>e=.returned (psV (jA9 xs e0))∧Fr [] w w':=by
 have HR:Hid (Rising xs):=hr
 have hgl:∀ x,xs[0]?=some x→g<w.heap.size:=λx h0=>World.block_lt_of_cell? w _ (hx 0 x h0)
 have HX:Hid (jH3 w g xs):=hx
 obtain ⟨m,hm⟩:∃ m,m=xs.length:=⟨_,rfl⟩
 have HM:Hid (m=xs.length):=hm
 have hm8:m≤8:=by rw [hm];exact hr.len
 have hg:g<w.heap.size:=by
  obtain ⟨x,h0⟩:∃ x,xs[0]?=some x:=⟨_,List.getElem?_eq_getElem (List.length_pos_iff.2 hr.ne)⟩
  exact hgl x h0
 rw [← hm]
 clear hr hx hm hgl
 go_enter Tryz.func66,Tryz.ntmps66
 go_wp2
 obtain ⟨W0,hW0⟩:∃ W0,W0=(w.alloc (.cells #[.int .u8 0,.int .u8 0,.int .u8 0,.int .u8 0,.int .u8 0,.int .u8 0,.int .u8 0,.int .u8 0,.int .u8 0] 126)).alloc (.cells #[.int .u8 0,.int .u8 0,.int .u8 0,.int .u8 0,.int .u8 0,.int .u8 0,.int .u8 0,.int .u8 0,.int .u8 0] 126):=⟨_,rfl⟩
 rw [← hW0]
 have hf0:Fr [] w W0:=by rw [hW0];exact ((Fr.refl [] w).alloc _).alloc _
 have ha0:W0.heap[w.heap.size]?=some (.cells (u8s [0,0,0,0,0,0,0,0,0]) 126 (0,0)):=by rw [hW0,Below.heap_alloc _ _ w.heap.size sE];exact heap_alloc_new w _
 have hb0:W0.heap[w.heap.size+1]?=some (.cells (u8s [0,0,0,0,0,0,0,0,0]) 126 (0,0)):=by
  rw [hW0]
  have:=heap_alloc_new (w.alloc (.cells #[.int .u8 0,.int .u8 0,.int .u8 0,.int .u8 0,.int .u8 0,.int .u8 0,.int .u8 0,.int .u8 0,.int .u8 0] 126)) (.cells #[.int .u8 0,.int .u8 0,.int .u8 0,.int .u8 0,.int .u8 0,.int .u8 0,.int .u8 0,.int .u8 0,.int .u8 0] 126)
  rwa [World.size_alloc] at this
 have HS:Hid (Fr [] w W0∧W0.heap[w.heap.size]?=some (.cells (u8s [0,0,0,0,0,0,0,0,0]) 126 (0,0))∧W0.heap[w.heap.size+1]?=some (.cells (u8s [0,0,0,0,0,0,0,0,0]) 126 (0,0))):=⟨hf0,ha0,hb0⟩
 clear hW0 hf0 ha0 hb0
 go_loopw [10] (λi wr=>∃ k:Nat,k≤m∧i=.int .i64 k∧Hid (Fr [] w wr∧wr.heap[w.heap.size]?=some (.cells (u8s [0,0,0,0,0,0,0,0,0]) 126 (0,0))∧wr.heap[w.heap.size+1]?=some (.cells (u8s (jA9 (xs.take k) e0)) 126 (0,0)))) (λi _=>m - (intOf i).toNat)
 case atStart=>exact ⟨0,Nat.zero_le _,rfl,HS.out⟩
 case round =>
  obtain ⟨k,hk,rfl,H⟩:=hrel
  by_cases hlt:k<m
  ·obtain ⟨x,hxk⟩:∃ x,xs[k]?=some x:=⟨_,List.getElem?_eq_getElem (by have:=HM.out;omega)⟩
   have ck:=(World.cell?_of_block (a:=⟨g,k,none⟩) (H.out.1.block g hg sE)).trans (HX.out k x hxk)
   have hb:=HR.out.b x (List.mem_of_getElem? hxk)
   have hps:=jDk (xs.take k) e0
   have dx:=jA0 H.out.2.2 x
   have fx:=jA2 H.out.2.2 x
   have gx:(u8s (jA9 (xs.take k) e0))[x]?=some (.int .u8 (((jA9 (xs.take k) e0).getD x 0:Nat):Int)):=by
    have e:(jA9 (xs.take k) e0)[x]?=some ((jA9 (xs.take k) e0).getD x 0):=by
     rw [List.getD_eq_getElem?_getD,List.getElem?_eq_getElem oE];rfl
    rw [List.getElem?_toArray,List.getElem?_map,e];rfl
   rw [gx] at dx
   have i3:(k:Int)<(m:Int):=by omega
   have i8:(x:Int)<9:=by omega
   have i0:(0:Int)≤(x:Int):=by omega
   obtain ⟨V,hV⟩:∃ V,V=(jA9 (xs.take k) e0).getD x 0:=⟨_,rfl⟩
   rw [← hV] at dx
   have HN:Hid (Fr [] w (wr.setCell ⟨w.heap.size+1,x,none⟩ (.int .u8 (e0:Int)))∧(wr.setCell ⟨w.heap.size+1,x,none⟩ (.int .u8 (e0:Int))).heap[w.heap.size]?=some (.cells (u8s [0,0,0,0,0,0,0,0,0]) 126 (0,0))∧(wr.setCell ⟨w.heap.size+1,x,none⟩ (.int .u8 (e0:Int))).heap[w.heap.size+1]?=some (.cells (u8s (jA9 (xs.take (k+1)) e0)) 126 (0,0))):=by
    refine ⟨H.out.1.setCell (.inr sE) _,(Below.heap_setCell _ _ _ _ (by show w.heap.size≠w.heap.size+1;omega)).trans H.out.2.1,?_⟩
    have:=jA5 H.out.2.2 x (.int .u8 (e0:Int))
    rw [this]
    have e:xs.take (k+1)=xs.take k++[x]:=by rw [List.take_add_one,hxk];rfl
    rw [e,jLv]
    simp [u8s,List.map_set]
   clear hxk hps gx hV
   go_wp2
   go_roundw
   case rel=>exact ⟨k+1,by omega,by simp,HN.out⟩
   case measure=>simp [intOf];omega
  ·obtain rfl:k=m:=by omega
   have i3:¬ (k:Int)<(k:Int):=by omega
   have hfin:=H.out.2.2
   rw [HM.out,List.take_length] at hfin
   obtain ⟨q0,q1,q2,q3,q4,q5,q6,q7,q8,hq⟩:=nine (jDk xs e0)
   have HQ:Hid (jA9 xs e0=[q0,q1,q2,q3,q4,q5,q6,q7,q8]):=hq
   rw [hq] at hfin
   have c0:=jA0 hfin 0
   have c1:=jA0 hfin 1
   have c2:=jA0 hfin 2
   have c3:=jA0 hfin 3
   have c4:=jA0 hfin 4
   have c5:=jA0 hfin 5
   have c6:=jA0 hfin 6
   have c7:=jA0 hfin 7
   have c8:=jA0 hfin 8
   have ha:=H.out.2.1
   have a0:=jA0 ha 0
   have a1:=jA0 ha 1
   have a2:=jA0 ha 2
   have a3:=jA0 ha 3
   have a4:=jA0 ha 4
   have a5:=jA0 ha 5
   have a6:=jA0 ha 6
   have a7:=jA0 ha 7
   have a8:=jA0 ha 8
   simp [u8s] at c0 c1 c2 c3 c4 c5 c6 c7 c8 a0 a1 a2 a3 a4 a5 a6 a7 a8
   have f0:=jA2 ha 0
   have f1:=jA2 ha 1
   have f2:=jA2 ha 2
   have f3:=jA2 ha 3
   have f4:=jA2 ha 4
   have f5:=jA2 ha 5
   have f6:=jA2 ha 6
   have f7:=jA2 ha 7
   have f8:=jA2 ha 8
   have HFB:Hid (wr.heap[w.heap.size]?=some (.cells (u8s [0,0,0,0,0,0,0,0,0]) 126 (0,0))):=ha
   clear hfin hq ha
   go_wp2
   obtain ⟨W9,hW9⟩:∃ W9,W9=(((((((((wr.setCell ⟨w.heap.size,0,none⟩ (.int .u8 (q0:Int))).setCell ⟨w.heap.size,1,none⟩ (.int .u8 (q1:Int))).setCell ⟨w.heap.size,2,none⟩ (.int .u8 (q2:Int))).setCell ⟨w.heap.size,3,none⟩ (.int .u8 (q3:Int))).setCell ⟨w.heap.size,4,none⟩ (.int .u8 (q4:Int))).setCell ⟨w.heap.size,5,none⟩ (.int .u8 (q5:Int))).setCell ⟨w.heap.size,6,none⟩ (.int .u8 (q6:Int))).setCell ⟨w.heap.size,7,none⟩ (.int .u8 (q7:Int))).setCell ⟨w.heap.size,8,none⟩ (.int .u8 (q8:Int))):=⟨_,rfl⟩
   rw [← hW9]
   have hb9:W9.heap[w.heap.size]?=some (.cells #[.int .u8 (q0:Int),.int .u8 (q1:Int),.int .u8 (q2:Int),.int .u8 (q3:Int),.int .u8 (q4:Int),.int .u8 (q5:Int),.int .u8 (q6:Int),.int .u8 (q7:Int),.int .u8 (q8:Int)] 126 (0,0)):=by
    have:=(jA5 (jA5 (jA5 (jA5 (jA5 (jA5 (jA5 (jA5 (jA5 H.out.2.1 0 (.int .u8 (q0:Int))) 1 (.int .u8 (q1:Int))) 2 (.int .u8 (q2:Int))) 3 (.int .u8 (q3:Int))) 4 (.int .u8 (q4:Int))) 5 (.int .u8 (q5:Int))) 6 (.int .u8 (q6:Int))) 7 (.int .u8 (q7:Int))) 8 (.int .u8 (q8:Int)))
    simp [u8s] at this
    rw [hW9];exact this
   have e0:=jA0 hb9 0
   have e1:=jA0 hb9 1
   have e2:=jA0 hb9 2
   have e3:=jA0 hb9 3
   have e4:=jA0 hb9 4
   have e5:=jA0 hb9 5
   have e6:=jA0 hb9 6
   have e7:=jA0 hb9 7
   have e8:=jA0 hb9 8
   simp at e0 e1 e2 e3 e4 e5 e6 e7 e8
   have hf9:Fr [] w W9:=by rw [hW9];exact (((((((((H.out.1.setCell (.inr (Nat.le_refl _)) _).setCell (.inr (Nat.le_refl _)) _).setCell (.inr (Nat.le_refl _)) _).setCell (.inr (Nat.le_refl _)) _).setCell (.inr (Nat.le_refl _)) _).setCell (.inr (Nat.le_refl _)) _).setCell (.inr (Nat.le_refl _)) _).setCell (.inr (Nat.le_refl _)) _).setCell (.inr (Nat.le_refl _)) _)
   exact bodyPost_ret (v:=.agg #[.int .u8 (q0:Int),.int .u8 (q1:Int),.int .u8 (q2:Int),.int .u8 (q3:Int),.int .u8 (q4:Int),.int .u8 (q5:Int),.int .u8 (q6:Int),.int .u8 (q7:Int),.int .u8 (q8:Int)]) (by simp [results,Tryz.results66,go_sem,e0,e1,e2,e3,e4,e5,e6,e7,e8]) rfl ⟨by rw [HQ.out];rfl,hf9⟩
end Go.Proofs.YtcalalndmcemiaaGreatDoor
set_option maxRecDepth 100000
set_option maxHeartbeats 16000000
namespace Go.Proofs.YtcalalndmcemiaaGreatDoor
open Go.RowKit Go.Maps Go.Shelf
open Sc
theorem jHr {t:ATx} {k p:Nat} (h:t.Ok) (hp:p<256):ATx.Ok { t with parts:=t.parts.set k p } :=
 ⟨by simp [h.1],λx hx=>by
  rcases List.mem_or_eq_of_mem_set hx with e | e
  ·exact h.2 x e
  ·rw [e];exact hp⟩
theorem jRq {xs:List Nat} {e:Nat} (he:e<256):∀ p∈jA9 xs e,p<256:=by
 have:∀ (l ps:List Nat),(∀ p∈ps,p<256)→∀ p∈l.foldl (λps x=>ps.set x e) ps,p<256:=by
  intro l
  induction l with
  | nil=>intro ps h;exact h
  | cons a r ih =>
   intro ps h
   rw [List.foldl_cons]
   refine ih _ (λp hp=>?_)
   rcases List.mem_or_eq_of_mem_set hp with e1 | e1
   ·exact h p e1
   ·rw [e1];exact he
 exact this xs _ dN
theorem jJa (xs:List Nat) (s e z:Nat) (he:e<256):ATx.Ok ⟨s,jA9 xs e,z⟩:=⟨jDk xs e,jRq he⟩
theorem jQf (c:ACo) (t:Nat) (T:ATx):({ c with txns:=jAb c.txns t T }:ACo).tx t=T:=by
 unfold ACo.tx
 rw [jCq,if_pos rfl];rfl
def ACo.asked (c:ACo) (t:Nat) (xs:List Nat):ACo:={ c with txns:=jAb c.txns t ⟨5,jA9 xs 1,c.ticks⟩,out:=c.out++(jB9 isAw (jA9 xs 1)).map λk=>(t,k,1) }
def ACo.aborted (c:ACo) (t:Nat):ACo:={ c with txns:=jAi c.txns t,res:=c.res++[(t,6)],out:=c.out++(jB9 mayP (c.tx t).parts).map λk=>(t,k,6) }
theorem jLx (B cp lg bT n t g cap:Nat) (xs:List Nat) (c:ACo) (w:World) (h:CoIn w B cp lg bT n c) (ht:t<18446744073709551616) (hst:(c.tx t).state=4) (hr:Rising xs) (hx:jH3 w g xs) (hn:n+10<67108864) :
  Calls Tryz.prog 33 #[.pointer (some ⟨cp,0,none⟩),.int .u64 (t:Int),.slice (some ⟨g,0,none⟩) xs.length cap] w λe w'=>e=.returned .nilIface∧CoIn w' B cp lg bT (n+10) (c.asked t xs)∧RFr cp [cp,bT] w w':=by
 have hs:=jCr B cp lg bT n t c w h ht
 rw [hst] at hs
 have hri:=jMm g cap xs hr w hx
 have hpo:=jGk g cap 1 xs hr w.drew hx
 obtain ⟨q0,q1,q2,q3,q4,q5,q6,q7,q8,hq⟩:=nine (jDk xs 1)
 have hlit:psV (jA9 xs 1)=.agg #[.int .u8 (q0:Int),.int .u8 (q1:Int),.int .u8 (q2:Int),.int .u8 (q3:Int),.int .u8 (q4:Int),.int .u8 (q5:Int),.int .u8 (q6:Int),.int .u8 (q7:Int),.int .u8 (q8:Int)]:=by rw [hq];rfl
 rw [hlit] at hpo
 have hput:∀ W,Fr [] w W→∃ w5,(Instr.mapUpdate 118 (.map (some bT)) (.int .u64 (t:Int)) (.agg #[.int .i64 5,.int .u8 (q0:Int),.int .u8 (q1:Int),.int .u8 (q2:Int),.int .u8 (q3:Int),.int .u8 (q4:Int),.int .u8 (q5:Int),.int .u8 (q6:Int),.int .u8 (q7:Int),.int .u8 (q8:Int),.int .u64 (c.ticks:Int),.nilIface])).run Tryz.prog W=.ok () w5∧CoIn w5 B cp lg bT (n+1) { c with txns:=jAb c.txns t ⟨5,jA9 xs 1,c.ticks⟩ }∧Fr [bT] W w5:=by
  intro W hW
  have h2:=h.new hW
  obtain ⟨w5,hr5,hm5,hg5⟩:=h2.txns.putRun Tryz.underlying118 (by unfold maxLen;omega) (k:=t) ht (v:=(⟨5,jA9 xs 1,c.ticks⟩:ATx)) (jJa xs 5 1 c.ticks dN)
  refine ⟨w5,?_,h2.setTxns (Fr.of_grown1 hg5) hm5 oE,Fr.of_grown1 hg5⟩
  have e:(EX.ev ⟨5,jA9 xs 1,c.ticks⟩:Value)=txV ⟨5,jA9 xs 1,c.ticks⟩:=rfl
  rw [e,hq,jAl] at hr5
  exact hr5
 obtain ⟨rv,ov,h1,_⟩:=h.ex
 have c1:=jA0 h1 1
 have c4:=jA0 h1 4
 simp at c1 c4
 have hcl:=h.lts
 have HP:=jA1 hput
 have HS:=jA1 (λ(W:World) (hW:CoIn W B cp lg bT (n+1) { c with txns:=jAb c.txns t ⟨5,jA9 xs 1,c.ticks⟩ })=>jJ0 B cp lg bT (n+1) t 68 isAw jRy jM2 1 { c with txns:=jAb c.txns t ⟨5,jA9 xs 1,c.ticks⟩ } W hW ht oE)
 clear hput hlit hq h1 hx h
 go_enter Tryz.func33,Tryz.ntmps33
 go_wp2_with fail
 refine hs.mono ?_
 clear hs
 rintro e w1 ⟨rfl,hw1⟩
 subst hw1
 go_wp2_with fail
 refine hri.mono ?_
 clear hri
 rintro e w2 ⟨rfl,hw2⟩
 subst hw2
 go_wp2
 go_region_held3 (λw'=>w'.cell? ⟨cp,1,none⟩=some (.map (some bT))∧w'.cell? ⟨cp,4,none⟩=some (.int .u64 (c.ticks:Int)))
  (simp [*])
  (first | (go_at_call 66;refine hpo.mono ?_;rintro e w4 ⟨rfl,hf4⟩;have z1:=(World.cell?_of_block (a:=⟨cp,1,none⟩) (hf4.block cp hcl.1 (by simp))).trans c1;have z4:=(World.cell?_of_block (a:=⟨cp,4,none⟩) (hf4.block cp hcl.1 (by simp))).trans c4;obtain ⟨w5,hr5,hc5,hf5⟩:=HP.out w4 ⟨hf4.os,hf4.tape,hf4.output,hf4.size,hf4.block⟩;have y1:=(World.cell?_of_block (a:=⟨cp,1,none⟩) (hf5.block cp (Nat.lt_of_lt_of_le hcl.1 hf4.size) (by simpa using hcl.2.2))).trans z1;have y4:=(World.cell?_of_block (a:=⟨cp,4,none⟩) (hf5.block cp (Nat.lt_of_lt_of_le hcl.1 hf4.size) (by simpa using hcl.2.2))).trans z4;have H5:=jA1 (And.intro hc5 (And.intro hf4 hf5));clear hc5 hf4 hf5))
 have hse:=HS.out w5 H5.out.1
 go_wp2_with fail
 refine hse.mono ?_
 clear hse
 rintro e w6 ⟨rfl,hc6,hf6⟩
 have HN:=jA1 (show CoIn w6 B cp lg bT (n+10) (c.asked t xs)∧RFr cp [cp,bT] w2 w6 from ⟨by rw [jQf] at hc6;exact hc6.mono oE,by
  have k1:Fr [] w2 w4:=⟨H5.out.2.1.os,H5.out.2.1.tape,H5.out.2.1.output,H5.out.2.1.size,H5.out.2.1.block⟩
  have k2:RFr cp [cp,bT] w2 w4:=k1.r hcl.1 sE sE
  have k3:RFr cp [cp,bT] w4 w5:=H5.out.2.2.r (Nat.lt_of_lt_of_le hcl.1 k1.size) (by simpa using hcl.2.2) sE
  exact RFr.trans (RFr.trans k2 k3) (RFr.mono hf6 sE)⟩)
 clear hc6 hf6
 go_wp2
 go_ret
 exact ⟨rfl,HN.out⟩
theorem jQ6 {K V:Type} [DecidableEq K] (l:List (K × V)) (k:K) (v:V):jAi (jAb l k v) k=jAi l k:=by
 unfold jAb jAi
 simp
theorem jOc (B cp lg bT n t:Nat) (c:ACo) (w:World) (h:CoIn w B cp lg bT n c) (ht:t<18446744073709551616) (hn:n+10<67108864) :
  Calls Tryz.prog 182 #[.pointer (some ⟨cp,0,none⟩),.int .u64 (t:Int)] w λe w'=>e=.returned (.tuple #[])∧CoIn w' B cp lg bT (n+10) (c.aborted t)∧RFr cp [cp,bT] w w':=by
 have hb:=jFf B cp lg bT n t 6 c w h oE
 clear h
 go_enter Tryz.func182,Tryz.ntmps182
 go_wp2_with fail
 refine hb.mono ?_
 clear hb
 rintro e w1 ⟨rfl,hc1,hf1⟩
 have hs:=jJ0 B cp lg bT (n+1) t 230 mayP jX6 jVa 6 { c with res:=c.res++[(t,6)] } w1 hc1 ht oE
 have H1:=jA1 hf1
 clear hc1 hf1
 go_wp2_with fail
 refine hs.mono ?_
 clear hs
 rintro e w2 ⟨rfl,hc2,hf2⟩
 obtain ⟨rv,ov,h1,_⟩:=hc2.ex
 have c1:=jA0 h1 1
 simp at c1
 obtain ⟨c2,hcc2⟩:∃ c2:ACo,c2={ c with res:=c.res++[(t,6)],out:=c.out++(jB9 mayP (c.tx t).parts).map λk=>(t,k,6) }:=⟨_,rfl⟩
 have hc2':CoIn w2 B cp lg bT (n+1+9) c2:=by rw [hcc2];exact hc2
 have H2:=jA1 (show CoIn w2 B cp lg bT (n+1+9) c2∧RFr cp [cp] w w2 from ⟨hc2',RFr.trans H1.out hf2⟩)
 have HC2:=jA1 hcc2
 clear hc2 hc2' hcc2 hf2 h1
 go_wp2_with (first
  | (at_delete;refine jBx (KR:=KU) (ER:=EX) rfl _ _ 118 128 rfl Tryz.underlying118 bT (n+1+9) c2.txns rfl H2.out.1.txns t ht rfl ?_;intro w3 hm3 hg3)
  | fail)
 have hin3:=H2.out.1.setTxns (Fr.of_grown1 hg3) hm3 (Nat.le_refl _)
 go_end0
 refine ⟨rfl,?_,RFr.trans (RFr.mono H2.out.2 sE) ((Fr.of_grown1 hg3).r H2.out.1.lts.1 (by simpa using H2.out.1.lts.2.2) sE)⟩
 have:=hin3.mono (m:=n+10) oE
 rw [HC2.out] at this
 exact this
theorem jKi (B cp lg bT n t:Nat) (c:ACo) (T:ATx) (hok:T.Ok) (hno:T.parts.any hasY=false) (w:World) (h:CoIn w B cp lg bT n c) (ht:t<18446744073709551616) (hn:n+10<67108864) :
  Calls Tryz.prog 282 #[.pointer (some ⟨cp,0,none⟩),.int .u64 (t:Int),txV T] w λe w'=>e=.returned .nilIface∧CoIn w' B cp lg bT (n+10) { c with txns:=jAi c.txns t,res:=c.res++[(t,5)] }∧RFr cp [cp,bT] w w':=by
 have hha:=λW=>jFb 237 hasY jRk jLp T hok W
 rw [hno] at hha
 have HH:=jA1 hha
 obtain ⟨s,ps,z⟩:=T
 obtain ⟨p0,p1,p2,p3,p4,p5,p6,p7,p8,hps⟩:=nine hok.1
 change ps=_ at hps
 subst hps
 rw [jAl]
 obtain ⟨W0,hW0⟩:∃ W0,W0=w.alloc (.cells #[.int .i64 (s:Int),.int .u8 (p0:Int),.int .u8 (p1:Int),.int .u8 (p2:Int),.int .u8 (p3:Int),.int .u8 (p4:Int),.int .u8 (p5:Int),.int .u8 (p6:Int),.int .u8 (p7:Int),.int .u8 (p8:Int),.int .u64 (z:Int),.nilIface] 128):=⟨_,rfl⟩
 have hf0:Fr [] w W0:=by rw [hW0];exact (Fr.refl [] w).alloc _
 have hh0:=HH.out W0
 rw [jAl] at hh0
 have HL:Hid (cp<w.heap.size):=h.lts.1
 have H0:=jA1 (show CoIn W0 B cp lg bT n c∧Fr [] w W0 from ⟨h.new hf0,hf0⟩)
 clear hha h hf0 hno hok
 go_enter Tryz.func282,Tryz.ntmps282
 go_wp2_with fail
 rw [← hW0]
 clear hW0
 refine hh0.mono ?_
 clear hh0
 rintro e w1 ⟨rfl,hf1⟩
 have hb:=jFf B cp lg bT n t 5 c w1 (H0.out.1.new hf1) oE
 have H1:=jA1 (H0.out.2.trans hf1)
 clear hf1
 go_wp2_with fail
 refine hb.mono ?_
 clear hb
 rintro e w2 ⟨rfl,hc2,hf2⟩
 obtain ⟨rv,ov,h1,_⟩:=hc2.ex
 have c1:=jA0 h1 1
 simp at c1
 have H2:=jA1 (show CoIn w2 B cp lg bT (n+1) { c with res:=c.res++[(t,5)] }∧RFr cp [cp] w w2 from ⟨hc2,RFr.trans (H1.out.r HL.out sE sE) hf2⟩)
 clear hc2 hf2 h1
 go_wp2_with (first
  | (at_delete;refine jBx (KR:=KU) (ER:=EX) rfl _ _ 118 128 rfl Tryz.underlying118 bT (n+1) c.txns rfl H2.out.1.txns t ht rfl ?_;intro w3 hm3 hg3)
  | fail)
 have hin3:=H2.out.1.setTxns (Fr.of_grown1 hg3) hm3 (Nat.le_refl _)
 have H3:=jA1 (show CoIn w3 B cp lg bT (n+10) { c with txns:=jAi c.txns t,res:=c.res++[(t,5)] }∧RFr cp [cp,bT] w w3 from ⟨hin3.mono oE,RFr.trans (RFr.mono H2.out.2 sE) ((Fr.of_grown1 hg3).r H2.out.1.lts.1 (by simpa using H2.out.1.lts.2.2) sE)⟩)
 clear hin3 hm3 hg3
 go_wp2
 go_ret
 exact ⟨rfl,H3.out⟩
end Go.Proofs.YtcalalndmcemiaaGreatDoor
set_option maxRecDepth 100000
set_option maxHeartbeats 16000000
namespace Go.Proofs.YtcalalndmcemiaaGreatDoor
open Go.RowKit Go.Maps
open Sc
structure IFr (B:Nat) (w w':World):Prop where
 below:Below B w w'
 fall:∀ (k:Nat) (a b c d:Int),w.heap[k]?=some (jDj a b c d)→w'.heap[k]?=some (jDj a b c d)
 ints:∀ (k:Nat) (c:Array Value),w.heap[k]?=some (.cells c 3 (0,0))→w'.heap[k]?=some (.cells c 3 (0,0))
theorem IFr.pows {B:Nat} {w w':World} (h:IFr B w w') (hB:2≤B) (hm:Pows w):Pows w':=hm.of_block (h.below.block 1 oE)
structure CFr (cp bT lp p:Nat) (w w':World):Prop where
 os:w'.os=w.os
 tape:w'.tape=w.tape
 output:w'.output=w.output
 size:w.heap.size≤w'.heap.size
 block:∀ k,k<w.heap.size→¬ Own lp p w k→k∉[cp,bT]→k∉rd cp w→w'.heap[k]?=w.heap[k]?
 stay:∀ k,k<w.heap.size→Own lp p w' k→Own lp p w k
 own:∀ k,k<w.heap.size→k∈rd cp w'→k∈rd cp w
theorem CFr.trans {cp bT lp p:Nat} {a b c:World} (h:CFr cp bT lp p a b) (k:CFr cp bT lp p b c):CFr cp bT lp p a c :=
 ⟨k.os.trans h.os,k.tape.trans h.tape,k.output.trans h.output,Nat.le_trans h.size k.size,
  λi hi hn hm hr=>(k.block i (Nat.lt_of_lt_of_le hi h.size) (λho=>hn (h.stay i hi ho)) hm (λhx=>hr (h.own i hi hx))).trans (h.block i hi hn hm hr),
  λi hi ho=>h.stay i hi (k.stay i (Nat.lt_of_lt_of_le hi h.size) ho),λi hi ho=>h.own i hi (k.own i (Nat.lt_of_lt_of_le hi h.size) ho)⟩
structure CL (w:World) (B cp gp bT m lp p bD bN n:Nat) (c:ACo) (l:ALog) (d:ADisk):Prop where
 co:CoIn w B cp gp bT m c
 lg:∃ pv sv rv nD nN,LogIn w B lp p bD bN pv sv rv l d n nD nN
 led:w.heap[gp]?=some (ledO lp)
 ne:bT≠bD∧bT≠bN
 gp1:1≤gp
section
variable {w w':World} {B cp gp bT m m' lp p bD bN n n':Nat} {c c':ACo} {l l':ALog} {d d':ADisk}
theorem CL.free (h:CL w B cp gp bT m lp p bD bN n c l d):∀ k,k∈[cp,bT,gp]++rd cp w→¬ Own lp p w k∧∀ t,w.heap[k]?≠some (jBc t):=by
 obtain ⟨pv,sv,rv,nD,nN,hl⟩:=h.lg
 obtain ⟨cs,hcp⟩:=h.co.isCo
 intro k hk
 rcases List.mem_append.1 hk with hk | hk
 ·simp at hk
  rcases hk with rfl | rfl | rfl
  ·exact ⟨hl.free hcp dN dN dN dN dN,λt e=>by rw [hcp] at e;cases e⟩
  ·exact ⟨hl.freeMap h.co.txns.isMap h.ne.1 h.ne.2,λt e=>by obtain ⟨es,c,e2⟩:=h.co.txns.isMap;rw [e2] at e;cases e⟩
  ·exact ⟨hl.free h.led dN dN dN dN dN,λt e=>by rw [h.led] at e;cases e⟩
 ·obtain ⟨_,cc,t,e,ht⟩:=h.co.rdm hk
  rcases ht with rfl | rfl
  ·exact ⟨hl.free e dN dN dN dN dN,λt e2=>by rw [e] at e2;cases e2⟩
  ·exact ⟨hl.free e dN dN dN dN dN,λt e2=>by rw [e] at e2;cases e2⟩
theorem CL.turn (h:CL w B cp gp bT m lp p bD bN n c l d) (hc:CoIn w' B cp gp bT m' c') (hf:RFr cp [cp,bT] w w'):CL w' B cp gp bT m' lp p bD bN n c' l d∧CFr cp bT lp p w w':=by
 obtain ⟨pv,sv,rv,nD,nN,hl⟩:=h.lg
 have h1:=hl.apart hf.fr (λk hk _=>h.free k (by
  rcases List.mem_append.1 hk with e | e
  ·simp at e;rcases e with e | e <;> simp [e]
  ·exact List.mem_append_right _ e))
 have hg:gp∉[cp,bT]++rd cp w:=by
  intro hm
  rcases List.mem_append.1 hm with e | e
  ·simp at e
   have hled:=h.led
   rcases e with e | e
   ·obtain ⟨cs,hcp⟩:=h.co.isCo;rw [e,hcp] at hled;cases hled
   ·obtain ⟨es,c,e2⟩:=h.co.txns.isMap;rw [e,e2] at hled;cases hled
  ·exact h.co.rd_not h.led dN dN e
 refine ⟨⟨hc,⟨pv,sv,rv,nD,nN,h1⟩,(hf.fr.block gp (Array.getElem?_eq_some_iff.1 h.led).1 hg).trans h.led,h.ne,h.gp1⟩,hf.fr.os,hf.fr.tape,hf.fr.output,hf.fr.size,λk hk _ hm hr=>hf.block hk hm hr,λk _ ho=>?_,hf.stay⟩
 rw [hl.own]
 exact (h1.own k).1 ho
theorem CL.new (h:CL w B cp gp bT m lp p bD bN n c l d) (hf:Fr [] w w'):CL w' B cp gp bT m lp p bD bN n c l d∧CFr cp bT lp p w w' :=
 h.turn (h.co.new hf) (hf.r h.co.lts.1 sE sE)
theorem CL.log (h:CL w B cp gp bT m lp p bD bN n c l d) (hf:OFr lp p w w') (hl:∃ pv sv rv nD nN,LogIn w' B lp p bD bN pv sv rv l' d' n' nD nN):CL w' B cp gp bT m lp p bD bN n' c l' d'∧CFr cp bT lp p w w':=by
 have hfree:=h.free
 obtain ⟨rv,ov,h1,h2,h3,h4,h5⟩:=h.co.ex
 have hcp2:w'.heap[cp]?=w.heap[cp]?:=hf.block cp h.co.lts.1 (hfree cp sE).1
 have row:∀ {e:TypeId} {k m:Nat} {v:Value} {xs:List Value},w.ownsRow B e k v m xs→(∀ g,v.ownBlock=some g→g∈rd cp w)→w'.ownsRow B e k v m xs:=by
  intro e k m v xs hr he
  refine ⟨hr.1,?_⟩
  rcases hr.2 with h1 | ⟨g,cap,cur,rfl,h2,h3,h4⟩
  ·exact .inl h1
  ·exact .inr ⟨g,cap,cur,rfl,h2,(hf.block g (Array.getElem?_eq_some_iff.1 h3).1 (hfree g (List.mem_append_right _ (he g rfl))).1).trans h3,h4⟩
 have hT:MapAs KU EX w' bT m c.txns:=by
  have hlt:=h.co.txns.lt
  obtain ⟨es,⟨es',c2,h1,h2⟩,r⟩:=h.co.txns
  exact ⟨es,⟨es',c2,(hf.block bT hlt (hfree bT sE).1).trans h1,h2⟩,r⟩
 refine ⟨⟨⟨⟨rv,ov,hcp2.trans h1,row h2 (λg hg=>by unfold rd rdO;rw [h1];simp [hg]),row h3 (λg hg=>by unfold rd rdO;rw [h1];simp [hg]),h4,h5⟩,hT,⟨h.co.low.1,h.co.low.2.1,Nat.le_trans h.co.low.2.2 hf.size⟩,h.co.nums⟩,hl,(hf.block gp (Array.getElem?_eq_some_iff.1 h.led).1 (hfree gp sE).1).trans h.led,h.ne,h.gp1⟩,hf.os,hf.tape,hf.output,hf.size,λi hi hn _ _=>hf.block i hi hn,hf.stay,λk _ hm=>by rw [jH4 hcp2] at hm;exact hm⟩
theorem CFr.cells (hf:CFr cp bT lp p w w') (h:CL w B cp gp bT m lp p bD bN n c l d) {k:Nat} {cc:Array Value} {t:TypeId} (hk:w.heap[k]?=some (.cells cc t (0,0))) (h1:t≠96) (h2:t≠182) (h3:t≠222) (h4:t≠43) (h5:t≠110) (h6:t≠122) (h7:t≠157) (h8:t≠207):w'.heap[k]?=some (.cells cc t (0,0)):=by
 obtain ⟨pv,sv,rv,nD,nN,hl⟩:=h.lg
 refine (hf.block k (Array.getElem?_eq_some_iff.1 hk).1 (hl.free hk h1 h2 h3 h4 h5) ?_ (h.co.rd_not hk h7 h8)).trans hk
 intro hm
 simp at hm
 rcases hm with e | e
 ·obtain ⟨cs,hcp⟩:=h.co.isCo;rw [e,hcp] at hk;cases hk;exact h6 rfl
 ·obtain ⟨es,c2,e2⟩:=h.co.txns.isMap;rw [e,e2] at hk;cases hk
end
section
variable {w w':World} {B cp gp bT m m' lp p bD bN n n':Nat} {c c':ACo} {l l':ALog} {d d':ADisk}
theorem CFr.hfr (hf:CFr cp bT lp p w w') (h:CL w B cp gp bT m lp p bD bN n c l d):IFr B w w':=by
 obtain ⟨pv,sv,rv,nD,nN,hl⟩:=h.lg
 exact ⟨⟨hf.os,hf.tape,hf.output,hf.size,λk hk=>hf.block k (Nat.lt_of_lt_of_le hk hl.disk.base.2.2.2) (λho=>by have:=hl.ge ho;omega) (by have:=h.co.low;simp;omega) (λhm=>by have:=(h.co.rdm hm).1;omega)⟩,λk a b x y hk=>hf.cells h hk dN dN dN dN dN dN dN dN,λk x hk=>hf.cells h hk dN dN dN dN dN dN dN dN⟩
theorem CL.knob (h:CL w B cp gp bT m lp p bD bN n c l d) (a b:Int) (hf:Fr [p] w w') {pv:Value} (hb:w'.heap[p]?=some (dskO bD bN pv a b d.down)) (hb0:w.heap[p]?=some (dskO bD bN pv d.left d.full d.down)) :
  CL w' B cp gp bT m lp p bD bN n c l (d.knob a b)∧CFr cp bT lp p w w':=by
 obtain ⟨pv',sv,rv,nD,nN,hl⟩:=h.lg
 have e:pv'=pv:=by have:=hl.disk.blk;rw [hb0] at this;cases this;rfl
 subst e
 obtain ⟨h1,h2⟩:=hl.knob a b hf hb
 exact h.log h2 ⟨_,_,_,_,_,h1⟩
theorem CL.other {q:Nat} {cc:Array Value} {t:TypeId} (h:CL w B cp gp bT m lp p bD bN n c l d) (hf:Fr [q] w w') (hq:w.heap[q]?=some (.cells cc t (0,0))) (h1:t≠96) (h2:t≠182) (h3:t≠222) (h4:t≠43) (h5:t≠110) (h6:t≠9) (h7:t≠122) (h8:t≠244) (h9:t≠157) (h10:t≠207):CL w' B cp gp bT m lp p bD bN n c l d:=by
 obtain ⟨pv,sv,rv,nD,nN,hl⟩:=h.lg
 obtain ⟨cs,hcp⟩:=h.co.isCo
 have n1:q≠cp:=by intro e;rw [e,hcp] at hq;cases hq;exact h7 rfl
 have n3:q≠bT:=by intro e;obtain ⟨es,c2,e2⟩:=h.co.txns.isMap;rw [e,e2] at hq;cases hq
 have n5:gp≠q:=by intro e;have:=h.led;rw [e,hq] at this;cases this;exact h8 rfl
 exact ⟨h.co.fr hf (λk hk=>by simp at hk;subst hk;exact ⟨n1,n3,h.co.rd_not hq h9 h10⟩),⟨_,_,_,_,_,hl.other hf hq h1 h2 h3 h4 h5 h6⟩,(hf.block gp (Array.getElem?_eq_some_iff.1 h.led).1 (by simpa using n5)).trans h.led,h.ne,h.gp1⟩
theorem CL.otherF {q:Nat} {cc:Array Value} {t:TypeId} (h:CL w B cp gp bT m lp p bD bN n c l d) (hf:Fr [q] w w') (hq:w.heap[q]?=some (.cells cc t (0,0))) (h1:t≠96) (h2:t≠182) (h3:t≠222) (h4:t≠43) (h5:t≠110) (h6:t≠9) (h7:t≠122) (h8:t≠244) (h9:t≠157) (h10:t≠207):CL w' B cp gp bT m lp p bD bN n c l d∧∀ k,Own lp p w' k→Own lp p w k:=by
 refine ⟨h.other hf hq h1 h2 h3 h4 h5 h6 h7 h8 h9 h10,λk ho=>?_⟩
 obtain ⟨pv,sv,rv,nD,nN,hl⟩:=h.lg
 rw [hl.own]
 exact ((hl.other hf hq h1 h2 h3 h4 h5 h6).own k).1 ho
theorem CFr.young {w0:World} {q:Nat} (h:CFr cp bT lp p w0 w) (hf:Fr [q] w w') (hq:w0.heap.size≤q) (ho:∀ k,Own lp p w' k→Own lp p w k) (hc:w'.heap[cp]?=w.heap[cp]?):CFr cp bT lp p w0 w' :=
 ⟨hf.os.trans h.os,hf.tape.trans h.tape,hf.output.trans h.output,Nat.le_trans h.size hf.size,λk hk h1 h2 h3=>(hf.block k (Nat.lt_of_lt_of_le hk h.size) (by simp;omega)).trans (h.block k hk h1 h2 h3),λk hk hw=>h.stay k hk (ho k hw),λk hk hw=>h.own k hk (by rw [jH4 hc] at hw;exact hw)⟩
end
end Go.Proofs.YtcalalndmcemiaaGreatDoor
set_option maxRecDepth 100000
set_option maxHeartbeats 16000000
namespace Go.Proofs.YtcalalndmcemiaaGreatDoor
open Go.RowKit Go.Maps Go.Shelf
open Sc
theorem tx12 {w:World} {s:Int} {b p0 p1 p2 p3 p4 p5 p6 p7 p8 z:Nat} (h:w.heap[b]?=some (.cells #[.int .i64 s,.int .u8 (p0:Int),.int .u8 (p1:Int),.int .u8 (p2:Int),.int .u8 (p3:Int),.int .u8 (p4:Int),.int .u8 (p5:Int),.int .u8 (p6:Int),.int .u8 (p7:Int),.int .u8 (p8:Int),.int .u64 (z:Int),.nilIface] 128 (0,0))):w.cell? ⟨b,0,none⟩=some (.int .i64 s)∧w.cell? ⟨b,1,none⟩=some (.int .u8 (p0:Int))∧w.cell? ⟨b,2,none⟩=some (.int .u8 (p1:Int))∧w.cell? ⟨b,3,none⟩=some (.int .u8 (p2:Int))∧w.cell? ⟨b,4,none⟩=some (.int .u8 (p3:Int))∧w.cell? ⟨b,5,none⟩=some (.int .u8 (p4:Int))∧w.cell? ⟨b,6,none⟩=some (.int .u8 (p5:Int))∧w.cell? ⟨b,7,none⟩=some (.int .u8 (p6:Int))∧w.cell? ⟨b,8,none⟩=some (.int .u8 (p7:Int))∧w.cell? ⟨b,9,none⟩=some (.int .u8 (p8:Int))∧w.cell? ⟨b,10,none⟩=some (.int .u64 (z:Int))∧w.cell? ⟨b,11,none⟩=some (.nilIface):=by
 have e0:=jA0 h 0
 have e1:=jA0 h 1
 have e2:=jA0 h 2
 have e3:=jA0 h 3
 have e4:=jA0 h 4
 have e5:=jA0 h 5
 have e6:=jA0 h 6
 have e7:=jA0 h 7
 have e8:=jA0 h 8
 have e9:=jA0 h 9
 have e10:=jA0 h 10
 have e11:=jA0 h 11
 simp at e0 e1 e2 e3 e4 e5 e6 e7 e8 e9 e10 e11
 exact ⟨e0,e1,e2,e3,e4,e5,e6,e7,e8,e9,e10,e11⟩
def ACo.comm (c:ACo) (t:Nat) (T:ATx):ACo:={ c with txns:=jAb c.txns t T,res:=c.res++[(t,5)],out:=c.out++(jB9 jDf T.parts).map λk=>(t,k,5) }
theorem jM5 (B cp gp bT m lp p bD bN n t:Nat) (c:ACo) (l:ALog) (d:ADisk) (T:ATx) (hok:T.Ok) (hyes:T.parts.any hasY=true) (w:World) (h:CL w B cp gp bT m lp p bD bN n c l d) (ht:t<18446744073709551616) (hm:m+20<67108864) (hn:n+3<67108864) (hB:2≤B) (hsg:l.filled<600→l.segs≠[]) (hpow:Pows w)
  (hke:(l.keep d 2 (str (be 8 t++jB9 hasY T.parts))).2.2=0) :
  Calls Tryz.prog 282 #[.pointer (some ⟨cp,0,none⟩),.int .u64 (t:Int),txV T] w λe w'=>e=.returned .nilIface∧CL w' B cp gp bT (m+11) lp p bD bN (n+3) (c.comm t { T with state:=6 }) (l.keep d 2 (str (be 8 t++jB9 hasY T.parts))).1 (l.keep d 2 (str (be 8 t++jB9 hasY T.parts))).2.1∧CFr cp bT lp p w w':=by
 have HH:=jA1 (λW=>(jFb 237 hasY jRk jLp T hok W))
 have HE:=jA1 (λW=>jHc t T hok W ht)
 obtain ⟨S,hS⟩:∃ S,S=str (be 8 t++jB9 hasY T.parts):=⟨_,rfl⟩
 rw [← hS] at HE hke ⊢
 rw [hyes] at HH
 have hok6:ATx.Ok { T with state:=6 }:=hok
 obtain ⟨T6,hT6⟩:∃ T6:ATx,T6={ T with state:=6 }:=⟨_,rfl⟩
 rw [← hT6] at hok6 ⊢
 have HT6:=jA1 hT6
 clear hS hyes hT6
 obtain ⟨s,ps,z⟩:=T
 obtain ⟨p0,p1,p2,p3,p4,p5,p6,p7,p8,hps⟩:=nine hok.1
 change ps=_ at hps
 subst hps
 rw [jAl] at HH HE ⊢
 have hT6:T6=⟨6,[p0,p1,p2,p3,p4,p5,p6,p7,p8],z⟩:=HT6.out
 have HPUT:=jA1 (λ(W:World) (m':Nat) (h2:CoIn W B cp gp bT m' c) (hm':m' < maxLen)=>(by
  obtain ⟨w5,hr5,hm5,hg5⟩:=h2.txns.putRun Tryz.underlying118 hm' (k:=t) ht (v:=T6) hok6
  refine ⟨w5,?_,h2.setTxns (Fr.of_grown1 hg5) hm5 oE,Fr.of_grown1 hg5⟩
  have e:(EX.ev T6:Value)=txV T6:=rfl
  rw [e,hT6,jAl] at hr5
  exact hr5:∃ w5,(Instr.mapUpdate 118 (.map (some bT)) (.int .u64 (t:Int)) (.agg #[.int .i64 6,.int .u8 (p0:Int),.int .u8 (p1:Int),.int .u8 (p2:Int),.int .u8 (p3:Int),.int .u8 (p4:Int),.int .u8 (p5:Int),.int .u8 (p6:Int),.int .u8 (p7:Int),.int .u8 (p8:Int),.int .u64 (z:Int),.nilIface])).run Tryz.prog W=.ok () w5∧CoIn w5 B cp gp bT (m' + 1) { c with txns:=jAb c.txns t T6 }∧Fr [bT] W w5))
 obtain ⟨W0,hW0⟩:∃ W0,W0=w.alloc (.cells #[.int .i64 (s:Int),.int .u8 (p0:Int),.int .u8 (p1:Int),.int .u8 (p2:Int),.int .u8 (p3:Int),.int .u8 (p4:Int),.int .u8 (p5:Int),.int .u8 (p6:Int),.int .u8 (p7:Int),.int .u8 (p8:Int),.int .u64 (z:Int),.nilIface] 128):=⟨_,rfl⟩
 have hf0:Fr [] w W0:=by rw [hW0];exact (Fr.refl [] w).alloc _
 obtain ⟨hc0,hx0⟩:=h.new hf0
 have r0:W0.heap[w.heap.size]?=some (.cells #[.int .i64 (s:Int),.int .u8 (p0:Int),.int .u8 (p1:Int),.int .u8 (p2:Int),.int .u8 (p3:Int),.int .u8 (p4:Int),.int .u8 (p5:Int),.int .u8 (p6:Int),.int .u8 (p7:Int),.int .u8 (p8:Int),.int .u64 (z:Int),.nilIface] 128 (0,0)):=by rw [hW0];exact heap_alloc_new w _
 have hh0:=HH.out W0
 have hgp:=h.gp1
 have H0:=jA1 (show CL W0 B cp gp bT m lp p bD bN n c l d∧CFr cp bT lp p w W0∧W0.heap[w.heap.size]?=some (.cells #[.int .i64 (s:Int),.int .u8 (p0:Int),.int .u8 (p1:Int),.int .u8 (p2:Int),.int .u8 (p3:Int),.int .u8 (p4:Int),.int .u8 (p5:Int),.int .u8 (p6:Int),.int .u8 (p7:Int),.int .u8 (p8:Int),.int .u64 (z:Int),.nilIface] 128 (0,0))∧Pows W0 from ⟨hc0,hx0,r0,(hx0.hfr h).pows hB hpow⟩)
 obtain ⟨y0,y1,y2,y3,y4,y5,y6,y7,y8,y9,ya,yb⟩:=tx12 r0
 rw [hW0] at y0 y1 y2 y3 y4 y5 y6 y7 y8 y9 ya yb
 clear h hf0 hc0 hx0 r0 hok hpow
 go_enter Tryz.func282,Tryz.ntmps282
 go_wp2_with fail
 rw [← hW0]
 clear hW0 y0 y1 y2 y3 y4 y5 y6 y7 y8 y9 ya yb
 refine hh0.mono ?_
 clear hh0
 rintro e w1 ⟨rfl,hf1⟩
 obtain ⟨hc1,hx1⟩:=H0.out.1.new hf1
 have r1:=(hf1.block w.heap.size (Array.getElem?_eq_some_iff.1 H0.out.2.2.1).1 sE).trans H0.out.2.2.1
 obtain ⟨e0,e1,e2,e3,e4,e5,e6,e7,e8,e9,e10,e11⟩:=tx12 r1
 obtain ⟨rv,ov,g1,_⟩:=hc1.co.ex
 have c0:=jA0 g1 0
 simp at c0
 rw [jB8 hgp] at c0
 have hce:=HE.out w1.drew
 have H1:=jA1 (show CL w1 B cp gp bT m lp p bD bN n c l d∧CFr cp bT lp p w w1∧w1.heap[w.heap.size]?=some (.cells #[.int .i64 (s:Int),.int .u8 (p0:Int),.int .u8 (p1:Int),.int .u8 (p2:Int),.int .u8 (p3:Int),.int .u8 (p4:Int),.int .u8 (p5:Int),.int .u8 (p6:Int),.int .u8 (p7:Int),.int .u8 (p8:Int),.int .u64 (z:Int),.nilIface] 128 (0,0))∧Pows w1 from ⟨hc1,H0.out.2.1.trans hx1,r1,(hx1.hfr H0.out.1).pows hB H0.out.2.2.2⟩)
 have hl1:=(Array.getElem?_eq_some_iff.1 r1).1
 have hl2:=hc1.co.lts.1
 clear hf1 hc1 hx1 r1 H0 g1
 go_wp2
 go_region_held3 (λw'=>w'.cell? ⟨cp,0,none⟩=some (.pointer (some ⟨gp,0,none⟩))∧w'.cell? ⟨w.heap.size,0,none⟩=some (.int .i64 (s:Int))∧w'.cell? ⟨w.heap.size,1,none⟩=some (.int .u8 (p0:Int))∧w'.cell? ⟨w.heap.size,2,none⟩=some (.int .u8 (p1:Int))∧w'.cell? ⟨w.heap.size,3,none⟩=some (.int .u8 (p2:Int))∧w'.cell? ⟨w.heap.size,4,none⟩=some (.int .u8 (p3:Int))∧w'.cell? ⟨w.heap.size,5,none⟩=some (.int .u8 (p4:Int))∧w'.cell? ⟨w.heap.size,6,none⟩=some (.int .u8 (p5:Int))∧w'.cell? ⟨w.heap.size,7,none⟩=some (.int .u8 (p6:Int))∧w'.cell? ⟨w.heap.size,8,none⟩=some (.int .u8 (p7:Int))∧w'.cell? ⟨w.heap.size,9,none⟩=some (.int .u8 (p8:Int))∧w'.cell? ⟨w.heap.size,10,none⟩=some (.int .u64 (z:Int))∧w'.cell? ⟨w.heap.size,11,none⟩=some (.nilIface))
  (simp [*])
  (first | (go_at_call 192;refine hce.mono ?_;rintro e w2 ⟨rfl,hb2⟩;have hf2:Fr [] w1 w2:=(Fr.refl [] w1).drew.trans (Fr.of_below hb2 []);obtain ⟨hc2,hx2⟩:=H1.out.1.new hf2;have r2:=(hf2.block w.heap.size hl1 (by simp)).trans H1.out.2.2.1;obtain ⟨a0,a1,a2,a3,a4,a5,a6,a7,a8,a9,aa,ab⟩:=tx12 r2;have k0:=(World.cell?_of_block (a:=⟨cp,0,none⟩) (hf2.block cp hl2 (by simp))).trans c0;have H2:=jA1 (show CL w2 B cp gp bT m lp p bD bN n c l d∧CFr cp bT lp p w w2∧w2.heap[w.heap.size]?=some (.cells #[.int .i64 (s:Int),.int .u8 (p0:Int),.int .u8 (p1:Int),.int .u8 (p2:Int),.int .u8 (p3:Int),.int .u8 (p4:Int),.int .u8 (p5:Int),.int .u8 (p6:Int),.int .u8 (p7:Int),.int .u8 (p8:Int),.int .u64 (z:Int),.nilIface] 128 (0,0))∧Pows w2 from ⟨hc2,H1.out.2.1.trans hx2,r2,(hx2.hfr H1.out.1).pows hB H1.out.2.2.2⟩);clear hf2 hb2 hc2 hx2 r2) | (go_at_call 97;obtain ⟨pv,sv,rvv,nD,nN,hlg⟩:=H2.out.1.lg;refine (jG9 B gp lp p bD bN n nD nN 2 pv sv rvv l d S w2 H2.out.1.led hlg (by omega) hn hB hsg H2.out.2.2.2).mono ?_;rintro e w3 ⟨rfl,hl3,ho3⟩;obtain ⟨hc3,hx3⟩:=H2.out.1.log ho3 hl3;have r3:=hx3.cells H2.out.1 H2.out.2.2.1 (by decide) (by decide) (by decide) (by decide) (by decide) (by decide) (by decide) (by decide);obtain ⟨b0,b1,b2,b3,b4,b5,b6,b7,b8,b9,ba,bb⟩:=tx12 r3;obtain ⟨rv3,ov3,g3,_⟩:=hc3.co.ex;have n0:=jA0 g3 0;simp at n0;rw [jB8 hgp] at n0;have H3:=jA1 (show CL w3 B cp gp bT m lp p bD bN (n+3) c (l.keep d 2 S).1 (l.keep d 2 S).2.1∧CFr cp bT lp p w w3∧w3.heap[w.heap.size]?=some (.cells #[.int .i64 (s:Int),.int .u8 (p0:Int),.int .u8 (p1:Int),.int .u8 (p2:Int),.int .u8 (p3:Int),.int .u8 (p4:Int),.int .u8 (p5:Int),.int .u8 (p6:Int),.int .u8 (p7:Int),.int .u8 (p8:Int),.int .u64 (z:Int),.nilIface] 128 (0,0)) from ⟨hc3,H2.out.2.1.trans hx3,r3⟩);clear hlg hl3 ho3 hc3 hx3 r3 g3))
 rw [jAt]
 have fz:=jA2 H3.out.2.2 0
 have hw3:w.heap.size<w3.heap.size:=(Array.getElem?_eq_some_iff.1 H3.out.2.2).1
 go_wp2
 obtain ⟨W4,hW4⟩:∃ W4,W4=w3.setCell ⟨w.heap.size,0,none⟩ (.int .i64 6):=⟨_,rfl⟩
 rw [← hW4]
 have hf4:Fr [w.heap.size] w3 W4:=by rw [hW4];exact Fr.set1 sE _ _
 have r4:W4.heap[w.heap.size]?=some (.cells #[.int .i64 6,.int .u8 (p0:Int),.int .u8 (p1:Int),.int .u8 (p2:Int),.int .u8 (p3:Int),.int .u8 (p4:Int),.int .u8 (p5:Int),.int .u8 (p6:Int),.int .u8 (p7:Int),.int .u8 (p8:Int),.int .u64 (z:Int),.nilIface] 128 (0,0)):=by
  rw [hW4]
  have:=jA5 H3.out.2.2 0 (.int .i64 6)
  simpa using this
 obtain ⟨hc4,ho4⟩:=H3.out.1.otherF hf4 H3.out.2.2 dN dN dN dN dN dN dN dN dN dN
 have hx4:=H3.out.2.1.young hf4 (Nat.le_refl _) ho4 (hf4.block cp H3.out.1.co.lts.1 (by simp;intro e;obtain ⟨cs,hcs⟩:=H3.out.1.co.isCo;rw [e,H3.out.2.2] at hcs;cases hcs))
 obtain ⟨d0,d1,d2,d3,d4,d5,d6,d7,d8,d9,da,db⟩:=tx12 r4
 obtain ⟨rv4,ov4,g4,_⟩:=hc4.co.ex
 have u1:=jA0 g4 1
 simp at u1
 obtain ⟨w5,hr5,hc5,hf5⟩:=HPUT.out W4.drew m (hc4.co.new (Fr.refl [] W4).drew) (by unfold maxLen;omega)
 have hlt4:=hc4.co.lts
 have hne4:¬ w.heap.size=bT:=by
  intro e
  obtain ⟨es,cc,e2⟩:=hc4.co.txns.isMap
  rw [← e,r4] at e2;cases e2
 have r5:=(hf5.block w.heap.size (by show w.heap.size<W4.heap.size;have:=hf4.size;omega) (by simpa using hne4)).trans r4
 obtain ⟨t0,t1,t2,t3,t4,t5,t6,t7,t8,t9,ta,tb⟩:=tx12 r5
 have u5:=(World.cell?_of_block (a:=⟨cp,1,none⟩) (hf5.block cp hlt4.1 (by simpa using hlt4.2.2))).trans u1
 have H5:=jA1 (show CL w5 B cp gp bT (m+1) lp p bD bN (n+3) { c with txns:=jAb c.txns t T6 } (l.keep d 2 S).1 (l.keep d 2 S).2.1∧CFr cp bT lp p w w5 from by
  have hf45:Fr [bT] W4 w5:=⟨hf5.os,hf5.tape,hf5.output,hf5.size,hf5.block⟩
  obtain ⟨k1,k2⟩:=hc4.turn hc5 (hf45.r hc4.co.lts.1 (by simpa using hc4.co.lts.2.2) sE)
  exact ⟨k1,hx4.trans k2⟩)
 clear hf4 r4 hc4 ho4 hx4 g4 hc5 hf5 r5 hW4 fz
 clear b0 b1 b2 b3 b4 b5 b6 b7 b8 b9 ba bb a0 a1 a2 a3 a4 a5 a6 a7 a8 a9 aa ab e0 e1 e2 e3 e4 e5 e6 e7 e8 e9 e10 e11 c0 k0 n0
 go_region_held3 (λw'=>w'.cell? ⟨cp,1,none⟩=some (.map (some bT))∧w'.cell? ⟨w.heap.size,0,none⟩=some (.int .i64 6)∧w'.cell? ⟨w.heap.size,1,none⟩=some (.int .u8 (p0:Int))∧w'.cell? ⟨w.heap.size,2,none⟩=some (.int .u8 (p1:Int))∧w'.cell? ⟨w.heap.size,3,none⟩=some (.int .u8 (p2:Int))∧w'.cell? ⟨w.heap.size,4,none⟩=some (.int .u8 (p3:Int))∧w'.cell? ⟨w.heap.size,5,none⟩=some (.int .u8 (p4:Int))∧w'.cell? ⟨w.heap.size,6,none⟩=some (.int .u8 (p5:Int))∧w'.cell? ⟨w.heap.size,7,none⟩=some (.int .u8 (p6:Int))∧w'.cell? ⟨w.heap.size,8,none⟩=some (.int .u8 (p7:Int))∧w'.cell? ⟨w.heap.size,9,none⟩=some (.int .u8 (p8:Int))∧w'.cell? ⟨w.heap.size,10,none⟩=some (.int .u64 (z:Int))∧w'.cell? ⟨w.heap.size,11,none⟩=some (.nilIface))
  (simp [*])
  (fail)
 have hbe:=jFf B cp gp bT (m+1) t 5 _ w5 H5.out.1.co oE
 go_wp2_with fail
 refine hbe.mono ?_
 clear hbe
 rintro e w6 ⟨rfl,hc6,hf6⟩
 obtain ⟨k6,x6⟩:=H5.out.1.turn hc6 (RFr.mono hf6 sE)
 have hse:=jJ0 B cp gp bT (m+1+1) t 183 jDf jMd jIf 5 _ w6 hc6 ht oE
 have htx:({ c with txns:=jAb c.txns t T6,res:=c.res++[(t,5)] }:ACo).tx t=T6:=jQf _ t T6
 rw [htx] at hse
 clear htx
 have H6:=jA1 (show CL w6 B cp gp bT (m+1+1) lp p bD bN (n+3) { c with txns:=jAb c.txns t T6,res:=c.res++[(t,5)] } (l.keep d 2 S).1 (l.keep d 2 S).2.1∧CFr cp bT lp p w w6 from ⟨k6,H5.out.2.trans x6⟩)
 clear hc6 hf6 k6 x6
 go_wp2_with fail
 refine hse.mono ?_
 clear hse
 rintro e w7 ⟨rfl,hc7,hf7⟩
 obtain ⟨k7,x7⟩:=H6.out.1.turn hc7 (RFr.mono hf7 sE)
 have H7:=jA1 (show CL w7 B cp gp bT (m+11) lp p bD bN (n+3) (c.comm t T6) (l.keep d 2 S).1 (l.keep d 2 S).2.1∧CFr cp bT lp p w w7 from ⟨by rw [show m+11=m+1+1+9 by omega];exact k7,H6.out.2.trans x7⟩)
 clear hc7 hf7 k7 x7
 go_wp2
 go_ret
 exact ⟨rfl,H7.out⟩
end Go.Proofs.YtcalalndmcemiaaGreatDoor
