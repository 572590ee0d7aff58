import Derived.Test.YtcalalndmcemiaaGreatDoorC39
import Derived.Test.YtcalalndmcemiaaGreatDoorC38
set_option maxRecDepth 100000
set_option maxHeartbeats 16000000
namespace Go.Proofs.YtcalalndmcemiaaGreatDoor
open Go.Maps
open Sc
theorem jM8 {ds:List ADeal} {ord:List Nat} {bag co:List Msg} {c:ACo} {SS:List (AShard × List Msg)} {kd a t:Nat} {x:AShard} {y:AShard × List Msg} (ha:1≤a) (hx:SS[a - 1]?=some (x,[])) (hr:jC2 a x [] ⟨kd,0,a,t⟩=y) :
  (⟨ds,ord,bag,c,co,SS⟩:ANet).recv ⟨kd,0,a,t⟩=⟨ds,ord,bag,c,co,SS.set (a - 1) y⟩:=by
 have es:a=(a - 1)+1:=by omega
 unfold ANet.recv
 simp only []
 rw [es]
 simp only [Nat.add_sub_cancel]
 rw [hx]
 simp only []
 rw [← es,hr]
theorem jLg {ds:List ADeal} {ord:List Nat} {bag co:List Msg} {c c':ACo} {SS:List (AShard × List Msg)} {v a t:Nat} (hv:v≠7) (hr:c.voted t a v=c') :
  (⟨ds,ord,bag,c,co,SS⟩:ANet).recv ⟨v,a,0,t⟩=⟨ds,ord,bag,c',co,SS⟩:=by
 unfold ANet.recv
 simp only [jCk]
 rw [if_neg hv,hr]
section
variable {ds:List ADeal} {ord:List Nat} {SS:List (AShard × List Msg)} {Vs:List (List (ByteArray × ByteArray))} {t nx lm s i a b va vb:Nat} {d:ADeal} {xa0 xa1 xb0 xb1:AShard}
theorem st5 {r:List (Nat × Nat)} {o:List (Nat × Nat × Nat)} {P:List Nat} (x:ADeal) (h6:((c1s t 5 P nx lm r o).tx x.id).state=6):x.what=5:=by
 by_cases e:x.id=t
 ·rw [e,jRp] at h6;cases h6
 ·rw [jGc _ _ _ _ _ _ _ e] at h6;cases h6
theorem jYc (hm:Mute SS) (hab:1≤a∧a<b∧b≤4) (ht:t≠0∧t<18446744073709551616) (hva:va=2∨va=4) (hvb:vb=2∨vb=4) (hxa:SS[a - 1]?=some (xa0,[])) (hxb:SS[b - 1]?=some (xb0,[])) (hra:jC2 a xa0 [] ⟨1,0,a,t⟩=(xa1,[⟨va,a,0,t⟩])) (hrb:jC2 b xb0 [] ⟨1,0,b,t⟩=(xb1,[⟨vb,b,0,t⟩])) (hvla:xa1.vals=xa0.vals) (hvlb:xb1.vals=xb0.vals)
  (hT:Tabs SS Vs) (hN:Nice ds ord Vs) (h2:Two a b va vb s) (hd:ds[i]?=some d) (hid:d.id=t) (h0:d.what=0) (has:d.asked=true) {A':ANet} {m:Nat}
  (hw:Waves 4 ⟨ds.set i { d with what:=5 },ord++[i],[],c1s t 6 (((jA9 [a,b] 1).set a va).set b vb) nx lm [] [(t,s,5)],[],(SS.set (a - 1) (xa1,[])).set (b - 1) (xb1,[])⟩ A' m) :
  Waves 6 ⟨ds,ord,[],c1s t 5 (jA9 [a,b] 1) nx lm [] ((jB9 isAw (jA9 [a,b] 1)).map λk=>(t,k,1)),[],SS⟩ A' (2+(2+m)):=by
 have hal:=(List.getElem?_eq_some_iff.1 hxa).1
 have hbl:=(List.getElem?_eq_some_iff.1 hxb).1
 have hxb':∀ y,(SS.set (a - 1) y)[b - 1]?=some (xb0,[]):=λy=>by rw [List.getElem?_set_ne oE];exact hxb
 have hT1:Tabs (SS.set (a - 1) (xa1,[⟨va,a,0,t⟩])) Vs:=hT.same hxa hvla
 have hT2:Tabs ((SS.set (a - 1) (xa1,[⟨va,a,0,t⟩])).set (b - 1) (xb1,[⟨vb,b,0,t⟩])) Vs:=hT1.same (hxb' _) hvlb
 have hT3:Tabs ((SS.set (a - 1) (xa1,[])).set (b - 1) (xb1,[])) Vs:=(hT.same (y:=(xa1,[])) hxa hvla).same (y:=(xb1,[])) (hxb' _) hvlb
 have w1:Wave ⟨ds,ord,[],c1s t 5 (jA9 [a,b] 1) nx lm [] ((jB9 isAw (jA9 [a,b] 1)).map λk=>(t,k,1)),[],SS⟩ ⟨ds,ord,[],c1s t 5 (jA9 [a,b] 1) nx lm [] [],[],(SS.set (a - 1) (xa1,[⟨va,a,0,t⟩])).set (b - 1) (xb1,[⟨vb,b,0,t⟩])⟩ 2:=by
  rw [h2.aw]
  have e:(⟨ds,ord,[],c1s t 5 (jA9 [a,b] 1) nx lm [] ([a,b].map λk=>(t,k,1)),[],SS⟩:ANet).sends (SS.length+1)=⟨ds,ord,[⟨1,0,a,t⟩,⟨1,0,b,t⟩],c1s t 5 (jA9 [a,b] 1) nx lm [] [],[],SS⟩:=by
   rw [jD0]
   simp only [hm.clr,hm.flat]
   rfl
  refine ⟨⟨λx hx=>?_,hm.outs⟩,rfl,?_,?_⟩
  ·simp [jBb] at hx
   rcases hx with rfl | rfl
   ·exact jDa (.inl rfl) ⟨hab.1,by omega⟩ ht
   ·exact jDa (.inl rfl) ⟨by omega,by omega⟩ ht
  ·show 2=(ANet.sends _ (SS.length+1)).bag.length
   rw [e]
   rfl
  ·show Dels (ANet.sends _ (SS.length+1)).bag { ANet.sends _ (SS.length+1) with bag:=[] } _
   rw [e]
   refine .cons (A1:=⟨ds,ord,[],c1s t 5 (jA9 [a,b] 1) nx lm [] [],[],SS.set (a - 1) (xa1,[⟨va,a,0,t⟩])⟩) ⟨jDa (.inl rfl) ⟨hab.1,by omega⟩ ht,by simp;omega,λe=>by simp at e;omega,λ_=>.inl rfl,λ_ _ _ _ e=>by simp at e⟩ ?_ (.cons (A1:=⟨ds,ord,[],c1s t 5 (jA9 [a,b] 1) nx lm [] [],[],(SS.set (a - 1) (xa1,[⟨va,a,0,t⟩])).set (b - 1) (xb1,[⟨vb,b,0,t⟩])⟩) ⟨jDa (.inl rfl) ⟨by omega,by omega⟩ ht,by simp;omega,λe=>by simp at e;omega,λ_=>.inl rfl,λ_ _ _ _ e=>by simp at e⟩ ?_ (.nil _))
   ·rw [jM8 hab.1 hxa hra]
    exact jAv hN hT1 rfl (λx _ h6=>st5 x h6)
   ·rw [jM8 oE (hxb' _) hrb]
    exact jAv hN hT2 rfl (λx _ h6=>st5 x h6)
 have w2:Wave ⟨ds,ord,[],c1s t 5 (jA9 [a,b] 1) nx lm [] [],[],(SS.set (a - 1) (xa1,[⟨va,a,0,t⟩])).set (b - 1) (xb1,[⟨vb,b,0,t⟩])⟩ ⟨ds.set i { d with what:=5 },ord++[i],[],c1s t 6 (((jA9 [a,b] 1).set a va).set b vb) nx lm [] [(t,s,5)],[],(SS.set (a - 1) (xa1,[])).set (b - 1) (xb1,[])⟩ 2:=by
  have e:(⟨ds,ord,[],c1s t 5 (jA9 [a,b] 1) nx lm [] [],[],(SS.set (a - 1) (xa1,[⟨va,a,0,t⟩])).set (b - 1) (xb1,[⟨vb,b,0,t⟩])⟩:ANet).sends (((SS.set (a - 1) (xa1,[⟨va,a,0,t⟩])).set (b - 1) (xb1,[⟨vb,b,0,t⟩])).length+1)=⟨ds,ord,[⟨va,a,0,t⟩,⟨vb,b,0,t⟩],c1s t 5 (jA9 [a,b] 1) nx lm [] [],[],(SS.set (a - 1) (xa1,[])).set (b - 1) (xb1,[])⟩:=by
   rw [jD0]
   have f2:((SS.set (a - 1) (xa1,[⟨va,a,0,t⟩])).set (b - 1) (xb1,[⟨vb,b,0,t⟩])).flatMap (·.2)=[⟨va,a,0,t⟩]++[⟨vb,b,0,t⟩]:=jTt (f:=λx:AShard × List Msg=>x.2) hm oE hbl
   have f3:((SS.set (a - 1) (xa1,[⟨va,a,0,t⟩])).set (b - 1) (xb1,[⟨vb,b,0,t⟩])).map (λs=>(s.1,([]:List Msg)))=(SS.set (a - 1) (xa1,[])).set (b - 1) (xb1,[]):=by rw [List.map_set,List.map_set,hm.clr]
   simp only [f2,f3]
   rfl
  have okA:(⟨va,a,0,t⟩:Msg).Ok:=jH9 oE ⟨hab.1,by omega⟩ ht
  have okB:(⟨vb,b,0,t⟩:Msg).Ok:=jH9 oE ⟨by omega,by omega⟩ ht
  refine ⟨⟨λx hx=>?_,λj x hj y hy=>?_⟩,rfl,?_,?_⟩
  ·simp [jBb] at hx
  ·by_cases e2:b - 1=j
   ·subst e2
    rw [List.getElem?_set_self (by rw [List.length_set];exact hbl)] at hj
    cases hj
    simp at hy
    subst hy
    exact okB
   ·rw [List.getElem?_set_ne e2] at hj
    by_cases e3:a - 1=j
    ·subst e3
     rw [List.getElem?_set_self hal] at hj
     cases hj
     simp at hy
     subst hy
     exact okA
    ·rw [List.getElem?_set_ne e3] at hj
     exact hm.outs j x hj y hy
  ·show 2=(ANet.sends _ (((SS.set (a - 1) (xa1,[⟨va,a,0,t⟩])).set (b - 1) (xb1,[⟨vb,b,0,t⟩])).length+1)).bag.length
   rw [e]
   rfl
  ·show Dels (ANet.sends _ (((SS.set (a - 1) (xa1,[⟨va,a,0,t⟩])).set (b - 1) (xb1,[⟨vb,b,0,t⟩])).length+1)).bag { ANet.sends _ (((SS.set (a - 1) (xa1,[⟨va,a,0,t⟩])).set (b - 1) (xb1,[⟨vb,b,0,t⟩])).length+1) with bag:=[] } _
   rw [e]
   refine .cons (A1:=⟨ds,ord,[],c1s t 5 ((jA9 [a,b] 1).set a va) nx lm [] [],[],(SS.set (a - 1) (xa1,[])).set (b - 1) (xb1,[])⟩) ⟨okA,by simp,λ_=>by simp only [];omega,λe=>absurd rfl e,λ_ _ e _ _=>by simp at e⟩ ?_ (.cons (A1:=⟨ds.set i { d with what:=5 },ord++[i],[],c1s t 6 (((jA9 [a,b] 1).set a va).set b vb) nx lm [] [(t,s,5)],[],(SS.set (a - 1) (xa1,[])).set (b - 1) (xb1,[])⟩) ⟨okB,by simp,λ_=>by simp only [];omega,λe=>absurd rfl e,λ_ _ e _ _=>by simp at e⟩ ?_ (.nil _))
   ·rw [jLg oE (jWi t nx lm a va (jA9 [a,b] 1) [] [] h2.g1 oE h2.w1)]
    exact jAv hN hT3 rfl (λx _ h6=>st5 x h6)
   ·rw [jLg oE (jPp t nx lm b vb ((jA9 [a,b] 1).set a va) [] [] h2.g2 oE h2.w2 h2.y2),h2.tc]
    refine jFg (A:=⟨ds,ord,[],c1s t 6 (((jA9 [a,b] 1).set a va).set b vb) nx lm [(t,5)] [(t,s,5)],[],(SS.set (a - 1) (xa1,[])).set (b - 1) (xb1,[])⟩) hN hT3 rfl hd hid h0 has (λy _ h6=>?_)
    by_cases e:y.id=t
    ·exact .inr e
    ·rw [jGc _ _ _ _ _ _ _ e] at h6;cases h6
 exact .cons w1 (.cons w2 hw)
theorem head1 (hm:Mute SS) (hs:1≤s∧s≤4) (ht:t≠0∧t<18446744073709551616) (hxa:SS[s - 1]?=some (xa0,[])) (hra:jC2 s xa0 [] ⟨1,0,s,t⟩=(xa1,[⟨2,s,0,t⟩])) (hvla:xa1.vals=xa0.vals)
  (hT:Tabs SS Vs) (hN:Nice ds ord Vs) (h2:One1 s) (hd:ds[i]?=some d) (hid:d.id=t) (h0:d.what=0) (has:d.asked=true) {A':ANet} {m:Nat}
  (hw:Waves 4 ⟨ds.set i { d with what:=5 },ord++[i],[],c1s t 6 ((jA9 [s] 1).set s 2) nx lm [] [(t,s,5)],[],SS.set (s - 1) (xa1,[])⟩ A' m) :
  Waves 6 ⟨ds,ord,[],c1s t 5 (jA9 [s] 1) nx lm [] ((jB9 isAw (jA9 [s] 1)).map λk=>(t,k,1)),[],SS⟩ A' (1+(1+m)):=by
 have hal:=(List.getElem?_eq_some_iff.1 hxa).1
 have hT1:∀ o,Tabs (SS.set (s - 1) (xa1,o)) Vs:=λo=>hT.same (y:=(xa1,o)) hxa hvla
 have w1:Wave ⟨ds,ord,[],c1s t 5 (jA9 [s] 1) nx lm [] ((jB9 isAw (jA9 [s] 1)).map λk=>(t,k,1)),[],SS⟩ ⟨ds,ord,[],c1s t 5 (jA9 [s] 1) nx lm [] [],[],SS.set (s - 1) (xa1,[⟨2,s,0,t⟩])⟩ 1:=by
  rw [h2.aw]
  have e:(⟨ds,ord,[],c1s t 5 (jA9 [s] 1) nx lm [] ([s].map λk=>(t,k,1)),[],SS⟩:ANet).sends (SS.length+1)=⟨ds,ord,[⟨1,0,s,t⟩],c1s t 5 (jA9 [s] 1) nx lm [] [],[],SS⟩:=by
   rw [jD0]
   simp only [hm.clr,hm.flat]
   rfl
  refine ⟨⟨λx hx=>?_,hm.outs⟩,rfl,?_,?_⟩
  ·simp [jBb] at hx
   subst hx
   exact jDa (.inl rfl) ⟨hs.1,by omega⟩ ht
  ·show 1=(ANet.sends _ (SS.length+1)).bag.length
   rw [e]
   rfl
  ·show Dels (ANet.sends _ (SS.length+1)).bag { ANet.sends _ (SS.length+1) with bag:=[] } _
   rw [e]
   refine .cons (A1:=⟨ds,ord,[],c1s t 5 (jA9 [s] 1) nx lm [] [],[],SS.set (s - 1) (xa1,[⟨2,s,0,t⟩])⟩) ⟨jDa (.inl rfl) ⟨hs.1,by omega⟩ ht,by simp;omega,λe=>by simp at e;omega,λ_=>.inl rfl,λ_ _ _ _ e=>by simp at e⟩ ?_ (.nil _)
   rw [jM8 hs.1 hxa hra]
   exact jAv hN (hT1 _) rfl (λx _ h6=>st5 x h6)
 have w2:Wave ⟨ds,ord,[],c1s t 5 (jA9 [s] 1) nx lm [] [],[],SS.set (s - 1) (xa1,[⟨2,s,0,t⟩])⟩ ⟨ds.set i { d with what:=5 },ord++[i],[],c1s t 6 ((jA9 [s] 1).set s 2) nx lm [] [(t,s,5)],[],SS.set (s - 1) (xa1,[])⟩ 1:=by
  have e:(⟨ds,ord,[],c1s t 5 (jA9 [s] 1) nx lm [] [],[],SS.set (s - 1) (xa1,[⟨2,s,0,t⟩])⟩:ANet).sends ((SS.set (s - 1) (xa1,[⟨2,s,0,t⟩])).length+1)=⟨ds,ord,[⟨2,s,0,t⟩],c1s t 5 (jA9 [s] 1) nx lm [] [],[],SS.set (s - 1) (xa1,[])⟩:=by
   rw [jD0]
   simp only [jRb hm,jRv hm hal]
   rfl
  have okA:(⟨2,s,0,t⟩:Msg).Ok:=jH9 (.inl rfl) ⟨hs.1,by omega⟩ ht
  refine ⟨⟨λx hx=>?_,λj x hj y hy=>?_⟩,rfl,?_,?_⟩
  ·simp [jBb] at hx
  ·by_cases e3:s - 1=j
   ·subst e3
    rw [List.getElem?_set_self hal] at hj
    cases hj
    simp at hy
    subst hy
    exact okA
   ·rw [List.getElem?_set_ne e3] at hj
    exact hm.outs j x hj y hy
  ·show 1=(ANet.sends _ ((SS.set (s - 1) (xa1,[⟨2,s,0,t⟩])).length+1)).bag.length
   rw [e]
   rfl
  ·show Dels (ANet.sends _ ((SS.set (s - 1) (xa1,[⟨2,s,0,t⟩])).length+1)).bag { ANet.sends _ ((SS.set (s - 1) (xa1,[⟨2,s,0,t⟩])).length+1) with bag:=[] } _
   rw [e]
   refine .cons (A1:=⟨ds.set i { d with what:=5 },ord++[i],[],c1s t 6 ((jA9 [s] 1).set s 2) nx lm [] [(t,s,5)],[],SS.set (s - 1) (xa1,[])⟩) ⟨okA,by simp,λ_=>.inl rfl,λe=>absurd rfl e,λ_ _ e _ _=>by simp at e⟩ ?_ (.nil _)
   rw [jLg dN (jPp t nx lm s 2 (jA9 [s] 1) [] [] h2.g1 dN h2.w2 h2.y2),h2.tc]
   refine jFg (A:=⟨ds,ord,[],c1s t 6 ((jA9 [s] 1).set s 2) nx lm [(t,5)] [(t,s,5)],[],SS.set (s - 1) (xa1,[])⟩) hN (hT1 _) rfl hd hid h0 has (λy _ h6=>?_)
   by_cases e:y.id=t
   ·exact .inr e
   ·rw [jGc _ _ _ _ _ _ _ e] at h6;cases h6
 exact .cons w1 (.cons w2 hw)
end
abbrev jBh (Vs:List (List (ByteArray × ByteArray))):List (AShard × List Msg):=Vs.map λV=>(rs V,[])
structure Head (n i lm:Nat) (ds:List ADeal) (ord:List Nat) (Vs:List (List (ByteArray × ByteArray))):Prop where
 len:Vs.length=n∧ds.length=i∧ord.length=i
 each:∀ (j:Nat) (x:ADeal),ds[j]?=some x→x.id=j+1∧x.what=5∧x.writes.length≤1
 vls:∀ V∈Vs,V.length≤i
 kno:∀ (j:Nat) (V:List (ByteArray × ByteArray)),Vs[j]?=some V→∀ y∈V,jC5 ds ord (j+1,y.1,y.2)=true
abbrev hnet (i lm:Nat) (ds:List ADeal) (ord:List Nat) (Vs:List (List (ByteArray × ByteArray))):ANet:=⟨ds,ord,[],c0s (i+1) lm [] [],[],jBh Vs⟩
theorem jE9 (Vs:List (List (ByteArray × ByteArray))):Mute (jBh Vs):=λx hx=>by
 obtain ⟨V,-,rfl⟩:=List.mem_map.1 hx
 rfl
theorem jE7 (Vs:List (List (ByteArray × ByteArray))):Tabs (jBh Vs) Vs:=λj s hj=>by
 rw [List.getElem?_map] at hj
 cases e:Vs[j]? with
 | none=>rw [e] at hj;cases hj
 | some V=>rw [e] at hj;cases hj;rfl
theorem jD7 {Vs:List (List (ByteArray × ByteArray))} {j:Nat} {V:List (ByteArray × ByteArray)} (h:Vs[j]?=some V):(jBh Vs)[j]?=some (rs V,[]):=by rw [List.getElem?_map,h];rfl
theorem head0 (n lm:Nat):Head n 0 lm [] [] (List.replicate n []):=⟨⟨by simp,rfl,rfl⟩,nofun,λV hV=>by rw [List.eq_of_mem_replicate hV];exact Nat.zero_le _,λj V hV y hy=>by
 rw [List.getElem?_replicate] at hV
 split at hV
 ·cases hV;cases hy
 ·cases hV⟩
section
variable {n i lm s r:Nat} {ds:List ADeal} {ord:List Nat} {Vs:List (List (ByteArray × ByteArray))} {V:List (ByteArray × ByteArray)} {k v:ByteArray} {q:List Nat}
abbrev jC4 (i s:Nat) (q:List Nat) (k v:ByteArray) (what:Nat):ADeal:=⟨i+1,q,[(s,k,v)],true,false,what⟩
theorem Head.nice (h:Head n i lm ds ord Vs) (hi:i<60) (what:Nat):Nice (ds++[jC4 i s q k v what]) ord Vs where
 ids:=λa b x y hx hy e=>by
  have key:∀ (a:Nat) (x:ADeal),(ds++[jC4 i s q k v what])[a]?=some x→x.id=a+1:=λa x hx=>by
   rcases Nat.lt_or_ge a ds.length with hl | hl
   ·rw [List.getElem?_append_left hl] at hx
    exact (h.each a x hx).1
   ·rw [List.getElem?_append_right hl] at hx
    cases e2:a - ds.length with
    | zero=>rw [e2] at hx;cases hx;show i+1=a+1;have:=h.len.2.1;omega
    | succ m=>rw [e2] at hx;cases hx
  have h1:=key a x hx
  have h2:=key b y hy
  omega
 wrs:=λx hx=>by
  rcases List.mem_append.1 hx with e | e
  ·obtain ⟨j,hj⟩:=List.getElem?_of_mem e
   have:=h.each j x hj
   have hl:=(List.getElem?_eq_some_iff.1 hj).1
   have:=h.len.2.1
   omega
  ·simp at e
   subst e
   exact ⟨by simp,by show i+1<_;omega⟩
 len:=by have:=h.len;simp;omega
 vls:=λV hV=>by have:=h.vls V hV;omega
 kno:=λj V hV y hy=>jGr _ (h.kno j V hV y hy)
theorem Head.next (h:Head n i lm ds ord Vs) (lm':Nat) (hV:Vs[s - 1]?=some V) (hs:1≤s):Head n (i+1) lm' (ds++[jC4 i s q k v 5]) (ord++[i]) (Vs.set (s - 1) (jAb V k v)) where
 len:=by have:=h.len;simp;omega
 each:=λj x hx=>by
  rcases Nat.lt_or_ge j ds.length with hl | hl
  ·rw [List.getElem?_append_left hl] at hx
   exact h.each j x hx
  ·rw [List.getElem?_append_right hl] at hx
   cases e2:j - ds.length with
   | zero=>rw [e2] at hx;cases hx;have:=h.len.2.1;exact ⟨by show i+1=j+1;omega,rfl,by simp⟩
   | succ m=>rw [e2] at hx;cases hx
 vls:=λW hW=>by
  rcases List.mem_or_eq_of_mem_set hW with e | e
  ·have:=h.vls W e;omega
  ·rw [e]
   show (jAi V k).length+1≤i+1
   have h1:=jDg V k
   have h2:=h.vls V (List.mem_of_getElem? hV)
   omega
 kno:=λj W hW y hy=>by
  by_cases e:s - 1=j
  ·subst e
   rw [List.getElem?_set_self (List.getElem?_eq_some_iff.1 hV).1] at hW
   cases hW
   rcases List.mem_cons.1 hy with e2 | e2
   ·subst e2
    unfold jC5
    rw [List.any_append]
    simp only [List.any_cons,List.any_nil,Bool.or_false]
    have:wrote (ds++[jC4 i s q k v 5]) (s - 1+1,k,v) i=true:=by
     unfold wrote
     rw [List.getElem?_append_right (by have:=h.len.2.1;omega),show i - ds.length=0 by have:=h.len.2.1;omega]
     simp
     omega
    rw [this]
    simp
   ·exact jGh i (jGr _ (h.kno _ V hV y (List.mem_filter.1 e2).1))
  ·rw [List.getElem?_set_ne e] at hW
   exact jGh i (jGr _ (h.kno j W hW y hy))
theorem jIu (ds:List ADeal) (d d':ADeal) (i:Nat) (h:ds.length=i):(ds++[d]).set i d'=ds++[d']:=by
 rw [List.set_append_right _ _ oE,show i - ds.length=0 by omega]
 rfl
theorem Head.nice2 (h:Head n i lm ds ord Vs) (hi:i<60) (hV:Vs[s - 1]?=some V) (hs:1≤s):Nice (ds++[jC4 i s q k v 5]) (ord++[i]) (Vs.set (s - 1) (jAb V k v)):=by
 have hn:=h.next (q:=q) (k:=k) (v:=v) lm hV hs
 have h1:=h.nice (s:=s) (q:=q) (k:=k) (v:=v) hi 5
 exact ⟨h1.ids,h1.wrs,by have:=hn.len;omega,λW hW=>by have:=hn.vls W hW;omega,hn.kno⟩
theorem jXs (h:Head n i lm ds ord Vs) (hi:i<60) (hn:n≤4) (hs:1≤s∧s≤n) (hV:Vs[s - 1]?=some V) (lm' d:Nat) :
  Waves 6 ⟨ds++[jC4 i s q k v 0],ord,[],c1s (i+1) 5 (jA9 [s] 1) (i+2) lm' [] ((jB9 isAw (jA9 [s] 1)).map λk=>(i+1,k,1)),[],(jBh Vs).set (s - 1) (hs1 V (i+1) 1 d 1 k v,[])⟩
   (hnet (i+1) lm' (ds++[jC4 i s q k v 5]) (ord++[i]) (Vs.set (s - 1) (jAb V k v))) 4:=by
 have hl:=(List.getElem?_eq_some_iff.1 hV).1
 have hd:(ds++[jC4 i s q k v 0])[i]?=some (jC4 i s q k v 0):=by rw [List.getElem?_append_right (by have:=h.len.2.1;omega),show i - ds.length=0 by have:=h.len.2.1;omega];rfl
 have hx:((jBh Vs).set (s - 1) (hs1 V (i+1) 1 d 1 k v,[]))[s - 1]?=some (hs1 V (i+1) 1 d 1 k v,[]):=List.getElem?_set_self (by simpa using hl)
 have hT:Tabs ((jBh Vs).set (s - 1) (hs1 V (i+1) 1 d 1 k v,[])) Vs:=Tabs.same (y:=(hs1 V (i+1) 1 d 1 k v,[])) (jE7 Vs) (jD7 hV) rfl
 have ht:i+1≠0∧i+1<18446744073709551616:=by omega
 have o1:=jR6 (s:=s) ⟨hs.1,by omega⟩
 refine head1 (d:=jC4 i s q k v 0) (jE9 Vs).set ⟨hs.1,by omega⟩ ht hx (jC7 V (i+1) d k v s) rfl hT (h.nice hi 0) o1 hd rfl rfl rfl (m:=2) ?_
 rw [jIu _ _ _ _ h.len.2.1,List.set_set]
 have hx2:((jBh Vs).set (s - 1) (hs1 V (i+1) 3 0 1 k v,[]))[s - 1]?=some (hs1 V (i+1) 3 0 1 k v,[]):=List.getElem?_set_self (by simpa using hl)
 have hT2:Tabs ((jBh Vs).set (s - 1) (hs1 V (i+1) 3 0 1 k v,[])) Vs:=Tabs.same (y:=(hs1 V (i+1) 3 0 1 k v,[])) (jE7 Vs) (jD7 hV) rfl
 have:=jYa (ds:=ds++[jC4 i s q k v 5]) (ord:=ord++[i]) (nx:=i+2) (lm:=lm') (jE9 Vs).set ⟨hs.1,by omega⟩ ht hx2 hT2 sE o1.g3 o1.dn (h.nice2 hi hV hs.1) (λx hx e=>by
  rcases List.mem_append.1 hx with e2 | e2
  ·obtain ⟨j,hj⟩:=List.getElem?_of_mem e2
   exact (h.each j x hj).2.1
  ·simp at e2;subst e2;rfl)
 rw [List.set_set] at this
 have e9:jBh (Vs.set (s - 1) (jAb V k v))=(jBh Vs).set (s - 1) (rs (jAb V k v),[]):=by
  show (Vs.set (s - 1) (jAb V k v)).map _=_
  rw [List.map_set]
 unfold hnet
 rw [e9]
 exact this
end
theorem jWn {α:Type} {R:List α} {r s:Nat} {x y xr ys:α} (hne:r≠s) (hr:R[r]?=some xr) (j:Nat) (hs:s<R.length) :
  ((((R.set r x).set s y).set r xr).set s ys)[j]?=(R.set s ys)[j]?∧((((R.set r x).set s y).set s ys).set r xr)[j]?=(R.set s ys)[j]?:=by
 have hrl:=(List.getElem?_eq_some_iff.1 hr).1
 by_cases e1:s=j
 ·subst e1
  rw [List.getElem?_set_self (by simpa using hs),List.getElem?_set_self hs,List.getElem?_set_ne hne,List.getElem?_set_self (by simpa using hs)]
  exact ⟨rfl,rfl⟩
 ·rw [List.getElem?_set_ne e1,List.getElem?_set_ne (l:=R) e1]
  by_cases e2:r=j
  ·subst e2
   rw [List.getElem?_set_self (by simpa using hrl),List.getElem?_set_self (by simpa using hrl),hr]
   exact ⟨rfl,rfl⟩
  ·rw [List.getElem?_set_ne e2,List.getElem?_set_ne e1,List.getElem?_set_ne e2,List.getElem?_set_ne e2,List.getElem?_set_ne e1,List.getElem?_set_ne e1,List.getElem?_set_ne e2]
   exact ⟨rfl,rfl⟩
section
variable {n i lm s r:Nat} {ds:List ADeal} {ord:List Nat} {Vs:List (List (ByteArray × ByteArray))} {V Vr:List (ByteArray × ByteArray)} {k v:ByteArray} {q:List Nat}
theorem jUs (h:Head n i lm ds ord Vs) (hi:i<60) (hn:n≤4) (hs:1≤s∧s≤n) (hr:1≤r∧r≤n) (hne:r≠s) (hV:Vs[s - 1]?=some V) (hVr:Vs[r - 1]?=some Vr) (lm':Nat) (xs:List Nat) (hxs:xs=if s<r then [s,r] else [r,s]) :
  Waves 6 ⟨ds++[jC4 i s q k v 0],ord,[],c1s (i+1) 5 (jA9 xs 1) (i+2) lm' [] ((jB9 isAw (jA9 xs 1)).map λk=>(i+1,k,1)),[],((jBh Vs).set (r - 1) (hs1 Vr (i+1) 1 1 0 k ByteArray.empty,[])).set (s - 1) (hs1 V (i+1) 1 1 1 k v,[])⟩
   (hnet (i+1) lm' (ds++[jC4 i s q k v 5]) (ord++[i]) (Vs.set (s - 1) (jAb V k v))) 6:=by
 have hl:=(List.getElem?_eq_some_iff.1 hV).1
 have hlr:=(List.getElem?_eq_some_iff.1 hVr).1
 have hd:(ds++[jC4 i s q k v 0])[i]?=some (jC4 i s q k v 0):=by rw [List.getElem?_append_right (by have:=h.len.2.1;omega),show i - ds.length=0 by have:=h.len.2.1;omega];rfl
 have hm:Mute (((jBh Vs).set (r - 1) (hs1 Vr (i+1) 1 1 0 k ByteArray.empty,[])).set (s - 1) (hs1 V (i+1) 1 1 1 k v,[])):=(jE9 Vs).set.set
 have hxs1:(((jBh Vs).set (r - 1) (hs1 Vr (i+1) 1 1 0 k ByteArray.empty,[])).set (s - 1) (hs1 V (i+1) 1 1 1 k v,[]))[s - 1]?=some (hs1 V (i+1) 1 1 1 k v,[]):=List.getElem?_set_self (by simpa using hl)
 have hxr1:(((jBh Vs).set (r - 1) (hs1 Vr (i+1) 1 1 0 k ByteArray.empty,[])).set (s - 1) (hs1 V (i+1) 1 1 1 k v,[]))[r - 1]?=some (hs1 Vr (i+1) 1 1 0 k ByteArray.empty,[]):=by rw [List.getElem?_set_ne oE];exact List.getElem?_set_self (by simpa using hlr)
 have hT:Tabs (((jBh Vs).set (r - 1) (hs1 Vr (i+1) 1 1 0 k ByteArray.empty,[])).set (s - 1) (hs1 V (i+1) 1 1 1 k v,[])) Vs:=by
  have h1:Tabs ((jBh Vs).set (r - 1) (hs1 Vr (i+1) 1 1 0 k ByteArray.empty,[])) Vs:=Tabs.same (y:=(hs1 Vr (i+1) 1 1 0 k ByteArray.empty,[])) (jE7 Vs) (jD7 hVr) rfl
  exact Tabs.same (x:=(rs V,[])) (y:=(hs1 V (i+1) 1 1 1 k v,[])) h1 (by rw [List.getElem?_set_ne oE];exact jD7 hV) rfl
 have ht:i+1≠0∧i+1<18446744073709551616:=by omega
 have hx2:((jBh Vs).set (s - 1) (hs1 V (i+1) 3 0 1 k v,[]))[s - 1]?=some (hs1 V (i+1) 3 0 1 k v,[]):=List.getElem?_set_self (by simpa using hl)
 have hT2:Tabs ((jBh Vs).set (s - 1) (hs1 V (i+1) 3 0 1 k v,[])) Vs:=Tabs.same (y:=(hs1 V (i+1) 3 0 1 k v,[])) (jE7 Vs) (jD7 hV) rfl
 have tl:∀ ps:List Nat,ps.getD s 0=2→(ps.set s 5).any jDf=false→Waves 4 ⟨ds++[jC4 i s q k v 5],ord++[i],[],c1s (i+1) 6 ps (i+2) lm' [] [(i+1,s,5)],[],(jBh Vs).set (s - 1) (hs1 V (i+1) 3 0 1 k v,[])⟩ (hnet (i+1) lm' (ds++[jC4 i s q k v 5]) (ord++[i]) (Vs.set (s - 1) (jAb V k v))) 2:=λps g3 dn=>by
  have:=jYa (ds:=ds++[jC4 i s q k v 5]) (ord:=ord++[i]) (nx:=i+2) (lm:=lm') (jE9 Vs).set ⟨hs.1,by omega⟩ ht hx2 hT2 sE g3 dn (h.nice2 hi hV hs.1) (λx hx e=>by
   rcases List.mem_append.1 hx with e2 | e2
   ·obtain ⟨j,hj⟩:=List.getElem?_of_mem e2
    exact (h.each j x hj).2.1
   ·simp at e2;subst e2;rfl)
  rw [List.set_set] at this
  have e9:jBh (Vs.set (s - 1) (jAb V k v))=(jBh Vs).set (s - 1) (rs (jAb V k v),[]):=by
   show (Vs.set (s - 1) (jAb V k v)).map _=_
   rw [List.map_set]
  unfold hnet
  rw [e9]
  exact this
 have hb:=λj=>jWn (R:=jBh Vs) (r:=r - 1) (s:=s - 1) (x:=(hs1 Vr (i+1) 1 1 0 k ByteArray.empty,[])) (y:=(hs1 V (i+1) 1 1 1 k v,[])) (xr:=(rs Vr,[])) (ys:=(hs1 V (i+1) 3 0 1 k v,[])) oE (jD7 hVr) j (by simpa using hl)
 subst hxs
 by_cases hsr:s<r
 ·rw [if_pos hsr]
  have t2:=jQk (a:=s) (b:=r) ⟨hs.1,hsr,by omega⟩
  refine jYc (d:=jC4 i s q k v 0) (va:=2) (vb:=4) hm ⟨hs.1,hsr,by omega⟩ ht (.inl rfl) (.inr rfl) hxs1 hxr1 (jC7 V (i+1) 1 k v s) (jEb Vr (i+1) k ByteArray.empty r) rfl rfl hT (h.nice hi 0) t2 hd rfl rfl rfl (m:=2) ?_
  rw [jIu _ _ _ _ h.len.2.1,List.ext_getElem? (λj=>(hb j).2)]
  exact tl _ t2.g3 t2.dn
 ·rw [if_neg hsr]
  have t2:=jUp (a:=r) (b:=s) ⟨hr.1,by omega,by omega⟩
  refine jYc (d:=jC4 i s q k v 0) (va:=4) (vb:=2) hm ⟨hr.1,by omega,by omega⟩ ht (.inr rfl) (.inl rfl) hxr1 hxs1 (jEb Vr (i+1) k ByteArray.empty r) (jC7 V (i+1) 1 k v s) rfl rfl hT (h.nice hi 0) t2 hd rfl rfl rfl (m:=2) ?_
  rw [jIu _ _ _ _ h.len.2.1,List.ext_getElem? (λj=>(hb j).1)]
  exact tl _ t2.g3 t2.dn
end
end Go.Proofs.YtcalalndmcemiaaGreatDoor
set_option maxRecDepth 100000
set_option maxHeartbeats 16000000
namespace Go.Proofs.YtcalalndmcemiaaGreatDoor
open Go.RowKit Go.Maps Go.Shelf
open Sc
structure KStep where
 kd:Int
 a:Int
 b:Int
 c:Int
 f1:Int
 f2:Int
 f3:Int
 f4:Int
def KCells (w:World) (b o:Nat) (s:KStep):Prop :=
 w.cell? ⟨b,o,none⟩=some (.int .i64 s.kd)∧w.cell? ⟨b,o+1,none⟩=some (.int .i64 s.a)∧w.cell? ⟨b,o+2,none⟩=some (.int .i64 s.b)∧w.cell? ⟨b,o+3,none⟩=some (.int .i64 s.c) ∧
 w.cell? ⟨b,o+4,none⟩=some (.int .i64 s.f1)∧w.cell? ⟨b,o+5,none⟩=some (.int .i64 s.f2)∧w.cell? ⟨b,o+6,none⟩=some (.int .i64 s.f3)∧w.cell? ⟨b,o+7,none⟩=some (.int .i64 s.f4)
def jUi (w:World) (v:Value) (L:List KStep):Prop :=
 ∃ ao cap,v=.slice ao L.length cap∧∀ i s,L[i]?=some s→(∃ b off,ao=some ⟨b,off,none⟩∧b<w.heap.size∧KCells w b (off+i*8) s)∧InI s.a∧InI s.b∧InI s.c
theorem KCells.below {w w':World} {b o B:Nat} {s:KStep} (h:KCells w b o s) (hb:Below B w w') (hlt:b<B):KCells w' b o s:=by
 obtain ⟨h0,h1,h2,h3,h4,h5,h6,h7⟩:=h
 exact ⟨(hb.cell (p:=⟨b,o,none⟩) hlt).trans h0,(hb.cell (p:=⟨b,o+1,none⟩) hlt).trans h1,(hb.cell (p:=⟨b,o+2,none⟩) hlt).trans h2,(hb.cell (p:=⟨b,o+3,none⟩) hlt).trans h3,(hb.cell (p:=⟨b,o+4,none⟩) hlt).trans h4,(hb.cell (p:=⟨b,o+5,none⟩) hlt).trans h5,(hb.cell (p:=⟨b,o+6,none⟩) hlt).trans h6,(hb.cell (p:=⟨b,o+7,none⟩) hlt).trans h7⟩
theorem jIh (v:Value) (n:Nat):madeCells #[v] n=(List.replicate n v).toArray:=by
 apply Array.ext
 ·rw [size_madeCells];simp
 ·intro i h1 h2
  simp [madeCells]
  rw [Nat.mod_one]
  rfl
theorem Tryz.infoSS:(Tryz.prog.info? 35).map (λi=>(i.zero,i.size,i.bytes))=some (some (.slice none 0 0),1,24):=by kernel_rfl
theorem Tryz.infoI1:(Tryz.prog.info? 3).map (λi=>(i.zero,i.size,i.bytes))=some (some (.int .i64 0),1,8):=by kernel_rfl
theorem mkSS (w:World) (n:Nat) (hn:n≤1000):(Instr.makeSlice 32 (.int .i64 (n:Int)) (.int .i64 (n:Int))).run Tryz.prog w=.ok (.slice (some ⟨w.heap.size,0,none⟩) n n) (w.alloc (.cells (List.replicate n (.slice none 0 0)).toArray 35)):=by
 obtain ⟨i0,hi,hz0,hz1,hz2⟩:=info_parts Tryz.infoSS
 have:=run_make (P:=Tryz.prog) w 32 35 i0 _ Tryz.underlying32 hi hz0 .i64 .i64 n n oE (Int.le_refl _) (by rw [hz2];omega) oE
 rw [hz1] at this
 simp only [Int.toNat_natCast,Value.cells,jIh,Nat.mul_one] at this
 exact this
theorem mkS5 (w:World):(Instr.makeSlice 35 (.int .i64 5) (.int .i64 5)).run Tryz.prog w=.ok (.slice (some ⟨w.heap.size,0,none⟩) 5 5) (w.alloc (.cells (List.replicate 5 (.string ByteArray.empty)).toArray 9)):=by
 obtain ⟨i0,hi,hz0,hz1,hz2⟩:=info_parts Tryz.infoSg
 have:=run_make (P:=Tryz.prog) w 35 9 i0 _ Tryz.underlying35 hi hz0 .i64 .i64 5 5 oE (Int.le_refl _) (by rw [hz2];omega) oE
 rw [hz1] at this
 simp only [Value.cells,jIh,Nat.mul_one] at this
 exact this
theorem mkI (w:World) (n:Nat) (hn:n≤1000):(Instr.makeSlice 53 (.int .i64 (n:Int)) (.int .i64 (n:Int))).run Tryz.prog w=.ok (.slice (some ⟨w.heap.size,0,none⟩) n n) (w.alloc (.cells (List.replicate n (.int .i64 0)).toArray 3)):=by
 obtain ⟨i0,hi,hz0,hz1,hz2⟩:=info_parts Tryz.infoI1
 have:=run_make (P:=Tryz.prog) w 53 3 i0 _ Tryz.underlying53 hi hz0 .i64 .i64 n n oE (Int.le_refl _) (by rw [hz2];omega) oE
 rw [hz1] at this
 simp only [Int.toNat_natCast,Value.cells,jIh,Nat.mul_one] at this
 exact this
abbrev sl5 (g:Nat):Value:=.slice (some ⟨g,0,none⟩) 5 5
abbrev jQ4 (l:List ByteArray):Obj:=.cells (l.map Value.string).toArray 9 (0,0)
abbrev e5:List ByteArray:=List.replicate 5 ByteArray.empty
structure HaveM (w:World) (hb m:Nat) (gs:List Nat) (H:List (List ByteArray)):Prop where
 blk:w.heap[hb]?=some (.cells (gs.map sl5++List.replicate m (Value.slice none 0 0)).toArray 35 (0,0))
 len:gs.length=H.length
 each:∀ (j g:Nat) (row:List ByteArray),gs[j]?=some g→H[j]?=some row→w.heap[g]?=some (jQ4 row)∧row.length=5
 dis:gs.Nodup
theorem HaveM.lg {w w':World} {B hb m:Nat} {gs:List Nat} {H:List (List ByteArray)} (h:HaveM w hb m gs H) (hf:LgF B w w'):HaveM w' hb m gs H :=
 ⟨hf.cells _ _ _ _ h.blk (by simp [jAd]) (by simp [LawTy]),h.len,λj g row h1 h2=>⟨hf.cells _ _ _ _ (h.each j g row h1 h2).1 (by simp [jAd]) (by simp [LawTy]),(h.each j g row h1 h2).2⟩,h.dis⟩
theorem HaveM.new {w w':World} {hb m:Nat} {gs:List Nat} {H:List (List ByteArray)} (h:HaveM w hb m gs H) (hf:Fr [] w w'):HaveM w' hb m gs H :=
 ⟨(hf.block _ (Array.getElem?_eq_some_iff.1 h.blk).1 sE).trans h.blk,h.len,λj g row h1 h2=>⟨(hf.block _ (Array.getElem?_eq_some_iff.1 (h.each j g row h1 h2).1).1 sE).trans (h.each j g row h1 h2).1,(h.each j g row h1 h2).2⟩,h.dis⟩
theorem HaveM.add {w:World} {hb k g:Nat} {gs:List Nat} {H:List (List ByteArray)} (h:HaveM w hb (k+1) gs H) (hg:w.heap[g]?=some (jQ4 e5)) (hn:g∉gs) :
  w.cell? ⟨hb,gs.length,none⟩=some (.slice none 0 0)∧w.frozen? ⟨hb,gs.length,none⟩=false∧HaveM (w.setCell ⟨hb,gs.length,none⟩ (sl5 g)) hb k (gs++[g]) (H++[e5]):=by
 have hi:(gs.map sl5++List.replicate (k+1) (Value.slice none 0 0)).toArray[gs.length]?=some (.slice none 0 0):=by
  rw [List.getElem?_toArray,List.getElem?_append_right sE]
  simp
 refine ⟨(jA0 h.blk _).trans hi,jA2 h.blk _,?_,by simp [h.len],λj g' row h1 h2=>?_,?_⟩
 ·have:=jA5 h.blk gs.length (sl5 g)
  rw [this]
  simp only [List.setIfInBounds_toArray]
  rw [List.set_append_right _ _ sE]
  simp [List.replicate_succ]
 ·have ne:∀ q l,w.heap[q]?=some (jQ4 l)→q∉[hb]:=λq l hq hm=>by
   simp at hm
   subst hm
   rw [h.blk] at hq
   have:=Option.some.inj hq
   simp only [Obj.cells.injEq] at this
   exact absurd this.2.1 dN
  have hfs:Fr [hb] w (w.setCell ⟨hb,gs.length,none⟩ (sl5 g)):=Fr.set1 sE _ _
  rcases Nat.lt_or_ge j gs.length with hl | hl
  ·rw [List.getElem?_append_left hl] at h1
   rw [List.getElem?_append_left (by rw [← h.len];exact hl)] at h2
   have:=h.each j g' row h1 h2
   exact ⟨(hfs.block g' (Array.getElem?_eq_some_iff.1 this.1).1 (ne g' row this.1)).trans this.1,this.2⟩
  ·rw [List.getElem?_append_right hl] at h1
   rw [List.getElem?_append_right (by rw [← h.len];exact hl),← h.len] at h2
   cases e:j - gs.length with
   | zero =>
    rw [e] at h1 h2
    cases h1
    cases h2
    exact ⟨(hfs.block g (Array.getElem?_eq_some_iff.1 hg).1 (ne g e5 hg)).trans hg,by simp⟩
   | succ m=>rw [e] at h1;cases h1
 ·rw [List.nodup_append]
  exact ⟨h.dis,by simp,λa ha b hb' e=>by simp at hb';subst hb';subst e;exact hn ha⟩
theorem HaveM.cell {w:World} {hb j c:Nat} {gs:List Nat} {H:List (List ByteArray)} {row:List ByteArray} {y:ByteArray} (h:HaveM w hb 0 gs H) (hj:H[j]?=some row) (hc:row[c]?=some y):∃ g,gs[j]?=some g∧w.cell? ⟨hb,j,none⟩=some (sl5 g)∧w.cell? ⟨g,c,none⟩=some (.string y)∧w.frozen? ⟨g,c,none⟩=false∧w.heap[g]?=some (jQ4 row)∧row.length=5:=by
 obtain ⟨g,hg⟩:∃ g,gs[j]?=some g:=⟨_,List.getElem?_eq_getElem (by rw [h.len];exact (List.getElem?_eq_some_iff.1 hj).1)⟩
 have he:=h.each j g row hg hj
 refine ⟨g,hg,(jA0 h.blk j).trans ?_,(jA0 he.1 c).trans ?_,jA2 he.1 c,he.1,he.2⟩
 ·rw [List.getElem?_toArray,List.getElem?_append_left (by simp;exact (List.getElem?_eq_some_iff.1 hg).1),List.getElem?_map,hg];rfl
 ·rw [List.getElem?_toArray,List.getElem?_map,hc];rfl
theorem HaveM.put {w:World} {hb j c g:Nat} {gs:List Nat} {H:List (List ByteArray)} {row:List ByteArray} (h:HaveM w hb 0 gs H) (hj:H[j]?=some row) (hg:gs[j]?=some g) (y:ByteArray):HaveM (w.setCell ⟨g,c,none⟩ (.string y)) hb 0 gs (H.set j (row.set c y)):=by
 have he:=h.each j g row hg hj
 have hfs:Fr [g] w (w.setCell ⟨g,c,none⟩ (.string y)):=Fr.set1 sE _ _
 refine ⟨(hfs.block hb (Array.getElem?_eq_some_iff.1 h.blk).1 (λhm=>?_)).trans h.blk,by simp [h.len],λj' g' row' h1 h2=>?_,h.dis⟩
 ·simp at hm
  subst hm
  have h1:=h.blk
  rw [he.1] at h1
  have:=Option.some.inj h1
  simp only [Obj.cells.injEq] at this
  exact absurd this.2.1 dN
 ·by_cases e:j=j'
  ·subst e
   rw [hg] at h1
   cases h1
   rw [List.getElem?_set_self (List.getElem?_eq_some_iff.1 hj).1] at h2
   cases h2
   refine ⟨?_,by simp [he.2]⟩
   have:=jA5 he.1 c (.string y)
   rw [this]
   simp [List.map_set]
  ·rw [List.getElem?_set_ne e] at h2
   have h3:=h.each j' g' row' h1 h2
   refine ⟨(hfs.block g' (Array.getElem?_eq_some_iff.1 h3.1).1 (λhm=>?_)).trans h3.1,h3.2⟩
   simp at hm
   subst hm
   apply e
   have hi:=List.getElem?_eq_some_iff.1 hg
   have hi':=List.getElem?_eq_some_iff.1 h1
   exact (List.getElem_inj h.dis).1 (hi.2.trans hi'.2.symm)
section
variable {w0 w w':World} {B np n K q:Nat} {hv dv bv ov:Value} {fl:Bool} {hps:List Nat} {ps:List (Nat × Value × Value)} {ds:List ADeal} {bag:List Msg} {ord:List Nat} {A:ANet} {c:Array Value} {t:TypeId}
theorem LawM.side (h:LawM w B np hv dv bv ov n fl hps ps ds bag ord) (hf:Fr [q] w w') (hq:w.heap[q]?=some (.cells c t (0,0))) (ht:t=35∨t=9) (hb:bag=[]):LawM w' B np hv dv bv ov n fl hps ps ds bag ord:=by
 have keep:∀ (k:Nat) (c':Array Value) (t':TypeId),w.heap[k]?=some (.cells c' t' (0,0))→t'≠35→t'≠9→w'.heap[k]?=some (.cells c' t' (0,0)):=λk c' t' hk h1 h2=>(hf.block k (Array.getElem?_eq_some_iff.1 hk).1 (λhm=>by
  simp at hm
  subst hm
  rw [hq] at hk
  cases hk
  rcases ht with e | e
  ·exact h1 e
  ·exact h2 e)).trans hk
 have row:∀ {b m j:Nat} {e:TypeId} {v:Value} {xs:List Value},w.ownsRow b e j v m xs→e≠35→e≠9→w'.ownsRow b e j v m xs:=λ{b m j e v xs} hr h1 h2=>jAf hr (λg hg=>by
  obtain ⟨c,hc⟩:=jA4 hr hg
  exact (keep g c e hc h1 h2).trans hc.symm)
 have hbv:=h.bg0 hb
 subst hbv hb
 exact ⟨keep _ _ _ h.net dN dN,⟨h.low.1,Nat.le_trans h.low.2 hf.size⟩,row h.hs dN dN,row h.dl dN dN,World.ownsRow_nil _ _ _ _,h.bg0,row h.od dN dN,h.odl,h.ap,h.len,λj p x h1 h2=>by
  have hd:=h.each j p x h1 h2
  exact ⟨keep _ _ _ hd.blk dN dN,hd.low,row hd.seq dN dN,row hd.wrs dN dN⟩,h.dis⟩
theorem NetB.side (h:NetB w0 w B np n K hv hps A) (hf:Fr [q] w w') (hq:w.heap[q]?=some (.cells c t (0,0))) (ht:t=35∨(t=9∧2≤c.size)) (hb:A.bag=[]):NetB w' w' B np n K hv hps A:=by
 obtain ⟨dv,bv,ov,fl,ps,Ls,h1,h2,h3,h4⟩:=h
 have hS:LawS w [q]:=λk hk _=>by
  simp at hk
  subst hk
  refine ⟨c,t,_,hq,?_,λe=>?_⟩
  ·rcases ht with e | ⟨e,-⟩ <;> subst e <;> simp [jAd]
  ·rcases ht with e2 | ⟨-,e2⟩
   ·rw [e2] at e;exact absurd e dN
   ·exact e2
 have h1':=h1.side hf hq (ht.imp id (·.1)) hb
 exact ⟨dv,bv,ov,fl,ps,Ls,h1',h2.law hf hS,by rw [h1.bg0 hb];nofun,⟨Below.refl _ _,λ_ _ _ _ hk _ _=>hk⟩⟩
theorem NetB.rebase (h:NetB w0 w B np n K hv hps A) (hb:A.bag=[]):NetB w w B np n K hv hps A:=by
 obtain ⟨dv,bv,ov,fl,ps,Ls,h1,h2,h3,h4⟩:=h
 exact ⟨dv,bv,ov,fl,ps,Ls,h1,h2,by rw [h1.bg0 hb];nofun,⟨Below.refl _ _,λ_ _ _ _ hk _ _=>hk⟩⟩
theorem NetB.lgf (h:NetB w0 w B np n K hv hps A):LgF B w0 w:=by
 obtain ⟨dv,bv,ov,fl,ps,Ls,h1,h2,h3,h4⟩:=h
 exact h4
end
def keyB (c:Nat):ByteArray:=str (107 :: dgs c)
def vlB (i:Nat):ByteArray:=str (118 :: dgs i)
theorem jD9 {c:Nat} (h:c<10):dgs c=[48+c]:=by rw [dgs,if_pos h]
theorem jT6 {a b:Nat} (ha:a<5) (hb:b<5) (h:keyB a=keyB b):a=b:=by
 unfold keyB at h
 rw [jD9 oE,jD9 oE] at h
 have h1:=congrArg jA6 h
 rw [jCt (by intro x hx;simp at hx;omega),jCt (by intro x hx;simp at hx;omega)] at h1
 simp at h1
 omega
theorem jEm (c:Nat) (h:c<5):1≤(keyB c).size∧(keyB c).size≤16:=by
 unfold keyB
 rw [jB1,jD9 oE]
 simp
theorem jTn (i:Nat) (h:i<60):1≤(vlB i).size∧(vlB i).size≤32:=by
 have hd:1≤(dgs i).length∧(dgs i).length≤2:=by
  rw [dgs]
  split
  ·simp
  ·rw [List.length_append,dgs,if_pos oE]
   simp
 unfold vlB
 rw [jB1]
 simp
 omega
structure HaveOk (Vs:List (List (ByteArray × ByteArray))) (H:List (List ByteArray)):Prop where
 len:H.length=Vs.length+1∧∀ row∈H,row.length=5
 each:∀ (j:Nat) (V:List (ByteArray × ByteArray)) (row:List ByteArray),Vs[j]?=some V→H[j+1]?=some row→∀ c,c<5→row[c]?=some ((jA3 V (keyB c)).getD ByteArray.empty)∧∀ y,jA3 V (keyB c)=some y→1≤y.size
theorem jWd (n:Nat):HaveOk (List.replicate n []) (List.replicate (n+1) e5):=by
 refine ⟨⟨by simp,λrow hr=>by rw [List.eq_of_mem_replicate hr];rfl⟩,λj V row hV hr c hc=>?_⟩
 have e1:V=[]:=by
  rw [List.getElem?_replicate] at hV
  split at hV
  ·exact (Option.some.inj hV).symm
  ·cases hV
 have e2:row=e5:=by
  rw [List.getElem?_replicate] at hr
  split at hr
  ·exact (Option.some.inj hr).symm
  ·cases hr
 subst e1 e2
 refine ⟨?_,nofun⟩
 rw [List.getElem?_replicate,if_pos hc]
 rfl
theorem jSr (V:List (ByteArray × ByteArray)) (k k' v:ByteArray):jA3 (jAb V k v) k'=if k=k' then some v else jA3 V k':=by
 unfold jAb jA3
 rw [List.find?_cons]
 by_cases e:k=k'
 ·simp [e]
 ·simp only [e,decide_false,if_false]
  congr 1
  unfold jAi
  rw [List.find?_filter]
  congr 1
  funext p
  by_cases e2:p.1=k'
  ·simp [e2]
   exact λe3=>e e3.symm
  ·simp [e2]
theorem HaveOk.put {Vs:List (List (ByteArray × ByteArray))} {H:List (List ByteArray)} {s c:Nat} {V:List (ByteArray × ByteArray)} {row:List ByteArray} {v:ByteArray} (h:HaveOk Vs H) (hs:1≤s) (hV:Vs[s - 1]?=some V) (hr:H[s]?=some row) (hc:c<5) (hv:1≤v.size):HaveOk (Vs.set (s - 1) (jAb V (keyB c) v)) (H.set s (row.set c v)):=by
 refine ⟨⟨by simp [h.len.1],λr hr'=>?_⟩,λj W r hW hr' c' hc'=>?_⟩
 ·rcases List.mem_or_eq_of_mem_set hr' with e | e
  ·exact h.len.2 r e
  ·rw [e,List.length_set];exact h.len.2 row (List.mem_of_getElem? hr)
 ·by_cases e:s - 1=j
  ·subst e
   rw [List.getElem?_set_self (List.getElem?_eq_some_iff.1 hV).1] at hW
   rw [show s - 1+1=s by omega,List.getElem?_set_self (List.getElem?_eq_some_iff.1 hr).1] at hr'
   cases hW
   cases hr'
   rw [jSr]
   have h9:=h.each (s - 1) V row hV (by rw [show s - 1+1=s by omega];exact hr) c' hc'
   by_cases e2:c=c'
   ·subst e2
    rw [if_pos rfl,List.getElem?_set_self (by rw [h.len.2 row (List.mem_of_getElem? hr)];exact hc)]
    exact ⟨rfl,λy hy=>by cases hy;exact hv⟩
   ·rw [if_neg (λe3=>e2 (jT6 hc hc' e3)),List.getElem?_set_ne e2]
    exact h9
  ·rw [List.getElem?_set_ne e] at hW
   rw [List.getElem?_set_ne oE] at hr'
   exact h.each j W r hW hr' c' hc'
def AHead (B np n hb:Nat) (hv:Value) (hps:List Nat) (w1:World) (q:Nat) (wr:World):Prop :=
 ∃ ds ord Vs lm K gs H,Head n q lm ds ord Vs∧NetB wr wr B np n K hv hps (hnet q lm ds ord Vs)∧K≤1+12*q∧HaveM wr hb 0 gs H∧HaveOk Vs H∧Below B w1 wr∧∀ g∈gs,B≤g
structure AMid (B np n hb:Nat) (hv:Value) (hps:List Nat) (w1:World) (gs:List Nat) (H:List (List ByteArray)) (wr:World) (K:Nat) (A:ANet) (w:World):Prop where
 net:NetB wr w B np n K hv hps A
 hav:HaveM w hb 0 gs H
 low:Below B w1 w
section
variable {B np n hb K K':Nat} {hv:Value} {hps gs:List Nat} {w1 wr w w':World} {H:List (List ByteArray)} {A A':ANet}
theorem AMid.new (h:AMid B np n hb hv hps w1 gs H wr K A w) (hf:Fr [] w w'):AMid B np n hb hv hps w1 gs H wr K A w':=⟨h.net.new hf,h.hav.new hf,h.low.trans (hf.below h.net.hs.2 sE)⟩
theorem AMid.node {Ls:List (List Nat)} (h:AMid B np n hb hv hps w1 gs H wr K A w) (hp:NdP Ls B hps A'.c A'.co A'.ss K' w w') (e1:A'.ds=A.ds) (e2:A'.ord=A.ord) (e3:A'.bag=A.bag):AMid B np n hb hv hps w1 gs H wr K' A' w':=by
 obtain ⟨⟨Ls',hN⟩,hf,-⟩:=hp
 obtain ⟨dv,bv,ov,fl,ps,L0,q1,q2,q3,q4⟩:=h.net
 exact ⟨⟨dv,bv,ov,fl,ps,Ls',by rw [e1,e2,e3];exact q1.nlf hf,hN,q3,q4.trans hf.lg⟩,h.hav.lg hf.lg,h.low.trans hf.below⟩
theorem AMid.nds (h:AMid B np n hb hv hps w1 gs H wr K A w):∃ Ls,Nds w B hps A.c A.co A.ss K Ls:=by
 obtain ⟨dv,bv,ov,fl,ps,L0,q1,q2,q3,q4⟩:=h.net
 exact ⟨L0,q2⟩
end
theorem jTb {y:ByteArray} (h:1≤y.size):y.toList.isEmpty=false:=by
 have e:y.toList.length=y.size:=by rw [Lib.toList_data];rfl
 cases h2:y.toList with
 | nil=>rw [h2] at e;simp at e;omega
 | cons a l=>rfl
structure Trn (q s r:Nat) (cc:ACo) (SS2:List (AShard × List Msg)) (k v:ByteArray) (sq:Int) (zs:List Int) (x2 x3:AShard) (c5:ACo):Prop where
 at2:SS2[s - 1]?=some (x2,[])
 put:x2.operate (q+1) sq k ⟨1,v⟩=(x3,0)
 sqv:sq=if r=s then 1 else 0
 zsv:zs=if r=s then [(s:Int)] else if s<r then [(s:Int),(r:Int)] else [(r:Int),(s:Int)]
 com:cc.commE (q+1) zs=0∧cc.commS (q+1) zs=c5
theorem jVs {n q lm s r lm':Nat} {ds:List ADeal} {ord:List Nat} {Vs:List (List (ByteArray × ByteArray))} {V Vr:List (ByteArray × ByteArray)} {k v:ByteArray} (h:Head n q lm ds ord Vs) (hq:q<60) (hn:n≤4) (hs:1≤s∧s≤n) (hr:1≤r∧r≤n) (hV:Vs[s - 1]?=some V) (hVr:Vs[r - 1]?=some Vr) (hk:1≤k.size∧k.size≤16) (hv:v.size≤32) :
  ∃ sq zs x2 x3 c5,Trn q s r (c1s (q+1) 4 jBl (q+2) lm' [] []) ((jBh Vs).set (r - 1) (hs1 Vr (q+1) 1 1 0 k ByteArray.empty,[])) k v sq zs x2 x3 c5 ∧
   ∀ qq:List Nat,∃ R,R≤6∧Waves 6 ⟨ds++[jC4 q s qq k v 0],ord,[],c5,[],((jBh Vs).set (r - 1) (hs1 Vr (q+1) 1 1 0 k ByteArray.empty,[])).set (s - 1) (x3,[])⟩ (hnet (q+1) lm' (ds++[jC4 q s qq k v 5]) (ord++[q]) (Vs.set (s - 1) (jAb V k v))) R:=by
 by_cases e:r=s
 ·subst e
  rw [hV] at hVr
  cases hVr
  have o1:=jR6 (s:=r) ⟨hs.1,by omega⟩
  have c:=jI1 (q+1) (q+2) lm' [(r:Int)] o1.rise
  refine ⟨1,[(r:Int)],hs1 V (q+1) 1 1 0 k ByteArray.empty,hs1 V (q+1) 1 2 1 k v,_,⟨List.getElem?_set_self (by simpa using (List.getElem?_eq_some_iff.1 hV).1),jW1 V (q+1) k v oE hk hv,by rw [if_pos rfl],by rw [if_pos rfl],c.1,c.2⟩,λqq=>⟨4,by omega,?_⟩⟩
  rw [List.set_set]
  exact jXs h hq hn hs hV lm' 2
 ·have hx:((jBh Vs).set (r - 1) (hs1 Vr (q+1) 1 1 0 k ByteArray.empty,[]))[s - 1]?=some (rs V,[]):=by rw [List.getElem?_set_ne oE];exact jD7 hV
  have hp:=jE4 V (q+1) k ⟨1,v⟩ oE hk hv
  by_cases e2:s<r
  ·have t2:=jQk (a:=s) (b:=r) ⟨hs.1,e2,by omega⟩
   have c:=jI1 (q+1) (q+2) lm' [(s:Int),(r:Int)] t2.rise
   refine ⟨0,[(s:Int),(r:Int)],rs V,hs1 V (q+1) 1 1 1 k v,_,⟨hx,hp,by rw [if_neg e],by rw [if_neg e,if_pos e2],c.1,c.2⟩,λqq=>⟨6,by omega,?_⟩⟩
   exact jUs h hq hn hs hr e hV hVr lm' _ (by rw [if_pos e2];simp)
  ·have t2:=jUp (a:=r) (b:=s) ⟨hr.1,by omega,by omega⟩
   have c:=jI1 (q+1) (q+2) lm' [(r:Int),(s:Int)] t2.rise
   refine ⟨0,[(r:Int),(s:Int)],rs V,hs1 V (q+1) 1 1 1 k v,_,⟨hx,hp,by rw [if_neg e],by rw [if_neg e,if_neg e2],c.1,c.2⟩,λqq=>⟨6,by omega,?_⟩⟩
   exact jUs h hq hn hs hr e hV hVr lm' _ (by rw [if_neg e2];simp)
end Go.Proofs.YtcalalndmcemiaaGreatDoor
