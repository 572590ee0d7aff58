import Derived.Test.YtdcafjmdfpjcbaaGreatDoorC32
namespace Go.Proofs.YtdcafjmdfpjcbaaGreatDoor
open Go.RowKit Go.Maps Tryz Sc
variable{xs:List a_}{t:Nat}{x:a_}
def a_.B8(aL:Nat)(x:a_):fX:=if x.st=3 then ⟨3,0,0⟩ else ⟨x.st,x.ops,aL-x.jY⟩
structure a_.Ok(aL:Nat)(x:a_):Prop where
 E1:x.id≠0
 Ef:x.id<2^64
 st:x.st=1\/x.st=2\/x.st=3
 jY:x.st≠3->x.jY<=aL/\x.jY<16
 once:iy x.ak
 four:x.ak.length<=4
 small:∀l∈x.ak,1<=l.key.size/\l.key.size<=16/\l.val.size<=32
 read:∀l∈x.ak,l.wr=false->l.val=yA
structure Rel(s:ag)(R:aK):Prop where
 jh:jg R.af
 table:R.table=dy s.aS
 af:∀t,aj s.af t=(aU R.af t).map (a_.B8 s.aL)
 holds:∀t k,aj s.holds (t,k)=(aU R.af t).bind λx=>(aT x.ak k).map aJ.dx
 ok:∀x∈R.af,x.Ok s.aL
 len:R.af.length<=12
 o1:aV s.af
 o2:aV s.holds
section
variable{s:ag}{R:aK}
theorem CT{xs:List a_}(h:jg xs):(xs.map (·.id)).Nodup:=by
 unfold List.Nodup;rw[List.pairwise_map];exact h.imp λY=>oE
theorem Rel.Rg(h:Rel s R):s.af.length=R.af.length:=by
 have hp:(s.af.map (·.1)).Perm (R.af.map (·.id)):=by
  rw[List.perm_ext_iff_of_nodup (xe h.o1)<|CT h.jh];intro t;constructor
  .intro ht;obtain⟨p,hp,rfl⟩:=zzq.1 ht;have:=bS h.o1 hp;rw[h.af]at this;cases a:aU R.af p.1 with
   |none=>grind
   |some x=>exact zzq.2 ⟨x,(aN a).1,(aN a).2⟩
  .intro ht;obtain⟨x,a,rfl⟩:=zzq.1 ht;have:=h.af x.id;rw[h.jh.at a]at this;exact zzq.2 ⟨_,bJ this,rfl⟩
 simpa using hp.length_eq
theorem Ae(s:List aJ)(k:ByteArray):aj (s.map λl=>(l.key,l.dx)) k=(aT s k).map aJ.dx:=by
 unfold aj aT;rw[List.find?_map];simp only[Function.comp_def,Option.map_map]
theorem Af{s:List aJ}(h:iy s):aV (s.map λl=>(l.key,l.dx)):=by
 unfold aV;rw[List.pairwise_map];exact h
theorem Rel.count(h:Rel s R){t:Nat}{x:a_}(a:aU R.af t=some x):s.count t=x.ak.length:=by
 have:=ag.jx h.o2 (Af (h.ok x (aN a).1).once) λk=>by rw[Ae,h.holds,a];rfl
 rw[<-this,zzn]
theorem Rel.Rh(h:Rel s R){t:Nat}(x:aU R.af t=none):s.count t=0:=by
 have:=ag.jx (L:=[]) h.o2 (by unfold aV;simp) λk=>by rw[h.holds,x];rfl
 rw[<-this];rfl
theorem Rel.here(h:Rel s R){t:Nat}{x:a_}(a:aU R.af t=some x):s.aM t=x.B8 s.aL:=by
 unfold ag.aM;rw[h.af,a];rfl
theorem Rel.gone(h:Rel s R){t:Nat}(x:aU R.af t=none):s.aM t=⟨0,0,0⟩:=by
 unfold ag.aM;rw[h.af,x];rfl
theorem xp(aL:Nat)(x:a_):(x.B8 aL).state=x.st:=by grind[a_.B8]
def aK.state(R:aK)(t:Nat):Nat:=((aU R.af t).map (·.st)).getD 0
theorem Rel.state(h:Rel s R)(t:Nat):(s.aM t).state=R.state t:=by
 unfold aK.state;cases a:aU R.af t with
 |none=>rw[h.gone a];rfl
 |some x=>rw[h.here a,xp];rfl
def aK.refuse(R:aK)(t:Nat)(seq:Int)(k:ByteArray):Nat :=
 if t=0 then 7 else if k.size<1\/16<k.size then 1 else
 match aU R.af t with
 |some x=>if x.st=3 then 4 else if seq≠(x.ops:Int) then 4 else if x.st=2 then 3 else if (aT x.ak k).isSome=false/\x.ak.length=4 then 5 else 0
 |none=>if seq≠0 then 4 else if R.af.length=12 then 5 else 0
theorem Rel.refuse(h:Rel s R)(t:Nat)(seq:Int)(k v:ByteArray)(f:v.size<=32):s.refuse t seq k v=R.refuse t seq k:=by
 have l:=h.Rg;have N:=h.len;unfold ag.refuse ag.fO ag.gV aK.refuse;by_cases c:t=0
 .grind
 rw[if_neg c,if_neg c];by_cases d:k.size<1\/16<k.size
 .grind
 have T:¬(k.size<1\/16<k.size\/32<v.size):=oE;rw[if_neg T,if_neg d];cases a:aU R.af t with
 |none=>
  rw[h.gone a,h.Rh a];simp only[];by_cases q:seq=0
  .grind
  .simp[q]
 |some x=>
  have z:=h.ok x (aN a).1;have g:=z.four;rw[h.here a,h.count a,h.holds,a];simp only[Option.bind_some,Option.isSome_map];unfold a_.B8;by_cases b:x.st=3
  .simp[b]
  .rw[if_neg b,if_neg b];simp only[];by_cases q:seq=(x.ops:Int)
   .subst q;obtain e|e|e:=z.st
    .grind
    .simp[e]
    .grind
   .grind
def iz(t:Nat)(k:ByteArray)(wr:Bool)(x:a_):Bool:=!decide (x.id=t)&&((aT x.ak k).map λl=>wr||l.wr).getD false
def meets(xs:List a_)(t:Nat)(k:ByteArray)(wr:Bool):Bool:=xs.any (iz t k wr)
theorem Rel.Gu(h:Rel s R)(t:Nat)(k:ByteArray)(wr:Bool){x:a_}(a:aU R.af x.id=some x):pd s t k wr x.id=iz t k wr x:=by
 unfold pd iz ag.dx;rw[h.holds,a];simp only[Option.bind_some];cases aT x.ak k with
 |none=>simp
 |some l=>grind[aJ.writes]
theorem Rel.pP(h:Rel s R)(t:Nat)(k:ByteArray)(wr:Bool):s.pP t k wr=meets R.af t k wr:=by
 rw[Bool.eq_iff_iff];unfold ag.pP meets;rw[List.any_eq_true,List.any_eq_true];constructor
 .rintro⟨p,hp,hc⟩;have:=bS h.o1 hp;rw[h.af]at this;cases a:aU R.af p.1 with
  |none=>grind
  |some x=>
   have⟨m,e⟩:=aN a;refine⟨x,m,?_⟩;rw[<-h.Gu t k wr (by rw[e];exact a),e];exact hc
 .rintro⟨x,m,hc⟩;have a:=h.jh.at m;have:=h.af x.id;rw[a]at this;refine⟨_,bJ this,?_⟩;rw[h.Gu t k wr a];exact hc
def aK.tx(R:aK)(t:Nat):a_:=(aU R.af t).getD ⟨t,1,0,0,[]⟩
def began(xs:List a_)(t:Nat):List a_:=if (aU xs t).isSome=true then xs else ins xs ⟨t,1,0,0,[]⟩
theorem pw(xs:List a_)(t u:Nat):aU (began xs t) u=if u=t then some ((aU xs t).getD ⟨t,1,0,0,[]⟩)else aU xs u:=by
 unfold began;cases h:aU xs t with
 |some x=>grind
 |none=>grind[vD]
theorem jg.began{xs:List a_}(h:jg xs)(t:Nat):jg (began xs t):=by
 unfold Go.Proofs.YtdcafjmdfpjcbaaGreatDoor.began;cases a:aU xs t with
 |some x=>grind
 |none=>rw[if_neg sE];exact h.ins _ a
theorem Gv(xs:List a_)(t:Nat)(k:ByteArray)(wr:Bool):meets (began xs t) t k wr=meets xs t k wr:=by
 unfold began;split
 .rfl
 .unfold meets ins;rw[List.any_append,List.any_cons];have:iz t k wr ⟨t,1,0,0,[]⟩=false:=by simp[iz]
  rw[this,Bool.false_or,<-List.any_append,List.takeWhile_append_dropWhile]
def a_.dQ(x:a_):a_:=⟨x.id,2,x.ops,0,x.ak⟩
def a_.worked(x:a_)(f:List aJ->List aJ):a_:=⟨x.id,x.st,x.ops+1,0,f x.ak⟩
def aK.op(R:aK)(t:Nat)(seq:Int)(k:ByteArray)(wr:Bool)(f:List aJ->List aJ):aK × Nat :=
 if R.refuse t seq k=0 then
  if meets (began R.af t) t k wr=true then (⟨R.table,fH (began R.af t) (R.tx t).dQ⟩,3)
  else (⟨R.table,fH (began R.af t) ((R.tx t).worked f)⟩,0)
 else (R,R.refuse t seq k)
structure L8(k:ByteArray)(g:aQ)(f:List aJ->List aJ):Prop where
 once:∀ls,iy ls->iy (f ls)
 len:∀ls,(f ls).length=if (aT ls k).isSome=true then ls.length else ls.length+1
 mem:∀ls l,l∈f ls->l∈ls\/(l.key=k/\l.val.size<=32/\(l.wr=false->l.val=yA))
 look:∀ls,(∀l∈ls,l.wr=false->l.val=yA)->∀q,(aT (f ls) q).map aJ.dx=if q=k then some (if (g.writes||!(((aT ls k).map aJ.dx).getD ⟨0,yA⟩).writes)=true then g else ((aT ls k).map aJ.dx).getD ⟨0,yA⟩) else (aT ls q).map aJ.dx
theorem jQ{R:aK}{t:Nat}{seq:Int}{k:ByteArray}(h:R.refuse t seq k=0):t≠0/\1<=k.size/\k.size<=16/\(∀x,aU R.af t=some x->x.st≠3/\x.st≠2/\seq=(x.ops:Int)/\((aT x.ak k).isSome=false->x.ak.length≠4))/\(aU R.af t=none->seq=0/\R.af.length≠12):=by
 unfold aK.refuse at h;by_cases a:t=0
 .grind
 rw[if_neg a]at h;by_cases c:k.size<1\/16<k.size
 .grind
 rw[if_neg c]at h;refine⟨a,oE,oE,λx b=>?_,λb=>?_⟩
 .grind
 .grind
theorem N3(xs:List a_)(t:Nat):(began xs t).length=if (aU xs t).isSome=true then xs.length else xs.length+1:=by grind[began,Ve]
theorem mh{xs:List a_}{t:Nat}{x y:a_}(h:x∈fH (began xs t) y)(b:y.id=t):x=y\/(x∈xs/\x.id≠t):=by
 unfold fH at h;obtain⟨z,a,rfl⟩:=zzq.1 h;by_cases e:z.id=y.id
 .grind
 .rw[if_neg e];refine .inr ⟨?_,by rw[<-b];exact e⟩;unfold began at a;split at a
  .exact a
  .unfold ins at a;obtain a|a:=zzo.1 a
   .exact(List.takeWhile_sublist _).subset a
   .rcases zzj.1 a with rfl|a
    .grind
    .exact List.dropWhile_subset _ a
theorem yt(R:aK)(t:Nat):(R.tx t).id=t:=by
 unfold aK.tx;cases h:aU R.af t with
 |none=>rfl
 |some x=>exact(aN h).2
theorem aaX(h:Rel s R){t:Nat}(a:t≠0)(c:t<2^64):(R.tx t).Ok s.aL:=by
 unfold aK.tx;cases b:aU R.af t with
 |none=>exact⟨a,c,.inl rfl,λ_=>⟨zzs _,by show 0<16;decide⟩,by unfold iy;simp,sE,sE,sE⟩
 |some x=>exact h.ok x (aN b).1
theorem Vf(h:Rel s R){t:Nat}(hn:∀x,aU R.af t=some x->x.st≠3):(s.aM t).done=(R.tx t).ops:=by
 unfold aK.tx;cases a:aU R.af t with
 |none=>rw[h.gone a];rfl
 |some x=>
  rw[h.here a];unfold a_.B8;rw[if_neg<|hn x a];rfl
theorem vE(h:Rel s R)(t:Nat)(k:ByteArray):aj s.holds (t,k)=(aT (R.tx t).ak k).map aJ.dx:=by
 unfold aK.tx;rw[h.holds];cases a:aU R.af t with
 |none=>rfl
 |some x=>rfl
theorem Rel.op(h:Rel s R)(t:Nat)(seq:Int)(k:ByteArray)(g:aQ)(f:List aJ->List aJ)(I:t<2^64)(E:g.val.size<=32)(n:L8 k g f):
  (s.aY t seq k g).2=(R.op t seq k g.writes f).2/\Rel (s.aY t seq k g).1 (R.op t seq k g.writes f).1:=by
 unfold ag.aY aK.op;rw[h.refuse t seq k g.val E,Gv,<-h.pP];by_cases r:¬R.refuse t seq k=0
 .grind
 have r:R.refuse t seq k=0:=oE;rw[if_pos r,if_pos r];have⟨G,M,T,Q,J⟩:=jQ r;have m:=yt R t;have z:=aaX h G I;have L:=Vf h λx d=>(Q x d).1
 have hlen:(began R.af t).length<=12:=by
  rw[N3];have:=h.len;cases d:aU R.af t with
  |none=>grind
  |some x=>grind
 have o:∀y:a_,y.id=t->∀u,aU (fH (began R.af t) y) u=if u=t then some y else aU R.af u:=by grind[vC,pw]
 by_cases p:s.pP t k g.writes=true
 .rw[if_pos p,if_pos p];refine⟨rfl,{jh:=(h.jh.began t).fH _,table:=h.table,af:=λu=>?_,holds:=λu q=>?_,ok:=λx d=>?_,len:=by rw[Ed];exact hlen,o1:=h.o1.put _ _,o2:=h.o2}⟩
  .show aj (dm s.af t _) u=(aU (fH (began R.af t) (R.tx t).dQ) u).map (a_.B8 s.aL);rw[gj,o (R.tx t).dQ m];by_cases e:u=t
   .grind [a_.B8,a_.dQ]
   .rw[if_neg e,if_neg e,h.af]
  .show aj s.holds (u,q)=(aU (fH (began R.af t) (R.tx t).dQ) u).bind _;rw[o (R.tx t).dQ m];by_cases e:u=t
   .subst e;rw[if_pos rfl,vE h];rfl
   .rw[if_neg e,h.holds]
  .rcases mh d m with rfl|⟨hm,_⟩
   .exact {z with st:=.inr<|.inl rfl,jY:=λ_=>⟨zzs _,by show 0<16;decide⟩}
   .exact h.ok x hm
 .rw[if_neg p,if_neg p];have F:(R.tx t).st=1:=by
   unfold aK.tx;cases d:aU R.af t with
   |none=>rfl
   |some x=>
    have N:=Q x d;obtain e|e|e:=(h.ok x (aN d).1).st
    .exact e
    .grind
    .grind
  have Y:({s with af:=dm s.af t ⟨1,(s.aM t).done+1,s.aL⟩}:ag).dx t k=((aT (R.tx t).ak k).map aJ.dx).getD ⟨0,yA⟩:=by grind[ag.dx,dm,ag,vE]
  have V:∀j:ag,j=({s with af:=dm s.af t ⟨1,(s.aM t).done+1,s.aL⟩}:ag).take t k g->j.aL=s.aL/\j.aS=s.aS/\j.af=dm s.af t ⟨1,(s.aM t).done+1,s.aL⟩/\aV j.holds/\∀u q,aj j.holds (u,q)=if u=t/\q=k then some (if (g.writes||!(((aT (R.tx t).ak k).map aJ.dx).getD ⟨0,yA⟩).writes)=true then g else ((aT (R.tx t).ak k).map aJ.dx).getD ⟨0,yA⟩)else aj s.holds (u,q):=by
   rintro j rfl;unfold ag.take;rw[Y];by_cases w:(g.writes||!(((aT (R.tx t).ak k).map aJ.dx).getD ⟨0,yA⟩).writes)=true
   .rw[if_pos w];refine⟨rfl,rfl,rfl,h.o2.put _ _,λu q=>?_⟩;show aj (dm s.holds (t,k) g) (u,q)=_;rw[gj,if_pos w];by_cases e:u=t/\q=k
    .grind
    .grind
   .rw[if_neg w];refine⟨rfl,rfl,rfl,h.o2,λu q=>?_⟩;show aj s.holds (u,q)=_;by_cases e:u=t/\q=k
    .obtain⟨rfl,rfl⟩:=e;rw[if_pos ⟨rfl,rfl⟩,if_neg w,vE h];cases i:aT (R.tx u).ak q with
     |none=>grind[aQ.writes]
     |some l=>rfl
    .grind
  have⟨v,B,A,H,D⟩:=V _ rfl;refine⟨rfl,{jh:=(h.jh.began t).fH _,table:=by rw[B];exact h.table,af:=λu=>?_,holds:=λu q=>?_,ok:=λx d=>?_,len:=by rw[Ed];exact hlen,o1:=by rw[A];exact h.o1.put _ _,o2:=H}⟩
  .show aj _ u=(aU (fH (began R.af t)<|(R.tx t).worked f) u).map (a_.B8 _);rw[v,A,gj,o ((R.tx t).worked f) m];by_cases e:u=t
   .grind [a_.B8,a_.worked]
   .rw[if_neg e,if_neg e,h.af]
  .show aj _ (u,q)=(aU (fH (began R.af t)<|(R.tx t).worked f) u).bind _;rw[D,o ((R.tx t).worked f) m];by_cases e:u=t
   .subst e;rw[if_pos rfl];show _=(aT (f (R.tx u).ak) q).map aJ.dx;rw[n.look _ z.read];by_cases eq:q=k
    .grind
    .grind [vE]
   .rw[if_neg λx=>e x.1,if_neg e,h.holds]
  .rw[v];obtain rfl|⟨hm,_⟩:=mh d m
   .refine {E1:=z.E1,Ef:=z.Ef,st:=.inl F,jY:=λ_=>⟨zzs _,by show 0<16;decide⟩,once:=n.once _ z.once,four:=?_,small:=λl i=>?_,read:=λl i=>?_}
    .show(f (R.tx t).ak).length<=4;rw[n.len];have K:=z.four;cases i:aT (R.tx t).ak k with
     |some l=>grind
     |none=>
      simp;have:(R.tx t).ak.length≠4:=by
       cases d:aU R.af t with
       |none=>unfold aK.tx;rw[d];simp
       |some x=>
        have C:R.tx t=x:=by unfold aK.tx;rw[d];rfl
        rw[C]at i ⊢;exact(Q x d).2.2.2<|by rw[i];rfl
      omega
    .rcases n.mem _ l i with i|⟨a,b,_⟩
     .exact z.small l i
     .grind
    .rcases n.mem _ l i with i|⟨_,_,c⟩
     .exact z.read l i
     .exact c
   .exact h.ok x hm
end
theorem CU(l:aJ)(w:l.wr=true)(v:l.val.size<=32):L8 l.key l.dx (λs=>eJ s l) where
 once:=λs h=>h.put l
 len:=λs=>yr s l
 mem:=λs x a=>by
  obtain rfl|h:=Gt a
  .grind
  .grind
 look:=λs _ q=>by
  rw[JQ];have:l.dx.writes=true:=by rw[aJ.writes,w]
  by_cases e:q=l.key
  .grind
  .grind
theorem rR(k:ByteArray):L8 k ⟨0,yA⟩ (λs=>if (aT s k).isSome=true then s else s++[⟨k,false,false,yA⟩]) where
 once:=λs h=>by
  split
  .exact h
  .rename_i hn;have hn:=jP.1 (by simpa using hn:aT s k=none);exact List.pairwise_append.2 ⟨h,sE,λa f b d=>by simp at d;subst d;exact hn a f⟩
 len:=λs=>by split<;>simp
 mem:=λs x c=>by
  split at c
  .grind
  .rcases zzo.1 c with h|h
   .grind
   .simp_all
 look:=λs r q=>by
  have z:(aQ.mk 0 yA).writes=false:=rfl;split
  .rename_i hs;have⟨l,g⟩:=Option.isSome_iff_exists.1 hs;by_cases e:q=k
   .grind [aJ.writes,aJ.dx,pq]
   .grind
  .grind [aT,aJ.dx,aQ.writes]
section
open Go.Sort
variable{a b:List UInt8}{xs:List a_}{t:Nat}{K V:Type}{x y:a_}
abbrev oU:=List (ByteArray × ByteArray)
def lZ(t:oU):Prop:=t.Pairwise λa b=>a.1.data.toList<b.1.data.toList
theorem l7{a b:ByteArray}(h:a.data.toList=b.data.toList):a=b:=by
 cases a;cases b;simp at h;rw[h]
theorem nZ(a:List UInt8):¬a<a:=List.lt_irrefl a
theorem vF(h:a<b):¬b<a:=List.lt_asymm h
theorem aaY(h:a<=b)(hn:a≠b):a<b:=by
 obtain h|h:=List.le_iff_lt_or_eq.1 h
 .exact h
 .exact absurd h hn
theorem Ri(a b:List UInt8):a<b\/a=b\/b<a:=by
 obtain h|h:=List.le_total a b
 .rcases List.le_iff_lt_or_eq.1 h with h|h
  .exact .inl h
  .exact .inr<|.inl h
 .rcases List.le_iff_lt_or_eq.1 h with h|h
  .exact .inr<|.inr h
  .exact .inr<|.inl h.symm
theorem lZ.once{b:oU}(h:lZ b):aV b:=h.imp λY e=>by rw[e]at Y;exact nZ _ Y
theorem tj{b:oU}(h:aV b):b.Nodup:=h.imp λY e=>Y<|by rw[e]
theorem lZ.ext{a b:oU}(c:lZ a)(d:lZ b)(h:∀k,aj a k=aj b k):a=b:=by
 have hp:a.Perm b:=by
  rw[List.perm_ext_iff_of_nodup (tj c.once)<|tj d.once];intro p;constructor
  .intro hp;have:=bS c.once hp;rw[h]at this;exact bJ this
  .intro hp;have:=bS d.once hp;rw[<-h]at this;exact bJ this
 exact List.Perm.eq_of_pairwise (λx y _ _ e f=>absurd f<|vF e) c d hp
theorem kT{L:oU}(h:aV L)(k:ByteArray):aj (dy L) k=aj L k:=by
 have y:∀s:List ByteArray,aj (s.map λq=>(q,(aj L q).getD yA)) k=if (s.any λq=>decide<|q=k)=true then some ((aj L k).getD yA)else none:=by
  intro s;induction s with
  |nil=>rfl
  |cons q r ih=>
   unfold aj at *;rw[List.map_cons,List.find?_cons];by_cases e:q=k
   .subst e;simp
   .simp only[e,decide_false];rw[ih,List.any_cons,decide_eq_false e,Bool.false_or]
 unfold dy;rw[y];cases l:aj L k with
 |none=>
  rw[if_neg];intro m;have⟨q,b,e⟩:=List.any_eq_true.1 m;have e:q=k:=by simpa using e
  subst e;have⟨v,a⟩:=kL.1 b;rw[bS h a]at l;cases l
 |some v=>rw[if_pos<|List.any_eq_true.2 ⟨k,kL.2 ⟨v,bJ l⟩,sE⟩];rfl
theorem mi{L:oU}(h:aV L):lZ (dy L):=by
 unfold lZ dy fJ;rw[List.pairwise_map,List.pairwise_map];simp only[];have r:∀a b c:List UInt8,leB a b=true->leB b c=true->leB a c=true:=λa b c d f=>by simp only[leB,decide_eq_true_eq]at *;exact List.le_trans d f
 have t:∀a b:List UInt8,(leB a b||leB b a)=true:=λa b=>by simp only[leB,Bool.or_eq_true,decide_eq_true_eq];exact List.le_total a b
 have d:=List.pairwise_mergeSort r t<|L.map λp=>p.1.data.toList
 have f:((L.map λp=>p.1.data.toList).mergeSort leB).Nodup:=by
  rw[(List.mergeSort_perm _ leB).nodup_iff];unfold List.Nodup;rw[List.pairwise_map];exact h.imp λY e=>Y<|l7 e
 apply(d.and f).imp;rintro a b ⟨x,y⟩;simp only[leB,decide_eq_true_eq]at x;exact aaY x y
def cI(l:aJ):oU->Bool->oU
 |[],done=>if done=true then [] else [(l.key,l.val)]
 |p :: r,done =>
  if done=false/\l.key.data.toList<p.1.data.toList then (l.key,l.val) :: p :: cI l r true
  else if p.1≠l.key then p :: cI l r done else if done=true then cI l r true else (l.key,l.val) :: cI l r true
def gD(b:oU)(l:aJ):oU:=cI l b l.gone
theorem kU(l:aJ):∀b:oU,cI l b true=b.filter λp=>!decide (p.1=l.key)
 |[]=>rfl
 |p::r=>by
  unfold cI;rw[if_neg sE];by_cases e:p.1=l.key
  .rw[if_neg<|by simp[e],if_pos rfl,kU l r,List.filter_cons_of_neg<|by simp[e]]
  .rw[if_pos e,kU l r,List.filter_cons_of_pos<|by simp[e]]
theorem px(l:aJ):∀t:oU,lZ t->cI l t false=(t.filter λp=>decide<|p.1.data.toList<l.key.data.toList)++(l.key,l.val)::(t.filter λp=>decide<|l.key.data.toList<p.1.data.toList)
 |[],_=>by simp[cI]
 |p::r,h=>by
  have⟨i,j⟩:=zzA.1 h;unfold cI;by_cases g:l.key.data.toList<p.1.data.toList
  .rw[if_pos ⟨rfl,g⟩,kU];have b:∀q∈r,l.key.data.toList<q.1.data.toList:=λq a=>List.lt_trans g<|i q a
   have c:(r.filter λp=>!decide (p.1=l.key))=r:=List.filter_eq_self.2 λq a=>by
    have:=b q a;simp;intro e;rw[e]at this;exact nZ _ this
   have d:((p::r).filter λp=>decide<|p.1.data.toList<l.key.data.toList)=[]:=by
    rw[List.filter_eq_nil_iff];intro q a;simp;obtain rfl|a:=zzj.1 a
    .exact vF g
    .exact vF<|b q a
   have f:((p::r).filter λp=>decide<|l.key.data.toList<p.1.data.toList)=p::r:=List.filter_eq_self.2 λq a=>by
    obtain rfl|a:=zzj.1 a
    .simpa using g
    .simpa using b q a
   rw[c,d,f];rfl
  .rw[if_neg<|by simp[g]];by_cases e:p.1=l.key
   .rw[if_neg<|by simp[e],if_neg sE,kU];have b:∀q∈r,l.key.data.toList<q.1.data.toList:=λq a=>by have:=i q a;rw[e]at this;exact this
    have c:(r.filter λp=>!decide (p.1=l.key))=r:=List.filter_eq_self.2 λq a=>by
     have:=b q a;simp;intro e;rw[e]at this;exact nZ _ this
    have d:((p::r).filter λp=>decide<|p.1.data.toList<l.key.data.toList)=[]:=by
     rw[List.filter_eq_nil_iff];intro q a;simp;obtain rfl|a:=zzj.1 a
     .rw[e];exact nZ _
     .exact vF<|b q a
    have f:((p::r).filter λp=>decide<|l.key.data.toList<p.1.data.toList)=r:=by
     rw[List.filter_cons_of_neg<|by rw[e];simp];exact List.filter_eq_self.2 λq a=>by simpa using b q a
    rw[c,d,f];rfl
   .have hl:p.1.data.toList<l.key.data.toList:=by
     obtain h|h|h:=Ri p.1.data.toList l.key.data.toList
     .exact h
     .exact absurd (l7 h) e
     .exact absurd h g
    rw[if_pos e,px l r j,List.filter_cons_of_pos<|by simpa using hl,List.filter_cons_of_neg<|by simpa using g];rfl
theorem B9[DecidableEq K](a b:List<|K×V)(k:K):aj (a++b) k=(aj a k).or (aj b k):=by
 unfold aj;rw[List.find?_append];cases a.find? (λp=>decide<|p.1=k)<;>rfl
theorem jR[DecidableEq K](c:K->Bool)(l:List<|K×V)(k:K):aj (l.filter λp=>c p.1) k=if c k=true then aj l k else none:=by
 unfold aj;rw[List.find?_filter];by_cases h:c k=true
 .rw[if_pos h];congr 2;funext p;by_cases e:p.1=k
  .simp[e,h]
  .simp[e]
 .rw[if_neg h];rw[Option.map_eq_none_iff,List.find?_eq_none];intro p _;by_cases e:p.1=k
  .simp[e,h]
  .simp[e]
theorem xq(b:oU)(h:lZ b)(l:aJ)(q:ByteArray):aj (gD b l) q=if q=l.key then (if l.gone=true then none else some l.val)else aj b q:=by
 unfold gD;cases l.gone with
 |true=>
  rw[kU,jR λk:ByteArray=>!decide (k=l.key)];by_cases e:q=l.key<;>simp[e]
 |false=>
  rw[px l b h,B9];rw[jR λk:ByteArray=>decide<|k.data.toList<l.key.data.toList]
  have g:aj ((l.key,l.val)::b.filter λp=>decide<|l.key.data.toList<p.1.data.toList) q=if q=l.key then some l.val else if l.key.data.toList<q.data.toList then aj b q else none:=by
   have c:=jR (λk:ByteArray=>decide<|l.key.data.toList<k.data.toList) b q;by_cases e:q=l.key
   .subst e;rw[if_pos rfl];simp[aj]
   .rw[if_neg e];have d:¬l.key=q:=λx=>e x.symm
    unfold aj at *;rw[List.find?_cons_of_neg<|by simpa using d];rw[c];by_cases f:l.key.data.toList<q.data.toList<;>simp[f]
  rw[g];by_cases e:q=l.key
  .rw[if_pos e,if_pos e,e,if_neg<|by simp only[decide_eq_true_eq];exact nZ _];rfl
  .rw[if_neg e,if_neg e];obtain a|a|a:=Ri q.data.toList l.key.data.toList
   .have c:=vF a;simp only[a,c,decide_true,if_true,if_false];cases aj b q<;>rfl
   .exact absurd (l7 a) e
   .have c:=vF a;simp[a,c]
theorem lZ.gD{t:oU}(h:lZ t)(l:aJ):lZ (gD t l):=by
 unfold Go.Proofs.YtdcafjmdfpjcbaaGreatDoor.gD;cases l.gone with
 |true=>rw[kU];exact List.Pairwise.filter _ h
 |false=>
  rw[px l t h];refine List.pairwise_append.2 ⟨List.Pairwise.filter _ h,zzA.2 ⟨λq e=>?_,List.Pairwise.filter _ h⟩,λa d b c=>?_⟩
  .simpa using (zzp.1 e).2
  .have wV:a.1.data.toList<l.key.data.toList:=by simpa using (zzp.1 d).2
   obtain rfl|c:=zzj.1 c
   .exact wV
   .exact List.lt_trans wV<|by simpa using (zzp.1 c).2
def eE(b:oU)(s:List aJ):oU:=s.foldl (λb l=>if l.wr=true then gD b l else b) b
theorem tZ:∀(s:List aJ) (b:oU),iy s->lZ b->lZ (eE b s)/\∀q,aj (eE b s) q=iQ ((aT s q).map aJ.dx) (aj b q)
 |[],b,_,h=>⟨h,λq=>rfl⟩
 |l::s,b,ho,h=>by
  have⟨c,g⟩:=zzA.1 ho;unfold eE;rw[List.foldl_cons];have w:lZ (if l.wr=true then gD b l else b):=by
   split
   .exact h.gD l
   .exact h
  have⟨i,k⟩:=tZ s _ g w;refine⟨i,λq=>?_⟩;rw[show s.foldl (λb l=>if l.wr=true then gD b l else b) (if l.wr=true then gD b l else b)=eE (if l.wr=true then gD b l else b) s from rfl,k];by_cases e:l.key=q
  .have hn:aT s q=none:=jP.2 λx d=>by rw[<-e];exact λf=>c x d f.symm
   have a:aT (l::s) q=some l:=by unfold aT;simp[e]
   rw[hn,a];simp only[Option.map_none,Option.map_some,iQ,aJ.dx];cases j:l.wr with
   |false=>simp
   |true=>
    simp only[if_true];rw[xq b h,if_pos e.symm];cases l.gone<;>simp
  .have a:aT (l::s) q=aT s q:=by unfold aT;rw[List.find?_cons_of_neg<|by simpa using e]
   rw[a];congr 1;split
   .rw[xq b h,if_neg λx=>e x.symm]
   .rfl
section
variable{s:ag}{R:aK}
theorem Ag{K V:Type}[DecidableEq K](l:List<|K×V)(k j:K):aj (cO l k) j=if j=k then none else aj l j:=by
 have:=jR (λq=>!decide (q=k)) l j;unfold cO;rw[this];by_cases e:j=k<;>simp[e]
theorem Rel.forget(h:Rel s R)(t:Nat):Rel (s.forget t) ⟨R.table,del R.af t⟩:=by
 unfold ag.forget ag.release;have l:∀u,(({s with af:=cO s.af t}:ag).aM u).state=if u=t then 0 else R.state u:=by
  intro u;unfold ag.aM;rw[show({s with af:=cO s.af t}:ag).af=cO s.af t from rfl,Ag];by_cases e:u=t
  .rw[if_pos e,if_pos e];rfl
  .rw[if_neg e,if_neg e];exact h.state u
 refine {jh:=h.jh.del t,table:=h.table,af:=λu=>?_,holds:=λu q=>?_,ok:=λx a=>?_,len:=zzk (List.length_filter_le _ _) h.len,o1:=h.o1.del t,o2:=List.Pairwise.filter _ h.o2}
 .show aj (cO s.af t) u=(aU (del R.af t) u).map (a_.B8 s.aL);rw[Ag,Ad];by_cases e:u=t
  .rw[if_pos e,if_pos e];rfl
  .rw[if_neg e,if_neg e,h.af]
 .show aj (s.holds.filter<|qD {s with af:=cO s.af t}) (u,q)=(aU (del R.af t) u).bind _;have:=jR (λk:Nat×ByteArray=>!decide ((({s with af:=cO s.af t}:ag).aM k.1).state=0)) s.holds (u,q);rw[show(s.holds.filter<|qD {s with af:=cO s.af t})=(s.holds.filter λp=>!decide ((({s with af:=cO s.af t}:ag).aM p.1.1).state=0))from rfl,this,l,Ad];by_cases e:u=t
  .simp[e]
  .rw[if_neg e,if_neg e,h.holds];cases a:aU R.af u with
   |none=>simp
   |some x=>
    have m:R.state u=x.st:=by unfold aK.state;rw[a];rfl
    have b:¬x.st=0:=by have:=(h.ok x (aN a).1).st;omega
    rw[m,if_pos<|by simp[b]]
 .exact h.ok x (zzp.1 a).1
theorem Gx{xs:List a_}{t:Nat}(h:aU xs t=none):del xs t=xs:=List.filter_eq_self.2 λx a=>by simpa using kS.1 h x a
def aK.got(R:aK)(t:Nat)(k:ByteArray):ByteArray × Bool :=
 match aT (R.tx t).ak k with
 |some l=>if l.wr=true then (l.val,!l.gone) else ((aj R.table k).getD yA,(aj R.table k).isSome)
 |none=>((aj R.table k).getD yA,(aj R.table k).isSome)
theorem Rel.got(h:Rel s R)(v:aV s.aS)(t:Nat)(k:ByteArray):
  (if (s.dx t k).writes=true then ((s.dx t k).val,decide<|(s.dx t k).way=1)else ((aj s.aS k).getD yA,(aj s.aS k).isSome))=R.got t k:=by
 unfold ag.dx aK.got;rw[vE h,h.table,kT v];cases a:aT (R.tx t).ak k with
 |none=>simp[aQ.writes]
 |some l=>
  simp only[Option.map_some,Option.getD_some,aJ.writes];cases w:l.wr with
  |false=>simp
  |true=>simp only[if_true,aJ.dx,w];cases l.gone<;>rfl
def a_.ready(x:a_):a_:=⟨x.id,3,x.ops,x.jY,x.ak⟩
def aK.aO(R:aK)(t:Nat):aK × Nat × Nat :=
 if t=0 then (R,0,7) else
 match aU R.af t with
 |none=>(R,3,0)
 |some x=>if x.st=3 then (R,2,0) else if x.st=2 then (⟨R.table,del R.af t⟩,3,0) else if x.ak.any (·.wr)=true then (⟨R.table,fH R.af x.ready⟩,2,0) else (⟨R.table,del R.af t⟩,4,0)
theorem CV{L:List (ByteArray×aQ)}{x:a_}(b:aV L)(o:iy x.ak)(a:∀k,aj L k=(aT x.ak k).map aJ.dx):zS L=x.ak.any (·.wr):=by
 rw[Bool.eq_iff_iff];unfold zS;rw[List.any_eq_true,List.any_eq_true];constructor
 .rintro⟨p,hp,hw⟩;have:=bS b hp;rw[a]at this;cases h:aT x.ak p.1 with
  |none=>rw[h]at this;cases this
  |some l=>
   rw[h]at this;have e:=Option.some.inj this;exact⟨l,(pq h).1,by rw[<-aJ.writes,e];exact hw⟩
 .rintro⟨l,h,hw⟩;have e:aj (x.ak.map λl=>(l.key,l.dx)) l.key=some l.dx:=bS (Af o)<|zzq.2 ⟨l,h,rfl⟩;rw[Ae,<-a]at e;exact⟨_,bJ e,by rw[aJ.writes];exact hw⟩
theorem Ah{xs:List a_}{x y:a_}{t:Nat}(h:aU xs t=some x)(a:y.id=t)(u:Nat):aU (fH xs y) u=if u=t then some y else aU xs u:=by
 rw[vC,a];by_cases e:u=t
 .subst e;rw[if_pos rfl,if_pos rfl,h];rfl
 .rw[if_neg e,if_neg e]
theorem Eg{xs:List a_}{x y:a_}(h:x∈fH xs y):x=y\/x∈xs:=by
 unfold fH at h;obtain⟨z,a,rfl⟩:=zzq.1 h;split
 .exact .inl rfl
 .exact .inr a
theorem Rel.ready(h:Rel s R){t:Nat}{x:a_}(a:aU R.af t=some x):Rel {s with af:=dm s.af t ⟨3,0,0⟩} ⟨R.table,fH R.af x.ready⟩:=by
 have d:x.ready.id=t:=(aN a).2;have z:=h.ok x (aN a).1;refine {jh:=h.jh.fH _,table:=h.table,af:=λu=>?_,holds:=λu q=>?_,ok:=λy b=>?_,len:=by rw[show(aK.mk R.table<|fH R.af x.ready).af=fH R.af x.ready from rfl,Ed];exact h.len,o1:=h.o1.put _ _,o2:=h.o2}
 .show aj (dm s.af t ⟨3,0,0⟩) u=(aU (fH R.af x.ready) u).map (a_.B8 s.aL);rw[gj,Ah a d];by_cases e:u=t
  .rw[if_pos e,if_pos e];rfl
  .rw[if_neg e,if_neg e,h.af]
 .show aj s.holds (u,q)=(aU (fH R.af x.ready) u).bind _;rw[Ah a d,h.holds];by_cases e:u=t
  .subst e;rw[if_pos rfl,a];rfl
  .rw[if_neg e]
 .rcases Eg b with rfl|b
  .exact {E1:=z.E1,Ef:=z.Ef,st:=.inr<|.inr rfl,jY:=λhn=>absurd rfl hn,once:=z.once,four:=z.four,small:=z.small,read:=z.read}
  .exact h.ok y b
theorem Rel.cR{a:ag}(h:Rel s R){t:Nat}{x:a_}(c:aU R.af t=some x)(b:aV s.aS)(d:aV a.aS)(f:kQ s a t):Rel a ⟨eE R.table x.ak,del R.af t⟩:=by
 obtain⟨v,rfl,l⟩:=f;have z:=h.ok x (aN c).1;have I:lZ R.table:=by rw[h.table];exact mi b
 have⟨g,k⟩:=tZ x.ak R.table z.once I;have e:Rel {s with aS:=v} ⟨eE R.table x.ak,R.af⟩:={jh:=h.jh,table:=?_,af:=h.af,holds:=h.holds,ok:=h.ok,len:=h.len,o1:=h.o1,o2:=h.o2}
 .exact e.forget t
 .refine g.ext (mi d) λq=>?_
  show _=aj (dy v) q;rw[k,kT<|show aV v from d,h.table,kT b];rw[l,h.holds,c];rfl
def a_.eF(x:a_):Option a_:=if x.st=3 then some x else if x.jY+1=16 then none else some ⟨x.id,x.st,x.ops,x.jY+1,x.ak⟩
def aK.tick(R:aK):aK:=⟨R.table,R.af.filterMap a_.eF⟩
theorem oH{x y:a_}(h:x.eF=some y):y.id=x.id:=by
 unfold a_.eF at h;split at h
 .cases h;rfl
 .split at h
  .cases h
  .cases h;rfl
theorem t_{xs:List a_}(h:jg xs)(t:Nat):aU (xs.filterMap a_.eF) t=(aU xs t).bind a_.eF:=by
 induction xs with
 |nil=>rfl
 |cons y ys ih=>
  have⟨b,d⟩:=zzA.1 h;have ih:=ih d;unfold aU at *;rw[List.filterMap_cons];by_cases e:y.id=t
  .have hn:(ys.filterMap a_.eF).find? (λx=>decide<|x.id=t)=none:=by
    rw[List.find?_eq_none];intro z c;have⟨v,a,o⟩:=List.mem_filterMap.1 c;have:=oH o;have:=b v a;simp;omega
   rw[List.find?_cons_of_pos<|by simpa using e];simp only[Option.bind_some]
   cases o:y.eF with
   |none=>exact hn
   |some z=>
    simp only[];rw[List.find?_cons_of_pos<|by have:=oH o;simp;omega]
  .rw[List.find?_cons_of_neg<|by simpa using e]
   cases o:y.eF with
   |none=>exact ih
   |some z=>
    simp only[];rw[List.find?_cons_of_neg<|by have:=oH o;simp;omega];exact ih
theorem Gy{K V:Type}[DecidableEq K](c:K×V->Bool){l:List (K×V)}(h:aV l)(k:K):aj (l.filter c) k=(aj l k).bind λv=>if c (k,v)=true then some v else none:=by
 cases f:aj l k with
 |none=>
  rw[gO]at f;simp only[Option.bind_none];rw[gO];exact λp hp=>f p (zzp.1 hp).1
 |some v=>
  have m:=bJ f;simp only[Option.bind_some];by_cases d:c (k,v)=true
  .rw[if_pos d];exact bS (List.Pairwise.filter _ h)<|zzp.2 ⟨m,d⟩
  .rw[if_neg d,gO];intro p hp e;have⟨a,b⟩:=zzp.1 hp;have:=h.same a m e;rw[this]at b;exact d b
theorem Rel.tick(h:Rel s R):Rel s.tick R.tick:=by
 have Z:∀x∈R.af,qE {s with aL:=s.aL+1} (x.B8 s.aL)=x.eF.isNone:=by
  intro x d;have f:=h.ok x d;unfold qE a_.eF a_.B8;by_cases c:x.st=3
  .simp[c]
  .obtain⟨j,g⟩:=f.jY c;rw[if_neg c,if_neg c];have e:((s.aL+1:Nat):Int)-((s.aL-x.jY:Nat):Int)=((x.jY+1:Nat):Int):=oE;simp only[e];have n:IntKind.u64.wrap ((x.jY+1:Nat):Int)=((x.jY+1:Nat):Int):=by
    unfold IntKind.wrap;simp[IntKind.signed,IntKind.bits];omega
   rw[n];by_cases F:x.jY+1=16
   .simp[c,F]
   .have:¬(16:Int)<=((x.jY+1:Nat):Int):=oE;simp[c,F];omega
 have i:∀u,aj (s.af.filter<|pR {s with aL:=s.aL+1}) u=(aU (R.af.filterMap a_.eF) u).map (a_.B8<|s.aL+1):=by
  intro u;rw[Gy _ h.o1,h.af,t_ h.jh];cases d:aU R.af u with
  |none=>rfl
  |some x=>
   have m:=(aN d).1;have t:=Z x m;simp only[Option.map_some,Option.bind_some];unfold pR;simp only[];rw[t];unfold a_.eF a_.B8;by_cases c:x.st=3
   .simp[c]
   .obtain⟨j,g⟩:=(h.ok x m).jY c;by_cases F:x.jY+1=16
    .simp[c,F]
    .simp[c,F]
 have r:∀u,(({s with aL:=s.aL+1,af:=s.af.filter (pR {s with aL:=s.aL+1})}:ag).aM u).state=((aU (R.af.filterMap a_.eF) u).map (·.st)).getD 0:=by
  intro u;unfold ag.aM;rw[show({s with aL:=s.aL+1,af:=s.af.filter (pR {s with aL:=s.aL+1})}:ag).af=s.af.filter (pR {s with aL:=s.aL+1})from rfl,i];cases aU (R.af.filterMap a_.eF) u with
  |none=>rfl
  |some x=>exact xp _ x
 have f:∀x∈R.af.filterMap a_.eF,x.Ok (s.aL+1):=by
  intro y v;have⟨x,d,o⟩:=List.mem_filterMap.1 v;have k:=h.ok x d;unfold a_.eF at o;by_cases c:x.st=3
  .rw[if_pos c]at o;cases o;exact {E1:=k.E1,Ef:=k.Ef,st:=k.st,jY:=λhn=>absurd c hn,once:=k.once,four:=k.four,small:=k.small,read:=k.read}
  .rw[if_neg c]at o;have⟨j,g⟩:=k.jY c;by_cases F:x.jY+1=16
   .rw[if_pos F]at o;cases o
   .rw[if_neg F]at o;cases o;exact {E1:=k.E1,Ef:=k.Ef,st:=k.st,jY:=λ_=>⟨by show x.jY+1<=s.aL+1;omega,by show x.jY+1<16;omega⟩,once:=k.once,four:=k.four,small:=k.small,read:=k.read}
 refine {jh:=?_,table:=h.table,af:=i,holds:=λu q=>?_,ok:=f,len:=zzk (List.length_filterMap_le _ _) h.len,o1:=List.Pairwise.filter _ h.o1,o2:=List.Pairwise.filter _ h.o2}
 .unfold jg aK.tick;rw[List.pairwise_filterMap];apply h.jh.imp;intro a b Y C w B O;rw[oH w,oH O];exact Y
 .show aj (s.holds.filter<|qD _) (u,q)=(aU (R.af.filterMap a_.eF) u).bind _;have:=jR (λk:Nat×ByteArray=>!decide ((({s with aL:=s.aL+1,af:=s.af.filter (pR {s with aL:=s.aL+1})}:ag).aM k.1).state=0)) s.holds (u,q);rw[show(s.holds.filter<|qD {s with aL:=s.aL+1,af:=s.af.filter (pR {s with aL:=s.aL+1})})=(s.holds.filter λp=>!decide ((({s with aL:=s.aL+1,af:=s.af.filter (pR {s with aL:=s.aL+1})}:ag).aM p.1.1).state=0))from rfl,this,r]
  cases d:aU (R.af.filterMap a_.eF) u with
  |none=>simp
  |some y=>
   have A:¬y.st=0:=by have:=(f y (aN d).1).st;omega
   simp only[Option.map_some,Option.getD_some,Option.bind_some];rw[if_pos<|by simp[A],h.holds];rw[t_ h.jh]at d
   cases l:aU R.af u with
   |none=>rw[l]at d;cases d
   |some z=>
    rw[l]at d;have o:z.eF=some y:=d;have:y.ak=z.ak:=by
     unfold a_.eF at o;split at o
     .cases o;rfl
     .split at o
      .cases o
      .cases o;rfl
    rw[this];rfl
def aK.waiting(R:aK):List Nat:=(R.af.filter λx=>decide (x.st=3)).map (·.id)
theorem Rel.waiting(h:Rel s R){ss:List Nat}(hp:ss.Perm<|s.af.map (·.1))(f:ss.Pairwise (·<=·)):waits (wW s.af ss)=R.waiting:=by
 have I:ss.Perm (R.af.map (·.id)):=by
  apply hp.trans;rw[List.perm_ext_iff_of_nodup (xe h.o1)<|CT h.jh];intro t;constructor
  .intro ht;obtain⟨p,hp,rfl⟩:=zzq.1 ht;have:=bS h.o1 hp;rw[h.af]at this;cases c:aU R.af p.1 with
   |none=>rw[c]at this;cases this
   |some x=>exact zzq.2 ⟨x,(aN c).1,(aN c).2⟩
  .intro ht;obtain⟨x,c,rfl⟩:=zzq.1 ht;have:=h.af x.id;rw[h.jh.at c]at this;exact zzq.2 ⟨_,bJ this,rfl⟩
 have e:ss=R.af.map (·.id):=List.Perm.eq_of_pairwise (λa b _ _ d g=>Nat.le_antisymm d g) f ((Ee.1 h.jh).imp λY=>Nat.le_of_lt Y) I;rw[e];unfold waits wW aK.waiting;rw[List.map_map,List.filter_map,List.map_map];have:(R.af.filter<|(λy:Nat×fX=>decide<|y.2.state=3)∘((λk=>(k,(aj s.af k).getD ⟨0,0,0⟩))∘λx=>x.id))=R.af.filter λx=>decide (x.st=3):=by
  apply List.filter_congr;intro x c;have:=h.af x.id;rw[h.jh.at c]at this;simp only[Function.comp,this,Option.map_some,Option.getD_some,xp]
 rw[this];rfl
end
end
end Go.Proofs.YtdcafjmdfpjcbaaGreatDoor
