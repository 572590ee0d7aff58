import Derived.Test.YtdcafjmdfpjcbaaGreatDoorC40
namespace Go.Proofs.YtdcafjmdfpjcbaaGreatDoor
open Go.RowKit Go.Maps Tryz Sc
variable{ss:List Sg}{B H T V a bN c g h hp m m0 mk n p:Nat}{w:World}{s:ag}{d:ah}{l:aq}{F:az}{o:iD}
def lB(mk:Nat)(F:az):Prop:=∀u,F (ar u)≠none->mk<=u
def VO(mk:Nat)(o:iD):Prop:=((o.kind=1\/o.kind=2)->∀u,o.name=ar u->mk<=u)/\(o.kind=4->∀u,o.to≠ar u)
theorem oN{nm:ByteArray}{x:Option ByteArray}(h:lB mk F)(hn:x≠none->∀u,nm=ar u->mk<=u):lB mk (F.set nm x):=λu a=>by
 by_cases e:ar u=nm
 .grind [az.jk]
 .rw[az.cP _ _ e]at a;exact h u a
theorem pF(h:lB mk F)(b:VO mk o):lB mk (cV F o):=by
 unfold cV;split
 .rename_i hk;exact oN h λ_ u a=>b.1 (.inl hk) u a
 .split
  .rename_i hk;exact oN h λ_ u a=>b.1 (.inr hk) u a
  .split
   .grind [oN]
   .split
    .rename_i hk;split
     .exact h
     .exact oN (oN h λ_ u a=>absurd a<|b.2 hk u) λx=>absurd rfl x
    .exact h
structure DF(mk:Nat)(d:ah):Prop where
 j8:lB mk d.ai
 now:lB mk d.now
 pen:∀o∈d.pending,VO mk o
theorem Bh:∀(os:List iD) {F:az},lB mk F->(∀o∈os,VO mk o)->lB mk (os.foldl cV F)
 |[],_,h,_=>h
 |o::os,_,h,ho=>Bh os (pF h<|ho o sE) λq a=>ho q<|by simp[a]
section
variable{mk:Nat}{d:ah}
theorem DF.bj(h:DF mk d)(a b:Int):DF mk (d.bj a b):=⟨h.j8,h.now,h.pen⟩
theorem DF.low(h:DF mk d){m:Nat}(b:m<=mk):DF m d:=
 ⟨λu a=>zzk b<|h.j8 u a,λu a=>zzk b<|h.now u a,λo c=>⟨λk u a=>zzk b<|(h.pen o c).1 k u a,(h.pen o c).2⟩⟩
theorem DF.writes(h:DF mk d):DF mk d.writes.1:=by
 have s:=gM d;exact⟨by rw[s];exact h.j8,by rw[s];exact h.now,by rw[s];exact h.pen⟩
theorem DF.tell(h:DF mk d){o:iD}(b:VO mk o):DF mk (d.tell o).1:=by
 have w:=h.writes;have Iw:∀q∈d.writes.1.pending++[o],VO mk q:=λq a=>by
  obtain a|a:=zzo.1 a
  .exact w.pen q a
  .grind
 unfold ah.tell;simp only;split
 .exact⟨w.j8,w.now,Iw⟩
 .split
  .exact w
  .split
   .exact w
   .split
    .exact w
    .exact⟨w.j8,pF w.now b,Iw⟩
theorem DF.sync(h:DF mk d):DF mk d.sync.1:=by
 have w:=h.writes;unfold ah.sync;simp only;split
 .exact⟨Bh _ w.j8 w.pen,w.now,sE⟩
 .exact w
theorem Mw(nm:ByteArray):VO mk ⟨3,nm,yA,yA⟩:=⟨λh=>(by obtain h|h:=h<;>cases h),λh=>(by cases h)⟩
theorem DF.removeAll:∀(ns:List ByteArray) {d:ah},DF mk d->DF mk (d.removeAll ns).1
 |[],_,h=>h.sync
 |nm::r,d,h=>by
  show DF mk (if (d.tell ⟨3,nm,yA,yA⟩).2=0 then (d.tell ⟨3,nm,yA,yA⟩).1.removeAll r else d.tell ⟨3,nm,yA,yA⟩).1;split
  .exact DF.removeAll r<|h.tell<|Mw nm
  .exact h.tell<|Mw nm
theorem DF.bh(h:DF mk d)(first:Nat):DF mk (d.bh first).1:=by
 have o1:VO mk ⟨1,cf,yA,str<|ax first 0 []⟩:=⟨λ_ u a=>absurd a.symm (bm u).2,λh=>(by cases h)⟩;have o2:VO mk ⟨4,cf,dP,yA⟩:=⟨λh=>(by obtain h|h:=h<;>cases h),λ_ u a=>absurd a.symm (bm u).1⟩;unfold ah.bh;simp only;split
 .split
  .split
   .exact((h.tell o1).sync.tell o2).sync
   .exact(h.tell o1).sync.tell o2
  .exact(h.tell o1).sync
 .exact h.tell o1
variable{l:aq}
def sN(mk:Nat)(l:aq):Prop:=(∀s∈l.segs,mk<=s)/\mk<=l.next/\(l.filled<600->l.segs≠[])
theorem DF.vX(h:DF mk d):DF mk (l.sync d).2.1:=by
 unfold aq.sync;split
 .exact h.sync
 .exact h.sync
theorem DF.wr{r:aq×ah×Nat}(h:DF mk d)(a:DF mk r.2.1):DF mk (l.wr d r).2.1:=by grind[aq.wr]
theorem DF.put(h:DF mk d)(s:sN mk l)(x:List Nat):DF mk (l.put d x).2.1:=by
 have A:DF mk (l.room d).2.1:=by
  unfold aq.room;split
  .exact h
  .split
   .exact h.vX
   .exact h.vX
 have S:(l.room d).2.2=0->∀u,ar ((l.room d).1.segs.getLastD 0)=ar u->mk<=u:=λb u a=>by
  have a:=eR a;rw[<-a];unfold aq.room at b ⊢;split
  .rename_i hf;have e:=s.2.2 hf;rw[List.getLastD_eq_getLast?,List.getLast?_eq_some_getLast e];exact s.1 _<|List.getLast_mem e
  .rename_i hf;rw[if_neg hf]at b;split
   .show mk<=((l.sync d).1.segs++[(l.sync d).1.next]).getLastD 0;have J:(l.sync d).1.next=l.next:=by grind[aq.sync]
    simp[J];exact s.2.1
   .grind
 unfold aq.put;split
 .rename_i b;exact A.tell ⟨λ_ u a=>S b u a,λh=>(by cases h)⟩
 .exact A
theorem DF.append(h:DF mk d)(a:sN mk l)(kind:Nat)(s:ByteArray):DF mk (l.append d kind s).2.1:=by
 unfold aq.append;split
 .exact h
 .split
  .exact h.wr<|h.put a _
  .exact h.wr<|h.put a _
theorem DF.force(h:DF mk d):DF mk (l.force d).2.1:=by
 unfold aq.force;split
 .exact h
 .exact h.wr h.vX
theorem DF.cut(h:DF mk d)(low:Nat):DF mk (l.cut d low).2.1:=by
 have M:∀g f,DF mk (l.gU d g f).2.1:=λg f=>by
  unfold aq.gU;split
  .split
   .exact DF.removeAll _<|h.vX.bh _
   .exact h.vX.bh _
  .exact h.vX
 unfold aq.cut;split
 .exact h.wr h.vX
 .simp only;split
  .exact h.wr<|M _ _
  .exact h.wr<|M _ _
theorem DF.dX(h:DF mk d)(ns:List ByteArray):DF mk (l.dX d ns).2.1:=by
 unfold aq.dX;split
 .exact DF.removeAll _ h.vX
 .exact h.vX
theorem DF.left(h:DF mk d){F:az}(l:Left d.ai d.pending F):lB mk F:=by
 obtain⟨b,torn,q,rfl⟩:=l
 have y:∀(os:List iD) (i:Nat) (s:jK×az),lB mk s.2->(∀o∈os,VO mk o)->lB mk (gW b torn q i os s).2:=by
  intro os
  induction os with
  |nil=>intro i s h _;exact h
  |cons o os ih=>
   intro i s h c;show lB mk (gW b torn q (i+1) os<|bM (b i) (decide<|i=torn) q o s).2;refine ih (i+1) _ ?_ λx e=>c x<|by simp[e]
   have a:=c o sE;unfold bM
   repeat' split
   all_goals first
    |exact h
    |exact pF h a
    |exact pF h ⟨λk u f=>a.1 k u f,λk u=>a.2 k u⟩
 exact y d.pending 0 _ h.j8 h.pen
end
theorem Ci{us:List Nat}(h:br F mk ss)(f:jG F mk ss us)(g:lB m F):us.length<=(mk-m)+1:=by
 have d:∀u∈us,m<=u/\(u<mk\/u=aw mk ss):=λu j=>by
  have⟨c,n⟩:=(f.2 u).1 j;refine⟨g u c,?_⟩;obtain e|e|⟨v,e,_,h4⟩:=h.other _ c
  .grind [bm]
  .grind [bm]
  .grind [eR]
 have J:mk<=aw mk ss:=by unfold aw;omega
 have:=xA (mk-m+1) (us.map λu=>if u<mk then u-m else mk-m) ?_ ?_
 .grind
 .unfold List.Nodup;rw[List.pairwise_map];refine List.Pairwise.imp_of_mem ?_ f.1;intro a b i k Y e;have l:=d a i;have c:=d b k;split at e<;>split at e<;>omega
 .grind
theorem DF.eI(h:lB m F):DF m (eI F):=⟨h,h,λo a=>by cases a⟩
theorem iR.floor(h:iR l d mk ss []):DF mk d:=by
 have f:lB mk d.ai:=λu g=>(mO (chunks ss) mk h.st.ne').2 u<|h.clean u g
 rcases h.mode with⟨_,e,c,_,_⟩|⟨_,_,_,b,_⟩|⟨b,_⟩
 .exact⟨f,by rw[c];exact f,λo a=>by rw[e]at a;cases a⟩
 .grind
 .grind
theorem iR.SJ{P:az->Prop}(h:iR l d mk ss [])(e:P d.ai):gF P d:=by
 rcases h.mode with⟨_,c,b,_,_⟩|⟨_,_,_,a,_⟩|⟨a,_⟩
 .grind [gF.rest]
 .grind
 .grind
theorem Bi(l:aq)(d:ah)(ns:List ByteArray):(l.dX d ns).1.recs=l.recs/\(l.dX d ns).1.next=l.next:=by grind[aq.dX,aq.sync]
structure SK(w:World)(B hp p bD bN:Nat)(so:Option (Nat × List Nat))(d:ah)(n:Nat):Prop where
 host:∃up x,w.heap[hp]?=some (gB p up (.pointer x))
 lt:∀lp S,so=some (lp,S)->lp<w.heap.size
 bE:∃pv nD nN,aB w B p bD bN pv d n nD nN
theorem kz.any(i:kz w B hp p a g V T H c h bN m n s l d):SK w B hp p h bN (some (c,[a,V,T,H])) d n:=by
 have⟨j,f,_⟩:=i;have⟨v,k,r,D,N,b⟩:=f.lg;exact⟨⟨_,_,j⟩,λq S e=>by cases e;exact(zza.1 b.blk).1,⟨_,_,_,b.bE⟩⟩
theorem wH.any(a:wH w B 2 hp p h bN d n):SK w B hp p h bN none d n:=by
 have⟨b,v,D,N,c⟩:=a;exact⟨⟨_,_,b⟩,λq S e=>(by cases e),⟨_,_,_,c⟩⟩
theorem wH.fK{kd:Int}(b:wH w B kd hp p h bN d n)(a:n<=m)(U:m<=1000000000):wH w B kd hp p h bN d m:=by
 have⟨c,v,D,N,e⟩:=b;exact⟨c,v,D,N,e.fK a U⟩
theorem SL.fK{b n':Nat}(o:SL w B a g V T H m b p h bN n s l d)(c:n<=n')(U:n'<=1000000000):SL w B a g V T H m b p h bN n' s l d:=by
 have⟨k,⟨f,v,r,D,N,e⟩,j,i⟩:=o;exact⟨k,⟨f,v,r,D,N,e.fK c U⟩,j,i⟩
theorem SM{so:Option (Nat×List Nat)}{P:az->Prop}(kept part:Int)(b:SK w B hp p h bN so d n)(s:gF P d)(f:DF m0 d)(T:-2^63<=part)(a:part<=9223372036854775807):
  Calls prog 33 #[rM hp,.int .i64 kept,.int .i64 part] w λe w'=>e=.returned (.tuple #[])/\∃F g,P F/\lB m0 F/\wH w' B 2 hp p h g (eI F) n/\lA hp p so none w w':=by
 have⟨⟨up,x,c⟩,_,v,D,N,i⟩:=b;apply(VI 2 B hp p h bN n D N v (.pointer x) (.pointer none) up d kept part so w c ⟨_,rfl⟩ ⟨_,rfl⟩ i T a).mono;rintro e w' ⟨he,F,g,hl,hc,hx⟩;exact⟨he,F,g,s.left F hl,f.left hl,hc,hx⟩
def Xh(B hp p D bN n m0 c T:Nat)(cs:List aK)(Q:Nat->List Sg->Prop)(a b:Int)(so:Option (Nat × List Nat))(w:World)(e:Nat)(w':World):Prop :=
 ∃mk ss,Q mk ss/\m0<=mk /\
 ((e=0/\∃f j V h H g s l d R,R∈cs/\Pp c T s R.rest/\kz w' B hp p f j V h H g D bN (20*l.recs.length) (n+(mk-m0)+1) s l d/\d.down=false/\iR l d mk ss []/\iZ d.ai mk ss/\vL c mk (chunks ss).flatten R.rest/\lA hp p so (some (g,[f,V,h,H])) w w') \/
  ((e=9\/e=10)/\(0<=a\/0<=b)/\∃i d,wH w' B 2 hp p D i d (n+(mk-m0)+1)/\d.down=false/\gF (Holds Q) d/\DF m0 d/\lA hp p so none w w'))
theorem Xi{N M:Nat}(T:Nat){cs:List aK}{so:Option (Nat×List Nat)}{Q:Nat->List Sg->Prop}(a b c3 k:Int)(y:SK w B hp p h bN so d n)(V:gF (Holds Q) d)(i:DF m0 d)(o:d.down=false)(hQ:∀mk ss,Q mk ss->QC c cs M N mk ss)(hM:m0<=M)(L:3<=B)(fL:B<=hp)(gH:Met w)(dF:dw w)(sK:mP w)(hN:N+1<=n)(hn:n+(N-m0)+10<=1000000000)(ha:-2^63<=a)(hb:-2^63<=b)(kD:-2^63<=k)(gT:k<=9223372036854775807):
  Calls prog 9 #[rM hp,fY a b c3 k] w λe w'=>∃O:Nat,e=.returned (.int .i64 (O:Int))/\Below B w w'/\Xh B hp p h bN n m0 c T cs Q a b so w O w':=by
 obtain⟨⟨up,x,hh⟩,bP,H,E,I,hd⟩:=y;have⟨⟨mk,ss,m,Y,s⟩,ab⟩:=V.now o;have⟨⟨R0,a1,D⟩,al,kJ⟩:=hQ mk ss s;have⟨C,a7,Zh,Zi⟩:=D.ch;have uX:ss.length<=(chunks ss).flatten.length:=by have:=xD m.ne';simpa using this
 have k_:(chunks ss).flatten.length<=N:=by grind[aw]
 have RJ:ss.length+1<=n:=oE;have z:∀us,jG d.now mk ss us->us.length<=(mk-m0)+1:=λus u=>Ci m u i.now
 have ak:mk<=N:=by grind[aw]
 have Z:=λus u=>Zb (us:=us) (V.bj a b) o m Y u
 have a':C.length=(counted (chunks ss).flatten).length:=by grind
 refine(VN B hp p h bN n E I (JC c T C) (λR n'=>∃us,jG d.now mk ss us/\R=(cJ mk ss).dX (d.bj a b) (us.map ar)/\n'=n+us.length) H _ up so d a b c3 k w hh ⟨_,rfl⟩ bP hd L fL gH (λad G rI=>⟨⟨_,_,_,_,_,G⟩,λW X=>?_,Rp c T,λR n' K f=>?_⟩) (λR n' K f=>?_) kD gT).mono ?_
 .have jW:Below B w W:=rI.trans (X.below G.base.2.2.2 sE);apply(Om B p h bN n E I mk ss H (d.bj a b) W (G.new X) L o m Y.begun (dF.cF<|jW.block 1 oE) (sK.below jW oE) oE RJ oE λus u=>by have:=z us u;omega).mono;rintro e w' ⟨us,u,na⟩;exact⟨_,_,⟨us,u,rfl,rfl⟩,na⟩
 .obtain⟨us,u,rfl,rfl⟩:=K;have⟨q,S⟩:=Bi (cJ mk ss) (d.bj a b)<|us.map ar;have q:((cJ mk ss).dX (d.bj a b)<|us.map ar).1.recs=(chunks ss).flatten:=q;have S:((cJ mk ss).dX (d.bj a b)<|us.map ar).1.next=aw mk ss:=S;have U:=Bg (chunks ss).flatten;refine⟨λr g=>?_,λf=>?_,λr g=>?_,λan x' A hp hj=>?_,?_,by have:=z us u;omega⟩
  .rw[q]at g;exact(m.fine r g).1
  .rw[q]at f ⊢;rw[S];have j:mk=1:=D.cp.resolve_right λy=>y f
   cases i:(chunks ss).flatten with
   |nil=>show aw mk ss=1;unfold aw;rw[i];simp;exact j
   |cons r rs=>have:=m.nk 0 r (by rw[i];rfl);show r.cQ=1;omega
  .rw[q]at g;exact⟨(m.fine r g).2.2,by have:=(m.fine r g).2.1;omega⟩
  .rw[q,<-Zh]at hp;exact a7.ac9 hp hj
  .rw[q];unfold maxLen;omega
 .obtain⟨us,u,rfl,rfl⟩:=K;obtain j|j:=Z us u
  .grind
  .grind
 .rintro e w' ⟨R,n',⟨us,u,rfl,rfl⟩,he,zG,mQ⟩;have hl:=z us u;refine⟨_,he,zG,mk,ss,s,oE,?_⟩;have⟨q,_⟩:=Bi (cJ mk ss) (d.bj a b)<|us.map ar;have q:((cJ mk ss).dX (d.bj a b)<|us.map ar).1.recs=(chunks ss).flatten:=q;have lY:¬(0<=a\/0<=b)->((cJ mk ss).dX (d.bj a b)<|us.map ar).2.2≠9/\((cJ mk ss).dX (d.bj a b)<|us.map ar).2.2≠10:=λhn=>Kg _ (r7 o oE oE ha hb _)<|by rw[zzn];omega
  have P:DF m0 ((cJ mk ss).dX (d.bj a b)<|us.map ar).2.1:=(i.bj a b).dX _;rcases Z us u with⟨o1,o2,t,o4⟩|⟨o1,o2,t⟩
  .rcases mQ with⟨_,sp,gp,bV,bT,bH,lp,A,hj,a6,l⟩|⟨f,_⟩|⟨f,_⟩
   .obtain⟨hh',AR,BO⟩:=a6;have a8:Pp c T A R0.rest:=by grind[JC,counted,cJ,ar,recs]
    exact .inl ⟨o1,sp,gp,bV,bT,bH,lp,A,_,_,R0,a1,a8,⟨hh',AR.fK oE oE,BO⟩,o2,t.bj _ _,o4,D,l⟩
   .exact absurd o1 f
   .exact absurd o1 f
  .have Xj:gF (Holds Q) ((cJ mk ss).dX (d.bj a b) (us.map ar)).2.1:=t.mono (λF v=>by
    obtain v|⟨j,h2⟩:=v
    .exact v
    .exact⟨mk,ss,j,h2,s⟩)
   rcases mQ with⟨f,_⟩|⟨_,Pn,U,l⟩|⟨_,Pn,F',ng,J,U,l⟩
   .exact absurd f o1
   .rcases o2 with o2|o2
    .exact .inr ⟨.inl o2.1,Classical.byContradiction λhn=>(lY hn).1 o2.1,bN,_,U.fK oE oE,o2.2,Xj.bj _ _,P.bj _ _,l⟩
    .grind
   .rcases o2 with o2|o2
    .grind
    .exact .inr ⟨.inr o2.1,Classical.byContradiction λhn=>(lY hn).2 o2.1,ng,_,U.fK oE oE,rfl,jS<|Xj.left F' J,DF.eI<|P.left J,l⟩
section
open Go.Shelf
variable{A B:World}
structure LZ(ls:List Nat)(A B:World):Prop where
 size:A.heap.size<=B.heap.size
 same:∀(k:Nat) (o:Obj),k∉ls->A.heap[k]?=some o->vw o=true->B.heap[k]?=some o
theorem yi.x(h:yi A B)(s:List Nat):LZ s A B:=⟨h.size,λk o _ b a=>h.same k o b a⟩
theorem LZ.trans{s:List Nat}{C:World}(h:LZ s A B)(k:LZ s B C):LZ s A C:=⟨zzk h.size k.size,λi o l b a=>k.same i o l (h.same i o l b a) a⟩
abbrev Gs:=List (Nat × Obj)
def Vc{α:Type}(F:Fence)(n:Nat)(P:Program)(gf:Nat)(lb:Array Value)(encs:α->Array Value)(rs:List α)(Inv:World->Prop)(l:Nat)(f:List Nat)(W:World):Prop :=
 ∀(J:Gs->List α->World->Prop) (S:List α->World->Prop),(∀p s A,J p s A->Inv A)->(∀p s A B,J p s A->W.heap.size<=A.heap.size->Bk W.heap.size A B->J p s B)->(∀s A B,S s A->W.heap.size<=A.heap.size->Bk W.heap.size A B->S s B) ->
  (∀p s A B g c t,J p s A->W.heap.size<=A.heap.size->Fr [] A B->A.heap.size<=g->B.heap[g]?=some (.cells c t (0,0))->J ((g,.cells c t (0,0)) :: p) s B)->(∀p s A,J p s A->∀x∈p,A.heap[x.1]?=some x.2) ->
  (∀p a x d,J p a d->W.heap.size<=d.heap.size->a++[x] <+: rs->YieldAt F (n-1) P l (encs x) d λe b=>e=.returned (.bool true)/\J p (a++[x]) b/\yi d b\/e=.returned (.bool false)/\S (a++[x]) b/\LZ f d b) ->
  J [] [] W->CallsIn F n P gf (#[.func (.yield l) #[] #[]]++lb) W λe b=>(∃v,e=.returned v)/\((∃p,J p rs b)\/∃a,a <+: rs/\S a b)
section
variable{F:Fence}{n:Nat}{P:Program}
theorem vB{α:Type}{g:Operand}{K:Array Tmp}{assign body:Code}{Q:Exit->Act->World->Prop}{a:Act}{w:World}
  (z:List Nat) (TI:∀k∈z,k<w.heap.size) (ao:F.round=none) (h1:1<=n) {gf:Nat} {lb:Array Value} (Z:a.eval g=.func (.func gf) #[] lb) (UG:F.fn gf) (eg:∀args w,(callFunc gf args).run P w=.ok (.enter gf args) w)
  {encs:α->Array Value} {rs:List α} {Inv:World->Prop} (zL:∀x,(encs x).size=K.size)
  (tI:∀d,Fr [] w d->d.heap.size=w.heap.size+2->Vc F (n-1) P gf lb encs rs Inv (w.heap.size+1) ((w.heap.size+1)::z) d)
  (I:Gs->List α->World->Prop) (S:List α->World->Prop) (X:∀s A B,S s A->w.heap.size<=A.heap.size->Bk w.heap.size A B->S s B) (ad:I [] [] w) (YQ:∀p s A,I p s A->Inv A) (U:∀p s A B,I p s A->w.heap.size<=A.heap.size->Bk w.heap.size A B->I p s B)
  (Re:∀p s A B g c t,I p s A->w.heap.size<=A.heap.size->Fr [] A B->A.heap.size<=g->B.heap[g]?=some (.cells c t (0,0))->I ((g,.cells c t (0,0))::p) s B) (Rf:∀p s A,I p s A->∀x∈p,A.heap[x.1]?=some x.2)
  (M:α->Act->World->Prop) (ak:∀x q A r,M x q A->M x q (A.putObj (w.heap.size+1)<|.loop r))
  (D0:∀(p:Gs) (b:List α) (x:α) (W:World) (ab:Act->World->Prop),I p b W->w.heap.size+2<=W.heap.size->b++[x]<+:rs->(∀q y,Bk w.heap.size W y->yi W y->M x q y->ab q y) ->
   assign.wpIn (F.inRound (w.heap.size+1)) (n-1-1) P (Exit.then ab (λ_ _ _=>False)) {tmps:=(K.zip (encs x)).foldl (λt (p,v)=>t.setIfInBounds p v) a.tmps,defers:=[]} W)
  (QM:∀(p:Gs) (b:List α) (x:α) (q:Act) (W:World),I p b W->w.heap.size+2<=W.heap.size->M x q W->b++[x]<+:rs->body.wpIn (F.inRound<|w.heap.size+1) (n-1-1) P (λe _ y=>e=.normal/\I p (b++[x]) y/\yi W y\/e=.ret/\S (b++[x]) y/\LZ z W y) q W)
  (CI:∀(p:Gs) (W:World),I p rs W->w.heap.size+2<=W.heap.size->W.heap[w.heap.size]?=some (.deferred<|some [])->Q .normal {a with defers:={target:=.collected w.heap.size,args:=#[]}::a.defers} W)
  (an:∀(b:List α) (W:World),b<+:rs->S b W->w.heap.size+2<=W.heap.size->W.heap[w.heap.size]?=some (.deferred<|some [])->Q .ret {a with defers:={target:=.collected w.heap.size,args:=#[]}::a.defers} W) :
  (Code.rangeFunc g K assign body).wpIn F n P Q a w:=by
 refine wpIn_rangeFunc λfn UR=>?_
 rw[ao];have⟨L,l⟩:∃L:LoopState->Loop,L=λst=>{state:=st,pending:=none,fn,tmps:=a.tmps,params:=K,assign,body,defers:=w.heap.size}:=⟨_,rfl⟩
 have⟨d,E⟩:=xY <|(w.alloc<|.deferred<|some []).alloc (.loop<|L .ready);have gw:Fr [] w d:=by rw[E];exact((lE w).alloc _).alloc _
 have T:d.heap.size=w.heap.size+2:=by rw[E];simp
 have fE:d.heap[w.heap.size+1]?=some (.loop<|L .ready):=by
  rw[E];have:=World.alloc_heap_new (w.alloc<|.deferred<|some [])<|.loop<|L .ready;rwa [zzv]at this
 have mF:d.heap[w.heap.size]?=some (.deferred<|some []):=by
  rw[E];exact(zzf _ _ _ sE).trans<|World.alloc_heap_new w _
 refine⟨w.heap.size+1,[{target:=.collected w.heap.size,args:=#[]}],d,{target:=.fn (.func gf) lb,args:=#[.func (.yield<|w.heap.size+1) #[] #[]]},d,gf,#[.func (.yield<|w.heap.size+1) #[] #[]]++lb,d,?_,?_,?_,?_,λ_=>h1,?_⟩
 .rw[E,l];exact run_enterLoop_outer _ _ _ _ _
 .simp only[resolve,Z];simp[go_sem]
 .intro f' WB;simp[Target.leads]at WB;subst WB;exact UG
 .simp[invoke,go_sem,eg]
 refine(tI d gw T (λp s A=>I p s A/\A.heap[w.heap.size+1]?=some (.loop<|L .ready)/\A.heap[w.heap.size]?=some (.deferred<|some [])/\w.heap.size+2<=A.heap.size) (λs A=>S s A/\A.heap[w.heap.size+1]?=some (.loop {L .done with pending:=some .ret})/\A.heap[w.heap.size]?=some (.deferred<|some [])/\w.heap.size+2<=A.heap.size) (λp s A Y=>YQ p s A Y.1) ?_ ?_ ?_ (λp s A Y=>Rf p s A Y.1) ?_ ⟨U _ _ _ _ ad (zzc _)<|Bk.fr gw,fE,mF,oE⟩).mono ?_
 .rintro p s A B ⟨f,i,h,j⟩ _ hb;rw[T]at hb;exact⟨U p s A B f oE<|hb.mono oE,hb.block _ _ i<|.inr oE,hb.block _ _ h<|.inr oE,zzk j hb.size⟩
 .rintro s A B ⟨f,i,h,j⟩ _ hb;rw[T]at hb;exact⟨X s A B f oE<|hb.mono oE,hb.block _ _ i<|.inr oE,hb.block _ _ h<|.inr oE,zzk j hb.size⟩
 .rintro p s A B g c t ⟨f,i,h,j⟩ _ hf Z hB;exact⟨Re p s A B g c t f oE hf Z hB,(hf.block _ (zza.1 i).1 sE).trans i,(hf.block _ (zza.1 h).1 sE).trans h,zzk j hf.size⟩
 .rintro p b x W ⟨f,i,h,j⟩ _ N;have hy:=run_yield (P:=P) (args:=encs x) i (by rw[l];exact zL x);rw[l]at hy;refine⟨fn,_,assign,body,hy,roundIn_of_wpIn UR<|D0 p b x W _ f j N λq J ba O xa=>?_⟩;have R:=O.same _ _ i rfl;have da:=O.same _ _ h rfl;have ay:w.heap.size+1<J.heap.size:=(zza.1 R).1;obtain⟨u,H⟩:∃u,u=J.putObj (w.heap.size+1) (.loop<|L .busy):=⟨_,rfl⟩;have bb:Bk w.heap.size J u:=by rw[H];exact Bk.put R rfl oE _
  have al:u.heap[w.heap.size+1]?=some (.loop<|L .busy):=by rw[H];exact World.putObj_heap_same ay
  have sb:u.heap.size=J.heap.size:=by rw[H];simp
  refine⟨u,by rw[H];have:=run_beginRound (P:=P) R (by rw[l]);rw[l]at this ⊢;exact this,?_⟩;apply wpIn_mono (QM p b x q u (U _ _ _ _ f oE<|ba.trans bb) (by rw[sb];omega) (by rw[H];exact ak _ _ _ _ xa) N);rintro e a3 G mQ;have k3:LZ z u G:=mQ.elim (λa6=>a6.2.2.x z) λa6=>a6.2.2;have n1:w.heap.size+1∉z:=λm=>by have:=TI _ m;omega
  have n0:w.heap.size∉z:=λm=>by have:=TI _ m;omega
  have D:=k3.same _ _ n1 al rfl;have a1:w.heap.size+1<G.heap.size:=(zza.1 D).1;have d3:G.heap[w.heap.size]?=some (.deferred<|some []):=k3.same _ _ n0 (by rw[H];exact(World.putObj_heap_other oE).trans da) rfl;have a7:W.heap.size<=G.heap.size:=by have:=O.size;have:=k3.size;omega
  have a8:∀(k:Nat) (o:Obj),k≠w.heap.size+1->W.heap[k]?=some o->vw o=true->u.heap[k]?=some o:=λk o e m C=>by
   rw[H,World.putObj_heap_other e];exact O.same k o m C
  rcases mQ with⟨rfl,V,kk⟩|⟨rfl,V,kk⟩
  .have xd:=run_endRound (P:=P) none D;refine⟨_,_,xd,.inl ⟨rfl,⟨U _ _ _ _ V oE<|Bk.put D rfl oE _,?_,(World.putObj_heap_other oE).trans d3,by rw[fG];omega⟩,?_,?_⟩⟩
   .rw[World.putObj_heap_same a1,l];rfl
   .rw[fG];exact a7
   .intro k o m C;by_cases e:k=w.heap.size+1
    .subst e;rw[i]at m;cases m;rw[World.putObj_heap_same a1,l];rfl
    .rw[World.putObj_heap_other e];exact kk.same k o (a8 k o e m C) C
  .have xd:=run_endRound (P:=P) (some .ret) D;refine⟨_,_,xd,.inr ⟨rfl,⟨X _ _ _ V oE<|Bk.put D rfl oE _,?_,(World.putObj_heap_other oE).trans d3,by rw[fG];omega⟩,?_,?_⟩⟩
   .rw[World.putObj_heap_same a1,l];rfl
   .rw[fG];exact a7
   .intro k o e m C;rw[zzj,not_or]at e;rw[World.putObj_heap_other e.1];exact kk.same k o e.2 (a8 k o e.1 m C) C
 .rintro e W2 ⟨⟨v,rfl⟩,hc⟩;rcases hc with⟨p,f,i,h,j⟩|⟨b,N,f,i,h,j⟩
  .have xd:=run_endLoop (P:=P) i (by rw[l];simp);have hp:(L .ready).pending=none:=by rw[l]
   rw[hp]at xd;refine⟨none,_,xd,?_⟩;exact CI p _ (U _ _ _ _ f oE<|Bk.put i rfl oE _) (by rw[fG];exact j)<|(World.putObj_heap_other oE).trans h
  .have xd:=run_endLoop (P:=P) i (by rw[l];simp);refine⟨some .ret,_,xd,?_⟩;have hq:=an b _ N (X _ _ _ f oE<|Bk.put i rfl oE<|.loop {({L .done with pending:=some .ret}:Loop)with state:=.exhausted}) (by rw[fG];exact j) ((World.putObj_heap_other oE).trans h);exact wpIn_ret hq
end
end
end Go.Proofs.YtdcafjmdfpjcbaaGreatDoor
