import Derived.Test.YtlgeloebpdmnnaaGreatDoorC32
import Derived.Test.YtlgeloebpdmnnaaGreatDoorC33
import Derived.Test.YtlgeloebpdmnnaaGreatDoorC30
set_option maxHeartbeats 4000000
set_option maxRecDepth 100000
namespace Go.Proofs.YtlgeloebpdmnnaaGreatDoor
open Go.RowKit Go.Maps Tryz Sc
section
open Go.Shelf
variable{z:Int}{zs:List Int}{xs:List aK}{ps:List aU}{c g i j k kx st t v:Nat}{q:Nat->Bool}{L':Nat->Nat}{α:Type}{u:Value}{x x' y:aK}{l l' p:aU}{T:fQ}{a:nL}
def aP.kg(R:aP)(t:Nat):Nat:=match aO R.ai t with|none=>7|some x=>if x.st=6 then 4 else 0
def aP.abort(R:aP)(t:Nat):aP:=match eW R.ai t with
 |none=>R
 |some i=>match R.ai[i]? with
  |none=>R
  |some x=>if x.st=6 then R else { R with ai:=R.ai.take i++R.ai.drop (i+1),res:=R.res++[(x.id,6)],out:=R.out++iF x.id x.parts }
theorem LH [Inhabited Bs](p t:Nat)(S:List Nat)(R:aP)(w:nL)(h:gh w p S R)(hn:R.ai.length<=1048576)(J:∀x∈R.ai,x.parts.length<=8)(D:R.out.length<=1048576)(O:R.res.length<=1048576):
  Calls prog 79 #[gx p,.int .u64 (t:Int)] w λe w'=>e=.returned (.int .i64 (R.kg t:Int))/\∃a,gh w' p a (R.abort t)/\fo S a w w':=by
 obtain⟨k,r,o,ps,h,rfl⟩:=h;have G:=h.len;have hf:=gT p t k r o ps R w h dp;have s:=af h.blk 0;simp at s;have⟨L,c,n,H⟩:=h.slice;rw[n]at s;cases U:eW R.ai t with
 |none=>
  have d:=i_ U;rw[U]at hf;have j:CN none=-1:=rfl;rw[j]at hf;have E:R.kg t=7:=by unfold aP.kg;rw[d]
  have b:R.abort t=R:=by unfold aP.abort;rw[U]
  rw[E,b];have I:=ah h;clear h H U d j E b n G;go_enter func79,ntmps79;go_wp2_with fail;apply hf.mono;clear hf;rintro e y ⟨rfl,q,rfl⟩;have F:=ah (show ∃a,gh (w.drewN q) p a R/\fo (kb p k r o ps) a w (w.drewN q)from ⟨_,⟨_,_,_,_,I.out.fr<|(fU w).dE q,rfl⟩,fo.of<|(fU w).dE q⟩);go_wp2;go_ret;exact⟨rfl,F.out⟩
 |some i=>
  have⟨x,hx,u,d⟩:=fO U;have⟨v,m⟩:=h.at hx;obtain⟨g,rfl,T,z,V,X,Y⟩:=H i _ m;have K:=(zzd.1 m).1;rw[U]at hf;have j:CN (some i)=(i:Int):=rfl;rw[j]at hf;have N:¬(i:Int)<0:=dp;have P:(0:Int)<=i:=dp;have Q:(i:Int)<(ps.length:Int):=dp;have⟨st,f⟩:∃st,st=x.st:=⟨_,rfl⟩;simp only at z;rw[<-f]at z;have I:=ah h;by_cases l:st=6
  .have E:R.kg t=4:=by unfold aP.kg;rw[d];show(if x.st=6 then 4 else 0)=4;rw[<-f,oo l]
   have b:R.abort t=R:=by unfold aP.abort;rw[U];show(match R.ai[i]? with|none=>R|some x=>_)=R;rw[hx];show(if x.st=6 then R else _)=R;rw[<-f,oo l]
   rw[E,b];subst l;clear h H U d hx u m j f E b n G;go_enter func79,ntmps79;go_wp2_with fail;apply hf.mono;clear hf;rintro e y ⟨rfl,q,rfl⟩;have F:=ah (show ∃a,gh (w.drewN q) p a R/\fo (kb p k r o ps) a w (w.drewN q)from ⟨_,⟨_,_,_,_,I.out.fr<|(fU w).dE q,rfl⟩,fo.of<|(fU w).dE q⟩);go_wp2;go_ret;exact⟨rfl,F.out⟩
  .have E:R.kg t=0:=by unfold aP.kg;rw[d];show(if x.st=6 then 4 else 0)=0;rw[<-f,mE l]
   have b:R.abort t={R with ai:=R.ai.take i++R.ai.drop (i+1),res:=R.res++[(x.id,6)],out:=R.out++iF x.id x.parts}:=by unfold aP.abort;rw[U];show(match R.ai[i]? with|none=>R|some x=>_)=_;rw[hx];show(if x.st=6 then R else _)=_;rw[<-f,mE l]
   rw[E,b];have C:¬(st:Int)=6:=dp;have M:=oT.2 C;have A:=ah (λW (B:bQ W p k r o ps R)=>yv p i k r o ps R W B x hx dp (J x<|zzh hx) D O);clear h H U d hx u m j f E b n G;go_enter func79,ntmps79;go_wp2_with fail;apply hf.mono;clear hf;rintro e y ⟨rfl,q,rfl⟩;go_wp2_with fail;apply(A.out _<|I.out.fr<|(fU w).dE q).mono;rintro e w2 ⟨rfl,a,h2,k2⟩;have F:=ah (show ∃a,gh w2 p a {R with ai:=R.ai.take i++R.ai.drop (i+1),res:=R.res++[(x.id,6)],out:=R.out++iF x.id x.parts}/\fo (kb p k r o ps) a w w2 from ⟨a,h2,(fo.of<|(fU w).dE q).trans k2⟩);clear h2 k2;go_wp2;go_ret;exact⟨rfl,F.out⟩
theorem TP [Inhabited Bs](w:nL)(hb:B0<=w.heap.size):
  Calls prog 21 #[] w λe w'=>e=.returned (gx w.heap.size)/\gh w' w.heap.size [w.heap.size] ⟨[],1,[],[]⟩/\Fr [] w w':=by
 have⟨W,h⟩:=gb <|w.alloc (.cells #[.slice none 0 0,.int .u64 1,.slice none 0 0,.slice none 0 0] 120);have N:=ah (show gh W (nF w) [nF w] ⟨[],1,[],[]⟩/\Fr [] w W from by
  refine⟨⟨.slice none 0 0,.slice none 0 0,.slice none 0 0,[],⟨hb,?_,zzu _ _ _ _,dv,dv,zzu _ _ _ _,zzu _ _ _ _,rfl⟩,rfl⟩,by rw[h];exact(fU w).alloc _⟩
  rw[h];exact oz w _)
 go_enter func21,ntmps21;go_wp2;rw[<-h];go_ret;exact⟨rfl,N.out⟩
def aU.code(st:Nat)(p:aU):Nat:=if p.aZ=0 then 1 else if p.aZ=2 then (if st=6/\p.left=false then 5 else 2) else if st=6 then 0 else p.aZ
def dW(ps:List aU)(k:Nat):Option aU:=ps.find? λp=>decide (p.cH=k)
def fB(st:Nat)(ps:List aU):List Nat:=(List.range 9).map λk=>((dW ps k).map (aU.code st)).getD 0
def tr(st c:Nat):Nat:=if st=6/\c=4 then 0 else c
theorem F9(h:st≠6)(l:List Nat):l.map (tr st)=l:=by
 have:tr st=id:=by grind[tr]
 rw[this,List.map_id]
theorem Z'(h:q 0=false)(a:q 4=false)(st c:Nat):q (tr st c)=q c:=by grind[tr]
theorem YM(h:q 0=false)(a:q 4=false)(st:Nat)(l:List Nat):(l.map<|tr st).any q=l.any q:=by
 rw[List.any_map];congr 1;funext c;exact Z' h a st c
theorem F_(st:Nat)(l:List Nat)(k:Nat):(l.map<|tr st).getD k 0=tr st (l.getD k 0):=by grind[tr]
theorem Et(h:q 0=false)(a:q 4=false)(st:Nat)(l:List Nat):bV q (l.map<|tr st)=bV q l:=by
 unfold bV gL;refine List.filter_congr λk _=>?_
 rw[F_,Z' h a]
theorem N7{d:Nat}(h:tr st c=d)(a:d≠0):c=d:=by grind[tr]
structure xH(ps:List aU):Prop where
 up:ps.Pairwise λp q=>p.cH<q.cH
 b:∀p∈ps,1<=p.cH/\p.cH<=8
theorem e_(h:dW ps k=some p):p∈ps/\p.cH=k:=by grind[dW]
theorem xH.for(h:xH ps)(hp:p∈ps):dW ps p.cH=some p:=by
 have b:=h.up;clear h;unfold dW;induction ps with
 |nil=>cases hp
 |cons a r ih=>
  have⟨c,d⟩:=zzA.1 b;rw[List.find?_cons];obtain e|e:=zzj.1 hp<;>grind
theorem qp(h:k<9):(fB st ps).getD k 0=((dW ps k).map<|aU.code st).getD 0:=by grind[fB]
theorem qt:(fB st ps).length=9:=by simp[fB]
theorem kj(i:q 0=false)(h:xH ps):bV q (fB st ps)=(ps.filter λp=>q<|p.code st).map (·.cH):=by
 have e:(bV q<|fB st ps).Pairwise (· < ·):=by
  unfold bV gL;exact List.Pairwise.filter _<|List.pairwise_lt_range
 have f:((ps.filter λp=>q<|p.code st).map (·.cH)).Pairwise (· < ·):=by
  rw[zv];exact h.up.filter _
 apply List.Perm.eq_of_pairwise (λa b _ _ d c=>Nat.le_antisymm d c) (e.imp λh=>Nat.le_of_lt h) (f.imp λh=>Nat.le_of_lt h);rw[List.perm_ext_iff_of_nodup (e.imp λh=>dp)<|f.imp λh=>dp];intro k;unfold bV gL;constructor
 .intro hk;have⟨d,c⟩:=zzp.1 hk;rw[qp<|List.mem_range.1 d]at c
  cases hp:dW ps k with
  |none=>grind
  |some p=>
   rw[hp]at c;have⟨m,s⟩:=e_ hp;exact zzq.2 ⟨p,zzp.2 ⟨m,c⟩,s⟩
 .intro hk;obtain⟨p,hp,rfl⟩:=zzq.1 hk;have⟨m,g⟩:=zzp.1 hp;have hb:=h.b p m;refine zzp.2 ⟨List.mem_range.2 dp,?_⟩;rw[qp dp,h.for m];exact g
theorem uw(a:q 0=false)(h:xH ps):(fB st ps).any q=ps.any λp=>q (p.code st):=by
 rw[Bool.eq_iff_iff,List.any_eq_true,List.any_eq_true];constructor
 .rintro⟨x,hx,hq⟩;unfold fB at hx;obtain⟨k,b,rfl⟩:=zzq.1 hx;cases hp:dW ps k with
  |none=>grind
  |some p=>grind[e_]
 .rintro⟨p,hp,hq⟩;have hb:=h.b p hp;refine⟨p.code st,?_,hq⟩;unfold fB;exact zzq.2 ⟨p.cH,List.mem_range.2 dp,by rw[h.for hp];rfl⟩
theorem ux{l:List Nat}(b:l.length=9)(h:∀k,k<9->l.getD k 0=((dW ps k).map<|aU.code st).getD 0):l=fB st ps:=by
 refine List.ext_getElem? λk=>?_
 by_cases a:k<9
 .grind [fB,st,qt,qp]
 .grind [qt]
theorem tu{f:aU->aU}(hf:∀p,(f p).cH=p.cH)(k:Nat):dW (ps.map f) k=(dW ps k).map f:=by
 unfold dW;rw[List.find?_map];congr 2;funext p;simp[hf p]
theorem xH.map(h:xH ps){f:aU->aU}(hf:∀p,(f p).cH=p.cH):xH (ps.map f):=by
 refine⟨?_,λp hp=>?_⟩
 .rw[zv];exact h.up.imp λh=>by rw[hf,hf];exact h
 .obtain⟨q,hq,rfl⟩:=zzq.1 hp;rw[hf];exact h.b q hq
theorem Eu{s:Nat}{f:aU->aU}(hf:∀p,(f p).cH=p.cH)(hp:dW ps k=some p)(b:(f p).code s=v)(a:∀y∈ps,y.cH≠k->(f y).code s=y.code st):(fB st ps).set k v=fB s (ps.map f):=by
 refine ux (by simp[qt]) λj h=>?_
 rw[tu hf];by_cases e:j=k
 .grind [qt]
 .rw[Il,List.getElem?_set_ne dp,<-Il,qp h];cases q:dW ps j with
  |none=>rfl
  |some y=>grind[e_]
def fc(xs:List Nat):List aU:=xs.map λx=>⟨x,0,false⟩
theorem xI:∀{xs:List Nat},(∀x∈xs,x<=8)->cO xs 1=fB 5 (fc xs):=by
 intro xs hb;refine ux (k_ xs 1) λk d=>?_
 have c:∀(xs ps:List Nat),ps.length=9->(∀x∈xs,x<=8)->(xs.foldl (λps x=>ps.set x 1) ps).getD k 0=if k∈xs then 1 else ps.getD k 0:=by
  intro xs;induction xs with
  |nil=>grind
  |cons a r ih=>grind
 have e:=c xs [0,0,0,0,0,0,0,0,0] rfl hb;unfold cO;rw[e];have b:([0,0,0,0,0,0,0,0,0]:List Nat).getD k 0=0:=by
  have:k=0\/k=1\/k=2\/k=3\/k=4\/k=5\/k=6\/k=7\/k=8:=dp;obtain rfl|rfl|rfl|rfl|rfl|rfl|rfl|rfl|rfl:=this<;>rfl
 rw[b];unfold dW fc;rw[List.find?_map];by_cases h:k∈xs
 .rw[oo h];cases hf:xs.find? ((λp:aU=>decide<|p.cH=k)∘λx=>⟨x,0,false⟩)with
  |none=>grind
  |some y=>rfl
 .grind
def cN(z:Int)(v:Nat)(p:aU):aU:=if (p.cH:Int)=z/\p.aZ=0 then { p with aZ:=v } else p
def jQ(z:Int)(p:aU):Bool:=decide ((p.cH:Int)=z/\p.aZ=0)
def gm(p:aU):aU:=if p.aZ=2 then { p with left:=true } else p
def dw(z:Int)(p:aU):aU:=if (p.cH:Int)=z then { p with left:=false } else p
def aP.without(R:aP)(i:Nat):aP:={ R with ai:=R.ai.take i++R.ai.drop (i+1) }
def aP.setAt(R:aP)(i:Nat)(x:aK):aP:={ R with ai:=R.ai.set i x }
def aP.l8(R:aP)(i:Nat)(x:aK):aP:={ R with ai:=R.ai.take i++R.ai.drop (i+1),res:=R.res++[(x.id,6)],out:=R.out++iF x.id x.parts }
def rQ(p:aU):Bool:=p.aZ==0
def uy(p:aU):Bool:=p.aZ==2
def eB(f:aU->Bool)(t w:Nat)(ps:List aU):List (Nat × Nat × Nat):=(ps.filter f).map λp=>(t,p.cH,w)
def aP.gD(R:aP)(t:Nat)(zs:List Int):Nat:=match aO R.ai t with|none=>7|some x=>if x.st=4 then (if jL 0 zs then 0 else 6) else 4
def aP.iu(R:aP)(t:Nat)(xs:List Nat):aP:=match eW R.ai t with
 |none=>R
 |some i=>match R.ai[i]? with
  |none=>R
  |some x=>if x.st=4 then { R with ai:=R.ai.set i ⟨x.id,5,0,x.parts++fc xs,x.aS⟩,out:=R.out++xs.map λk=>(t,k,1) } else R
def aP.jV(R:aP)(i:Nat)(x:aK)(z:Int)(v t:Nat):aP :=
 let ps:=x.parts.map (cN z v)
 if x.parts.any (jQ z)=false then R
 else if v=3 then (R.setAt i { x with parts:=ps }).l8 i { x with parts:=ps }
 else if ps.any rQ then R.setAt i { x with parts:=ps }
 else if ps.any uy=false then { R with ai:=R.ai.take i++R.ai.drop (i+1),res:=R.res++[(t,5)] }
 else { R with ai:=R.ai.set i ⟨x.id,6,x.gH,ps.map gm,x.aS⟩,res:=R.res++[(t,5)],out:=R.out++eB uy t 5 ps }
def aP.aZ(R:aP)(t:Nat)(z v:Int):aP:=match eW R.ai t with
 |none=>R
 |some i=>match R.ai[i]? with
  |none=>R
  |some x=>if x.st=5/\2<=v/\v<=4 then R.jV i x z v.toNat t else R
def aP.l_(R:aP)(t:Nat)(z:Int):Bool:=match aO R.ai t with
 |none=>false
 |some x=>decide (x.st=6)&&!((x.parts.map (dw z)).any (·.left))
def aP.done(R:aP)(t:Nat)(z:Int):aP:=match eW R.ai t with
 |none=>R
 |some i=>match R.ai[i]? with
  |none=>R
  |some x=>if x.st=6 then (if (x.parts.map (dw z)).any (·.left) then R.setAt i { x with parts:=x.parts.map (dw z) } else R.without i) else R
def aP.aR(R:aP)(t:Nat):aP:=match eW R.ai t with
 |none=>R
 |some i=>match R.ai[i]? with
  |none=>R
  |some x=>if x.aS then R else if x.st=5 then (if x.gH+1=8 then (R.setAt i { x with gH:=x.gH+1 }).l8 i { x with gH:=x.gH+1 } else { R with ai:=R.ai.set i { x with gH:=x.gH+1 },out:=R.out++eB rQ x.id 1 x.parts })
   else if x.st=6 then { R with out:=R.out++eB (·.left) x.id 5 x.parts } else R
def aP.cR(R:aP)(t:Nat):aP:=match eW R.ai t with
 |none=>R
 |some i=>match R.ai[i]? with
  |none=>R
  |some x=>R.setAt i { x with aS:=true }
def aP.counts(R:aP)(t:Nat)(z v:Int):Bool:=match aO R.ai t with
 |none=>false
 |some x=>decide (x.st=5/\2<=v/\v<=4)&&x.parts.any (jQ z)
def aP.tick(R:aP):aP:=(R.ai.map (·.id)).foldl aP.aR R
structure aK.Ok(x:aK):Prop where
 st:x.st=4\/x.st=5\/x.st=6
 up:xH x.parts
 act:x.st=4->x.parts=[]
 vot:x.st=5->x.gH<8/\∀p∈x.parts,(p.aZ=0\/p.aZ=2\/p.aZ=4)/\p.left=false
 N8:x.st=6->(∀p∈x.parts,(p.aZ=2\/p.aZ=4)/\(p.left=true->p.aZ=2))/\x.parts.any (·.left)=true
 ne:x.st=5->x.parts≠[]
 Ck:x.aS=true->x.st=5
theorem aK.Ok.nod(h:x.Ok)(a:x.st≠5):x.aS=false:=by
 cases e:x.aS with
 |false=>rfl
 |true=>exact absurd (h.Ck e) a
structure Ga(bw lag:Nat)(T:fQ)(x:aK):Prop where
 st:T.state=x.st
 ps:T.parts.map (tr x.st)=fB x.st x.parts
 gH:x.st=5->x.aS=false->T.since+x.gH+lag=bw
 Ck:(T.aS≠0↔x.aS=true)/\(T.aS=0\/T.aS=9\/T.aS=10)
theorem Ga.pv{bw:Nat}(h:Ga bw g T x)(a:x.st≠6):T.parts=fB x.st x.parts:=(F9 a _).symm.trans h.ps
def jE(xs:List aK):Prop:=xs.Pairwise λx y=>x.id<y.id
structure cV(L:Nat->Nat)(c:bL)(R:aP):Prop where
 oL:jE R.ai
 Mn:∀x∈R.ai,∃T,bJ c.aD x.id=some T/\Ga c.bw (L x.id) T x
 non:∀t,aO R.ai t=none->bJ c.aD t=none
 ok:∀x∈R.ai,x.Ok/\x.id<R.next
 len:R.ai.length<=12
 o1:fM c.aD
 sin:∀x∈c.aD,x.2.since<=c.bw
 next:R.next<=c.next
 res:c.res=R.res
 out:c.out=R.out
abbrev fJ(c:bL)(R:aP):Prop:=cV (λ_=>0) c R
theorem bh(h:aO xs t=some x):x∈xs/\x.id=t:=by grind[aO]
theorem jE.at(h:jE xs)(hx:x∈xs):aO xs x.id=some x:=by
 unfold aO;induction xs with
 |nil=>cases hx
 |cons a r ih=>
  have⟨b,c⟩:=zzA.1 h;rw[List.find?_cons];obtain e|e:=zzj.1 hx
  .grind
  .have:=b x e;have d:decide (a.id=x.id)=false:=ef;rw[d];exact ih c e
theorem jE.ne(h:jE xs)(a:xs[i]?=some x)(b:xs[j]?=some y)(e:x.id=y.id):i=j:=by
 have k:∀(xs:List aK),jE xs->∀(i j:Nat) (x y:aK),xs[i]?=some x->xs[j]?=some y->i<j->x.id<y.id:=by
  intro xs h i j x y a b l;have⟨c,d⟩:=zzd.1 a;have⟨f,g⟩:=zzd.1 b;have:=DS.1 h i j c f l;rw[d,g]at this;exact this
 obtain l|l|l:=Nat.lt_trichotomy i j
 .grind
 .exact l
 .grind
theorem fg(h:aO xs t=some x):∃i,eW xs t=some i/\xs[i]?=some x/\x.id=t:=by
 cases a:eW xs t with
 |none=>grind[i_]
 |some i=>grind[fO]
theorem jF(h:aO xs t=none):eW xs t=none:=by
 cases a:eW xs t with
 |none=>rfl
 |some i=>grind[fO]
theorem dh:aO xs t=none↔∀x∈xs,x.id≠t:=by grind[aO]
theorem jE.set(h:jE xs)(d:xs[i]?=some x)(e:y.id=x.id):jE (xs.set i y):=by
 unfold jE;rw[DS];intro a b c hb l;simp only[List.length_set]at c hb;have f:=DS.1 h a b c hb l;have⟨g,j⟩:=zzd.1 d;rw[List.getElem_set,List.getElem_set];split<;>split<;>simp_all
theorem mem_set(h:jE xs){z:aK}(c:xs[i]?=some x)(d:z∈xs.set i y):z=y\/(z∈xs/\z.id≠x.id):=by
 have⟨j,a⟩:=zzB.1 d;by_cases e:i=j
 .grind
 .rw[List.getElem?_set_ne e]at a;exact .inr ⟨zzh a,λb=>e<|h.ne c a b.symm⟩
theorem N9(h:xs[i]?=some x):y∈xs.set i y:=zzh<|List.getElem?_set_self (zzd.1 h).1
theorem ma(xs:List aK)(i:Nat):(xs.take i++xs.drop (i+1)).Sublist xs:=by
 have:=List.eraseIdx_sublist xs i;rwa [List.eraseIdx_eq_take_drop_succ]at this
theorem oP(h:jE xs)(c:xs[i]?=some x){z:aK}:z∈xs.take i++xs.drop (i+1)↔z∈xs/\z.id≠x.id:=by
 constructor
 .intro b;refine⟨(ma xs i).subset b,λe=>?_⟩;obtain b|b:=zzo.1 b
  .obtain⟨j,a⟩:=zzB.1 b;rw[List.getElem?_take]at a;split at a
   .have:=h.ne c a e.symm;omega
   .cases a
  .obtain⟨j,a⟩:=zzB.1 b;rw[List.getElem?_drop]at a;have:=h.ne c a e.symm;omega
 .rintro⟨b,hne⟩;have⟨j,a⟩:=zzB.1 b;obtain l|l|l:=Nat.lt_trichotomy j i
  .exact List.mem_append_left _<|zzh<|by rw[List.getElem?_take,oo l];exact a
  .grind
  .exact EL _<|zzh<|by rw[List.getElem?_drop];rw[show i+1+(j-(i+1))=j from dp];exact a
theorem set_drop:(xs.set i y).take i++(xs.set i y).drop (i+1)=xs.take i++xs.drop (i+1):=by
 rw[List.take_set_of_le<|zzc i,List.drop_set_of_lt<|Nat.lt_succ_self i]
section
variable{L L':Nat->Nat}{c:bL}{R:aP}
theorem cV.keys(h:cV L c R):(R.ai.map (·.id)).Perm (c.aD.map (·.1)):=by
 have n:(R.ai.map (·.id)).Nodup:=by
  unfold List.Nodup;rw[zv];exact h.oL.imp λZ=>dp
 rw[List.perm_ext_iff_of_nodup n<|Py h.o1];intro t;constructor
 .intro ht;obtain⟨x,hx,rfl⟩:=zzq.1 ht;have⟨T,a,_⟩:=h.Mn x hx;exact zzq.2 ⟨_,eO a,rfl⟩
 .intro ht;obtain⟨p,hp,rfl⟩:=zzq.1 ht;have:=jR h.o1 hp;cases hx:aO R.ai p.1 with
  |none=>rw[h.non _ hx]at this;cases this
  |some x=>exact zzq.2 ⟨x,(bh hx).1,(bh hx).2⟩
theorem cV.Mo(h:cV L c R):c.aD.length=R.ai.length:=by simpa using h.keys.length_eq.symm
theorem cV.jO(h:cV L c R):jO c.aD=R.ai.map (·.id):=by
 refine(tj h.keys ?_).symm;rw[zv];exact h.oL.imp λZ=>dp
theorem cV.AR(h:cV L c R){t:Nat}(hn:aO R.ai t=none):c.tx t=OS:=by unfold bL.tx;rw[h.non t hn];rfl
theorem cV.ib(h:cV L c R){t:Nat}{x:aK}(hx:aO R.ai t=some x):Ga c.bw (L t) (c.tx t) x/\bJ c.aD t=some (c.tx t):=by
 obtain⟨m,rfl⟩:=bh hx;have⟨T,a,i⟩:=h.Mn x m;unfold bL.tx;rw[a];exact⟨i,rfl⟩
theorem cV.status(h:cV L c R)(t:Nat):(c.tx t).state=((aO R.ai t).map aK.st).getD 0:=by
 cases hx:aO R.ai t with
 |none=>rw[h.AR hx];rfl
 |some x=>exact(h.ib hx).1.st
theorem cV.fL(h:cV L c R){i:Nat}{x y:aK}(b:R.ai[i]?=some x)(m:∀t,t≠x.id->L' t=L t)(e:y.id=x.id){ts:List (Nat×fQ)}(a:fM ts)(s:∀x∈ts,x.2.since<=c.bw){T:fQ}(f:∀t,bJ ts t=if t=x.id then some T else bJ c.aD t)(r:Ga c.bw (L' x.id) T y)(q:y.Ok){res:List (Nat×Nat)}{o g:List (Nat×Nat×Nat)}(p:o=g):
  cV L' {c with aD:=ts,res:=res,out:=o} {R with ai:=R.ai.set i y,res:=res,out:=g}:=by
 refine⟨h.oL.set b e,λz d=>?_,λt hn=>?_,λz d=>?_,by simpa using h.len,a,s,h.next,rfl,p⟩
 .simp only;rw[f];obtain rfl|⟨a,h2⟩:=mem_set h.oL b d
  .grind
  .rw[mE h2,m _ h2];exact h.Mn z a
 .simp only;rw[f];have a:=dh.1 hn y<|N9 b;rw[mE dp];refine h.non t<|dh.2 λz d k=>?_;have⟨j,n⟩:=zzB.1 d;by_cases l:i=j
  .grind
  .exact dh.1 hn z (zzh<|by simp only;rw[List.getElem?_set_ne l];exact n) k
 .rcases mem_set h.oL b d with rfl|⟨a,h2⟩
  .exact⟨q,by rw[e];exact(h.ok x<|zzh b).2⟩
  .exact h.ok z a
theorem cV.Cl(h:cV L c R){i:Nat}{x y:aK}(f:R.ai[i]?=some x)(e:y.id=x.id){T:fQ}(d:Ga c.bw (L x.id) T y)(s:T.since<=c.bw)(j:y.Ok){res:List (Nat×Nat)}{o b:List (Nat×Nat×Nat)}(g:o=b):
  cV L {c with aD:=dt c.aD x.id T,res:=res,out:=o} {R with ai:=R.ai.set i y,res:=res,out:=b}:=
 h.fL f (λ_ _=>rfl) e (h.o1.put _ _) (λz a=>by
  obtain rfl|a:=zzj.1 a
  .exact s
  .exact h.sin z (zzp.1 a).1) (λt=>kc) d j g
theorem cV.Gb(h:cV L c R){i:Nat}{x:aK}(b:R.ai[i]?=some x)(g:∀t,t≠x.id->L' t=L t){res:List (Nat×Nat)}{o d:List (Nat×Nat×Nat)}(j:o=d):
  cV L' {c with aD:=dU c.aD x.id,res:=res,out:=o} {R with ai:=R.ai.take i++R.ai.drop (i+1),res:=res,out:=d}:=by
 refine⟨h.oL.sublist<|ma _ _,λz a=>?_,λt k=>?_,λz a=>h.ok z<|(ma _ _).subset a,zzk (ma _ _).length_le h.len,h.o1.del _,λz a=>h.sin z (zzp.1 a).1,h.next,rfl,j⟩
 .simp only;have:=(oP h.oL b).1 a;rw[js,mE this.2,g _ this.2];exact h.Mn z this.1
 .simp only;rw[js];by_cases e:t=x.id
  .grind
  .rw[mE e];refine h.non t<|dh.2 λz a f=>?_;exact dh.1 k z ((oP h.oL b).2 ⟨a,dp⟩) f
theorem cV.outs(h:cV L c R){o a:List (Nat×Nat×Nat)}(b:o=a):cV L {c with out:=o} {R with out:=a}:=⟨h.oL,h.Mn,h.non,h.ok,h.len,h.o1,h.sin,h.next,h.res,b⟩
end
theorem BJ(f:α->List Value):∀{xs:List α} {i:Nat} {x x':α},xs[i]?=some x->f x'=f x->(xs.set i x').flatMap f=xs.flatMap f
 |[],i,x,x',h,_=>by simp at h
 |y::ys,0,x,x',h,hf=>by
  simp at h;subst h;rw[List.set_cons_zero,List.flatMap_cons,List.flatMap_cons,hf]
 |y::ys,i+1,x,x',h,hf=>by
  simp at h;rw[List.set_cons_succ,List.flatMap_cons,List.flatMap_cons,BJ f h hf]
theorem uZ{β:Type}(f:α->β){xs:List α}{x x':α}(h:xs[i]?=some x)(hf:f x'=f x):(xs.set i x').map f=xs.map f:=by
 rw[List.map_set];apply List.ext_getElem?;intro m;rw[List.getElem?_set];split
 .grind
 .rfl
section
variable [Inhabited Bs]{w w2:nL}{E:Nat}{I O J:Value}{ps:List (aK × Value)}{R:aP}
omit [Inhabited Bs] in
theorem TQ{i:Nat}{p q:aK×Value}(hp:ps[i]?=some p)(a:q.2.ownBlock=p.2.ownBlock){k:Nat}(h:k∈kb E I O J (ps.set i q)):k∈kb E I O J ps:=by grind[dC]
omit [Inhabited Bs] in
theorem D7(h:ps.Pairwise λp q=>p.2.ownBlock=none\/p.2.ownBlock≠q.2.ownBlock){i j:Nat}{p q:aK×Value}(hp:ps[i]?=some p)(d:ps[j]?=some q)(c:i≠j){g:Nat}(f:p.2.ownBlock=some g):q.2.ownBlock≠some g:=by
 obtain⟨a,rfl⟩:=zzd.1 hp;obtain⟨b,rfl⟩:=zzd.1 d;obtain l|l:=Nat.lt_or_gt_of_ne c
 .rcases DS.1 h i j a b l with e|e<;>grind
 .intro e2;obtain e|e:=DS.1 h j i b a l<;>grind
theorem bQ.LI(h:bQ w E I O J ps R){i j g c:Nat}{x x':aK}{v u:Value}(hx:I=.slice (some<|gi g) ps.length c)(hp:ps[i]?=some (x,v))(l:j<5)(hf:nQ (x',v)=(nQ (x,v)).set j u)(o:x'.parts=x.parts):
  bQ (w.setCell (hP g<|i*5+j) u) E I O J (ps.set i (x',v)) {R with ai:=R.ai.set i x'}/\fo (kb E I O J ps) (kb E I O J<|ps.set i (x',v)) w (w.setCell (hP g<|i*5+j) u):=by
 have K:=h.kF;rw[hx]at K;have⟨r,d⟩:=aL K rfl;refine⟨{base:=h.base,blk:=?_,kF:=?_,prt:=λp m=>?_,apart:=?_,res:=aN h.res d du,out:=aN h.out d du,rs:=?_},⟨Fr.cG (dC.2<|.inr<|.inl<|by rw[hx];rfl) _ _,λk n _=>TQ hp (by rfl) n⟩⟩
 .refine(wg _ _ _ E ?_).trans h.blk;intro e;simp only[]at e;have:=h.blk;rw[e,d]at this;cases this
 .rw[List.length_set,hx];have:=ph (j:=i*5+j) (u:=u) K;have e:=sT (f:=nQ) (k:=5) (λ_=>rfl) ps i j (x,v) (x',v) u hp l hf;unfold dO at this ⊢;rw[e];exact this
 .rcases List.mem_or_eq_of_mem_set m with m|rfl
  .exact aN (h.prt p m) d du
  .have:=aN (u:=u) (i:=i*5+j) (h.prt (x,v)<|zzh hp) d du;simp only[o];exact this
 .have h2:(ps.map (·.2)).Pairwise λa b=>a.ownBlock=none\/a.ownBlock≠b.ownBlock:=by rw[zv];exact h.apart
  rw[<-uZ (·.2) hp (x':=(x',v)) rfl,zv]at h2;exact h2
 .rw[List.map_set,h.rs]
theorem bQ.afs(h:bQ w E I O J ps R){i g c:Nat}{x x':aK}{v v2:Value}(hx:I=.slice (some<|gi g) ps.length c)(hp:ps[i]?=some (x,v))(hf:Fr v.ownBlock.toList w w2)(X:w2.ownsRow B0 162 3 v2 x'.parts.length<|fP x'.parts)(P:v2.ownBlock=v.ownBlock\/∃z,v2.ownBlock=some z/\w.heap.size<=z)(B:nQ (x',v2)=(nQ (x,v)).set 3 v2):
  bQ (w2.setCell (hP g<|i*5+3) v2) E I O J (ps.set i (x',v2)) {R with ai:=R.ai.set i x'}/\fo (kb E I O J ps) (kb E I O J<|ps.set i (x',v2)) w (w2.setCell (hP g<|i*5+3) v2):=by
 have V:=(zzd.1 hp).1;have K:=h.kF;rw[hx]at K;have⟨A,r⟩:=aL K rfl;have t:=h.prt _<|zzh hp;have o:∀{e:TypeId} {size n:Nat} {u:Value} {M:List Value},e≠162->w.ownsRow B0 e size u n M->∀q,u.ownBlock=some q->q∉v.ownBlock.toList:=by grind[cP]
 have C:=o du K g rfl;have T:=(hf.block g (zza.1 r).1 C).trans r;have y:E∉v.ownBlock.toList:=λm=>aQ t h.blk du<|by simpa using m
 have L:=ar K hf (o du K);have Z:∀(j:Nat) (q:aK×Value),ps[j]?=some q->i≠j->∀z,q.2.ownBlock=some z->v.ownBlock≠some z:=λj q F D z l e=>D7 h.apart F hp (λe=>D e.symm) l e
 refine⟨{base:=h.base,blk:=?_,kF:=?_,prt:=λp m=>?_,apart:=?_,res:=aN (ar h.res hf<|o du h.res) T du,out:=aN (ar h.out hf<|o du h.out) T du,rs:=?_},⟨?_,λk s W=>?_⟩⟩
 .refine(wg _ _ _ E ?_).trans<|(hf.block E (zza.1 h.blk).1 y).trans h.blk;intro e;simp only[]at e;have:=h.blk;rw[e,r]at this
  cases this
 .rw[List.length_set,hx];have:=ph (j:=i*5+3) (u:=v2) L;have e:=sT (k:=5) (λ_=>rfl) ps i 3 (x,v) (x',v2) v2 hp (by decide) B;unfold dO at this ⊢;rw[e];exact this
 .obtain⟨j,d⟩:=zzB.1 m;rw[List.getElem?_set]at d;split at d
  .grind [aN]
  .rename_i em;exact aN (ar (h.prt p<|zzh d) hf λz l m=>Z j p d em z l<|by simpa using m) T du
 .rw[DS];intro a b S hb G;have H:a<ps.length:=by grind
  have U:b<ps.length:=by grind
  have Q:=DS.1 h.apart a b H U G;have lt:∀(j:Nat) (d:j<ps.length) z,(ps[j]).2.ownBlock=some z->z<(nF w):=λj d z l=>((h.prt _<|List.getElem_mem d).lt z l).2
  rw[List.getElem_set,List.getElem_set];by_cases N:i=a<;>grind
 .rw[List.map_set,h.rs]
 .refine(hf.mono λk _ s=>dC.2<|.inr<|.inr<|.inr<|.inr ⟨_,zzh hp,by simpa using s⟩).trans<|Fr.cG (dC.2<|.inr<|.inl<|by rw[hx];rfl) _ _
 .grind [dC]
abbrev aK.pt(x:aK)(l:List aU):aK:=⟨x.id,x.st,x.gH,l,x.aS⟩
theorem bQ.TS(h:bQ w E I O J ps R){i kx j g c:Nat}{x:aK}{l l':aU}{u:Value}(hp:ps[i]?=some (x,.slice (some<|gi g) x.parts.length c))(m:x.parts[kx]?=some l)(n:j<3)(hf:sM l'=(sM l).set j u):
  bQ (w.setCell (hP g<|kx*3+j) u) E I O J (ps.set i (x.pt<|x.parts.set kx l',.slice (some<|gi g) x.parts.length c)) {R with ai:=R.ai.set i (x.pt<|x.parts.set kx l')}/\fo (kb E I O J ps) (kb E I O J<|ps.set i (x.pt<|x.parts.set kx l',.slice (some<|gi g) x.parts.length c)) w (w.setCell (hP g<|kx*3+j) u):=by
 have v:i<ps.length:=(zzd.1 hp).1;have T:=h.prt _<|zzh hp;simp only[]at T;obtain⟨t,d⟩:=aL T (g:=g) rfl;refine⟨{base:=h.base,blk:=?_,kF:=?_,prt:=λp r=>?_,apart:=?_,res:=aN h.res d (by decide),out:=aN h.out d (by decide),rs:=?_},⟨Fr.cG (dC.2<|.inr<|.inr<|.inr<|.inr ⟨_,zzh hp,rfl⟩) _ _,λk m _=>TQ hp (by rfl) m⟩⟩
 .refine(wg _ _ _ E ?_).trans h.blk;intro e;simp only[]at e;have:=h.blk;rw[e,d]at this
  cases this
 .rw[List.length_set];unfold dO;rw[BJ nQ (x':=(x.pt<|x.parts.set kx l',.slice (some ⟨g,0,none⟩) x.parts.length c)) hp rfl];exact aN h.kF d du
 .obtain⟨q,hq⟩:=zzB.1 r;rw[List.getElem?_set]at hq;split at hq
  .rename_i em;subst em
   cases hq;have:=ph (j:=kx*3+j) (u:=u) T;have e:=sT (f:=sM) (k:=3) (λ_=>rfl) x.parts kx j l l' u m n hf;show(w.setCell _ _).ownsRow B0 _ 3 _ (x.parts.set kx l').length (fP<|x.parts.set kx l');rw[List.length_set];unfold fP at this ⊢;rw[e];exact this
  .rename_i em;have o:=h.prt p<|zzh hq;refine ar o (Fr.cG (S:=[g]) (by simp) _ _) λz s Z=>?_
   simp at Z;subst Z;exact D7 h.apart hp hq em rfl s
 .have h2:(ps.map (·.2)).Pairwise λa b=>a.ownBlock=none\/a.ownBlock≠b.ownBlock:=by rw[zv];exact h.apart
  rw[<-uZ (·.2) hp (x':=(x.pt<|x.parts.set kx l',.slice (some ⟨g,0,none⟩) x.parts.length c)) rfl,zv]at h2;exact h2
 .rw[List.map_set,h.rs]
end
theorem QG(st:Nat):fB st []=[0,0,0,0,0,0,0,0,0]:=rfl
section
variable{L:Nat->Nat}{c:bL}{R:aP}
theorem fJ.begin(h:fJ c R)(hn:c.next=R.next)(l:R.ai.length<12)(lim:Nat):fJ {c with aH:=lim,next:=c.next+1,aD:=dt c.aD c.next ⟨4,[0,0,0,0,0,0,0,0,0],0,0⟩} {R with ai:=R.ai++[⟨R.next,4,0,[],false⟩],next:=R.next+1}:=by
 have j:∀x∈R.ai,x.id≠c.next:=λx hx e=>by have:=(h.ok x hx).2;rw[hn]at e;omega
 refine⟨?_,λx hx=>?_,λt k=>?_,λx hx=>?_,ef,h.o1.put _ _,λz d=>?_,by simp[hn],h.res,h.out⟩
 .exact List.pairwise_append.2 ⟨h.oL,dv,λa i b hb=>by
   simp at hb;subst hb;exact(h.ok a i).2⟩
 .simp only;rw[kc];obtain hx|hx:=zzo.1 hx
  .rw[mE<|j x hx];exact h.Mn x hx
  .simp at hx;subst hx;rw[oo hn.symm];exact⟨_,rfl,rfl,(F9 (show(4:Nat)≠6 by decide) _).trans (QG 4).symm,(λe=>by cases e),dv⟩
 .simp only;rw[kc];have f:=dh.1 k;have g:=f ⟨R.next,4,0,[],false⟩ dv;rw[mE<|by rw[hn];exact λe=>g e.symm];exact h.non t<|dh.2 λz d=>f z<|by simp[d]
 .rcases zzo.1 hx with hx|hx
  .have:=h.ok x hx;exact⟨this.1,by have:=this.2;simp only;omega⟩
  .simp at hx;subst hx;exact⟨⟨.inl rfl,⟨List.Pairwise.nil,dv⟩,λ_=>rfl,(λe=>by cases e),(λe=>by cases e),(λe=>by cases e),(λe=>by cases e)⟩,by simp only;omega⟩
 .rcases zzj.1 d with rfl|d
  .grind
  .exact h.sin z (zzp.1 d).1
theorem Js{xs:List Nat}(r:j_ xs):xH (fc xs):=by
 refine⟨?_,λp hp=>?_⟩
 .unfold fc;rw[zv];exact r.up
 .unfold fc at hp;obtain⟨x,hx,rfl⟩:=zzq.1 hp;exact r.b x hx
theorem Jt{xs:List Nat}(r:j_ xs):bV nk (cO xs 1)=xs:=by
 rw[xI λx hx=>(r.b x hx).2,kj du<|Js r];unfold fc;rw[List.filter_map,List.map_map];have:(List.filter ((λp:aU=>nk<|aU.code 5 p)∘λx=>({cH:=x,aZ:=0,left:=false}:aU)) xs)=xs:=List.filter_eq_self.2 λx _=>rfl
 rw[this];exact List.map_id' xs
theorem fJ.iu(h:fJ c R){t:Nat}{x:aK}(hx:aO R.ai t=some x)(a:x.st=4){xs:List Nat}(r:j_ xs):fJ (c.asked t xs) (R.iu t xs):=by
 have⟨i,f,b,d⟩:=fg hx;have Z:=(h.ok x<|zzh b).1;have e:R.iu t xs={R with ai:=R.ai.set i ⟨x.id,5,0,x.parts++fc xs,x.aS⟩,out:=R.out++xs.map λk=>(t,k,1)}:=by grind[aP.iu]
 rw[e];subst d;have:=h.Cl (y:=⟨x.id,5,0,x.parts++fc xs,x.aS⟩) (T:=⟨5,cO xs 1,c.bw,0⟩) (res:=R.res) b rfl ⟨rfl,by rw[Z.act a];exact(F9 (show(5:Nat)≠6 by decide) _).trans (xI (λx hx=>(r.b x hx).2)),(λ_ _=>rfl),by simp[Z.nod (show x.st≠5 by omega)]⟩ (zzc _) ⟨.inr (.inl rfl),by rw[Z.act a];exact Js r,(λe=>by cases e),(λ_=>⟨Nat.zero_lt_succ 7,λp hp=>by
  rw[Z.act a]at hp;unfold fc at hp;obtain⟨y,g,rfl⟩:=zzq.1 hp;exact⟨.inl rfl,rfl⟩⟩),(λe=>by cases e),(λ_=>by rw[Z.act a,List.nil_append];unfold fc;simpa using r.ne),(λ_=>rfl)⟩ (show c.out++(bV nk (cO xs 1)).map (λk=>(x.id,k,1))=R.out++xs.map λk=>(x.id,k,1) by rw[Jt r,h.out])
 unfold bL.asked;rw[h.res];exact this
theorem Cm{st:Nat}{p:aU}(s:st≠6):p.code st=if p.aZ=0 then 1 else p.aZ:=by grind[aU.code]
theorem Ju{st:Nat}{ps:List aU}(s:st≠6)(v:∀p∈ps,p.aZ≠1):(ps.filter λp=>zW<|p.code st)=ps.filter uY:=by
 refine List.filter_congr λp hp=>?_
 have:=v p hp;rw[Cm s];unfold zW uY;by_cases h:p.aZ=0
 .simp[h]
 .grind
theorem aK.Ok.aaa{x:aK}(h:x.Ok)(a:x.st≠6):∀p∈x.parts,p.aZ=0\/p.aZ=2\/p.aZ=4:=λp hp=>by
 obtain e|e|e:=h.st
 .rw[h.act e]at hp;cases hp
 .exact((h.vot e).2 p hp).1
 .grind
theorem ad9{t:Nat}{x:aK}(h:x.Ok)(a:x.st≠6):((bV zW<|fB x.st x.parts).map λk=>(t,k,6))=iF t x.parts:=by
 rw[kj du h.up,Ju a λp hp=>by have:=h.aaa a p hp;omega];unfold iF;rw[List.map_map];rfl
theorem fJ.kg(h:fJ c R)(t:Nat):R.kg t=if (c.tx t).state=0 then 7 else if (c.tx t).state=6 then 4 else 0:=by
 rw[h.status];unfold aP.kg;cases hx:aO R.ai t with
 |none=>rfl
 |some x=>
  have:=(h.ok x (bh hx).1).1.st;simp only[Option.map_some,Option.getD_some];rw[mE<|show ¬x.st=0 by omega]
theorem Cn(h:cV L c R){L':Nat->Nat}{i:Nat}{x:aK}(a:R.ai[i]?=some x)(d:∀t,t≠x.id->L' t=L t)(b:x.st≠6):cV L' (c.kX x.id) {R with ai:=R.ai.take i++R.ai.drop (i+1),res:=R.res++[(x.id,6)],out:=R.out++iF x.id x.parts}:=by
 have Z:=(h.ok x<|zzh a).1;have K:=h.ib<|h.oL.at<|zzh a;have:=h.Gb (res:=R.res++[(x.id,6)]) a d (show c.out++(bV zW (c.tx x.id).parts).map (λk=>(x.id,k,6))=R.out++iF x.id x.parts by rw[K.1.pv b,ad9 Z b,h.out]);unfold bL.kX;rw[h.res];exact this
theorem aP.Jv{t:Nat}(h:R.kg t≠0):R.abort t=R:=by grind[aP.abort,aO,jF,fg,aP.kg]
theorem fJ.abort(h:fJ c R){t:Nat}(a:R.kg t=0):fJ (c.kX t) (R.abort t):=by
 unfold aP.abort;cases hx:aO R.ai t with
 |none=>grind[aP.kg]
 |some x=>
  have⟨i,f,b,g⟩:=fg hx;unfold aP.kg at a;rw[hx]at a;rw[f];show fJ _ (match R.ai[i]? with|none=>R|some x=>_);rw[b];show fJ _ (if x.st=6 then R else _);have d:x.st≠6:=λe=>by simp[e]at a
  rw[mE d];subst g;exact Cn h b (λ_ _=>rfl) d
end
theorem vW(hp:T.parts.map (tr st)=fB st ps)(h:k<9):tr st (partAt T (k:Int))=((dW ps k).map<|aU.code st).getD 0:=by
 unfold partAt;rw[oo dp,Int.toNat_natCast,<-F_,hp,qp h]
theorem Co(hp:T.parts.map (tr st)=fB st ps)(h:tr st (partAt T z)≠0):∃k p,z=((k:Nat):Int)/\k<9/\dW ps k=some p/\tr st (partAt T z)=p.code st:=by
 have b:0<=z/\z<9:=by grind[partAt,tr]
 obtain⟨k,rfl⟩:∃k:Nat,z=(k:Int):=⟨z.toNat,dp⟩;have a:k<9:=dp
 rw[vW hp a]at h ⊢;cases q:dW ps k with
 |none=>grind
 |some p=>grind
section
variable{c:bL}{R:aP}
theorem Cp{st:Nat}{p:aU}(v:p.aZ=0\/p.aZ=2\/p.aZ=4):p.code st=1↔p.aZ=0:=by grind[aU.code]
theorem fJ.ad_(h:fJ c R){t:Nat}{z:Int}(a:partAt (c.tx t) z=1):∃x,aO R.ai t=some x/\x.st=5/\∃k p,z=((k:Nat):Int)/\k<9/\dW x.parts k=some p/\p.aZ=0:=by
 cases hx:aO R.ai t with
 |none=>
  rw[h.AR hx]at a;unfold partAt at a;split at a
  .rename_i d;obtain⟨k,rfl⟩:∃k:Nat,z=(k:Int):=⟨z.toNat,dp⟩;have:k=0\/k=1\/k=2\/k=3\/k=4\/k=5\/k=6\/k=7\/k=8:=dp
   obtain rfl|rfl|rfl|rfl|rfl|rfl|rfl|rfl|rfl:=this<;>exact absurd a du
  .cases a
 |some x=>
  have⟨i,_⟩:=h.ib hx;have Z:=(h.ok x (bh hx).1).1;have a:tr x.st (partAt (c.tx t) z)=1:=by grind[tr]
  obtain⟨k,p,d,g,hp,f⟩:=Co i.ps (z:=z) (by omega);rw[f]at a;have m:=(e_ hp).1;refine⟨x,rfl,?_,k,p,d,g,hp,?_⟩
  .rcases Z.st with e|e|e
   .rw[Z.act e]at m;cases m
   .exact e
   .have:=((Z.N8 e).1 p m).1;have:=(Cp dp).1 a;omega
  .by_cases b:x.st=6
   .have:=((Z.N8 b).1 p m).1;exact(Cp dp).1 a
   .exact(Cp<|Z.aaa b p m).1 a
theorem Jw{x:aK}(Z:x.Ok){T:fQ}(b:T.parts.map (tr x.st)=fB x.st x.parts){z:Int}(c:partAt T z≠1):x.parts.any (jQ z)=false:=by
 rw[List.any_eq_false];intro p hp;unfold jQ;simp;intro e a;have hb:=Z.up.b p hp;subst e;have h:=vW b (k:=p.cH) (by omega);rw[Z.up.for hp]at h;exact c<|N7 (h.trans<|by simp[aU.code,a]) du
theorem fJ.Fm(h:fJ c R){t:Nat}{z v:Int}(d:partAt (c.tx t) z≠1):R.aZ t z v=R:=by
 unfold aP.aZ;cases hx:aO R.ai t with
 |none=>rw[jF hx]
 |some x=>
  have⟨i,a,b,e⟩:=fg hx;rw[a];show(match R.ai[i]? with|none=>R|some x=>_)=_;rw[b];show(if _ then _ else R)=_;split
  .unfold aP.jV;rw[Jw (h.ok x (bh hx).1).1 (h.ib hx).1.ps d];rfl
  .rfl
theorem aP.Lx{t:Nat}{z v:Int}(h:v≠2)(a:v≠3)(b:v≠4):R.aZ t z v=R:=by grind[aP.aZ]
theorem zF(z:Int)(v:Nat)(p:aU):(cN z v p).cH=p.cH:=by grind[cN]
theorem tv(p:aU):(gm p).cH=p.cH:=by grind[gm]
theorem zG(z:Int)(p:aU):(dw z p).cH=p.cH:=by grind[dw]
theorem Mq{x:aK}{k v:Nat}{p:aU}(hp:dW x.parts k=some p)(h:p.aZ=0)(a:v=2\/v=3\/v=4):(fB 5 x.parts).set k v=fB 5 (x.parts.map<|cN (k:Int) v):=by
 refine Eu (zF _ _) hp ?_ λy b e=>?_
 .unfold cN;rw[oo ⟨by rw[(e_ hp).2],h⟩,Cm du];simp only;rw[mE dp]
 .grind [cN]
theorem Jy{x:aK}{k:Nat}{p:aU}(hp:dW x.parts k=some p)(h:p.aZ=0):x.parts.any (jQ (k:Int))=true:=by
 rw[List.any_eq_true];exact⟨p,(e_ hp).1,by unfold jQ;simp[(e_ hp).2,h]⟩
theorem Vm{ps:List aU}{z:Int}{v:Nat}{q:aU}(h:q∈ps.map (cN z v)):∃p∈ps,q.cH=p.cH/\q.left=p.left/\(q.aZ=p.aZ\/q.aZ=v):=by grind[cN]
theorem YN{t:Nat}{x:aK}(hx:aO R.ai t=some x)(h:x.st=5){z:Int}{v:Nat}(a:v=2\/v=3\/v=4):∃i,R.ai[i]?=some x/\R.aZ t z (v:Int)=R.jV i x z v t:=by grind[fg,aP.aZ]
theorem YO{ps:List aU}(h:xH ps)(v:∀p∈ps,p.aZ≠1):(fB 5 ps).any nk=ps.any rQ:=by grind[uw,Cm,nk,rQ]
theorem Vn{ps:List aU}(z:∀q∈ps,q.aZ=2\/q.aZ=4):(fB 5 ps).map (tr 6)=fB 6 (ps.map gm):=by
 refine ux (by simp[qt]) λk h=>?_
 rw[F_,qp h,tu tv];cases hp:dW ps k with
 |none=>simp[tr]
 |some p=>grind[e_,gm,aU.code,tr]
theorem fJ.aZ(h:fJ c R){t:Nat}{x:aK}(hx:aO R.ai t=some x)(f:x.st=5)(B:x.aS=false){k v:Nat}{p:aU}(hp:dW x.parts k=some p)(s:p.aZ=0)(D:v=2\/v=3\/v=4):
  (v=3->fJ (c.yq t k) (R.aZ t (k:Int) (v:Int))/\aO (R.aZ t (k:Int) (v:Int)).ai t=none) /\
  (v≠3->((c.tx t).parts.set k v).any nk=true->fJ {c with aD:=dt c.aD t {c.tx t with parts:=(c.tx t).parts.set k v}} (R.aZ t (k:Int) (v:Int))/\((aO (R.aZ t (k:Int) (v:Int)).ai t).map aK.st)=some 5) /\
  (v≠3->((c.tx t).parts.set k v).any nk=false->((c.tx t).parts.set k v).any fG=false->fJ {c with aD:=dU c.aD t,res:=c.res++[(t,5)]} (R.aZ t (k:Int) (v:Int))/\aO (R.aZ t (k:Int) (v:Int)).ai t=none) /\
  (v≠3->((c.tx t).parts.set k v).any nk=false->((c.tx t).parts.set k v).any fG=true->fJ (c.comm t {c.tx t with parts:=(c.tx t).parts.set k v,state:=6}) (R.aZ t (k:Int) (v:Int))/\((aO (R.aZ t (k:Int) (v:Int)).ai t).map aK.st)=some 6):=by
 obtain⟨i,g,e⟩:=YN hx f D;obtain⟨l,L⟩:=h.ib hx;have Z:=(h.ok x (bh hx).1).1;obtain rfl:x.id=t:=(bh hx).2;have w:=Mq hp s D;have X:=(Z.vot f).2;have G:=l.pv dp;rw[f]at G;rw[e,G,w];have⟨a,C⟩:=gb <|x.parts.map (cN (k:Int) v);have A:xH a:=by rw[C];exact Z.up.map<|zF _ _
 have P:∀q∈a,(q.aZ=0\/q.aZ=2\/q.aZ=4\/q.aZ=v)/\q.left=false:=λq b=>by
  rw[C]at b;have⟨y,d,_,o,J⟩:=Vm b;have:=X y d;exact⟨dp,by rw[o];exact this.2⟩
 have E:∀q∈a,q.aZ≠1:=λq b=>by have:=(P q b).1;omega
 have K:=Jy hp s;rw[<-C,YO A E];have V:(c.tx x.id).since<=c.bw:=h.sin _<|eO L;have F:=l.gH f B;unfold aP.jV;rw[K,<-C];simp only[Bool.true_eq_false,if_false];have gone:=dh.2 λz m=>by exact((oP h.oL g).1 m).2
 have got:∀y:aK,y.id=x.id->aO (R.ai.set i y) x.id=some y:=λy d=>by
  have:=(h.oL.set g d).at<|N9 g;rw[d]at this;exact this
 refine⟨λr=>?_,λn j=>?_,λn j d=>?_,λn j d=>?_⟩
 .rw[oo r];unfold aP.l8 aP.setAt;simp only;rw[set_drop];refine⟨?_,gone⟩;have:=h.Gb (L':=λ_=>0) (res:=R.res++[(x.id,6)]) g (λ_ _=>rfl) (show c.out++(bV zW (fB 5 a)).map (λk=>(x.id,k,6))=R.out++iF x.id a by
   rw[kj du A,Ju du E,h.out];unfold iF;rw[List.map_map];rfl)
  unfold bL.yq;subst r;rw[G,w,<-C,h.res];exact this
 .rw[mE n,j,oo rfl];unfold aP.setAt;simp only;refine⟨?_,by rw[got {x with parts:=a} rfl];exact congrArg some f⟩;have:=h.Cl (y:={x with parts:=a}) (T:={c.tx x.id with parts:=fB 5 a}) (res:=R.res) g rfl ⟨l.st,by rw[f];exact F9 (show(5:Nat)≠6 by decide) _,(λ_ _=>F),l.Ck⟩ V ⟨Z.st,A,(λe=>by simp only at e;omega),(λ_=>⟨(Z.vot f).1,λq b=>by have:=P q b;exact⟨dp,this.2⟩⟩),(λe=>by simp only at e;omega),(λ_=>by rw[C];simpa using Z.ne f),Z.Ck⟩ h.out;rw[h.res];exact this
 .rw[mE n,j];have Y:a.any uy=false:=by grind[uw,Cm,uy,fG]
  rw[Y];simp only[Bool.false_eq_true,if_false,if_true];refine⟨?_,gone⟩;have:=h.Gb (L':=λ_=>0) (res:=R.res++[(x.id,5)]) g (λ_ _=>rfl) h.out;rw[h.res];exact this
 .rw[mE n,j];have Y:a.any uy=true:=by grind[uw,Cm,fG,uy,rQ]
  rw[Y];simp only[Bool.false_eq_true,if_false,Bool.true_eq_false];have m:∀q∈a,q.aZ=2\/q.aZ=4:=λq b=>by
   have u:=(P q b).1;have o:=List.any_eq_false.1 j q b;unfold rQ at o;have J:¬q.aZ=0:=λI=>o<|by simp[I]
   omega
  refine⟨?_,by rw[got ⟨x.id,6,x.gH,a.map gm,x.aS⟩ rfl];rfl⟩;have H:=A.map tv
  have:=h.Cl (y:=⟨x.id,6,x.gH,a.map gm,x.aS⟩) (T:={c.tx x.id with parts:=fB 5 a,state:=6}) (res:=R.res++[(x.id,5)]) g rfl ⟨rfl,Vn m,(λe=>by cases e),l.Ck⟩ V ⟨.inr (.inr rfl),H,(λe=>by cases e),(λe=>by cases e),λ_=>⟨λq b=>by
   obtain⟨y,d,rfl⟩:=zzq.1 b;have u:=(P y d).2;obtain e|e:=m y d<;>simp[gm,e,u],by
   rw[List.any_eq_true]at Y ⊢;have⟨q,b,d⟩:=Y;unfold uy at d;simp at d;exact⟨gm q,zzq.2 ⟨q,b,rfl⟩,by simp[gm,d]⟩⟩,(λe=>by cases e),(λe=>by rw[show x.aS=false from B]at e;cases e)⟩ (show c.out++(bV kE (fB 5 a)).map (λk=>(x.id,k,5))=R.out++eB uy x.id 5 a by
   rw[kj du A,h.out];unfold eB;rw[List.map_map];congr 1;have:(a.filter λp=>kE<|p.code 5)=a.filter uy:=List.filter_congr λq b=>by
    obtain e|e:=m q b<;>simp[kE,uy,aU.code,e]
   rw[this];rfl)
  unfold bL.comm;rw[h.res];exact this
end
section
variable{c:bL}{R:aP}
theorem yP{x:aK}(Z:x.Ok)(h:x.st=6){p:aU}(hp:p∈x.parts):p.code 6=2↔p.left=true:=by
 have:=(Z.N8 h).1 p hp;unfold aU.code;obtain e|e:=this.1<;>grind
theorem tz{t:Nat}{x:aK}{z:Int}(hx:aO R.ai t=some x):R.l_ t z=(decide (x.st=6)&&!((x.parts.map<|dw z).any (·.left))):=by grind[aP.l_]
theorem Gc{t:Nat}{x:aK}{z:Int}(hx:aO R.ai t=some x):∃i,R.ai[i]?=some x/\R.done t z=if x.st=6 then (if (x.parts.map<|dw z).any (·.left)then R.setAt i {x with parts:=x.parts.map (dw z)}else R.without i)else R:=by grind[fg,aP.done]
theorem fJ.Av(h:fJ c R){t:Nat}{z:Int}(a:(c.tx t).state≠6):R.done t z=R/\R.l_ t z=false:=by
 rw[h.status]at a;cases hx:aO R.ai t with
 |none=>grind[aP.done,jF,aP.l_]
 |some x=>
  rw[hx]at a;simp at a;obtain⟨i,_,e⟩:=Gc (z:=z) hx;rw[e,mE a,tz hx];exact⟨rfl,by simp[a]⟩
theorem oQ{i:Nat}{x:aK}(h:R.ai[i]?=some x):R.setAt i x=R:=by
 unfold aP.setAt;have:R.ai.set i x=R.ai:=by
  refine List.ext_getElem? λj=>?_
  by_cases e:i=j<;>grind
 rw[this]
theorem fJ.Au(h:fJ c R){t:Nat}{z:Int}(a:(c.tx t).state=6)(hp:partAt (c.tx t) z≠2):R.done t z=R/\R.l_ t z=false:=by
 rw[h.status]at a;cases hx:aO R.ai t with
 |none=>grind
 |some x=>
  rw[hx]at a;simp at a;have Z:=(h.ok x (bh hx).1).1;have G:=(h.ib hx).1.ps;have same:x.parts.map (dw z)=x.parts:=by
   have:∀p∈x.parts,dw z p=p:=λp q=>by
    unfold dw;split
    .rename_i e;have hb:=Z.up.b p q;subst e;have b:=vW G (k:=p.cH) (by omega);rw[Z.up.for q]at b;simp only[Option.map_some,Option.getD_some]at b;rw[a]at b;have l:¬p.left=true:=λl=>hp<|N7 (b.trans<|(yP Z a q).2 l) du
     cases p;simp at l ⊢;exact l
    .rfl
   conv=>rhs;rw[<-List.map_id x.parts]
   exact List.map_congr_left this
  obtain⟨i,d,e⟩:=Gc (z:=z) hx;rw[e,oo a,tz hx,same,(Z.N8 a).2];exact⟨by rw[oo rfl];exact oQ d,dv⟩
theorem fJ.done(h:fJ c R){t:Nat}{z:Int}(a:(c.tx t).state=6)(hp:partAt (c.tx t) z=2):∃k:Nat,z=(k:Int)/\k<9/\(c.tx t).parts.getD k 0=2 /\
  (((c.tx t).parts.set k 5).any kE=true->R.l_ t z=false/\fJ {c with aD:=dt c.aD t {c.tx t with parts:=(c.tx t).parts.set k 5}} (R.done t z)) /\
  (((c.tx t).parts.set k 5).any kE=false->R.l_ t z=true/\fJ {c with aD:=dU c.aD t} (R.done t z)):=by
 have v:=a;rw[h.status]at a;cases hx:aO R.ai t with
 |none=>grind
 |some x=>
  rw[hx]at a;simp at a;have Z:=(h.ok x (bh hx).1).1;have⟨f,J⟩:=h.ib hx;have G:=f.ps;have l:tr x.st (partAt (c.tx t) z)=2:=by grind[tr]
  obtain⟨k,p,rfl,n,K,m⟩:=Co G (z:=z) (by omega);have o:(c.tx t).since<=c.bw:=h.sin _<|eO J;rw[a]at G m l;have s:p.code 6=2:=by grind
  have B:=(e_ K).1;have r:=(yP Z a B).1 s;have w:=((Z.N8 a).1 p B).2 r;obtain rfl:x.id=t:=(bh hx).2;have F:(fB 6 x.parts).set k 5=fB 6 (x.parts.map<|dw (k:Int)):=by grind[Eu,zG,dw,e_,aU.code]
  have⟨b,C⟩:=gb <|x.parts.map (dw (k:Int));have A:xH b:=by rw[C];exact Z.up.map<|zG _
  have P:∀q∈b,(q.aZ=2\/q.aZ=4)/\(q.left=true->q.aZ=2):=λq j=>by
   rw[C]at j;obtain⟨y,u,rfl⟩:=zzq.1 j;have:=(Z.N8 a).1 y u;unfold dw;split
   .grind
   .exact this
  have S:(fB 6 b).any kE=b.any (·.left):=by grind[uw,kE,aU.code]
  refine⟨k,rfl,n,?_,?_⟩
  .grind [partAt]
  .obtain⟨i,hi,e⟩:=Gc hx;have g:((c.tx x.id).parts.set k 5).map (tr 6)=fB 6 b:=by
    rw[List.map_set,G,show tr 6 5=5 from rfl,F,<-C]
   rw[e,oo a,tz hx,<-C,<-YM du du 6,g,S];refine⟨λd=>?_,λd=>?_⟩
   .rw[d,oo rfl];refine⟨dv,?_⟩;have:=h.Cl (y:={x with parts:=b}) (T:={c.tx x.id with parts:=(c.tx x.id).parts.set k 5}) (res:=R.res) hi rfl ⟨f.st,by rw[a];exact g,(λe=>by simp only at e;omega),f.Ck⟩ o ⟨Z.st,A,(λe=>by simp only at e;omega),(λe=>by simp only at e;omega),(λ_=>⟨P,d⟩),(λe=>by simp only at e;omega),Z.Ck⟩ h.out;rw[h.res];exact this
   .rw[d,mE dv];refine⟨by simp[a],?_⟩;have:=h.Gb (L':=λ_=>0) (res:=R.res) hi (λ_ _=>rfl) h.out;rw[h.res];exact this
theorem mV{t:Nat}{x:aK}(hx:aO R.ai t=some x):∃i,R.ai[i]?=some x/\R.aR t=if x.aS then R else if x.st=5 then (if x.gH+1=8 then (R.setAt i {x with gH:=x.gH+1}).l8 i {x with gH:=x.gH+1}else {R with ai:=R.ai.set i {x with gH:=x.gH+1},out:=R.out++eB rQ x.id 1 x.parts})
   else if x.st=6 then {R with out:=R.out++eB (·.left) x.id 5 x.parts}else R:=by grind[fg,aP.aR]
theorem Jz{L L':Nat->Nat}(h:cV L c R){t:Nat}{x:aK}(hx:aO R.ai t=some x)(A:∀s,s≠t->L' s=L s)(N:L t=1)(D:L' t=0):cV L' (c.aR (t,c.tx t)) (R.aR t)/\(∀s,s≠t->bJ (c.aR (t,c.tx t)).aD s=bJ c.aD s)/\(∀s,s≠t->aO (R.aR t).ai s=aO R.ai s):=by
 have Z:=(h.ok x (bh hx).1).1;have⟨b,J⟩:=h.ib hx;have⟨i,l,e⟩:=mV hx;obtain rfl:x.id=t:=(bh hx).2;have V:=h.sin _<|eO J;rw[e]
 have C:∀y:aK,y.id=x.id->∀s,s≠x.id->aO (R.ai.set i y) s=aO R.ai s:=λy m s f=>by
  cases d:aO R.ai s with
  |none=>grind[dh,mem_set]
  |some z=>
   obtain⟨r,rfl⟩:=bh d;apply(h.oL.set l m).at;have⟨j,o⟩:=zzB.1 r;have:i≠j:=λe=>by subst e;rw[l]at o;cases o;exact f rfl
   exact zzh (i:=j)<|by rw[List.getElem?_set_ne this];exact o
 have M:∀s,s≠x.id->aO (R.ai.take i++R.ai.drop (i+1)) s=aO R.ai s:=λs f=>by
  cases d:aO R.ai s with
  |none=>grind[dh,oP]
  |some z=>
   obtain⟨r,rfl⟩:=bh d;have F:jE (R.ai.take i++R.ai.drop (i+1)):=h.oL.sublist<|ma _ _;exact F.at<|(oP h.oL l).2 ⟨r,f⟩
 unfold bL.aR;simp only;have B:(x.st=5->x.aS=true)->cV L' c R:=λa=>⟨h.oL,λy m=>by
  have⟨T,H,W⟩:=h.Mn y m;refine⟨T,H,W.st,W.ps,(λv n=>?_),W.Ck⟩;have:y.id≠x.id:=λe=>by
   have w:=h.oL.at m;rw[e,hx]at w;cases w;rw[a v]at n;cases n
  rw[A _ this];exact W.gH v n,h.non,h.ok,h.len,h.o1,h.sin,h.next,h.res,h.out⟩
 by_cases d:x.aS=true
 .rw[oo d,mE<|b.Ck.1.2 d];exact⟨B λ_=>d,λs f=>rfl,λs f=>rfl⟩
 have I:x.aS=false:=by grind
 rw[mE d,oo<|Classical.not_not.1 λe=>d<|b.Ck.1.1 e,b.st];by_cases a:x.st=5
 .rw[oo a,oo a];have K:=b.gH a I;have G:=b.pv dp;have O:=(Z.vot a).1;by_cases E:x.gH+1=8
  .grind [aP.l8,aP.setAt,set_drop,Cn,bL.kX,js]
  .rw[mE E,mE dp];refine⟨?_,λs f=>rfl,C _ rfl⟩
   have:=h.fL (y:={x with gH:=x.gH+1}) (L':=L') (ts:=c.aD) (T:=c.tx x.id) (res:=R.res) l A rfl h.o1 h.sin (λt=>by
    by_cases e:t=x.id
    .rw[oo e,e];exact J
    .rw[mE e]) ⟨b.st,b.ps,(λ_ _=>by rw[D];simp only;omega),b.Ck⟩ ⟨Z.st,Z.up,Z.act,(λ_=>⟨by simp only;omega,(Z.vot a).2⟩),(λe=>by simp only at e;omega),Z.ne,Z.Ck⟩ (show c.out++(bV nk (c.tx x.id).parts).map (λk=>(x.id,k,1))=R.out++eB rQ x.id 1 x.parts by
    rw[G,a,kj du Z.up,h.out];unfold eB;rw[List.map_map];congr 1
    have:(x.parts.filter λp=>nk<|p.code 5)=x.parts.filter rQ:=List.filter_congr λq u=>by
     have:=((Z.vot a).2 q u).1;rcases this with e|e|e<;>simp[nk,rQ,aU.code,e]
    rw[this]
    rfl)
   rw[h.res];exact this
 .rw[mE a,mE a];have B:=B λe=>absurd e a
  by_cases g:x.st=6
  .rw[oo g,oo g];refine⟨B.outs ?_,λs f=>rfl,λs f=>rfl⟩;rw[<-Et du du 6,<-g,b.ps,g,kj du Z.up,h.out];unfold eB;rw[List.map_map];congr 1
   have:(x.parts.filter λp=>kE<|p.code 6)=x.parts.filter (·.left):=List.filter_congr λq u=>by
    rw[Bool.eq_iff_iff];have:=yP Z g u;unfold kE;simpa using this
   rw[this];rfl
  .grind
theorem QH:∀(ids:List Nat) (c b:bL) (R:aP),ids.Nodup->cV (λt=>if t∈ids then 1 else 0) c R->(∀t∈ids,(aO R.ai t).isSome/\bJ c.aD t=bJ b.aD t)->fJ ((ids.map λk=>(k,(bJ b.aD k).getD OS)).foldl bL.aR c) (ids.foldl aP.aR R):=by
 intro ids;induction ids with
 |nil=>grind
 |cons t r ih=>
  intro c b R u h H;have⟨J,B⟩:=List.nodup_cons.1 u;have⟨a,l⟩:=H t dv;have⟨x,hx⟩:=Option.isSome_iff_exists.1 a;rw[List.map_cons,List.foldl_cons,List.foldl_cons];have y:=Jz (L':=λs=>if s∈r then 1 else 0) h hx (λs a=>by simp[a]) dv (by simp[J]);have e:(bJ b.aD t).getD OS=c.tx t:=by grind[bL.tx]
  rw[e];refine ih _ b _ B y.1 λs a=>?_
  have d:s≠t:=λe=>J<|e▸a
  have⟨f,g⟩:=H s (by simp[a]);exact⟨by rw[y.2.2 s d];exact f,by rw[y.2.1 s d];exact g⟩
theorem fJ.tick(h:fJ c R):fJ c.tick R.tick:=by
 unfold bL.tick aP.tick wy;rw[h.jO];have I:(R.ai.map (·.id)).Nodup:=by
  unfold List.Nodup;rw[zv];exact h.oL.imp λZ=>dp
 refine QH _ _ c _ I ⟨h.oL,λx hx=>?_,h.non,h.ok,h.len,h.o1,λx hx=>Nat.le_succ_of_le<|h.sin x hx,h.next,h.res,h.out⟩ λt a=>⟨?_,rfl⟩
 .obtain⟨T,hT,hi⟩:=h.Mn x hx;refine⟨T,hT,hi.st,hi.ps,(λe d=>?_),hi.Ck⟩;have:=hi.gH e d;rw[oo<|zzq.2 ⟨x,hx,rfl⟩];simp only;omega
 .obtain⟨x,hx,rfl⟩:=zzq.1 a;rw[h.oL.at hx];rfl
end
def upTo{α:Type}(f:α->α)(l:List α)(k:Nat):List α:=(l.take k).map f++l.drop k
theorem Vz(f:α->α)(l:List α)(k:Nat):(upTo f l k).length=l.length:=by grind[upTo]
theorem lu(f:α->α)(l:List α):upTo f l 0=l:=by simp[upTo]
theorem xL(f:α->α){l:List α}(h:l.length<=k):upTo f l k=l.map f:=by
 unfold upTo;rw[zzt h,List.drop_eq_nil_of_le h,wo]
theorem kZ(f:α->α){l:List α}{x:α}(h:l[k]?=some x):(upTo f l k)[k]?=some x:=by grind[upTo]
theorem iU(f:α->α){l:List α}{x:α}(h:l[k]?=some x):upTo f l (k+1)=(upTo f l k).set k (f x):=by
 have b:=(zzd.1 h).1;refine List.ext_getElem? λj=>?_
 have e:∀m,m<=l.length->((l.take m).map f).length=m:=λm c=>by rw[zzn,zzm];omega
 unfold upTo;by_cases a:k=j
 .grind
 .grind
theorem xM(q:α->Bool){l:List α}{x:α}(h:l[k]?=some x):(l.take<|k+1).any q=((l.take k).any q||q x):=by
 rw[vV,h];simp
theorem f_{l:List α}{x:α}(h:l[k]?=some x):l.set k x=l:=by
 refine List.ext_getElem? λj=>?_
 by_cases e:k=j
 .grind
 .grind
theorem JG{w:nL}{rp:Nat}{v P rv ov:Value}{ps:List (aK×Value)}(J:ju w P)(hf:Fr [rp] w a):fo (kb rp v rv ov ps) (kb rp P rv ov<|ps.take i++ps.drop (i+1)) w a:=by
 refine⟨hf.mono λq _ h=>dC.2<|.inl<|by simpa using h,λq h l=>?_⟩;rw[dC]at h ⊢;obtain e|e|e|e|⟨y,hy,e⟩:=h
 .grind
 .have:=J q e;omega
 .grind
 .grind
 .grind
structure uJ [Inhabited Bs](w wr:nL)(rp i g n c pb m pc:Nat)(rv ov iT:Value)(ps:List (aK × Value))(R':aP)(y:aK):Prop where
 EE:∃ps',bQ wr rp (.slice (some (gi g)) n c) rv iT ps' R'/\ps'[i]?=some (y,.slice (some (gi pb)) m pc)/\fo (kb rp (.slice (some (gi g)) n c) rv ov ps) (kb rp (.slice (some (gi g)) n c) rv iT ps') w wr/\ps'.length=n
 len:y.parts.length=m
section
variable [Inhabited Bs]{w wr:nL}{rp i g n c pb m pc:Nat}{rv ov iT:Value}{ps:List (aK × Value)}{R':aP}{y:aK}
theorem uJ.cells(h:uJ w wr rp i g n c pb m pc rv ov iT ps R' y):wr.cell? (gi rp)=some (.slice (some<|gi g) n c)/\wr.cell? (hP rp 3)=some iT/\wr.cell? (hP g<|i*5)=some (.int .u64 (y.id:Int))/\wr.cell? (hP g<|i*5+1)=some (.int .i64 (y.st:Int))/\wr.cell? (hP g<|i*5+3)=some (.slice (some<|gi pb) m pc)/\i<n/\∀k p,y.parts[k]?=some p->wr.cell? (hP pb<|k*3)=some (.int .i64 (p.cH:Int))/\wr.cell? (hP pb<|k*3+1)=some (.int .i64 (p.aZ:Int))/\wr.cell? (hP pb<|k*3+2)=some (.bool p.left):=by
 have⟨D,a,hp,_,r⟩:=h.EE;have d:=af a.blk 0;have c3:=af a.blk 3;simp at d c3;have⟨A,c',e,H⟩:=a.slice;have⟨o,f,x,s,E,t,F⟩:=H i _ hp;have⟨C,Z,b,P⟩:=kf<|a.prt _<|zzh hp;rw[f]at e
 have⟨l,_⟩:g=o/\True:=by
  simp only[Bx,Option.some.injEq,Addr.mk.injEq,and_true]at e;exact⟨e.1,trivial⟩
 subst l;refine⟨d,c3,x,s,t,by rw[<-r];exact(zzd.1 hp).1,λk p q=>?_⟩;have⟨B,j,u,v,z⟩:=P k p q;rw[j]at b;simp only[Bx,Option.some.injEq,Addr.mk.injEq,and_true]at b;rw[b.1];exact⟨u,v,z⟩
theorem uJ.TS(h:uJ w wr rp i g n c pb m pc rv ov iT ps R' y){kx j:Nat}{l l':aU}{u:Value}(k:y.parts[kx]?=some l)(d:j<3)(hf:sM l'=(sM l).set j u):uJ w (wr.setCell (hP pb<|kx*3+j) u) rp i g n c pb m pc rv ov iT ps {R' with ai:=R'.ai.set i (y.pt<|y.parts.set kx l')} (y.pt<|y.parts.set kx l'):=by
 have⟨p,H,hp,B,e⟩:=h.EE;rw[<-h.len]at hp;have⟨a,b⟩:=H.TS hp k d hf;refine⟨⟨_,a,?_,B.trans b,by rw[List.length_set];exact e⟩,by rw[<-h.len];simp⟩;rw[List.getElem?_set_self (zzd.1 hp).1,h.len]
theorem uJ.fr{a:nL}(h:uJ w wr rp i g n c pb m pc rv ov iT ps R' y)(hf:Fr [] wr a):uJ w a rp i g n c pb m pc rv ov iT ps R' y:=by
 have⟨p,H,hp,B,l⟩:=h.EE;exact⟨⟨p,H.fr hf,hp,B.trans<|fo.of hf,l⟩,h.len⟩
theorem uJ.cast{R:aP}{a:aK}(h:uJ w wr rp i g n c pb m pc rv ov iT ps R' y)(e:R'=R)(b:y=a):uJ w wr rp i g n c pb m pc rv ov iT ps R a:=by grind
theorem uJ.free(h:uJ w wr rp i g n c pb m pc rv ov iT ps R' y):(∀j,wr.frozen? (hP pb j)=false)/\(∀j,wr.frozen? (hP g j)=false)/\∀j,wr.frozen? (hP rp j)=false:=by
 have⟨p,H,hp,_,l⟩:=h.EE;have⟨b,e⟩:=aL (H.prt _<|zzh hp) rfl;have⟨c2,a⟩:=aL H.kF rfl;exact⟨λj=>aq e j,λj=>aq a j,λj=>aq H.blk j⟩
theorem uJ.ne(h:uJ w wr rp i g n c pb m pc rv ov iT ps R' y):pb≠rp/\pb≠g/\g≠rp/\pb<wr.heap.size/\g<wr.heap.size/\rp<wr.heap.size:=by
 have⟨p,H,hp,_,a⟩:=h.EE;have l:=H.prt _<|zzh hp;have d:=H.kF;refine⟨λe=>aQ l H.blk du<|by rw[e];rfl,λe=>cP l d du rfl<|by rw[e];rfl,λe=>aQ d H.blk du<|by rw[e];rfl,(l.lt pb rfl).2,(d.lt g rfl).2,(zza.1 H.blk).1⟩
end
theorem QP [Inhabited Bs](rp t:Nat)(z:Int)(S:List Nat)(R:aP)(w:nL)(h:gh w rp S R)(hn:R.ai.length<=1048576)(qI:∀x∈R.ai,x.parts.length<=8/\(x.st=6->x.parts≠[])):
  Calls prog 86 #[gx rp,.int .u64 (t:Int),.int .i64 z] w λe w'=>e=.returned (.bool<|R.l_ t z)/\∃a,gh w' rp a (R.done t z)/\fo S a w w':=by
 obtain⟨P,rv,ov,ps,h,rfl⟩:=h;have eG:=h.len;have hf:=gT rp t P rv ov ps R w h dp;have c0:=af h.blk 0;simp at c0;have⟨ao,c,o,H⟩:=h.slice;rw[o]at c0;cases U:eW R.ai t with
 |none=>
  have r:=i_ U;rw[U]at hf;have s:CN none=-1:=rfl;rw[s]at hf;have E:R.l_ t z=false:=by unfold aP.l_;rw[r]
  have d:R.done t z=R:=by unfold aP.done;rw[U]
  rw[E,d];have I:=ah h;clear h H U r s E d o eG;go_enter func86,ntmps86;go_wp2_with fail;refine hf.mono ?_;clear hf;rintro e w1 ⟨rfl,q,rfl⟩;have F:=ah (show ∃a,gh (w.drewN q) rp a R/\fo (kb rp P rv ov ps) a w (w.drewN q)from ⟨_,⟨_,_,_,_,I.out.fr<|(fU w).dE q,rfl⟩,fo.of<|(fU w).dE q⟩);go_wp2;go_ret;exact⟨rfl,F.out⟩
 |some i=>
  have⟨x,hx,aa,r⟩:=fO U;have⟨v,A⟩:=h.at hx;obtain⟨g,rfl,x0,x1,x2,x3,x4⟩:=H i _ A;have Aq:=(zzd.1 A).1;rw[U]at hf;have s:CN (some i)=(i:Int):=rfl;rw[s]at hf;have i0:¬(i:Int)<0:=dp;have i1:(0:Int)<=i:=dp;have i2:(i:Int)<(ps.length:Int):=dp;have⟨st,f⟩:∃st,st=x.st:=⟨_,rfl⟩;simp only at x1;rw[<-f]at x1;have I:=ah h;by_cases y:st=6
  .have E:R.l_ t z=!((x.parts.map<|dw z).any (·.left)):=by rw[tz r,<-f,zI y,Bool.true_and]
   have d:R.done t z=if (x.parts.map<|dw z).any (·.left)then R.setAt i {x with parts:=x.parts.map (dw z)}else R.without i:=by
    unfold aP.done;rw[U];show(match R.ai[i]? with|none=>R|some x=>_)=_;rw[hx];show(if x.st=6 then _ else R)=_;rw[<-f,oo y]
   rw[E,d];have⟨T,a7⟩:=gb <|(x.parts.map<|dw z).any (·.left);rw[<-a7];have Xg:=ah a7;clear a7;have ad:=(qI x<|zzh hx).2 (by rw[<-f];exact y);have ab:=(qI x<|zzh hx).1;subst y;have ly:=h.prt _<|zzh A;simp only at ly;have⟨po,pc,ep,HP⟩:=kf ly;have⟨p0,Rh⟩:∃p0,x.parts[0]?=some p0:=⟨_,zzg<|zzE.2 ad⟩;have⟨pb,BI,_⟩:=HP 0 p0 Rh;have⟨m,C⟩:=gb x.parts.length;rw[BI,<-C]at ep;subst ep;have⟨n,L⟩:=gb ps.length;rw[<-L]at c0 i2 Aq o;have W:Hid (uJ w w rp i g n c pb m pc rv ov ov ps R x):=⟨⟨ps,by rw[<-o];exact h,A,⟨Fr.refl _ _,λ_ hk _=>hk⟩,L.symm⟩,C.symm⟩;have X:=ah<|show P=.slice (some ⟨g,0,none⟩) n c/\x.parts.length=m/\R.ai[i]?=some x/\ps.length=n/\R.ai.length<=1048576 from ⟨o,C.symm,hx,L.symm,hn⟩;have HS:Hid (x.st=6):=f.symm;have Ti:m<=8:=by rw[C];exact ab
   have ay:n<=1048576:=dp;have an:Hid (R.setAt i {x with parts:=upTo (dw z) x.parts 0}=R):=by
    rw[lu];exact oQ hx
   rw[o];clear h H U r hx aa A s f E d o eG qI ad ab ly HP Rh BI L I C x0 x1 x2 x3 x4;go_enter func86,ntmps86;go_wp2_with fail;refine hf.mono ?_;clear hf;rintro e w1 ⟨rfl,q,rfl⟩;have⟨y0,y1,y2,y3,y4,_,_⟩:=W.out.cells;rw[HS.out]at y3;have al:Hid (uJ w (w.drewN q) rp i g n c pb m pc rv ov ov ps {R with ai:=R.ai.set i (x.pt<|upTo (dw z) x.parts 0)} (x.pt<|upTo (dw z) x.parts 0)):=by
    have h1:=W.out.fr<|(fU w).dE q;exact h1.cast (by rw[lu];exact(oQ X.2.2.1).symm)<|by rw[lu]
   clear an W;go_wp2;go_loopw [8,9] (λM j wr=>∃(k:Nat) (b:Bool),k<=m/\M=.bool b/\j=.int .i64 k/\Hid (b=(x.parts.take k).any λp=>(dw z p).left)/\Hid (uJ w wr rp i g n c pb m pc rv ov ov ps {R with ai:=R.ai.set i (x.pt<|upTo (dw z) x.parts k)} (x.pt<|upTo (dw z) x.parts k))) (λ_ j _=>m-(intOf j).toNat)
   case atStart=>exact⟨0,false,zzs _,rfl,rfl,rfl,al⟩
   case round=>
    obtain⟨k,b,hk,rfl,rfl,G,K⟩:=hrel;have⟨a0,a1,a2,a3,a4,eH,Y⟩:=K.out.cells;have n0:(0:Int)<=i:=dp;clear a1 a2 a3;by_cases bW:k<m
    .obtain⟨p,hp⟩:∃p,x.parts[k]?=some p:=⟨_,zzg<|by rw[X.2.1];exact bW⟩;have⟨b0,b1,b2⟩:=Y k p<|kZ _ hp;have⟨f0,_,_⟩:=K.out.free;have g2:=f0<|k*3+2;have V:=K.out.ne;have av:=ah V;have aA:¬pb=rp:=V.1;have aE:¬pb=g:=V.2.1;have k0:(0:Int)<=k:=dp
     have k1:(k:Int)<m:=dp;have a8:=ah<|xM (λp=>(dw z p).left) hp;clear Y f0 V b1;by_cases B:(p.cH:Int)=z
     .have hdp:dw z p={p with left:=false}:=by unfold dw;rw[oo B]
      have nH:Hid (uJ w (wr.setCell ⟨pb,k*3+2,none⟩<|.bool false) rp i g n c pb m pc rv ov ov ps {R with ai:=R.ai.set i (x.pt<|upTo (dw z) x.parts<|k+1)} (x.pt<|upTo (dw z) x.parts<|k+1)):=by
       have h1:=K.out.TS (kx:=k) (j:=2) (l:=p) (l':=dw z p) (u:=.bool false) (kZ _ hp) (by decide) (by rw[hdp];rfl);exact h1.cast (by rw[iU _ hp];simp[aK.pt])<|by rw[iU _ hp]
      have Q:=ah (show(b||false)=(x.parts.take<|k+1).any λp=>(dw z p).left by rw[a8.out,<-G.out];simp only[hdp]);have Z:((p.cH:Int)==z)=true:=by simp[B]
      have⟨D,J⟩:∃D:Int,D=(p.cH:Int):=⟨_,rfl⟩;rw[<-J]at b0 Z B;clear hp hdp J;cases b;all_goals
       go_wp2;go_roundw
       case rel=>exact⟨k+1,_,dp,rfl,eR,Q,nH⟩
       case measure=>simp[intOf];omega
     .have hdp:dw z p=p:=by unfold dw;rw[mE B]
      have nH:Hid (uJ w wr rp i g n c pb m pc rv ov ov ps {R with ai:=R.ai.set i (x.pt<|upTo (dw z) x.parts<|k+1)} (x.pt<|upTo (dw z) x.parts<|k+1)):=by
       have e:upTo (dw z) x.parts (k+1)=upTo (dw z) x.parts k:=by rw[iU _ hp,hdp];exact f_<|kZ _ hp
       exact K.out.cast (by rw[e])<|by rw[e]
      have Q:=ah (show(b||p.left)=(x.parts.take<|k+1).any λp=>(dw z p).left by rw[a8.out,<-G.out];simp only[hdp]);have Z:((p.cH:Int)==z)=false:=oT.2 B;obtain⟨D,J⟩:∃D:Int,D=(p.cH:Int):=⟨_,rfl⟩;obtain⟨M,rS⟩:∃M,M=p.left:=⟨_,rfl⟩;rw[<-J]at b0 Z B;rw[<-rS]at b2 Q;clear hp hdp J rS
      cases b
      all_goals
       go_wp2
       go_roundw
       case rel=>exact⟨k+1,_,dp,rfl,eR,Q,nH⟩
       case measure=>simp[intOf];omega
    .obtain rfl:k=m:=dp;have kP:upTo (dw z) x.parts k=x.parts.map (dw z):=xL _<|by rw[X.2.1];exact zzc _
     obtain rfl:b=T:=by
      rw[Xg.out,G.out,List.any_map,zzt<|by rw[X.2.1];exact zzc _];rfl
     have TN:Hid (uJ w wr rp i g n c pb k pc rv ov ov ps (R.setAt i {x with parts:=x.parts.map (dw z)}) {x with parts:=x.parts.map (dw z)}):=K.out.cast (by rw[kP];rfl) (by rw[kP]);clear Y kP G K;cases b
     .obtain⟨ae,N,Kb,O,zh⟩:=TN.out.EE;have a':=yt rp i _ rv ov ae _ wr N dp (by have:=X.2.2.2;omega);have ag:=ah O;clear N Kb O;go_wp2_with fail;refine a'.mono ?_;clear a';rintro e w5 ⟨rfl,⟨CP,kr,vJ⟩,iR⟩;have F:=ah (show ∃a,gh w5 rp a (R.without i)/\fo (kb rp (.slice (some ⟨g,0,none⟩) n c) rv ov ps) a w w5 from by
       refine⟨_,⟨_,_,_,_,?_,rfl⟩,ag.out.trans<|JG (i:=i) vJ iR⟩
       have e:R.without i={R.setAt i {x with parts:=x.parts.map (dw z)}with ai:=(R.setAt i {x with parts:=x.parts.map (dw z)}).ai.take i++(R.setAt i {x with parts:=x.parts.map (dw z)}).ai.drop (i+1)}:=by
        unfold aP.without aP.setAt;simp only;rw[set_drop]
       rw[e];exact kr)
      clear kr vJ iR;go_wp2;go_ret;exact⟨rfl,F.out⟩
     .have F:=ah (show ∃a,gh wr rp a (R.setAt i {x with parts:=x.parts.map (dw z)})/\fo (kb rp (.slice (some ⟨g,0,none⟩) n c) rv ov ps) a w wr from by
       obtain⟨ae,N,Kb,O,zh⟩:=TN.out.EE;exact⟨_,⟨_,_,_,_,N,rfl⟩,O⟩)
      go_wp2;go_ret;exact⟨rfl,F.out⟩
  .have E:R.l_ t z=false:=by rw[tz r,<-f,zY y,Bool.false_and]
   have d:R.done t z=R:=by
    unfold aP.done;rw[U];show(match R.ai[i]? with|none=>R|some x=>_)=_;rw[hx];show(if x.st=6 then _ else R)=_;rw[<-f,mE y]
   rw[E,d];have j6:¬(st:Int)=6:=dp;have b6:((st:Int)==6)=false:=oT.2 j6;have ax:((st:Int) != 6)=true:=by unfold bne;rw[b6];rfl
   clear h H U r hx aa A s f E d o eG;go_enter func86,ntmps86;go_wp2_with fail;refine hf.mono ?_;clear hf;rintro e w1 ⟨rfl,q,rfl⟩;have F:=ah (show ∃a,gh (w.drewN q) rp a R/\fo (kb rp P rv ov ps) a w (w.drewN q)from ⟨_,⟨_,_,_,_,I.out.fr<|(fU w).dE q,rfl⟩,fo.of<|(fU w).dE q⟩);go_wp2;go_ret;exact⟨rfl,F.out⟩
def yT(zs:List Int)(k:Nat):Prop:=∀(j:Nat) (z:Int),j<k->zs[j]?=some z->1<=z/\z<=8/\∀y:Int,0<j->zs[j-1]?=some y->y<z
theorem JI(zs:List Int):yT zs 0:=λj _ h=>dp
theorem zJ(h:yT zs k)(f:zs[k]?=some z)(b:1<=z)(c:z<=8)(hp:∀y,0<k->zs[k-1]?=some y->y<z):yT zs (k+1):=λj u d a=>by
 by_cases e:j=k
 .grind
 .exact h j u dp a
theorem YW:∀(zs:List Int) (l:Int),(∀z,zs[0]?=some z->l<z)->(zs=[]->0<l)->yT zs zs.length->jL l zs=true:=by
 intro zs;induction zs with
 |nil=>grind[jL]
 |cons x r ih=>
  intro l b _ h;have hx:=h 0 x dv rfl;have f:=b x rfl;unfold jL;rw[mE dp];refine ih x (λz a=>?_) (λ_=>dp) λj z d a=>?_
  .have bW:0<r.length:=(zzd.1 a).1;exact(h 1 z ef a).2.2 x du rfl
  .have:=h (j+1) z ef a;refine⟨this.1,this.2.1,λy g c=>this.2.2 y dp ?_⟩;have e:j+1-1=(j-1)+1:=dp
   rw[e];exact c
theorem VE(b:zs.length=k)(h:yT zs k)(a:0<k):jL 0 zs=true:=by
 subst b;exact YW zs 0 (λz c=>by have:=(h 0 z a c).1;omega) (λe=>by rw[e]at a;simp at a) h
theorem j_.to{xs:List Nat}(h:j_ xs){x:Nat}(hx:xs[k]?=some x):1<=x/\x<=8/\∀y,0<k->xs[k-1]?=some y->y<x:=by
 refine⟨(h.b x<|zzh hx).1,(h.b x<|zzh hx).2,λy f e=>?_⟩;have⟨a,b⟩:=zzd.1 hx;have⟨c,d⟩:=zzd.1 e;have:=DS.1 h.up (k-1) k c a dp;rw[b,d]at this;exact this
structure Jd(k:Nat)(c:bL)(R:aP):Prop where
 rel:fJ c R
 lim:c.next<=c.aH/\c.aH<=c.next+16
 rK:1<=R.next/\c.next<=64*(k+1)
 Wt:c.bw<=21*k
 out:R.out.length<=8*k
 res:R.res.length<=k
theorem xH.len(h:xH ps):ps.length<=8:=by
 by_cases e:ps=[]
 .grind
 .have:j_ (ps.map (·.cH)):=⟨by simpa using e,by rw[zv];exact h.up,λx hx=>by obtain⟨p,hp,rfl⟩:=zzq.1 hx;exact h.b p hp⟩
  simpa using this.len
section
variable{L:Nat->Nat}{k:Nat}{c:bL}{R:aP}
theorem cV.parts(h:cV L c R):∀x∈R.ai,x.parts.length<=8:=λx hx=>(h.ok x hx).1.up.len
theorem yU(t:Nat)(ps:List aU):(iF t ps).length<=ps.length:=by grind[iF]
theorem qw(f:aU->Bool)(t x:Nat)(ps:List aU):(eB f t x ps).length<=ps.length:=by grind[eB]
theorem QT(hp:∀x∈R.ai,x.parts.length<=8)(t:Nat):(R.abort t).out.length<=R.out.length+8/\(R.abort t).res.length<=R.res.length+1/\(R.abort t).next=R.next:=by grind[aP.abort,yU]
theorem Cu(hp:∀x∈R.ai,x.parts.length<=8)(t:Nat)(z v:Int):(R.aZ t z v).out.length<=R.out.length+8/\(R.aZ t z v).res.length<=R.res.length+1/\(R.aZ t z v).next=R.next:=by
 unfold aP.aZ;split
 .grind
 .grind [aP.jV,yU,cN,aP.l8,aP.setAt,qw,uy]
theorem Cv(t:Nat)(z:Int):(R.done t z).out=R.out/\(R.done t z).res=R.res/\(R.done t z).next=R.next:=by
 unfold aP.done;split
 .grind
 .split
  .grind
  .split
   .split<;>exact⟨rfl,rfl,rfl⟩
   .grind
theorem Mx(t:Nat){xs:List Nat}(hx:xs.length<=8):(R.iu t xs).out.length<=R.out.length+8/\(R.iu t xs).res=R.res/\(R.iu t xs).next=R.next:=by grind[aP.iu]
theorem zK(hp:∀x∈R.ai,x.parts.length<=8)(t:Nat):(R.aR t).out.length<=R.out.length+8/\(R.aR t).res.length<=R.res.length+1/\(R.aR t).next=R.next/\∀x∈(R.aR t).ai,x.parts.length<=8:=by
 unfold aP.aR;split
 .grind
 .grind [aK,yU,aP.l8,aP.setAt,ma,qw,rQ]
theorem EF:∀(ids:List Nat) (R:aP),(∀x∈R.ai,x.parts.length<=8)->(ids.foldl aP.aR R).out.length<=R.out.length+8*ids.length/\(ids.foldl aP.aR R).res.length<=R.res.length+ids.length/\(ids.foldl aP.aR R).next=R.next:=by
 intro ids;induction ids with
 |nil=>grind
 |cons t r ih=>grind[zK]
theorem Jd.mono(h:Jd k c R){j:Nat}(a:k<=j):Jd j c R:=⟨h.rel,h.lim,⟨h.rK.1,by have:=h.rK.2;omega⟩,by have:=h.Wt;omega,by have:=h.out;omega,by have:=h.res;omega⟩
theorem Jd.step(h:Jd k c R){c':bL}{R':aP}(r:fJ c' R')(a:c'.next=c.next)(b:c'.aH=c.aH)(d:c'.bw=c.bw)(e:R'.next=R.next)(f:R'.out.length<=R.out.length+8)(g:R'.res.length<=R.res.length+1):Jd (k+1) c' R':=
 ⟨r,by rw[a,b];exact h.lim,by rw[e,a];have:=h.rK;omega,by rw[d];have:=h.Wt;omega,by have:=h.out;omega,by have:=h.res;omega⟩
theorem cV.VF(h:cV L c R):cV L c {R with next:=c.next}:=⟨h.oL,h.Mn,h.non,λx hx=>⟨(h.ok x hx).1,zzl (h.ok x hx).2 h.next⟩,h.len,h.o1,h.sin,zzc _,h.res,h.out⟩
theorem Jd.begin(h:Jd k c R)(l:R.ai.length<12)(hx:c.next=c.aH):Jd (k+1) {c with aH:=c.aH+16,next:=c.aH+1,aD:=dt c.aD c.aH ⟨4,[0,0,0,0,0,0,0,0,0],0,0⟩} {R with ai:=R.ai++[⟨c.next,4,0,[],false⟩],next:=c.next+1}:=by
 have:=fJ.begin h.rel.VF rfl l<|c.aH+16;simp only at this;rw[hx]at this ⊢;exact⟨this,⟨by simp only;omega,by simp only;omega⟩,by have:=h.rK;simp only;omega,by have:=h.Wt;simp only;omega,by have:=h.out;simp only;omega,by have:=h.res;simp only;omega⟩
theorem Jd.YX(h:Jd k c R)(l:R.ai.length<12)(hx:c.next≠c.aH):Jd (k+1) {c with next:=c.next+1,aD:=dt c.aD c.next ⟨4,[0,0,0,0,0,0,0,0,0],0,0⟩} {R with ai:=R.ai++[⟨c.next,4,0,[],false⟩],next:=c.next+1}:=
 ⟨fJ.begin h.rel.VF rfl l c.aH,by have:=h.lim;simp only;omega,by have:=h.rK;simp only;omega,by have:=h.Wt;simp only;omega,by have:=h.out;simp only;omega,by have:=h.res;simp only;omega⟩
theorem Jd.asked(h:Jd k c R):Jd k {c with res:=[],out:=[]} {R with res:=[],out:=[]}:=
 ⟨⟨h.rel.oL,h.rel.Mn,h.rel.non,h.rel.ok,h.rel.len,h.rel.o1,h.rel.sin,h.rel.next,rfl,rfl⟩,h.lim,h.rK,h.Wt,dv,dv⟩
theorem Jd.ids(h:Jd k c R)(g:k<=1000000):∀x∈c.aD,x.2.since<=c.bw/\x.1<2^64:=λx hx=>by
 refine⟨h.rel.sin x hx,?_⟩;have:=jR h.rel.o1 hx;cases d:aO R.ai x.1 with
 |none=>rw[h.rel.non _ d]at this;cases this
 |some y=>
  have⟨m,e⟩:=bh d;have a:=(h.rel.ok y m).2;have b:=h.rK.2;have f:=h.rel.next;omega
end
end
end Go.Proofs.YtlgeloebpdmnnaaGreatDoor
