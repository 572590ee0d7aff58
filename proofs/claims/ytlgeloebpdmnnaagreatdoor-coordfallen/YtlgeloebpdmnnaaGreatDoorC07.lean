import Derived.Test.YtlgeloebpdmnnaaGreatDoorC04
import Derived.Test.YtlgeloebpdmnnaaGreatDoorC06
import Derived.Deep.CutRange
set_option maxHeartbeats 8000000
set_option maxRecDepth 100000
namespace Go.Proofs.YtlgeloebpdmnnaaGreatDoor
open Go.RowKit Go.Maps Tryz Sc
variable{Q:Exit->Act->nL->Prop}{S W X:List Nat}{B D N b c h k lp m n p q:Nat}{o:Oper}{t:TypeId}{pv s v:Value}{d:aj}{l:au}{a w w':nL}
structure V_(X:List Nat)(lp p:Nat)(w w':nL):Prop where
 os:w'.os=w.os
 tape:w'.tape=w.tape
 output:w'.output=w.output
 size:w.heap.size<=w'.heap.size
 block:∀k,k<w.heap.size->¬Own lp p w k->k∉X->w'.heap[k]?=w.heap[k]?
 stay:∀k,k<w.heap.size->Own lp p w' k->Own lp p w k
theorem mJ.x(h:mJ lp p w w'):V_ X lp p w w':=⟨h.os,h.tape,h.output,h.size,λk a hn _=>h.block k a hn,h.stay⟩
theorem V_.trans{b c:nL}(h:V_ X lp p a b)(k:V_ X lp p b c):V_ X lp p a c:=
 ⟨k.os.trans h.os,k.tape.trans h.tape,k.output.trans h.output,zzk h.size k.size,
  λi d hn hx=>(k.block i (zzl d h.size) (λo=>hn<|h.stay i d o) hx).trans<|h.block i d hn hx,
  λi d o=>h.stay i d (k.stay i (zzl d h.size) o)⟩
section
variable{w w':nL}{B lp p h E n O f n' s u:Nat}{pv J I o j m:Value}{l l':au}{d d':aj}
theorem aM.ofx{X S:List Nat}(b:aM w B lp p h E pv J I l d n O f)(c:aM w' B lp p h E o j m l' d' n' s u)(hf:Fr S w w')
  (r:∀k∈S,k<w.heap.size->k∈X\/k=lp\/k=p\/k=h\/k=E\/pv.ownBlock=some k\/J.ownBlock=some k\/I.ownBlock=some k)
  (g:bU w.heap.size pv o) (i:bU w.heap.size J j) (q:bU w.heap.size I m):V_ X lp p w w':=by
 refine⟨hf.os,hf.tape,hf.output,hf.size,λk a hn hx=>hf.block k a λt=>?_,λk a v=>?_⟩
 .rcases r k t a with e|e
  .exact hx e
  .exact hn<|(b.own k).2 e
 rw[b.own];obtain e|e|e|e|e|e|e:=(c.own k).1 v
 .grind
 .grind
 .grind
 .grind
 .rcases g k e with e|e
  .grind
  .omega
 .rcases i k e with e|e
  .grind
  .omega
 .rcases q k e with e|e
  .grind
  .omega
theorem aM.ge(a:aM w B lp p h E pv J I l d n O f){k:Nat}(b:Own lp p w k):B<=k:=by
 obtain e|e|e|e|e|e|e:=(a.own k).1 b
 .rw[e];exact a.base
 .rw[e];exact a.bP.base.1
 .rw[e];exact a.bP.base.2.1
 .rw[e];exact a.bP.base.2.2.1
 .exact(a.bP.pen.lt k e).1
 .exact(a.segs.lt k e).1
 .exact(a.recs.lt k e).1
theorem aM.free(a:aM w B lp p h E pv J I l d n O f){q:Nat}{c:Array Value}{t:TypeId}{fr:Nat×Nat}(b:w.heap[q]?=some (.cells c t fr))(g:t≠65)(i:t≠200)(j:t≠177)(k:t≠34)(m:t≠89):¬Own lp p w q:=by
 intro o;have hn:=He a.bP b g i;obtain e|e|e|e|e|e|e:=(a.own q).1 o
 .rw[e,a.blk]at b;cases b;exact j rfl
 .grind
 .grind
 .grind
 .grind
 .exact aQ a.segs b (λe=>k e.symm) e
 .exact aQ a.recs b (λe=>m e.symm) e
end
theorem aay:Tryz.prog.globalNamed "internal/strconv.uint64pow10"=some 1:=eu
theorem dJ.cZ(h:dJ w)(hb:w'.heap[1]?=w.heap[1]?):dJ w':=by
 unfold dJ Lib.TabIs World.var? at *;rw[aay]at *;simp only[Option.bind_some]at *;rw[hb];exact h
def au.put(l:au)(d:aj)(W:List Nat):au × aj × Nat :=
 if (l.room d).2.2=0 then ((l.room d).1,((l.room d).2.1.tell ⟨2,aw ((l.room d).1.segs.getLastD 0),gW,str W⟩).1,((l.room d).2.1.tell ⟨2,aw ((l.room d).1.segs.getLastD 0),gW,str W⟩).2)
 else l.room d
def lM(B lp p h E n:Nat)(X:List Nat)(r:au × aj × Nat)(w:nL)(e:Ending)(w':nL):Prop :=
 e=.returned (bB r.2.2)/\(∃pv J I O f,aM w' B lp p h E pv J I r.1 r.2.1 n O f)/\V_ X lp p w w'
theorem DL(h:l.filled<600->l.segs≠[])(r:(l.room d).2.2=0):(l.room d).1.segs≠[]:=by
 unfold au.room at *;split
 .grind
 .rename_i hf;rw[mE hf]at r;split at r
  .simp_all
  .grind
theorem KQ{l:List Nat}(h:l≠[]):l[l.length-1]?=some (l.getLastD 0):=by
 rw[List.getLastD_eq_getLast?,<-List.getLast?_eq_getElem?];cases a:l.getLast? with
 |none=>simp_all
 |some x=>rfl
theorem Xf(B lp p h E n O f y x g r base Z:Nat)(pv J I:Value)(l:au)(d:aj)(W:List Nat)(w:nL)(P:aM w B lp p h E pv J I l d n O f)(hn:n+1<1000000000)(hB:2<=B)(X:l.filled<600->l.segs≠[])
  (s:w.heap[Z]?=some (.cells #[.func (.func 157) #[gx lp] #[],.func (.func 158) #[] #[gx y,gx x]] 147))
  (T:w.heap[y]?=some (.cells #[gx lp] 66)) (Y:w.heap[x]?=some (.cells #[.slice (some<|gi g) W.length r] 217))
  (Q:w.ownsRow base 5 1 (.slice (some<|gi g) W.length r) W.length<|bs W) (oZ:W.length<=4096) (dK:dJ w) :
  Calls prog 139 #[.slice (some<|gi Z) 2 2] w (lM B lp p h E (n+2) [g] (l.put d W) w):=by
 have z0:=af s 0;have z1:=af s 1;simp at z0 z1;have o:=ah P;go_enter func139,ntmps139;go_wp2;apply Bn 3;rw[wk];go_wp2_with fail;apply(Sy B lp p h E n O f pv J I l d w o.out dp).mono;rintro e i ⟨rfl,⟨mj,tV,gM,nK,nG,eK⟩,gq⟩;have R:∀{q:Nat} {c:Array Value} {t:TypeId},w.heap[q]?=some (.cells c t (0,0))->t≠65->t≠200->t≠177->t≠34->t≠89->i.heap[q]?=some (.cells c t (0,0)):=λ{q c t} D C b h3 h4 h5=>
  (gq.block q (zza.1 D).1<|o.out.free D C b h3 h4 h5).trans D
 have U:=R s du du du du du;have L:=R T du du du du du;have M:=R Y du du du du du;have V:i.ownsRow base 5 1 (.slice (some (gi g)) W.length r) W.length (bs W):=by
  have⟨C,b⟩:=Q;refine⟨C,?_⟩;obtain b|⟨z,F,N,e,b1,b2,b3⟩:=b
  .exact .inl b
  .exact .inr ⟨z,F,N,e,b1,R b2 du du du du du,b3⟩
 have CD:1<w.heap.size:=by have:=o.out.bP.base.2.2.2;omega
 have Nd:=dK.cZ (gq.block 1 CD λho=>by have:=o.out.ge ho;omega);have z2:=af U 1;simp at z2;have j:=ah eK;have G:=ah gq;have V':=ah L;have Xg:=ah M;have WW:=ah V;have a7:=ah X;clear P eK gq U L M V s T Y Q X R z0 z1;by_cases m:(l.room d).2.2=0
 .have wM:=DL a7.out m;have⟨last,K⟩:=gb <|(l.room d).1.segs.getLastD 0;have u:=KQ wM;rw[<-K]at u;have e:l.put d W=((l.room d).1,((l.room d).2.1.tell ⟨2,aw last,gW,str W⟩).1,((l.room d).2.1.tell ⟨2,aw last,gW,str W⟩).2):=by unfold au.put;rw[oo m,<-K]
  have v:=ah e;have bW:=j.out.eJ.2 last<|zzh u;have a1:=ah u;clear e u K
  have⟨A,cs,Hh⟩:∃A cs,tV=.slice (some ⟨A,0,none⟩) (l.room d).1.segs.length cs:=by
   rcases j.out.segs.2 with⟨_,b⟩|⟨z,F,N,e,_⟩
   .exact absurd (List.length_eq_zero_iff.1 b) wM
   .exact⟨z,F,e⟩
  subst Hh;clear wM;rw[m,aT];go_wp2;rw[wk];go_wp2_with fail;apply(SA B lp p h E (n+1) nK nG y x g W.length r base A cs last mj gM (l.room d).1 (l.room d).2.1 W i j.out hn a1.out V'.out Xg.out rfl WW.out oZ Nd bW).mono;rintro e w2 ⟨rfl,⟨CG,C1,eL,sA⟩,bH⟩;have S:V_ [g] lp p i w2:=j.out.ofx eL bH (by intro k a _;rcases zzj.1 a with e|a;exact .inl (by simp[e]);right;obtain e|a:=zzj.1 a;simp[e];obtain e|a:=zzj.1 a;simp[e];obtain e|a:=zzj.1 a;simp[e];simp at a;simp[a]) sA (bU.refl _ _)<|bU.refl _ _
  have H:Hid (lM B lp p h E (n+2) [g] (l.put d W) w (.returned<|bB ((l.room d).2.1.tell ⟨2,aw last,gW,str W⟩).2) w2):=by
   show lM _ _ _ _ _ _ _ _ _ _ _;rw[v.out];exact⟨rfl,⟨CG,_,gM,nK,C1,eL⟩,G.out.x.trans S⟩
  clear eL sA bH S;by_cases iy:((l.room d).2.1.tell ⟨2,aw last,gW,str W⟩).2=0
  .rw[iy,aT]at H ⊢;go_wp2;rw[wk];go_wp2;go_ret;exact H.out
  .rw[aV iy]at H ⊢;go_wp2;go_ret;exact H.out
 .have e:l.put d W=l.room d:=by unfold au.put;rw[mE m]
  have v:=ah e;clear e;have H:Hid (lM B lp p h E (n+2) [g] (l.put d W) w (.returned<|bB (l.room d).2.2) i):=by
   show lM _ _ _ _ _ _ _ _ _ _ _;rw[v.out];exact⟨rfl,⟨mj,tV,gM,nK,nG,j.out.more hn⟩,G.out.x⟩
  rw[aV m]at H ⊢;go_wp2;go_ret;exact H.out
def nj(p:Nat)(w:nL)(k:Nat):Prop:=k=p\/k∈refs w.heap[p]?
structure qQ(p:Nat)(w w':nL):Prop where
 os:w'.os=w.os
 tape:w'.tape=w.tape
 output:w'.output=w.output
 size:w.heap.size<=w'.heap.size
 block:∀k,k<w.heap.size->¬nj p w k->w'.heap[k]?=w.heap[k]?
 stay:∀k,k<w.heap.size->nj p w' k->nj p w k
theorem qQ.refl(p:Nat)(w:nL):qQ p w w:=⟨rfl,rfl,rfl,zzc _,λ_ _ _=>rfl,λ_ _ h=>h⟩
theorem qQ.trans{b c:nL}(h:qQ p a b)(k:qQ p b c):qQ p a c:=
 ⟨k.os.trans h.os,k.tape.trans h.tape,k.output.trans h.output,zzk h.size k.size,
  λi d hn=>(k.block i (zzl d h.size) λo=>hn<|h.stay i d o).trans<|h.block i d hn,
  λi d o=>h.stay i d (k.stay i (zzl d h.size) o)⟩
section
variable{w w':nL}{B p h E n I J n' f j:Nat}{pv O:Value}{d d':aj}
theorem aC.fI(a:aC w B p h E pv d n I J)(k:Nat):nj p w k↔k∈dS p h E pv:=by
 unfold nj;rw[a.blk,M0<|dN a.pen];simp
theorem aC.Xr{S:List Nat}(b:aC w B p h E pv d n I J)(c:aC w' B p h E O d' n' f j)(hf:Fr S w w')(g:∀k∈S,k<w.heap.size->k∈dS p h E pv)(i:bU w.heap.size pv O):qQ p w w':=by
 refine⟨hf.os,hf.tape,hf.output,hf.size,λk a hn=>hf.block k a λm=>hn<|(b.fI k).2<|g k m a,λk a o=>?_⟩;rw[b.fI];have:=(c.fI k).1 o;obtain e|this:=zzj.1 this
 .simp[e]
 obtain e|this:=zzj.1 this
 .simp[e]
 obtain e|this:=zzj.1 this
 .simp[e]
 .simp at this;obtain e|e:=i k this
  .simp[e]
  .omega
theorem aC.kD(a:aC w B p h E pv d n I J){q:Nat}{c:Array Value}{t:TypeId}{fr:Nat×Nat}(b:w.heap[q]?=some (.cells c t fr))(f:t≠65)(g:t≠200):¬nj p w q:=by
 rw[a.fI];intro m;obtain e|m:=zzj.1 m
 .rw[e,a.blk]at b;cases b;exact f rfl
 obtain e|m:=zzj.1 m
 .exact a.lB.cT b e.symm
 obtain e|m:=zzj.1 m
 .exact a.now.cT b e.symm
 .simp at m;exact aQ a.pen b (λe=>g e.symm) m
theorem qQ.row{e:TypeId}{k m base:Nat}{v:Value}{xs:List Value}(hf:qQ p w w')(a:aC w B p h E pv d n I J)(r:w.ownsRow base e k v m xs)(b:e≠65)(c:e≠200):w'.ownsRow base e k v m xs:=by
 refine⟨r.1,?_⟩;obtain f|⟨g,cap,cur,rfl,b1,b2,b3⟩:=r.2
 .grind
 .exact .inr ⟨g,cap,cur,rfl,b1,(hf.block g (zza.1 b2).1<|a.kD b2 b c).trans b2,b3⟩
end
def fZ(l:List nS):List Value:=l.map Value.string
theorem KY{g:Nat}{l:List nS}(h:w.ownsRow B 9 1 (.slice (some<|gi g) n p) n<|fZ l)(k:Nat)(x:nS)(b:l[k]?=some x):w.cell? (hP g k)=some (.string x):=by
 have a:(fZ l)[k]?=some (.string x):=by simp[fZ,b]
 have:=h.cells rfl k _ a;simpa [Addr.add_lit]using this
def aj.removeAll(d:aj):List nS->aj × Nat
 |[]=>d.sync
 |nm :: r=>if (d.tell ⟨3,nm,gW,gW⟩).2=0 then (d.tell ⟨3,nm,gW,gW⟩).1.removeAll r else d.tell ⟨3,nm,gW,gW⟩
def nW(B p h E n:Nat)(r:aj × Nat)(w:nL)(e:Ending)(w':nL):Prop :=
 e=.returned (bB r.2)/\(∃pv I J,aC w' B p h E pv r.1 n I J)/\qQ p w w'
theorem aC.fW{E I J:Nat}(a:aC w B p h E pv d n I J)(b:n<=m)(Z:m<=1000000000):aC w B p h E pv d m I J:=
 {a with hD:=by have:=a.hD;omega,hN:=by have:=a.hN;omega,hn:=Z}
theorem sD(B p h E n I J g m u base:Nat)(pv:Value)(d:aj)(l:List nS)(w:nL)(v:aC w B p h E pv d n I J)(A:l.length=m)(hn:n+m<=1000000000)(C:w.ownsRow base 9 1 (.slice (some<|gi g) m u) m<|fZ l)(N:∀x∈l,x.size<=maxLen):
  Calls prog 142 #[fS p,.slice (some<|gi g) m u] w (nW B p h E (n+m) (d.removeAll l) w):=by
 have s:=ah v;have M:=ah A;have X:=Xc;have m2:=Nc;have R:=ah C;clear v A C;go_enter func142,ntmps142;go_wp2;go_loopw [10] (λi wr=>∃k:Nat,k<=m/\i=.int .i64 k/\(∃j dr r b,aC wr B p h E j dr (n+k) r b/\d.removeAll l=dr.removeAll (l.drop k))/\qQ p w wr) (λi _=>m-(intOf i).toNat);.exact⟨0,zzs _,rfl,⟨pv,d,I,J,s.out,dv⟩,qQ.refl _ _⟩
 case round=>
  obtain⟨k,T,rfl,⟨j,dr,r,b,z,a⟩,kO⟩:=hrel;have D:=ah z;have F:=ah kO;have W:=kO.row s.out R.out du du;clear z kO;by_cases t:k<m
  .obtain⟨x,hx⟩:∃x,l[k]?=some x:=⟨_,zzg<|by rw[M.out];exact t⟩;have P:=KY W k x hx;have O:=N x<|zzh hx
   have S:l.drop k=x::l.drop (k+1):=by
    rw[List.drop_eq_getElem_cons<|by rw[M.out];exact t];have:=zzd.1 hx;have⟨Q,K⟩:=this;rw[K]
   rw[S]at a;have y:=ah a;have U:(0:Int)<=k:=dp;have V:(k:Int)<m:=dp;clear a S hx W;go_wp2_with fail;apply(KA B p h E (n+k) r b j dr x wr D.out dp O).mono;rintro e o ⟨rfl,⟨mj,nG,kR,nT⟩,cY⟩;have H:=ah kR;have L:Hid (qQ p w o):=F.out.trans<|D.out.Xr kR cY (λq f _=>f) nT;clear kR nT cY;by_cases c:(dr.tell ⟨3,x,gW,gW⟩).2=0
   .rw[c,aT];go_wp2;go_roundw;.refine⟨k+1,dp,eR,⟨mj,_,r,nG,H.out,?_⟩,L.out⟩;rw[y.out];show(if _ then _ else _)=_;rw[oo c]
    case measure=>simp[intOf];omega
   .rw[aV c];go_wp2;go_ret;have e:d.removeAll l=dr.tell ⟨3,x,gW,gW⟩:=by
     rw[y.out];show(if _ then _ else _)=_;rw[mE c]
    rw[e];exact⟨by rw[aV c];rfl,⟨mj,r,nG,H.out.fW dp hn⟩,L.out⟩
  .obtain rfl:k=m:=dp;have e:d.removeAll l=dr.sync:=by
    rw[a,List.drop_of_length_le<|by rw[M.out];exact zzc _];rfl
   have y:=ah e;clear a e W;go_wp2_with fail;apply(sr B p h E (n+k) r b j dr wr D.out).mono;rintro e o ⟨rfl,⟨mj,nK,kR,nT⟩,cY⟩;have G:Hid (nW B p h E (n+k) (d.removeAll l) w (.returned<|bB dr.sync.2) o):=by
    show nW _ _ _ _ _ _ _ _ _;rw[y.out];exact⟨rfl,⟨mj,nK,b,kR⟩,F.out.trans<|D.out.Xr kR cY (λq f _=>by simp at f;obtain e|e:=f<;>simp[e]) nT⟩
   clear kR nT cY;go_wp2;go_ret;exact G.out
def au.wr(l:au)(d:aj)(r:au × aj × Nat):au × aj × Nat :=
 if l.failed=0 then ({ r.1 with failed:=r.2.2 },r.2.1,r.2.2) else (l,d,l.failed)
theorem Nf(p:Nat)(w:nL):(binOp .eql 137 (fS p) .nilIface).run prog w=.ok (.bool false) w:=eu
theorem aM.fail{e:Nat}(a:aM w B b p h N pv s v l d n D e)(f:w'=w.setCell (hP b 6) (bB c)):aM w' B b p h N pv s v {l with failed:=c} d n D e/\Fr [b] w w':=by
 subst f;have hf:Fr [b] w (w.setCell ⟨b,6,none⟩<|bB c):=Fr.cG (by simp) _ _;refine⟨a.KO hf ?_ a.eJ a.iC a.kQ a.iO a.nU rfl rfl,hf⟩;simpa using aF a.blk 6<|bB c
theorem aaz(B a p D N n r s j i g o base Z:Nat)(pv t v:Value)(l:au)(d:aj)(W:List Nat)(w:nL)(h:aM w B a p D N pv t v l d n r s)(hn:n+1<1000000000)(E:2<=B)(M:l.filled<600->l.segs≠[])
  (x:w.heap[Z]?=some (.cells #[.func (.func 157) #[gx a] #[],.func (.func 158) #[] #[gx j,gx i]] 147))
  (z:w.heap[j]?=some (.cells #[gx a] 66)) (A:w.heap[i]?=some (.cells #[.slice (some<|gi g) W.length o] 217))
  (y:w.ownsRow base 5 1 (.slice (some<|gi g) W.length o) W.length<|bs W) (G:W.length<=4096) (K:dJ w) :
  Calls prog 156 #[gx a,.slice (some<|gi Z) 2 2] w (lM B a p D N (n+2) [g] (l.wr d<|l.put d W) w):=by
 have C:=af h.blk 0;have m:=af h.blk 6;simp at C m;have I:=ah h;have P:=Nf p;by_cases hf:l.failed=0
 .rw[hf,aT]at m;have e:l.wr d (l.put d W)=({(l.put d W).1 with failed:=(l.put d W).2.2},(l.put d W).2.1,(l.put d W).2.2):=by unfold au.wr;rw[oo hf]
  rw[e];clear e;go_enter func156,ntmps156;go_wp2_with fail;apply(Xf B a p D N n r s j i g o base Z pv t v l d W w I.out hn E M x z A y G K).mono;rintro e Q ⟨rfl,⟨mj,tV,gM,nK,nG,eK⟩,gq⟩;have H:=ah eK;have O:=ah gq;have F:=af eK.blk 6;have J:=aq eK.blk 6;simp at F;clear eK gq x z A y h;by_cases q:(l.put d W).2.2=0
  .rw[q,aT];go_wp2;go_ret;obtain⟨L,f⟩:=H.out.fail (c:=0) rfl;unfold lM;simp only;rw[q];exact⟨rfl,⟨mj,tV,gM,nK,nG,L⟩,O.out.trans<|H.out.ofx L f (by intro k b _;simp at b;simp[b]) (bU.refl _ _) (bU.refl _ _)<|bU.refl _ _⟩
  .have he:=aV q;obtain⟨L,f⟩:=H.out.fail (c:=(l.put d W).2.2) rfl;rw[he]at L f ⊢;have u:=ah L;clear L;go_wp2;go_ret;exact⟨by simp only;rw[he];rfl,⟨mj,tV,gM,nK,nG,u.out⟩,O.out.trans<|H.out.ofx u.out f (by intro k b _;simp at b;simp[b]) (bU.refl _ _) (bU.refl _ _)<|bU.refl _ _⟩
 .rw[aV hf]at m;have e:l.wr d (l.put d W)=(l,d,l.failed):=by unfold au.wr;rw[mE hf]
  rw[e];go_enter func156,ntmps156;go_wp2;go_ret;exact⟨by simp only;rw[aV hf];rfl,⟨pv,t,v,r,s,(I.out.more dp).more dp⟩,(mJ.refl _ _ _).x⟩
theorem foldl_push(l:List UInt8)(a:nS):(l.foldl (λr n=>r.push n) a).data.toList=a.data.toList++l:=by
 induction l generalizing a with
 |nil=>simp
 |cons x l ih=>simp_all
theorem Hi(s:nS):str (bytesOf s)=s:=by
 have h:str (bytesOf s)=s.data.toList.foldl (λr n=>r.push n) gW:=by
  unfold str bytesOf;rw[List.map_map,List.foldl_map];congr 1;funext r n;simp
 have b:=foldl_push s.data.toList gW;rw[<-h]at b;have a:(str<|bytesOf s).data=s.data:=by simp_all
 cases c:str<|bytesOf s
 cases s;rw[c]at a;simp at a;rw[a]
def au.append(l:au)(d:aj)(kind:Nat)(s:nS):au × aj × Nat × Nat :=
 if 255<s.size then (l,d,0,1)
 else if (l.wr d (l.put d (aB l.next kind (bytesOf s)))).2.2=0 then
  ({ (l.wr d (l.put d (aB l.next kind (bytesOf s)))).1 with filled:=(l.wr d (l.put d (aB l.next kind (bytesOf s)))).1.filled+(15+s.size),recs:=(l.wr d (l.put d (aB l.next kind (bytesOf s)))).1.recs++[⟨(l.wr d (l.put d (aB l.next kind (bytesOf s)))).1.next,kind,bytesOf s⟩],next:=(l.wr d (l.put d (aB l.next kind (bytesOf s)))).1.next+1 },
   (l.wr d (l.put d (aB l.next kind (bytesOf s)))).2.1,(l.wr d (l.put d (aB l.next kind (bytesOf s)))).1.next,0)
 else ((l.wr d (l.put d (aB l.next kind (bytesOf s)))).1,(l.wr d (l.put d (aB l.next kind (bytesOf s)))).2.1,0,(l.wr d (l.put d (aB l.next kind (bytesOf s)))).2.2)
theorem KS(h:(l.put d W).2.2=0):(l.put d W).1.filled<600:=by grind[au.put,au.room]
theorem OO(h:(l.wr d<|l.put d W).2.2=0):(l.wr d<|l.put d W).1.filled<600:=by grind[au.wr,KS]
def E6(B l p D N n:Nat)(r:au × aj × Nat × Nat)(w:nL)(e:Ending)(w':nL):Prop :=
 e=.returned (.tuple #[.int .u64 (r.2.2.1:Int),bB r.2.2.2])/\(∃pv s v a b,aM w' B l p D N pv s v r.1 r.2.1 n a b)/\mJ l p w w'
theorem aM.new(a:aM w B b p h N pv s v l d n D c)(hf:Fr [] w w'):aM w' B b p h N pv s v l d n D c:=
 a.turned (a.bP.new hf) hf dv (zzc _)
theorem aM.zS(a:aM w B b p h N pv s v l d n D c)(hf:Fr [] w w'):mJ b p w w':=
 a.C0 (a.new hf) hf dv (.inl rfl) (bU.refl _ _) (bU.refl _ _) (bU.refl _ _)
theorem KT(B b p D N n f g kind:Nat)(pv i v:Value)(l:au)(d:aj)(s:nS)(w:nL)(h:aM w B b p D N pv i v l d n f g)(c:255<s.size)(hn:n+1<1000000000):
  Calls prog 98 #[gx b,.int .u8 (kind:Int),.string s] w (E6 B b p D N (n+2) (l.append d kind s) w):=by
 have e:l.append d kind s=(l,d,0,1):=by unfold au.append;rw[oo c]
 rw[e];have M:=(zza.1 h.blk).1;have c4:=af h.blk 4;simp at c4;have k:∀o,(w.alloc o).cell? ⟨b,4,none⟩=some (.int .u64 (l.next:Int)):=λo=>(zze<|zzf w o b M).trans c4
 have I:=ah h;clear h e;go_enter func98,ntmps98;go_wp2_with fail;apply(KE (l.next:Int) (kind:Int) s _ c).mono;rintro e j ⟨rfl,dB⟩;have Y:Fr [] w j:=((fU w).alloc _).trans<|Fr.bE dB [];clear dB;go_wp2;go_ret2;have H:Fr [] w (j.alloc<|.cells #[.slice none 0 0] 217):=Y.alloc _;exact⟨rfl,⟨pv,i,v,f,g,((I.out.new H).more dp).more dp⟩,I.out.zS H⟩
theorem Ni:(Tryz.prog.info? 9).map (λi=>(i.zero,i.size,i.bytes))=some (some<|.string gW,1,16):=eu
theorem Hq(l:List nS)(x:nS):fZ (l++[x])=fZ l++[.string x]:=by simp[fZ]
theorem zn{ops:Array Oper}{rest:List Oper}{a:Act}(D:o.guard=none)(s x:Operand)
  (d:o.op=.call {callee:=.builtin .append,args:=#[s,x],argTypes:=#[178,178]})
  (base:Nat) (v:Value) (n:Nat) (l:List nS) (r:nS) (b:Nat) (e:a.eval s=v) (M:w.ownsRow base 9 1 v n<|fZ l) (hx:a.eval x=.slice (some<|gi b) 1 1)
  (hb:w.cell? (gi b)=some (.string r)) (hn:n<=1073741824) (B:base<=w.heap.size)
  (h:∀c w',w'.ownsRow base 9 1 c (n+1) (fZ<|l++[r])->w.grownBy w' v.ownBlock->wpList prog ops Q rest (a.put o.dst c) w'):wpList prog ops Q (o::rest) a w:=by
 have⟨k,i,f,g,j⟩:=tO Ni;refine wpList_append_own _ D s x 178 d base 9 k _ 1 16 underlying178 i f g j rfl du v n (fZ l) e M (gi b) 1 1 [.string r] hx rfl ?_ ?_ eE dp B ?_
 .intro jj u fK;match jj,fK with
  |0,fK=>simp at fK;subst fK;simpa [Addr.add]using hb
 .intro u hu;simp at hu;subst hu;rfl
 .intro c w' qy EV _;refine h c w' ?_ EV;rw[Hq];exact qy
theorem wP(s f m cs:Nat)(l:List Nat)(w:nL)(h:l.length=m)(D:m<=1000000000)(c:∀(k x:Nat),l[k]?=some x->w.cell? (hP s<|f+k)=some (.int .u64 (x:Int))/\x<2^64)(d:s<w.heap.size)(K:dJ w)(b:1<w.heap.size):
  Calls prog 165 #[.slice (some<|hP s f) m cs] w λe w'=>∃v,e=.returned v/\w'.ownsRow w.heap.size 9 1 v m (fZ<|l.map aw)/\Below w.heap.size w w':=by
 have L:=ah h;have C:=ah c;have P:=ah K;clear h c K;go_enter func165,ntmps165
 go_wp2
 go_loopw [3,8] (λv i wr=>∃k:Nat,k<=m/\i=.int .i64 k/\wr.ownsRow w.heap.size 9 1 v k (fZ<|(l.take k).map aw)/\Below w.heap.size w wr) (λ_ i _=>m-(intOf i).toNat)
 case atStart=>exact⟨0,zzs _,rfl,zzu _ _ _ _,zzD _ _⟩
 case round=>
  obtain⟨k,A,rfl,M,hb⟩:=hrel;by_cases W:k<m
  .obtain⟨x,hx⟩:∃x,l[k]?=some x:=⟨_,zzg<|by rw[L.out];exact W⟩;have⟨c1,c2⟩:=C.out k x hx;have c3:=(hb.cell d).trans c1;have X:=ah hx;have O:=ah M;have B:=ah hb;have y:=P.out.cZ<|hb.block 1 b;have F:(0:Int)<=k:=dp
   have G:(k:Int)<m:=dp;have r:=hb.size;clear hx c1 M hb;go_wp2_with fail;apply(gS x wr c2 y).mono;rintro e a ⟨rfl,dB⟩;have E:=dB.size;have g:=ar O.out (Fr.bE dB []) dv;have z:=ah<|B.out.trans<|dB.mono r;have Y:=ah g;clear dB g
   go_wp2_with (at_builtin;refine zn rfl _ _ rfl w.heap.size u3 k ((l.take k).map aw) (aw x) a.heap.size rfl (Y.out.alloc _) rfl dv dp ef ?_;intro H u n o)
   have R:Below w.heap.size w u:=(z.out.alloc (by omega) _).grown o ef λq j=>(Y.out.lt q j).1;clear o
   go_roundw;case rel=>
    refine⟨k+1,dp,eR,?_,R⟩;rw[vV,X.out]
    simpa using n
   case measure=>simp[intOf];omega
  .obtain rfl:k=m:=dp;have t:=zzt (by rw[L.out];exact zzc _);rw[t]at M;go_wp2;go_ret;exact⟨u3,rfl,M,hb⟩
theorem Hr(w:nL):Calls prog 165 #[.slice none 0 0] w λe w'=>e=.returned (.slice none 0 0)/\w'=w:=by
 go_enter func165,ntmps165;go_wp2;apply Bn 1;rw[wk];go_wp2;go_ret;exact⟨rfl,rfl⟩
theorem removeAll_nil(B p D N n c a:Nat)(pv:Value)(d:aj)(w:nL)(h:aC w B p D N pv d n c a):
  Calls prog 142 #[fS p,.slice none 0 0] w (nW B p D N n (d.removeAll []) w):=by
 have I:=ah h;have m2:=Nc;clear h;go_enter func142,ntmps142;go_wp2;apply Bn 1;rw[wk];go_wp2_with fail;apply(sr B p D N n c a pv d w I.out).mono;rintro e f ⟨rfl,⟨mj,nK,kR,nT⟩,cY⟩;have H:Hid (nW B p D N n (d.removeAll []) w (.returned<|bB d.sync.2) f):=⟨rfl,⟨mj,nK,a,kR⟩,I.out.Xr kR cY (λq b _=>by simp at b;obtain e|e:=b<;>simp[e]) nT⟩;clear kR nT cY;go_wp2;go_ret;exact H.out
theorem SC{a:Act}{K:Act->nL->Prop}(s x:Operand)
  (d:o.op=.call {callee:=.builtin .append,args:=#[s,x],argTypes:=#[35,35]})
  (base:Nat) (v:Value) (n:Nat) (rs:List Rec) (r:Rec) (b:Nat) (e:a.eval s=v) (M:w.ownsRow base 89 3 v n<|cM rs) (hx:a.eval x=.slice (some<|gi b) 1 1)
  (l:w.cell? (gi b)=some (.int .u64 (r.cW:Int))) (kn:w.cell? (hP b 1)=some (.int .u8 (r.kind:Int))) (iy:w.cell? (hP b 2)=some (.string<|str r.pay)) (hn:n<=4398046511103) (B:base<=w.heap.size)
  (h:∀c w',w'.ownsRow base 89 3 c (n+1) (cM<|rs++[r])->w.grownBy w' v.ownBlock->(c.ownBlock=v.ownBlock\/c.ownBlock=some w.heap.size)->K (a.put o.dst c) w'):o.wp prog a w K Q:=by
 have⟨k,i,f,g,j⟩:=tO Ak;refine gV s x 35 d base 89 k _ 3 32 underlying35 i f g j rfl du v n (cM rs) e M (gi b) 1 1 (dQ r) hx rfl ?_ ?_ eE dp B ?_
 .intro jj u fK;match jj,fK with
  |0,fK=>simp[dQ]at fK;subst fK;simpa [Addr.add]using l
  |1,fK=>simp[dQ]at fK;subst fK;simpa [Addr.add]using kn
  |2,fK=>simp[dQ]at fK;subst fK;simpa [Addr.add]using iy
 .intro u hu;simp[dQ]at hu;obtain rfl|rfl|rfl:=hu<;>rfl
 .intro c w' qy EV zh;refine h c w' ?_ EV zh;rw[Bi];exact qy
theorem aM.Xh{i:nL}{f u:Nat}{m:Value}{A:Obj}{r:Rec}(a:aM w B f p h N pv s m l d n D u)(hn:n<1000000000)(j:(w.alloc A).drew.grownBy i m.ownBlock)(t:i.ownsRow B 89 3 v (l.recs.length+1)<|cM<|l.recs++[r])(S:bU w.heap.size m v):
  aM (i.setCell (hP f 3) v) B f p h N pv s v {l with recs:=l.recs++[r]} d (n+1) D u/\mJ f p w (i.setCell (hP f 3) v)/\Fr (f::m.ownBlock.toList) w (i.setCell (hP f 3) v):=by
 have M:i.heap[f]?=some (o0 p s m l):=(Sx a j (aQ a.recs a.blk du) 0).2.2;have⟨W,q⟩:∃W,W=i.setCell ⟨f,3,none⟩ v:=⟨_,rfl⟩;rw[<-q];have x:Fr [f] i W:=by rw[q];exact Fr.cG dv _ _
 have hf:Fr (f::m.ownBlock.toList) w W:=((((Fr.refl _ w).alloc _).drew).trans<|(Fr.cA j).mono λk _ b=>Ds _ b).trans<|x.mono<|by intro k _ b;simp at b;simp[b]
 have hb:W.heap[f]?=some (o0 p s v {l with recs:=l.recs++[r]}):=by
  rw[q];have:=aF M 3 v;simpa using this
 have y:W.ownsRow B 89 3 v (l.recs++[r]).length (cM<|l.recs++[r]):=by
  have:=ar t x λg j=>by simp;intro e;subst e;exact aQ t M du j
  simpa using this
 have z:W.ownsRow B 34 1 s l.segs.length (fC l.segs):=ar a.segs hf (λg j o=>by
  obtain e|o:=zzj.1 o
  .subst e;exact aQ a.segs a.blk du j
  .simp at o;have⟨c,U⟩:=aL a.recs o;exact aQ a.segs U du j)
 have L:=a.rows (n':=n+1) hf (by intro k b _;rcases zzj.1 b with e|b;exact .inl e;simp at b;exact .inr<|.inr b) hb z y (by omega) (by omega)
  ⟨by have:=a.eJ.1;simp;omega,a.eJ.2⟩ (by have:=a.iC;simp;omega) a.kQ (by have:=a.iO;simp;omega) a.nU
 exact⟨L,a.C0 L hf (by intro k b _;obtain e|b:=zzj.1 b;simp[e];simp at b;simp[b]) (.inl rfl) (bU.refl _ _) (bU.refl _ _) S,hf⟩
theorem Hj(B f p J K n nD nN kind:Nat)(pv sv rv:Value)(l:au)(d:aj)(s:nS)(w:nL)(h:aM w B f p J K pv sv rv l d n nD nN)(hs:s.size<=255)(y:kind<256)(hn:n+2<1000000000)(hB:2<=B)(uM:l.filled<600->l.segs≠[])(dK:dJ w):
  Calls prog 98 #[gx f,.int .u8 (kind:Int),.string s] w (E6 B f p J K (n+3) (l.append d kind s) w):=by
 have qM:=(zza.1 h.blk).1;have c4:=af h.blk 4;simp at c4;have ba:∀o,(w.alloc o).cell? ⟨f,4,none⟩=some (.int .u64 (l.next:Int)):=λo=>(zze (a:=⟨f,4,none⟩)<|zzf w o f qM).trans c4
 have kB:l.next<18446744073709551616:=by have:=h.iO;omega
 have HI:=ah h;have bt:=h.bP.base.2.2.2;clear h;go_enter func98,ntmps98;go_wp2_with fail;refine(zj l.next kind s _ hs y kB).mono ?_;rintro e m ⟨g,rfl,hg,aW,dB⟩;rw[zzv]at dB hg aW;have cY:Fr [] w m:=((fU w).alloc _).trans (Fr.bE (by rw[zzv];exact dB) []);have D:m.heap[w.heap.size]?=some (.cells #[.pointer<|some ⟨f,0,none⟩] 66):=(dB.block w.heap.size (by omega)).trans<|oz w _;have nA:=(r9 aW).2;have hlen:(aB l.next kind<|bytesOf s).length=11+s.size+4:=by rw[gu,iZ];omega
 have V':=ah D;have b4:=ah aW;have uL:=ah cY;have KV:=ah hlen;have b0:=af D 0;simp at b0;have aA:w.heap.size<m.heap.size:=(zza.1 D).1;have b':∀o,(m.alloc o).cell? ⟨w.heap.size,0,none⟩=some (.pointer<|some ⟨f,0,none⟩):=λo=>(zze (a:=⟨w.heap.size,0,none⟩)<|zzf m o _ aA).trans b0
 clear dB aW cY D hlen c4 ba;go_wp2_with fail;obtain⟨u,C⟩:∃u,u=(m.alloc<|.cells #[.slice (some ⟨g,0,none⟩) (11+s.size+4)<|15+s.size] 217).alloc (.cells #[.func (.func 157) #[.pointer<|some ⟨f,0,none⟩] #[],.func (.func 158) #[] #[.pointer<|some ⟨w.heap.size,0,none⟩,.pointer<|some ⟨m.heap.size,0,none⟩]] 147):=⟨_,rfl⟩;rw[<-C];have U:Fr [] w u:=by rw[C];exact(uL.out.alloc _).alloc _
 have bc:u.heap.size=m.heap.size+1+1:=by rw[C];simp
 have cf:u.heap[m.heap.size+1]?=some (.cells #[.func (.func 157) #[.pointer<|some ⟨f,0,none⟩] #[],.func (.func 158) #[] #[.pointer<|some ⟨w.heap.size,0,none⟩,.pointer<|some ⟨m.heap.size,0,none⟩]] 147):=by
  rw[C];have:=oz (m.alloc<|.cells #[.slice (some ⟨g,0,none⟩) (11+s.size+4)<|15+s.size] 217)<|.cells #[.func (.func 157) #[.pointer<|some ⟨f,0,none⟩] #[],.func (.func 158) #[] #[.pointer<|some ⟨w.heap.size,0,none⟩,.pointer<|some ⟨m.heap.size,0,none⟩]] 147;rw[zzv]at this;exact this
 have wm:u.heap[m.heap.size]?=some (.cells #[.slice (some ⟨g,0,none⟩) (11+s.size+4)<|15+s.size] 217):=by
  rw[C,zzf _ _ _ dv];exact oz _ _
 have D:u.heap[w.heap.size]?=some (.cells #[.pointer<|some ⟨f,0,none⟩] 66):=by
  rw[C,zzf _ _ _ (by simp;omega),zzf _ _ _ aA];exact V'.out
 have ax:u.ownsRow (w.heap.size+1+1) 5 1 (.slice (some ⟨g,0,none⟩) (11+s.size+4)<|15+s.size) (11+s.size+4) (bs<|aB l.next kind<|bytesOf s):=by rw[C];exact(b4.out.alloc _).alloc _
 have av:dJ u:=dK.cZ (U.block 1 dp dv);have x:=aaz B f p J K n nD nN w.heap.size m.heap.size g (15+s.size) (w.heap.size+1+1) (m.heap.size+1) pv sv rv l d (aB l.next kind<|bytesOf s) u (HI.out.new U) dp hB uM cf D (by rw[KV.out];exact wm) (by rw[KV.out];exact ax) (by rw[KV.out];omega) av;refine x.mono ?_;clear x cf wm ax av C;obtain⟨R,hR⟩:∃R,R=l.wr d (l.put d<|aB l.next kind<|bytesOf s):=⟨_,rfl⟩;have HR:=ah hR.symm;rw[<-hR];clear hR;rintro e w2 ⟨rfl,⟨CG,SE,J8,DM,C1,eL⟩,ik⟩;have bl:=ah U
 have wj:mJ f p w w2:=by
  have L:=(HI.out.zS U).x.trans ik;exact⟨L.os,L.tape,L.output,L.size,λk y hn=>L.block k y hn ef,L.stay⟩
 have HO:=ah wj;have H2:=ah eL;have E7:w2.heap[w.heap.size]?=some (.cells #[.pointer<|some ⟨f,0,none⟩] 66):=(ik.block w.heap.size (by omega) ((HI.out.new U).free D du du du du du) (by simp;omega)).trans D;have b5:=ah E7;have v:=af E7 0;have k2:=af eL.blk 2;have E:=af eL.blk 3;have A:=af eL.blk 4;have g2:=aq eL.blk 2;have g3:=aq eL.blk 3;have g4:=aq eL.blk 4;simp at v k2 E A;have bu:m.heap.size+1+1<=w2.heap.size:=by have:=ik.size;omega
 have b6:f<w2.heap.size:=dp;clear ik eL wj E7 D U b0 b' bc;by_cases x:R.2.2=0
 .rw[x,aT];go_wp2
  go_cut [11]from 37 to 44 (λbg G=>∃rb,bg=.pointer (some ⟨rb,0,none⟩)/\w2.heap.size<=rb/\G.heap[rb]?=some (.cells #[.int .u64 (R.1.next:Int),.int .u8 (kind:Int),.string s] 89)/\Fr [] w2 G)
  case first=>
   have dA:∀o,(w2.alloc o).cell? ⟨w.heap.size,0,none⟩=some (.pointer<|some ⟨f,0,none⟩):=λo=>(zze (a:=⟨w.heap.size,0,none⟩)<|zzf w2 o w.heap.size dp).trans v
   have kA:∀o,(w2.alloc o).cell? ⟨f,4,none⟩=some (.int .u64 (R.1.next:Int)):=λo=>(zze (a:=⟨f,4,none⟩)<|zzf w2 o _ b6).trans A
   have n1:=World.new_ne w2 ⟨w.heap.size,0,none⟩ v;have n2:=World.new_ne w2 ⟨f,4,none⟩ A
   go_region_held3 (λw'=>w'.cell? ⟨w.heap.size,0,none⟩=some (.pointer<|some ⟨f,0,none⟩)/\w'.cell? ⟨f,4,none⟩=some (.int .u64 (R.1.next:Int)))
    (go_keep)
    (first|(go_at_call 160;refine(SB s (w2.alloc<|.cells #[.int .u64 0,.int .u8 0,.string ⟨#[]⟩] 89).drew dp).mono ?_;rintro e r ⟨rfl,iL⟩;have m0:r.cell? ⟨w.heap.size,0,none⟩=some (.pointer<|some ⟨f,0,none⟩):=(iL.cell (p:=⟨w.heap.size,0,none⟩) ef).trans<|dA _;have m4:r.cell? ⟨f,4,none⟩=some (.int .u64 (R.1.next:Int)):=(iL.cell (p:=⟨f,4,none⟩) ef).trans<|kA _;have Q:r.cell? ⟨w2.heap.size,0,none⟩=some (.int .u64 0):=(iL.cell (p:=⟨w2.heap.size,0,none⟩) dv).trans dv;have T:r.cell? ⟨w2.heap.size,1,none⟩=some (.int .u8 0):=(iL.cell (p:=⟨w2.heap.size,1,none⟩) dv).trans dv;have V:r.cell? ⟨w2.heap.size,2,none⟩=some (.string ⟨#[]⟩):=(iL.cell (p:=⟨w2.heap.size,2,none⟩) dv).trans dv;have rf:∀i,r.frozen? ⟨w2.heap.size,i,none⟩=false:=(λi=>(iL.frozen (p:=⟨w2.heap.size,i,none⟩) dv).trans dv))|(go_at_call 160;refine(SB s w2.drew dp).mono ?_;rintro e r ⟨rfl,iL⟩;have m0:r.cell? ⟨w.heap.size,0,none⟩=some (.pointer<|some ⟨f,0,none⟩):=(iL.cell (p:=⟨w.heap.size,0,none⟩) ef).trans v;have m4:r.cell? ⟨f,4,none⟩=some (.int .u64 (R.1.next:Int)):=(iL.cell (p:=⟨f,4,none⟩) ef).trans A))
   .go_wp2_with fail;go_meet;case rel=>
     have fu:=((fU w2).drew).trans<|Fr.bE iL [];exact⟨r.heap.size,rfl,fu.size,oz _ _,fu.alloc _⟩
   .go_wp2_with fail;go_meet;case rel=>
     have fu:=(((fU w2).alloc _).drew).trans<|Fr.bE iL [];have hz:r.heap[w2.heap.size]?=some (.cells #[.int .u64 0,.int .u8 0,.string ⟨#[]⟩] 89):=(iL.block w2.heap.size dv).trans<|oz w2 _;refine⟨w2.heap.size,rfl,zzc _,?_,((fu.setCell (Or.inr<|zzc _) _).setCell (Or.inr<|zzc _) _).setCell (Or.inr<|zzc _) _⟩;have:=aF (aF (aF hz 0<|.int .u64 (R.1.next:Int)) 1<|.int .u8 (kind:Int)) 2<|.string s
     simpa using this
  case rest=>
   obtain⟨rb,b7,bo,S,M⟩:=hcut;subst b7;have Z:=H2.out.new M;have ag:=HO.out.trans<|H2.out.zS M;have a1:wc.heap[w.heap.size]?=some (.cells #[.pointer<|some ⟨f,0,none⟩] 66):=(M.block w.heap.size dp dv).trans b5.out;have F:=ah Z;have b2:=ah ag;have ab:=ah S;have aE:=ah a1;have v:=af a1 0;have k2:=af Z.blk 2;have E:=af Z.blk 3;have A:=af Z.blk 4;have g2:=aq Z.blk 2;have g3:=aq Z.blk 3;have g4:=aq Z.blk 4;have Q:=af S 0;have T:=af S 1;have V:=af S 2;simp at v k2 E A Q T V;have bz:=M.size;have bp:f<wc.heap.size:=dp
   have nT:f≠w.heap.size:=dp;have sA:f≠rb:=dp;have bq:w.heap.size≠rb:=dp;clear Z ag a1 S M;have pN:R.1.filled<600:=by have:=HR.out;rw[<-this]at x ⊢;exact OO x
   go_wp2;obtain⟨j,N⟩:∃j,j=({R.1 with filled:=R.1.filled+(15+s.size)}:au):=⟨_,rfl⟩;have hF:(R.1.filled:Int)+(11+(s.size:Int)+4)=(j.filled:Int):=by rw[N];simp;omega
   rw[hF];obtain⟨W,Nh⟩:∃W,W=wc.setCell ⟨f,2,none⟩ (.int .i64 (j.filled:Int)):=⟨_,rfl⟩;rw[<-Nh];have P:Fr [f] wc W:=by rw[Nh];exact Fr.cG dv _ _
   have wu:W.heap[f]?=some (o0 p SE J8 j):=by rw[Nh,N];have:=aF F.out.blk 2<|.int .i64 ((R.1.filled+(15+s.size):Nat):Int);simp at this ⊢;exact this
   have a7:aM W B f p J K CG SE J8 j R.2.1 (n+2) DM C1:=F.out.KO P wu (by rw[N];exact F.out.eJ) (by rw[N];exact F.out.iC) (by rw[N];simp;omega) (by rw[N];exact F.out.iO) (by rw[N];exact F.out.nU) (by rw[N]) (by rw[N]);have H:=ah a7;have b1:Hid (mJ f p w W):=b2.out.trans (F.out.C0 a7 P (by intro k y _;simp at y;simp[y]) (.inl rfl) (bU.refl _ _) (bU.refl _ _)<|bU.refl _ _);have a8:W.heap[w.heap.size]?=some (.cells #[.pointer<|some ⟨f,0,none⟩] 66):=(P.block w.heap.size dp ef).trans aE.out;have uO:rb<wc.heap.size:=(zza.1 ab.out).1;have O:W.heap[rb]?=some (.cells #[.int .u64 (R.1.next:Int),.int .u8 (kind:Int),.string s] 89):=(P.block rb uO ef).trans ab.out;have a':=ah a8;have b8:=ah O;have bx:=P.size;clear v k2 E A g2 g3 g4 Q T V;have v:=af a8 0;have E:=af wu 3;have A:=af wu 4;have g3:=aq wu 3;have Q:=af O 0;have T:=af O 1;have V:=af O 2;have ae:j.next=R.1.next:=by rw[N]
   simp at v E A Q T V;have bm:=ah ae;have aI:=ah N;have al:∀(b i:Nat) (o:Obj),b<W.heap.size->(W.alloc o).cell? ⟨b,i,none⟩=W.cell? ⟨b,i,none⟩:=λb i o hb=>zze (a:=⟨b,i,none⟩)<|zzf W o b hb
   have bb:∀o,(W.alloc o).cell? ⟨w.heap.size,0,none⟩=some (.pointer<|some ⟨f,0,none⟩):=λo=>(al _ _ o dp).trans v
   have bA:∀o,(W.alloc o).cell? ⟨f,3,none⟩=some J8:=λo=>(al _ _ o dp).trans E
   clear al a7 wu P a8 O hF Nh N ae;have b9:=Hi s;have aX:Hid (J8.ownBlock≠some rb):=λe=>by have:=(H2.out.recs.lt _ e).2;omega
   have j9:∀q c t,W.heap[q]?=some (.cells c t (0,0))->t≠89->J8.ownBlock≠some q:=λq c t hq ht=>aQ H.out.recs hq λe=>ht e.symm
   go_cut [60]from 53 to 62 (λ_ G=>∃Y,aM G B f p J K CG SE Y {j with recs:=j.recs++[⟨R.1.next,kind,bytesOf s⟩]} R.2.1 (n+3) DM C1/\mJ f p w G/\G.heap[w.heap.size]?=some (.cells #[.pointer<|some ⟨f,0,none⟩] 66)/\(J8.ownBlock≠some rb->G.heap[rb]?=some (.cells #[.int .u64 (R.1.next:Int),.int .u8 (kind:Int),.string s] 89)))
   case first=>
    go_region_law (first|(rw[oo<|by rfl];refine SC _ _ rfl B J8 j.recs.length j.recs ⟨R.1.next,kind,bytesOf s⟩ W.heap.size rfl ?_ rfl ?_ ?_ ?_ ?_ ?_ ?_;(exact H.out.recs.alloc _);(simp);(simp);(simp[b9]);(have:=H.out.iC;omega);(have:=H.out.bP.base.2.2.2;simp;omega);intro v4 w4 oX oY nb;obtain⟨q4,A4,rfl⟩:=wF oX;have⟨q1,q2,q3⟩:=Sx H.out oY (aQ H.out.recs H.out.blk du) 3;rw[E]at q1;have e0:w4.cell? ⟨w.heap.size,0,none⟩=some (.pointer<|some ⟨f,0,none⟩):=(zze (a:=⟨w.heap.size,0,none⟩)<|oY.block w.heap.size ef λe=>aQ H.out.recs a'.out du e.symm).trans<|bb _;have G0:Hid (bU W.heap.size J8<|.slice (some ⟨q4,0,none⟩) (j.recs.length+1) A4):=bU.zg nb dv;clear nb))
    all_goals (
     go_wp2_with fail;go_meet;case rel=>
      have⟨t1,t2,t3⟩:=H.out.Xh dp oY oX G0.out;exact⟨_,t1,b1.out.trans t2,(t3.block w.heap.size dp (by intro z;obtain e|z:=zzj.1 z;omega;simp at z;exact j9 _ _ _ a'.out du z)).trans a'.out,λhx=>(t3.block rb dp (by intro z;obtain e|z:=zzj.1 z;omega;simp at z;exact hx z)).trans b8.out⟩)
   case rest=>
    have⟨Y,Xi,ao,k9,ay⟩:=hcut;have ad:=ay aX.out;have d1:=af k9 0;have x4:=af Xi.blk 4;have y4:=aq Xi.blk 4;have bf:=af ad 0;simp at d1 x4 bf;have X:=ah Xi;have b3:=ah ao;have kC:j.next<=n+3:=by have:=H.out.iO;omega
    clear Xi ao k9 ay ad;go_wp2;go_ret2;have e:l.append d kind s=({j with recs:=j.recs++[⟨R.1.next,kind,bytesOf s⟩],next:=j.next+1},R.2.1,R.1.next,0):=by
     unfold au.append;rw[mE dp,HR.out,oo x,aI.out]
    rw[e];have⟨I,aa⟩:∃I,I=wc.setCell ⟨f,4,none⟩ (.int .u64 ((j.next+1:Nat):Int)):=⟨_,rfl⟩;have KN:Fr [f] wc I:=by rw[aa];exact Fr.cG dv _ _
    have Xj:I.heap[f]?=some (o0 p SE Y {j with recs:=j.recs++[⟨R.1.next,kind,bytesOf s⟩],next:=j.next+1}):=by
     rw[aa];have:=aF X.out.blk 4<|.int .u64 ((j.next+1:Nat):Int);simp at this ⊢;exact this
    have rS:aM I B f p J K CG SE Y {j with recs:=j.recs++[⟨R.1.next,kind,bytesOf s⟩],next:=j.next+1} R.2.1 (n+3) DM C1:=X.out.KO KN Xj X.out.eJ X.out.iC X.out.kQ ef X.out.nU rfl rfl;have an:mJ f p w I:=b3.out.trans (X.out.C0 rS KN (by intro k y _;simp at y;simp[y]) (.inl rfl) (bU.refl _ _) (bU.refl _ _)<|bU.refl _ _);rw[aa]at rS an;exact⟨rfl,⟨CG,SE,Y,DM,C1,rS⟩,an⟩
 .rw[aV x];go_wp2;go_ret2;have e:l.append d kind s=(R.1,R.2.1,0,R.2.2):=by unfold au.append;rw[mE dp,HR.out,mE x]
  rw[e];exact⟨by simp only;rw[aV x];rfl,⟨CG,SE,J8,DM,C1,H2.out.more dp⟩,HO.out⟩
end Go.Proofs.YtlgeloebpdmnnaaGreatDoor
