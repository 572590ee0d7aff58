import Derived.Test.YtcalalndmcemiaaGreatDoorC38
set_option maxHeartbeats 8000000
set_option maxRecDepth 100000
namespace Go.Proofs.YtcalalndmcemiaaGreatDoor
open Go.RowKit Go.Maps Tryz Sc
section
open Go.Shelf
variable{ds:List aS}{b c i m:Nat}{o:Option Addr}{v:Value}{w:World}
inductive wT:List (Nat × Nat)->List aS->List Nat->List aS->List Nat->Prop
 |nil (ds:List aS) (ord:List Nat):wT [] ds ord ds ord
 |cons {t wh k:Nat} {x:aS} {r:List (Nat × Nat)} {ds uK:List aS} {ord kD:List Nat}:ds[k]?=some x->x.id=t->(x.what=0\/x.what=wh)->(wh=5/\x.asked=true\/wh=6)->wT r (gL ds k wh) (iT ds ord k wh) uK kD->wT ((t,wh) :: r) ds ord uK kD
def X9(ds:List aS):Prop:=∀(i j:Nat) (x y:aS),ds[i]?=some x->ds[j]?=some y->x.id=y.id->i=j
theorem n9{k wh:Nat}{y:aS}(h:(gL ds k wh)[i]?=some y):∃x,ds[i]?=some x/\y.id=x.id/\y.writes=x.writes/\y.asked=x.asked/\y.seq=x.seq/\y.lost=x.lost:=by
 unfold gL at h;split at h
 .exact⟨y,h,rfl,rfl,rfl,rfl,rfl⟩
 .rename_i x hx;split at h
  .by_cases e:k=i
   .subst e;rw[List.getElem?_set_self (zzd.1 hx).1]at h;cases h;exact⟨x,hx,rfl,rfl,rfl,rfl,rfl⟩
   .rw[List.getElem?_set_ne e]at h;exact⟨y,h,rfl,rfl,rfl,rfl,rfl⟩
  .exact⟨y,h,rfl,rfl,rfl,rfl,rfl⟩
theorem Ma(ds:List aS)(k wh:Nat):(gL ds k wh).length=ds.length:=by
 unfold gL;split
 .rfl
 .split
  .rw[List.length_set]
  .rfl
theorem Mb(ds:List aS)(ord:List Nat)(k wh:Nat):(iT ds ord k wh).length<=ord.length+1:=by
 unfold iT;split
 .omega
 .split
  .simp
  .omega
theorem X9.seen(h:X9 ds)(k wh:Nat):X9 (gL ds k wh):=λi j x y c d e=>by
 obtain⟨x',a,b,-⟩:=n9 c;obtain⟨l,f,g,-⟩:=n9 d;exact h i j x' l a f<|by rw[<-b,<-g];exact e
def Vo(ds:List aS):Prop:=∀x∈ds,x.writes.length<=60000000/\x.id<18446744073709551616
theorem Vo.seen(h:Vo ds)(k wh:Nat):Vo (gL ds k wh):=λx e=>by
 have⟨i,d⟩:=List.getElem?_of_mem e;obtain⟨y,a,b,c,-⟩:=n9 d;rw[b,c];exact h y<|zzh a
structure Qp(c:aU)(ss:List (ag × List bt))(ds:List aS)(ord:List Nat)(uK:List aS)(kD:List Nat):Prop where
 res:wT c.res ds ord uK kD
 ids:X9 ds
 sts:∀x∈uK,(c.tx x.id).state=6->x.what=5
 knows:∀(i:Nat) (s:ag × List bt),ss[i]?=some s->∀y∈s.1.aM,eK uK kD (i+1,y.1,y.2)=true
theorem BC{T:List (Nat×Nat)}(h:w.ownsRow b 157 2 v T.length<|oQ T):∃o c,v=.slice o T.length c/\(∀i x,T[i]?=some x->∃g,o=some ⟨g,0,none⟩/\w.cell? ⟨g,i*2,none⟩=some (.int .u64 (x.1:Int))/\w.cell? ⟨g,i*2+1,none⟩=some (.int .i64 (x.2:Int))):=by
 rcases h.2 with⟨e,l⟩|⟨g,d,r,e,rest⟩
 .refine⟨none,0,by rw[e,l],λi p a=>?_⟩;have:=(zzd.1 a).1;omega
 .refine⟨some ⟨g,0,none⟩,d,e,λi p a=>⟨g,rfl,?_⟩⟩;have y:=λj m=>rj (f:=Tg) (k:=2) (λ_=>rfl) T i p a j m
  exact⟨dC h e<|y 0 bM,dC h e<|y 1 bM⟩
theorem rm{T:List (Nat×Nat)}{x:Nat×Nat}(h:w.ownsRow b 157 2 (.slice o m c) T.length<|oQ T)(j:T[i]?=some x):∃g,o=some ⟨g,0,none⟩/\w.cell? ⟨g,i*2,none⟩=some (.int .u64 (x.1:Int))/\w.cell? ⟨g,i*2+1,none⟩=some (.int .i64 (x.2:Int)):=by
 have⟨d,c',e,a⟩:=BC h;cases e;exact a i x j
theorem FA{T:List (ByteArray×ByteArray)}(h:w.ownsRow b 164 2 v T.length<|nn T):∃o c,v=.slice o T.length c/\(∀i x,T[i]?=some x->∃g,o=some ⟨g,0,none⟩/\w.cell? ⟨g,i*2,none⟩=some (.string x.1)/\w.cell? ⟨g,i*2+1,none⟩=some (.string x.2)):=by
 rcases h.2 with⟨e,l⟩|⟨g,d,r,e,rest⟩
 .refine⟨none,0,by rw[e,l],λi p a=>?_⟩;have:=(zzd.1 a).1;omega
 .refine⟨some ⟨g,0,none⟩,d,e,λi p a=>⟨g,rfl,?_⟩⟩;have y:=λj m=>rj (f:=PJ) (k:=2) (λ_=>rfl) T i p a j m
  exact⟨dC h e<|y 0 bM,dC h e<|y 1 bM⟩
theorem Qq{T:List (ByteArray×ByteArray)}{x:ByteArray×ByteArray}(h:w.ownsRow b 164 2 (.slice o m c) T.length<|nn T)(j:T[i]?=some x):∃g,o=some ⟨g,0,none⟩/\w.cell? ⟨g,i*2,none⟩=some (.string x.1)/\w.cell? ⟨g,i*2+1,none⟩=some (.string x.2):=by
 have⟨d,c',e,a⟩:=FA h;cases e;exact a i x j
def abn(B E n K:Nat)(J O bv:Value)(I:Bool)(G:List Nat)(ps:List (Nat × Value × Value))(uK:List aS)(bC:List bt)(kD:List Nat)(c:aU)(co:List bt)(ss:List (ag × List bt))(w w':World):Prop:=∃l r,ee w' B E J O bv l n I G ps uK bC kD/\jI w' B G { c with res:=[] } co ss K r/\wS B w w'
theorem Qr{L:List (ByteArray×ByteArray)}{y:ByteArray×ByteArray}(h:y∈cX L):y∈L:=by
 unfold cX at h;obtain⟨k,a,rfl⟩:=zzq.1 h;have⟨v,J⟩:=qX.1 a;cases e:ak L k with
 |none=>exact absurd rfl<|kJ.1 e _ J
 |some u=>exact bZ e
section
variable(w:World)(B E n K:Nat)(J O bv U:Value)(I:Bool)(G:List Nat)(ps:List (Nat × Value × Value))(ds uK:List aS)(bC:List bt)(ord kD:List Nat)(c:aU)(co:List bt)(ss:List (ag × List bt))(Z:List (List Nat))
theorem Qs(a1:ee w B E J O bv U n I G ps ds bC ord)(hN:jI w B G c co ss K Z)(hn:n=ss.length)(bB:Qp c ss ds ord uK kD)(hK:K<=300000)(hl:ord.length+c.res.length<=60000000)(eM:ds.length<=60000000)(Bf:Vo ds)(zU:ss.length<=1000)(UM:∀(i:Nat) (s:ag×List bt),ss[i]?=some s->s.1.aM.length<=60000000):
  Calls prog 36 #[cQ E] w λe w'=>e=.returned (.bool true)/\abn B E n K J O bv I G ps uK bC kD c co ss w w':=by
 obtain⟨iu,L0,al,-,-⟩:=hN.co;have⟨ha,hc,Mc,ba⟩:=fP a1.hs;obtain⟨da,dc,b2,-⟩:=fP a1.dl;have Nc:G.length=n+1:=by have:=hN.len.1;omega
 have⟨D,hD⟩:∃x,x=ps.length:=⟨_,rfl⟩;rw[<-hD]at b2;rw[Nc]at Mc;subst Mc b2;obtain⟨gh,rfl,V⟩:=ba 0 iu al;have aH:=Qm hN al;have a6:=ae a1.net 0;simp at a6 V;have rX:n<=1000:=bL;have bl:D<=60000000:=by rw[hD,a1.len];exact eM
 have H:=af<|zzb a1<|zzb hN<|zzb bB<|zzb hn<|zzb hl<|zzb hD<|zzb Bf<|zzb al Nc;have HV:=af (show ∀(i:Nat) (s:ag×List bt),ss[i]?=some s->s.1.aM.length<=60000000 from UM);clear a1 hN bB ba hn hl eM Bf zU al Nc hD UM
 go_enter func36,ntmps36;go_wp2_with fail;apply aH.mono;clear aH;rintro e w1 ⟨v,rfl,tE,⟨Ls1,gX⟩,bh,-⟩;have iP:=H.1.Vm bh;obtain⟨ra,rc,b3,-⟩:=BC tE;have⟨M,hM⟩:=gb c.res.length;rw[<-hM]at b3;subst b3;have bn:M<=60000000:=by have:=H.2.2.2.2.1;omega
 have L:=af<|zzb iP<|zzb gX<|zzb bh<|zzb tE hM;clear iP gX bh tE hM a6 V;go_wp2_with fail
 go_loopw [4] (λi wr=>∃q:Nat,q<=M/\i=.int .i64 (q:Int)/\Hid (∃C F ab,wT (c.res.drop q) C F uK kD/\ee wr B E (.slice (some ⟨gh,0,none⟩) (n+1) hc) (.slice da D dc) bv ab n I G ps C bC F/\pR B w1 wr/\F.length+(M-q)<=60000000/\X9 C/\Vo C)) (λi _=>M-(intOf i).toNat)
 case atStart=>exact⟨0,zzs _,rfl,ds,ord,U,H.2.2.1.res,L.1,pR.new<|lT _,by have:=H.2.2.2.2.1;have:=L.2.2.2.2;omega,H.2.2.1.ids,H.2.2.2.2.2.2.1⟩
 case round=>
  obtain⟨q,hq,rfl,HI⟩:=hrel;by_cases bU:q<M
  .obtain⟨C,F,ab,Zx,W,X_,av,ao,Zy⟩:=HI.out;have⟨⟨t,wh⟩,hx⟩:∃x,c.res[q]?=some x:=⟨_,zzg<|by rw[<-L.2.2.2.2];exact bU⟩
   have FC:c.res.drop q=(t,wh)::c.res.drop (q+1):=by
    have hl:=(zzd.1 hx);rw[List.drop_eq_getElem_cons hl.1,hl.2]
   rw[FC]at Zx;have⟨b,x0,nV,aQ,Ki,Vq,b8⟩:∃k x,C[k]?=some x/\x.id=t/\(x.what=0\/x.what=wh)/\(wh=5/\x.asked=true\/wh=6)/\wT (c.res.drop<|q+1) (gL C k wh) (iT C F k wh) uK kD:=by
    cases Zx;exact⟨_,_,eC,eC,eC,eC,eC⟩
   have az:=X_.row L.2.2.2.1 (by simp[mr]);obtain⟨gr,rfl,r0,o⟩:=rm az hx;have bu:b<D:=by rw[H.2.2.2.2.2.1,W.len];exact(zzd.1 nV).1
   have i0:(0:Int)<=q:=bL;have i1:(q:Int)<M:=bL;have R:=af<|zzb b8<|zzb W<|zzb X_<|zzb av<|zzb ao<|zzb Zy<|zzb nV<|zzb aQ<|zzb Ki<|zzb Vq<|zzb az hx;clear HI Zx b8 W X_ av ao Zy nV aQ Ki Vq FC hx az r0 o;go_wp2_with fail
   go_loopw [5,6] (λf k T=>∃j:Nat,j<=D/\k=.int .i64 (j:Int)/\f=.bool (decide<|b<j)/\Hid (∃Q,ee T B E (.slice (some ⟨gh,0,none⟩) (n+1) hc) (.slice da D dc) bv Q n I G ps (if b<j then gL C b wh else C) bC (if b<j then iT C F b wh else F)/\pR B wr T)) (λ_ k _=>D-(intOf k).toNat)
   case atStart=>exact⟨0,zzs _,rfl,bR,ab,by simp;exact R.2.1,pR.new<|lT _⟩
   case round=>
    obtain⟨j,hj,rfl,rfl,X⟩:=hrel;have⟨Q,a,N⟩:=X.out;have A:=ae a.net 1;simp at A;have m0:=(N.row R.2.2.2.2.2.2.2.2.2.2.1<|by simp[mr]);by_cases aa:j<D
    .obtain⟨⟨pp,sv,wv⟩,hp⟩:∃p,ps[j]?=some p:=⟨_,zzg<|by rw[<-H.2.2.2.2.2.1];exact aa⟩;obtain⟨g1,rfl,z⟩:=dF a.dl hp;simp at z;have j0:(0:Int)<=j:=bL
     have j1:(j:Int)<D:=bL;have⟨y,h⟩:∃y,(if b<j then gL C b wh else C)[j]?=some y:=⟨_,zzg<|by rw[<-a.len,<-H.2.2.2.2.2.1];exact aa⟩;have d0:=ae (a.each j _ y hp h).blk 0;have⟨b6,a8,r0,o⟩:=rm m0 R.2.2.2.2.2.2.2.2.2.2.2
     cases a8;simp at d0 r0 o;by_cases K3:j=b
     .subst K3;rw[if_neg<|Nat.lt_irrefl j]at a h;rw[if_neg<|Nat.lt_irrefl j]at a;have bf:=Option.some.inj<|h.symm.trans R.2.2.2.2.2.2.1;subst bf
      have Vr:∀w',Fr [] wr w'->Calls prog 74 #[cQ E,cQ pp,.int .i64 (wh:Int)] w' λe w3=>e=.returned (.bool true)/\∃jl,ee w3 B E (.slice (some ⟨gh,0,none⟩) (n+1) hc) (.slice (some ⟨g1,0,none⟩) D dc) bv jl n I G ps (gL C j wh) bC (iT C F j wh)/\pR B wr w3:=λw' aw=>by
       apply(Fy w' B E n _ _ bv Q I G ps C bC F j wh _ y (a.new aw) hp h R.2.2.2.2.2.2.2.2.1 (R.2.2.2.2.2.2.2.2.2.1.elim (λe=>.inl e.1) .inr)<|by have:=R.2.2.2.1;omega).mono;rintro e w3 ⟨rfl,jl,h3,h4⟩;exact⟨rfl,jl,h3,(pR.new aw).trans h4⟩
      rw[R.2.2.2.2.2.2.2.1]at d0;have d:=af<|zzb hp<|zzb m0 N;have HS:=af Vr;have bb:=(zza.1 a.net).1;have S:=af a;clear a N h m0 Vr X;go_wp2_with fail
      go_quiet (fail)
      have u:=cw (lT wr) nq;have g:=S.out.new u;have wE:=(pR.new (B:=B) u).row d.2.1 (by simp[mr]);generalize wr.drewN nq=W2 at u g wE ⊢;clear A d0 r0 o z bb;have A:=ae g.net 1;have⟨b5,a7,z⟩:=dF g.dl d.1;cases a7;obtain⟨b6,a8,-,o⟩:=rm wE R.2.2.2.2.2.2.2.2.2.2.2;cases a8;simp at A z o;have HF:=af u;clear u g wE;go_wp2_with fail;go_region_held3 (λw'=>w'.cell? ⟨E,1,none⟩=some (.slice (some ⟨g1,0,none⟩) D dc)/\w'.cell? ⟨g1,j,none⟩=some (cQ pp)/\w'.cell? ⟨gr,q*2+1,none⟩=some (.int .i64 (wh:Int))) (simp[*])
       (first|(go_at_call 74;apply(HS.out _<|HF.out.trans<|by first|exact cw (lT W2) _|exact(lT W2).drew|exact lT W2).mono;rintro e w3 ⟨rfl,Zr,Vn,nI⟩;have A:=ae Vn.net 1;(have⟨b5,a7,z⟩:=dF Vn.dl d.1);cases a7;(obtain⟨b6,a8,-,o⟩:=rm (nI.row d.2.1<|by simp[mr]) R.2.2.2.2.2.2.2.2.2.2.2);cases a8;simp at A z o;have l:=af<|zzb Vn nI;clear Vn nI))
      have⟨y3,aE⟩:∃y3,(gL C j wh)[j]?=some y3:=⟨_,zzg<|by rw[Ma];exact(zzd.1 R.2.2.2.2.2.2.1).1⟩;have a3:=ae (l.1.each j _ y3 d.1 aE).blk 3
      have b':y3.asked=y.asked:=by
       obtain⟨x',e1,-,-,e2,-⟩:=n9 aE;rw[R.2.2.2.2.2.2.1]at e1;cases e1;exact e2
      simp at a3;rw[b']at a3;clear b' aE;rcases R.2.2.2.2.2.2.2.2.2.1 with⟨e5,e6⟩|e6
      .have i5:(wh:Int)=5:=bL;rw[e6]at a3;rw[i5]at o;clear e5 e6 i5;go_wp2_with fail;go_roundw;case rel=>exact⟨j+1,bL,eR,bR,Zr,by rw[if_pos<|Nat.lt_succ_self j,if_pos<|Nat.lt_succ_self j];exact l.1,d.2.2.trans l.2⟩
       case measure=>simp[intOf];omega
      .have i6:(wh:Int)=6:=bL;rw[i6]at o;clear e6 i6;go_wp2_with fail;go_roundw;case rel=>exact⟨j+1,bL,eR,bR,Zr,by rw[if_pos<|Nat.lt_succ_self j,if_pos<|Nat.lt_succ_self j];exact l.1,d.2.2.trans l.2⟩
       case measure=>simp[intOf];omega
     .have hne:¬(y.id:Int)=(t:Int):=by
       intro e;apply K3;have e':y.id=t:=bL;have h8:=R.2.2.2.2.1;by_cases Zz:b<j
       .rw[if_pos Zz]at h;obtain⟨x',e1,e2,-⟩:=n9 h;exact h8 j b x' x0 e1 R.2.2.2.2.2.2.1<|by rw[<-e2,e',R.2.2.2.2.2.2.2.1]
       .rw[if_neg Zz]at h;exact h8 j b y x0 h R.2.2.2.2.2.2.1<|by rw[e',R.2.2.2.2.2.2.2.1]
      have b0:(b<j+1)↔(b<j):=bL;have HX:=af<|zzb a<|zzb N b0;clear a N h m0 X K3 b0;go_wp2_with fail
      go_quiet (fail)
      go_wp2_with fail;go_roundw;case rel=>exact⟨j+1,bL,eR,by rw[decide_eq_decide.2 HX.2.2],Q,by simp only[HX.2.2];exact HX.1.new<|cw (lT _) _,HX.2.1.trans<|pR.new<|cw (lT _) _⟩
      case measure=>simp[intOf];omega
    .have j1:¬(j:Int)<D:=bL;have Zz:b<j:=bL;clear m0;rw[decide_eq_true Zz];go_wp2;go_roundw;case rel=>
      rw[if_pos Zz,if_pos Zz]at a;refine⟨q+1,bL,eR,_,_,Q,R.1,a,R.2.2.1.trans N,?_,R.2.2.2.2.1.seen _ _,R.2.2.2.2.2.1.seen _ _⟩;have:=Mb C F b wh;have:=R.2.2.2.1;omega
     case measure=>simp[intOf];omega
  .have i1:¬(q:Int)<M:=bL;have⟨C,F,ab,Zx,W,X_,av,ao,Zy⟩:=HI.out;have Ed:c.res.drop q=[]:=List.drop_eq_nil_iff.2 (by rw[<-L.2.2.2.2];omega);rw[Ed]at Zx;cases Zx;have a6:=ae W.net 0;simp at a6;have⟨g2,X',V⟩:=dF (f:=id) W.hs H.2.2.2.2.2.2.2.1
   cases X';have nB:=X_.oZ L.2.1;have Vt:=X4 nB H.2.2.2.2.2.2.2.1;have H2:=af<|zzb W<|zzb X_<|zzb Zy nB;have HO:=af (show kD.length<=60000000 by omega);simp at V;have i2:(0:Int)<n+1:=bL
   clear HI Ed W X_ av ao Zy nB;go_wp2_with fail;apply Vt.mono;clear Vt;rintro e w2 ⟨rfl,rfl⟩;go_wp2_with fail;clear a6 V;go_loopw [9] (λk T=>∃j:Nat,j<=D/\k=.int .i64 (j:Int)/\Hid (∃Q,ee T B E (.slice (some ⟨gh,0,none⟩) (n+1) hc) (.slice da D dc) bv Q n I G ps uK bC kD/\pR B w1 T)) (λk _=>D-(intOf k).toNat)
   case atStart=>exact⟨0,zzs _,rfl,ab,H2.1,H2.2.1⟩
   case round=>
    obtain⟨j,hj,rfl,X⟩:=hrel;have⟨Q,a,N⟩:=X.out;have A:=ae a.net 1;have n0:=ae a.net 0;have⟨g2,X',V⟩:=dF a.hs H.2.2.2.2.2.2.2.1;cases X';simp at n0 A V;have Gf:=N.oZ L.2.1;by_cases aa:j<D
    .obtain⟨⟨pp,sv,wv⟩,hp⟩:∃p,ps[j]?=some p:=⟨_,zzg<|by rw[<-H.2.2.2.2.2.1];exact aa⟩;obtain⟨g1,rfl,z⟩:=dF a.dl hp;have⟨y,h⟩:∃y,uK[j]?=some y:=⟨_,zzg<|by rw[<-a.len,<-H.2.2.2.2.2.1];exact aa⟩;have d0:=ae (a.each j _ y hp h).blk 0;simp at z d0;have bd:=H2.2.2.1 y<|zzh h;have G5:=H.2.2.1.sts y<|zzh h;have j0:(0:Int)<=j:=bL
     have j1:(j:Int)<D:=bL;have bG:∀w',Fr [] wr w'->Calls prog 75 #[.pointer<|some ⟨iu,0,none⟩,.int .u64 (y.id:Int)] w' λe w3=>e=.returned (.int .i64 ((c.tx y.id).state:Int))/\w3=w':=λw' aw=>T3 (c:={c with res:=[]}) (Gf.new aw) H.2.2.2.2.2.2.2.1 bd.2
     have⟨st,b1⟩:=gb <|(c.tx y.id).state;rw[<-b1]at bG G5;have HS:=af bG;have S:=af<|zzb a<|zzb N<|zzb hp h;clear a N Gf X bG b1 hp h;go_wp2_with fail
     go_region_held3 (λw'=>w'.cell? ⟨E,0,none⟩=some (.slice (some ⟨gh,0,none⟩) (n+1) hc)/\w'.cell? ⟨gh,0,none⟩=some (cQ iu)/\w'.cell? ⟨E,1,none⟩=some (.slice (some ⟨g1,0,none⟩) D dc)/\w'.cell? ⟨g1,j,none⟩=some (cQ pp)/\w'.cell? ⟨pp,0,none⟩=some (.int .u64 (y.id:Int))) (simp[*])
      (first|(go_at_call 75;apply(HS.out _<|by first|exact cw (lT wr) _|exact(lT wr).drew|exact lT wr).mono;rintro e w3 ⟨rfl,rfl⟩))
     have u:=(lT wr).drew;have g:=S.1.new u;generalize wr.drew=W2 at u g ⊢;clear n0 A V z d0;have A:=ae g.net 1;have⟨b5,a7,z⟩:=dF g.dl S.2.2.1;cases a7;simp at A z;by_cases h6:st=6
     .have h5:=G5 h6;have pA:=Fy W2 B E n _ _ bv Q I G ps uK bC kD j 5 _ y g S.2.2.1 S.2.2.2 (.inr h5)<|.inl rfl
      have X3:gL uK j 5=uK/\iT uK kD j 5=kD:=by
       unfold gL iT;rw[S.2.2.2];simp[h5]
      rw[X3.1,X3.2]at pA;have b9:=S.2.1.trans<|pR.new u;have HW:=af b9;have pA:=pA HO.out;subst h6;clear u g X3 G5 b9;go_wp2_with fail;apply pA.mono;clear pA;rintro e w4 ⟨rfl,ov4,tU,iJ⟩;have H4:=af<|zzb tU<|HW.out.trans iJ;clear tU iJ;go_wp2_with fail
      go_roundw;case rel=>exact⟨j+1,bL,eR,ov4,H4.out⟩
      case measure=>simp[intOf];omega
     .have i6:¬(st:Int)=6:=bL;have H4:=af<|zzb g<|S.2.1.trans<|pR.new u;clear u g G5;go_wp2_with fail
      go_roundw;case rel=>exact⟨j+1,bL,eR,Q,H4.out⟩
      case measure=>simp[intOf];omega
    .have j1:¬(j:Int)<D:=bL;have l:=af<|zzb a<|zzb N Gf;clear a N Gf X;go_wp2_with fail
     go_loopw [12] (λi T=>∃m:Nat,m<=n/\i=.int .i64 ((m:Int)+1)/\Hid (Fr [] wr T)) (λi _=>n+1-(intOf i).toNat);case atStart=>exact⟨0,zzs _,rfl,lT _⟩
     case round=>
      obtain⟨m,hm,rfl,HM⟩:=hrel;have MY:=l.1.new HM.out;have a':=l.2.2.new HM.out;have n4:=ae MY.net 4;have n0:=ae MY.net 0;simp at n4 n0;by_cases uj:m<n
      .obtain⟨⟨sm,om⟩,u9⟩:∃x,ss[m]?=some x:=⟨_,zzg<|by rw[<-H.2.2.2.1];exact uj⟩;obtain⟨uW,Lm,an,-⟩:=a'.sh m _ u9;have⟨g2,X',ad⟩:=dF (f:=id) MY.hs an
       cases X';simp at ad;have Y:=H.2.2.1.knows m _ u9;have b7:=X5 a' u9 an hK;have i0:(0:Int)<=m+1:=bL;have i1:(m:Int)+1<=(n:Int):=bL;have i2:(m:Int)+1<(n:Int)+1:=bL;have i3:((m:Int)+1).toNat=m+1:=bL;have d:=af<|zzb MY<|zzb a'<|zzb u9<|zzb an Y;clear MY a' u9 an Y;go_wp2_with fail;apply b7.mono;clear b7;rintro e w5 ⟨vp,rfl,hrp,cO⟩;obtain⟨pa,pc,b4,-⟩:=FA hrp;have⟨P,hP⟩:=gb <|(cX sm.aM).length;rw[<-hP]at b4;subst b4
       have bp:P<=60000000:=by
        rw[hP];unfold cX;rw[zzn,dR];exact HV.out _ _ d.2.2.1
       have BD:=d.1.new cO;have jG:=d.2.1.new cO;have Vt:=kIs jG d.2.2.1 d.2.2.2.1;clear n0 n4 ad;have n0:=ae BD.net 0;have⟨g2,X',ad⟩:=dF BD.hs d.2.2.2.1;cases X';simp at n0 ad;have H5:=af<|zzb BD<|zzb cO<|zzb hrp hP;clear BD jG cO hrp hP;go_wp2_with fail;apply Vt.mono;clear Vt;rintro e w6 ⟨rfl,rfl⟩;go_wp2_with fail
       go_loopw [15] (λk T=>∃r:Nat,r<=P/\k=.int .i64 (r:Int)/\Hid (Fr [] w6 T)) (λk _=>P-(intOf k).toNat);case atStart=>exact⟨0,zzs _,rfl,lT _⟩
       case round=>
        obtain⟨r,hr,rfl,HQ⟩:=hrel;by_cases bc:r<P
        .obtain⟨⟨k1,v1⟩,hkv⟩:∃x,(cX sm.aM)[r]?=some x:=⟨_,zzg<|by rw[<-H5.2.2.2];exact bc⟩;have aI:=(pR.new (B:=B) HQ.out).row H5.2.2.1 (by simp[mr]);have⟨g7,Qu,bg,v0⟩:=Qq aI hkv;subst Qu;have Y:=L_ wr B E n _ _ bv _ I G ps uK bC kD (m+1) k1 v1 (H5.1.new HQ.out) HO.out λx hx=>(H2.2.2.1 x hx).1;rw[d.2.2.2.2 _<|Qr<|zzh hkv]at Y;have i7:(((m+1:Nat):Int))=(m:Int)+1:=bL
         rw[i7]at Y;have r0:(0:Int)<=r:=bL;have o:(r:Int)<P:=bL;simp only[]at bg v0;clear aI hkv i7;go_wp2_with fail;apply Y.mono;clear Y;rintro e w7 ⟨rfl,fJ⟩;have H7:=af<|HQ.out.trans fJ;clear fJ;go_wp2_with fail
         go_roundw;case rel=>exact⟨r+1,bL,eR,H7.out⟩
         case measure=>simp[intOf];omega
        .have o:¬(r:Int)<P:=bL;go_wp2_with fail;go_roundw;case rel=>exact⟨m+1,bL,eR,HM.out.trans<|H5.2.1.trans HQ.out⟩
         case measure=>simp[intOf];omega
      .have i1:¬(m:Int)+1<=(n:Int):=bL;clear MY a';go_wp2;go_ret;exact⟨rfl,Q,Ls1,l.1.new HM.out,l.2.2.new HM.out,(L.2.2.1.lg.trans<|l.2.1.lg L.1.low.2).trans<|(pR.new HM.out).lg l.1.low.2⟩
end
end
end Go.Proofs.YtcalalndmcemiaaGreatDoor
