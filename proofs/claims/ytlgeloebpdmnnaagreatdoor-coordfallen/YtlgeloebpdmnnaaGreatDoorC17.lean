import Derived.Test.YtlgeloebpdmnnaaGreatDoorC13
set_option maxHeartbeats 16000000
set_option maxRecDepth 100000
namespace Go.Proofs.YtlgeloebpdmnnaaGreatDoor
open Go.RowKit Go.Maps Tryz Sc
theorem ac7(B g n c a b:Nat)(d:Array Nat)(f w:nL)(h:SU f w B g n c d)(Z:a<b)(hb:b<=n)(hn:n<=1000000000):
  Calls prog 326 #[.slice (some<|gi g) n c,.int .i64 (a:Int),.int .i64 (b:Int)] w λe w'=>e=.returned (.tuple #[])/\SU f w' B g n c (Go.Sort.heapSort fR d a b):=by
 have z:=ah h;have⟨m,r⟩:=gb <|b-a;have R:IntKind.i64.wrap ((b:Int)-a)=(m:Int):=eD;have M:=ah r;have Y:1<=m:=dp;have I:a+m<=n:=dp;clear h r;go_enter func326,ntmps326;go_wp2;go_loopw [9] (λi wr=>∃k:Nat,i=.int .i64 ((k:Int)-1)/\k<=(m-1)/2+1/\∃d',SU f wr B g n c d'/\Go.Sort.heapBuild fR m a k d'=Go.Sort.heapBuild fR m a ((m-1)/2+1) d) (λi _=>(intOf i+1).toNat);.refine⟨(m-1)/2+1,?_,dp,d,z.out,rfl⟩;congr 1;omega
 .obtain⟨k,rfl,Q,v,T,U⟩:=hrel;have S:=ah T;have E:=ah U;clear T U
  cases k with
  |zero=>
   rw[show(((0:Nat):Int)-1)=-1 by omega];go_wp2
   go_loopw [10] (λi wr=>∃k:Nat,i=.int .i64 ((k:Int)-1)/\k<=m/\∃d',SU f wr B g n c d'/\Go.Sort.heapPop fR a k d'=Go.Sort.heapSort fR d a b) (λi _=>(intOf i+1).toNat);case atStart=>
    refine⟨m,by first|rfl|(congr 1;omega),dp,v,S.out,?_⟩
    .have he:=E.out;have r:=M.out;rw[Go.Sort.heapBuild]at he;rw[Go.Sort.heapSort,<-r,he]
   .obtain⟨k,rfl,V,j,x,y⟩:=hrel;have H:=ah x;have s:=ah y;clear x y
    cases k with
    |zero=>
     go_wp2;go_end0;refine⟨rfl,?_⟩;rw[<-s.out];exact H.out
    |succ i=>
     have t:(((i+1:Nat):Int)-1)=(i:Int):=dp;rw[t];have J:(0:Int)<=i:=dp;by_cases D:i=0
     .subst D;have c1:=H.out.at (k:=a) (by omega);have C:wr.frozen? ⟨g,a,none⟩=false:=H.out.free _;have A:(a:Int)<n:=dp
      have K:IntKind.i64.wrap (a:Int)=a:=eD;have l:=ah s.out;go_wp2;go_region;all_goals go_wp2_with fail
      all_goals
       obtain⟨o,P⟩:∃W,W=((wr.setCell ⟨g,a,none⟩<|.int .u64 (j[a]!:Nat)).setCell ⟨g,a,none⟩<|.int .u64 (j[a]!:Nat)).drew:=⟨_,rfl⟩;rw[<-P];have q:SU f o B g n c (Go.Sort.swp j a a):=by rw[P];exact(H.out.swp a a).drew
       refine(TX B g n c 0 0 a _ f o q (zzs _) dp hn).mono ?_;rintro e u ⟨rfl,q9⟩;have F:=ah q9;clear q q9 P;go_wp2;refine⟨⟨0,dv,dp,_,F.out,l.out⟩,by simp[intOf]⟩
     .obtain⟨p,hp⟩:∃p,p=a+i:=⟨_,rfl⟩;have K:IntKind.i64.wrap ((a:Int)+i)=(p:Int):=eD;have L:IntKind.i64.wrap ((i:Int)-1)=(i:Int)-1:=eD;have c1:=H.out.at (k:=a) (by omega);have c2:=H.out.at (k:=p) (by omega);have C:wr.frozen? ⟨g,a,none⟩=false:=H.out.free _;have O:wr.frozen? ⟨g,p,none⟩=false:=H.out.free _;have A:(a:Int)<n:=dp
      have N:(p:Int)<n:=dp;have l:Hid (Go.Sort.heapPop fR a i (Go.Sort.siftDown fR i a 0<|Go.Sort.swp j a p)=Go.Sort.heapSort fR d a b):=by rw[hp];exact s.out
      have G:a+i<=n:=dp;have X:a≠p:=dp;have a1:p≠a:=dp;clear hp;go_wp2;go_region;all_goals go_wp2_with fail
      all_goals
       have⟨o,P⟩:∃W,W=((wr.setCell ⟨g,a,none⟩<|.int .u64 (j[p]!:Nat)).setCell ⟨g,p,none⟩<|.int .u64 (j[a]!:Nat)).drew:=⟨_,rfl⟩;rw[<-P];have q:SU f o B g n c (Go.Sort.swp j a p):=by rw[P];exact(H.out.swp a p).drew
       apply(TX B g n c 0 i a _ f o q (zzs _) G hn).mono;rintro e u ⟨rfl,q9⟩;have F:=ah q9;clear q q9 P;go_wp2;refine⟨⟨i,dv,dp,_,F.out,l.out⟩,by simp[intOf]⟩
  |succ i=>
   have J:(0:Int)<=i:=dp;have t:(((i+1:Nat):Int)-1)=(i:Int):=dp;rw[t];have L:IntKind.i64.wrap ((i:Int)-1)=(i:Int)-1:=eD;have l:=ah E.out;go_wp2_with fail;apply(TX B g n c i m a v f wr S.out dp I hn).mono;rintro e u ⟨rfl,q9⟩;have F:=ah q9;clear q9;go_wp2;go_roundw;.exact⟨i,dv,dp,_,F.out,l.out⟩
   .simp[intOf]
section
open Go.Sort (PermIn SortedIn)
variable{d e:Array Nat}{a b:Nat}
def ZJ(d:Array Nat):Prop:=∀i j,i<d.size->j<d.size->d[i]! = d[j]!->i=j
theorem Fz(d:Array Nat):ZJ d↔d.toList.Nodup:=by
 unfold ZJ List.Nodup;rw[DS];constructor<;>grind
theorem zt(hb:b<=d.size)(h:PermIn a b d e):e.toList.Perm d.toList:=by
 have c:=Go.Sort.permIn_mono d e a b 0 d.size (zzs _) hb (zzc _) h;have i:=c.2.2;have f:e.extract 0 d.size=e:=by rw[<-c.1];simp
 have g:d.extract 0 d.size=d:=dv;rwa [f,g]at i
theorem ZJ.perm(h:ZJ d)(hb:b<=d.size)(hp:PermIn a b d e):ZJ e:=
 (Fz e).2 ((zt hb hp).nodup_iff.2<|(Fz d).1 h)
def lW(a b:Nat)(d:Array Nat):Prop:=a=0\/∀i,a<=i->i<b->¬d[i]! < d[a-1]!
theorem xh{p:Nat->Prop}(hb:b<=d.size)(hp:PermIn a b d e)(h:∀i,a<=i->i<b->p d[i]!):∀i,a<=i->i<b->p e[i]! :=
 Go.Sort.permIn_all d e a b p hb hp h
theorem lW.perm(h:lW a b d)(hb:b<=d.size)(hp:PermIn a b d e):lW a b e:=by
 obtain h|h:=h
 .exact .inl h
 .by_cases c:a=0
  .exact .inl c
  .right;rw[hp.2.1 (a-1)<|.inl dp];exact xh (p:=λx=>¬x<d[a-1]!) hb hp h
theorem lW.lib(h:lW a b d):Go.Sort.Below fR a b d:=by
 obtain h|h:=h
 .exact .inl h
 .right;intro i c e;simp only[fR,decide_eq_false_iff_not];exact h i c e
def zu(a b:Nat)(d:Array Nat):Prop:=∀i j,a<=i->i<j->j<b->¬d[j]! < d[i]!
theorem BK(h:SortedIn fR a b d):zu a b d:=λi j c e f=>by
 have:=h i j c e f;simpa [fR]using this
def vL(a b A B:Nat)(d:Array Nat):Prop:=∀i j,a<=i->i<j->j<b->¬(A<=i/\j<B)->¬d[j]! < d[i]!
section
variable{a b A B m:Nat}{d e f:Array Nat}
theorem vL.first:vL a b a b d:=λ_ _ h _ c e=>absurd ⟨h,c⟩ e
theorem vL.done(h:vL a b A B d)(s:zu A B d):zu a b d:=λi j f e g=>by
 by_cases c:A<=i/\j<B
 .exact s i j c.1 e c.2
 .exact h i j f e g c
theorem vL.perm(h:vL a b A B d)(q:a<=A)(r:B<=b)(hb:b<=d.size)(hp:PermIn A B d e):vL a b A B e:=by
 intro i j c l f m;by_cases k:A<=j/\j<B
 .have hi:i<A:=dp;rw[hp.2.1 i<|.inl hi];exact xh (p:=λx=>¬x<d[i]!) dp hp (λt n o=>h i t c dp dp dp) j k.1 k.2
 .rw[hp.2.1 j dp];by_cases g:A<=i/\i<B
  .exact xh (p:=λx=>¬d[j]! < x) dp hp (λt n o=>h t j dp dp f dp) i g.1 g.2
  .rw[hp.2.1 i dp];exact h i j c l f m
theorem vL.left(h:vL a b A B d)(s:a<=A)(u:B<=b)(hb:b<=d.size)(hp:PS d A B m e)(q:PermIn A m e f)(v:zu A m f):vL a b (m+1) B f/\PermIn A B d f/\lW (m+1) B f:=by
 have D:=hp.perm.1;have F:=hp.mb;have E:=hp.am;have K:=Go.Sort.permIn_trans _ _ _ _ _ hp.perm (Go.Sort.permIn_mono _ _ _ _ _ _ (zzc _) dp dp q);have O:=h.perm s u hb K;have k:=q.2.1 m<|.inr<|zzc _
 have z:∀t,A<=t->t<m->f[t]! < f[m]!:=by
  rw[k];exact xh (p:=λx=>x<e[m]!) dp q hp.lo
 have o:∀t,m<t->t<B->¬f[t]! < f[m]!:=λt w y=>by
  rw[k,q.2.1 t<|.inr dp];exact hp.hi t w y
 refine⟨λi j l c r C=>?_,K,.inr λi l c=>o i dp c⟩;by_cases n:A<=i/\j<B
 .rcases Nat.lt_trichotomy j m with g|g|g
  .exact v i j n.1 c g
  .grind
  .grind
 .exact O i j l c r n
theorem vL.right(h:vL a b A B d)(v:a<=A)(w:B<=b)(hb:b<=d.size)(y:lW A B d)(hp:PS d A B m e)(q:PermIn (m+1) B e f)(z:zu (m+1) B f):vL a b A m f/\PermIn A B d f/\lW A m f:=by
 have D:=hp.perm.1;have H:=hp.mb;have G:=hp.am;have K:=Go.Sort.permIn_trans _ _ _ _ _ hp.perm (Go.Sort.permIn_mono _ _ _ _ _ _ dp (zzc _) dp q);have O:=h.perm v w hb K;have n:=q.2.1 m<|.inl dp
 have E:∀t,A<=t->t<m->f[t]! < f[m]!:=λt s l=>by
  rw[n,q.2.1 t<|.inl dp];exact hp.lo t s l
 have C:∀t,m+1<=t->t<B->¬f[t]! < f[m]!:=by
  rw[n];exact xh (p:=λx=>¬x<e[m]!) dp q λt s l=>hp.hi t dp l
 refine⟨λi j g k u F=>?_,K,?_⟩
 .by_cases o:A<=i/\j<B
  .rcases Nat.lt_trichotomy i m with r|r|r
   .grind
   .grind
   .exact z i j dp k o.2
  .exact O i j g k u o
 .rcases y.perm dp K with c|c
  .exact .inl c
  .exact .inr λi g k=>c i g dp
theorem lW.sub(h:lW A B d)(c:m<=B):lW A m d:=by
 obtain h|h:=h
 .exact .inl h
 .exact .inr λi a b=>h i a dp
end
def TZ(w0:nL)(B g n cap a b:Nat)(d:Array Nat)(e:Ending)(w':nL):Prop :=
 e=.returned (.tuple #[])/\∃d',SU w0 w' B g n cap d'/\PermIn a b d d'/\zu a b d'
structure Ke(w0 wr:nL)(B g n cap a b A Z:Nat)(d e:Array Nat):Prop where
 su:SU w0 wr B g n cap e
 perm:PermIn a b d e
 out:vL a b A Z e
 bel:lW A Z e
 nd:ZJ e
 aA:a<=A
 AZ:A<=Z
 zb:Z<=b
section
variable{w0 wr wq:nL}{B g n cap a b A Z:Nat}{d e f:Array Nat}
theorem Ke.fL(h:Ke w0 wr B g n cap a b A Z d e)(hb:b<=d.size)(hs:SU w0 wq B g n cap f)(hp:PermIn A Z e f):Ke w0 wq B g n cap a b A Z d f:=by
 have es:=h.perm.1;have h1:=h.aA;have h2:=h.zb;have h3:=h.AZ;exact⟨hs,Go.Sort.permIn_trans _ _ _ _ _ h.perm<|Go.Sort.permIn_mono _ _ _ _ _ _ h1 h2 dp hp,h.out.perm h1 h2 dp hp,h.bel.perm dp hp,h.nd.perm dp hp,h1,h3,h2⟩
theorem Ke.end_(h:Ke w0 wr B g n cap a b A Z d e)(hb:b<=d.size)(hs:SU w0 wq B g n cap f)(hp:PermIn A Z e f)(Rv:zu A Z f):∃d',SU w0 wq B g n cap d'/\PermIn a b d d'/\zu a b d':=by
 have:=h.fL hb hs hp;exact⟨f,hs,this.perm,this.out.done Rv⟩
end
theorem afC(B g n cap:Nat)(hn:n<=1000000000):∀(N a b L:Nat) (d:Array Nat) (w0 w:nL),b-a<N->SU w0 w B g n cap d->a<=b->b<=n->L<=1000->lW a b d->ZJ d ->
  Calls prog 295 #[.slice (some<|gi g) n cap,.int .i64 (a:Int),.int .i64 (b:Int),.int .i64 (L:Int)] w (TZ w0 B g n cap a b d):=by
 intro N;induction N with
 |zero=>intro a b L d w0 w hN;omega
 |succ N ih=>
  intro a b L d w0 w hN h mZ hb hL lD u_;have IH:=ih;have H0:Hid (Ke w0 w B g n cap a b a b d d):=⟨h,Go.Sort.permIn_refl _ _ _,vL.first,lD,u_,zzc _,mZ,zzc _⟩
  have HIH:Hid (∀(a b L:Nat) (d:Array Nat) (w0 w:nL),b-a<N->SU w0 w B g n cap d->a<=b->b<=n->L<=1000->lW a b d->ZJ d ->
   Calls prog 295 #[.slice (some ⟨g,0,none⟩) n cap,.int .i64 (a:Int),.int .i64 (b:Int),.int .i64 (L:Int)] w (TZ w0 B g n cap a b d)):=ih
  have HD:Hid (b<=d.size/\d.size=n):=by refine⟨?_,h.sz⟩;rw[h.sz];exact hb
  clear ih IH h lD u_;go_enter func295,ntmps295;go_wp2;go_loopw [1,2,3,8,9] (λi j k x y wr=>∃(A Z M:Nat) (wb wp:Bool) (e:Array Nat),i=.int .i64 A/\j=.int .i64 Z/\k=.int .i64 M/\x=.bool wb/\y=.bool wp/\M<=1000/\Hid (Ke w0 wr B g n cap a b A Z d e)) (λi j _ _ _ _=>(intOf j).toNat-(intOf i).toNat);.exact⟨a,b,L,true,true,d,rfl,rfl,rfl,rfl,rfl,hL,H0.out⟩
  .obtain⟨A,Z,M,wb,wp,e,rfl,rfl,rfl,rfl,rfl,hM,hR⟩:=hrel;have q1:=hR.out.aA;have q2:=hR.out.AZ;have q3:=hR.out.zb;have es:Hid (e.size=n):=hR.out.su.sz;have⟨l,hl⟩:=gb <|Z-A;have jl:IntKind.i64.wrap ((Z:Int)-A)=(l:Int):=eD;have HL:=hl;by_cases Zs:l<=12
   .have l12:(l:Int)<=12:=dp;have II:=afz B g n cap A Z e w0 wr hR.out.su dp dp hn;clear hl;go_wp2_with fail;apply II.mono;clear II;rintro ev W1 ⟨rfl,dT⟩;have rT:Hid (SU w0 W1 B g n cap<|Go.Sort.insertionSort fR e A Z):=dT;clear dT;go_wp2;go_end0;have⟨p1,p2⟩:=Go.Sort.insertionSort_holds aa0 e A Z q2 (by rw[es.out];omega);exact⟨rfl,hR.out.end_ HD.1 rT.out p1<|BK p2⟩
   .have l12:¬(l:Int)<=12:=dp;have hAZ:A+12<Z:=dp;clear hl;by_cases hM0:M=0
    .subst hM0;have II:=ac7 B g n cap A Z e w0 wr hR.out.su dp dp hn;go_wp2_with fail;apply II.mono;clear II;rintro ev W1 ⟨rfl,dT⟩;have rT:Hid (SU w0 W1 B g n cap<|Go.Sort.heapSort fR e A Z):=dT;clear dT;go_wp2;go_end0;have⟨p1,p2⟩:=Go.Sort.heapSort_holds aa0 e A Z q2 (by rw[es.out];omega);exact⟨rfl,hR.out.end_ HD.1 rT.out p1<|BK p2⟩
    .have m0:¬(M:Int)=0:=dp;go_upto_if 35 with fail;go_cut [3]from 19 to 133 (λs3 wx=>∃(M':Nat) (e':Array Nat),s3=.int .i64 M'/\M'<=1000/\Hid (Ke w0 wx B g n cap a b A Z d e'));.cases wb with
      |true=>
       go_wp2;go_meet;exact⟨M,e,rfl,hM,hR.out⟩
      |false=>
       have jm:IntKind.i64.wrap ((M:Int)-1)=((M-1:Nat):Int):=eD;have II:=aa1 B g n cap A Z e w0 wr hR.out.su hAZ dp hn;go_wp2_with fail;apply II.mono;clear II;rintro ev W1 ⟨rfl,e',dT,uA⟩;have rT:Hid (Ke w0 W1 B g n cap a b A Z d e'):=hR.out.fL HD.1 dT uA;clear dT uA;go_wp2;go_meet
       exact⟨M-1,e',rfl,dp,rT.out⟩
     case rest=>
      obtain⟨M',e',rfl,hM',IJ⟩:=hcut;have es1:Hid (e'.size=n):=IJ.out.su.sz;have jY:=XZ B g n cap A Z e' w0 wc IJ.out.su hAZ dp hn;clear hR es hM;go_upto_if 50 with (first|(go_at_call 328;apply jY.mono;rintro ev W1 ⟨p0,t0,rfl,uA,GG,V7,ni⟩));have HP0:Hid (Ke w0 W1 B g n cap a b A Z d e'):=IJ.out.fL HD.1 ni<|Go.Sort.permIn_refl _ _ _;clear ni jY
      go_cut [11,12]from 19 to 133 (λs11 s12 wx=>∃(p t:Nat) (f:Array Nat),s11=.int .i64 p/\s12=.int .i64 t/\A<=p/\p<Z/\Hid (Ke w0 wx B g n cap a b A Z d f));case first=>
       by_cases OW:t0=2
       .subst OW;have Rt:=afu B g n cap A Z e' w0 W1 HP0.out.su dp dp hn;have⟨p9,hp9⟩:=gb <|Z-1-(p0-A);have k1:IntKind.i64.wrap ((Z:Int)-1)=(Z:Int)-1:=eD
        have k2:IntKind.i64.wrap ((p0:Int)-A)=(p0:Int)-A:=eD;have k3:IntKind.i64.wrap ((Z:Int)-1-((p0:Int)-A))=(p9:Int):=eD;have z1:A<=p9:=dp;have z2:p9<Z:=dp;clear hp9;go_wp2_with fail;apply Rt.mono;clear Rt;rintro ev W2 ⟨rfl,eP⟩;have HP2:Hid (Ke w0 W2 B g n cap a b A Z d<|Go.Sort.reverseRange e' A Z):=HP0.out.fL HD.1 eP (Go.Sort.reverseRange_holds e' A Z dp<|by rw[es1.out];omega);clear eP;go_wp2;go_meet;exact⟨p9,1,_,rfl,rfl,z1,z2,HP2.out⟩
       .have t2:¬(t0:Int)=2:=dp;go_wp2;go_meet;exact⟨p0,t0,e',rfl,rfl,uA,GG,HP0.out⟩
      case rest=>
       obtain⟨p,t,f,rfl,rfl,hpA,hpZ,rJ⟩:=hcut;clear IJ es1 HP0;have fs:Hid (f.size=n):=rJ.out.su.sz;have T3:=ac9 B g n cap A Z f w0 wc rJ.out.su dp dp hn;go_upto_region 15 with fail;go_cut [68]from 19 to 133 (λs68 wx=>(∃c:Bool,s68=.bool c)/\wx=wc);.cases wb with
        |false=>
         go_wp2;go_meet;exact⟨⟨_,rfl⟩,rfl⟩
        |true=>
         cases wp with
         |false=>
          go_wp2;go_meet;exact⟨⟨_,rfl⟩,rfl⟩
         |true=>
          go_wp2;go_meet;exact⟨⟨_,rfl⟩,rfl⟩
       case rest=>
        obtain⟨⟨c,rfl⟩,wA⟩:=hcut;rw[wA];clear wA;go_upto_if 68 with fail;go_cut [72]from 19 to 133 (λ_ wx=>∃f',Hid<|Ke w0 wx B g n cap a b A Z d f');.cases c with
         |false=>
          go_wp2;go_meet;exact⟨f,rJ.out⟩
         |true=>
          have⟨p1,p2⟩:=Go.Sort.partialInsertionSort_holds aa0 f A Z dp (by rw[fs.out];omega) rJ.out.bel.lib;have⟨r,hr⟩:=gb <|Go.Sort.partialInsertionSort fR f A Z;rw[<-hr]at p1 p2 T3;have HQ:Hid (PermIn A Z f r.1/\(r.2=true->SortedIn fR A Z r.1)):=⟨p1,p2⟩;have⟨r1,r2⟩:=r;clear p1 p2 hr;go_wp2_with fail;apply T3.mono;clear T3;rintro ev W3 ⟨rfl,ie⟩;have HS3:Hid (SU w0 W3 B g n cap r1):=ie;clear ie;cases r2 with
          |true=>
           go_wp2;go_end0;exact⟨rfl,rJ.out.end_ HD.1 HS3.out HQ.1<|BK<|HQ.2<|by first|rfl|trivial⟩
          |false=>
           go_wp2
           go_meet
           exact⟨r1,rJ.out.fL HD.1 HS3.out HQ.1⟩
        case rest=>
         obtain⟨f',C'⟩:=hcut;clear T3 rJ fs;have fs:Hid (f'.size=n):=C'.out.su.sz;have cp:=C'.out.su.at (k:=p) (by omega);have bp:(p:Int)<n:=dp
         go_upto_region 17 with fail;go_cut [87]from 19 to 133 (λs87 wx=>s87=.bool false/\Hid (Ke w0 wx B g n cap a b A Z d f'))
         case first=>
          by_cases hA0:A=0
          .subst hA0
           go_quiet (first|(go_at_call 261;refine Calls.quiet_of_same<|fX _ _ _))
           go_wp2
           go_meet
           exact⟨rfl,C'.out.fL HD.1 (C'.out.su.drewN _)<|Go.Sort.permIn_refl _ _ _⟩
          .obtain⟨y,hy⟩:∃y,y=A-1:=⟨_,rfl⟩;have l1:(0:Int)<A:=dp;have l1n:0<A:=dp;have jy:IntKind.i64.wrap ((A:Int)-1)=(y:Int):=eD;have cy:=C'.out.su.at (k:=y) (by omega);have kW:(y:Int)<n:=dp
           have bW:f'[y]! < f'[p]!:=by
            have h1:=C'.out.bel;have h2:¬f'[p]! < f'[y]!:=by
             rcases h1 with h1|h1
             .exact absurd h1 hA0
             .rw[hy];exact h1 p hpA hpZ
            have h3:f'[y]!≠f'[p]!:=λe=>by
             have:=C'.out.nd y p (by rw[fs.out];omega) (by rw[fs.out];omega) e;omega
            omega
           have HT:Hid (f'[y]! < f'[p]!):=bW;clear hy bW
           go_quiet (first|(go_at_call 261;refine Calls.quiet_of_same<|fX _ _ _))
           go_wp2
           go_meet
           refine⟨?_,C'.out.fL HD.1 (C'.out.su.drewN _)<|Go.Sort.permIn_refl _ _ _⟩;have bW:=HT.out;simp[bW]
         case rest=>
          obtain⟨rfl,Kf⟩:=hcut;clear C' cp;have uF:=ac8 B g n cap A Z p f' w0 wc Kf.out.su hpA hpZ dp hn;go_wp2_with fail;apply uF.mono;clear uF;rintro ev W4 ⟨m,al,d4,rfl,q9,eG⟩;have Bq:=eG.am;have hpz:=eG.mb;have GF:Hid (SU w0 W4 B g n cap d4/\PS f' A Z m d4):=⟨q9,eG⟩;clear q9 eG;have⟨ml,hml⟩:=gb <|m-A;have⟨mr,hmr⟩:=gb <|Z-m;have k1:IntKind.i64.wrap ((m:Int)-A)=(ml:Int):=eD
          have k2:IntKind.i64.wrap ((Z:Int)-m)=(mr:Int):=eD;have k3:IntKind.i64.wrap ((m:Int)+1)=((m+1:Nat):Int):=eD;clear hml hmr;by_cases hlr:ml<mr
          .have l9:(ml:Int)<mr:=dp;have II:=HIH.out A m M' d4 w0 W4 dp GF.1 dp dp hM' ((Kf.out.bel.perm (by rw[fs.out];omega) GF.2.perm).sub dp) (Kf.out.nd.perm (by rw[fs.out];omega) GF.2.perm);go_wp2_with fail;apply II.mono;clear II;rintro ev W5 ⟨rfl,d5,rW,IK,vt⟩;have⟨o1,o2,o3⟩:=Kf.out.out.left q1 q3 (by rw[fs.out];omega) GF.2 IK vt;have HE:Hid (Ke w0 W5 B g n cap a b (m+1) Z d d5):=⟨rW,Go.Sort.permIn_trans _ _ _ _ _ Kf.out.perm<|Go.Sort.permIn_mono _ _ _ _ _ _ q1 q3 (by rw[fs.out];omega) o2,o1,o3,Kf.out.nd.perm (by rw[fs.out];omega) o2,dp,dp,q3⟩;clear rW IK vt o1 o2 o3;go_wp2
           go_roundw;.exact⟨m+1,Z,M',_,al,d5,dv,rfl,rfl,rfl,rfl,hM',HE.out⟩
           case measure=>simp[intOf];omega
          .have l9:¬(ml:Int)<mr:=dp;have II:=HIH.out (m+1) Z M' d4 w0 W4 dp GF.1 dp dp hM' (.inr λi h1 h2=>GF.2.hi i dp h2) (Kf.out.nd.perm (by rw[fs.out];omega) GF.2.perm);go_wp2_with fail;apply II.mono;clear II;rintro ev W5 ⟨rfl,d5,rW,IK,vt⟩;have⟨o1,o2,o3⟩:=Kf.out.out.right q1 q3 (by rw[fs.out];omega) Kf.out.bel GF.2 IK vt;have HE:Hid (Ke w0 W5 B g n cap a b A m d d5):=⟨rW,Go.Sort.permIn_trans _ _ _ _ _ Kf.out.perm<|Go.Sort.permIn_mono _ _ _ _ _ _ q1 q3 (by rw[fs.out];omega) o2,o1,o3,Kf.out.nd.perm (by rw[fs.out];omega) o2,dp,dp,dp⟩;clear rW IK vt o1 o2 o3;go_wp2
           go_roundw;.exact⟨A,m,M',_,al,d5,rfl,rfl,rfl,rfl,rfl,hM',HE.out⟩
           .exact fq
end
end Go.Proofs.YtlgeloebpdmnnaaGreatDoor
