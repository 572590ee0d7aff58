import Derived.Test.YtlgeloebpdmnnaaGreatDoorC09
set_option maxHeartbeats 8000000
set_option maxRecDepth 100000
namespace Go.Proofs.YtlgeloebpdmnnaaGreatDoor
open Go.RowKit Go.Maps Tryz Sc
variable{d:Array Nat}{a c e f i p q r y:Nat}
theorem Fx(x y:Int)(hx:0<=x)(h:0<=y)(i:x<2^64)(Y:y<2^64):∃u:Nat,u<2^64/\bits .xor .u64 x y=(u:Int):=by
 obtain⟨a,rfl⟩:=Int.eq_ofNat_of_zero_le hx;obtain⟨b,rfl⟩:=Int.eq_ofNat_of_zero_le h;exact⟨a^^^b,Nat.xor_lt_two_pow dp dp,bits_xor_u64_nat a b dp dp⟩
theorem xg(x:Int):0<=IntKind.u64.wrap x/\IntKind.u64.wrap x<2^64:=by rw[Bl];omega
theorem ac6(rp:Nat)(v:Nat)(t:TypeId)(w:nL)(h:w.heap[rp]?=some (.cells #[.int .u64 (v:Int)] t (0,0)))(I:v<2^64):
  Calls prog 354 #[gx rp] w λe w'=>∃u:Nat,u<2^64/\e=.returned (.int .u64 (u:Int))/\w'.heap[rp]?=some (.cells #[.int .u64 (u:Int)] t (0,0))/\Fr [rp] w w':=by
 have c1:=af h 0;have s:=aq h 0;have H:=ah h;clear h;go_enter func354,ntmps354;go_wp2;go_region;all_goals go_wp2
 have⟨d,F,m⟩:=Fx (v:Int) (IntKind.u64.wrap<|(v:Int)*8192) dp (xg _).1 dp (xg _).2;rw[m];have⟨g,P⟩:∃W,W=(w.setCell ⟨rp,0,none⟩<|.int .u64 (d:Int)).drew:=⟨_,rfl⟩;have b:g.heap[rp]?=some (.cells #[.int .u64 (d:Int)] t (0,0)):=by rw[P];exact(aF H.out 0 _)
 have z:Hid (Fr [rp] w g):=by rw[P];exact(Fr.cG dv 0 _).drew
 rw[<-P];have c2:=af b 0;have x:=aq b 0;have p:=ah b;clear P b c1 s m;go_region;all_goals go_wp2
 have⟨f,G,n⟩:=Fx (d:Int) ((d:Int)/128) dp dp dp dp;rw[n];have⟨i,j⟩:∃W,W=(g.setCell ⟨rp,0,none⟩<|.int .u64 (f:Int)).drew:=⟨_,rfl⟩;have a:i.heap[rp]?=some (.cells #[.int .u64 (f:Int)] t (0,0)):=by rw[j];exact(aF p.out 0 _)
 have A:Hid (Fr [rp] w i):=by rw[j];exact(z.out.setCell (.inl dv) _).drew
 rw[<-j];have c3:=af a 0;have y:=aq a 0;have q:=ah a;clear j a c2 x n;go_region;all_goals go_wp2
 have⟨k,D,o⟩:=Fx (f:Int) (IntKind.u64.wrap<|(f:Int)*131072) dp (xg _).1 dp (xg _).2;rw[o];have⟨l,C⟩:∃W,W=(i.setCell ⟨rp,0,none⟩<|.int .u64 (k:Int)).drew:=⟨_,rfl⟩;have c:l.heap[rp]?=some (.cells #[.int .u64 (k:Int)] t (0,0)):=by rw[C];exact(aF q.out 0 _)
 have B:Hid (Fr [rp] w l):=by rw[C];exact(A.out.setCell (.inl dv) _).drew
 rw[<-C];have c4:=af c 0;have E:=aq c 0;have r:=ah c;clear C c c3 y o;go_wp2;go_ret;exact⟨k,D,rfl,r.out,B.out⟩
theorem vK:∀f x:Nat,2^(Lib.bitLenAux f x)<=(if x=0 then 1 else 2*x)/\Lib.bitLenAux f x<=f
 |0,x=>by simp[Lib.bitLenAux];split<;>omega
 |f+1,x=>by
  have h:=vK f<|x/2;unfold Lib.bitLenAux;by_cases hx:x=0
  .simp[hx]
  .rw[mE hx,mE hx,Nat.pow_add];refine⟨?_,dp⟩;have a:=h.1;by_cases b:x/2=0
   .rw[oo b]at a;omega
   .rw[mE b]at a;omega
theorem afv(l:Nat)(w:nL)(d:l<1000000001)(h:1<=l):
  Calls prog 353 #[.int .i64 (l:Int)] w λe w'=>∃m:Nat,1<=m/\m<=2*l/\e=.returned (.int .u64 (m:Int))/\w'=w:=by
 go_enter func353,ntmps353;go_wp2_with fail;refine(Tryz.bits_Len l w dp dp).mono ?_;rintro e f ⟨rfl,rfl⟩;go_wp2;go_ret;have hb:=vK 64 l;refine⟨2^Lib.bitLen l,Nat.one_le_two_pow,?_,?_,rfl⟩
 .show 2^Lib.bitLenAux 64 l<=_;have h:=hb.1;split at h<;>omega
 .have h:=hb.1;have a:min (Lib.bitLen l) 64=Lib.bitLen l:=Nat.min_eq_left hb.2;have b:2^Lib.bitLen l<18446744073709551616:=by
   show 2^Lib.bitLenAux 64 l<_;split at h<;>omega
  have c:IntKind.u64.wrap (2^Lib.bitLen l)=((2^Lib.bitLen l:Nat):Int):=by
   rw[Bl,show(2:Int)^Lib.bitLen l=((2^Lib.bitLen l:Nat):Int) by simp];generalize 2^Lib.bitLen l=q at b;omega
  simp[a,c]
structure Fy(w0 w:nL)(B g n cap:Nat)(d:Array Nat)(rp v:Nat):Prop where
 su:SU w0 w B g n cap d
 ne:rp≠g
 new:w0.heap.size<=rp
 blk:w.heap[rp]?=some (.cells #[.int .u64 (v:Int)] 442 (0,0))
 lt:v<2^64
section
variable{w0 w w':nL}{B g n cap rp v u:Nat}{d:Array Nat}
theorem Fy.next(h:Fy w0 w B g n cap d rp v)(c:u<2^64)(hb:w'.heap[rp]?=some (.cells #[.int .u64 (u:Int)] 442 (0,0)))(hf:Fr [rp] w w'):Fy w0 w' B g n cap d rp u where
 su:=⟨h.su.sz,ar h.su.row hf λq b=>by simp[Value.ownBlock]at b;subst b;simp;exact λe=>h.ne e.symm,h.su.fr.andThen hf λj a l=>by simp at a;subst a;have:=h.new;omega⟩
 ne:=h.ne;new:=h.new;blk:=hb;lt:=c
theorem Fy.swp(h:Fy w0 w B g n cap d rp v)(i j:Nat):Fy w0 ((w.setCell (hP g i)<|.int .u64 (d[j]!:Nat)).setCell (hP g j)<|.int .u64 (d[i]!:Nat)).drew B g n cap (Go.Sort.swp d i j) rp v where
 su:=(h.su.swp i j).drew
 ne:=h.ne;new:=h.new;blk:=by
  have l:=(zza.mp h.blk).1;rw[(((Fr.refl [g] w).setCell (.inl dv)<|.int .u64 (d[j]!:Nat)).setCell (.inl dv)<|.int .u64 (d[i]!:Nat)).drew.block rp l<|by simp;exact h.ne];exact h.blk
 lt:=h.lt
end
theorem SU.draws{w0 w:nL}{B g n cap:Nat}(h:SU w0 w B g n cap d)(v:Nat)(a:v<2^64):Fy w0 (w.alloc<|.cells #[.int .u64 (v:Int)] 442) B g n cap d w.heap.size v where
 su:=h.on<|(fU w).alloc _
 ne:=λe=>by have:=h.lt;omega
 new:=h.fr.size;blk:=Cy w _;lt:=a
theorem aa1(B g n cap a b:Nat)(d:Array Nat)(w0 w:nL)(h:SU w0 w B g n cap d)(N:a+12<b)(hb:b<=n)(hn:n<=1000000000):
  Calls prog 327 #[.slice (some<|gi g) n cap,.int .i64 (a:Int),.int .i64 (b:Int)] w λe w'=>e=.returned (.tuple #[])/\∃d',SU w0 w' B g n cap d'/\Go.Sort.PermIn a b d d':=by
 have H:Hid (Fy w0 (w.alloc<|.cells #[.int .u64 ((b-a:Nat):Int)] 442) B g n cap d w.heap.size<|b-a):=h.draws _ (by omega);have Z:=ah h.sz;have F:IntKind.i64.wrap ((b:Int)-a)=((b-a:Nat):Int):=eD
 have K:(8:Int)<=((b-a:Nat):Int):=dp;clear h;go_enter func327,ntmps327;go_wp2_with fail;refine(afv (b-a) _ dp dp).mono ?_;rintro e Q ⟨m,EY,oZ,rfl,rfl⟩;have G:IntKind.u64.wrap ((m:Int)-1)=((m-1:Nat):Int):=by rw[Bl];omega
 go_wp2;go_loopw [9] (λi wr=>∃k:Nat,i=.int .i64 k/\a+(b-a)/4*2-1<=k/\k<=a+(b-a)/4*2+2/\∃d' v,Fy w0 wr B g n cap d' w.heap.size v/\Go.Sort.PermIn a b d d') (λi _=>n+5-(intOf i).toNat);case atStart=>
  refine⟨a+(b-a)/4*2-1,?_,dp,dp,d,_,H.out,Go.Sort.permIn_refl d a b⟩;congr 1;omega
 case round=>
  obtain⟨k,rfl,O,L,l,v,s,A⟩:=hrel;have R:=ah s;have P:=ah A;clear s A;by_cases W:k<=a+(b-a)/4*2+1
  .have afw:(k:Int)<=a+((b-a:Nat):Int)/4*2+1:=dp;go_wp2_with fail;refine(ac6 _ v _ wr R.out.blk R.out.lt).mono ?_;rintro e w2 ⟨u,hu,rfl,dy,bH⟩;have M:=ah<|R.out.next hu dy bH;clear dy bH;obtain⟨o,f⟩:∃o:Nat,o=u&&&(m-1):=⟨_,rfl⟩;have E:o<=m-1:=by rw[f];exact Nat.and_le_right
   have D:bits .and .u64 (u:Int) ((m-1:Nat):Int)=(o:Int):=by rw[bits_and_u64_nat _ _ hu dp,f]
   have I:IntKind.i64.wrap (o:Int)=o:=eD;clear f;by_cases C:o<b-a
   .have afx:(o:Int)<((b-a:Nat):Int):=dp;obtain⟨q,j⟩:∃q:Nat,q=o:=⟨_,rfl⟩;have t:q<b-a:=dp;subst j;have z:(a:Int)+q<(n:Int):=dp;have c2:=M.out.su.at (k:=a+q) (by omega);have r:w2.frozen? ⟨g,a+q,none⟩=false:=M.out.su.free _;by_cases c:k=a+q
    .subst c;go_wp2
     go_region
     all_goals go_wp2
     refine⟨⟨(a+q)+1,dv,dp,dp,_,u,M.out.swp (a+q)<|a+q,Go.Sort.permIn_trans _ _ _ _ _ P.out<|Go.Sort.swp_permIn _ _ _ _ _ dp dp dp dp<|by rw[M.out.su.sz];exact hb⟩,fq⟩
    .have c1:=M.out.su.at (k:=k) (by omega);have p:w2.frozen? ⟨g,k,none⟩=false:=M.out.su.free _;have x:(k:Int)<n:=dp
     have y:¬a+q=k:=λe=>c e.symm
     go_wp2
     go_region
     all_goals go_wp2
     refine⟨⟨k+1,dv,dp,dp,_,u,M.out.swp k<|a+q,Go.Sort.permIn_trans _ _ _ _ _ P.out<|Go.Sort.swp_permIn _ _ _ _ _ dp dp dp dp<|by rw[M.out.su.sz];exact hb⟩,fq⟩
   .have afx:¬(o:Int)<((b-a:Nat):Int):=dp;obtain⟨q,j⟩:∃q:Nat,q=o-(b-a):=⟨_,rfl⟩;have t:q<b-a:=dp;have J:IntKind.i64.wrap ((o:Int)-((b-a:Nat):Int))=(q:Int):=eD;clear j;have z:(a:Int)+q<(n:Int):=dp;have c2:=M.out.su.at (k:=a+q) (by omega);have r:w2.frozen? ⟨g,a+q,none⟩=false:=M.out.su.free _;by_cases c:k=a+q
    .subst c;go_wp2;go_region;all_goals go_wp2
     refine⟨⟨(a+q)+1,dv,dp,dp,_,u,M.out.swp (a+q)<|a+q,Go.Sort.permIn_trans _ _ _ _ _ P.out<|Go.Sort.swp_permIn _ _ _ _ _ dp dp dp dp<|by rw[M.out.su.sz];exact hb⟩,fq⟩
    .have c1:=M.out.su.at (k:=k) dp;have p:w2.frozen? ⟨g,k,none⟩=false:=M.out.su.free _;have x:(k:Int)<n:=dp
     have y:¬a+q=k:=λe=>c e.symm
     go_wp2;go_region;all_goals go_wp2
     refine⟨⟨k+1,dv,dp,dp,_,u,M.out.swp k<|a+q,Go.Sort.permIn_trans _ _ _ _ _ P.out<|Go.Sort.swp_permIn _ _ _ _ _ dp dp dp dp<|by rw[M.out.su.sz];exact hb⟩,fq⟩
  .have afw:¬(k:Int)<=a+((b-a:Nat):Int)/4*2+1:=dp;go_wp2;go_end0;exact⟨rfl,l,R.out.su,P.out⟩
theorem afz(B g n p a b:Nat)(d:Array Nat)(f w:nL)(h:SU f w B g n p d)(hb:b<=n)(A:a<=n)(hn:n<=1000000000):
  Calls prog 325 #[.slice (some<|gi g) n p,.int .i64 (a:Int),.int .i64 (b:Int)] w λe w'=>e=.returned (.tuple #[])/\SU f w' B g n p (Go.Sort.insertionSort fR d a b):=by
 have t:=ah h;have J:IntKind.i64.wrap ((a:Int)+1)=((a+1:Nat):Int):=eD;clear h;go_enter func325,ntmps325;go_wp2;go_loopw [6] (λi wr=>∃k:Nat,i=.int .i64 k/\a+1<=k/\(k<=b\/k=a+1)/\∃d',SU f wr B g n p d'/\Go.Sort.insOuter fR a b k d'=Go.Sort.insertionSort fR d a b) (λi _=>n+5-(intOf i).toNat);.exact⟨a+1,dv,dp,.inr rfl,d,t.out,rfl⟩
 .obtain⟨k,rfl,O,Z,m,T,U⟩:=hrel;have s:=ah T;have q:=ah U;clear T U;by_cases W:k<b
  .have j1:(k:Int)<b:=dp;have K:IntKind.i64.wrap ((k:Int)+1)=(k:Int)+1:=eD;have u:Hid (Go.Sort.insOuter fR a b (k+1) (Go.Sort.insInner fR a k m)=Go.Sort.insertionSort fR d a b):=by
    have:=q.out;rw[Go.Sort.insOuter,oo W]at this;exact this
   clear q;go_wp2;go_loopw [7] (λi x=>∃j:Nat,i=.int .i64 j/\j<=k/\∃d',SU f x B g n p d'/\Go.Sort.insOuter fR a b (k+1) (Go.Sort.insInner fR a j d')=Go.Sort.insertionSort fR d a b) (λi _=>(intOf i).toNat);case atStart=>exact⟨k,rfl,dp,m,s.out,u.out⟩
   case round=>
    obtain⟨j,rfl,G,c,P,o⟩:=hrel;have H:=ah P;have l:=ah o;clear P o;by_cases E:a<j
    .obtain⟨i,hi⟩:∃i,j=i+1:=⟨j-1,dp⟩;have c1:=H.out.at (k:=j) (by omega);have c2:=H.out.at (k:=i) (by omega);have y:wr.frozen? ⟨g,j,none⟩=false:=H.out.free _;have z:wr.frozen? ⟨g,i,none⟩=false:=H.out.free _;have v:(a:Int)<j:=dp
     have L:IntKind.i64.wrap ((j:Int)-1)=(i:Int):=eD;have M:(j:Int)<n:=dp;have N:(i:Int)<n:=dp;have D:i≠j:=dp;have I:=ah hi;clear hi;by_cases C:((c[j]!:Nat):Int)<((c[i]!:Nat):Int)
     .have hd:decide (((c[j]!:Nat):Int)<((c[i]!:Nat):Int))=true:=by simp only[C,decide_true]
      have Q:Hid (c[j]! < c[i]!):=by show _<_;omega
      have F:Hid (Go.Sort.insInner fR a j c=Go.Sort.insInner fR a i (Go.Sort.swp c j i)):=by
       show _=_;have r:=Q.out;rw[I.out]at r ⊢;rw[Go.Sort.insInner,oo<|by have:=I.out;simp[fR,r];omega]
      go_wp2;go_quiet (first|(go_at_call 261;refine Calls.quiet_of_same<|fX _ _ _))
      go_wp2;go_region;all_goals go_wp2
      refine⟨⟨i,rfl,by have:=I.out;omega,_,((H.out.drewN nq).swp j i).drew,?_⟩,by have:=I.out;simp[intOf];omega⟩;rw[<-l.out,F.out]
     .have hd:decide (((c[j]!:Nat):Int)<((c[i]!:Nat):Int))=false:=by simp only[C,decide_false]
      have F:Hid (Go.Sort.insInner fR a j c=c):=by
       show _=_;rw[I.out]at C ⊢;rw[Go.Sort.insInner,mE<|by simp[fR];omega]
      go_wp2;go_quiet (first|(go_at_call 261;refine Calls.quiet_of_same<|fX _ _ _))
      go_wp2;refine⟨⟨k+1,dv,dp,.inl dp,c,H.out.drewN _,?_⟩,fq⟩;rw[<-l.out,F.out]
    .have v:¬(a:Int)<j:=dp;have F:Hid (Go.Sort.insInner fR a j c=c):=by
      show _=_;cases j with
      |zero=>rfl
      |succ i=>rw[Go.Sort.insInner,mE ef]
     go_wp2;go_quiet (first|(go_at_call 261;refine Calls.quiet_of_same<|fX _ _ _))
     go_wp2;refine⟨⟨k+1,dv,dp,.inl dp,c,H.out.drewN _,?_⟩,fq⟩;rw[<-l.out,F.out]
  .have j1:¬(k:Int)<b:=dp;go_wp2;go_end0;refine⟨rfl,?_⟩;rw[<-q.out,Go.Sort.insOuter,mE W];exact s.out
section
variable{d:Array Nat}{b i j:Nat}
theorem ssE(h:i<b)(hx:¬d[i]! < d[i-1]!):Go.Sort.scanSorted fR d b i=Go.Sort.scanSorted fR d b (i+1):=by
 rw[Go.Sort.scanSorted,oo<|by simp[fR,h];omega]
theorem ssS(h:¬(i<b/\¬d[i]! < d[i-1]!)):Go.Sort.scanSorted fR d b i=i:=by
 rw[Go.Sort.scanSorted,mE];intro c;simp[fR]at c;exact h ⟨c.1,dp⟩
theorem sdE{y:Nat}(h:j=y+1)(hx:d[j]! < d[y]!):Go.Sort.shiftDown fR j d=Go.Sort.shiftDown fR y (Go.Sort.swp d j y):=by
 subst h;rw[Go.Sort.shiftDown,mE<|by simp[fR,hx]]
theorem sdS{y:Nat}(h:j=y+1)(hx:¬d[j]! < d[y]!):Go.Sort.shiftDown fR j d=d:=by
 subst h;rw[Go.Sort.shiftDown,oo<|by simp[fR];omega]
theorem suE{y:Nat}(a:j=y+1)(h:j<b)(hx:d[j]! < d[y]!):Go.Sort.shiftUp fR b j d=Go.Sort.shiftUp fR b (j+1) (Go.Sort.swp d j y):=by
 subst a;rw[Go.Sort.shiftUp,oo h];simp only[Nat.add_sub_cancel];rw[mE<|by simp[fR,hx]]
theorem suS{y:Nat}(a:j=y+1)(hx:¬(j<b/\d[j]! < d[y]!)):Go.Sort.shiftUp fR b j d=d:=by
 subst a;rw[Go.Sort.shiftUp];by_cases h:y+1<b
 .grind
 .grind
end
theorem ac9(B g n p a b:Nat)(d:Array Nat)(o w:nL)(h:SU o w B g n p d)(mZ:a<b)(hb:b<=n)(hn:n<=1000000000):
  Calls prog 330 #[.slice (some<|gi g) n p,.int .i64 (a:Int),.int .i64 (b:Int)] w λe w'=>e=.returned (.bool (Go.Sort.partialInsertionSort fR d a b).2)/\SU o w' B g n p (Go.Sort.partialInsertionSort fR d a b).1:=by
 have H0:=ah h;have j0:IntKind.i64.wrap ((a:Int)+1)=((a+1:Nat):Int):=eD;have jl:IntKind.i64.wrap ((b:Int)-a)=(b:Int)-a:=eD;clear h;go_enter func330,ntmps330;go_wp2;go_loopw [7,8] (λi j wr=>∃I q:Nat,i=.int .i64 I/\j=.int .i64 q/\q<=5/\a<I/\I<=b/\∃d',Hid<|SU o wr B g n p d'/\Go.Sort.partialIns fR a b (5-q) I d'=Go.Sort.partialInsertionSort fR d a b) (λ_ j _=>5-(intOf j).toNat);case atStart=>exact⟨a+1,0,dv,rfl,dp,dp,dp,d,H0.out,rfl⟩
 case round=>
  obtain⟨I,q,rfl,rfl,ag,a8,yh,f,L⟩:=hrel;by_cases hq:q<5
  .have l0:(q:Int)<5:=dp;have jq:IntKind.i64.wrap ((q:Int)+1)=((q+1:Nat):Int):=eD;have⟨s,rW⟩:∃s,5-q=s+1:=⟨4-q,dp⟩;have U:5-(q+1)=s:=dp
   have H:Hid (SU o wr B g n p f/\Go.Sort.partialIns fR a b (s+1) I f=Go.Sort.partialInsertionSort fR d a b):=by rw[<-rW];exact L.out
   have Q:=ah U;clear L rW U;go_wp2;go_loopw [7] (λi wr=>∃k:Nat,i=.int .i64 k/\a<k/\k<=b/\Hid (SU o wr B g n p f/\Go.Sort.scanSorted fR f b k=Go.Sort.scanSorted fR f b I)) (λi _=>n+5-(intOf i).toNat);case atStart=>exact⟨I,rfl,a8,yh,H.1,rfl⟩
   case round=>
    obtain⟨k,rfl,aa,ad,v⟩:=hrel;have⟨y,hy⟩:∃y,k=y+1:=⟨k-1,dp⟩;have jy:IntKind.i64.wrap ((k:Int)-1)=(y:Int):=eD
    have Y:Hid (k=y+1/\k-1=y):=⟨hy,dp⟩;have an:y<k:=dp
    have ab:a<=y:=dp;clear hy;go_upto_region 5 with fail;go_cut [32]from 17 to 34 (λs M=>s=.bool (decide<|k<b/\¬f[k]! < f[y]!)/\SU o M B g n p f);case first=>
     by_cases D:k<b
     .have l1:(k:Int)<b:=dp;have ck:=v.1.at (k:=k) (by omega);have cy:=v.1.at (k:=y) (by omega);have bk:(k:Int)<n:=dp
      have kW:(y:Int)<n:=by omega
      go_quiet (first|(go_at_call 261;refine Calls.quiet_of_same<|fX _ _ _))
      go_wp2;go_meet
      refine⟨?_,v.1.drewN _⟩;congr 1;by_cases hx:f[k]! < f[y]!
      .simp[D,hx]
      .simp[D,hx]
     .have l1:¬(k:Int)<b:=dp;go_quiet (first|(go_at_call 261;refine Calls.quiet_of_same<|fX _ _ _))
      go_wp2
      go_meet
      refine⟨?_,v.1.drewN _⟩;congr 1;simp[D]
    case rest=>
     obtain⟨rfl,hs⟩:=hcut;have S:=ah hs;clear hs;by_cases r:k<b/\¬f[k]! < f[y]!
     .have j2:IntKind.i64.wrap ((k:Int)+1)=((k+1:Nat):Int):=eD;rw[zI r];have HP:Hid (SU o wc B g n p f/\Go.Sort.scanSorted fR f b (k+1)=Go.Sort.scanSorted fR f b I):=⟨S.out,by rw[<-v.2,ssE r.1<|by rw[Y.2];exact r.2]⟩;have a7:k+1<=b:=r.1;clear r;go_wp2
      go_roundw
      case rel=>exact⟨k+1,dv,dp,a7,HP.out⟩
      case measure=>simp[intOf];omega
     .rw[zY r];have K:Hid (SU o wc B g n p f/\Go.Sort.scanSorted fR f b I=k):=⟨S.out,by rw[<-v.2,ssS<|by rw[Y.2];exact r]⟩;have u:=H.2;rw[Go.Sort.partialIns_succ,K.2]at u;have A:=u;clear r v S H;by_cases X:k=b
      .have l2:(k:Int)=b:=dp;rw[oo X]at u;have R:=ah u;clear u A;go_wp2;go_ret;exact⟨by rw[<-R.out];rfl,by rw[<-R.out];exact K.1⟩
      .have l2:¬(k:Int)=b:=dp;rw[mE X]at u;by_cases a1:b-a<50
       .have l3:(b:Int)-a<50:=dp;rw[oo a1]at u;have R:=ah u;clear u A;go_wp2;go_ret;exact⟨by rw[<-R.out];rfl,by rw[<-R.out];exact K.1⟩
       .have l3:¬(b:Int)-a<50:=dp;rw[mE a1,Y.2]at u;have R:=ah u;clear u A;have ck:=K.1.at (k:=k) (by omega);have cy:=K.1.at (k:=y) (by omega);have fk:wc.frozen? ⟨g,k,none⟩=false:=K.1.free _;have fy:wc.frozen? ⟨g,y,none⟩=false:=K.1.free _;have bk:(k:Int)<n:=dp
        have kW:(y:Int)<n:=dp;have n1:¬k=y:=dp;have n2:¬y=k:=dp;have ax:IntKind.i64.wrap ((k:Int)-a)=(k:Int)-a:=eD;have ao:IntKind.i64.wrap ((b:Int)-k)=(b:Int)-k:=eD;go_wp2;go_region;have⟨l,J⟩:=gb <|Go.Sort.swp f k y;rw[<-J]at R;have P:SU o ((wc.setCell ⟨g,k,none⟩<|.int .u64 (f[y]!:Nat)).setCell ⟨g,y,none⟩<|.int .u64 (f[k]!:Nat)).drew B g n p l:=by rw[J];exact(K.1.swp k y).drew
        have⟨W,fj⟩:∃W,W=((wc.setCell ⟨g,k,none⟩<|.int .u64 (f[y]!:Nat)).setCell ⟨g,y,none⟩<|.int .u64 (f[k]!:Nat)).drew:=⟨_,rfl⟩;rw[<-fj]at P ⊢;have G:=ah P;clear P fj J ck cy fk fy K;go_upto_if 61 with fail;go_cut [9]from 13 to 132 (λ_ M=>SU o M B g n p<|Go.Sort.fixDown fR a k l);case first=>
         by_cases C:2<=k-a
         .have l4:(2:Int)<=k-(a:Int):=dp;have F:Hid (Go.Sort.shiftDown fR y l=Go.Sort.fixDown fR a k l):=by show _=_;unfold Go.Sort.fixDown;rw[oo C,Y.2]
          go_wp2;go_loopw [9] (λj wr=>∃t:Nat,j=.int .i64 t/\t<=y/\∃c,Hid<|SU o wr B g n p c/\Go.Sort.shiftDown fR t c=Go.Sort.fixDown fR a k l) (λj _=>(intOf j).toNat);case atStart=>exact⟨y,rfl,zzc _,l,G.out,F.out⟩
          case round=>
           obtain⟨t,rfl,Lo,c,T⟩:=hrel;by_cases V7:t=0
           .subst V7;go_wp2;go_meet;have:=T.1;rw[<-T.2];exact this
           .obtain⟨z,x⟩:∃z,t=z+1:=⟨t-1,dp⟩;have l5:(1:Int)<=t:=dp
            have jz:IntKind.i64.wrap ((t:Int)-1)=(z:Int):=eD;have Z:=ah x;have ct:=T.1.at (k:=t) (by omega);have cz:=T.1.at (k:=z) (by omega);have bt:(t:Int)<n:=dp
            have bz:(z:Int)<n:=dp;have m1:¬t=z:=dp;have m2:¬z=t:=dp;have a':z<t:=dp;clear x;by_cases hx:c[t]! < c[z]!
            .have TF:decide (((c[t]!:Nat):Int)<((c[z]!:Nat):Int))=true:=by rw[decide_eq_true_iff];omega
             have E:Hid (Go.Sort.shiftDown fR z (Go.Sort.swp c t z)=Go.Sort.fixDown fR a k l):=by rw[<-sdE Z.out hx];exact T.2
             have ft:wr.frozen? ⟨g,t,none⟩=false:=T.1.free _;have fz:wr.frozen? ⟨g,z,none⟩=false:=T.1.free _;go_wp2;go_quiet (first|(go_at_call 261;refine Calls.quiet_of_same<|fX _ _ _))
             go_wp2;go_region;all_goals go_wp2
             all_goals go_roundw
             case rel=>exact⟨z,rfl,dp,_,((T.1.drewN nq).swp t z).drew,E.out⟩
             case measure=>simp[intOf];omega
            .have TF:decide (((c[t]!:Nat):Int)<((c[z]!:Nat):Int))=false:=by rw[decide_eq_false_iff_not];omega
             have E:Hid (c=Go.Sort.fixDown fR a k l):=by rw[<-T.2];exact(sdS Z.out hx).symm
             go_wp2;go_quiet (first|(go_at_call 261;refine Calls.quiet_of_same<|fX _ _ _))
             go_wp2;go_meet;rw[<-E.out];exact T.1.drewN _
         .have l4:¬(2:Int)<=k-(a:Int):=dp;have F:Hid (Go.Sort.fixDown fR a k l=l):=by show _=_;unfold Go.Sort.fixDown;rw[mE dp]
          go_wp2;go_meet;rw[F.out];exact G.out
        case rest=>
         have⟨c,N⟩:=gb <|Go.Sort.fixDown fR a k l;rw[<-N]at R hcut;have O:=ah hcut;clear hcut N G;by_cases C:2<=b-k
         .have l4:(2:Int)<=b-(k:Int):=dp;have F:Hid (Go.Sort.shiftUp fR b (k+1) c=Go.Sort.fixUp fR b k c):=by show _=_;unfold Go.Sort.fixUp;rw[oo C]
          have av:IntKind.i64.wrap ((k:Int)+1)=((k+1:Nat):Int):=eD;go_wp2;go_loopw [10] (λj wr=>∃t:Nat,j=.int .i64 t/\k<t/\t<=b/\∃m,Hid<|SU o wr B g n p m/\Go.Sort.shiftUp fR b t m=Go.Sort.fixUp fR b k c) (λj _=>n+5-(intOf j).toNat);case atStart=>exact⟨k+1,dv,dp,dp,c,O.out,F.out⟩
          case round=>
           obtain⟨t,rfl,ae,al,m,T⟩:=hrel;have⟨z,x⟩:∃z,t=z+1:=⟨t-1,dp⟩;have jz:IntKind.i64.wrap ((t:Int)-1)=(z:Int):=eD
           have Z:=ah x;have a':z<t:=dp;have m1:¬t=z:=dp;have m2:¬z=t:=dp;clear x;by_cases V:t<b
           .have l5:(t:Int)<b:=dp;have ct:=T.1.at (k:=t) dp;have cz:=T.1.at (k:=z) dp;have bt:(t:Int)<n:=dp
            have bz:(z:Int)<n:=dp;by_cases hx:m[t]! < m[z]!
            .have TF:decide (((m[t]!:Nat):Int)<((m[z]!:Nat):Int))=true:=by rw[decide_eq_true_iff];omega
             have E:Hid (Go.Sort.shiftUp fR b (t+1) (Go.Sort.swp m t z)=Go.Sort.fixUp fR b k c):=by rw[<-suE Z.out V hx];exact T.2
             have ft:wr.frozen? ⟨g,t,none⟩=false:=T.1.free _;have fz:wr.frozen? ⟨g,z,none⟩=false:=T.1.free _;have jt:IntKind.i64.wrap ((t:Int)+1)=((t+1:Nat):Int):=eD;go_wp2;go_quiet (first|(go_at_call 261;refine Calls.quiet_of_same<|fX _ _ _))
             go_wp2;go_region;all_goals go_wp2
             all_goals go_roundw
             case rel=>exact⟨t+1,dv,dp,dp,_,((T.1.drewN nq).swp t z).drew,E.out⟩
             case measure=>simp[intOf];omega
            .have TF:decide (((m[t]!:Nat):Int)<((m[z]!:Nat):Int))=false:=by rw[decide_eq_false_iff_not];omega
             have E:Hid (m=Go.Sort.fixUp fR b k c):=by rw[<-T.2];exact(suS Z.out λh=>hx h.2).symm
             go_wp2;go_quiet (first|(go_at_call 261;refine Calls.quiet_of_same<|fX _ _ _))
             go_wp2;go_roundw;case rel=>exact⟨k,q+1,rfl,dv,dp,dp,dp,Go.Sort.fixUp fR b k c,by rw[<-E.out];exact T.1.drewN _,by rw[Q.out];exact R.out⟩
             case measure=>simp[intOf];omega
           .have l5:¬(t:Int)<b:=dp;have E:Hid (m=Go.Sort.fixUp fR b k c):=by rw[<-T.2];exact(suS Z.out λh=>V h.1).symm
            go_wp2;go_roundw;case rel=>exact⟨k,q+1,rfl,dv,dp,dp,dp,Go.Sort.fixUp fR b k c,by rw[<-E.out];exact T.1,by rw[Q.out];exact R.out⟩
            case measure=>simp[intOf];omega
         .have l4:¬(2:Int)<=b-(k:Int):=dp;have F:Hid (Go.Sort.fixUp fR b k c=c):=by show _=_;unfold Go.Sort.fixUp;rw[mE dp]
          go_wp2;go_roundw;case rel=>exact⟨k,q+1,rfl,dv,dp,dp,dp,Go.Sort.fixUp fR b k c,by rw[F.out];exact O.out,by rw[Q.out];exact R.out⟩
          case measure=>simp[intOf];omega
  .obtain rfl:q=5:=dp;have R:=ah L.2;go_wp2;go_ret;exact⟨by rw[<-R.out];rfl,by rw[<-R.out];exact L.1⟩
structure PI(d:Array Nat)(a b x I J:Nat)(e:Array Nat):Prop where
 perm:Go.Sort.PermIn a b d e
 piv:e[a]! = x
 lo:∀t,a<t->t<I->e[t]! < x
 hi:∀t,J<t->t<b->¬e[t]! < x
 aI:a<I
 ij:I<=J+1
 jb:J<b
structure PS(d:Array Nat)(a b m:Nat)(e:Array Nat):Prop where
 perm:Go.Sort.PermIn a b d e
 am:a<=m
 mb:m<b
 lo:∀t,a<=t->t<m->e[t]! < e[m]!
 hi:∀t,m<t->t<b->¬e[t]! < e[m]!
section
variable{d e:Array Nat}{a b x I J:Nat}
theorem PI.up(h:PI d a b x I J e)(i:I<=J)(hx:e[I]! < x):PI d a b x (I+1) J e:=
 ⟨h.perm,h.piv,λt f g=>(Nat.lt_or_ge t I).elim (λc=>h.lo t f c) λc=>(by omega:t=I)▸hx,h.hi,Nat.lt_succ_of_lt h.aI,dp,h.jb⟩
theorem PI.dn(h:PI d a b x I J e)(i:I<=J)(hx:¬e[J]! < x):PI d a b x I (J-1) e:=
 ⟨h.perm,h.piv,h.lo,λt g f=>(Nat.lt_or_ge J t).elim (λc=>h.hi t c f) λc=>(by omega:t=J)▸hx,h.aI,by have:=h.aI;omega,by have:=h.jb;omega⟩
theorem PI.swap(h:PI d a b x I J e)(hb:b<=d.size)(o:I<=J)(m:¬e[I]! < x)(n:e[J]! < x):PI d a b x (I+1) (J-1) (Go.Sort.swp e I J)/\I<J:=by
 have s:=h.perm.1;have r:I≠J:=λe=>by subst e;exact m n
 have q:=h.jb;have p:=h.aI;have g:=λk=>Go.Sort.swp_get e (i:=I) (j:=J) (by omega) (by omega) k
 refine⟨⟨Go.Sort.permIn_trans _ _ _ _ _ h.perm<|Go.Sort.swp_permIn _ _ _ _ _ dp dp dp dp dp,?_,λt f l=>?_,λt f l=>?_,dp,dp,dp⟩,dp⟩
 .rw[g];simp only[show a≠I by omega,show a≠J by omega,if_false];exact h.piv
 .rw[g];by_cases c:t=I
  .grind
  .simp only[c,show t≠J by omega,if_false];exact h.lo t f dp
 .rw[g];by_cases c:t=J
  .grind
  .simp only[c,show t≠I by omega,if_false];exact h.hi t dp l
theorem PI.fin(h:PI d a b x I J e)(hb:b<=d.size)(o:¬I<=J):PS d a b J (Go.Sort.swp e J a):=by
 have s:=h.perm.1;have n:=h.jb;have p:=h.aI;have q:=h.ij;have g:=λk=>Go.Sort.swp_get e (i:=J) (j:=a) (by omega) (by omega) k
 have f:(Go.Sort.swp e J a)[J]! = x:=by
  rw[g];by_cases c:J=a
  .simp only[c,if_true];exact h.piv
  .simp only[c,if_true,if_false];exact h.piv
 refine⟨Go.Sort.permIn_trans _ _ _ _ _ h.perm<|Go.Sort.swp_permIn _ _ _ _ _ dp dp dp dp dp,dp,n,λt l m=>?_,λt l m=>?_⟩
 .rw[f,g];by_cases c:t=a
  .subst c;simp only[show t≠J by omega,if_true,if_false];exact h.lo J dp dp
  .simp only[c,show t≠J by omega,if_false];exact h.lo t dp dp
 .rw[f,g];simp only[show t≠a by omega,show t≠J by omega,if_false];exact h.hi t l m
end
theorem PI.first{b:Nat}(hb:b<=d.size)(Y:a<=p)(I:p<b):PI d a b (Go.Sort.swp d a p)[a]! (a+1) (b-1) (Go.Sort.swp d a p):=
 ⟨Go.Sort.swp_permIn _ _ _ _ _ dp dp dp dp dp,rfl,λt h c=>dp,λt h c=>dp,dp,dp,dp⟩
theorem ac8(B g n o a b p:Nat)(d:Array Nat)(q w:nL)(h:SU q w B g n o d)(TY:a<=p)(wI:p<b)(hb:b<=n)(hn:n<=1000000000):
  Calls prog 332 #[.slice (some<|gi g) n o,.int .i64 (a:Int),.int .i64 (b:Int),.int .i64 (p:Int)] w λe w'=>∃(m:Nat) (al:Bool) (d':Array Nat),e=.returned (.tuple #[.int .i64 (m:Int),.bool al])/\SU q w' B g n o d'/\PS d a b m d':=by
 have T:=ah h;have j0:IntKind.i64.wrap ((a:Int)+1)=((a+1:Nat):Int):=eD;have j1:IntKind.i64.wrap ((b:Int)-1)=((b-1:Nat):Int):=eD;have ba:(a:Int)<n:=dp;have bp:(p:Int)<(n:Int):=by omega
 have u:=h.at (k:=a) (by omega);have cp:=h.at (k:=p) (by omega);have fa:w.frozen? ⟨g,a,none⟩=false:=h.free _;have fp:w.frozen? ⟨g,p,none⟩=false:=h.free _;have D:Hid (b<=d.size):=by show b<=d.size;rw[h.sz];exact hb
 clear h;go_enter func332,ntmps332;go_upto_region 1 with fail;go_cut [12]from 12 to 25 (λ_ C=>SU q C B g n o<|Go.Sort.swp d a p);case first=>
  by_cases Z:a=p
  .subst Z;go_region;all_goals (go_wp2;go_meet;exact(T.out.swp a a).drew)
  .have sA:¬p=a:=λe=>Z e.symm
   go_region;all_goals (go_wp2;go_meet;exact(T.out.swp a p).drew)
 case rest=>
  have⟨f,P⟩:=gb <|Go.Sort.swp d a p;have⟨x,hx⟩:=gb <|f[a]!;have⟨z,O⟩:=gb <|b-1;have HP:Hid (PI d a b x (a+1) z f):=by rw[hx,P,O];exact PI.first D.out TY wI
  rw[<-P]at hcut;rw[<-O]at j1;have S:=ah hcut;clear hcut u cp fa fp P hx O;go_wp2;go_loopw [10] (λi wr=>∃k:Nat,i=.int .i64 k/\a+1<=k/\Hid (SU q wr B g n o f/\PI d a b x k z f)) (λi _=>n+5-(intOf i).toNat);case atStart=>exact⟨a+1,dv,zzc _,S.out,HP.out⟩
  case round=>
   obtain⟨k,rfl,D8,R⟩:=hrel;have qB:=R.2.aI;have mL:=R.2.ij;have lF:=R.2.jb;go_upto_region 3 with fail;go_cut [43]from 30 to 45 (λs C=>s=.bool (decide<|k<=z/\f[k]! < x)/\SU q C B g n o f);case first=>
    by_cases r:k<=z
    .have l1:(k:Int)<=z:=dp;have F:=R.1.at (k:=k) (by omega);have u:=R.1.at (k:=a) (by omega);rw[R.2.piv]at u;have bk:(k:Int)<n:=dp
     go_quiet (first|(go_at_call 261;refine Calls.quiet_of_same<|fX _ _ _))
     go_wp2;go_meet;refine⟨?_,R.1.drewN _⟩;congr 1;simp[r]
    .have l1:¬(k:Int)<=z:=dp;go_quiet (first|(go_at_call 261;refine Calls.quiet_of_same<|fX _ _ _))
     go_wp2
     go_meet
     refine⟨?_,R.1.drewN _⟩;congr 1;simp[r]
   case rest=>
    obtain⟨rfl,v⟩:=hcut;have S:=ah v;clear v;by_cases c:k<=z/\f[k]! < x
    .have j2:IntKind.i64.wrap ((k:Int)+1)=((k+1:Nat):Int):=eD;rw[zI c];have t:=R.2.up c.1 c.2;have Q:=ah<|zzb S.out t;clear c t;go_wp2
     go_roundw
     case rel=>exact⟨k+1,dv,dp,Q.out⟩
     case measure=>simp[intOf];omega
    .rw[zY c];have U:Hid (SU q wc B g n o f/\PI d a b x k z f/\(k<=z->¬f[k]! < x)):=⟨S.out,R.2,λA E=>c ⟨A,E⟩⟩;clear S R c;go_wp2
     go_loopw [11] (λi wr=>∃y:Nat,i=.int .i64 y/\y<=z/\Hid (SU q wr B g n o f/\PI d a b x k y f)) (λi _=>(intOf i).toNat)
     case atStart=>exact⟨z,rfl,zzc _,U.1,U.2.1⟩
     case round=>
      obtain⟨y,rfl,a8,R⟩:=hrel;have MY:=R.2.ij;have a7:=R.2.jb
      go_upto_region 5 with fail
      go_cut [60]from 46 to 62 (λs C=>s=.bool (decide<|k<=y/\¬f[y]! < x)/\SU q C B g n o f)
      case first=>
       by_cases r:k<=y
       .have l1:(k:Int)<=y:=dp;have F:=R.1.at (k:=y) (by omega);have u:=R.1.at (k:=a) (by omega);rw[R.2.piv]at u;have bk:(y:Int)<n:=dp
        go_quiet (first|(go_at_call 261;refine Calls.quiet_of_same<|fX _ _ _))
        go_wp2;go_meet;refine⟨?_,R.1.drewN _⟩;congr 1;by_cases G:f[y]! < x
        .simp[r,G]
        .simp[r,G]
       .have l1:¬(k:Int)<=y:=dp;go_quiet (first|(go_at_call 261;refine Calls.quiet_of_same<|fX _ _ _))
        go_wp2
        go_meet
        refine⟨?_,R.1.drewN _⟩;congr 1;simp[r]
      case rest=>
       obtain⟨rfl,v⟩:=hcut;have S:=ah v;clear v;by_cases c:k<=y/\¬f[y]! < x
       .have j2:IntKind.i64.wrap ((y:Int)-1)=((y-1:Nat):Int):=eD;rw[zI c];have t:=R.2.dn c.1 c.2;have a1:0<y:=dp;have Q:=ah<|zzb S.out t;clear c t;go_wp2
        go_roundw
        case rel=>exact⟨y-1,rfl,dp,Q.out⟩
        case measure=>simp[intOf];omega
       .rw[zY c];have V:Hid (SU q wc B g n o f/\PI d a b x k y f/\(k<=y->¬f[k]! < x)/\(k<=y->f[y]! < x)):=⟨S.out,R.2,λA=>U.2.2 dp,λA=>Classical.byContradiction λE=>c ⟨A,E⟩⟩;clear S U R c;by_cases X:k<=y
        .have l2:¬(y:Int)<k:=dp;obtain⟨K,q2⟩:=V.2.1.swap D.out X (V.2.2.1 X)<|V.2.2.2 X;have L:=V.1.at (k:=y) (by omega);have F:=V.1.at (k:=k) (by omega);have M:wc.frozen? ⟨g,y,none⟩=false:=V.1.free _;have Y:wc.frozen? ⟨g,k,none⟩=false:=V.1.free _;have W:(y:Int)<n:=dp
         have bk:(k:Int)<n:=dp;have n1:¬k=y:=dp;have n2:¬y=k:=dp;have j3:IntKind.i64.wrap ((k:Int)+1)=((k+1:Nat):Int):=eD;have j4:IntKind.i64.wrap ((y:Int)-1)=((y-1:Nat):Int):=eD;have N:=ah K;clear K;go_wp2;go_region;all_goals go_wp2
         go_loopw [10,11] (λi j wr=>∃I J:Nat,i=.int .i64 I/\j=.int .i64 J/\J<b/\∃l,Hid<|SU q wr B g n o l/\PI d a b x I J l) (λi j _=>(intOf j).toNat+1-(intOf i).toNat);case atStart=>exact⟨k+1,y-1,dv,dv,dp,_,(V.1.swp k y).drew,N.out⟩
         case round=>
          obtain⟨I,J,rfl,rfl,a',l,hL⟩:=hrel;clear V N L F M Y;go_wp2;go_loopw [10] (λi wr=>∃k:Nat,i=.int .i64 k/\I<=k/\Hid (SU q wr B g n o l/\PI d a b x k J l)) (λi _=>n+5-(intOf i).toNat);case atStart=>exact⟨I,rfl,zzc _,hL.out⟩
          case round=>
           obtain⟨k,rfl,D8,R⟩:=hrel;have qB:=R.2.aI;have mL:=R.2.ij;have lF:=R.2.jb;go_upto_region 13 with fail;go_cut [112]from 99 to 114 (λs C=>s=.bool (decide<|k<=J/\l[k]! < x)/\SU q C B g n o l);case first=>
            by_cases r:k<=J
            .have l1:(k:Int)<=J:=dp;have F:=R.1.at (k:=k) dp;have u:=R.1.at (k:=a) dp;rw[R.2.piv]at u;have bk:(k:Int)<n:=dp
             go_quiet (first|(go_at_call 261;refine Calls.quiet_of_same<|fX _ _ _))
             go_wp2;go_meet;refine⟨?_,R.1.drewN _⟩;congr 1;simp[r]
            .have l1:¬(k:Int)<=J:=dp;go_quiet (first|(go_at_call 261;refine Calls.quiet_of_same<|fX _ _ _))
             go_wp2;go_meet;refine⟨?_,R.1.drewN _⟩;congr 1;simp[r]
           case rest=>
            obtain⟨rfl,v⟩:=hcut;have S:=ah v;clear v;by_cases c:k<=J/\l[k]! < x
            .have j2:IntKind.i64.wrap ((k:Int)+1)=((k+1:Nat):Int):=eD;rw[zI c];have t:=R.2.up c.1 c.2;have Q:=ah<|zzb S.out t;clear c t;go_wp2
             go_roundw;case rel=>exact⟨k+1,dv,dp,Q.out⟩
             case measure=>simp[intOf];omega
            .rw[zY c];have U:Hid (SU q wc B g n o l/\PI d a b x k J l/\(k<=J->¬l[k]! < x)):=⟨S.out,R.2,λA E=>c ⟨A,E⟩⟩;clear S R c;go_wp2;go_wp2
             go_loopw [11] (λi wr=>∃y:Nat,i=.int .i64 y/\y<=J/\Hid (SU q wr B g n o l/\PI d a b x k y l)) (λi _=>(intOf i).toNat);case atStart=>exact⟨J,rfl,zzc _,U.1,U.2.1⟩
             case round=>
              obtain⟨y,rfl,a8,R⟩:=hrel;have MY:=R.2.ij;have a7:=R.2.jb;go_upto_region 15 with fail;go_cut [129]from 115 to 131 (λs C=>s=.bool (decide<|k<=y/\¬l[y]! < x)/\SU q C B g n o l);case first=>
               by_cases r:k<=y
               .have l1:(k:Int)<=y:=dp;have F:=R.1.at (k:=y) dp;have u:=R.1.at (k:=a) dp;rw[R.2.piv]at u;have bk:(y:Int)<n:=dp
                go_quiet (first|(go_at_call 261;refine Calls.quiet_of_same<|fX _ _ _))
                go_wp2;go_meet;refine⟨?_,R.1.drewN _⟩;congr 1;by_cases G:l[y]! < x
                .simp[r,G]
                .simp[r,G]
               .have l1:¬(k:Int)<=y:=dp;go_quiet (first|(go_at_call 261;refine Calls.quiet_of_same<|fX _ _ _))
                go_wp2;go_meet;refine⟨?_,R.1.drewN _⟩;congr 1;simp[r]
              case rest=>
               obtain⟨rfl,v⟩:=hcut;have S:=ah v;clear v;by_cases c:k<=y/\¬l[y]! < x
               .have j2:IntKind.i64.wrap ((y:Int)-1)=((y-1:Nat):Int):=eD;rw[zI c];have t:=R.2.dn c.1 c.2;have a1:0<y:=dp;have Q:=ah<|zzb S.out t;clear c t;go_wp2
                go_roundw;case rel=>exact⟨y-1,rfl,dp,Q.out⟩
                case measure=>simp[intOf];omega
               .rw[zY c];have V:Hid (SU q wc B g n o l/\PI d a b x k y l/\(k<=y->¬l[k]! < x)/\(k<=y->l[y]! < x)):=⟨S.out,R.2,λA=>U.2.2 dp,λA=>Classical.byContradiction λE=>c ⟨A,E⟩⟩;clear S U R c;by_cases X:k<=y
                .have l2:¬(y:Int)<k:=dp;have⟨K,q2⟩:=V.2.1.swap D.out X (V.2.2.1 X)<|V.2.2.2 X;have L:=V.1.at (k:=y) dp;have F:=V.1.at (k:=k) dp;have M:wc.frozen? ⟨g,y,none⟩=false:=V.1.free _;have Y:wc.frozen? ⟨g,k,none⟩=false:=V.1.free _;have W:(y:Int)<n:=dp
                 have bk:(k:Int)<n:=dp;have n1:¬k=y:=dp;have n2:¬y=k:=dp;have j3:IntKind.i64.wrap ((k:Int)+1)=((k+1:Nat):Int):=eD;have j4:IntKind.i64.wrap ((y:Int)-1)=((y-1:Nat):Int):=eD;have N:=ah K;clear K;go_wp2;go_region;all_goals go_wp2
                 go_roundw;case rel=>exact⟨k+1,y-1,dv,dv,dp,_,(V.1.swp k y).drew,N.out⟩
                 case measure=>simp[intOf];omega
                .have l2:(y:Int)<k:=dp;have ay:=V.2.1.aI;have ky:=V.2.1.ij;have L:=V.1.at (k:=y) dp;have u:=V.1.at (k:=a) dp;have M:wc.frozen? ⟨g,y,none⟩=false:=V.1.free _;have fa:wc.frozen? ⟨g,a,none⟩=false:=V.1.free _;have W:(y:Int)<n:=dp
                 by_cases H:y=a
                 .subst H;go_wp2;go_region;all_goals go_wp2
                  all_goals go_ret2
                  all_goals exact⟨y,false,_,rfl,(V.1.swp y y).drew,V.2.1.fin D.out dp⟩
                 .have afA:¬a=y:=λe=>H e.symm
                  go_wp2;go_region;all_goals go_wp2
                  all_goals go_ret2
                  all_goals exact⟨y,false,_,rfl,(V.1.swp y a).drew,V.2.1.fin D.out dp⟩
        .have l2:(y:Int)<k:=dp;have ay:=V.2.1.aI;have ky:=V.2.1.ij;have L:=V.1.at (k:=y) dp;have u:=V.1.at (k:=a) dp;have M:wc.frozen? ⟨g,y,none⟩=false:=V.1.free _;have fa:wc.frozen? ⟨g,a,none⟩=false:=V.1.free _;have W:(y:Int)<n:=dp
         by_cases H:y=a
         .subst H;go_wp2;go_region;all_goals go_wp2
          all_goals go_ret2
          all_goals exact⟨y,true,_,rfl,(V.1.swp y y).drew,V.2.1.fin D.out dp⟩
         .have afA:¬a=y:=λe=>H e.symm
          go_wp2;go_region;all_goals go_wp2
          all_goals go_ret2
          all_goals exact⟨y,true,_,rfl,(V.1.swp y a).drew,V.2.1.fin D.out dp⟩
theorem TV(h:i<=2*r+1):Go.Sort.siftDown fR i f r d=d:=by
 rw[Go.Sort.siftDown,dif_pos dp]
theorem aa2(g:c=2*r+1)(j:e=c+1)(hp:p=f+c)(A:a=p+1)(k:q=f+r)(h:e<i)(b:d[p]! < d[a]!):
  Go.Sort.siftDown fR i f r d=if d[q]! < d[a]! then Go.Sort.siftDown fR i f e (Go.Sort.swp d q a)else d:=by
 subst g j hp A k;rw[Go.Sort.siftDown,dif_neg dp,oo<|by simp[fR];exact⟨h,b⟩];simp only[show f+(2*r+2)=f+(2*r+1)+1 by omega];by_cases l:d[f+r]! < d[f+(2*r+1)+1]!<;>grind
theorem TW(j:c=2*r+1)(k:e=c+1)(hp:p=f+c)(A:a=p+1)(l:q=f+r)(m:c<i)(g:¬(e<i/\d[p]! < d[a]!)):
  Go.Sort.siftDown fR i f r d=if d[q]! < d[p]! then Go.Sort.siftDown fR i f c (Go.Sort.swp d q p)else d:=by
 subst j k hp A l;rw[Go.Sort.siftDown,dif_neg dp,mE<|by simp[fR];intro h;have:=λb=>g ⟨h,b⟩;omega];by_cases n:d[f+r]! < d[f+(2*r+1)]!<;>grind
theorem TX(B g n m u j f:Nat)(d:Array Nat)(t w:nL)(h:SU t w B g n m d)(X:u<=j)(hb:f+j<=n)(hn:n<=1000000000):
  Calls prog 352 #[.slice (some<|gi g) n m,.int .i64 (u:Int),.int .i64 (j:Int),.int .i64 (f:Int)] w λe w'=>e=.returned (.tuple #[])/\SU t w' B g n m (Go.Sort.siftDown fR j f u d):=by
 have R:=ah h;clear h;go_enter func352,ntmps352;go_wp2;go_loopw [8] (λi wr=>∃r:Nat,i=.int .i64 r/\r<=j/\∃d',SU t wr B g n m d'/\Go.Sort.siftDown fR j f r d'=Go.Sort.siftDown fR j f u d) (λi _=>n+5-(intOf i).toNat);.exact⟨u,rfl,X,d,R.out,rfl⟩
 case round=>
  obtain⟨r,rfl,hr,a,K,U⟩:=hrel;have S:=ah K;have E:=ah U;clear K U;obtain⟨c,y⟩:∃c,c=2*r+1:=⟨_,rfl⟩;have a8:IntKind.i64.wrap (2*(r:Int))=2*(r:Int):=eD;have a':IntKind.i64.wrap (2*(r:Int)+1)=(c:Int):=eD;have Y:r<c:=dp;have C:=ah y;clear y;by_cases I:c<j
  .have j1:(c:Int)<j:=dp;obtain⟨e,A⟩:∃e,e=c+1:=⟨_,rfl⟩;obtain⟨p,hp⟩:∃p,p=f+c:=⟨_,rfl⟩;obtain⟨b,G⟩:∃b,b=p+1:=⟨_,rfl⟩;obtain⟨q,D⟩:∃q,q=f+r:=⟨_,rfl⟩;have je:IntKind.i64.wrap ((c:Int)+1)=(e:Int):=eD;have jp:IntKind.i64.wrap ((f:Int)+c)=(p:Int):=eD;have aa:IntKind.i64.wrap ((p:Int)+1)=(b:Int):=eD;have ab:IntKind.i64.wrap ((f:Int)+e)=(b:Int):=eD;have jq:IntKind.i64.wrap ((f:Int)+r)=(q:Int):=eD;have Q:=ah<|zzb A<|zzb hp<|zzb G D;have x:=S.out.at (k:=q) (by omega);have v:=S.out.at (k:=p) (by omega);have s:wr.frozen? ⟨g,q,none⟩=false:=S.out.free _;have o:wr.frozen? ⟨g,p,none⟩=false:=S.out.free _;have bq:(q:Int)<n:=dp
   have bp:(p:Int)<n:=dp;have ae:q≠p:=dp;have ad:p≠q:=dp;by_cases V:e<j
   .have j2:(e:Int)<j:=dp;have J:=S.out.at (k:=b) (by omega);have N:wr.frozen? ⟨g,b,none⟩=false:=S.out.free _;have a7:(b:Int)<n:=dp
    have Z:q≠b:=dp;have a1:b≠q:=dp;clear A hp G D;by_cases H:((a[p]!:Nat):Int)<((a[b]!:Nat):Int)
    .have hd:decide (((a[p]!:Nat):Int)<((a[b]!:Nat):Int))=true:=by simp only[H,decide_true]
     have F:Hid (Go.Sort.siftDown fR j f r a=if a[q]! < a[b]! then Go.Sort.siftDown fR j f e (Go.Sort.swp a q b)else a):=aa2 C.out Q.1 Q.2.1 Q.2.2.1 Q.2.2.2 V (by omega);go_wp2;go_quiet (first|(go_at_call 261;refine Calls.quiet_of_same<|fX _ _ _))
     have⟨l,P⟩:∃W,W=wr.drewN nq:=⟨_,rfl⟩;rw[<-P];have T:Hid (SU t l B g n m a):=by rw[P];exact S.out.drewN nq
     clear P x v s o J N;have M:=T.out.at (k:=q) (by omega);have L:=T.out.at (k:=b) dp;have s:l.frozen? ⟨g,q,none⟩=false:=T.out.free _;have o:l.frozen? ⟨g,b,none⟩=false:=T.out.free _;by_cases z:((a[q]!:Nat):Int)<((a[b]!:Nat):Int)
     .have hzd:decide (((a[q]!:Nat):Int)<((a[b]!:Nat):Int))=true:=by simp only[z,decide_true]
      go_wp2;go_quiet (first|(go_at_call 261;refine Calls.quiet_of_same<|fX _ _ _))
      go_wp2;go_region;all_goals go_wp2
      have O:=Q.out;refine⟨⟨e,rfl,dp,_,((T.out.drewN nq).swp q b).drew,?_⟩,fq⟩;rw[<-E.out,F.out,oo dp]
     .have hzd:decide (((a[q]!:Nat):Int)<((a[b]!:Nat):Int))=false:=by simp only[z,decide_false]
      go_wp2;go_quiet (first|(go_at_call 261;refine Calls.quiet_of_same<|fX _ _ _))
      go_wp2
      .refine zA (xw rfl _ _ _) rfl ?_;refine⟨rfl,?_⟩;rw[<-E.out,F.out,mE dp];exact T.out.drewN _
      .exfalso;have hx:(!decide (a[q]! < a[b]!))=false:=eS;simp at hx;omega
    .have hd:decide (((a[p]!:Nat):Int)<((a[b]!:Nat):Int))=false:=by simp only[H,decide_false]
     have F:Hid (Go.Sort.siftDown fR j f r a=if a[q]! < a[p]! then Go.Sort.siftDown fR j f c (Go.Sort.swp a q p)else a):=TW C.out Q.1 Q.2.1 Q.2.2.1 Q.2.2.2 I dp;go_wp2;go_quiet (first|(go_at_call 261;refine Calls.quiet_of_same<|fX _ _ _))
     have⟨l,P⟩:∃W,W=wr.drewN nq:=⟨_,rfl⟩;rw[<-P];have T:Hid (SU t l B g n m a):=by rw[P];exact S.out.drewN nq
     clear P x v s o J N;have M:=T.out.at (k:=q) dp;have L:=T.out.at (k:=p) dp;have s:l.frozen? ⟨g,q,none⟩=false:=T.out.free _;have o:l.frozen? ⟨g,p,none⟩=false:=T.out.free _;by_cases z:((a[q]!:Nat):Int)<((a[p]!:Nat):Int)
     .have hzd:decide (((a[q]!:Nat):Int)<((a[p]!:Nat):Int))=true:=by simp only[z,decide_true]
      go_wp2;go_quiet (first|(go_at_call 261;refine Calls.quiet_of_same<|fX _ _ _))
      go_wp2;go_region;all_goals go_wp2
      have O:=Q.out;refine⟨⟨c,rfl,dp,_,((T.out.drewN nq).swp q p).drew,?_⟩,fq⟩;rw[<-E.out,F.out,oo dp]
     .have hzd:decide (((a[q]!:Nat):Int)<((a[p]!:Nat):Int))=false:=by simp only[z,decide_false]
      go_wp2;go_quiet (first|(go_at_call 261;refine Calls.quiet_of_same<|fX _ _ _))
      go_wp2
      .refine zA (xw rfl _ _ _) rfl ?_;refine⟨rfl,?_⟩;rw[<-E.out,F.out,mE dp];exact T.out.drewN _
      .exfalso;have hx:(!decide (a[q]! < a[p]!))=false:=eS;simp at hx;omega
   .have j2:¬(e:Int)<j:=dp;clear A hp G D;have F:Hid (Go.Sort.siftDown fR j f r a=if a[q]! < a[p]! then Go.Sort.siftDown fR j f c (Go.Sort.swp a q p)else a):=TW C.out Q.1 Q.2.1 Q.2.2.1 Q.2.2.2 I dp;go_wp2;go_quiet (first|(go_at_call 261;refine Calls.quiet_of_same<|fX _ _ _))
    have⟨l,P⟩:∃W,W=wr.drewN nq:=⟨_,rfl⟩;rw[<-P];have T:Hid (SU t l B g n m a):=by rw[P];exact S.out.drewN nq
    clear P x v s o;have M:=T.out.at (k:=q) dp;have L:=T.out.at (k:=p) dp;have s:l.frozen? ⟨g,q,none⟩=false:=T.out.free _;have o:l.frozen? ⟨g,p,none⟩=false:=T.out.free _;by_cases z:((a[q]!:Nat):Int)<((a[p]!:Nat):Int)
    .have hzd:decide (((a[q]!:Nat):Int)<((a[p]!:Nat):Int))=true:=by simp only[z,decide_true]
     go_wp2;go_quiet (first|(go_at_call 261;refine Calls.quiet_of_same<|fX _ _ _))
     go_wp2;go_region;all_goals go_wp2
     have O:=Q.out;refine⟨⟨c,rfl,dp,_,((T.out.drewN nq).swp q p).drew,?_⟩,fq⟩;rw[<-E.out,F.out,oo dp]
    .have hzd:decide (((a[q]!:Nat):Int)<((a[p]!:Nat):Int))=false:=by simp only[z,decide_false]
     go_wp2;go_quiet (first|(go_at_call 261;refine Calls.quiet_of_same<|fX _ _ _))
     go_wp2
     .refine zA (xw rfl _ _ _) rfl ?_;refine⟨rfl,?_⟩;rw[<-E.out,F.out,mE dp];exact T.out.drewN _
     .exfalso;have hx:(!decide (a[q]! < a[p]!))=false:=eS;simp at hx;omega
  .have j1:¬(c:Int)<j:=dp;go_wp2;go_end0;refine⟨rfl,?_⟩;have y:=C.out;rw[<-E.out,TV dp];exact S.out
end Go.Proofs.YtlgeloebpdmnnaaGreatDoor
