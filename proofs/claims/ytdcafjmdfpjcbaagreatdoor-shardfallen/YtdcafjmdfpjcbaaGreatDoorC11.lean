import Derived.Test.YtdcafjmdfpjcbaaGreatDoorC10
import Derived.Deep.CutRange
set_option maxHeartbeats 8000000
set_option maxRecDepth 100000
namespace Go.Proofs.YtdcafjmdfpjcbaaGreatDoor
open Go.RowKit Go.Maps Tryz Sc
variable{y:Nat}
structure PI(d:Array Nat)(a b x I J:Nat)(e:Array Nat):Prop where
 perm:Go.Sort.PermIn a b d e
 piv:e[a]! = x
 lo:∀t,a<t->t<I->e[t]! < x
 hi:∀t,J<t->t<b->¬e[t]! < x
 aI:a<I
 ij:I<=J+1
 jb:J<b
structure PS(d:Array Nat)(a b m:Nat)(e:Array Nat):Prop where
 perm:Go.Sort.PermIn a b d e
 am:a<=m
 mb:m<b
 lo:∀t,a<=t->t<m->e[t]! < e[m]!
 hi:∀t,m<t->t<b->¬e[t]! < e[m]!
section
variable{d e:Array Nat}{a b x I J:Nat}
theorem PI.up(h:PI d a b x I J e)(i:I<=J)(g:e[I]! < x):PI d a b x (I+1) J e:=
 ⟨h.perm,h.piv,λt f j=>(Nat.lt_or_ge t I).elim (λc=>h.lo t f c) λc=>(by omega:t=I)▸g,h.hi,Nat.lt_succ_of_lt h.aI,oE,h.jb⟩
theorem PI.dn(h:PI d a b x I J e)(i:I<=J)(f:¬e[J]! < x):PI d a b x I (J-1) e:=
 ⟨h.perm,h.piv,h.lo,λt j g=>(Nat.lt_or_ge J t).elim (λc=>h.hi t c g) λc=>(by omega:t=J)▸f,h.aI,by have:=h.aI;omega,by have:=h.jb;omega⟩
theorem PI.swap(h:PI d a b x I J e)(u:b<=d.size)(o:I<=J)(m:¬e[I]! < x)(n:e[J]! < x):PI d a b x (I+1) (J-1) (Go.Sort.swp e I J)/\I<J:=by
 have s:=h.perm.1;have p:I≠J:=λe=>by subst e;exact m n
 have q:=h.jb;have r:=h.aI;have g:=λk=>Go.Sort.swp_get e (i:=I) (j:=J) (by omega) (by omega) k
 refine⟨⟨Go.Sort.permIn_trans _ _ _ _ _ h.perm<|Go.Sort.swp_permIn _ _ _ _ _ oE oE oE oE oE,?_,λt l f=>?_,λt l f=>?_,oE,oE,oE⟩,oE⟩
 .rw[g];simp only[show a≠I by omega,show a≠J by omega,if_false];exact h.piv
 .rw[g];by_cases c:t=I
  .grind
  .simp only[c,show t≠J by omega,if_false];exact h.lo t l oE
 .rw[g];by_cases c:t=J
  .grind
  .simp only[c,show t≠I by omega,if_false];exact h.hi t oE f
theorem PI.fin(h:PI d a b x I J e)(q:b<=d.size)(o:¬I<=J):PS d a b J (Go.Sort.swp e J a):=by
 have s:=h.perm.1;have n:=h.jb;have p:=h.aI;have Z:=h.ij;have g:=λk=>Go.Sort.swp_get e (i:=J) (j:=a) (by omega) (by omega) k
 have l:(Go.Sort.swp e J a)[J]! = x:=by
  rw[g];by_cases c:J=a
  .simp only[c,if_true];exact h.piv
  .simp only[c,if_true,if_false];exact h.piv
 refine⟨Go.Sort.permIn_trans _ _ _ _ _ h.perm<|Go.Sort.swp_permIn _ _ _ _ _ oE oE oE oE oE,oE,n,λt m f=>?_,λt m f=>?_⟩
 .rw[l,g];by_cases c:t=a
  .subst c;simp only[show t≠J by omega,if_true,if_false];exact h.lo J oE oE
  .simp only[c,show t≠J by omega,if_false];exact h.lo t oE oE
 .rw[l,g];simp only[show t≠a by omega,show t≠J by omega,if_false];exact h.hi t m f
end
theorem PI.first{d:Array Nat}{a b p:Nat}(e:b<=d.size)(E:a<=p)(U:p<b):PI d a b (Go.Sort.swp d a p)[a]! (a+1) (b-1) (Go.Sort.swp d a p):=
 ⟨Go.Sort.swp_permIn _ _ _ _ _ oE oE oE oE oE,rfl,λt h c=>oE,λt h c=>oE,oE,oE,oE⟩
theorem aba(B g n o a b p:Nat)(d:Array Nat)(q w:World)(h:SU q w B g n o d)(E0:a<=p)(uU:p<b)(hb:b<=n)(hn:n<=1000000000):
  Calls prog 276 #[.slice (some<|dH g) n o,.int .i64 (a:Int),.int .i64 (b:Int),.int .i64 (p:Int)] w λe w'=>∃(m:Nat) (al:Bool) (d':Array Nat),e=.returned (.tuple #[.int .i64 (m:Int),.bool al])/\SU q w' B g n o d'/\PS d a b m d':=by
 have X:=ae h;have j0:IntKind.i64.wrap ((a:Int)+1)=((a+1:Nat):Int):=iS;have j1:IntKind.i64.wrap ((b:Int)-1)=((b-1:Nat):Int):=iS;have ba:(a:Int)<n:=oE;have bp:(p:Int)<n:=oE;have t:=h.at (k:=a) (by omega);have cp:=h.at (k:=p) (by omega);have O:w.frozen? ⟨g,a,none⟩=false:=h.free _;have fp:w.frozen? ⟨g,p,none⟩=false:=h.free _;have H:Hid (b<=d.size):=by show b<=d.size;rw[h.sz];exact hb
 clear h;go_enter func276,ntmps276;go_upto_region 1 with fail;go_cut [12]from 12 to 25 (λ_ v=>SU q v B g n o<|Go.Sort.swp d a p);case first=>
  by_cases Z:a=p
  .subst Z
   go_region
   all_goals (go_wp2;go_meet;exact(X.out.swp a a).drew)
  .have Fs:¬p=a:=λe=>Z e.symm
   go_region;all_goals (go_wp2;go_meet;exact(X.out.swp a p).drew)
 case rest=>
  have⟨f,W⟩:=xY <|Go.Sort.swp d a p;have⟨x,hx⟩:=xY <|f[a]!;have⟨z,P⟩:=xY <|b-1;have HP:Hid (PI d a b x (a+1) z f):=by rw[hx,W,P];exact PI.first H.out E0 uU
  rw[<-W]at hcut;rw[<-P]at j1;have S:=ae hcut;clear hcut t cp O fp W hx P;go_wp2;go_loopw [10] (λi wr=>∃k:Nat,i=.int .i64 k/\a+1<=k/\Hid (SU q wr B g n o f/\PI d a b x k z f)) (λi _=>n+5-(intOf i).toNat);case atStart=>exact⟨a+1,sE,zzc _,S.out,HP.out⟩
  case round=>
   obtain⟨k,rfl,GB,R⟩:=hrel;have kD:=R.2.aI;have gT:=R.2.ij;have kM:=R.2.jb;go_upto_region 3 with fail;go_cut [43]from 30 to 45 (λs v=>s=.bool (decide<|k<=z/\f[k]! < x)/\SU q v B g n o f);case first=>
    by_cases r:k<=z
    .have l1:(k:Int)<=z:=oE;have ck:=R.1.at (k:=k) (by omega);have t:=R.1.at (k:=a) (by omega);rw[R.2.piv]at t;have bk:(k:Int)<n:=oE
     go_quiet (first|(go_at_call 202;refine Calls.quiet_of_same<|eW _ _ _))
     go_wp2;go_meet;refine⟨?_,R.1.drewN _⟩;congr 1;simp[r]
    .have l1:¬(k:Int)<=z:=oE;go_quiet (first|(go_at_call 202;refine Calls.quiet_of_same<|eW _ _ _))
     go_wp2;go_meet;refine⟨?_,R.1.drewN _⟩;congr 1;simp[r]
   case rest=>
    obtain⟨rfl,u⟩:=hcut;have S:=ae u;clear u;by_cases c:k<=z/\f[k]! < x
    .have j2:IntKind.i64.wrap ((k:Int)+1)=((k+1:Nat):Int):=iS;rw[decide_eq_true c];have T:=R.2.up c.1 c.2;have Q:=ae<|zzb S.out T;clear c T;go_wp2
     go_roundw;case rel=>exact⟨k+1,sE,oE,Q.out⟩
     case measure=>simp[intOf];omega
    .rw[decide_eq_false c];have U:Hid (SU q wc B g n o f/\PI d a b x k z f/\(k<=z->¬f[k]! < x)):=⟨S.out,R.2,λA D=>c ⟨A,D⟩⟩;clear S R c;go_wp2
     go_loopw [11] (λi wr=>∃y:Nat,i=.int .i64 y/\y<=z/\Hid (SU q wr B g n o f/\PI d a b x k y f)) (λi _=>(intOf i).toNat)
     case atStart=>exact⟨z,rfl,zzc _,U.1,U.2.1⟩
     case round=>
      obtain⟨y,rfl,a7,R⟩:=hrel;have XQ:=R.2.ij;have a6:=R.2.jb
      go_upto_region 5 with fail
      go_cut [60]from 46 to 62 (λs v=>s=.bool (decide<|k<=y/\¬f[y]! < x)/\SU q v B g n o f)
      case first=>
       by_cases r:k<=y
       .have l1:(k:Int)<=y:=oE;have ck:=R.1.at (k:=y) (by omega);have t:=R.1.at (k:=a) (by omega);rw[R.2.piv]at t;have bk:(y:Int)<n:=oE
        go_quiet (first|(go_at_call 202;refine Calls.quiet_of_same<|eW _ _ _))
        go_wp2
        go_meet
        refine⟨?_,R.1.drewN _⟩;congr 1;by_cases E:f[y]! < x
        .simp[r,E]
        .simp[r,E]
       .have l1:¬(k:Int)<=y:=oE;go_quiet (first|(go_at_call 202;refine Calls.quiet_of_same<|eW _ _ _))
        go_wp2
        go_meet
        refine⟨?_,R.1.drewN _⟩;congr 1;simp[r]
      case rest=>
       obtain⟨rfl,u⟩:=hcut;have S:=ae u;clear u;by_cases c:k<=y/\¬f[y]! < x
       .have j2:IntKind.i64.wrap ((y:Int)-1)=((y-1:Nat):Int):=iS;rw[decide_eq_true c];have T:=R.2.dn c.1 c.2;have a1:0<y:=oE;have Q:=ae<|zzb S.out T;clear c T;go_wp2
        go_roundw
        case rel=>exact⟨y-1,rfl,oE,Q.out⟩
        case measure=>simp[intOf];omega
       .rw[decide_eq_false c];have V:Hid (SU q wc B g n o f/\PI d a b x k y f/\(k<=y->¬f[k]! < x)/\(k<=y->f[y]! < x)):=⟨S.out,R.2,λA=>U.2.2 oE,λA=>Classical.byContradiction λD=>c ⟨A,D⟩⟩;clear S U R c;by_cases C:k<=y
        .have l2:¬(y:Int)<k:=oE;obtain⟨G,q2⟩:=V.2.1.swap H.out C (V.2.2.1 C)<|V.2.2.2 C;have K:=V.1.at (k:=y) (by omega);have ck:=V.1.at (k:=k) (by omega);have L:wc.frozen? ⟨g,y,none⟩=false:=V.1.free _;have Y:wc.frozen? ⟨g,k,none⟩=false:=V.1.free _;have M:(y:Int)<n:=oE
         have bk:(k:Int)<n:=oE;have n1:¬k=y:=oE;have n2:¬y=k:=oE;have j3:IntKind.i64.wrap ((k:Int)+1)=((k+1:Nat):Int):=iS;have j4:IntKind.i64.wrap ((y:Int)-1)=((y-1:Nat):Int):=iS;have N:=ae G;clear G;go_wp2
         go_region;all_goals go_wp2
         go_loopw [10,11] (λi j wr=>∃I J:Nat,i=.int .i64 I/\j=.int .i64 J/\J<b/\∃l,Hid<|SU q wr B g n o l/\PI d a b x I J l) (λi j _=>(intOf j).toNat+1-(intOf i).toNat);case atStart=>exact⟨k+1,y-1,sE,sE,oE,_,(V.1.swp k y).drew,N.out⟩
         case round=>
          obtain⟨I,J,rfl,rfl,a8,l,hL⟩:=hrel;clear V N K ck L Y;go_wp2;go_loopw [10] (λi wr=>∃k:Nat,i=.int .i64 k/\I<=k/\Hid (SU q wr B g n o l/\PI d a b x k J l)) (λi _=>n+5-(intOf i).toNat);case atStart=>exact⟨I,rfl,zzc _,hL.out⟩
          case round=>
           obtain⟨k,rfl,GB,R⟩:=hrel;have kD:=R.2.aI;have gT:=R.2.ij;have kM:=R.2.jb;go_upto_region 13 with fail;go_cut [112]from 99 to 114 (λs v=>s=.bool (decide<|k<=J/\l[k]! < x)/\SU q v B g n o l);case first=>
            by_cases r:k<=J
            .have l1:(k:Int)<=J:=oE;have ck:=R.1.at (k:=k) oE;have t:=R.1.at (k:=a) oE;rw[R.2.piv]at t;have bk:(k:Int)<n:=oE
             go_quiet (first|(go_at_call 202;refine Calls.quiet_of_same<|eW _ _ _))
             go_wp2;go_meet;refine⟨?_,R.1.drewN _⟩;congr 1;simp[r]
            .have l1:¬(k:Int)<=J:=oE;go_quiet (first|(go_at_call 202;refine Calls.quiet_of_same<|eW _ _ _))
             go_wp2;go_meet;refine⟨?_,R.1.drewN _⟩;congr 1;simp[r]
           case rest=>
            obtain⟨rfl,u⟩:=hcut;have S:=ae u;clear u;by_cases c:k<=J/\l[k]! < x
            .have j2:IntKind.i64.wrap ((k:Int)+1)=((k+1:Nat):Int):=iS;rw[decide_eq_true c];have T:=R.2.up c.1 c.2;have Q:=ae<|zzb S.out T;clear c T;go_wp2
             go_roundw;case rel=>exact⟨k+1,sE,oE,Q.out⟩
             case measure=>simp[intOf];omega
            .rw[decide_eq_false c];have U:Hid (SU q wc B g n o l/\PI d a b x k J l/\(k<=J->¬l[k]! < x)):=⟨S.out,R.2,λA D=>c ⟨A,D⟩⟩;clear S R c;go_wp2;go_wp2
             go_loopw [11] (λi wr=>∃y:Nat,i=.int .i64 y/\y<=J/\Hid (SU q wr B g n o l/\PI d a b x k y l)) (λi _=>(intOf i).toNat);case atStart=>exact⟨J,rfl,zzc _,U.1,U.2.1⟩
             case round=>
              obtain⟨y,rfl,a7,R⟩:=hrel;have XQ:=R.2.ij;have a6:=R.2.jb;go_upto_region 15 with fail;go_cut [129]from 115 to 131 (λs v=>s=.bool (decide<|k<=y/\¬l[y]! < x)/\SU q v B g n o l);case first=>
               by_cases r:k<=y
               .have l1:(k:Int)<=y:=oE;have ck:=R.1.at (k:=y) oE;have t:=R.1.at (k:=a) oE;rw[R.2.piv]at t;have bk:(y:Int)<n:=oE
                go_quiet (first|(go_at_call 202;refine Calls.quiet_of_same<|eW _ _ _))
                go_wp2;go_meet;refine⟨?_,R.1.drewN _⟩;congr 1;by_cases E:l[y]! < x
                .simp[r,E]
                .simp[r,E]
               .have l1:¬(k:Int)<=y:=oE;go_quiet (first|(go_at_call 202;refine Calls.quiet_of_same<|eW _ _ _))
                go_wp2;go_meet;refine⟨?_,R.1.drewN _⟩;congr 1;simp[r]
              case rest=>
               obtain⟨rfl,u⟩:=hcut;have S:=ae u;clear u;by_cases c:k<=y/\¬l[y]! < x
               .have j2:IntKind.i64.wrap ((y:Int)-1)=((y-1:Nat):Int):=iS;rw[decide_eq_true c];have T:=R.2.dn c.1 c.2;have a1:0<y:=oE;have Q:=ae<|zzb S.out T;clear c T;go_wp2
                go_roundw;case rel=>exact⟨y-1,rfl,oE,Q.out⟩
                case measure=>simp[intOf];omega
               .rw[decide_eq_false c];have V:Hid (SU q wc B g n o l/\PI d a b x k y l/\(k<=y->¬l[k]! < x)/\(k<=y->l[y]! < x)):=⟨S.out,R.2,λA=>U.2.2 oE,λA=>Classical.byContradiction λD=>c ⟨A,D⟩⟩;clear S U R c;by_cases C:k<=y
                .have l2:¬(y:Int)<k:=oE;have⟨G,q2⟩:=V.2.1.swap H.out C (V.2.2.1 C)<|V.2.2.2 C;have K:=V.1.at (k:=y) oE;have ck:=V.1.at (k:=k) oE;have L:wc.frozen? ⟨g,y,none⟩=false:=V.1.free _;have Y:wc.frozen? ⟨g,k,none⟩=false:=V.1.free _;have M:(y:Int)<n:=oE
                 have bk:(k:Int)<n:=oE;have n1:¬k=y:=oE;have n2:¬y=k:=oE;have j3:IntKind.i64.wrap ((k:Int)+1)=((k+1:Nat):Int):=iS;have j4:IntKind.i64.wrap ((y:Int)-1)=((y-1:Nat):Int):=iS;have N:=ae G;clear G;go_wp2;go_region;all_goals go_wp2
                 go_roundw;case rel=>exact⟨k+1,y-1,sE,sE,oE,_,(V.1.swp k y).drew,N.out⟩
                 case measure=>simp[intOf];omega
                .have l2:(y:Int)<k:=oE;have ay:=V.2.1.aI;have ky:=V.2.1.ij;have K:=V.1.at (k:=y) oE;have t:=V.1.at (k:=a) oE;have L:wc.frozen? ⟨g,y,none⟩=false:=V.1.free _;have O:wc.frozen? ⟨g,a,none⟩=false:=V.1.free _;have M:(y:Int)<n:=oE
                 by_cases F:y=a
                 .subst F;go_wp2;go_region;all_goals go_wp2
                  all_goals go_ret2
                  all_goals exact⟨y,false,_,rfl,(V.1.swp y y).drew,V.2.1.fin H.out oE⟩
                 .have adh:¬a=y:=λe=>F e.symm
                  go_wp2;go_region;all_goals go_wp2
                  all_goals go_ret2
                  all_goals exact⟨y,false,_,rfl,(V.1.swp y a).drew,V.2.1.fin H.out oE⟩
        .have l2:(y:Int)<k:=oE;have ay:=V.2.1.aI;have ky:=V.2.1.ij;have K:=V.1.at (k:=y) (by omega);have t:=V.1.at (k:=a) oE;have L:wc.frozen? ⟨g,y,none⟩=false:=V.1.free _;have O:wc.frozen? ⟨g,a,none⟩=false:=V.1.free _;have M:(y:Int)<n:=oE
         by_cases F:y=a
         .subst F;go_wp2;go_region;all_goals go_wp2
          all_goals go_ret2
          all_goals exact⟨y,true,_,rfl,(V.1.swp y y).drew,V.2.1.fin H.out oE⟩
         .have adh:¬a=y:=λe=>F e.symm
          go_wp2;go_region;all_goals go_wp2
          all_goals go_ret2
          all_goals exact⟨y,true,_,rfl,(V.1.swp y a).drew,V.2.1.fin H.out oE⟩
section
variable{d:Array Nat}{b i j:Nat}
theorem ssE(h:i<b)(x:¬d[i]! < d[i-1]!):Go.Sort.scanSorted e_ d b i=Go.Sort.scanSorted e_ d b (i+1):=by
 rw[Go.Sort.scanSorted,if_pos<|by simp[e_,h];omega]
theorem ssS(h:¬(i<b/\¬d[i]! < d[i-1]!)):Go.Sort.scanSorted e_ d b i=i:=by
 rw[Go.Sort.scanSorted,if_neg];intro c;simp[e_]at c;exact h ⟨c.1,oE⟩
theorem sdE{y:Nat}(h:j=y+1)(x:d[j]! < d[y]!):Go.Sort.shiftDown e_ j d=Go.Sort.shiftDown e_ y (Go.Sort.swp d j y):=by
 subst h;rw[Go.Sort.shiftDown,if_neg<|by simp[e_,x]]
theorem sdS{y:Nat}(h:j=y+1)(x:¬d[j]! < d[y]!):Go.Sort.shiftDown e_ j d=d:=by
 subst h;rw[Go.Sort.shiftDown,if_pos<|by simp[e_];omega]
theorem suE{y:Nat}(a:j=y+1)(h:j<b)(x:d[j]! < d[y]!):Go.Sort.shiftUp e_ b j d=Go.Sort.shiftUp e_ b (j+1) (Go.Sort.swp d j y):=by
 subst a;rw[Go.Sort.shiftUp,if_pos h];simp only[Nat.add_sub_cancel];rw[if_neg<|by simp[e_,x]]
theorem suS{y:Nat}(a:j=y+1)(x:¬(j<b/\d[j]! < d[y]!)):Go.Sort.shiftUp e_ b j d=d:=by
 subst a;rw[Go.Sort.shiftUp];by_cases h:y+1<b
 .grind
 .grind
end
theorem abb(B g n p a b:Nat)(d:Array Nat)(m w:World)(h:SU m w B g n p d)(lY:a<b)(hb:b<=n)(hn:n<=1000000000):
  Calls prog 274 #[.slice (some<|dH g) n p,.int .i64 (a:Int),.int .i64 (b:Int)] w λe w'=>e=.returned (.bool (Go.Sort.partialInsertionSort e_ d a b).2)/\SU m w' B g n p (Go.Sort.partialInsertionSort e_ d a b).1:=by
 have H0:=ae h;have j0:IntKind.i64.wrap ((a:Int)+1)=((a+1:Nat):Int):=iS;have jl:IntKind.i64.wrap ((b:Int)-a)=(b:Int)-a:=iS;clear h;go_enter func274,ntmps274;go_wp2;go_loopw [7,8] (λi j wr=>∃I q:Nat,i=.int .i64 I/\j=.int .i64 q/\q<=5/\a<I/\I<=b/\∃d',Hid<|SU m wr B g n p d'/\Go.Sort.partialIns e_ a b (5-q) I d'=Go.Sort.partialInsertionSort e_ d a b) (λ_ j _=>5-(intOf j).toNat);case atStart=>exact⟨a+1,0,sE,rfl,oE,oE,oE,d,H0.out,rfl⟩
 case round=>
  obtain⟨I,q,rfl,rfl,aC,a7,UQ,f,L⟩:=hrel;by_cases hq:q<5
  .have l0:(q:Int)<5:=oE;have jq:IntKind.i64.wrap ((q:Int)+1)=((q+1:Nat):Int):=iS;have⟨s,U⟩:∃s,5-q=s+1:=⟨4-q,oE⟩;have QK:5-(q+1)=s:=oE
   have G:Hid (SU m wr B g n p f/\Go.Sort.partialIns e_ a b (s+1) I f=Go.Sort.partialInsertionSort e_ d a b):=by rw[<-U];exact L.out
   have Q:=ae QK;clear L U QK;go_wp2;go_loopw [7] (λi wr=>∃k:Nat,i=.int .i64 k/\a<k/\k<=b/\Hid (SU m wr B g n p f/\Go.Sort.scanSorted e_ f b k=Go.Sort.scanSorted e_ f b I)) (λi _=>n+5-(intOf i).toNat);case atStart=>exact⟨I,rfl,a7,UQ,G.1,rfl⟩
   case round=>
    obtain⟨k,rfl,ad,an,u⟩:=hrel;have⟨y,hy⟩:∃y,k=y+1:=⟨k-1,oE⟩;have jy:IntKind.i64.wrap ((k:Int)-1)=(y:Int):=iS
    have Y:Hid (k=y+1/\k-1=y):=⟨hy,oE⟩;have aA:y<k:=oE
    have aE:a<=y:=oE;clear hy;go_upto_region 5 with fail;go_cut [32]from 17 to 34 (λs A=>s=.bool (decide<|k<b/\¬f[k]! < f[y]!)/\SU m A B g n p f);case first=>
     by_cases J:k<b
     .have l1:(k:Int)<b:=oE;have ck:=u.1.at (k:=k) (by omega);have cy:=u.1.at (k:=y) (by omega);have bk:(k:Int)<n:=oE
      have jC:(y:Int)<n:=by omega
      go_quiet (first|(go_at_call 202;refine Calls.quiet_of_same<|eW _ _ _))
      go_wp2;go_meet;refine⟨?_,u.1.drewN _⟩;congr 1;by_cases x:f[k]! < f[y]!
      .simp[J,x]
      .simp[J,x]
     .have l1:¬(k:Int)<b:=oE;go_quiet (first|(go_at_call 202;refine Calls.quiet_of_same<|eW _ _ _))
      go_wp2;go_meet;refine⟨?_,u.1.drewN _⟩;congr 1;simp[J]
    case rest=>
     obtain⟨rfl,hs⟩:=hcut;have S:=ae hs;clear hs;by_cases r:k<b/\¬f[k]! < f[y]!
     .have j2:IntKind.i64.wrap ((k:Int)+1)=((k+1:Nat):Int):=iS;rw[decide_eq_true r];have HP:Hid (SU m wc B g n p f/\Go.Sort.scanSorted e_ f b (k+1)=Go.Sort.scanSorted e_ f b I):=⟨S.out,by rw[<-u.2,ssE r.1<|by rw[Y.2];exact r.2]⟩;have a':k+1<=b:=r.1;clear r;go_wp2
      go_roundw;case rel=>exact⟨k+1,sE,oE,a',HP.out⟩
      case measure=>simp[intOf];omega
     .rw[decide_eq_false r];have K:Hid (SU m wc B g n p f/\Go.Sort.scanSorted e_ f b I=k):=⟨S.out,by rw[<-u.2,ssS<|by rw[Y.2];exact r]⟩;have V:=G.2;rw[Go.Sort.partialIns_succ,K.2]at V;have H:=V;clear r u S G;by_cases a1:k=b
      .have l2:(k:Int)=b:=oE;rw[if_pos a1]at V;have R:=ae V;clear V H;go_wp2;go_ret;exact⟨by rw[<-R.out];rfl,by rw[<-R.out];exact K.1⟩
      .have l2:¬(k:Int)=b:=oE;rw[if_neg a1]at V;by_cases a6:b-a<50
       .have l3:(b:Int)-a<50:=oE;rw[if_pos a6]at V;have R:=ae V;clear V H;go_wp2;go_ret;exact⟨by rw[<-R.out];rfl,by rw[<-R.out];exact K.1⟩
       .have l3:¬(b:Int)-a<50:=oE;rw[if_neg a6,Y.2]at V;have R:=ae V;clear V H;have ck:=K.1.at (k:=k) (by omega);have cy:=K.1.at (k:=y) (by omega);have fk:wc.frozen? ⟨g,k,none⟩=false:=K.1.free _;have fy:wc.frozen? ⟨g,y,none⟩=false:=K.1.free _;have bk:(k:Int)<n:=oE
        have jC:(y:Int)<n:=oE;have n1:¬k=y:=oE;have n2:¬y=k:=oE;have al:IntKind.i64.wrap ((k:Int)-a)=(k:Int)-a:=iS;have ay:IntKind.i64.wrap ((b:Int)-k)=(b:Int)-k:=iS;go_wp2
        go_region;have⟨l,N⟩:=xY <|Go.Sort.swp f k y;rw[<-N]at R;have D:SU m ((wc.setCell ⟨g,k,none⟩<|.int .u64 (f[y]!:Nat)).setCell ⟨g,y,none⟩<|.int .u64 (f[k]!:Nat)).drew B g n p l:=by rw[N];exact(K.1.swp k y).drew
        have⟨W2,O⟩:∃W2,W2=((wc.setCell ⟨g,k,none⟩<|.int .u64 (f[y]!:Nat)).setCell ⟨g,y,none⟩<|.int .u64 (f[k]!:Nat)).drew:=⟨_,rfl⟩;rw[<-O]at D ⊢;have M:=ae D;clear D O N ck cy fk fy K;go_upto_if 61 with fail;go_cut [9]from 13 to 132 (λ_ A=>SU m A B g n p<|Go.Sort.fixDown e_ a k l);case first=>
         by_cases C:2<=k-a
         .have l4:(2:Int)<=k-(a:Int):=oE;have F:Hid (Go.Sort.shiftDown e_ y l=Go.Sort.fixDown e_ a k l):=by show _=_;unfold Go.Sort.fixDown;rw[if_pos C,Y.2]
          go_wp2;go_loopw [9] (λj wr=>∃t:Nat,j=.int .i64 t/\t<=y/\∃c,Hid<|SU m wr B g n p c/\Go.Sort.shiftDown e_ t c=Go.Sort.fixDown e_ a k l) (λj _=>(intOf j).toNat)
          case atStart=>exact⟨y,rfl,zzc _,l,M.out,F.out⟩
          case round=>
           obtain⟨t,rfl,ao,c,T⟩:=hrel;by_cases ab:t=0
           .subst ab;go_wp2
            go_meet
            have:=T.1;rw[<-T.2];exact this
           .obtain⟨z,v⟩:∃z,t=z+1:=⟨t-1,oE⟩;have W:(1:Int)<=t:=oE
            have jz:IntKind.i64.wrap ((t:Int)-1)=(z:Int):=iS;have HZ:=ae v;have ct:=T.1.at (k:=t) (by omega);have cz:=T.1.at (k:=z) (by omega);have bt:(t:Int)<n:=oE
            have bz:(z:Int)<n:=oE;have m1:¬t=z:=oE;have m2:¬z=t:=oE;have a8:z<t:=oE;clear v;by_cases x:c[t]! < c[z]!
            .have hxi:decide (((c[t]!:Nat):Int)<((c[z]!:Nat):Int))=true:=by rw[decide_eq_true_iff];omega
             have E:Hid (Go.Sort.shiftDown e_ z (Go.Sort.swp c t z)=Go.Sort.fixDown e_ a k l):=by rw[<-sdE HZ.out x];exact T.2
             have ft:wr.frozen? ⟨g,t,none⟩=false:=T.1.free _;have fz:wr.frozen? ⟨g,z,none⟩=false:=T.1.free _;go_wp2
             go_quiet (first|(go_at_call 202;refine Calls.quiet_of_same<|eW _ _ _))
             go_wp2;go_region;all_goals go_wp2
             all_goals go_roundw
             case rel=>exact⟨z,rfl,oE,_,((T.1.drewN nq).swp t z).drew,E.out⟩
             case measure=>simp[intOf];omega
            .have hxi:decide (((c[t]!:Nat):Int)<((c[z]!:Nat):Int))=false:=by rw[decide_eq_false_iff_not];omega
             have E:Hid (c=Go.Sort.fixDown e_ a k l):=by rw[<-T.2];exact(sdS HZ.out x).symm
             go_wp2
             go_quiet (first|(go_at_call 202;refine Calls.quiet_of_same<|eW _ _ _))
             go_wp2;go_meet;rw[<-E.out];exact T.1.drewN _
         .have l4:¬(2:Int)<=k-(a:Int):=oE;have F:Hid (Go.Sort.fixDown e_ a k l=l):=by show _=_;unfold Go.Sort.fixDown;rw[if_neg oE]
          go_wp2;go_meet;rw[F.out];exact M.out
        case rest=>
         have⟨c,P⟩:=xY <|Go.Sort.fixDown e_ a k l;rw[<-P]at R hcut;have X:=ae hcut;clear hcut P M;by_cases C:2<=b-k
         .have l4:(2:Int)<=b-(k:Int):=oE;have F:Hid (Go.Sort.shiftUp e_ b (k+1) c=Go.Sort.fixUp e_ b k c):=by show _=_;unfold Go.Sort.fixUp;rw[if_pos C]
          have ak:IntKind.i64.wrap ((k:Int)+1)=((k+1:Nat):Int):=iS;go_wp2;go_loopw [10] (λj wr=>∃t:Nat,j=.int .i64 t/\k<t/\t<=b/\∃o,Hid<|SU m wr B g n p o/\Go.Sort.shiftUp e_ b t o=Go.Sort.fixUp e_ b k c) (λj _=>n+5-(intOf j).toNat);case atStart=>exact⟨k+1,sE,oE,oE,c,X.out,F.out⟩
          case round=>
           obtain⟨t,rfl,aI,xu,o,T⟩:=hrel;have⟨z,v⟩:∃z,t=z+1:=⟨t-1,oE⟩;have jz:IntKind.i64.wrap ((t:Int)-1)=(z:Int):=iS
           have HZ:=ae v;have a8:z<t:=oE;have m1:¬t=z:=oE;have m2:¬z=t:=oE;clear v;by_cases Z:t<b
           .have W:(t:Int)<b:=oE;have ct:=T.1.at (k:=t) (by omega);have cz:=T.1.at (k:=z) (by omega);have bt:(t:Int)<n:=oE
            have bz:(z:Int)<n:=oE;by_cases x:o[t]! < o[z]!
            .have hxi:decide (((o[t]!:Nat):Int)<((o[z]!:Nat):Int))=true:=by rw[decide_eq_true_iff];omega
             have E:Hid (Go.Sort.shiftUp e_ b (t+1) (Go.Sort.swp o t z)=Go.Sort.fixUp e_ b k c):=by rw[<-suE HZ.out Z x];exact T.2
             have ft:wr.frozen? ⟨g,t,none⟩=false:=T.1.free _;have fz:wr.frozen? ⟨g,z,none⟩=false:=T.1.free _;have jt:IntKind.i64.wrap ((t:Int)+1)=((t+1:Nat):Int):=iS;go_wp2;go_quiet (first|(go_at_call 202;refine Calls.quiet_of_same<|eW _ _ _))
             go_wp2;go_region;all_goals go_wp2
             all_goals go_roundw
             case rel=>exact⟨t+1,sE,oE,oE,_,((T.1.drewN nq).swp t z).drew,E.out⟩
             case measure=>simp[intOf];omega
            .have hxi:decide (((o[t]!:Nat):Int)<((o[z]!:Nat):Int))=false:=by rw[decide_eq_false_iff_not];omega
             have E:Hid (o=Go.Sort.fixUp e_ b k c):=by rw[<-T.2];exact(suS HZ.out λh=>x h.2).symm
             go_wp2;go_quiet (first|(go_at_call 202;refine Calls.quiet_of_same<|eW _ _ _))
             go_wp2;go_roundw;case rel=>exact⟨k,q+1,rfl,sE,oE,oE,oE,Go.Sort.fixUp e_ b k c,by rw[<-E.out];exact T.1.drewN _,by rw[Q.out];exact R.out⟩
             case measure=>simp[intOf];omega
           .have W:¬(t:Int)<b:=oE;have E:Hid (o=Go.Sort.fixUp e_ b k c):=by rw[<-T.2];exact(suS HZ.out λh=>Z h.1).symm
            go_wp2;go_roundw;case rel=>exact⟨k,q+1,rfl,sE,oE,oE,oE,Go.Sort.fixUp e_ b k c,by rw[<-E.out];exact T.1,by rw[Q.out];exact R.out⟩
            case measure=>simp[intOf];omega
         .have l4:¬(2:Int)<=b-(k:Int):=oE;have F:Hid (Go.Sort.fixUp e_ b k c=c):=by show _=_;unfold Go.Sort.fixUp;rw[if_neg oE]
          go_wp2;go_roundw;case rel=>exact⟨k,q+1,rfl,sE,oE,oE,oE,Go.Sort.fixUp e_ b k c,by rw[F.out];exact X.out,by rw[Q.out];exact R.out⟩
          case measure=>simp[intOf];omega
  .obtain rfl:q=5:=oE;have R:=ae L.2;go_wp2;go_ret;exact⟨by rw[<-R.out];rfl,by rw[<-R.out];exact L.1⟩
section
open Go.Sort (PermIn SortedIn)
variable{a b:Nat}
def WX(d:Array Nat):Prop:=∀i j,i<d.size->j<d.size->d[i]! = d[j]!->i=j
theorem Ex(d:Array Nat):WX d↔d.toList.Nodup:=by
 unfold WX List.Nodup;rw[List.pairwise_iff_getElem];constructor
 .grind
 .grind
theorem yx{d e:Array Nat}(g:b<=d.size)(h:PermIn a b d e):e.toList.Perm d.toList:=by
 have c:=Go.Sort.permIn_mono d e a b 0 d.size (zzs _) g (zzc _) h;have i:=c.2.2;have j:e.extract 0 d.size=e:=by rw[<-c.1];simp
 have f:d.extract 0 d.size=d:=sE;rwa [j,f]at i
theorem WX.perm{d e:Array Nat}(h:WX d)(c:b<=d.size)(hp:PermIn a b d e):WX e:=
 (Ex e).2 ((yx c hp).nodup_iff.2<|(Ex d).1 h)
def kh(a b:Nat)(d:Array Nat):Prop:=a=0\/∀i,a<=i->i<b->¬d[i]! < d[a-1]!
theorem vN{d e:Array Nat}{p:Nat->Prop}(c:b<=d.size)(hp:PermIn a b d e)(h:∀i,a<=i->i<b->p d[i]!):∀i,a<=i->i<b->p e[i]! :=
 Go.Sort.permIn_all d e a b p c hp h
theorem kh.perm{d e:Array Nat}(h:kh a b d)(f:b<=d.size)(hp:PermIn a b d e):kh a b e:=by
 obtain h|h:=h
 .exact .inl h
 .by_cases c:a=0
  .exact .inl c
  .right;rw[hp.2.1 (a-1)<|.inl oE];exact vN (p:=λx=>¬x<d[a-1]!) f hp h
theorem kh.lib{d:Array Nat}(h:kh a b d):Go.Sort.Below e_ a b d:=by
 obtain h|h:=h
 .exact .inl h
 .right;intro i c e;simp only[e_,decide_eq_false_iff_not];exact h i c e
def yy(a b:Nat)(d:Array Nat):Prop:=∀i j,a<=i->i<j->j<b->¬d[j]! < d[i]!
theorem AH{d:Array Nat}(h:SortedIn e_ a b d):yy a b d:=λi j c f e=>by
 have:=h i j c f e;simpa [e_]using this
def uf(a b A B:Nat)(d:Array Nat):Prop:=∀i j,a<=i->i<j->j<b->¬(A<=i/\j<B)->¬d[j]! < d[i]!
section
variable{a b A B m:Nat}{d e f:Array Nat}
theorem uf.first:uf a b a b d:=λ_ _ h _ e c=>absurd ⟨h,e⟩ c
theorem uf.done(h:uf a b A B d)(s:yy A B d):yy a b d:=λi j f e g=>by
 by_cases c:A<=i/\j<B
 .exact s i j c.1 e c.2
 .exact h i j f e g c
theorem uf.perm(h:uf a b A B d)(q:a<=A)(r:B<=b)(s:b<=d.size)(hp:PermIn A B d e):uf a b A B e:=by
 intro i j c o k l;by_cases f:A<=j/\j<B
 .have hi:i<A:=oE;rw[hp.2.1 i<|.inl hi];exact vN (p:=λx=>¬x<d[i]!) oE hp (λt n m=>h i t c oE oE oE) j f.1 f.2
 .rw[hp.2.1 j oE];by_cases g:A<=i/\i<B
  .exact vN (p:=λx=>¬d[j]! < x) oE hp (λt n m=>h t j oE oE k oE) i g.1 g.2
  .rw[hp.2.1 i oE];exact h i j c o k l
theorem uf.left(h:uf a b A B d)(u:a<=A)(v:B<=b)(s:b<=d.size)(hp:PS d A B m e)(q:PermIn A m e f)(y:yy A m f):uf a b (m+1) B f/\PermIn A B d f/\kh (m+1) B f:=by
 have J:=hp.perm.1;have D:=hp.mb;have E:=hp.am;have o:PermIn A B d f:=Go.Sort.permIn_trans _ _ _ _ _ hp.perm (Go.Sort.permIn_mono _ _ _ _ _ _ (zzc _) oE oE q);have O:=h.perm u v s o;have k:f[m]! = e[m]!:=q.2.1 m<|.inr<|zzc _
 have G:∀t,A<=t->t<m->f[t]! < f[m]!:=by
  rw[k];exact vN (p:=λx=>x<e[m]!) oE q hp.lo
 have r:∀t,m<t->t<B->¬f[t]! < f[m]!:=λt z w=>by
  rw[k,q.2.1 t<|.inr oE];exact hp.hi t z w
 refine⟨λi j n c C F=>?_,o,.inr λi n c=>r i oE c⟩;by_cases l:A<=i/\j<B
 .rcases Nat.lt_trichotomy j m with g|g|g
  .exact y i j l.1 c g
  .grind
  .grind
 .exact O i j n c C l
theorem uf.right(h:uf a b A B d)(y:a<=A)(z:B<=b)(v:b<=d.size)(w:kh A B d)(hp:PS d A B m e)(q:PermIn (m+1) B e f)(C:yy (m+1) B f):uf a b A m f/\PermIn A B d f/\kh A m f:=by
 have J:=hp.perm.1;have F:=hp.mb;have G:=hp.am;have n:PermIn A B d f:=Go.Sort.permIn_trans _ _ _ _ _ hp.perm (Go.Sort.permIn_mono _ _ _ _ _ _ oE (zzc _) oE q);have O:=h.perm y z v n;have o:f[m]! = e[m]!:=q.2.1 m<|.inl oE
 have I:∀t,A<=t->t<m->f[t]! < f[m]!:=λt s g=>by
  rw[o,q.2.1 t<|.inl oE];exact hp.lo t s g
 have E:∀t,m+1<=t->t<B->¬f[t]! < f[m]!:=by
  rw[o];exact vN (p:=λx=>¬x<e[m]!) oE q λt s g=>hp.hi t oE g
 refine⟨λi j l c D H=>?_,n,?_⟩
 .by_cases u:A<=i/\j<B
  .rcases Nat.lt_trichotomy i m with r|r|r
   .grind
   .grind
   .exact C i j oE c u.2
  .exact O i j l c D u
 .rcases w.perm oE n with k|k
  .exact .inl k
  .exact .inr λi l c=>k i l oE
theorem kh.sub(h:kh A B d)(b:m<=B):kh A m d:=by
 obtain h|h:=h
 .exact .inl h
 .exact .inr λi a c=>h i a oE
end
end
end Go.Proofs.YtdcafjmdfpjcbaaGreatDoor
