import Derived.Test.YtdcafjmdfpjcbaaGreatDoorC11
import Derived.RangeFuncNested
import Derived.Sort.OwnSorted
set_option maxHeartbeats 16000000
set_option maxRecDepth 100000
namespace Go.Proofs.YtdcafjmdfpjcbaaGreatDoor
open Go.RowKit Go.Maps Tryz Sc
section
open Go.Sort (PermIn SortedIn)
def Rv(w0:World)(B g n cap a b:Nat)(d:Array Nat)(e:Ending)(w':World):Prop :=
 e=.returned (.tuple #[])/\∃d',SU w0 w' B g n cap d'/\PermIn a b d d'/\yy a b d'
structure Ob(w0 wr:World)(B g n cap a b A Z:Nat)(d e:Array Nat):Prop where
 su:SU w0 wr B g n cap e
 perm:PermIn a b d e
 out:uf a b A Z e
 bel:kh A Z e
 nd:WX e
 aA:a<=A
 AZ:A<=Z
 zb:Z<=b
section
variable{w0 wr wq:World}{B g n cap a b A Z:Nat}{d e f:Array Nat}
theorem Ob.gR(h:Ob w0 wr B g n cap a b A Z d e)(hb:b<=d.size)(hs:SU w0 wq B g n cap f)(hp:PermIn A Z e f):Ob w0 wq B g n cap a b A Z d f:=by
 have es:=h.perm.1;have h1:=h.aA;have h2:=h.zb;have h3:=h.AZ;exact⟨hs,Go.Sort.permIn_trans _ _ _ _ _ h.perm<|Go.Sort.permIn_mono _ _ _ _ _ _ h1 h2 oE hp,h.out.perm h1 h2 oE hp,h.bel.perm oE hp,h.nd.perm oE hp,h1,h3,h2⟩
theorem Ob.end_(h:Ob w0 wr B g n cap a b A Z d e)(hb:b<=d.size)(hs:SU w0 wq B g n cap f)(hp:PermIn A Z e f)(Gh:yy A Z f):∃d',SU w0 wq B g n cap d'/\PermIn a b d d'/\yy a b d':=by
 have:=h.gR hb hs hp;exact⟨f,hs,this.perm,this.out.done Gh⟩
end
theorem adj(B g n cap:Nat)(hn:n<=1000000000):∀(N a b L:Nat) (d:Array Nat) (w0 w:World),b-a<N->SU w0 w B g n cap d->a<=b->b<=n->L<=1000->kh a b d->WX d ->
  Calls prog 239 #[.slice (some<|dH g) n cap,.int .i64 (a:Int),.int .i64 (b:Int),.int .i64 (L:Int)] w (Rv w0 B g n cap a b d):=by
 intro N;induction N with
 |zero=>intro a b L d w0 w hN;omega
 |succ N ih=>
  intro a b L d w0 w hN h lY hb hL jW J8;have IH:=ih;have H0:Hid (Ob w0 w B g n cap a b a b d d):=⟨h,Go.Sort.permIn_refl _ _ _,uf.first,jW,J8,zzc _,lY,zzc _⟩
  have HIH:Hid (∀(a b L:Nat) (d:Array Nat) (w0 w:World),b-a<N->SU w0 w B g n cap d->a<=b->b<=n->L<=1000->kh a b d->WX d ->
   Calls prog 239 #[.slice (some (dH g)) n cap,.int .i64 (a:Int),.int .i64 (b:Int),.int .i64 (L:Int)] w (Rv w0 B g n cap a b d)):=ih
  have HD:Hid (b<=d.size/\d.size=n):=by refine⟨?_,h.sz⟩;rw[h.sz];exact hb
  clear ih IH h jW J8;go_enter func239,ntmps239;go_wp2;go_loopw [1,2,3,8,9] (λi j k x y wr=>∃(A Z M:Nat) (wb wp:Bool) (e:Array Nat),i=.int .i64 A/\j=.int .i64 Z/\k=.int .i64 M/\x=.bool wb/\y=.bool wp/\M<=1000/\Hid (Ob w0 wr B g n cap a b A Z d e)) (λi j _ _ _ _=>(intOf j).toNat-(intOf i).toNat);case atStart=>exact⟨a,b,L,true,true,d,rfl,rfl,rfl,rfl,rfl,hL,H0.out⟩
  case round=>
   obtain⟨A,Z,M,wb,wp,e,rfl,rfl,rfl,rfl,rfl,hM,hR⟩:=hrel;have q1:=hR.out.aA;have q2:=hR.out.AZ;have q3:=hR.out.zb;have es:Hid (e.size=n):=hR.out.su.sz;have⟨l,hl⟩:=xY <|Z-A;have jl:IntKind.i64.wrap ((Z:Int)-A)=(l:Int):=iS;have HL:Hid (l=Z-A):=hl;by_cases DH:l<=12
   .have l12:(l:Int)<=12:=oE;have Vk:=adg B g n cap A Z e w0 wr hR.out.su oE oE hn;clear hl;go_wp2_with fail;apply Vk.mono;clear Vk;rintro ev W1 ⟨rfl,d_⟩;have pY:Hid (SU w0 W1 B g n cap<|Go.Sort.insertionSort e_ e A Z):=d_;clear d_;go_wp2;go_end0;have⟨p1,p2⟩:=Go.Sort.insertionSort_holds Y1 e A Z q2 (by rw[es.out];omega);exact⟨rfl,hR.out.end_ HD.1 pY.out p1<|AH p2⟩
   .have l12:¬(l:Int)<=12:=oE;have hAZ:A+12<Z:=oE;clear hl;by_cases hM0:M=0
    .subst hM0;have Vk:=aa' B g n cap A Z e w0 wr hR.out.su oE oE hn;go_wp2_with fail;apply Vk.mono;clear Vk;rintro ev W1 ⟨rfl,d_⟩;have pY:Hid (SU w0 W1 B g n cap<|Go.Sort.heapSort e_ e A Z):=d_;clear d_;go_wp2;go_end0;have⟨p1,p2⟩:=Go.Sort.heapSort_holds Y1 e A Z q2 (by rw[es.out];omega);exact⟨rfl,hR.out.end_ HD.1 pY.out p1<|AH p2⟩
    .have m0:¬(M:Int)=0:=oE;go_upto_if 35 with fail;go_cut [3]from 19 to 133 (λs3 wx=>∃(M':Nat) (e':Array Nat),s3=.int .i64 M'/\M'<=1000/\Hid (Ob w0 wx B g n cap a b A Z d e'));case first=>
      cases wb with
      |true=>
       go_wp2;go_meet;exact⟨M,e,rfl,hM,hR.out⟩
      |false=>
       have jm:IntKind.i64.wrap ((M:Int)-1)=((M-1:Nat):Int):=iS;have Vk:=Y3 B g n cap A Z e w0 wr hR.out.su hAZ oE hn;go_wp2_with fail;apply Vk.mono;clear Vk;rintro ev W1 ⟨rfl,e',d_,pT⟩;have pY:Hid (Ob w0 W1 B g n cap a b A Z d e'):=hR.out.gR HD.1 d_ pT;clear d_ pT;go_wp2;go_meet;exact⟨M-1,e',rfl,oE,pY.out⟩
     case rest=>
      obtain⟨M',e',rfl,hM',Ig⟩:=hcut;have es1:Hid (e'.size=n):=Ig.out.su.sz;have nJ:=Vi B g n cap A Z e' w0 wc Ig.out.su hAZ oE hn;clear hR es hM;go_upto_if 50 with (first|(go_at_call 272;apply nJ.mono;rintro ev W1 ⟨p0,t0,rfl,pT,Ia,ht0,ja⟩));have HP0:Hid (Ob w0 W1 B g n cap a b A Z d e'):=Ig.out.gR HD.1 ja<|Go.Sort.permIn_refl _ _ _;clear ja nJ
      go_cut [11,12]from 19 to 133 (λs11 s12 wx=>∃(p t:Nat) (f:Array Nat),s11=.int .i64 p/\s12=.int .i64 t/\A<=p/\p<Z/\Hid (Ob w0 wx B g n cap a b A Z d f));case first=>
       by_cases DS:t0=2
       .subst DS;have hcr:=ac' B g n cap A Z e' w0 W1 HP0.out.su oE oE hn;have⟨p9,hp9⟩:=xY <|Z-1-(p0-A);have k1:IntKind.i64.wrap ((Z:Int)-1)=(Z:Int)-1:=iS
        have k2:IntKind.i64.wrap ((p0:Int)-A)=(p0:Int)-A:=iS;have k3:IntKind.i64.wrap ((Z:Int)-1-((p0:Int)-A))=(p9:Int):=iS;have z1:A<=p9:=oE;have z2:p9<Z:=oE;clear hp9;go_wp2_with fail;apply hcr.mono;clear hcr;rintro ev W2 ⟨rfl,cC⟩;have YD:Hid (Ob w0 W2 B g n cap a b A Z d<|Go.Sort.reverseRange e' A Z):=HP0.out.gR HD.1 cC (Go.Sort.reverseRange_holds e' A Z oE<|by rw[es1.out];omega);clear cC;go_wp2;go_meet;exact⟨p9,1,_,rfl,rfl,z1,z2,YD.out⟩
       .have t2:¬(t0:Int)=2:=oE;go_wp2;go_meet;exact⟨p0,t0,e',rfl,rfl,pT,Ia,HP0.out⟩
      case rest=>
       obtain⟨p,t,f,rfl,rfl,hpA,hpZ,Oc⟩:=hcut;clear Ig es1 HP0;have fs:Hid (f.size=n):=Oc.out.su.sz;have hcq:=abb B g n cap A Z f w0 wc Oc.out.su oE oE hn;go_upto_region 15 with fail;go_cut [68]from 19 to 133 (λs68 wx=>(∃c:Bool,s68=.bool c)/\wx=wc);case first=>
        cases wb with
        |false=>
         go_wp2;go_meet;exact⟨⟨_,rfl⟩,rfl⟩
        |true=>
         cases wp with
         |false=>
          go_wp2;go_meet;exact⟨⟨_,rfl⟩,rfl⟩
         |true=>
          go_wp2;go_meet;exact⟨⟨_,rfl⟩,rfl⟩
       case rest=>
        obtain⟨⟨c,rfl⟩,hwc⟩:=hcut;rw[hwc];clear hwc;go_upto_if 68 with fail;go_cut [72]from 19 to 133 (λ_ wx=>∃f',Hid<|Ob w0 wx B g n cap a b A Z d f');case first=>
         cases c with
         |false=>
          go_wp2;go_meet;exact⟨f,Oc.out⟩
         |true=>
          have⟨p1,p2⟩:=Go.Sort.partialInsertionSort_holds Y1 f A Z oE (by rw[fs.out];omega) Oc.out.bel.lib;have⟨r,hr⟩:=xY <|Go.Sort.partialInsertionSort e_ f A Z;rw[<-hr]at p1 p2 hcq;have HQ:Hid (PermIn A Z f r.1/\(r.2=true->SortedIn e_ A Z r.1)):=⟨p1,p2⟩;have⟨r1,r2⟩:=r;clear p1 p2 hr;go_wp2_with fail;apply hcq.mono;clear hcq;rintro ev W3 ⟨rfl,gA⟩;have HS3:Hid (SU w0 W3 B g n cap r1):=gA;clear gA;cases r2 with
          |true=>
           go_wp2;go_end0;exact⟨rfl,Oc.out.end_ HD.1 HS3.out HQ.1<|AH<|HQ.2<|by first|rfl|trivial⟩
          |false=>
           go_wp2;go_meet;exact⟨r1,Oc.out.gR HD.1 HS3.out HQ.1⟩
        case rest=>
         have⟨f',Md⟩:=hcut;clear hcq Oc fs;have fs:Hid (f'.size=n):=Md.out.su.sz;have cp:=Md.out.su.at (k:=p) (by omega);have bp:(p:Int)<n:=oE
         go_upto_region 17 with fail;go_cut [87]from 19 to 133 (λs87 wx=>s87=.bool false/\Hid (Ob w0 wx B g n cap a b A Z d f'));case first=>
          by_cases hA0:A=0
          .subst hA0;go_quiet (first|(go_at_call 202;refine Calls.quiet_of_same<|eW _ _ _))
           go_wp2;go_meet;exact⟨rfl,Md.out.gR HD.1 (Md.out.su.drewN _)<|Go.Sort.permIn_refl _ _ _⟩
          .obtain⟨y,hy⟩:∃y,y=A-1:=⟨_,rfl⟩;have l1:(0:Int)<A:=oE;have l1n:0<A:=oE;have jy:IntKind.i64.wrap ((A:Int)-1)=(y:Int):=iS;have cy:=Md.out.su.at (k:=y) (by omega);have jC:(y:Int)<n:=oE
           have bP:f'[y]! < f'[p]!:=by
            have h1:=Md.out.bel;have h2:¬f'[p]! < f'[y]!:=by
             obtain h1|h1:=h1
             .exact absurd h1 hA0
             .rw[hy];exact h1 p hpA hpZ
            have h3:f'[y]!≠f'[p]!:=λe=>by
             have:=Md.out.nd y p (by rw[fs.out];omega) (by rw[fs.out];omega) e;omega
            omega
           have HT:Hid (f'[y]! < f'[p]!):=bP;clear hy bP
           go_quiet (first|(go_at_call 202;refine Calls.quiet_of_same<|eW _ _ _))
           go_wp2;go_meet;refine⟨?_,Md.out.gR HD.1 (Md.out.su.drewN _)<|Go.Sort.permIn_refl _ _ _⟩;have bP:=HT.out;simp[bP]
         case rest=>
          obtain⟨rfl,J9⟩:=hcut;clear Md cp;have C5:=aba B g n cap A Z p f' w0 wc J9.out.su hpA hpZ oE hn;go_wp2_with fail;apply C5.mono;clear C5;rintro ev W4 ⟨m,al,d4,rfl,wF,zL⟩;have zK:=zL.am;have hpz:=zL.mb;have E3:Hid (SU w0 W4 B g n cap d4/\PS f' A Z m d4):=⟨wF,zL⟩;clear wF zL;have⟨ml,hml⟩:=xY <|m-A;have⟨mr,hmr⟩:=xY <|Z-m;have k1:IntKind.i64.wrap ((m:Int)-A)=(ml:Int):=iS
          have k2:IntKind.i64.wrap ((Z:Int)-m)=(mr:Int):=iS;have k3:IntKind.i64.wrap ((m:Int)+1)=((m+1:Nat):Int):=iS;clear hml hmr;by_cases hlr:ml<mr
          .have l9:(ml:Int)<mr:=oE;have Vk:=HIH.out A m M' d4 w0 W4 oE E3.1 oE oE hM' ((J9.out.bel.perm (by rw[fs.out];omega) E3.2.perm).sub oE) (J9.out.nd.perm (by rw[fs.out];omega) E3.2.perm);go_wp2_with fail;apply Vk.mono;clear Vk;rintro ev W5 ⟨rfl,d5,NA,hp5,qx⟩;have⟨o1,o2,o3⟩:=J9.out.out.left q1 q3 (by rw[fs.out];omega) E3.2 hp5 qx;have HE:Hid (Ob w0 W5 B g n cap a b (m+1) Z d d5):=⟨NA,Go.Sort.permIn_trans _ _ _ _ _ J9.out.perm<|Go.Sort.permIn_mono _ _ _ _ _ _ q1 q3 (by rw[fs.out];omega) o2,o1,o3,J9.out.nd.perm (by rw[fs.out];omega) o2,oE,oE,q3⟩;clear NA hp5 qx o1 o2 o3;go_wp2
           go_roundw;case rel=>exact⟨m+1,Z,M',_,al,d5,sE,rfl,rfl,rfl,rfl,hM',HE.out⟩
           case measure=>simp[intOf];omega
          .have l9:¬(ml:Int)<mr:=oE;have Vk:=HIH.out (m+1) Z M' d4 w0 W4 oE E3.1 oE oE hM' (.inr λi h1 h2=>E3.2.hi i oE h2) (J9.out.nd.perm (by rw[fs.out];omega) E3.2.perm);go_wp2_with fail;apply Vk.mono;clear Vk;rintro ev W5 ⟨rfl,d5,NA,hp5,qx⟩;have⟨o1,o2,o3⟩:=J9.out.out.right q1 q3 (by rw[fs.out];omega) J9.out.bel E3.2 hp5 qx;have HE:Hid (Ob w0 W5 B g n cap a b A m d d5):=⟨NA,Go.Sort.permIn_trans _ _ _ _ _ J9.out.perm<|Go.Sort.permIn_mono _ _ _ _ _ _ q1 q3 (by rw[fs.out];omega) o2,o1,o3,J9.out.nd.perm (by rw[fs.out];omega) o2,oE,oE,oE⟩;clear NA hp5 qx o1 o2 o3;go_wp2
           go_roundw;case rel=>exact⟨A,m,M',_,al,d5,rfl,rfl,rfl,rfl,rfl,hM',HE.out⟩
           case measure=>simp[intOf];omega
end
variable{xs:List Value}{B box k n:Nat}{a b e g t:TypeId}{v:Value}{A C w:World}
theorem bitLen_le(n:Nat):Lib.bitLen n<=1000:=by
 have:=(ue 64 n).2;unfold Lib.bitLen;omega
theorem Od(B g n p:Nat)(l:List Nat)(w:World)(h:w.ownsRow B 34 1 (.slice (some<|dH g) n p) n<|dh l)(c:l.length=n)(hn:n<=1000000000)(J:l.Nodup):
  Calls prog 201 #[.slice (some<|dH g) n p] w λe w'=>e=.returned (.tuple #[])/\∃l',lO w w' B g n p l l'/\nE l' n:=by
 have s:SU w w B g n p l.toArray:=⟨by simpa using c,by simpa using h,Fr.refl _ _⟩;have hp:=adj B g n p hn (n+1) 0 n (Lib.bitLen n) l.toArray w w oE s (zzs _) (zzc _) (bitLen_le n) (.inl rfl) ((Ex _).2<|by simpa using J);have L:=ae c;clear h c J s
 go_enter func201,ntmps201;have m:IntKind.u64.wrap (n:Int)=n:=by rw[IntKind.wrap_u64];omega
 go_wp2_with fail;apply(Tryz.bits_Len n w oE oE).mono;rintro e o ⟨rfl,rfl⟩;go_wp2_with fail;apply hp.mono;rintro e w2 ⟨rfl,d',cC,Ia,iH⟩;have Q:=ae<|zzb cC<|zzb Ia iH;clear cC Ia iH hp;go_wp2;go_end0;have⟨q,d,i⟩:=Q.out;have k:n<=l.toArray.size:=by have:=L.out;simp;omega
 refine⟨rfl,d'.toList,⟨by simpa using yx k d,q.row,q.fr⟩,λa b Y j=>?_⟩;have z:=q.sz;have f:=i a b (zzs _) Y j;rw[pA oE,pA oE]at f;simp only[List.getD_eq_getElem?_getD];rw[zzg sC,zzg sC];simp only[Option.getD_some,Array.getElem_toList];omega
theorem adk(x:Int)(w:World):Calls prog 203 #[.int .u64 x] w λe w'=>e=.returned (.bool false)/\w'=w:=by
 go_enter func203,ntmps203;go_wp2;go_ret;exact⟨rfl,rfl⟩
theorem Rw{us:List Nat}(hp:us.Pairwise (· < ·)){i j u v:Nat}(Z:i<j)(b:us[i]?=some u)(h:us[j]?=some v):u<v:=by
 rw[List.pairwise_iff_getElem]at hp;obtain⟨a,rfl⟩:=zzd.1 b;obtain⟨c,rfl⟩:=zzd.1 h;exact hp i j a c Z
def Y5(us:List Nat)(n t:Nat)(w:World)(e:Ending)(w':World):Prop :=
 ∃(k:Nat) (b:Bool),e=.returned (.tuple #[.int .i64 (k:Int),.bool b])/\k<=n/\(∀(j u:Nat),us[j]?=some u->(j<k->u<t)/\(k<=j->t<=u))/\w'=w
theorem J_(g q n t:Nat)(us:List Nat)(w:World)(o:∀(k u:Nat),us[k]?=some u->w.cell? (d8 g k)=some (.int .u64 (u:Int)))(l:us.length=n)(hp:us.Pairwise (· < ·))(hn:n<=1000000000):
  Calls prog 150 #[.slice (some<|dH g) n q,.int .u64 (t:Int)] w (Y5 us n t w):=by
 have C:=ae<|zzb o<|zzb l hp;clear o l hp
 go_enter func150,ntmps150;go_wp2;go_loopw [7,8] (λi j wr=>∃I J:Nat,i=.int .i64 I/\j=.int .i64 J/\I<=J/\J<=n/\Hid (wr=w/\∀(k u:Nat),us[k]?=some u->(k<I->u<t)/\(J<=k->t<=u))) (λi j _=>(intOf j).toNat-(intOf i).toNat);case atStart=>exact⟨0,n,rfl,rfl,zzs _,zzc _,rfl,λk u a=>⟨λh=>oE,λh=>by have:=(zzd.1 a).1;have:=C.2.1;omega⟩⟩
 case round=>
  obtain⟨I,J,rfl,rfl,y,d,f⟩:=hrel;obtain⟨rfl,m⟩:=f.out;have R:=ae m;clear f m;by_cases P:I<J
  .have l1:(I:Int)<J:=oE;have D:IntKind.i64.wrap ((I:Int)+J)=(I:Int)+J:=iS;have A:IntKind.u64.wrap ((I:Int)+J)=(I:Int)+J:=by rw[IntKind.wrap_u64];omega
   have E:IntKind.i64.wrap (((I:Int)+J)/2+1)=(((I+J)/2+1:Nat):Int):=iS;have⟨u,c⟩:∃u,us[(I+J)/2]?=some u:=⟨_,zzg<|by have:=C.2.1;omega⟩;have p:=C.1 _ u c;have U:=ae c;clear c;go_wp2_with fail;apply(eW _ _ _).mono;rintro e s ⟨rfl,rfl⟩;by_cases x:(u:Int)<t
   .rw[decide_eq_true x];have N:Hid (∀(k u:Nat),us[k]?=some u->(k<(I+J)/2+1->u<t)/\(J<=k->t<=u)):=λk v a=>⟨λr=>by
     rcases Nat.lt_or_ge k ((I+J)/2)with b|b
     .have:=Rw C.2.2 b a U.out;omega
     .obtain rfl:k=(I+J)/2:=oE;have:=U.out;rw[a]at this;cases this;omega,(R.out k v a).2⟩
    go_wp2;go_roundw;case rel=>exact⟨(I+J)/2+1,J,sE,rfl,oE,d,by first|trivial|rfl,N.out⟩
    case measure=>simp[intOf];omega
   .rw[decide_eq_false x];have N:Hid (∀(k u:Nat),us[k]?=some u->(k<I->u<t)/\((I+J)/2<=k->t<=u)):=λk v a=>⟨(R.out k v a).1,λr=>by
     obtain b|b:=Nat.lt_or_ge ((I+J)/2) k
     .have:=Rw C.2.2 b U.out a;omega
     .obtain rfl:k=(I+J)/2:=oE;have:=U.out;rw[a]at this;cases this;omega⟩
    go_wp2;go_roundw;case rel=>exact⟨I,(I+J)/2,rfl,sE,oE,oE,by first|trivial|rfl,N.out⟩
    case measure=>simp[intOf];omega
  .have l1:¬(I:Int)<J:=oE;obtain rfl:I=J:=oE;by_cases B:I<n
   .have l2:(I:Int)<n:=oE;have⟨u,c⟩:∃u,us[I]?=some u:=⟨_,zzg<|by have:=C.2.1;omega⟩;have p:=C.1 _ u c;by_cases z:(u:Int)=t
    .go_wp2;go_ret2;exact⟨I,_,rfl,d,R.out,rfl⟩
    .go_wp2_with fail;apply(adk _ _).mono;rintro e s ⟨rfl,rfl⟩;go_wp2;go_ret2;exact⟨I,_,rfl,d,R.out,rfl⟩
   .have l2:¬(I:Int)<n:=oE;go_wp2;go_ret2;exact⟨I,_,rfl,d,R.out,rfl⟩
theorem aP{p:Nat}{c:Array Value}(h:w.heap[p]?=some (.cells c t (0,0)))(i:Nat):w.cell? (d8 p i)=c[i]?:=by simp[World.cell?,h]
theorem mG(h:w.ownsRow B e k v n xs)(hn:0<n):∃g p,v=.slice (some<|dH g) n p:=by
 rcases h.2 with⟨_,a⟩|⟨g,p,r,rfl,_⟩
 .omega
 .grind
theorem rG(h:w.ownsRow B e k v n xs):∃p c,v=.slice p n c:=by
 rcases h.2 with⟨rfl,rfl⟩|⟨g,c,r,rfl,_⟩
 .grind
 .grind
theorem rH{a:Nat}(h:w.ownsRow B e k v n xs)(b:a<=B):w.ownsRow a e k v n xs:=by
 refine⟨h.1,?_⟩;obtain c|⟨g,cap,cur,hv,hb,r⟩:=h.2
 .grind
 .exact .inr ⟨g,cap,cur,hv,zzk b hb,r⟩
theorem cD(w:World)(cs:Array Value)(t:TypeId):∀j u,cs.toList[j]?=some u->(w.alloc<|.cells cs t).cell? (((dH w.heap.size):Addr).add j)=some u:=by
 intro j u a;have hn:(w.alloc<|.cells cs t).heap[w.heap.size]?=some (.cells cs t (0,0)):=World.alloc_heap_new w _;have:(((dH w.heap.size):Addr).add j)=(d8 w.heap.size j):=by simp[Addr.add];exact λh=>h.symm
 rw[this,aP hn];simpa using a
structure DQ(t1 t2:TypeId)(n₀:Nat)(A B:World):Prop where
 below:Below n₀ A B
 same:∀(k:Nat) (c:Array Value) (t:TypeId),(t=t1\/t=t2)->A.heap[k]?=some (Obj.cells c t (0,0))->B.heap[k]?=A.heap[k]?
theorem DQ.trans{B:World}(h:DQ b a n A B)(k:DQ b a n B C):DQ b a n A C:=
 ⟨h.below.trans k.below,λi c t f d=>by have e:=h.same i c t f d;exact(k.same i c t f<|e.trans d).trans e⟩
theorem DQ.book(hn:n<=w.heap.size)(W:World)(l:Nat)(o a:Obj)(d:w.heap.size<=l)(h:W.heap[l]?=some o)(c:o.isCells=false)(f:o.isWalk=false):DQ g t n W (W.putObj l a):=
 ⟨belowK_b hn W l o a d h c f,λk _ _ _ b=>World.putObj_heap_other λe=>by rw[e,h]at b;cases b;cases c⟩
theorem DQ.alloc(W:World)(hn:n<=W.heap.size)(o:Obj):DQ a t n W (W.alloc o):=
 ⟨(zzD n W).alloc hn o,λk _ _ _ h=>zzf _ _ k (zza.1 h).1⟩
def Fx(box:Nat)(A:World)(k:Nat):Prop:=∃v,A.cell? (dH box)=some v/\v.ownBlock=some k
structure zH(t1 t2:TypeId)(n₀ box:Nat)(A B:World):Prop where
 below:Below n₀ A B
 same:∀(k:Nat) (c:Array Value) (t:TypeId),(t=t1\/t=t2)->A.heap[k]?=some (Obj.cells c t (0,0))->¬Fx box A k->B.heap[k]?=A.heap[k]?
 stay:∀k,k<A.heap.size->Fx box B k->Fx box A k
theorem zH.trans{d:TypeId}{B:World}(h:zH d b n box A B)(k:zH d b n box B C):zH d b n box A C:=
 ⟨h.below.trans k.below,λi c t f a hn=>by
  have l:=(zza.1 a).1;have e:=h.same i c t f a hn;exact(k.same i c t f (e.trans a) λr=>hn<|h.stay i l r).trans e,
  λi a r=>h.stay i a (k.stay i (zzl a h.below.size) r)⟩
theorem zH.book{i:TypeId}(hn:n<=w.heap.size)(p:box<w.heap.size)(W:World)(l:Nat)(o b:Obj)(m:w.heap.size<=l)(h:W.heap[l]?=some o)(c:o.isCells=false)(g:o.isWalk=false):zH i t n box W (W.putObj l b):=
 ⟨belowK_b hn W l o b m h c g,λk _ _ _ d _=>World.putObj_heap_other (λe=>by rw[e,h]at d;cases d;cases c),λk _ r=>by
  have⟨v,f,j⟩:=r;refine⟨v,?_,j⟩;rw[<-f];exact(zze (World.putObj_heap_other (show box≠l by omega))).symm⟩
theorem zH.alloc(W:World)(hn:n<=W.heap.size)(c:box<W.heap.size)(o:Obj):zH b t n box W (W.alloc o):=
 ⟨(zzD n W).alloc hn o,λk _ _ _ e _=>zzf _ _ k (zza.1 e).1,λk _ r=>by
  have⟨v,h,d⟩:=r;refine⟨v,?_,d⟩;rw[<-h];exact(zze (zzf _ _ box c)).symm⟩
theorem zH.refl{a t:TypeId}{n box:Nat}(W:World):zH a t n box W W:=⟨zzD _ _,λ_ _ _ _ _ _=>rfl,λ_ _ h=>h⟩
theorem zH.appended{f:TypeId}{W:World}{a:Value}{p:Obj}(b:Boxed W box t v)(R:t≠g)(S:t≠f)(o:(W.alloc p).grownBy w v.ownBlock)(J:a.ownBlock=v.ownBlock\/a.ownBlock=some (W.alloc p).heap.size)(j:Below n W<|w.setCell (dH box) a)(C:Boxed (w.setCell (dH box) a) box t a):zH g f n box W (w.setCell (dH box) a):=
 ⟨j,λk c x q h hn=>by
  have l:=(zza.1 h).1;have m:k≠box:=λe=>by
   subst e;rw[show W.heap[k]?=_ from b]at h;have s:=(Obj.cells.inj<|Option.some.inj h).2.1;obtain rfl|rfl:=q
   .grind
   .grind
  refine(Below.heap_setCell _ _ _ k λe=>m<|by simpa using e).trans<|(o.block k sC λe=>hn ⟨v,b.cell,e.symm⟩).trans<|zzf _ _ k l,
  λk h r=>by
  have⟨u,i,d⟩:=r;rw[C.cell]at i;cases i;obtain e|e:=J
  .exact⟨v,b.cell,by rw[<-e];exact d⟩
  .rw[e]at d;simp at d;omega⟩
section
open Go.Sort
def Eb(m:az)(ns:List ByteArray):Prop:=ns.Nodup/\∀k,k∈ns↔m k≠none
theorem CP(B p bD bN n nD N:Nat)(pv:Value)(d:ah)(w:World)(h:aB w B p bD bN pv d n nD N)(jM:d.down=false):
  Calls prog 354 #[rM p] w λe w'=>∃v ns,e=.returned (.tuple #[v,.nilIface])/\Eb d.now ns/\w'.ownsRow w.heap.size 9 1 v ns.length (ns.map Value.string)/\Below w.heap.size w w':=by
 have c1:=aa h.blk 1;have c5:=aa h.blk 5;simp at c1 c5;rw[jM]at c5;have hN:=h.hN;have hn:=h.hn;have⟨D,l,s⟩:=h.now;have ab:=l.size_le;have H5:Hid (∀k:ByteArray,(d.now k=none->Maps.has D (gK k)=false)/\(∀t,d.now k=some t->Maps.has D (gK k)=true)):=λk=>⟨(s k).1,λt ht=>((s k).2 t ht).1⟩
 have HO:=ae l;clear h s;have⟨i0,hi,a8,a6,a7⟩:=info_parts LG;go_enter func354,ntmps354;go_wp2_with (first
  |(at_range;apply wpList_range_own _ rfl _ 55 rfl 9 109 uP underlying55 cY bN N D rfl l;intro w0 oy q ja)
  |go_in)
 go_frame;have I:Below w.heap.size w w0:=⟨q.os,q.tape,q.output,q.size,λk f=>q.block k f sE⟩;have T:=ae<|zzb oy I;clear oy q I l
 go_loopw [4] (λv wr=>∃(left:Lit->Bool) (r:Nat) (ss:List<|List UInt8),Hid<|wr.ranges prog 9 cY bN w.heap.size N D left r/\ss.length+r<=Maps.size D/\Collected D left ss/\wr.ownsRow (w.heap.size+1) 9 1 v ss.length (ss.map encStr)/\Below w.heap.size w wr/\w.heap.size+1<=wr.heap.size)
  (λ_ wr=>wr.rangeLeft bN w.heap.size)
 case atStart=>exact⟨_,_,[],T.1,sE,Collected.start D,zzu _ _ _ _,T.2,oE⟩
 case round=>
  have⟨left,r,ss,X⟩:=hrel;have m:=X.1;go_wp2_with (first
   |(at_next;refine wpList_next_ranges _ rfl _ rfl 9 uP cY encStr Value.pointer (λa' kl f=>by have⟨x,C,_⟩:=Maps.keyOf_str underlying9 f;exact⟨x,C⟩) (λv y J=>sP J) bN w.heap.size N _ _ _ rfl m ?_ ?_)
   |go_in)
  .intro sj hl0;have F:=X.2.2.1;have P:∀ts:List<|List UInt8,ts.Perm ss->Eb d.now (ts.map λx=>⟨x.toArray⟩):=λts hp=>by
    refine⟨?_,λk=>?_⟩
    .refine List.Pairwise.map _ (λa b lY e=>lY ?_)<|hp.nodup_iff.2 F.1;have:=congrArg (λx:ByteArray=>x.data.toList) e
     simpa using this
    .have e1:k∈(ts.map λx=>(⟨x.toArray⟩:ByteArray))↔k.data.toList∈ss:=by
      rw[<-hp.mem_iff,zzq];constructor
      .rintro⟨x,C,rfl⟩;simpa using C
      .intro f;exact⟨_,f,sE⟩
     rw[e1,F.2];have:=H5.out k;cases f:d.now k with
     |none=>rw[show Lit.string k.data.toList=gK k from rfl,this.1 f];simp
     |some t=>rw[show Lit.string k.data.toList=gK k from rfl,this.2 t f];simp[hl0]
   have M:=ae P;clear P F;rcases X.2.2.2.1.2 with⟨rfl,hz⟩|⟨i,o,a1,rfl,Z,L,R,H,Q,V⟩
   .have WD:ss=[]:=List.eq_nil_of_length_eq_zero hz;subst WD;go_wp2_with fail;apply(Tryz.sort_Strings_none none 0 wr).mono;rintro e w1 ⟨rfl,rfl⟩;go_wp2;go_ret2;exact⟨.slice none 0 0,[],rfl,M.out []<|List.Perm.refl _,zzu _ _ _ _,X.2.2.2.2.1⟩
   .have hH:Holds encStr wr i 0 ss.toArray:=holds_of_block L (by simpa using V);have kB:i<wr.heap.size:=(zza.1 L).1;have hlen:ss.length<4611686018427387904:=by have:=X.2.1;omega
    have G:=ae<|zzb L<|zzb R<|zzb H Q;clear L R H Q V;go_wp2_with fail;apply(Tryz.sort_Strings i 0 o ss wr hH kB hlen).mono;rintro e w1 ⟨rfl,nn,os,rfl⟩;have S:=ownsRow_sorted (n:=nn) (os:=os) (ts:=ss.mergeSort λx y=>decide<|x<=y) (by simp) Z G.1 G.2.1 G.2.2.1 G.2.2.2;have j9:=grownBy_sorted (w:=wr) (g:=i) (n:=nn) (os:=os) (ss.mergeSort λx y=>decide<|x<=y).toArray;have⟨W,Y⟩:=xY <|grow (putRow encStr (Sort.ahead wr nn) i 0 (ss.mergeSort λx y=>decide<|x<=y).toArray) os;rw[<-Y]at S j9 ⊢;clear Y;go_wp2;go_ret2;refine⟨.slice (some ⟨i,0,none⟩) ss.length o,(ss.mergeSort λx y=>decide<|x<=y).map λx=>⟨x.toArray⟩,rfl,M.out _<|List.mergeSort_perm _ _,?_,X.2.2.2.2.1.grown j9 oE λj A=>by cases A;omega⟩;rw[List.map_map];have e:(ss.mergeSort λx y=>decide<|x<=y).length=ss.length:=sE
    rw[zzn,e];exact rH S oE
  .intro x c kl yd yp w2 Ny Fy ic J gJ pW bP dY cC uI;obtain⟨x',ex,rfl,al⟩:=Maps.keyOf_str underlying9 Fy;obtain rfl:x=x':=encStr_inj ex;have O:w2.ownsRow (w.heap.size+1) 9 1 _ ss.length (ss.map encStr):=X.2.2.2.1.kept dY (by
    rcases X.2.2.2.1.2 with⟨rfl,_⟩|⟨i,o,a1,rfl,Z,_⟩
    .exact .inl rfl
    .exact .inr (by simp[Value.ownBlock];omega))
   have U:Hid (w2.ranges prog 9 cY bN w.heap.size N D (λz=>left z&&!z.sameKey (.string x)) Ny/\ss.length+1+Ny<=Maps.size D/\Collected D (λz=>left z&&!z.sameKey (.string x)) (ss++[x])/\Below w.heap.size w w2/\w.heap.size+1<=w2.heap.size/\w2.rangeLeft bN w.heap.size<wr.rangeLeft bN w.heap.size):=by
    refine⟨pW,by have:=X.2.1;omega,X.2.2.1.step ic gJ,X.2.2.2.2.1.grown dY (by have:=X.2.2.2.2.2;omega) λj A=>by cases A;omega,by rw[cC];exact X.2.2.2.2.2,by rw[pW.left_eq,m.left_eq];exact bP⟩
   have CO:ss.length+1<=1000000000:=by have:=U.2.1;omega
   clear cC m pW bP;go_wp2_with (first
    |(at_builtin;apply wpList_append_own _ rfl _ _ 138 rfl (w.heap.size+1) 9 i0 _ 1 16 underlying138 hi a8 a6 a7 rfl dN _ ss.length _ rfl (O.alloc _) ⟨w2.heap.size,0,none⟩ 1 1 [encStr x] rfl rfl (cD _ #[encStr x] _) (by intro u hu;simp at hu;subst hu;rfl) mE oE (by simp;have:=U.2.2.2.2.1;omega);intro v' w3 eP K _)
    |fail)
   have E:∀k,k<w2.heap.size->k<w.heap.size+1->w3.heap[k]?=w2.heap[k]?:=λk f gT=>(K.block k sC λe=>by have:=(O.lt k e.symm).1;omega).trans<|zzf _ _ k f
   have ak:=HO.out.lt;have ad:=U.2.2.2.2.1;have QR:w3.ranges prog 9 cY bN w.heap.size N D (λz=>left z&&!z.sameKey (.string x)) Ny:=by
    have:=U.1;unfold World.ranges at this ⊢;rw[E bN oE oE,E w.heap.size oE oE];exact this
   go_roundw;case rel=>
    refine⟨_,Ny,ss++[x],QR,by simp;have:=U.2.1;omega,U.2.2.1,by simpa using eP,?_,by have:=K.size;simp at this;omega⟩;exact⟨K.os.trans U.2.2.2.1.os,K.tape.trans U.2.2.2.1.tape,K.output.trans U.2.2.2.1.output,by have:=K.size;simp at this;omega,λk f=>(E k oE oE).trans<|U.2.2.2.1.block k f⟩
   case measure=>rw[QR.left_eq,<-U.1.left_eq];exact U.2.2.2.2.2
end
theorem FU(B p f bN n D N first:Nat)(v:Value)(d:ah)(w:World)(h:aB w B p f bN v d n D N)(hn:n+2<=1000000000)(G:first<2^64):
  Calls prog 119 #[fo p,.int .u64 (first:Int)] w (lU B p f bN (n+2) (d.bh first) w):=by
 have I:=ae h;clear h;go_enter func119,ntmps119;go_wp2_with fail;apply(xZ first 0 ⟨#[]⟩ _ dN dN G).mono;rintro e b ⟨g,rfl,hg,aC,gw⟩;rw[zzv]at gw hg aC;have A:(⟨#[]⟩:ByteArray).size=0:=rfl;have V:bytesOf ⟨#[]⟩=[]:=rfl;rw[A]at aC ⊢;rw[V]at aC;have hlen:(ax first 0 []).length=11+0+4:=by rw[fj];rfl
 have r:Fr [] w b:=((lE w).alloc _).trans (Fr.bw (by rw[zzv];exact gw) []);have L:b.heap[w.heap.size]?=some (.cells #[fo p] 111):=(gw.block w.heap.size oE).trans<|heap_alloc_new w _;have m:w.heap.size<b.heap.size:=(zza.1 L).1;have M:=(ql aC).2;have H:=ae L;have X:=ae aC;have t:=ae r;have x:=ae hlen;have l:=aa L 0;simp at l;have O:∀o,(b.alloc o).cell? (dH w.heap.size)=some (fo p):=λo=>(zze<|zzf b o _ m).trans l
 have J:∀o i,((b.alloc o).alloc i).cell? (dH w.heap.size)=some (fo p):=λo i=>(zze<|zzf (b.alloc o) i w.heap.size sC).trans<|O o
 clear gw aC r L hlen;go_wp2;have j:=λ(W:World) (c:W=((b.alloc (.cells #[.slice (some (dH g)) 15 15] 179)).alloc (.cells #[.func (.func 170) #[] #[rM w.heap.size,rM b.heap.size],.func (.method "Sync") #[fo p] #[],.func (.func 171) #[] #[rM w.heap.size],.func (.method "Sync") #[fo p] #[]] 122)).drew)=>by
  have s:Fr [] w W:=by rw[c];exact((t.out.alloc _).alloc _).drew
  have u:W.heap[b.heap.size+1]?=some (.cells #[.func (.func 170) #[] #[rM w.heap.size,rM b.heap.size],.func (.method "Sync") #[fo p] #[],.func (.func 171) #[] #[rM w.heap.size],.func (.method "Sync") #[fo p] #[]] 122):=by
   rw[c];have:=heap_alloc_new (b.alloc (.cells #[.slice (some (dH g)) 15 15] 179)) (.cells #[.func (.func 170) #[] #[rM w.heap.size,rM b.heap.size],.func (.method "Sync") #[fo p] #[],.func (.func 171) #[] #[rM w.heap.size],.func (.method "Sync") #[fo p] #[]] 122);rw[zzv]at this;exact this
  have C:W.heap[b.heap.size]?=some (.cells #[.slice (some (dH g)) 15 15] 179):=by
   rw[c];exact(zzf _ _ _ sE).trans<|heap_alloc_new _ _
  have L:W.heap[w.heap.size]?=some (.cells #[fo p] 111):=by
   rw[c];exact(zzf _ _ _ sC).trans<|(zzf _ _ _ m).trans H.out
  have Q:W.ownsRow (w.heap.size+1+1) 5 1 (.slice (some (dH g)) 15 15) 15 (bs<|ax first 0 []):=by rw[c];exact(X.out.alloc _).alloc _
  have F:=x.out;have:=UC B p f bN n D N w.heap.size b.heap.size g 15 (w.heap.size+1+1) (b.heap.size+1) first v d W (I.out.new s) hn u L (by rw[F];exact C) (by rw[F];exact Q)<|by rw[F];omega
  exact zzb s<|zzb L this
 go_region_held3 (λw'=>w'.cell? (dH w.heap.size)=some (fo p))
  (simp[*])
  (first|(go_at_call 95;apply(j _ rfl).2.2.mono;rintro e w2 ⟨rfl,ow,iH⟩;have q:=j _ rfl;have K:w2.cell? (dH w.heap.size)=some (fo p):=(aa ((iH.block w.heap.size (zza.1 q.2.1).1 ((I.out.new q.1).iU q.2.1 dN dN) sC).trans q.2.1) 0).trans sE;have y:Hid (pM p w w2):=((I.out.acy q.1).x.trans iH).UA (by intro k E;simp at E;omega);have z:Hid (∃v D N,aB w2 B p f bN v (d.bh first).1 (n+2) D N):=ow;clear q ow iH))
 all_goals clear j
 all_goals go_wp2
 all_goals go_ret
 all_goals exact⟨rfl,z.out,y.out⟩
def aq.wr(l:aq)(d:ah)(r:aq × ah × Nat):aq × ah × Nat :=
 if l.failed=0 then ({ r.1 with failed:=r.2.2 },r.2.1,r.2.2) else (l,d,l.failed)
theorem Lv(p:Nat)(w:World):(binOp .eql 111 (fo p) .nilIface).run prog w=.ok (.bool false) w:=k6
theorem aD.fail{w w':World}{B b p h bN n D N c:Nat}{v s r:Value}{l:aq}{d:ah}(a:aD w B b p h bN v s r l d n D N)(e:w'=w.setCell (d8 b 6) (cj c)):aD w' B b p h bN v s r {l with failed:=c} d n D N/\Fr [b] w w':=by
 subst e;have f:Fr [b] w (w.setCell (d8 b 6)<|cj c):=Fr.cH sE _ _;refine⟨a.I0 f ?_ a.dL a.fV a.jv a.gy a.lS rfl rfl,f⟩;simpa using aH a.blk 6<|cj c
theorem XZ(B a p t bN n D q m s g i base Q:Nat)(j v r:Value)(l:aq)(d:ah)(C:List Nat)(w:World)(h:aD w B a p t bN j v r l d n D q)(hn:n+1<1000000000)(K:2<=B)(J:l.filled<600->l.segs≠[])
  (y:w.heap[Q]?=some (.cells #[.func (.func 113) #[rM a] #[],.func (.func 114) #[] #[rM m,rM s]] 122))
  (W:w.heap[m]?=some (.cells #[rM a] 59)) (E:w.heap[s]?=some (.cells #[.slice (some<|dH g) C.length i] 179))
  (z:w.ownsRow base 5 1 (.slice (some<|dH g) C.length i) C.length<|bs C) (U:C.length<=4096) (G:dw w) :
  Calls prog 112 #[rM a,.slice (some<|dH Q) 2 2] w (kK B a p t bN (n+2) [g] (l.wr d<|l.put d C) w):=by
 have L:=aa h.blk 0;have o:=aa h.blk 6;simp at L o;have I:=ae h;have R:=Lv p;by_cases f:l.failed=0
 .rw[f,bQ]at o;have e:l.wr d (l.put d C)=({(l.put d C).1 with failed:=(l.put d C).2.2},(l.put d C).2.1,(l.put d C).2.2):=by unfold aq.wr;rw[if_pos f]
  rw[e];clear e;go_enter func112,ntmps112;go_wp2_with fail;apply(Up B a p t bN n D q m s g i base Q j v r l d C w I.out hn K J y W E z U G).mono;rintro e M ⟨rfl,⟨kr,sB,qz,lT,lN,fE⟩,fe⟩;have H:=ae fE;have O:=ae fe;have F:=aa fE.blk 6;have P:=au fE.blk 6;simp at F;clear fE fe y W E z h;by_cases u:(l.put d C).2.2=0
  .rw[u,bQ];go_wp2;go_ret;obtain⟨N,A⟩:=H.out.fail (c:=0) rfl;unfold kK;simp only;rw[u];exact⟨rfl,⟨kr,sB,qz,lT,lN,N⟩,O.out.trans<|H.out.XX N A (by intro k b _;simp at b;simp[b]) (bn.refl _ _) (bn.refl _ _)<|bn.refl _ _⟩
  .have he:=aG u;obtain⟨N,A⟩:=H.out.fail (c:=(l.put d C).2.2) rfl;rw[he]at N A ⊢;have x:=ae N;clear N;go_wp2;go_ret;exact⟨by simp only;rw[he];rfl,⟨kr,sB,qz,lT,lN,x.out⟩,O.out.trans<|H.out.XX x.out A (by intro k b _;simp at b;simp[b]) (bn.refl _ _) (bn.refl _ _)<|bn.refl _ _⟩
 .rw[aG f]at o;have e:l.wr d (l.put d C)=(l,d,l.failed):=by unfold aq.wr;rw[if_neg f]
  rw[e];go_enter func112,ntmps112;go_wp2;go_ret;exact⟨by simp only;rw[aG f];rfl,⟨j,v,r,D,q,(I.out.more oE).more oE⟩,(kI.refl _ _ _).x⟩
end Go.Proofs.YtdcafjmdfpjcbaaGreatDoor
