import Derived.Test.YtlgeloebpdmnnaaGreatDoorC17
import Derived.Test.YtlgeloebpdmnnaaGreatDoorC16
set_option maxHeartbeats 4000000
set_option maxRecDepth 100000
namespace Go.Proofs.YtlgeloebpdmnnaaGreatDoor
open Go.RowKit Go.Maps Tryz Sc
variable{b l:List Nat}{k u:Nat}
theorem bitLen_le(n:Nat):Lib.bitLen n<=1000:=by
 have:=(vK 64 n).2;unfold Lib.bitLen;omega
theorem PT(B g n p:Nat)(l:List Nat)(w:nL)(h:w.ownsRow B 34 1 (.slice (some<|gi g) n p) n<|fC l)(c:l.length=n)(hn:n<=1000000000)(u:l.Nodup):
  Calls prog 260 #[.slice (some<|gi g) n p] w λe w'=>e=.returned (.tuple #[])/\∃l',ln w w' B g n p l l'/\nO l' n:=by
 have s:SU w w B g n p l.toArray:=⟨by simpa using c,by simpa using h,Fr.refl _ _⟩;have hp:=afC B g n p hn (n+1) 0 n (Lib.bitLen n) l.toArray w w dp s (zzs _) (zzc _) (bitLen_le n) (.inl rfl) ((Fz _).2<|by simpa using u);have L:=ah c;clear h c u s
 go_enter func260,ntmps260;have k:IntKind.u64.wrap (n:Int)=n:=by rw[Bl];omega
 go_wp2_with fail;apply(Tryz.bits_Len n w dp dp).mono;rintro e m ⟨rfl,rfl⟩;go_wp2_with fail;apply hp.mono;rintro e w2 ⟨rfl,d',eP,GG,ik⟩;have Q:=ah<|zzb eP<|zzb GG ik;clear eP GG ik hp;go_wp2;go_end0;have⟨q,i,j⟩:=Q.out;have f:n<=l.toArray.size:=by have:=L.out;simp;omega
 refine⟨rfl,d'.toList,⟨by simpa using zt f i,q.row,q.fr⟩,λa b Z hb=>?_⟩;have z:=q.sz;have d:=j a b (zzs _) Z hb;rw[qZ dp,qZ dp]at d;simp only[Il];rw[zzg ef,zzg ef];simp only[Option.getD_some,Array.getElem_toList];omega
theorem afD(x:Int)(w:nL):Calls prog 262 #[.int .u64 x] w λe w'=>e=.returned (.bool false)/\w'=w:=by
 go_enter func262,ntmps262;go_wp2;go_ret;exact⟨rfl,rfl⟩
theorem T4{us:List Nat}(hp:us.Pairwise (· < ·)){i j v:Nat}(c:i<j)(b:us[i]?=some u)(d:us[j]?=some v):u<v:=by
 rw[DS]at hp;obtain⟨h,rfl⟩:=zzd.1 b;obtain⟨a,rfl⟩:=zzd.1 d;exact hp i j h a c
def aa3(us:List Nat)(n t:Nat)(w:nL)(e:Ending)(w':nL):Prop :=
 ∃(k:Nat) (b:Bool),e=.returned (.tuple #[.int .i64 (k:Int),.bool b])/\k<=n/\(∀(j u:Nat),us[j]?=some u->(j<k->u<t)/\(k<=j->t<=u))/\w'=w
theorem LL(g p n t:Nat)(us:List Nat)(w:nL)(m:∀(k u:Nat),us[k]?=some u->w.cell? (hP g k)=some (.int .u64 (u:Int)))(o:us.length=n)(hp:us.Pairwise (· < ·))(hn:n<=1000000000):
  Calls prog 205 #[.slice (some<|gi g) n p,.int .u64 (t:Int)] w (aa3 us n t w):=by
 have C:=ah<|zzb m<|zzb o hp;clear m o hp
 go_enter func205,ntmps205;go_wp2;go_loopw [7,8] (λi j wr=>∃I J:Nat,i=.int .i64 I/\j=.int .i64 J/\I<=J/\J<=n/\Hid (wr=w/\∀(k u:Nat),us[k]?=some u->(k<I->u<t)/\(J<=k->t<=u))) (λi j _=>(intOf j).toNat-(intOf i).toNat);case atStart=>exact⟨0,n,rfl,rfl,zzs _,zzc _,rfl,λk u a=>⟨λh=>dp,λh=>by have:=(zzd.1 a).1;have:=C.2.1;omega⟩⟩
 case round=>
  obtain⟨I,J,rfl,rfl,s,d,l⟩:=hrel;obtain⟨rfl,f⟩:=l.out;have R:=ah f;clear l f;by_cases W:I<J
  .have l1:(I:Int)<J:=dp;have z:IntKind.i64.wrap ((I:Int)+J)=(I:Int)+J:=eD;have B:IntKind.u64.wrap ((I:Int)+J)=(I:Int)+J:=by rw[Bl];omega
   have D:IntKind.i64.wrap (((I:Int)+J)/2+1)=(((I+J)/2+1:Nat):Int):=eD;have⟨u,c⟩:∃u,us[(I+J)/2]?=some u:=⟨_,zzg<|by have:=C.2.1;omega⟩;have q:=C.1 _ u c;have U:=ah c;clear c;go_wp2_with fail;apply(fX _ _ _).mono;rintro e r ⟨rfl,rfl⟩;by_cases hx:(u:Int)<t
   .rw[zI hx];have N:Hid (∀(k u:Nat),us[k]?=some u->(k<(I+J)/2+1->u<t)/\(J<=k->t<=u)):=λk v a=>⟨λA=>by
     rcases Nat.lt_or_ge k ((I+J)/2)with b|b
     .have:=T4 C.2.2 b a U.out;omega
     .obtain rfl:k=(I+J)/2:=dp;have:=U.out;rw[a]at this;cases this;omega,(R.out k v a).2⟩
    go_wp2;go_roundw;.exact⟨(I+J)/2+1,J,dv,rfl,dp,d,by first|trivial|rfl,N.out⟩
    case measure=>simp[intOf];omega
   .rw[zY hx];have N:Hid (∀(k u:Nat),us[k]?=some u->(k<I->u<t)/\((I+J)/2<=k->t<=u)):=λk v a=>⟨(R.out k v a).1,λA=>by
     obtain b|b:=Nat.lt_or_ge ((I+J)/2) k
     .have:=T4 C.2.2 b U.out a;omega
     .obtain rfl:k=(I+J)/2:=dp;have:=U.out;rw[a]at this;cases this;omega⟩
    go_wp2;go_roundw;.exact⟨I,(I+J)/2,rfl,dv,dp,dp,by first|trivial|rfl,N.out⟩
    case measure=>simp[intOf];omega
  .have l1:¬(I:Int)<J:=dp;obtain rfl:I=J:=dp;by_cases x:I<n
   .have l2:(I:Int)<n:=dp;have⟨u,c⟩:∃u,us[I]?=some u:=⟨_,zzg<|by have:=C.2.1;omega⟩;have q:=C.1 _ u c;by_cases y:(u:Int)=t
    .go_wp2;go_ret2;exact⟨I,_,rfl,d,R.out,rfl⟩
    .go_wp2_with fail;apply(afD _ _).mono;rintro e r ⟨rfl,rfl⟩;go_wp2;go_ret2;exact⟨I,_,rfl,d,R.out,rfl⟩
   .have l2:¬(I:Int)<n:=dp;go_wp2;go_ret2;exact⟨I,_,rfl,d,R.out,rfl⟩
theorem LP(h:vO b):uN b 0:=⟨tP _,h.no⟩
theorem Uq(f B p D N n c g:Nat)(pv:Value)(d:aj)(b:List Nat)(w:nL)(h:aC w B p D N pv d n c g)(u:d.down=false)(hf:f<2^64)(hb:vO b)(R:d.now (aw f)=some (str b))(K:dJ w):
  Calls prog 263 #[fS p,.int .u64 (f:Int)] w λe w'=>∃x,e=.returned (.tuple #[.slice none 0 0,x,.nilIface])/\Below w.heap.size w w':=by
 have s:=Nb;have t:=NC p;have H:Hid (aC w B p D N pv d n c g/\d.read (aw f)=(some<|str b,0)):=⟨h,by unfold aj.read;rw[mE<|by rw[u];decide,R]⟩;have F:=ah hb;have A:=hb.le;clear h R hb
 go_enter func263,ntmps263;go_wp2;go_region_held3 (λ_=>True)
  (trivial)
  (first
   |(go_at_call 159;apply(gS f w.drew hf<|show dJ w.drew from K).mono;rintro e o ⟨rfl,mY⟩;have z:Hid (Below (nF w) w o):=⟨mY.os,mY.tape,mY.output,mY.size,mY.block⟩;clear mY)
   |(go_at_call 411;apply(wO B p D N n c g pv d (aw f) o (H.1.new (Fr.bE z.out [])) (by have:=jr f hf;unfold maxLen;omega)).mono;rintro e w2 ⟨v2,rfl,fT,dy⟩))
 all_goals clear s t
 all_goals rw[H.2]at fT ⊢
 all_goals rw[aT]
 all_goals
  have W:Src w2 v2 b:=by
   have:Src w2 v2 (bytesOf<|str b):=fT;rwa [sV F.out.X8]at this
  have m:=To v2 b w2 W F.out.X8 dp;have Q:=ah<|z.out.trans<|dy.mono z.out.size
  obtain⟨j,a,c2,rfl⟩:∃j a c2,v2=.slice j a c2:=by
   rcases W with⟨e,_⟩|⟨b,C,y,e,_⟩<;>exact⟨_,_,_,e⟩
  clear fT dy W;go_wp2_with fail;apply m.mono;clear m;rintro e q ⟨k,v3,rfl,hE,_,CQ,iL⟩;obtain rfl:=qK hE<|LP F.out;obtain rfl:=CQ rfl;have I:=ah<|Q.out.trans<|iL.mono Q.out.size;have l:(st 0 b).2=0:=rfl;rw[l];clear hE iL CQ l;go_wp2
  go_loopw [33] (λi wr=>i=.int .i64 0/\Hid (wr=q)) (λ_ _=>0);.exact⟨rfl,rfl⟩
  .obtain⟨rfl,r⟩:=hrel;obtain rfl:wr=q:=r.out;by_cases v:0<a
   .have l1:(0:Int)<a:=dp;go_wp2;go_ret3;exact⟨⟨_,rfl⟩,I.out⟩
   .obtain rfl:a=0:=dp;go_wp2;go_ret3;exact⟨⟨_,rfl⟩,I.out⟩
abbrev Nm:=Nat ⊕ Bool
def BQ(z:Bool):nS:=if z then cD else eA
def X9:Nm->nS
 |.inl u=>aw u
 |.inr z=>BQ z
def jC(l:List Nm):List Nat:=l.filterMap λo=>match o with|.inl u=>some u|.inr _=>none
theorem Ud(l:List Nm)(u:Nat):jC (l++[.inl u])=jC l++[u]:=by simp[jC]
theorem Ue(l:List Nm)(z:Bool):jC (l++[.inr z])=jC l:=by simp[jC]
theorem Aw(l:List Nm):(jC l).length<=l.length:=by grind[jC]
def X_(w:nL)(g:Nat)(l:List Nm):Prop:=∀(k:Nat) (o:Nm),l[k]?=some o->w.cell? (hP g k)=some (.string (X9 o))
theorem Uf(z:Bool):(⟨(Lib.trimPrefix (BQ z).data.toList [115,101,103,109,101,110,116,45]).toArray⟩:nS)=BQ z:=by
 cases z<;>decide
theorem P1(z:Bool):Lib.parseUintB 64 (BQ z).data.toList=.«syntax»:=by cases z<;>rfl
theorem Ug(z:Bool):(BQ z).size<=281474976710656:=by cases z<;>decide
theorem P2(g a1:Nat)(l:List Nm)(w:nL)(hg:g<w.heap.size)(E:X_ w g l)(F:∀u∈jC l,u<2^64)(D:jC l≠[])(hl:l.length<=1000000000)(N:(jC l).Nodup)(K:dJ w)(P:nZ w)(h1:2<w.heap.size):
  Calls prog 204 #[.slice (some<|gi g) l.length a1] w λe w'=>∃C J l',e=.returned (.slice (some<|gi C) (jC l).length J)/\l'.Perm (jC l)/\nO l' (jC l).length/\w'.ownsRow w.heap.size 34 1 (.slice (some<|gi C) (jC l).length J) (jC l).length (fC l')/\Below w.heap.size w w':=by
 have⟨m,d⟩:=gb l.length;rw[<-d]at hl ⊢;have n:=ah d;have U:=ah<|zzb F<|zzb E<|zzb K P;have q:=zzE.2 D;have r:(jC l).length<=1000000000:=by have:=Aw l;omega
 have⟨i0,hi,a7,a8,a'⟩:=tO wL;have hlen:=aa5;have S:=ah N;clear d E F K D P N;go_enter func204,ntmps204;go_wp2
 go_loopw [12,3] (λi v wr=>∃k:Nat,k<=m/\i=.int .i64 k/\Hid (wr.ownsRow w.heap.size 34 1 v (jC<|l.take k).length (fC<|jC<|l.take k)/\Below w.heap.size w wr)) (λi _ _=>m-(intOf i).toNat)
 case atStart=>exact⟨0,zzs _,rfl,zzu _ _ _ _,zzD _ _⟩
 case round=>
  obtain⟨k,hk,rfl,R⟩:=hrel;by_cases bW:k<m
  .obtain⟨o,ho⟩:∃o,l[k]?=some o:=⟨_,zzg<|by have:=n.out;omega⟩;have t:=(R.2.cell hg).trans<|U.2.1 k o ho;have T:Hid (l.take (k+1)=l.take k++[o]):=by show _=_;rw[vV,ho];rfl
   have A:=R.2.size;have o_:(jC<|l.take k).length<=1000000000:=by have:=Aw<|l.take k;rw[zzm]at this;omega
   cases o with
   |inr z=>
    have⟨ev,W,X⟩:=U.2.2.2;have Q:=(R.2.cell h1).trans W;have B:=Tryz.strconv_ParseUint_10_at64_syntax (BQ z) (Ug z) (P1 z) ev wr Q X;change wr.cell? ⟨g,k,none⟩=some (.string<|BQ z)at t;clear W X Q ho;go_wp2_with fail;apply(Tryz.strings_CutPrefix _ _ wr).mono;rintro e a ⟨rfl,rfl⟩;simp only[Uf];go_wp2_with fail;apply B.mono;clear B;rintro e w2 ⟨Nn,rfl,_,_,y⟩;have O:=ah y;clear y;go_wp2;go_roundw
    case rel=>exact⟨k+1,dp,dv,by rw[T.out,Ue];exact qa R.1 O.out,R.2.trans<|O.out.mono A⟩
    case measure=>simp[intOf];omega
   |inl u=>
    change wr.cell? ⟨g,k,none⟩=some (.string<|aw u)at t;have f:=U.1 u (by unfold jC;rw[List.mem_filterMap];exact⟨.inl u,zzh ho,rfl⟩);have Z:=PY u f;have aa:=jr u f;have P3:(Lib.decDigits u).length<=28:=by
     have:(aw u).size=8+(Lib.decDigits u).length:=by unfold aw;simp[ByteArray.size];omega
     omega
    clear ho;go_wp2_with fail;apply(Tryz.strings_CutPrefix _ _ wr).mono;rintro e a ⟨rfl,rfl⟩;simp only[T7];go_wp2_with fail;apply(Tryz.strconv_ParseUint_10_at64_ok ⟨(Lib.decDigits u).toArray⟩ (by simp[ByteArray.size];omega) u (by simpa using Z) a).mono;rintro e w2 ⟨rfl,lI⟩;have y:Below a.heap.size a w2:=by
     rcases lI with rfl|rfl
     .exact zzD _ _
     .exact IL _ _
    clear lI;have G:dJ w2:=U.2.2.1.cZ ((y.block 1 (by omega)).trans<|R.2.block 1 (by omega));go_wp2_with fail;apply(gS u w2 f G).mono;rintro e w3 ⟨rfl,iL⟩;have b:=y.trans<|iL.mono y.size;have L:=qa R.1 b;have I:=ah<|R.2.trans<|b.mono A;have ie:=I.out.size;clear y iL b G Z
    go_wp2_with (first
     |(at_builtin;apply wpList_append_own _ rfl _ _ 49 rfl w.heap.size 34 i0 _ 1 8 underlying49 hi a7 a8 a' rfl du _ (jC<|l.take k).length _ rfl (L.alloc _) ⟨w3.heap.size,0,none⟩ 1 1 [.int .u64 (u:Int)] rfl rfl (fV _ #[.int .u64 (u:Int)] _) (by intro x hx;simp at hx;subst hx;rfl) eE dp ef;intro v' w4 V bK _)
     |fail)
    go_roundw;.refine⟨k+1,dp,dv,by rw[T.out,Ud,tS,zzi];exact V,?_⟩;exact(I.out.alloc ie _).grown bK ef λj hj=>(L.lt j hj).1
    case measure=>simp[intOf];omega
  .obtain rfl:k=m:=dp;have e:l.take k=l:=zzt (by rw[n.out];exact zzc _);rw[e]at R;obtain⟨c,s,rfl⟩:=eQ R.1 q;have⟨M,h⟩:=gb <|(jC l).length;have H:=ah h;rw[<-h]at R q r ⊢;clear h;go_wp2_with fail;apply(PT w.heap.size c M s (jC l) wr R.1 H.out.symm r S.out).mono;rintro e w2 ⟨rfl,l',eP,vw⟩;have Y:=ah<|zzb eP vw;clear eP vw;go_wp2;go_ret;have nA:=(R.1.lt c rfl).1;refine⟨c,s,l',by rw[<-H.out];rfl,Y.1.perm,by rw[<-H.out];exact Y.2,by rw[<-H.out];exact Y.1.row,R.2.trans ?_⟩;have hf:=Y.1.fr;exact⟨hf.os,hf.tape,hf.output,hf.size,λk hk=>hf.block k (by have:=R.2.size;omega) ef⟩
theorem Yb(B b p O P n T U:Nat)(pv z C:Value)(l:au)(d:aj)(rs:List Rec)(t:List Nat)(w:nL)(h:aM w B b p O P pv z C l d n T U)(mq:d.down=false)(CI:vd rs)(j9:∀(k:Nat) (r:Rec),rs[k]?=some r->r.cW=l.next+k)(aa:rs≠[])(wh:vO t)(pR:d.now (aw l.next)=some (str<|BO (rs,t)))(dK:dJ w)(hlen:l.recs.length+rs.length<=n)(CJ:l.segs.length+1<=n)(kB:l.next+rs.length<=n+1)(Ot:(dF rs).length<=4096):
  Calls prog 206 #[gx b,.int .u64 (l.next:Int)] w λe w'=>e=.returned (.tuple #[.bool true,.nilIface])/\(∃M7 M_,aM w' B b p O P pv M7 M_ ⟨l.segs++[l.next],nu (rs,t),l.recs++rs,l.next+rs.length,l.ak,l.failed⟩ d n T U/\bU w.heap.size z M7/\bU w.heap.size C M_)/\Fr (b::(z.ownBlock.toList++C.ownBlock.toList)) w w':=by
 have hn:=h.bP.hn;have ZN:=h.bP.base.2.2.2;have c0:=af h.blk 0;have c4:=af h.blk 4;simp at c0 c4;have ax:b<w.heap.size:=(zza.1 h.blk).1;have hS:=Ul l.next B p O P n T U pv d rs t w h.bP mq CI j9 dp aa wh pR dK dp Ot
 have CC:nu (rs,t)<=4096:=by unfold nu;split;rw[<-vM];exact Ot;omega
 have V:=ah h;obtain⟨i0,hi,an,ao,ad⟩:=tO wL;obtain⟨j0,M,al,KP,vw⟩:=tO Ak;have ab:=zzE.2 aa;clear h CI aa pR j9 wh
 go_enter func206,ntmps206;go_wp2_with fail;refine hS.mono ?_;clear hS;rintro e o ⟨vr,rfl,aW,dB⟩;obtain⟨f,k1,rfl⟩:=eQ aW ab;have Y:=Fr.bE dB [];have K:=V.out.new Y;have gq:=V.out.zS Y;have se:=IP Y;have H:=ah<|zzb K<|zzb gq aW;have d1:=af K.blk 1;have d2:=af K.blk 2;have d3:=af K.blk 3;have d4:=af K.blk 4;have e1:=aq K.blk 1;have e2:=aq K.blk 2;have e3:=aq K.blk 3;have e4:=aq K.blk 4;simp at d1 d2 d3 d4;have mR:=dB.size;have qG:=aW.lt f rfl;have uO:¬((rs.length:Int)=0):=dp
 have⟨m,Z⟩:=gb rs.length;have⟨Q,a'⟩:=gb <|nu (rs,t);have E:=ah<|zzb Z a';rw[<-Z]at H ab uO hlen kB ⊢;rw[<-a']at CC ⊢;have⟨i,X⟩:=gb l.next;have G:=ah X;rw[<-X]at kB c4 d4 ⊢;have V5:=aL aW rfl
 have HC:Hid (∀(j:Nat) (u:Value),(cM rs)[j]?=some u->o.cell? ⟨f,j,none⟩=some u):=λj u M=>by
  have:=H.2.2.cells (g:=f) rfl j u M;simpa [Addr.add_lit]using this
 have HG:Hid (¬f=b/\z.ownBlock≠some f/\C.ownBlock≠some f):=by
  have⟨c,oU⟩:=V5;refine⟨dp,aQ K.segs oU du,λe=>?_⟩;have:=(V.out.recs.lt f e).2;omega
 clear aW dB Y K gq c0 Z a' X V5;have av:b<o.heap.size:=by omega
 have aE:¬b=o.heap.size:=by omega
 have aI:¬o.heap.size=b:=dp;have ay:IntKind.u64.wrap (m:Int)=m:=by rw[Bl];omega
 have aA:IntKind.u64.wrap ((i:Int)+m)=(i:Int)+m:=by rw[Bl];omega
 go_wp2_with (first
  |(at_builtin;refine wpList_append_own_at _ rfl _ _ 49 rfl B 34 i0 _ 1 8 underlying49 hi an ao ad rfl du _ l.segs.length (fC l.segs) rfl (H.1.segs.alloc _) ⟨o.heap.size,0,none⟩ 1 1 [.int .u64 (i:Int)] rfl rfl (fV _ #[.int .u64 (i:Int)] _) (by intro u hu;simp at hu;subst hu;rfl) eE dp ef ?_;intro v2 w2 Um Un _ a7;obtain⟨S,cs,rfl⟩:=eQ Um dp;have D:Fr z.ownBlock.toList o w2:=((Fr.refl _ o).alloc _).trans<|Fr.cA Un;have q:=IP (H.1.aa8 (v:=.slice (some ⟨S,0,none⟩) (l.segs.length+1) cs) (ss:=l.segs++[i]) D (by rw[tS,zzi];exact Um) (bU.zg a7 dv) ⟨by simpa using CJ,by intro x hx;rcases zzo.1 hx with hx|hx;exact H.1.eJ.2 x hx;simp at hx;omega⟩);have ad:=D.size;have y:=(D.block b av<|by simp;exact aQ H.1.segs H.1.blk du).trans H.1.blk;have q1:=af y 1;have q2:=af y 2;have q3:=af y 3;have q4:=af y 4;have p1:=aq y 1;have p2:=aq y 2;have p3:=aq y 3;have p4:=aq y 4;simp at q1 q2 q3 q4;rw[<-G.out]at q4;have RY:=IP D;have Kc:=IP (bU.zg (s:=w.heap.size) a7 ef);clear Um Un a7 D y d1 d2 d3 d4 e1 e2 e3 e4)
  |(at_builtin;refine wpList_append_own_at _ rfl _ _ 35 rfl B 89 j0 _ 3 32 underlying35 M al KP vw rfl du _ l.recs.length (cM l.recs) rfl q.1.recs ⟨f,0,none⟩ m k1 (cM rs) rfl (by rw[tQ,E.1]) (λj u M=>by rw[show((⟨f,0,none⟩:Addr).add j)=⟨f,j,none⟩from by simp[Addr.add];exact λh=>h.symm];exact(zze (a:=⟨f,j,none⟩) ((wg _ _ _ f (λe=>HG.1 (by simpa using e))).trans (RY.out.block f qG.2 (by simp;exact HG.2.1)))).trans (HC.out j u M)) (PX rs) eE dp q.1.bP.base.2.2.2 ?_;intro v3 w3 Uo Up _ a8;obtain⟨I,F,rfl⟩:=eQ Uo dp;have R:=Fr.cA Up;have H3:=IP (q.1.aa9 (v:=.slice (some ⟨I,0,none⟩) (l.recs.length+m) F) (rs:=l.recs++rs) R (by rw[PZ,zzi,<-E.1];exact Uo) (bU.zg a8 (zzc _)) (by rw[zzi,<-E.1];exact hlen));have L:=(R.block b (zza.1 q.1.blk).1 (by simp;exact aQ q.1.recs q.1.blk du)).trans q.1.blk;have t2:=af L 2;have t3:=af L 3;have t4:=af L 4;have u2:=aq L 2;have u3:=aq L 3;have u4:=aq L 4;simp at t2 t3 t4;rw[<-G.out]at t4;have ae:=IP R;have ag:=IP (bU.zg (s:=w.heap.size) a8 ef);clear Uo Up a8 R L q1 q2 q3 q4 p1 p2 p3 p4))
 go_ret2;obtain⟨N,vg⟩:∃N,N=w3.setCell ⟨b,3,none⟩ (.slice (some ⟨I,0,none⟩) (l.recs.length+m) F):=⟨_,rfl⟩;have h5:=H3.out;rw[<-vg]at h5 ⊢;obtain⟨W,pE⟩:∃W,W=(N.setCell ⟨b,4,none⟩<|.int .u64<|(i:Int)+m).setCell ⟨b,2,none⟩ (.int .i64 (Q:Int)):=⟨_,rfl⟩;rw[<-pE];have il:Fr [b] N W:=by rw[pE];exact(Fr.cG dv _ _).trans<|Fr.cG dv _ _
 have CD:W.heap[b]?=some (o0 p (.slice (some ⟨S,0,none⟩) (l.segs.length+1) cs) (.slice (some ⟨I,0,none⟩) (l.recs.length+m) F) ⟨l.segs++[l.next],nu (rs,t),l.recs++rs,l.next+rs.length,l.ak,l.failed⟩):=by
  have:=aF (aF h5.1.blk 4<|.int .u64<|(i:Int)+m) 2<|.int .i64 (Q:Int);rw[pE];simp[<-E.1,<-E.2,<-G.out]at this ⊢;exact this
 have ZO:aM W B b p O P pv (.slice (some ⟨S,0,none⟩) (l.segs.length+1) cs) (.slice (some ⟨I,0,none⟩) (l.recs.length+m) F) ⟨l.segs++[l.next],nu (rs,t),l.recs++rs,l.next+rs.length,l.ak,l.failed⟩ d n T U:=by
  have J:=h5.1;rw[G.out]at J;exact J.KO il CD J.eJ J.iC (by show nu (rs,t)<=4096;rw[<-E.2];exact CC) (by show l.next+rs.length<=n+1;rw[<-E.1,<-G.out];exact kB) J.nU rfl rfl
 refine⟨rfl,⟨_,_,ZO,Kc.out,ag.out⟩,?_⟩;have a1:Fr (b::(z.ownBlock.toList++C.ownBlock.toList)) w o:=se.out.mono (by simp);have a2:Fr (b::(z.ownBlock.toList++C.ownBlock.toList)) w w2:=a1.trans<|RY.out.mono λk _ A=>Ds _<|List.mem_append_left _ A;have a3:=(a2.setCell (p:=⟨b,1,none⟩) (.inl dv)<|.slice (some ⟨S,0,none⟩) (l.segs.length+1) cs).trans<|ae.out.mono λk _ A=>Ds _<|EL _ A;have a4:=a3.setCell (p:=⟨b,3,none⟩) (.inl dv)<|.slice (some ⟨I,0,none⟩) (l.recs.length+m) F;rw[<-vg]at a4;exact a4.trans<|il.mono λk _ A=>by simp at A;simp[A]
noncomputable def iG(F:aG)(mk:Nat)(ss:List Sg):List Nat:=if F (aw (az mk ss))=none then [] else [az mk ss]
noncomputable def lY(F:aG)(mk:Nat)(ss:List Sg):List Nat:=starts mk (chunks ss)++iG F mk ss
theorem qi{F:aG}{mk:Nat}{ss:List Sg}:u∈iG F mk ss↔u=az mk ss/\F (aw<|az mk ss)≠none:=by
 unfold iG;split<;>grind
theorem X'{a b:Nm}(h:X9 a=X9 b):a=b:=by
 have m:eA≠cD:=du;obtain u|z:=a<;>obtain v|y:=b
 .exact congrArg _<|fN h
 .exfalso;cases y
  .exact(br u).1 h
  .exact(br u).2 h
 .exfalso;cases z
  .exact(br v).1 h.symm
  .exact(br v).2 h.symm
 .cases z<;>cases y
  .rfl
  .exact absurd h m
  .exact absurd h.symm m
  .rfl
theorem IU:∀(ns:List nS),(∀k∈ns,∃o,k=X9 o)->∃l:List Nm,ns=l.map X9
 |[],_=>⟨[],rfl⟩
 |k::ns,h=>by
  have⟨o,a⟩:=h k dv;have⟨l,c⟩:=IU ns (λx hx=>h x<|by simp[hx]);exact⟨o::l,by rw[List.map_cons,<-a,<-c]⟩
theorem BR{l:List Nm}:u∈jC l↔(.inl u:Nm)∈l:=by grind[jC]
theorem BS:∀{l:List Nm},l.Nodup->(jC l).Nodup
 |[],_=>by simp[jC]
 |o::l,h=>by
  have a:=List.nodup_cons.1 h;have ih:=BS a.2;obtain u|z:=o
  .have e:jC ((.inl u:Nm)::l)=u::jC l:=by simp[jC]
   rw[e,List.nodup_cons];exact⟨λm=>a.1<|BR.1 m,ih⟩
  .have e:jC ((.inr z:Nm)::l)=jC l:=by simp[jC]
   rw[e];exact ih
theorem Ea{l:List Nm}(h:(l.map X9).Nodup):l.Nodup:=by
 unfold List.Nodup at *;rw[zv]at h;exact h.imp λ{a b} Z e=>Z<|by rw[e]
section
variable{F:aG}{mk:Nat}{ss:List Sg}
theorem bG.names(h:bG F mk ss){ns:List nS}(hn:FA F ns):∃l:List Nm,ns=l.map X9/\(jC l).Nodup/\∀u,u∈jC l↔F (aw u)≠none:=by
 have⟨l,c⟩:=IU ns (λk a=>by
  rcases h.other k ((hn.2 k).1 a)with e|e|⟨u,e,_⟩
  .exact⟨.inr false,e⟩
  .exact⟨.inr true,e⟩
  .exact⟨.inl u,e⟩)
 refine⟨l,c,BS<|Ea<|by rw[<-c];exact hn.1,λu=>?_⟩;rw[BR,<-hn.2 (aw u),c,zzq];constructor
 .intro hm;exact⟨_,hm,rfl⟩
 .rintro⟨o,ho,he⟩;have:o=.inl u:=X' he;rw[this]at ho;exact ho
theorem bG.start(h:bG F mk ss){u:Nat}(a:u∈starts mk (chunks ss)):F (aw u)≠none/\mk<=u/\u<az mk ss:=by
 refine⟨?_,(oC _ mk h.ne').2 u a,yy _ mk h.ne' u a⟩;have⟨k,b⟩:=zzB.1 a;have o:=(zzd.1 b).1;rw[eT]at o;have c:=lq (chunks ss) mk k o;rw[b]at c;have E:k<ss.length:=by grind
 have d:=h.files k ss[k]<|zzg E;have e:u=az mk (ss.take k):=by grind[az,fh]
 rw[e,d];simp
theorem bG.IV(h:bG F mk ss)(u:Nat):u∈lY F mk ss↔F (aw u)≠none/\mk<=u:=by
 unfold lY;rw[zzo,qi];constructor
 .rintro (hu|⟨rfl,hu⟩)
  .exact⟨(h.start hu).1,(h.start hu).2.1⟩
  .exact⟨hu,Nat.le_add_right _ _⟩
 .rintro⟨h1,h2⟩;obtain e|e|⟨v,e,_,h3⟩:=h.other _ h1
  .grind [br]
  .grind [br]
  .grind [fN]
theorem bG.Ui(h:bG F mk ss):(lY F mk ss).Pairwise (· < ·):=by
 unfold lY;rw[List.pairwise_append];refine⟨(oC _ mk h.ne').1,?_,λa c b hb=>?_⟩
 .unfold iG;split<;>simp
 .obtain⟨rfl,_⟩:=qi.1 hb;exact(h.start c).2.2
theorem Uj{l:List Nat}(h:l.Pairwise (· < ·))(k:Nat):(l.drop k).Pairwise (· < ·):=by grind
theorem vQ{l:List Nat}(h:l.Pairwise (· < ·)):l.Nodup:=h.imp λ{a b} (Z:a<b)=>Nat.ne_of_lt Z
theorem Uk{a b:List Nat}(c:a.Pairwise (· < ·))(hb:b.Pairwise (· < ·))(h:∀u,u∈a↔u∈b):a=b:=by
 have hp:=(List.perm_ext_iff_of_nodup (vQ c)<|vQ hb).2 h;exact List.Perm.eq_of_pairwise (λ_ _ _ _ d e=>Nat.le_antisymm d e) (c.imp λh=>Nat.le_of_lt h) (hb.imp λh=>Nat.le_of_lt h) hp
theorem bG.parted(h:bG F mk ss){l:List Nat}(d:l.Pairwise (· < ·))(m:∀u,u∈l↔F (aw u)≠none){k:Nat}(c:∀(j u:Nat),l[j]?=some u->(j<k->u<mk)/\(k<=j->mk<=u)):l.drop k=lY F mk ss:=by
 refine Uk (Uj d k) h.Ui λu=>?_;rw[h.IV,<-m];constructor
 .intro hu;have⟨j,a⟩:=zzB.1 hu;rw[List.getElem?_drop]at a;exact⟨zzh a,(c _ u a).2 dp⟩
 .rintro⟨h1,h2⟩;have⟨j,a⟩:=zzB.1 h1;obtain b|b:=Nat.lt_or_ge j k
  .grind
  .refine zzB.2 ⟨j-k,?_⟩;rw[List.getElem?_drop,show k+(j-k)=j by omega];exact a
def kY(F:aG)(mk:Nat)(ss:List Sg)(us:List Nat):Prop:=us.Nodup/\∀u,u∈us↔F (aw u)≠none/\u∉starts mk (chunks ss)
theorem bG.Ya(h:bG F mk ss){l:List Nat}(g:l.Pairwise (· < ·))(m:∀u,u∈l↔F (aw u)≠none){k:Nat}(f:∀(j u:Nat),l[j]?=some u->(j<k->u<mk)/\(k<=j->mk<=u)):kY F mk ss (l.take k++iG F mk ss):=by
 have hp:=h.parted g m f;have L:∀u∈l.take k,u<mk/\u∈l:=λu d=>by
  obtain⟨j,e⟩:=zzB.1 d;have G:=(zzd.1 e).1;rw[zzm]at G;rw[List.getElem?_take,oo dp]at e;exact⟨(f j u e).1 dp,zzh e⟩
 constructor
 .rw[List.nodup_append];refine⟨(vQ g).sublist<|List.take_sublist _ _,by unfold iG;split<;>simp,λa n b hb=>?_⟩;obtain⟨rfl,_⟩:=qi.1 hb;have:=(L a n).1;have i:mk<=az mk ss:=Nat.le_add_right _ _;omega
 .intro u;rw[zzo,qi];constructor
  .rintro (d|⟨rfl,d⟩)
   .refine⟨(m u).1 (L u d).2,λs=>?_⟩;have:=(h.start s).2.1;have:=(L u d).1;omega
   .exact⟨d,λs=>by have:=(h.start s).2.2;omega⟩
  .rintro⟨h1,i⟩;have c:=(m u).2 h1;rw[<-Ez k l,hp,zzo]at c;obtain c|c:=c
   .grind
   .unfold lY at c;rw[zzo,qi]at c;obtain c|c:=c<;>grind
theorem tail_at(mk:Nat)(ss:List Sg){k:Nat}(h:k<ss.length):(lY F mk ss)[k]?=some (az mk<|ss.take k):=by
 unfold lY;rw[Ij<|by rw[eT];simpa using h,lq _ _ _<|by simpa using h];unfold az;rw[fh]
theorem IW(mk:Nat)(ss:List Sg):(lY F mk ss).length=ss.length+(iG F mk ss).length:=by
 unfold lY;rw[zzi,eT];simp
theorem BU(F:aG)(mk:Nat)(ss:List Sg):(iG F mk ss=[]/\F (aw<|az mk ss)=none)\/(iG F mk ss=[az mk ss]/\F (aw<|az mk ss)≠none):=by
 unfold iG;split<;>grind
end
end Go.Proofs.YtlgeloebpdmnnaaGreatDoor
