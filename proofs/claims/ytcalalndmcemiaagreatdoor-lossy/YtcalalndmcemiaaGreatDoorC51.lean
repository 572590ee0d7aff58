import Derived.Test.YtcalalndmcemiaaGreatDoorC47
import Derived.Test.YtcalalndmcemiaaGreatDoorC46
import Derived.Test.YtcalalndmcemiaaGreatDoorC49
set_option maxHeartbeats 8000000
set_option maxRecDepth 100000
namespace Go.Proofs.YtcalalndmcemiaaGreatDoor
open Go.RowKit Go.Maps Tryz Sc
section
open Go.Shelf
theorem YX{l:List Nat}(hb:kE l){p:Nat}(E:p<(str l).size):(str l)[p].toNat=at_ l p:=by
 have h:=kU hb;unfold bytesOf at h;have a:(l[p]?).getD 0=((str l).data.toList.map UInt8.toNat)[p]?.getD 0:=by rw[h]
 unfold at_;rw[List.getD_eq_getElem?_getD,a,zzy,zzg<|by simpa using E];rfl
theorem YY(l:List Nat)(p y m:Nat)(E:p<l.length)(h:m=l.length):(str l).extract 0 p++str [y]++(str l).extract (p+1) m=str (l.set p y):=by
 apply ByteArray.ext;apply Array.toList_inj.1;rw[ByteArray.data_append,ByteArray.data_append,ByteArray.data_extract,ByteArray.data_extract,ml,ml,ml,vC l p y E,h];simp[List.extract,List.map_take,List.map_drop];rw[zzt bR]
section
variable{w:World}{B K:Nat}{I:List Nat}{c:aU}{co:List bt}{ss:List (ag × List bt)}{O:List (List Nat)}{E i:Nat}
theorem YZ(h:jI w B I c co ss K O)(a:i<=ss.length)(u:I[i]?=some E):Calls prog 21 #[.pointer<|some ⟨E,0,none⟩] w λe w'=>e=.returned (.bool true)/\w'=w:=by
 cases i with
 |zero=>exact X4 h u
 |succ i=>exact kIs h (zzg a) u
end
section
variable{J w:World}{B G n K:Nat}{U:Value}{I:List Nat}{A:aB}{x:bt}{k:Nat}
theorem F1(a b c:Int)(a':bJ J w B G n K U I A)(ha:ly a)(hb:ly b)(hc:ly c)(gT:A.bC.length<=60000000)(hk:k=mq a A.bC.length)(hx:A.bC[k]?=some x)(C:x.Ok)(hn:n=A.ss.length)(hB:2<=B)(bp:Met J)(aH:bI J)(rX:n<=90):
  Calls prog 55 #[cQ G,o0 14 a b c] w λe w'=>e=.returned (.bool true)/\bJ J w' B G n (K+1) U I A:=by
 obtain⟨dv,bv,ov,fl,ps,hL⟩:=a'.l;obtain⟨D,hD⟩:∃D,D=A.bC.length:=⟨_,rfl⟩;rw[<-hD]at gT hk;have b4:k<D:=by rw[hD];exact(zzd.1 hx).1
 obtain⟨t,s,Ua,b3⟩:∃t s,bv=.slice (some ⟨t,0,none⟩) D s/\D<=s:=by
  rcases hL.law.bg.2 with⟨e,e2⟩|⟨g,az,b2,e,-,-,Y8,-⟩
  .omega
  .exact⟨g,az,by rw[hD];exact e,bL⟩
 subst Ua;have pL:=λw'=>eU a D w' ha.1 (by have:=ha.2;omega) bL bL
 rw[<-hk]at pL;obtain⟨W,u⟩:∃W,W=w.alloc (iV 14 a b c):=⟨_,rfl⟩;have gG:Fr [] w W:=by rw[u];exact(lT w).alloc _
 have mP:W.heap[w.heap.size]?=some (iV 14 a b c):=by rw[u];exact heap_alloc_new w _
 have P:=hL.new gG;have r:=ae P.law.net 2;have Q:=ae mP 1;simp at r Q;have DI:=af pL;have Z:=af<|zzb P mP;have D0:¬(D:Int)=0:=bL
 have j0:(0:Int)<=k:=bL;have j1:(k:Int)<D:=bL;rw[u]at r Q;have HX:=af<|zzb hx hD;obtain⟨h,H,rfl,-⟩:=P.Dh hn;have N:=af hn;have a7:=af<|zzb bp aH;clear hn bp aH;clear a' hL hk hx hD pL gG mP P ha
 go_enter func55,ntmps55
 go_wp2_with fail;rw[<-u];rw[<-u]at r Q;clear u
 go_region_held3 (λw'=>w'.cell? ⟨G,2,none⟩=some (.slice (some ⟨t,0,none⟩) D s)/\w'.cell? ⟨w.heap.size,1,none⟩=some (.int .i64 a)) (simp[*])
  (first|(go_at_call 10;refine(DI.out _).mono ?_;rintro e w3 ⟨rfl,rfl⟩))
 have d:=af<|zzb (Z.1.new (lT W).drew)<|show W.drew.heap[w.heap.size]?=some (iV 14 a b c)from Z.2;generalize W.drew=W2 at d ⊢;clear r Q D0 DI Z;have r:=ae d.1.law.net 2;have bk:W2.cell? ⟨t,k,none⟩=some (.string<|str x.bytes):=dC d.1.law.bg rfl (by unfold eJ;rw[zzy,HX.1];rfl);have s0:=ae d.2 0;have R:=ae d.2 2;have s3:=ae d.2 3;have s4:=ae d.2 4;have s5:=ae d.2 5;have s6:=ae d.2 6;have s7:=ae d.2 7;simp at r s0 R s3 s4 s5 s6 s7;have X:=λw'=>eU c 15 w' hc.1 (by have:=hc.2;omega) bM bM
 have su:=λw'=>eU b 8 w' hb.1 (by have:=hb.2;omega) bM bM
 have⟨p,E⟩:=gb <|mq c 15;have⟨q,hq⟩:=gb <|mq b 8;rw[<-E]at X;rw[<-hq]at su;have Y0:p<15:=by rw[E];exact gD _ _ bM
 have ab:q<8:=by rw[hq];exact gD _ _ bM
 have a6:(str x.bytes).size=15:=by rw[cR];exact x.eP
 have Q5:=af su;clear E hq su hb hc;go_wp2_with fail;refine(X _).mono ?_;rintro e w4 ⟨rfl,e4⟩;rw[e4];clear e4 X;have⟨y,L⟩:=gb <|at_ x.bytes p^^^2^q;have S4:at_ x.bytes p<256:=pU C.Ie p;have ad:y<256:=by rw[L];exact BU _ _ S4<|CY q ab
 have al:y≠at_ x.bytes p:=λe=>by
  rw[L]at e;have h0:=TF (at_ x.bytes p) (2^q) 0 (by rw[e,Nat.xor_zero]);have:=Nat.pow_pos (n:=q) (show 0<2 by decide);omega
 have a8:=TJ (at_ x.bytes p) q S4 ab;rw[<-L,<-YX C.Ie (by rw[a6];exact Y0)]at a8;have a1:∀F:World,F.heap[W2.heap.size]?=some (.cells #[.int .u8 (y:Int)] 5)->(convert 88 9<|.slice (some ⟨W2.heap.size,0,none⟩) 1 1).run prog F=.ok (.string<|str [y]) F:=λF b0=>by
  refine jN F W2.heap.size 0 1 1 [y] rfl λi hi=>?_;have aI:i=0:=by simp at hi;omega
  subst aI;simp[World.cell?,b0,at_]
 have ao:=a1 (W2.alloc<|.cells #[.int .u8 (y:Int)] 5).drew<|heap_alloc_new W2 _;have av:=a1 (W2.alloc<|.cells #[.int .u8 (y:Int)] 5)<|heap_alloc_new W2 _;have p0:(0:Int)<=p:=bL
 have p1:(p:Int)<15:=bL;have p2:(p:Int)<=15:=bL;have p3:(p:Int)+1<=15:=bL;have p4:(0:Int)<=p+1:=bL;have p5:((p:Int)+1).toNat=p+1:=bL;have z1:((str x.bytes).extract 0 p).size=p:=by rw[ByteArray.size_extract,a6];omega
 have z2:(str [y]).size=1:=rfl;have z3:((str x.bytes).extract (p+1) 15).size=14-p:=by rw[ByteArray.size_extract,a6];omega
 have z4:¬9223372036854775807<p+1:=bL;have z5:¬9223372036854775807<p+1+(14-p):=bL;have T:=λo=>jY R o
 have pw:IntKind.i64.wrap ((p:Int)+1)=(p:Int)+1:=dL;have Y:=af<|zzb ad al;clear L S4 ad al a1;go_wp2_with fail;refine wp_region_held_drew (S:=λw'=>w'.cell? ⟨w.heap.size,2,none⟩=some (.int .i64 b)) dJ (by exact R) (λj=>?_);refine tkH 0 ?_;refine tkH 1 ?_;refine tkH 2 ?_;refine tkH 3 ?_;refine tkH 4 ?_;refine tkH 5 ?_;refine tkH 6 ?_;refine tkH 7 ?_;refine tkH 15 ?_;refine tkH 16 ?_;refine tkH 17 ?_;refine tkH 18 ?_
 (try simp only[Act.put,mA,mC,mI]);refine wpAnyH_ready (rs:=[8]) dJ (by simp) ?_;refine ryC (λK f=>?_) AllReadyH.nil;go_simp;refine(Q5.out _).mono ?_;rintro e w5 ⟨rfl,rfl⟩;refine f.out _ _ ?_ λj=>?_
 .first|exact j|exact T _|(simp[*];done)
 clear f K;(try simp only[Act.put,mA,mC,mI]);refine tkH 9 ?_;refine tkH 10 ?_;refine tkH 11 ?_
 (try simp only[Act.put,mA,mC,mI])
 refine wpAnyH_ready (rs:=[12]) dJ (by simp) ?_;refine ryC (λK f=>?_) AllReadyH.nil;go_simp;refine f.out _ _ ?_ λj=>?_
 .first|exact j|exact T _|(simp[*];done)
 clear f K
 (try simp only[Act.put,mA,mC,mI])
 refine wpAnyH_ready (rs:=[13]) dJ (by simp) ?_;refine ryC (λK f=>?_) AllReadyH.nil;go_simp;refine f.out _ _ ?_ λj=>?_
 .first|exact j|exact T _|(simp[*];done)
 clear f K;(try simp only[Act.put,mA,mC,mI]);refine tkH 14 ?_;refine tkH 19 ?_;refine tkH 20 ?_;(try simp only[Act.put,mA,mC,mI]);refine wpAnyH_done dJ ?_ _;rw[YY x.bytes p y 15 (by rw[x.eP];exact Y0) x.eP.symm];have⟨lb,pE⟩:=gb <|x.bytes.set p y;rw[<-pE];have Y1:Fr [] W2 (W2.alloc<|.cells #[.int .u8 (y:Int)] 5).drew:=((lT W2).alloc _).drew;generalize (W2.alloc<|.cells #[.int .u8 (y:Int)] 5).drew=W3 at Y1 ⊢;have zO:=af<|d.1.new Y1
 have HB:Hid (lb.length=15/\kE lb/\js lb=false):=by
  rw[pE];exact⟨by rw[List.length_set];exact x.eP,λz hz=>(List.mem_or_eq_of_mem_set hz).elim (C.Ie z) λe=>by rw[e];exact Y.1,Ri C Y0 Y.1 Y.2⟩
 clear pE Y1 a8 ao av p2 p3 p4 p5 z1 z2 z3 z4 z5 T pw r bk s0 R s3 s4 s5 s6 s7 Y Q5 d C j;go_wp2_with fail;go_loopw [9,10,11] (λi _ _ wr=>∃m:Nat,m<=n+1/\i=.int .i64 (m:Int)/\Hid (oh J wr B G n K (.slice (some ⟨h,0,none⟩) (n+1) H) dv (.slice (some ⟨t,0,none⟩) D s) ov fl I ps A)) (λi _ _ _=>n+1-(intOf i).toNat)
 case atStart=>exact⟨0,zzs _,rfl,zO.out⟩
 case round=>
  obtain⟨m,hm,rfl,M⟩:=hrel;have n4:=ae M.out.law.net 4;simp at n4;by_cases uj:m<=n
  .obtain⟨l,Ng⟩:∃l,I[m]?=some l:=⟨_,zzg<|by have:=M.out.b.ln;have:=N.out;omega⟩;have⟨g6,c6,Uo,eN⟩:=M.out.Dh N.out
   cases Uo;have C3:=eN m l Ng;have n0:=ae M.out.law.net 0;simp at n0 C3;have i0:(0:Int)<=m:=bL;have i1:(m:Int)<=n:=bL;have i2:(m:Int)<n+1:=bL;have⟨O,zN⟩:=M.out.oZ;have aa:=YZ zN (by have:=N.out;omega) Ng;have Iw:∀w',Fr [] wr w'->Calls prog 72 #[.pointer<|some ⟨l,0,none⟩,.string<|str lb,fy (-1) (-1) 0 0] w' λe an=>e=.returned (.int .i64 2)/\oh J an B G n K (.slice (some ⟨h,0,none⟩) (n+1) H) dv (.slice (some ⟨t,0,none⟩) D s) ov fl I ps A:=λw' aQ=>by
    have tC:=M.out.new aQ;have⟨Br,aw⟩:=tC.oZ;obtain⟨uj,-⟩:=tC.met hB a7.1 a7.2;refine(adB lb HB.1 HB.2.1 HB.2.2 aw (by have:=N.out;omega) Ng hB uj).mono ?_;rintro e an ⟨rfl,E⟩;exact⟨rfl,tC.node (A':=A) E rfl rfl rfl⟩
   have Nb:=af Iw;have HE:=af<|zzb Ng<|zzb (zza.1 M.out.law.net).1 (M.out.law.hs.lt h rfl).2;clear Iw zN Ng eN;go_wp2_with fail;refine aa.mono ?_;clear aa;rintro e w5 ⟨rfl,e5⟩;rw[e5];clear e5;go_wp2_with fail
   go_region_held3 (λw'=>w'.cell? ⟨G,0,none⟩=some (.slice (some ⟨h,0,none⟩) (n+1) H)/\w'.cell? ⟨h,m,none⟩=some (cQ l)) (simp[*])
    (first|(go_at_call 12;refine(qF _).mono ?_;rintro e v ⟨rfl,dW⟩;have V:Fr [] wr v:=Fr.trans (by first|exact cw (lT wr) _|exact(lT wr).drew|exact lT wr) dW;have b5:v.cell? ⟨G,0,none⟩=some (.slice (some ⟨h,0,none⟩) (n+1) H):=(zze (a:=⟨G,0,none⟩)<|V.block G HE.2.1 bR).trans n0;have b1:v.cell? ⟨h,m,none⟩=some (cQ l):=(zze (a:=⟨h,m,none⟩)<|V.block h HE.2.2 bR).trans C3;have Um:=af V;clear dW V)|(go_at_call 72;refine(Nb.out _<|Um.out.trans<|by first|exact cw (lT v) _|exact(lT v).drew|exact lT v).mono ?_;rintro e w7 ⟨rfl,zM⟩;(have⟨g7,c7,Qu,qI⟩:=zM.Dh N.out);cases Qu;have aE:=qI m l HE.1;have Gh:=ae zM.law.net 0;simp at Gh aE;have H7:=af zM;clear zM qI))
   go_wp2_with fail;go_roundw;case rel=>exact⟨m+1,bL,eR,H7.out⟩
   case measure=>simp[intOf];omega
  .have i1:¬(m:Int)<=n:=bL;have H9:=af<|M.out.b.up<|zzC K;go_wp2_with fail;go_ret;exact⟨rfl,H9.out⟩
end
end
variable{K i q:Nat}
theorem Dn:∀(k n:Nat),n<10^(k+1)->(lI n).length<=k+1
 |0,n,h=>by rw[mW<|by simpa using h];simp
 |k+1,n,h=>by
  rw[lI];split
  .simp
  .rw[zzi];have:=Dn k (n/10) (by rw[Nat.div_lt_iff_lt_mul bM];rw[Nat.pow_succ]at h;exact h);simp;omega
theorem Ra{t m:Nat}(h:t<1000000000)(f:m<=1000000):(DJ t m).size<=200:=by
 have e:(10:Nat)^(9+1)=10000000000:=rfl;have a:=Dn 9 t bL;have b:=Dn 9 m bL;have c:(⟨#[116]⟩:ByteArray).size=1:=rfl;have d:(⟨#[46]⟩:ByteArray).size=1:=rfl;unfold DJ;rw[ByteArray.size_append,ByteArray.size_append,ByteArray.size_append,cR,cR];omega
def YU(y:Nat × ByteArray × ByteArray):Prop:=(∃c,c<5/\y.2.1=eV c)/\y.2.2.size<=200
def MI(j:Nat)(x:aS):Prop:=(∀y∈x.writes,YU y)/\∀q∈x.seq,q<=j
structure Gw(j:Nat)(A:aB):Prop where
 ms:A.all.length<=200*j
 ds:∀x∈A.ds,MI j x
section
variable{A A1 E:aB}{j k:Nat}{x x':aS}
theorem MI.up(h:MI j x):MI (j+1) x:=⟨h.1,λq a=>Nat.le_succ_of_le<|h.2 q a⟩
theorem dP(A:aB):A.all.length=A.bC.length+A.co.length+A.c.out.length+(A.ss.flatMap (·.2)).length:=by
 unfold aB.all cY;rw[zzi,zzi,zzi,zzn];omega
theorem lV{s s':ag×List bt}:∀{l:List (ag×List bt)} {i:Nat},l[i]?=some s->((l.set i s').flatMap (·.2)).length+s.2.length=(l.flatMap (·.2)).length+s'.2.length
 |[],_,h=>by simp at h
 |y::l,0,h=>by
  simp at h;subst h;rw[List.set_cons_zero,List.flatMap_cons,List.flatMap_cons,zzi,zzi];omega
 |y::l,i+1,h=>by
  have:=lV (s':=s') (l:=l) (i:=i) (by simpa using h);rw[List.set_cons_succ,List.flatMap_cons,List.flatMap_cons,zzi,zzi];omega
theorem wT.src{r:List (Nat×Nat)}{ds K:List aS}{ord D:List Nat}(h:wT r ds ord K D):∀y∈K,∃x∈ds,y.writes=x.writes/\y.seq=x.seq:=by
 induction h with
 |nil ds ord=>exact λy a=>⟨y,a,rfl,rfl⟩
 |cons _ _ _ _ _ ih=>
  intro y a;have⟨z,f,e,b⟩:=ih y a;have⟨k,c⟩:=zzB.1 f;obtain⟨x,d,-,q,-,g,-⟩:=n9 c;exact⟨x,zzh d,e.trans q,b.trans g⟩
theorem Gw.look(h:Gw j A1)(l:Looks A1 E):Gw j E:=by
 refine⟨?_,λy a=>?_⟩
 .have e:E.all=A1.all:=by rw[l.eq];rfl
  rw[e];exact h.ms
 .obtain⟨x,hx,e1,e2⟩:=l.ok.res.src y a;have:=h.ds x hx;unfold MI at this ⊢;rw[e1,e2];exact this
theorem Gw.same(h:Gw j A)(e:A1.ds=A.ds)(m:A1.all.length<=A.all.length+200):Gw (j+1) A1:=⟨by have:=h.ms;omega,λx a=>by rw[e]at a;exact(h.ds x a).up⟩
theorem Gw.set(h:Gw j A)(x:MI (j+1) x')(e:A1.ds=A.ds.set k x')(m:A1.all.length<=A.all.length+200):Gw (j+1) A1:=⟨by have:=h.ms;omega,λy a=>by
 rw[e]at a;obtain q|q:=List.mem_or_eq_of_mem_set a
 .exact(h.ds y q).up
 .rw[q];exact x⟩
theorem Gw.add(h:Gw j A)(x:MI (j+1) x')(e:A1.ds=A.ds++[x'])(m:A1.all.length<=A.all.length+200):Gw (j+1) A1:=⟨by have:=h.ms;omega,λy a=>by
 rw[e]at a;obtain q|q:=zzo.1 a
 .exact(h.ds y q).up
 .simp at q;rw[q];exact x⟩
theorem MI.seq(h:MI j x)(i:Nat){q:Nat}(b:q<=j):MI (j+1) {x with seq:=x.seq.set i (q+1)}:=⟨h.1,λz a=>by
 obtain e|e:=List.mem_or_eq_of_mem_set a
 .exact Nat.le_succ_of_le<|h.2 z e
 .omega⟩
theorem MI.op(h:MI j x)(i:Nat){q:Nat}(a:q<=j){ws:List (Nat×ByteArray×ByteArray)}(w:∀y∈ws,YU y):MI (j+1) {x with writes:=x.writes++ws,seq:=x.seq.set i (q+1)}:=⟨λy b=>(zzo.1 b).elim (h.1 y)<|w y,(h.seq i a).2⟩
theorem Rb(c:aU)(t:Nat):(c.iR t).out.length<=c.out.length+9:=by
 unfold aU.iR;split
 .omega
 .show(c.out++_).length<=_;rw[zzi,zzn];have:=ib (q:=u_) (ps:=(c.tx t).parts);omega
theorem Rc(c:aU)(t:Nat)(zs:List Int):(c.dD t zs).out.length<=c.out.length+9:=by
 unfold aU.dD;split
 .show(c.out++_).length<=_;rw[zzi,zzn];have:=ib (q:=l_) (ps:=(ch (zs.map Int.toNat) 1));omega
 .omega
theorem MJ(c:aU)(t k v:Nat):(c.kT t k v).out.length<=c.out.length+9:=by
 unfold aU.kT;split
 .omega
 .split
  .show(c.out++_).length<=_;rw[zzi,zzn];have:=ib (q:=u_) (ps:=((c.tx t).parts.set k 3));omega
  .split
   .show c.out.length<=_;omega
   .split
    .show(c.out++_).length<=_;rw[zzi,zzn];have:=ib (q:=jf) (ps:=((c.tx t).parts.set k v));simp only[];omega
    .show c.out.length<=_;omega
theorem Re(c:aU)(t k:Nat):(c.kn t k).out=c.out:=by
 unfold aU.kn;split
 .rfl
 .split<;>rfl
theorem Uq(c:aU)(y:Nat×fe):(c.cU y).out.length<=c.out.length+9:=by
 unfold aU.cU;have m:=ib (q:=l_) (ps:=(c.tx y.1).parts);have a:=ib (q:=jf) (ps:=(c.tx y.1).parts);have b:=ib (q:=u_) (ps:=(c.tx y.1).parts);split
 .split
  .show(c.out++_).length<=_;rw[zzi,zzn];omega
  .show(c.out++_).length<=_;rw[zzi,zzn];omega
 .split
  .show(c.out++_).length<=_;rw[zzi,zzn];omega
  .omega
theorem Ky:∀(l:List<|Nat×fe) (c:aU),(l.foldl aU.cU c).out.length<=c.out.length+9*l.length
 |[],c=>bR
 |y::l,c=>by
  rw[List.foldl_cons,zzr];have:=Ky l<|c.cU y;have:=Uq c y;omega
theorem Rf(c:aU)(h:c.ai.length<=12):c.tick.out.length<=c.out.length+108:=by
 have a:=Ky (qY c.ai<|iw c.ai) {c with aC:=c.aC+1}
 have b:(qY c.ai<|iw c.ai).length<=12:=by
  unfold qY;have p:(iw c.ai).Perm (c.ai.map (·.1)):=List.mergeSort_perm _ _;rw[zzn,p.length_eq,zzn];exact h
 have d:c.tick.out.length<=c.out.length+9*(qY c.ai<|iw c.ai).length:=a;omega
theorem Rg(A:aB)(m:bt):(A.recv m).all.length<=A.all.length+10:=by
 unfold aB.recv;split
 .rw[dP,dP];show A.bC.length+(gj A.c A.co m).2.length+(gj A.c A.co m).1.out.length+(A.ss.flatMap (·.2)).length<=_;have h:=Bw A.c A.co m;have a:(gj A.c A.co m).1.out.length<=A.c.out.length+9:=by
   unfold gj;split
   .show(A.c.kn _ _).out.length<=_;rw[Re];omega
   .split
    .show A.c.out.length<=_;omega
    .exact MJ _ _ _ _
  omega
 .rename_i i _;split
  .omega
  .rename_i s hs;rw[dP,dP];have h:=Bv (i+1) s.1 s.2 m;have a:=lV (s':=fE (i+1) s.1 s.2 m) hs;show A.bC.length+A.co.length+A.c.out.length+((A.ss.set i<|fE (i+1) s.1 s.2 m).flatMap (·.2)).length<=_;omega
theorem Ur(l:List bt)(k:Nat):(Di l k).length<=l.length:=by
 unfold Di;rw[zzi,zzm,zzz];omega
theorem Us{l:List bt}{k:Nat}{m:bt}(h:m∈Di l k):m∈l:=by
 unfold Di at h;obtain e|e:=zzo.1 h
 .exact List.mem_of_mem_take e
 .exact List.mem_of_mem_drop e
theorem Ut(A:aB)(kd c:Int)(k:Nat)(m:bt):(uv A kd c k m).all.length<=A.all.length+10:=by
 have h:(rJ A kd c k).all.length<=A.all.length:=by
  unfold rJ;split
  .rw[dP,dP];have:=Ur A.bC k;show(Di A.bC k).length+A.co.length+A.c.out.length+(A.ss.flatMap (·.2)).length<=_;omega
  .exact zzc _
 unfold uv;split
 .omega
 .have:=Rg (rJ A kd c k) m;omega
theorem Dp(A:aB)(i:Nat):(A.ss[i]?=none/\A.send (i+1)=A/\A.outs (i+1)=[])\/∃s,A.ss[i]?=some s/\A.send (i+1)={A with bC:=A.bC++s.2,ss:=A.ss.set i (s.1,[])}/\A.outs (i+1)=s.2:=by
 simp only[aB.send,aB.outs];cases A.ss[i]? with
 |none=>exact .inl ⟨rfl,rfl,rfl⟩
 |some s=>exact .inr ⟨s,rfl,rfl,rfl⟩
theorem Rh(A:aB)(i:Nat):(A.send i).all.length=A.all.length/\A.bC.length+(A.outs i).length<=A.all.length:=by
 cases i with
 |zero=>
  rw[dP,dP];show(A.bC++(A.co++cY A.c.out)).length+0+0+(A.ss.flatMap (·.2)).length=_/\A.bC.length+(A.co++cY A.c.out).length<=_;unfold cY;rw[zzi,zzi,zzn];omega
 |succ i=>
  rcases Dp A i with⟨-,e,a⟩|⟨s,hs,e,a⟩
  .rw[e,a];refine⟨rfl,?_⟩;rw[dP];show A.bC.length+0<=_;omega
  .have h2:=lV (s':=(s.1,[])) hs;have h:=lV (s':=s) hs;rw[e,a,dP,dP];simp only[List.length_nil]at h2;show(A.bC++s.2).length+A.co.length+A.c.out.length+((A.ss.set i (s.1,[])).flatMap (·.2)).length=_/\_;rw[zzi];omega
theorem Uu(h:Jv A)(i:Nat):∀m∈A.outs i,m.Ok:=λm a=>(h.ms m (by
 unfold aB.all;cases i with
 |zero=>exact List.mem_append_left _<|List.mem_append_right _ a
 |succ i=>
  rcases Dp A i with⟨-,-,e⟩|⟨s,hs,-,e⟩
  .rw[e]at a;cases a
  .rw[e]at a;exact List.mem_append_right _ (List.mem_flatMap.2 ⟨s,zzh hs,a⟩))).1
theorem BP{β:Type}[DecidableEq β]:∀(s l:List β),l.Nodup->(∀x∈l,x∈s)->l.length<=s.length
 |[],[],_,_=>zzc _
 |[],x::l,_,h=>absurd (h x<|List.mem_cons_self ..) bR
 |k::s,l,hn,h=>by
  have a:=BP s (l.erase k) (hn.erase k) (λx b=>by
   have q:=(hn.mem_erase_iff).1 b;rcases zzj.1 (h x q.2)with e|e
   .exact absurd e q.1
   .exact e)
  rw[zzr];by_cases e:k∈l
  .rw[List.length_erase_of_mem e]at a;omega
  .rw[List.erase_of_not_mem e]at a;omega
theorem YV{K i:Nat}{s:ag×List bt}(J:Jv A)(g:Gw j A)(hs:A.ss[i]?=some s)(S:cz K s.1):ZD s.1:=by
 have b:∀y∈s.1.aM,(∃c,c<5/\y.1=eV c)/\y.2.size<=200:=λy h=>by
  have:=J.val i s hs y h;unfold eK at this;obtain⟨o,-,a⟩:=List.any_eq_true.1 this;unfold wrote at a;split at a
  .cases a
  .rename_i x hx;have⟨z,l,e⟩:=List.any_eq_true.1 a;have e:=of_decide_eq_true e;subst e;exact(g.ds x<|zzh hx).1 _ l
 refine⟨?_,λy h=>⟨?_,(b y h).2⟩⟩
 .have:=BP [eV 0,eV 1,eV 2,eV 3,eV 4] (s.1.aM.map (·.1)) (vq S.once.1) (λk f=>by
   obtain⟨y,h,rfl⟩:=zzq.1 f;obtain⟨⟨c,d,e⟩,-⟩:=b y h;rw[e];rcases (by omega:c=0\/c=1\/c=2\/c=3\/c=4)with rfl|rfl|rfl|rfl|rfl<;>simp)
  rw[zzn]at this;exact this
 .obtain⟨⟨c,d,e⟩,-⟩:=b y h;rw[e];exact(ry c d).2
theorem zu{α:Type}(q:α->Bool):∀l:List α,l.length=(l.filter q).length+(l.filter λx=>!q x).length
 |[]=>rfl
 |x::l=>by
  have:=zu q l;rw[List.filter_cons,List.filter_cons,zzr];cases q x<;>simp<;>omega
theorem F0:∀(s:List Nat) {H:List ((Nat×ByteArray)×aK)},(∀p∈H,p.1.1∈s)->(∀t,(H.filter λp=>decide<|p.1.1=t).length<=4)->H.length<=4*s.length
 |[],[],_,_=>zzc _
 |[],p::H,h,_=>absurd (h p<|List.mem_cons_self ..) (by simp)
 |k::s,H,h,h4=>by
  have c:=F0 s (H:=H.filter λp=>!decide (p.1.1=k)) (λp b=>by
   have q:=zzp.1 b;have a:=q.2;simp at a;rcases zzj.1 (h p q.1)with e|e
   .exact absurd e a
   .exact e) (λt=>by
   rw[List.filter_filter];refine zzk ?_<|h4 t;refine(List.Sublist.length_le ?_);rw[<-List.filter_filter]
   exact List.Sublist.filter _ List.filter_sublist)
  have d:=zu (λp:(Nat×ByteArray)×aK=>decide<|p.1.1=k) H;have:=h4 k;rw[zzr];omega
theorem Uv{K:Nat}(S:∀(i:Nat) (s:ag×List bt),A.ss[i]?=some s->cz K s.1):Ue A:=λi s hs=>by
 have g:=S i s hs;refine⟨λt=>g.st t,?_⟩
 have:=F0 (s.1.ai.map (·.1)) (λp a=>by
  have h:=g.alive p a;unfold ag.aP ak at h;cases e:s.1.ai.find? λq=>decide (q.1=p.1.1)with
  |none=>rw[e]at h;exact absurd rfl h
  |some q=>
   have:=List.find?_some e;simp at this;rw[<-this];exact List.mem_map_of_mem (List.mem_of_find?_eq_some e)) (λt=>g.cnt t)
 rw[zzn]at this;have:=g.len;omega
theorem Jv.abZ{n K i:Nat}{s:ag}{out:List bt}(h:Jv A)(hb:iB n A)(hn:n<500000)(hs:A.ss[i]?=some (s,out))(S:cz K s)(q:A.ss.length<=8):Looks {A with ss:=A.ss.set i (s.tick,out++ny (i+1) (gY s.tick))} {A with ss:=A.ss.set i (s.tick,out++ny (i+1) (gY s.tick))}/\Jv {A with ss:=A.ss.set i (s.tick,out++ny (i+1) (gY s.tick))}/\iB (n+1) {A with ss:=A.ss.set i (s.tick,out++ny (i+1) (gY s.tick))}:=by
 have k:=(zzd.1 hs).1;have b:∀u,(s.tick.aP u).state=(s.aP u).state\/(s.tick.aP u).state=0:=λu=>IW (λp a r f e=>S.once.2.1.same a f e) u
 refine h.Yr hb hn hs b rfl (λm d=>?_) (λp a=>(zzp.1 a).1) rfl;obtain⟨t,g,rfl⟩:=zzq.1 d;have o:=BI g;have c:(s.aP t).state≠0:=by obtain e|e:=b t<;>omega
 have U:=c;rw[<-o6 hs]at U;obtain⟨l,x,j,-⟩:=h.sh i t U;have:=(zzd.1 j).1;have:=hb.ds;exact⟨rfl,rfl,rfl,⟨by simp[eX];omega,by show t<_;omega⟩,c⟩
end
end Go.Proofs.YtcalalndmcemiaaGreatDoor
