import Derived.Test.YtlgeloebpdmnnaaGreatDoorC31
import Derived.Test.YtlgeloebpdmnnaaGreatDoorC35
import Derived.Test.YtlgeloebpdmnnaaGreatDoorC39
set_option maxHeartbeats 8000000
set_option maxRecDepth 100000
namespace Go.Proofs.YtlgeloebpdmnnaaGreatDoor
open Go.RowKit Go.Maps Tryz Sc
section
open Go.Shelf
structure xt(w:nL)(cp bT n:Nat)(c:bL):Prop where
 blk:w.heap[cp]?=some (ub 0 bT c (.slice none 0 0) (.slice none 0 0))
 aD:dV KU EX w bT n c.aD
 gw:c.next<2^64/\c.aH<2^64/\c.bw<2^64
 emp:c.res=[]/\c.out=[]
section
variable{w w':nL}{B cp bT n:Nat}{c:bL}
theorem xt.co(h:xt w cp bT n c)(l:B<=cp/\B<=bT/\B<=w.heap.size):a_ w B cp 0 bT n c:=
 ⟨⟨_,_,h.blk,by rw[h.emp.1];exact zzu _ _ _ _,by rw[h.emp.2];exact zzu _ _ _ _,by rw[h.emp.1];exact C7.nil _,by rw[h.emp.2];exact C7.nil _⟩,h.aD,l,h.gw⟩
theorem xt.keep(h:xt w cp bT n c)(hb:∀k∈[cp,bT],w'.heap[k]?=w.heap[k]?):xt w' cp bT n c:=by
 have⟨es,⟨e,c2,a,b⟩,r⟩:=h.aD;exact⟨(hb cp dv).trans h.blk,⟨es,⟨e,c2,(hb bT dv).trans a,b⟩,r⟩,h.gw,h.emp⟩
theorem xt.jS(h:xt w cp bT n c):cp<w.heap.size/\bT<w.heap.size/\cp≠bT:=by
 refine⟨(zza.1 h.blk).1,h.aD.lt,λe=>?_⟩;have⟨es,c2,a⟩:=h.aD.isMap;have:=h.blk;rw[e,a]at this;cases this
theorem xt.fr{S:List Nat}(h:xt w cp bT n c)(hf:Fr S w w')(b:cp∉S)(d:bT∉S):xt w' cp bT n c:=
 h.keep (λk a=>by
  simp at a;obtain rfl|rfl:=a
  .exact hf.block _ h.jS.1 b
  .exact hf.block _ h.jS.2.1 d)
end
theorem I'(n cp bT m p M:Nat)(c:bL)(w:nL)(h:xt w cp bT m c)(hf:g_ n w p<|be 8 M)(o:M<2^64)(x:c.aH<=M)(L:cp<n/\bT<n):
  Calls prog 214 #[gx cp,gx p] w λe w'=>e=.returned (.bool true)/\xt w' cp bT m {c with aH:=M}/\Fr [p,cp] w w':=by
 have hnum:=yj n p (be 8 M) w hf<|Nat.le_of_eq (ew 8 M).symm;have g:val ((be 8 M).take 8)=M:=by rw[zzt<|Nat.le_of_eq<|ew 8 M];exact py 8 M<|by simpa using o
 have l:=List.drop_of_length_le<|Nat.le_of_eq<|ew 8 M;rw[g,l]at hnum;have c3:=af h.blk 3;simp at c3;have N:=hf.low;have s:=ah h;have y:(c.aH:Int)<=(M:Int):=dp
 clear g l h hf;go_enter func214,ntmps214;go_wp2_with fail;apply hnum.mono;rintro e r ⟨rfl,cY,i⟩;have a:=s.out.fr i ef ef;have f:=af a.blk 3;have u:=aq a.blk 3;simp at f;have⟨W,j⟩:∃W,W=r.setCell ⟨cp,3,none⟩ (.int .u64 (M:Int)):=⟨_,rfl⟩;have H:Fr [cp] r W:=by rw[j];exact Fr.cG dv _ _
 have d:W.heap[cp]?=some (ub 0 bT {c with aH:=M} (.slice none 0 0)<|.slice none 0 0):=by
  rw[j];have:=aF a.blk 3<|.int .u64 (M:Int)
  simpa using this
 have q:xt W cp bT m {c with aH:=M}:=⟨d,a.aD.fr H<|by simpa using λe=>a.jS.2.2 e.symm,⟨a.gw.1,o,a.gw.2.2⟩,a.emp⟩;have B:=cY.fr H ef;have Z:=yl n p [] W B;simp only[List.length_nil,Nat.lt_irrefl,decide_false,Bool.not_false]at Z;have v:=af d 3;simp at v;have t:=ah (show xt W cp bT m {c with aH:=M}/\Fr [p,cp] w W from ⟨q,(i.mono λk _ b=>by simp at b;simp[b]).trans<|H.mono λk _ b=>by simp at b;simp[b]⟩);go_wp2_with fail;rw[<-j];clear j f u c3;apply Z.mono;clear Z;rintro e z ⟨rfl,rfl⟩;go_wp2;go_ret;exact⟨rfl,t.out⟩
def ints(l:List Nat):List Value:=l.map λx:Nat=>.int .i64 (x:Int)
theorem Qp(l:List Nat)(x:Nat):ints (l++[x])=ints l++[.int .i64 (x:Int)]:=by simp[ints]
theorem UN:(Tryz.prog.info? 3).map (λi=>(i.zero,i.size,i.bytes))=some (some<|.int .i64 0,1,8):=eu
theorem ints_at{w:nL}{B g p n:Nat}{l:List Nat}(h:w.ownsRow B 3 1 (.slice (some<|gi g) n p) n<|ints l):vB w g l:=λk x b=>by
 have a:(ints l)[k]?=some (.int .i64 (x:Int)):=by simp[ints,b]
 have:=h.cells rfl k _ a;simpa [Addr.add_lit]using this
theorem Ja(n cp bT m p t:Nat)(xs:List Nat)(c:bL)(w:nL)(a7:xt w cp bT m c)(hf:g_ n w p<|be 8 t++xs)(G:t<2^64)(h0:t≠0)(bW:t<c.aH)(cf:(c.tx t).state=0)(hr:j_ xs)(hm:m+1<maxLen)(lL:cp<n/\bT<n):
  Calls prog 215 #[gx cp,gx p] w λe w'=>e=.returned (.bool true)/\xt w' cp bT (m+1) {c with aD:=dt c.aD t ⟨6,cO xs 2,0,0⟩}/\Fr [p,bT] w w':=by
 have hnum:=yj n p (be 8 t++xs) w hf (by simp[ew]);have e1:val ((be 8 t++xs).take 8)=t:=by rw[List.take_left'<|by rw[ew]];exact py 8 t<|by simpa using G
 have e2:(be 8 t++xs).drop 8=xs:=List.drop_left' (by rw[ew]);rw[e1,e2]at hnum;have pN:=hf.low;have i0:¬(t:Int)=0:=dp
 have j0:=oT.2 i0;have i1:¬(c.aH:Int)<=(t:Int):=dp;have⟨q0,q1,q2,q3,q4,q5,q6,q7,q8,F⟩:=nine<|k_ xs 2;have P:Xm (cO xs 2)=.agg #[.int .u8 (q0:Int),.int .u8 (q1:Int),.int .u8 (q2:Int),.int .u8 (q3:Int),.int .u8 (q4:Int),.int .u8 (q5:Int),.int .u8 (q6:Int),.int .u8 (q7:Int),.int .u8 (q8:Int)]:=by rw[F];rfl
 have z_:=ah (λ(W:nL) (f:xt W cp bT m c)=>(by
  have⟨b,nY,PE,rO⟩:=f.aD.qV underlying192 dp G (DY xs 6 2 0 du);have i:=Fr.bI rO;refine⟨b,?_,⟨(i.block cp f.jS.1<|by simpa using f.jS.2.2).trans f.blk,PE,f.gw,f.emp⟩,i⟩;have e:(EX.ev ⟨6,cO xs 2,0,0⟩:Value)=lz ⟨6,cO xs 2,0,0⟩:=rfl;rw[e,F,bC,aT]at nY;exact nY:∃b,(Instr.mapUpdate 192 (.map (some bT)) (.int .u64 (t:Int)) (.agg #[.int .i64 6,.int .u8 (q0:Int),.int .u8 (q1:Int),.int .u8 (q2:Int),.int .u8 (q3:Int),.int .u8 (q4:Int),.int .u8 (q5:Int),.int .u8 (q6:Int),.int .u8 (q7:Int),.int .u8 (q8:Int),.int .u64 0,.nilIface])).run prog W=.ok () b/\xt b cp bT (m+1) {c with aD:=dt c.aD t ⟨6,cO xs 2,0,0⟩}/\Fr [bT] W b))
 have HL:=ah P;have H0:=ah a7;have R:=ah hr;have⟨ii,hi,ad,ae,ag⟩:=tO UN;go_enter func215,ntmps215;go_wp2_with fail;apply hnum.mono;rintro e z ⟨rfl,cY,yi⟩;have A:=H0.out.fr yi ef ef;have L:=ke 0 cp 0 bT m t c z (A.co ⟨zzs _,zzs _,zzs _⟩) G;rw[cf]at L;have c3:=af A.blk 3;simp at c3;have C:=ah<|show xt z cp bT m c/\g_ n z p xs/\Fr [p] w z from ⟨A,cY,yi⟩;have al:=A.jS;have an:=cY.XK.lt;go_wp2_with fail;apply L.mono;rintro e w2 ⟨rfl,lI⟩;subst lI;go_wp2;have aa:=zY dp;rw[aa]
 go_loopw [6] (λv6 wr=>∃s zs,Hid<|xs=s++zs/\g_ n wr p zs/\wr.ownsRow w2.heap.size 3 1 v6 s.length (ints s)/\Fr [p] w2 wr) (λ_ wr=>Fh wr p);.exact⟨[],xs,rfl,C.2.1,zzu _ _ _ _,Fr.refl _ _⟩
 .have⟨s,zs,X⟩:=hrel;have Z:=Im n p zs wr X.2.1;have ay:s.length<=8:=by have:=R.out.len;rw[X.1,zzi]at this;omega
  cases zs with
  |nil=>
   have D:=yl n p [] wr X.2.1;simp only[List.length_nil,Nat.lt_irrefl,decide_false,Bool.not_false]at Z D;have C3:s=xs:=by rw[X.1];simp
   have o:=X.2.2.1;rw[C3]at o;have⟨g,a1,ab⟩:=eQ o<|zzE.2 R.out.ne;subst ab;have Y:=ints_at o;have S:=Ih g a1 xs R.out wr Y;have a':=zq g a1 2 xs R.out wr.drew Y;rw[HL.out]at a';have y:=C.1.fr X.2.2.2 ef ef;have c1:=af y.blk 1;simp at c1;have M:=ah<|show xt wr cp bT m c/\Fr [p] w wr from ⟨y,C.2.2.trans X.2.2.2⟩;have eL:=y.jS;go_wp2_with fail;apply Z.mono;rintro e w4 ⟨rfl,NB⟩;subst NB;go_wp2_with fail;apply D.mono;rintro e b ⟨rfl,Rn⟩;subst Rn;go_wp2_with fail;apply S.mono;rintro e d ⟨rfl,hw6⟩;subst hw6;go_wp2
   go_region_held3 (λw'=>w'.cell? ⟨cp,1,none⟩=some (.map<|some bT))
    (simp[*])
    (first|(go_at_call 196;apply a'.mono;rintro e B ⟨rfl,lU⟩;have z1:=(zze<|lU.block cp eL.1 dv).trans c1;have J:=(M.1.fr (fU _).drew dv dv).fr lU dv dv;obtain⟨w8,NN,a8,E⟩:=z_.out B J;have y1:=(zze (a:=⟨cp,1,none⟩)<|E.block cp J.jS.1<|by simpa using eL.2.2).trans z1;have H:=ah<|zzb a8<|zzb lU E;clear a8 lU E J))
   go_wp2;go_ret;refine⟨rfl,H.1,?_⟩;have k1:Fr [p,bT] w d:=M.2.mono (λk _ h=>by simp at h;simp[h]);have k2:Fr [p,bT] d B:=Fr.mono (⟨H.2.1.os,H.2.1.tape,H.2.1.output,H.2.1.size,H.2.1.block⟩:Fr [] d B) (by simp);have k3:Fr [p,bT] B w8:=H.2.2.mono (λk _ h=>by simp at h;simp[h]);exact(k1.trans k2).trans k3
  |cons x zs=>
   have zU:decide (0<(x::zs).length)=true:=dv;rw[zU]at Z;have ax:=R.out.b x (by rw[X.1];simp);have r:=Tq n p (x::zs) wr X.2.1 dv;simp only[List.take_succ_cons,List.take_zero,List.drop_succ_cons,List.drop_zero]at r;have ev:val [x]=x:=by simp[val]
   rw[ev]at r;have KV:=ah<|show Fh wr p=(x::zs).length from X.2.1.XK.len;have jx:IntKind.i64.wrap (x:Int)=x:=eD
   clear zU ev;go_wp2_with fail;refine Z.mono ?_;rintro e w4 ⟨rfl,NB⟩;subst NB;go_wp2_with fail;refine r.mono ?_;rintro e b ⟨rfl,i,ri⟩;have l:=ar X.2.2.1 ri (λg hg=>by have:=(X.2.2.1.lt g hg).1;simp;omega);have av:=X.2.2.2.size;have ao:=ri.size;have N:=ah<|show g_ n b p zs/\Fr [p] w2 b from ⟨i,X.2.2.2.trans ri⟩
   go_wp2_with (at_builtin;refine wpList_append_own _ rfl _ _ 38 rfl w2.heap.size 3 ii (.int .i64 0) 1 8 underlying38 hi ad ae ag rfl du _ s.length (ints s) rfl (l.alloc _) ⟨b.heap.size,0,none⟩ 1 1 [.int .i64 (x:Int)] rfl rfl (fV _ #[.int .i64 (x:Int)] _) (by intro u hu;simp at hu;subst hu;rfl) eE dp ef ?_)
   intro v' d V bK _;have K:=Fr.cA bK;have I:Fr [] b (b.alloc<|.cells #[.int .i64 (x:Int)] 3):=(fU b).alloc _
   have Q:g_ n d p zs:=(N.1.apart I dv).apart K (λk h=>by
    simp at h;obtain⟨cc,hc⟩:=aL (l.alloc _) h;refine⟨λe=>?_,λc2 fr e=>by rw[hc]at e;cases e⟩;have:=(l.lt k h).1
    omega)
   have U:=((N.2).andThen (I.mono dv) (λj q _=>q)).andThen K (λj q hl=>by
    simp at q;have:=(l.lt j q).1;omega)
   have O:=ah (show xs=(s++[x])++zs/\g_ n d p zs/\d.ownsRow w2.heap.size 3 1 v' (s++[x]).length (ints<|s++[x])/\Fr [p] w2 d from ⟨by rw[X.1];simp,Q,by rw[Qp,zzi];exact V,U⟩);go_wp2;go_roundw;.exact⟨s++[x],zs,O.out⟩
   .rw[O.2.1.XK.len,KV.out];simp
section
variable{w w':nL}{B E J I m O p h a n:Nat}{c:bL}{l:au}{d:aj}
theorem CL.C0(b:CL w B E J I m O p h a n c l d)(hf:mJ O p w w'):a_ w' B E J I m c:=by
 have U:=b.free;have⟨C,A,f,i,j,o,y⟩:=b.co.ex;have row:∀{e:TypeId} {k m:Nat} {v:Value} {xs:List Value},w.ownsRow B e k v m xs->(∀g,v.ownBlock=some g->g∈rd E w)->w'.ownsRow B e k v m xs:=λ{e k m v xs} s z=>⟨s.1,s.2.imp id λ⟨g,t,u,e,i,j,o⟩=>⟨g,t,u,e,i,(hf.block g (zza.1 j).1 (U g<|EL _<|z g<|by rw[e];rfl).1).trans j,o⟩⟩
 have T:dV KU EX w' I m c.aD:=by
  have W:=b.co.aD.lt;have⟨es,⟨x,c2,f,i⟩,r⟩:=b.co.aD;exact⟨es,⟨x,c2,(hf.block I W (U I dv).1).trans f,i⟩,r⟩
 exact⟨⟨C,A,(hf.block E b.co.jS.1 (U E dv).1).trans f,row i λg q=>by unfold rd Gz;rw[f];simp[q],row j λg q=>by unfold rd Gz;rw[f];simp[q],o,y⟩,T,⟨b.co.low.1,b.co.low.2.1,zzk b.co.low.2.2 hf.size⟩,b.co.gw⟩
end
theorem I7(n E:Nat)(w:nL):
  CallsIn Fence.wide n prog 191 #[gx E] w λe w'=>e=.returned (.func (.func 250) #[] #[gx w.heap.size])/\w'=w.alloc (.cells #[gx E] 68):=by
 refine callsIn_of_wp func191 rfl trivial ?_ rfl;simp only[ntmps191,ji,zzr,jn,Nat.reduceAdd,Nat.reduceSub,mK,jo,j7,j8,kV,lC];gi_wp2;go_ret;exact⟨rfl,rfl⟩
theorem I8{c:bL}{e:Nat×nS}(h:e∈vk c):e.1<126/\e.2.size<=255:=by grind[vk,pK,Bc,ew,nw,enX,DW,fG]
theorem Ys(c:bL):(vk c).length<=c.aD.length+1:=by
 unfold vk nw;rw[zzr,zzn];refine Nat.succ_le_succ<|zzk (Hm _ _) ?_;unfold wy jO;rw[zzn,List.length_mergeSort,zzn];exact zzc _
theorem adB(B E J I m O p h a n g:Nat)(c:bL)(l:au)(d:aj)(w:nL)(b:CL w B E J I m O p h a n c l d)(zV:c.aD.length<=12)(z:∀x∈c.aD,x.1<2^64)(uM:l.filled<600->l.segs≠[])(hn:n+3*((vk c).length+2)+2+g<=1000000000)(hcut:UF n g l d<|vk c)(u:2<=B)(M:dJ w):
  Calls prog 120 #[gx E] w λe w'=>e=.returned (bB (l.eV d<|(vk c).map yC).2.2)/\CL w' B E J I m O p h a (n+3*((vk c).length+2)+2+g) c (l.eV d<|(vk c).map yC).1 (l.eV d<|(vk c).map yC).2.1/\jJ E I O p w w':=by
 have vD:2<=w.heap.size:=by have:=b.co.low.2.2;omega
 obtain⟨a7,a1,S,-⟩:=b.co.ex;have r:=af S 0;simp at r;rw[kq b.PG]at r;have⟨W,f⟩:∃W,W=w.drew.alloc (.cells #[.pointer<|some ⟨E,0,none⟩] 68):=⟨_,rfl⟩;have i:Fr [] w W:=by rw[f];exact((fU w).drew).alloc _
 have⟨k,o⟩:=b.new i;have⟨pv,Z,Y,U,V,j⟩:=k.lg;have v:W.heap[nF w]?=some (.cells #[.pointer<|some (gi E)] 68 (0,0)):=by rw[f];exact oz w.drew _
 have Q:∀A,mJ O p W A->a_ A B E J I m c/\A.heap[nF w]?=some (.cells #[.pointer<|some (gi E)] 68 (0,0)):=λA t=>⟨k.C0 t,(t.kpo j).same _ _ v rfl⟩
 have N:=(yY).1 (adz 16 (zzc _) B J O p h a n U V g 250 #[.pointer (some ⟨w.heap.size,0,none⟩)] pv Z Y l d (vk c) _ W k.qD j u (by have:=i.size;omega) uM ((o.kO b).p_ u M) (enters_of func250 eu rfl) (λe R=>(I8 R).1) Q
  (λl' T L K y=>I4 15 dp l' T (nF w) B E J I m c L K y.2 y.1 zV z) hn hcut)
 have P:=(yY).1<|I7 1 E w.drew;obtain⟨gM,iJ,C,-⟩:=k.co.ex;have s:=af C 0;simp at s;rw[kq b.PG]at s;have X:Hid (CL W B E J I m O p h a n c l d/\jJ E I O p w W):=⟨k,o⟩;clear b k o j v i Q hcut S C z
 go_enter func120,ntmps120;go_wp2;go_region_held3 (λw'=>w'.cell? (gi E)=some (.pointer<|some (gi J))) (simp[*])
  (first
   |(go_at_call 191;apply P.mono;rintro e w1 ⟨rfl,mR⟩;rw[<-f]at mR;subst mR;clear f)
   |(go_at_call 189;apply N.mono;rintro e w2 ⟨rfl,eL,ik⟩;have⟨q,F⟩:=X.1.log ik eL;(obtain⟨J8,uX,D,-⟩:=q.co.ex);have G:=af D 0;simp at G;rw[kq q.PG]at G;have H:=ah (zzb q (X.2.trans F));clear q F eL ik D))
 all_goals
  (go_wp2
   go_ret;exact⟨rfl,H.1,H.2⟩)
end
variable{a:Array Value}{kd:Int}{k:Nat}
theorem BX(kd:Int)(hp p h O:Nat)(pv u v:Value)(up dn:Bool)(l f a b c k:Int)(w:nL)(i:w.heap[hp]?=some (lZ kd p up u v))(g:w.heap[p]?=some (lH h O pv l f dn)):
  Calls prog 27 #[gx hp,kS a b c k] w λe w'=>e=.returned (.tuple #[])/\w'.heap[p]?=some (lH h O pv a b dn)/\Fr [p] w w':=by
 have m:hp<w.heap.size:=(zza.1 i).1;have I:=(zza.1 g).1;have n:¬hp=p:=by intro e;subst e;rw[i]at g;cases g
 have A:¬p=hp:=λe=>n e.symm
 have s:¬p=w.heap.size:=by omega
 have t:¬w.heap.size=p:=by omega
 have⟨W,d⟩:=gb <|w.alloc (.cells #[.int .i64 a,.int .i64 b,.int .i64 c,.int .i64 k] 30);have j:W.heap[hp]?=some (lZ kd p up u v):=by rw[d,zzf w _ hp m];exact i
 have N:W.heap[p]?=some (lH h O pv l f dn):=by rw[d,zzf w _ p I];exact g
 have U:W.heap[w.heap.size]?=some (.cells #[.int .i64 a,.int .i64 b,.int .i64 c,.int .i64 k] 30 (0,0)):=by rw[d];exact oz w _
 have c2:=af j 2;have c3:=af N 3;have c4:=af N 4;have c5:=af N 5;have q:=aq N 3;have r:=aq N 4;have x:=af U 0;have o:=af U 1;simp at c2 c3 c4 c5 x o;have D:Hid (W.heap[p]?=some (lH h O pv l f dn)):=N;have F:Hid (Fr [p] w W):=by rw[d];exact(Fr.refl [p] w).alloc _
 clear g i j N U;go_enter func27,ntmps27;go_wp2;rw[<-d];clear d;go_region_held3 (λw'=>w'.cell? ⟨hp,2,none⟩=some (.pointer<|some ⟨p,0,none⟩)/\w'.cell? ⟨w.heap.size,0,none⟩=some (.int .i64 a)/\w'.cell? ⟨w.heap.size,1,none⟩=some (.int .i64 b)) (simp[dL, *]) (fail);go_end0;refine⟨rfl,?_,F.out.trans<|((Fr.cG dv _ _).trans<|Fr.cG dv _ _).drew⟩;have:=aF (aF D.out 3<|.int .i64 a) 4<|.int .i64 b;simp at this;exact this
theorem AJ(kd:Int)(hp p h O:Nat)(pv u v:Value)(up:Bool)(l f a b c k:Int)(w:nL)(i:w.heap[hp]?=some (lZ kd p up u v))(g:w.heap[p]?=some (lH h O pv l f false)):
  Calls prog 34 #[gx hp,kS a b c k] w λe w'=>e=.returned (.tuple #[])/\w'.heap[p]?=some (lH h O pv (-1) (-1) false)/\Fr [p] w w':=by
 have o:hp<w.heap.size:=(zza.1 i).1;have I:=(zza.1 g).1;have q:¬hp=p:=by intro e;subst e;rw[i]at g;cases g
 have A:¬p=hp:=λe=>q e.symm
 have y:¬p=w.heap.size:=by omega
 have z:¬w.heap.size=p:=by omega
 have⟨W,d⟩:=gb <|w.alloc (.cells #[.int .i64 a,.int .i64 b,.int .i64 c,.int .i64 k] 30);have n:W.heap[hp]?=some (lZ kd p up u v):=by rw[d,zzf w _ hp o];exact i
 have N:W.heap[p]?=some (lH h O pv l f false):=by rw[d,zzf w _ p I];exact g
 have U:W.heap[w.heap.size]?=some (.cells #[.int .i64 a,.int .i64 b,.int .i64 c,.int .i64 k] 30 (0,0)):=by rw[d];exact oz w _
 have c2:=af n 2;have c3:=af N 3;have c4:=af N 4;have c5:=af N 5;have s:=aq N 3;have t:=aq N 4;have x:=af U 0;have r:=af U 1;simp at c2 c3 c4 c5 x r;have D:Hid (W.heap[p]?=some (lH h O pv l f false)):=N;have F:Hid (Fr [p] w W):=by rw[d];exact(Fr.refl [p] w).alloc _
 clear g i n N U;go_enter func34,ntmps34;have j:=c2;have m:=c5;rw[d]at j m;go_wp2;rw[<-d];clear d j m;go_region_held3 (λw'=>w'.cell? ⟨hp,2,none⟩=some (.pointer<|some ⟨p,0,none⟩)) (simp[dL, *]) (fail);go_end0;refine⟨rfl,?_,F.out.trans<|((Fr.cG dv _ _).trans<|Fr.cG dv _ _).drew⟩;have:=aF (aF D.out 3<|.int .i64<|-1) 4<|.int .i64<|-1;simp at this;exact this
abbrev cx(E I J:Nat)(w:nL):Option (Nat × List Nat):=some (J,E :: I :: rd E w)
abbrev ee(p:Nat)(up:Bool)(v:Value):Obj:=lZ 3 p up (.pointer none) v
abbrev Ql(E:Nat):Value:=(gx E)
section
variable{j w w':nL}{B hp p E i I J h O m m' n n':Nat}{c c':bL}{l l':au}{d d':aj}
theorem jJ.vR(hf:jJ E I J p w w'):kI hp p (cx E I J w) (cx E I J w') w w':=
 ⟨hf.os,hf.tape,hf.output,hf.size,λk h hn=>hf.block k h (λo=>hn (cQ.2 (.inr (.inl o)))) (λm=>hn (cQ.2 (.inr (.inr (by simp at m ⊢;obtain e|e:=m<;>simp[e]))))) (λm=>hn (cQ.2 (.inr (.inr (by simp[m]))))),λk h o=>by
  obtain e|e|e:=cQ.1 o
  .grind [cQ]
  .exact cQ.2<|.inr<|.inl<|hf.stay k h e
  .refine cQ.2<|.inr<|.inr ?_;simp at e ⊢;obtain e|e|e:=e
   .grind
   .grind
   .exact .inr (.inr (hf.own k h e))⟩
theorem jJ.hx(hf:jJ E I J p w w')(b:CL w B E i I m J p h O n c l d){k:Nat}{a:Array Value}(e:w.heap[k]?=some (.cells a 71 (0,0))):w'.heap[k]?=some (.cells a 71 (0,0)):=
 hf.cells b e du du du du du du du du
theorem jJ.fa(hf:jJ E I J p w w')(b:CL w B E i I m J p h O n c l d){k:Nat}{a:Array Value}(e:w.heap[k]?=some (.cells a 30 (0,0))):w'.heap[k]?=some (.cells a 30 (0,0)):=
 hf.cells b e du du du du du du du du
theorem CL.dsk(a:CL w B E i I m J p h O n c l d):∃pv,w.heap[p]?=some (lH h O pv d.left d.full d.down):=by have⟨pv,s,v,D,N,b⟩:=a.lg;exact⟨pv,b.bP.blk⟩
theorem kI.below{so H:Option (Nat×List Nat)}(hf:kI hp p so H w w')(a:B<=w.heap.size)(o:∀k,jN hp p so w k->B<=k):Below B w w':=
 ⟨hf.os,hf.tape,hf.output,hf.size,λk b=>hf.block k dp λh=>by have:=o k h;omega⟩
theorem CL.xq(a:CL w B E i I m J p h O n c l d)(N:B<=hp):B<=w.heap.size/\∀k,jN hp p (cx E I J w) w k->B<=k:=by
 have⟨pv,s,v,D,g,b⟩:=a.lg;refine⟨b.bP.base.2.2.2,λk f=>?_⟩;have:=a.co.low;obtain e|e|e:=cQ.1 f
 .omega
 .exact b.ge e
 .simp at e;obtain e|e|e:=e
  .omega
  .omega
  .exact(a.co.Tv e).1
theorem ug.xq{kd:Int}(b:ug w B kd hp p h O d n)(N:B<=hp):B<=w.heap.size/\∀k,jN hp p none w k->B<=k:=by
 have⟨pv,D,f,a⟩:=b.bP;have hb:=a.base;refine⟨hb.2.2.2,λk c=>?_⟩;obtain e|e:=fY.1 c
 .omega
 .exact a.geD e
theorem ug.fresh{kd:Int}(c:ug w B kd hp p h O d n)(hf:Fr [] w w'):ug w' B kd hp p h O d n/\kI hp p none none w w':=by
 have⟨b,pv,D,N,a⟩:=c;exact⟨⟨(hf.block hp (zza.1 b).1 dv).trans b,pv,D,N,a.new hf⟩,a.Ux hf dv⟩
def mM(w:nL)(B hp p E i I J h O m n:Nat)(c:bL)(l:au)(d:aj):Prop :=
 w.heap[hp]?=some (ee p true (Ql E))/\CL w B E i I m J p h O n c l d
theorem mM.new(a:mM w B hp p E i I J h O m n c l d)(hf:Fr [] w w'):mM w' B hp p E i I J h O m n c l d/\jJ E I J p w w':=by
 have⟨b,s⟩:=a;have⟨T,W⟩:=s.new hf;exact⟨⟨W.hx s b,T⟩,W⟩
theorem mM.fL(a:mM w B hp p E i I J h O m n c l d)(b:a_ w' B E i I m' c')(hf:gQ E [E,I] w w'):mM w' B hp p E i I J h O m' n c' l d/\jJ E I J p w w':=by
 have⟨e,s⟩:=a;have⟨T,W⟩:=s.fL b hf;exact⟨⟨W.hx s e,T⟩,W⟩
def Qm(j w:nL)(B hp p E i I J h O m n:Nat)(c:bL)(l:au)(d:aj):Prop :=
 (d.down=false/\mM w B hp p E i I J h O m n c l (d.aJ (-1) (-1))/\jJ E I J p j w) \/
 (d.down=true/\∃F o,Left d.ak d.pending F/\ug w B 3 hp p h o (dP F) n/\kI hp p (cx E I J j) none j w)
theorem Qm.new(f:Qm j w B hp p E i I J h O m n c l d)(hf:Fr [] w w'):Qm j w' B hp p E i I J h O m n c l d:=by
 rcases f with⟨a,b,e⟩|⟨a,F,o,b,e,g⟩
 .obtain⟨k1,k2⟩:=b.new hf;exact .inl ⟨a,k1,e.trans k2⟩
 .obtain⟨k1,k2⟩:=e.fresh hf;exact .inr ⟨a,F,o,b,k1,g.trans k2⟩
theorem Qm.from(f:Qm w w' B hp p E i I J h O m n c l d)(hf:jJ E I J p j w):Qm j w' B hp p E i I J h O m n c l d:=by
 rcases f with⟨a,b,e⟩|⟨a,F,o,b,e,g⟩
 .exact .inl ⟨a,b,hf.trans e⟩
 .exact .inr ⟨a,F,o,b,e,hf.vR.trans g⟩
theorem Qm.below(e:Qm w w' B hp p E i I J h O m n c l d)(a:CL w B E i I m' J p h O n' c' l' d')(N:B<=hp):Below B w w':=by
 rcases e with⟨f,g,b⟩|⟨f,F,o,g,b,j⟩
 .exact(b.vR).below (a.xq N).1 (a.xq N).2
 .exact j.below (a.xq N).1 (a.xq N).2
end
theorem I9(B hp E i I m J p h O n:Nat)(s:bL)(l:au)(d:aj)(a b c k:Int)(w:nL)(g:w.heap[hp]?=some (ee p true<|Ql E))(j:CL w B E i I m J p h O n s l d)(t:-2^63<=k)(L:k<=9223372036854775807):
  Calls prog 34 #[gx hp,kS a b c k] w λe w'=>e=.returned (.tuple #[])/\Qm w w' B hp p E i I J h O m n s l d:=by
 have⟨pv,z,x,D,N,f⟩:=j.lg;cases q:d.down with
 |false=>
  have r:=f.bP.blk;rw[q]at r;apply(AJ 3 hp p h O pv _ _ true d.left d.full a b c k w g r).mono;rintro e u ⟨rfl,iL,fu⟩;rw[<-q]at iL;have⟨o,y⟩:=j.aJ (-1) (-1) fu iL f.bP.blk;exact⟨rfl,.inl ⟨q,⟨y.hx j g,o⟩,y⟩⟩
 |true=>
  have M:=(zza.1 f.blk).1;apply(xn 3 B hp p h O n D N pv (.pointer none) (Ql E) true d a b c k (cx E I J w) w (λv S e=>by cases e;exact M) g ⟨_,rfl⟩ ⟨_,rfl⟩ f.bP q t L).mono;rintro e u ⟨rfl,F',ow,h1,h2,h3⟩;exact⟨rfl,.inr ⟨q,F',ow,h1,h2,h3⟩⟩
def ZU(f g:Nat)(s:List Value)(r:Nat->Value->Value):Prop :=
 (f=130/\g=194/\s=[]/\r=λv y=>.tuple #[.int .u64 (v:Int),y]) \/
 (r=(λ_ y=>y)/\((f=65/\g=120/\s=[]) \/
 (f=76/\g=134/\∃t:Nat,s=[.int .u64 (t:Int)]) \/
 (f=85/\g=137/\∃(t:Nat) (kk:Int),s=[.int .u64 (t:Int),.int .i64 kk]) \/
 (f=80/\g=135/\∃(t:Nat) (kk a:Int),s=[.int .u64 (t:Int),.int .i64 kk,.int .i64 a])))
theorem Yt(f g:Nat)(P:List Value)(M:Nat->Value->Value)(hc:ZU f g P M)(B hp E i I m J p h O n:Nat)(s:bL)(l:au)(d:aj)(a b c k:Int)(w:nL)(Q:Nat->Nat->bL->au->aj->Nat->Nat->Prop)(hh:w.heap[hp]?=some (ee p true<|Ql E))(z:CL w B E i I m J p h O n s l d)(hB:2<=B)(iN:B<=hp)(qB:-2^63<=k)(mL:k<=9223372036854775807)(FO:Met w)
  (X:∀o,CL o B E i I m J p h O n s l (d.aJ a b)->jJ E I J p w o->Calls prog g (Ql E::P).toArray o λe w2=>∃v x j l' d' m' n',Q v x j l' d' m' n'/\e=.returned (M v<|bB x)/\CL w2 B E i I m' J p h O n' j l' d'/\jJ E I J p o w2) :
  Calls prog f ((gx hp)::(P++[kS a b c k])).toArray w λe w'=>∃v x j l' d' m' n',Q v x j l' d' m' n'/\e=.returned (M v<|.int .i64 (x:Int))/\Qm w w' B hp p E i I J h O m' n' j l' d':=by
 have⟨W,u⟩:=gb <|w.alloc (iE a b c k);have dI:Fr [] w W:=by rw[u];exact(fU w).alloc _
 have⟨K,L⟩:=z.new dI;have A:=L.hx z hh;have F:W.heap[nF w]?=some (iE a b c k):=by rw[u];exact oz w _
 have a7:=ah z;have c3:=af A 3;have c5:=af A 5;have G:=af A 6;have S:=af F 0;have U:=af F 1;have V:=af F 2;have Y:=af F 3;simp at c3 c5 G S U V Y;rw[u]at c3 c5 G S U V Y;have⟨a1,uh⟩:=K.dsk;have H:=ah<|show CL W B E i I m J p h O n s l d/\W.heap[hp]?=some (ee p true<|Ql E)/\W.heap[nF w]?=some (iE a b c k)/\jJ E I J p w W/\W.heap[p]?=some (lH h O a1 d.left d.full d.down)from ⟨K,A,F,L,uh⟩;rcases hc with⟨rfl,rfl,rfl,rfl⟩|⟨rfl,⟨rfl,rfl,rfl⟩|⟨rfl,rfl,t,rfl⟩|⟨rfl,rfl,t,kk,rfl⟩|⟨rfl,rfl,t,kk,vv,rfl⟩⟩
 all_goals
  simp only[List.cons_append,List.nil_append]at X ⊢;first
   |go_enter func130,ntmps130
   |go_enter func65,ntmps65
   |go_enter func76,ntmps76
   |go_enter func85,ntmps85
   |go_enter func80,ntmps80
  go_wp2_with fail;rw[<-u];apply(BX 3 hp p h O a1 _ _ true d.down d.left d.full a b c k W H.2.1 H.2.2.2.2).mono;rintro e o ⟨rfl,dB,cY⟩;have⟨T,C⟩:=H.1.aJ a b cY dB H.2.2.2.2;have y:=C.hx H.1 H.2.1;have N:=H.2.2.2.1.trans C;have TY:=X o T N;have k5:=af y 5;have k6:=af y 6;simp at k5 k6;have q:=ah<|show CL o B E i I m J p h O n s l (d.aJ a b)/\o.heap[hp]?=some (ee p true<|Ql E)/\o.heap[nF w]?=some (iE a b c k)/\jJ E I J p w o from ⟨T,y,C.fa H.1 H.2.2.1,N⟩;go_wp2_with fail;apply TY.mono;rintro e w2 ⟨v,x,j,l',d',m',n',hQ,rfl,eP,iY⟩;have Z:=iY.fa q.1 q.2.2.1;have zo:=q.2.2.2.trans iY;have y0:=af Z 0;have y1:=af Z 1;have y2:=af Z 2;have y3:=af Z 3;simp at y0 y1 y2 y3;have NM:=(zo.kO a7.out).met hB FO;have r:=ah<|show CL w2 B E i I m' J p h O n' j l' d'/\w2.heap[hp]?=some (ee p true<|Ql E)/\jJ E I J p w w2/\Q v x j l' d' m' n' from ⟨eP,iY.hx q.1 q.2.1,zo,hQ⟩;go_wp2_with fail;apply(I9 B hp E i I m' J p h O n' j l' d' a b c k w2 r.2.1 r.1 qB mL).mono;rintro e R ⟨rfl,V9⟩;have I_:=NM.below (V9.below r.1 iN) dp;have D:=ah<|show Qm w R B hp p E i I J h O m' n' j l' d'/\Q v x j l' d' m' n' from ⟨V9.from r.2.2.1,r.2.2.2⟩
  clear V9 r;go_wp2_with fail;apply(pW x R I_).mono;rintro e w4 ⟨rfl,iI⟩;have H4:=ah<|show Q v x j l' d' m' n'/\Qm w w4 B hp p E i I J h O m' n' j l' d' from ⟨D.2,D.1.new iI⟩;go_wp2
  first|go_ret2|go_ret
  exact⟨v,x,j,l',d',m',n',H4.1,rfl,H4.2⟩
section
open Go.Shelf
variable{l:List aK}{K k:Nat}{x:aK}{f s:qE}
def jc(p:aU):aU:={ p with left:=decide (p.aZ=2) }
def mP(x:aK):aK:={ x with gH:=0,parts:=x.parts.map jc }
def jW(l:List aK):List aK:=(l.filter λx=>decide (x.st=6)).map mP
def aP.rest(R:aP):aP:=⟨jW R.ai,R.next,[],[]⟩
theorem Gf(w:nL)(b i j:Nat)(v:Value)(h:i≠j):(w.setCell (hP b i) v).cell? (hP b j)=w.cell? (hP b j):=by
 simp only[World.setCell,World.cell?,Array.getElem?_modify];cases hb:w.heap[b]? with
 |none=>simp
 |some o=>grind
theorem VA(h:l[k]?=some x)(a:x.st≠6):jW (l.take<|k+1)=jW (l.take k):=by
 unfold jW;rw[vV,h];simp[a]
theorem QR(h:l[k]?=some x)(a:x.st=6):jW (l.take<|k+1)=jW (l.take k)++[mP x]:=by
 unfold jW;rw[vV,h];simp[a]
theorem QS [Inhabited Bs](rp:Nat)(S:List Nat)(R:aP)(w:nL)(h:gh w rp S R)(hn:R.ai.length<=1048576)(hl:∀x∈R.ai,x.parts.length<=1000):
  Calls prog 70 #[gx rp] w λe w'=>∃d S',e=.returned (gx d)/\gh w' d S' R.rest/\(∀k∈S',w.heap.size<=k)/\Fr [] w w':=by
 obtain⟨xv,rv,ov,ps,h,_⟩:=h;have⟨j0,aE,av,ax,ay⟩:=tO xf;have⟨l0,al,b8,b9,b'⟩:=tO BG;have c1:=af h.blk 1;simp at c1;have XY:rp<w.heap.size:=(zza.1 h.blk).1;have I:Hid (bQ w rp xv rv ov ps R):=h;have⟨d,jY⟩:=gb w.heap.size;have⟨A,gP⟩:=gb <|w.alloc (.cells #[.slice none 0 0,.int .u64 (R.next:Int),.slice none 0 0,.slice none 0 0] 120);have pU:Fr [] w A:=by rw[gP];exact(fU w).alloc _
 have a7:bQ A d (.slice none 0 0) (.slice none 0 0) (.slice none 0 0) [] ⟨[],R.next,[],[]⟩:=by
  refine {base:=by rw[jY];exact I.out.low,blk:=?_,kF:=zzu _ _ _ _,prt:=dv,apart:=dv,res:=zzu _ _ _ _,out:=zzu _ _ _ _,rs:=rfl};rw[gP,jY];exact oz w _
 have Cz:w.heap.size<=d:=by rw[jY];exact zzc _
 have dM:d<A.heap.size:=(zza.1 a7.blk).1;have X:=ah<|show bQ A d (.slice none 0 0) (.slice none 0 0) (.slice none 0 0) [] ⟨[],R.next,[],[]⟩/\Fr [] w A/\w.heap.size<=d/\d<A.heap.size from ⟨a7,pU,Cz,dM⟩;clear h a7 pU Cz dM
 go_enter func70,ntmps70;go_wp2;rw[<-gP];rw[<-jY];clear gP jY c1;have⟨n,kC⟩:=gb ps.length;have HN:Hid (ps.length=n):=kC.symm;rw[<-I.out.len,<-kC]at hn;clear kC;have HL:Hid (∀x∈R.ai,x.parts.length<=1000):=hl;clear hl;go_loopw [4] (λi wr=>∃(k:Nat) (U:Value) (v:List<|aK×Value),k<=n/\i=.int .i64 k/\Hid (bQ wr d U (.slice none 0 0) (.slice none 0 0) v ⟨jW<|R.ai.take k,R.next,[],[]⟩/\Fr [] w wr/\ju w U/\A.heap.size<=wr.heap.size/\∀q∈v,ju w q.2)) (λi _=>n-(intOf i).toNat);case atStart=>exact⟨0,.slice none 0 0,[],zzs _,rfl,X.1,X.2.1,ju.nil _,zzc _,dv⟩
 case round=>
  obtain⟨k,U,v,hk,rfl,r⟩:=hrel;have⟨b,b7⟩:=gb wr;subst b7;have V:=I.out.fr r.2.1;have c1:=af V.blk 0;simp at c1;have⟨ao,c,e0,H⟩:=V.slice;rw[e0,HN.out]at c1;have ae:=r.2.1.size;have aA:B0<=b.heap.size:=zzk I.out.low ae;have dM:d<b.heap.size:=zzl X.2.2.2 r.2.2.2.1;by_cases bW:k<n
  .obtain⟨p,hp⟩:∃p,ps[k]?=some p:=⟨_,zzg<|by rw[HN.out];exact bW⟩;obtain⟨g,rfl,x0,x1,x2,x3,x4⟩:=H k p hp;have O:=V.prt p<|zzh hp;have⟨pa,pc,ep⟩:=fe O;have Yl:=HL.out p.1<|zzh<|I.out.back hp;have⟨l,IX⟩:=gb p.1.parts.length;rw[ep]at x3 O;rw[<-IX]at x3 O Yl;have⟨st,cf⟩:∃st,st=p.1.st:=⟨_,rfl⟩;rw[<-cf]at x1;have a8:=af r.1.blk 0;simp at a8;have i1:(0:Int)<=k:=dp
   have i2:(k:Int)<n:=dp;have P:Hid (R.ai[k]?=some p.1/\l=p.1.parts.length/\st=p.1.st):=⟨I.out.back hp,IX,cf⟩;clear H hp V IX ep cf;by_cases h6:st=6
   .subst h6;have Qc:=xJ<|O.alloc<|.cells #[.int .u64 (p.1.id:Int),.int .i64 6,.int .i64 0,.slice pa l pc,.bool p.1.aS] 123
    go_wp2_with (at_builtin;refine fH rfl _ _ 121 rfl b.heap.size 162 l0 _ 3 24 underlying121 al b8 b9 b' rfl du (.slice none 0 0) 0 [] rfl (zzu _ _ _ _) l (fP p.1.parts) Qc (by rw[D2,<-P.2.1]) (IC _) eE dp dv ?_;intro lv w2 ik T vw;obtain⟨s,m,rfl⟩:=fe ik;have D:=(T.block b.heap.size dv<|by simp[Value.ownBlock]).trans<|oz b _;have q0:=af D 0;have q1:=af D 1;have q2:=af D 2;have q3:=af D 3;have q4:=af D 4;have qf:=aq D 3;have iy:=T.cell ((zze (a:=⟨d,0,none⟩)<|zzf b _ d dM).trans a8) (by simp[Value.ownBlock]);simp at q0 q1 q2 q3 q4)
    have qC:Fr [] b (w2.setCell ⟨b.heap.size,3,none⟩<|.slice s l m):=(Fr.od ((fU b).alloc _) (ju.nil b) T).setCell (.inr<|zzc _) _;have nV:(w2.setCell ⟨b.heap.size,3,none⟩<|.slice s l m).ownsRow b.heap.size 162 3 (.slice s l m) l (fP p.1.parts):=aN (by simpa using ik) D du;have iL:=aF D 3<|.slice s l m;obtain⟨W3,Rs⟩:∃W3,W3=w2.setCell ⟨b.heap.size,3,none⟩ (.slice s l m):=⟨_,rfl⟩;rw[<-Rs]at qC nV iL ⊢;have H3:Hid (Fr [] b W3/\W3.ownsRow b.heap.size 162 3 (.slice s l m) l (fP<|upTo jc p.1.parts 0)/\W3.heap[b.heap.size]?=some (.cells #[.int .u64 (p.1.id:Int),.int .i64 6,.int .i64 0,.slice s l m,.bool p.1.aS] 123 (0,0))):=⟨qC,by rw[lu];exact nV,by simpa using iL⟩;clear Rs q0 q1 q2 q3 q4 qf iy T vw ik D a8 Qc qC nV iL O
    go_loopw [6] (λj wx=>∃y:Nat,y<=l/\j=.int .i64 y/\Hid (Fr [] b wx/\wx.ownsRow b.heap.size 162 3 (.slice s l m) l (fP<|upTo jc p.1.parts y)/\wx.heap[b.heap.size]?=some (.cells #[.int .u64 (p.1.id:Int),.int .i64 6,.int .i64 0,.slice s l m,.bool p.1.aS] 123 (0,0)))) (λj _=>l-(intOf j).toNat)
    case atStart=>exact⟨0,zzs _,rfl,H3⟩
    case round=>
     obtain⟨y,hy,rfl,Y⟩:=hrel;have b0:=af Y.2.2 0;have b1:=af Y.2.2 1;have b2:=af Y.2.2 2;have K:=af Y.2.2 3;have b4:=af Y.2.2 4;simp at b0 b1 b2 K b4;by_cases aI:y<l
     .obtain⟨E,qM⟩:∃E,p.1.parts[y]?=some E:=⟨_,zzg<|by rw[<-P.2.1];exact aI⟩
      obtain⟨t,eo⟩:∃t,s=some ⟨t,0,none⟩:=by
       rcases Y.2.1.2 with⟨e,h0⟩|⟨t,bc,an,e,rest⟩
       .omega
       .simp only[Bx]at e;exact⟨t,e.1⟩
      subst eo;have y1:=fA Y.2.1 rfl<|qW (f:=sM) (k:=3) (λ_=>rfl) _ y E (kZ jc qM) 1 (by decide)
      change wr.cell? ⟨t,y*3+1,none⟩=some (.int .i64 (E.aZ:Int))at y1;have⟨an,JH⟩:=aL Y.2.1 (g:=t) rfl;have fz:=aq JH<|y*3+2;have y2:=fA Y.2.1 rfl<|qW (f:=sM) (k:=3) (λ_=>rfl) _ y E (kZ jc qM) 2 du
      change wr.cell? ⟨t,y*3+2,none⟩=some (.bool E.left)at y2;have aX:¬t=b.heap.size:=λe=>by rw[e,Y.2.2]at JH;cases JH
      have sA:¬b.heap.size=t:=λe=>aX e.symm
      have k0:(0:Int)<=y:=dp;have k1:(y:Int)<l:=dp;have⟨Q,rX⟩:=gb E.aZ;rw[<-rX]at y1;have⟨L,wm⟩:∃L:Bool,L=decide (Q=2):=⟨_,rfl⟩;have bf:((Q:Int)==2)=L:=by rw[wm];by_cases e:Q=2<;>simp[e]<;>omega
      have HN:Hid (∀W,W=(wr.drew.setCell ⟨t,y*3+2,none⟩<|.bool L)->Fr [] b W/\W.ownsRow b.heap.size 162 3 (.slice (some ⟨t,0,none⟩) l m) l (fP<|upTo jc p.1.parts<|y+1)/\W.heap[b.heap.size]?=some (.cells #[.int .u64 (p.1.id:Int),.int .i64 6,.int .i64 0,.slice (some ⟨t,0,none⟩) l m,.bool p.1.aS] 123 (0,0))):=λW hW=>by
       have zo:wr.drew.ownsRow b.heap.size 162 3 (.slice (some ⟨t,0,none⟩) l m) l (fP<|upTo jc p.1.parts y):=ar Y.2.1 (fU wr).drew dv;have T:=(zo.lt t rfl).1;refine⟨by rw[hW];exact(Y.1.drew).setCell (.inr T) _,?_,by rw[hW];exact(wg _ _ _ b.heap.size sA).trans Y.2.2⟩;have:=ph (j:=y*3+2) (u:=.bool L) zo;have e:=sT (f:=sM) (k:=3) (λ_=>rfl) (upTo jc p.1.parts y) y 2 E (jc E) (.bool L) (kZ jc qM) du (by unfold jc;rw[wm,rX];rfl);rw[hW,iU jc qM];unfold fP at this ⊢;rw[e];exact this
      clear qM rX wm JH;go_wp2;go_region_held3 (λw'=>w'.cell? ⟨b.heap.size,3,none⟩=some (.slice (some ⟨t,0,none⟩) l m)/\w'.cell? ⟨t,y*3+1,none⟩=some (.int .i64 (Q:Int)))
       (first|exact⟨K,y1⟩|exact⟨(dL _ _ _ _ _ _ sA).trans K,(Gf _ _ _ _ _ dp).trans y1⟩)
       (fail)
      go_wp2;go_roundw;case rel=>exact⟨y+1,dp,eR,HN.out _ rfl⟩
      case measure=>simp[intOf];omega
     .obtain rfl:y=l:=dp;have a':=Y.2.1;rw[xL jc<|by rw[<-P.2.1];exact zzc _]at a';have G:=r.1.fr Y.1;have p2:=af G.blk 0;have f2:=aq G.blk 0;simp at p2;have aW:=G.kF;have⟨C,B,ex⟩:=fe aW;subst ex;have ad:=G.len
      have b5:v.length<=1048576:=by
       rw[ad];show(jW _).length<=_;unfold jW;rw[zzn];refine zzk (Hm _ _) ?_;rw[zzm];omega
      have⟨q,M⟩:=gb v.length;rw[<-M]at p2 aW b5 r;have Rt:d<wr.heap.size:=zzl dM Y.1.size;have D5:b.heap.size<wr.heap.size:=(zza.1 Y.2.2).1;have HB:Hid (wr.heap[d]?=some (uD (.slice C q B) (.slice none 0 0) (.slice none 0 0) R.next)/\some d≠(Value.slice C q B).ownBlock/\B0<=wr.heap.size):=⟨by rw[M];exact G.blk,λe=>aQ aW G.blk du e.symm,G.low⟩;have Z:=ah<|show wr.ownsRow B0 123 5 (.slice C q B) q (dO v)/\wr.ownsRow b.heap.size 162 3 (.slice s y m) y (fP<|p.1.parts.map jc)/\q=v.length from ⟨aW,a',M⟩;have ag:Hid (∀g,(Value.slice C q B).ownBlock=some g->g<b.heap.size):=λg J=>(r.1.kF.lt g J).2
      have Fk:∀o,(wr.drew.alloc o).cell? ⟨d,0,none⟩=some (.slice C q B):=λo=>(sR _ _ _ Rt).trans p2
      have o6:∀o i,(wr.drew.alloc o).cell? ⟨b.heap.size,i,none⟩=wr.cell? ⟨b.heap.size,i,none⟩:=λo i=>sR _ _ _ D5
      have Mr:¬(y:Int)<y:=dp;clear a' G aW ad M;go_wp2;refine eX (S:=(λw'=>w'.cell? ⟨d,0,none⟩=some (.slice C q B)/\w'.cell? ⟨b.heap.size,0,none⟩=some (.int .u64 (p.1.id:Int))/\w'.cell? ⟨b.heap.size,1,none⟩=some (.int .i64 6)/\w'.cell? ⟨b.heap.size,2,none⟩=some (.int .i64 0)/\w'.cell? ⟨b.heap.size,3,none⟩=some (.slice s y m)/\w'.cell? ⟨b.heap.size,4,none⟩=some (.bool p.1.aS))) (z:=10) eu rfl eu ⟨p2,b0,b1,b2,K,b4⟩ λab=>?_;refine b_ 0 ?_;refine b_ 1 ?_;refine b_ 2 ?_;refine b_ 3 ?_;refine b_ 4 ?_;refine b_ 5 ?_
      (try simp only[Act.put,mA,hU,mI])
      refine um (rs:=[6]) eu dv<|yg (λa1 hK=>?_) ua;go_simp;refine hK.out _ _ ⟨Fk _,(o6 _ _).trans b0,(o6 _ _).trans b1,(o6 _ _).trans b2,(o6 _ _).trans K,(o6 _ _).trans b4⟩ λab=>?_
      (try simp only[Act.put,mA,hU,mI]);refine um (rs:=[7]) eu dv<|yg (λa1 hK=>?_) ua;rw[oo<|by rfl];refine gV _ _ 116 rfl B0 123 j0 _ 5 56 underlying116 aE av ax ay rfl du (.slice C q B) q (dO v) rfl (ar Z.1 ((fU wr).drew.alloc _) dv) ⟨wr.heap.size,0,none⟩ 1 1 [.int .u64 (p.1.id:Int),.int .i64 6,.int .i64 0,.slice s y m,.bool p.1.aS] rfl rfl (fV _ #[.int .u64 (p.1.id:Int),.int .i64 6,.int .i64 0,.slice s y m,.bool p.1.aS] _) (by intro u hu;simp at hu;obtain rfl|rfl|rfl|rfl|rfl:=hu<;>rfl) eE dp (zzk HB.2.2 dv) ?_;intro v4 F oX oY nb;obtain⟨o4,c4,rfl⟩:=fe oX;have gI:Fr [] wr (wr.drew.alloc<|.cells #[.int .u64 (p.1.id:Int),.int .i64 6,.int .i64 0,.slice s y m,.bool p.1.aS] 123):=(fU wr).drew.alloc _;have iR:Fr (Value.slice C q B).ownBlock.toList wr F:=(gI.mono dv).trans<|Fr.cA oY;have nM:F.heap[d]?=some (uD (.slice C q B) (.slice none 0 0) (.slice none 0 0) R.next):=(iR.block d Rt λhm=>HB.2.1<|by simpa using (Eq.symm<|by simpa using hm)).trans HB.1;have d3:=af nM 0;have f4:=aq nM 0;simp at d3;have g0:=iR.block b.heap.size D5 (λhm=>by have:=ag.out _ (by simpa using hm);omega);have Kq:∀i,F.cell? ⟨b.heap.size,i,none⟩=wr.cell? ⟨b.heap.size,i,none⟩:=λi=>zze g0
      have HR:Hid (bQ (F.setCell ⟨d,0,none⟩<|.slice o4 (q+1) c4) d (.slice o4 (q+1) c4) (.slice none 0 0) (.slice none 0 0) (v++[(mP p.1,.slice s y m)]) ⟨jW<|R.ai.take<|k+1,R.next,[],[]⟩/\Fr [] w (F.setCell ⟨d,0,none⟩<|.slice o4 (q+1) c4)/\ju w (.slice o4 (q+1) c4)/\A.heap.size<=(F.setCell ⟨d,0,none⟩<|.slice o4 (q+1) c4).heap.size/\∀z∈v++[(mP p.1,(.slice s y m:Value))],ju w z.2):=by
       have iI:Fr (Value.slice C q B).ownBlock.toList b F:=(Y.1.mono dv).trans iR;have h1:=ownsRow_base_a Z.2.1 aA;have rS:F.ownsRow B0 162 3 (.slice s y m) (mP p.1).parts.length (fP (mP p.1).parts):=by
        show F.ownsRow B0 162 3 (.slice s y m) (p.1.parts.map jc).length (fP<|p.1.parts.map jc);rw[zzn,<-P.2.1];refine ar h1 iR λg J hm=>?_
        have oZ:(Value.slice C q B).ownBlock=some g:=by simpa using hm
        exact cP h1 Z.1 du J oZ
       have aa:ju b (.slice s y m):=λg J=>(Z.2.1.lt g J).1
       have e6:p.1.st=6:=P.2.2.symm;refine⟨?_,?_,?_,?_,λz N=>?_⟩
       .rw[QR P.1 e6];refine r.1.aab (x:=mP p.1) iI ?_ rS aa;rw[<-Z.2.2];have ec:nQ (mP p.1,.slice s y m)=[.int .u64 (p.1.id:Int),.int .i64 6,.int .i64 0,.slice s y m,.bool p.1.aS]:=by
         show [_,Value.int .i64 ((p.1.st:Nat):Int),_,_,_]=_;rw[e6];rfl
        rw[ec];exact oX
       .exact(Oa r.2.1 iI r.2.2.1).setCell (.inr X.2.2.1) _
       .exact ju.next r.2.2.1 (by have:=Y.1.size;simp;omega) nb
       .have h2:=iI.size;have h3:=r.2.2.2.1;simp[World.setCell];omega
       .rcases zzo.1 N with N|N
        .exact r.2.2.2.2 z N
        .simp at N;subst N;exact λg J=>zzk ae<|aa g J
      refine hK.out _ _ ⟨d3,(Kq 0).trans b0,(Kq 1).trans b1,(Kq 2).trans b2,(Kq 3).trans K,(Kq 4).trans b4⟩ λab=>?_
      (try simp only[Act.put,mA,hU,mI]);refine b_ 8 ?_;refine b_ 9 ?_;(try simp only[Act.put,mA,hU,mI]);refine Cj eu ?_ _;refine lV rfl rfl ?_;go_simp;go_wp2;go_roundw;case rel=>exact⟨k+1,_,_,dp,eR,HR.out⟩
      case measure=>simp[intOf];omega
   .have j6:¬(st:Int)=6:=dp;have b6:((st:Int)==6)=false:=oT.2 j6;have ba:((st:Int) != 6)=true:=by unfold bne;rw[b6];rfl
    have HR:Hid (∀o,bQ (b.alloc o) d U (.slice none 0 0) (.slice none 0 0) v ⟨jW<|R.ai.take<|k+1,R.next,[],[]⟩/\Fr [] w (b.alloc o)/\ju w U/\A.heap.size<=(b.alloc o).heap.size/\∀q∈v,ju w q.2):=λo=>⟨by rw[VA P.1<|by rw[<-P.2.2];exact h6];exact r.1.fr<|(fU b).alloc o,r.2.1.alloc o,r.2.2.1,by have:=r.2.2.2.1;simp;omega,r.2.2.2.2⟩
    clear O;go_wp2;go_roundw;case rel=>exact⟨k+1,_,_,dp,eR,HR.out _⟩
    case measure=>simp[intOf];omega
  .have CZ:k=n:=dp;have HT:Hid (R.ai.take k=R.ai):=zzt (by rw[CZ,<-HN.out,I.out.len];omega);have IX:¬(k:Int)<n:=dp
   clear H V;go_wp2;go_ret;refine⟨d,rfl,_,⟨_,_,_,_,by have:=r.1;rw[HT.out]at this;exact this,rfl⟩,λq M=>?_,r.2.1⟩;obtain rfl|e|e|e|⟨y,hy,e⟩:=dC.1 M
   .exact X.2.2.1
   .exact r.2.2.1 q e
   .cases e
   .cases e
   .exact r.2.2.2.2 y hy q e
theorem Jn(n p T m f t:Nat)(c:bL)(w:nL)(h:xt w p T m c)(hf:g_ n w f<|be 8 t)(g:t<2^64)(j:(c.tx t).state=6)(u:p<n/\T<n):
  Calls prog 216 #[gx p,gx f] w λe w'=>e=.returned (.bool true)/\xt w' p T m {c with aD:=dU c.aD t}/\Fr [f,T] w w':=by
 have hnum:=yj n f (be 8 t) w hf<|Nat.le_of_eq (ew 8 t).symm;have l:val ((be 8 t).take 8)=t:=by rw[zzt<|Nat.le_of_eq<|ew 8 t];exact py 8 t<|by simpa using g
 have o:=List.drop_of_length_le<|Nat.le_of_eq<|ew 8 t;rw[l,o]at hnum;have v:=hf.low;have r:=ah h;clear l o h hf
 go_enter func216,ntmps216;go_wp2_with fail;apply hnum.mono;clear hnum;rintro e d ⟨rfl,cY,yi⟩;have A:=r.out.fr yi ef ef;have L:=ke 0 p 0 T m t c d (A.co ⟨zzs _,zzs _,zzs _⟩) g;rw[j]at L;have c1:=af A.blk 1;simp at c1;have Z:=λa E=>yl n f [] a E
 simp only[List.length_nil,Nat.lt_irrefl,decide_false,Bool.not_false]at Z;have H:=ah<|show xt d p T m c/\g_ n d f []/\Fr [f] w d from ⟨A,cY,yi⟩;clear A cY yi j;go_wp2_with fail;apply L.mono;clear L;rintro e w2 ⟨rfl,lI⟩;subst lI
 go_wp2_with (first
  |(at_delete;apply lN rfl _ _ 192 249 rfl underlying192 T m c.aD rfl H.1.aD t g rfl;intro a i z)
  |fail)
 have E:=Fr.bI z;have q:xt a p T m {c with aD:=dU c.aD t}:=⟨(E.block p H.1.jS.1<|by simpa using H.1.jS.2.2).trans H.1.blk,i,H.1.gw,H.1.emp⟩;have N:=Z a (H.2.1.fr E ef);have s:=ah (show xt a p T m {c with aD:=dU c.aD t}/\Fr [f,T] w a from ⟨q,(H.2.2.mono λk _ b=>by simp at b;simp[b]).trans<|E.mono λk _ b=>by simp at b;simp[b]⟩);clear q E i z Z;go_wp2_with fail;apply N.mono;clear N;rintro e x ⟨rfl,rfl⟩;go_wp2;go_ret;exact⟨rfl,s.out⟩
theorem U3(p f kd:Nat)(w:nL)(P:nL->Prop)
  (h:(kd=1/\Calls prog 214 #[gx p,gx f] w λe w'=>e=.returned (.bool true)/\P w')\/(kd=2/\Calls prog 215 #[gx p,gx f] w λe w'=>e=.returned (.bool true)/\P w')\/(kd=3/\Calls prog 216 #[gx p,gx f] w λe w'=>e=.returned (.bool true)/\P w')) :
  Calls prog 145 #[gx p,.int .u8 (kd:Int),gx f] w λe w'=>e=.returned (.bool true)/\P w':=by
 rcases h with⟨rfl,c⟩|⟨rfl,c⟩|⟨rfl,c⟩
 all_goals
  go_enter func145,ntmps145;go_wp2_with fail;apply c.mono;clear c;rintro e a ⟨rfl,hp⟩;have H:=ah hp;clear hp;go_wp2;go_ret;exact⟨rfl,H.out⟩
structure En(c:bL)(s:qE):Prop where
 lim:c.aH=s.lim
 zero:c.next=0/\c.bw=0
 once:fM c.aD
 tx:∀t T,bJ c.aD t=some T↔∃ys,(t,ys)∈s.ds/\T=⟨6,cO ys 2,0,0⟩
theorem RD.rising{s:List Nat}(h:RD s):j_ s:=⟨h.ne,h.up,h.rng⟩
theorem En.none{c:bL}(h:En c s){t:Nat}(hn:∀p∈s.ds,p.1≠t):bJ c.aD t=none:=by
 cases e:bJ c.aD t with
 |none=>rfl
 |some T=>have⟨y,a,_⟩:=(h.tx t T).1 e;exact absurd rfl<|hn _ a
theorem En.first:En ⟨[],0,1,0,[],[]⟩ ⟨1,[]⟩:=⟨rfl,⟨rfl,rfl⟩,List.Pairwise.nil,λt T=>⟨λh=>(by cases h),λ⟨s,h,_⟩=>(by cases h)⟩⟩
theorem YF(n b d m f K:Nat)(c:bL)(s q:qE)(r:Rec)(w:nL)(h:xt w b d m c)(a:En c s)(E:CE s r q)(hb:Ac K s)(Y:Ac K q)(F:K<2^64)(hf:g_ n w f r.pay)(A:m+1<maxLen)(L:b<n/\d<n):
  Calls prog 145 #[gx b,.int .u8 ((r.kind%128:Nat):Int),gx f] w λe w'=>e=.returned (.bool true)/\(∃c',xt w' b d (m+1) c'/\En c' q)/\Fr [f,b,d] w w':=by
 apply U3 b f (r.kind%128) w _;rcases E with⟨j,l,o,g⟩|⟨j,t,y,l,o,g,u,v,C,D⟩|⟨j,t,l,⟨p,o,g⟩,u,v⟩
 .rw[l]at hf;refine .inl ⟨j,(I' n b d m f q.lim c w h hf (by have:=Y.lim;omega) (by rw[a.lim];exact o) L).mono ?_⟩;rintro e w' ⟨rfl,h1,h2⟩;refine⟨rfl,⟨_,⟨h1.blk,h1.aD.mono<|zzC m,h1.gw,h1.emp⟩,⟨rfl,a.zero,a.once,by rw[g];exact a.tx⟩⟩,h2.mono λk _ i=>by simp at i ⊢;omega⟩
 .rw[l]at hf;have B:=a.none u;refine .inr (.inl ⟨j,(Ja n b d m f t y c w h hf (by have:=hb.lim;omega) dp (by rw[a.lim];exact g) (by unfold bL.tx;rw[B];rfl) v.rising A L).mono ?_⟩);rintro e w' ⟨rfl,h1,h2⟩;refine⟨rfl,⟨_,h1,⟨by rw[C];exact a.lim,a.zero,a.once.put _ _,λx T=>?_⟩⟩,h2.mono λk _ i=>by simp at i ⊢;omega⟩;simp only;rw[kc,D];by_cases e:x=t
  .grind [oM]
  .rw[mE e,a.tx];constructor<;>grind [oM]
 .rw[l]at hf;have hp:=hb.pos p o;have⟨pt,y⟩:=p;simp only at g hp;subst g;have z:=(a.tx pt _).2 ⟨y,o,rfl⟩;refine .inr (.inr ⟨j,(Jn n b d m f pt c w h hf (by have:=hb.lim;omega) (by unfold bL.tx;rw[z];rfl) L).mono ?_⟩);rintro e w' ⟨rfl,h1,h2⟩;refine⟨rfl,⟨_,⟨h1.blk,h1.aD.mono<|zzC m,h1.gw,h1.emp⟩,⟨by rw[u];exact a.lim,a.zero,a.once.del _,λx T=>?_⟩⟩,h2.mono λk _ i=>by simp at i ⊢;omega⟩;simp only;rw[js,v];by_cases e:x=pt
  .grind [xA]
  .rw[mE e,a.tx];constructor<;>grind [xA]
theorem CE.det{a b:qE}{r:Rec}(O:K<2^64)(h:Ac K s)(E:CE s r a)(hb:CE s r b)(A:Ac K a)(B:Ac K b):a=b:=by
 have Y:∀x y,x<18446744073709551616->y<18446744073709551616->be 8 x=be 8 y->x=y:=λx y hx F e=>by
  have C:=py 8 x (by simpa using hx);have D:=py 8 y (by simpa using F);rw[<-C,<-D,e]
 have P:=h.lim;have I:=A.lim;have U:=B.lim;have⟨Q,J⟩:=a;have⟨lb,L⟩:=b;simp only at I U;rcases E with⟨m,k,_,n⟩|⟨m,t,R,k,_,n,_,_,w,z⟩|⟨m,t,k,⟨p,H,n⟩,o,v⟩<;>rcases hb with⟨c,j,_,d⟩|⟨c,u,zs,j,_,d,_,_,i,l⟩|⟨c,u,j,⟨q,G,d⟩,f,g⟩<;>try omega
 .grind
 .simp only at w z i l;have e:=List.append_inj (k.symm.trans j) (by rw[ew,ew]);rw[w,z,i,l,Y t u dp dp e.1,e.2]
 .simp only at o v f g;have M:=h.pos p H;have N:=h.pos q G;rw[o,v,f,g,Y t u dp dp<|k.symm.trans j]
def JC(K:Nat)(X:List Rec)(s:qE):Prop:=∃C,tk kK K C/\C.map (·.1)=X/\rP kK C C.length=s
theorem Ac.at_{C:List (Rec×qE)}(b:1<=K)(h:tk kK K C)(i:Nat):Ac K (rP kK C i):=by
 have a:Ac K kK.s0:=⟨b,zzs _,List.Pairwise.nil,λp hp=>by cases hp⟩
 cases i with
 |zero=>exact a
 |succ i=>
  cases e:C[i]? with
  |none=>grind[rP]
  |some p=>simp only[rP,e];exact(h i p.1 p.2 e).2
theorem NZ{C D:List (Rec×qE)}(h:1<=K/\K<2^64)(c1:tk kK K C)(d:tk kK K D)(hp:C.map (·.1)<+:D.map (·.1)):∀i,i<=C.length->rP kK D i=rP kK C i:=by
 have⟨rest,r⟩:=hp;intro i;induction i with
 |zero=>intro _;rfl
 |succ i ih=>
  intro c;have e:=ih dp;have m:(D[i]?).map (·.1)=(C[i]?).map (·.1):=by
   rw[<-zzy,<-zzy,<-r,Ij<|by rw[zzn];omega]
  have⟨p,hp⟩:∃p,C[i]?=some p:=⟨_,zzg dp⟩;rw[hp]at m;cases eq:D[i]? with
  |none=>grind
  |some q=>
   rw[eq]at m;have b:q.1=p.1:=by grind
   have x:=d i q.1 q.2 eq;have a:=c1 i p.1 p.2 hp;rw[e,b]at x;simp only[rP,hp,eq];exact CE.det h.2 (Ac.at_ h.1 c1 i) x.1 a.1 x.2 a.2
theorem JC.det{X:List Rec}(c:1<=K/\K<18446744073709551616)(h:JC K X s)(F:JC K X f):s=f:=by
 have⟨C,c1,c2,c3⟩:=h;have⟨D,a,d,b⟩:=F;have l:D.length=C.length:=by
  have e:(D.map (·.1)).length=(C.map (·.1)).length:=by rw[c2,d]
  simpa using e
 rw[<-c3,<-b,l];exact(NZ c c1 a (by rw[c2,d];exact List.prefix_refl _) _<|zzc _).symm
theorem JC.next{e F:List Rec}{x:Rec}(g:1<=K/\K<2^64)(h:JC K e s)(i:JC K F f)(hp:e++[x]<+:F):∃b,CE s x b/\Ac K s/\Ac K b/\JC K (e++[x]) b:=by
 have⟨C,c1,c2,c3⟩:=h;have⟨D,d,c,_⟩:=i;have k:=NZ g c1 d (by rw[c2,c];exact(List.prefix_append e [x]).trans hp);have⟨rest,r⟩:=hp;have l:C.length=e.length:=by grind
 have hx:(D[e.length]?).map (·.1)=some x:=by rw[<-zzy,c,<-r];simp
 cases eq:D[e.length]? with
 |none=>grind
 |some q=>
  rw[eq]at hx;have j:q.1=x:=by grind
  have a:=d _ q.1 q.2 eq;rw[j,k _ dp,<-l,c3]at a;exact⟨q.2,a.1,c3▸Ac.at_ g.1 c1 _,a.2,C++[(x,q.2)],c1.snoc (by rw[c3];exact a.1) a.2,by rw[BB,c2];rfl,yM kK C x q.2⟩
structure af3(K n:Nat)(R:au × aj × Nat):Prop where
 adG:∀r∈R.1.recs,r.kind<256
 first:(h_ R.1.recs).2.1=0->pF R.1.recs R.1.next=1
 X8:∀r∈R.1.recs,mG r.pay/\r.pay.length<=4096
 ch:∃s,JC K (counted R.1.recs) s
 room:(counted R.1.recs).length+1<maxLen
 le:n<=1000000000
structure FY(K B p bD bN:Nat)(Pr:au × aj × Nat->Nat->Prop)(w:nL):Prop where
 bP:∃pv d n nD nN,aC w B p bD bN pv d n nD nN
 jop:∀W,Fr [] w W->Calls prog 87 #[fS p] W λe w'=>∃R n,Pr R n/\uf B p bD bN n R W e w'
 ok:∀R n,Pr R n->R.2.2=0->af3 K n R
 lt:1<=K/\K<2^64
def CoX(K B p D N:Nat)(R:au × aj × Nat)(n:Nat)(w:nL)(e:Ending)(w':nL):Prop :=
 (R.2.2=0/\∃a g T l c s,e=.returned (.tuple #[gx a,.nilIface])/\(JC K (counted R.1.recs) s/\En c s/\c.res=[]/\c.out=[])/\CL w' B a g T (counted R.1.recs).length l p D N n { c with next:=c.aH } R.1 R.2.1/\(w.heap.size<=a/\w.heap.size<=T/\w.heap.size<=g/\rd a w'=[])/\Px p [] w w'/\∀k,k<w.heap.size->Own l p w' k->nj p w k) \/
 (R.2.2≠0/\e=.returned (.tuple #[.pointer none,bB R.2.2])/\(∃pv b d,aC w' B p D N pv R.2.1 n b d)/\qQ p w w')
theorem U4(K B p D N:Nat)(r:au×aj×Nat->Nat->Prop)(w:nL)(h:FY K B p D N r w):
  Calls prog 89 #[fS p] w λe w'=>∃R n,r R n/\CoX K B p D N R n w e w':=by
 have Gx:=@run_makeMap prog;have⟨pv,d,n0,nD,nN,l⟩:=h.bP;have iB:=l.base;have IX:=l.now.lt;have XM:=l.lB.lt;have⟨W,i⟩:∃W,W=(w.alloc<|.map #[] 0).alloc (ub 0 w.heap.size ⟨[],0,1,0,[],[]⟩ (.slice none 0 0)<|.slice none 0 0):=⟨_,rfl⟩;have kO:Fr [] w W:=by rw[i];exact((fU w).alloc _).alloc _
 have a1:W.heap.size=w.heap.size+2:=by rw[i];simp
 have Y:W.heap[w.heap.size+1]?=some (ub 0 w.heap.size ⟨[],0,1,0,[],[]⟩ (.slice none 0 0)<|.slice none 0 0):=by
  rw[i];have:=oz (w.alloc<|.map #[] 0)<|ub 0 w.heap.size ⟨[],0,1,0,[],[]⟩ (.slice none 0 0)<|.slice none 0 0;rwa [zzv]at this
 have v:xt W (w.heap.size+1) w.heap.size 0 ⟨[],0,1,0,[],[]⟩:=by
  refine⟨Y,?_,du,⟨rfl,rfl⟩⟩;rw[i];exact(dV.made w).fr ((fU _).alloc _) dv
 have V:=LZ B p D N (w.heap.size+1) w.heap.size r (λm A=>∃c s,xt A (w.heap.size+1) w.heap.size m.length c/\En c s/\JC K m s) W ⟨_,_,v,En.first,[],Cb _ _,rfl,rfl⟩ (λm A A' E _ hb=>by obtain⟨c,s,z,C⟩:=E;exact⟨c,s,z.keep hb,C⟩) ⟨_,Y⟩ v.aD.isMap ⟨_,_,_,_,_,l.new kO⟩ ⟨by omega,by omega⟩
  (λZ X=>h.jop Z (kO.trans X)) (λR n hp h0=>by
   have o:=h.ok R n hp h0;have⟨f,hf⟩:=o.ch;refine⟨o.adG,o.first,o.X8,λm x n' fp A Q E l1 l2 gI=>?_,o.le⟩;have⟨c,s,z,C,h3⟩:=E;have⟨T,g1,P,g3,g4⟩:=h3.next h.lt hf Q;have hlen:=Q.length_le;rw[zzi,List.length_singleton]at hlen;apply(YF n' _ _ m.length fp K c s T x A z C g1 P g3 h.lt.2 gI (by have:=o.room;omega) ⟨l1,l2⟩).mono;rintro e w' ⟨rfl,⟨c',q1,q2⟩,q3⟩
   exact⟨rfl,⟨c',T,by rw[zzi,List.length_singleton];exact q1,q2,g4⟩,q3⟩)
 have F:=ah<|show Fr [] w W/\aC w B p D N pv d n0 nD nN from ⟨kO,l⟩
 go_enter func89,ntmps89;go_wp2_with fail;have j:W=(w.alloc<|.map #[] 0).alloc (.cells #[.pointer none,.map<|some w.heap.size,.int .u64 0,.int .u64 1,.int .u64 0,.slice none 0 0,.slice none 0 0] 194):=i;rw[<-j];refine V.mono ?_;rintro e g ⟨R,n,Ej,⟨lx,gp,lp,rfl,⟨K',s,l6,II,hjc⟩,⟨mj,tV,gM,nK,nG,eK⟩,qG,Ly,xr,ng⟩|⟨lx,rfl,hdd,sL⟩⟩
 rotate_left
 .have u:=F.2;have I:=F.1;have U:qQ p w g:=⟨sL.os.trans I.os,sL.tape.trans I.tape,sL.output.trans I.output,by have:=sL.size;omega,λk b o=>(sL.block k (by omega) λG=>o<|(u.fI k).2<|((u.new I).fI k).1 G).trans<|I.block k b dv,λk b o=>(u.fI k).2<|((u.new I).fI k).1<|sL.stay k dp o⟩;have M:Hid (∃R' n,r R' n/\CoX K B p D N R' n w (.returned<|.tuple #[.pointer none,bB R.2.2]) g):=⟨R,n,Ej,.inr ⟨lx,rfl,hdd,U⟩⟩;rw[aV lx]at M ⊢;go_wp2;go_ret2;exact M.out
 have q:=ah<|show r R n/\R.2.2=0/\JC K (counted R.1.recs) s/\En K' s/\K'.res=[]/\K'.out=[]from ⟨Ej,lx,hjc,II,l6.emp⟩;have c0:=af l6.blk 0;have c2:=af l6.blk 2;have c3:=af l6.blk 3;have f0:=aq l6.blk 0;have f2:=aq l6.blk 2;simp at c0 c2 c3;have J:=l6.gw;have⟨a,j⟩:∃a,a=(g.setCell ⟨w.heap.size+1,0,none⟩<|.pointer<|some ⟨gp,0,none⟩).setCell ⟨w.heap.size+1,2,none⟩ (.int .u64 (K'.aH:Int)):=⟨_,rfl⟩;have H:Fr [w.heap.size+1] g a:=by rw[j];exact(Fr.cG dv _ _).trans<|Fr.cG dv _ _
 have O:1<=gp:=dp;have y:a.heap[w.heap.size+1]?=some (ub gp w.heap.size {K' with next:=K'.aH} (.slice none 0 0)<|.slice none 0 0):=by
  have:=aF (aF l6.blk 0<|.pointer<|some ⟨gp,0,none⟩) 2<|.int .u64 (K'.aH:Int);simp at this;rw[j];unfold ub;rw[kq O];exact this
 have L:=eK.apart H (λk b _=>by
  simp at b;subst b;exact⟨eK.free l6.blk du du du du du,λt e=>by rw[l6.blk]at e;cases e⟩)
 have S:=ah (show CL a B (w.heap.size+1) gp w.heap.size (counted R.1.recs).length lp p D N n {K' with next:=K'.aH} R.1 R.2.1/\(rd (w.heap.size+1) a=[])/\Px p [] w a/\∀k,k<w.heap.size->Own lp p a k->nj p w k from by
  refine⟨⟨⟨⟨_,_,y,by show World.ownsRow _ _ _ _ _ K'.res.length (lj K'.res);rw[l6.emp.1];exact zzu _ _ _ _,by show World.ownsRow _ _ _ _ _ K'.out.length (jv K'.out);rw[l6.emp.2];exact zzu _ _ _ _,by show C7 _ K'.res.length _;rw[l6.emp.1];exact C7.nil _,by show C7 _ K'.out.length _;rw[l6.emp.2];exact C7.nil _⟩,l6.aD.fr H dv,⟨dp,dp,by have:=H.size;have:=xr.size;omega⟩,⟨J.2.1,J.2.1,J.2.2⟩⟩,⟨mj,tV,gM,nK,nG,L⟩,(H.block gp (zza.1 qG).1 ef).trans qG,⟨dp,dp⟩,O⟩,(by unfold rd;rw[y];rfl),?_,?_⟩
  .have I:=F.1;have u:=F.2;refine⟨H.os.trans<|xr.os.trans I.os,H.tape.trans<|xr.tape.trans I.tape,H.output.trans<|xr.output.trans I.output,by have:=H.size;have:=xr.size;omega,λk b o _=>?_⟩;rw[H.block k (by have:=xr.size;omega) ef,xr.block k dp (λG=>o<|(u.fI k).2<|((u.new I).fI k).1 G) ef,I.block k b dv]
  .intro k b o;exact(F.2.fI k).2 (((F.2.new F.1).fI k).1 (ng k dp ((eK.own k).2 ((L.own k).1 o)))))
 have d2:(g.setCell ⟨w.heap.size+1,0,none⟩<|.pointer<|some ⟨gp,0,none⟩).cell? ⟨w.heap.size+1,2,none⟩=some (.int .u64 (K'.next:Int)):=by
  have:=af (aF l6.blk 0<|.pointer<|some ⟨gp,0,none⟩) 2;simpa using this
 have d3:(g.setCell ⟨w.heap.size+1,0,none⟩<|.pointer<|some ⟨gp,0,none⟩).cell? ⟨w.heap.size+1,3,none⟩=some (.int .u64 (K'.aH:Int)):=by
  have:=af (aF l6.blk 0<|.pointer<|some ⟨gp,0,none⟩) 3;simpa using this
 have P:=aq (aF l6.blk 0<|.pointer<|some ⟨gp,0,none⟩) 2;go_wp2;rw[<-j];go_ret2;exact⟨R,n,q.1,.inl ⟨q.2.1,w.heap.size+1,gp,w.heap.size,lp,K',s,rfl,q.2.2,S.1,⟨dp,dp,dp,S.2.1⟩,S.2.2⟩⟩
theorem U5(K B p D N:Nat)(r:au×aj×Nat->Nat->Prop)(w:nL)(h:FY K B p D N r w):
  Calls prog 31 #[fS p] w λe w'=>∃R n,r R n/\CoX K B p D N R n w e w':=by
 have C:=ah<|U4 K B p D N r w h
 go_enter func31,ntmps31;go_wp2_with fail;apply C.out.mono;rintro e d ⟨R,n,Ej,hx⟩;have V:∃a b,e=.returned (.tuple #[a,b]):=by
  rcases hx with⟨_,_,_,_,_,_,_,rfl,_⟩|⟨_,rfl,_⟩<;>exact⟨_,_,rfl⟩
 obtain⟨v,c,rfl⟩:=V;have H:Hid (∃R n,r R n/\CoX K B p D N R n w (.returned<|.tuple #[v,c]) d):=⟨R,n,Ej,hx⟩;go_wp2;go_ret2;exact H.out
end
variable{s:List Nat}{ss:List Sg}{B N a g h hp m m0 mk n p t:Nat}{d:aj}{l:au}{c:bL}{T:fQ}{w w':nL}
def jZ(L:List (Nat × fQ))(t:Nat):Option (List Nat):=(bJ L t).bind λT=>if T.state=6 then some (bV fG T.parts) else none
def ru(L:List (Nat × fQ)):List (Nat × List Nat):=((wy L (jO L)).filter Qh).map λx=>(x.1,bV fG x.2.parts)
def bL.cst(c:bL):qE:=⟨c.aH,ru c.aD⟩
theorem aby(c:bL):(vk c).map yC=Qy c.cst:=by
 unfold vk Qy nw bL.cst ru;rw[List.map_cons,List.map_map,List.map_map];rfl
section
variable{L L':List (Nat × fQ)}{t:Nat}
theorem jP(h:fM L){q:Nat×List Nat}:q∈ru L↔jZ L q.1=some q.2:=by
 have⟨t,s⟩:=q;unfold ru jZ;constructor
 .intro hm;have⟨x,hx,e⟩:=zzq.1 hm;have⟨b,c⟩:=zzp.1 hx;cases e;rw[jR h<|show(x.1,x.2)∈L from ui h b];simp[show x.2.state=6 by simpa [Qh]using c]
 .intro e;cases l:bJ L t with
  |none=>grind
  |some T=>
   rw[l]at e;have a:(if T.state=6 then some (bV fG T.parts)else none)=some s:=e;split at a
   .rename_i h6;cases a;refine zzq.2 ⟨(t,T),zzp.2 ⟨?_,by simp[Qh,h6]⟩,rfl⟩;refine zzq.2 ⟨t,?_,by rw[l];rfl⟩;unfold jO;exact List.mem_mergeSort.2<|zzq.2 ⟨_,eO l,rfl⟩
   .cases a
theorem oN(h:fM L):ql (ru L):=by
 have s:=List.pairwise_mergeSort (le:=λa b:Nat=>decide<|a<=b) (by intro a b c;simp;omega) (by intro a b;simp;omega)<|L.map (·.1)
 have hn:(jO L).Nodup:=by
  unfold jO;apply(List.mergeSort_perm _ _).nodup_iff.2;unfold List.Nodup;rw[zv];exact h
 have W:(jO L).Pairwise (· < ·):=by
  have d:=s.imp λh=>by simpa using h
  exact(List.pairwise_and_iff.2 ⟨d,hn⟩).imp λ⟨a,b⟩=>Nat.lt_of_le_of_ne a b
 have e:(wy L<|jO L).Pairwise λp q=>p.1<q.1:=by grind[wy]
 unfold ql ru;rw[zv];exact List.Pairwise.filter _ e
theorem Eo(h:fM L)(a:fM L')(e:∀x,jZ L' x=jZ L x):ru L'=ru L:=
 (oN a).ext (oN h) λq=>by rw[jP a,jP h,e]
theorem Ep(h:fM L)(hn:jZ L t=none):∀p∈ru L,p.1≠t:=by grind[jP]
theorem U_(h:fM L)(c:fM L'){s:List Nat}(hn:jZ L t=none)(d:∀x,jZ L' x=if x=t then some s else jZ L x):ru L'=Ab (ru L) (t,s):=
 (oN c).ext ((oN h).ins<|Ep h hn) λq=>by
  rw[jP c,oM,jP h,d];have⟨a,b⟩:=q;by_cases e:a=t
  .grind
  .simp[e]
theorem Va(h:fM L)(a:fM L')(b:∀x,jZ L' x=if x=t then none else jZ L x):ru L'=U1 (ru L) t:=
 (oN a).ext ((oN h).del t) λq=>by
  rw[jP a,xA,jP h,b];by_cases e:q.1=t<;>simp[e]
end
theorem tq{L:List (Nat×fQ)}(x:Nat):jZ (dt L t T) x=if x=t then (if T.state=6 then some (bV fG T.parts)else none)else jZ L x:=by grind[jZ,kc]
theorem Cf{L:List (Nat×fQ)}(x:Nat):jZ (dU L t) x=if x=t then none else jZ L x:=by grind[jZ,js]
theorem YG(h:fM c.aD)(a:jZ c.aD t=none)(b:T.state≠6):ru (dt c.aD t T)=ru c.aD:=
 Eo h (h.put _ _) λx=>by
  rw[tq];by_cases e:x=t
  .grind
  .simp[e]
theorem CE.UG(s:qE)(n M:Nat)(h:s.lim<=M):CE s ⟨n,1,be 8 M⟩ ⟨M,s.ds⟩:=.inl ⟨rfl,rfl,h,rfl⟩
theorem CE.comm(h:fM c.aD)(n t:Nat)(T:fQ)(d:T.state=6)(a:jZ c.aD t=none)(b:0<t/\t<c.aH)(u:RD<|bV fG T.parts):CE c.cst ⟨n,2,be 8 t++bV fG T.parts⟩ ⟨c.aH,ru<|dt c.aD t T⟩:=
 .inr (.inl ⟨rfl,t,_,rfl,b.1,b.2,Ep h a,u,rfl,U_ h (h.put _ _) a λx=>by rw[tq,oo d]⟩)
theorem CE.ended(h:fM c.aD)(n t:Nat)(a:jZ c.aD t=some s):CE c.cst ⟨n,3,be 8 t⟩ ⟨c.aH,ru<|dU c.aD t⟩:=
 .inr (.inr ⟨rfl,t,rfl,⟨(t,s),(jP h).2 a,rfl⟩,rfl,Va h (h.del _) λx=>Cf x⟩)
theorem Vb(e k:Nat)(h:k<9)(xs:List Nat):∀ps:List Nat,ps.length=9->(xs.foldl (λps x=>ps.set x e) ps).getD k 0=if k∈xs then e else ps.getD k 0:=by
 induction xs with
 |nil=>grind
 |cons x xs ih=>grind
theorem qQ.vR(hf:qQ p w w'):kI hp p none none w w':=
 ⟨hf.os,hf.tape,hf.output,hf.size,λk h hn=>hf.block k h (λo=>hn (fY.2 (.inr o))),λk h o=>by
  obtain e|e:=fY.1 o
  .grind [fY]
  .exact fY.2 (.inr (hf.stay k h e))⟩
theorem kI.abw{D c:Nat}{pv:Value}{H:Option (Nat×List Nat)}(hf:kI hp p none H w w')(a:aC w B p h N pv d n D c)(i:B<=hp):Below B w w':=
 hf.below a.base.2.2.2 (λk b=>by
  obtain e|e:=fY.1 b
  .omega
  .exact a.geD e)
def AQ(K B hp p D N:Nat)(R:au × aj × Nat)(n:Nat)(so:Option (Nat × List Nat))(w:nL)(e:Ending)(w':nL):Prop :=
 e=.returned (.int .i64 (R.2.2:Int))/\Below B w w' /\
 ((R.2.2=0/\∃a g T l c s,(JC K (counted R.1.recs) s/\En c s/\c.res=[]/\c.out=[])/\mM w' B hp p a g T l D N (counted R.1.recs).length n { c with next:=c.aH } R.1 (R.2.1.aJ (-1) (-1))/\kI hp p so (cx a T l w') w w') \/
  (R.2.2≠0/\R.2.1.down=false/\ug w' B 3 hp p D N (R.2.1.aJ (-1) (-1)) n/\kI hp p so none w w') \/
  (R.2.2≠0/\R.2.1.down=true/\∃F o,Left R.2.1.ak R.2.1.pending F/\ug w' B 3 hp p D o (dP F) n/\kI hp p so none w w'))
theorem U6(B hp p D N n G L K:Nat)(P:au×aj×Nat->Nat->Prop)(pv V:Value)(up:Bool)(so:Option<|Nat×List Nat)(d:aj)(a b c k:Int)(w:nL)(hh:w.heap[hp]?=some (ee p up V))(TR:∃x,V=.pointer x)(Rv:∀z S,so=some (z,S)->z<w.heap.size)(a7:aC w B p D N pv d n G L)(hB:3<=B)(iN:B<=hp)(FO:Met w)
  (eN:∀W,aC W B p D N pv (d.aJ a b) n G L->Below B w W->FY K B p D N P W) (hr:∀R n,P R n->R.2.2=0->R.2.1.down=false) (qB:-2^63<=k) (mL:k<=9223372036854775807) :
  Calls prog 11 #[gx hp,kS a b c k] w λe w'=>∃R n,P R n/\AQ K B hp p D N R n so w e w':=by
 obtain⟨W,hW⟩:∃W,W=w.alloc (iE a b c k):=⟨_,rfl⟩;have dI:Fr [] w W:=by rw[hW];exact(fU w).alloc _
 have uh:=a7.new dI;have qI:=(zza.1 hh).1;have Ar:W.heap[hp]?=some (ee p up V):=(dI.block hp qI dv).trans hh;have oF:W.heap[nF w]?=some (iE a b c k):=by rw[hW];exact oz w _
 have mY:Below B w W:=dI.below a7.base.2.2.2 dv;have IB:kI hp p so so w W:=a7.Ux dI Rv;have x0:=af oF 0;have x1:=af oF 1;have x2:=af oF 2;have x3:=af oF 3;simp at x0 x1 x2 x3;rw[hW]at x0 x1 x2 x3;have HG:Hid (Met w):=FO;have HS:Hid ((∀W,aC W B p D N pv (d.aJ a b) n G L->Below B w W->FY K B p D N P W)/\∀R n,P R n->R.2.2=0->R.2.1.down=false):=⟨eN,hr⟩;have r:Hid (W.heap[hp]?=some (ee p up V)/\W.heap[nF w]?=some (iE a b c k)/\aC W B p D N pv d n G L/\Below B w W/\kI hp p so so w W):=⟨Ar,oF,uh,mY,IB⟩;go_enter func11,ntmps11;go_wp2_with fail;rw[<-hW];apply(BX 3 hp p D N pv _ _ up d.down d.left d.full a b c k W r.1 r.2.2.1.blk).mono;rintro e v ⟨rfl,dB,cY⟩;have kR:=r.2.2.1.fL cY a b d.down dB;have ag:hp≠p:=by intro e;have:=r.1;rw[e,r.2.2.1.blk]at this;cases this
 have AF:=(cY.block hp (zza.1 r.1).1<|by simpa using ag).trans r.1;have al:nF w≠p:=by intro e;have:=r.2.1;rw[e,r.2.2.1.blk]at this;cases this
 have oW:=(cY.block _ (zza.1 r.2.1).1<|by simpa using al).trans r.2.1;have Hg:=cY.below r.2.2.1.base.2.2.2 (by intro j h;simp at h;rw[h];exact r.2.2.1.base.1);have F:Hid (v.heap[hp]?=some (ee p up V)/\v.heap[nF w]?=some (iE a b c k)/\aC v B p D N pv (d.aJ a b) n G L/\Below B w v/\Fr [p] W v):=⟨AF,oW,kR,r.2.2.2.1.trans Hg,cY⟩;go_wp2_with fail;apply(AA 3 hp p up _ V ⟨_,rfl⟩ TR v F.1).mono;rintro e w2 ⟨rfl,CB,bH⟩;have qA:=F.2.2.1.lZ F.1 bH;have a8:w.heap.size≠hp:=by omega
 have iY:=(bH.block _ (zza.1 F.2.1).1<|by simpa using a8).trans F.2.1;have E7:=bH.below F.2.2.1.base.2.2.2 (by intro j h;simp at h;omega);have zo:=r.2.2.2.2.trans (r.2.2.1.vR qA ((F.2.2.2.2.mono (by intro j _ h;simp at h;simp[h]):Fr [hp,p] W v).trans<|bH.mono<|by intro j _ h;simp at h;simp[h]) (by intro j h;simp at h;obtain e|e:=h<;>simp[e]) (.inl rfl)<|bU.refl _ _);have lx:=af CB 0;have iy:=af CB 2;simp at lx iy;have Rm:=F.2.2.2.1.trans E7;have NM:Met w2:=HG.out.below Rm dp;have kN:=U5 K B p D N P w2<|HS.1 w2 qA Rm;have H:Hid (w2.heap[hp]?=some (ee p false<|.pointer none)/\w2.heap[nF w]?=some (iE a b c k)/\aC w2 B p D N pv (d.aJ a b) n G L/\Below B w w2/\kI hp p so none w w2/\Met w2):=⟨CB,iY,qA,Rm,zo,NM⟩;go_wp2_with fail;apply kN.mono;rintro e t ⟨R,n3,Ej,ZS⟩;have Wp:=HS.2 R n3 Ej;have HR:Hid (P R n3):=Ej;rcases ZS with⟨C,s,gp,U,z,y,st,rfl,Ry,ie,lL,u,zT⟩|⟨C,rfl,⟨M,J_,Hu,C2⟩,u⟩
 .have zy:t.heap[hp]?=some (ee p false<|.pointer none):=(u.block hp (zza.1 H.1).1 (H.2.2.1.kD H.1 du du) dv).trans H.1;have yr:=(u.block _ (zza.1 H.2.1).1 (H.2.2.1.kD H.2.1 du du) dv).trans H.2.1;have zX:Below B w2 t:=⟨u.os,u.tape,u.output,u.size,λq hq=>u.block q (zzl hq H.2.2.1.base.2.2.2) (λho=>by have:=H.2.2.1.geD ho;omega) dv⟩;have I_:=H.2.2.2.2.2.below zX dp;have ZN:=H.2.2.1.base.2.2.2;have an:=Wp C;have⟨f,A⟩:∃f,f=(t.setCell ⟨hp,6,none⟩<|Ql s).setCell ⟨hp,3,none⟩ (.bool true):=⟨_,rfl⟩
  have RE:f.heap[hp]?=some (ee p true<|Ql s):=by
   have:=aF (aF zy 6<|Ql s) 3<|.bool true;simp at this;rw[A];exact this
  have I:Fr [hp] t f:=by rw[A];exact(Fr.cG dv _ _).trans<|Fr.cG dv _ _
  have J:=(I.block _ (zza.1 yr).1<|by simpa using a8).trans yr;have q9:=ie.other I zy du du du du du du du du du du;have O:Below B t f:=I.below (by have:=u.size;omega) (by intro j h;simp at h;omega);have U7:=I_.below O dp;have jY:s≠hp:=by have:=lL.1;have:=(zza.1 H.1).1;omega
  have ad:rd s f=[]:=by unfold rd;rw[I.block s ie.co.jS.1<|by simpa using jY];exact lL.2.2.2
  have GJ:kI hp p none (cx s U z f) w2 f:=by
   have⟨M,av,ao,J_,Hu,nV⟩:=ie.lg;have nb:=nV.other I zy du du du du du du;refine⟨I.os.trans u.os,I.tape.trans u.tape,I.output.trans u.output,zzk u.size I.size,λq hq hn=>?_,λq hq ho=>?_⟩
   .rw[fY]at hn;simp only[not_or]at hn;exact(I.block q (zzl hq u.size)<|by simp;exact hn.1).trans<|u.block q hq hn.2 dv
   .rw[fY];obtain e|e|e:=cQ.1 ho
    .exact .inl e
    .exact .inr<|zT q hq<|(nV.own q).2<|(nb.own q).1 e
    .simp[ad]at e;omega
  have Y:=af J 0;have Z:=af J 1;have y2:=af J 2;have y3:=af J 3;simp at Y Z y2 y3;rw[A]at Y Z y2 y3;have m:Hid (f.heap[hp]?=some (ee p true<|Ql s)/\CL f B s gp U (counted R.1.recs).length z p D N n3 {y with next:=y.aH} R.1 R.2.1/\Below B w f/\kI hp p so (cx s U z f) w f/\(JC K (counted R.1.recs) st/\En y st/\y.res=[]/\y.out=[])):=⟨RE,q9,(H.2.2.2.1.trans zX).trans O,H.2.2.2.2.1.trans GJ,Ry⟩;have c3:=af zy 3;have c5:=af zy 6;have f3:=aq zy 3;have f5:=aq zy 6;have c2:=af zy 2;simp at c3 c5 c2;go_wp2_with fail;rw[<-A];apply(I9 B hp s gp U (counted R.1.recs).length z p D N n3 _ R.1 R.2.1 a b c k f m.1 m.2.1 qB mL).mono;rintro e i ⟨rfl,hz5⟩;rcases hz5 with⟨_,E,nY⟩|⟨e1,_⟩
  rotate_left
  .rw[an]at e1;cases e1
  have Q:=(nY.vR).below (m.2.1.xq iN).1 (m.2.1.xq iN).2;have zD:=U7.below Q dp;have g:Hid (mM i B hp p s gp U z D N (counted R.1.recs).length n3 {y with next:=y.aH} R.1 (R.2.1.aJ (-1)<|-1)/\Below B w i/\kI hp p so (cx s U z i) w i/\(JC K (counted R.1.recs) st/\En y st/\y.res=[]/\y.out=[])):=⟨E,m.2.2.1.trans Q,m.2.2.2.1.trans nY.vR,m.2.2.2.2⟩;go_wp2_with fail;apply(pW 0 i zD).mono;rintro e l ⟨rfl,il⟩;have BV:Hid (∃R n,P R n/\AQ K B hp p D N R n so w (.returned<|.int .i64 0) l):=by
   have⟨k1,k2⟩:=g.1.new il;refine⟨R,n3,HR.out,by rw[C];rfl,g.2.1.trans<|(k2.vR).below (g.1.2.xq iN).1 (g.1.2.xq iN).2,.inl ⟨C,s,gp,U,z,y,st,g.2.2.2,k1,g.2.2.1.trans k2.vR⟩⟩
  clear il;go_wp2;go_ret;exact BV.out
 .have zy:t.heap[hp]?=some (ee p false<|.pointer none):=(u.block hp (zza.1 H.1).1<|H.2.2.1.kD H.1 du du).trans H.1;have yr:=(u.block _ (zza.1 H.2.1).1<|H.2.2.1.kD H.2.1 du du).trans H.2.1;have zX:=u.below H.2.2.1;have I_:=H.2.2.2.2.2.below zX dp;have⟨f,A⟩:∃f,f=(t.setCell ⟨hp,6,none⟩<|.pointer none).setCell ⟨hp,3,none⟩ (.bool false):=⟨_,rfl⟩;have RE:f.heap[hp]?=some (ee p false<|.pointer none):=by
   have:=aF (aF zy 6<|.pointer none) 3<|.bool false;simp at this;rw[A];exact this
  have I:Fr [hp] t f:=by rw[A];exact(Fr.cG dv _ _).trans<|Fr.cG dv _ _
  have J:=(I.block _ (zza.1 yr).1<|by simpa using a8).trans yr;have OX:=C2.lZ zy I;have GJ:=(H.2.2.2.2.1.trans u.vR).trans (C2.vR OX I (by intro j h;simp at h;simp[h]) (.inl rfl)<|bU.refl _ _);have O:=I.below C2.base.2.2.2 (by intro j h;simp at h;omega);have U7:=I_.below O dp;have c3:=af zy 3;have c5:=af zy 6;have f3:=aq zy 3;have f5:=aq zy 6;have c2:=af zy 2;simp at c3 c5 c2;have ae:=AA 3 hp p false (.pointer none) (.pointer none) ⟨_,rfl⟩ ⟨_,rfl⟩ f RE;have m:Hid (f.heap[hp]?=some (ee p false<|.pointer none)/\f.heap[nF w]?=some (iE a b c k)/\aC f B p D N M R.2.1 n3 J_ Hu/\Below B w f/\kI hp p so none w f):=⟨RE,J,OX,(H.2.2.2.1.trans zX).trans O,GJ⟩;rw[aV C];go_wp2_with fail;rw[<-A];apply ae.mono;rintro e i ⟨rfl,Z8,iR⟩;have aa:=m.2.2.1.lZ m.1 iR;have E:=(iR.block _ (zza.1 m.2.1).1<|by simpa using a8).trans m.2.1;have nY:=m.2.2.2.2.trans (m.2.2.1.vR aa iR (by intro j h;simp at h;simp[h]) (.inl rfl)<|bU.refl _ _);have Q:=iR.below m.2.2.1.base.2.2.2<|by intro j h;simp at h;omega
  have zD:=U7.below Q dp;have Y:=af E 0;have Z:=af E 1;have y2:=af E 2;have y3:=af E 3;simp at Y Z y2 y3;have g:Hid (i.heap[hp]?=some (ee p false<|.pointer none)/\aC i B p D N M R.2.1 n3 J_ Hu/\Below B w i/\kI hp p so none w i):=⟨Z8,aa,m.2.2.2.1.trans Q,nY⟩;cases UM:R.2.1.down with
  |false=>
   have rE:=g.2.1.blk;rw[UM]at rE;go_wp2_with fail;apply(AJ 3 hp p D N M _ _ false R.2.1.left R.2.1.full a b c k i g.1 rE).mono;rintro e l ⟨rfl,CD,il⟩;have a':=CD;rw[<-UM]at a';have a1:=g.2.1.fL il (-1) (-1) R.2.1.down a';have U8:=(il.block hp (zza.1 g.1).1<|by simpa using ag).trans g.1;have GB:=g.2.2.2.trans (g.2.1.vR a1 il (by intro j h;simp at h;simp[h]) (.inl rfl)<|bU.refl _ _);have T:=il.below g.2.1.base.2.2.2 (by intro j h;simp at h;rw[h];exact g.2.1.base.1);have U9:=zD.below T dp;have o:Hid (l.heap[hp]?=some (ee p false<|.pointer none)/\aC l B p D N M (R.2.1.aJ (-1)<|-1) n3 J_ Hu/\Below B w l/\kI hp p so none w l):=⟨U8,a1,g.2.2.1.trans T,GB⟩;have X:=pW R.2.2 l U9;rw[aV C]at X;go_wp2_with fail;apply X.mono;rintro e w7 ⟨rfl,lU⟩;have BV:Hid (∃R' n',P R' n'/\AQ K B hp p D N R' n' so w (.returned<|.int .i64 (R.2.2:Int)) w7):=by
    refine⟨R,n3,HR.out,?_⟩;have ab:=o.2.1.new lU;exact⟨rfl,o.2.2.1.trans<|lU.below o.2.1.base.2.2.2 dv,.inr<|.inl ⟨C,UM,⟨(lU.block hp (zza.1 o.1).1 dv).trans o.1,_,_,_,ab⟩,o.2.2.2.trans<|o.2.1.Ux lU dv⟩⟩
   clear lU;go_wp2;go_ret;exact BV.out
  |true=>
   go_wp2_with fail;apply(xn 3 B hp p D N n3 J_ Hu M (.pointer none) (.pointer none) false R.2.1 a b c k none i dv g.1 ⟨_,rfl⟩ ⟨_,rfl⟩ g.2.1 UM qB mL).mono;rintro e l ⟨rfl,F',ow,ZO,⟨U8,pv6,nD6,nN6,a1⟩,GB⟩;have T:=GB.abw g.2.1 iN;have U9:=zD.below T dp;have o:Hid (l.heap[hp]?=some (ee p false<|.pointer none)/\aC l B p D ow pv6 (dP F') n3 nD6 nN6/\Below B w l/\kI hp p so none w l/\Left R.2.1.ak R.2.1.pending F'):=⟨U8,a1,g.2.2.1.trans T,g.2.2.2.trans GB,ZO⟩;have X:=pW R.2.2 l U9;rw[aV C]at X;go_wp2_with fail;apply X.mono;rintro e w7 ⟨rfl,lU⟩;have BV:Hid (∃R' n',P R' n'/\AQ K B hp p D N R' n' so w (.returned<|.int .i64 (R.2.2:Int)) w7):=by
    refine⟨R,n3,HR.out,?_⟩;have ab:=o.2.1.new lU;exact⟨rfl,o.2.2.1.trans<|lU.below o.2.1.base.2.2.2 dv,.inr<|.inr ⟨C,UM,F',ow,o.2.2.2.2,⟨(lU.block hp (zza.1 o.1).1 dv).trans o.1,_,_,_,ab⟩,o.2.2.2.1.trans<|o.2.1.Ux lU dv⟩⟩
   clear lU;go_wp2;go_ret;exact BV.out
theorem DF.dP{F:aG}(h:mN m F):DF m (dP F):=⟨h,h,λo a=>by cases a⟩
theorem kH.floor(h:kH l d mk ss []):DF mk d:=by
 have hf:mN mk d.ak:=λu f=>(oC (chunks ss) mk h.st.ne').2 u<|h.clean u f
 rcases h.mode with⟨_,c,e,_,_⟩|⟨_,_,_,b,_⟩|⟨b,_⟩
 .exact⟨hf,by rw[e];exact hf,λo a=>by rw[c]at a;cases a⟩
 .grind
 .grind
theorem kH.Vc{P:aG->Prop}(h:kH l d mk ss [])(e:P d.ak):iq P d:=by
 rcases h.mode with⟨_,b,c,_,_⟩|⟨_,_,_,a,_⟩|⟨a,_⟩
 .grind [iq.rest]
 .grind
 .grind
theorem Ch(l:au)(d:aj)(ns:List nS):(l.dR d ns).1.recs=l.recs/\(l.dR d ns).1.next=l.next:=by grind[au.dR,au.sync]
structure Vd(w:nL)(B hp p bD bN:Nat)(so:Option (Nat × List Nat))(d:aj)(n:Nat):Prop where
 host:∃up x,w.heap[hp]?=some (ee p up (.pointer x))
 lt:∀lp S,so=some (lp,S)->lp<w.heap.size
 bP:∃pv nD nN,aC w B p bD bN pv d n nD nN
theorem zE(rs:List Rec):(counted rs).length<=rs.length:=by grind[counted]
theorem mM.any{T f:Nat}(i:mM w B hp p a g T f h N m n c l d):Vd w B hp p h N (cx a T f w) d n:=by
 have⟨j,s⟩:=i;have⟨pv,o,v,D,k,b⟩:=s.lg;exact⟨⟨_,_,j⟩,λq S e=>by cases e;exact(zza.1 b.blk).1,⟨_,_,_,b.bP⟩⟩
theorem ug.any(a:ug w B 3 hp p h N d n):Vd w B hp p h N none d n:=by
 have⟨c,pv,D,f,b⟩:=a;exact⟨⟨_,_,c⟩,λq S e=>(by cases e),⟨_,_,_,b⟩⟩
theorem ug.fW{kd:Int}(a:ug w B kd hp p h N d n)(e:n<=m)(Z:m<=1000000000):ug w B kd hp p h N d m:=by
 have⟨c,pv,D,f,b⟩:=a;exact⟨c,pv,D,f,b.fW e Z⟩
theorem CL.fW{T m' b n':Nat}(e:CL w B a g T m b p h N n c l d)(q:n<=n')(Z:n'<=1000000000)(x:m<=m'):CL w B a g T m' b p h N n' c l d:=by
 have⟨f,⟨pv,s,v,D,r,o⟩,i,j,k⟩:=e;exact⟨f.mono x,⟨pv,s,v,D,r,o.fW q Z⟩,i,j,k⟩
theorem Ve{so:Option (Nat×List Nat)}{P:aG->Prop}(kept part:Int)(a:Vd w B hp p h N so d n)(s:iq P d)(hf:DF m0 d)(A:-2^63<=part)(G:part<=9223372036854775807):
  Calls prog 40 #[gx hp,.int .i64 kept,.int .i64 part] w λe w'=>e=.returned (.tuple #[])/\∃F o,P F/\mN m0 F/\ug w' B 3 hp p h o (dP F) n/\kI hp p so none w w':=by
 have⟨⟨up,x,c⟩,_,pv,D,f,b⟩:=a;apply(Ym 3 B hp p h N n D f pv (.pointer none) (.pointer x) up d kept part so w c ⟨_,rfl⟩ ⟨_,rfl⟩ b A G).mono;rintro e w' ⟨he,F,o,hl,hc,hx⟩;exact⟨he,F,o,s.left F hl,hf.left hl,hc,hx⟩
def Vf(B hp p D N n m0 c:Nat)(cs:List qE)(Q:Nat->List Sg->Prop)(a b:Int)(so:Option (Nat × List Nat))(w:nL)(e:Nat)(w':nL):Prop :=
 ∃mk ss,Q mk ss/\m0<=mk /\
 ((e=0/\∃f h T g x l d R,R∈cs/\(En x R/\x.res=[]/\x.out=[])/\mM w' B hp p f h T g D N l.recs.length (n+(mk-m0)+1) { x with next:=x.aH } l d/\d.down=false/\kH l d mk ss []/\kJ d.ak mk ss/\ny kK c mk (chunks ss).flatten R/\kI hp p so (cx f T g w') w w') \/
  ((e=9\/e=10)/\(0<=a\/0<=b)/\∃o d,ug w' B 3 hp p D o d (n+(mk-m0)+1)/\d.down=false/\iq (Holds Q) d/\DF m0 d/\kI hp p so none w w'))
theorem Z9{j M c:Nat}{cs:List qE}{so:Option (Nat×List Nat)}{Q:Nat->List Sg->Prop}(a b c3 k:Int)(z:Vd w B hp p h j so d n)(hs:iq (Holds Q) d)(hf:DF m0 d)(s:d.down=false)(hQ:∀mk ss,Q mk ss->Qw kK c cs M N mk ss)(hM:m0<=M)(T:1<=c/\c<2^64)(P:3<=B)(iN:B<=hp)(FO:Met w)(dK:dJ w)(vP:nZ w)(hN:N+1<=n)(hn:n+(N-m0)+10<=1000000000)(ha:-2^63<=a)(hb:-2^63<=b)(qB:-2^63<=k)(mL:k<=9223372036854775807):
  Calls prog 11 #[gx hp,kS a b c3 k] w λe w'=>∃O:Nat,e=.returned (.int .i64 (O:Int))/\Below B w w'/\Vf B hp p h j n m0 c cs Q a b so w O w':=by
 obtain⟨⟨up,x,hh⟩,bW,pv,nD,nN,hd⟩:=z;have⟨⟨mk,ss,g,U,D⟩,UU⟩:=hs.now s;have⟨⟨v,a7,Y⟩,ab,kB⟩:=hQ mk ss D;have⟨C,S,K,L⟩:=Y.ch;have Gu:ss.length<=(chunks ss).flatten.length:=by have:=yL g.ne';simpa using this
 have pN:(chunks ss).flatten.length<=N:=by grind[az]
 have CJ:ss.length+1<=n:=dp;have Z:∀us,kY d.now mk ss us->us.length<=(mk-m0)+1:=λus u=>Dn g u hf.now
 have a':mk<=N:=by grind[az]
 have kN:=λus u=>abq (us:=us) (hs.aJ a b) s g U u
 have aa:C.length=(counted (chunks ss).flatten).length:=by grind
 refine(U6 B hp p h j n nD nN c (λR n'=>∃us,kY d.now mk ss us/\R=(cL mk ss).dR (d.aJ a b) (us.map aw)/\n'=n+us.length) pv _ up so d a b c3 k w hh ⟨_,rfl⟩ bW hd P iN FO (λW t SW=>⟨⟨_,_,_,_,_,t⟩,λI H=>?_,λR n' E f=>?_,T⟩) (λR n' E f=>?_) qB mL).mono ?_
 .have lD:Below B w I:=SW.trans (H.below t.base.2.2.2 dv);apply(P_ B p h j n nD nN mk ss pv (d.aJ a b) I (t.new H) P s g U.begun (dK.cZ<|lD.block 1 dp) (vP.below lD dp) dp CJ dp λus u=>by have:=Z us u;omega).mono;rintro e w' ⟨us,u,kP⟩;exact⟨_,_,⟨us,u,rfl,rfl⟩,kP⟩
 .obtain⟨us,u,rfl,rfl⟩:=E;have⟨V,y⟩:=Ch (cL mk ss) (d.aJ a b)<|us.map aw;have V:((cL mk ss).dR (d.aJ a b)<|us.map aw).1.recs=(chunks ss).flatten:=V;have y:((cL mk ss).dR (d.aJ a b)<|us.map aw).1.next=az mk ss:=y;have q:=zE (chunks ss).flatten;refine⟨λr i=>?_,λf=>?_,λr i=>?_,?_,?_,by have:=Z us u;omega⟩
  .rw[V]at i;exact(g.fine r i).1
  .rw[V]at f ⊢;rw[y];have l:mk=1:=Y.cp.resolve_right λz=>z f
   cases hf:(chunks ss).flatten with
   |nil=>show az mk ss=1;unfold az;rw[hf];simp;exact l
   |cons r rs=>have:=g.gw 0 r (by rw[hf];rfl);show r.cW=1;omega
  .rw[V]at i;exact⟨(g.fine r i).2.2,by have:=(g.fine r i).2.1;omega⟩
  .rw[V];exact⟨v,C,S,K,L⟩
  .rw[V];unfold maxLen;omega
 .obtain⟨us,u,rfl,rfl⟩:=E;obtain l|l:=kN us u<;>grind
 .rintro e w' ⟨R,n',⟨us,u,rfl,rfl⟩,he,x_,th⟩;have hl:=Z us u;refine⟨_,he,x_,mk,ss,D,dp,?_⟩;have⟨V,_⟩:=Ch (cL mk ss) (d.aJ a b)<|us.map aw;have V:((cL mk ss).dR (d.aJ a b)<|us.map aw).1.recs=(chunks ss).flatten:=V;have mZ:¬(0<=a\/0<=b)->((cL mk ss).dR (d.aJ a b)<|us.map aw).2.2≠9/\((cL mk ss).dR (d.aJ a b)<|us.map aw).2.2≠10:=λhn=>Mc _ (ur s dp dp ha hb _)<|by rw[zzn];omega
  have sL:DF m0 ((cL mk ss).dR (d.aJ a b)<|us.map aw).2.1:=(hf.aJ a b).dR _;rcases kN us u with⟨m,o,G,o4⟩|⟨m,o,G⟩
  .rcases th with⟨_,cp,gp,bT,lp,s',st,X,a1,hx⟩|⟨f,_⟩|⟨f,_⟩
   .obtain⟨hh',El⟩:=a1;have a8:=JC.det T (by have:=X.1;rw[V]at this;exact this) ⟨C,S,K,L⟩;exact .inl ⟨m,cp,gp,bT,lp,s',_,_,v,a7,a8▸X.2,⟨hh',El.fW dp dp<|zE _⟩,o,G.aJ _ _,o4,Y,hx⟩
   .exact absurd m f
   .exact absurd m f
  .have Z_:iq (Holds Q) ((cL mk ss).dR (d.aJ a b) (us.map aw)).2.1:=G.mono (λF A=>by
    obtain A|⟨l,h2⟩:=A
    .exact A
    .exact⟨mk,ss,l,h2,D⟩)
   rcases th with⟨f,_⟩|⟨_,Az,q,hx⟩|⟨_,Az,F',ow,J,q,hx⟩
   .exact absurd f m
   .rcases o with o|o
    .exact .inr ⟨.inl o.1,Classical.byContradiction λhn=>(mZ hn).1 o.1,j,_,q.fW dp dp,o.2,Z_.aJ _ _,sL.aJ _ _,hx⟩
    .grind
   .rcases o with o|o
    .grind
    .exact .inr ⟨.inr o.1,Classical.byContradiction λhn=>(mZ hn).2 o.1,ow,_,q.fW dp dp,rfl,lr<|Z_.left F' J,DF.dP<|sL.left J,hx⟩
section
open Go.Shelf
theorem QC(w:nL)(n:Nat)(hn:n<=1000000000):
  Calls prog 10 #[.int .i64 3,.int .i64 0] w λe w'=>∃hp p D N,e=.returned (gx hp)/\w'.heap[hp]?=some (ee p false<|.pointer none)/\aC w' w.heap.size p D N (.slice none 0 0) ⟨λ_=>none,λ_=>none,[],-1,-1,false⟩ n 0 0/\w.heap.size<=hp/\Below w.heap.size w w':=by
 have x:=@run_makeMap prog
 go_enter func10,ntmps10
 go_wp2_with fail;have⟨W,h⟩:∃W,W=((w.alloc<|.map #[] 0).alloc<|.cells #[.map<|some w.heap.size,.map none,.slice none 0 0,.int .i64<|-1,.int .i64<|-1,.bool false] 65).alloc (ee (w.heap.size+1) false<|.pointer none):=⟨_,rfl⟩;have j:=h;rw[<-j];clear j;have z:W.heap.size=w.heap.size+3:=by rw[h];simp
 have Y:Below w.heap.size w W:=by rw[h];exact(((zzD _ w).alloc (zzc _) _).alloc dv _).alloc ef _
 have m:FileMap W w.heap.size 0 (λ_=>none):=by rw[h];exact((FileMap.made w).alloc _).alloc _
 have O:W.heap[w.heap.size+1]?=some (.cells #[.map<|some w.heap.size,.map none,.slice none 0 0,.int .i64<|-1,.int .i64<|-1,.bool false] 65):=by
  rw[h,zzf _ _ (w.heap.size+1) dv];have:=oz (w.alloc<|.map #[] 0)<|.cells #[.map<|some w.heap.size,.map none,.slice none 0 0,.int .i64<|-1,.int .i64<|-1,.bool false] 65;rw[zzv]at this;exact this
 have b:W.heap[w.heap.size+2]?=some (ee (w.heap.size+1) false<|.pointer none):=by
  rw[h];have:=oz ((w.alloc<|.map #[] 0).alloc<|.cells #[.map<|some w.heap.size,.map none,.slice none 0 0,.int .i64<|-1,.int .i64<|-1,.bool false] 65)<|ee (w.heap.size+1) false<|.pointer none;rw[zzv,zzv]at this;exact this
 clear h;have c:Hid (W.heap[w.heap.size+2]?=some (ee (w.heap.size+1) false<|.pointer none)):=b;apply(Tl w.heap.size (w.heap.size+1) w.heap.size n 0 (.slice none 0 0) (.map none) ⟨λ_=>none,λ_=>none,[],-1,-1,false⟩ W O ⟨dp,by omega,by omega⟩ m dp hn<|by intro k t f;cases f).mono;rintro e a ⟨rfl,kR,cY⟩;have F:a.heap[w.heap.size+1+1]?=some (ee (w.heap.size+1) false<|.pointer none):=(cY.block (w.heap.size+2) (by omega) dv).trans c.out;have B:=Y.trans (cY.below dp<|by intro k d;simp at d;omega);have H:Hid (aC a w.heap.size (w.heap.size+1) w.heap.size W.heap.size (.slice none 0 0) ⟨λ_=>none,λ_=>none,[],-1,-1,false⟩ n 0 0/\Below w.heap.size w a/\a.heap[w.heap.size+1+1]?=some (ee (w.heap.size+1) false<|.pointer none)):=⟨kR,B,F⟩;clear kR cY F B O b m Y;go_wp2;go_ret;exact⟨w.heap.size+1+1,w.heap.size+1,w.heap.size,W.heap.size,rfl,H.2.2,H.1,dp,H.2.1⟩
theorem QD(B hp p b g T o D N m n t:Nat)(c:bL)(l:au)(d:aj)(w:nL)(h:mM w B hp p b g T o D N m n c l d)(k:t<2^64):
  Calls prog 68 #[gx hp,.int .u64 (t:Int)] w λe w'=>e=.returned (.int .i64 (jI (c.tx t).state:Int))/\w'=w:=by
 have⟨i,s⟩:=h;have j:=af i 6;simp at j;have a:=Ls B b g T m t c w s.co k;have⟨R,f⟩:=gb <|jI (c.tx t).state;rw[<-f]at a ⊢;clear i s f;go_enter func68,ntmps68;go_wp2_with fail;apply a.mono;clear a;rintro e q ⟨rfl,rfl⟩;go_wp2;go_ret;exact⟨rfl,rfl⟩
theorem QE(B hp p b g T o D N m n t:Nat)(c:bL)(l:au)(d:aj)(w:nL)(h:mM w B hp p b g T o D N m n c l d)(k:t<2^64):
  Calls prog 66 #[gx hp,.int .u64 (t:Int)] w λe w'=>e=.returned (.int .i64 ((c.tx t).state:Int))/\w'=w:=by
 have⟨i,s⟩:=h;have j:=af i 6;simp at j;have a:=ke B b g T m t c w s.co k;have⟨R,f⟩:=gb <|(c.tx t).state;rw[<-f]at a ⊢;clear i s f;go_enter func66,ntmps66;go_wp2_with fail;apply a.mono;clear a;rintro e q ⟨rfl,rfl⟩;go_wp2;go_ret;exact⟨rfl,rfl⟩
theorem Ml(B hp p a b T f D N m n:Nat)(c:bL)(l:au)(d:aj)(w:nL)(h:mM w B hp p a b T f D N m n c l d):
  Calls prog 124 #[gx hp] w λe w'=>∃v,e=.returned v/\w'.ownsRow B 174 2 v c.res.length (lj c.res)/\(c.res.length=0->v=.slice none 0 0)/\(∀g,v.ownBlock=some g->g∈rd a w)/\mM w' B hp p a b T f D N m n {c with res:=[]} l d/\(∀g,v.ownBlock=some g->g∉rd a w')/\Fr [a] w w'/\jJ a T f p w w':=by
 have q:=af h.1 6;simp at q;have i:=IA B a b T m c w h.2.co;have H:=ah h;clear h;go_enter func124,ntmps124;go_wp2_with fail;apply i.mono;clear i;rintro e u ⟨v,rfl,h1,h0,h2,h3,h4,h5,h6⟩;obtain⟨r,t,s,rfl⟩:=dN h1;have⟨k,j⟩:=H.out.fL h3 (gQ.mono h6 dv);have o:=ah<|zzb h1<|zzb h0<|zzb h2<|zzb k<|zzb h4<|zzb h5 j;clear h1 h0 h2 h3 h4 h5 h6 k j;go_wp2;go_ret;exact⟨_,rfl,o.out⟩
theorem abA(B hp p a b T f D N m n:Nat)(c:bL)(l:au)(d:aj)(w:nL)(h:mM w B hp p a b T f D N m n c l d):
  Calls prog 126 #[gx hp] w λe w'=>∃v,e=.returned v/\w'.ownsRow B 170 3 v c.out.length (jv c.out)/\(c.out.length=0->v=.slice none 0 0)/\(∀g,v.ownBlock=some g->g∈rd a w)/\mM w' B hp p a b T f D N m n {c with out:=[]} l d/\(∀g,v.ownBlock=some g->g∉rd a w')/\Fr [a] w w'/\jJ a T f p w w':=by
 have q:=af h.1 6;simp at q;have i:=XX B a b T m c w h.2.co;have H:=ah h;clear h;go_enter func126,ntmps126;go_wp2_with fail;apply i.mono;clear i;rintro e u ⟨v,rfl,h1,h0,h2,h3,h4,h5,h6⟩;obtain⟨r,t,s,rfl⟩:=dN h1;have⟨k,j⟩:=H.out.fL h3 (gQ.mono h6 dv);have o:=ah<|zzb h1<|zzb h0<|zzb h2<|zzb k<|zzb h4<|zzb h5 j;clear h1 h0 h2 h3 h4 h5 h6 k j;go_wp2;go_ret;exact⟨_,rfl,o.out⟩
theorem abB(B hp p a g T b D N m n:Nat)(c:bL)(l:au)(d:aj)(w:nL)(h:mM w B hp p a g T b D N m n c l d)(o:c.aD.length<=12)(i:∀x∈c.aD,x.2.since<=c.bw/\x.1<2^64)(Y:c.bw+1<2^64)(hn:m+200<1000000000):
  Calls prog 56 #[gx hp] w λe w'=>e=.returned (.tuple #[])/\mM w' B hp p a g T b D N (m+120) n c.tick l d/\jJ a T b p w w':=by
 have c5:=af h.1 5;have k:=af h.1 6;simp at c5 k;have f:=Qf B a g T m c w h.2.co o i Y hn;have H:=ah h;clear h i;go_enter func56,ntmps56;go_wp2_with fail;apply f.mono;clear f;rintro e q ⟨rfl,h1,h2⟩;have j:=ah<|H.out.fL h1 h2;clear h1 h2;go_wp2;go_end0;exact⟨rfl,j.out⟩
def N2(zs:List Int):List Value:=zs.map λz:Int=>.int .i64 z
theorem YK(l:List Int):∀u∈N2 l,u.oneCell'=true:=by
 intro u h;unfold N2 at h;obtain⟨x,_,rfl⟩:=zzq.1 h;rfl
theorem YL(l:List Int):(N2 l).length=l.length:=by simp[N2]
theorem ad5{w:nL}{B p:Nat}{o:Option Addr}{l:List Int}(h:w.ownsRow B 3 1 (.slice o l.length p) l.length<|N2 l)(c:∀z∈l,XV z):TE w o l:=λk z a=>by
 refine⟨c z<|zzh a,?_⟩;have i:=(zzd.1 a).1;rcases h.2 with⟨_,d⟩|⟨g,m,r,e,hb,b,_,_,f,Y⟩
 .omega
 .cases e;refine⟨g,rfl,?_⟩;have:(r.toList.take<|l.length*1)[k]?=some (.int .i64 z):=by grind[N2]
  rw[List.getElem?_take_of_lt dp]at this;rw[af b k];simpa using this
theorem QF(B hp p f y T h D o m n t:Nat)(v:Value)(zs:List Int)(s:bL)(l:au)(d:aj)(a b c k:Int)(w:nL)(Q:Nat->bL->Nat->Prop)(av:mM w B hp p f y T h D o m n s l d)(hB:2<=B)(FO:Met w)(mq:d.down=false)(hlen:zs.length<=16384)(hz:∀z∈zs,XV z)
  (sW:∀W,jJ f T h p w W->qX W v zs.length (N2 zs))
  (hX:∀w2 ao an,a_ w2 B f y T m s->TE w2 ao zs->Calls prog 133 #[gx f,.int .u64 (t:Int),.slice ao zs.length an] w2 λe E=>∃x A m',Q x A m'/\e=.returned (bB x)/\a_ E B f y T m' A/\gQ f [f,T] w2 E) :
  Calls prog 74 #[gx hp,.int .u64 (t:Int),v,kS a b c k] w λe w'=>∃x A m',Q x A m'/\e=.returned (.int .i64 (x:Int))/\mM w' B hp p f y T h D o m' n A l (d.aJ (-1)<|-1)/\jJ f T h p w w':=by
 have⟨hh,hs⟩:=av;have⟨ii,hi,ay,aA,aE⟩:=tO UN;have⟨W,hW⟩:=gb <|w.alloc (iE a b c k);have dI:Fr [] w W:=by rw[hW];exact(fU w).alloc _
 have⟨ni,oF⟩:=hs.new dI;have Ar:=oF.cells hs hh du du du du du du du du;have yF:W.heap[nF w]?=some (iE a b c k):=by rw[hW];exact oz w _
 have c6:=af Ar 6;have x0:=af yF 0;have x1:=af yF 1;have x2:=af yF 2;have x3:=af yF 3;simp at c6 x0 x1 x2 x3;rw[hW]at c6 x0 x1 x2 x3;have⟨ag,uh⟩:∃pv,W.heap[p]?=some (lH D o pv d.left d.full d.down):=by have⟨pv,sv,rv,nD,nN,hl⟩:=ni.lg;exact⟨pv,hl.bP.blk⟩
 have G:=ah<|show CL W B f y T m h p D o n s l d/\W.heap[hp]?=some (ee p true<|.pointer<|some (gi f))/\W.heap[nF w]?=some (iE a b c k)/\jJ f T h p w W/\W.heap[p]?=some (lH D o ag d.left d.full d.down)from ⟨ni,Ar,yF,oF,uh⟩;have HR:=ah<|show(∀W,jJ f T h p w W->qX W v zs.length (N2 zs))/\CL w B f y T m h p D o n s l d from ⟨sW,hs⟩;have X:=ah hX;have HZ:=ah hz
 obtain⟨vo,vn,vc,rfl⟩:∃vo vn vc,v=.slice vo vn vc:=by
  rcases sW w (hs.new<|fU w).2 with⟨ad,c,e,_⟩|⟨e,_⟩
  .exact⟨_,_,_,e⟩
  .exact⟨_,_,_,e⟩
 clear hs hh dI ni oF Ar yF uh sW hX hz;go_enter func74,ntmps74;go_wp2_with fail;rw[<-hW];clear hW c6 x0 x1 x2 x3;apply(BX 3 hp p D o ag _ _ true d.down d.left d.full a b c k W G.2.1 G.2.2.2.2).mono;rintro e O ⟨rfl,dB,cY⟩;have⟨dT,oW⟩:=G.1.aJ a b cY dB G.2.2.2.2;have AF:=oW.cells G.1 G.2.1 du du du du du du du du;have a':=oW.cells G.1 G.2.2.1 du du du du du du du du;have a7:=G.2.2.2.1.trans oW;have ZY:=HR.1 O a7;have J:=ah<|show CL O B f y T m h p D o n s l (d.aJ a b)/\O.heap[hp]?=some (ee p true<|.pointer<|some (gi f))/\O.heap[nF w]?=some (iE a b c k)/\jJ f T h p w O from ⟨dT,AF,a',a7⟩;clear dT oW AF a' dB cY G a7
 go_wp2_with (at_builtin;apply fH rfl _ _ 38 rfl (nF O) 3 ii (.int .i64 0) 1 8 underlying38 hi ay aA aE rfl du (.slice none 0 0) 0 [] rfl (zzu _ _ _ _) zs.length (N2 zs) ZY (by rw[YL];omega) (YK zs) eE dp (zzc _));intro v' w2 M bK _;obtain⟨ao,c2,rfl⟩:=DQ M;have bH:=Fr.cA bK;have⟨eP,iY⟩:=J.1.new bH;have CB:=iY.cells J.1 J.2.1 du du du du du du du du;have BZ:=iY.cells J.1 J.2.2.1 du du du du du du du du;have D1:=X.out w2 ao c2 eP.co<|ad5 M HZ.out;have⟨N,hN⟩:=gb zs.length;rw[<-hN]at D1 M hlen ⊢
 have a8:=ah (show 0<N->∃j L,ao=some (gi j)/\w2.heap[j]?=some (.cells L 3 (0,0))/\N<=L.size/\(nF w)<=j from λzU=>by
  have⟨j,c3,e⟩:=eQ M zU;cases e;have⟨L,fT⟩:=aL M rfl;have nA:=(M.lt j rfl).1;refine⟨j,L,rfl,fT,?_,zzk J.2.2.2.size nA⟩;rcases M.2 with⟨e,_⟩|⟨g',mz,aI,e,_,e2,e3,_,e4,_⟩
  .cases e
  .cases e;rw[fT]at e2;cases e2;omega)
 have k6:=af CB 6;simp at k6;have K:=ah<|show CL w2 B f y T m h p D o n s l (d.aJ a b)/\w2.heap[hp]?=some (ee p true<|.pointer<|some (gi f))/\w2.heap[nF w]?=some (iE a b c k)/\jJ f T h p w w2 from ⟨eP,CB,BZ,J.2.2.2.trans iY⟩;clear M bK bH eP iY CB BZ J ZY hN;go_wp2_with fail;apply D1.mono;clear D1 k6;rintro e E ⟨xx,A,m',hQ,rfl,mH,fu⟩;have⟨ie,yr⟩:=K.1.fL mH fu;have zy:=yr.cells K.1 K.2.1 du du du du du du du du;have aa:=yr.cells K.1 K.2.2.1 du du du du du du du du;have HQ:=ah hQ
 have ab:=ah (show 0<N->∃j L,ao=some (gi j)/\E.heap[j]?=some (.cells L 3 (0,0))/\N<=L.size/\(nF w)<=j from λzU=>by
  have⟨j,L,e,e2,e3,e4⟩:=a8.out zU;exact⟨j,L,e,yr.cells K.1 e2 du du du du du du du du,e3,e4⟩)
 have r:=ah<|show CL E B f y T m' h p D o n A l (d.aJ a b)/\E.heap[hp]?=some (ee p true<|.pointer<|some (gi f))/\E.heap[nF w]?=some (iE a b c k)/\jJ f T h p w E from ⟨ie,zy,aa,K.2.2.2.trans yr⟩;clear mH fu ie yr zy aa K hQ a8;go_wp2;by_cases ax:N=0
 .subst ax;go_loopw [31] (λi wr=>i=.int .i64 0/\wr=E) (λ_ _=>0);case atStart=>exact⟨rfl,rfl⟩
  case round=>
   obtain⟨rfl,rfl⟩:=hrel;have V:=r.1;have RE:=r.2.1;have C:=r.2.2.1;have Jo:=r.2.2.2;have y0:=af C 0;have y1:=af C 1;have y2:=af C 2;have y3:=af C 3;simp at y0 y1 y2 y3;have⟨Rj,OX⟩:∃pv,wr.heap[p]?=some (lH D o pv (d.aJ a b).left (d.aJ a b).full (d.aJ a b).down):=by have⟨pv,sv,rv,nD,nN,hl⟩:=V.lg;exact⟨pv,hl.bP.blk⟩
   have Vl:(d.aJ a b).down=false:=mq;have H:=ah<|show CL wr B f y T m' h p D o n A l (d.aJ a b)/\wr.heap[hp]?=some (ee p true<|.pointer<|some (gi f))/\jJ f T h p w wr/\wr.heap[p]?=some (lH D o Rj (d.aJ a b).left (d.aJ a b).full (d.aJ a b).down)from ⟨V,RE,Jo,OX⟩;clear V Jo RE C OX r;go_wp2_with fail;have Y:=H.2.2.2;rw[Vl]at Y;apply(AJ 3 hp p D o Rj _ _ true _ _ a b c k wr H.2.1 Y).mono;clear Y y0 y1 y2 y3;rintro e F ⟨rfl,rF,iR⟩;rw[<-Vl]at rF;have⟨rW,P⟩:=H.1.aJ (-1) (-1) iR rF H.2.2.2;have Z8:=P.cells H.1 H.2.1 du du du du du du du du;have S:=H.2.2.1.trans P;have nY:=S.kO HR.2;have zD:=nY.met hB FO;have I:=ah<|show CL F B f y T m' h p D o n A l (d.aJ (-1)<|-1)/\F.heap[hp]?=some (ee p true<|.pointer<|some (gi f))/\jJ f T h p w F from ⟨rW,Z8,S⟩;clear rW P Z8 nY rF iR H S;go_wp2_with fail;apply(pW xx F zD).mono;rintro e w6 ⟨rfl,il⟩;have⟨Pn,R⟩:=I.1.new il;have U8:=R.cells I.1 I.2.1 du du du du du du du du;have H6:=ah<|show mM w6 B hp p f y T h D o m' n A l (d.aJ (-1)<|-1)/\jJ f T h p w w6 from ⟨⟨U8,Pn⟩,I.2.2.trans R⟩;clear Pn R U8 il;go_wp2;go_ret;exact⟨xx,A,m',HQ.out,rfl,H6.out⟩
 .obtain⟨j,L,rfl,fT,a1,nA⟩:=ab.out dp;have Z:=ah<|zzb fT nA;clear fT ab
  go_loopw [31] (λi wr=>∃q:Nat,q<=N/\i=.int .i64 q/\Hid ((∃U,wr.heap[j]?=some (.cells U 3 (0,0))/\N<=U.size)/\Fr [j] E wr)) (λi _=>N-(intOf i).toNat)
  case atStart=>exact⟨0,zzs _,rfl,⟨L,Z.1,a1⟩,Fr.refl _ _⟩
  case round=>
   obtain⟨q,hq,rfl,X⟩:=hrel;by_cases bW:q<N
   .obtain⟨U,hgq,T3⟩:=X.1;have i3:(q:Int)<N:=dp;have d0:=af hgq q;have f0:=aq hgq q;have⟨u,hu⟩:∃u,U[q]?=some u:=⟨_,Cq dp⟩;rw[hu]at d0;have al:=ah (show(∃U,(wr.setCell (hP j q)<|.int .i64 7).heap[j]?=some (.cells U 3 (0,0))/\N<=U.size)/\Fr [j] E (wr.setCell (hP j q)<|.int .i64 7)from ⟨⟨_,aF hgq q<|.int .i64 7,by simpa using T3⟩,X.2.trans<|Fr.cG dv _ _⟩);clear hgq hu;go_wp2
    go_roundw;case rel=>exact⟨q+1,dp,dv,al.out⟩
    case measure=>simp[intOf];omega
   .obtain rfl:q=N:=dp;have i3:¬(q:Int)<q:=dp;have⟨V,oX⟩:=r.1.Tz X.2 Z.1 du du du du du du du du du du;have ae:f∉[j]:=by
     simp;intro e;have⟨cs,a1⟩:=r.1.co.w_;rw[e,Z.1]at a1;cases a1
    have Jo:=r.2.2.2.ZG X.2 Z.2 oX<|X.2.block f r.1.co.jS.1 ae
    have nh:hp∉[j]:=by
     simp;intro e;have:=r.2.1;rw[e,Z.1]at this;cases this
    have nf:(nF w)∉[j]:=by
     simp;intro e;have:=r.2.2.1;rw[e,Z.1]at this;cases this
    have RE:=(X.2.block hp (zza.1 r.2.1).1 nh).trans r.2.1;have C:=(X.2.block (nF w) (zza.1 r.2.2.1).1 nf).trans r.2.2.1;clear oX nh nf ae X;have y0:=af C 0;have y1:=af C 1;have y2:=af C 2;have y3:=af C 3;simp at y0 y1 y2 y3;have⟨Rj,OX⟩:∃pv,wr.heap[p]?=some (lH D o pv (d.aJ a b).left (d.aJ a b).full (d.aJ a b).down):=by have⟨pv,sv,rv,nD,nN,hl⟩:=V.lg;exact⟨pv,hl.bP.blk⟩
    have Vl:(d.aJ a b).down=false:=mq;have H:=ah<|show CL wr B f y T m' h p D o n A l (d.aJ a b)/\wr.heap[hp]?=some (ee p true<|.pointer<|some (gi f))/\jJ f T h p w wr/\wr.heap[p]?=some (lH D o Rj (d.aJ a b).left (d.aJ a b).full (d.aJ a b).down)from ⟨V,RE,Jo,OX⟩;clear V Jo RE C OX r;go_wp2_with fail;have Y:=H.2.2.2;rw[Vl]at Y;apply(AJ 3 hp p D o Rj _ _ true _ _ a b c k wr H.2.1 Y).mono;clear Y y0 y1 y2 y3;rintro e F ⟨rfl,rF,iR⟩;rw[<-Vl]at rF;have⟨rW,P⟩:=H.1.aJ (-1) (-1) iR rF H.2.2.2;have Z8:=P.cells H.1 H.2.1 du du du du du du du du;have S:=H.2.2.1.trans P;have nY:=S.kO HR.2;have zD:=nY.met hB FO;have I:=ah<|show CL F B f y T m' h p D o n A l (d.aJ (-1)<|-1)/\F.heap[hp]?=some (ee p true<|.pointer<|some (gi f))/\jJ f T h p w F from ⟨rW,Z8,S⟩;clear rW P Z8 nY rF iR H S;go_wp2_with fail;apply(pW xx F zD).mono;rintro e w6 ⟨rfl,il⟩;have⟨Pn,R⟩:=I.1.new il;have U8:=R.cells I.1 I.2.1 du du du du du du du du;have H6:=ah<|show mM w6 B hp p f y T h D o m' n A l (d.aJ (-1)<|-1)/\jJ f T h p w w6 from ⟨⟨U8,Pn⟩,I.2.2.trans R⟩;clear Pn R U8 il;go_wp2;go_ret;exact⟨xx,A,m',HQ.out,rfl,H6.out⟩
end
variable{c1:List Rec}{ss:List Sg}{cs:List qE}{B E M N c g h hp kind m m0 n p q:Nat}{L:Nat->Nat}{x:aK}{Q R:aP}{d:aj}{w:nL}{s:nS}
def oO(w:nL)(B hp p h E:Nat)(so:Option (Nat × List Nat))(d:aj)(n:Nat):Prop :=
 (∃c g T a m s l,so=cx c T a w/\mM w B hp p c g T a h E m n s l d)\/(so=none/\ug w B 3 hp p h E d n)
section
variable{w w':nL}{B hp p h E n:Nat}{so:Option (Nat × List Nat)}{d:aj}
theorem oO.any(a:oO w B hp p h E so d n):Vd w B hp p h E so d n:=by
 rcases a with⟨c,g,T,b,m,s,l,rfl,a⟩|⟨rfl,a⟩
 .exact a.any
 .exact a.any
theorem oO.new(a:oO w B hp p h E so d n)(hf:Fr [] w w'):oO w' B hp p h E so d n/\kI hp p so so w w':=by
 rcases a with⟨c,g,T,b,m,s,l,rfl,a⟩|⟨rfl,a⟩
 .obtain⟨k1,k2⟩:=a.new hf;have e:cx c T b w=cx c T b w':=by unfold cx;rw[lR<|hf.block c a.2.co.jS.1 (by simp)]
  exact⟨.inl ⟨c,g,T,b,m,s,l,e,k1⟩,by have:=k2.vR (hp:=hp);rw[<-e]at this;exact this⟩
 .exact⟨.inr ⟨rfl,(a.fresh hf).1⟩,(a.fresh hf).2⟩
theorem oO.free(i:oO w B hp p h E so d n){q:Nat}{c:Array Value}{t:TypeId}(a:w.heap[q]?=some (.cells c t (0,0)))(f:t≠65)(g:t≠200)(j:t≠177)(k:t≠34)(o:t≠89)(r:t≠194)(u:t≠174)(v:t≠170)(F:t≠71):¬jN hp p so w q:=by
 rcases i with⟨A,C,T,G,m,s,l,rfl,y,b⟩|⟨rfl,y,pv,D,N,x⟩
 .intro ho;have⟨pv,I,H,D,N,z⟩:=b.lg;obtain e|e|e:=cQ.1 ho
  .grind
  .exact z.free a f g j k o e
  .rcases zzj.1 e with e|e
   .obtain⟨cs,jY⟩:=b.co.w_;rw[e,jY]at a;cases a;exact r rfl
   .rcases zzj.1 e with e|e
    .obtain⟨es,c2,e2⟩:=b.co.aD.isMap;rw[e,e2]at a;cases a
    .exact b.co.rd_not a u v e
 .intro ho;obtain e|e:=fY.1 ho
  .grind
  .exact x.kD a f g e
theorem oO.step(a:oO w B hp p h E so d n){q:Nat}{c:Array Value}(b:w.heap[q]?=some (.cells c 40 (0,0))):¬jN hp p so w q:=
 a.free b du du du du du du du du du
theorem oO.below{H:Option (Nat×List Nat)}(a:oO w B hp p h E so d n)(b:B<=hp)(hf:kI hp p so H w w'):Below B w w':=by
 rcases a with⟨e,g,T,f,m,s,l,rfl,_,c⟩|⟨rfl,a⟩
 .exact hf.below (c.xq b).1 (c.xq b).2
 .exact hf.below (a.xq b).1 (a.xq b).2
end
def Ci(w w':nL)(B hp p h n m0 c:Nat)(cs:List qE)(Q:Nat->List Sg->Prop)(so:Option (Nat × List Nat)):Prop :=
 ∃a g T b E x l d mk ss R,R∈cs/\(En x R/\x.res=[]/\x.out=[])/\mM w' B hp p a g T b h E l.recs.length (n+2*(mk-m0)+2) { x with next:=x.aH } l d/\d.down=false/\kH l d mk ss []/\kJ d.ak mk ss/\ny kK c mk (chunks ss).flatten R/\Q mk ss/\m0<=mk/\kI hp p so (cx a T b w') w w'
theorem mM.fW{T b n':Nat}{s:bL}{l:au}(a:mM w B hp p c g T b h E m n s l d)(e:n<=n')(Z:n'<=1000000000):mM w B hp p c g T b h E m n' s l d:=⟨a.1,a.2.fW e Z<|zzc _⟩
theorem cIs(p hp:Nat)(up:Bool)(v:Value)(w:nL)(h:w.heap[hp]?=some (ee p up v)):
  Calls prog 13 #[gx hp] w λe w'=>e=.returned (.bool up)/\w'=w:=by
 have c3:=af h 3;simp at c3;go_enter func13,ntmps13;go_wp2;go_ret;exact⟨rfl,rfl⟩
theorem yO{so:Option (Nat×List Nat)}{Q:Nat->List Sg->Prop}(b:oO w B hp p h E so d n)(s:iq (Holds Q) d)(hf:DF m0 d)(q:d.down=false)(j:∀mk ss,Q mk ss->Qw kK c cs M N mk ss)(i:m0<=M)(K:1<=c/\c<2^64)(f:3<=B)(k:B<=hp)(g:Met w/\dJ w/\nZ w)(hN:N+1<=n)(hn:n+(N-m0)+10<=1000000000):
  Calls prog 11 #[gx hp,kS (-1) (-1) 0 0] w λe w'=>e=.returned (.int .i64 0)/\Below B w w'/\Vf B hp p h E n m0 c cs Q (-1) (-1) so w 0 w':=by
 apply(Z9 (-1) (-1) 0 0 b.any s hf q j i K f k g.1 g.2.1 g.2.2 hN hn dp dp dp dp).mono;rintro e w' ⟨cd,he,hb,hc⟩;have a:cd=0:=by
  obtain⟨_,_,_,_,⟨a,_⟩|⟨_,a,_⟩⟩:=hc
  .exact a
  .omega
 subst a;exact⟨by rw[he];rfl,hb,hc⟩
theorem Jr{so:Option (Nat×List Nat)}{Q:Nat->List Sg->Prop}(kd:Int)(eC x y:Nat)(sq I:Int)(a8 s:nS)(ao:Option Addr)(k t G m:Int)(aa:oO w B hp p h E so d n)(hs:iq (Holds Q) d)(hf:DF m0 d)(mq:d.down=false)(hQ:∀mk ss,Q mk ss->Qw kK c cs M N mk ss)(hM:m0<=M)(hK:1<=c/\c<2^64)(hB:3<=B)(L:B<=hp)(hg:Met w/\dJ w/\nZ w)(hN:N+1<=n)(hn:n+2*(N-m0)+20<=1000000000)
  (J5:-2^63<=I) (DB:I<=9223372036854775807) (Zr:-2^63<=k) (b3:-2^63<=t) (ab:-2^63<=m) (ad:m<=9223372036854775807) :
  Calls prog 39 #[gx hp,Jp kd eC sq I a8 s ao x y k t G m] w λe w'=>e=.returned (.bool true)/\Below B w w'/\Ci w w' B hp p h n m0 c cs Q so:=by
 have⟨W,hW⟩:=gb <|w.alloc (qo kd eC sq I a8 s ao x y k t G m);have dI:Fr [] w W:=by rw[hW];exact(fU w).alloc _
 have⟨YI,IB⟩:=aa.new dI;have ni:W.heap[w.heap.size]?=some (qo kd eC sq I a8 s ao x y k t G m):=by rw[hW];exact oz w _
 have mY:=aa.below L IB;have E9:Met W/\dJ W/\nZ W:=⟨hg.1.below mY dp,hg.2.1.cZ<|mY.block 1 dp,hg.2.2.below mY dp⟩;have c3:=af ni 3;simp at c3;rw[hW]at c3;have H:Hid (oO W B hp p h E so d n/\kI hp p so so w W/\W.heap[w.heap.size]?=some (qo kd eC sq I a8 s ao x y k t G m)/\Below B w W/\(Met W/\dJ W/\nZ W)):=⟨YI,IB,ni,mY,E9⟩;have S:Hid (iq (Holds Q) d/\d.down=false/\(∀mk ss,Q mk ss->Qw kK c cs M N mk ss)/\DF m0 d):=⟨hs,mq,hQ,hf⟩;clear aa dI YI IB ni mY E9 hs mq hQ hg hf
 go_enter func39,ntmps39
 go_wp2_with fail;rw[<-hW];clear hW c3;refine(Z4 I 2 W J5 DB dp dp).mono ?_;rintro e w1 ⟨r,hr,rfl,rfl⟩;obtain⟨q,hq⟩:∃q,q=w.heap.size:=⟨_,rfl⟩;rw[<-hq]at H ⊢;clear hq;have F:=af H.2.2.1 9;have K:=af H.2.2.1 10;have C:=af H.2.2.1 7;have D:=af H.2.2.1 8;simp at C D F K;rcases (by omega:r=0\/r=1)with rfl|rfl
 .have vD:=Ve G m H.1.any S.1 S.2.2.2 ab ad;go_wp2_with fail;apply vD.mono;clear vD C D F K;rintro e w2 ⟨rfl,F2,RG,⟨mk2,pn,st2,ba2,Zl⟩,adZ,YC,CT⟩;have⟨v,ag⟩:∃v:Nat->List Sg->Prop,v=λa s=>a=mk2/\s=pn:=⟨_,rfl⟩
  have al:∀a s,v a s->a=mk2/\Q a s:=λa s ha=>by rw[ag]at ha;obtain⟨rfl,rfl⟩:=ha;exact⟨rfl,Zl⟩
  have aX:Holds v F2:=⟨mk2,pn,st2,ba2,by rw[ag];exact⟨rfl,rfl⟩⟩;have HQ:Hid ((∀a s,v a s->a=mk2/\Q a s)/\∀mk ss,v mk ss->Qw kK c cs M N mk ss):=⟨al,λmk ss ha=>S.2.2.1 mk ss (al mk ss ha).2⟩;clear al ag st2 ba2 Zl;have dy:=H.1.below L CT;have eP:=(CT.block q (zza.1 H.2.2.1).1<|H.1.step H.2.2.1).trans H.2.2.1;have fT:Met w2/\dJ w2/\nZ w2:=⟨H.2.2.2.2.1.below dy dp,H.2.2.2.2.2.1.cZ<|dy.block 1 dp,H.2.2.2.2.2.2.below dy dp⟩;have RH:oO w2 B hp p h RG none (dP F2) n:=.inr ⟨rfl,YC⟩;have aA:=Z9 k t G m RH.any (lr aX) (DF.dP adZ) rfl HQ.2 hM hK hB L fT.1 fT.2.1 fT.2.2 hN dp Zr b3 ab ad;have C:=af eP 7;have D:=af eP 8;have F:=af eP 9;have K:=af eP 10;simp at C D F K;have o:Hid (oO w2 B hp p h RG none (dP F2) n/\kI hp p so none w w2/\w2.heap[q]?=some (qo kd eC sq I a8 s ao x y k t G m)/\Below B w w2/\(Met w2/\dJ w2/\nZ w2)):=⟨RH,H.2.1.trans CT,eP,H.2.2.2.1.trans dy,fT⟩;clear aX adZ YC CT dy eP fT RH H;go_wp2_with fail;apply aA.mono;clear aA C D F K;rintro e f ⟨V,rfl,iL,Vh⟩;have⟨Y,ax,av,Kv,Vh⟩:=Vh;obtain⟨rfl,b9⟩:=HQ.1 Y ax av;have⟨⟨R3,_,_⟩,b',b1⟩:=HQ.2 Y ax av;have ba:Y<=N:=by unfold az at b1;omega
  have Z6:V=0\/(V=9\/V=10)/\(0<=k\/0<=t):=by
   rcases Vh with⟨h0,_⟩|⟨h0,h1,_⟩
   .exact .inl h0
   .exact .inr ⟨h0,h1⟩
  have⟨a',RI,X,xE,an,aE,C2,ae⟩:∃a' RI X,oO f B hp p h RI a' X (n+(Y-m0)+1)/\iq (Holds v) X/\DF m0 X/\X.down=false/\kI hp p none a' w2 f:=by
   rcases Vh with⟨_,cp,gp,bT,lp,s',l,d',R,a0,J,i,z,j,A,a6,U⟩|⟨_,_,ow,d',J,i,z,j,A⟩
   .exact⟨_,RG,d',.inl ⟨cp,gp,bT,lp,_,_,l,rfl,i⟩,j.Vc ⟨Y,ax,j.st,A,av⟩,j.floor.low Kv,z,U⟩
   .exact⟨none,ow,d',.inr ⟨rfl,J⟩,z,j,i,A⟩
  have aI:=o.2.2.2.1.trans iL;have ie:=(ae.block q (zza.1 o.2.2.1).1<|o.1.step o.2.2.1).trans o.2.2.1;have pL:Met f/\dJ f/\nZ f:=⟨o.2.2.2.2.1.below iL dp,o.2.2.2.2.2.1.cZ<|iL.block 1 dp,o.2.2.2.2.2.2.below iL dp⟩;have O:Hid (oO f B hp p h RI a' X (n+(Y-m0)+1)/\kI hp p so a' w f/\f.heap[q]?=some (qo kd eC sq I a8 s ao x y k t G m)/\Below B w f/\(Met f/\dJ f/\nZ f)):=⟨xE,o.2.1.trans ae,ie,aI,pL⟩;have b8:=an;have C:=af ie 7;have D:=af ie 8;have F:=af ie 9;have K:=af ie 10;simp at C D F K;have aW:=Ve G m xE.any an aE ab ad;have gI:=oK V f;clear Vh xE an aE C2 ae iL aI ie pL o;go_wp2_with fail;apply gI.mono;clear gI;rintro e b7 ⟨rfl,rfl⟩;refine Z6.elim (λlx=>?_) λb4=>?_
  focus
   subst lx
  rotate_left;focus
   have b0:=zI b4.1;have RJ:¬(V:Int)=0:=dp;rw[b0];rcases (by omega:¬k<0\/k<0/\¬t<0)with b2|⟨KN,b2⟩
  all_goals
   go_wp2_with fail;apply aW.mono;clear aW C D F K;rintro e g ⟨rfl,F4,bN4,hP4,ad4,hC4,Yk⟩;have nM:=O.1.below L Yk;have oY:Met g/\dJ g/\nZ g:=⟨O.2.2.2.2.1.below nM dp,O.2.2.2.2.2.1.cZ<|nM.block 1 dp,O.2.2.2.2.2.2.below nM dp⟩;have ay:Hid (Holds v F4/\mN m0 F4):=⟨hP4,ad4⟩;have P:Hid (oO g B hp p h bN4 none (dP F4) (n+(Y-m0)+1)/\kI hp p so none w g/\True/\Below B w g/\(Met g/\dJ g/\nZ g)):=⟨.inr ⟨rfl,hC4⟩,O.2.1.trans Yk,trivial,O.2.2.2.1.trans nM,oY⟩;clear hP4 ad4 hC4 Yk nM oY O;go_wp2_with fail;apply(xD g).mono;rintro e b ⟨rfl,IY⟩;have Eh:=Fr.bE IY [];have⟨Wr,T⟩:=P.1.new Eh;have u:=P.1.below L T;have Rz:Met b/\dJ b/\nZ b:=⟨P.2.2.2.2.1.below u dp,P.2.2.2.2.2.1.cZ<|u.block 1 dp,P.2.2.2.2.2.2.below u dp⟩;have Vi:=yO Wr (lr ay.1) (DF.dP ay.2) rfl HQ.2 hM hK hB L Rz dp dp;have H8:Hid (kI hp p so none w b/\Below B w b):=⟨P.2.1.trans T,P.2.2.2.1.trans u⟩;clear IY Eh Wr T u Rz;go_wp2_with fail;apply Vi.mono;clear Vi;rintro e Z ⟨rfl,Vj,mk9,ss9,Yg,hm9,⟨_,cp9,gp9,bT9,lp9,s9,l9,d9,R9,a0,J,i,z,j,A,a6,U⟩|⟨_,h09,_⟩⟩
   rotate_left
   .omega
   have LF:=cIs p hp true _ Z i.1;have HF:Hid (Below B w Z/\Ci w Z B hp p h n m0 c cs Q so):=by
    have⟨e9,b5⟩:=HQ.1 mk9 ss9 Yg;subst e9;exact⟨H8.2.trans Vj,cp9,gp9,bT9,lp9,_,s9,l9,d9,mk9,ss9,R9,a0,J,i.fW dp dp,z,j,A,a6,b5,hm9,H8.1.trans U⟩
   clear Vj a0 J i z j A a6 U Yg;go_wp2_with fail;apply LF.mono;clear LF;rintro e b6 ⟨rfl,rfl⟩;go_wp2;go_ret;exact⟨rfl,HF.1,HF.2⟩
 .clear C D F K;go_wp2_with fail;apply(xD w1).mono;rintro e b ⟨rfl,IY⟩;have Eh:=Fr.bE IY [];have⟨Wr,T⟩:=H.1.new Eh;have u:=H.1.below L T;have Rz:Met b/\dJ b/\nZ b:=⟨H.2.2.2.2.1.below u dp,H.2.2.2.2.2.1.cZ<|u.block 1 dp,H.2.2.2.2.2.2.below u dp⟩;have Vi:=yO Wr S.1 S.2.2.2 S.2.1 S.2.2.1 hM hK hB L Rz dp dp;have H8:Hid (kI hp p so so w b/\Below B w b):=⟨H.2.1.trans T,H.2.2.2.1.trans u⟩;clear IY Eh Wr T u Rz;go_wp2_with fail;apply Vi.mono;clear Vi;rintro e Z ⟨rfl,Vj,mk9,ss9,Yg,hm9,⟨_,cp9,gp9,bT9,lp9,s9,l9,d9,R9,a0,J,i,z,j,A,a6,U⟩|⟨_,h09,_⟩⟩
  rotate_left
  .omega
  have LF:=cIs p hp true _ Z i.1;have HF:Hid (Below B w Z/\Ci w Z B hp p h n m0 c cs Q so):=by
   have Pd:mk9<=N:=by have:=(S.2.2.1 mk9 ss9 Yg).2.2;unfold az at this;omega
   exact⟨H8.2.trans Vj,cp9,gp9,bT9,lp9,_,s9,l9,d9,mk9,ss9,R9,a0,J,i.fW dp dp,z,j,A,a6,Yg,hm9,H8.1.trans U⟩
  clear Vj a0 J i z j A a6 U Yg;go_wp2_with fail;apply LF.mono;clear LF;rintro e b6 ⟨rfl,rfl⟩;go_wp2;go_ret;exact⟨rfl,HF.1,HF.2⟩
def aK.yes(x:aK):List Nat:=(x.parts.filter λp=>decide (p.aZ=2)).map (·.cH)
def aP.ds(R:aP):List (Nat × List Nat):=(R.ai.filter λx=>decide (x.st=6)).map λx=>(x.id,x.yes)
theorem jG{q:Nat×List Nat}:q∈R.ds↔∃x∈R.ai,x.st=6/\q=(x.id,x.yes):=by grind[aP.ds]
theorem jE.ds(h:jE R.ai):ql R.ds:=by
 unfold ql aP.ds;rw[zv];exact List.Pairwise.filter _ h
theorem aK.Ok.VB(h:x.Ok)(a:x.st=6):RD x.yes:=by
 have⟨c1,c2⟩:=h.N8 a;have⟨p,hp,l⟩:=List.any_eq_true.1 c2;refine⟨λe=>?_,?_,λy b=>?_⟩
 .have:p.cH∈x.yes:=zzq.2 ⟨p,zzp.2 ⟨hp,by simpa using (c1 p hp).2 l⟩,rfl⟩;rw[e]at this;cases this
 .unfold aK.yes;rw[zv];exact List.Pairwise.filter _ h.up.up
 .obtain⟨p,hp,rfl⟩:=zzq.1 b;exact h.up.b p (zzp.1 hp).1
theorem Ga.yes{bw:Nat}{T:fQ}(h:Ga bw g T x)(k:x.Ok)(a:x.st=6):bV fG T.parts=x.yes:=by
 have b:bV fG T.parts=bV fG (T.parts.map<|tr x.st):=(Et (by decide) (by decide) _ _).symm;rw[b,h.ps,kj du k.up];unfold aK.yes;congr 1;refine List.filter_congr λp hp=>?_
 obtain e|e:=((k.N8 a).1 p hp).1
 .grind [aU.code,fG]
 .simp[aU.code,e,a,fG]
theorem cV.ds{c:bL}(h:cV L c R):ru c.aD=R.ds:=by
 refine(oN h.o1).ext (jE.ds h.oL) λq=>?_
 rw[jP h.o1,jG];unfold jZ;constructor
 .intro e;cases hx:aO R.ai q.1 with
  |none=>rw[h.non _ hx]at e;cases e
  |some x=>
   have⟨d,g⟩:=h.ib hx;have⟨m,m2⟩:=bh hx;rw[g]at e;have b:(if (c.tx q.1).state=6 then some (bV fG (c.tx q.1).parts)else none)=some q.2:=e;by_cases a:(c.tx q.1).state=6
   .rw[oo a]at b;have f:x.st=6:=by rw[<-d.st];exact a
    rw[d.yes (h.ok x m).1 f]at b;exact⟨x,m,f,Prod.ext m2.symm (Option.some.inj b).symm⟩
   .grind
 .rintro⟨x,m,a,rfl⟩;have⟨T,j,i⟩:=h.Mn x m;rw[j];show(if T.state=6 then some (bV fG T.parts)else none)=some x.yes;rw[oo<|i.st.trans a,i.yes (h.ok x m).1 a]
structure Gg(nx:Nat)(Q:aP):Prop where
 oL:jE Q.ai
 ok:∀x∈Q.ai,x.Ok/\x.id<nx
 len:Q.ai.length<=12
theorem cV.RL{c:bL}(h:cV L c R):Gg R.next R:=⟨h.oL,h.ok,h.len⟩
theorem Gg.mono{a:Nat}(h:Gg n Q)(hn:n<=a):Gg a Q:=⟨h.oL,λx hx=>⟨(h.ok x hx).1,by have:=(h.ok x hx).2;omega⟩,h.len⟩
theorem qu{l:List aK}{y:aK}:y∈jW l↔∃x∈l,x.st=6/\y=mP x:=by grind[jW]
theorem Mw(h:x.Ok)(j:x.st=6):(cO x.yes 2).map (tr 6)=fB 6 (x.parts.map jc):=by
 refine ux (by rw[zzn,k_]) λk C=>?_
 rw[tu (f:=jc) λp=>rfl];have d:=F_ 6 (cO x.yes 2) k
 have g:(cO x.yes 2).getD k 0=if k∈x.yes then 2 else 0:=by
  unfold cO;rw[Vb 2 k C _ _ rfl];congr 1;match k,C with
  |0,_|1,_|2,_|3,_|4,_|5,_|6,_|7,_|8,_=>rfl
 rw[d,g];cases hp:dW x.parts k with
 |none=>
  have:k∉x.yes:=λm=>by
   obtain⟨p,G,rfl⟩:=zzq.1 m;rw[h.up.for (zzp.1 G).1]at hp;cases hp
  rw[mE this];rfl
 |some p=>
  obtain⟨b,rfl⟩:=e_ hp;show tr 6 _=(jc p).code 6;obtain e|e:=((h.N8 j).1 p b).1
  .have:p.cH∈x.yes:=zzq.2 ⟨p,zzp.2 ⟨b,by simpa using e⟩,rfl⟩;rw[oo this];simp[tr,jc,aU.code,e]
  .have:p.cH∉x.yes:=λm=>by
    have⟨q,a,i⟩:=zzq.1 m;have c:=h.up.for (zzp.1 a).1;rw[i,hp]at c;cases c;have:=(zzp.1 a).2;simp[e]at this
   rw[mE this];simp[tr,jc,aU.code,e]
theorem YV(k:x.Ok)(h:x.st=6):(mP x).Ok:=by
 refine⟨.inr<|.inr h,k.up.map λp=>rfl,λe=>?_,λe=>?_,λ_=>⟨λp hp=>?_,?_⟩,λe=>?_,λe=>?_⟩
 .grind [mP,st]
 .grind [mP,st]
 .obtain⟨q,hq,rfl⟩:=zzq.1 hp;exact⟨((k.N8 h).1 q hq).1,λe=>by simpa [jc]using e⟩
 .obtain⟨p,hp,hl⟩:=List.any_eq_true.1 (k.N8 h).2;exact List.any_eq_true.2 ⟨jc p,zzq.2 ⟨p,hp,rfl⟩,by simp[jc,((k.N8 h).1 p hp).2 hl]⟩
 .grind [mP,st]
 .have:=k.nod (by omega:x.st≠5);rw[show(mP x).aS=x.aS from rfl,this]at e;cases e
theorem En.rel{x:bL}{s:qE}(h:En x s)(r:x.res=[]/\x.out=[])(q:Gg n Q)(d:s.ds=Q.ds)(hn:n<=x.aH):fJ {x with next:=x.aH} {Q.rest with next:=n}:=by
 refine⟨?_,λy c=>?_,λt f=>?_,λy c=>?_,?_,h.once,λz g=>?_,hn,r.1,r.2⟩
 .show jE (jW Q.ai);unfold jE jW;rw[zv];exact List.Pairwise.filter _ q.oL
 .obtain⟨z,a,b,rfl⟩:=qu.1 c;refine⟨_,(h.tx z.id _).2 ⟨z.yes,by rw[d];exact jG.2 ⟨z,a,b,rfl⟩,rfl⟩,⟨b.symm,?_,λe=>?_,?_⟩⟩
  .show(cO z.yes 2).map (tr z.st)=fB z.st (z.parts.map jc);rw[b];exact Mw (q.ok z a).1 b
  .grind [mP,st]
  .have:=(q.ok z a).1.nod (by omega:z.st≠5);show((0:Nat)≠0↔z.aS=true)/\_;rw[this];simp
 .refine h.none λp hp e=>?_
  rw[d]at hp;obtain⟨z,a,b,rfl⟩:=jG.1 hp;exact dh.1 f (mP z) (qu.2 ⟨z,a,b,rfl⟩) e
 .obtain⟨z,a,b,rfl⟩:=qu.1 c;exact⟨YV (q.ok z a).1 b,(q.ok z a).2⟩
 .show(jW Q.ai).length<=12;unfold jW;rw[zzn];exact zzk (Hm _ _) q.len
 .have hl:=jR h.once<|show(z.1,z.2)∈x.aD from g;have⟨i,_,e⟩:=(h.tx z.1 z.2).1 hl;rw[e];exact zzs _
theorem VD{a b:List (Nat×List Nat)}{H:Nat->List Nat}(f:ql a)(hb:ql b)(h:∀p∈a,p.2=H p.1)(c:∀p∈b,p.2=H p.1)(d:∀t,(∃p∈a,p.1=t)↔∃p∈b,p.1=t):a=b:=
 f.ext hb λq=>by
  constructor
  .intro hq;have⟨p,hp,e⟩:=(d q.1).1 ⟨q,hq,rfl⟩;have:p=q:=Prod.ext e (by rw[c p hp,h q hq,e]);exact this▸hp
  .intro hq;have⟨p,hp,e⟩:=(d q.1).2 ⟨q,hq,rfl⟩;have:p=q:=Prod.ext e (by rw[h p hp,c q hq,e]);exact this▸hp
section
variable{l:au}{d:aj}
theorem EA{c:Nat}(W:List Nat)(h:d.Calm<|c+2)(a:c+2<4398046511103):(l.put d W).2.1.Calm c:=by
 have r:(l.room d).2.2=0/\(l.room d).2.1.Calm (c+1):=by
  unfold au.room;split
  .exact⟨rfl,h.mono dp⟩
  .obtain⟨a1,a2⟩:=oJ h dp;rw[oo a1];exact⟨rfl,a2⟩
 unfold au.put;rw[oo r.1];exact(qj ⟨2,aw<|(l.room d).1.segs.getLastD 0,gW,str W⟩ r.2 dp).2.2
theorem JE{c:Nat}{r:au×aj×Nat}(h:d.Calm c)(a:r.2.1.Calm c):(l.wr d r).2.1.Calm c:=by
 unfold au.wr;split
 .exact a
 .exact h
theorem yR{c:Nat}(kind:Nat)(s:nS)(hf:l.failed=0)(h:d.Calm<|c+2)(a:c+2<4398046511103):((l.note d kind s).2.2≠9/\(l.note d kind s).2.2≠10)/\(l.note d kind s).2.1.Calm c:=by
 refine⟨Jh kind s hf<|h.mono dp,?_⟩;show(l.append d kind s).2.1.Calm c;unfold au.append;split
 .exact h.mono dp
 .split<;>(exact JE (h.mono (by omega))<|EA _ h a)
theorem EB{kind:Nat}{s:nS}(h:(l.note d kind s).2.2=0):(l.note d kind s).1.failed=0:=by
 have a:(l.append d kind s).2.2.2=0:=h;show(l.append d kind s).1.failed=0;unfold au.append at *;by_cases c:255<s.size
 .rw[oo c]at a;cases a
 .rw[mE c]at a ⊢;by_cases b:(l.wr d<|l.put d<|aB l.next kind<|bytesOf s).2.2=0
  .rw[oo b];show(l.wr d<|l.put d<|aB l.next kind<|bytesOf s).1.failed=0;rw[qk];exact b
  .rw[mE b]at a;exact absurd a b
theorem QK(kind:Nat)(s:nS)(hf:l.failed=0)(h:d.Calm 3):(l.keep d kind s).2.2≠9/\(l.keep d kind s).2.2≠10:=by
 have⟨a,b⟩:=yR kind s hf h dp;unfold au.keep;split
 .rename_i h0;exact Mb (EB h0) b
 .exact a
theorem vX:∀(es:List<|Nat×nS) {l:au} {d:aj} {c:Nat},l.failed=0->d.Calm (c+2*es.length)->c+2*es.length<4398046511103->((l.notes d es).2.2≠9/\(l.notes d es).2.2≠10)/\((l.notes d es).2.2=0->(l.notes d es).1.failed=0/\(l.notes d es).2.1.Calm c)
 |[],l,d,c,hf,h,_=>⟨⟨by show(0:Nat)≠9;omega,by show(0:Nat)≠10;omega⟩,λ_=>⟨hf,(by simpa using h:d.Calm c)⟩⟩
 |e::r,l,d,c,hf,h,hc=>by
  have i:(e::r).length=r.length+1:=rfl;rw[i]at h hc;obtain⟨b,f⟩:=yR (c:=c+2*r.length) e.1 e.2 hf (h.mono (by omega)) (by omega);show((if _ then _ else _:au×aj×Nat).2.2≠9/\_)/\_;by_cases a:(l.note d e.1 e.2).2.2=0
  .have er:l.notes d (e::r)=((l.note d e.1 e.2).1).notes (l.note d e.1 e.2).2.1 r:=by show(if _ then _ else _)=_;rw[oo a]
   rw[er,oo a];exact vX r (EB a) f dp
  .have er:l.notes d (e::r)=l.note d e.1 e.2:=by show(if _ then _ else _)=_;rw[mE a]
   rw[er,mE a];exact⟨b,λg=>absurd g a⟩
theorem QL(es:List<|Nat×nS)(hf:l.failed=0)(h:∀c,d.Calm c)(f:es.length<=1000000)(s:(l.notes d ((254,ByteArray.empty)::es++[(255,ByteArray.empty)])).1.segs.length<1000000000):(l.eV d es).2.2≠9/\(l.eV d es).2.2≠10:=by
 have hn:=vX ((254,ByteArray.empty)::es++[(255,ByteArray.empty)]) (c:=6+(l.notes d ((254,ByteArray.empty)::es++[(255,ByteArray.empty)])).1.segs.length) hf (h _) (by
  have e:((254,ByteArray.empty)::es++[(255,ByteArray.empty)]:List<|Nat×nS).length=es.length+2:=dv
  rw[e]
  omega)
 unfold au.eV;split
 .rename_i h0;have⟨a,b⟩:=hn.2 h0;exact U0 _ a b s
 .exact hn.1
end
section
variable{mk:Nat}{l:au}{d:aj}
theorem uI.append(h:uI mk l)(kind:Nat)(s:nS):uI mk (l.append d kind s).1:=by
 have⟨a,b,c⟩:=h;have K:(l.sync d).1.segs=l.segs/\(l.sync d).1.next=l.next/\(l.sync d).1.filled=l.filled:=by
  unfold au.sync;split<;>exact⟨rfl,rfl,rfl⟩
 have o:uI mk (l.room d).1:=by
  unfold au.room;split
  .exact⟨a,b,c⟩
  .split
   .refine⟨λs h=>?_,by show mk<=(l.sync d).1.next;rw[K.2.1];exact b,λ_=>dv⟩;have h:=h;rw[K.1,K.2.1]at h;obtain h|h:=zzo.1 h
    .exact a s h
    .simp at h;omega
   .exact⟨by rw[K.1];exact a,by rw[K.2.1];exact b,by rw[K.1,K.2.2];exact c⟩
 have u:∀x,uI mk (l.put d x).1:=λx=>by
  unfold au.put;split<;>exact o
 have G:∀x,uI mk (l.wr d<|l.put d x).1:=λx=>by
  unfold au.wr;split
  .exact u x
  .exact⟨a,b,c⟩
 unfold au.append;split
 .exact⟨a,b,c⟩
 .split
  .rename_i h0;have⟨e,f,g⟩:=G<|aB l.next kind<|bytesOf s;refine⟨e,Nat.le_succ_of_le f,λhf=>g ?_⟩;have hf:(l.wr d<|l.put d<|aB l.next kind<|bytesOf s).1.filled+(15+s.size)<600:=hf;omega
  .exact G _
theorem uI.low(h:uI mk l){m:Nat}(a:m<=mk):uI m l:=⟨λs b=>zzk a<|h.1 s b,zzk a h.2.1,h.2.2⟩
theorem kH.UI{ss:List Sg}{c1:List Rec}(h:kH l d mk ss c1):uI mk l:=by
 refine⟨λs f=>?_,h.cW.2.2,h.sg'⟩;have⟨i,c⟩:=zzB.1 f;have⟨r,rs,e,g,j⟩:=h.hinv i s c;have a:((chunks ss).flatten++c1)[0]?=some r:=by rw[<-h.recs,e];rfl
 have k:r.cW=mk:=by
  by_cases b:0<(chunks ss).flatten.length
  .rw[Ij b]at a;have:=h.st.gw 0 r a;omega
  .rw[Hn dp]at a;have:=h.Di (0-(chunks ss).flatten.length) r a;unfold az at this;omega
 omega
theorem DF.note(h:DF mk d)(a:uI mk l)(kind:Nat)(s:nS):DF mk (l.note d kind s).2.1:=h.append a kind s
theorem DF.keep(h:DF mk d)(a:uI mk l)(kind:Nat)(s:nS):DF mk (l.keep d kind s).2.1:=by
 unfold au.keep;split
 .exact(h.note a kind s).force
 .exact h.note a kind s
theorem DF.notes:∀(es:List<|Nat×nS) {l:au} {d:aj},DF mk d->uI mk l->DF mk (l.notes d es).2.1
 |[],_,_,h,_=>h
 |e::r,l,d,h,hs=>by
  show DF mk (if _ then _ else _:au×aj×Nat).2.1;split
  .exact DF.notes r (h.note hs e.1 e.2)<|hs.append e.1 e.2
  .exact h.note hs e.1 e.2
theorem DF.eV(h:DF mk d)(s:uI mk l)(es:List<|Nat×nS):DF mk (l.eV d es).2.1:=by
 unfold au.eV;split
 .exact(DF.notes _ h s).cut _
 .exact DF.notes _ h s
theorem Mu(kind:Nat)(s:nS):(l.append d kind s).1.next<=l.next+1:=by
 have K:(l.sync d).1.next=l.next:=by unfold au.sync;split<;>rfl
 have o:(l.room d).1.next=l.next:=by
  unfold au.room;split
  .rfl
  .split<;>exact K
 have G:∀x,(l.wr d<|l.put d x).1.next=l.next:=λx=>by
  have u:(l.put d x).1.next=l.next:=by unfold au.put;split<;>exact o
  unfold au.wr;split
  .exact u
  .rfl
 unfold au.append;split
 .exact zzC _
 .split
  .show(l.wr d<|l.put d<|aB l.next kind<|bytesOf s).1.next+1<=_;rw[G];exact zzc _
  .show(l.wr d<|l.put d<|aB l.next kind<|bytesOf s).1.next<=_;rw[G];exact zzC _
theorem Mv:(l.force d).1.next=l.next:=by
 have K:(l.sync d).1.next=l.next:=by unfold au.sync;split<;>rfl
 unfold au.force;split
 .rfl
 .unfold au.wr;split
  .exact K
  .rfl
theorem EC(kind:Nat)(s:nS):(l.note d kind s).1.next<=l.next+1:=Mu kind s
theorem QM(kind:Nat)(s:nS):(l.keep d kind s).1.next<=l.next+1:=by
 unfold au.keep;split
 .rw[Mv];exact EC kind s
 .exact EC kind s
theorem yS{kind:Nat}{s:nS}(hf:l.failed≠0)(h:s.size<=255):l.note d kind s=(l,d,l.failed):=by
 unfold au.note;rw[Jk hf h]
theorem QN{kind:Nat}{s:nS}(hf:l.failed≠0)(h:s.size<=255):l.keep d kind s=(l,d,l.failed):=by
 unfold au.keep;rw[yS hf h,mE hf]
theorem Ct{e:Nat×nS}{r:List (Nat×nS)}(hf:l.failed≠0)(s:e.2.size<=255):l.notes d (e::r)=(l,d,l.failed):=by
 show(if (l.note d e.1 e.2).2.2=0 then _ else _)=_;rw[yS hf s,mE hf]
theorem ED(es:List<|Nat×nS)(hf:l.failed≠0):l.eV d es=(l,d,l.failed)/\l.Jl d es=0:=by
 have h:l.notes d ((254,ByteArray.empty)::es++[(255,ByteArray.empty)])=(l,d,l.failed):=Ct hf (by decide);unfold au.eV au.Jl;rw[h];exact⟨mE hf,mE hf⟩
theorem kH.notes:∀(es:List<|Nat×nS) {l:au} {d:aj} {ss:List Sg} {c1:List Rec},kH l d mk ss c1->kJ d.ak mk ss->d.down=false->(∀e∈es,e.1<256/\e.2.size<=255)->l.next+es.length+1<2^64->(l.notes d es).2.2=0 ->
  ∃j w,kH (l.notes d es).1 (l.notes d es).2.1 mk j w/\(l.notes d es).1.next=l.next+es.length
 |[],l,d,ss,c1,h,_,_,_,_,_=>⟨ss,c1,h,rfl⟩
 |e::r,l,d,ss,c1,h,hb,hd,he,hn,h0=>by
  have⟨s,t⟩:=he e dv;have hlen:(e::r).length=r.length+1:=rfl;rcases h.NR hb hd 0 e.1 s e.2 t dp with⟨f,a,g,j,w,c,i,k,v⟩|⟨f,a⟩
  .have hz:(l.note d e.1 e.2).2.2=0:=a;have B:(l.note d e.1 e.2).1.next=l.next+1:=by
    have:=c.l7;rw[k,zzi]at this;have x:=h.l7;show(l.append d e.1 e.2).1.next=_;rw[this];simp only[List.length_singleton];omega
   have b:l.notes d (e::r)=((l.note d e.1 e.2).1).notes (l.note d e.1 e.2).2.1 r:=by show(if _ then _ else _)=_;rw[oo hz]
   rw[b]at h0 ⊢;have⟨u,c2,m,n⟩:=kH.notes r c i g (λq p=>he q<|by simp[p]) (by have:(l.append d e.1 e.2).1.next=l.next+1:=B;omega) h0;exact⟨u,c2,m,by
    have o:(((l.note d e.1 e.2).1).notes (l.note d e.1 e.2).2.1 r).1.next=(l.note d e.1 e.2).1.next+r.length:=n;rw[o,B];omega⟩
  .have hne:(l.note d e.1 e.2).2.2≠0:=by
    have:(l.append d e.1 e.2).2.2.2≠0:=by obtain e|e:=a.1<;>omega
    exact this
   have b:l.notes d (e::r)=l.note d e.1 e.2:=by show(if _ then _ else _)=_;rw[mE hne]
   rw[b]at h0;exact absurd h0 hne
theorem YU(low:Nat):l.rr d low<=l.segs.length:=by
 unfold au.rr;split
 .exact zzs _
 .rename_i h0;have a:=Fe l d (bM l.segs low)<|l.segs.getD (bM l.segs low) 0;obtain h|⟨x,h,_⟩:=(sI l.segs low).1
  .exact absurd h h0
  .have:=(zzd.1 h).1;omega
theorem abK{ss:List Sg}{c1:List Rec}{n:Nat}{es:List (Nat×nS)}(h:kH l d mk ss c1)(hb:kJ d.ak mk ss)(c:d.down=false)(D:∀e∈es,e.1<126/\e.2.size<=255)(hn:n+3*(es.length+2)+4+l.next+es.length<=1000000000):UF n (l.Jl d<|es.map yC) l d es:=by
 intro b;have m:(gC es).length=es.length+2:=by simp[gC]
 have⟨k,w,f,j⟩:=kH.notes (gC es) h hb c (λe a=>by
  unfold gC at a;obtain a|a:=zzo.1 a
  .rcases zzj.1 a with rfl|a
   .exact⟨by show 254<256;omega,du⟩
   .obtain⟨q,hq,rfl⟩:=zzq.1 a;have:=D q hq;exact⟨by show q.1+128<256;omega,this.2⟩
  .simp at a;subst a;exact⟨by show 255<256;omega,du⟩) dp b
 have u:=f.NV;have B:=f.l7;have P:=h.st.pos;have g:l.Jl d (es.map yC)=(l.notes d<|gC es).1.rr (l.notes d<|gC es).2.1 l.next:=by
  unfold au.Jl;exact oo b
 refine⟨by rw[g];exact YU _,dp,λ_ i=>?_,λ_=>f.hinv⟩
 rw[g];unfold au.rr;rw[mE i];exact zzc _
end
end Go.Proofs.YtlgeloebpdmnnaaGreatDoor
