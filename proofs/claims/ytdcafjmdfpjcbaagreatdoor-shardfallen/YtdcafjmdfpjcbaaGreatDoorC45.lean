import Derived.Test.YtdcafjmdfpjcbaaGreatDoorC44
set_option maxHeartbeats 4000000
set_option maxRecDepth 100000
namespace Go.Proofs.YtdcafjmdfpjcbaaGreatDoor
open Go.RowKit Go.Maps Tryz Sc
variable{cs:List aK}{B H M N T V b bN c g h hp m m0 n p q:Nat}{w:World}{x:a_}{s:ag}{d:ah}{l:aq}
abbrev qX(kd:Int)(aM:Nat)(q n:Int)(k s:ByteArray)(o:Option Addr)(x y:Nat)(c b a f:Int):Value:=.agg #[.int .i64 kd,.int .u64 (aM:Int),.int .i64 q,.int .i64 n,.string k,.string s,.slice o x y,.int .i64 c,.int .i64 b,.int .i64 a,.int .i64 f]
abbrev gI(kd:Int)(aM:Nat)(q n:Int)(k s:ByteArray)(o:Option Addr)(x y:Nat)(c b a f:Int):Obj:=.cells #[.int .i64 kd,.int .u64 (aM:Int),.int .i64 q,.int .i64 n,.string k,.string s,.slice o x y,.int .i64 c,.int .i64 b,.int .i64 a,.int .i64 f] 40
structure kj where
 kd:Int
 aM:Nat
 sq:Int
 nn:Int
 key:ByteArray
 s:ByteArray
 sa:Option Addr
 sx:Nat
 sy:Nat
 f1:Int
 f2:Int
 f3:Int
 f4:Int
def oO(w:World)(b o:Nat)(a:kj):Prop :=
 w.cell? (d8 b o)=some (.int .i64 a.kd)/\w.cell? (d8 b (o+1))=some (.int .u64 (a.aM:Int))/\w.cell? (d8 b (o+2))=some (.int .i64 a.sq)/\w.cell? (d8 b (o+3))=some (.int .i64 a.nn)/\w.cell? (d8 b (o+4))=some (.string a.key)/\w.cell? (d8 b (o+5))=some (.string a.s)/\w.cell? (d8 b (o+6))=some (.slice a.sa a.sx a.sy) /\
 w.cell? (d8 b (o+7))=some (.int .i64 a.f1)/\w.cell? (d8 b (o+8))=some (.int .i64 a.f2)/\w.cell? (d8 b (o+9))=some (.int .i64 a.f3)/\w.cell? (d8 b (o+10))=some (.int .i64 a.f4)
def zo(w:World)(v:Value)(L:List kj):Prop :=
 L.length<=281474976710656/\∃o p,v=.slice o L.length p/\∀i a,L[i]?=some a->(∃b f,o=some (d8 b f)/\b<w.heap.size/\oO w b (f+i*11) a)/\a.key.size<=281474976710656/\a.s.size<=281474976710656/\a.sx<=281474976710656
theorem oO.below{w':World}{o:Nat}{a:kj}(h:oO w b o a)(c:Below B w w')(P:b<B):oO w' b o a:=by
 have⟨g,i,k,q,d,l,f,m,e,n,j⟩:=h;exact⟨(c.cell P).trans g,(c.cell P).trans i,(c.cell P).trans k,(c.cell P).trans q,(c.cell P).trans d,(c.cell P).trans l,(c.cell P).trans f,(c.cell P).trans m,(c.cell P).trans e,(c.cell P).trans n,(c.cell P).trans j⟩
def kj.wt(a:kj):Nat:=a.key.size+a.s.size+a.sx
def mX:List kj->Nat
 |[]=>0
 |a :: L=>a.wt+mX L
theorem G'(K L:List kj):mX (K++L)=mX K+mX L:=by
 induction K with
 |nil=>simp[mX]
 |cons a K ih=>grind[mX]
theorem Dg(L:List kj)(k:Nat):mX (L.take k)<=mX L:=by
 have:=G' (L.take k)<|L.drop k;rw[List.take_append_drop]at this;omega
theorem Dh{L:List kj}{k:Nat}{a:kj}(h:L[k]?=some a):mX (L.take<|k+1)=mX (L.take k)+a.wt:=by
 rw[List.take_add_one,h,G'];simp[mX]
theorem vY(w:World):Calls prog 10 #[] w λe w'=>e=.returned (fY (-1) (-1) 0 0)/\Below w.heap.size w w':=by
 go_enter func10,ntmps10;go_wp2;refine bodyPost_ret (by simp[results,results10,go_sem]) rfl ⟨rfl,(zzD _ _).alloc (zzc _) _⟩
theorem OE(v:Value)(L:List kj)(w:World)(h:zo w v L):
  Calls prog 7 #[v] w λe w'=>e=.returned (.bool<|decide<|L.length+mX L<=16384)/\∃q,w'=w.drewN q:=by
 obtain⟨hlen,E,O,rfl,x⟩:=h;have⟨m,f⟩:=xY L.length;rw[<-f]at hlen ⊢;have M:Hid (m=L.length):=f;have H:Hid (∀i a,L[i]?=some a->(∃b o,E=some (d8 b o)/\b<w.heap.size/\oO w b (o+i*11) a)/\a.key.size<=281474976710656/\a.s.size<=281474976710656/\a.sx<=281474976710656):=x;clear f x;go_enter func7,ntmps7;go_wp2;go_loopw [3,4] (λn i wr=>∃k:Nat,k<=m/\i=.int .i64 (k:Int)/\n=.int .i64 ((m+mX (L.take k):Nat):Int)/\(k=0\/m+mX (L.take<|k-1)<=16384)/\∃q,wr=w.drewN q) (λ_ i _=>m-(intOf i).toNat)
 case atStart=>exact⟨0,zzs _,rfl,by simp[mX],.inl rfl,0,rfl⟩
 case round=>
  obtain⟨k,S,rfl,rfl,g,q,rfl⟩:=hrel;have d:∀j,m+mX (L.take j)<=m+mX L:=λj=>by have:=Dg L j;omega
  by_cases W:k<m
  .obtain⟨a,ha⟩:∃a,L[k]?=some a:=⟨_,zzg<|by have:=M.out;omega⟩;obtain⟨⟨b,o,rfl,N,B,C,t,A,F,I,D,u,p,y,s⟩,R,w2,U⟩:=H.out k a ha;have J:=Dh ha;have T:Hid (mX (L.take<|k+1)=mX (L.take k)+a.wt/\m+mX (L.take k)<=m+mX L/\m+mX (L.take<|k+1)<=m+mX L):=⟨J,d k,d<|k+1⟩;by_cases l:m+mX (L.take k)<=16384
   .have HW:Hid (a.wt=a.key.size+a.s.size+a.sx):=rfl;generalize c:mX (L.take k)=z at l T ⊢;have HZ:Hid (mX (L.take k)=z):=c;clear c J d g B C t A u p y s;have P:(0:Int)<=k:=oE;have Q:(k:Int)<m:=oE;go_wp2;go_quiet (fail)
    go_wp2;go_roundw;case rel=>exact⟨k+1,oE,nF,by rw[T.1,HW.out];congr 1;omega,.inr<|by simpa [HZ.out]using l,_,rfl⟩
    case measure=>simp[intOf];omega
   .have hbig:¬m+mX L<=16384:=by have:=T.out;omega
    have K:=decide_eq_false hbig;generalize c:mX (L.take k)=z at l T ⊢;clear c J d g B C t A F I D u p y s;go_wp2;go_ret;have G:decide ((m:Int)+z<=16384)=false:=decide_eq_false oE;refine⟨?_,q,rfl⟩;rw[K];show Ending.returned (Value.bool<|decide<|(m:Int)+z<=16384)=_;rw[G]
  .obtain rfl:k=m:=oE;have r:L.take k=L:=by rw[M.out,List.take_length]
   rw[r];clear d g;generalize c:mX L=z;have HZ:Hid (mX L=z):=c;clear c r;go_wp2;go_ret;refine⟨?_,q,rfl⟩;show Ending.returned (Value.bool<|decide<|(k:Int)+z<=16384)=_;rw[HZ.out];congr 2;exact decide_eq_decide.2 oE
def nR(w:World)(B hp p h bN:Nat)(so:Option (Nat × List Nat))(d:ah)(n:Nat):Prop :=
 (∃a g V T H b m s l,so=some (b,[a,V,T,H])/\kz w B hp p a g V T H b h bN m n s l d)\/(so=none/\wH w B 2 hp p h bN d n)
section
variable{w w':World}{B hp p h bN n:Nat}{so:Option (Nat × List Nat)}{d:ah}
theorem nR.any(a:nR w B hp p h bN so d n):SK w B hp p h bN so d n:=by
 rcases a with⟨b,g,V,T,H,c,m,s,l,rfl,a⟩|⟨rfl,a⟩
 .exact a.any
 .exact a.any
theorem nR.new(a:nR w B hp p h bN so d n)(f:Fr [] w w'):nR w' B hp p h bN so d n/\lA hp p so so w w':=by
 rcases a with⟨b,g,V,T,H,c,m,s,l,rfl,a⟩|⟨rfl,a⟩
 .obtain⟨k1,k2⟩:=a.new f;exact⟨.inl ⟨b,g,V,T,H,c,m,s,l,rfl,k1⟩,k2.sL⟩
 .exact⟨.inr ⟨rfl,(a.fresh f).1⟩,(a.fresh f).2⟩
theorem nR.free(x:nR w B hp p h bN so d n){q:Nat}{c:Array Value}{t:TypeId}(a:w.heap[q]?=some (.cells c t (0,0)))(g:t≠58)(f:t≠162)(u:t≠137)(o:t≠34)(r:t≠82)(k:t≠148)(F:t≠64):¬jL hp p so w q:=by
 rcases x with⟨z,E,V,T,H,G,m,s,l,rfl,i,b,_⟩|⟨rfl,i,v,D,N,y⟩
 .intro ho;have⟨v,A,C,D,N,j⟩:=b.lg;obtain e|e|e:=eM.1 ho
  .grind
  .exact j.free a g f u o r e
  .simp at e;obtain e|e|e|e:=e
   .rw[e,b.sh.blk]at a;cases a;exact k rfl
   .obtain⟨es,c2,e2⟩:=b.sh.aS.isMap;rw[e,e2]at a;cases a
   .obtain⟨es,c2,e2⟩:=b.sh.af.isMap;rw[e,e2]at a;cases a
   .obtain⟨es,c2,e2⟩:=b.sh.holds.isMap;rw[e,e2]at a;cases a
 .intro ho;obtain e|e:=eX.1 ho
  .grind
  .exact y.iU a g f e
theorem nR.step(b:nR w B hp p h bN so d n){q:Nat}{c:Array Value}(a:w.heap[q]?=some (.cells c 40 (0,0))):¬jL hp p so w q:=
 b.free a dN dN dN dN dN dN dN
theorem nR.below{C:Option (Nat×List Nat)}(a:nR w B hp p h bN so d n)(b:B<=hp)(f:lA hp p so C w w'):Below B w w':=by
 rcases a with⟨g,i,V,T,H,j,m,s,l,rfl,_,c,e⟩|⟨rfl,a⟩
 .exact f.below (c.p_ e b).1 (c.p_ e b).2
 .exact f.below (a.p_ b).1 (a.p_ b).2
end
def Bj(w w':World)(B hp p h n m0 c T:Nat)(cs:List aK)(Q:Nat->List Sg->Prop)(so:Option (Nat × List Nat)):Prop :=
 ∃a g V e H b bN s l d mk ss R,R∈cs/\Pp c T s R.rest/\kz w' B hp p a g V e H b h bN (20*l.recs.length) (n+2*(mk-m0)+2) s l d/\d.down=false/\iR l d mk ss []/\iZ d.ai mk ss/\vL c mk (chunks ss).flatten R.rest/\Q mk ss/\m0<=mk/\lA hp p so (some (b,[a,V,e,H])) w w'
theorem kz.fK{n':Nat}(a:kz w B hp p b g V T H c h bN m n s l d)(e:n<=n')(U:n'<=1000000000):kz w B hp p b g V T H c h bN m n' s l d:=⟨a.1,a.2.1.fK e U,a.2.2⟩
theorem sIs(p hp:Nat)(up:Bool)(v:Value)(w:World)(h:w.heap[hp]?=some (gB p up v)):
  Calls prog 11 #[rM hp] w λe w'=>e=.returned (.bool up)/\w'=w:=by
 have c3:=aa h 3;simp at c3;go_enter func11,ntmps11;go_wp2;go_ret;exact⟨rfl,rfl⟩
theorem xI(T:Nat){so:Option (Nat×List Nat)}{Q:Nat->List Sg->Prop}(k:nR w B hp p h bN so d n)(s:gF (Holds Q) d)(f:DF m0 d)(j:d.down=false)(i:∀mk ss,Q mk ss->QC c cs M N mk ss)(b:m0<=M)(l:3<=B)(L:B<=hp)(g:Met w/\dw w/\mP w)(hN:N+1<=n)(hn:n+(N-m0)+10<=1000000000):
  Calls prog 9 #[rM hp,fY (-1) (-1) 0 0] w λe w'=>e=.returned (.int .i64 0)/\Below B w w'/\Xh B hp p h bN n m0 c T cs Q (-1) (-1) so w 0 w':=by
 apply(Xi T (-1) (-1) 0 0 k.any s f j i b l L g.1 g.2.1 g.2.2 hN hn oE oE oE oE).mono;rintro e w' ⟨cd,he,hb,hc⟩;have a:cd=0:=by
  obtain⟨_,_,_,_,⟨a,_⟩|⟨_,a,_⟩⟩:=hc
  .exact a
  .omega
 subst a;exact⟨by rw[he];rfl,hb,hc⟩
theorem Ha(T:Nat){so:Option (Nat×List Nat)}{Q:Nat->List Sg->Prop}(kd:Int)(aM x y:Nat)(sq O:Int)(ad s:ByteArray)(ao:Option Addr)(C K P A:Int)(aA:nR w B hp p h bN so d n)(hs:gF (Holds Q) d)(hf:DF m0 d)(jM:d.down=false)(hQ:∀mk ss,Q mk ss->QC c cs M N mk ss)(hM:m0<=M)(hB:3<=B)(L:B<=hp)(hg:Met w/\dw w/\mP w)(hN:N+1<=n)(hn:n+2*(N-m0)+20<=1000000000)
  (Cu:-2^63<=O) (tD:O<=9223372036854775807) (Cz:-2^63<=C) (Mx:-2^63<=K) (Di:-2^63<=A) (Dj:A<=9223372036854775807) :
  Calls prog 32 #[rM hp,qX kd aM sq O ad s ao x y C K P A] w λe w'=>e=.returned (.bool true)/\Below B w w'/\Bj w w' B hp p h n m0 c T cs Q so:=by
 have⟨W,hW⟩:=xY <|w.alloc (gI kd aM sq O ad s ao x y C K P A);have eU:Fr [] w W:=by rw[hW];exact(lE w).alloc _
 have⟨aE,Ih⟩:=aA.new eU;have ja:W.heap[w.heap.size]?=some (gI kd aM sq O ad s ao x y C K P A):=by rw[hW];exact heap_alloc_new w _
 have nh:=aA.below L Ih;have qb:Met W/\dw W/\mP W:=⟨hg.1.below nh oE,hg.2.1.cF<|nh.block 1 oE,hg.2.2.below nh oE⟩;have c3:=aa ja 3;simp at c3;rw[hW]at c3;have H:=ae<|zzb aE<|zzb Ih<|zzb ja<|zzb nh qb;have S:=ae<|zzb hs<|zzb jM<|zzb hQ hf;clear aA eU aE Ih ja nh qb hs jM hQ hg hf
 go_enter func32,ntmps32;go_wp2_with fail;rw[<-hW];clear hW c3;apply(abx O 2 W Cu tD oE oE).mono;rintro e w1 ⟨r,hr,rfl,rfl⟩;have⟨q,hq⟩:=xY w.heap.size;rw[<-hq]at H ⊢;clear hq;have k:=aa H.2.2.1 9;have m:=aa H.2.2.1 10;have o:=aa H.2.2.1 7;have u:=aa H.2.2.1 8;simp at o u k m;rcases (by omega:r=0\/r=1)with rfl|rfl
 .have B_:=SM P A H.1.any S.1 S.2.2.2 Di Dj;go_wp2_with fail;apply B_.mono;clear B_ o u k m;rintro e w2 ⟨rfl,F2,Cj,⟨mk2,nO,st2,ba2,ZX⟩,adW,Zh,uS⟩;have⟨J,ab⟩:∃J:Nat->List Sg->Prop,J=λa s=>a=mk2/\s=nO:=⟨_,rfl⟩
  have a':∀a s,J a s->a=mk2/\Q a s:=λa s ha=>by rw[ab]at ha;obtain⟨rfl,rfl⟩:=ha;exact⟨rfl,ZX⟩
  have EY:Holds J F2:=⟨mk2,nO,st2,ba2,by rw[ab];exact⟨rfl,rfl⟩⟩;have HQ:Hid ((∀a s,J a s->a=mk2/\Q a s)/\∀mk ss,J mk ss->QC c cs M N mk ss):=⟨a',λmk ss ha=>S.2.2.1 mk ss (a' mk ss ha).2⟩;clear a' ab st2 ba2 ZX;have cU:=H.1.below L uS;have U:=(uS.block q (zza.1 H.2.2.1).1<|H.1.step H.2.2.1).trans H.2.2.1;have dY:Met w2/\dw w2/\mP w2:=⟨H.2.2.2.2.1.below cU oE,H.2.2.2.2.2.1.cF<|cU.block 1 oE,H.2.2.2.2.2.2.below cU oE⟩;have Bm:nR w2 B hp p h Cj none (eI F2) n:=.inr ⟨rfl,Zh⟩;have b1:=Xi T C K P A Bm.any (jS EY) (DF.eI adW) rfl HQ.2 hM hB L dY.1 dY.2.1 dY.2.2 hN oE Cz Mx Di Dj;have o:=aa U 7;have u:=aa U 8;have k:=aa U 9;have m:=aa U 10;simp at o u k m;have i:=ae<|zzb Bm<|zzb (H.2.1.trans uS)<|zzb U<|zzb (H.2.2.2.1.trans cU) dY;clear EY adW Zh uS cU U dY Bm H;go_wp2_with fail;apply b1.mono;clear b1 o u k m;rintro e w3 ⟨cd,rfl,eV,VP⟩;have⟨X,an,ay,MW,VP⟩:=VP;obtain⟨rfl,bb⟩:=HQ.1 X an ay;have⟨⟨R3,_,_⟩,ba,b8⟩:=HQ.2 X an ay;have bf:X<=N:=by unfold aw at b8;omega
  have b2:cd=0\/(cd=9\/cd=10)/\(0<=C\/0<=K):=by
   rcases VP with⟨h0,_⟩|⟨h0,h1,_⟩
   .exact .inl h0
   .exact .inr ⟨h0,h1⟩
  have⟨Zt,Kw,d3,tA,al,aC,Nl,ak⟩:∃Zt Kw d3,nR w3 B hp p h Kw Zt d3 (n+(X-m0)+1)/\gF (Holds J) d3/\DF m0 d3/\d3.down=false/\lA hp p none Zt w2 w3:=by
   rcases VP with⟨_,sp,gp,bV,bT,bH,lp,s',l,d',R,Y,z,f,v,g,t,a6,D⟩|⟨_,_,ng,d',z,f,v,g,t⟩
   .exact⟨_,Cj,d',.inl ⟨sp,gp,bV,bT,bH,lp,_,s',l,rfl,f⟩,g.SJ ⟨X,an,g.st,t,ay⟩,g.floor.low MW,v,D⟩
   .exact⟨none,ng,d',.inr ⟨rfl,z⟩,v,g,f,t⟩
  have b0:=i.2.2.2.1.trans eV;have Z:=(ak.block q (zza.1 i.2.2.1).1<|i.1.step i.2.2.1).trans i.2.2.1;have ko:Met w3/\dw w3/\mP w3:=⟨i.2.2.2.2.1.below eV oE,i.2.2.2.2.2.1.cF<|eV.block 1 oE,i.2.2.2.2.2.2.below eV oE⟩;have F:=ae<|zzb tA<|zzb (i.2.1.trans ak)<|zzb Z<|zzb b0 ko;have bc:=ae al;have o:=aa Z 7;have u:=aa Z 8;have k:=aa Z 9;have m:=aa Z 10;simp at o u k m;have aI:=SM P A tA.any al aC Di Dj;have yG:=A9 cd w3;clear VP tA al aC Nl ak eV b0 Z ko i;go_wp2_with fail;apply yG.mono;clear yG;rintro e bg ⟨rfl,rfl⟩;refine b2.elim (λsj=>?_) λb6=>?_
  focus
   subst sj
  rotate_left;focus
   have b3:=decide_eq_true b6.1;have WW:¬(cd:Int)=0:=oE;rw[b3];rcases (by omega:¬C<0\/C<0/\¬K<0)with b'|⟨Pe,b'⟩
  all_goals
   go_wp2_with fail;apply aI.mono;clear aI o u k m;rintro e j ⟨rfl,F4,Xk,hP4,ad4,hC4,hF4⟩;have tH:=F.1.below L hF4;have iX:Met j/\dw j/\mP j:=⟨F.2.2.2.2.1.below tH oE,F.2.2.2.2.2.1.cF<|tH.block 1 oE,F.2.2.2.2.2.2.below tH oE⟩;have aX:=ae<|zzb hP4 ad4;have G:Hid (nR j B hp p h Xk none (eI F4) (n+(X-m0)+1)/\lA hp p so none w j/\True/\Below B w j/\(Met j/\dw j/\mP j)):=⟨.inr ⟨rfl,hC4⟩,F.2.1.trans hF4,trivial,F.2.2.2.1.trans tH,iX⟩;clear hP4 ad4 hC4 hF4 tH iX F;go_wp2_with fail;apply(vY j).mono;rintro e E ⟨rfl,hb8⟩;have NC:=Fr.bw hb8 [];have⟨a8,V⟩:=G.1.new NC;have b:=G.1.below L V;have Yx:Met E/\dw E/\mP E:=⟨G.2.2.2.2.1.below b oE,G.2.2.2.2.2.1.cF<|b.block 1 oE,G.2.2.2.2.2.2.below b oE⟩;have Zx:=xI T a8 (jS aX.1) (DF.eI aX.2) rfl HQ.2 hM hB L Yx oE oE;have H8:=ae<|zzb (G.2.1.trans V)<|G.2.2.2.1.trans b;clear hb8 NC a8 V b Yx;go_wp2_with fail;apply Zx.mono;clear Zx;rintro e I ⟨rfl,Zy,mk9,Zj,hq9,hm9,⟨_,sp9,gp9,bV9,bT9,bH9,lp9,s9,l9,d9,R9,Y,z,f,v,g,t,a6,D⟩|⟨_,h09,_⟩⟩
   rotate_left
   .omega
   have VQ:=sIs p hp true _ I f.1;have HF:Hid (Below B w I/\Bj w I B hp p h n m0 c T cs Q so):=by
    have⟨e9,b4⟩:=HQ.1 mk9 Zj hq9;subst e9;exact⟨H8.2.trans Zy,sp9,gp9,bV9,bT9,bH9,lp9,_,s9,l9,d9,mk9,Zj,R9,Y,z,f.fK oE oE,v,g,t,a6,b4,hm9,H8.1.trans D⟩
   clear Zy Y z f v g t a6 D hq9;go_wp2_with fail;apply VQ.mono;clear VQ;rintro e b7 ⟨rfl,rfl⟩;go_wp2;go_ret;exact⟨rfl,HF.1,HF.2⟩
 .clear o u k m;go_wp2_with fail;apply(vY w1).mono;rintro e E ⟨rfl,hb8⟩;have NC:=Fr.bw hb8 [];have⟨a8,V⟩:=H.1.new NC;have b:=H.1.below L V;have Yx:Met E/\dw E/\mP E:=⟨H.2.2.2.2.1.below b oE,H.2.2.2.2.2.1.cF<|b.block 1 oE,H.2.2.2.2.2.2.below b oE⟩;have Zx:=xI T a8 S.1 S.2.2.2 S.2.1 S.2.2.1 hM hB L Yx oE oE;have H8:=ae<|zzb (H.2.1.trans V)<|H.2.2.2.1.trans b;clear hb8 NC a8 V b Yx;go_wp2_with fail;apply Zx.mono;clear Zx;rintro e I ⟨rfl,Zy,mk9,Zj,hq9,hm9,⟨_,sp9,gp9,bV9,bT9,bH9,lp9,s9,l9,d9,R9,Y,z,f,v,g,t,a6,D⟩|⟨_,h09,_⟩⟩
  rotate_left
  .omega
  have VQ:=sIs p hp true _ I f.1;have HF:Hid (Below B w I/\Bj w I B hp p h n m0 c T cs Q so):=by
   have UW:mk9<=N:=by have:=(S.2.2.1 mk9 Zj hq9).2.2;unfold aw at this;omega
   exact⟨H8.2.trans Zy,sp9,gp9,bV9,bT9,bH9,lp9,_,s9,l9,d9,mk9,Zj,R9,Y,z,f.fK oE oE,v,g,t,a6,hq9,hm9,H8.1.trans D⟩
  clear Zy Y z f v g t a6 D hq9;go_wp2_with fail;apply VQ.mono;clear VQ;rintro e b7 ⟨rfl,rfl⟩;go_wp2;go_ret;exact⟨rfl,HF.1,HF.2⟩
theorem og{P:Program}{k:TypeId}{R:Value->Option (DataW Unit×List MemPlace)}{es:List (Lit×DataW Unit)}(h:w.ownsMap P k R b n<|.map es):w.ownsMap P k R b es.length (.map es):=by
 have⟨r,c,d,f,_,a⟩:=h;refine⟨r,c,d,f,?_,a⟩;injection a with e;have:=congrArg List.length e;rw[length_read]at this;omega
theorem bC.tight(h:bC w p g V T H n s)(y:s.aS.length<=m)(v:s.af.length<=m)(x:s.holds.length<=m):bC w p g V T H m s:=by
 have⟨q,o,b,k⟩:=h.aS;have⟨i,d,a,r⟩:=h.af;have⟨t,u,c,j⟩:=h.holds;have l:=b.length_eq;have e:=a.length_eq;have f:=c.length_eq;rw[zzn]at l e f;exact {h with aS:=⟨q,(og o).mono oE,b,k⟩,af:=⟨i,(og d).mono oE,a,r⟩,holds:=⟨t,(og u).mono oE,c,j⟩}
def mK(k:Nat):Nat:=k+60
theorem kz.tight{J O U f m':Nat}(o:kz w B hp p J g O U c f h bN m n s l d)(e:s.aS.length<=m')(r:s.af.length<=m')(j:s.holds.length<=m'):kz w B hp p J g O U c f h bN m' n s l d:=by
 have⟨q,⟨a,i,t,b⟩,k⟩:=o;exact⟨q,⟨a.tight e r j,i,t,b⟩,k⟩
def ny(w:World)(B hp p h:Nat)(so:Option (Nat × List Nat))(k:Nat)(cs:List aK)(R:aK)(us:List Nat)(E I:Bool)(M m0:Nat):Prop :=
 ∃J g O U c f bN s l d,so=some (f,[J,O,U,c])/\kz w B hp p J g O U c f h bN (mK k) (nK k M m0) s l d/\fI k s l d cs R us E I M m0
def ZI(w:World)(B hp p h:Nat)(k:Nat)(cs:List aK)(us:List Nat)(M m0:Nat):Prop :=
 ∃bN d,wH w B 2 hp p h bN d (nK k M m0-5)/\qZ k d cs us M m0
def ZJ(k:Nat)(cs u:List aK)(R r:aK)(us':List Nat)(E I:Bool)(m0 x:Nat)(j:ag)(l':aq)(d':ah)(n':Nat):Prop :=
 ∃M,n' + 5<=nK (k+1) M m0/\((x=0/\I=false/\d'.down=false/\fI (k+1) j l' (d'.bj (-1) (-1)) u r us' E false M m0)\/(E=true/\Td (k+1) j l' d' (if I then cs else cs++[r]) R us' M m0 x))
def ZK(w w':World)(B hp p h:Nat)(so:Option (Nat × List Nat))(k:Nat)(cs u:List aK)(R r:aK)(us':List Nat)(E I:Bool)(m0 x:Nat):Prop :=
 (x=0/\I=false/\∃M,ny w' B hp p h so (k+1) u r us' E false M m0/\lA hp p so so w w') \/
 (E=true/\x=9/\∃M,ny w' B hp p h so (k+1) (if I then cs else cs++[r]) R us' true true M m0/\lA hp p so so w w') \/
 (E=true/\x=10/\∃M,ZI w' B hp p h (k+1) (if I then cs else cs++[r]) us' M m0/\lA hp p so none w w')
section
variable{w w':World}{B hp p h J g O U c f bN m n n' k M m0 x:Nat}{so:Option (Nat × List Nat)}{cs u:List aK}{R r:aK}{us us':List Nat}{E I:Bool}{s j:ag}{l l':aq}{d d':ah}
theorem fI.host(a:fI k s l d cs R us E I M m0)(b:kz w B hp p J g O U c f h bN m n s l d)(hn:n<=nK k M m0)(e:k<=16384):ny w B hp p h (some (f,[J,O,U,c])) k cs R us E I M m0:=by
 have⟨j,o,r⟩:=a.gd.Xq;have i:=a.ck.table;have q:=mY e a.fl a.gone.le;exact⟨J,g,O,U,c,f,bN,s,l,d,rfl,(b.fK hn oE).tight (by unfold mK;omega) (by unfold mK;omega)<|by unfold mK;omega,a⟩
theorem qZ.host(a:qZ k d cs us M m0)(c:wH w B 2 hp p h bN d n)(hn:n+5<=nK k M m0)(b:k<=16384):ZI w B hp p h k cs us M m0:=by
 have e:=mY b a.fl a.le;exact⟨bN,d,c.fK oE oE,a⟩
theorem ZJ.host(i:ZJ k cs u R r us' E I m0 x j l' d' n')(z:HZ w w' B hp p J g O U c f h bN m n' j l' d')(b:k<16384):ZK w w' B hp p h (some (f,[J,O,U,c])) k cs u R r us' E I m0 x:=by
 obtain⟨M,hn,⟨rfl,rfl,e,o⟩|⟨rfl,n⟩⟩:=i
 .rcases z with⟨_,z,a⟩|⟨d,_⟩
  .exact .inl ⟨rfl,rfl,M,o.host z oE b,a⟩
  .grind
 .rcases n with⟨rfl,e,o⟩|⟨rfl,e,o⟩
  .rcases z with⟨_,z,a⟩|⟨d,_⟩
   .exact .inr<|.inl ⟨rfl,rfl,M,o.host z oE b,a⟩
   .grind
  .rcases z with⟨d,_⟩|⟨_,F,q,l,z,a⟩
   .grind
   .exact .inr<|.inr ⟨rfl,rfl,M,(o F l).host z hn b,a⟩
theorem ny.km(a:ny w B hp p h so k cs R us E I M m0):∃bN d,nR w B hp p h bN so d (nK k M m0)/\qZ k d cs us M m0:=by
 obtain⟨J,g,O,U,c,f,bN,s,l,d,rfl,b,o⟩:=a;exact⟨bN,d,.inl ⟨J,g,O,U,c,f,_,s,l,rfl,b⟩,o.gone⟩
end
section
variable(B hp p h k M m0 t:Nat)(so:Option (Nat × List Nat))(cs:List aK)(R:aK)(us:List Nat)(E I:Bool)(a b c3 o:Int)(w:World)
theorem Tg{x:a_}(a1:ny w B hp p h so k cs R us E I M m0)(A:k<16384)(n:aU R.af t=some x)(u:x.st=1)(h0:t≠0)(S:x.ak.any (·.wr)=true)(V:R.aO t=(⟨R.table,fH R.af x.ready⟩,2,0))(Y:E=false->a<0/\b<0)(Z:-2^63<=a)(H:-2^63<=b)(kD:-2^63<=o)(T:o<=9223372036854775807)(r:2<=B)(fL:B<=hp)(gH:Met w)(G:dw w):
  Calls prog 51 #[rM hp,.int .u64 (t:Int),fY a b c3 o] w λe w'=>∃x':Nat,e=.returned (.tuple #[.int .i64 ((if x'=0 then 2 else 0:Nat):Int),.int .i64 (x':Int)])/\ZK w w' B hp p h so k cs [(⟨R.table,fH R.af x.ready⟩:aK)] R ⟨R.table,fH R.af x.ready⟩ (us++[t]) E I m0 x':=by
 obtain⟨J,g,O,U,c,f,bN,s,l,d,rfl,⟨K,X,C⟩,m⟩:=a1;have xX:=mY (Nat.le_of_lt A) m.fl m.gone.le;have bF:=gx k;have⟨hN,hK,hG⟩:=m.Xs n u V;have xu:t<18446744073709551616:=by rw[<-(aN n).2];exact(m.gd.rel.ok x (aN n).1).Ef
 refine(Ms t (.inl ⟨rfl,rfl,rfl,rfl⟩) B hp J g O U c (mK k) f p h bN (nK k M m0) s l d a b c3 o w (λv x' j l' d' m' n'=>v=(if x'=0 then 2 else 0)/\ZJ k cs [(⟨R.table,fH R.af x.ready⟩:aK)] R ⟨R.table,fH R.af x.ready⟩ (us++[t]) E I m0 x' j l' d' n') K X C r fL kD T gH λW N P=>?_).mono ?_
 .refine(ym B J g O U c (mK k) f p h bN (nK k M m0) t s l (d.bj a b) W N xu oE r m.segs ((P.ie X C).p6 r G) (by unfold mK;omega) (by have:=m.gd.count t;omega) m.gd.small).mono ?_;rintro e w2 ⟨L,Pj,hL2,rfl,cC,lF⟩;have F:=KM m.gd n u h0 S l (d.bj a b) Pj hL2;have⟨D,zL⟩:=ur m.gd Pj hL2;have Q:(s.aO l (d.bj a b) t L).2.2.2.1=(if (s.aO l (d.bj a b) t L).2.2.2.2=0 then 2 else 0)/\ZJ k cs [(⟨R.table,fH R.af x.ready⟩:aK)] R ⟨R.table,fH R.af x.ready⟩ (us++[t]) E I m0 (s.aO l (d.bj a b) t L).2.2.2.2 (s.aO l (d.bj a b) t L).1 (s.aO l (d.bj a b) t L).2.1 (s.aO l (d.bj a b) t L).2.2.1 (nK k M m0+3):=by
   rw[F];rcases m.keeps Y Z H (kind:=1) (by omega) zL (λi=>by rw[D];exact Ot m.gd n u Pj hL2 i) hN A hK with⟨y,q,z,e4⟩|⟨y,q,z⟩
   .rw[if_pos y];exact⟨rfl,M,by unfold nK;omega,.inl ⟨rfl,q,z,e4 _ hG⟩⟩
   .rw[if_neg q];refine⟨by simp only[if_neg q],M,by unfold nK;omega,.inr ⟨y,z⟩⟩
  exact⟨_,_,_,_,_,_,_,Q,rfl,cC,lF⟩
 .rintro e w' ⟨v,x',j,l',d',m',n',⟨rfl,Q⟩,rfl,hz⟩;exact⟨x',rfl,Q.host hz A⟩
theorem Th(q:ny w B hp p h so k cs R us E I M m0)(A:k<16384)(Y:t<2^64)(C:¬(R.state t=1/\(R.aO t).2.1=2))(Q:-2^63<=o)(T:o<=9223372036854775807)(n:2<=B)(S:B<=hp)(Z:Met w)(F:dw w):
  Calls prog 51 #[rM hp,.int .u64 (t:Int),fY a b c3 o] w λe w'=>e=.returned (.tuple #[.int .i64 ((R.aO t).2.1:Int),.int .i64 ((R.aO t).2.2:Int)])/\ny w' B hp p h so (k+1) cs (R.aO t).1 us E I M m0/\lA hp p so so w w':=by
 obtain⟨J,g,O,U,c,f,bN,s,l,d,rfl,⟨m,X,u⟩,i⟩:=q;have xX:=mY (Nat.le_of_lt A) i.fl i.gone.le;have bF:=gx k;refine(Ms t (.inl ⟨rfl,rfl,rfl,rfl⟩) B hp J g O U c (mK k) f p h bN (nK k M m0) s l d a b c3 o w (λv x' j l' d' m' n'=>v=(R.aO t).2.1/\x'=(R.aO t).2.2/\l'=l/\d'=d.bj a b/\n'=nK k M m0+3/\fI (k+1) j l d cs (R.aO t).1 us E I M m0) m X u n S Q T Z (λH D G=>?_)).mono ?_
 .refine(ym B J g O U c (mK k) f p h bN (nK k M m0) t s l (d.bj a b) H D Y oE n i.segs ((G.ie X u).p6 n F) (by unfold mK;omega) (by have:=i.gd.count t;omega) i.gd.small).mono ?_;rintro e w2 ⟨L,Pj,hL2,rfl,cC,lF⟩;obtain⟨j,x,r,e3,e4,N⟩:=OW (i.gd.mono (zzC k) (by omega:20*k<=20*(k+1))) C l (d.bj a b) Pj hL2;rw[x] at cC;rw[x];refine⟨_,_,_,_,_,_,_,⟨rfl,rfl,rfl,rfl,rfl,?_⟩,rfl,cC,lF⟩;have Ho:=yC R t i.gd.rel.jh;exact i.still r (r.ck (by have:=i.ck.vs;unfold Vs at this ⊢;rw[N];exact this) (by have:=i.ck.nS;omega)) e3 (λm y P W=>(i.wd m).Ik y (e4 y P) W) (λq=>q)
 .rintro e w' ⟨v,x',j,l',d',m',n',⟨rfl,rfl,rfl,rfl,rfl,hK⟩,rfl,z⟩;rcases z with⟨_,z,K⟩|⟨V,_⟩
  .exact⟨rfl,(hK.bj (-1) (-1)).host z (by unfold nK;omega) A,K⟩
  .have:d.down=true:=V;rw[i.up] at this;cases this
theorem Ti{x:a_}(a6:ny w B hp p h so k cs R us E I M m0)(D:k<16384)(r:aU R.af t=some x)(y:t≠0)(n:x.st=3)(wg:E=false->a<0/\b<0)(ha:-2^63<=a)(V:-2^63<=b)(kD:-2^63<=o)(T:o<=9223372036854775807)(A:2<=B)(fL:B<=hp)(gH:Met w)(N:dw w):
  Calls prog 54 #[rM hp,.int .u64 (t:Int),fY a b c3 o] w λe w'=>∃x':Nat,e=.returned (.int .i64 (x':Int))/\ZK w w' B hp p h so k cs [(R.cR t).1] R (R.cR t).1 us E I m0 x':=by
 obtain⟨J,g,O,U,c,f,bN,s,l,d,rfl,⟨W,X,H⟩,m⟩:=a6;have xX:=mY (Nat.le_of_lt D) m.fl m.gone.le;have bF:=gx k;have a1:=wh r y n;have⟨hN,L⟩:=m.Xu r y n;have G:(R.cR t).1=(⟨eE R.table x.ak,del R.af t⟩:aK):=by rw[a1]
 rw[<-G]at hN L;have K:t<18446744073709551616:=by rw[<-(aN r).2];exact(m.gd.rel.ok x (aN r).1).Ef
 have Z:(s.aM t).state=3:=by rw[Aw m.gd r];exact n
 refine(Ms t (.inr<|.inl ⟨rfl,rfl,rfl,rfl⟩) B hp J g O U c (mK k) f p h bN (nK k M m0) s l d a b c3 o w (λv x' j l' d' m' n'=>ZJ k cs [(R.cR t).1] R (R.cR t).1 us E I m0 x' j l' d' n') W X H A fL kD T gH λw1 F Y=>?_).mono ?_
 .have hv:aV s.aS:=by have⟨_,_,_,n,_⟩:=F.sh.aS;exact n
  apply(Jt B J g O U c (mK k) f p h bN (nK k M m0) t 16 s l (d.bj a b) w1 F K y Z oE A m.segs ((Y.ie X H).p6 A N) (by unfold maxLen mK;omega) (by have:=m.gd.count t;omega) λq S=>by have:=(m.gd.holds S).2.1;unfold maxLen;simp only[]at this;omega).mono;rintro e w2 ⟨rfl,⟨j,cC,hcm⟩,lF⟩;have P:(str<|be 8 t).size<=255:=by rw[qq,eY];decide
  refine⟨0,_,_,_,_,_,_,?_,rfl,cC,lF⟩;rcases m.keeps wg ha V (kind:=2) (by omega) P (λi=>by rw[f_<|L' 8 t,G];exact Ou m.gd K r n i) hN D L with⟨u,z,C,e4⟩|⟨u,z,C⟩
  .rw[if_pos u]at hcm;have Q:aV j.aS:=by have⟨_,_,_,n,_⟩:=cC.sh.aS;exact n
   have⟨g1,g2⟩:=m.gd.cR r y n hv Q hcm;exact⟨M,by unfold nK;omega,.inl ⟨u,z,C,e4 _<|g1.mono (zzc _) oE⟩⟩
  .rw[if_neg z]at hcm;rw[hcm];exact⟨M,by unfold nK;omega,.inr ⟨u,C⟩⟩
 .rintro e w' ⟨v,x',j,l',d',m',n',hQ,rfl,hz⟩;exact⟨x',rfl,hQ.host hz D⟩
theorem Tj(q:ny w B hp p h so k cs R us E I M m0)(P:k<16384)(K:t<2^64)(m:R.state t≠3)(F:-2^63<=o)(T:o<=9223372036854775807)(A:2<=B)(L:B<=hp)(N:Met w):
  Calls prog 54 #[rM hp,.int .u64 (t:Int),fY a b c3 o] w λe w'=>e=.returned (.int .i64 ((R.cR t).2:Int))/\ny w' B hp p h so (k+1) cs R us E I M m0/\lA hp p so so w w':=by
 obtain⟨J,g,O,U,c,f,bN,s,l,d,rfl,⟨n,X,G⟩,i⟩:=q;have V:=gx k;have u:(s.aM t).state≠3:=by rw[i.gd.rel.state];exact m
 refine(Ms t (.inr<|.inl ⟨rfl,rfl,rfl,rfl⟩) B hp J g O U c (mK k) f p h bN (nK k M m0) s l d a b c3 o w (λv x' j l' d' m' n'=>x'=(R.cR t).2/\j=s/\l'=l/\d'=d.bj a b/\n'=nK k M m0) n X G A L F T N λx r S=>?_).mono ?_
 .refine(Gc J g O U c (mK k) t s x r.sh K<|.inr u).mono ?_;rintro e w2 ⟨rfl,rfl⟩;exact⟨0,(R.cR t).2,s,l,_,_,_,⟨rfl,rfl,rfl,rfl,rfl⟩,by rw[N_ i.gd m],r,lH.refl _ _ _ _ _ _ _⟩
 .rintro e w' ⟨v,x',j,l',d',m',n',⟨rfl,rfl,rfl,rfl,rfl⟩,rfl,z⟩;rcases z with⟨_,z,C⟩|⟨H,_⟩
  .have hg:=i.gd.mono (zzC k) (by omega:20*k<=20*(k+1));have Q:=i.still hg (i.ck.mono<|zzC k) rfl (λn y D m=>(i.wd n).Ik y D m) λq=>q;exact⟨rfl,(Q.bj (-1)<|-1).host z (by unfold nK;omega) P,C⟩
  .have:d.down=true:=H;rw[i.up]at this;cases this
theorem Tk{x:a_}(a1:ny w B hp p h so k cs R us E I M m0)(A:k<16384)(n:aU R.af t=some x)(h0:t≠0)(y:x.st=3)(Y:E=false->a<0/\b<0)(Z:-2^63<=a)(N:-2^63<=b)(kD:-2^63<=o)(T:o<=9223372036854775807)(u:2<=B)(fL:B<=hp)(gH:Met w)(H:dw w):
  Calls prog 56 #[rM hp,.int .u64 (t:Int),fY a b c3 o] w λe w'=>∃x':Nat,e=.returned (.int .i64 (x':Int))/\ZK w w' B hp p h so k cs (cs++[(R.abort t).1]) R (R.abort t).1 us E I m0 x':=by
 obtain⟨J,g,O,U,c,f,bN,s,l,d,rfl,⟨P,X,D⟩,m⟩:=a1;have xX:=mY (Nat.le_of_lt A) m.fl m.gone.le;have bF:=gx k;have⟨hN,K,G⟩:=m.Xv n y;have C:(R.abort t).1=(⟨R.table,del R.af t⟩:aK):=by grind[aK.abort]
 rw[<-C]at hN K G;have F:t<18446744073709551616:=by rw[<-(aN n).2];exact(m.gd.rel.ok x (aN n).1).Ef
 have V:(s.aM t).state=3:=by rw[Aw m.gd n];exact y
 refine(Ms t (.inr<|.inr<|.inl ⟨rfl,rfl,rfl,rfl⟩) B hp J g O U c (mK k) f p h bN (nK k M m0) s l d a b c3 o w (λv x' j l' d' m' n'=>ZJ k cs (cs++[(R.abort t).1]) R (R.abort t).1 us E I m0 x' j l' d' n') P X D u fL kD T gH λW Q S=>?_).mono ?_
 .refine(NH B J g O U c (mK k) f p h bN (nK k M m0) t s l (d.bj a b) W Q F h0 V oE u m.segs<|(S.ie X D).p6 u H).mono ?_;rintro e w2 ⟨rfl,cC,lF⟩;have L:(str<|be 8 t).size<=255:=by rw[qq,eY];decide
  refine⟨0,_,_,_,_,_,_,?_,rfl,cC,lF⟩;rcases m.ab0 Y Z N (kind:=3) (by omega) L (λi=>by rw[f_<|L' 8 t,C];exact Ov m.gd F n y i) hN A K with⟨q,r,z,e4⟩|⟨q,r,z⟩
  .rw[if_pos q];exact⟨M,by unfold nK;omega,.inl ⟨q,r,z,e4 _ G⟩⟩
  .rw[if_neg r];exact⟨M,by unfold nK;omega,.inr ⟨q,z⟩⟩
 .rintro e w' ⟨v,x',j,l',d',m',n',hQ,rfl,hz⟩;exact⟨x',rfl,hQ.host hz A⟩
theorem Tm(r:ny w B hp p h so k cs R us E I M m0)(im:k<16384)(Y:t<2^64)(n:R.state t≠3)(P:-2^63<=o)(T:o<=9223372036854775807)(K:2<=B)(S:B<=hp)(gH:Met w):
  Calls prog 56 #[rM hp,.int .u64 (t:Int),fY a b c3 o] w λe w'=>e=.returned (.int .i64 ((R.abort t).2:Int))/\ny w' B hp p h so (k+1) cs (R.abort t).1 us E I M m0/\lA hp p so so w w':=by
 obtain⟨J,g,O,U,c,f,bN,s,l,d,rfl,⟨q,Z,Q⟩,i⟩:=r;have bF:=gx k;have F:(s.aM t).state≠3:=by rw[i.gd.rel.state];exact n
 obtain⟨u,C⟩:=(i.gd.mono (zzC k) (by omega:20*k<=20*(k+1))).abort t;refine(Ms t (.inr<|.inr<|.inl ⟨rfl,rfl,rfl,rfl⟩) B hp J g O U c (mK k) f p h bN (nK k M m0) s l d a b c3 o w (λv x' j l' d' m' n'=>x'=(R.abort t).2/\j=(if t=0 then s else s.forget t)/\l'=l/\d'=d.bj a b/\n'=nK k M m0) q Z Q K S P T gH (λH A lu=>?_)).mono ?_
 .refine(Ju J g O U c (mK k) t s H A.sh Y (.inr F)).mono ?_;rintro e w2 ⟨rfl,jc,cA⟩;obtain⟨G,L⟩:=A.ops jc cA;exact⟨0,_,_,l,_,_,_,⟨C.symm,rfl,rfl,rfl,rfl⟩,rfl,G,L⟩
 .rintro e w' ⟨v,x',j,l',d',m',n',⟨rfl,rfl,rfl,rfl,rfl⟩,rfl,z⟩;rcases z with⟨_,z,N⟩|⟨W,_⟩
  .have Ho:(R.abort t).1.nS<=R.nS:=by
    unfold aK.abort;split
    .grind
    .exact wa R t
   have V:Vs (R.abort t).1:=by
    have:=i.ck.vs;unfold Vs at this ⊢;unfold aK.abort;split<;>exact this
   have X:∀y∈(R.abort t).1.af,y∈R.af:=λy m=>by
    unfold aK.abort at m;split at m
    .exact m
    .exact(zzp.1 m).1
   have D:(R.abort t).1.rest=R.rest:=by
    unfold aK.abort;split
    .rfl
    .refine C8 i.gd.rel ?_;unfold aK.state at n
     cases hx:aU R.af t with
     |none=>rfl
     |some x=>grind [iM]
   have hK:=i.still u (u.ck V (by have:=i.ck.nS;omega)) D (λq y m n=>(i.wd q).Ik y (X y m) n) (λr=>r);exact⟨rfl,(hK.bj (-1) (-1)).host z (by unfold nK;omega) im,N⟩
  .have:d.down=true:=W;rw[i.up] at this;cases this
theorem aec(a1:ny w B hp p h so k cs R us E I M m0)(r:k<16384)(Z:E=false->a<0/\b<0)(ha:-2^63<=a)(N:-2^63<=b)(kD:-2^63<=o)(T:o<=9223372036854775807)(y:2<=B)(fL:B<=hp)(gH:Met w)(L:dw w):
  Calls prog 58 #[rM hp,fY a b c3 o] w λe w'=>∃x':Nat,e=.returned (.int .i64 (x':Int))/\ZK w w' B hp p h so k cs [R] R R us E I m0 x':=by
 obtain⟨J,g,O,U,c,f,bN,s,l,d,rfl,⟨P,X,A⟩,i⟩:=a1;have xX:=mY (Nat.le_of_lt r) i.fl i.gone.le;have IJ:=oR<|Nat.le_of_lt r;have bF:=gx k;have a7:=S_ i.gd;have Ib:=i.ck.table;refine(Ms 0 (.inr<|.inr<|.inr ⟨rfl,rfl,rfl,rfl⟩) B hp J g O U c (mK k) f p h bN (nK k M m0) s l d a b c3 o w (λv x' j l' d' m' n'=>ZJ k cs [R] R R us E I m0 x' j l' d' n') P X A y fL kD T gH λW H S=>?_).mono ?_
 .have hv:aV s.aS:=by have⟨_,_,_,h3,_⟩:=H.sh.aS;exact h3
  have uI:=abW i.gd i.ck.vs;have hcut:l.Mk (d.bj a b) ((kZ s R.waiting).map xF)<=fA k+k+20/\Sr (nK k M m0) (l.Mk (d.bj a b)<|(kZ s R.waiting).map xF) l (d.bj a b) (kZ s R.waiting):=by
   rcases i.st with⟨_,_,kJ,ss,c1,fB⟩|⟨_,_,_,Q⟩
   .have uz:=fB.bj a b;have Y:∀x∈R.rest.af,aV ((λt=>gG s.holds t) x.id)/\∀q,aj ((λt=>gG s.holds t) x.id) q=aj s.holds (x.id,q):=λx _=>⟨nP i.gd.rel.o2 x.id,λq=>lz x.id q s.holds⟩
    have u:=C_ i.gd i.ck.vs Y;rw[<-Xo i.gd]at u;have K:=ZG (n:=nK k M m0) (es:=kZ s R.waiting) uz.lg uz.ba uz.up (λe m=>⟨Dc m,by have:=u (xF e)<|zzq.2 ⟨e,m,rfl⟩;exact this.2.2⟩) (by omega);refine⟨?_,K⟩;by_cases z:(l.notes (d.bj a b)<|eT<|kZ s R.waiting).2.2=0
    .obtain⟨h1,h2,_⟩:=K z;have hl:(eT<|kZ s R.waiting).length=(kZ s R.waiting).length+2:=by simp[eT]
     have⟨fg,sY,G,f2⟩:=iR.notes (eT (kZ s R.waiting)) uz.lg uz.ba uz.up (λe m=>by
      unfold eT at m;obtain m|m:=zzo.1 m
      .rcases zzj.1 m with rfl|m
       .exact⟨by show 254<256;omega,dN⟩
       .have:=u e m;omega
      .simp at m;subst m;exact⟨by show 255<256;omega,dN⟩) oE z
     have X:=G.EF;have a6:=G.jU;have TC:=G.st.pos;omega
    .have:l.Mk (d.bj a b) ((kZ s R.waiting).map xF)=0:=by unfold aq.Mk;exact if_neg z
     omega
   .have hne:l.failed≠0:=by rw[Q.fail];omega
    obtain⟨_,F⟩:=Dv (d:=d.bj a b) ((kZ s R.waiting).map xF) hne;rw[F];refine⟨oE,λz=>?_⟩;rw[show l.notes (d.bj a b) (eT<|kZ s R.waiting)=(l,d.bj a b,l.failed)from Bu hne dN]at z;exact absurd z hne
  have⟨iN,hcut⟩:=hcut;apply(abC B J g O U c (mK k) f p h bN (nK k M m0) _ s R.waiting l (d.bj a b) W H (by unfold mK;omega) uI i.segs oE hcut y A<|(S.ie X A).p6 y L).mono;rintro e w2 ⟨rfl,cC,F⟩;refine⟨0,_,_,_,_,_,_,?_,rfl,cC,F⟩;rcases i.ab1 Z ha N hv r rfl with⟨C,V,D,M',e4,e5⟩|⟨C,D⟩
  .exact⟨M',by unfold nK;omega,.inl ⟨C,V,D,e5⟩⟩
  .exact⟨_,by unfold nK;omega,.inr ⟨C,D⟩⟩
 .rintro e w' ⟨v,x',j,l',d',m',n',hQ,rfl,z⟩;exact⟨x',rfl,hQ.host z r⟩
end
end Go.Proofs.YtdcafjmdfpjcbaaGreatDoor
