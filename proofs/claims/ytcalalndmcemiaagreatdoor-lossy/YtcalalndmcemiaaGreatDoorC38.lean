import Derived.Test.YtcalalndmcemiaaGreatDoorC36
import Derived.Test.YtcalalndmcemiaaGreatDoorC33
set_option maxHeartbeats 8000000
set_option maxRecDepth 100000
namespace Go.Proofs.YtcalalndmcemiaaGreatDoor
open Go.RowKit Go.Maps Tryz Sc
section
open Go.Shelf
variable{xs:List Value}{B b i k m n:Nat}{o:Option Addr}{α:Type}{e:TypeId}{v:Value}{a c w w':World}
def eJ(l:List bt):List Value:=l.map λx=>.string (str x.bytes)
theorem Qf{s:List Nat}(h:w.ownsRow b 88 1 v s.length<|s.map L5):∃o c,v=.slice o s.length c/\(∀i x,s[i]?=some x->∃g,o=some ⟨g,0,none⟩/\w.cell? ⟨g,i,none⟩=some (L5 x)):=by
 rcases h.2 with⟨e,d⟩|⟨g,a,r,e,rest⟩
 .refine⟨none,0,by rw[e,d],λi p E=>?_⟩;have:=(zzd.1 E).1;omega
 .exact⟨some (gz g),a,e,λi p E=>⟨g,rfl,dC h e<|by rw[zzy,E];rfl⟩⟩
theorem BA(E nd p i:Nat)(x1 x2:Option Addr)(s:List bt)(Q:World->Prop)(w:World)(hh:w.heap[E]?=some (fg i p true x1 x2<|some ⟨nd,0,none⟩))(Z:∀x∈s,x.Ok)(hlen:s.length<=60000000)
  (hS:Calls prog 69 #[.pointer<|some ⟨nd,0,none⟩] w λe w'=>∃v d,e=.returned v/\sS w.heap.size w' v d s/\Q w'/\w.heap.size<=w'.heap.size) :
  Calls prog 34 #[.pointer<|some ⟨E,0,none⟩] w λe w'=>∃v f d,e=.returned v/\w'.ownsRow w.heap.size 9 1 v s.length (eJ s)/\(s=[]->v=.slice none 0 0)/\Q f/\Fr d f w'/\∀g∈d,w.heap.size<=g/\∃c,f.heap[g]?=some (.cells c 5 (0,0)):=by
 have⟨i0,je,a8,a',aa⟩:=info_parts JL;have c7:=ae hh 7;simp at c7;have H0:=af Z;clear Z;go_enter func34,ntmps34;go_wp2_with fail;apply hS.mono;clear hS;rintro e f ⟨v,d,rfl,hSe,hQ,hsz⟩;have⟨ao,ca,ed,eN⟩:=Qf hSe.row;subst ed;have⟨n,hn⟩:=gb d.length;have ad:n<=60000000:=by rw[hn,hSe.len];exact hlen
 have H:=af<|zzb hSe<|zzb hQ<|zzb eN hn;rw[<-hn];clear hSe hQ eN hn c7 hlen hh;go_wp2
 go_loopw [3,17] (λlv i wr=>∃k:Nat,k<=n/\i=.int .i64 (k:Int)/\Hid (wr.ownsRow f.heap.size 9 1 lv k (eJ<|s.take k)/\(k=0->lv=.slice none 0 0)/\Fr d f wr/\∀(j g:Nat) (x:bt),k<=j->d[j]?=some g->s[j]?=some x->wr.ownsRow w.heap.size 5 1 (L5 g) 15 (bs x.bytes))) (λ_ i _=>n-(intOf i).toNat);case atStart=>exact⟨0,zzs _,rfl,zzu _ _ _ _,λ_=>rfl,Fr.refl _ _,λj g x _ A F=>H.1.each j g x A F⟩
 case round=>
  obtain⟨k,hk,rfl,R⟩:=hrel;have W:=H.1.len;by_cases bU:k<n
  .obtain⟨g,hg⟩:∃g,d[k]?=some g:=⟨_,zzg<|by have:=H.2.2.2;omega⟩;have⟨x,G⟩:∃x,s[k]?=some x:=⟨_,zzg<|by have:=H.2.2.2;omega⟩;obtain⟨C,rfl,y0⟩:=H.2.2.1 k g hg;have⟨I,h0,gF,V⟩:=R.out;have Ix:=H0.out x<|zzh G
   have Y:∀q∈d,∃c,f.heap[q]?=some (.cells c 5 (0,0))/\w.heap.size<=q:=λq h=>by
    have⟨j,o,T⟩:=List.getElem_of_mem h;have⟨m,l⟩:∃m,s[j]?=some m:=⟨_,zzg bL⟩;have r:=H.1.each j q m (by rw[zzg o,T]) l;have⟨c,U⟩:=aq r rfl;exact⟨c,U,(r.lt q rfl).1⟩
   have ab:wr.cell? (hO C k)=some (L5 g):=by
    have⟨c2,z⟩:=aq H.1.row rfl;exact(zze<|gF.block C (zza.1 z).1 λl=>by obtain⟨c3,B,-⟩:=Y C l;rw[z]at B;cases B).trans y0
   have r:=V k g x (zzc _) hg G;have OX:=jN wr g 0 15 15 x.bytes x.eP<|lA r;have i1:(k:Int)<n:=bL
   have L:=H.2.2.2;have X:=af<|zzb hg<|zzb G<|zzb Y<|zzb r<|zzb V<|zzb gF I;have l0:=gF.size;clear hg G Ix Y r V gF h0 L
   go_wp2_with (at_builtin;apply gR rfl _ _ 35 rfl f.heap.size 9 i0 _ 1 16 underlying35 je a8 a' aa rfl bM u3 k (eJ<|s.take k) rfl (I.alloc _) 1 [.string<|str x.bytes] (.inl ⟨gz wr.heap.size,1,rfl,dU _ #[.string<|str x.bytes] _⟩) rfl (by intro u hu;simp at hu;subst hu;rfl) eA bL cE);intro v' J O bP eQ;have P:=(((lT wr).alloc _).mono bR).trans<|Fr.bz bP;have mO:∀q∈u3.ownBlock.toList,f.heap.size<=q:=λq h=>by simp at h;exact(I.lt q h).1
   have K:∀{u:Value} {m:Nat} {xs:List Value},wr.ownsRow w.heap.size 5 1 u m xs->J.ownsRow w.heap.size 5 1 u m xs:=λ{u m xs} r=>bW r (λq h=>P.block q (r.lt q h).2 (λl=>by
    simp at l;have⟨c1,S⟩:=aq r h;have⟨c2,z⟩:=aq I l;rw[S]at z;cases z))
   have a6:=rO w.heap.size g 15 15 _ J (K X.2.2.2.1) bM;have t:=af (zzb O<|zzb P<|zzb mO<|zzb (K X.2.2.2.1) λ(j q:Nat) (y:bt) (a:k+1<=j) (b:d[j]?=some q) (c:s[j]?=some y)=>K<|X.2.2.2.2.1 j q y bL b c);obtain⟨va,vb,vc,rfl⟩:=ct O;clear O bP eQ P mO K I OX ab;go_wp2_with fail;apply a6.mono;clear a6;rintro e M ⟨rfl,j8⟩;have D:=Fr.aF j8;have a7:=zzh X.1;have N:=af (show M.ownsRow f.heap.size 9 1 (.slice va vb vc) (k+1) (eJ (s.take (k+1)))/\(k+1=0->(.slice va vb vc:Value)=.slice none 0 0)/\Fr d f M/\∀(j q:Nat) (y:bt),k+1<=j->d[j]?=some q->s[j]?=some y->M.ownsRow w.heap.size 5 1 (L5 q) 15 (bs y.bytes)from by
    refine⟨?_,λe=>bL,?_,λj q y o h hy=>?_⟩
    .have S:eJ (s.take<|k+1)=eJ (s.take k)++[.string<|str x.bytes]:=by
      unfold eJ;rw[List.take_add_one,X.2.1,List.map_append];rfl
     rw[S];refine bW t.1 λq h=>D.block q (t.1.lt q h).2 λl=>?_;simp at l;subst l;have⟨c1,z⟩:=aq t.1 h;have⟨c2,B⟩:=aq t.2.2.2.1 rfl;rw[z]at B
     cases B
    .exact(X.2.2.2.2.2.1.andThen t.2.1 λj o hl=>by have:=t.2.2.1 j o;omega).andThen D λj o _=>by simp at o;rw[o];exact a7
    .refine bW (t.2.2.2.2 j q y o h hy) λq' a1=>D.block q' ((t.2.2.2.2 j q y o h hy).lt q' a1).2 λl=>?_;simp at l
     cases a1;subst l;have A:=zzd.1 h;have F:=zzd.1 X.1;have:=List.pairwise_iff_getElem.1 H.1.nod k j F.1 A.1 bL;rw[A.2,F.2]at this;exact this rfl)
   clear j8 D;go_wp2;go_roundw;case rel=>exact⟨k+1,bL,eR,N⟩
   case measure=>simp[intOf];omega
  .obtain rfl:k=n:=bL;have N:=af (show wr.ownsRow w.heap.size 9 1 u3 s.length (eJ s)/\(s=[]->u3=.slice none 0 0)/\Q f/\Fr d f wr/\∀g∈d,w.heap.size<=g/\∃c,f.heap[g]?=some (.cells c 5 (0,0))from by
    have L:=H.2.2.2;have A:=R.1;rw[zzt bL,show k=s.length by omega]at A;refine⟨ep A hsz,λe=>R.2.1<|by rw[e]at W;simp at W;rw[W]at L;simpa using L,H.2.1,R.2.2.1,λq h=>?_⟩;have⟨j,o,T⟩:=List.getElem_of_mem h;have⟨m,l⟩:∃m,s[j]?=some m:=⟨_,zzg bL⟩;have r:=H.1.each j q m (by rw[zzg o,T]) l;have⟨c,U⟩:=aq r rfl
    exact⟨(r.lt q rfl).1,c,U⟩)
   go_wp2;go_ret;exact⟨u3,f,d,rfl,N.out⟩
section
variable(B i E K:Nat)(s:ag)(c:aU)(out:List bt)(L:List Nat)(w:World)
theorem XW(h:dh w B i E s out K L)(u:∀x∈out,x.Ok)(U:K<=290000):
  Calls prog 34 #[.pointer<|some ⟨E,0,none⟩] w λe w'=>∃v r,e=.returned v/\w'.ownsRow w.heap.size 9 1 v out.length (eJ out)/\(out=[]->v=.slice none 0 0)/\dh w' B i E s [] K r/\jk L r w w':=by
 obtain⟨a,p,o,I,V,T,H,R,G,N,m,n,l,d,C,P,M,f,rfl⟩:=h;refine(BA E a p i _ _ out (λb=>b.heap[a]?=some (gK i none (some (gz o))<|.slice none 0 0)/\Fr [a] w b) w P.hh u bL ?_).mono ?_
 .refine(L7 B a i _ C out w P.fG P.jz u bL).mono ?_;rintro e b ⟨v,gs,rfl,h1,h2,h3⟩;exact⟨v,gs,rfl,h1,⟨h2,h3⟩,h3.size⟩
 .rintro e w' ⟨v,b,gs,rfl,h1,h2,⟨h3,h4⟩,h5,h6⟩;have S:r9 B a i none (some (gz o)) C [] w b:=⟨.slice none 0 0,h3,zzu _ _ _ _,h4.mono<|by intro q _ z;simp at z;simp[z],λg J=>by cases J⟩;have⟨F,O,X⟩:=P.yX S
  have⟨Q,D⟩:=O.apart h5 (λk j _=>by
   obtain⟨-,c,y⟩:=h6 k j;exact⟨λf=>by have:=(O.obj k f).2;rw[y]at this;have:=this.not;simp[bo]at this,λt e=>by rw[y]at e;exact ui _ _ _ e⟩)
  have A:=X.yQ h5 λk j=>(h6 k j).1;rw[<-D]at A;exact⟨v,_,rfl,h1,h2,⟨a,p,o,I,V,T,H,R,G,N,m,n,l,d,F,Q,M,⟨f.1,f.2.1,zzs _⟩,rfl⟩,A⟩
theorem XX(h:cT w B E c out K L)(u:∀x∈out++cY c.out,x.Ok)(H:K<=140000):
  Calls prog 34 #[.pointer<|some ⟨E,0,none⟩] w λe w'=>∃v s,e=.returned v/\w'.ownsRow w.heap.size 9 1 v (out++cY c.out).length (eJ<|out++cY c.out)/\(out++cY c.out=[]->v=.slice none 0 0)/\cT w' B E {c with out:=[]} [] K s/\jk L s w w':=by
 obtain⟨a,p,b,g,T,f,D,N,m,n,l,d,G,P,C,o,rfl⟩:=h;have hlen:(out++cY c.out).length<=60000000:=by
  obtain⟨J,M,I,-,-,-,j⟩:=P.sl.co.ex;have:=j.1;rw[zzi];unfold cY;rw[zzn];omega
 refine(BA E a p 0 _ _ (out++cY c.out) (λi=>∃r,nX i B E a p b g T f D N m n {c with out:=[]} l d r []/\jk (br E a p f b g w) (br E a p f b g i) w i) w P.hh u hlen ?_).mono ?_
 .refine(L8 B E a p b g T f D N m n c l d G out w P u hlen).mono ?_;rintro e i ⟨v,gs,r,rfl,h1,h2,h3⟩;exact⟨v,gs,rfl,h1,⟨r,h2,h3⟩,h3.fr.size⟩
 .rintro e w' ⟨v,i,gs,rfl,h1,h2,⟨Bm,eO,gX⟩,j,h6⟩;have⟨F,A⟩:=eO.apart j (λk q _=>by
   obtain⟨-,c,y⟩:=h6 k q;exact⟨λo=>by have:=(eO.obj k o).2;rw[y]at this;have:=this.not;simp[bo]at this,λt e=>by rw[y]at e;exact ui _ _ _ e⟩)
  have z:=gX.yQ j λk q=>(h6 k q).1;rw[<-A]at z;exact⟨v,_,rfl,h1,h2,⟨a,p,b,g,T,f,D,N,m,n,l,d,Bm,F,C,⟨o.1,o.2.1,zzs _⟩,rfl⟩,z⟩
end
abbrev cQ(q:Nat):Value:=.pointer (some ⟨q,0,none⟩)
structure aS where
 id:Nat
 seq:List Nat
 writes:List (Nat × ByteArray × ByteArray)
 asked:Bool
 lost:Bool
 what:Nat
abbrev wj(v w:Value)(x:aS):Obj:=.cells #[.int .u64 (x.id:Int),v,w,.bool x.asked,.bool x.lost,.int .i64 (x.what:Int)] 60
def C0(l:List Nat):List Value:=l.map λn:Nat=>.int .i64 (n:Int)
abbrev wrC(x:Nat × ByteArray × ByteArray):List Value:=[.int .i64 (x.1:Int),.string x.2.1,.string x.2.2]
def zb(l:List (Nat × ByteArray × ByteArray)):List Value:=l.flatMap wrC
abbrev wR(hv dv bv ov:Value)(n:Nat)(fl:Bool):Obj:=.cells #[hv,dv,bv,ov,.int .i64 (n:Int),.bool fl] 37
structure zd(w:World)(B:Nat)(p:Nat × Value × Value)(x:aS):Prop where
 blk:w.heap[p.1]?=some (wj p.2.1 p.2.2 x)
 low:B<=p.1
 seq:w.ownsRow B 3 1 p.2.1 x.seq.length (C0 x.seq)
 qE:w.ownsRow B 57 3 p.2.2 x.writes.length (zb x.writes)
def X0(u v:Value):Prop:=∀g,u.ownBlock=some g->v.ownBlock≠some g
structure ee(w:World)(B np:Nat)(hv dv bv ov:Value)(n:Nat)(fl:Bool)(az:List Nat)(ps:List (Nat × Value × Value))(ds:List aS)(bC:List bt)(ord:List Nat):Prop where
 net:w.heap[np]?=some (wR hv dv bv ov n fl)
 low:B<=np/\B<=w.heap.size
 hs:w.ownsRow B 46 1 hv az.length (az.map cQ)
 dl:w.ownsRow B 55 1 dv ps.length (ps.map λp=>cQ p.1)
 bg:w.ownsRow B 9 1 bv bC.length (eJ bC)
 Kf:bC=[]->bv=.slice none 0 0
 od:w.ownsRow B 55 1 ov ord.length (ord.map λj=>cQ ((ps[j]?.map (·.1)).getD 0))
 Qh:∀j∈ord,j<ps.length
 ap:X0 dv ov
 len:ps.length=ds.length
 each:∀(j:Nat) (p:Nat × Value × Value) (x:aS),ps[j]?=some p->ds[j]?=some x->zd w B p x
 zK:ps.Pairwise λa b=>a.1≠b.1/\X0 a.2.1 b.2.1/\X0 a.2.2 b.2.2
section
variable{w w':World}{B np n:Nat}{hv dv bv ov:Value}{fl:Bool}{az:List Nat}{ps:List (Nat × Value × Value)}{ds:List aS}{bC:List bt}{ord:List Nat}
theorem ee.keep(h:ee w B np hv dv bv ov n fl az ps ds bC ord)(z:w.heap.size<=w'.heap.size)(a:∀(k:Nat) (c:Array Value) (t:TypeId),w.heap[k]?=some (.cells c t (0,0))->¬bo t->w'.heap[k]?=some (.cells c t (0,0))):ee w' B np hv dv bv ov n fl az ps ds bC ord:=by
 have row:∀{b m k:Nat} {e:TypeId} {v:Value} {xs:List Value},w.ownsRow b e k v m xs->¬bo e->w'.ownsRow b e k v m xs:=λ{b m k e v xs} r o=>bW r λg q=>by have⟨c,f⟩:=aq r q;exact(a g c e f o).trans f.symm
 exact⟨a _ _ _ h.net (by simp[bo]),⟨h.low.1,zzk h.low.2 z⟩,row h.hs (by simp[bo]),row h.dl (by simp[bo]),row h.bg (by simp[bo]),h.Kf,row h.od (by simp[bo]),h.Qh,h.ap,h.len,λj p x i l=>by
  have d:=h.each j p x i l;exact⟨a _ _ _ d.blk (by simp[bo]),d.low,row d.seq (by simp[bo]),row d.qE (by simp[bo])⟩,h.zK⟩
theorem ee.Vm(h:ee w B np hv dv bv ov n fl az ps ds bC ord)(hf:xu B w w'):ee w' B np hv dv bv ov n fl az ps ds bC ord:=h.keep hf.below.size λk c t a b=>hf.cells k c t _ a b
theorem ee.new(h:ee w B np hv dv bv ov n fl az ps ds bC ord)(hf:Fr [] w w'):ee w' B np hv dv bv ov n fl az ps ds bC ord:=h.Vm<|xu.new hf h.low.2
end
/-! ### pick,ij,digits -/
def mq(c:Int)(n:Nat):Nat:=((if c<0 then -(c+1) else c)%(n:Int)).toNat
theorem Fw{a b:Int}(h:a=b):Ending.returned (.int .i64 a)=.returned (.int .i64 b):=by rw[h]
theorem gD(c:Int)(n:Nat)(hn:0<n):mq c n<n:=by
 unfold mq;have h:=Int.emod_nonneg (if c<0 then -(c+1)else c) (show(n:Int)≠0 by omega);have a:=Int.emod_lt_of_pos (if c<0 then -(c+1)else c) (show(0:Int)<n by omega);omega
theorem eU(c:Int)(n:Nat)(w:World)(X:-9223372036854775808<=c)(f:c<=9223372036854775807)(hn:0<n)(S:n<=1099511627776):
  Calls prog 10 #[.int .i64 c,.int .i64 (n:Int)] w λe w'=>e=.returned (.int .i64 (mq c n:Int))/\w'=w:=by
 have a:¬(n:Int)=0:=bL;by_cases h:c<0
 .go_enter func10,ntmps10;go_wp2;go_ret;have e:-(c+1).tmod (n:Int)=(-(c+1))%(n:Int):=by
   rw[<-Int.neg_tmod,Int.tmod_eq_emod_of_nonneg bL]
  have b:=Int.emod_nonneg (-(c+1)) a;refine⟨Fw ?_,rfl⟩;unfold mq;rw[e,if_pos h];omega
 .go_enter func10,ntmps10;go_wp2;go_ret;have b:=Int.emod_nonneg c a;refine⟨Fw ?_,rfl⟩;unfold mq;rw[if_neg bL];omega
abbrev Qi:Value:=fy (-1) (-1) 0 0
theorem qF(w:World):Calls prog 12 #[] w λe w'=>e=.returned Qi/\Fr [] w w':=by
 go_enter func12,ntmps12;go_wp2;exact bodyPost_ret (by simp[results,results12,go_sem]) rfl ⟨rfl,(lT w).alloc _⟩
def lI(n:Nat):List Nat:=if n<10 then [48+n] else lI (n/10)++[48+n%10]
termination_by n
decreasing_by omega
theorem C1(n:Nat):(lI n).length<=n+1:=by
 induction n using Nat.strongRecOn with
 |_ n ih=>
 rw[lI];split
 .simp
 .have:=ih (n/10) bL;rw[zzi];simp;omega
theorem Kg(w:World)(b:Nat):(convert 88 9<|.slice (some ⟨w.heap.size,0,none⟩) 1 1).run prog (w.alloc<|.cells #[.int .u8 (b:Int)] 5)=.ok (.string<|str [b]) (w.alloc<|.cells #[.int .u8 (b:Int)] 5):=
 jN _ w.heap.size 0 1 1 [b] rfl (λi h=>by
  obtain rfl:i=0:=by simp at h;omega
  exact(ae (heap_alloc_new w (.cells #[.int .u8 (b:Int)] 5)) 0).trans rfl)
theorem iI(n:Nat):n<=1099511627776->∀w,Calls prog 14 #[.int .i64 (n:Int)] w λe w'=>e=.returned (.string<|str<|lI n)/\Fr [] w w':=by
 induction n using Nat.strongRecOn with
 |_ n ih=>
 intro hn w;by_cases h:n<10
 .have i1:(n:Int)<10:=bL;go_enter func14,ntmps14;have v:=Kg w<|48+n;rw[show(((48+n:Nat):Int))=48+(n:Int) by omega]at v;go_wp2;go_ret;refine⟨?_,(lT w).alloc _⟩;unfold lI;rw[if_pos h];rfl
 .have i1:¬(n:Int)<10:=bL;have i:=ih (n/10) bL bL;go_enter func14,ntmps14;go_wp2_with fail;apply(i w).mono;rintro e b ⟨rfl,bh⟩;have v:=Kg b<|48+n%10;rw[show(((48+n%10:Nat):Int))=48+(n:Int)%10 by omega]at v;have F:=af bh
  have z:¬9223372036854775807<(str<|lI<|n/10).size+(str [48+n%10]).size:=by
   rw[cR,cR];have:=C1<|n/10;simp;omega
  clear bh;go_wp2;go_ret;refine⟨?_,F.out.alloc _⟩;have a:lI n=lI (n/10)++[48+n%10]:=by rw[lI,if_neg h]
  rw[a,xw];rfl
def gL(ds:List aS)(k what:Nat):List aS:=match ds[k]? with|none=>ds|some x=>if x.what=0 then ds.set k { x with what:=what } else ds
def iT(ds:List aS)(ord:List Nat)(k what:Nat):List Nat:=match ds[k]? with|none=>ord|some x=>if x.what=0/\what=5 then ord++[k] else ord
def mr(t:TypeId):Prop:=t=37\/t=60\/t=55\/t=57\/t=3
def X1(w:World)(S:List Nat):Prop:=∀k∈S,k<w.heap.size->∃c t fr,w.heap[k]?=some (.cells c t fr)/\mr t
theorem mr.not{t:TypeId}(h:mr t):¬bo t/\t≠9:=by
 obtain e|e|e|e|e:=h<;>subst e<;>exact⟨by simp[bo],bM⟩
theorem X1.s{S:List Nat}(h:X1 w S):oV w S:=λk b l=>by
 have⟨c,t,fr,e,a⟩:=h k b l;exact⟨c,t,fr,e,a.not.1,λe=>absurd e a.not.2⟩
structure pR(B:Nat)(w w':World):Prop where
 fr:∃S,Fr S w w'/\X1 w S/\∀k∈S,B<=k
theorem pR.oZ{K:Nat}{J:List Nat}{c:aU}{co:List bt}{ss:List (ag×List bt)}{s:List (List Nat)}(h:pR B w w')(hn:jI w B J c co ss K s):jI w' B J c co ss K s:=by
 obtain⟨S,a,b,-⟩:=h.fr;exact hn.law a b.s
theorem pR.below(h:pR B w w')(c:B<=w.heap.size):Below B w w':=by
 obtain⟨S,a,-,b⟩:=h.fr;exact a.below c b
theorem pR.trans{b:World}(h:pR B a b)(k:pR B b c):pR B a c:=by
 have⟨S,f,i,j⟩:=h.fr;have⟨T,m,n,o⟩:=k.fr;refine⟨S++T,(f.mono λq _ d=>List.mem_append_left _ d).trans<|m.mono λq _ d=>List.mem_append_right _ d,λq d l=>?_,λq d=>(zzo.1 d).elim (j q)<|o q⟩;by_cases g:q∈S
 .exact i q g l
 .have hT:q∈T:=(zzo.1 d).elim (λe=>absurd e g) id;have:=n q hT<|zzl l f.size;rw[f.block q l g]at this;exact this
theorem pR.new(h:Fr [] w w'):pR B w w':=⟨[],h,λk a=>(by cases a),bR⟩
structure wS(B:Nat)(w w':World):Prop where
 below:Below B w w'
 cells:∀(k:Nat) (c:Array Value) (t:TypeId) (fr:Nat × Nat),w.heap[k]?=some (.cells c t fr)->¬bo t->¬mr t->w'.heap[k]?=some (.cells c t fr)
theorem wS.trans{b:World}(h:wS B a b)(k:wS B b c):wS B a c:=⟨h.below.trans k.below,λi x t fr f e d=>k.cells i x t fr (h.cells i x t fr f e d) e d⟩
theorem xu.lg(h:xu B w w'):wS B w w':=⟨h.below,λk c t fr a b _=>h.cells k c t fr a b⟩
theorem pR.cells(h:pR B w w')(k:Nat)(c:Array Value)(t:TypeId)(fr:Nat×Nat)(a:w.heap[k]?=some (.cells c t fr))(f:¬mr t):w'.heap[k]?=some (.cells c t fr):=by
 obtain⟨S,b,d,-⟩:=h.fr;have l:=(zza.1 a).1;refine(b.block k l λm=>?_).trans a;have⟨c',j,i,e,g⟩:=d k m l;rw[a]at e;cases e;exact f g
theorem pR.lg(h:pR B w w')(a:B<=w.heap.size):wS B w w':=⟨h.below a,λk c t fr b _ d=>h.cells k c t fr b d⟩
theorem pR.row(h:pR B w w')(r:w.ownsRow b e k v n xs)(d:¬mr e):w'.ownsRow b e k v n xs:=
 bW r (λg f=>by have⟨c,a⟩:=aq r f;exact(h.cells g c e _ a d).trans a.symm)
theorem wS.row(h:wS B w w')(r:w.ownsRow b e k v n xs)(d:¬bo e)(f:¬mr e):w'.ownsRow b e k v n xs:=
 bW r (λg i=>by have⟨c,a⟩:=aq r i;exact(h.cells g c e _ a d f).trans a.symm)
theorem wS.met(h:wS B w w')(a:2<=B)(m:Met w):Met w':=m.below h.below bL
theorem wS.lh(h:wS B w w')(a:2<=B)(m:bI w):bI w':=m.cI<|h.below.block 1 bL
section
variable{w w' o f:World}{B E n:Nat}{Z O bv G d:Value}{U:Bool}{J:List Nat}{ps:List (Nat × Value × Value)}{ds:List aS}{bC:List bt}{ord:List Nat}{k:Nat}{I:Nat}{h l:Value}{x x':aS}
theorem ee.Fx(a:ee w B E Z O bv G n U J ps ds bC ord)(u:ps[k]?=some (I,h,l))(D:ds[k]?=some x)(hf:Fr [I] w w')(hb:w'.heap[I]?=some (wj h l x'))(K:x'.seq=x.seq)(L:x'.writes=x.writes):ee w' B E Z O bv G n U J ps (ds.set k x') bC ord/\pR B w w':=by
 have f:=a.each k _ x u D;have F:=(zzd.1 D).1;have ne:∀(q:Nat) (c:Array Value) (t:TypeId),w.heap[q]?=some (.cells c t (0,0))->t≠60->q∉[I]:=λq c t d R A=>by
  simp at A;rw[A,f.blk]at d;cases d;exact R rfl
 have row:∀{b m j:Nat} {e:TypeId} {v:Value} {xs:List Value},w.ownsRow b e j v m xs->e≠60->w'.ownsRow b e j v m xs:=λ{b m j e v xs} C N=>bW C λg P=>by have⟨c,z⟩:=aq C P;exact hf.block g (zza.1 z).1<|ne g c e z N
 refine⟨⟨(hf.block E (zza.1 a.net).1<|ne E _ _ a.net bM).trans a.net,⟨a.low.1,zzk a.low.2 hf.size⟩,row a.hs bM,row a.dl bM,row a.bg bM,a.Kf,row a.od bM,a.Qh,a.ap,by rw[List.length_set];exact a.len,λj p y o r=>?_,a.zK⟩,⟨[I],hf,λq d _=>by simp at d;subst d;exact⟨_,_,_,f.blk,.inr<|.inl rfl⟩,by intro q d;simp at d;rw[d];exact f.low⟩⟩;by_cases e:k=j
 .subst e;rw[List.getElem?_set_self F]at r;rw[u]at o;cases r;cases o;exact⟨hb,f.low,by rw[K];exact row f.seq bM,by rw[L];exact row f.qE bM⟩
 .rw[List.getElem?_set_ne e]at r;have i:=a.each j p y o r;have s:=(zzd.1 u);have M:=(zzd.1 o);have Q:p.1≠I:=by
   obtain e|e:=Nat.lt_or_gt_of_ne e
   .have:=(List.pairwise_iff_getElem.1 a.zK k j s.1 M.1 e).1;rw[s.2,M.2]at this;exact λH=>this H.symm
   .have:=(List.pairwise_iff_getElem.1 a.zK j k M.1 s.1 e).1;rw[s.2,M.2]at this;exact this
  exact⟨(hf.block p.1 (zza.1 i.blk).1<|by simpa using Q).trans i.blk,i.low,row i.seq bM,row i.qE bM⟩
theorem ee.X2(a:ee w B E Z O bv G n U J ps ds bC ord)(L:ps[k]?=some (I,h,l))(D:Fr [] w o)(s:o.grownBy f G.ownBlock)(C:f.ownsRow B 55 1 d (ord.length+1)<|(ord.map λj=>cQ<|(ps[j]?.map (·.1)).getD 0)++[cQ I])(Q:∀g,d.ownBlock=some g->G.ownBlock=some g\/w.heap.size<=g):
  ee (f.setCell ⟨E,3,none⟩ d) B E Z O bv d n U J ps ds bC (ord++[k])/\pR B w (f.setCell ⟨E,3,none⟩ d):=by
 have⟨W,F⟩:∃W,W=f.setCell ⟨E,3,none⟩ d:=⟨_,rfl⟩;rw[<-F];have Y:=(zza.1 a.net).1;have X:=bj a.od a.net bM;have K:=((Fr.bz s).block E (by have:=D.size;omega)<|by simp;exact X).trans ((D.block E Y bR).trans a.net);have N:Fr [E] f W:=by rw[F];exact Fr.cD bR _ _
 have hf:=((D.mono bR).andThen ((Fr.bz s).mono λk _ A=>List.mem_cons_of_mem E A) λj z _=>z).andThen (N.mono λk _ A=>by simp at A;simp[A]) λj z _=>z
 have ne:∀(q:Nat) (c:Array Value) (t:TypeId),w.heap[q]?=some (.cells c t (0,0))->t≠37->G.ownBlock≠some q->q∉E::G.ownBlock.toList:=λq c t i T C S=>by
  obtain e|e:=zzj.1 S
  .rw[e,a.net]at i;cases i;exact T rfl
  .simp at e;exact C e
 have row:∀{b m j:Nat} {e:TypeId} {v:Value} {xs:List Value},w.ownsRow b e j v m xs->e≠37->(e≠55\/X0 v G)->W.ownsRow b e j v m xs:=λ{b m j e v xs} M R r=>bW M (λg s=>by
  have⟨c,H⟩:=aq M s;refine hf.block g (zza.1 H).1<|ne g c e H R λu=>?_;obtain r|r:=r
  .obtain⟨c2,x⟩:=aq a.od u;rw[H]at x;cases x;exact r rfl
  .exact r g s u)
 have P:∀(q:Nat) (c:Array Value),w.heap[q]?=some (.cells c 60 (0,0))->W.heap[q]?=some (.cells c 60 (0,0)):=λq c i=>(hf.block q (zza.1 i).1<|ne q c _ i bM λu=>by have⟨c2,x⟩:=aq a.od u;rw[i]at x;cases x).trans i
 have XO:=(zzd.1 L).1;refine⟨⟨by rw[F];have:=ar K 3 d;simp at this;exact this,⟨a.low.1,zzk a.low.2 hf.size⟩,row a.hs bM<|.inl bM,row a.dl bM<|.inr a.ap,row a.bg bM<|.inl bM,a.Kf,?_,λj z=>?_,λg s e=>?_,a.len,λj p y z V=>?_,a.zK⟩,⟨_,hf,λq i hl=>?_,λq i=>?_⟩⟩
 .rw[zzi,List.map_append,List.map_cons,L];exact aD C N λg s=>by simp;intro e;subst e;exact bj C K bM s
 .rcases zzo.1 z with e|e
  .exact a.Qh j e
  .simp at e;omega
 .rcases Q g e with u|u
  .exact a.ap g s u
  .have:=(a.dl.lt g s).2;omega
 .have r:=a.each j p y z V;exact⟨P _ _ r.blk,r.low,row r.seq bM<|.inl bM,row r.qE bM<|.inl bM⟩
 .rcases zzj.1 i with e|e
  .rw[e,a.net];exact⟨_,_,_,rfl,.inl rfl⟩
  .simp at e;have⟨c2,x⟩:=aq a.od e;exact⟨_,_,_,x,.inr<|.inr<|.inl rfl⟩
 .rcases zzj.1 i with e|e
  .rw[e];exact a.low.1
  .simp at e;exact(a.od.lt q e).1
end
section
variable(w:World)(B E n:Nat)(Z O bv G:Value)(U:Bool)(J:List Nat)(ps:List (Nat × Value × Value))(ds:List aS)(bC:List bt)(ord:List Nat)(k what:Nat)(p:Nat × Value × Value)(x:aS)
theorem Qj:(Tryz.prog.info? 55).map (λi=>(i.zero,i.size,i.bytes))=some (some<|.pointer none,1,8):=dJ
theorem Fy(a:ee w B E Z O bv G n U J ps ds bC ord)(o:ps[k]?=some p)(c:ds[k]?=some x)(r:x.what=0\/x.what=what)(hw:what=5\/what=6)(hl:ord.length<=60000000):
  Calls prog 74 #[cQ E,cQ p.1,.int .i64 (what:Int)] w λe w'=>e=.returned (.bool true)/\∃jl,ee w' B E Z O bv jl n U J ps (gL ds k what) bC (iT ds ord k what)/\pR B w w':=by
 have f:=a.each k p x o c;have⟨I,h,l⟩:=p;have D:=f.blk;have ei:=f.low;simp only[]at D ei ⊢;have c5:=ae D 5;have f5:=aj D 5;simp at c5;by_cases b:x.what=0
 .obtain⟨W,hW⟩:∃W,W=w.setCell ⟨I,5,none⟩ (.int .i64 (what:Int)):=⟨_,rfl⟩;have t:Fr [I] w W:=by rw[hW];exact Fr.cD bR _ _
  have j:W.heap[I]?=some (wj h l {x with what:=what}):=by rw[hW];have:=ar D 5<|.int .i64 (what:Int);simp at this;exact this
  have⟨P,z⟩:=a.Fx o c t j rfl rfl;have X:gL ds k what=ds.set k {x with what:=what}:=by unfold gL;rw[c];simp[b]
  rw[X];rw[b]at c5;have m:=ae j 5;simp at m;have H:=af<|zzb P z;have R:((0:Nat):Int)=0:=rfl;rw[R]at c5;obtain wP|hw6:=hw
  .have hsO:iT ds ord k what=ord++[k]:=by unfold iT;rw[c];simp[b,wP]
   rw[hsO];have C:(what:Int)=5:=bL;have⟨i0,hi,a6,a7,a8⟩:=info_parts Qj;have c3:=ae a.net 3;simp at c3;have q:=P.od;have a1:=P.low.2;have rX:=(zza.1 P.net).1;have i:W=w.setCell (hO I 5) (.int .i64 5):=by rw[hW,C]
   have L9:W.heap.size=w.heap.size:=by rw[i];simp
   rw[C]at m;have N:=af rX;clear a f D b X hsO P z t j r R wP hW rX;rw[i]at q;go_enter func74,ntmps74;go_wp2_with (at_builtin;apply gR rfl _ _ 34 rfl B 55 i0 _ 1 8 underlying34 hi a6 a7 a8 rfl bM G ord.length _ rfl (q.alloc _) 1 [cQ I] (.inl ⟨gz w.heap.size,1,rfl,by simpa using dU (w.setCell (hO I 5)<|.int .i64 5) #[cQ I] 55⟩) rfl (by intro u Y;simp at Y;subst Y;rfl) eA bL (by rw[zzv,<-i];omega))
   rw[<-i];intro d w3 v s S;obtain⟨va,vb,vc,rfl⟩:=ct v;have F:Fr [] W (W.alloc<|.cells #[cQ I] 55):=(lT W).alloc _;have⟨V,S3,T,M,Q⟩:=H.1.X2 o F s v (λg A=>S.elim (λe=>.inl<|e▸A) λe=>.inr<|by rw[e]at A;cases A;omega);have L:w3.heap[E]?=some (wR Z O bv G n U):=((Fr.bz s).block E (by have:=N.out;simp;omega)<|by simp;exact bj H.1.od H.1.net bM).trans ((F.block E N.out bR).trans H.1.net);have g3:=ae L 3;have a':=aj L 3;have K:(ds.set k {x with what:=what})[k]?=some {x with what:=what}:=List.getElem?_set_self (zzd.1 c).1;have e5:=ae (V.each k _ _ o K).blk 5;simp at g3 e5;rw[C]at e5;have H3:=af<|zzb V<|H.2.trans ⟨S3,T,M,Q⟩;clear v s S F V T M Q L K q i m a1;go_wp2;go_ret;exact⟨rfl,_,H3.out⟩
  .have hsO:iT ds ord k what=ord:=by unfold iT;rw[c];simp[hw6]
   rw[hsO];have i6:¬(what:Int)=5:=bL;clear a f D b X hsO P z t j r R hw6;rw[hW]at m;go_enter func74,ntmps74;go_wp2;rw[<-hW];go_ret;exact⟨rfl,G,H.out⟩
 .have e1:x.what=what:=bL;have y:gL ds k what=ds/\iT ds ord k what=ord:=by
   unfold gL iT;rw[c];simp[b]
  rw[y.1,y.2];have i1:¬((x.what:Int)=0):=bL;have HH:=af a;rw[e1]at c5 i1;clear a f D b y r;go_enter func74,ntmps74;go_wp2;go_ret;exact⟨rfl,G,HH.out,pR.new<|lT w⟩
end
def wrote(ds:List aS)(y:Nat × ByteArray × ByteArray)(j:Nat):Bool:=match ds[j]? with|none=>false|some x=>x.writes.any λz=>decide (z=y)
def eK(ds:List aS)(ord:List Nat)(y:Nat × ByteArray × ByteArray):Bool:=ord.any (wrote ds y)
theorem fP{f:α->Nat}{l:List α}(h:w.ownsRow b e 1 v n<|l.map λj=>cQ<|f j):∃o c,v=.slice o n c/\(∀i j,l[i]?=some j->∃g,o=some ⟨g,0,none⟩/\w.cell? ⟨g,i,none⟩=some (cQ<|f j)):=by
 rcases h.2 with⟨e,k⟩|⟨g,d,r,e,rest⟩
 .refine⟨none,0,by rw[e,k],λi p a=>?_⟩;have:=(zzd.1 a).1;have m:=h.1;simp at m;omega
 .exact⟨some (gz g),d,e,λi p a=>⟨g,rfl,dC h e<|by rw[zzy,a];rfl⟩⟩
theorem dF{c:Nat}{f:α->Nat}{l:List α}{j:α}(h:w.ownsRow b e 1 (.slice o m c) n<|l.map λj=>cQ<|f j)(d:l[i]?=some j):∃g,o=some ⟨g,0,none⟩/\w.cell? ⟨g,i,none⟩=some (cQ<|f j):=by
 have⟨k,c',e,a⟩:=fP h;cases e;exact a i j d
theorem Kh{a b:ByteArray}(h:a≠b):(a.toList==b.toList)=false:=by
 rw[beq_eq_false_iff_ne];intro e;exact h<|ByteArray.ext<|Array.ext'<|by simpa [Lib.toList_data]using e
theorem Fz{T:List (Nat×ByteArray×ByteArray)}(h:w.ownsRow b 57 3 v T.length<|zb T):∃o c,v=.slice o T.length c/\(∀i x,T[i]?=some x->∃g,o=some ⟨g,0,none⟩/\w.cell? ⟨g,i*3,none⟩=some (.int .i64 (x.1:Int))/\w.cell? ⟨g,i*3+1,none⟩=some (.string x.2.1)/\w.cell? ⟨g,i*3+2,none⟩=some (.string x.2.2)):=by
 rcases h.2 with⟨e,l⟩|⟨g,d,r,e,rest⟩
 .refine⟨none,0,by rw[e,l],λi p a=>?_⟩;have:=(zzd.1 a).1;omega
 .refine⟨some ⟨g,0,none⟩,d,e,λi p a=>⟨g,rfl,?_⟩⟩;have y:=λj m=>rj (f:=wrC) (k:=3) (λ_=>rfl) T i p a j m
  exact⟨dC h e<|y 0 bM,dC h e<|y 1 bM,dC h e<|y 2 bM⟩
theorem Qk{c:Nat}{T:List (Nat×ByteArray×ByteArray)}{x:Nat×ByteArray×ByteArray}(h:w.ownsRow b 57 3 (.slice o m c) T.length<|zb T)(j:T[i]?=some x):∃g,o=some ⟨g,0,none⟩/\w.cell? ⟨g,i*3,none⟩=some (.int .i64 (x.1:Int))/\w.cell? ⟨g,i*3+1,none⟩=some (.string x.2.1)/\w.cell? ⟨g,i*3+2,none⟩=some (.string x.2.2):=by
 have⟨d,c',e,a⟩:=Fz h;cases e;exact a i x j
section
variable(w:World)(B E n:Nat)(O I bv U:Value)(J:Bool)(G:List Nat)(ps:List (Nat × Value × Value))(ds:List aS)(bC:List bt)(ord:List Nat)
theorem L_(h:Nat)(y val:ByteArray)(a':ee w B E O I bv U n J G ps ds bC ord)(hl:ord.length<=60000000)(T:∀x∈ds,x.writes.length<=60000000):
  Calls prog 77 #[cQ E,.int .i64 (h:Int),.agg #[.string y,.string val]] w λe w'=>e=.returned (.bool<|eK ds ord (h,y,val))/\Fr [] w w':=by
 have⟨W,o⟩:=gb <|w.alloc (.cells #[.string y,.string val] 164);have C:Fr [] w W:=by rw[o];exact(lT w).alloc _
 have dQ:W.heap[w.heap.size]?=some (.cells #[.string y,.string val] 164):=by rw[o];exact heap_alloc_new w _
 have P:=a'.new C;have⟨N,hN⟩:=gb ord.length;have X:=af hN;obtain⟨ao,ca,eo,-⟩:=fP P.od;rw[<-hN]at eo;subst eo;have d:=af<|zzb P<|zzb C<|zzb dQ T;rw[<-hN]at hl;clear a' P C dQ T hN
 go_enter func77,ntmps77;go_wp2;rw[<-o];clear o;go_loopw [7] (λi wr=>∃k:Nat,k<=N/\i=.int .i64 (k:Int)/\Hid ((ord.take k).any (wrote ds (h,y,val))=false/\Fr [] W wr)) (λi _=>N-(intOf i).toNat)
 case atStart=>exact⟨0,zzs _,rfl,bR,lT W⟩
 case round=>
  obtain⟨i,hi,rfl,f⟩:=hrel;by_cases bU:i<N
  .obtain⟨j,hj⟩:∃j,ord[i]?=some j:=⟨_,zzg<|by rw[<-X.out];exact bU⟩;have S:=d.1.Qh j<|zzh hj;have⟨p,s⟩:∃p,ps[j]?=some p:=⟨_,zzg S⟩;have⟨x,t⟩:∃x,ds[j]?=some x:=⟨_,zzg<|by rw[<-d.1.len];exact S⟩;have l:=d.1.new f.2;obtain⟨g,rfl,a7⟩:=dF l.od hj;rw[s]at a7;have R:=l.each j p x s t;have⟨pp,sv,wv⟩:=p;have D:=R.blk;have⟨wa,wc,L,V⟩:=Fz R.qE;simp only[]at D L;have⟨M,m⟩:=gb x.writes.length;rw[<-m]at L;subst L;have al:=d.2.2.2 x<|zzh t;have c2:=ae D 2;have A:=ae l.net 3;have a6:=(f.2.block w.heap.size (zza.1 d.2.2.1).1 bR).trans d.2.2.1;simp at c2 A a7;rw[<-m]at al;have H:=af<|zzb t<|zzb V<|zzb D<|zzb l<|zzb a6<|zzb m hj;have Y:=af s;have i0:(0:Int)<=i:=bL
   have i1:(i:Int)<N:=bL;clear l R D V a6 t s m hj S;go_wp2;go_loopw [8] (λk wx=>∃q:Nat,q<=M/\k=.int .i64 (q:Int)/\Hid ((x.writes.take q).any (λz=>decide<|z=(h,y,val))=false/\Fr [] wr wx)) (λk _=>M-(intOf k).toNat)
   case atStart=>exact⟨0,zzs _,rfl,bR,lT wr⟩
   case round=>
    obtain⟨q,hq,rfl,Q⟩:=hrel;have Z:=H.2.2.2.1.new Q.2;obtain⟨a1,-⟩:=zzb Z trivial;have r:=Z.each j _ x Y.out H.1;have aa:=ae r.blk 2;have an:=ae Z.net 3;have⟨g',eg,a8⟩:=dF Z.od H.2.2.2.2.2.2;cases eg;rw[Y.out]at a8;simp at aa an a8;by_cases ad:q<M
    .obtain⟨⟨v,z2,z3⟩,hz⟩:∃z,x.writes[q]?=some z:=⟨_,zzg<|by rw[<-H.2.2.2.2.2.1];exact ad⟩;have⟨g3,ab,y0,y1,y2⟩:=Qk r.qE hz;subst ab;have u:=(Q.2.block w.heap.size (zza.1 H.2.2.2.2.1).1 bR).trans H.2.2.2.2.1;have b0:=ae u 0;have b1:=ae u 1;have az:=(zza.1 u).1;simp at b0 b1 y0 y1 y2;have j0:(0:Int)<=q:=bL
     have j1:(q:Int)<M:=bL;have HZ:=af hz;clear Z a1 r u hz;have next:¬(v=h/\z2=y/\z3=val)->Hid ((x.writes.take<|q+1).any (λz=>decide<|z=(h,y,val))=false):=λe=>by
      show _=_;rw[List.take_add_one,List.any_append,Q.1,HZ.out];simp;exact λa b c=>e ⟨a,b,c⟩
     by_cases e1:v=h
     .subst e1;by_cases F:z2=y
      .subst F;by_cases K:z3=val
       .subst K;clear next;go_wp2;go_ret;refine⟨?_,d.2.1.trans<|f.2.trans<|Q.2.alloc _⟩
        have e:eK ds ord (v,z2,z3)=true:=by
         unfold eK;rw[List.any_eq_true];refine⟨j,zzh H.2.2.2.2.2.2,?_⟩;unfold wrote;rw[H.1];simp only[];rw[List.any_eq_true];exact⟨_,zzh HZ.out,bR⟩
        rw[e];rfl
       .have HX:=next (λe=>K e.2.2);have aw:=Kh K;clear next;go_wp2;go_roundw;case rel=>exact⟨q+1,bL,eR,HX.out,Q.2.alloc _⟩
        case measure=>simp[intOf];omega
      .have HX:=next (λe=>F e.2.1);have MV:=Kh F;clear next;go_wp2;go_roundw;case rel=>exact⟨q+1,bL,eR,HX.out,Q.2.alloc _⟩
       case measure=>simp[intOf];omega
     .have HX:=next (λe=>e1 e.1);have av:¬(v:Int)=h:=bL
      clear next;go_wp2;go_roundw;case rel=>exact⟨q+1,bL,eR,HX.out,Q.2.alloc _⟩
      case measure=>simp[intOf];omega
    .have j1:¬(q:Int)<M:=bL;clear Z a1 r;go_wp2;go_roundw;case rel=>
      refine⟨i+1,bL,eR,?_,f.2.trans Q.2⟩;rw[List.take_add_one,List.any_append,f.1,H.2.2.2.2.2.2];have:=Q.1;rw[zzt<|by rw[<-H.2.2.2.2.2.1];omega]at this;simp only[Option.toList,List.any_cons,List.any_nil,Bool.or_false,Bool.false_or];unfold wrote;rw[H.1];exact this
     case measure=>simp[intOf];omega
  .have i1:¬(i:Int)<N:=bL;have A:=ae (d.1.new f.2).net 3;simp at A;go_wp2;go_ret;refine⟨?_,d.2.1.trans f.2⟩;have:=f.1;rw[zzt<|by rw[<-X.out];omega]at this;unfold eK;rw[this];rfl
end
end
variable{K t:Nat}{c:aU}
theorem nZ(c:aU)(t:Nat):(ak c.ai t=none/\c.tx t=A0)\/∃x,ak c.ai t=some x/\c.tx t=x/\(t,x)∈c.ai:=by
 unfold aU.tx;cases h:ak c.ai t with
 |none=>exact .inl ⟨rfl,rfl⟩
 |some x=>exact .inr ⟨x,rfl,rfl,bZ h⟩
theorem cN.put(h:cN K c){x:fe}(hs:(c.tx t).state≠0)(b:x.since<=c.aC/\4<=x.state/\x.state<=6)(r:List<|Nat×Nat)(o:List<|Nat×Nat×Nat):cN K {c with ai:=aV c.ai t x,res:=r,out:=o}:=by
 rcases nZ c t with⟨-,e⟩|⟨y,d,-,m⟩
 .rw[e]at hs;exact absurd rfl hs
 .have ht:=h.xt _ m;refine⟨h.once.put t x,?_,h.fB,λq a=>?_⟩
  .show(aT c.ai t).length+1<=12;have:=qz m;have:=h.len;omega
  .rcases zzj.1 a with e|e
   .rw[e];exact⟨ht.1,ht.2.1,b⟩
   .exact h.xt q (zzp.1 e).1
theorem cN.del{K:Nat}{c:aU}(h:cN K c)(t:Nat)(r:List<|Nat×Nat)(o:List<|Nat×Nat×Nat):cN K {c with ai:=aT c.ai t,res:=r,out:=o}:=
 ⟨h.once.del t,by have:=kC c.ai t;have:=h.len;show(aT c.ai t).length<=12;omega,h.fB,λq a=>h.xt q (zzp.1 a).1⟩
theorem cN.out(h:cN K c)(r:List<|Nat×Nat)(o:List<|Nat×Nat×Nat):cN K {c with res:=r,out:=o}:=⟨h.once,h.len,h.fB,h.xt⟩
theorem cN.begun(h:cN K c):cN (K+1) c.begun.1:=by
 unfold aU.begun;have hn:=h.fB;split
 .exact h.mono bL
 .rename_i uP;refine⟨h.once.put _ _,?_,⟨?_,?_,?_,?_,?_⟩,λq a=>?_⟩
  .have:=kC c.ai c.next;show(aT c.ai c.next).length+1<=12;omega
  .simp
  .simp;omega
  .simp only[];split<;>omega
  .simp only[];split<;>omega
  .simp;omega
  .rcases zzj.1 a with e|e
   .rw[e];simp;omega
   .have:=h.xt q (zzp.1 e).1;exact⟨this.1,cE,this.2.2⟩
theorem cN.since(h:cN K c)(t:Nat):(c.tx t).since<=c.aC:=by
 rcases nZ c t with⟨-,e⟩|⟨y,-,e,m⟩
 .rw[e];exact zzs _
 .rw[e];exact(h.xt _ m).2.2.1
theorem cN.st(h:cN K c)(a:(c.tx t).state≠0):4<=(c.tx t).state/\(c.tx t).state<=6:=by
 rcases nZ c t with⟨-,e⟩|⟨y,-,e,m⟩
 .rw[e]at a;exact absurd rfl a
 .rw[e];exact(h.xt _ m).2.2.2
theorem Ql(l:List Nat)(k:Nat)(h:∀x∈l,x=0):l.getD k 0=0:=by
 rw[List.getD_eq_getElem?_getD];cases e:l[k]? with
 |none=>rfl
 |some x=>exact h x<|zzh e
theorem T1{k p:Nat}(h:(c.tx t).parts.getD k 0=p)(G:p≠0):(c.tx t).state≠0\/ak c.ai t≠none:=by
 rcases nZ c t with⟨-,e⟩|⟨y,a,-,-⟩
 .rw[e]at h;exfalso;apply G;rw[<-h];exact Ql _ k bM
 .exact .inr<|by rw[a];simp
theorem cN.has(h:cN K c)(a:ak c.ai t≠none):(c.tx t).state≠0:=by
 rcases nZ c t with⟨e,-⟩|⟨y,-,e,m⟩
 .exact absurd e a
 .rw[e];have:=(h.xt _ m).2.2.2;simp at this;omega
theorem cN.dD(h:cN K c)(t:Nat)(zs:List Int):cN K (c.dD t zs):=by
 unfold aU.dD;split
 .rename_i e;exact h.put bL ⟨zzc _,bR,bR⟩ _ _
 .exact h
theorem cN.iR(h:cN K c)(t:Nat):cN K (c.iR t):=by
 unfold aU.iR;split
 .exact h
 .exact h.del t _ _
theorem cN.kT(h:cN K c)(t k v:Nat):cN K (c.kT t k v):=by
 unfold aU.kT;split
 .exact h
 .rename_i e;have hs:=(T1 (Decidable.not_not.1 e) bM).elim id h.has;have b:=h.st hs;have a:=h.since t;split
  .exact h.del t _ _
  .split
   .exact h.put (x:={c.tx t with parts:=(c.tx t).parts.set k v}) hs ⟨a,b⟩ _ _
   .split
    .exact h.put (x:={c.tx t with parts:=(c.tx t).parts.set k v,state:=6}) hs ⟨a,(show 4<=6 by decide),(show 6<=6 by decide)⟩ _ _
    .exact h.del t _ _
theorem cN.kn(h:cN K c)(t k:Nat):cN K (c.kn t k):=by
 unfold aU.kn;split
 .exact h
 .rename_i e;have hs:(c.tx t).state≠0:=bL;split
  .exact h.put (x:={c.tx t with parts:=(c.tx t).parts.set k 5}) hs ⟨h.since t,h.st hs⟩ _ _
  .exact h.del t _ _
theorem cN.recv(h:cN K c)(out:List bt)(x:bt):cN K (gj c out x).1:=by
 unfold gj;split
 .exact h.kn _ _
 .split
  .exact h
  .exact h.kT _ _ _
theorem cz.recv{s:ag}(h:cz K s)(i:Nat)(out:List bt)(x:bt):cz K (fE i s out x).1:=by
 unfold fE;split
 .exact h.kh _
 .split
  .unfold ag.dD;split
   .exact h.comm _
   .exact h
  .exact h.forget _
section
variable{w:World}{B K:Nat}{E:List Nat}{c:aU}{co:List bt}{ss:List (ag × List bt)}{I:List (List Nat)}{G i t:Nat}{s:ag}{out:List bt}
abbrev zL(I:List (List Nat))(B:Nat)(E:List Nat)(c:aU)(co:List bt)(ss:List (ag × List bt))(K:Nat)(w w':World):Prop:=(∃r,jI w' B E c co ss K r)/\xu B w w'/\∃L∈I,Fr L w w'
theorem Qm(h:jI w B E c co ss K I)(u:E[0]?=some G):
  Calls prog 73 #[.pointer<|some ⟨G,0,none⟩] w λe w'=>∃v,e=.returned v/\w'.ownsRow B 157 2 v c.res.length (oQ c.res)/\zL I B E {c with res:=[]} co ss K w w':=by
 have⟨q,L,a,b,V⟩:=h.qA;rw[u]at a;cases a;apply(Qg _ _ _ _ _ _ _ b).mono;rintro e w' ⟨v,L',rfl,hr,hn,hf,-⟩;exact⟨v,rfl,hr,V (zzc K) hn (h.cg.out _ _) hf⟩
theorem T3(h:jI w B E c co ss K I)(u:E[0]?=some G)(d:t<18446744073709551616):
  Calls prog 75 #[.pointer<|some ⟨G,0,none⟩,.int .u64 (t:Int)] w λe w'=>e=.returned (.int .i64 ((c.tx t).state:Int))/\w'=w:=by
 obtain⟨q,L,a,b,-⟩:=h.qA;rw[u]at a;cases a;exact TZ _ _ _ _ _ _ _ _ b d
theorem X4(h:jI w B E c co ss K I)(u:E[0]?=some G):Calls prog 21 #[.pointer<|some ⟨G,0,none⟩] w λe w'=>e=.returned (.bool true)/\w'=w:=by
 obtain⟨q,L,a,b,-⟩:=h.qA;rw[u]at a;cases a;exact adl _ _ _ _ _ _ _ b
theorem kIs(h:jI w B E c co ss K I)(hs:ss[i]?=some (s,out))(u:E[i+1]?=some G):Calls prog 21 #[.pointer<|some ⟨G,0,none⟩] w λe w'=>e=.returned (.bool true)/\w'=w:=by
 obtain⟨q,L,a,b,-,-⟩:=h.jg hs;rw[u]at a;cases a;exact adk _ _ _ _ _ _ _ _ b
theorem X5(h:jI w B E c co ss K I)(hs:ss[i]?=some (s,out))(u:E[i+1]?=some G)(d:K<=300000):
  Calls prog 76 #[.pointer<|some ⟨G,0,none⟩,.int .i64 0] w λe w'=>∃v,e=.returned (.tuple #[v,.bool true])/\w'.ownsRow w.heap.size 164 2 v (cX s.aM).length (nn<|cX s.aM)/\Fr [] w w':=by
 obtain⟨q,L,a,b,-,-⟩:=h.jg hs;rw[u]at a;cases a;exact XS _ _ _ _ _ _ _ _ b d
theorem Qn(k:ByteArray)(h:jI w B E c co ss K I)(hs:ss[i]?=some (s,out))(u:E[i+1]?=some G)(d:k.size<=maxLen):
  Calls prog 26 #[.pointer<|some ⟨G,0,none⟩,.string k] w λe w'=>e=.returned (.tuple #[.string<|(ak s.aM k).getD ByteArray.empty,.bool (ak s.aM k).isSome])/\Fr [] w w':=by
 obtain⟨q,L,a,b,-,-⟩:=h.jg hs;rw[u]at a;cases a;exact XR _ _ _ _ _ _ _ _ _ b d
theorem X6(h:jI w B E c co ss K I)(u:E[0]?=some G)(d:2<=B)(p:Met w)(H:bI w)(f:K<=290000):
  Calls prog 11 #[.pointer<|some ⟨G,0,none⟩,fy (-1) (-1) 0 0] w λe w'=>e=.returned (.tuple #[.int .u64 (c.begun.2.1:Int),.int .i64 (c.begun.2.2:Int)])/\zL I B E c.begun.1 co ss (K+1) w w':=by
 have⟨q,L,a,b,V⟩:=h.qA;rw[u]at a;cases a;apply(XY _ _ _ _ _ _ _ b h.cg d p H f).mono;rintro e w' ⟨rfl,L',hn,hf⟩;exact⟨rfl,V (zzC K) hn h.cg.begun hf⟩
theorem Qo(h:jI w B E c co ss K I)(u:E[0]?=some G)(g:t<18446744073709551616)(d:2<=B)(p:Met w)(H:bI w)(f:K<=290000):
  Calls prog 95 #[.pointer<|some ⟨G,0,none⟩,.int .u64 (t:Int),fy (-1) (-1) 0 0] w λe w'=>e=.returned (.int .i64 (c.rZ t:Int))/\zL I B E (c.iR t) co ss (K+1) w w':=by
 have⟨q,L,a,b,V⟩:=h.qA;rw[u]at a;cases a;apply(XZ _ _ _ _ _ _ _ _ b g d p H f).mono;rintro e w' ⟨rfl,L',hn,hf⟩;exact⟨rfl,V (zzC K) hn ((h.cg.iR t).mono<|zzC K) hf⟩
theorem T4(v:Value)(zs:List Int)(h:jI w B E c co ss K I)(u:E[0]?=some G)(i:t<18446744073709551616)(f:2<=B)(p:Met w)(H:bI w)(g:K<=290000)(hlen:zs.length<=100)(N:0<zs.length)(j:∀z∈zs,ly z)(X:∃b,w.ownsRow b 3 1 v zs.length<|Iy zs):
  Calls prog 16 #[.pointer<|some ⟨G,0,none⟩,.int .u64 (t:Int),v,fy (-1) (-1) 0 0] w λe w'=>e=.returned (.int .i64 (c.fC t zs:Int))/\zL I B E (c.dD t zs) co ss (K+1) w w':=by
 have⟨q,L,a,d,V⟩:=h.qA;rw[u]at a;cases a;apply(TY _ _ _ _ _ _ _ _ v zs d i f p H g hlen N j X).mono;rintro e w' ⟨rfl,L',hn,hf⟩;exact⟨rfl,V (zzC K) hn ((h.cg.dD t zs).mono<|zzC K) hf⟩
theorem adn(seq:Int)(k v:ByteArray)(h:jI w B E c co ss K I)(hs:ss[i]?=some (s,out))(u:E[i+1]?=some G)(d:2<=B)(p:Met w)(j:t<18446744073709551616)(f:K<=300000):
  Calls prog 15 #[.pointer<|some ⟨G,0,none⟩,.int .u64 (t:Int),.int .i64 seq,.string k,.string v] w λe w'=>e=.returned (.int .i64 ((s.aJ t seq k ⟨1,v⟩).2:Int))/\zL I B E c co (ss.set i ((s.aJ t seq k ⟨1,v⟩).1,out)) (K+1) w w':=by
 have⟨q,L,a,b,g,V⟩:=h.jg hs;rw[u]at a;cases a;apply(adi _ _ _ _ _ _ _ _ _ _ _ v b g d p j f).mono;rintro e w' ⟨rfl,L',hn,hf⟩;exact⟨rfl,V (zzC K) hn (g.aJ t seq k ⟨1,v⟩ bR) hf⟩
theorem T5(seq:Int)(k:ByteArray)(h:jI w B E c co ss K I)(hs:ss[i]?=some (s,out))(u:E[i+1]?=some G)(d:2<=B)(p:Met w)(j:t<18446744073709551616)(f:K<=300000):
  Calls prog 96 #[.pointer<|some ⟨G,0,none⟩,.int .u64 (t:Int),.int .i64 seq,.string k] w λe w'=>e=.returned (.int .i64 ((s.aJ t seq k ⟨2,ByteArray.empty⟩).2:Int))/\zL I B E c co (ss.set i ((s.aJ t seq k ⟨2,ByteArray.empty⟩).1,out)) (K+1) w w':=by
 have⟨q,L,a,b,g,V⟩:=h.jg hs;rw[u]at a;cases a;apply(TK _ _ _ _ _ _ _ _ _ _ _ b g d p j f).mono;rintro e w' ⟨rfl,L',hn,hf⟩;exact⟨rfl,V (zzC K) hn (g.aJ t seq k ⟨2,yA⟩ bR) hf⟩
theorem ado(seq:Int)(k:ByteArray)(h:jI w B E c co ss K I)(hs:ss[i]?=some (s,out))(u:E[i+1]?=some G)(d:2<=B)(p:Met w)(l:t<18446744073709551616)(j:k.size<=maxLen)(f:K<=300000):
  Calls prog 13 #[.pointer<|some ⟨G,0,none⟩,.int .u64 (t:Int),.int .i64 seq,.string k] w λe w'=>e=.returned (.tuple #[.string (s.get t seq k).2.1,.bool (s.get t seq k).2.2.1,.int .i64 ((s.get t seq k).2.2.2:Int)])/\zL I B E c co (ss.set i ((s.get t seq k).1,out)) (K+1) w w':=by
 have⟨q,L,a,b,g,V⟩:=h.jg hs;rw[u]at a;cases a;apply(adj _ _ _ _ _ _ _ _ _ _ _ b g d p l j f).mono;rintro e w' ⟨rfl,L',hn,hf⟩;exact⟨rfl,V (zzC K) hn (g.get t seq k) hf⟩
theorem abl(x:bt)(h:jI w B E c co ss K I)(hs:ss[i]?=some (s,out))(u:E[i+1]?=some G)(l:x.Ok)(v:x.dst=i+1)(k:x.kind=1\/x.kind=5\/x.kind=6)(j:x.kind=5->s.fC x.aP=0)(d:2<=B)(p:Met w)(H:bI w)(f:K<=290000):
  Calls prog 72 #[.pointer<|some ⟨G,0,none⟩,.string<|str x.bytes,fy (-1) (-1) 0 0] w λe w'=>e=.returned (.int .i64 0)/\zL I B E c co (ss.set i<|fE (i+1) s out x) (K+1) w w':=by
 have⟨q,L,a,b,g,V⟩:=h.jg hs;rw[u]at a;cases a;apply(XT _ _ _ _ _ _ _ _ x l v k j b g d p H f).mono;rintro e w' ⟨rfl,L',hn,hf⟩;exact⟨rfl,V (zzC K) hn ((g.recv _ _ _).mono<|zzC K) hf⟩
theorem X7(x:bt)(h:jI w B E c co ss K I)(u:E[0]?=some G)(g:x.Ok)(v:x.dst=0)(k:x.kind=2\/x.kind=3\/x.kind=4\/x.kind=7\/x.kind=8)(d:2<=B)(p:Met w)(H:bI w)(f:K<=290000):
  Calls prog 72 #[.pointer<|some ⟨G,0,none⟩,.string<|str x.bytes,fy (-1) (-1) 0 0] w λe w'=>e=.returned (.int .i64 0)/\zL I B E (gj c co x).1 (gj c co x).2 ss (K+1) w w':=by
 have⟨q,L,a,b,V⟩:=h.qA;rw[u]at a;cases a;apply(XV _ _ _ _ _ _ _ x g v k b d p H f).mono;rintro e w' ⟨rfl,L',hn,hf⟩;exact⟨rfl,V (zzC K) hn ((h.cg.recv _ _).mono<|zzC K) hf⟩
theorem abm(h:jI w B E c co ss K I)(hs:ss[i]?=some (s,out))(u:E[i+1]?=some G)(b:∀x∈out,x.Ok)(f:K<=290000):
  Calls prog 34 #[.pointer<|some ⟨G,0,none⟩] w λe w'=>∃v,e=.returned v/\w'.ownsRow w.heap.size 9 1 v out.length (eJ out)/\(out=[]->v=.slice none 0 0)/\zL I B E c co (ss.set i (s,[])) K w w':=by
 have⟨q,L,a,d,g,V⟩:=h.jg hs;rw[u]at a;cases a;apply(XW _ _ _ _ _ _ _ _ d b f).mono;rintro e w' ⟨v,L',rfl,hr,hn,h2,hf⟩;exact⟨v,rfl,hr,hn,V (zzc K) h2 g hf⟩
theorem X8(h:jI w B E c co ss K I)(u:E[0]?=some G)(b:∀x∈co++cY c.out,x.Ok)(f:K<=140000):
  Calls prog 34 #[.pointer<|some ⟨G,0,none⟩] w λe w'=>∃v,e=.returned v/\w'.ownsRow w.heap.size 9 1 v (co++cY c.out).length (eJ<|co++cY c.out)/\(co++cY c.out=[]->v=.slice none 0 0)/\zL I B E {c with out:=[]} [] ss K w w':=by
 have⟨q,L,a,d,V⟩:=h.qA;rw[u]at a;cases a;apply(XX _ _ _ _ _ _ _ d b f).mono;rintro e w' ⟨v,L',rfl,hr,hn,h2,hf⟩;exact⟨v,rfl,hr,hn,V (zzc K) h2 (h.cg.out _ _) hf⟩
end
end Go.Proofs.YtcalalndmcemiaaGreatDoor
