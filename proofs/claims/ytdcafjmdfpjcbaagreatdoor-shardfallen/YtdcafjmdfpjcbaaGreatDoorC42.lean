import Derived.Test.YtdcafjmdfpjcbaaGreatDoorC41
set_option maxHeartbeats 4000000
set_option maxRecDepth 100000
namespace Go.Proofs.YtdcafjmdfpjcbaaGreatDoor
open Go.RowKit Go.Maps Tryz Sc
section
open Go.Shelf
variable{s:ByteArray}{k n':Nat}{d:ah}{l:aq}
theorem xE(l:aq)(d:ah)(k:Nat)(s:ByteArray):l.notes d [(k,s)]=l.note d k s:=by
 show(if (l.note d k s).2.2=0 then ((l.note d k s).1,(l.note d k s).2.1,0)else l.note d k s)=_;by_cases q:(l.note d k s).2.2=0
 .grind
 .grind
theorem C'(l:aq)(d:ah):(l.room d).1.next=l.next:=by grind[aq.room,aq.sync]
theorem Sk(l:aq)(d:ah)(b:List Nat):(l.put d b).1.next=l.next:=by grind[aq.put,C']
theorem Sl{b:List Nat}(h:l.filled<600->l.segs≠[])(r:(l.put d b).2.2=0):(l.put d b).1.segs≠[]:=by grind[aq.put,CD]
theorem G6(h:(l.append d k s).2.2.2=0):(l.append d k s).2.2.1=l.next:=by grind[aq.append,ax,bytesOf,aq.wr,Sk]
theorem Da(a:l.filled<600->l.segs≠[])(h:(l.note d k s).2.2=0):(l.note d k s).1.segs≠[]:=by grind[aq.note,aq.append,ax,bytesOf,aq.wr,Sl]
def xF(e:Nat × ByteArray):Nat × ByteArray:=(e.1+128,e.2)
theorem abz:∀k:Fin 128,bits .or .u8 (k.val:Int) 128=((k.val+128:Nat):Int):=dN
theorem kI.bk{a:Nat}{w0 w w':World}{B lp p bD bN n D N:Nat}{v s r:Value}(f:kI lp p w0 w)(c:aD w B lp p bD bN v s r l d n D N)(b:Bk a w w')(hn:w0.heap.size<=a):kI lp p w0 w':=by
 have C:=c.bk b;refine⟨b.os.trans f.os,b.tape.trans f.tape,b.output.trans f.output,zzk f.size b.size,λk h o=>?_,λk h o=>f.stay k h<|(c.own k).2<|(C.own k).1 o⟩;rw[<-f.block k h o];have m:=zzl h f.size;rw[Array.getElem?_eq_getElem m];exact b.block k _ (Array.getElem?_eq_getElem m)<|.inr oE
structure xG(w0 w:World)(B gp lp p bD bN n:Nat)(l:aq)(d:ah)(ps:Gs):Prop where
 lg:∃pv sv rv nD nN,aD w B lp p bD bN pv sv rv l d n nD nN
 lW:w.heap[gp]?=some (BZ lp)
 fr:kI lp p w0 w
 lo:2<=w0.heap.size
 p6:dw w
 pins:∀x∈ps,w.heap[x.1]?=some x.2/\tT x.2=false/\¬Own lp p w x.1
section
variable{w0 w w':World}{B gp lp p bD bN n:Nat}{l l':aq}{d d':ah}{ps:Gs}
theorem xG.bk{c:Nat}(h:xG w0 w B gp lp p bD bN n l d ps)(b:Bk c w w')(hn:w0.heap.size<=c):xG w0 w' B gp lp p bD bN n l d ps:=by
 have⟨v,s,r,D,N,a⟩:=h.lg;have C:=a.bk b;refine⟨⟨v,s,r,D,N,C⟩,b.block _ _ h.lW<|.inl rfl,h.fr.bk a b hn,h.lo,h.p6.cF ?_,λx e=>?_⟩
 .have h1l:1<w.heap.size:=by have:=h.fr.size;have:=h.lo;omega
  rw[Array.getElem?_eq_getElem h1l];exact b.block 1 _ (Array.getElem?_eq_getElem h1l)<|.inr<|by have:=h.lo;omega
 .obtain⟨a1,a2,a3⟩:=h.pins x e;exact⟨b.block _ _ a1<|.inl a2,a2,λo=>a3<|(a.own _).2<|(C.own _).1 o⟩
theorem xG.pin{g:Nat}{c:Array Value}{t:TypeId}(h:xG w0 w B gp lp p bD bN n l d ps)(f:Fr [] w w')(i:w.heap.size<=g)(e:w'.heap[g]?=some (.cells c t (0,0))):xG w0 w' B gp lp p bD bN n l d ((g,.cells c t (0,0))::ps):=by
 have⟨v,s,r,D,N,a⟩:=h.lg;have C:=a.new f;have k:=h.bk (Bk.fr f)<|zzc _;refine⟨k.lg,k.lW,k.fr,k.lo,k.p6,λx b=>?_⟩;obtain rfl|b:=zzj.1 b
 .refine⟨e,rfl,λo=>?_⟩;have:=a.ltO<|(a.own _).2<|(C.own _).1 o;simp at this;omega
 .exact k.pins x b
theorem xG.log{n':Nat}(h:xG w0 w B gp lp p bD bN n l d ps)(f:kI lp p w w')(g:∃v s r D N,aD w' B lp p bD bN v s r l' d' n' D N)(k:2<=B):xG w0 w' B gp lp p bD bN n' l' d' ps/\yi w w':=by
 have⟨v,s,r,D,N,a⟩:=h.lg;refine⟨⟨g,f.lW a h.lW,h.fr.trans f,h.lo,h.p6.cF<|f.block 1 (by have:=h.fr.size;have:=h.lo;omega) λo=>by have:=a.ge o;omega,λx j=>?_⟩,f.kpo a⟩;have⟨b,i,e⟩:=h.pins x j;have c:=(zza.1 b).1;exact⟨(f.block _ c e).trans b,i,λo=>e<|f.stay _ c o⟩
theorem xG.box{q:Nat}{j:Array Value}(h:xG w0 w B gp lp p bD bN n l d ps)(f:Fr [q] w w')(g:w.heap[q]?=some (.cells j 67 (0,0)))(A:w0.heap.size<=q)(L:ps=[]):xG w0 w' B gp lp p bD bN n l d []:=by
 subst L;have⟨u,v,r,D,N,i⟩:=h.lg;have s:¬Own lp p w q:=i.free g dN dN dN dN dN;have C:=i.apart f λk a _=>by simp at a;subst a;exact⟨s,λt e=>by rw[g]at e;cases e⟩
 have y:∀{k:Nat} {o:Obj},w.heap[k]?=some o->(∀c,o≠.cells c 67 (0,0))->k∉[q]:=λ{k o} a b m=>by
  simp at m;subst m;rw[g]at a;cases a;exact b _ rfl
 refine⟨⟨u,v,r,D,N,C⟩,(f.block gp (zza.1 h.lW).1<|y h.lW λc e=>by cases e).trans h.lW,⟨f.os.trans h.fr.os,f.tape.trans h.fr.tape,f.output.trans h.fr.output,zzk h.fr.size f.size,λk a b=>?_,λk a b=>h.fr.stay k a<|(i.own k).2<|(C.own k).1 b⟩,h.lo,h.p6.cF<|f.block 1 (by have:=h.fr.size;have:=h.lo;omega)<|by have:=h.lo;simp;omega,λx z=>by cases z⟩;rw[f.block k (zzl a h.fr.size) sC];exact h.fr.block k a b
theorem xG.Mq(h:xG w0 w B gp lp p bD bN n l d ps):xG w0 w B gp lp p bD bN n l d []:=⟨h.lg,h.lW,h.fr,h.lo,h.p6,λx a=>by cases a⟩
theorem xG.wide{n':Nat}(h:xG w0 w B gp lp p bD bN n l d ps)(hn:n<=n')(q:n'<=1000000000):xG w0 w B gp lp p bD bN n' l d ps:=by
 have⟨v,s,r,D,N,a⟩:=h.lg;exact⟨⟨v,s,r,D,N,a.fK hn q⟩,h.lW,h.fr,h.lo,h.p6,h.pins⟩
end
def eT(es:List (Nat × ByteArray)):List (Nat × ByteArray):=(254,yA) :: es.map xF++[(255,yA)]
abbrev gh(l:aq)(d:ah)(e:List (Nat × ByteArray)):aq × ah × Nat:=l.notes d ((254,yA) :: e.map xF)
theorem xH{e:List (Nat×ByteArray)}{x:Nat×ByteArray}(h:(gh l d e).2.2=0):gh l d (e++[x])=(gh l d e).1.note (gh l d e).2.1 (x.1+128) x.2:=by
 unfold gh;rw[List.map_append,<-List.cons_append,oM,if_pos h];exact xE _ _ _ _
theorem Sm{es:List (Nat×ByteArray)}(h:(gh l d es).2.2=0):l.notes d (eT es)=(gh l d es).1.note (gh l d es).2.1 255 yA:=by grind[eT,oM,xE]
theorem Db{es p:List (Nat×ByteArray)}(hp:p<+:es)(h:(gh l d p).2.2≠0):l.eZ d (es.map xF)=gh l d p:=by
 obtain⟨t,rfl⟩:=hp;have e:l.notes d ((254,yA)::(p++t).map xF++[(255,yA)])=gh l d p:=by grind[oM]
 unfold aq.eZ;rw[e,if_neg h]
theorem VF{es:List (Nat×ByteArray)}(h:(l.notes d<|eT es).2.2≠0):l.eZ d (es.map xF)=l.notes d (eT es):=by
 unfold aq.eZ;exact if_neg h
theorem Sn{es:List (Nat×ByteArray)}(h:(l.notes d<|eT es).2.2=0):l.eZ d (es.map xF)=(l.notes d<|eT es).1.cut (l.notes d<|eT es).2.1 l.next:=by
 unfold aq.eZ;exact if_pos h
def CkJ(w A:World)(B gp lp p bD bN n:Nat)(l:aq)(d:ah)(ps:Gs)(e:List (Nat × ByteArray)):Prop :=
 xG w A B gp lp p bD bN (n+3+3*e.length) (gh l d e).1 (gh l d e).2.1 ps/\(gh l d e).2.2=0/\(gh l d e).1.segs≠[]/\A.heap[w.heap.size]?=some (.cells #[rM gp] 146 (0,0))/\A.heap[w.heap.size+1]?=some (.cells #[.nilIface] 67 (0,0))
def CkS(w A:World)(B gp lp p bD bN n:Nat)(l:aq)(d:ah)(e:List (Nat × ByteArray)):Prop :=
 xG w A B gp lp p bD bN (n+3+3*e.length) (gh l d e).1 (gh l d e).2.1 []/\(gh l d e).2.2≠0/\A.heap[w.heap.size+1]?=some (.cells #[cj (gh l d e).2.2] 67 (0,0))
theorem abA(N:Nat)(hN:16<=N)(B gp lp p bD bN n nD nN g gf:Nat)(lb:Array Value)(pv sv rv:Value)(l:aq)(d:ah)(es:List<|Nat×ByteArray)(Inv:World->Prop)(w:World)
  (hg:w.heap[gp]?=some (BZ lp)) (h:aD w B lp p bD bN pv sv rv l d n nD nN) (m:2<=B) (B_:2<=w.heap.size) (uG:l.filled<600->l.segs≠[]) (dF:dw w)
  (eg:∀args w,(callFunc gf args).run prog w=.ok (.enter gf args) w) (JO:∀e∈es,e.1<126) (hI:∀A,kI lp p w A->Inv A)
  (tI:∀l' ls a7,(∀k∈ls,k<a7.heap.size)->Inv a7->Vc Fence.wide (N-1) prog gf lb (λx:Nat×ByteArray=>#[.int .u8 (x.1:Int),.string x.2]) es Inv l' ls a7)
  (hn:n+3*(es.length+2)+2+g<=1000000000)
  (hcut:(l.notes d (eT es)).2.2=0->g<=(l.notes d (eT es)).1.segs.length/\n+3*(es.length+2)+2+(l.notes d (eT es)).1.segs.length<=1000000000 /\
   ((l.notes d<|eT es).1.failed=0->bU (l.notes d<|eT es).1.segs l.next≠0->(l.notes d<|eT es).1.pZ (l.notes d<|eT es).2.1 (bU (l.notes d<|eT es).1.segs l.next) ((l.notes d<|eT es).1.segs.getD (bU (l.notes d<|eT es).1.segs l.next) 0)<=g) /\
   ((l.notes d (eT es)).1.failed=0->∀k s:Nat,(l.notes d (eT es)).1.segs[k]?=some s->∃r rs,(l.notes d (eT es)).1.recs=r::rs/\r.cQ<=s/\s-r.cQ<(l.notes d (eT es)).1.recs.length)) :
  CallsIn Fence.wide N prog 145 #[rM gp,.func (.func gf) #[] lb] w (jE B lp p bD bN (n+3*(es.length+2)+2+g) (l.eZ d<|es.map xF) w):=by
 have ad:Fence.wide.round=none:=rfl;have h1:1<=N:=oE;have bF:Fence.wide.fn 71:=trivial;have dD:Fence.wide.fn 144:=trivial;have kN:Fence.wide.fn 73:=trivial;have P:Fence.wide.fn gf:=trivial;obtain⟨y,X⟩:∃y,y=(w.alloc<|.cells #[.pointer<|some ⟨gp,0,none⟩] 146).alloc (.cells #[.nilIface] 67):=⟨_,rfl⟩;have vT:Fr [] w y:=by rw[X];exact((lE w).alloc _).alloc _
 have ja:y.heap.size=w.heap.size+2:=by rw[X];simp
 have r0:y.heap[w.heap.size]?=some (.cells #[.pointer<|some ⟨gp,0,none⟩] 146 (0,0)):=by rw[X,zzf _ _ w.heap.size sE];exact heap_alloc_new w _
 have r1:y.heap[w.heap.size+1]?=some (.cells #[.nilIface] 67 (0,0)):=by
  rw[X];have:=heap_alloc_new (w.alloc<|.cells #[.pointer<|some ⟨gp,0,none⟩] 146)<|.cells #[.nilIface] 67
  rwa [zzv]at this
 have GB:xG w y B gp lp p bD bN n l d []:=by
  have h0:xG w w B gp lp p bD bN n l d []:=⟨⟨pv,sv,rv,nD,nN,h⟩,hg,h.yL<|lE w,B_,dF,λx hx=>by cases hx⟩;exact h0.bk (Bk.fr vT)<|zzc _
 have E0:=(callsIn_wide (n:=N-1)).2 (ye B lp p bD bN n nD nN 254 pv sv rv l d ByteArray.empty y (h.new vT) oE oE m uG GB.p6);have cg:=aP GB.lW 0;have c0:=aP r0 0;simp at cg c0;have HS:=ae<|zzb uG<|zzb JO<|zzb hI tI;have HC:=Ey hcut;have HK:=ae GB;clear GB h hg vT uG JO hI tI hcut dF;rw[X]at c0 cg;refine callsIn_of_wp_marks func145 rfl trivial ?_ ad;simp only[ntmps145,mJ,zzr,mV,Nat.reduceAdd,Nat.reduceSub,m7,m8,n8,oS,p5,qS]
 gi_wp2_with fail;rw[<-X];apply E0.mono;clear E0 X c0 cg;rintro e u ⟨rfl,E,fe⟩;have⟨lR,Q⟩:=HK.out.log fe E m;have s0:=Q.same _ _ r0 rfl;have i:=Q.same _ _ r1 rfl;have U:=Q.size;have F:gh l d []=((l.append d 254 ByteArray.empty).1,(l.append d 254 ByteArray.empty).2.1,(l.append d 254 ByteArray.empty).2.2.2):=xE l d 254 ByteArray.empty;by_cases om:(l.append d 254 ByteArray.empty).2.2.2=0
 .have kJ:=G6 om;have H:Hid (xG w u B gp lp p bD bN (n+3) (gh l d []).1 (gh l d []).2.1 []/\(gh l d []).2.2=0/\(gh l d []).1.segs≠[]/\y.heap.size<=u.heap.size):=⟨by rw[F];exact lR,by rw[F];exact om,by rw[F];exact Da HS.1 om,U⟩;have HB:=ae<|zzb s0 i;rw[kJ,om,bQ];clear lR Q s0 i r0 r1 E fe U F kJ om
  gi_wp2;refine vB [w.heap.size+1] (λk Z=>by have:=H.2.2.2;simp at Z;omega) ad h1 rfl P eg
   (λ_=>rfl)
   (λWx iA aA ak S ab hJ hS Re Rf hY h0=>HS.2.2.2 _ _ Wx (λk Z=>by have:=H.2.2.2;simp at Z;omega) (ab _ _ _ h0) ak S ab hJ hS Re Rf hY h0)
   (λps a A=>CkJ w A B gp lp p bD bN n l d ps a) (λa A=>CkS w A B gp lp p bD bN n l d a)
   (λq A B b hz R=>⟨b.1.bk R<|by have:=H.2.2.2;omega,b.2.1,R.block _ _ b.2.2<|.inl rfl⟩)
   ⟨H.1,H.2.1,H.2.2.1,HB.1,HB.2⟩
   (λps q A b=>HS.2.2.1 A b.1.fr)
   (λps q A B b hz R=>⟨b.1.bk R<|by have:=H.2.2.2;omega,b.2.1,b.2.2.1,R.block _ _ b.2.2.2.1<|.inl rfl,R.block _ _ b.2.2.2.2<|.inl rfl⟩)
   (λps q A B g c t b hz hf hg m=>⟨b.1.pin hf hg m,b.2.1,b.2.2.1,(hf.block _ (zza.1 b.2.2.2.1).1 sE).trans b.2.2.2.1,(hf.block _ (zza.1 b.2.2.2.2).1 sE).trans b.2.2.2.2⟩)
   (λps q A b x hx=>(b.1.pins x hx).1)
   (λx a' A=>a'={tmps:=#[.pointer<|some ⟨gp,0,none⟩,.func (.func gf) #[] lb,.pointer<|some ⟨w.heap.size,0,none⟩,undef,.pointer<|some ⟨w.heap.size+1,0,none⟩,.int .u64 (l.next:Int),.nilIface,.int .u8 (x.1:Int),.string x.2,undef,undef,.tuple #[.int .u64 (l.next:Int),.nilIface],.pointer<|some ⟨gp,0,none⟩,.pointer<|some ⟨gp,0,none⟩,.pointer<|some ⟨gp,0,none⟩,.pointer<|some ⟨lp,0,none⟩,.tuple #[.int .u64 (l.next:Int),.nilIface],.int .u64 (l.next:Int),.nilIface,.nilIface,.bool false,undef,.func (.func gf) #[] lb,.int .u8 (x.1:Int),.string x.2,undef,undef,undef,undef,undef,undef,undef,undef,undef,undef,undef,undef,undef,undef,undef,undef,undef,undef,undef],defers:=[]})
   (λx a' A r b=>b)
   ?assign ?body ?done ?stop
  case assign=>
   have o9:=@Oper.semAt_some;rintro ps a x A ay hI Mn V K;gi_wp2;exact K _ _ (Bk.refl _ _) (yi.refl _) rfl
  case body=>
   have o9:=@Oper.semAt_some;rintro ps a x a' A ⟨cm,sj,VG,b0,b1⟩ Mn rfl V;have Xc:x∈es:=V.subset sE;have oa:=HS.2.1 x Xc;have wy:a.length+1<=es.length:=by simpa using V.length_le
   have v0:=aP b0 0;simp at v0;have⟨kr,sB,qz,lT,lN,E⟩:=cm.lg;have L:=(callsIn_wide (n:=N-1-1-1)).2 (vp B gp lp p bD bN (n+3+3*a.length) lT lN (x.1+128) kr sB qz _ _ x.2 A cm.lW E oE oE m (λ_=>VG) cm.p6);rw[<-xH sj]at L;have h3:1<=N-1-1:=oE
   have Xd:bits .or .u8 (x.1:Int) 128=((x.1+128:Nat):Int):=abz ⟨x.1,oE⟩
   have HA:Hid (∀f,(∃pv sv rv nD nN,aD f B lp p bD bN pv sv rv (gh l d<|a++[x]).1 (gh l d<|a++[x]).2.1 (n+3+3*a.length+3) nD nN)->kI lp p A f->xG w f B gp lp p bD bN (n+3+3*(a++[x]).length) (gh l d<|a++[x]).1 (gh l d<|a++[x]).2.1 ps/\f.heap[w.heap.size]?=some (.cells #[.pointer<|some ⟨gp,0,none⟩] 146 (0,0))/\f.heap[w.heap.size+1]?=some (.cells #[.nilIface] 67 (0,0))/\yi A f):=λf h3 ho=>by
    have⟨k1,k2⟩:=cm.log ho h3 m;refine⟨?_,k2.same _ _ b0 rfl,k2.same _ _ b1 rfl,k2⟩;rw[zzi,List.length_singleton,Nat.mul_add,<-Nat.add_assoc];exact k1
   have HG:=ae<|zzb sj VG;clear cm b0 b1 E sj VG
   gi_wp2_with fail;apply L.mono;clear L;rintro e f ⟨rfl,sT,wO⟩;have C:=ae<|HA.out f sT wO;clear HA sT wO;by_cases oX:(gh l d<|a++[x]).2.2=0
   .have HF:=ae oX;rw[oX,bQ];clear oX;gi_wp2;refine⟨⟨C.1,HF.out,?_,C.2.1,C.2.2.1⟩,C.2.2.2⟩;rw[xH HG.1];have:=HF.out;rw[xH HG.1]at this;exact Da (λ_=>HG.2) this
   .have i:=C.2.2.1;have J:=aP i 0;have y1:=au i 0;simp at J;have⟨W,G⟩:∃W,W=f.setCell ⟨w.heap.size+1,0,none⟩ (cj (gh l d<|a++[x]).2.2):=⟨_,rfl⟩;have O:Fr [w.heap.size+1] f W:=by rw[G];exact Fr.cH sE _ _
    have v:W.heap[w.heap.size+1]?=some (.cells #[cj (gh l d<|a++[x]).2.2] 67 (0,0)):=by rw[G];simpa using aH i 0<|cj (gh l d<|a++[x]).2.2
    have T:Hid (xG w W B gp lp p bD bN (n+3+3*(a++[x]).length) (gh l d<|a++[x]).1 (gh l d<|a++[x]).2.1 []/\(gh l d<|a++[x]).2.2≠0/\W.heap[w.heap.size+1]?=some (.cells #[cj (gh l d<|a++[x]).2.2] 67 (0,0))/\LZ [w.heap.size+1] A W):=by
     refine⟨C.1.Mq.box O i oE rfl,oX,v,?_⟩;have Z:=C.2.2.2;refine⟨zzk Z.size O.size,λk o Q gT M=>?_⟩;have:=Z.same k o gT M;exact(O.block k (zza.1 this).1 Q).trans this
    clear O v i C HG;rw[aG oX]at G ⊢;gi_wp2;rw[<-G];exact⟨⟨T.1,T.2.1,T.2.2.1⟩,T.2.2.2⟩
  case done=>
   rintro ps A ⟨cm,sj,VG,b0,b1⟩ Mn K;have v0:=aP b0 0;simp at v0;have⟨kr,sB,qz,lT,lN,E⟩:=cm.lg;have L:=(callsIn_wide (n:=N-1)).2 (vp B gp lp p bD bN (n+3+3*es.length) lT lN 255 kr sB qz _ _ ByteArray.empty A cm.lW E oE oE m (λ_=>VG) cm.p6);rw[<-Sm sj]at L;have Y:=ae<|zzb cm.Mq<|zzb b0<|zzb b1 K;clear cm b0 b1 K E sj VG
   gi_wp2_with fail;apply L.mono;clear L v0;rintro e f ⟨rfl,sT,wO⟩;have⟨D,M⟩:=Y.1.log wO sT m;have t0:=M.same _ _ Y.2.1 rfl;have I:=M.same _ _ Y.2.2.1 rfl;have t2:=M.same _ _ Y.2.2.2 rfl;by_cases oX:(l.notes d<|eT es).2.2=0
   .have v3:=aP t0 0;have Z6:=aP D.lW 0;simp at v3 Z6;have⟨g1,g2,g3,g4⟩:=HC.out oX;have⟨Nj,an,ao,Ph,Nk,a8⟩:=D.lg;have C5:=(callsIn_wide (n:=N-1)).2 (QJ g B lp p bD bN (n+3+3*es.length+3) Ph Nk l.next Nj an ao _ _ f a8 oE m D.p6 g1 g3 g4);rw[<-Sn oX]at C5;have H3:=ae<|zzb D<|zzb I t2;rw[oX,bQ];clear D sT wO M t0 I t2 Y a8 oX g1 g2 g3 g4
    gi_wp2_with fail;apply C5.mono;clear C5 v3 Z6;rintro e W4 ⟨rfl,jH,lh⟩;have⟨k4,a6⟩:=H3.1.log lh jH m;have u1:=a6.same _ _ H3.2.1 rfl;have u2:=a6.same _ _ H3.2.2 rfl;have J:=aP u1 0;have y1:=au u1 0;simp at J;have⟨W,G⟩:∃W,W=W4.setCell ⟨w.heap.size+1,0,none⟩ (cj (l.eZ d<|es.map xF).2.2):=⟨_,rfl⟩;have P:Fr [w.heap.size+1] W4 W:=by rw[G];exact Fr.cH sE _ _
    have v:W.heap[w.heap.size+1]?=some (.cells #[cj (l.eZ d<|es.map xF).2.2] 67 (0,0)):=by rw[G];simpa using aH u1 0<|cj (l.eZ d<|es.map xF).2.2
    have U:=H.2.2.2;have a1:W.heap[u.heap.size]?=some (.deferred<|some []):=(P.block _ (zza.1 u2).1 sC).trans u2;have H5:=ae (k4.box P u1 oE rfl);clear k4 a6 u1 u2 P jH lh;have al:cj (l.eZ d<|es.map xF).2.2=.nilIface\/∃x,cj (l.eZ d<|es.map xF).2.2=.iface 27 x:=(Decidable.em<|(l.eZ d<|es.map xF).2.2=0).elim (λh=>.inl<|by rw[h];rfl) λh=>.inr<|Uo h;obtain hE|⟨ex,hE⟩:=al
    all_goals
     (rw[hE]at G ⊢
      gi_wp2;rw[<-G];clear G;refine⟨sE,.inl ⟨_,_,rfl,run_takeDeferred a1,?_⟩⟩;have sX:(W.putObj u.heap.size<|.deferred none).heap[w.heap.size+1]?=some (.cells #[cj (l.eZ d<|es.map xF).2.2] 67 (0,0)):=(World.putObj_heap_other oE).trans v;have j:=aP sX 0;simp at j;have z:=H5.out.bk (Bk.put a1 rfl (zzc _)<|.deferred none) oE;refine⟨cj (l.eZ d<|es.map xF).2.2,?_,rfl,(z.wide oE oE).lg,z.fr⟩;simp only[results,f145]
      simp[go_sem,j])
   .have J:=aP I 0;have y1:=au I 0;simp at J;have⟨W,G⟩:∃W,W=f.setCell ⟨w.heap.size+1,0,none⟩ (cj (l.notes d<|eT es).2.2):=⟨_,rfl⟩;have P:Fr [w.heap.size+1] f W:=by rw[G];exact Fr.cH sE _ _
    have v:W.heap[w.heap.size+1]?=some (.cells #[cj (l.notes d<|eT es).2.2] 67 (0,0)):=by rw[G];simpa using aH I 0<|cj (l.notes d<|eT es).2.2
    have U:=H.2.2.2;have a1:W.heap[u.heap.size]?=some (.deferred<|some []):=(P.block _ (zza.1 t2).1 sC).trans t2;have H5:=ae (D.box P I oE rfl);have HZ:=ae oX;clear D M t0 I t2 P sT wO Y;rw[aG oX]at G ⊢;gi_wp2;rw[<-G];clear G;refine⟨sE,.inl ⟨_,_,rfl,run_takeDeferred a1,?_⟩⟩;have sX:(W.putObj u.heap.size<|.deferred none).heap[w.heap.size+1]?=some (.cells #[cj (l.notes d<|eT es).2.2] 67 (0,0)):=(World.putObj_heap_other oE).trans v;have j:=aP sX 0;simp at j;have z:=H5.out.bk (Bk.put a1 rfl (zzc _)<|.deferred none) oE;rw[VF HZ.out];refine⟨cj (l.notes d<|eT es).2.2,?_,rfl,(z.wide oE oE).lg,z.fr⟩;simp only[results,f145];simp[go_sem,j]
  case stop=>
   rintro a A V ⟨cm,sj,b1⟩ Mn K;have U:=H.2.2.2;have wy:=V.length_le;refine⟨sE,.inl ⟨_,_,rfl,run_takeDeferred K,?_⟩⟩;have sX:(A.putObj u.heap.size<|.deferred none).heap[w.heap.size+1]?=some (.cells #[cj (gh l d a).2.2] 67 (0,0)):=(World.putObj_heap_other oE).trans b1;have j:=aP sX 0;simp at j;have z:=cm.bk (Bk.put K rfl (zzc _)<|.deferred none) oE;rw[Db V sj];refine⟨cj (gh l d a).2.2,?_,rfl,(z.wide oE oE).lg,z.fr⟩;simp only[results,f145];simp[go_sem,j]
 .have H:Hid (xG w u B gp lp p bD bN (n+3) (gh l d []).1 (gh l d []).2.1 []/\(gh l d []).2.2≠0):=⟨by rw[F];exact lR,by rw[F];exact om⟩;have J:=aP i 0;have y1:=au i 0;simp at J;have⟨W,G⟩:∃W,W=u.setCell ⟨w.heap.size+1,0,none⟩ (cj (l.append d 254 ByteArray.empty).2.2.2):=⟨_,rfl⟩;have O:Fr [w.heap.size+1] u W:=by rw[G];exact Fr.cH sE _ _
  have v:W.heap[w.heap.size+1]?=some (.cells #[cj (l.append d 254 ByteArray.empty).2.2.2] 67 (0,0)):=by rw[G];simpa using aH i 0<|cj (l.append d 254 ByteArray.empty).2.2.2
  have T:Hid (xG w W B gp lp p bD bN (n+3) (gh l d []).1 (gh l d []).2.1 []/\W.heap[w.heap.size+1]?=some (.cells #[cj (gh l d []).2.2] 67 (0,0))):=⟨H.1.box O i oE rfl,by rw[F];exact v⟩;clear lR Q s0 i r0 r1 E fe U O v;rw[aG om]at G ⊢
  gi_wp2;rw[<-G];have j:=aP T.2 0;simp at j;rw[Db (List.nil_prefix) H.2];refine⟨cj (gh l d []).2.2,?_,rfl,(T.1.wide oE oE).lg,T.1.fr⟩;simp only[results,f145];simp[go_sem,j]
end
variable{k v:ByteArray}{t:Nat}{R:aK}{x:a_}{s:ag}
def Vs(R:aK):Prop:=∀p∈R.table,p.2.size<=32
theorem C9(l:aJ):∀(t:oU) (b:Bool) {q:ByteArray×ByteArray},q∈cI l t b->q∈t\/q=(l.key,l.val)
 |[],b,q,h=>by
  unfold cI at h;split at h
  .cases h
  .simp at h;exact .inr h
 |y::ys,b,q,h=>by
  have k:∀a,q∈cI l ys a->q∈y::ys\/q=(l.key,l.val):=λa h=>by
   obtain h|h:=C9 l ys a h
   .exact .inl<|by simp[h]
   .exact .inr h
  unfold cI at h;split at h
  .rcases zzj.1 h with e|h
   .exact .inr e
   .rcases zzj.1 h with e|h
    .exact .inl<|by simp[e]
    .exact k _ h
  .split at h
   .rcases zzj.1 h with e|h
    .exact .inl<|by simp[e]
    .exact k _ h
   .split at h
    .exact k _ h
    .rcases zzj.1 h with e|h
     .exact .inr e
     .exact k _ h
theorem Bc:∀(s:List aJ) (b:oU) {q:ByteArray×ByteArray},q∈eE b s->q∈b\/∃l∈s,q=(l.key,l.val)
 |[],_,_,h=>.inl h
 |l::s,b,q,h=>by
  obtain h|⟨x,hx,e⟩:=Bc s (if l.wr=true then gD b l else b) h
  .split at h
   .rcases C9 l b l.gone h with h|h
    .exact .inl h
    .exact .inr ⟨l,sE,h⟩
   .exact .inl h
  .exact .inr ⟨x,by simp[hx],e⟩
theorem Vs.cR(h:Vs R)(r:Rel s R)(b:aU R.af t=some x):Vs ⟨eE R.table x.ak,del R.af t⟩:=λq a=>by
 obtain a|⟨l,hl,rfl⟩:=Bc x.ak R.table a
 .exact h q a
 .exact((r.ok x (aN b).1).small l hl).2.2
theorem Oy{b:oU}(h:lZ b)(a:∀p∈b,p.1.data.toList<k.data.toList):gD b ⟨k,true,false,v⟩=b++[(k,v)]:=by
 unfold gD;rw[px _ _ h];have c:b.filter (λp=>decide<|p.1.data.toList<k.data.toList)=b:=List.filter_eq_self.2 λp hp=>by simpa using a p hp
 have e:b.filter (λp=>decide<|k.data.toList<p.1.data.toList)=[]:=List.filter_eq_nil_iff.2 λp hp=>by simpa using vF (a p hp)
 show b.filter (λp=>decide<|p.1.data.toList<k.data.toList)++(k,v)::b.filter (λp=>decide<|k.data.toList<p.1.data.toList)=_;rw[c,e]
theorem Sa{xs:List a_}(h:∀y∈xs,y.id<x.id):ins xs x=xs++[x]:=by
 unfold ins;have e:∀{s:List a_},(∀y∈s,y.id<x.id)->s.takeWhile (λy=>decide<|y.id<x.id)=s/\s.dropWhile (λy=>decide<|y.id<x.id)=[]:=by
  intro s;induction s with
  |nil=>simp_all
  |cons y r ih=>simp_all
 rw[(e h).1,(e h).2]
theorem Be:∀{xs:List (ByteArray×aQ)},(∀x∈xs,gz x)->k9 (bW xs)
 |[],_=>by intro y a;cases a
 |x::xs,h=>by
  have b:=h x sE;have r:=Be (xs:=xs) λy a=>h y<|by simp[a]
  intro y a;have:bW (x::xs)=vx x++bW xs:=rfl;rw[this]at a;obtain a|a:=zzo.1 a
  .unfold vx at a;simp at a;obtain rfl|rfl|a|rfl|a:=a
   .exact b.2.2
   .have:=b.1;omega
   .exact jN _ y a
   .have:=b.2.1;omega
   .exact jN _ y a
  .exact r y a
def yR(t:Nat)(L:List (ByteArray × aQ)):ByteArray:=str (be 8 t++bW (b9 L))
theorem ur{c T:Nat}(h:Gd c T s R){L:List (ByteArray×aQ)}(b:aV L)(d:∀k,aj L k=aj s.holds (t,k)):bytesOf (yR t L)=be 8 t++bW (b9 L)/\(yR t L).size<=255:=by
 refine⟨f_ λy a=>?_,h.entry t b d⟩;obtain a|a:=zzo.1 a
 .exact Fa 8 t y a
 .refine Be (λx e=>?_) y a;have m:=bS b<|oA b e;rw[d]at m;exact h.holds<|bJ m
def Sb(p:ByteArray × ByteArray):Nat × ByteArray:=(132,str (p7 p.1 p.2))
def Zk(L:Nat->List (ByteArray × aQ))(x:a_):Nat × ByteArray:=(129,yR x.id (L x.id))
def Sd(R:aK)(L:Nat->List (ByteArray × aQ)):List (Nat × ByteArray) :=
 R.table.map Sb++R.rest.af.map (Zk L)
theorem uu:∀(a b:List<|Nat×ByteArray) (n:Nat),gm n (a++b)=gm n a++gm (n+a.length) b
 |[],b,n=>by simp[gm]
 |e::r,b,n=>by
  show _::gm (n+1) (r++b)=_::(gm (n+1) r++_);rw[uu r b<|n+1];congr 3;simp;omega
theorem Se(a:k.size<=16)(h:v.size<=32):(p7 k v).length<=255:=by grind[p7,dC]
section
variable{c T:Nat}{s:ag}{R:aK}{L:Nat->List (ByteArray × aQ)}
theorem Ml(h:Bd c R.rest)(v:Vs R)(b:lZ R.table)(n:Nat):∀i,i<=R.table.length->∃C,Ie c C/\C.map (·.1)=gm n ((R.table.take i).map Sb)/\Ma C C.length=⟨R.table.take i,[]⟩
 |0,_=>⟨[],Mb c,rfl,rfl⟩
 |i+1,hi=>by
  have⟨C,e,f,g⟩:=Ml h v b n i oE;have⟨p,hp⟩:∃p,R.table[i]?=some p:=⟨_,zzg oE⟩;have K:=zzh hp;have k:=h.keys p K;have Z:=v p K;have et:R.table.take (i+1)=R.table.take i++[p]:=by rw[List.take_add_one,hp];rfl
  have L:lZ (R.table.take i):=List.Pairwise.sublist (List.take_sublist _ _) b;have P:∀q∈R.table.take i,q.1.data.toList<p.1.data.toList:=λq a=>by
   have:=b;unfold lZ at this;have d:lZ (R.table.take<|i+1):=List.Pairwise.sublist (List.take_sublist _ _) b;rw[et]at d;exact(List.pairwise_append.1 d).2.2 q a p sE
  refine⟨C++[(⟨n+i,132,p7 p.1 p.2⟩,⟨R.table.take<|i+1,[]⟩)],e.snoc ?_ ?_,?_,AA C _ _⟩
  .rw[g,et,<-Oy L P];exact .aa8 (n+i) 132 p.1 p.2 rfl oE oE
  .refine⟨?_,sE,λq a=>h.keys q<|List.mem_of_mem_take a,sE,sE⟩;have:(R.table.take<|i+1).length<=R.table.length:=by rw[zzm];omega
   have d:R.table.length<=4*c:=h.table;show(R.table.take<|i+1).length<=4*c;omega
  .rw[List.map_append,f,et,List.map_append,uu];have l:((R.table.take i).map Sb).length=i:=by rw[zzn,zzm];omega
   rw[l];show _++[_]=_++[(⟨n+i,132,bytesOf<|str<|p7 p.1 p.2⟩:Rec)];rw[f_<|Ra oE oE]
theorem Mm(h:Gd c T s R)(v:Vs R)(I:lZ R.table)(j:∀x∈R.rest.af,aV (L x.id)/\∀k,aj (L x.id) k=aj s.holds (x.id,k))(n:Nat):∀i,i<=R.rest.af.length->∃C,Ie c C/\C.map (·.1)=gm n (R.table.map Sb++(R.rest.af.take i).map (Zk L))/\Ma C C.length=⟨R.table,R.rest.af.take i⟩
 |0,_=>by
  have⟨C,g,b,d⟩:=Ml h.bd v I n R.table.length<|zzc _;rw[List.take_length]at b d;exact⟨C,g,by rw[b];simp,by rw[d];simp⟩
 |i+1,hi=>by
  have⟨C,g,b,d⟩:=Mm h v I j n i oE;have⟨x,m⟩:∃x,R.rest.af[i]?=some x:=⟨_,zzg oE⟩;have X:=zzh m;have r:x∈R.af/\x.st=3:=by have:=zzp.1 X;exact⟨this.1,by simpa using this.2⟩
  have z:=h.rel.ok x r.1;have J:=h.rel.jh.at r.1;have⟨l,e⟩:=j x X;have et:R.rest.af.take (i+1)=R.rest.af.take i++[x]:=by rw[List.take_add_one,m];rfl
  have q:jg R.rest.af:=h.rel.jh.rest;have P:∀y∈R.rest.af.take i,y.id<x.id:=λy a=>by
   have f:jg (R.rest.af.take<|i+1):=List.Pairwise.sublist (List.take_sublist _ _) q;rw[et]at f;exact(List.pairwise_append.1 f).2.2 y a x sE
  have⟨o,u⟩:=ur h l e;refine⟨C++[(⟨n+(R.table.length+i),129,be 8 x.id++bW (b9<|L x.id)⟩,⟨R.table,R.rest.af.take<|i+1⟩)],g.snoc ?_ ?_,?_,AA C _ _⟩
  .rw[d,et,<-Sa P];refine .ni (n+(R.table.length+i)) 129 x (L x.id) rfl (kS.2 λy a=>by have:=P y a;omega) r.2 {E1:=z.E1,Ef:=z.Ef,st:=z.st,jY:=λhn=>absurd r.2 hn,once:=z.once,four:=z.four,small:=z.small,read:=z.read} l (λk=>?_) ?_
   .rw[e,h.rel.holds,J];rfl
   .have hc:=ag.jx h.rel.o2 l e;have w:=h.count x.id;omega
  .have tL:=h.bd;refine⟨tL.table,λy a=>tL.ops y<|List.mem_of_mem_take a,tL.keys,λy a=>tL.sH y<|List.mem_of_mem_take a,?_⟩;have f:R.rest.af.length<=12:=tL.len;show(R.rest.af.take<|i+1).length<=12;rw[zzm];omega
  .rw[List.map_append,b,et,List.map_append,<-zzx,uu<|_++_];have p:(R.table.map Sb++(R.rest.af.take i).map (Zk L)).length=R.table.length+i:=by rw[zzi,zzn,zzn,zzm];omega
   rw[p];show _++[_]=_++[(⟨n+(R.table.length+i),129,bytesOf<|yR x.id<|L x.id⟩:Rec)];rw[o]
theorem Sf(h:Gd c T s R)(v:Vs R)(I:lZ R.table)(d:∀x∈R.rest.af,aV (L x.id)/\∀k,aj (L x.id) k=aj s.holds (x.id,k))(n:Nat):∃C,Ie c C/\C.map (·.1)=gm n (Sd R L)/\Ma C C.length=R.rest:=by
 have⟨C,e,a,b⟩:=Mm h v I d n R.rest.af.length<|zzc _;rw[List.take_length]at a b;exact⟨C,e,a,b⟩
theorem C_(h:Gd c T s R)(v:Vs R)(b:∀x∈R.rest.af,aV (L x.id)/\∀k,aj (L x.id) k=aj s.holds (x.id,k)):∀e∈Sd R L,128<=e.1/\e.1<254/\e.2.size<=255:=by
 intro e a;obtain a|a:=zzo.1 a
 .obtain⟨p,hp,rfl⟩:=zzq.1 a;refine⟨by show 128<=132;omega,by show 132<254;omega,?_⟩;show(str<|p7 p.1 p.2).size<=255;rw[qq];exact Se (h.keys p hp)<|v p hp
 .obtain⟨x,hx,rfl⟩:=zzq.1 a;have⟨l,d⟩:=b x hx;exact⟨by show 128<=129;omega,by show 129<254;omega,(ur h l d).2⟩
end
section
open Go.Shelf
theorem N2(n:Nat)(hn:6<=n)(l:Nat)(r:List Nat)(a b m:Nat)(L:List (ByteArray×ByteArray))(o:m<=1000000000)(W:World)(H:W.cell? (dH a)=some (.map (some b)))(w:bB KS ES W b m L):
  Vc Fence.wide n prog 172 #[rM a] (λx:ByteArray×ByteArray=>#[.string x.1,.string x.2]) (dy L) (λ_=>True) l r W:=λJ S _ z _ _ _ Y C=>by
 have h:=zN n hn l a b m L o W yi (λ_ _=>True) (λ_ _ _ _=>trivial) (λk A B c t D f i _=>⟨(f.same k _ i (by obtain rfl|rfl:=D<;>rfl)).trans i.symm,trivial⟩)
  (λs A=>J [] s A/\W.heap.size<=A.heap.size) S
  (λs A B d g=>⟨z [] s A B d.1 d.2 (Bk.fr ⟨g.os,g.tape,g.output,g.size,λk f _=>g.block k f sE⟩),zzk d.2 g.size⟩)
  (λp x q j _ hp=>by
   have⟨u,tmps,assign,body,y,R⟩:=Y [] p x q j.1 j.2 hp;refine⟨u,tmps,assign,body,y,R.mono ?_⟩;rintro e v (⟨r1,r2,r3⟩|⟨r1,r2,_⟩)
   .exact .inl ⟨r1,⟨r2,zzk j.2 r3.size⟩,r3⟩
   .exact .inr ⟨r1,r2⟩)
  H w ⟨C,zzc _⟩
 apply h.mono;rintro e v ⟨he,⟨ys,rfl,j⟩|⟨p,hp,hf⟩⟩
 .exact⟨he,.inl ⟨_,j.1⟩⟩
 .exact⟨he,.inr ⟨p,hp,hf⟩⟩
end
theorem Sh{L M:List (ByteArray×aQ)}(h:aV L)(g:aV M)(e:∀k,aj L k=aj M k):fJ L=fJ M:=by
 have n:∀{X:List (ByteArray×aQ)},aV X->(X.map λp=>p.1.data.toList).Nodup:=λ{X} i=>by
  unfold List.Nodup;rw[List.pairwise_map];exact i.imp λm e=>m<|l7 e
 have sub:∀{X Y:List (ByteArray×aQ)},aV X->(∀k,aj X k=aj Y k)->∀a,a∈(X.map λp=>p.1.data.toList)->a∈(Y.map λp=>p.1.data.toList):=λ{X Y} i j a l=>by
  obtain⟨p,hp,rfl⟩:=zzq.1 l;have:=bS i hp;rw[j]at this;exact zzq.2 ⟨_,bJ this,rfl⟩
 have hp:=
  (List.perm_ext_iff_of_nodup (n h)<|n g).2 λa=>⟨sub h e a,sub g (λk=>(e k).symm) a⟩
 have r:∀a b c:List UInt8,leB a b=true->leB b c=true->leB a c=true:=λa b c d f=>by simp only[leB,decide_eq_true_eq]at *;exact List.le_trans d f
 have t:∀a b:List UInt8,(leB a b||leB b a)=true:=λa b=>by simp only[leB,Bool.or_eq_true,decide_eq_true_eq];exact List.le_total a b
 unfold fJ;congr 1;refine List.Perm.eq_of_pairwise (λa b _ _ d f=>?_) (List.pairwise_mergeSort r t _) (List.pairwise_mergeSort r t _)<|(List.mergeSort_perm _ leB).trans<|hp.trans (List.mergeSort_perm _ leB).symm;simp only[leB,decide_eq_true_eq]at d f;exact List.le_antisymm d f
theorem Si{L M:List (ByteArray×aQ)}(h:aV L)(g:aV M)(e:∀k,aj L k=aj M k):b9 L=b9 M:=by grind[b9,Sh]
def gG(H:List ((Nat × ByteArray) × aQ))(t:Nat):List (ByteArray × aQ):=(H.filter λx=>decide (x.1.1=t)).map λx=>(x.1.2,x.2)
theorem nP{H:List ((Nat×ByteArray)×aQ)}(h:aV H)(t:Nat):aV (gG H t):=by
 unfold aV gG;rw[List.pairwise_map,List.pairwise_filter];apply h.imp;intro a b Y d c e;have d:a.1.1=t:=by grind
 have c:b.1.1=t:=by grind
 exact Y<|Prod.ext (d.trans c.symm) e
theorem lz(t:Nat)(k:ByteArray):∀H:List<|(Nat×ByteArray)×aQ,aj (gG H t) k=aj H (t,k)
 |[]=>rfl
 |x::r=>by
  have ih:=lz t k r;have⟨⟨u,q⟩,g⟩:=x;unfold gG aj at *;by_cases e:u=t
  .subst e;rw[List.filter_cons_of_pos sE,List.map_cons,List.find?_cons,List.find?_cons];by_cases a:q=k
   .subst a;simp
   .simp only[a,decide_false,Prod.mk.injEq,and_false];exact ih
  .rw[List.filter_cons_of_neg<|by simp[e],List.find?_cons];simp only[Prod.mk.injEq,e,false_and,decide_false];exact ih
end Go.Proofs.YtdcafjmdfpjcbaaGreatDoor
