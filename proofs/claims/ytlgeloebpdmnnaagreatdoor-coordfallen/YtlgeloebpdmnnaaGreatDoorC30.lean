import Derived.Test.YtlgeloebpdmnnaaGreatDoorC19
import Derived.Test.YtlgeloebpdmnnaaGreatDoorC26
set_option maxHeartbeats 4000000
set_option maxRecDepth 100000
namespace Go.Proofs.YtlgeloebpdmnnaaGreatDoor
open Go.RowKit Go.Maps Tryz Sc
theorem ph{w:nL}{base:Nat}{e:TypeId}{size n g c j:Nat}{xs:List Value}{u:Value}(h:w.ownsRow base e size (.slice (some<|gi g) n c) n xs):(w.setCell (hP g j) u).ownsRow base e size (.slice (some<|gi g) n c) n (xs.set j u):=by
 rcases h.2 with⟨a,_⟩|⟨k,z,r,a,hb,l,d,f,i,b⟩
 .simp at a
 .simp only[Bx,Option.some.injEq,Addr.mk.injEq,and_true,true_and]at a;obtain⟨rfl,rfl⟩:=a;refine⟨by rw[List.length_set];exact h.1,.inr ⟨g,c,r.setIfInBounds j u,rfl,hb,?_,d,f,by simpa using i,?_⟩⟩
  .grind [aF]
  .rw[<-b];simp only[Array.toList_setIfInBounds];rw[List.take_set]
theorem sT{α:Type}{f:α->List Value}{k:Nat}(a:∀x,(f x).length=k):∀(l:List α) (i j:Nat) (x y:α) (u:Value),l[i]?=some x->j<k->f y=(f x).set j u->(l.set i y).flatMap f=(l.flatMap f).set (i*k+j) u
 |[],i,j,x,y,u,h,_,_=>by simp at h
 |z::l,0,j,x,y,u,h,hj,hf=>by
  simp at h;subst h;rw[List.set_cons_zero,List.flatMap_cons,List.flatMap_cons,Nat.zero_mul,Nat.zero_add,List.set_append_left _ _<|by rw[a];exact hj,hf]
 |z::l,i+1,j,x,y,u,h,hj,hf=>by
  simp at h;have e:(i+1)*k+j=(f z).length+(i*k+j):=by rw[a,Nat.add_mul,Nat.one_mul];omega
  rw[List.set_cons_succ,List.flatMap_cons,List.flatMap_cons,e,List.set_append_right _ _ dp,Nat.add_sub_cancel_left,sT a l i j x y u h hj hf]
def CM.abort(R:CM)(t:Nat):CM × Nat:=if t=0 then (R,7) else (⟨R.table,del R.aD t⟩,0)
section
open Go.Shelf
variable{b k n':Nat}{d:aj}{l:au}{s:nS}
theorem yB(l:au)(d:aj)(k:Nat)(s:nS):l.notes d [(k,s)]=l.note d k s:=by
 show(if (l.note d k s).2.2=0 then ((l.note d k s).1,(l.note d k s).2.1,0)else l.note d k s)=_;by_cases q:(l.note d k s).2.2=0<;>grind
theorem Ee(l:au)(d:aj):(l.room d).1.next=l.next:=by grind[au.room,au.sync]
theorem UB(l:au)(d:aj)(b:List Nat):(l.put d b).1.next=l.next:=by grind[au.put,Ee]
theorem UC{b:List Nat}(h:l.filled<600->l.segs≠[])(r:(l.put d b).2.2=0):(l.put d b).1.segs≠[]:=by grind[au.put,DL]
theorem I6(h:(l.append d k s).2.2.2=0):(l.append d k s).2.2.1=l.next:=by grind[au.append,aB,bytesOf,au.wr,UB]
theorem Ef(a:l.filled<600->l.segs≠[])(h:(l.note d k s).2.2=0):(l.note d k s).1.segs≠[]:=by grind[au.note,au.append,aB,bytesOf,au.wr,UC]
def yC(e:Nat × nS):Nat × nS:=(e.1+128,e.2)
theorem ady:∀k:Fin 128,bits .or .u8 (k.val:Int) 128=((k.val+128:Nat):Int):=du
theorem mJ.bk{w0 w w':nL}{B lp p bD bN n D N:Nat}{pv s v:Value}(hf:mJ lp p w0 w)(a:aM w B lp p bD bN pv s v l d n D N)(hb:Bk b w w')(hn:w0.heap.size<=b):mJ lp p w0 w':=by
 have z:=a.bk hb;refine⟨hb.os.trans hf.os,hb.tape.trans hf.tape,hb.output.trans hf.output,zzk hf.size hb.size,λk h o=>?_,λk h o=>hf.stay k h<|(a.own k).2<|(z.own k).1 o⟩;rw[<-hf.block k h o];have c:=zzl h hf.size;rw[Cq c];exact hb.block k _ (Cq c)<|.inr dp
structure yD(w0 w:nL)(B gp lp p bD bN n:Nat)(l:au)(d:aj)(ps:FK):Prop where
 lg:∃pv sv rv nD nN,aM w B lp p bD bN pv sv rv l d n nD nN
 qD:w.heap[gp]?=some (C5 lp)
 fr:mJ lp p w0 w
 lo:2<=w0.heap.size
 p_:dJ w
 pins:∀x∈ps,w.heap[x.1]?=some x.2/\vS x.2=false/\¬Own lp p w x.1
section
variable{w0 w w':nL}{B gp lp p bD bN n:Nat}{l l':au}{d d':aj}{ps:FK}
theorem yD.bk{b:Nat}(h:yD w0 w B gp lp p bD bN n l d ps)(hb:Bk b w w')(hn:w0.heap.size<=b):yD w0 w' B gp lp p bD bN n l d ps:=by
 have⟨pv,s,v,D,N,a⟩:=h.lg;have z:=a.bk hb;refine⟨⟨pv,s,v,D,N,z⟩,hb.block _ _ h.qD<|.inl rfl,h.fr.bk a hb hn,h.lo,h.p_.cZ ?_,λx hx=>?_⟩
 .have h1l:1<w.heap.size:=by have:=h.fr.size;have:=h.lo;omega
  rw[Cq h1l];exact hb.block 1 _ (Cq h1l)<|.inr<|by have:=h.lo;omega
 .obtain⟨a1,a2,a3⟩:=h.pins x hx;exact⟨hb.block _ _ a1<|.inl a2,a2,λo=>a3<|(a.own _).2<|(z.own _).1 o⟩
theorem yD.pin{g:Nat}{c:Array Value}{t:TypeId}(h:yD w0 w B gp lp p bD bN n l d ps)(hf:Fr [] w w')(e:w.heap.size<=g)(b:w'.heap[g]?=some (.cells c t (0,0))):yD w0 w' B gp lp p bD bN n l d ((g,.cells c t (0,0))::ps):=by
 have⟨pv,s,v,D,N,a⟩:=h.lg;have z:=a.new hf;have k:=h.bk (Bk.fr hf)<|zzc _;refine⟨k.lg,k.qD,k.fr,k.lo,k.p_,λx hx=>?_⟩;obtain rfl|hx:=zzj.1 hx
 .refine⟨b,rfl,λo=>?_⟩;have:=a.ltO<|(a.own _).2<|(z.own _).1 o;simp at this;omega
 .exact k.pins x hx
theorem yD.log{n':Nat}(h:yD w0 w B gp lp p bD bN n l d ps)(hf:mJ lp p w w')(f:∃pv s v D N,aM w' B lp p bD bN pv s v l' d' n' D N)(g:2<=B):yD w0 w' B gp lp p bD bN n' l' d' ps/\td w w':=by
 have⟨pv,s,v,D,N,a⟩:=h.lg;refine⟨⟨f,hf.qD a h.qD,h.fr.trans hf,h.lo,h.p_.cZ<|hf.block 1 (by have:=h.fr.size;have:=h.lo;omega) λo=>by have:=a.ge o;omega,λx hx=>?_⟩,hf.kpo a⟩;have⟨b,e,c⟩:=h.pins x hx;have W:=(zza.1 b).1;exact⟨(hf.block _ W c).trans b,e,λo=>c<|hf.stay _ W o⟩
theorem yD.box{q:Nat}{i:Array Value}(h:yD w0 w B gp lp p bD bN n l d ps)(hf:Fr [q] w w')(g:w.heap[q]?=some (.cells i 74 (0,0)))(u:w0.heap.size<=q)(G:ps=[]):yD w0 w' B gp lp p bD bN n l d []:=by
 subst G;have⟨pv,s,v,D,N,f⟩:=h.lg;have r:=f.free g du du du du du;have z:=f.apart hf λk a _=>by simp at a;subst a;exact⟨r,λt e=>by rw[g]at e;cases e⟩
 have j:∀{k:Nat} {o:Obj},w.heap[k]?=some o->(∀c,o≠.cells c 74 (0,0))->k∉[q]:=λ{k o} a b m=>by
  simp at m;subst m;rw[g]at a;cases a;exact b _ rfl
 refine⟨⟨pv,s,v,D,N,z⟩,(hf.block gp (zza.1 h.qD).1<|j h.qD λc e=>by cases e).trans h.qD,⟨hf.os.trans h.fr.os,hf.tape.trans h.fr.tape,hf.output.trans h.fr.output,zzk h.fr.size hf.size,λk a b=>?_,λk a b=>h.fr.stay k a<|(f.own k).2<|(z.own k).1 b⟩,h.lo,h.p_.cZ<|hf.block 1 (by have:=h.fr.size;have:=h.lo;omega)<|by have:=h.lo;simp;omega,λx hx=>by cases hx⟩;rw[hf.block k (zzl a h.fr.size) ef];exact h.fr.block k a b
theorem yD.NL(h:yD w0 w B gp lp p bD bN n l d ps):yD w0 w B gp lp p bD bN n l d []:=⟨h.lg,h.qD,h.fr,h.lo,h.p_,λx hx=>by cases hx⟩
theorem yD.wide{n':Nat}(h:yD w0 w B gp lp p bD bN n l d ps)(hn:n<=n')(b:n'<=1000000000):yD w0 w B gp lp p bD bN n' l d ps:=by
 have⟨pv,s,v,D,N,a⟩:=h.lg;exact⟨⟨pv,s,v,D,N,a.fW hn b⟩,h.qD,h.fr,h.lo,h.p_,h.pins⟩
end
def gC(es:List (Nat × nS)):List (Nat × nS):=(254,gW) :: es.map yC++[(255,gW)]
abbrev gR(l:au)(d:aj)(e:List (Nat × nS)):au × aj × Nat:=l.notes d ((254,gW) :: e.map yC)
theorem yE{e:List (Nat×nS)}{x:Nat×nS}(h:(gR l d e).2.2=0):gR l d (e++[x])=(gR l d e).1.note (gR l d e).2.1 (x.1+128) x.2:=by
 unfold gR;rw[BB,<-List.cons_append,pX,oo h];exact yB _ _ _ _
theorem UD{es:List (Nat×nS)}(h:(gR l d es).2.2=0):l.notes d (gC es)=(gR l d es).1.note (gR l d es).2.1 255 gW:=by grind[gC,pX,yB]
theorem Eg{es p:List (Nat×nS)}(hp:p<+:es)(h:(gR l d p).2.2≠0):l.eV d (es.map yC)=gR l d p:=by
 obtain⟨t,rfl⟩:=hp;have e:l.notes d ((254,gW)::(p++t).map yC++[(255,gW)])=gR l d p:=by grind[pX]
 unfold au.eV;rw[e,mE h]
theorem Yq{es:List (Nat×nS)}(h:(l.notes d<|gC es).2.2≠0):l.eV d (es.map yC)=l.notes d (gC es):=by
 unfold au.eV;exact mE h
theorem UE{es:List (Nat×nS)}(h:(l.notes d<|gC es).2.2=0):l.eV d (es.map yC)=(l.notes d<|gC es).1.cut (l.notes d<|gC es).2.1 l.next:=by
 unfold au.eV;exact oo h
def CkJ(w A:nL)(B gp lp p bD bN n:Nat)(l:au)(d:aj)(ps:FK)(e:List (Nat × nS)):Prop :=
 yD w A B gp lp p bD bN (n+3+3*e.length) (gR l d e).1 (gR l d e).2.1 ps/\(gR l d e).2.2=0/\(gR l d e).1.segs≠[]/\A.heap[w.heap.size]?=some (.cells #[gx gp] 186 (0,0))/\A.heap[w.heap.size+1]?=some (.cells #[.nilIface] 74 (0,0))
def CkS(w A:nL)(B gp lp p bD bN n:Nat)(l:au)(d:aj)(e:List (Nat × nS)):Prop :=
 yD w A B gp lp p bD bN (n+3+3*e.length) (gR l d e).1 (gR l d e).2.1 []/\(gR l d e).2.2≠0/\A.heap[w.heap.size+1]?=some (.cells #[bB (gR l d e).2.2] 74 (0,0))
theorem adz(N:Nat)(hN:16<=N)(B gp lp p bD bN n nD nN g gf:Nat)(lb:Array Value)(pv sv rv:Value)(l:au)(d:aj)(es:List<|Nat×nS)(Inv:nL->Prop)(w:nL)
  (hg:w.heap[gp]?=some (C5 lp)) (h:aM w B lp p bD bN pv sv rv l d n nD nN) (u:2<=B) (vD:2<=w.heap.size) (uM:l.filled<600->l.segs≠[]) (dK:dJ w)
  (eg:∀args w,(callFunc gf args).run prog w=.ok (.enter gf args) w) (D9:∀e∈es,e.1<126) (hI:∀A,mJ lp p w A->Inv A)
  (sF:∀l' ls W,(∀k∈ls,k<W.heap.size)->Inv W->Yn Fence.wide (N-1) prog gf lb (λx:Nat×nS=>#[.int .u8 (x.1:Int),.string x.2]) es Inv l' ls W)
  (hn:n+3*(es.length+2)+2+g<=1000000000)
  (hcut:(l.notes d (gC es)).2.2=0->g<=(l.notes d (gC es)).1.segs.length/\n+3*(es.length+2)+2+(l.notes d (gC es)).1.segs.length<=1000000000 /\
   ((l.notes d<|gC es).1.failed=0->bM (l.notes d<|gC es).1.segs l.next≠0->(l.notes d<|gC es).1.qR (l.notes d<|gC es).2.1 (bM (l.notes d<|gC es).1.segs l.next) ((l.notes d<|gC es).1.segs.getD (bM (l.notes d<|gC es).1.segs l.next) 0)<=g) /\
   ((l.notes d (gC es)).1.failed=0->∀k s:Nat,(l.notes d (gC es)).1.segs[k]?=some s->∃r rs,(l.notes d (gC es)).1.recs=r::rs/\r.cW<=s/\s-r.cW<(l.notes d (gC es)).1.recs.length)) :
  CallsIn Fence.wide N prog 189 #[gx gp,.func (.func gf) #[] lb] w (lO B lp p bD bN (n+3*(es.length+2)+2+g) (l.eV d<|es.map yC) w):=by
 have aa:Fence.wide.round=none:=rfl;have h1:1<=N:=dp;have cY:Fence.wide.fn 98:=trivial;have fu:Fence.wide.fn 188:=trivial;have iI:Fence.wide.fn 100:=trivial;have R:Fence.wide.fn gf:=trivial;obtain⟨z,E⟩:∃z,z=(w.alloc<|.cells #[.pointer<|some ⟨gp,0,none⟩] 186).alloc (.cells #[.nilIface] 74):=⟨_,rfl⟩;have lh:Fr [] w z:=by rw[E];exact((fU w).alloc _).alloc _
 have ni:z.heap.size=w.heap.size+2:=by rw[E];simp
 have r0:z.heap[w.heap.size]?=some (.cells #[.pointer<|some ⟨gp,0,none⟩] 186 (0,0)):=by rw[E,zzf _ _ w.heap.size dv];exact oz w _
 have r1:z.heap[w.heap.size+1]?=some (.cells #[.nilIface] 74 (0,0)):=by
  rw[E];have:=oz (w.alloc<|.cells #[.pointer<|some ⟨gp,0,none⟩] 186)<|.cells #[.nilIface] 74
  rwa [zzv]at this
 have D8:yD w z B gp lp p bD bN n l d []:=by
  have h0:yD w w B gp lp p bD bN n l d []:=⟨⟨pv,sv,rv,nD,nN,h⟩,hg,h.zS<|fU w,vD,dK,λx hx=>by cases hx⟩;exact h0.bk (Bk.fr (n:=w.heap.size) lh)<|zzc _
 have TY:=(yY (n:=N-1)).2<|zp B lp p bD bN n nD nN 254 pv sv rv l d ByteArray.empty z (h.new lh) dp dp u uM D8.p_;have cg:=bj D8.qD 0;have c0:=bj r0 0;simp at cg c0;have HS:=ah<|zzb uM<|zzb D9<|zzb hI sF;have HC:=ah hcut;have HK:=ah D8;rw[E]at c0 cg;refine callsIn_of_wp_marks func189 rfl trivial ?_ aa;simp only[ntmps189,ji,zzr,jn,Nat.reduceAdd,Nat.reduceSub,mK,jo,j7,j8,kV,lC]
 gi_wp2_with fail;rw[<-E];refine TY.mono ?_;rintro e y ⟨rfl,K,gq⟩;have⟨ng,M⟩:=HK.out.log gq K u;have s0:=M.same _ _ r0 rfl;have j:=M.same _ _ r1 rfl;have Y:=M.size;have D:gR l d []=((l.append d 254 ByteArray.empty).1,(l.append d 254 ByteArray.empty).2.1,(l.append d 254 ByteArray.empty).2.2.2):=yB l d 254 ByteArray.empty;by_cases kn:(l.append d 254 ByteArray.empty).2.2.2=0
 .have kB:=I6 kn;have H:Hid (yD w y B gp lp p bD bN (n+3) (gR l d []).1 (gR l d []).2.1 []/\(gR l d []).2.2=0/\(gR l d []).1.segs≠[]/\z.heap.size<=y.heap.size):=⟨by rw[D];exact ng,by rw[D];exact kn,by rw[D];exact Ef HS.1 kn,Y⟩;have HB:=ah<|zzb s0 j;rw[kB,kn,aT]
  gi_wp2
  refine xp [w.heap.size+1] (λk X=>by have:=H.2.2.2;simp at X;omega) aa h1 (gf:=gf) (lb:=lb) rfl R eg
   (encs:=λx:Nat×nS=>#[.int .u8 (x.1:Int),.string x.2]) (rs:=es) (Inv:=Inv) (λ_=>rfl)
   (λWx k9 an ab S a8 hJ hS IZ I0 hY h0=>HS.2.2.2 _ _ Wx (λk X=>by have:=H.2.2.2;simp at X;omega) (a8 _ _ _ h0) ab S a8 hJ hS IZ I0 hY h0)
   (λps b A=>CkJ w A B gp lp p bD bN n l d ps b) (λb A=>CkS w A B gp lp p bD bN n l d b)
   (λq A B f hz hb=>⟨f.1.bk hb<|by have:=H.2.2.2;omega,f.2.1,hb.block _ _ f.2.2<|.inl rfl⟩)
   ⟨H.1,H.2.1,H.2.2.1,HB.1,HB.2⟩
   (λps q A f=>HS.2.2.1 A f.1.fr)
   (λps q A B f hz hb=>⟨f.1.bk hb<|by have:=H.2.2.2;omega,f.2.1,f.2.2.1,hb.block _ _ f.2.2.2.1<|.inl rfl,hb.block _ _ f.2.2.2.2<|.inl rfl⟩)
   (λps q A B g c t f hz hf hg u=>⟨f.1.pin hf hg u,f.2.1,f.2.2.1,(hf.block _ (zza.1 f.2.2.2.1).1 dv).trans f.2.2.2.1,(hf.block _ (zza.1 f.2.2.2.2).1 dv).trans f.2.2.2.2⟩)
   (λps q A f x hx=>(f.1.pins x hx).1)
   (λx a' A=>a'={tmps:=#[.pointer<|some ⟨gp,0,none⟩,.func (.func gf) #[] lb,.pointer<|some ⟨w.heap.size,0,none⟩,undef,.pointer<|some ⟨w.heap.size+1,0,none⟩,.int .u64 (l.next:Int),.nilIface,.int .u8 (x.1:Int),.string x.2,undef,undef,.tuple #[.int .u64 (l.next:Int),.nilIface],.pointer<|some ⟨gp,0,none⟩,.pointer<|some ⟨gp,0,none⟩,.pointer<|some ⟨gp,0,none⟩,.pointer<|some ⟨lp,0,none⟩,.tuple #[.int .u64 (l.next:Int),.nilIface],.int .u64 (l.next:Int),.nilIface,.nilIface,.bool false,undef,.func (.func gf) #[] lb,.int .u8 (x.1:Int),.string x.2,undef,undef,undef,undef,undef,undef,undef,undef,undef,undef,undef,undef,undef,undef,undef,undef,undef,undef,undef],defers:=[]})
   (λx a' A r f=>f)
   ?assign ?body ?done ?stop
  case assign=>
   have pV:=@Bg;rintro ps b x A al hI ym V G;gi_wp2;exact G _ _ (Bk.refl _ _) (td.refl _) rfl
  case body=>
   have pV:=@Bg;rintro ps b x a' A ⟨cf,lx,Qi,b0,b1⟩ ym rfl V;have I1:x∈es:=V.subset (by simp);have oW:=HS.2.1 x I1;have qI:b.length+1<=es.length:=by simpa using V.length_le
   have v0:=bj b0 0;simp at v0;have⟨mj,tV,gM,nK,nG,K⟩:=cf.lg;have U:=(yY (n:=N-1-1-1)).2<|wS B gp lp p bD bN (n+3+3*b.length) nK nG (x.1+128) mj tV gM _ _ x.2 A cf.qD K dp dp u (λ_=>Qi) cf.p_;rw[<-yE lx]at U;have h3:1<=N-1-1:=dp
   have ZS:bits .or .u8 (x.1:Int) 128=((x.1+128:Nat):Int):=ady ⟨x.1,dp⟩
   have HA:Hid (∀i,(∃pv sv rv nD nN,aM i B lp p bD bN pv sv rv (gR l d<|b++[x]).1 (gR l d<|b++[x]).2.1 (n+3+3*b.length+3) nD nN)->mJ lp p A i->yD w i B gp lp p bD bN (n+3+3*(b++[x]).length) (gR l d<|b++[x]).1 (gR l d<|b++[x]).2.1 ps/\i.heap[w.heap.size]?=some (.cells #[.pointer<|some ⟨gp,0,none⟩] 186 (0,0))/\i.heap[w.heap.size+1]?=some (.cells #[.nilIface] 74 (0,0))/\td A i):=λi h3 ho=>by
    have⟨k1,k2⟩:=cf.log ho h3 u;refine⟨?_,k2.same _ _ b0 rfl,k2.same _ _ b1 rfl,k2⟩;rw[zzi,List.length_singleton,Nat.mul_add,<-Nat.add_assoc];exact k1
   have HG:=ah<|zzb lx Qi
   gi_wp2_with fail;refine U.mono ?_;rintro e i ⟨rfl,nV,wj⟩;have C:=ah<|HA.out i nV wj;by_cases mH:(gR l d<|b++[x]).2.2=0
   .have HF:=ah mH;rw[mH,aT];gi_wp2;refine⟨⟨C.1,HF.out,?_,C.2.1,C.2.2.1⟩,C.2.2.2⟩;rw[yE HG.1];have:=HF.out;rw[yE HG.1]at this;exact Ef (λ_=>HG.2) this
   .have j:=C.2.2.1;have P:=bj j 0;have y1:=aq j 0;simp at P;have⟨a,v⟩:∃a,a=i.setCell ⟨w.heap.size+1,0,none⟩ (bB (gR l d<|b++[x]).2.2):=⟨_,rfl⟩;have L:Fr [w.heap.size+1] i a:=by rw[v];exact Fr.cG dv _ _
    have F:a.heap[w.heap.size+1]?=some (.cells #[bB (gR l d<|b++[x]).2.2] 74 (0,0)):=by rw[v];simpa using aF j 0<|bB (gR l d<|b++[x]).2.2
    have T:Hid (yD w a B gp lp p bD bN (n+3+3*(b++[x]).length) (gR l d<|b++[x]).1 (gR l d<|b++[x]).2.1 []/\(gR l d<|b++[x]).2.2≠0/\a.heap[w.heap.size+1]?=some (.cells #[bB (gR l d<|b++[x]).2.2] 74 (0,0))/\Qb [w.heap.size+1] A a):=by
     refine⟨C.1.NL.box L j dp rfl,mH,F,?_⟩;have X:=C.2.2.2;refine⟨zzk X.size L.size,λk o M mL J=>?_⟩;have:=X.same k o mL J;exact(L.block k (zza.1 this).1 M).trans this
    clear L F j C HG;rw[aV mH]at v ⊢;gi_wp2;rw[<-v];exact⟨⟨T.1,T.2.1,T.2.2.1⟩,T.2.2.2⟩
  case done=>
   rintro ps A ⟨cf,lx,Qi,b0,b1⟩ ym G;have v0:=bj b0 0;simp at v0;have⟨mj,tV,gM,nK,nG,K⟩:=cf.lg;have U:=(yY (n:=N-1)).2<|wS B gp lp p bD bN (n+3+3*es.length) nK nG 255 mj tV gM _ _ ByteArray.empty A cf.qD K dp dp u (λ_=>Qi) cf.p_;rw[<-UD lx]at U;have Q:=ah<|zzb cf.NL<|zzb b0<|zzb b1 G
   gi_wp2_with fail;refine U.mono ?_;rintro e i ⟨rfl,nV,wj⟩;have⟨I,J⟩:=Q.1.log wj nV u;have t0:=J.same _ _ Q.2.1 rfl;have O:=J.same _ _ Q.2.2.1 rfl;have t2:=J.same _ _ Q.2.2.2 rfl;by_cases mH:(l.notes d<|gC es).2.2=0
   .have v3:=bj t0 0;have Zw:=bj I.qD 0;simp at v3 Zw;have⟨g1,g2,g3,g4⟩:=HC.out mH;have⟨Ht,ag,ae,J_,Hu,a7⟩:=I.lg;have uF:=(yY (n:=N-1)).2<|Td g B lp p bD bN (n+3+3*es.length+3) J_ Hu l.next Ht ag ae _ _ i a7 dp u I.p_ g1 g3 g4;rw[<-UE mH]at uF;have H3:=ah<|zzb I<|zzb O t2;rw[mH,aT]
    gi_wp2_with fail;refine uF.mono ?_;rintro e W4 ⟨rfl,nb,oX⟩;have⟨k4,Rx⟩:=H3.1.log oX nb u;have u1:=Rx.same _ _ H3.2.1 rfl;have u2:=Rx.same _ _ H3.2.2 rfl;have P:=bj u1 0;have y1:=aq u1 0;simp at P;have⟨a,v⟩:∃a,a=W4.setCell ⟨w.heap.size+1,0,none⟩ (bB (l.eV d<|es.map yC).2.2):=⟨_,rfl⟩;have R:Fr [w.heap.size+1] W4 a:=by rw[v];exact Fr.cG dv _ _
    have F:a.heap[w.heap.size+1]?=some (.cells #[bB (l.eV d<|es.map yC).2.2] 74 (0,0)):=by rw[v];simpa using aF u1 0<|bB (l.eV d<|es.map yC).2.2
    have Y:=H.2.2.2;have a1:a.heap[y.heap.size]?=some (.deferred<|some []):=(R.block _ (zza.1 u2).1 ef).trans u2;have H5:=ah<|k4.box R u1 dp rfl;have ad:bB (l.eV d<|es.map yC).2.2=.nilIface\/∃x,bB (l.eV d<|es.map yC).2.2=.iface 27 x:=(Decidable.em<|(l.eV d<|es.map yC).2.2=0).elim (λh=>.inl<|by rw[h];rfl) λh=>.inr<|Xe h;obtain hE|⟨ex,hE⟩:=ad
    all_goals
     (rw[hE]at v ⊢
      gi_wp2;rw[<-v];refine⟨dv,.inl ⟨_,_,rfl,DK a1,?_⟩⟩;have uS:(a.putObj y.heap.size<|.deferred none).heap[w.heap.size+1]?=some (.cells #[bB (l.eV d<|es.map yC).2.2] 74 (0,0)):=(qY dp).trans F;have m:=bj uS 0;simp at m;have Z:=H5.out.bk (Bk.put a1 rfl (zzc _)<|.deferred none) dp;refine⟨bB (l.eV d<|es.map yC).2.2,?_,rfl,(Z.wide (n':=n+3*(es.length+2)+2+g) dp dp).lg,Z.fr⟩;simp only[results,f189]
      simp[go_sem,m])
   .have P:=bj O 0;have y1:=aq O 0;simp at P;have⟨a,v⟩:∃a,a=i.setCell ⟨w.heap.size+1,0,none⟩ (bB (l.notes d<|gC es).2.2):=⟨_,rfl⟩;have R:Fr [w.heap.size+1] i a:=by rw[v];exact Fr.cG dv _ _
    have F:a.heap[w.heap.size+1]?=some (.cells #[bB (l.notes d<|gC es).2.2] 74 (0,0)):=by rw[v];simpa using aF O 0<|bB (l.notes d<|gC es).2.2
    have Y:=H.2.2.2;have a1:a.heap[y.heap.size]?=some (.deferred<|some []):=(R.block _ (zza.1 t2).1 ef).trans t2;have H5:=ah<|I.box R O dp rfl;have HZ:=ah mH;rw[aV mH]at v ⊢;gi_wp2;rw[<-v];refine⟨dv,.inl ⟨_,_,rfl,DK a1,?_⟩⟩;have uS:(a.putObj y.heap.size<|.deferred none).heap[w.heap.size+1]?=some (.cells #[bB (l.notes d<|gC es).2.2] 74 (0,0)):=(qY dp).trans F;have m:=bj uS 0;simp at m;have Z:=H5.out.bk (Bk.put a1 rfl (zzc _)<|.deferred none) dp;rw[Yq HZ.out];refine⟨bB (l.notes d<|gC es).2.2,?_,rfl,(Z.wide (n':=n+3*(es.length+2)+2+g) dp dp).lg,Z.fr⟩;simp only[results,f189];simp[go_sem,m]
  case stop=>
   rintro b A V ⟨cf,lx,b1⟩ ym G;have Y:=H.2.2.2;have qI:=V.length_le;refine⟨dv,.inl ⟨_,_,rfl,DK G,?_⟩⟩;have uS:(A.putObj y.heap.size<|.deferred none).heap[w.heap.size+1]?=some (.cells #[bB (gR l d b).2.2] 74 (0,0)):=(qY (by omega)).trans b1;have m:=bj uS 0;simp at m;have Z:=cf.bk (Bk.put G rfl (zzc _)<|.deferred none) dp;rw[Eg V lx];refine⟨bB (gR l d b).2.2,?_,rfl,(Z.wide (n':=n+3*(es.length+2)+2+g) dp dp).lg,Z.fr⟩;simp only[results,f189];simp[go_sem,m]
 .have H:Hid (yD w y B gp lp p bD bN (n+3) (gR l d []).1 (gR l d []).2.1 []/\(gR l d []).2.2≠0):=⟨by rw[D];exact ng,by rw[D];exact kn⟩;have P:=bj j 0;have y1:=aq j 0;simp at P;have⟨a,v⟩:∃a,a=y.setCell ⟨w.heap.size+1,0,none⟩ (bB (l.append d 254 ByteArray.empty).2.2.2):=⟨_,rfl⟩;have L:Fr [w.heap.size+1] y a:=by rw[v];exact Fr.cG dv _ _
  have F:a.heap[w.heap.size+1]?=some (.cells #[bB (l.append d 254 ByteArray.empty).2.2.2] 74 (0,0)):=by rw[v];simpa using aF j 0<|bB (l.append d 254 ByteArray.empty).2.2.2
  have T:Hid (yD w a B gp lp p bD bN (n+3) (gR l d []).1 (gR l d []).2.1 []/\a.heap[w.heap.size+1]?=some (.cells #[bB (gR l d []).2.2] 74 (0,0))):=⟨H.1.box L j dp rfl,by rw[D];exact F⟩;rw[aV kn]at v ⊢
  gi_wp2;rw[<-v];have m:=bj T.2 0;simp at m;rw[Eg (List.nil_prefix) H.2];refine⟨bB (gR l d []).2.2,?_,rfl,(T.1.wide (n':=n+3*(es.length+2)+2+g) dp dp).lg,T.1.fr⟩;simp only[results,f189];simp[go_sem,m]
end
abbrev kk:nS:=⟨#[107]⟩
def CM.iu(R:CM)(t:Nat):CM × Nat :=
 if t=0 then (R,7) else
 match Ts R.aD t with
 |none=>(R,0)
 |some x=>if x.st=3 then (⟨acX R.table x.pZ,del R.aD t⟩,0) else (R,4)
section
open Go.Shelf
def UF(n g:Nat)(l:au)(d:aj)(es:List (Nat × nS)):Prop :=
 (l.notes d (gC es)).2.2=0->g<=(l.notes d (gC es)).1.segs.length/\n+3*(es.length+2)+2+(l.notes d (gC es)).1.segs.length<=1000000000 /\
   ((l.notes d (gC es)).1.failed=0->bM (l.notes d (gC es)).1.segs l.next≠0->(l.notes d (gC es)).1.qR (l.notes d (gC es)).2.1 (bM (l.notes d (gC es)).1.segs l.next) ((l.notes d (gC es)).1.segs.getD (bM (l.notes d (gC es)).1.segs l.next) 0)<=g) /\
   ((l.notes d (gC es)).1.failed=0->∀k s:Nat,(l.notes d (gC es)).1.segs[k]?=some s->∃r rs,(l.notes d (gC es)).1.recs=r :: rs/\r.cW<=s/\s-r.cW<(l.notes d (gC es)).1.recs.length)
end
abbrev Jp(kd:Int)(eC:Nat)(q n:Int)(k s:nS)(o:Option Addr)(x y:Nat)(f a b c:Int):Value:=.agg #[.int .i64 kd,.int .u64 (eC:Int),.int .i64 q,.int .i64 n,.string k,.string s,.slice o x y,.int .i64 f,.int .i64 a,.int .i64 b,.int .i64 c]
abbrev qo(kd:Int)(eC:Nat)(q n:Int)(k s:nS)(o:Option Addr)(x y:Nat)(f a b c:Int):Obj:=.cells #[.int .i64 kd,.int .u64 (eC:Int),.int .i64 q,.int .i64 n,.string k,.string s,.slice o x y,.int .i64 f,.int .i64 a,.int .i64 b,.int .i64 c] 40
structure kT where
 kd:Int
 eC:Nat
 sq:Int
 nn:Int
 key:nS
 s:nS
 sa:Option Addr
 sx:Nat
 sy:Nat
 f1:Int
 f2:Int
 f3:Int
 f4:Int
def og(w:nL)(b o:Nat)(a:kT):Prop :=
 w.cell? (hP b o)=some (.int .i64 a.kd)/\w.cell? (hP b (o+1))=some (.int .u64 (a.eC:Int))/\w.cell? (hP b (o+2))=some (.int .i64 a.sq)/\w.cell? (hP b (o+3))=some (.int .i64 a.nn)/\w.cell? (hP b (o+4))=some (.string a.key)/\w.cell? (hP b (o+5))=some (.string a.s)/\w.cell? (hP b (o+6))=some (.slice a.sa a.sx a.sy) /\
 w.cell? (hP b (o+7))=some (.int .i64 a.f1)/\w.cell? (hP b (o+8))=some (.int .i64 a.f2)/\w.cell? (hP b (o+9))=some (.int .i64 a.f3)/\w.cell? (hP b (o+10))=some (.int .i64 a.f4)
def xC(w:nL)(v:Value)(L:List kT):Prop :=
 L.length<=281474976710656/\∃o p,v=.slice o L.length p/\∀i a,L[i]?=some a->(∃b f,o=some (hP b f)/\b<w.heap.size/\og w b (f+i*11) a)/\a.key.size<=281474976710656/\a.s.size<=281474976710656/\a.sx<=281474976710656
theorem og.below{w w':nL}{b o B:Nat}{a:kT}(h:og w b o a)(hb:Below B w w')(W:b<B):og w' b o a:=by
 have⟨c,d,e,f,g,i,j,k,l,m,G⟩:=h;exact⟨(hb.cell W).trans c,(hb.cell W).trans d,(hb.cell W).trans e,(hb.cell W).trans f,(hb.cell W).trans g,(hb.cell W).trans i,(hb.cell W).trans j,(hb.cell W).trans k,(hb.cell W).trans l,(hb.cell W).trans m,(hb.cell W).trans G⟩
def kT.wt(a:kT):Nat:=a.key.size+a.s.size+a.sx
def kU:List kT->Nat
 |[]=>0
 |a :: L=>a.wt+kU L
theorem Jq(K L:List kT):kU (K++L)=kU K+kU L:=by
 induction K with
 |nil=>simp[kU]
 |cons a K ih=>grind[kU]
theorem Er(L:List kT)(k:Nat):kU (L.take k)<=kU L:=by
 have:=Jq (L.take k)<|L.drop k;rw[Ez]at this;omega
theorem Es{L:List kT}{k:Nat}{a:kT}(h:L[k]?=some a):kU (L.take<|k+1)=kU (L.take k)+a.wt:=by
 rw[vV,h,Jq];simp[kU]
theorem xD(w:nL):Calls prog 12 #[] w λe w'=>e=.returned (kS (-1) (-1) 0 0)/\Below w.heap.size w w':=by
 go_enter func12,ntmps12;go_wp2;refine zA (by simp[results,results12,go_sem]) rfl ⟨rfl,(zzD _ _).alloc (zzc _) _⟩
theorem QB(v:Value)(L:List kT)(w:nL)(h:xC w v L):
  Calls prog 9 #[v] w λe w'=>e=.returned (.bool<|decide<|L.length+kU L<=16384)/\∃q,w'=w.drewN q:=by
 obtain⟨hlen,B,K,rfl,A⟩:=h;have⟨m,g⟩:=gb L.length;rw[<-g]at hlen ⊢;have M:Hid (m=L.length):=g;have C:Hid (∀i a,L[i]?=some a->(∃b o,B=some ⟨b,o,none⟩/\b<w.heap.size/\og w b (o+i*11) a)/\a.key.size<=281474976710656/\a.s.size<=281474976710656/\a.sx<=281474976710656):=A;clear g A;go_enter func9,ntmps9;go_wp2
 go_loopw [3,4] (λn i wr=>∃k:Nat,k<=m/\i=.int .i64 (k:Int)/\n=.int .i64 ((m+kU (L.take k):Nat):Int)/\(k=0\/m+kU (L.take<|k-1)<=16384)/\∃q,wr=w.drewN q) (λ_ i _=>m-(intOf i).toNat)
 case atStart=>exact⟨0,zzs _,rfl,by simp[kU],.inl rfl,0,rfl⟩
 case round=>
  obtain⟨k,N,rfl,rfl,y,q,rfl⟩:=hrel;have d:∀j,m+kU (L.take j)<=m+kU L:=λj=>by have:=Er L j;omega
  by_cases O:k<m
  .obtain⟨a,ha⟩:∃a,L[k]?=some a:=⟨_,zzg<|by have:=M.out;omega⟩;obtain⟨⟨b,o,rfl,hb,l,p,r,s,D,E,F,t,u,x,G⟩,S,w2,U⟩:=C.out k a ha;have J:=Es ha;have T:Hid (kU (L.take<|k+1)=kU (L.take k)+a.wt/\m+kU (L.take k)<=m+kU L/\m+kU (L.take<|k+1)<=m+kU L):=⟨J,d k,d<|k+1⟩;by_cases f:m+kU (L.take k)<=16384
   .have HW:Hid (a.wt=a.key.size+a.s.size+a.sx):=rfl;generalize c:kU (L.take k)=z at f T ⊢;have Z:Hid (kU (L.take k)=z):=c;clear c J d y l p r s t u x G;have Q:(0:Int)<=k:=dp;have R:(k:Int)<m:=dp;go_wp2;go_quiet (fail)
    go_wp2;go_roundw;.exact⟨k+1,dp,eR,by rw[T.1,HW.out];congr 1;omega,.inr<|by simpa [Z.out]using f,_,rfl⟩
    case measure=>simp[intOf];omega
   .have hbig:¬m+kU L<=16384:=by have:=T.out;omega
    have H:=zY hbig;generalize c:kU (L.take k)=z at f T ⊢;clear c J d y l p r s D E F t u x G;go_wp2;go_ret;have I:decide ((m:Int)+(z:Int)<=16384)=false:=zY dp;refine⟨?_,q,rfl⟩;rw[H];show Ending.returned (Value.bool<|decide<|(m:Int)+z<=16384)=_;rw[I]
  .obtain rfl:k=m:=dp;have P:L.take k=L:=by rw[M.out,List.take_length]
   rw[P];clear d y;generalize c:kU L=z;have Z:Hid (kU L=z):=c;clear c P;go_wp2;go_ret;refine⟨?_,q,rfl⟩;show Ending.returned (Value.bool<|decide<|(k:Int)+z<=16384)=_;rw[Z.out];congr 2;exact decide_eq_decide.2 dp
end Go.Proofs.YtlgeloebpdmnnaaGreatDoor
