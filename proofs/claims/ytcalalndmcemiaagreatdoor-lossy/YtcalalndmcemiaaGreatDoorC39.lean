import Derived.Test.YtcalalndmcemiaaGreatDoorC34
set_option maxHeartbeats 4000000
set_option maxRecDepth 100000
namespace Go.Proofs.YtcalalndmcemiaaGreatDoor
open Go.RowKit Go.Maps Tryz Sc
section
open Go.Shelf
variable{s:ByteArray}{b k n':Nat}{d:ah}{l:au}
theorem vw(l:au)(d:ah)(k:Nat)(s:ByteArray):l.notes d [(k,s)]=l.note d k s:=by
 show(if (l.note d k s).2.2=0 then ((l.note d k s).1,(l.note d k s).2.1,0)else l.note d k s)=_;by_cases q:(l.note d k s).2.2=0
 .rw[if_pos q,<-q]
 .rw[if_neg q]
theorem Bg(l:au)(d:ah):(l.room d).1.next=l.next:=by
 unfold au.room;split
 .rfl
 .split
  .show(l.sync d).1.next=l.next;unfold au.sync;split<;>rfl
  .unfold au.sync;split<;>rfl
theorem PD(l:au)(d:ah)(b:List Nat):(l.put d b).1.next=l.next:=by
 unfold au.put;split
 .exact Bg l d
 .exact Bg l d
theorem PE{b:List Nat}(h:l.filled<600->l.segs≠[])(r:(l.put d b).2.2=0):(l.put d b).1.segs≠[]:=by
 unfold au.put at *;by_cases c:(l.room d).2.2=0
 .rw[if_pos c]at r ⊢;exact AW h c
 .rw[if_neg c]at r;exact absurd r c
theorem E7(h:(l.append d k s).2.2.2=0):(l.append d k s).2.2.1=l.next:=by
 unfold au.append at *;by_cases b:255<s.size
 .rw[if_pos b]at h;cases h
 .rw[if_neg b]at h ⊢;by_cases a:(l.wr d<|l.put d<|bF l.next k<|bytesOf s).2.2=0
  .rw[if_pos a];show(l.wr d<|l.put d<|bF l.next k<|bytesOf s).1.next=l.next;unfold au.wr;split
   .exact PD _ _ _
   .rfl
  .rw[if_neg a]at h;exact absurd h a
theorem Bh(hs:l.filled<600->l.segs≠[])(h:(l.note d k s).2.2=0):(l.note d k s).1.segs≠[]:=by
 unfold au.note at *;show(l.append d k s).1.segs≠[];have b:=h;clear h;unfold au.append at *;by_cases e:255<s.size
 .rw[if_pos e]at b;cases b
 .rw[if_neg e]at b ⊢;by_cases a:(l.wr d<|l.put d<|bF l.next k<|bytesOf s).2.2=0
  .rw[if_pos a];show(l.wr d<|l.put d<|bF l.next k<|bytesOf s).1.segs≠[];unfold au.wr at *;by_cases c:l.failed=0
   .rw[if_pos c]at a ⊢;exact PE hs a
   .rw[if_neg c]at a;exact absurd a c
  .rw[if_neg a]at b;exact absurd b a
def wQ(e:Nat × ByteArray):Nat × ByteArray:=(e.1+128,e.2)
theorem aaS:∀k:Fin 128,bits .or .u8 (k.val:Int) 128=((k.val+128:Nat):Int):=bM
theorem ku.bk{w0 w w':World}{B lp p bD bN n D N:Nat}{v s r:Value}(hf:ku lp p w0 w)(a:aA w B lp p bD bN v s r l d n D N)(hb:Bk b w w')(hn:w0.heap.size<=b):ku lp p w0 w':=by
 have G:=a.bk hb;refine⟨hb.os.trans hf.os,hb.tape.trans hf.tape,hb.output.trans hf.output,zzk hf.size hb.size,λk h o=>?_,λk h o=>hf.stay k h<|(a.own k).2<|(G.own k).1 o⟩;rw[<-hf.block k h o];have E:=zzl h hf.size;rw[Array.getElem?_eq_getElem E];exact hb.block k _ (Array.getElem?_eq_getElem E)<|.inr bL
structure vx(w0 w:World)(B gp lp p bD bN n:Nat)(l:au)(d:ah)(ps:CI):Prop where
 lg:∃pv sv rv nD nN,aA w B lp p bD bN pv sv rv l d n nD nN
 ju:w.heap[gp]?=some (rB lp)
 fr:ku lp p w0 w
 lo:2<=w0.heap.size
 lh:bI w
 pins:∀x∈ps,w.heap[x.1]?=some x.2/\sL x.2=false/\¬Own lp p w x.1
section
variable{w0 w w':World}{B gp lp p bD bN n:Nat}{l E:au}{d G:ah}{ps:CI}
theorem vx.bk{b:Nat}(h:vx w0 w B gp lp p bD bN n l d ps)(hb:Bk b w w')(hn:w0.heap.size<=b):vx w0 w' B gp lp p bD bN n l d ps:=by
 have⟨v,s,r,D,N,a⟩:=h.lg;have G:=a.bk hb;refine⟨⟨v,s,r,D,N,G⟩,hb.block _ _ h.ju<|.inl rfl,h.fr.bk a hb hn,h.lo,h.lh.cI ?_,λx c=>?_⟩
 .have h1l:1<w.heap.size:=by have:=h.fr.size;have:=h.lo;omega
  rw[Array.getElem?_eq_getElem h1l];exact hb.block 1 _ (Array.getElem?_eq_getElem h1l)<|.inr<|by have:=h.lo;omega
 .obtain⟨a1,a2,a3⟩:=h.pins x c;exact⟨hb.block _ _ a1<|.inl a2,a2,λo=>a3<|(a.own _).2<|(G.own _).1 o⟩
theorem vx.pin{g:Nat}{c:Array Value}{t:TypeId}(h:vx w0 w B gp lp p bD bN n l d ps)(hf:Fr [] w w')(f:w.heap.size<=g)(e:w'.heap[g]?=some (.cells c t (0,0))):vx w0 w' B gp lp p bD bN n l d ((g,.cells c t (0,0))::ps):=by
 have⟨v,s,r,D,N,a⟩:=h.lg;have G:=a.new hf;have k:=h.bk (Bk.fr hf)<|zzc _;refine⟨k.lg,k.ju,k.fr,k.lo,k.lh,λx b=>?_⟩;obtain rfl|b:=zzj.1 b
 .refine⟨e,rfl,λo=>?_⟩;have:=a.ltO<|(a.own _).2<|(G.own _).1 o;simp at this;omega
 .exact k.pins x b
theorem vx.log{n':Nat}(h:vx w0 w B gp lp p bD bN n l d ps)(hf:ku lp p w w')(g:∃v s r D N,aA w' B lp p bD bN v s r E G n' D N)(j:2<=B):vx w0 w' B gp lp p bD bN n' E G ps/\nk w w':=by
 have⟨v,s,r,D,N,a⟩:=h.lg;refine⟨⟨g,hf.ju a h.ju,h.fr.trans hf,h.lo,h.lh.cI<|hf.block 1 (by have:=h.fr.size;have:=h.lo;omega) λo=>by have:=a.ge o;omega,λx i=>?_⟩,hf.kpo a⟩;have⟨b,f,c⟩:=h.pins x i;have e:=(zza.1 b).1;exact⟨(hf.block _ e c).trans b,f,λo=>c<|hf.stay _ e o⟩
theorem vx.box{q:Nat}{i:Array Value}(h:vx w0 w B gp lp p bD bN n l d ps)(hf:Fr [q] w w')(g:w.heap[q]?=some (.cells i 82 (0,0)))(y:w0.heap.size<=q)(z:ps=[]):vx w0 w' B gp lp p bD bN n l d []:=by
 subst z;have⟨v,u,s,D,N,f⟩:=h.lg;have Q:=f.free g bM bM bM bM bM;have G:=f.apart hf λk a _=>by simp at a;subst a;exact⟨Q,λt e=>by rw[g]at e;cases e⟩
 have j:∀{k:Nat} {o:Obj},w.heap[k]?=some o->(∀c,o≠.cells c 82 (0,0))->k∉[q]:=λ{k o} a b m=>by
  simp at m;subst m;rw[g]at a;cases a;exact b _ rfl
 refine⟨⟨v,u,s,D,N,G⟩,(hf.block gp (zza.1 h.ju).1<|j h.ju λc e=>by cases e).trans h.ju,⟨hf.os.trans h.fr.os,hf.tape.trans h.fr.tape,hf.output.trans h.fr.output,zzk h.fr.size hf.size,λk a b=>?_,λk a b=>h.fr.stay k a<|(f.own k).2<|(G.own k).1 b⟩,h.lo,h.lh.cI<|hf.block 1 (by have:=h.fr.size;have:=h.lo;omega)<|by have:=h.lo;simp;omega,λx r=>by cases r⟩;rw[hf.block k (zzl a h.fr.size) cE];exact h.fr.block k a b
theorem vx.J6(h:vx w0 w B gp lp p bD bN n l d ps):vx w0 w B gp lp p bD bN n l d []:=⟨h.lg,h.ju,h.fr,h.lo,h.lh,λx a=>by cases a⟩
theorem vx.wide{n':Nat}(h:vx w0 w B gp lp p bD bN n l d ps)(hn:n<=n')(R:n'<=67108864):vx w0 w B gp lp p bD bN n' l d ps:=by
 have⟨v,s,r,D,N,a⟩:=h.lg;exact⟨⟨v,s,r,D,N,a.lx hn R⟩,h.ju,h.fr,h.lo,h.lh,h.pins⟩
end
def e_(s:List (Nat × ByteArray)):List (Nat × ByteArray):=(254,ByteArray.empty) :: s.map wQ++[(255,ByteArray.empty)]
abbrev fM(l:au)(d:ah)(e:List (Nat × ByteArray)):au × ah × Nat:=l.notes d ((254,ByteArray.empty) :: e.map wQ)
theorem vy{e:List (Nat×ByteArray)}{x:Nat×ByteArray}(h:(fM l d e).2.2=0):fM l d (e++[x])=(fM l d e).1.note (fM l d e).2.1 (x.1+128) x.2:=by
 unfold fM;rw[List.map_append,<-List.cons_append,q9,if_pos h];exact vw _ _ _ _
theorem PF{s:List (Nat×ByteArray)}(h:(fM l d s).2.2=0):l.notes d (e_ s)=(fM l d s).1.note (fM l d s).2.1 255 ByteArray.empty:=by
 unfold e_;rw[q9,if_pos h];exact vw _ _ _ _
theorem Bi{s p:List (Nat×ByteArray)}(a:p<+:s)(h:(fM l d p).2.2≠0):l.kc d (s.map wQ)=fM l d p:=by
 obtain⟨t,rfl⟩:=a;have e:l.notes d ((254,yA)::(p++t).map wQ++[(255,yA)])=fM l d p:=by
  rw[List.map_append,List.cons_append,zzx,<-List.cons_append,q9,if_neg h]
 unfold au.kc;rw[e,if_neg h]
theorem Tc{s:List (Nat×ByteArray)}(h:(l.notes d<|e_ s).2.2≠0):l.kc d (s.map wQ)=l.notes d (e_ s):=by
 unfold au.kc;exact if_neg h
theorem E8{s:List (Nat×ByteArray)}(h:(l.notes d<|e_ s).2.2=0):l.kc d (s.map wQ)=(l.notes d<|e_ s).1.cut (l.notes d<|e_ s).2.1 l.next:=by
 unfold au.kc;exact if_pos h
def CkJ(w A:World)(B gp lp p bD bN n:Nat)(l:au)(d:ah)(ps:CI)(e:List (Nat × ByteArray)):Prop :=
 vx w A B gp lp p bD bN (n+3+3*e.length) (fM l d e).1 (fM l d e).2.1 ps/\(fM l d e).2.2=0/\(fM l d e).1.segs≠[]/\A.heap[w.heap.size]?=some (.cells #[.pointer (some ⟨gp,0,none⟩)] 117 (0,0))/\A.heap[w.heap.size+1]?=some (.cells #[.nilIface] 82 (0,0))
def CkS(w A:World)(B gp lp p bD bN n:Nat)(l:au)(d:ah)(e:List (Nat × ByteArray)):Prop :=
 vx w A B gp lp p bD bN (n+3+3*e.length) (fM l d e).1 (fM l d e).2.1 []/\(fM l d e).2.2≠0/\A.heap[w.heap.size+1]?=some (.cells #[cf (fM l d e).2.2] 82 (0,0))
theorem Vc(N:Nat)(hN:16<=N)(B gp lp p bD bN n nD nN g gf:Nat)(lb:Array Value)(pv sv rv:Value)(l:au)(d:ah)(a:List<|Nat×ByteArray)(Inv:World->Prop)(w:World)
  (hg:w.heap[gp]?=some (rB lp)) (h:aA w B lp p bD bN pv sv rv l d n nD nN) (u:2<=B) (tj:2<=w.heap.size) (lN:l.filled<600->l.segs≠[]) (aH:bI w)
  (eg:∀args w,(callFunc gf args).run prog w=.ok (.enter gf args) w) (al:∀e∈a,e.1<126) (hI:∀A,ku lp p w A->Inv A)
  (nc:∀E ls a8,(∀k∈ls,k<a8.heap.size)->Inv a8->LF Fence.wide (N-1) prog gf lb (λx:Nat×ByteArray=>#[.int .u8 (x.1:Int),.string x.2]) a Inv E ls a8)
  (hn:n+3*(a.length+2)+2+g<=67108864)
  (hcut:(l.notes d (e_ a)).2.2=0->g<=(l.notes d (e_ a)).1.segs.length/\n+3*(a.length+2)+2+(l.notes d (e_ a)).1.segs.length<=67108864 /\
   ((l.notes d<|e_ a).1.failed=0->cb (l.notes d<|e_ a).1.segs l.next≠0->(l.notes d<|e_ a).1.tQ (l.notes d<|e_ a).2.1 (cb (l.notes d<|e_ a).1.segs l.next) ((l.notes d<|e_ a).1.segs.getD (cb (l.notes d<|e_ a).1.segs l.next) 0)<=g) /\
   ((l.notes d (e_ a)).1.failed=0->∀k s:Nat,(l.notes d (e_ a)).1.segs[k]?=some s->∃r rs,(l.notes d (e_ a)).1.recs=r::rs/\r.oq<=s/\s-r.oq<(l.notes d (e_ a)).1.recs.length)) :
  CallsIn Fence.wide N prog 143 #[.pointer<|some ⟨gp,0,none⟩,.func (.func gf) #[] lb] w (jQ B lp p bD bN (n+3*(a.length+2)+2+g) (l.kc d<|a.map wQ) w):=by
 have an:Fence.wide.round=none:=rfl;have h1:1<=N:=bL;have bh:Fence.wide.fn 88:=trivial;have dz:Fence.wide.fn 148:=trivial;have fo:Fence.wide.fn 90:=trivial;have O:Fence.wide.fn gf:=trivial;obtain⟨y,D⟩:∃y,y=(w.alloc<|.cells #[.pointer<|some ⟨gp,0,none⟩] 117).alloc (.cells #[.nilIface] 82):=⟨_,rfl⟩;have iH:Fr [] w y:=by rw[D];exact((lT w).alloc _).alloc _
 have xk:y.heap.size=w.heap.size+2:=by rw[D];simp
 have r0:y.heap[w.heap.size]?=some (.cells #[.pointer<|some ⟨gp,0,none⟩] 117 (0,0)):=by rw[D,zzf _ _ w.heap.size bR];exact heap_alloc_new w _
 have r1:y.heap[w.heap.size+1]?=some (.cells #[.nilIface] 82 (0,0)):=by
  rw[D];have:=heap_alloc_new (w.alloc<|.cells #[.pointer<|some ⟨gp,0,none⟩] 117)<|.cells #[.nilIface] 82
  rwa [zzv]at this
 have a7:vx w y B gp lp p bD bN n l d []:=by
  have h0:vx w w B gp lp p bD bN n l d []:=⟨⟨pv,sv,rv,nD,nN,h⟩,hg,h.uT<|lT w,tj,aH,λx hx=>by cases hx⟩;exact h0.bk (Bk.fr (n:=w.heap.size) iH)<|zzc _
 have S4:=(callsIn_wide (n:=N-1)).2 (vQ B lp p bD bN n nD nN 254 pv sv rv l d ByteArray.empty y (h.new iH) bL bL u lN a7.lh);have cg:=ay a7.ju 0;have c0:=ay r0 0;simp at cg c0;have HS:=af<|zzb lN<|zzb al<|zzb hI nc;have HC:=af hcut;have HK:=af a7;clear a7 h hg iH lN al hI nc hcut aH;rw[D]at c0 cg;refine callsIn_of_wp_marks func143 rfl trivial ?_ an;simp only[ntmps143,mB,zzr,mH,Nat.reduceAdd,Nat.reduceSub,mK,mL,nb,nU,n5,qC]
 gi_wp2_with fail;rw[<-D];refine S4.mono ?_;clear S4 D c0 cg;rintro e v ⟨rfl,Y,eE⟩;have⟨pD,F⟩:=HK.out.log eE Y u;have s0:=F.same _ _ r0 rfl;have j:=F.same _ _ r1 rfl;have a1:=F.size;have G:fM l d []=((l.append d 254 ByteArray.empty).1,(l.append d 254 ByteArray.empty).2.1,(l.append d 254 ByteArray.empty).2.2.2):=vw l d 254 ByteArray.empty;by_cases X:(l.append d 254 ByteArray.empty).2.2.2=0
 .have zC:=E7 X;have i:Hid (vx w v B gp lp p bD bN (n+3) (fM l d []).1 (fM l d []).2.1 []/\(fM l d []).2.2=0/\(fM l d []).1.segs≠[]/\y.heap.size<=v.heap.size):=⟨by rw[G];exact pD,by rw[G];exact X,by rw[G];exact Bh HS.1 X,a1⟩;have HB:=af<|zzb s0 j;rw[zC,X,bK];clear pD F s0 j r0 r1 Y eE a1 G zC X
  gi_wp2;refine oP [w.heap.size+1] (λk hk=>by have:=i.2.2.2;simp at hk;omega) an h1 (gf:=gf) (lb:=lb) rfl O eg
   (encs:=λx:Nat×ByteArray=>#[.int .u8 (x.1:Int),.string x.2]) (rs:=a) (Inv:=Inv) (λ_=>rfl)
   (λWx dQ aI ao S RG hJ hS yI yJ hY h0=>HS.2.2.2 _ _ Wx (λk hk=>by have:=i.2.2.2;simp at hk;omega) (RG _ _ _ h0) ao S RG hJ hS yI yJ hY h0)
   (λps b A=>CkJ w A B gp lp p bD bN n l d ps b) (λb A=>CkS w A B gp lp p bD bN n l d b)
   (λq A B hs hz hb=>⟨hs.1.bk hb<|by have:=i.2.2.2;omega,hs.2.1,hb.block _ _ hs.2.2<|.inl rfl⟩)
   ⟨i.1,i.2.1,i.2.2.1,HB.1,HB.2⟩
   (λps q A hs=>HS.2.2.1 A hs.1.fr)
   (λps q A B hs hz hb=>⟨hs.1.bk hb<|by have:=i.2.2.2;omega,hs.2.1,hs.2.2.1,hb.block _ _ hs.2.2.2.1<|.inl rfl,hb.block _ _ hs.2.2.2.2<|.inl rfl⟩)
   (λps q A B g c t hs hz hf hg u=>⟨hs.1.pin hf hg u,hs.2.1,hs.2.2.1,(hf.block _ (zza.1 hs.2.2.2.1).1 bR).trans hs.2.2.2.1,(hf.block _ (zza.1 hs.2.2.2.2).1 bR).trans hs.2.2.2.2⟩)
   (λps q A hs x hx=>(hs.1.pins x hx).1)
   (λx a' A=>a'={tmps:=#[.pointer<|some ⟨gp,0,none⟩,.func (.func gf) #[] lb,.pointer<|some ⟨w.heap.size,0,none⟩,undef,.pointer<|some ⟨w.heap.size+1,0,none⟩,.int .u64 (l.next:Int),.nilIface,.int .u8 (x.1:Int),.string x.2,undef,undef,.tuple #[.int .u64 (l.next:Int),.nilIface],.pointer<|some ⟨gp,0,none⟩,.pointer<|some ⟨gp,0,none⟩,.pointer<|some ⟨gp,0,none⟩,.pointer<|some ⟨lp,0,none⟩,.tuple #[.int .u64 (l.next:Int),.nilIface],.int .u64 (l.next:Int),.nilIface,.nilIface,.bool false,undef,.func (.func gf) #[] lb,.int .u8 (x.1:Int),.string x.2,undef,undef,undef,undef,undef,undef,undef,undef,undef,undef,undef,undef,undef,undef,undef,undef,undef,undef,undef],defers:=[]})
   (λx a' A r hs=>hs)
   ?assign ?body ?done ?stop
  case assign=>
   have jE:=@Oper.semAt_some;rintro ps b x A aE hI rh Z K;gi_wp2;exact K _ _ (Bk.refl _ _) (nk.refl _) rfl
  case body=>
   have jE:=@Oper.semAt_some;rintro ps b x a' A ⟨bG,qM,LK,b0,b1⟩ rh rfl Z;have J7:x∈a:=Z.subset (by simp);have eG:=HS.2.1 x J7;have il:b.length+1<=a.length:=by simpa using Z.length_le
   have v0:=ay b0 0;simp at v0;have⟨j9,qc,m_,lC,lu,Y⟩:=bG.lg;have R:=(callsIn_wide (n:=N-1-1-1)).2 (qi B gp lp p bD bN (n+3+3*b.length) lC lu (x.1+128) j9 qc m_ _ _ x.2 A bG.ju Y bL bL u (λ_=>LK) bG.lh);rw[<-vy qM]at R;have h3:1<=N-1-1:=bL
   have M_:bits .or .u8 (x.1:Int) 128=((x.1+128:Nat):Int):=aaS ⟨x.1,bL⟩
   have HA:Hid (∀f,(∃pv sv rv nD nN,aA f B lp p bD bN pv sv rv (fM l d<|b++[x]).1 (fM l d<|b++[x]).2.1 (n+3+3*b.length+3) nD nN)->ku lp p A f->vx w f B gp lp p bD bN (n+3+3*(b++[x]).length) (fM l d<|b++[x]).1 (fM l d<|b++[x]).2.1 ps/\f.heap[w.heap.size]?=some (.cells #[.pointer<|some ⟨gp,0,none⟩] 117 (0,0))/\f.heap[w.heap.size+1]?=some (.cells #[.nilIface] 82 (0,0))/\nk A f):=λf h3 ho=>by
    have⟨k1,k2⟩:=bG.log ho h3 u;refine⟨?_,k2.same _ _ b0 rfl,k2.same _ _ b1 rfl,k2⟩;rw[zzi,List.length_singleton,Nat.mul_add,<-Nat.add_assoc];exact k1
   have HG:=af<|zzb qM LK;clear bG b0 b1 Y qM LK
   gi_wp2_with fail;refine R.mono ?_;clear R;rintro e f ⟨rfl,qg,pN⟩;have C:=af<|HA.out f qg pN;clear HA qg pN;by_cases Q:(fM l d<|b++[x]).2.2=0
   .have HF:=af Q;rw[Q,bK];clear Q;gi_wp2;refine⟨⟨C.1,HF.out,?_,C.2.1,C.2.2.1⟩,C.2.2.2⟩;rw[vy HG.1];have:=HF.out;rw[vy HG.1]at this;exact Bh (λ_=>HG.2) this
   .have j:=C.2.2.1;have P:=ay j 0;have y1:=aj j 0;simp at P;have⟨W,H⟩:∃W,W=f.setCell ⟨w.heap.size+1,0,none⟩ (cf (fM l d<|b++[x]).2.2):=⟨_,rfl⟩;have I:Fr [w.heap.size+1] f W:=by rw[H];exact Fr.cD bR _ _
    have z:W.heap[w.heap.size+1]?=some (.cells #[cf (fM l d<|b++[x]).2.2] 82 (0,0)):=by rw[H];simpa using ar j 0<|cf (fM l d<|b++[x]).2.2
    have T:Hid (vx w W B gp lp p bD bN (n+3+3*(b++[x]).length) (fM l d<|b++[x]).1 (fM l d<|b++[x]).2.1 []/\(fM l d<|b++[x]).2.2≠0/\W.heap[w.heap.size+1]?=some (.cells #[cf (fM l d<|b++[x]).2.2] 82 (0,0))/\E4 [w.heap.size+1] A W):=by
     refine⟨C.1.J6.box I j bL rfl,Q,z,?_⟩;have hk:=C.2.2.2;refine⟨zzk hk.size I.size,λk o F tP L=>?_⟩;have:=hk.same k o tP L;exact(I.block k (zza.1 this).1 F).trans this
    clear I z j C HG;rw[aG Q]at H ⊢;gi_wp2;rw[<-H];exact⟨⟨T.1,T.2.1,T.2.2.1⟩,T.2.2.2⟩
  case done=>
   rintro ps A ⟨bG,qM,LK,b0,b1⟩ rh K;have v0:=ay b0 0;simp at v0;have⟨j9,qc,m_,lC,lu,Y⟩:=bG.lg;have R:=(callsIn_wide (n:=N-1)).2 (qi B gp lp p bD bN (n+3+3*a.length) lC lu 255 j9 qc m_ _ _ ByteArray.empty A bG.ju Y bL bL u (λ_=>LK) bG.lh);rw[<-PF qM]at R;have U:=af<|zzb bG.J6<|zzb b0<|zzb b1 K;clear bG b0 b1 K Y qM LK
   gi_wp2_with fail;refine R.mono ?_;clear R v0;rintro e f ⟨rfl,qg,pN⟩;have⟨J,L⟩:=U.1.log pN qg u;have t0:=L.same _ _ U.2.1 rfl;have M:=L.same _ _ U.2.2.1 rfl;have t2:=L.same _ _ U.2.2.2 rfl;by_cases Q:(l.notes d<|e_ a).2.2=0
   .have v3:=ay t0 0;have UJ:=ay J.ju 0;simp at v3 UJ;have⟨g1,g2,g3,g4⟩:=HC.out Q;have⟨UR,az,aw,US,Sx,ad⟩:=J.lg;have aa:=(callsIn_wide (n:=N-1)).2 (OV g B lp p bD bN (n+3+3*a.length+3) US Sx l.next UR az aw _ _ f ad bL u J.lh g1 g3 g4);rw[<-E8 Q]at aa;have H3:=af<|zzb J<|zzb M t2;rw[Q,bK];clear J qg pN L t0 M t2 U ad Q g1 g2 g3 g4
    gi_wp2_with fail;refine aa.mono ?_;clear aa v3 UJ;rintro e W4 ⟨rfl,iZ,kq⟩;have⟨k4,ab⟩:=H3.1.log kq iZ u;have u1:=ab.same _ _ H3.2.1 rfl;have u2:=ab.same _ _ H3.2.2 rfl;have P:=ay u1 0;have y1:=aj u1 0;simp at P;obtain⟨W,H⟩:∃W,W=W4.setCell ⟨w.heap.size+1,0,none⟩ (cf (l.kc d<|a.map wQ).2.2):=⟨_,rfl⟩;have O:Fr [w.heap.size+1] W4 W:=by rw[H];exact Fr.cD bR _ _
    have z:W.heap[w.heap.size+1]?=some (.cells #[cf (l.kc d<|a.map wQ).2.2] 82 (0,0)):=by rw[H];have:=ar u1 0<|cf (l.kc d<|a.map wQ).2.2;simpa using this
    have a1:=i.2.2.2;have a6:W.heap[v.heap.size]?=some (.deferred<|some []):=(O.block _ (zza.1 u2).1 cE).trans u2;have H5:=af (k4.box O u1 bL rfl);clear k4 ab u1 u2 O iZ kq;have av:cf (l.kc d<|a.map wQ).2.2=.nilIface\/∃x,cf (l.kc d<|a.map wQ).2.2=.iface 44 x:=(Decidable.em<|(l.kc d<|a.map wQ).2.2=0).elim (λh=>.inl<|by rw[h];rfl) λh=>.inr<|Sj h;obtain hE|⟨ex,hE⟩:=av
    all_goals
     (rw[hE]at H ⊢
      gi_wp2;rw[<-H];clear H;refine⟨bR,.inl ⟨_,_,rfl,run_takeDeferred a6,?_⟩⟩;have nJ:(W.putObj v.heap.size<|.deferred none).heap[w.heap.size+1]?=some (.cells #[cf (l.kc d<|a.map wQ).2.2] 82 (0,0)):=(World.putObj_heap_other bL).trans z;have m:=ay nJ 0;simp at m;have V:=H5.out.bk (Bk.put a6 rfl (zzc _)<|.deferred none) bL;refine⟨cf (l.kc d<|a.map wQ).2.2,?_,rfl,(V.wide (n':=n+3*(a.length+2)+2+g) bL bL).lg,V.fr⟩;simp only[results,f143]
      simp[go_sem,m])
   .have P:=ay M 0;have y1:=aj M 0;simp at P;have⟨W,H⟩:∃W,W=f.setCell ⟨w.heap.size+1,0,none⟩ (cf (l.notes d<|e_ a).2.2):=⟨_,rfl⟩;have O:Fr [w.heap.size+1] f W:=by rw[H];exact Fr.cD bR _ _
    have z:W.heap[w.heap.size+1]?=some (.cells #[cf (l.notes d<|e_ a).2.2] 82 (0,0)):=by rw[H];simpa using ar M 0<|cf (l.notes d<|e_ a).2.2
    have a1:=i.2.2.2;have a6:W.heap[v.heap.size]?=some (.deferred<|some []):=(O.block _ (zza.1 t2).1 cE).trans t2;have H5:=af (J.box O M bL rfl);have HZ:=af Q;clear J L t0 M t2 O qg pN U;rw[aG Q]at H ⊢;gi_wp2;rw[<-H];clear H;refine⟨bR,.inl ⟨_,_,rfl,run_takeDeferred a6,?_⟩⟩;have nJ:(W.putObj v.heap.size<|.deferred none).heap[w.heap.size+1]?=some (.cells #[cf (l.notes d<|e_ a).2.2] 82 (0,0)):=(World.putObj_heap_other bL).trans z;have m:=ay nJ 0;simp at m;have V:=H5.out.bk (Bk.put a6 rfl (zzc _)<|.deferred none) bL;rw[Tc HZ.out];refine⟨cf (l.notes d<|e_ a).2.2,?_,rfl,(V.wide (n':=n+3*(a.length+2)+2+g) bL bL).lg,V.fr⟩;simp only[results,f143];simp[go_sem,m]
  case stop=>
   rintro b A Z ⟨bG,qM,b1⟩ rh K;have a1:=i.2.2.2;have il:=Z.length_le;refine⟨bR,.inl ⟨_,_,rfl,run_takeDeferred K,?_⟩⟩;have nJ:(A.putObj v.heap.size<|.deferred none).heap[w.heap.size+1]?=some (.cells #[cf (fM l d b).2.2] 82 (0,0)):=(World.putObj_heap_other (by omega)).trans b1;have m:=ay nJ 0;simp at m;have V:=bG.bk (Bk.put K rfl (zzc _)<|.deferred none) bL;rw[Bi Z qM];refine⟨cf (fM l d b).2.2,?_,rfl,(V.wide (n':=n+3*(a.length+2)+2+g) bL bL).lg,V.fr⟩;simp only[results,f143];simp[go_sem,m]
 .have i:Hid (vx w v B gp lp p bD bN (n+3) (fM l d []).1 (fM l d []).2.1 []/\(fM l d []).2.2≠0):=⟨by rw[G];exact pD,by rw[G];exact X⟩;have P:=ay j 0;have y1:=aj j 0;simp at P;have⟨W,H⟩:∃W,W=v.setCell ⟨w.heap.size+1,0,none⟩ (cf (l.append d 254 ByteArray.empty).2.2.2):=⟨_,rfl⟩;have I:Fr [w.heap.size+1] v W:=by rw[H];exact Fr.cD bR _ _
  have z:W.heap[w.heap.size+1]?=some (.cells #[cf (l.append d 254 ByteArray.empty).2.2.2] 82 (0,0)):=by rw[H];simpa using ar j 0<|cf (l.append d 254 ByteArray.empty).2.2.2
  have T:Hid (vx w W B gp lp p bD bN (n+3) (fM l d []).1 (fM l d []).2.1 []/\W.heap[w.heap.size+1]?=some (.cells #[cf (fM l d []).2.2] 82 (0,0))):=⟨i.1.box I j bL rfl,by rw[G];exact z⟩;clear pD F s0 j r0 r1 Y eE a1 I z;rw[aG X]at H ⊢
  gi_wp2;rw[<-H];have m:=ay T.2 0;simp at m;rw[Bi (List.nil_prefix) i.2];refine⟨cf (fM l d []).2.2,?_,rfl,(T.1.wide (n':=n+3*(a.length+2)+2+g) bL bL).lg,T.1.fr⟩;simp only[results,f143];simp[go_sem,m]
end
end Go.Proofs.YtcalalndmcemiaaGreatDoor
