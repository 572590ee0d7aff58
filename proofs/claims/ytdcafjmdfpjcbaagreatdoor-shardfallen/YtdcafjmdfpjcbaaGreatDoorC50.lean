import Derived.Test.YtdcafjmdfpjcbaaGreatDoorC49
set_option maxHeartbeats 16000000
set_option maxRecDepth 100000
namespace Go.Proofs.YtdcafjmdfpjcbaaGreatDoor
open Go.RowKit Go.Maps Tryz Sc
variable{hu sk:Bool}{S S' us:List Nat}{cs:List aK}{cl:List cM}{E M b bN hp k m0 n p q rp t:Nat}{w:World}{R R':aK}{s:ag}{d:ah}{l:aq}
/-! ### Xx -/
structure V4(R R':aK)(t:Nat):Prop where
 rest:R'.rest=R.rest
 table:R'.table=R.table
 nS:R'.nS<=R.nS+1
 af:∀y∈R'.af,y∈R.af\/(y.id=t/\R.state t≠3)
theorem V4.refl(R:aK)(t:Nat):V4 R R t:=⟨rfl,rfl,zzC _,λ_ h=>.inl h⟩
theorem KT{xs:List a_}{y:a_}(h:y∈began xs t):y∈xs\/y.id=t:=by
 unfold began at h;split at h
 .grind
 .unfold ins at h;obtain h|h:=zzo.1 h
  .exact .inl<|(List.takeWhile_sublist _).mem h
  .rcases zzj.1 h with rfl|h
   .grind
   .exact .inl<|(List.dropWhile_sublist _).mem h
theorem KV(h:Rel s R)(t:Nat)(seq:Int)(k:ByteArray)(wr:Bool){f:List aJ->List aJ}(g:∀l,(f l).length<=l.length+1):V4 R (R.op t seq k wr f).1 t:=by
 refine⟨VD h t seq k wr f,qY f,ZF h.jh g,λy a=>?_⟩;unfold aK.op at a;split at a
 .rename_i hr;have m:R.state t≠3:=λc=>by
   have⟨x,b,c⟩:=mZ c oE;exact((jQ hr).2.2.2.1 x b).1 c
  have e:(R.tx t).id=t:=by
   unfold aK.tx;cases b:aU R.af t with
   |none=>rfl
   |some x=>exact(aN b).2
  have d:∀z:a_,z.id=t->y∈fH (began R.af t) z->y∈R.af\/(y.id=t/\R.state t≠3):=λz i a=>by
   obtain rfl|⟨a,_⟩:=EP a
   .grind
   .grind [KT]
  split at a
  .exact d (R.tx t).dQ e a
  .exact d ((R.tx t).worked f) e a
 .grind
theorem V5(k:ByteArray)(s:List aJ):(dv k s).length<=s.length+1:=by grind
theorem Bz(l:aJ)(s:List aJ):(eJ s l).length<=s.length+1:=by grind[yr]
theorem V6(h:Rel s R)(t:Nat)(seq:Int)(k:ByteArray):V4 R (R.get t seq k).1 t:=by
 have a:=KV h t seq k false<|V5 k;unfold aK.get;split<;>exact a
theorem V7(h:Rel s R)(t:Nat)(seq:Int)(k v:ByteArray):V4 R (R.put t seq k v).1 t:=by grind[aK.put,V4.refl,KV,Bz]
theorem KW(h:Rel s R)(t:Nat)(seq:Int)(k:ByteArray):V4 R (R.delete t seq k).1 t:=KV h t seq k true λl=>Bz _ l
theorem fI.oper{I:ag}(h:fI k s l d cs R us sk hu M m0)(g:Gd (k+1) (20*k) I R')(o:V4 R R' t)(f:R.state t=0->t∉us):fI (k+1) I l d cs R' us sk hu M m0:=by
 have P:Vs R':=by have:=h.ck.vs;unfold Vs at this ⊢;rw[o.table];exact this
 refine h.still (g.mono (zzc _) oE) (g.ck P<|by have:=h.ck.nS;have:=o.nS;omega) o.rest (λc y a e=>?_) λh=>h;obtain a|⟨a,hn⟩:=o.af y a
 .exact(h.wd c).Ik y a e
 .rw[a];by_cases b:R.state t=0
  .exact f b
  .obtain⟨x,hx,hs⟩:=mZ rfl b;rw[<-(aN hx).2];exact(h.wd c).Ik x (aN hx).1 oE
/-! ### memory and host -/
structure KJ(b:Nat)(w:World)(hp p sp gp bV bT bH lp bD bN m n:Nat)(s:ag)(l:aq)(d:ah)(kp:Nat)(cv:Value)(sk hu:Bool)(uv:Value)(mm:cM)(cl:List cM)(us:List Nat):Prop where
 ka:KA b w hp p kp (some (lp,[sp,bV,bT,bH])) cv sk hu uv mm cl us
 host:kz w b hp p sp gp bV bT bH lp bD bN m n s l d
section
variable{b hp p sp gp bV bT bH lp bD bN m n m' n' kp:Nat}{s I:ag}{l l':aq}{d d':ah}{cv uv:Value}{sk hu:Bool}{mm:cM}{cl:List cM}{us:List Nat}{w w':World}
theorem KJ.km(h:KJ b w hp p sp gp bV bT bH lp bD bN m n s l d kp cv sk hu uv mm cl us):nR w b hp p bD bN (some (lp,[sp,bV,bT,bH])) d n:=.inl ⟨sp,gp,bV,bT,bH,lp,m,s,l,rfl,h.host⟩
theorem KJ.kb(h:KJ b w hp p sp gp bV bT bH lp bD bN m n s l d kp cv sk hu uv mm cl us):w.heap[kp]?=some (oQ hp mm.1 cv sk hu uv):=h.ka.mem.kb
theorem KJ.size(h:KJ b w hp p sp gp bV bT bH lp bD bN m n s l d kp cv sk hu uv mm cl us):b<=w.heap.size:=h.ka.mem.size
theorem KJ.new(h:KJ b w hp p sp gp bV bT bH lp bD bN m n s l d kp cv sk hu uv mm cl us)(f:Fr [] w w'):KJ b w' hp p sp gp bV bT bH lp bD bN m n s l d kp cv sk hu uv mm cl us:=⟨h.ka.new h.km f,(h.host.new f).1⟩
theorem KJ.sfr(h:KJ b w hp p sp gp bV bT bH lp bD bN m n s l d kp cv sk hu uv mm cl us)(a:kz w' b hp p sp gp bV bT bH lp bD bN m' n' I l' d')(f:lH sp bV bT bH lp p w w'):KJ b w' hp p sp gp bV bT bH lp bD bN m' n' I l' d' kp cv sk hu uv mm cl us:=⟨h.ka.host h.km f.sL,a⟩
theorem KJ.kfs(h:KJ b w hp p sp gp bV bT bH lp bD bN m n s l d kp cv sk hu uv mm cl us)(L:b<=hp)(f:lH sp bV bT bH lp p w w'):KF b w w':=KF.sL h.km L f.sL
theorem jV.one(h:jV b w hp kp cv sk hu uv mm cl us):∀x∈cl,x.1=mm.1->x=mm:=λx c e=>by
 obtain a|a:=(zzA.1 h.apart).1 x c
 .grind
 .have h1:=(h.each mm sE).mem;have d:=(h.each x<|by simp[c]).mem;rw[e]at d;exact absurd d<|a _ h1
theorem Tp{q:Nat}{x:cM}(h:∀y∈cl,y.1=q->y=x):(cl.map λy=>if y.1=q then x else y)=cl:=by
 have:(cl.map λy=>if y.1=q then x else y)=cl.map id:=by
  apply List.map_congr_left;intro y a;show(if y.1=q then x else y)=y;split
  .grind
  .rfl
 rw[this,List.map_id]
end
def Dx(b:Nat)(w:World)(hp p sp gp bV bT bH lp bD bN m n:Nat)(s:ag)(l:aq)(d:ah)(kp:Nat)(cv:Value)(sk hu:Bool)(uv:Value)(E:Nat)(R':aK)(cl:List cM)(us:List Nat):Prop :=
 ∃S',KJ b w hp p sp gp bV bT bH lp bD bN m n s l d kp cv sk hu uv (E,R',S') (cl.map λx=>if x.1=E then (E,R',S') else x) us
section
variable{b hp p sp gp bV bT bH lp bD bN m n m' n' kp E:Nat}{s I:ag}{l l':aq}{d d':ah}{cv uv:Value}{sk hu:Bool}{mm:cM}{cl:List cM}{us:List Nat}{w w':World}{R R':aK}{S:List Nat}
theorem Dx.kb(h:Dx b w hp p sp gp bV bT bH lp bD bN m n s l d kp cv sk hu uv E R' cl us):w.heap[kp]?=some (oQ hp E cv sk hu uv):=by
 have⟨S',h⟩:=h;exact h.kb
theorem Dx.sfr(h:Dx b w hp p sp gp bV bT bH lp bD bN m n s l d kp cv sk hu uv E R' cl us)(a:kz w' b hp p sp gp bV bT bH lp bD bN m' n' I l' d')(f:lH sp bV bT bH lp p w w'):Dx b w' hp p sp gp bV bT bH lp bD bN m' n' I l' d' kp cv sk hu uv E R' cl us:=by
 have⟨S',h⟩:=h;exact⟨S',h.sfr a f⟩
theorem KJ.tt(h:KJ b w hp p sp gp bV bT bH lp bD bN m n s l d kp cv sk hu uv (E,R,S) cl us):Dx b w hp p sp gp bV bT bH lp bD bN m n s l d kp cv sk hu uv E R cl us:=by
 refine⟨S,?_⟩;rw[Tp λy a e=>h.ka.mem.one y a e];exact h
theorem KJ.gR(h:KJ b w hp p sp gp bV bT bH lp bD bN m n s l d kp cv sk hu uv (E,R,S) cl us)(i:pS b E S w w' R'):Dx b w' hp p sp gp bV bT bH lp bD bN m n s l d kp cv sk hu uv E R' cl us/\KF b w w':=by
 have⟨S',q,v,j⟩:=h.ka.mem.gR i;have r:=h.ka.mem.each (E,R,S) sE;have e:oh b [] w w':=oh.dJ h.size j (λk a=>by
  have⟨U,c,t,u,g⟩:=r.cells a;refine⟨U,.inr λo f=>?_⟩;rw[u]at f
  cases f;obtain rfl|rfl|rfl:=g<;>rfl)
 exact⟨⟨S',h.ka.law h.km q e,(h.host.jA e λk a=>by cases a).1⟩,KF.KO e λk a=>by cases a⟩
theorem Dx.gR{R:aK}{S':List Nat}(h:KJ b w hp p sp gp bV bT bH lp bD bN m n s l d kp cv sk hu uv (E,R',S') (cl.map λx=>if x.1=E then (E,R',S')else x) us)(c:pS b E S' w w' R):Dx b w' hp p sp gp bV bT bH lp bD bN m n s l d kp cv sk hu uv E R cl us/\KF b w w':=by
 have⟨⟨S,k⟩,a⟩:=h.gR c;refine⟨⟨S,?_⟩,a⟩;have e:((cl.map λx=>if x.1=E then ((E,R',S'):cM)else x).map λx=>if x.1=E then ((E,R,S):cM)else x)=cl.map λx=>if x.1=E then ((E,R,S):cM)else x:=by
  rw[List.map_map];apply List.map_congr_left;intro x _;show(if (if x.1=E then ((E,R',S'):cM)else x).1=E then ((E,R,S):cM)else (if x.1=E then ((E,R',S'):cM)else x))=_;by_cases e:x.1=E
  .simp[e]
  .simp[e]
 rw[e]at k;exact k
theorem Dx.host(h:Dx b w hp p sp gp bV bT bH lp bD bN m n s l d kp cv sk hu uv E R' cl us):kz w b hp p sp gp bV bT bH lp bD bN m n s l d:=by
 have⟨S',h⟩:=h;exact h.host
end
def BA(b:Nat)(a w:World)(hp p bD kp k:Nat):Prop :=
 ∃so cv sk hu uv m cl us M m0,KA b w hp p kp so cv sk hu uv m cl us/\ny w b hp p bD so k (cl.map (·.2.1)) m.2.1 us sk hu M m0/\KF b a w
theorem KX(d:∀x∈cl,x.1=E->x=(E,R,S))(r:R'.rest=R.rest)(c:Ck k R')(s:∀Q∈cl.map (·.2.1),Ck k Q):Alike k (cl.map (·.2.1)) ((cl.map λx=>if x.1=E then ((E,R',S'):cM)else x).map (·.2.1)) where
 len:=sE;fwd:=λb h=>by
  rw[List.map_map]at h;obtain⟨x,a,rfl⟩:=zzq.1 h;refine⟨x.2.1,zzq.2 ⟨x,a,rfl⟩,?_⟩;show(if x.1=E then ((E,R',S'):cM)else x).2.1.rest=_;split
  .grind
  .rfl
 bck:=λQ h=>by
  obtain⟨x,a,rfl⟩:=zzq.1 h;refine⟨(if x.1=E then ((E,R',S'):cM)else x).2.1,?_,?_⟩
  .grind
  .grind
 EO:=λb h=>by
  rw[List.map_map]at h;obtain⟨x,a,rfl⟩:=zzq.1 h;show Ck k (if x.1=E then ((E,R',S'):cM)else x).2.1;split
  .exact c
  .grind
theorem Dx.iF{sp gp bV bT bH lp bD m kp:Nat}{cv uv:Value}{a:World}(h:Dx b w hp p sp gp bV bT bH lp bD bN m n s l d kp cv sk hu uv E R' cl us)(c:∀x∈cl,x.1=E->x=(E,R,S))(r:R'.rest=R.rest)(o:fI k s l d (cl.map (·.2.1)) R' us sk hu M m0)(hn:n<=nK k M m0)(e:k<=16384)(f:KF b a w):BA b a w hp p bD kp k:=by
 have⟨S',h⟩:=h;exact⟨_,_,_,_,_,_,_,_,M,m0,h.ka,(o.alike<|KX c r o.ck o.EO).host h.host hn e,f⟩
structure KN(b:Nat)(w0 w:World)(hp p kp bx:Nat)(so:Option (Nat × List Nat))(cv:Value)(sk hu:Bool)(uv:Value)(m:cM)(cl:List cM)(us:List Nat)(c:cM)(iF:Array Value):Prop where
 ka:KA b w hp p kp so cv sk hu uv m cl us
 ref:lC b w c.1 c.2.1 c.2.2
 dis:∀x∈m :: cl,∀k∈x.2.2,k∉c.2.2
 kf:KF b w0 w
 gl:Gl w
 st:w.heap[bx]?=some (.cells iF 40 (0,0))
theorem lC.sL{h:Nat}{w':World}{so E:Option (Nat×List Nat)}(l:lC b w rp R S)(j:nR w q hp p h bN so d n)(f:lA hp p so E w w'):lC b w' rp R S:=by
 have⟨T,i,r⟩:=EJ w.heap.size λk=>jL hp p so w k
 have ie:Fr T w w':=⟨f.os,f.tape,f.output,f.size,λk a hn=>f.block k a λo=>hn<|r k a o⟩;refine l.v_ ie (λk a m=>?_) λk m c t g e=>?_
 .obtain⟨_,c,t,g,ht⟩:=l.cells a;have o:=i k m;obtain rfl|rfl|rfl:=ht<;>exact j.free g dN dN dN dN dN dN dN o
 .subst e;exact j.free g dN dN dN dN dN dN dN<|i k m
section
variable{b hp p h bN n kp bx k M m0:Nat}{w0 w w':World}{so E:Option (Nat × List Nat)}{d:ah}{cv uv:Value}{sk hu:Bool}{m:cM}{cl:List cM}{us:List Nat}{c:cM}{iF:Array Value}{R I:aK}{U:List Nat}
theorem KN.new(a:KN b w0 w hp p kp bx so cv sk hu uv m cl us c iF)(E:nR w b hp p h bN so d n)(f:Fr [] w w')(B:3<=b):KN b w0 w' hp p kp bx so cv sk hu uv m cl us c iF:=by
 have e:=KF.new a.ka.mem.size f;exact⟨a.ka.new E f,a.ref.v_ f (λk _ e=>by cases e) (λk e=>by cases e),a.dis,a.kf.trans e,e.gl B a.gl,e.step _ _ a.st⟩
theorem KN.host(a:KN b w0 w hp p kp bx so cv sk hu uv m cl us c iF)(e:nR w b hp p h bN so d n)(f:lA hp p so E w w')(B:3<=b)(L:b<=hp):KN b w0 w' hp p kp bx E cv sk hu uv m cl us c iF:=by
 have k:=KF.sL e L f;exact⟨a.ka.host e f,a.ref.sL e f,a.dis,a.kf.trans k,k.gl B a.gl,k.step _ _ a.st⟩
theorem jV.aside(h:jV b w hp kp cv sk hu uv m cl us)(l:lC b w c.1 c.2.1 c.2.2)(o:∀x∈m::cl,∀k∈x.2.2,k∉c.2.2)(f:Fr c.2.2 w w'):jV b w' hp kp cv sk hu uv m cl us:=by
 have g:∀{q:Nat} {a:Array Value} {t:TypeId},w.heap[q]?=some (.cells a t (0,0))->t≠47->t≠92->t≠134->q∉c.2.2:=λ{q a t} d s p r e=>by
  have⟨_,c2,u,P,n⟩:=l.cells e;rw[d]at P;cases P;obtain rfl|rfl|rfl:=n
  .grind
  .grind
  .grind
 refine⟨h.low,(f.block kp (zza.1 h.kb).1<|g h.kb dN dN dN).trans h.kb,λx j=>(h.each x j).v_ f (o x j) l.kinds,?_,h.apart,?_⟩
 .exact av h.iW f λq d e=>by have⟨a,i⟩:=aF h.iW d;exact g i dN dN dN e
 .exact av h.used f λq d e=>by have⟨a,i⟩:=aF h.used d;exact g i dN dN dN e
theorem lC.KO{rp:Nat}{S:List Nat}(h:lC b w rp R S)(f:Fr S w w')(s:b<=w.heap.size):oh b [] w w':=oh.dJ s f (λk g=>by
 have⟨U,c,t,e,d⟩:=h.cells g;refine⟨U,.inr λo a=>?_⟩;rw[e]at a
 cases a;obtain rfl|rfl|rfl:=d<;>rfl)
theorem KN.gR(a:KN b w0 w hp p kp bx so cv sk hu uv m cl us c iF)(E:nR w b hp p h bN so d n)(o:pS b c.1 c.2.2 w w' I)(B:3<=b):∃S',KN b w0 w' hp p kp bx so cv sk hu uv m cl us (c.1,I,S') iF/\oh b [] w w':=by
 have⟨S',j,i,q⟩:=o;have l:=a.ref.KO i a.ka.mem.size;have f:KF b w w':=KF.KO l (λk f=>by cases f);refine⟨S',⟨a.ka.law E (a.ka.mem.aside a.ref a.dis i) l,j,λx g k f T=>?_,a.kf.trans f,f.gl B a.gl,f.step _ _ a.st⟩,l⟩;obtain e|e:=q k T
 .exact a.dis x g k f e
 .have:=(a.ka.mem.each x g).lt f;omega
theorem KN.apt(h:KN b w0 w hp p kp bx so cv sk hu uv m cl us c iF):∀y∈cl,S5 c y:=λy a=>.inr λk d T=>h.dis y (by simp[a]) k T d
theorem KN.OM(a:KN b w0 w hp p kp bx so cv sk hu uv m cl us c iF)(o:ny w b hp p h so k (cl.map (·.2.1)) c.2.1 us sk hu M m0):BA b w0 (w.setCell (d8 kp 1) (rM c.1)) hp p h kp k:=by
 obtain⟨bN,d,E,_⟩:=o.km;have l:=a.ka.mem.pH [] 1 (.pointer (some ⟨c.1,0,none⟩));exact⟨so,cv,sk,hu,uv,c,cl,us,M,m0,a.ka.law E (a.ka.mem.OM a.ref a.apt) l,o.jA l (λk e=>by cases e),a.kf.trans (KF.KO l (λk e=>by cases e))⟩
theorem KN.stands(a:KN b w0 w hp p kp bx so cv sk hu uv m cl us c iF)(o:ny w b hp p h so k (cl.map (·.2.1)) m.2.1 us sk hu M m0):BA b w0 w hp p h kp k:=⟨so,cv,sk,hu,uv,m,cl,us,M,m0,a.ka,o,a.kf⟩
end
def aeg(b:Nat)(w0 w:World)(hp p h kp k:Nat):Prop :=
 ∃cv hu uv m cl us M m0,KA b w hp p kp none cv true hu uv m cl us/\ZI w b hp p h k (cl.map (·.2.1)) us M m0/\KF b w0 w
def TK(b:Nat)(w0 w:World)(hp p h kp k:Nat):Prop:=BA b w0 w hp p h kp k\/aeg b w0 w hp p h kp k
def MG(w:World)(B hp p h:Nat)(so E:Option (Nat × List Nat))(k:Nat)(cs J:List aK)(R I:aK)(us':List Nat)(sk hu:Bool)(m0 x:Nat):Prop :=
 (x=0/\hu=false/\E=so/\∃M,ny w B hp p h E (k+1) J I us' sk false M m0) \/
 (sk=true/\x=9/\E=so/\∃M,ny w B hp p h E (k+1) (if hu then cs else cs++[I]) R us' true true M m0) \/
 (sk=true/\x=10/\E=none/\∃M,ZI w B hp p h (k+1) (if hu then cs else cs++[I]) us' M m0)
section
variable{b hp p h kp bx k m0 x:Nat}{w0 w w':World}{so E:Option (Nat × List Nat)}{cv uv:Value}{sk hu:Bool}{m:cM}{cl:List cM}{us:List Nat}{c:cM}{iF:Array Value}{R I:aK}{cs J:List aK}{U:List Nat}
theorem ZK.two(f:ZK w w' b hp p h so k cs J R I us sk hu m0 x):∃E,MG w' b hp p h so E k cs J R I us sk hu m0 x/\lA hp p so E w w':=by
 rcases f with⟨c,d,M,e,a⟩|⟨c,d,M,e,a⟩|⟨c,d,M,e,a⟩
 .exact⟨so,.inl ⟨c,d,rfl,M,e⟩,a⟩
 .exact⟨so,.inr<|.inl ⟨c,d,rfl,M,e⟩,a⟩
 .exact⟨none,.inr<|.inr ⟨c,d,rfl,M,e⟩,a⟩
theorem MG.km(f:MG w b hp p h so E k cs J R I us sk hu m0 x):∃bN d n,nR w b hp p h bN E d n:=by
 rcases f with⟨c,e,rfl,M,a⟩|⟨c,e,rfl,M,a⟩|⟨c,e,rfl,M,a⟩
 .obtain⟨bN,d,hE,_⟩:=a.km;exact⟨bN,d,_,hE⟩
 .obtain⟨bN,d,hE,_⟩:=a.km;exact⟨bN,d,_,hE⟩
 .obtain⟨bN,d,hc,_⟩:=a;exact⟨bN,d,_,.inr ⟨rfl,hc⟩⟩
theorem ZI.jA{cs:List aK}{M:Nat}(e:ZI w b hp p h k cs us M m0){a:Nat}(f:oh a U w w')(i:∀k∈U,∃c,w.heap[k]?=some (.cells c 34 (0,0))):ZI w' b hp p h k cs us M m0:=by
 have⟨bN,d,j,g⟩:=e;exact⟨bN,d,(j.jA f i).1,g⟩
theorem MG.jA(l:MG w b hp p h so E k cs J R I us sk hu m0 x){j:Nat}(g:oh j U w w')(i:∀k∈U,¬jL hp p E w k/\∃c,w.heap[k]?=some (.cells c 34 (0,0))):MG w' b hp p h so E k cs J R I us sk hu m0 x:=by
 rcases l with⟨d,e,a,M,f⟩|⟨d,e,a,M,f⟩|⟨d,e,a,M,f⟩
 .exact .inl ⟨d,e,a,M,f.jA g i⟩
 .exact .inr<|.inl ⟨d,e,a,M,f.jA g i⟩
 .exact .inr<|.inr ⟨d,e,a,M,f.jA g λk m=>(i k m).2⟩
theorem MG.code(d:MG w b hp p h so E k cs J R I us sk hu m0 x):x=0/\hu=false\/(x=9\/x=10)/\sk=true:=by
 rcases d with⟨a,c,_⟩|⟨a,c,_⟩|⟨a,c,_⟩
 .grind
 .grind
 .grind
end
theorem kwr(b hp p h kp bx k m0 x:Nat)(w0 w:World)(so E:Option<|Nat×List Nat)(cv uv:Value)(sk hu forced:Bool)(m:cM)(cl:List cM)(us:List Nat)(c:cM)(iF:Array Value)(a:KN b w0 w hp p kp bx E cv sk hu uv m cl us c iF)
  (i:MG w b hp p h so E k (cl.map (·.2.1)) ((if forced then []else cl.map (·.2.1))++[c.2.1]) m.2.1 c.2.1 us sk hu m0 x) (u:Ck (k+1) c.2.1) (hn:cl.length<=1048576) (B:k<16384) :
  Calls prog 53 #[rM kp,rM c.1,.int .i64 (x:Int),.int .i64 0,.bool forced] w λe w'=>e=.returned (.bool true)/\TK b w0 w' hp p h kp (k+1):=by
 have⟨bN,d,n,r⟩:=i.km;have q:c.2.1.af.length<=1048576:=by have:=u.len;omega
 have s:∀y∈c.2.1.af,y.ak.length<=1000:=λy z=>by have:=u.four y z;omega
 have v:c.2.1.table.length<=1048576:=by have:=u.table;omega
 rcases i.code with⟨rfl,rfl⟩|⟨g,rfl⟩
 .refine(OO b hp kp 0 w cv uv sk forced m c cl us a.ka.mem a.ref a.apt q s v hn).mono ?_;rintro e w' ⟨he,cv',c',Pc,hK,hL⟩;refine⟨he,.inl ?_⟩;rcases i with⟨_,_,rfl,M,o⟩|⟨_,g,_⟩|⟨_,g,_⟩
  .refine⟨E,cv',sk,false,uv,c,_,us,M,m0,a.ka.law r hK hL,?_,a.kf.trans<|KF.KO hL λk f=>by cases f⟩;have j:(((if forced then []else cl)++[c']).map (·.2.1))=(if forced then []else cl.map (·.2.1))++[c.2.1]:=by grind
   rw[j];exact o.jA hL λk f=>by cases f
  .cases g
  .cases g
 .refine(KD b hp kp x w cv uv hu forced m c cl us g a.ka.mem a.ref q s v hn).mono ?_;rintro e w' ⟨he,cv',cl',pU,hK,hL⟩;refine⟨he,?_⟩;have j:cl'.map (·.2.1)=if hu then cl.map (·.2.1)else cl.map (·.2.1)++[c.2.1]:=by grind
  have l:=a.ka.law r hK hL;have t:=a.kf.trans (KF.KO hL λk f=>by cases f);rcases i with⟨A,_⟩|⟨_,_,_,M,o⟩|⟨_,_,G,M,o⟩
  .omega
  .refine .inl ⟨E,cv',true,true,uv,m,cl',us,M,m0,l,?_,t⟩;rw[j];exact o.jA hL λk f=>by cases f
  .subst G;refine .inr ⟨cv',true,uv,m,cl',us,M,m0,l,?_,t⟩;rw[j];exact o.jA hL λk f=>by cases f
section
variable [Inhabited Bs](hp p E I J O U f h bN m n j k c T:Nat)(s:ag)(l:aq)(d:ah)(o q:Value)(cs:List Value)(us:List Nat)(R:aK)(w:World)
theorem RS.row{w:World}{rp:Nat}{R:aK}(h:RS w rp R):∃o c,w.cell? (d8 rp 1)=some (.slice o R.af.length c)/\∀(i:Nat) (x:a_),R.af[i]?=some x->∃g,o=some (dH g)/\w.cell? (d8 g<|i*5)=some (.int .u64 (x.id:Int))/\w.cell? (d8 g<|i*5+2)=some (.int .i64 (x.ops:Int)):=by
 have⟨t,j,s,h⟩:=h;have c1:=aa h.blk 1;simp at c1;have⟨o,c,f,H⟩:=h.slice;rw[f,h.len]at c1;refine⟨o,c,c1,λi x d=>?_⟩;have⟨v,hp⟩:=h.at d;have⟨g,e,a,_,b,_⟩:=H i _ hp;exact⟨g,e,a,b⟩
end
section
variable(b hp p O U a f h o A bN m n I E c T:Nat)(s:ag)(l:aq)(d:ah)(B C:Value)(D J:Bool)(F:List cM)(us:List Nat)(R:aK)(S:List Nat)(w:World)
def Wkd(b:Nat)(w w':World)(hp p O U a f h o A bN m n I E c T:Nat)(l:aq)(d:ah)(B:Value)(D J:Bool)(C:Value)(F:List cM)(us:List Nat)(R:aK)(t:Nat):Prop :=
 ∃m' s e,m'<=m+2/\Dx b w' hp p O U a f h o A bN m' n s l d I B D J C E e F us/\Gd (c+1) T s e/\KF b w w'/\(e=R\/V4 R e t/\(R.state t=0->t∉us))
theorem OY(kd Z nn f1 f2 f3 f4:Int)(aM x y:Nat)(G N:ByteArray)(ao:Option Addr)(a8:KJ b w hp p O U a f h o A bN m n s l d I B D J C (E,R,S) F us)(hg:Gd c T s R)(hm:m<=1000000)(hc:c<=100000)(aA:us.length<=100000)(hB:3<=b)(fL:b<=hp)(gH:Met w)(ht:aM<2^64)(hk:G.size<=16384):
  Calls prog 47 #[rM I,qX kd aM Z nn G N ao x y f1 f2 f3 f4] w λe w'=>e=.returned (.bool true)/\Wkd b w w' hp p O U a f h o A bN m n I E c T l d B D J C F us R aM:=by
 have⟨W,hW⟩:=xY <|w.alloc (gI kd aM Z nn G N ao x y f1 f2 f3 f4);have eU:Fr [] w W:=by rw[hW];exact(lE w).alloc _
 have ja:W.heap[w.heap.size]?=some (gI kd aM Z nn G N ao x y f1 f2 f3 f4):=by rw[hW];exact heap_alloc_new w _
 have K0:=a8.new eU;have hv:aV s.aS:=by have⟨_,_,_,h3,_⟩:=a8.host.2.1.sh.aS;exact h3
 have L0:=KF.new a8.size eU;have ZB:=hg.rel.len;have k0:=aa K0.kb 0;have k1:=aa K0.kb 1;have k5:=aa K0.kb 5;have z0:=aa ja 0;have z1:=aa ja 1;have z2:=aa ja 2;have z4:=aa ja 4;have z5:=aa ja 5;simp at k0 k1 k5 z0 z1 z2 z4 z5;have⟨uo,uc,eu,HU⟩:=xJ K0.ka.mem.used;have⟨xo,xc,x1,HX⟩:=@RS.row (oP b) W E R (K0.ka.mem.each (E,R,S) sE).rs;have⟨nu,ZP⟩:=xY us.length;have⟨nx,kJ⟩:=xY R.af.length;rw[eu,<-ZP]at k5;rw[<-kJ]at x1 ZB;have a':=ae<|zzb ZP.symm kJ.symm;rw[<-ZP]at aA;have cm:=λq=>@RS.state (oP b) _ E aM R ((K0.new<|(lE W).aR q).ka.mem.each (E,R,S) sE).rs oE
 have⟨st,m_⟩:=xY <|R.state aM;rw[<-m_]at cm;have ay:=ae m_;have aC:=ae HU;have al:=ae HX;have H:=ae<|zzb K0<|zzb L0<|zzb hg<|zzb hv<|zzb gH ja;clear a8 hg ja K0 L0 eU hv ZP kJ HU HX m_ gH eu
 go_enter func47,ntmps47;go_wp2;rw[<-hW];have⟨M,iA⟩:=xY w.heap.size;rw[<-iA]at z0 z1 z2 z4 z5 H ⊢;clear hW iA;go_quiet (first|(go_at_call 44;refine Calls.quiet_of<|cm _))
 clear cm;go_wp2;go_loopw [6] (λi wr=>∃j:Nat,j<=nu/\i=.int .i64 j/\(∃q,wr=W.drewN q)/\Hid (∀i u,i<j->us[i]?=some u->u≠aM)) (λi _=>nu-(intOf i).toNat);case atStart=>exact⟨0,zzs _,rfl,⟨nq,rfl⟩,λi u hi=>absurd hi oE⟩
 case round=>
  obtain⟨j,hj,rfl,⟨q,rfl⟩,ad⟩:=hrel;by_cases ab:j<nu/\st=0
  .obtain⟨bP,rfl⟩:=ab;have⟨u,J⟩:∃u,us[j]?=some u:=⟨_,zzg<|by rw[a'.1];exact bP⟩;obtain⟨g,rfl,x0⟩:=aC.out j u J;have i0:(0:Int)<=j:=oE
   have i1:(j:Int)<nu:=oE;have an:=ae J;clear J;by_cases he:u=aM
   .subst he;go_wp2;go_quiet (fail)
    go_wp2;go_ret;have ie:=((lE W).aR q).aR nq;first
     |exact⟨rfl,m,s,R,oE,(H.1.new ie).tt,H.2.2.1.mono oE<|zzc _,H.2.1.trans<|KF.new H.1.size ie,.inl rfl⟩
     |trace_state
   .have be:((u:Int)==aM)=false:=sC;go_wp2;go_quiet (fail)
    go_wp2;go_roundw;case rel=>exact⟨j+1,oE,nF,⟨_,by first|rfl|(rw[World.drewN_drewN])⟩,λi v hi hv=>by
     obtain h1|h1:=Nat.lt_or_ge i j
     .exact ad.out i v h1 hv
     .have e1:i=j:=oE;subst e1;rw[an.out]at hv;cases hv;exact he⟩
    case measure=>simp[intOf];omega
  .have mQ:(¬(j:Int)<nu)\/((j:Int)<nu/\¬((st:Int)=0)):=oE;have a6:Hid (R.state aM=0->aM∉us):=λh0 hm=>by
    have e0:st=0:=by rw[ay.out];exact h0
    have⟨i,hi⟩:=zzB.1 hm;have hl:=(zzd.1 hi).1;rw[a'.1]at hl;exact ad.out i aM oE hi rfl
   clear ab;obtain aE|⟨bP,lR⟩:=mQ
   all_goals
    go_wp2;go_loopw [7,8] (λZ i wr=>∃(j:Nat) (z:Int),j<=nx/\i=.int .i64 j/\Z=.int .i64 z/\∃q,wr=W.drewN q) (λ_ i _=>nx-(intOf i).toNat);case atStart=>exact⟨0,_,zzs _,rfl,rfl,_,rfl⟩
    case round=>
     obtain⟨j,z,hj,rfl,rfl,q,rfl⟩:=hrel;by_cases tJ:j<nx
     .obtain⟨t,DS⟩:∃t,R.af[j]?=some t:=⟨_,zzg<|by rw[a'.2];exact tJ⟩;obtain⟨g,rfl,y0,y2⟩:=al.out j t DS;have i0:(0:Int)<=j:=oE
      have i1:(j:Int)<nx:=oE;have⟨ti,WV⟩:=xY t.id;rw[<-WV]at y0;clear DS WV;by_cases he:ti=aM
      .subst he;go_wp2;go_quiet (fail)
       go_wp2;go_roundw;case rel=>exact⟨j+1,_,oE,nF,rfl,_,by first|rfl|(rw[World.drewN_drewN])⟩
       case measure=>simp[intOf];omega
      .have be:((ti:Int)==aM)=false:=sC;go_wp2;go_quiet (fail)
       go_wp2;go_roundw;case rel=>exact⟨j+1,_,oE,nF,rfl,_,by first|rfl|(rw[World.drewN_drewN])⟩
       case measure=>simp[intOf];omega
     .have i1:¬(j:Int)<nx:=oE;have gH:=H.2.2.2.2.1;by_cases Sq:kd=7
      .rw[Sq]at z0;have X:∀w',Fr [] W w'->Calls prog 79 #[.pointer<|some (dH hp),.int .u64 (aM:Int),.int .i64 z,.string G] w' λe w2=>e=.returned (.tuple #[.string (s.get aM z G).2.1,.bool (s.get aM z G).2.2.1,.int .i64 ((s.get aM z G).2.2.2:Int)])/\(KJ b w2 hp p O U a f h o A bN (m+2) n (s.get aM z G).1 l d I B D J C (E,R,S) F us/\KF b w w2/\w2.heap[M]?=some (gI kd aM Z nn G N ao x y f1 f2 f3 f4)):=λw' P=>by
        have K:=H.1.new P;have hc:=Zq b hp p O U a f h o A bN m n aM z G s l d w' K.host oE (gH.below (H.2.1.trans<|KF.new H.1.size P).below oE) ht mE mE (by have:=H.2.2.1.state aM;omega) (by have:=H.2.2.1.done aM;omega);apply hc.mono;rintro e w2 ⟨rfl,hH,hS⟩;have AR:w'.heap[M]?=some (gI kd aM Z nn G N ao x y f1 f2 f3 f4):=(P.block M (zza.1 H.2.2.2.2.2).1 sE).trans H.2.2.2.2.2;refine⟨rfl,K.sfr hH hS,(H.2.1.trans<|KF.new H.1.size P).trans<|K.kfs fL hS,hS.cells K.host.2.1 AR dN dN dN dN dN dN⟩
       have Hq:=ae<|V6 H.2.2.1.rel aM z G;have⟨e1,e2⟩:=H.2.2.1.get H.2.2.2.1 aM z G ht;rw[e1]at X;have Xy:=ae e2;have⟨r,hr⟩:=xY <|(R.get aM z G).2;rw[<-hr]at X;have a7:=ae hr;have⟨ra,rb,re⟩:=r;simp only[]at X;clear e1 e2 hr;go_wp2
       go_region_held3 (λw'=>w'.cell? (dH I)=some (.pointer<|some (dH hp))/\w'.cell? (d8 M 1)=some (.int .u64 (aM:Int))/\w'.cell? (d8 M 4)=some (.string G)) (simp[*])
        (first|(go_at_call 79;apply(X _<|by first|exact((lE W).aR q).drew|exact(lE W).aR _).mono;rintro e w2 ⟨rfl,BB⟩;have a0:=aa BB.1.kb 0;have a1:=aa BB.2.2 1;have a4:=aa BB.2.2 4;have a5:=aa BB.2.2 5;have b1:=aa BB.1.kb 1;simp at a0 a1 a4 a5 b1;have Y:=ae BB;clear BB X))
       all_goals
        clear k0 k1 k5 z0 z1 z2 z4 z5 x1;have Jr:∀w',Fr [] w2 w'->Calls prog 80 #[.pointer<|some ⟨E,0,none⟩,.int .u64 (aM:Int),.int .i64 z,.string G] w' λe Q=>e=.returned (.tuple #[.string (R.get aM z G).2.1,.bool (R.get aM z G).2.2.1,.int .i64 ((R.get aM z G).2.2.2:Int)])/\Dx b Q hp p O U a f h o A bN (m+2) n (s.get aM z G).1 l d I B D J C E (R.get aM z G).1 F us/\KF b w Q/\Q.heap[M]?=some (gI kd aM Z nn G N ao x y f1 f2 f3 f4):=λw' P=>by
         have K:=Y.1.new P;have hc:=S3 (t:=aM) (seq:=z) (k:=G) (K.ka.mem.each (E,R,S) sE) H.2.2.1.rel.jh (by exact H.2.2.1.rel.len) H.2.2.1.four (λx hx=>by have:=H.2.2.1.ops x hx;omega) (H.2.2.1.once aM) (by have:=H.2.2.1.table;show R.table.length<=_;omega);apply hc.mono;rintro e Q ⟨rfl,Rn⟩;have⟨hJ,hF⟩:=K.gR Rn;have L:=(KF.new Y.1.size P).trans hF;exact⟨rfl,hJ,Y.2.1.trans L,L.step _ _ Y.2.2⟩
        rw[<-a7.out]at Jr;simp only[]at Jr;go_wp2;go_region_held3 (λw'=>w'.cell? (d8 I 1)=some (.pointer<|some (dH E))/\w'.cell? (d8 M 1)=some (.int .u64 (aM:Int))/\w'.cell? (d8 M 4)=some (.string G)) (simp[*])
         (first|(go_at_call 80;apply(Jr _<|by first|exact(lE w2).drew|exact lE w2|exact(lE w2).aR _|exact((lE w2).aR _).drew).mono;rintro e Q ⟨rfl,Dy⟩;have g0:=aa Dy.1.kb 1;have g1:=aa Dy.2.2 1;have g4:=aa Dy.2.2 4;have g5:=aa Dy.2.2 5;simp at g0 g1 g4 g5;have V:=ae Dy;clear Dy Jr))
        all_goals
         clear a0 a1 a4 a5 b1;go_wp2;first
          |(go_quiet (fail)
            go_wp2;go_ret;exact⟨rfl,m+2,_,_,zzc _,V.1.new ((lE Q).aR _),Xy.out,V.2.1.trans (KF.new V.1.size ((lE Q).aR _)),.inr ⟨Hq.out,a6.out⟩⟩)
          |(go_ret
            exact⟨rfl,m+2,_,_,zzc _,V.1,Xy.out,V.2.1,.inr ⟨Hq.out,a6.out⟩⟩)
      by_cases ak:kd=8
      .rw[ak]at z0;have X:∀w',Fr [] W w'->Calls prog 81 #[.pointer<|some (dH hp),.int .u64 (aM:Int),.int .i64 z,.string G,.string N] w' λe w2=>e=.returned (.int .i64 ((s.aY aM z G ⟨1,N⟩).2:Int))/\(KJ b w2 hp p O U a f h o A bN (m+2) n (s.aY aM z G ⟨1,N⟩).1 l d I B D J C (E,R,S) F us/\KF b w w2/\w2.heap[M]?=some (gI kd aM Z nn G N ao x y f1 f2 f3 f4)):=λw' P=>by
        have K:=H.1.new P;have hc:=Zp b hp p O U a f h o A bN m n aM z G s l d w' N K.host oE (gH.below (H.2.1.trans<|KF.new H.1.size P).below oE) ht mE (by have:=H.2.2.1.state aM;omega) (by have:=H.2.2.1.done aM;omega);apply hc.mono;rintro e w2 ⟨rfl,hH,hS⟩;have AR:w'.heap[M]?=some (gI kd aM Z nn G N ao x y f1 f2 f3 f4):=(P.block M (zza.1 H.2.2.2.2.2).1 sE).trans H.2.2.2.2.2;refine⟨rfl,K.sfr hH hS,(H.2.1.trans<|KF.new H.1.size P).trans<|K.kfs fL hS,hS.cells K.host.2.1 AR dN dN dN dN dN dN⟩
       have Hq:=ae<|V7 H.2.2.1.rel aM z G N;have⟨e1,e2⟩:=H.2.2.1.put aM z G N ht;rw[e1]at X;have Xy:=ae e2;have⟨r,hr⟩:=xY <|(R.put aM z G N).2;rw[<-hr]at X;have a7:=ae hr;clear e1 e2 hr;go_wp2
       go_region_held3 (λw'=>w'.cell? (dH I)=some (.pointer<|some (dH hp))/\w'.cell? (d8 M 1)=some (.int .u64 (aM:Int))/\w'.cell? (d8 M 4)=some (.string G)/\w'.cell? (d8 M 5)=some (.string N)) (simp[*])
        (first|(go_at_call 81;apply(X _<|by first|exact((lE W).aR q).drew|exact(lE W).aR _).mono;rintro e w2 ⟨rfl,BB⟩;have a0:=aa BB.1.kb 0;have a1:=aa BB.2.2 1;have a4:=aa BB.2.2 4;have a5:=aa BB.2.2 5;have b1:=aa BB.1.kb 1;simp at a0 a1 a4 a5 b1;have Y:=ae BB;clear BB X))
       all_goals
        clear k0 k1 k5 z0 z1 z2 z4 z5 x1;have Jr:∀w',Fr [] w2 w'->Calls prog 82 #[.pointer<|some ⟨E,0,none⟩,.int .u64 (aM:Int),.int .i64 z,.string G,.string N] w' λe Q=>e=.returned (.int .i64 ((R.put aM z G N).2:Int))/\Dx b Q hp p O U a f h o A bN (m+2) n (s.aY aM z G ⟨1,N⟩).1 l d I B D J C E (R.put aM z G N).1 F us/\KF b w Q/\Q.heap[M]?=some (gI kd aM Z nn G N ao x y f1 f2 f3 f4):=λw' P=>by
         have K:=Y.1.new P;have hc:=SZ N (t:=aM) (seq:=z) (k:=G) (K.ka.mem.each (E,R,S) sE) H.2.2.1.rel.jh (by exact H.2.2.1.rel.len) H.2.2.1.four (λx hx=>by have:=H.2.2.1.ops x hx;omega)<|H.2.2.1.once aM;apply hc.mono;rintro e Q ⟨rfl,Rn⟩;have⟨hJ,hF⟩:=K.gR Rn;have L:=(KF.new Y.1.size P).trans hF;exact⟨rfl,hJ,Y.2.1.trans L,L.step _ _ Y.2.2⟩
        rw[<-a7.out]at Jr;go_wp2;go_region_held3 (λw'=>w'.cell? (d8 I 1)=some (.pointer<|some (dH E))/\w'.cell? (d8 M 1)=some (.int .u64 (aM:Int))/\w'.cell? (d8 M 4)=some (.string G)/\w'.cell? (d8 M 5)=some (.string N)) (simp[*])
         (first|(go_at_call 82;apply(Jr _<|by first|exact(lE w2).drew|exact lE w2|exact(lE w2).aR _|exact((lE w2).aR _).drew).mono;rintro e Q ⟨rfl,Dy⟩;have g0:=aa Dy.1.kb 1;have g1:=aa Dy.2.2 1;have g4:=aa Dy.2.2 4;have g5:=aa Dy.2.2 5;simp at g0 g1 g4 g5;have V:=ae Dy;clear Dy Jr))
        all_goals
         clear a0 a1 a4 a5 b1;go_wp2;first
          |(go_quiet (fail)
            go_wp2;go_ret;exact⟨rfl,m+2,_,_,zzc _,V.1.new ((lE Q).aR _),Xy.out,V.2.1.trans (KF.new V.1.size ((lE Q).aR _)),.inr ⟨Hq.out,a6.out⟩⟩)
          |(go_ret
            exact⟨rfl,m+2,_,_,zzc _,V.1,Xy.out,V.2.1,.inr ⟨Hq.out,a6.out⟩⟩)
      .have z7:(kd==7)=false:=by simpa using Sq
       have z8:(kd==8)=false:=by simpa using ak
       have X:∀w',Fr [] W w'->Calls prog 83 #[.pointer<|some (dH hp),.int .u64 (aM:Int),.int .i64 z,.string G] w' λe w2=>e=.returned (.int .i64 ((s.aY aM z G ⟨2,yA⟩).2:Int))/\(KJ b w2 hp p O U a f h o A bN (m+2) n (s.aY aM z G ⟨2,yA⟩).1 l d I B D J C (E,R,S) F us/\KF b w w2/\w2.heap[M]?=some (gI kd aM Z nn G N ao x y f1 f2 f3 f4)):=λw' P=>by
        have K:=H.1.new P;have hc:=OB b hp p O U a f h o A bN m n aM z G s l d w' K.host oE (gH.below (H.2.1.trans<|KF.new H.1.size P).below oE) ht mE (by have:=H.2.2.1.state aM;omega) (by have:=H.2.2.1.done aM;omega);apply hc.mono;rintro e w2 ⟨rfl,hH,hS⟩;have AR:w'.heap[M]?=some (gI kd aM Z nn G N ao x y f1 f2 f3 f4):=(P.block M (zza.1 H.2.2.2.2.2).1 sE).trans H.2.2.2.2.2;refine⟨rfl,K.sfr hH hS,(H.2.1.trans<|KF.new H.1.size P).trans<|K.kfs fL hS,hS.cells K.host.2.1 AR dN dN dN dN dN dN⟩
       have Hq:=ae<|KW H.2.2.1.rel aM z G;have⟨e1,e2⟩:=H.2.2.1.delete aM z G ht;rw[e1]at X;have Xy:=ae e2;have⟨r,hr⟩:=xY <|(R.delete aM z G).2;rw[<-hr]at X;have a7:=ae hr;clear e1 e2 hr;go_wp2
       go_region_held3 (λw'=>w'.cell? (dH I)=some (.pointer<|some (dH hp))/\w'.cell? (d8 M 1)=some (.int .u64 (aM:Int))/\w'.cell? (d8 M 4)=some (.string G)) (simp[*])
        (first|(go_at_call 83;apply(X _<|by first|exact((lE W).aR q).drew|exact(lE W).aR _).mono;rintro e w2 ⟨rfl,BB⟩;have a0:=aa BB.1.kb 0;have a1:=aa BB.2.2 1;have a4:=aa BB.2.2 4;have a5:=aa BB.2.2 5;have b1:=aa BB.1.kb 1;simp at a0 a1 a4 a5 b1;have Y:=ae BB;clear BB X))
       all_goals
        clear k0 k1 k5 z0 z1 z2 z4 z5 x1;have Jr:∀w',Fr [] w2 w'->Calls prog 84 #[.pointer<|some ⟨E,0,none⟩,.int .u64 (aM:Int),.int .i64 z,.string G] w' λe Q=>e=.returned (.int .i64 ((R.delete aM z G).2:Int))/\Dx b Q hp p O U a f h o A bN (m+2) n (s.aY aM z G ⟨2,yA⟩).1 l d I B D J C E (R.delete aM z G).1 F us/\KF b w Q/\Q.heap[M]?=some (gI kd aM Z nn G N ao x y f1 f2 f3 f4):=λw' P=>by
         have K:=Y.1.new P;have hc:=Hh (t:=aM) (seq:=z) (k:=G) (K.ka.mem.each (E,R,S) sE) H.2.2.1.rel.jh (by exact H.2.2.1.rel.len) H.2.2.1.four (λx hx=>by have:=H.2.2.1.ops x hx;omega)<|H.2.2.1.once aM;apply hc.mono;rintro e Q ⟨rfl,Rn⟩;have⟨hJ,hF⟩:=K.gR Rn;have L:=(KF.new Y.1.size P).trans hF;exact⟨rfl,hJ,Y.2.1.trans L,L.step _ _ Y.2.2⟩
        rw[<-a7.out]at Jr;go_wp2;go_region_held3 (λw'=>w'.cell? (d8 I 1)=some (.pointer<|some (dH E))/\w'.cell? (d8 M 1)=some (.int .u64 (aM:Int))/\w'.cell? (d8 M 4)=some (.string G)) (simp[*])
         (first|(go_at_call 84;apply(Jr _<|by first|exact(lE w2).drew|exact lE w2|exact(lE w2).aR _|exact((lE w2).aR _).drew).mono;rintro e Q ⟨rfl,Dy⟩;have g0:=aa Dy.1.kb 1;have g1:=aa Dy.2.2 1;have g4:=aa Dy.2.2 4;have g5:=aa Dy.2.2 5;simp at g0 g1 g4 g5;have V:=ae Dy;clear Dy Jr))
        all_goals
         clear a0 a1 a4 a5 b1;go_wp2;first
          |(go_quiet (fail)
            go_wp2;go_ret;exact⟨rfl,m+2,_,_,zzc _,V.1.new ((lE Q).aR _),Xy.out,V.2.1.trans (KF.new V.1.size ((lE Q).aR _)),.inr ⟨Hq.out,a6.out⟩⟩)
          |(go_ret
            exact⟨rfl,m+2,_,_,zzc _,V.1,Xy.out,V.2.1,.inr ⟨Hq.out,a6.out⟩⟩)
end
end Go.Proofs.YtdcafjmdfpjcbaaGreatDoor
