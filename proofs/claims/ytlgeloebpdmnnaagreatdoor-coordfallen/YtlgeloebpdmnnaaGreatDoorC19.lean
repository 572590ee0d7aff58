import Derived.Test.YtlgeloebpdmnnaaGreatDoorC16
set_option maxHeartbeats 4000000
set_option maxRecDepth 100000
namespace Go.Proofs.YtlgeloebpdmnnaaGreatDoor
open Go.RowKit Go.Maps Tryz Sc
section
open Go.Shelf
variable{ps:List Nat}{q:Nat->Bool}
theorem uV(t:Nat)(w:nL)(a:t<2^64):
  Calls prog 251 #[.int .u64 (t:Int)] w λe w'=>e=.returned (.string<|str<|be 8 t)/\Below w.heap.size w w':=by
 have h:=Bm (nF w) (.slice none 0 0) [] t 0 w (zzu _ _ _ _) a dp<|zzc _
 go_enter func251,ntmps251;go_wp2_with fail;apply h.mono;rintro e b ⟨v',rfl,ho,hb,_⟩;obtain⟨g,p,rfl⟩:=eQ ho dp;have v:=tN b g 0 (0+8) p (be 8 t) (by rw[ew]) (wC<|by simpa using ho);go_wp2;go_ret;exact⟨rfl,hb⟩
theorem Lp(t:Nat)(w:nL)(a:t<2^64):
  Calls prog 202 #[.int .u64 (t:Int)] w λe w'=>e=.returned (.string<|str<|be 8 t)/\Below w.heap.size w w':=by
 have h:=Bm (nF w) (.slice none 0 0) [] t 0 w (zzu _ _ _ _) a dp<|zzc _
 go_enter func202,ntmps202;go_wp2_with fail;apply h.mono;rintro e b ⟨v',rfl,ho,hb,_⟩;obtain⟨g,p,rfl⟩:=eQ ho dp;have v:=tN b g 0 (0+8) p (be 8 t) (by rw[ew]) (wC<|by simpa using ho);go_wp2;go_ret;exact⟨rfl,hb⟩
theorem Fi:Enters 255:=enters_of func255 eu rfl
theorem Ao:Enters 181:=enters_of func181 eu rfl
theorem wV:Enters 182:=enters_of func182 eu rfl
theorem XN:Enters 243:=enters_of func243 eu rfl
theorem Tr{y:Nat}(h:y∈bV q ps):y<9:=by
 have:=(zzp.1 h).1;simpa using this
theorem DW:(bV q ps).length<=9:=by
 apply zzk<|Hm _ _;simp
theorem sJ(t:Nat)(T:fQ)(bZ:T.Ok)(w:nL)(ht:t<2^64):
  Calls prog 252 #[.int .u64 (t:Int),lz T] w λe w'=>e=.returned (.string (str (be 8 t++bV fG T.parts)))/\Below w.heap.size w w':=by
 obtain⟨PS,ad⟩:∃PS,PS=T.parts:=⟨_,rfl⟩;have J7:=ah (λ(n l b1 b2:Nat) (hn:2<=n) (W:nL)=>Ig n hn l b1 b2 255 fG La Fi T bZ W);have aa:=λ(n:Nat) (W:nL)=>DU n 255 T bZ W
 rw[<-ad] at J7 ⊢;clear ad;obtain⟨s,ps,z,O⟩:=T;obtain⟨B,E,G,I,J,K,L,M,N,eG⟩:=nine bZ.1
 change ps=_ at eG
 subst eG;have sK:=ah aa;rw[bC];obtain⟨m,a1⟩:∃m:Array Value,m=(J9 ⟨s,[B,E,G,I,J,K,L,M,N],z,O⟩).toArray:=⟨_,rfl⟩;have ab:m=#[.int .i64 (s:Int),.int .u8 (B:Int),.int .u8 (E:Int),.int .u8 (G:Int),.int .u8 (I:Int),.int .u8 (J:Int),.int .u8 (K:Int),.int .u8 (L:Int),.int .u8 (M:Int),.int .u8 (N:Int),.int .u64 (z:Int),bB O]:=a1;obtain⟨b,Z⟩:∃b,b=w.alloc (.cells #[.int .i64 (s:Int),.int .u8 (B:Int),.int .u8 (E:Int),.int .u8 (G:Int),.int .u8 (I:Int),.int .u8 (J:Int),.int .u8 (K:Int),.int .u8 (L:Int),.int .u8 (M:Int),.int .u8 (N:Int),.int .u64 (z:Int),bB O] 249):=⟨_,rfl⟩;have lh:Below w.heap.size w b:=by rw[Z];exact(zzD _ w).alloc (zzc _) _
 have ni:b.heap.size=w.heap.size+1:=by rw[Z];simp
 have r0:b.heap[w.heap.size]?=some (.cells #[.int .i64 (s:Int),.int .u8 (B:Int),.int .u8 (E:Int),.int .u8 (G:Int),.int .u8 (I:Int),.int .u8 (J:Int),.int .u8 (K:Int),.int .u8 (L:Int),.int .u8 (M:Int),.int .u8 (N:Int),.int .u64 (z:Int),bB O] 249 (0,0)):=by rw[Z];exact oz w _
 have V:=(yY (n:=5)).2 (Bm b.heap.size (.slice none 0 0) [] t 0 b (zzu _ _ _ _) ht dp (zzc _));have ag:Fence.wide.round=none:=rfl;have cY:Fence.wide.fn 220:=trivial;have bH:Fence.wide.fn 244:=trivial;have fu:Fence.wide.fn 221:=trivial;have H0:=ah (show Below w.heap.size w b/\b.heap[w.heap.size]?=some (.cells #[.int .i64 (s:Int),.int .u8 (B:Int),.int .u8 (E:Int),.int .u8 (G:Int),.int .u8 (I:Int),.int .u8 (J:Int),.int .u8 (K:Int),.int .u8 (L:Int),.int .u8 (M:Int),.int .u8 (N:Int),.int .u64 (z:Int),bB O] 249 (0,0)) from ⟨lh,r0⟩);have an:=ah ab;have a8:=ah a1;clear aa lh r0 a1 ab;refine(yY (n:=6)).1 ?_;refine callsIn_of_wp_marks func252 rfl trivial ?_ ag;simp only[ntmps252,ji,zzr,jn,Nat.reduceAdd,Nat.reduceSub,mK,jo,j7,j8,kV,lC]
 gi_wp2_with fail
 rw[<-Z];clear Z;refine V.mono ?_;clear V;rintro e a ⟨v1,rfl,gq,dB,Wc⟩;obtain⟨Q,c1,rfl⟩:=eQ gq dp;simp only[Nat.zero_add,List.nil_append] at gq;have al:=dB.size;obtain⟨d,o⟩:∃d,d=a.alloc (.cells #[.slice (some ⟨Q,0,none⟩) 8 c1] 217):=⟨_,rfl⟩;have r2:=(dB.block w.heap.size dp).trans H0.2;have h:d.heap[w.heap.size]?=some (.cells #[.int .i64 (s:Int),.int .u8 (B:Int),.int .u8 (E:Int),.int .u8 (G:Int),.int .u8 (I:Int),.int .u8 (J:Int),.int .u8 (K:Int),.int .u8 (L:Int),.int .u8 (M:Int),.int .u8 (N:Int),.int .u64 (z:Int),bB O] 249 (0,0)):=by rw[o,zzf _ _ _ dp];exact r2
 have e0:=af h 0;have e1:=af h 1;have e2:=af h 2;have e3:=af h 3;have e4:=af h 4;have e5:=af h 5;have e6:=af h 6;have e7:=af h 7;have e8:=af h 8;have e9:=af h 9;have ea:=af h 10;have eb:=af h 11;simp at e0 e1 e2 e3 e4 e5 e6 e7 e8 e9 ea eb;have a7:=sK.out 5 d;rw[bC,<-a8.out] at a7;have eP:d.heap.size=a.heap.size+1:=by rw[o];simp
 have qb:d.heap[a.heap.size]?=some (.cells #[.slice (some ⟨Q,0,none⟩) 8 c1] 217 (0,0)):=by rw[o];exact oz a _
 have ik:d.ownsRow b.heap.size 5 1 (.slice (some ⟨Q,0,none⟩) 8 c1) 8 (bs (be 8 t)):=by rw[o];exact gq.alloc _
 have Rm:Below b.heap.size b d:=by rw[o];exact dB.alloc dp _
 have H2:=ah (show d.heap[a.heap.size]?=some (.cells #[.slice (some ⟨Q,0,none⟩) 8 c1] 217 (0,0))/\d.ownsRow b.heap.size 5 1 (.slice (some ⟨Q,0,none⟩) 8 c1) 8 (bs (be 8 t))/\Below b.heap.size b d from ⟨qb,ik,Rm⟩);rw[o] at e0 e1 e2 e3 e4 e5 e6 e7 e8 e9 ea eb;clear qb ik Rm gq dB Wc r2 h
 gi_wp2_with fail
 rw[<-o];clear o e0 e1 e2 e3 e4 e5 e6 e7 e8 e9 ea eb;refine a7.mono ?_;clear a7;rintro e f ⟨rfl,Rn⟩;have rW:f.heap.size=a.heap.size+3:=by rw[Rn];simp;omega
 have Ro:Below d.heap.size d f:=by rw[Rn];exact((zzD _ d).alloc (zzc _) _).alloc dv _
 have q1:f.heap[a.heap.size+1]?=some (.cells m 249 (0,0)):=by
  rw[Rn,zzf _ _ _ ef,<-eP];exact oz d _
 have q2:f.heap[a.heap.size+1+1]?=some (.cells #[Fb 255] 251 (0,0)):=by
  rw[Rn];have:=oz (d.alloc (.cells m 249)) (.cells #[Fb 255] 251);rw[zzv,eP] at this;exact this
 have q3:=(Ro.block a.heap.size dp).trans H2.1;have q4:f.ownsRow b.heap.size 5 1 (.slice (some ⟨Q,0,none⟩) 8 c1) 8 (bs (be 8 t)):=ar H2.2.1 (Fr.bE Ro []) dv;have q5:Below b.heap.size b f:=H2.2.2.trans (Ro.mono dp);clear Rn Ro H2;rw[eP];have ay:b.heap.size<=a.heap.size:=al
 gi_wp2
 refine wT (F:=Fence.wide) (n:=6) rfl dp (gf:=285) (lb:=#[.pointer (some ⟨a.heap.size+1,0,none⟩),.pointer (some ⟨a.heap.size+1+1,0,none⟩)]) rfl trivial (enters_of func285 eu rfl)
  (encs:=λy:Nat=>#[.int .i64 (y:Int)]) (rs:=bV fG PS) (S:=[a.heap.size+1,a.heap.size+1+1]) (λ_=>rfl) (by intro k u;simp at u;omega)
  (λWx x _=>J7.out 5 _ (a.heap.size+1) (a.heap.size+1+1) dp Wx (by rw[<-a8.out];exact(x.block _ dp).trans q1) ((x.block _ dp).trans q2))
  (λp A=>(∃v,A.heap[a.heap.size]?=some (.cells #[v] 217 (0,0))/\A.ownsRow b.heap.size 5 1 v (8+p.length) (bs (be 8 t++p)))/\Below b.heap.size b A/\A.heap[a.heap.size+1]?=some (.cells m 249 (0,0))/\A.heap[a.heap.size+1+1]?=some (.cells #[Fb 255] 251 (0,0)))
  (λWx x=>⟨⟨_,(x.block _ dp).trans q3,by simpa using ar q4 (Fr.bE x []) dv⟩,q5.trans (x.mono dp),(x.block _ dp).trans q1,(x.block _ dp).trans q2⟩)
  (λl A r hs ym D=>by
   obtain⟨r0,D⟩:=D;have mT:Fr [f.heap.size+1] A (A.putObj (f.heap.size+1) (.loop r)):=⟨rfl,rfl,rfl,by rw[cJ];exact zzc _,λj _ hj=>qY (by simpa using hj)⟩;obtain⟨⟨v,R,P⟩,X,Y,y5⟩:=hs;refine⟨⟨v,(qY dp).trans R,ar P mT (λg V hm=>?_)⟩,X.trans (mT.below dp (by intro k u;simp at u;omega)),(qY dp).trans Y,(qY dp).trans y5⟩;simp at hm;obtain⟨cc,hc⟩:=aL P V
   rw[hm,D] at hc;cases hc)
  (λy a' A=>a'={ tmps:=#[.int .u64 (t:Int),.agg #[.int .i64 (s:Int),.int .u8 (B:Int),.int .u8 (E:Int),.int .u8 (G:Int),.int .u8 (I:Int),.int .u8 (J:Int),.int .u8 (K:Int),.int .u8 (L:Int),.int .u8 (M:Int),.int .u8 (N:Int),.int .u64 (z:Int),bB O],undef,.pointer (some ⟨w.heap.size,0,none⟩),.string { data:=#[] },.pointer (some ⟨a.heap.size,0,none⟩),.int .i64 (y:Int),.int .u64 (t:Int),.slice (some ⟨Q,0,none⟩) 8 c1,.agg #[.int .i64 (s:Int),.int .u8 (B:Int),.int .u8 (E:Int),.int .u8 (G:Int),.int .u8 (I:Int),.int .u8 (J:Int),.int .u8 (K:Int),.int .u8 (L:Int),.int .u8 (M:Int),.int .u8 (N:Int),.int .u64 (z:Int),bB O],.func (.func 285) #[] #[.pointer (some ⟨a.heap.size+1,0,none⟩),.pointer (some ⟨a.heap.size+1+1,0,none⟩)],.int .i64 (y:Int),undef,undef,undef,undef,undef,undef],defers:=[] })
  (λy a' A r hs=>hs)
  ?assign ?body ?done
 case assign =>
  have pV:=@Bg;rintro p y A ao hI ym eN hK
  gi_wp2
  exact hK _ _ hI (nP.refl _) rfl
 case body =>
  have pV:=@Bg;rintro p y a' A ⟨⟨v,R,P⟩,X,Y,y5⟩ ym rfl eN sL D
  have qI:p.length+1<=9:=by
   have:=eN.length_le;have h9:=DW (q:=fG) (ps:=PS);simp at this;omega
  have ax:y<9:=Tr (eN.subset dv);have j1:IntKind.u8.wrap (y:Int)=y:=by rw[IntKind.wrap_u8];omega
  have ae:=(yY (n:=3)).2 (Xk b.heap.size v (be 8 t++p) y (8+p.length) A P dp dp dp);have d0:=af R 0;simp at d0;have H:=ah (show A.heap[a.heap.size]?=some (.cells #[v] 217 (0,0))/\Below b.heap.size b A/\A.heap[a.heap.size+1]?=some (.cells m 249 (0,0))/\A.heap[a.heap.size+1+1]?=some (.cells #[Fb 255] 251 (0,0))/\A.heap[f.heap.size]?=some (.deferred (some []))/\(∃r,A.heap[f.heap.size+1]?=some (.loop r)) from ⟨R,X,Y,y5,sL,D⟩);clear R P X Y y5 sL D
  gi_wp2_with fail
  refine ae.mono ?_;clear ae;rintro e A2 ⟨v2,rfl,o2,b2,t2⟩;rw[be1 dp,zzx] at o2;obtain⟨U,c3,rfl⟩:=eQ o2 dp;have z1:=(t2.block a.heap.size dp (λc e=>by rw[H.1] at e;cases e)).trans H.1;have z4:=(t2.block (a.heap.size+1) dp (λc e=>by rw[H.2.2.1] at e;cases e)).trans H.2.2.1;have z5:=(t2.block (a.heap.size+1+1) dp (λc e=>by rw[H.2.2.2.1] at e;cases e)).trans H.2.2.2.1;have z6:=(t2.block f.heap.size dp (λc e=>by rw[H.2.2.2.2.1] at e;cases e)).trans H.2.2.2.2.1;obtain⟨r,D⟩:=H.2.2.2.2.2;have z7:=(t2.block (f.heap.size+1) dp (λc e=>by rw[D] at e;cases e)).trans D;have XO:=t2.size;have k0:=af z1 0;have f0:=aq z1 0;simp at k0;obtain⟨i,Lq⟩:∃i,i=A2.setCell ⟨a.heap.size,0,none⟩ (.slice (some ⟨U,0,none⟩) (8+p.length+1) c3):=⟨_,rfl⟩;have C:Fr [a.heap.size] A2 i:=by rw[Lq];exact Fr.cG dv _ _
  have m1:i.heap[a.heap.size]?=some (.cells #[.slice (some ⟨U,0,none⟩) (8+p.length+1) c3] 217 (0,0)):=by
   rw[Lq];have:=aF z1 0 (.slice (some ⟨U,0,none⟩) (8+p.length+1) c3)
   simpa using this
  have m2:i.ownsRow b.heap.size 5 1 (.slice (some ⟨U,0,none⟩) (8+p.length+1) c3) (8+p.length+1) (bs (be 8 t++(p++[y]))):=ar o2 C (λg V=>by simp;intro e;subst e;exact aQ o2 z1 du V)
  have HN:=ah (show((∃v,i.heap[a.heap.size]?=some (.cells #[v] 217 (0,0))/\i.ownsRow b.heap.size 5 1 v (8+(p++[y]).length) (bs (be 8 t++(p++[y]))))/\Below b.heap.size b i/\i.heap[a.heap.size+1]?=some (.cells m 249 (0,0))/\i.heap[a.heap.size+1+1]?=some (.cells #[Fb 255] 251 (0,0)))/\nP (f.heap.size :: (f.heap.size+1) :: [a.heap.size+1,a.heap.size+1+1]) A i from
   ⟨⟨⟨_,m1,by rw[zzi];exact m2⟩,H.2.1.trans (b2.trans (C.below dp (by intro k u;simp at u;omega))),(C.block _ dp dv).trans z4,(C.block _ dp ef).trans z5⟩,zzk XO C.size,λk u bW=>by
    simp at u;rcases u with rfl|rfl|rfl|rfl
    .rw[C.block _ dp ef,z6,H.2.2.2.2.1]
    .rw[C.block _ dp ef,z7,D]
    .rw[C.block _ dp dv,z4,H.2.2.1]
    .rw[C.block _ dp ef,z5,H.2.2.2.1]⟩)
  clear o2 b2 t2 z1 z4 z5 z6 z7 D m1 m2 C H
  gi_wp2
  rw[<-Lq];have hn:=HN.out;simp only[zzi,zzr,List.length_nil,Nat.zero_add,ni,rW] at hn;exact hn
 case done =>
  rintro A ⟨⟨v,R,P⟩,X,Y,y5⟩ ym hK;obtain⟨U,c3,rfl⟩:=eQ P dp;have d0:=af R 0;simp at d0;have av:=tN A U 0 (8+(bV fG PS).length) c3 (be 8 t++bV fG PS) (by rw[zzi,ew]) (wC P)
  gi_wp2
  refine⟨dv,.inl ⟨_,_,rfl,DK hK,?_⟩⟩;refine⟨.string (str (be 8 t++bV fG PS)),by simp[results,results252,go_sem],rfl,?_⟩;have mT:Below w.heap.size A (A.putObj f.heap.size (.deferred none)):=⟨rfl,rfl,rfl,by rw[cJ];exact zzc _,λj hj=>qY dp⟩;exact H0.1.trans ((X.mono dp).trans mT)
end
variable{S:List Nat}{xs:List Value}{base n size:Nat}{e:TypeId}{v:Value}{w:nL}
def qX(w:nL)(x:Value)(m:Nat)(news:List Value):Prop :=
 (∃d c,x=.slice (some d) m c/\∀j u,news[j]?=some u->w.cell? (d.add j)=some u)\/(x=.slice none 0 0/\m=0/\news=[])
theorem fH{P:Program}{ops:Array Oper}{rest:List Oper}{o:Oper}{a:Act}{Q:Exit->Act->nL->Prop}(D:o.guard=none)(s x:Operand)(t:TypeId)
  (g:o.op=.call {callee:=.builtin .append,args:=#[s,x],argTypes:=#[t,t]})
  (base:Nat) (e:TypeId) (i:TypeInfo) (z:Value) (size bytes:Nat) (k:P.underlying t=some (.slice e)) (f:P.info? e=some i) (A:i.zero=some z)
  (U:i.size=size) (O:i.bytes=bytes) (B:z.cells.size=size) (y:0<size)
  (v:Value) (n:Nat) (xs:List Value) (j:a.eval s=v) (M:w.ownsRow base e size v n xs)
  (m:Nat) (news:List Value) (hx:qX w (a.eval x) m news) (r:news.length=m*size) (p:∀u∈news,u.oneCell'=true)
  (q:n+m<=maxLen) (K:(n+m)*bytes<=140737488355328) (C:base<=w.heap.size)
  (h:∀d w',w'.ownsRow base e size d (n+m) (xs++news)->w.grownBy w' v.ownBlock->(d.ownBlock=v.ownBlock\/d.ownBlock=some w.heap.size)->wpList P ops Q rest (a.put o.dst d) w') :
  wpList P ops Q (o::rest) a w:=by
 rcases hx with⟨l,c,hx,V⟩|⟨hx,rfl,rfl⟩
 .exact wpList_append_own_at (P:=P) (w:=w) D s x t g base e i z size bytes k f A U O B y v n xs j M l m c news hx r V p q K C λd w' a b _ c=>h d w' a b c
 .exact wpList_append_own_none D s x t g base e i size k f v n xs j M hx<|h v w (by simpa using M) ⟨rfl,rfl,rfl,zzc _,λ_ _ _=>rfl⟩<|.inl rfl
theorem row_one(h:w.ownsRow base e size v n xs):v.oneCell'=true:=by
 rcases h.2 with⟨rfl,_⟩|⟨g,p,r,rfl,_⟩<;>rfl
theorem DX{g N c:Nat}(h:w.ownsRow base e size (.slice (some<|gi g) N c) n xs)(o m c':Nat)(news:List Value)(hn:∀j u,news[j]?=some u->xs[o+j]?=some u):qX w (.slice (some<|hP g o) m c') m news:=by
 refine .inl ⟨_,_,rfl,λj u a=>?_⟩;have:=fA h rfl<|hn j u a;have e:((hP g o):Addr).add j=(hP g (o+j)):=by unfold Addr.add;split<;>simp_all
 rw[e];exact this
theorem Tt(w:nL)(d:Addr)(c:Nat){m:Nat}{news:List Value}(_hm:m=0)(hn:news=[]):qX w (.slice (some d) m c) m news:=.inl ⟨_,_,rfl,λj u h=>by rw[hn]at h;simp at h⟩
theorem Fr.Tu{w':nL}(h:w.grownBy w' v.ownBlock)(a:∀k,v.ownBlock=some k->k∈S):Fr S w w':=
 ⟨h.os,h.tape,h.output,h.size,λk b hn=>h.block k b λe=>hn<|a k e.symm⟩
theorem fe(h:w.ownsRow base e size v n xs):∃o c,v=.slice o n c:=by
 rcases h.2 with⟨rfl,rfl⟩|⟨g,p,r,rfl,_⟩<;>grind
def ju(w:nL)(v:Value):Prop:=∀k,v.ownBlock=some k->w.heap.size<=k
theorem ju.nil(w:nL):ju w (.slice none 0 0):=λk h=>by cases h
theorem ju.next{a:Value}{z:Nat}(h:ju w v)(d:w.heap.size<=z)(b:a.ownBlock=v.ownBlock\/a.ownBlock=some z):ju w a:=λk c=>by
 obtain e|e:=b
 .exact h k<|e▸c
 .grind
theorem Fr.od{a w2:nL}(hf:Fr S w a)(b:ju w v)(g:a.grownBy w2 v.ownBlock):Fr S w w2:=
 ⟨g.os.trans hf.os,g.tape.trans hf.tape,g.output.trans hf.output,zzk hf.size g.size,λk h hn=>(g.block k (zzl h hf.size) λe=>by have:=b k e.symm;omega).trans<|hf.block k h hn⟩
theorem aN{p i:Nat}{a:TypeId}{c:Array Value}{u:Value}{fr:Nat×Nat}(h:w.ownsRow base e size v n xs)(q:w.heap[p]?=some (.cells c a fr))(j:e≠a):(w.setCell (hP p i) u).ownsRow base e size v n xs:=by
 refine ar h (Fr.cG (S:=[p]) (by simp) i u) λg f=>?_
 simp;intro d;have⟨c2,b⟩:=aL h f;rw[d,q]at b;cases b;exact j rfl
theorem pH{α:Type}(l:List α)(i:Nat):(l.take i++l.drop (i+1)).Sublist l:=by
 have h:(l.drop<|i+1).Sublist (l.drop i):=List.drop_sublist_drop_left l (by omega);have:=List.Sublist.append (List.Sublist.refl<|l.take i) h;rwa [Ez]at this
section
open Go.Shelf
theorem Ap:(Tryz.prog.info? 174).map (λi=>(i.zero,i.size,i.bytes))=some (some<|.agg #[.int .u64 0,.int .i64 0],2,16):=eu
theorem Nv:(Tryz.prog.info? 170).map (λi=>(i.zero,i.size,i.bytes))=some (some<|.agg #[.int .u64 0,.int .i64 0,.int .i64 0],3,24):=eu
section
variable{w f a:nL}{B E d b n:Nat}{c:bL}{I J O:Value}
theorem a_.res(h:a_ w B E d b n c)(o:w.heap[E]?=some (ub d b c I J))(z:w.ownsRow B 174 2 I c.res.length<|lj c.res)(A:w.ownsRow B 170 3 J c.out.length<|jv c.out)(C:C7 I c.res.length n)(D:C7 J c.out.length n)(x:Nat×Nat)(p:Fr [] w f)(l:f.grownBy a I.ownBlock)(u:a.ownsRow B 174 2 O (c.res.length+1)<|lj c.res++PA x)(G:∀g,O.ownBlock=some g->I.ownBlock=some g\/w.heap.size<=g):
  a_ (a.setCell (hP E 5) O) B E d b (n+1) {c with res:=c.res++[x]}/\gQ E [E] w (a.setCell (hP E 5) O):=by
 have⟨W,t⟩:∃W,W=a.setCell ⟨E,5,none⟩ O:=⟨_,rfl⟩;rw[<-t];have M:=h.jS;have y:=aQ z o du;have s:=((Fr.cA l).block E (by have:=p.size;omega)<|by simp;exact y).trans ((p.block E M.1 dv).trans o);have v:Fr [E] a W:=by grind[Fr.cG]
 have hf:=((p.mono dv).andThen ((Fr.cA l).mono λk _ i=>Ds E i) λj q _=>q).andThen (v.mono λk _ i=>by simp at i;simp[i]) λj q _=>q
 have hb:W.heap[E]?=some (ub d b c O J):=by
  rw[t];have:=aF s 5 O;simpa using this
 have F:=ar u v λg l=>by simp;intro e;subst e;exact aQ u s du l
 have S:∀{g:Nat},g∈E::I.ownBlock.toList->g=E\/∃r,w.heap[g]?=some (.cells r 174 (0,0)):=λ{g} m=>by
  obtain e|e:=zzj.1 m
  .grind
  .grind [aL]
 refine⟨⟨⟨O,J,hb,by rw[Io,zzi];exact F,ar A hf λg l m=>?_,⟨by rw[zzi];show c.res.length+1<=_;have:=C.1;omega,λe=>by simp at e⟩,D.mono dp⟩,(h.aD.fr hf λm=>?_).mono dp,⟨h.low.1,h.low.2.1,zzk h.low.2.2 hf.size⟩,h.gw⟩,⟨Fr.mono hf λk _ i=>?_,λk i m=>?_⟩⟩
 .grind [aL]
 .obtain⟨es,r,oZ⟩:=h.aD.isMap;obtain e|⟨Lt,e⟩:=S m<;>grind
 .rcases zzj.1 i with e|e
  .simp[e]
  .simp at e;exact EL _<|by unfold rd Gz;rw[o];simp[e]
 .unfold rd Gz at m ⊢;rw[hb]at m;rw[o];simp at m ⊢;obtain m|m:=m<;>grind
theorem a_.due(h:a_ w B E d b n c)(o:w.heap[E]?=some (ub d b c I J))(z:w.ownsRow B 174 2 I c.res.length<|lj c.res)(A:w.ownsRow B 170 3 J c.out.length<|jv c.out)(C:C7 I c.res.length n)(D:C7 J c.out.length n)(x:Nat×Nat×Nat)(p:Fr [] w f)(l:f.grownBy a J.ownBlock)(u:a.ownsRow B 170 3 O (c.out.length+1)<|jv c.out++PB x)(G:∀g,O.ownBlock=some g->J.ownBlock=some g\/w.heap.size<=g):
  a_ (a.setCell (hP E 6) O) B E d b (n+1) {c with out:=c.out++[x]}/\gQ E [E] w (a.setCell (hP E 6) O):=by
 have⟨W,t⟩:∃W,W=a.setCell ⟨E,6,none⟩ O:=⟨_,rfl⟩;rw[<-t];have M:=h.jS;have y:=aQ A o du;have s:=((Fr.cA l).block E (by have:=p.size;omega)<|by simp;exact y).trans ((p.block E M.1 dv).trans o);have v:Fr [E] a W:=by grind[Fr.cG]
 have hf:=((p.mono dv).andThen ((Fr.cA l).mono λk _ i=>Ds E i) λj q _=>q).andThen (v.mono λk _ i=>by simp at i;simp[i]) λj q _=>q
 have hb:W.heap[E]?=some (ub d b c I O):=by
  rw[t];have:=aF s 6 O;simpa using this
 have F:=ar u v λg l=>by simp;intro e;subst e;exact aQ u s du l
 have S:∀{g:Nat},g∈E::J.ownBlock.toList->g=E\/∃r,w.heap[g]?=some (.cells r 170 (0,0)):=λ{g} m=>by
  obtain e|e:=zzj.1 m
  .grind
  .grind [aL]
 refine⟨⟨⟨I,O,hb,ar z hf λg l m=>?_,by rw[Ip,zzi];exact F,C.mono dp,⟨by rw[zzi];show c.out.length+1<=_;have:=D.1;omega,λe=>by simp at e⟩⟩,(h.aD.fr hf λm=>?_).mono dp,⟨h.low.1,h.low.2.1,zzk h.low.2.2 hf.size⟩,h.gw⟩,⟨Fr.mono hf λk _ i=>?_,λk i m=>?_⟩⟩
 .grind [aL]
 .obtain⟨es,r,oZ⟩:=h.aD.isMap;obtain e|⟨Lt,e⟩:=S m<;>grind
 .rcases zzj.1 i with e|e
  .simp[e]
  .simp at e;exact EL _<|by unfold rd Gz;rw[o];simp[e]
 .unfold rd Gz at m ⊢;rw[hb]at m;rw[o];simp at m ⊢;obtain m|m:=m<;>grind
end
theorem vF(B E d b n t x:Nat)(c:bL)(w:nL)(h:a_ w B E d b n c)(hn:n<1000000000):
  Calls prog 242 #[gx E,.int .u64 (t:Int),.int .i64 (x:Int)] w λe w'=>e=.returned (.tuple #[])/\a_ w' B E d b (n+1) {c with res:=c.res++[(t,x)]}/\gQ E [E] w w':=by
 obtain⟨P,C,D,G,L⟩:=tO Ap;have⟨I,J,f,k,q,l,r⟩:=h.ex;have R:=l.1;have o:=ah<|zzb l r;clear l r;have c5:=af f 5;simp at c5;have M:=h.jS;have z:=aQ k f du;have H:Hid (a_ w B E d b n c/\w.heap[E]?=some (ub d b c I J)/\w.ownsRow B 174 2 I c.res.length (lj c.res)/\w.ownsRow B 170 3 J c.out.length (jv c.out)):=⟨h,f,k,q⟩;have S:=h.low;clear h f q
 go_enter func242,ntmps242;go_wp2_with (at_builtin;apply fH rfl _ _ 117 rfl B 174 P _ 2 16 underlying117 C D G L rfl du I c.res.length (lj c.res) rfl (k.alloc _) 1 [.int .u64 (t:Int),.int .i64 (x:Int)] (.inl ⟨⟨nF w,0,none⟩,1,rfl,fV _ #[.int .u64 (t:Int),.int .i64 (x:Int)] _⟩) rfl (by intro u s;simp at s;obtain rfl|rfl:=s<;>rfl) eE dp ef)
 intro O a F K X;obtain⟨v,y,p,rfl⟩:=dN F;have j:Fr [] w (w.alloc<|.cells #[.int .u64 (t:Int),.int .i64 (x:Int)] 174):=(fU w).alloc _;have i:=((Fr.cA K).block E ef<|by simp;exact z).trans ((j.block E M.1 dv).trans H.2.1);have A:=af i 5;have Q:=aq i 5;simp at A;have N:Hid (a_ (a.setCell ⟨E,5,none⟩<|.slice v y p) B E d b (n+1) {c with res:=c.res++[(t,x)]}/\gQ E [E] w (a.setCell ⟨E,5,none⟩<|.slice v y p)):=H.1.res H.2.1 H.2.2.1 H.2.2.2 o.1 o.2 (t,x) j K F (λg m=>X.elim (λe=>.inl<|e▸m) λe=>.inr<|by rw[e]at m;cases m;simp);clear F K i j;go_wp2;go_end0;exact⟨rfl,N.out⟩
end
variable{B q:Nat}{t:TypeId}{c w w':nL}
structure IFr(B:Nat)(w w':nL):Prop where
 below:Below B w w'
 ahu:∀(k:Nat) (a b c d:Int),w.heap[k]?=some (iE a b c d)->w'.heap[k]?=some (iE a b c d)
 ints:∀(k:Nat) (c:Array Value),w.heap[k]?=some (.cells c 3 (0,0))->w'.heap[k]?=some (.cells c 3 (0,0))
theorem IFr.met(h:IFr B w w')(a:2<=B)(m:Met w):Met w':=m.below h.below dp
theorem IFr.p_(h:IFr B w w')(a:2<=B)(m:dJ w):dJ w':=m.cZ<|h.below.block 1 dp
structure jJ(cp bT lp p:Nat)(w w':nL):Prop where
 os:w'.os=w.os
 tape:w'.tape=w.tape
 output:w'.output=w.output
 size:w.heap.size<=w'.heap.size
 block:∀k,k<w.heap.size->¬Own lp p w k->k∉[cp,bT]->k∉rd cp w->w'.heap[k]?=w.heap[k]?
 stay:∀k,k<w.heap.size->Own lp p w' k->Own lp p w k
 own:∀k,k<w.heap.size->k∈rd cp w'->k∈rd cp w
theorem jJ.trans{cp bT lp p:Nat}{a b:nL}(h:jJ cp bT lp p a b)(k:jJ cp bT lp p b c):jJ cp bT lp p a c:=
 ⟨k.os.trans h.os,k.tape.trans h.tape,k.output.trans h.output,zzk h.size k.size,
  λi d hn m r=>(k.block i (zzl d h.size) (λo=>hn<|h.stay i d o) m λhx=>r<|h.own i d hx).trans<|h.block i d hn m r,
  λi d o=>h.stay i d (k.stay i (zzl d h.size) o),λi d o=>h.own i d (k.own i (zzl d h.size) o)⟩
structure CL(w:nL)(B cp gp bT m lp p bD bN n:Nat)(c:bL)(l:au)(d:aj):Prop where
 co:a_ w B cp gp bT m c
 lg:∃pv sv rv nD nN,aM w B lp p bD bN pv sv rv l d n nD nN
 qD:w.heap[gp]?=some (C5 lp)
 ne:bT≠bD/\bT≠bN
 PG:1<=gp
section
variable{w w':nL}{B cp gp bT m m' lp p bD bN n n':Nat}{c c':bL}{l l':au}{d d':aj}
theorem CL.free(h:CL w B cp gp bT m lp p bD bN n c l d):∀k,k∈[cp,bT,gp]++rd cp w->¬Own lp p w k/\∀t,w.heap[k]?≠some (gN t):=by
 have⟨pv,s,v,D,N,f⟩:=h.lg;have⟨cs,Y⟩:=h.co.w_;intro k b;obtain b|b:=zzo.1 b
 .simp at b;obtain rfl|rfl|rfl:=b
  .exact⟨f.free Y du du du du du,λt e=>by rw[Y]at e;cases e⟩
  .exact⟨f.Nr h.co.aD.isMap h.ne.1 h.ne.2,λt e=>by have⟨es,c,a⟩:=h.co.aD.isMap;rw[a]at e;cases e⟩
  .exact⟨f.free h.qD du du du du du,λt e=>by rw[h.qD]at e;cases e⟩
 .obtain⟨_,cc,t,e,ht⟩:=h.co.Tv b;obtain rfl|rfl:=ht<;>(exact⟨f.free e (by decide) (by decide) (by decide) (by decide) (by decide),λt a=>by rw[e]at a;cases a⟩)
theorem CL.fL(h:CL w B cp gp bT m lp p bD bN n c l d)(i:a_ w' B cp gp bT m' c')(hf:gQ cp [cp,bT] w w'):CL w' B cp gp bT m' lp p bD bN n c' l d/\jJ cp bT lp p w w':=by
 have⟨pv,s,v,D,N,g⟩:=h.lg;have f:=g.apart hf.fr (λk a _=>h.free k (by
  obtain e|e:=zzo.1 a
  .simp at e;obtain e|e:=e<;>simp[e]
  .exact EL _ e))
 have j:gp∉[cp,bT]++rd cp w:=by
  intro b;obtain e|e:=zzo.1 b
  .simp at e;have Y:=h.qD;obtain e|e:=e
   .obtain⟨cs,jY⟩:=h.co.w_;rw[e,jY]at Y;cases Y
   .obtain⟨es,c,e2⟩:=h.co.aD.isMap;rw[e,e2]at Y;cases Y
  .exact h.co.rd_not h.qD du du e
 refine⟨⟨i,⟨pv,s,v,D,N,f⟩,(hf.fr.block gp (zza.1 h.qD).1 j).trans h.qD,h.ne,h.PG⟩,hf.fr.os,hf.fr.tape,hf.fr.output,hf.fr.size,λk a _ b r=>hf.block a b r,λk _ o=>?_,hf.stay⟩;rw[g.own];exact(f.own k).1 o
theorem CL.new(h:CL w B cp gp bT m lp p bD bN n c l d)(hf:Fr [] w w'):CL w' B cp gp bT m lp p bD bN n c l d/\jJ cp bT lp p w w':=
 h.fL (h.co.new hf) (hf.r h.co.jS.1 dv dv)
theorem CL.log(h:CL w B cp gp bT m lp p bD bN n c l d)(hf:mJ lp p w w')(A:∃pv E q D N,aM w' B lp p bD bN pv E q l' d' n' D N):CL w' B cp gp bT m lp p bD bN n' c l' d'/\jJ cp bT lp p w w':=by
 have U:=h.free;have⟨q,C,a,b,f,j,x⟩:=h.co.ex;have P:=hf.block cp h.co.jS.1 (U cp dv).1;have row:∀{e:TypeId} {k m:Nat} {v:Value} {xs:List Value},w.ownsRow B e k v m xs->(∀g,v.ownBlock=some g->g∈rd cp w)->w'.ownsRow B e k v m xs:=by
  intro e k m v xs t y;refine⟨t.1,?_⟩;obtain a|⟨g,cap,cur,rfl,b,f,j⟩:=t.2
  .grind
  .exact .inr ⟨g,cap,cur,rfl,b,(hf.block g (zza.1 f).1 (U g<|EL _<|y g rfl).1).trans f,j⟩
 have T:dV KU EX w' bT m c.aD:=by
  have W:=h.co.aD.lt;have⟨es,⟨u,c2,a,b⟩,r⟩:=h.co.aD;exact⟨es,⟨u,c2,(hf.block bT W (U bT dv).1).trans a,b⟩,r⟩
 refine⟨⟨⟨⟨q,C,P.trans a,row b λg o=>by unfold rd Gz;rw[a];simp[o],row f λg o=>by unfold rd Gz;rw[a];simp[o],j,x⟩,T,⟨h.co.low.1,h.co.low.2.1,zzk h.co.low.2.2 hf.size⟩,h.co.gw⟩,A,(hf.block gp (zza.1 h.qD).1 (U gp dv).1).trans h.qD,h.ne,h.PG⟩,hf.os,hf.tape,hf.output,hf.size,λi z hn _ _=>hf.block i z hn,hf.stay,λk _ s=>by rw[lR P]at s;exact s⟩
theorem jJ.cells(hf:jJ cp bT lp p w w')(h:CL w B cp gp bT m lp p bD bN n c l d){k:Nat}{b:Array Value}{t:TypeId}(a:w.heap[k]?=some (.cells b t (0,0)))(g:t≠65)(i:t≠200)(j:t≠177)(o:t≠34)(q:t≠89)(r:t≠194)(s:t≠174)(u:t≠170):w'.heap[k]?=some (.cells b t (0,0)):=by
 have⟨pv,y,x,D,N,v⟩:=h.lg;refine(hf.block k (zza.1 a).1 (v.free a g i j o q) ?_<|h.co.rd_not a s u).trans a;intro f;simp at f;obtain e|e:=f
 .obtain⟨cs,jY⟩:=h.co.w_;rw[e,jY]at a;cases a;exact r rfl
 .obtain⟨es,c2,e2⟩:=h.co.aD.isMap;rw[e,e2]at a;cases a
end
section
variable{w w':nL}{B cp gp bT m m' lp p bD bN n n':Nat}{c c':bL}{l l':au}{d d':aj}
theorem jJ.kO(hf:jJ cp bT lp p w w')(h:CL w B cp gp bT m lp p bD bN n c l d):IFr B w w':=by
 have⟨pv,s,v,D,N,f⟩:=h.lg;exact⟨⟨hf.os,hf.tape,hf.output,hf.size,λk e=>hf.block k (zzl e f.bP.base.2.2.2) (λo=>by have:=f.ge o;omega) (by have:=h.co.low;simp;omega) λg=>by have:=(h.co.Tv g).1;omega⟩,λk a b x y e=>hf.cells h e du du du du du du du du,λk x e=>hf.cells h e du du du du du du du du⟩
theorem CL.aJ(h:CL w B cp gp bT m lp p bD bN n c l d)(a b:Int)(hf:Fr [p] w w'){pv:Value}(hb:w'.heap[p]?=some (lH bD bN pv a b d.down))(Y:w.heap[p]?=some (lH bD bN pv d.left d.full d.down)):
  CL w' B cp gp bT m lp p bD bN n c l (d.aJ a b)/\jJ cp bT lp p w w':=by
 have⟨V,s,v,D,N,f⟩:=h.lg;have e:V=pv:=by have:=f.bP.blk;rw[Y]at this;cases this;rfl
 subst e;have⟨g,i⟩:=f.aJ a b hf hb;exact h.log i ⟨_,_,_,_,_,g⟩
theorem CL.other{q:Nat}{f:Array Value}{t:TypeId}(h:CL w B cp gp bT m lp p bD bN n c l d)(hf:Fr [q] w w')(a:w.heap[q]?=some (.cells f t (0,0)))(i:t≠65)(j:t≠200)(o:t≠177)(r:t≠34)(s:t≠89)(u:t≠9)(D:t≠194)(v:t≠273)(x:t≠174)(G:t≠170):CL w' B cp gp bT m lp p bD bN n c l d:=by
 have⟨pv,H,F,E,N,y⟩:=h.lg;have⟨cs,Y⟩:=h.co.w_;have z:q≠cp:=by grind
 have A:q≠bT:=by intro e;have⟨es,c2,g⟩:=h.co.aD.isMap;rw[e,g]at a;cases a
 have C:gp≠q:=by intro e;have:=h.qD;rw[e,a]at this;cases this;exact v rfl
 exact⟨h.co.fr hf λk b=>by simp at b;subst b;exact⟨z,A,h.co.rd_not a x G⟩,⟨_,_,_,_,_,y.other hf a i j o r s u⟩,(hf.block gp (zza.1 h.qD).1<|by simpa using C).trans h.qD,h.ne,h.PG⟩
theorem CL.Tz{q:Nat}{r:Array Value}{t:TypeId}(h:CL w B cp gp bT m lp p bD bN n c l d)(hf:Fr [q] w w')(o:w.heap[q]?=some (.cells r t (0,0)))(a:t≠65)(b:t≠200)(e:t≠177)(f:t≠34)(g:t≠89)(i:t≠9)(s:t≠194)(u:t≠273)(v:t≠174)(G:t≠170):CL w' B cp gp bT m lp p bD bN n c l d/\∀k,Own lp p w' k->Own lp p w k:=by
 refine⟨h.other hf o a b e f g i s u v G,λk x=>?_⟩;have⟨pv,z,y,D,N,j⟩:=h.lg;rw[j.own];exact((j.other hf o a b e f g i).own k).1 x
theorem jJ.ZG{c:nL}{q:Nat}(h:jJ cp bT lp p c w)(hf:Fr [q] w w')(i:c.heap.size<=q)(o:∀k,Own lp p w' k->Own lp p w k)(g:w'.heap[cp]?=w.heap[cp]?):jJ cp bT lp p c w':=
 ⟨hf.os.trans h.os,hf.tape.trans h.tape,hf.output.trans h.output,zzk h.size hf.size,λk a d e f=>(hf.block k (zzl a h.size) ef).trans<|h.block k a d e f,λk a b=>h.stay k a<|o k b,λk a b=>h.own k a<|by rw[lR g]at b;exact b⟩
end
section
open Go.Shelf
theorem nr{w:nL}{o:Oper}{a:Act}{K:Act->nL->Prop}{Q:Exit->Act->nL->Prop}(s x:Operand)
  (d:o.op=.call {callee:=.builtin .append,args:=#[s,x],argTypes:=#[118,118]})
  (base:Nat) (v:Value) (n:Nat) (xs:List Value) (t:Nat) (k y:Int) (b:Nat) (e:a.eval s=v) (M:w.ownsRow base 170 3 v n xs) (hx:a.eval x=.slice (some<|gi b) 1 1)
  (hb:w.heap[b]?=some (.cells #[.int .u64 (t:Int),.int .i64 k,.int .i64 y] 170 (0,0))) (hn:n<=4398046511103) (B:base<=w.heap.size)
  (h:∀c w',w'.ownsRow base 170 3 c (n+1) (xs++[.int .u64 (t:Int),.int .i64 k,.int .i64 y])->w.grownBy w' v.ownBlock->(c.ownBlock=v.ownBlock\/c.ownBlock=some w.heap.size)->K (a.put o.dst c) w'):o.wp prog a w K Q:=by
 have⟨m,i,f,g,j⟩:=tO Nv;have l:=af hb 0;have kn:=af hb 1;have iy:=af hb 2;simp at l kn iy;refine gV s x 118 d base 170 m _ 3 24 underlying118 i f g j rfl du v n xs e M (gi b) 1 1 [.int .u64 (t:Int),.int .i64 k,.int .i64 y] hx rfl ?_ ?_ eE dp B ?_
 .intro jj u fK;match jj,fK with
  |0,fK=>simp at fK;subst fK;simpa [Addr.add]using l
  |1,fK=>simp at fK;subst fK;simpa [Addr.add]using kn
  |2,fK=>simp at fK;subst fK;simpa [Addr.add]using iy
 .intro u hu;simp at hu;obtain rfl|rfl|rfl:=hu<;>rfl
 .intro c w' qy EV ha';exact h c w' qy EV ha'
theorem sO(B p G l n t E:Nat)(q:Nat->Bool)(hm:uQ E q)(CH:Enters E)(x:Nat)(c:bL)(w:nL)(h:a_ w B p G l n c)(ht:t<2^64)(hn:n+9<1000000000):
  Calls prog 180 #[gx p,.int .u64 (t:Int),.int .i64 (x:Int),Fb E] w λe w'=>e=.returned (.tuple #[])/\a_ w' B p G l (n+9) { c with out:=c.out++(bV q (c.tx t).parts).map λk=>(t,k,x) }/\gQ p [p] w w':=by
 obtain⟨d,Z⟩:∃d,d=((w.alloc (.cells #[.pointer (some ⟨p,0,none⟩)] 68)).alloc (.cells #[.int .u64 (t:Int)] 34)).alloc (.cells #[.int .i64 (x:Int)] 3):=⟨_,rfl⟩;have lh:Fr [] w d:=by rw[Z];exact(((fU w).alloc _).alloc _).alloc _
 have ni:d.heap.size=w.heap.size+3:=by rw[Z];simp
 have r0:d.heap[w.heap.size]?=some (.cells #[.pointer (some ⟨p,0,none⟩)] 68 (0,0)):=by rw[Z,zzf _ _ w.heap.size ef,zzf _ _ w.heap.size dv];exact oz w _
 have r1:d.heap[w.heap.size+1]?=some (.cells #[.int .u64 (t:Int)] 34 (0,0)):=by
  rw[Z,zzf _ _ (w.heap.size+1) dv];have:=oz (w.alloc (.cells #[.pointer (some ⟨p,0,none⟩)] 68)) (.cells #[.int .u64 (t:Int)] 34)
  rwa [zzv] at this
 have r2:d.heap[w.heap.size+2]?=some (.cells #[.int .i64 (x:Int)] 3 (0,0)):=by
  rw[Z];have:=oz ((w.alloc (.cells #[.pointer (some ⟨p,0,none⟩)] 68)).alloc (.cells #[.int .u64 (t:Int)] 34)) (.cells #[.int .i64 (x:Int)] 3)
  rwa [zzv,zzv] at this
 have lx:=h.new lh;have bZ:=h.GA t;obtain⟨rv,ov,h1,_⟩:=lx.ex;have dM:p<d.heap.size:=lx.jS.1;have c1:=af h1 1;have v0:=af r0 0;have v1:=af r1 0;simp at c1 v0 v1;have hl:∀W,Fr [] d W->(Instr.lookup 192 (.map (some l)) (.int .u64 (t:Int)) false).run prog W=.ok (lz (c.tx t)) W:=λW hW=>(lx.new hW).iQ ht
 have wU:=hl d.drew (fU d).drew;have ab:=yY.1 (DU 5 E (c.tx t) bZ d.drew);have C:=ah (show a_ d B p G l n c/\Fr [] w d/\d.heap[w.heap.size]?=some (.cells #[.pointer (some ⟨p,0,none⟩)] 68 (0,0))/\d.heap[w.heap.size+1]?=some (.cells #[.int .u64 (t:Int)] 34 (0,0))/\d.heap[w.heap.size+2]?=some (.cells #[.int .i64 (x:Int)] 3 (0,0)) from ⟨lx,lh,r0,r1,r2⟩);obtain⟨T,hT⟩:∃T,T=c.tx t:=⟨_,rfl⟩;rw[<-hT] at wU ab bZ ⊢;clear hT;clear h lx lh r0 r1 r2 h1 hl;have ae:Fence.wide.round=none:=rfl;have CC:Fence.wide.fn 285:=trivial;refine(yY (n:=6)).1 ?_;refine callsIn_of_wp_marks func180 rfl trivial ?_ ae;simp only[ntmps180,ji,zzr,jn,Nat.reduceAdd,Nat.reduceSub,mK,jo,j7,j8,kV,lC]
 gi_wp2
 rw[<-Z];clear Z;refine wpIn_wide.2 ?_
 go_region_held3 (λw'=>w'.cell? ⟨w.heap.size,0,none⟩=some (.pointer (some ⟨p,0,none⟩))/\w'.cell? ⟨w.heap.size+1,0,none⟩=some (.int .u64 (t:Int))/\w'.cell? ⟨p,1,none⟩=some (.map (some l)))
  (simp[*])
  (first|(go_at_call 244;refine ab.mono ?_;rintro e w2 ⟨rfl,lI⟩;have i:Fr [] d w2:=(by rw[lI];exact((fU d).drew.alloc _).alloc _);have z0:=(zze (a:=⟨w.heap.size,0,none⟩) (i.block w.heap.size dp dv)).trans v0;have z1:=(zze (a:=⟨w.heap.size+1,0,none⟩) (i.block (w.heap.size+1) dp dv)).trans v1;have z2:=(zze (a:=⟨p,1,none⟩) (i.block p dM dv)).trans c1;have H2:=ah (show Fr [] d w2/\w2=(d.drew.alloc (.cells (J9 T).toArray 249)).alloc (.cells #[Fb E] 251) from ⟨i,lI⟩);clear i lI))
 have ag:w2.heap.size=w.heap.size+5:=by rw[H2.2];simp;omega
 have q1:w2.heap[w.heap.size+3]?=some (.cells (J9 T).toArray 249 (0,0)):=by
  rw[H2.2,zzf _ _ _ ef];have:=oz d.drew (.cells (J9 T).toArray 249);rw[show d.drew.heap.size=w.heap.size+3 from ni] at this;exact this
 have q2:w2.heap[w.heap.size+3+1]?=some (.cells #[Fb E] 251 (0,0)):=by
  rw[H2.2];have:=oz (d.drew.alloc (.cells (J9 T).toArray 249)) (.cells #[Fb E] 251);rw[zzv,show d.drew.heap.size=w.heap.size+3 from ni] at this;exact this
 have i:=H2.1;have P:=C.1.new i;have u0:=(i.block w.heap.size dp dv).trans C.2.2.1;have u1:=(i.block (w.heap.size+1) dp dv).trans C.2.2.2.1;have u2:=(i.block (w.heap.size+2) dp dv).trans C.2.2.2.2
 have Cz:p<w.heap.size:=by
  obtain⟨cs,hc⟩:=C.1.w_;by_cases e:p<w.heap.size
  .exact e
  .have h3:p=w.heap.size\/p=w.heap.size+1\/p=w.heap.size+2:=dp;rcases h3 with e|e|e
   .rw[e,C.2.2.1] at hc;cases hc
   .rw[e,C.2.2.2.1] at hc;cases hc
   .rw[e,C.2.2.2.2] at hc;cases hc
 have HR:=ah (show Fr [] w w2 from C.2.1.trans i);clear C H2 i z0 z1 z2 v0 v1 c1 ab wU
 gi_wp2
 refine wT (F:=Fence.wide) (n:=6) rfl dp (gf:=285) (lb:=#[.pointer (some ⟨w.heap.size+3,0,none⟩),.pointer (some ⟨w.heap.size+3+1,0,none⟩)]) rfl trivial (enters_of func285 eu rfl)
  (encs:=λy:Nat=>#[.int .i64 (y:Int)]) (rs:=bV q T.parts) (S:=[w.heap.size+3,w.heap.size+3+1]) (λ_=>rfl) (by intro k f;simp at f;omega)
  (λWx k9 _=>Ig 5 dp _ (w.heap.size+3) (w.heap.size+3+1) E q hm CH T bZ Wx ((k9.block _ dp).trans q1) ((k9.block _ dp).trans q2))
  (λm A=>a_ A B p G l (n+m.length) { c with out:=c.out++m.map λk=>(t,k,x) }/\gQ p [p] w2 A)
  (λWx k9=>⟨by simpa using P.new (Fr.bE k9 []),(Fr.bE k9 []).r P.jS.1 dv dv⟩)
  (λs A r u ym Q=>by
   obtain⟨r0,Q⟩:=Q;have I:Fr [w2.heap.size+1] A (A.putObj (w2.heap.size+1) (.loop r)):=⟨rfl,rfl,rfl,by rw[cJ];exact zzc _,λj _ O=>qY (by simpa using O)⟩;have a7:(A.putObj (w2.heap.size+1) (.loop r)).heap[p]?=A.heap[p]?:=qY dp;refine⟨u.1.fr I (λk f=>?_),⟨u.2.fr.os,u.2.fr.tape,u.2.fr.output,by rw[cJ];exact u.2.fr.size,λj O hS=>(qY dp).trans (u.2.fr.block j O hS)⟩,λk f hm=>u.2.stay k f (by rw[lR a7] at hm;exact hm)⟩;simp at f;subst f;refine⟨dp,λe=>?_,λe=>?_⟩
   .obtain⟨es,cc,R⟩:=u.1.aD.isMap;rw[<-e,Q] at R;cases R
   .obtain⟨_,c9,t9,e9,_⟩:=u.1.Tv e
    rw[Q] at e9;cases e9)
  (λy a' A=>a'={ tmps:=#[.pointer (some ⟨p,0,none⟩),.int .u64 (t:Int),.int .i64 (x:Int),Fb E,.pointer (some ⟨w.heap.size,0,none⟩),.pointer (some ⟨w.heap.size+1,0,none⟩),.pointer (some ⟨w.heap.size+1+1,0,none⟩),undef,.int .i64 (y:Int),.pointer (some ⟨p,0,none⟩),.pointer (some ⟨p,0,none⟩),.pointer (some ⟨p,1,none⟩),.map (some l),.int .u64 (t:Int),lz T,Fb E,.func (.func 285) #[] #[.pointer (some ⟨w.heap.size+3,0,none⟩),.pointer (some ⟨w.heap.size+3+1,0,none⟩)],.int .i64 (y:Int),undef,undef,undef,undef,undef,undef,undef,undef,undef,undef,undef,undef,undef],defers:=[] })
  (λy a' A r u=>u)
  ?assign ?body ?done
 case assign =>
  have pV:=@Bg;rintro m y A K hI ym eN b
  gi_wp2
  exact b _ _ hI (nP.refl _) rfl
 case body =>
  have pV:=@Bg;rintro m y a' A ⟨BF,vG⟩ ym rfl eN sL Q
  have qI:m.length+1<=9:=by
   have:=eN.length_le
   have h9:(bV q T.parts).length<=9:=by
    refine zzk (Hm _ _) ?_;simp
   simp at this;omega
  have B0:=gQ.cells vG P u0 ef du du;have B1:=gQ.cells vG P u1 ef du du;have B2:=gQ.cells vG P u2 ef du du;have B3:=gQ.cells vG P q1 ef du du;have B4:=gQ.cells vG P q2 ef du du;obtain⟨c',V6⟩:∃c':bL,c'={ c with out:=c.out++m.map λk=>(t,k,x) }:=⟨_,rfl⟩;rw[<-V6] at BF;obtain⟨gM,J,D,M,g3,g4,g5⟩:=BF.ex;have an:=g4.1;have ao:=g5.1;have Iq:J.ownBlock≠some p:=aQ g3 D du;have m0:J.ownBlock≠some w.heap.size:=aQ g3 B0 du;have m1:J.ownBlock≠some (w.heap.size+1):=aQ g3 B1 du;have m2:J.ownBlock≠some (w.heap.size+1+1):=aQ g3 B2 du;have aa:p<A.heap.size:=BF.jS.1;have a0:=af B0 0;have a1:=af B1 0;have a2:=af B2 0;have a6:=af D 6;simp at a0 a1 a2 a6;have H:=ah (show a_ A B p G l (n+m.length) c'/\A.heap[p]?=some (ub G l c' gM J)/\A.ownsRow B 174 2 gM c'.res.length (lj c'.res)/\A.ownsRow B 170 3 J c'.out.length (jv c'.out)/\C7 gM c'.res.length (n+m.length)/\C7 J c'.out.length (n+m.length) from ⟨BF,D,M,g3,g4,g5⟩)
  have HE:=ah (show ∀W',a_ W' B p G l (n+m.length+1) { c' with out:=c'.out++[(t,y,x)] }/\gQ p [p] A W'->(a_ W' B p G l (n+(m++[y]).length) { c with out:=c.out++(m++[y]).map λk=>(t,k,x) }/\gQ p [p] w2 W')/\nP (w2.heap.size :: (w2.heap.size+1) :: [w.heap.size+3,w.heap.size+3+1]) A W' from λW' h=>⟨⟨by have h9:=h.1;rw[V6] at h9;rw[zzi,List.length_singleton,<-Nat.add_assoc,BB,<-zzx];exact h9,gQ.trans vG h.2⟩,h.2.fr.size,λk f bW=>h.2.fr.block k bW (λR=>by
   rcases zzo.1 R with e|e
   .simp at f e;omega
   .obtain⟨_,c9,t9,e2,_⟩:=BF.Tv e;obtain⟨r0,Q⟩:=Q;simp at f;rcases f with rfl|rfl|rfl|rfl
    .rw[sL] at e2;cases e2
    .rw[Q] at e2;cases e2
    .exact BF.rd_not B3 du du e
    .exact BF.rd_not B4 du du e)⟩)
  have Fk:∀o,(A.drew.alloc o).cell? ⟨w.heap.size,0,none⟩=some (.pointer (some ⟨p,0,none⟩)):=λo=>(sR _ _ _ (by show w.heap.size<A.heap.size;omega)).trans a0
  have o6:∀o,(A.drew.alloc o).cell? ⟨w.heap.size+1,0,none⟩=some (.int .u64 (t:Int)):=λo=>(sR _ _ _ (by show w.heap.size+1<A.heap.size;omega)).trans a1
  have a8:∀o,(A.drew.alloc o).cell? ⟨w.heap.size+1+1,0,none⟩=some (.int .i64 (x:Int)):=λo=>(sR _ _ _ (by show w.heap.size+1+1<A.heap.size;omega)).trans a2
  have al:∀o,(A.drew.alloc o).cell? ⟨p,6,none⟩=some J:=λo=>(sR _ _ _ aa).trans a6
  clear BF vG D M g3 B3 B4
  gi_wp2
  refine hZ (S:=(λw'=>w'.cell? ⟨w.heap.size,0,none⟩=some (.pointer (some ⟨p,0,none⟩))/\w'.cell? ⟨w.heap.size+1,0,none⟩=some (.int .u64 (t:Int))/\w'.cell? ⟨w.heap.size+1+1,0,none⟩=some (.int .i64 (x:Int)))) eu eu (by rintro⟨a,w,hq⟩;cases hq.1) ?_ (λN=>?_)
  .simp[*]
  refine b_ 0 ?_;refine b_ 1 ?_;refine b_ 2 ?_;refine b_ 3 ?_;refine b_ 5 ?_;refine b_ 6 ?_;refine b_ 7 ?_;refine b_ 8 ?_
  (try simp only[Act.put,mA,hU,mI])
  refine um (rs:=[4,9]) eu dv ?_;refine yg (λK b=>?_) (yg (λK b=>?_) ua)
  .go_simp;refine b.out _ _ ?_ (λN=>?_)
   .simp[*]
   clear b K
   (try simp only[Act.put,mA,hU,mI])
   refine um (rs:=[9]) eu dv ?_;refine yg (λK b=>?_) ua;go_simp;refine b.out _ _ ?_ (λN=>?_)
   .exact⟨Fk _,o6 _,a8 _⟩
   clear b K
   (try simp only[Act.put,mA,hU,mI])
   refine um (rs:=[10]) eu dv ?_;refine Jc rfl (λK b=>?_) ua;rw[oo (by rfl)];refine nr _ _ rfl B J c'.out.length (jv c'.out) t (y:Int) (x:Int) A.heap.size rfl (ar H.2.2.2.1 ((fU A).drew.alloc _) dv) rfl (oz _ _) dp (by have:=H.1.low;simp;omega) ?_;intro v' L U V dX;obtain⟨av,mv,cv,rfl⟩:=dN U;have Y:Fr [] A (A.drew.alloc (.cells #[.int .u64 (t:Int),.int .i64 (y:Int),.int .i64 (x:Int)] 170)):=(fU A).drew.alloc _;have HN:=ah (H.1.due H.2.1 H.2.2.1 H.2.2.2.1 H.2.2.2.2.1 H.2.2.2.2.2 (t,y,x) Y V U (λg hg=>dX.elim (λe=>.inl (e▸hg)) (λe=>.inr (by rw[e] at hg;cases hg;simp))));have z:Fr J.ownBlock.toList A L:=(Y.mono dv).trans (Fr.cA V);have X:=(z.block p aa (by simp;exact Iq)).trans H.2.1;have g0:=(z.block w.heap.size dp (by simp;exact m0)).trans B0;have D:=(z.block (w.heap.size+1) dp (by simp;exact m1)).trans B1;have M:=(z.block (w.heap.size+1+1) dp (by simp;exact m2)).trans B2;have d6:=af X 6;have f6:=aq X 6;have k0:=af g0 0;have k1:=af D 0;have k2:=af M 0;simp at d6 k0 k1 k2;have y0:=λv=>(dL L p 6 w.heap.size 0 v dp).trans k0
   have y1:=λv=>(dL L p 6 (w.heap.size+1) 0 v dp).trans k1
   have y2:=λv=>(dL L p 6 (w.heap.size+1+1) 0 v dp).trans k2
   clear U V dX Y z X g0 D M;refine b.out _ _ ?_ (λN=>?_)
   .simp[*]
   clear b K
   (try simp only[Act.put,List.setIfInBounds_toArray])
   refine b_ 11 ?_;refine b_ 12 ?_
   (try simp only[Act.put])
   refine um (rs:=[13]) eu dv ?_;refine Jc rfl (λK b=>?_) ua;go_simp;refine b.out _ _ ?_ (λN=>?_)
   .simp[*]
   clear b K
   (try simp only[Act.put,mA,hU,mI])
   refine Cj eu ?_ _;exact⟨rfl,HE.out _ HN.out⟩
  .go_simp;refine b.out _ _ ?_ (λN=>?_)
   .exact⟨Fk _,o6 _,a8 _⟩
   clear b K
   (try simp only[Act.put,mA,hU,mI])
   refine um (rs:=[4]) eu dv ?_;refine yg (λK b=>?_) ua;go_simp;refine b.out _ _ ?_ (λN=>?_)
   .exact⟨Fk _,o6 _,a8 _⟩
   clear b K
   (try simp only[Act.put,mA,hU,mI])
   refine um (rs:=[10]) eu dv ?_;refine Jc rfl (λK b=>?_) ua;rw[oo (by rfl)];refine nr _ _ rfl B J c'.out.length (jv c'.out) t (y:Int) (x:Int) A.heap.size rfl (ar H.2.2.2.1 ((fU A).drew.alloc _) dv) rfl (oz _ _) dp (by have:=H.1.low;simp;omega) ?_;intro v' L U V dX;obtain⟨av,mv,cv,rfl⟩:=dN U;have Y:Fr [] A (A.drew.alloc (.cells #[.int .u64 (t:Int),.int .i64 (y:Int),.int .i64 (x:Int)] 170)):=(fU A).drew.alloc _;have HN:=ah (H.1.due H.2.1 H.2.2.1 H.2.2.2.1 H.2.2.2.2.1 H.2.2.2.2.2 (t,y,x) Y V U (λg hg=>dX.elim (λe=>.inl (e▸hg)) (λe=>.inr (by rw[e] at hg;cases hg;simp))));have z:Fr J.ownBlock.toList A L:=(Y.mono dv).trans (Fr.cA V);have X:=(z.block p aa (by simp;exact Iq)).trans H.2.1;have g0:=(z.block w.heap.size dp (by simp;exact m0)).trans B0;have D:=(z.block (w.heap.size+1) dp (by simp;exact m1)).trans B1;have M:=(z.block (w.heap.size+1+1) dp (by simp;exact m2)).trans B2;have d6:=af X 6;have f6:=aq X 6;have k0:=af g0 0;have k1:=af D 0;have k2:=af M 0;simp at d6 k0 k1 k2;have y0:=λv=>(dL L p 6 w.heap.size 0 v dp).trans k0
   have y1:=λv=>(dL L p 6 (w.heap.size+1) 0 v dp).trans k1
   have y2:=λv=>(dL L p 6 (w.heap.size+1+1) 0 v dp).trans k2
   clear U V dX Y z X g0 D M;refine b.out _ _ ?_ (λN=>?_)
   .simp[*]
   clear b K
   (try simp only[Act.put,List.setIfInBounds_toArray])
   refine b_ 11 ?_;refine b_ 12 ?_
   (try simp only[Act.put])
   refine um (rs:=[13]) eu dv ?_;refine Jc rfl (λK b=>?_) ua;go_simp;refine b.out _ _ ?_ (λN=>?_)
   .simp[*]
   clear b K
   (try simp only[Act.put,mA,hU,mI])
   refine Cj eu ?_ _;exact⟨rfl,HE.out _ HN.out⟩
 case done =>
  rintro A ⟨BF,vG⟩ ym b
  gi_wp2
  refine⟨dv,.inl ⟨_,_,rfl,DK b,?_⟩⟩;obtain⟨W9,Nh⟩:∃W9,W9=A.putObj w2.heap.size (.deferred none):=⟨_,rfl⟩;rw[<-Nh];have I:Fr [w2.heap.size] A W9:=by rw[Nh];exact⟨rfl,rfl,rfl,by rw[cJ];exact zzc _,λj _ O=>qY (by simpa using O)⟩
  have h9:a_ W9 B p G l (n+(bV q T.parts).length) { c with out:=c.out++(bV q T.parts).map λk=>(t,k,x) }:=BF.fr I (λk f=>by
   simp at f;subst f;refine⟨dp,λe=>?_,λe=>?_⟩
   .obtain⟨es,cc,R⟩:=BF.aD.isMap;rw[<-e,b] at R;cases R
   .obtain⟨_,c9,t9,e9,_⟩:=BF.Tv e
    rw[b] at e9;cases e9)
  have Ng:(bV q T.parts).length<=9:=by
   refine zzk (Hm _ _) ?_;simp
  have ad:p<w2.heap.size:=P.jS.1
  have OP:gQ p [p] w W9:=by
   have k1:gQ p [p] w w2:=HR.out.r Cz dv dv;have a7:W9.heap[p]?=A.heap[p]?:=I.block p (zzl ad vG.fr.size) ef;refine k1.trans ⟨⟨I.os.trans vG.fr.os,I.tape.trans vG.fr.tape,I.output.trans vG.fr.output,zzk vG.fr.size I.size,λj O hS=>(I.block j (zzl O vG.fr.size) ef).trans (vG.fr.block j O hS)⟩,λk f hm=>vG.stay k f (by rw[lR a7] at hm;exact hm)⟩
  exact⟨_,xw rfl _ _ _,rfl,h9.mono dp,OP⟩
end
end Go.Proofs.YtlgeloebpdmnnaaGreatDoor
