import Derived.Test.YtcalalndmcemiaaGreatDoorC28
import Derived.Test.YtcalalndmcemiaaGreatDoorC30
set_option maxHeartbeats 4000000
set_option maxRecDepth 100000
namespace Go.Proofs.YtcalalndmcemiaaGreatDoor
open Go.RowKit Go.Maps Tryz Sc
variable{S:List Nat}{x:Nat}{a b:Option Addr}
theorem TE:(Tryz.prog.info? 151).map (λi=>(i.zero,i.size,i.bytes))=some (some (.agg #[.int .i64 0,.int .i64 0,.int .i64 0,.int .u64 0]),4,32):=by kernel_rfl
def r9(B d i:Nat)(c ss:Option Addr)(v:Value)(out:List bt)(w w':World):Prop :=
 ∃l,w'.heap[d]?=some (gK i c ss l)/\w'.ownsRow B 151 4 l out.length (py out)/\Fr (d :: v.ownBlock.toList) w w'/\∀g,l.ownBlock=some g->v.ownBlock=some g\/w.heap.size<=g
theorem nY(B d i kind dst aP:Nat)(l ss:Option Addr)(v:Value)(out:List bt)(w:World)(G:w.heap[d]?=some (gK i l ss v))(z:w.ownsRow B 151 4 v out.length (py out))(K:B<=w.heap.size)(hlen:out.length<67108864):
  Calls prog 113 #[.pointer (some ⟨d,0,none⟩),.int .i64 (kind:Int),.int .i64 (dst:Int),.int .u64 (aP:Int)] w λe w'=>e=.returned (.tuple #[])/\r9 B d i l ss v (out++[⟨kind,i,dst,aP⟩]) w w':=by
 obtain⟨S,T,L,M,O⟩:=info_parts TE;have t:v.ownBlock≠some d:=bj z G (by decide);obtain⟨q,p,c⟩:=hZ z;have X:=af (zzb G z);have D:d<w.heap.size:=(zza.1 G).1;have I:=ae G 0;have A:=ae G 3;simp at I A;obtain⟨n,y⟩:∃n,n=out.length:=⟨_,rfl⟩;rw[<-y] at z c hlen;have N:Hid (out.length=n):=y.symm;rw[c] at A;have E:Hid (v=.slice q n p):=c;have V:∀b,(w.alloc b).cell? ⟨d,3,none⟩=some (.slice q n p):=λb=>(zze (a:=⟨d,3,none⟩) (zzf w b d D)).trans A
 have W:∀b,(w.alloc b).cell? ⟨d,0,none⟩=some (.int .i64 (i:Int)):=λb=>(zze (a:=⟨d,0,none⟩) (zzf w b d D)).trans I
 rw[c] at z t;have P:(Value.slice q n p).ownBlock≠some d:=t;have Q:=af z;clear z y c G t
 go_enter func113,ntmps113
 go_wp2
 go_region_law (first|(rw[if_pos (by rfl)];refine gO _ _ 208 rfl B 151 S _ 4 32 underlying208 T L M O rfl (by decide) _ n (py out) rfl (Q.out.alloc _) ⟨w.heap.size,0,none⟩ 1 1 [.int .i64 (kind:Int),.int .i64 (i:Int),.int .i64 (dst:Int),.int .u64 (aP:Int)] rfl rfl (dU _ #[.int .i64 (kind:Int),.int .i64 (i:Int),.int .i64 (dst:Int),.int .u64 (aP:Int)] _) (by intro u H;simp at H;rcases H with rfl|rfl|rfl|rfl<;>rfl) (by unfold maxLen;omega) (by omega) (zzk K (by simp)) ?_;intro Z r x C F;obtain⟨o,c5,rfl⟩:=hZ x;have h:r.heap[d]?=some (gK i l ss (.slice q n p)):=(C.block d (by simp;omega) (λe=>P e.symm)).trans ((zzf w _ d D).trans (by rw[<-E.out];exact X.1));have U:=ae h 3;have Y:=aj h 3;simp at U))
 all_goals
  have J:Fr [d] r (r.setCell ⟨d,3,none⟩ (.slice o (n+1) c5)):=Fr.cD (by simp) _ _
  have R:Hid (r9 B d i l ss v (out++[⟨kind,i,dst,aP⟩]) w (r.setCell ⟨d,3,none⟩ (.slice o (n+1) c5))):=by
   refine⟨.slice o (n+1) c5,?_,?_,?_,?_⟩
   .have:=ar h 3 (.slice o (n+1) c5)
    simpa using this
   .rw[Im,zzi,N.out];exact aD x J (λg f=>by simp;intro e;subst e;exact bj x h (by decide) f)
   .rw[E.out];exact((((Fr.refl _ w).alloc _).drew).andThen ((Fr.bz C).mono (λk _ m=>List.mem_cons_of_mem d m)) (λj s _=>s)).andThen (J.mono (λk _ m=>by simp at m;simp[m])) (λj s _=>s)
   .rw[E.out];exact λg f=>F.elim (λe=>.inl (e▸f)) (λe=>.inr (by rw[e] at f;cases f;simp))
  clear x C F h J;go_wp2;go_end0;exact⟨rfl,R.out⟩
theorem pO.same(U a E Z h p:Nat)(w:World):pO U a E Z h p w w:=⟨rfl,rfl,rfl,zzc _,λ_ _ _ _=>rfl,λ_ _ b=>b⟩
theorem mN.same(I E h p:Nat)(w:World):mN I E h p w w:=⟨rfl,rfl,rfl,zzc _,λ_ _ _ _ _=>rfl,λ_ _ a=>a,λ_ _ a=>a⟩
def P0(B U G a E Z m h p J O n:Nat)(s':ag)(w w':World):Prop :=
 ∃l d m' n',SL w' B U G a E Z m' h p J O n' s' l d/\pO U a E Z h p w w'/\mD l d/\m'<=m+20/\n' + l.segs.length<=n+4
def yV(B I G E m h p J O n:Nat)(c':aU)(w w':World):Prop :=
 ∃l d m' n',CL w' B I G E m' h p J O n' c' l d/\mN I E h p w w'/\mD l d/\m'<=m+150/\n' + l.segs.length<=n+4
def ag.fC(s:ag)(t:Nat):Nat:=if (s.aP t).state=0\/(s.aP t).state=3 then 0 else 4
def ag.dD(s:ag)(t:Nat):ag:=if (s.aP t).state=3 then s.comm t else s
section
variable(B U G a E Z m h p J O n t K:Nat)(s:ag)(l:au)(d:ah)(w:World)
theorem Ty(hs:SL w B U G a E Z m h p J O n s l<|d.bQ (-1)<|-1)(b:mD l d)(i:cz K s)(v:m<=60000000)(hn:n<=60000000)(r:2<=B)(H:bI w)(u:t<18446744073709551616)(o:t≠0):
  Calls prog 247 #[.pointer<|some ⟨U,0,none⟩,.int .u64 (t:Int)] w λe w'=>e=.returned (.tuple #[.int .i64 ((s.kh t).2:Int),.nilIface])/\P0 B U G a E Z m h p J O (n+l.segs.length) (s.kh t).1 w w':=by
 apply(EM B U G a E Z m h p J O n t s l _ w hs u bL r b.segs H bL (by have:=i.cnt t;omega) i.small).mono;rintro e w' ⟨L,h1,h2,rfl,ow,hf⟩;have k:=b.keep 1 _<|i.entry t h1 h2;have j:=XM i.once.2.2 h1 h2;unfold ag.gQ at ow ⊢;unfold ag.kh;rw[if_neg o]at ow ⊢;by_cases c:(s.aP t).state=3
 .rw[if_pos c]at ow ⊢;rw[if_pos c];exact⟨rfl,l,_,_,_,ow,hf,b.bQ _ _,bL,bL⟩
 .rw[if_neg c]at ow ⊢;rw[if_neg c];by_cases f:(s.aP t).state=1
  .rw[if_pos f]at ow ⊢;rw[if_pos f];unfold ag.pJ at ow ⊢;rw[j]at ow ⊢;by_cases g:s.wr t=true
   .rw[if_pos g,if_pos k.1]at ow ⊢;rw[if_pos g];exact⟨rfl,_,_,_,_,ow,hf,k.2.1,bL,by have q:=k.2.2;simp only[]at q ⊢;omega⟩
   .rw[if_neg g]at ow ⊢;rw[if_neg g];exact⟨rfl,l,_,_,_,ow,hf,b.bQ _ _,bL,bL⟩
  .rw[if_neg f]at ow ⊢;rw[if_neg f];exact⟨rfl,l,_,_,_,ow,hf,b.bQ _ _,bL,bL⟩
theorem Tz(hs:SL w B U G a E Z m h p J O n s l<|d.bQ (-1)<|-1)(c:mD l d)(g:cz K s)(r:m<=60000000)(hn:n<=60000000)(j:2<=B)(H:bI w)(i:t<18446744073709551616)(f:t≠0):
  Calls prog 248 #[.pointer<|some ⟨U,0,none⟩,.int .u64 (t:Int)] w λe w'=>e=.returned (cf<|s.fC t)/\P0 B U G a E Z m h p J O (n+l.segs.length) (s.dD t) w w':=by
 unfold ag.fC ag.dD;by_cases b:(s.aP t).state=3
 .have hk:=c.keep 2 (str<|be 8 t) (by rw[cR,dH];decide);apply(Hr B U G a E Z m h p J O n t 16 s l (d.bQ (-1)<|-1) w hs i f b bL j c.segs H eA (by have:=g.cnt t;omega) λq k=>by have:=(g.small q k).2.1;unfold maxLen;simp only[]at this;omega).mono;rintro e o ⟨rfl,⟨s',dT,sY⟩,iL⟩;rw[hk.1]at sY ⊢;rw[if_pos rfl]at sY;rw[if_pos<|.inr b,if_pos b];exact⟨rfl,_,_,_,_,⟨yU g sY dT.sh,dT.lg,dT.ap,dT.oN⟩,iL,hk.2.1,bL,bL⟩
 .refine(EK U G a E Z m t s w hs.sh i<|.inr b).mono ?_;rintro e o ⟨rfl,rfl⟩;rw[if_neg f,if_neg b];refine⟨?_,l,_,m,n,hs,pO.same _ _ _ _ _ _ _,c.bQ _ _,bL,bL⟩;congr 2;simp only[b,or_false]
theorem TA(hs:SL w B U G a E Z m h p J O n s l<|d.bQ (-1)<|-1)(c:mD l d)(hn:n<=60000000)(j:2<=B)(H:bI w)(i:t<18446744073709551616)(f:t≠0):
  Calls prog 249 #[.pointer<|some ⟨U,0,none⟩,.int .u64 (t:Int)] w λe w'=>e=.returned (cf 0)/\P0 B U G a E Z m h p J O (n+l.segs.length) (s.forget t) w w':=by
 by_cases g:(s.aP t).state=3
 .have b:=c.note 3 (str<|be 8 t) (by rw[cR,dH];decide);apply(Lz B U G a E Z m h p J O n t s l (d.bQ (-1)<|-1) w hs i f g bL j c.segs H).mono;rintro e o ⟨rfl,T,L⟩;rw[b.1]at T ⊢;rw[if_pos rfl]at T;exact⟨rfl,_,_,_,_,T,L,b.2.1,bL,bL⟩
 .refine(Hs U G a E Z m t s w hs.sh i<|.inr g).mono ?_;rintro e o ⟨rfl,fH,aQ⟩;rw[if_neg f]at fH ⊢;have⟨T,L⟩:=hs.ic fH aQ (by intro k b;simp at b ⊢;obtain e|e:=b<;>simp[e]);exact⟨rfl,l,_,m,n,T,L,c.bQ _ _,bL,bL⟩
end
/-! ### the Vh -/
abbrev fL:List Nat:=[0,0,0,0,0,0,0,0,0]
structure cN(K:Nat)(c:aU):Prop where
 once:b_ c.ai
 len:c.ai.length<=12
 fB:1<=c.next/\c.next<=K+1/\c.next<=c.aW/\c.aW<=c.next+16/\c.aC<=K
 xt:∀q∈c.ai,1<=q.1/\q.1<c.next/\q.2.since<=c.aC/\4<=q.2.state/\q.2.state<=6
def aU.begun(c:aU):aU × Nat × Nat :=
 if 12<=c.ai.length then (c,0,5) else ({ c with next:=c.next+1,aW:=if c.next=c.aW then c.aW+16 else c.aW,ai:=aV c.ai c.next ⟨4,fL,0⟩ },c.next,0)
def aU.fC(c:aU)(t:Nat)(zs:List Int):Nat:=if (c.tx t).state=0 then 7 else if (c.tx t).state≠4 then 4 else if mj 0 zs=true then 0 else 6
def aU.dD(c:aU)(t:Nat)(zs:List Int):aU:=if (c.tx t).state=4/\mj 0 zs=true then c.asked t (zs.map Int.toNat) else c
def aU.rZ(c:aU)(t:Nat):Nat:=if (c.tx t).state=0 then 7 else if (c.tx t).state=6 then 4 else 0
def aU.iR(c:aU)(t:Nat):aU:=if (c.tx t).state=0\/(c.tx t).state=6 then c else c.jV t
def aU.kT(c:aU)(t k v:Nat):aU :=
 if (c.tx t).parts.getD k 0≠1 then c
 else if v=3 then c.yP t k
 else if ((c.tx t).parts.set k v).any l_=true then { c with ai:=aV c.ai t { c.tx t with parts:=(c.tx t).parts.set k v } }
 else if ((c.tx t).parts.set k v).any jR=true then c.comm t { c.tx t with parts:=(c.tx t).parts.set k v,state:=6 }
 else { c with ai:=aT c.ai t,res:=c.res++[(t,5)] }
def aU.kn(c:aU)(t k:Nat):aU :=
 if (c.tx t).state≠6\/(c.tx t).parts.getD k 0≠2 then c
 else if ((c.tx t).parts.set k 5).any jf=true then { c with ai:=aV c.ai t { c.tx t with parts:=(c.tx t).parts.set k 5 } }
 else { c with ai:=aT c.ai t }
section
variable(B I G E m h p J O n t K:Nat)(c:aU)(l:au)(d:ah)(w:World)
theorem P1(hs:CL w B I G E m h p J O n c l<|d.bQ (-1)<|-1)(a:mD l d)(g:cN K c)(i:K<=1000000)(j:m<=60000000)(hn:n<=60000000)(f:2<=B)(H:bI w):
  Calls prog 28 #[.pointer<|some ⟨I,0,none⟩] w λe w'=>e=.returned (.tuple #[.int .u64 (c.begun.2.1:Int),cf c.begun.2.2])/\yV B I G E m h p J O (n+l.segs.length) c.begun.1 w w':=by
 have R:=g.fB;unfold aU.begun;by_cases P:12<=c.ai.length
 .rw[if_pos P];apply(Il B I G E m c w hs.co hs.oN P).mono;rintro e b ⟨rfl,aQ⟩;have⟨T,L⟩:=hs.new aQ;exact⟨rfl,l,_,m,n,T,L,a.bQ _ _,bL,bL⟩
 .rw[if_neg P];by_cases x:c.next=c.aW
  .have hk:=a.keep 1 (str<|be 8<|c.aW+16) (by rw[cR,dH];decide);apply(LW B I G E m h p J O n c l _ w hs bL x bL bL bL f a.segs H hk.1).mono;rintro e b ⟨rfl,T,L⟩;simp only[x,if_true];exact⟨rfl,_,_,_,_,T,L,hk.2.1,bL,bL⟩
  .refine(PY B I G E m c w hs.co hs.oN bL x bL bL).mono ?_;rintro e b ⟨rfl,ef,aQ⟩;have⟨T,L⟩:=hs.ic ef aQ;simp only[x,if_false];exact⟨rfl,l,_,_,n,T,L,a.bQ _ _,bL,bL⟩
theorem P2(hs:CL w B I G E m h p J O n c l<|d.bQ (-1)<|-1)(g:mD l d)(j:m<=60000000)(f:t<18446744073709551616):
  Calls prog 146 #[.pointer<|some ⟨I,0,none⟩,.int .u64 (t:Int)] w λe w'=>e=.returned (cf<|c.rZ t)/\yV B I G E m h p J O (n+l.segs.length) (c.iR t) w w':=by
 unfold aU.rZ aU.iR;by_cases a:(c.tx t).state=0
 .rw[if_pos a,if_pos<|.inl a];apply(CS B I G E m t c w hs.co f a).mono;rintro e i ⟨rfl,aQ⟩;have⟨T,L⟩:=hs.new aQ;exact⟨rfl,l,_,m,n,T,L,g.bQ _ _,bL,bL⟩
 .by_cases b:(c.tx t).state=6
  .rw[if_neg a,if_pos b,if_pos<|.inr b];apply(CT B I G E m t c w hs.co f b).mono;rintro e i ⟨rfl,aQ⟩;have⟨T,L⟩:=hs.new aQ;exact⟨rfl,l,_,m,n,T,L,g.bQ _ _,bL,bL⟩
  .rw[if_neg a,if_neg b,if_neg bL];apply(Fk B I G E m t c w hs.co f a b bL).mono;rintro e i ⟨rfl,ef,aQ⟩;have⟨T,L⟩:=hs.ic ef aQ;exact⟨rfl,l,_,_,n,T,L,g.bQ _ _,bL,bL⟩
theorem P3(xs:List Nat):(xs.map λx:Nat=>(x:Int)).map Int.toNat=xs:=by rw[List.map_map];exact(List.map_congr_left λ_ _=>bR).trans<|List.map_id _
theorem L3(k:Nat)(o:Option Addr)(zs:List Int)(hlen:zs.length<=100)(q:Tq w o zs)(hs:CL w B I G E m h p J O n c l<|d.bQ (-1)<|-1)(g:mD l d)(D:m<=60000000)(f:t<18446744073709551616):
  Calls prog 33 #[.pointer<|some ⟨I,0,none⟩,.int .u64 (t:Int),.slice o zs.length k] w λe w'=>e=.returned (cf<|c.fC t zs)/\yV B I G E m h p J O (n+l.segs.length) (c.dD t zs) w w':=by
 unfold aU.fC aU.dD;by_cases a:(c.tx t).state=0
 .rw[if_pos a,if_neg bL];apply(CU B I G E m t _ c w hs.co f a).mono;rintro e s ⟨rfl,rfl⟩;exact⟨rfl,l,_,m,n,hs,mN.same _ _ _ _ _,g.bQ _ _,bL,bL⟩
 .by_cases b:(c.tx t).state=4
  .cases hb:mj 0 zs with
   |false=>
    rw[if_neg a,if_neg bL,if_neg bR,if_neg bR];apply(Aq B I G E m t k o zs c w hs.co f bL q b hb).mono;rintro e s ⟨rfl,rfl⟩;exact⟨rfl,l,_,m,n,hs,mN.same _ _ _ _ _,g.bQ _ _,bL,bL⟩
   |true=>
    rw[if_neg a,if_neg bL,if_pos rfl,if_pos ⟨b,rfl⟩];obtain⟨xs,rfl,v⟩:=CR hb;have⟨i,A⟩:∃i,xs[0]?=some i:=⟨_,zzg<|zzE.2 v.ne⟩;have W:∀(j y:Nat),xs[j]?=some y->(xs.map λx:Nat=>(x:Int))[j]?=some (y:Int):=λj y r=>by rw[zzy,r];rfl
    obtain⟨_,z,rfl,_⟩:=q 0 (i:Int)<|W 0 i A
    have V:yt w z xs:=λj y r=>by
     have⟨_,C,u,N⟩:=q j (y:Int)<|W j y r;simp only[Option.some.injEq,Addr.mk.injEq,and_true]at u;rw[u];exact N
    rw[P3,zzn];apply(Fh B I G E m t z k xs c w hs.co f b v V bL).mono;rintro e s ⟨rfl,ef,aQ⟩;have⟨T,L⟩:=hs.ic ef aQ;exact⟨rfl,l,_,_,n,T,L,g.bQ _ _,bL,bL⟩
  .rw[if_neg a,if_pos b,if_neg bL];apply(Ap B I G E m t _ c w hs.co f a b).mono;rintro e s ⟨rfl,rfl⟩;exact⟨rfl,l,_,m,n,hs,mN.same _ _ _ _ _,g.bQ _ _,bL,bL⟩
theorem TB(k v:Nat)(g:k<9)(A:v=2\/v=3\/v=4)(hs:CL w B I G E m h p J O n c l<|d.bQ (-1)<|-1)(f:mD l d)(C:m<=60000000)(hn:n<=60000000)(u:2<=B)(x:bI w)(b:t<18446744073709551616):
  Calls prog 250 #[.pointer<|some ⟨I,0,none⟩,.int .u64 (t:Int),.int .i64 (k:Int),.int .i64 (v:Int)] w λe w'=>e=.returned .nilIface/\yV B I G E m h p J O (n+l.segs.length) (c.kT t k v) w w':=by
 unfold aU.kT;by_cases H:(c.tx t).parts.getD k 0=1
 .rw[if_neg bL];by_cases j:v=3
  .rw[if_pos j];apply(To B I G E m t k v j g c w hs.co b H bL).mono;rintro e a ⟨rfl,ef,aQ⟩;have⟨T,L⟩:=hs.ic ef aQ;exact⟨rfl,l,_,_,n,T,L,f.bQ _ _,bL,bL⟩
  .rw[if_neg j];have N:v=2\/v=4:=bL;cases r:((c.tx t).parts.set k v).any l_ with
   |true=>
    rw[if_pos rfl];apply(LS B I G E m t k v N g c w hs.co b H r bL).mono;rintro e a ⟨rfl,ef,aQ⟩;have⟨T,L⟩:=hs.ic ef aQ;exact⟨rfl,l,_,_,n,T,L,f.bQ _ _,bL,bL⟩
   |false=>
    rw[if_neg bR];have s:fe.Ok {c.tx t with parts:=(c.tx t).parts.set k v}:=vz (hs.co.J8 t) (by omega);cases y:((c.tx t).parts.set k v).any jR with
    |false=>
     rw[if_neg bR];refine(Bp B I G E m t k v N g c w hs.co b H r (λa=>yV B I G E m h p J O (n+l.segs.length) {c with ai:=aT c.ai t,res:=c.res++[(t,5)]} w a) λW o=>?_);have⟨S,i⟩:=hs.new o;apply(CP B I G E m t c _ s y W S.co b bL).mono;rintro e a ⟨rfl,ef,aQ⟩;obtain⟨T,L⟩:=S.ic ef aQ;exact⟨rfl,l,_,_,n,T,i.trans L,f.bQ _ _,bL,bL⟩
    |true=>
     rw[if_pos rfl];have X:=f.keep 2 (str<|be 8 t++dK jR ((c.tx t).parts.set k v)) (by rw[cR,zzi,dH];have:=ib (q:=jR) (ps:=(c.tx t).parts.set k v);omega);refine(Bp B I G E m t k v N g c w hs.co b H r (λa=>yV B I G E m h p J O (n+l.segs.length) (c.comm t {c.tx t with parts:=(c.tx t).parts.set k v,state:=6}) w a) λW o=>?_);have⟨S,i⟩:=hs.new o;apply(Fi B I G E m h p J O n t c l _ _ s y W S b bL bL u f.segs ((i.gF hs).lh u x) X.1).mono;rintro e a ⟨rfl,T,L⟩;exact⟨rfl,_,_,_,_,T,i.trans L,X.2.1,bL,by have z:=X.2.2;simp only[]at z ⊢;omega⟩
 .rw[if_pos H];apply(PT B I G E m t k v A g c w hs.co b H).mono;rintro e a ⟨rfl,aQ⟩;have⟨T,L⟩:=hs.new aQ;exact⟨rfl,l,_,m,n,T,L,f.bQ _ _,bL,bL⟩
theorem TD(k:Nat)(o:k<9)(hs:CL w B I G E m h p J O n c l<|d.bQ (-1)<|-1)(b:mD l d)(r:m<=60000000)(hn:n<=60000000)(q:2<=B)(H:bI w)(g:t<18446744073709551616):
  Calls prog 251 #[.pointer<|some ⟨I,0,none⟩,.int .u64 (t:Int),.int .i64 (k:Int)] w λe w'=>e=.returned .nilIface/\yV B I G E m h p J O (n+l.segs.length) (c.kn t k) w w':=by
 unfold aU.kn;by_cases a:(c.tx t).state=6
 .by_cases f:(c.tx t).parts.getD k 0=2
  .rw[if_neg bL];cases j:((c.tx t).parts.set k 5).any jf with
   |true=>
    rw[if_pos rfl];apply(LU B I G E m t k o c w hs.co g a f j bL).mono;rintro e i ⟨rfl,ef,aQ⟩;have⟨T,L⟩:=hs.ic ef aQ;exact⟨rfl,l,_,_,n,T,L,b.bQ _ _,bL,bL⟩
   |false=>
    rw[if_neg bR];have X:=b.note 3 (str<|be 8 t) (by rw[cR,dH];decide);apply(LV B I G E m h p J O n t k o c l _ w hs g a f j bL q b.segs H X.1).mono;rintro e i ⟨rfl,T,L⟩;exact⟨rfl,_,_,_,_,T,L,X.2.1,bL,bL⟩
  .rw[if_pos<|.inr f];apply(Ts B I G E m t (k:Int) c w hs.co g a<|by unfold partAt;rw[if_pos bL];simpa using f).mono;rintro e i ⟨rfl,aQ⟩;have⟨T,L⟩:=hs.new aQ;exact⟨rfl,l,_,m,n,T,L,b.bQ _ _,bL,bL⟩
 .rw[if_pos<|.inl a];apply(Tt B I G E m t (k:Int) c w hs.co g a).mono;rintro e i ⟨rfl,aQ⟩;have⟨T,L⟩:=hs.new aQ;exact⟨rfl,l,_,m,n,T,L,b.bQ _ _,bL,bL⟩
end
section
variable{w w':World}{B i I E p O G u g r h Z f m n j:Nat}{s:ag}{c:aU}{l:au}{d:ah}{q:Value}{out v:List bt}
def RH(w:World)(S:List Nat):Prop:=∀k∈S,k<w.heap.size->∃c t,w.heap[k]?=some (.cells c t (0,0))/\(t=210\/t=151)
theorem RH.free{S:List Nat}(g:RH w S){v s r:Value}{D N:Nat}(b:aA w B h p Z f v s r l d n D N):∀k∈S,k<w.heap.size->¬Own h p w k/\∀t,w.heap[k]?≠some (dV t):=λk i U=>by
 have⟨c,t,e,j⟩:=g k i U;obtain rfl|rfl:=j
 .exact⟨b.free e bM bM bM bM bM,λt a=>by rw[e]at a;cases a⟩
 .exact⟨b.free e bM bM bM bM bM,λt a=>by rw[e]at a;cases a⟩
theorem RH.not{S:List Nat}(h:RH w S){k:Nat}{o:Obj}(a:w.heap[k]?=some o)(b:∀c,o≠Obj.cells c 210 (0,0)/\o≠Obj.cells c 151 (0,0)):k∉S:=λm=>by
 have⟨c,t,e,d⟩:=h k m (zza.1 a).1;rw[a]at e;have e:=Option.some.inj e;obtain rfl|rfl:=d
 .exact(b c).1 e
 .exact(b c).2 e
theorem SL.Fm{S:List Nat}(hs:SL w B O G u g r m h p Z f n s l d)(hf:Fr S w w')(a:RH w S):SL w' B O G u g r m h p Z f n s l d:=by
 have⟨v,t,q,D,N,k⟩:=hs.lg;have i:∀b,(∃j c,w.heap[b]?=some (.map j c))->b∉S:=λb ⟨j,c,e⟩=>a.not e λ_=>⟨nofun,nofun⟩
 have o:=a.not hs.ap.ju λ_=>⟨nofun,nofun⟩;exact⟨hs.sh.fr hf (a.not hs.sh.blk λ_=>⟨nofun,nofun⟩) (i _ hs.sh.aM.isMap) (i _ hs.sh.ai.isMap)<|i _ hs.sh.holds.isMap,⟨_,_,_,_,_,k.apart hf<|a.free k⟩,⟨(hf.block G (zza.1 hs.ap.ju).1 o).trans hs.ap.ju,hs.ap.ne⟩,hs.oN⟩
theorem CL.Fm{S:List Nat}(hs:CL w B j G g m h p Z f n c l d)(hf:Fr S w w')(a:RH w S):CL w' B j G g m h p Z f n c l d:=by
 have⟨x,z,y,D,N,q⟩:=hs.lg;have u:∀b,(∃s c,w.heap[b]?=some (.map s c))->b∉S:=λb ⟨s,c,e⟩=>a.not e λ_=>⟨nofun,nofun⟩
 have r:=a.not hs.ju λ_=>⟨nofun,nofun⟩;have⟨v,U⟩:=hs.co.yN;refine⟨hs.co.fr hf λk i=>⟨λe=>?_,λe=>?_,λe=>?_⟩,⟨_,_,_,_,_,q.apart hf<|a.free q⟩,(hf.block G (zza.1 hs.ju).1 r).trans hs.ju,hs.ne,hs.oN⟩
 .exact a.not U (λ_=>⟨nofun,nofun⟩)<|e▸i
 .exact u _ hs.co.ai.isMap<|e▸i
 .obtain⟨_,cc,t,e2,ht⟩:=hs.co.Ti e;refine a.not e2 (λ_=>⟨λo=>?_,λo=>?_⟩) i<;>(obtain rfl|rfl:=ht<;>cases o)
theorem RH.yX{a b:Option Addr}(G:w.heap[E]?=some (gK i a b q))(z:w.ownsRow B 151 4 q out.length<|py out):RH w (E::q.ownBlock.toList):=λk d _=>by
 obtain e|e:=zzj.1 d
 .rw[e,G];exact⟨_,_,rfl,.inl rfl⟩
 .simp at e;have⟨c,h⟩:=aq z e;exact⟨c,_,h,.inr rfl⟩
theorem r9.nfr{x:Nat}{a b:Option Addr}(m:r9 B E i a b q v w w')(f:w.heap[E]?=some (gK i a b q))(z:w.ownsRow B 151 4 q out.length<|py out)(n:w'.heap[h]?=w.heap[h]?)(o:w'.heap[p]?=w.heap[p]?)(r:w'.heap[x]?=w.heap[x]?):
  jk (br I E p h x G w) (br I E p h x G w') w w':=by
 have⟨t,d,g,j,l⟩:=m;refine⟨j.mono λk _ c=>?_,λk c s=>?_⟩
 .rcases zzj.1 c with e|e
  .exact aL.2<|by simp[e]
  .simp at e;exact aL.2<|by rw[f];simp only[(jW (ct z) k).2 e,true_or,or_true]
 .rcases aL.1 s with e|e|e|e|e|e|e|e|e|e
  .exact aL.2<|by simp[e]
  .exact aL.2<|by simp[e]
  .exact aL.2<|by simp[e]
  .exact aL.2<|by simp[e]
  .exact aL.2<|by simp[e]
  .exact aL.2<|by simp[e]
  .rw[d]at e;have e:=(jW (ct g) k).1 e;obtain e5|e5:=l k e
   .exact aL.2<|by rw[f];simp only[(jW (ct z) k).2 e5,true_or,or_true]
   .omega
  .rw[n]at e;exact aL.2<|by simp only[e,true_or,or_true]
  .rw[o]at e;exact aL.2<|by simp only[e,true_or,or_true]
  .rw[r]at e;exact aL.2<|by simp only[e,or_true]
end
section
variable{w w':World}{B i I E p O G u g r h Z f m n m' n' j:Nat}{s s':ag}{c c':aU}{l J:au}{d U:ah}{q:Value}{out v:List bt}
theorem pQ.yX(a:pQ w B i I E p O G u g r h Z f m n s l d q out)(hf:r9 B E i none (some ⟨O,0,none⟩) q v w w'):∃j,pQ w' B i I E p O G u g r h Z f m n s l d j v/\jk (br I E p h O G w) (br I E p h O G w') w w':=by
 have S:=RH.yX a.fG a.jz;have⟨j,b,t,e,z⟩:=hf;have⟨K,M,L,J,N,y⟩:=a.sl.lg;have keep:∀k o,w.heap[k]?=some o->(∀c,o≠Obj.cells c 210 (0,0)/\o≠Obj.cells c 151 (0,0))->w'.heap[k]?=w.heap[k]?:=λk o x A=>e.block k (zza.1 x).1<|S.not x A
 have C:=keep I _ a.hh λ_=>⟨nofun,nofun⟩;have D:=keep h _ y.blk λ_=>⟨nofun,nofun⟩;have F:=keep p _ y.bq.blk λ_=>⟨nofun,nofun⟩;have H:=keep O _ a.sl.sh.blk λ_=>⟨nofun,nofun⟩;exact⟨j,⟨C.trans a.hh,b,t,a.sl.Fm e S,a.hb⟩,r9.nfr ⟨j,b,t,e,z⟩ a.fG a.jz D F H⟩
theorem nX.yX(a:nX w B I E p j G g h Z f m n c l d q out)(hf:r9 B E 0 (some ⟨j,0,none⟩) none q v w w'):∃b,nX w' B I E p j G g h Z f m n c l d b v/\jk (br I E p h j G w) (br I E p h j G w') w w':=by
 have S:=RH.yX a.fG a.jz;have⟨b,i,r,e,u⟩:=hf;have⟨H,K,J,F,N,t⟩:=a.sl.lg;obtain⟨L,M,D,-⟩:=a.sl.co.ex;have keep:∀k o,w.heap[k]?=some o->(∀c,o≠Obj.cells c 210 (0,0)/\o≠Obj.cells c 151 (0,0))->w'.heap[k]?=w.heap[k]?:=λk o s x=>e.block k (zza.1 s).1<|S.not s x
 have y:=keep I _ a.hh λ_=>⟨nofun,nofun⟩;have z:=keep h _ t.blk λ_=>⟨nofun,nofun⟩;have A:=keep p _ t.bq.blk λ_=>⟨nofun,nofun⟩;have C:=keep j _ D λ_=>⟨nofun,nofun⟩;exact⟨b,⟨y.trans a.hh,i,r,a.sl.Fm e S,a.hb⟩,r9.nfr ⟨b,i,r,e,u⟩ a.fG a.jz z A C⟩
end
def sP(B i I E p O G u g r h Z f m n:Nat)(s':ag)(v:List bt)(w w':World):Prop :=
 ∃J U m' n' l,pQ w' B i I E p O G u g r h Z f m' n' s' J U l v/\mD J U/\m'<=m+20/\n' + J.segs.length<=n+4/\jk (br I E p h O G w) (br I E p h O G w') w w'
def qB(B I E p j G g h Z f m n:Nat)(c':aU)(v:List bt)(w w':World):Prop :=
 ∃J U m' n' l,nX w' B I E p j G g h Z f m' n' c' J U l v/\mD J U/\m'<=m+150/\n' + J.segs.length<=n+4/\jk (br I E p h j G w) (br I E p h j G w') w w'
section
variable(B i I E p O G u g r h Z f m n K kd src dst t:Nat)(s:ag)(l:au)(d:ah)(q:Value)(out:List bt)(w:World)
theorem aa8(c:pQ w B i I E p O G u g r h Z f m n s l (d.bQ (-1)<|-1) q out)(L:mD l d)(F:cz K s)(T:t≠0)(V:m<=60000000)(hn:n<=60000000)(ho:out.length<=60000000)(D:2<=B)(z:bI w)(Y:t<18446744073709551616):
  Calls prog 201 #[.pointer<|some ⟨E,0,none⟩,.agg #[.int .i64 (kd:Int),.int .i64 (src:Int),.int .i64 (dst:Int),.int .u64 (t:Int)]] w λe w'=>e=.returned .nilIface/\sP B i I E p O G u g r h Z f m (n+l.segs.length) (s.kh t).1 (out++[⟨(s.kh t).2,i,src,t⟩]) w w':=by
 have⟨W,j⟩:=gb <|w.alloc (fk (kd:Int) (src:Int) (dst:Int) (t:Int));have o:Fr [] w W:=by rw[j];exact(lT w).alloc _
 have Q:W.heap[w.heap.size]?=some (fk (kd:Int) (src:Int) (dst:Int) (t:Int)):=by rw[j];exact heap_alloc_new w _
 have A:=ae (c.new o).1.fG 2;have P:=ae Q 3;simp at A P;have C:∀w',Fr [] W w'->Calls prog 247 #[.pointer<|some (gz O),.int .u64 (t:Int)] w' λe a=>e=.returned (.tuple #[.int .i64 ((s.kh t).2:Int),.nilIface])/\∃J U m' n',pQ a B i I E p O G u g r h Z f m' n' (s.kh t).1 J U q out/\mD J U/\m'<=m+20/\n' + J.segs.length<=n+l.segs.length+4/\jk (br I E p h O G w) (br I E p h O G a) w a/\a.heap[w.heap.size]?=some (fk (kd:Int) (src:Int) (dst:Int) (t:Int)):=λw' k=>by
  have⟨v,M⟩:=c.new<|o.trans k;have jH:=(k.block _ (zza.1 Q).1 bR).trans Q;apply(Ty B O G u g r m h p Z f n t K s l d w' v.sl L F V hn D ((c.keeps M D).2 z) Y T).mono;rintro e a ⟨rfl,J,U,m',n',df,eG,mY,td,pz⟩;have⟨b,X⟩:=v.Ip eG df;exact⟨rfl,J,U,m',n',b,mY,td,pz,M.trans X,eG.cells v.sl jH bM bM bM bM bM bM⟩
 clear o Q c L z F;go_enter func201,ntmps201;go_wp2;rw[<-j];clear j;go_region_held3 (λw'=>w'.cell? (hO E 2)=some (.pointer<|some (gz O))/\w'.cell? (hO w.heap.size 3)=some (.int .u64 (t:Int))) (simp[*])
  (first|(go_at_call 247;apply(C _<|by first|exact(lT W).drew|exact lT W).mono;rintro e a ⟨rfl,J,U,m',n',h1,h2,h3,h4,h5,h6⟩;have y:=ae h1.fG 2;have y1:=ae h6 1;have y3:=ae h6 3;simp at y y1 y3;have H:=af<|zzb h1<|zzb h2<|zzb h3<|zzb h4<|zzb h5 h6;clear h1 h2 h3 h4 h5 h6 C))
 clear A y P;have N:∀w',Fr [] a w'->Calls prog 113 #[.pointer<|some (gz E),.int .i64 ((s.kh t).2:Int),.int .i64 (src:Int),.int .u64 (t:Int)] w' λe x=>e=.returned (.tuple #[])/\sP B i I E p O G u g r h Z f m (n+l.segs.length) (s.kh t).1 (out++[⟨(s.kh t).2,i,src,t⟩]) w x:=λw' k=>by
  have⟨b,X⟩:=H.1.new k;apply(nY B E i ((s.kh t).2) src t none (some (gz O)) q out w' b.fG b.jz b.size bL).mono;rintro e x ⟨rfl,dT⟩;have⟨jl,jo,nB⟩:=b.yX dT;exact⟨rfl,J,U,m',n',jl,jo,H.2.1,H.2.2.1,H.2.2.2.1,(H.2.2.2.2.1.trans X).trans nB⟩
 have S:=af N;clear N;go_wp2_with fail;apply(S.out _<|by first|exact(lT a).drew|exact lT a).mono;rintro e x ⟨rfl,Pb⟩;have R:=af Pb;clear Pb;go_wp2;go_ret;exact⟨rfl,R.out⟩
theorem aa9(c:pQ w B i I E p O G u g r h Z f m n s l (d.bQ (-1)<|-1) q out)(L:mD l d)(F:cz K s)(T:t≠0)(V:s.fC t=0)(Y:m<=60000000)(hn:n<=60000000)(ho:out.length<=60000000)(D:2<=B)(z:bI w)(ht:t<18446744073709551616):
  Calls prog 202 #[.pointer<|some ⟨E,0,none⟩,.agg #[.int .i64 (kd:Int),.int .i64 (src:Int),.int .i64 (dst:Int),.int .u64 (t:Int)]] w λe w'=>e=.returned .nilIface/\sP B i I E p O G u g r h Z f m (n+l.segs.length) (s.dD t) (out++[⟨7,i,src,t⟩]) w w':=by
 have⟨W,j⟩:=gb <|w.alloc (fk (kd:Int) (src:Int) (dst:Int) (t:Int));have o:Fr [] w W:=by rw[j];exact(lT w).alloc _
 have Q:W.heap[w.heap.size]?=some (fk (kd:Int) (src:Int) (dst:Int) (t:Int)):=by rw[j];exact heap_alloc_new w _
 have A:=ae (c.new o).1.fG 2;have P:=ae Q 3;simp at A P;have C:∀w',Fr [] W w'->Calls prog 248 #[.pointer<|some (gz O),.int .u64 (t:Int)] w' λe a=>e=.returned .nilIface/\∃J U m' n',pQ a B i I E p O G u g r h Z f m' n' (s.dD t) J U q out/\mD J U/\m'<=m+20/\n' + J.segs.length<=n+l.segs.length+4/\jk (br I E p h O G w) (br I E p h O G a) w a/\a.heap[w.heap.size]?=some (fk (kd:Int) (src:Int) (dst:Int) (t:Int)):=λw' k=>by
  have⟨v,M⟩:=c.new<|o.trans k;have jH:=(k.block _ (zza.1 Q).1 bR).trans Q;apply(Tz B O G u g r m h p Z f n t K s l d w' v.sl L F Y hn D ((c.keeps M D).2 z) ht T).mono;rintro e a ⟨aa_,J,U,m',n',df,eG,mY,td,pz⟩;rw[V,bK]at aa_;have⟨b,X⟩:=v.Ip eG df;exact⟨aa_,J,U,m',n',b,mY,td,pz,M.trans X,eG.cells v.sl jH bM bM bM bM bM bM⟩
 clear o Q c L z F;go_enter func202,ntmps202;go_wp2;rw[<-j];clear j;go_region_held3 (λw'=>w'.cell? (hO E 2)=some (.pointer<|some (gz O))/\w'.cell? (hO w.heap.size 3)=some (.int .u64 (t:Int))) (simp[*])
  (first|(go_at_call 248;apply(C _<|by first|exact(lT W).drew|exact lT W).mono;rintro e a ⟨rfl,J,U,m',n',h1,h2,h3,h4,h5,h6⟩;have y:=ae h1.fG 2;have y1:=ae h6 1;have y3:=ae h6 3;simp at y y1 y3;have H:=af<|zzb h1<|zzb h2<|zzb h3<|zzb h4<|zzb h5 h6;clear h1 h2 h3 h4 h5 h6 C))
 clear A y P;have N:∀w',Fr [] a w'->Calls prog 113 #[.pointer<|some (gz E),.int .i64 ((7:Nat):Int),.int .i64 (src:Int),.int .u64 (t:Int)] w' λe x=>e=.returned (.tuple #[])/\sP B i I E p O G u g r h Z f m (n+l.segs.length) (s.dD t) (out++[⟨7,i,src,t⟩]) w x:=λw' k=>by
  have⟨b,X⟩:=H.1.new k;apply(nY B E i ((7:Nat)) src t none (some (gz O)) q out w' b.fG b.jz b.size bL).mono;rintro e x ⟨rfl,dT⟩;have⟨jl,jo,nB⟩:=b.yX dT;exact⟨rfl,J,U,m',n',jl,jo,H.2.1,H.2.2.1,H.2.2.2.1,(H.2.2.2.2.1.trans X).trans nB⟩
 have S:=af N;clear N;go_wp2_with fail;apply(S.out _<|by first|exact(lT a).drew|exact lT a).mono;rintro e x ⟨rfl,Pb⟩;have R:=af Pb;clear Pb;go_wp2;go_ret;exact⟨rfl,R.out⟩
theorem aa'(b:pQ w B i I E p O G u g r h Z f m n s l (d.bQ (-1)<|-1) q out)(y:mD l d)(K:t≠0)(_hm:m<=60000000)(hn:n<=60000000)(_ho:out.length<=60000000)(x:2<=B)(o:bI w)(L:t<18446744073709551616):
  Calls prog 203 #[.pointer<|some ⟨E,0,none⟩,.agg #[.int .i64 (kd:Int),.int .i64 (src:Int),.int .i64 (dst:Int),.int .u64 (t:Int)]] w λe w'=>e=.returned .nilIface/\sP B i I E p O G u g r h Z f m (n+l.segs.length) (s.forget t) out w w':=by
 have⟨W,c⟩:=gb <|w.alloc (fk (kd:Int) (src:Int) (dst:Int) (t:Int));have j:Fr [] w W:=by rw[c];exact(lT w).alloc _
 have Q:W.heap[w.heap.size]?=some (fk (kd:Int) (src:Int) (dst:Int) (t:Int)):=by rw[c];exact heap_alloc_new w _
 have D:=ae (b.new j).1.fG 2;have N:=ae Q 3;simp at D N;have v:∀w',Fr [] W w'->Calls prog 249 #[.pointer<|some (gz O),.int .u64 (t:Int)] w' λe a=>e=.returned .nilIface/\∃J U m' n',pQ a B i I E p O G u g r h Z f m' n' (s.forget t) J U q out/\mD J U/\m'<=m+20/\n' + J.segs.length<=n+l.segs.length+4/\jk (br I E p h O G w) (br I E p h O G a) w a/\a.heap[w.heap.size]?=some (fk (kd:Int) (src:Int) (dst:Int) (t:Int)):=λw' z=>by
  have⟨k,A⟩:=b.new<|j.trans z;have M:=(z.block _ (zza.1 Q).1 bR).trans Q;apply(TA B O G u g r m h p Z f n t s l d w' k.sl y hn x ((b.keeps A x).2 o) L K).mono;rintro e a ⟨rfl,J,U,m',n',df,eG,mY,td,pz⟩;have⟨F,X⟩:=k.Ip eG df;exact⟨rfl,J,U,m',n',F,mY,td,pz,A.trans X,eG.cells k.sl M bM bM bM bM bM bM⟩
 clear j Q b y o;go_enter func203,ntmps203;go_wp2;rw[<-c];clear c;go_region_held3 (λw'=>w'.cell? (hO E 2)=some (.pointer<|some (gz O))/\w'.cell? (hO w.heap.size 3)=some (.int .u64 (t:Int))) (simp[*])
  (first|(go_at_call 249;apply(v _<|by first|exact(lT W).drew|exact lT W).mono;rintro e a ⟨rfl,J,U,m',n',h1,h2,h3,h4,h5,h6⟩;have C:=ae h1.fG 2;have P:=ae h6 3;simp at C P;have H:=af<|zzb h1<|zzb h2<|zzb h3<|zzb h4<|zzb h5 h6;clear h1 h2 h3 h4 h5 h6 v))
 go_wp2;go_ret;exact⟨rfl,J,U,m',n',q,H.1,H.2.1,H.2.2.1,H.2.2.2.1,H.2.2.2.2.1⟩
end
section
variable(B I E p j G g h Z f m n kd src dst t:Nat)(c:aU)(l:au)(d:ah)(q:Value)(out:List bt)(w:World)
theorem aba(b:nX w B I E p j G g h Z f m n c l (d.bQ (-1)<|-1) q out)(v:mD l d)(L:src<9)(z:kd=2\/kd=3\/kd=4)(D:m<=60000000)(hn:n<=60000000)(_ho:out.length<=60000000)(s:2<=B)(o:bI w)(F:t<18446744073709551616):
  Calls prog 204 #[.pointer<|some ⟨E,0,none⟩,.agg #[.int .i64 (kd:Int),.int .i64 (src:Int),.int .i64 (dst:Int),.int .u64 (t:Int)]] w λe w'=>e=.returned .nilIface/\qB B I E p j G g h Z f m (n+l.segs.length) (c.kT t src kd) out w w':=by
 have⟨W,i⟩:=gb <|w.alloc (fk (kd:Int) (src:Int) (dst:Int) (t:Int));have u:Fr [] w W:=by rw[i];exact(lT w).alloc _
 have Q:W.heap[w.heap.size]?=some (fk (kd:Int) (src:Int) (dst:Int) (t:Int)):=by rw[i];exact heap_alloc_new w _
 have C:=ae (b.new u).1.fG 1;have M:=ae Q 0;have N:=ae Q 1;have P:=ae Q 3;simp at C M N P;have r:∀w',Fr [] W w'->Calls prog 250 #[.pointer<|some (gz j),.int .u64 (t:Int),.int .i64 (src:Int),.int .i64 (kd:Int)] w' λe a=>e=.returned .nilIface/\∃J U m' n',nX a B I E p j G g h Z f m' n' (c.kT t src kd) J U q out/\mD J U/\m'<=m+150/\n' + J.segs.length<=n+l.segs.length+4/\jk (br I E p h j G w) (br I E p h j G a) w a/\a.heap[w.heap.size]?=some (fk (kd:Int) (src:Int) (dst:Int) (t:Int)):=λw' x=>by
  have⟨k,y⟩:=b.new<|u.trans x;have K:=(x.block _ (zza.1 Q).1 bR).trans Q;apply(TB B j G g m h p Z f n t c l d w' src kd L z k.sl v D hn s ((b.keeps y s).2 o) F).mono;rintro e a ⟨rfl,J,U,m',n',df,eG,mY,td,pz⟩;have⟨O,X⟩:=k.zJ eG df;exact⟨rfl,J,U,m',n',O,mY,td,pz,y.trans X,eG.cells k.sl K bM bM bM bM bM bM bM bM⟩
 clear u Q b v o;go_enter func204,ntmps204;go_wp2;rw[<-i];clear i;go_region_held3 (λw'=>w'.cell? (hO E 1)=some (.pointer<|some (gz j))/\w'.cell? (gz w.heap.size)=some (.int .i64 (kd:Int))/\w'.cell? (hO w.heap.size 1)=some (.int .i64 (src:Int))/\w'.cell? (hO w.heap.size 3)=some (.int .u64 (t:Int))) (simp[*])
  (first|(go_at_call 250;apply(r _<|by first|exact(lT W).drew|exact lT W).mono;rintro e a ⟨rfl,J,U,m',n',h1,h2,h3,h4,h5,h6⟩;have A:=ae h1.fG 1;have R:=ae h6 0;have S:=ae h6 1;have T:=ae h6 3;simp at A R S T;have H:=af<|zzb h1<|zzb h2<|zzb h3<|zzb h4<|zzb h5 h6;clear h1 h2 h3 h4 h5 h6 r))
 go_wp2;go_ret;exact⟨rfl,J,U,m',n',q,H.1,H.2.1,H.2.2.1,H.2.2.2.1,H.2.2.2.2.1⟩
theorem abb(b:nX w B I E p j G g h Z f m n c l (d.bQ (-1)<|-1) q out)(v:mD l d)(K:src<9)(C:m<=60000000)(hn:n<=60000000)(_ho:out.length<=60000000)(s:2<=B)(o:bI w)(D:t<18446744073709551616):
  Calls prog 205 #[.pointer<|some ⟨E,0,none⟩,.agg #[.int .i64 (kd:Int),.int .i64 (src:Int),.int .i64 (dst:Int),.int .u64 (t:Int)]] w λe w'=>e=.returned .nilIface/\qB B I E p j G g h Z f m (n+l.segs.length) (c.kn t src) out w w':=by
 have⟨W,i⟩:=gb <|w.alloc (fk (kd:Int) (src:Int) (dst:Int) (t:Int));have u:Fr [] w W:=by rw[i];exact(lT w).alloc _
 have Q:W.heap[w.heap.size]?=some (fk (kd:Int) (src:Int) (dst:Int) (t:Int)):=by rw[i];exact heap_alloc_new w _
 have A:=ae (b.new u).1.fG 1;have L:=ae Q 1;have M:=ae Q 3;simp at A L M;have r:∀w',Fr [] W w'->Calls prog 251 #[.pointer<|some (gz j),.int .u64 (t:Int),.int .i64 (src:Int)] w' λe a=>e=.returned .nilIface/\∃J U m' n',nX a B I E p j G g h Z f m' n' (c.kn t src) J U q out/\mD J U/\m'<=m+150/\n' + J.segs.length<=n+l.segs.length+4/\jk (br I E p h j G w) (br I E p h j G a) w a/\a.heap[w.heap.size]?=some (fk (kd:Int) (src:Int) (dst:Int) (t:Int)):=λw' x=>by
  have⟨k,y⟩:=b.new<|u.trans x;have F:=(x.block _ (zza.1 Q).1 bR).trans Q;apply(TD B j G g m h p Z f n t c l d w' src K k.sl v C hn s ((b.keeps y s).2 o) D).mono;rintro e a ⟨rfl,J,U,m',n',df,eG,mY,td,pz⟩;have⟨O,X⟩:=k.zJ eG df;exact⟨rfl,J,U,m',n',O,mY,td,pz,y.trans X,eG.cells k.sl F bM bM bM bM bM bM bM bM⟩
 clear u Q b v o;go_enter func205,ntmps205;go_wp2;rw[<-i];clear i;go_region_held3 (λw'=>w'.cell? (hO E 1)=some (.pointer<|some (gz j))/\w'.cell? (hO w.heap.size 1)=some (.int .i64 (src:Int))/\w'.cell? (hO w.heap.size 3)=some (.int .u64 (t:Int))) (simp[*])
  (first|(go_at_call 251;apply(r _<|by first|exact(lT W).drew|exact lT W).mono;rintro e a ⟨rfl,J,U,m',n',h1,h2,h3,h4,h5,h6⟩;have z:=ae h1.fG 1;have N:=ae h6 1;have P:=ae h6 3;simp at z N P;have H:=af<|zzb h1<|zzb h2<|zzb h3<|zzb h4<|zzb h5 h6;clear h1 h2 h3 h4 h5 h6 r))
 go_wp2;go_ret;exact⟨rfl,J,U,m',n',q,H.1,H.2.1,H.2.2.1,H.2.2.2.1,H.2.2.2.2.1⟩
end
theorem wfI(h:x<256):(Lit.int .i64 (x:Int)).wf=true:=by
 have a:IntKind.i64.min=-9223372036854775808:=rfl;have b:IntKind.i64.max=9223372036854775807:=rfl;simp[Lit.wf,a,b];omega
noncomputable def KI:iD prog Nat 3 where
 kv:=λx=>.int .i64 (x:Int)
 kl:=λx=>.int .i64 (x:Int)
 ok:=λx=>x<256
 law:=Go.Maps.int_keyed underlying3
 key:=λ_ hk=>Go.Maps.keyOf_int_mk underlying3 (wfI hk)
 inj:=λa b h=>by simp at h;omega
def fnR:Value->Option (DataW Unit × List MemPlace)
 |.func (.func f) a b=>if a=#[]/\b=#[] then some (.lit (.int .i64 (f:Int)),[]) else none
 |.nilFunc=>some (.lit (.int .i64 (-1)),[])
 |_=>none
noncomputable def EF:kK (Option Nat) where
 R:=fnR
 ev:=λo=>match o with|none=>.nilFunc|some f=>Ct f
 el:=λo=>match o with|none=>.lit (.int .i64 (-1))|some f=>.lit (.int .i64 (f:Int))
 ok:=λ_=>True
 made:=λo _=>by cases o<;>simp[fnR]
 inv:=λx o ps _ h=>by
  unfold fnR at h;split at h
  .rename_i f a b;split at h
   .rename_i rC;obtain⟨rfl,rfl⟩:=rC
    cases o with
    |none=>simp at h
    |some g =>
     simp at h;obtain⟨h,-⟩:=h;have e:f=g:=Int.ofNat_inj.1 h;rw[e]
   .cases h
  .cases o with
   |none=>rfl
   |some g=>simp at h
  .cases h
theorem P5(w:World):(zeroValue 285).run prog w=.ok (EF.ev none) w:=by kernel_rfl
def Bt:List (Nat × Option Nat):=[(8,some 206),(7,some 205),(4,some 204),(3,some 204),(2,some 204),(6,some 203),(5,some 202),(1,some 201)]
theorem L4(w:World):Calls prog 159 #[] w λe w'=>∃b,e=.returned (.map (some b))/\aO KI EF w' b 8 Bt/\Fr [] w w':=by
 have O:=@run_makeMap prog;have m:=aO.made (KR:=KI) (ER:=EF) w;obtain⟨F,x,n,g⟩:=aO.fA m underlying286 (by unfold maxLen;decide) (k:=1) (show 1<256 by decide) (v:=some 201) trivial
 replace x:(Instr.mapUpdate 286 (.map (some w.heap.size)) (.int .i64 1) (.func (.func 201) #[] #[])).run prog (w.alloc (.map #[] 0))=.ok () F:=x
 obtain⟨J,B,r,h⟩:=aO.fA n underlying286 (by unfold maxLen;decide) (k:=5) (show 5<256 by decide) (v:=some 202) trivial
 replace B:(Instr.mapUpdate 286 (.map (some w.heap.size)) (.int .i64 5) (.func (.func 202) #[] #[])).run prog F=.ok () J:=B
 obtain⟨K,C,s,i⟩:=aO.fA r underlying286 (by unfold maxLen;decide) (k:=6) (show 6<256 by decide) (v:=some 203) trivial
 replace C:(Instr.mapUpdate 286 (.map (some w.heap.size)) (.int .i64 6) (.func (.func 203) #[] #[])).run prog J=.ok () K:=C
 obtain⟨G,y,o,c⟩:=aO.fA s underlying286 (by unfold maxLen;decide) (k:=2) (show 2<256 by decide) (v:=some 204) trivial
 replace y:(Instr.mapUpdate 286 (.map (some w.heap.size)) (.int .i64 2) (.func (.func 204) #[] #[])).run prog K=.ok () G:=y
 obtain⟨H,z,p,d⟩:=aO.fA o underlying286 (by unfold maxLen;decide) (k:=3) (show 3<256 by decide) (v:=some 204) trivial
 replace z:(Instr.mapUpdate 286 (.map (some w.heap.size)) (.int .i64 3) (.func (.func 204) #[] #[])).run prog G=.ok () H:=z
 obtain⟨I,A,q,f⟩:=aO.fA p underlying286 (by unfold maxLen;decide) (k:=4) (show 4<256 by decide) (v:=some 204) trivial
 replace A:(Instr.mapUpdate 286 (.map (some w.heap.size)) (.int .i64 4) (.func (.func 204) #[] #[])).run prog H=.ok () I:=A
 obtain⟨L,D,t,j⟩:=aO.fA q underlying286 (by unfold maxLen;decide) (k:=7) (show 7<256 by decide) (v:=some 205) trivial
 replace D:(Instr.mapUpdate 286 (.map (some w.heap.size)) (.int .i64 7) (.func (.func 205) #[] #[])).run prog I=.ok () L:=D
 obtain⟨a,E,u,l⟩:=aO.fA t underlying286 (by unfold maxLen;decide) (k:=8) (show 8<256 by decide) (v:=some 206) trivial
 replace E:(Instr.mapUpdate 286 (.map (some w.heap.size)) (.int .i64 8) (.func (.func 206) #[] #[])).run prog L=.ok () a:=E
 have M:Hid (aO KI EF a w.heap.size 8 Bt/\Fr [] w a):=⟨u,(((((((((Fr.refl [w.heap.size] w).alloc _).trans (Fr.aF g)).trans (Fr.aF h)).trans (Fr.aF i)).trans (Fr.aF c)).trans (Fr.aF d)).trans (Fr.aF f)).trans (Fr.aF j)).trans (Fr.aF l) |>.mono (λk P N=>by simp at N;omega)⟩;clear m n r s o p q t u g h i c d f j l
 go_enter func159,ntmps159
 go_wp2;go_ret;exact⟨_,rfl,M.out⟩
end Go.Proofs.YtcalalndmcemiaaGreatDoor
