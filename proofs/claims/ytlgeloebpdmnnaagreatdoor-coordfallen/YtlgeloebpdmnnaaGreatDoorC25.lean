import Derived.Test.YtlgeloebpdmnnaaGreatDoorC24
import Derived.Test.YtlgeloebpdmnnaaGreatDoorC23
import Derived.Test.YtlgeloebpdmnnaaGreatDoorC19
set_option maxHeartbeats 2000000
set_option maxRecDepth 100000
namespace Go.Proofs.YtlgeloebpdmnnaaGreatDoor
open Go.RowKit Go.Maps Tryz Sc
section
open Go.Shelf
theorem aC.beside{w w':nL}{S:List Nat}{B p h N n D i:Nat}{pv:Value}{d:aj}(b:aC w B p h N pv d n D i)(hf:Fr S w w')(f:∀k∈S,∃c t,w.heap[k]?=some (.cells c t (0,0))/\t≠65/\t≠200/\t≠9):aC w' B p h N pv d n D i:=by
 have j:∀k∈S,¬nj p w k:=λk a=>by have⟨c,t,e,m,o,_⟩:=f k a;exact b.kD e m o
 apply b.fr hf (λa=>j p a<|(b.fI p).2 dv) (λa=>j h a<|(b.fI h).2 dv) (λa=>j N a<|(b.fI N).2 dv) (λg s a=>j g a<|(b.fI g).2<|by simp[s]);intro q u t e;have⟨c,v,l,_,_,r⟩:=f q u;rw[l]at e;cases e;exact r rfl
end
variable{i t:Nat}
structure aU where
 cH:Nat
 aZ:Nat
 left:Bool
structure aK where
 id:Nat
 st:Nat
 gH:Nat
 parts:List aU
 aS:Bool
structure aP where
 ai:List aK
 next:Nat
 res:List (Nat × Nat)
 out:List (Nat × Nat × Nat)
def aO(xs:List aK)(t:Nat):Option aK:=xs.find? λx=>decide (x.id=t)
def eW(xs:List aK)(t:Nat):Option Nat:=xs.findIdx? λx=>decide (x.id=t)
theorem fO{xs:List aK}(h:eW xs t=some i):∃x,xs[i]?=some x/\x.id=t/\aO xs t=some x:=by
 have⟨x,a,b,c⟩:=(Fj _ xs).1 i h;exact⟨x,a,by simpa using b,c⟩
theorem i_{xs:List aK}(h:eW xs t=none):aO xs t=none:=(Fj _ xs).2 h
abbrev sM(p:aU):List Value:=[.int .i64 (p.cH:Int),.int .i64 (p.aZ:Int),.bool p.left]
def fP(l:List aU):List Value:=l.flatMap sM
abbrev nQ(p:aK × Value):List Value:=[.int .u64 (p.1.id:Int),.int .i64 (p.1.st:Int),.int .i64 (p.1.gH:Int),p.2,.bool p.1.aS]
def dO(ps:List (aK × Value)):List Value:=ps.flatMap nQ
abbrev uD(xv rv ov:Value)(n:Nat):Obj:=.cells #[xv,.int .u64 (n:Int),rv,ov] 120
structure bQ [Inhabited Bs](w:nL)(rp:Nat)(xv rv ov:Value)(ps:List (aK × Value))(R:aP):Prop where
 base:B0<=rp
 blk:w.heap[rp]?=some (uD xv rv ov R.next)
 kF:w.ownsRow B0 123 5 xv ps.length (dO ps)
 prt:∀p∈ps,w.ownsRow B0 162 3 p.2 p.1.parts.length (fP p.1.parts)
 apart:ps.Pairwise λp q=>p.2.ownBlock=none\/p.2.ownBlock≠q.2.ownBlock
 res:w.ownsRow B0 174 2 rv R.res.length (lj R.res)
 out:w.ownsRow B0 170 3 ov R.out.length (jv R.out)
 rs:ps.map (·.1)=R.ai
section
variable{w w':nL}{rp:Nat}{xv rv ov:Value}{ps:List (aK × Value)}{R:aP}
theorem bQ.fr [Inhabited Bs](h:bQ w rp xv rv ov ps R)(hf:Fr [] w w'):bQ w' rp xv rv ov ps R where
 base:=h.base
 blk:=(hf.block rp (zza.1 h.blk).1 dv).trans h.blk;kF:=ar h.kF hf dv;prt:=λp hp=>ar (h.prt p hp) hf dv
 apart:=h.apart;res:=ar h.res hf dv;out:=ar h.out hf dv;rs:=h.rs
theorem bQ.low [Inhabited Bs](h:bQ w rp xv rv ov ps R):B0<=w.heap.size:=zzk h.base<|Nat.le_of_lt (zza.1 h.blk).1
theorem bQ.len [Inhabited Bs](h:bQ w rp xv rv ov ps R):ps.length=R.ai.length:=by rw[<-h.rs,zzn]
theorem bQ.at [Inhabited Bs](h:bQ w rp xv rv ov ps R){i:Nat}{x:aK}(a:R.ai[i]?=some x):∃v,ps[i]?=some (x,v):=by
 rw[<-h.rs,zzy]at a;cases hp:ps[i]? with
 |none=>grind
 |some p=>grind
theorem bQ.back [Inhabited Bs](h:bQ w rp xv rv ov ps R){i:Nat}{p:aK×Value}(a:ps[i]?=some p):R.ai[i]?=some p.1:=by rw[<-h.rs,zzy,a];rfl
theorem bQ.slice [Inhabited Bs](h:bQ w rp xv rv ov ps R):∃o c,xv=.slice o ps.length c/\(∀i p,ps[i]?=some p->∃g,o=some (gi g)/\w.cell? (hP g<|i*5)=some (.int .u64 (p.1.id:Int))/\w.cell? (hP g<|i*5+1)=some (.int .i64 (p.1.st:Int))/\w.cell? (hP g<|i*5+2)=some (.int .i64 (p.1.gH:Int))/\w.cell? (hP g<|i*5+3)=some p.2/\w.cell? (hP g<|i*5+4)=some (.bool p.1.aS)):=by
 rcases h.kF.2 with⟨e,d⟩|⟨g,a,r,e,rest⟩
 .grind
 .refine⟨some ⟨g,0,none⟩,a,e,λi p hp=>⟨g,rfl,?_⟩⟩;have y:=λj b=>qW (f:=nQ) (k:=5) (λ_=>rfl) ps i p hp j b
  exact⟨fA h.kF e<|y 0 du,fA h.kF e<|y 1 du,fA h.kF e<|y 2 du,fA h.kF e<|y 3 du,fA h.kF e<|y 4 du⟩
end
theorem kf [Inhabited Bs]{w:nL}{v:Value}{s:List aU}(h:w.ownsRow B0 162 3 v s.length<|fP s):∃o c,v=.slice o s.length c/\(∀i l,s[i]?=some l->∃g,o=some (gi g)/\w.cell? (hP g<|i*3)=some (.int .i64 (l.cH:Int))/\w.cell? (hP g<|i*3+1)=some (.int .i64 (l.aZ:Int))/\w.cell? (hP g<|i*3+2)=some (.bool l.left)):=by
 rcases h.2 with⟨e,d⟩|⟨g,a,r,e,rest⟩
 .grind
 .refine⟨some ⟨g,0,none⟩,a,e,λi p hp=>⟨g,rfl,?_⟩⟩;have y:=λj b=>qW (f:=sM) (k:=3) (λ_=>rfl) s i p hp j b
  exact⟨fA h e<|y 0 du,fA h e<|y 1 du,fA h e<|y 2 du⟩
theorem gT [Inhabited Bs](rp t:Nat)(xv rv ov:Value)(ps:List<|aK×Value)(R:aP)(w:nL)(h:bQ w rp xv rv ov ps R)(hn:ps.length<=4398046511103):
  Calls prog 122 #[gx rp,.int .u64 (t:Int)] w λe w'=>e=.returned (.int .i64<|CN<|eW R.ai t)/\∃q,w'=w.drewN q:=by
 have c1:=af h.blk 0;simp at c1;obtain⟨r,c,rfl,H⟩:=h.slice;have G:Hid (∀i p,ps[i]?=some p->∃g,r=some (gi g)/\w.cell? (hP g<|i*5)=some (.int .u64 (p.1.id:Int))):=λi p hp=>by have⟨g,e,a,_⟩:=H i p hp;exact⟨g,e,a⟩
 have I:Hid (ps.map (·.1)=R.ai):=h.rs;have⟨n,C⟩:=gb ps.length;rw[<-C]at hn c1;have o:Hid (ps.length=n):=C.symm;go_enter func122,ntmps122;go_wp2;go_loopw [5] (λi wr=>∃k:Nat,k<=n/\i=.int .i64 k/\Hid (∀j p,j<k->ps[j]?=some p->p.1.id≠t)/\∃q,wr=w.drewN q) (λi _=>n-(intOf i).toNat);case atStart=>exact⟨0,zzs _,rfl,λj p u=>dp,0,rfl⟩
 case round=>
  obtain⟨k,B,rfl,N,q,rfl⟩:=hrel;by_cases W:k<n
  .obtain⟨p,hp⟩:∃p,ps[k]?=some p:=⟨_,zzg<|by rw[o.out];exact W⟩;obtain⟨g,rfl,A⟩:=G.out k p hp;have E:(0:Int)<=k:=dp
   have F:(k:Int)<n:=dp;have P:Hid (ps[k]?=some p):=hp;have⟨d,l⟩:=gb p.1.id;have D:Hid (d=p.1.id):=l;rw[<-l]at A;by_cases m:d=t
   .have be:((d:Int)==t)=true:=by simp[m]
    go_wp2;go_ret;refine⟨?_,_,rfl⟩;have:eW R.ai t=some k:=XR (by rw[<-I.out,zzy,P.out];rfl) (by simp[<-D.out,m]) λi y s b=>by
     rw[<-I.out,zzy]at b;cases f:ps[i]? with
     |none=>rw[f]at b;cases b
     |some z=>rw[f]at b;cases b;simpa using N.out i z s f
    rw[this];rfl
   .have be:((d:Int)==t)=false:=ef;go_wp2;go_roundw;case rel=>exact⟨k+1,dp,eR,λj v u K=>by
     by_cases e:j=k
     .subst e;rw[P.out]at K;cases K;rw[<-D.out];exact m
     .exact N.out j v dp K,_,rfl⟩
    case measure=>simp[intOf];omega
  .go_wp2;go_ret;refine⟨?_,q,rfl⟩;have:eW R.ai t=none:=XQ λi y b=>by
    rw[<-I.out,zzy]at b;cases f:ps[i]? with
    |none=>rw[f]at b;cases b
    |some z=>rw[f]at b;cases b;simpa using N.out i z (by have:=(zzd.1 f).1;rw[o.out]at this;omega) f
   rw[this];rfl
theorem sN [Inhabited Bs](rp t:Nat)(xv rv ov:Value)(ps:List<|aK×Value)(R:aP)(w:nL)(h:bQ w rp xv rv ov ps R)(hn:ps.length<=4398046511103):
  Calls prog 67 #[gx rp,.int .u64 (t:Int)] w λe w'=>e=.returned (.int .i64 ((((aO R.ai t).map aK.st).getD 0:Nat):Int))/\∃q,w'=w.drewN q:=by
 have hf:=gT rp t xv rv ov ps R w h hn;have d:=af h.blk 0;simp at d;obtain⟨o,c,rfl,H⟩:=h.slice;cases U:eW R.ai t with
 |none=>
  have E:=i_ U;rw[U]at hf;rw[E];go_enter func67,ntmps67;go_wp2_with fail;apply hf.mono;rintro e k ⟨rfl,q,rfl⟩;change _ at *;have a:CN none=-1:=rfl;rw[a];go_wp2;go_ret;exact⟨rfl,_,rfl⟩
 |some i=>
  have⟨x,hx,j,E⟩:=fO U;have⟨v,b⟩:=h.at hx;obtain⟨g,rfl,s,l,u,y,z⟩:=H i _ b;have A:=(zzd.1 b).1;rw[U]at hf;rw[E];have a:CN (some i)=(i:Int):=rfl;rw[a]at hf;have⟨n,C⟩:=gb ps.length;rw[<-C]at hn d A;have m:¬(i:Int)<0:=dp;have p:(0:Int)<=i:=dp;have r:(i:Int)<n:=dp;have⟨st,f⟩:∃st,st=x.st:=⟨_,rfl⟩;simp only[Option.map_some,Option.getD_some];rw[<-f]at l ⊢;clear h H U E hx j b a C f;go_enter func67,ntmps67;go_wp2_with fail;apply hf.mono;clear hf;rintro e k ⟨rfl,q,rfl⟩;go_wp2;go_ret;exact⟨rfl,_,rfl⟩
theorem Ir [Inhabited Bs](rp t:Nat)(xv rv ov:Value)(ps:List<|aK×Value)(R:aP)(w:nL)(h:bQ w rp xv rv ov ps R)(hn:ps.length<=4398046511103):
  Calls prog 69 #[gx rp,.int .u64 (t:Int)] w λe w'=>e=.returned (.int .i64 ((((aO R.ai t).map λx=>if x.st=6 then 5 else 0).getD 6:Nat):Int))/\∃q,w'=w.drewN q:=by
 have hf:=gT rp t xv rv ov ps R w h hn;have d:=af h.blk 0;simp at d;obtain⟨o,c,rfl,H⟩:=h.slice;cases U:eW R.ai t with
 |none=>
  have E:=i_ U;rw[U]at hf;rw[E];go_enter func69,ntmps69;go_wp2_with fail;apply hf.mono;clear hf;rintro e k ⟨rfl,q,rfl⟩;change _ at *;have a:CN none=-1:=rfl;rw[a];go_wp2;go_ret;exact⟨rfl,_,rfl⟩
 |some i=>
  have⟨x,hx,l,E⟩:=fO U;have⟨v,b⟩:=h.at hx;obtain⟨g,rfl,y,m,z,B,D⟩:=H i _ b;have A:=(zzd.1 b).1;rw[U]at hf;rw[E];have a:CN (some i)=(i:Int):=rfl;rw[a]at hf;have⟨n,C⟩:=gb ps.length;rw[<-C]at hn d A;have r:¬(i:Int)<0:=dp;have s:(0:Int)<=i:=dp;have u:(i:Int)<n:=dp;have⟨st,f⟩:∃st,st=x.st:=⟨_,rfl⟩;simp only[Option.map_some,Option.getD_some];rw[<-f]at m ⊢;clear h H U E hx l b a C f;by_cases j:st=6
  .subst j;go_enter func69,ntmps69;go_wp2_with fail;apply hf.mono;rintro e k ⟨rfl,q,rfl⟩;go_wp2;go_ret;exact⟨rfl,_,rfl⟩
  .have j6:¬(st:Int)=6:=dp;have p:=oT.2 j6;rw[mE j];go_enter func69,ntmps69;go_wp2_with fail;apply hf.mono;rintro e k ⟨rfl,q,rfl⟩;go_wp2;go_ret;exact⟨rfl,_,rfl⟩
def aP.dZ(R:aP)(t:Nat):Bool:=((aO R.ai t).map (·.aS)).getD false
theorem uW [Inhabited Bs](rp t:Nat)(xv rv ov:Value)(ps:List<|aK×Value)(R:aP)(w:nL)(h:bQ w rp xv rv ov ps R)(hn:ps.length<=4398046511103):
  Calls prog 77 #[gx rp,.int .u64 (t:Int)] w λe w'=>e=.returned (.bool<|R.dZ t)/\∃q,w'=w.drewN q:=by
 have hf:=gT rp t xv rv ov ps R w h hn;have f:=af h.blk 0;simp at f;obtain⟨r,c,rfl,H⟩:=h.slice;cases U:eW R.ai t with
 |none=>
  have E:=i_ U;have a:R.dZ t=false:=by unfold aP.dZ;rw[E];rfl
  rw[a];rw[U]at hf;go_enter func77,ntmps77;go_wp2_with fail;apply hf.mono;rintro e o ⟨rfl,q,rfl⟩;change _ at *;have b:CN none=-1:=rfl;rw[b];go_wp2;go_ret;exact⟨rfl,_,rfl⟩
 |some i=>
  have⟨x,hx,m,E⟩:=fO U;have a:R.dZ t=x.aS:=by unfold aP.dZ;rw[E];rfl
  rw[a];have⟨v,d⟩:=h.at hx;obtain⟨g,rfl,z,p,B,D,l⟩:=H i _ d;have A:=(zzd.1 d).1;rw[U]at hf;have b:CN (some i)=(i:Int):=rfl;rw[b]at hf;have⟨n,C⟩:=gb ps.length;rw[<-C]at hn f A;have s:¬(i:Int)<0:=dp;have u:(0:Int)<=i:=dp;have y:(i:Int)<n:=dp;have⟨k,O⟩:=gb x.aS;change _=some (Value.bool x.aS)at l;rw[<-O]at l ⊢;have⟨st,j⟩:∃st,st=x.st:=⟨_,rfl⟩;rw[<-j]at p;clear h H U E hx m d b C j O a;go_enter func77,ntmps77;go_wp2_with fail;apply hf.mono;clear hf;rintro e o ⟨rfl,q,rfl⟩;go_wp2;go_ret;exact⟨rfl,_,rfl⟩
end Go.Proofs.YtlgeloebpdmnnaaGreatDoor
