import Derived.Test.YtcalalndmcemiaaGreatDoorC40
import Derived.Test.YtcalalndmcemiaaGreatDoorC41
import Derived.Test.YtcalalndmcemiaaGreatDoorC37
set_option maxHeartbeats 8000000
set_option maxRecDepth 100000
namespace Go.Proofs.YtcalalndmcemiaaGreatDoor
open Go.RowKit Go.Maps Tryz Sc
section
open Go.Shelf
variable{s:List (List Nat)}{G L:List Nat}{bC l:List bt}{B E K i m n p:Nat}{J bv d o v:Value}{I b w w':World}
structure aB where
 ds:List aS
 ord:List Nat
 bC:List bt
 c:aU
 co:List bt
 ss:List (ag × List bt)
def aB.recv(A:aB)(x:bt):aB:=match x.dst with
 |0=>{ A with c:=(gj A.c A.co x).1,co:=(gj A.c A.co x).2 }
 |i+1=>match A.ss[i]? with
  |none=>A
  |some s=>{ A with ss:=A.ss.set i (fE (i+1) s.1 s.2 x) }
structure aB.Comes(A:aB)(x:bt):Prop where
 ok:x.Ok
 dst:x.dst<=A.ss.length
 co:x.dst=0->x.kind=2\/x.kind=3\/x.kind=4\/x.kind=7\/x.kind=8
 sh:x.dst≠0->x.kind=1\/x.kind=5\/x.kind=6
 won:∀i s,x.dst=i+1->A.ss[i]?=some s->x.kind=5->s.1.fC x.aP=0
section
variable{w:World}{B J n K:Nat}{Z O bv a:Value}{U:Bool}{E:List Nat}{ps:List (Nat × Value × Value)}{A:aB}{I:List (List Nat)}{G:Nat}
theorem Yb(x:bt)(h:jI w B E A.c A.co A.ss K I)(a:A.Comes x)(u:E[x.dst]?=some G)(d:2<=B)(p:Met w)(H:bI w)(f:K<=290000):
  Calls prog 72 #[.pointer<|some ⟨G,0,none⟩,.string<|str x.bytes,fy (-1) (-1) 0 0] w λe w'=>e=.returned (.int .i64 0)/\zL I B E (A.recv x).c (A.recv x).co (A.recv x).ss (K+1) w w':=by
 cases e:x.dst with
 |zero=>
  have b:A.recv x={A with c:=(gj A.c A.co x).1,co:=(gj A.c A.co x).2}:=by unfold aB.recv;rw[e]
  rw[b];exact X7 x h (by rw[<-e];exact u) a.ok e (a.co e) d p H f
 |succ i=>
  have g:i<A.ss.length:=by have:=a.dst;omega
  have hs:=zzg g;have b:A.recv x={A with ss:=A.ss.set i (fE (i+1) A.ss[i].1 A.ss[i].2 x)}:=by unfold aB.recv;rw[e];simp only[];rw[hs]
  rw[b];exact abl x h hs (by rw[<-e];exact u) a.ok e (a.sh bL) (a.won i _ e hs) d p H f
theorem FE(x:bt)(h:ee w B J Z O bv a n U E ps A.ds A.bC A.ord)(hN:jI w B E A.c A.co A.ss K I)(hn:n=A.ss.length)(g:A.Comes x)(hB:2<=B)(bp:Met w)(aH:bI w)(hK:K<=290000):
  Calls prog 35 #[cQ J,.string<|str x.bytes,fy (-1) (-1) 0 0] w λe w'=>e=.returned (.bool true)/\zL I B E (A.recv x).c (A.recv x).co (A.recv x).ss (K+1) w w':=by
 obtain⟨ha,hc,Mc,-⟩:=fP h.hs;have Y:E.length=n+1:=by have:=hN.len.1;omega
 rw[Y]at Mc;subst Mc;have⟨W,D⟩:=gb <|w.alloc (gi (-1) (-1) 0 0);have cu:Fr [] w W:=by rw[D];exact(lT w).alloc _
 have lB:W.heap[w.heap.size]?=some (gi (-1) (-1) 0 0):=by rw[D];exact heap_alloc_new w _
 have M0:=lO;have a6:(str x.bytes).size=15:=by rw[cR];exact x.eP
 have⟨T,P⟩:=gb <|grownCap W 15 0 5;have⟨l,z⟩:=gb <|(W.alloc<|oB (str x.bytes) T).drew;have S:Fr [] W l:=by rw[z];exact((lT W).alloc _).drew
 have Vv:=bp.below ((cu.trans S).below (zzc _) bR)<|by have:=h.low;omega
 have oX:Src l (.slice (some (gz W.heap.size)) 15 T) x.bytes:=by
  have:=Jt W (str x.bytes) (by rw[a6];decide);rw[a6,kU g.ok.Ie,<-P]at this;rw[z];exact this
 have R:=acw _ x.bytes l oX g.ok.Ie (by rw[x.eP];decide) Vv;have hE:Sa x.bytes=0:=by unfold Sa;rw[g.ok.dec.1];rfl
 rw[g.ok.dec.2,hE]at R;have u9:=g.ok.small;have H:=af<|zzb h<|zzb hN<|zzb hn<|zzb g<|zzb bp<|zzb aH<|zzb Y<|zzb (cu.trans S)<|zzb S lB;have aa:x.dst<=n:=by rw[hn];exact g.dst
 clear h hN hn g bp aH Y cu S lB Vv oX hE;have L9:W.heap.size=w.heap.size+1:=by rw[D];simp
 rw[L9]at R;rw[D]at P z;go_enter func35,ntmps35;go_wp2_with fail;rw[<-P,<-z];clear P z D M0 a6;apply R.mono;clear R;rintro e i ⟨rfl,ja⟩;have dz:Fr [] l i:=⟨ja.os,ja.tape,ja.output,ja.size,λk F _=>ja.block k F⟩;have fo:=H.2.2.2.2.2.2.2.1.trans dz;have⟨d,L⟩:=gb <|i.alloc (.cells #[.int .i64 (x.kind:Int),.int .i64 (x.src:Int),.int .i64 (x.dst:Int),.int .u64 (x.aP:Int)] 151);have c:Fr [] w d:=fo.trans (by rw[L];exact(lT i).alloc _);have N:=H.1.new c;have Fv:=H.2.1.new c;have⟨G,Qv⟩:∃G,E[x.dst]?=some G:=⟨_,zzg<|by have:=H.2.2.2.2.2.2.1;omega⟩;obtain⟨gh,rfl,C⟩:=dF N.hs Qv;have s:=ae N.net 0;have n4:=ae N.net 4
 have M:d.heap[w.heap.size]?=some (gi (-1) (-1) 0 0):=by
  have h1:=(H.2.2.2.2.2.2.2.2.1.block _ (zza.1 H.2.2.2.2.2.2.2.2.2).1 bR).trans H.2.2.2.2.2.2.2.2.2;have h2:=(dz.block _ (zza.1 h1).1 bR).trans h1;rw[L];exact(zzf i _ _ (zza.1 h2).1).trans h2
 have t:=ae M 0;have u:=ae M 1;have v:=ae M 2;have y:=ae M 3;simp at s n4 C t u v y;have bU:w.heap.size<i.heap.size:=by have:=H.2.2.2.2.2.2.2.1.size;have:=(zza.1 H.2.2.2.2.2.2.2.2.2).1;have:=ja.size;have:=H.2.2.2.2.2.2.2.2.1.size;omega
 have Xg:d.heap[i.heap.size]?=some (.cells #[.int .i64 (x.kind:Int),.int .i64 (x.src:Int),.int .i64 (x.dst:Int),.int .u64 (x.aP:Int)] 151):=by rw[L];exact heap_alloc_new i _
 have r:=ae Xg 2;simp at r;have b:=af<|zzb N<|zzb Fv<|zzb c<|zzb M<|zzb Xg Qv;clear dz fo c N Fv ja M Qv Xg;have i1:(x.dst:Int)<=(n:Int):=bL
 have i2:(0:Int)<=(x.dst:Int):=bL;have i3:(x.dst:Int)<(n:Int)+1:=bL;have i4:¬(x.dst:Int)<0:=bL;have i5:¬(n:Int)<(x.dst:Int):=bL;go_wp2_with fail;rw[<-L];clear L;go_quiet (fail)
 have p:=cw (lT d) nq;generalize d.drewN nq=W5 at p ⊢;have V:=b.1.new p;have jG:=b.2.1.new p;have q:=(p.block _ (zza.1 b.2.2.2.1).1 bR).trans b.2.2.2.1;have Yc:=(p.block _ (zza.1 b.2.2.2.2.1).1 bR).trans b.2.2.2.2.1;have c:=b.2.2.1.trans p;have Iw:∀w',Fr [] W5 w'->Calls prog 72 #[.pointer<|some (gz G),.string<|str x.bytes,fy (-1) (-1) 0 0] w' λe a8=>e=.returned (.int .i64 0)/\zL I B E (A.recv x).c (A.recv x).co (A.recv x).ss (K+1) w a8/\∀(k:Nat) (o:Obj),W5.heap[k]?=some o->w.heap.size<=k->a8.heap[k]?=some o:=λw' m=>by
  apply(Yb x (jG.new m) H.2.2.2.1 b.2.2.2.2.2 hB (H.2.2.2.2.1.below ((c.trans m).below (zzc _) bR)<|by have:=H.1.low;omega) (H.2.2.2.2.2.1.cI<|(c.trans m).block 1 (by have:=H.1.low;omega) bR) hK).mono;rintro e w6 ⟨rfl,Qe,dW,L6,hm6,hF6⟩;refine⟨rfl,⟨Qe,(xu.new (c.trans m) H.1.low.2).trans dW,L6,hm6,(c.trans m).mono bR |>.andThen hF6 (λj hj _=>hj)⟩,λk o F hl=>?_⟩;exact(hF6.block k (zzl (zza.1 F).1 m.size) λhm=>by have:=H.2.1.lt L6 hm6 k hm;omega).trans<|(m.block k (zza.1 F).1 bR).trans F
 clear s n4 C t u v y r;have⟨a',a1,C⟩:=dF V.hs b.2.2.2.2.2;cases a1;have s:=ae V.net 0;have t:=ae q 0;have u:=ae q 1;have v:=ae q 2;have y:=ae q 3;have r:=ae Yc 2;simp at s C t u v y r;have Nb:=af Iw;have H5:=af<|zzb q Yc;clear V jG q Yc c Iw p;go_wp2_with fail
 go_region_held3 (λw'=>w'.cell? (gz J)=some (.slice (some (gz gh)) (n+1) hc)/\w'.cell? (hO gh x.dst)=some (cQ G)/\w'.cell? (hO i.heap.size 2)=some (.int .i64 (x.dst:Int))/\w'.cell? (gz w.heap.size)=some (.int .i64<|-1)/\w'.cell? (hO w.heap.size 1)=some (.int .i64<|-1)/\w'.cell? (hO w.heap.size 2)=some (.int .i64 0)/\w'.cell? (hO w.heap.size 3)=some (.int .i64 0)) (simp[*])
  (first|(go_at_call 72;apply(Nb.out _<|by first|exact cw (lT W5) _|exact(lT W5).drew|exact lT W5).mono;rintro e w6 ⟨rfl,Qe,Tb⟩;have X:=H.1.Vm Qe.2.1;(have Q:=Tb _ _ H5.1<|zzc _);(have a7:=Tb _ _ H5.2<|Nat.le_of_lt bU);(have⟨a',a1,C⟩:=dF X.hs b.2.2.2.2.2);cases a1;have s:=ae X.net 0;have t:=ae Q 0;have u:=ae Q 1;have v:=ae Q 2;have y:=ae Q 3;have r:=ae a7 2;simp at s C t u v y r;have H6:=af Qe;clear Qe Tb X Q a7))
 go_wp2_with fail;go_ret;exact⟨rfl,H6.out⟩
end
def aB.send(A:aB):Nat->aB
 |0=>{ A with bC:=A.bC++(A.co++cY A.c.out),c:={ A.c with out:=[] },co:=[] }
 |i+1=>match A.ss[i]? with
  |none=>A
  |some s=>{ A with bC:=A.bC++s.2,ss:=A.ss.set i (s.1,[]) }
def aB.fh(A:aB):Nat->aB
 |0=>A
 |m+1=>(A.fh m).send m
structure Looks(A A':aB):Prop where
 ok:Qp A.c A.ss A.ds A.ord A'.ds A'.ord
 eq:A'={ A with ds:=A'.ds,ord:=A'.ord,c:={ A.c with res:=[] } }
 len:A.ord.length+A.c.res.length<=60000000/\A.ds.length<=60000000
 qE:Vo A.ds
 T8:∀(i:Nat) (s:ag × List bt),A.ss[i]?=some s->s.1.aM.length<=60000000
inductive vD:List bt->aB->aB->Prop
 |nil (A:aB):vD [] A A
 |cons {x:bt} {l:List bt} {A A1 A2:aB}:A.Comes x->Looks (A.recv x) A1->vD l A1 A2->vD (x :: l) A A2
structure wW(A A':aB)(m:Nat):Prop where
 ok:(∀x∈A.co++cY A.c.out,x.Ok)/\∀(i:Nat) (s:ag × List bt),A.ss[i]?=some s->∀x∈s.2,x.Ok
 nil:A.bC=[]
 cnt:m=(A.fh (A.ss.length+1)).bC.length
 del:vD (A.fh (A.ss.length+1)).bC { A.fh (A.ss.length+1) with bC:=[] } A'
inductive zg:Nat->aB->aB->Nat->Prop
 |nil (A:aB):zg 0 A A 0
 |cons {r m k:Nat} {A A1 A2:aB}:wW A A1 m->zg r A1 A2 k->zg (r+1) A A2 (m+k)
theorem T9(A:aB)(i:Nat):(A.send i).ss.length=A.ss.length:=by
 unfold aB.send;split
 .rfl
 .split
  .rfl
  .simp
theorem zh(A:aB)(m:Nat):(A.fh m).ss.length=A.ss.length:=by
 induction m with
 |zero=>rfl
 |succ m ih=>unfold aB.fh;rw[T9,ih]
theorem IB(A:aB)(i j:Nat)(h:j+1≠i):(A.send i).ss[j]?=A.ss[j]?:=by
 unfold aB.send;split
 .rfl
 .rename_i i;split
  .rfl
  .rw[List.getElem?_set_ne bL]
theorem FF(A:aB)(m j:Nat)(h:m<=j+1):(A.fh m).ss[j]?=A.ss[j]?:=by
 induction m with
 |zero=>rfl
 |succ m ih=>unfold aB.fh;rw[IB _ _ _ bL,ih bL]
theorem xx(A:aB)(x:bt):(A.recv x).ss.length=A.ss.length/\(A.recv x).bC=A.bC/\(A.recv x).ds=A.ds/\(A.recv x).ord=A.ord:=by
 unfold aB.recv;split
 .exact⟨rfl,rfl,rfl,rfl⟩
 .split
  .exact⟨rfl,rfl,rfl,rfl⟩
  .exact⟨bR,rfl,rfl,rfl⟩
theorem xy(A:aB)(i:Nat):(A.send i).ds=A.ds/\(A.send i).ord=A.ord:=by
 unfold aB.send;split
 .exact⟨rfl,rfl⟩
 .split<;>exact⟨rfl,rfl⟩
def bJ(J w:World)(B G n K:Nat)(I:Value)(E:List Nat)(A:aB):Prop :=
 ∃v bv o l ps s,ee w B G I v bv o n l E ps A.ds A.bC A.ord/\jI w B E A.c A.co A.ss K s/\(∀g,bv.ownBlock=some g->J.heap.size<=g)/\wS B J w
section
variable{J w w':World}{B G n K:Nat}{I:Value}{E:List Nat}{A A':aB}
theorem bJ.ln(h:bJ J w B G n K I E A):E.length=A.ss.length+1:=by
 obtain⟨v,bv,o,l,ps,s,-,a,-⟩:=h;exact a.len.1
theorem bJ.new(h:bJ J w B G n K I E A)(hf:Fr [] w w'):bJ J w' B G n K I E A:=by
 have⟨v,bv,o,l,ps,s,a,b,c,d⟩:=h;exact⟨v,bv,o,l,ps,s,a.new hf,b.new hf,c,d.trans (xu.new hf a.low.2).lg⟩
theorem bJ.hs(h:bJ J w B G n K I E A):w.ownsRow B 46 1 I E.length (E.map cQ)/\B<=w.heap.size:=by
 have⟨v,bv,o,l,ps,s,a,b,c,d⟩:=h;exact⟨a.hs,a.low.2⟩
theorem bJ.cells(h:bJ J w B G n K I E A):w.cell? ⟨G,0,none⟩=some I/\w.cell? ⟨G,4,none⟩=some (.int .i64 (n:Int)):=by
 have⟨v,bv,o,l,ps,s,a,b,c,d⟩:=h;exact⟨(ae a.net 0).trans bR,(ae a.net 4).trans bR⟩
theorem rp(h:bJ J w B G n K I E A)(l:Looks A A')(hn:n=A.ss.length)(g:K<=300000)(X:n<=1000):
  Calls prog 36 #[cQ G] w λe w'=>e=.returned (.bool true)/\bJ J w' B G n K I E A':=by
 have⟨v,bv,o,f,ps,s,a,b,c,d⟩:=h;apply(Qs w B G n K I v bv o f E ps A.ds A'.ds A.bC A.ord A'.ord A.c A.co A.ss s a b hn l.ok g l.len.1 l.len.2 l.qE bL l.T8).mono;rintro e w' ⟨rfl,jl,Br,q1,q2,q3⟩;refine⟨rfl,?_⟩;rw[l.eq];exact⟨v,bv,jl,f,ps,Br,q1,q2,c,d.trans q3⟩
theorem sT(x:bt)(h:bJ J w B G n K I E A)(m:A.Comes x)(hn:n=A.ss.length)(k:K<=290000)(b:2<=B)(p:Met J)(H:bI J):
  Calls prog 35 #[cQ G,.string<|str x.bytes,fy (-1) (-1) 0 0] w λe w'=>e=.returned (.bool true)/\bJ J w' B G n (K+1) I E (A.recv x):=by
 have⟨v,bv,o,l,ps,s,c,i,j,a⟩:=h;apply(FE x c i hn m b (a.met b p) (a.lh b H) k).mono;rintro e w' ⟨rfl,⟨Br,q1⟩,q2,-⟩;refine⟨rfl,v,bv,o,l,ps,Br,?_,q1,j,a.trans q2.lg⟩;obtain⟨-,d,f,g⟩:=xx A x;rw[d,f,g];exact c.Vm q2
def aB.outs(A:aB):Nat->List bt
 |0=>A.co++cY A.c.out
 |i+1=>(A.ss[i]?.map (·.2)).getD []
theorem uk(A:aB)(i:Nat):(A.send i).bC=A.bC++A.outs i:=by
 cases i with
 |zero=>rfl
 |succ i=>
  simp only[aB.send,aB.outs];cases A.ss[i]? with
  |none=>simp
  |some s=>rfl
theorem FG{s:List (List Nat)}{p i:Nat}(h:jI w B E A.c A.co A.ss K s)(u:E[i]?=some p)(g:i<=A.ss.length)(b:∀x∈A.outs i,x.Ok)(f:K<=140000):
  Calls prog 34 #[.pointer<|some ⟨p,0,none⟩] w λe w'=>∃v,e=.returned v/\w'.ownsRow w.heap.size 9 1 v (A.outs i).length (eJ<|A.outs i)/\(A.outs i=[]->v=.slice none 0 0)/\zL s B E (A.send i).c (A.send i).co (A.send i).ss K w w':=by
 cases i with
 |zero=>exact X8 h u b f
 |succ i=>
  have d:=g;have hs:=zzg d;have a:A.outs (i+1)=A.ss[i].2:=by simp only[aB.outs];rw[hs];rfl
  have c:A.send (i+1)={A with bC:=A.bC++A.ss[i].2,ss:=A.ss.set i (A.ss[i].1,[])}:=by simp only[aB.send];rw[hs]
  rw[a]at b ⊢;rw[c];exact abm h hs u b bL
end
theorem vD.ss{A A':aB}(h:vD l A A'):A'.ss.length=A.ss.length/\A'.bC=A.bC:=by
 induction h with
 |nil=>exact⟨rfl,rfl⟩
 |cons h1 h2 _ ih=>
  have e:=h2.eq;rw[ih.1,ih.2,e];exact⟨(xx _ _).1,(xx _ _).2.1⟩
theorem wW.ss{A A':aB}(h:wW A A' m):A'.ss.length=A.ss.length/\A'.bC=[]:=by
 have:=h.del.ss;exact⟨this.1.trans<|zh A _,this.2⟩
theorem str_slice{b:Nat}{o:Option Addr}{c:Nat}{x:bt}(h:w.ownsRow b 9 1 (.slice o m c) n<|eJ l)(j:l[i]?=some x):∃g,o=some ⟨g,0,none⟩/\w.cell? ⟨g,i,none⟩=some (.string<|str x.bytes):=by
 rcases h.2 with⟨e,d⟩|⟨g,p,r,e,rest⟩
 .have:=(zzd.1 j).1;have a:=h.1;rw[d]at a;simp[eJ]at a;rw[a]at this;simp at this
 .have e':=e;cases e';exact⟨g,rfl,dC h e<|by unfold eJ;rw[zzy,j];rfl⟩
theorem C8(A:aB)(i d:Nat):(A.fh i).bC.length<=(A.fh<|i+d).bC.length:=by
 induction d with
 |zero=>exact zzc _
 |succ d ih=>
  show _<=((A.fh<|i+d).send<|i+d).bC.length;rw[uk,zzi];omega
theorem IK(A:aB)(i:Nat):(A.fh i).outs i=A.outs i:=by
 cases i with
 |zero=>rfl
 |succ i=>simp only[aB.outs];rw[FF A (i+1) i<|zzc _]
theorem wW.outs{A A':aB}(h:wW A A' m)(i:Nat):∀x∈A.outs i,x.Ok:=by
 cases i with
 |zero=>exact h.ok.1
 |succ i=>
  intro x a;simp only[aB.outs]at a;cases e:A.ss[i]? with
  |none=>rw[e]at a;cases a
  |some s=>rw[e]at a;exact h.ok.2 i s e x a
theorem bJ.base{A:aB}(h:bJ b w B E n K J G A)(hb:A.bC=[])(hf:wS B I b):bJ I w B E n K J G A:=by
 have⟨v,bv,o,l,ps,s,a,c,e,d⟩:=h;exact⟨v,bv,o,l,ps,s,a,c,by rw[a.Kf hb];nofun,hf.trans d⟩
theorem Me.net{a:World}{l:Bool}{ps:List (Nat×Value×Value)}{ds:List aS}{T:List bt}{ord:List Nat}(P:Me w a B bv d T)(h:ee w B E J v bv o n l G ps ds bC ord):a.heap[E]?=some (wR J v bv o n l):=by
 obtain⟨S,c,-,b⟩:=P.fr;exact(c.block E (zza.1 h.net).1 λm=>bj h.bg h.net bM<|b E m).trans h.net
theorem bJ.C9{l:Bool}{ps:List (Nat×Value×Value)}{A A1:aB}(h:ee w B E J d bv o n l G ps A.ds bC A.ord)(hN:jI w B G A1.c A1.co A1.ss K s)(P:Me w b B bv v A1.bC)(hb:∀g,bv.ownBlock=some g->I.heap.size<=g)(a:wS B I w)(c:A1.ds=A.ds)(f:A1.ord=A.ord):bJ I (b.setCell ⟨E,2,none⟩ v) B E n K J G A1:=by
 have⟨L,S,hf,i,j⟩:=h.Vu P;refine⟨d,v,o,l,ps,s,by rw[c,f];exact L,hN.law hf i,λg m=>?_,a.ic hf h.low.2 λk p=>?_⟩
 .rcases P.loc g m with e|e
  .exact hb g e
  .have:=a.below.size;omega
 .rcases j k p with e|e
  .rw[e];exact⟨h.low.1,.inr ⟨_,_,_,h.net,.inl rfl⟩⟩
  .exact⟨(h.bg.lt k e).1,.inl<|hb k e⟩
section
variable{I:World}{B E n K:Nat}{J:Value}{G:List Nat}{A A':aB}
theorem Mm(w:World)(R:Nat)(a1:bJ I w B E n K J G A)(hn:n=A.ss.length)(o:zg 6 A A' R)(hK:K+R<=100000)(rX:n<=1000)(hB:2<=B)(bp:Met I)(aH:bI I)(U:A.bC=[]):
  Calls prog 17 #[cQ E] w λe w'=>e=.returned (.bool true)/\bJ I w' B E n (K+R) J G A':=by
 obtain⟨s,h,Mc,-⟩:=fP a1.hs.1;have Nc:G.length=n+1:=by have:=a1.ln;omega
 rw[Nc]at Mc;subst Mc;have u:=af<|zzb a1<|zzb o<|zzb hn<|zzb U<|zzb bp aH;clear a1 o hn U bp aH
 go_enter func17,ntmps17;go_wp2_with fail;go_loopw [3] (λi wr=>∃q:Nat,q<=6/\i=.int .i64 (q:Int)/\Hid (∃r b T,zg (6-q) r A' T/\bJ I wr B E n b (.slice s (n+1) h) G r/\b+T=K+R/\n=r.ss.length/\r.bC=[])) (λi _=>6-(intOf i).toNat)
 case atStart=>exact⟨0,zzs _,rfl,A,K,R,u.2.1,u.1,rfl,u.2.2.1,u.2.2.2.1⟩
 case round=>
  obtain⟨q,hq,rfl,HI⟩:=hrel;by_cases bU:q<6
  .obtain⟨r,b,T,j,C,a8,F7,a6⟩:=HI.out;have⟨A1,m1,k1,iG,dO,DB⟩:∃A1 m k,wW r A1 m/\zg (6-(q+1)) A1 A' k/\T=m+k:=by
    have e:6-q=(6-(q+1))+1:=bL;rw[e]at j;cases j;exact⟨_,_,_,eC,eC,rfl⟩
   have i1:(q:Int)<6:=bL;have H:=af<|zzb iG<|zzb dO<|zzb C<|zzb F7 a6;clear HI j iG dO C F7 a6;go_wp2_with fail
   go_loopw [4] (λi wx=>∃p:Nat,p<=n+1/\i=.int .i64 (p:Int)/\Hid (bJ I wx B E n b (.slice s (n+1) h) G<|r.fh p)) (λi _=>n+1-(intOf i).toNat)
   case atStart=>exact⟨0,zzs _,rfl,H.2.2.1⟩
   case round=>
    obtain⟨p,hp,rfl,D⟩:=hrel;have⟨n0,n4⟩:=D.out.cells;by_cases Bq:p<=n
    .obtain⟨hh,Ng⟩:∃hh,G[p]?=some hh:=⟨_,zzg bL⟩;obtain⟨gh,rfl,C3⟩:=dF (f:=id) D.out.hs.1 Ng;obtain⟨dv,bv,ov,fl,ps,Ls,L,hN,V,Q⟩:=D.out;have zA:=FG hN Ng (by rw[zh];have:=H.2.2.2.1;omega) (by rw[IK];exact H.1.outs p) bL;simp at C3;have j0:(0:Int)<=p:=bL
     have j1:(p:Int)<=n:=bL;have j2:(p:Int)<n+1:=bL;have HQ:=af<|zzb L<|zzb hN<|zzb V Q;clear L hN V Q;go_wp2_with fail;apply zA.mono;clear zA;rintro e w1 ⟨v,rfl,Od,dM,⟨Ls1,gX⟩,bh,-⟩;have P:=HQ.1.Vm bh;have c2:=ae P.net 2;have i_:=aj P.net 2;simp at c2;clear n0 n4 C3;obtain⟨va,vn,vc,rfl⟩:=ct Od
     have gT:(r.fh p).bC.length+((r.fh p).outs p).length<=60000000:=by
      have N:=C8 r (p+1)<|n-p
      have h2:((r.fh<|p+1).bC).length=(r.fh p).bC.length+((r.fh p).outs p).length:=by
       show((r.fh p).send p).bC.length=_;rw[uk,zzi]
      rw[show p+1+(n-p)=r.ss.length+1 by have:=H.2.2.2.1;omega,<-H.1.cnt]at N;omega
     have⟨ba,bn,bc,Ua⟩:=ct P.bg;have U:=P.bg;have Qy:=P.Kf;have ei:=P.low.2;have H1:=af<|zzb P<|zzb gX bh;subst Ua;clear P gX bh
     go_wp2_with (at_builtin;apply zf rfl _ _ rfl B _ _ _ _ _ rfl U Qy rfl Od gT ei);intro v' w2 S;obtain⟨b0,b2,b1,rfl⟩:=ct S.row;have cZ:=S.net H1.1;have g2:=ae cZ 2;have bb:=aj cZ 2;simp at g2;have Y:bJ I (w2.setCell (hO E 2)<|.slice b0 b2 b1) B E n b (.slice (some (gz gh)) (n+1) h) G (r.fh<|p+1):=by
      rw[<-uk]at S;exact bJ.C9 H1.1 H1.2.1 S HQ.2.2.1 (HQ.2.2.2.trans H1.2.2.lg) (xy _ _).1 (xy _ _).2
     have F:=af Y;clear Y S cZ U Qy Od dM c2 i_;go_wp2_with fail;go_roundw;case rel=>exact⟨p+1,bL,eR,F.out⟩
     case measure=>simp[intOf];omega
    .have j1:¬(p:Int)<=n:=bL;have DA:p=r.ss.length+1:=by have:=H.2.2.2.1;omega
     have⟨dv,bv,ov,fl,ps,Ls,L,hN,V,Q⟩:=D.out;have⟨l,t⟩:=gb <|(r.fh p).bC;rw[<-t]at L;have c2:=ae L.net 2;have f2:=aj L.net 2;simp at c2;have⟨BB,S2,aQ,an,aa⟩:=L.Vu<|Me.none B wr bv;have⟨W,o⟩:∃W,W=wr.setCell ⟨E,2,none⟩ (.slice none 0 0):=⟨_,rfl⟩;rw[<-o]at BB aQ;have nB:=hN.law aQ an
     have U9:=Q.ic aQ L.low.2 (λk hk=>by
      obtain e|e:=aa k hk
      .rw[e];exact⟨L.low.1,.inr ⟨_,_,_,L.net,.inl rfl⟩⟩
      .exact⟨(L.bg.lt k e).1,.inl (V k e)⟩)
     have ir:W.ownsRow B 9 1 bv l.length (eJ l):=by rw[o];exact aD L.bg (Fr.cD (List.mem_singleton.2 rfl) _ _) λg hg=>by simp;intro e;subst e;exact bj L.bg L.net bM hg
     obtain⟨la,lc,rfl⟩:∃la lc,bv=.slice la l.length lc:=by
      rcases L.bg.2 with⟨e,e2⟩|⟨g,b5,b6,e,-⟩
      .exact⟨none,0,by rw[e,e2]⟩
      .exact⟨_,_,e⟩
     have⟨M,hM⟩:=gb l.length;have ad:M=m1:=by rw[hM,t,DA];exact H.1.cnt.symm
     have hD:vD l {r.fh p with bC:=[]} A1:=by rw[t,DA];exact H.1.del
     have al:bJ W W B E n b (.slice s (n+1) h) G {r.fh p with bC:=[]}:=⟨dv,_,ov,fl,ps,Ls,BB,nB,nofun,⟨zzD _ _,λ_ _ _ _ hk _ _=>hk⟩⟩;have Zd:n=({r.fh p with bC:=[]}:aB).ss.length:=by show n=(r.fh p).ss.length;rw[zh];exact H.2.2.2.1
     rw[<-hM]at c2 ir;have d:=af<|zzb al<|zzb hD<|zzb U9<|zzb ir<|zzb hM Zd;clear D L hN V Q t BB aQ an aa nB U9 ir hD al hM Zd;have Vy:=d.2.2.1.met hB u.2.2.2.2.1;have Vz:=d.2.2.1.lh hB u.2.2.2.2.2;have a':=af<|zzb Vy Vz;have a7:=af ad;have bd:M<=100000:=bL
     clear Vy Vz ad DA;go_wp2_with fail;rw[<-o];clear o c2 f2;go_loopw [7] (λi wx=>∃k:Nat,k<=M/\i=.int .i64 (k:Int)/\Hid (∃c,vD (l.drop k) c A1/\bJ W wx B E n (b+k) (.slice s (n+1) h) G c/\n=c.ss.length)) (λi _=>M-(intOf i).toNat)
     case atStart=>exact⟨0,zzs _,rfl,_,d.2.1,d.1,d.2.2.2.2.2⟩
     case round=>
      obtain⟨k,hk,rfl,HK⟩:=hrel;have⟨c,O,z,Z⟩:=HK.out;by_cases az:k<M
      .obtain⟨x,hx⟩:∃x,l[k]?=some x:=⟨_,zzg<|by rw[<-d.2.2.2.2.1];exact az⟩
       have FC:l.drop k=x::l.drop (k+1):=by
        have t:=(zzd.1 hx);rw[List.drop_eq_getElem_cons t.1,t.2]
       rw[FC]at O;have⟨y,sY,my,ab⟩:∃y,c.Comes x/\Looks (c.recv x) y/\vD (l.drop<|k+1) y A1:=by
        cases O;exact⟨_,eC,eC,eC⟩
       have rowAt:∀(w':World) (K':Nat) (A9:aB),bJ W w' B E n K' (.slice s (n+1) h) G A9->w'.ownsRow B 9 1 (.slice la M lc) M (eJ l):=λw' K' A9 Mn=>by
        obtain⟨b9,b4,bf,b',bg,VA,-,-,-,h9⟩:=Mn;have:=d.2.2.2.1;exact h9.row this (by simp[bo])<|by simp[mr]
       obtain⟨g,rfl,cx⟩:=str_slice (rowAt wr _ _ z) hx;have eM:∀w',Fr [] wr w'->Calls prog 35 #[cQ E,.string<|str x.bytes,fy (-1) (-1) 0 0] w' λe b3=>e=.returned (.bool true)/\bJ W b3 B E n (b+k+1) (.slice s (n+1) h) G (c.recv x):=λw' aI=>sT x (z.new aI) sY Z (by have:=a7.out;omega) hB a'.1 a'.2
       have j0:(0:Int)<=k:=bL;have j1:(k:Int)<M:=bL;have zS:n=(c.recv x).ss.length:=by rw[(xx c x).1];exact Z
       have rL:n=y.ss.length:=by rw[my.eq];exact zS
       have HD:=af eM;have X:=af<|zzb hx<|zzb my<|zzb ab<|zzb rowAt<|zzb zS rL
       have aE:g<wr.heap.size:=by
        have N:=cx;unfold World.cell? at N;obtain e|e:=Nat.lt_or_ge g wr.heap.size
        .exact e
        .rw[Array.getElem?_eq_none<|by exact e]at N;cases N
       clear HK O z FC sY my ab rowAt eM hx zS rL Z;go_wp2_with fail;go_region_held3 (λw'=>w'.cell? (hO g k)=some (.string<|str x.bytes)) (simp[*])
        (first|(go_at_call 12;apply(qF _).mono;rintro e w3 ⟨rfl,dz⟩;have Ai:=Fr.trans (by first|exact cw (lT wr) _|exact(lT wr).drew|exact lT wr) dz;have b7:=(zze<|Ai.block g aE bR).trans cx;have H3:=af Ai;clear dz Ai)|(go_at_call 35;apply(HD.out _<|H3.out.trans<|by first|exact cw (lT w3) _|exact(lT w3).drew|exact lT w3).mono;rintro e w4 ⟨rfl,Fv⟩;(have⟨g',aw,b8⟩:=str_slice (X.2.2.2.1 _ _ _ Fv) X.1);cases aw;have H4:=af Fv;clear Fv))
       go_wp2_with fail;apply(rp H4.out X.2.1 X.2.2.2.2.1 (by have:=a7.out;omega) rX).mono;rintro e w5 ⟨rfl,jG⟩;have H5:=af jG;clear jG;go_wp2_with fail;go_roundw;case rel=>exact⟨k+1,bL,eR,y,X.2.2.1,H5.out,X.2.2.2.2.2⟩
       case measure=>simp[intOf];omega
      .have j1:¬(k:Int)<M:=bL;have ao:l.drop k=[]:=List.drop_eq_nil_iff.2 (by rw[<-d.2.2.2.2.1];omega);rw[ao]at O;cases O;have cG:=(H.1.ss).2;have Y:=z.base cG d.2.2.1;have F:=af<|zzb Y Z;have av:=af cG;clear z Y cG HK ao Z;go_wp2_with fail
       go_roundw;case rel=>exact⟨q+1,bL,eR,A1,b+k,k1,H.2.1,F.1,by have:=a7.out;omega,F.2,av.out⟩
       case measure=>simp[intOf];omega
  .have i1:¬(q:Int)<6:=bL;have⟨r,b,T,j,C,a8,F7,a6⟩:=HI.out;have e0:6-q=0:=bL;rw[e0]at j;have F:Hid (bJ I wr B E n (K+R) (.slice s (n+1) h) G A'):=by
    cases j;rw[<-a8];exact C
   clear j C a8 F7 a6 HI;go_wp2_with fail;go_ret;exact⟨rfl,F.out⟩
end
section
variable{w w' f I:World}{B G n h:Nat}{O U bv d J:Value}{Z:Bool}{E:List Nat}{ps:List (Nat × Value × Value)}{ds:List aS}{bC:List bt}{ord:List Nat}
theorem ee.abQ(a:ee w B G O U bv d n Z E ps ds bC ord)(u:Fr [] w f)(l:f.grownBy I O.ownBlock)(F:I.ownsRow B 46 1 J (E.length+1)<|(E.map cQ)++[cQ h]):
  ee (I.setCell ⟨G,0,none⟩ J) B G J U bv d n Z (E++[h]) ps ds bC ord/\∃S,Fr S w (I.setCell ⟨G,0,none⟩ J)/\oV w S/\∀k∈S,B<=k:=by
 have⟨W,A⟩:∃W,W=I.setCell ⟨G,0,none⟩ J:=⟨_,rfl⟩;rw[<-A];have X:=(zza.1 a.net).1;have N:=bj a.hs a.net bM;have C:=((Fr.bz l).block G (by have:=u.size;omega)<|by simp;exact N).trans ((u.block G X bR).trans a.net);have K:Fr [G] I W:=by rw[A];exact Fr.cD bR _ _
 have hf:=((u.mono bR).andThen ((Fr.bz l).mono λk _ s=>List.mem_cons_of_mem G s) λj o _=>o).andThen (K.mono λk _ s=>by simp at s;simp[s]) λj o _=>o
 have keep:∀(q:Nat) (c:Array Value) (t:TypeId),w.heap[q]?=some (.cells c t (0,0))->t≠37->t≠46->W.heap[q]?=some (.cells c t (0,0)):=λq c t i x z=>(hf.block q (zza.1 i).1 (λL=>by
  obtain e|e:=zzj.1 L
  .rw[e,a.net]at i;cases i;exact x rfl
  .simp at e;have⟨c2,r⟩:=aq a.hs e;rw[i]at r;cases r;exact z rfl)).trans i
 have row:∀{b m j:Nat} {e:TypeId} {v:Value} {xs:List Value},w.ownsRow b e j v m xs->e≠37->e≠46->W.ownsRow b e j v m xs:=λ{b m j e v xs} H x z=>bW H (λg l=>by
  have⟨c,D⟩:=aq H l;exact(keep g c e D x z).trans D.symm)
 refine⟨⟨by rw[A];have:=ar C 0 J;simp at this;exact this,⟨a.low.1,zzk a.low.2 hf.size⟩,?_,row a.dl bM bM,row a.bg bM bM,a.Kf,row a.od bM bM,a.Qh,a.ap,a.len,λj p y o M=>?_,a.zK⟩,⟨_,hf,λq i P=>?_,λq i=>?_⟩⟩
 .rw[zzi,List.map_append];exact aD F K λg l=>by simp;intro e;subst e;exact bj F C bM l
 .have hd:=a.each j p y o M;exact⟨keep _ _ _ hd.blk bM bM,hd.low,row hd.seq bM bM,row hd.qE bM bM⟩
 .rcases zzj.1 i with e|e
  .rw[e,a.net];exact⟨_,_,_,rfl,by simp[bo],λe=>absurd e bM⟩
  .simp at e;have⟨c2,r⟩:=aq a.hs e;exact⟨_,_,_,r,by simp[bo],λe=>absurd e bM⟩
 .rcases zzj.1 i with e|e
  .rw[e];exact a.low.1
  .simp at e;exact(a.hs.lt q e).1
end
abbrev co0:aU:=⟨[],1,1,0,[],[]⟩
abbrev QV(n:Nat):aB:=⟨[],[],[],co0,[],List.replicate n (Gb,[])⟩
def Kq(w:World)(B:Nat)(E:List Nat)(m:Nat):Prop:=E.length=m/\(0<m->∃s,jI w B E co0 [] (List.replicate (m-1) (Gb,[])) 1 s)
theorem YJ:cz 1 Gb:=⟨⟨List.Pairwise.nil,List.Pairwise.nil,List.Pairwise.nil⟩,nofun,λt=>by simp[ag.count],nofun,bR,bR,nofun⟩
theorem QW:cN 1 co0:=⟨List.Pairwise.nil,bR,⟨bR,bR,bR,bR,bR⟩,nofun⟩
theorem Kq.law{E S:List Nat}(h:Kq w B E m)(hf:Fr S w w')(a:oV w S):Kq w' B E m:=
 ⟨h.1,λb=>by have⟨s,hN⟩:=h.2 b;exact⟨s,hN.law hf a⟩⟩
theorem Kq.first(a:B<=w.heap.size)(h:cT w B p co0 [] 1 L):Kq w B [p] 1:=
 ⟨rfl,λ_=>⟨[L],⟨rfl,rfl⟩,a,⟨p,L,rfl,rfl,h⟩,QW,nofun,List.pairwise_singleton _ _⟩⟩
theorem Kq.more{E:List Nat}(h:Kq w B E<|m+1)(hf:Fr [] w w')(hn:dh w' B (m+1) p Gb [] 1 L)(j:∀k∈L,w.heap.size<=k):Kq w' B (E++[p]) (m+2):=by
 have⟨c,g⟩:=h;have⟨d,hN⟩:=g<|Nat.succ_pos m;have P:=hN.new hf;have l:d.length=m+1:=by simpa using hN.len.2
 refine⟨by simp[c],λ_=>⟨d++[L],⟨by simp[c],by simp[l]⟩,P.base,?_,QW,λi s hs=>?_,?_⟩⟩
 .obtain⟨hq,M,a1,a2,a3⟩:=P.co;exact⟨hq,M,by rw[List.getElem?_append_left bL];exact a1,by rw[List.getElem?_append_left bL];exact a2,a3⟩
 .have hi:i<m+1:=by simpa using (zzd.1 hs).1
  have f:s=(Gb,[]):=by
   rw[List.getElem?_replicate]at hs;split at hs
   .exact(Option.some.inj hs).symm
   .cases hs
  subst f;by_cases e:i=m
  .subst e;exact⟨p,L,by rw[List.getElem?_append_right bL,c];simp,by rw[List.getElem?_append_right bL,l];simp,hn,YJ⟩
  .obtain⟨hq,M,a1,a2,a3,a4⟩:=P.sh i (Gb,[]) (by rw[List.getElem?_replicate,if_pos bL]);exact⟨hq,M,by rw[List.getElem?_append_left bL];exact a1,by rw[List.getElem?_append_left bL];exact a2,a3,a4⟩
 .rw[List.pairwise_append];refine⟨hN.zK,List.pairwise_singleton _ _,λa n b hb k o q=>?_⟩;simp at hb;subst hb;have:=hN.lt a n k o;have:=j k q;omega
section
variable{w U O:World}{B E n I:Nat}{h G bv i J Z d:Value}{f:Bool}{l:List Nat}{ps:List (Nat × Value × Value)}{ds:List aS}{bC:List bt}{ord:List Nat}{x:aS}
theorem ee.abx(o:ee w B E h G bv i n f l ps ds bC ord)(M:Fr [] w U)(z:zd U B (I,Z,d) x)(a6:w.heap.size<=I)(R:∀g,Z.ownBlock=some g->w.heap.size<=g)(a1:∀g,d.ownBlock=some g->w.heap.size<=g)(s:U.grownBy O G.ownBlock)(ho:O.ownsRow B 55 1 J (ps.length+1)<|(ps.map λp=>cQ p.1)++[cQ I])(eW:∀g,J.ownBlock=some g->G.ownBlock=some g\/w.heap.size<=g):
  ee (O.setCell ⟨E,1,none⟩ J) B E h J bv i n f l (ps++[(I,Z,d)]) (ds++[x]) bC ord/\pR B w (O.setCell ⟨E,1,none⟩ J):=by
 obtain⟨W,P⟩:∃W,W=O.setCell ⟨E,1,none⟩ J:=⟨_,rfl⟩;rw[<-P];have rX:=(zza.1 o.net).1;have pK:=bj o.dl o.net bM;have T:=((Fr.bz s).block E (by have:=M.size;omega)<|by simp;exact pK).trans ((M.block E rX bR).trans o.net);have mJ:Fr [E] O W:=by rw[P];exact Fr.cD bR _ _
 have S:=((Fr.bz s).mono λk _ L=>List.mem_cons_of_mem E L).andThen (mJ.mono λk _ L=>by simp at L;simp[L]) λj u _=>u;have hf:=(M.mono bR).andThen S λj u _=>u
 have keep:∀(q:Nat) (c:Array Value) (t:TypeId),w.heap[q]?=some (.cells c t (0,0))->t≠37->(t≠55\/G.ownBlock≠some q)->W.heap[q]?=some (.cells c t (0,0)):=λq c t A K C=>(hf.block q (zza.1 A).1 (λQ=>by
  obtain e|e:=zzj.1 Q
  .rw[e,o.net]at A;cases A;exact K rfl
  .simp at e;obtain C|C:=C
   .obtain⟨c2,H⟩:=aq o.dl e;rw[A]at H;cases H;exact C rfl
   .exact C e)).trans A
 have v_:∀q,w.heap.size<=q->q<U.heap.size->W.heap[q]?=U.heap[q]?:=λq A D=>S.block q D (λQ=>by
  obtain e|e:=zzj.1 Q
  .omega
  .simp at e;have:=(o.dl.lt q e).2;omega)
 have row:∀{b m j:Nat} {e:TypeId} {v:Value} {xs:List Value},w.ownsRow b e j v m xs->e≠37->(e≠55\/X0 G v)->W.ownsRow b e j v m xs:=λ{b m j e v xs} hr K C=>bW hr (λg s=>by
  have⟨c,Y⟩:=aq hr s;exact(keep g c e Y K (C.imp id (λN e=>N g e s))).trans Y.symm)
 have mO:zd W B (I,Z,d) x:=⟨(v_ I a6 (zza.1 z.blk).1).trans z.blk,z.low,bW z.seq λg s=>v_ g (R g s) (z.seq.lt g s).2,bW z.qE λg s=>v_ g (a1 g s) (z.qE.lt g s).2⟩;have a7:(ord.map λj=>cQ<|((ps++[(I,Z,d)])[j]?.map (·.1)).getD 0)=ord.map λj=>cQ ((ps[j]?.map (·.1)).getD 0):=List.map_congr_left λj u=>by rw[List.getElem?_append_left<|o.Qh j u]
 have bU:∀p∈ps,p.1<w.heap.size/\(∀g,p.2.1.ownBlock=some g->g<w.heap.size)/\∀g,p.2.2.ownBlock=some g->g<w.heap.size:=λp hp=>by
  have⟨j,u⟩:=List.getElem?_of_mem hp;have⟨y,F⟩:∃y,ds[j]?=some y:=⟨_,zzg<|by rw[<-o.len];exact(zzd.1 u).1⟩;have z:=o.each j p y u F;exact⟨(zza.1 z.blk).1,λg s=>(z.seq.lt g s).2,λg s=>(z.qE.lt g s).2⟩
 refine⟨⟨by rw[P];have:=ar T 1 J;simp at this;exact this,⟨o.low.1,zzk o.low.2 hf.size⟩,row o.hs bM<|.inl bM,?_,row o.bg bM<|.inl bM,o.Kf,by rw[a7];exact row o.od bM<|.inr o.ap,λj u=>by have:=o.Qh j u;simp;omega,λg s e=>?_,by simp[o.len],λj p y u F=>?_,?_⟩,⟨_,hf,λq A D=>?_,λq A=>?_⟩⟩
 .rw[zzi,List.map_append];exact aD ho mJ λg s=>by simp;intro e;subst e;exact bj ho T bM s
 .rcases eW g s with V|V
  .exact o.ap g V e
  .have:=(o.od.lt g e).2;omega
 .rcases Nat.lt_or_ge j ps.length with D|D
  .rw[List.getElem?_append_left D]at u;rw[List.getElem?_append_left<|by rw[<-o.len];exact D]at F;have z:=o.each j p y u F;exact⟨keep _ _ _ z.blk bM<|.inl bM,z.low,row z.seq bM<|.inl bM,row z.qE bM<|.inl bM⟩
  .rw[List.getElem?_append_right D]at u;rw[List.getElem?_append_right<|by rw[<-o.len];exact D,<-o.len]at F
   cases X:j-ps.length with
   |zero=>
    rw[X]at u F;simp at u F;subst u F;exact mO
   |succ r=>rw[X]at u;simp at u
 .rw[List.pairwise_append];refine⟨o.zK,List.pairwise_singleton _ _,λa ha b hb=>?_⟩;simp at hb;subst hb;have⟨K,C,N⟩:=bU a ha;exact⟨cE,λg s e=>by have:=C g s;have:=R g e;omega,λg s e=>by have:=N g s;have:=a1 g e;omega⟩
 .rcases zzj.1 A with e|e
  .rw[e,o.net];exact⟨_,_,_,rfl,.inl rfl⟩
  .simp at e;have⟨c2,H⟩:=aq o.dl e;exact⟨_,_,_,H,.inr<|.inr<|.inl rfl⟩
 .rcases zzj.1 A with e|e
  .rw[e];exact o.low.1
  .simp at e;exact(o.dl.lt q e).1
end
end
abbrev rs(V:List (ByteArray × ByteArray)):ag:=⟨V,[],[],0⟩
abbrev df(V:List (ByteArray × ByteArray))(t st d y:Nat)(k v:ByteArray):ag:=⟨V,[(t,⟨st,d,0⟩)],[((t,k),⟨y,v⟩)],0⟩
section
variable(V:List (ByteArray × ByteArray))(t st d:Nat)(k v:ByteArray)
theorem zi(g:aK)(h:t≠0)(c:1<=k.size/\k.size<=16)(v:g.val.size<=32):(rs V).aJ t 0 k g=(df V t 1 1 g.way k g.val,0):=by
 have e:(rs V).aP t=⟨0,0,0⟩:=rfl
 have a:(rs V).eD t 0 k g.val=0:=by
  unfold ag.eD;rw[if_neg h,if_neg (by omega),e,if_neg (by simp),if_neg (by simp),if_neg (by simp)]
 have b:(rs V).refuse t 0 k g.val=0:=by
  unfold ag.refuse;rw[if_pos a];unfold ag.eZ;rw[if_neg (by simp[ag.count])]
 unfold ag.aJ;rw[if_pos b,if_neg (by simp[ag.rS]),e];unfold ag.take;rw[if_pos (by simp[ag.ke,ak,aK.writes])];rfl
theorem C4(y:Nat):(df V t st d y k v).aP t=⟨st,d,0⟩:=by simp[ag.aP,ak]
theorem IC(y:Nat):(df V t st d y k v).forget t=rs V:=by
 simp[ag.forget,ag.release,aT,oM,ag.aP,ak]
theorem ID:(df V t 1 d 1 k v).kh t=(df V t 3 0 1 k v,2):=by
 unfold ag.kh;rw[C4,if_neg (by simp),if_pos rfl,if_pos (by simp[ag.wr,aK.writes])];simp[aV,aT]
theorem Mh:(df V t 3 0 1 k v).fC t=0:=by
 unfold ag.fC;rw[C4,if_pos (.inr rfl)]
theorem Mi:(df V t 3 0 1 k v).dD t=rs (aV V k v):=by
 unfold ag.dD;rw[C4,if_pos rfl];unfold ag.comm;simp[oT];exact IC (aV V k v) t 3 0 k v 1
theorem wX(i:Nat):fE i (df V t 1 d 1 k v) [] ⟨1,0,i,t⟩=(df V t 3 0 1 k v,[⟨2,i,0,t⟩]):=by
 unfold fE;rw[if_pos rfl,ID];rfl
theorem FH(i:Nat):fE i (df V t 3 0 1 k v) [] ⟨5,0,i,t⟩=(rs (aV V k v),[⟨7,i,0,t⟩]):=by
 unfold fE;rw[if_neg (by simp),if_pos rfl,Mi];rfl
end
section
open Go.Shelf
variable{z:List Nat}{B m p:Nat}{w:World}
theorem Mo(l:List<|Nat×ByteArray×ByteArray)(y:Nat×ByteArray×ByteArray):zb (l++[y])=zb l++wrC y:=by simp[zb]
section
variable{w o O:World}{B f n E k:Nat}{d Z bv h G J I:Value}{a:Bool}{U:List Nat}{ps:List (Nat × Value × Value)}{ds:List aS}{bC:List bt}{ord:List Nat}{x:aS}{y:Nat × ByteArray × ByteArray}
theorem ee.aby(r:ee w B f d Z bv h n a U ps ds bC ord)(N:ps[k]?=some (E,J,I))(hx:ds[k]?=some x)(Q:Fr [] w o)(s:o.grownBy O I.ownBlock)(ho:O.ownsRow B 57 3 G (x.writes.length+1)<|zb x.writes++wrC y)(eW:∀g,G.ownBlock=some g->I.ownBlock=some g\/w.heap.size<=g):
  ee (O.setCell ⟨E,2,none⟩ G) B f d Z bv h n a U (ps.set k (E,J,G)) (ds.set k {x with writes:=x.writes++[y]}) bC ord/\pR B w (O.setCell ⟨E,2,none⟩ G):=by
 obtain⟨W,S⟩:∃W,W=O.setCell ⟨E,2,none⟩ G:=⟨_,rfl⟩;rw[<-S];have u:=r.each k _ x N hx;have D:=zzd.1 N;have a':=zzd.1 hx;have eM:=(zza.1 u.blk).1;have pK:=bj u.qE u.blk bM;have Y:=((Fr.bz s).block E (by have:=Q.size;simp only[]at eM;omega)<|by simp;exact pK).trans ((Q.block E eM bR).trans u.blk);have mJ:Fr [E] O W:=by rw[S];exact Fr.cD bR _ _
 have hf:=((Q.mono bR).andThen ((Fr.bz s).mono λk _ M=>List.mem_cons_of_mem E M) λj l _=>l).andThen (mJ.mono λk _ M=>by simp at M;simp[M]) λj l _=>l
 have keep:∀(q:Nat) (c:Array Value) (t:TypeId),w.heap[q]?=some (.cells c t (0,0))->q≠E->(t≠57\/I.ownBlock≠some q)->W.heap[q]?=some (.cells c t (0,0)):=λq c t A R F=>(hf.block q (zza.1 A).1 (λhm=>by
  obtain e|e:=zzj.1 hm
  .exact R e
  .simp at e;obtain F|F:=F
   .obtain⟨c2,L⟩:=aq u.qE e;rw[A]at L;cases L;exact F rfl
   .exact F e)).trans A
 have a1:∀(q:Nat) (c:Array Value) (t:TypeId),w.heap[q]?=some (.cells c t (0,0))->t≠60->q≠E:=λq c t A ht e=>by
  rw[e,u.blk]at A;cases A;exact ht rfl
 have row:∀{b m j:Nat} {e:TypeId} {v:Value} {xs:List Value},w.ownsRow b e j v m xs->e≠60->(e≠57\/X0 I v)->W.ownsRow b e j v m xs:=λ{b m j e v xs} hr R F=>bW hr (λg s=>by
  have⟨c,T⟩:=aq hr s;exact(keep g c e T (a1 g c e T R) (F.imp id (λh3 e=>h3 g e s))).trans T.symm)
 have a8:(ord.map λj=>cQ (((ps.set k (E,J,G))[j]?.map (·.1)).getD 0))=ord.map λj=>cQ ((ps[j]?.map (·.1)).getD 0):=List.map_congr_left (λj l=>by
  by_cases e:k=j
  .subst e;rw[List.getElem?_set_self D.1,N];rfl
  .rw[List.getElem?_set_ne e])
 have a7:((ps.set k (E,J,G)).map λp=>cQ p.1)=ps.map λp=>cQ p.1:=by
  rw[List.map_set];have:(ps.map λp=>cQ p.1)[k]?=some (cQ E):=by rw[zzy,N];rfl
  exact List.ext_getElem? (λj=>by
   by_cases e:k=j
   .subst e;rw[List.getElem?_set_self<|by simpa using D.1,this]
   .rw[List.getElem?_set_ne e])
 have a6:∀(j:Nat) (p:Nat×Value×Value),ps[j]?=some p->k≠j->p.1≠E/\X0 I p.2.2:=λj p l e=>by
  have P:=zzd.1 l;obtain e|e:=Nat.lt_or_gt_of_ne e
  .have:=List.pairwise_iff_getElem.1 r.zK k j D.1 P.1 e;rw[D.2,P.2]at this;exact⟨λC=>this.1 C.symm,this.2.2⟩
  .have:=List.pairwise_iff_getElem.1 r.zK j k P.1 D.1 e;rw[D.2,P.2]at this;exact⟨this.1,λg s C=>this.2.2 g C s⟩
 refine⟨⟨keep _ _ _ r.net (a1 _ _ _ r.net bM)<|.inl bM,⟨r.low.1,zzk r.low.2 hf.size⟩,row r.hs bM<|.inl bM,by rw[List.length_set,a7];exact row r.dl bM<|.inl bM,row r.bg bM<|.inl bM,r.Kf,by rw[a8];exact row r.od bM<|.inl bM,λj l=>by rw[List.length_set];exact r.Qh j l,r.ap,by simp[r.len],λj p z l H=>?_,?_⟩,⟨_,hf,λq A hl=>?_,λq A=>?_⟩⟩
 .by_cases e:k=j
  .subst e;rw[List.getElem?_set_self D.1]at l;rw[List.getElem?_set_self a'.1]at H;cases l;cases H;refine⟨by rw[S];have:=ar Y 2 G;simp at this;exact this,u.low,row u.seq bM<|.inl bM,?_⟩;show W.ownsRow B _ 3 G (x.writes++[y]).length (zb<|x.writes++[y]);rw[zzi,Mo];exact aD ho mJ λg s=>by simp;intro e;subst e;exact bj ho Y bM s
  .rw[List.getElem?_set_ne e]at l H;have K:=r.each j p z l H;have ha:=a6 j p l e;exact⟨keep _ _ _ K.blk ha.1<|.inl bM,K.low,row K.seq bM<|.inl bM,row K.qE bM<|.inr ha.2⟩
 .rw[List.pairwise_iff_getElem];intro i j V l WJ;rw[List.length_set]at V l;have hold:=List.pairwise_iff_getElem.1 r.zK i j V l WJ;have X:∀(j:Nat) (p:Nat×Value×Value),ps[j]?=some p->∀g,p.2.2.ownBlock=some g->g<w.heap.size:=λj p l g s=>by
   have⟨z,H⟩:∃z,ds[j]?=some z:=⟨_,zzg<|by rw[<-r.len];exact(zzd.1 l).1⟩;exact((r.each j p z l H).qE.lt g s).2
  rw[List.getElem_set,List.getElem_set];by_cases e1:k=i
  .subst e1;rw[if_pos rfl,if_neg bL];rw[D.2]at hold;refine⟨hold.1,hold.2.1,λg s e=>?_⟩;obtain C|C:=eW g s
   .exact hold.2.2 g C e
   .have:=X j _ (zzg l) g e;omega
  .rw[if_neg e1];by_cases C:k=j
   .subst C;rw[if_pos rfl];rw[D.2]at hold;refine⟨hold.1,hold.2.1,λg s e=>?_⟩;obtain e3|e3:=eW g e
    .exact hold.2.2 g s e3
    .have:=X i _ (zzg V) g s;omega
   .rw[if_neg C];exact hold
 .rcases zzj.1 A with e|e
  .rw[e,u.blk];exact⟨_,_,_,rfl,.inr<|.inl rfl⟩
  .simp at e;have⟨c2,L⟩:=aq u.qE e;exact⟨_,_,_,L,.inr<|.inr<|.inr<|.inl rfl⟩
 .rcases zzj.1 A with e|e
  .rw[e];exact u.low
  .simp at e;exact(u.qE.lt q e).1
theorem ee.C'{i m m':Nat}(l:ee w B f d Z bv h n a U ps ds bC ord)(K:ps[k]?=some (E,J,I))(Q:ds[k]?=some x)(O:x.seq[i]?=some m):
  ∃g c,J=.slice (some ⟨g,0,none⟩) x.seq.length c/\w.cell? ⟨g,i,none⟩=some (.int .i64 (m:Int))/\w.frozen? ⟨g,i,none⟩=false/\ee (w.setCell ⟨g,i,none⟩<|.int .i64 (m':Int)) B f d Z bv h n a U ps (ds.set k {x with seq:=x.seq.set i m'}) bC ord/\pR B w (w.setCell ⟨g,i,none⟩<|.int .i64 (m':Int)):=by
 have s:=l.each k _ x K Q;have F:=zzd.1 K;have X:=zzd.1 Q;have⟨g,c,e⟩:∃g c,J=.slice (some ⟨g,0,none⟩) x.seq.length c:=by
  rcases s.seq.2 with⟨-,e⟩|⟨g,R,S,e,-⟩
  .have:=(zzd.1 O).1;omega
  .exact⟨g,R,e⟩
 subst e;have G:=s.seq;have⟨S,Y⟩:=aq G rfl;have⟨W,A⟩:∃W,W=w.setCell ⟨g,i,none⟩ (.int .i64 (m':Int)):=⟨_,rfl⟩;have hf:Fr [g] w W:=by rw[A];exact Fr.cD bR _ _
 have keep:∀(q:Nat) (c:Array Value) (t:TypeId),w.heap[q]?=some (.cells c t (0,0))->t≠3->W.heap[q]?=some (.cells c t (0,0)):=λq c t o r=>(hf.block q (zza.1 o).1 (λu=>by
  simp at u;subst u;rw[Y]at o;cases o;exact r rfl)).trans o
 have row:∀{b m j:Nat} {e:TypeId} {v:Value} {xs:List Value},w.ownsRow b e j v m xs->(e≠3\/v.ownBlock≠some g)->W.ownsRow b e j v m xs:=λ{b m j e v xs} P r=>bW P (λN L=>by
  have⟨c,H⟩:=aq P L;obtain r|r:=r
  .exact(keep N c e H r).trans H.symm
  .exact hf.block N (zza.1 H).1 (λu=>by simp at u;subst u;exact r L))
 refine⟨g,c,rfl,dC G rfl<|by unfold C0;rw[zzy,O];rfl,aj Y i,?_,by rw[<-A];exact⟨[g],hf,λq o _=>by simp at o;subst o;exact⟨_,_,_,Y,.inr<|.inr<|.inr<|.inr rfl⟩,λq o=>by simp at o;rw[o];exact(G.lt g rfl).1⟩⟩;rw[<-A];refine⟨keep _ _ _ l.net bM,⟨l.low.1,zzk l.low.2 hf.size⟩,row l.hs<|.inl bM,row l.dl<|.inl bM,row l.bg<|.inl bM,l.Kf,row l.od<|.inl bM,l.Qh,l.ap,by rw[List.length_set];exact l.len,λj p z C D=>?_,l.zK⟩;by_cases e:k=j
 .subst e;rw[K]at C;rw[List.getElem?_set_self X.1]at D;cases C;cases D;refine⟨keep _ _ _ s.blk bM,s.low,?_,row s.qE<|.inl bM⟩;show W.ownsRow B _ 1 _ (x.seq.set i m').length (C0<|x.seq.set i m');have:=(World.ownsRow.stored G i<|.int .i64 (m':Int)).1;rw[<-A]at this;rw[List.length_set];unfold C0 at this ⊢;rw[List.map_set];exact this
 .rw[List.getElem?_set_ne e]at D;have y:=l.each j p z C D;have M:=zzd.1 C;have V:p.2.1.ownBlock≠some g:=by
   obtain e|e:=Nat.lt_or_gt_of_ne e
   .have:=List.pairwise_iff_getElem.1 l.zK k j F.1 M.1 e;rw[F.2,M.2]at this;exact this.2.1 g rfl
   .have:=List.pairwise_iff_getElem.1 l.zK j k M.1 F.1 e;rw[F.2,M.2]at this;exact λT=>this.2.1 g T rfl
  exact⟨keep _ _ _ y.blk bM,y.low,row y.seq<|.inr V,row y.qE<|.inl bM⟩
end
def QX(w:World)(n:Nat)(e:Ending)(w':World):Prop:=∃p v z,e=.returned (cQ p)/\bJ w' w' w.heap.size p n 1 v z (QV n)/\Below w.heap.size w w'
def adu(B:Nat)(z:List Nat)(p m:Nat)(wr:World)(e:Ending)(w':World):Prop:=e=.returned (.int .i64 0)/\Kq w' B (z++[p]) (m+1)/\Fr [] wr w'
theorem MG{wr a:World}{h D N:Nat}(R:Kq wr B z m)(I:B<=wr.heap.size)(d:a.heap[h]?=some (fg m p false none none none))(k:ax a wr.heap.size p D N (.slice none 0 0) eL 10 0 0)(v:wr.heap.size<=h)(hb:Below wr.heap.size wr a)(hf:Fr [] a w)(b:2<=B)(f:Met wr)(Z:m<=8):
  Calls prog 20 #[.pointer<|some ⟨h,0,none⟩,Qi] w λe w'=>adu B z h m wr e w':=by
 have g:=(hf.block h (zza.1 d).1 bR).trans d;have c:=k.new hf;have j:=hb.trans (hf.below (zzk (zzc _) hb.size) bR);have J:=f.below j bL;cases m with
 |zero=>
  apply(YI B wr.heap.size h p D N w g c b I v J).mono;rintro e w' ⟨rfl,⟨L,hn,hL⟩,p_⟩;have gF:=Fr.aX (j.trans p_) [];have i:=List.eq_nil_of_length_eq_zero R.1;subst i;exact⟨rfl,Kq.first (zzk I gF.size) hn,gF⟩
 |succ m=>
  apply(YH B wr.heap.size h p D N (m+1) w g c b I v ⟨bL,Z⟩ J).mono;rintro e w' ⟨rfl,⟨L,hn,hL⟩,p_⟩;have gF:=Fr.aX (j.trans p_) [];exact⟨rfl,R.more gF hn hL,gF⟩
theorem Kq.is(h:Kq w B (z++[p])<|m+1):Calls prog 21 #[.pointer<|some ⟨p,0,none⟩] w λe w'=>e=.returned (.bool true)/\w'=w:=by
 have l:z.length=m:=by have:=h.1;simp at this;exact this
 have⟨L,hN⟩:=h.2<|Nat.succ_pos m;have W:(z++[p])[m]?=some p:=by rw[List.getElem?_append_right bL,l];simp
 cases m with
 |zero=>exact X4 hN W
 |succ m=>exact kIs hN (by rw[List.getElem?_replicate,if_pos bL]) W
theorem YK:(Tryz.prog.info? 46).map (λi=>(i.zero,i.size,i.bytes))=some (some<|.pointer none,1,8):=dJ
theorem BL(w:World)(z:Int)(hB:2<=w.heap.size)(s:Met w)(h1:-9223372036854775808<=z)(h2:z<=9223372036854775807):
  Calls prog 9 #[.int .i64 z] w λe w'=>QX w (1+mq z 4) e w':=by
 have Z:=eU z 4;have X:=gD z 4 bM;have⟨n,hn⟩:=gb <|1+mq z 4;rw[<-hn];have G:(n:Int)=1+(mq z 4:Int):=bL
 have a':n<=4:=bL;have K:=af Z;clear Z hn X;go_enter func9,ntmps9;go_wp2_with fail;apply(K.out w h1 h2 bM bM).mono;rintro e w1 ⟨rfl,e1⟩;rw[e1];clear e1 K;go_wp2_with fail;rw[<-G];have⟨W,h⟩:=gb <|w.alloc (wR (.slice none 0 0) (.slice none 0 0) (.slice none 0 0) (.slice none 0 0) n false);have J:W.heap[w.heap.size]?=some (wR (.slice none 0 0) (.slice none 0 0) (.slice none 0 0) (.slice none 0 0) n false):=by rw[h];exact heap_alloc_new w _
 have l:w.heap.size<=W.heap.size:=by rw[h];simp
 have D:Below w.heap.size w W:=by rw[h];exact((lT w).alloc _).below (zzc _) bR
 have q:ee W w.heap.size w.heap.size (.slice none 0 0) (.slice none 0 0) (.slice none 0 0) (.slice none 0 0) n false [] [] [] [] []:=⟨J,⟨zzc _,l⟩,zzu _ _ _ _,zzu _ _ _ _,zzu _ _ _ _,λ_=>rfl,zzu _ _ _ _,nofun,nofun,rfl,nofun,List.Pairwise.nil⟩;rw[<-h];have c:=af<|zzb q<|zzb D s;clear J l D q h s G
 go_loopw [4] (λi wr=>∃m:Nat,m<=n+1/\i=.int .i64 (m:Int)/\Hid (∃v a,ee wr w.heap.size w.heap.size v (.slice none 0 0) (.slice none 0 0) (.slice none 0 0) n false a [] [] [] []/\Kq wr w.heap.size a m/\Below w.heap.size w wr)) (λi _=>n+1-(intOf i).toNat);case atStart=>exact⟨0,zzs _,rfl,_,[],c.1,⟨rfl,nofun⟩,c.2.1⟩
 case round=>
  obtain⟨m,hm,rfl,M⟩:=hrel;have⟨v,a,L,R,I⟩:=M.out;have F:=ae L.net 4;simp at F;by_cases uj:m<=n
  .have i0:(m:Int)<=n:=bL;have Q:=af<|zzb L<|zzb R I;clear L R I M;go_wp2_with fail;apply(MB wr m).mono;rintro e w2 ⟨hp,p,bD,bN,rfl,pg,zD,Qv,cZ⟩;have H:=af<|zzb pg<|zzb zD<|zzb Qv cZ;clear pg zD Qv cZ F;go_wp2_with fail;apply(qF w2).mono;rintro e w3 ⟨rfl,dz⟩;have N:=af dz;clear dz;go_wp2_with fail;apply(MG Q.2.1 Q.1.low.2 H.1 H.2.1 H.2.2.1 H.2.2.2 N.out hB (c.2.2.below Q.2.2 bL) bL).mono;rintro e b ⟨rfl,vO,fo⟩;have t:=vO.is;have d:=af<|zzb vO fo;clear vO fo;go_wp2_with fail;apply t.mono;clear t;rintro e w5 ⟨rfl,e5⟩;rw[e5];clear e5;have U:=Q.1.new d.2;have⟨V,hi,a1,a6,a7⟩:=info_parts YK;have x:=ae U.net 0;simp at x;have g:=U.hs;have ei:=U.low.2;obtain⟨va,vn,vc,rfl⟩:=ct g;have il:a.length<=100:=by have:=Q.2.1.1;omega
   have r:=af U;clear U;go_wp2_with (at_builtin;apply gR rfl _ _ 33 rfl w.heap.size 46 V _ 1 8 underlying33 hi a1 a6 a7 rfl bM _ a.length _ rfl (g.alloc _) 1 [cQ hp] (.inl ⟨gz b.heap.size,1,rfl,by simpa using dU b #[cQ hp] 46⟩) rfl (by intro u E;simp at E;subst E;rfl) eA bL (by rw[zzv];omega))
   intro v' w6 j P Y;obtain⟨aa,ad,ab,rfl⟩:=ct j;have B:Fr [] b (b.alloc<|.cells #[cQ hp] 46):=(lT b).alloc _;have⟨A,S6,k,C,o⟩:=r.out.abQ B P j;have f:=((Fr.bz P).block _ (by have:=(zza.1 r.out.net).1;simp;omega)<|by simp;exact bj r.out.hs r.out.net bM).trans ((B.block _ (zza.1 r.out.net).1 bR).trans r.out.net);have g0:=ae f 0;have a8:=aj f 0;simp at g0;have O:=af (zzb A<|zzb (d.1.law k C)<|((Q.2.2.trans<|d.2.below Q.1.low.2 bR)).trans<|k.below r.out.low.2 o);clear j P Y B A k C o f g x;go_wp2_with fail
   go_roundw;case rel=>exact⟨m+1,bL,eR,_,_,O.out⟩
   case measure=>simp[intOf];omega
  .have i0:¬(m:Int)<=n:=bL;have y:m=n+1:=bL;have S:=af (show QX w n (.returned (cQ w.heap.size)) wr from by
    subst y;have⟨T,hN⟩:=R.2<|Nat.succ_pos n
    exact⟨w.heap.size,v,a,rfl,⟨_,_,_,_,_,T,L,hN,nofun,⟨zzD _ _,λ_ _ _ _ hk _ _=>hk⟩⟩,I⟩)
   clear L R I M y;go_wp2_with fail;go_ret;exact S.out
end
abbrev Yd(t st:Nat)(ps:List Nat)(E G:Nat)(r:List (Nat × Nat))(o:List (Nat × Nat × Nat)):aU:=⟨[(t,⟨st,ps,0⟩)],E,G,0,r,o⟩
abbrev c0s(E G:Nat)(r:List (Nat × Nat))(o:List (Nat × Nat × Nat)):aU:=⟨[],E,G,0,r,o⟩
section
variable(t st E G k v:Nat)(ps:List Nat)(r:List (Nat × Nat))(o:List (Nat × Nat × Nat))
theorem Qx:(c0s E G [] []).begun=(Yd E 4 fL (E+1) (if E=G then G+16 else G) [] [],E,0):=by
 simp[aU.begun,aV,aT]
end
structure Two(a b va vb s:Nat):Prop where
 aef:mj 0 [(a:Int),(b:Int)]=true
 aw:dK l_ (ch [a,b] 1)=[a,b]
 g1:(ch [a,b] 1).getD a 0=1
 w1:((ch [a,b] 1).set a va).any l_=true
 g2:((ch [a,b] 1).set a va).getD b 0=1
 w2:(((ch [a,b] 1).set a va).set b vb).any l_=false
 y2:(((ch [a,b] 1).set a va).set b vb).any jR=true
 tc:dK jf (((ch [a,b] 1).set a va).set b vb)=[s]
 g3:(((ch [a,b] 1).set a va).set b vb).getD s 0=2
 dn:((((ch [a,b] 1).set a va).set b vb).set s 5).any jf=false
theorem Ye{a b:Nat}(h:1<=a/\a<b/\b<=4):Two a b 2 4 a:=by
 rcases (by omega:(a=1/\b=2)\/(a=1/\b=3)\/(a=1/\b=4)\/(a=2/\b=3)\/(a=2/\b=4)\/(a=3/\b=4)) with⟨rfl,rfl⟩|⟨rfl,rfl⟩|⟨rfl,rfl⟩|⟨rfl,rfl⟩|⟨rfl,rfl⟩|⟨rfl,rfl⟩<;>constructor<;>decide
section
open Go.Shelf
abbrev o0(kd a b c:Int):Value:=.agg #[.int .i64 kd,.int .i64 a,.int .i64 b,.int .i64 c,.int .i64 (-1),.int .i64 (-1),.int .i64 0,.int .i64 0]
def worked(seq:List Nat):Nat->List Nat
 |0=>[]
 |m+1=>worked seq m++(if 0<seq.getD (m+1) 0 then [m+1] else [])
theorem zk(seq:List Nat)(m:Nat):(worked seq m).length<=m:=by
 induction m with
 |zero=>exact zzc _
 |succ m ih=>
  unfold worked;rw[zzi];split<;>simp<;>omega
theorem Mq(seq:List Nat)(m:Nat):∀q∈worked seq m,q<=m:=by
 induction m with
 |zero=>intro q h;cases h
 |succ m ih=>
  intro q h;unfold worked at h;obtain e|e:=zzo.1 h
  .have:=ih q e;omega
  .split at e
   .simp at e;omega
   .cases e
def r_(l:List Nat):List Int:=l.map λk:Nat=>(k:Int)
theorem Yh:(Tryz.prog.info? 3).map (λi=>(i.zero,i.size,i.bytes))=some (some<|.int .i64 0,1,8):=dJ
theorem jB{w:World}{b:Nat}{v:Value}{l:List Nat}{i m:Nat}(h:w.ownsRow b 3 1 v l.length<|C0 l)(j:l[i]?=some m):∃g c,v=.slice (some ⟨g,0,none⟩) l.length c/\w.cell? ⟨g,i,none⟩=some (.int .i64 (m:Int)):=by
 rcases h.2 with⟨-,e⟩|⟨g,p,r,e,rest⟩
 .have:=(zzd.1 j).1;omega
 .exact⟨g,p,e,dC h e<|by unfold C0;rw[zzy,j];rfl⟩
def Uc(A:aB)(k:Nat)(x:aS)(n:Nat):aB :=
 if x.lost=true\/worked x.seq n=[] then { A with c:=A.c.iR x.id }
 else if A.c.fC x.id (r_ (worked x.seq n))=0 then { A with c:=A.c.dD x.id (r_ (worked x.seq n)),ds:=A.ds.set k { x with asked:=true } }
 else { A with c:=A.c.dD x.id (r_ (worked x.seq n)) }
def Qz(B G n K:Nat)(Z I bv O:Value)(J:Bool)(E:List Nat)(ps:List (Nat × Value × Value))(A:aB)(w w':World):Prop:=∃d,ee w' B G Z I bv O n J E ps A.ds A.bC A.ord/\jI w' B E A.c A.co A.ss (K+1) d/\wS B w w'
section
variable{w:World}{B G n K k U:Nat}{Z I bv O h j:Value}{J:Bool}{E:List Nat}{ps:List (Nat × Value × Value)}{A:aB}{d:List (List Nat)}{x:aS}
theorem IL(kd a b c:Int)(a8:ee w B G Z I bv O n J E ps A.ds A.bC A.ord)(hN:jI w B E A.c A.co A.ss K d)(hn:n=A.ss.length)(hp:ps[k]?=some (U,h,j))(hx:A.ds[k]?=some x)(hlen:x.seq.length=n+1)(rX:n<=90)(bB:x.lost=false->A.c.fC x.id (r_<|worked x.seq n)=0->x.asked=false/\x.what≠6)(aa:x.id<18446744073709551616)(hB:2<=B)(bp:Met w)(aH:bI w)(hK:K<=290000):
  Calls prog 94 #[cQ G,cQ U,o0 kd a b c] w λe w'=>e=.returned (.bool true)/\Qz B G n K Z I bv O J E ps (Uc A k x n) w w':=by
 have n4:=ae a8.net 4;simp at n4;have H:=af<|zzb a8<|zzb hN<|zzb hn<|zzb hp<|zzb hx hlen;have⟨W,hW⟩:=gb <|w.alloc (.cells #[.int .i64 kd,.int .i64 a,.int .i64 b,.int .i64 c,.int .i64<|-1,.int .i64<|-1,.int .i64 0,.int .i64 0] 42);have gG:Fr [] w W:=by rw[hW];exact(lT w).alloc _
 have HW:=af gG;have HS:Hid (W.heap[w.heap.size]?=some (.cells #[.int .i64 kd,.int .i64 a,.int .i64 b,.int .i64 c,.int .i64<|-1,.int .i64<|-1,.int .i64 0,.int .i64 0] 42)):=by rw[hW];exact heap_alloc_new w _
 clear a8 hN hn hp hx hlen gG;go_enter func94,ntmps94;go_wp2_with fail;rw[<-hW];clear hW n4;go_loopw [7,8] (λvl i wr=>∃m:Nat,m<=n/\i=.int .i64 ((m:Int)+1)/\Hid (wr.ownsRow W.heap.size 3 1 vl (worked x.seq m).length (Iy<|r_<|worked x.seq m)/\Fr [] W wr)) (λ_ i _=>n+1-(intOf i).toNat);case atStart=>exact⟨0,zzs _,rfl,zzu _ _ _ _,lT _⟩
 case round=>
  obtain⟨m,hm,rfl,M⟩:=hrel;have D:=H.1.new<|HW.out.trans M.2;have n4:=ae D.net 4;have F:=D.each k _ x H.2.2.2.1 H.2.2.2.2.1;have d1:=ae F.blk 1;simp at n4 d1;by_cases uj:m<n
  .obtain⟨y,hy⟩:∃y,x.seq[m+1]?=some y:=⟨_,zzg<|by rw[H.2.2.2.2.2];omega⟩;have⟨g,cs,Da,cg⟩:=jB F.seq hy;rw[H.2.2.2.2.2]at Da;simp only[]at Da;subst Da;have i0:(0:Int)<=m+1:=bL
   have i1:(m:Int)+1<=(n:Int):=bL;have i2:(m:Int)+1<(n:Int)+1:=bL;have i3:((m:Int)+1).toNat=m+1:=bL;have ad:x.seq.getD (m+1) 0=y:=by rw[List.getD_eq_getElem?_getD,hy];rfl
   have HY:=af ad;have Bf:=zk x.seq m;clear D F hy ad;by_cases ab:0<y
   .have j0:(0:Int)<y:=bL;have⟨RJ,hi,aE,aQ,b0⟩:=info_parts Yh;have R:=M.1;have b5:=M.2.size;obtain⟨va,vn,vc,rfl⟩:=ct R;go_wp2_with (at_builtin;apply gR rfl _ _ 53 rfl W.heap.size 3 RJ _ 1 8 underlying53 hi aE aQ b0 rfl bM _ (worked x.seq m).length _ rfl (R.alloc _) 1 [.int .i64<|(m:Int)+1] (.inl ⟨gz wr.heap.size,1,rfl,by simpa using dU wr #[.int .i64<|(m:Int)+1] 3⟩) rfl (by intro u hu;simp at hu;subst hu;rfl) eA bL (by rw[zzv];omega));intro v' w6 bw bP eQ;have H6:=af<|zzb bw bP;clear bw bP eQ;go_wp2_with fail
    go_roundw;case rel=>
     refine⟨m+1,bL,eR,?_,?_⟩
     .have e9:worked x.seq (m+1)=worked x.seq m++[m+1]:=by show worked x.seq m++(if 0<x.seq.getD (m+1) 0 then [m+1]else [])=_;rw[HY.out,if_pos ab]
      rw[e9,zzi];have:=H6.1;have e8:Iy (r_<|worked x.seq m++[m+1])=Iy (r_<|worked x.seq m)++[.int .i64<|(m:Int)+1]:=by simp[Iy,r_]
      rw[e8];exact this
     .have NW:=Fr.bz H6.2;have h1:=M.2.alloc<|.cells #[.int .i64<|(m:Int)+1] 3;refine⟨NW.os.trans h1.os,NW.tape.trans h1.tape,NW.output.trans h1.output,zzk h1.size NW.size,λq N hn=>(NW.block q (zzl N h1.size) λhm=>?_).trans<|h1.block q N hn⟩;simp at hm;have:=(M.1.lt q hm).1;omega
    case measure=>simp[intOf];omega
   .have j0:¬(0:Int)<y:=bL;go_wp2_with fail;go_roundw;case rel=>
     refine⟨m+1,bL,eR,?_,M.2⟩
     have e9:worked x.seq (m+1)=worked x.seq m:=by
      show worked x.seq m++(if 0<x.seq.getD (m+1) 0 then [m+1]else [])=_;rw[HY.out,if_neg ab,List.append_nil]
     rw[e9];exact M.1
    case measure=>simp[intOf];omega
  .have i1:¬(m:Int)+1<=(n:Int):=bL;have em:m=n:=bL;subst em;have d4:=ae F.blk 4;simp at d4;have Bf:=zk x.seq m;have⟨Q,iG⟩:=gb <|(worked x.seq m).length;have R:=M.1;have⟨va,vc,az⟩:∃va vc,u7=Value.slice va Q vc:=by
    rcases R.2 with⟨e,e2⟩|⟨g,b1,b2,e,-⟩
    .exact⟨none,0,by rw[e,iG,e2]⟩
    .exact⟨_,_,by rw[iG];exact e⟩
   subst az;have gF:=HW.out.trans M.2;have Y:=H.2.1.new gF;obtain⟨iu,-,uI,-⟩:=Y.co;have⟨r,v,Mc,FB⟩:∃r v,Z=.slice (some ⟨r,0,none⟩) (m+1) v/\wr.cell? ⟨r,0,none⟩=some (cQ iu):=by
    have⟨ha,v,e,eN⟩:=fP D.hs;obtain⟨r,rfl,FB⟩:=eN 0 iu uI;exact⟨r,v,by rw[e];have:=Y.len.1;have:=H.2.2.1;congr 1;omega,FB⟩
   subst Mc;have n0:=ae D.net 0;have d0:=ae F.blk 0;have d3:=ae F.blk 3;have d5:=ae F.blk 5;have V:=(M.2.block w.heap.size (zza.1 HS.out).1 bR).trans HS.out;have s4:=ae V 4;have s5:=ae V 5;have s6:=ae V 6;have s7:=ae V 7;simp at n0 d0 d3 d5 s4 s5 s6 s7;have Kj:∀{c':aU} {w' l:World},Fr [] wr w'->zL d B E c' A.co A.ss (K+1) w' l->((∃Br,jI l B E c' A.co A.ss (K+1) Br)/\xu B w l)/\ee l B G (.slice (some (gz r)) (m+1) v) I bv O m J E ps A.ds A.bC A.ord/\(∀q o,wr.heap[q]?=some o->w.heap.size<=q->l.heap[q]?=some o):=λ{c' w' l} p P=>by
    have av:=D.new p;refine⟨⟨P.1,(xu.new (gF.trans p) H.1.low.2).trans P.2.1⟩,av.Vm P.2.1,λq o N b4=>?_⟩;have⟨L,MY,ao⟩:=P.2.2;exact(ao.block q (zzl (zza.1 N).1 p.size) λhm=>by have:=H.2.1.lt L MY q hm;omega).trans<|(p.block q (zza.1 N).1 bR).trans N
   have Nh:∀{w':World},Fr [] wr w'->Met w'/\bI w':=λ{w'} p=>by
    have hb:=(gF.trans p).below (zzc _) bR;exact⟨bp.below hb<|by have:=H.1.low;omega,aH.cI<|hb.block 1<|by have:=H.1.low;omega⟩
   have HD:=af<|zzb D<|zzb V<|zzb uI gF;by_cases X:x.lost=true\/worked x.seq m=[]
   .have rC:∀w',Fr [] wr w'->Calls prog 95 #[.pointer<|some (gz iu),.int .u64 (x.id:Int),fy (-1) (-1) 0 0] w' λe l=>e=.returned (.int .i64 (A.c.rZ x.id:Int))/\((∃Br,jI l B E (A.c.iR x.id) A.co A.ss (K+1) Br)/\xu B w l)/\ee l B G (.slice (some (gz r)) (m+1) v) I bv O m J E ps A.ds A.bC A.ord/\(∀q o,wr.heap[q]?=some o->w.heap.size<=q->l.heap[q]?=some o):=λw' p=>by
     apply(Qo (Y.new p) uI aa hB (Nh p).1 (Nh p).2 hK).mono;rintro e l ⟨rfl,P⟩;exact⟨rfl,Kj p P⟩
    have al:=af rC;have aw:x.lost=true\/x.lost=false/\Q=0:=by
     obtain e|e:=X
     .exact .inl e
     .cases h':x.lost with
      |true=>exact .inl rfl
      |false=>exact .inr ⟨rfl,by rw[iG,e];rfl⟩
    have Zg:=af X;clear rC Kj Nh D F V Y R Bf iG gF d1 d3 d5 bp aH X uI;obtain e|⟨e,e2⟩:=aw
    all_goals
     rw[e]at d4;(try subst e2);go_wp2_with fail;go_region_held3 (λw'=>w'.cell? (gz G)=some (.slice (some (gz r)) (m+1) v)/\w'.cell? (gz r)=some (cQ iu)/\w'.cell? (gz U)=some (.int .u64 (x.id:Int))/\w'.cell? (hO w.heap.size 4)=some (.int .i64<|-1)/\w'.cell? (hO w.heap.size 5)=some (.int .i64<|-1)/\w'.cell? (hO w.heap.size 6)=some (.int .i64 0)/\w'.cell? (hO w.heap.size 7)=some (.int .i64 0)) (simp[*])
      (first|(go_at_call 95;apply(al.out _<|by first|exact cw (lT wr) _|exact(lT wr).drew|exact lT wr).mono;rintro e w5 ⟨rfl,nt,BD,hk5⟩;(have⟨g',a7,Yi⟩:=dF BD.hs HD.2.2.1);cases a7;have Yj:=ae BD.net 0;have Ni:=BD.each k _ x H.2.2.2.1 H.2.2.2.2.1;have a6:=ae Ni.blk 0;(have C:=hk5 _ _ HD.2.1<|zzc _);have Yk:=ae C 4;have Yl:=ae C 5;have Ym:=ae C 6;have Yn:=ae C 7;simp at Yi Yj a6 Yk Yl Ym Yn;have s:=af<|zzb nt BD;clear nt BD hk5 Ni C))
     clear n0 FB d0 d4 s4 s5 s6 s7;go_wp2_with fail;go_ret;have⟨⟨Yo,T⟩,S⟩:=s.1;refine⟨rfl,?_⟩;unfold Uc;rw[if_pos Zg.out];exact⟨Yo,s.2,T,S.lg⟩
   .have qG:x.lost=false:=by cases h':x.lost with|true=>exact absurd (.inl h') X|false=>rfl
    rw[qG]at d4;have eF:0<Q:=by rw[iG];exact zzE.2 λe=>X<|.inr e
    have b3:¬(Q:Int)=0:=bL;have⟨ev,Db⟩:∃ev:Int,ev=(A.c.fC x.id (r_<|worked x.seq m):Int):=⟨_,rfl⟩;have sY:∀w',Fr [] wr w'->Calls prog 16 #[.pointer<|some (gz iu),.int .u64 (x.id:Int),.slice va Q vc,fy (-1) (-1) 0 0] w' λe l=>e=.returned (.int .i64 ev)/\((∃Br,jI l B E (A.c.dD x.id<|r_<|worked x.seq m) A.co A.ss (K+1) Br)/\xu B w l)/\ee l B G (.slice (some (gz r)) (m+1) v) I bv O m J E ps A.ds A.bC A.ord/\(∀q o,wr.heap[q]?=some o->w.heap.size<=q->l.heap[q]?=some o):=λw' p=>by
     apply(T4 _ (r_ (worked x.seq m)) (Y.new p) uI aa hB (Nh p).1 (Nh p).2 hK (by simp[r_];omega) (by simp[r_];omega) (λz hz=>by simp[r_]at hz;obtain⟨q,N,rfl⟩:=hz;have:=Mq x.seq m q N;unfold ly;omega) ⟨W.heap.size,by
      have:=aD R p bR;rw[show(r_<|worked x.seq m).length=(worked x.seq m).length by simp[r_]]
      exact this⟩).mono
     rintro e l ⟨rfl,P⟩;rw[<-Db];exact⟨rfl,Kj p P⟩
    have an:=af sY;have a1:=af<|zzb (bB qG)<|zzb X Db;clear sY Kj Nh D F V Y R Bf iG gF d1 d3 d5 bp aH Db X qG bB uI;go_wp2_with fail
    go_region_held3 (λw'=>w'.cell? (gz G)=some (.slice (some (gz r)) (m+1) v)/\w'.cell? (gz r)=some (cQ iu)/\w'.cell? (gz U)=some (.int .u64 (x.id:Int))/\w'.cell? (hO w.heap.size 4)=some (.int .i64<|-1)/\w'.cell? (hO w.heap.size 5)=some (.int .i64<|-1)/\w'.cell? (hO w.heap.size 6)=some (.int .i64 0)/\w'.cell? (hO w.heap.size 7)=some (.int .i64 0)) (simp[*])
     (first|(go_at_call 16;apply(an.out _<|by first|exact cw (lT wr) _|exact(lT wr).drew|exact lT wr).mono;rintro e w5 ⟨rfl,nt,BD,hk5⟩;(have⟨g',a7,Yi⟩:=dF BD.hs HD.2.2.1);cases a7;have Yj:=ae BD.net 0;have Ni:=BD.each k _ x H.2.2.2.1 H.2.2.2.2.1;have a6:=ae Ni.blk 0;(have C:=hk5 _ _ HD.2.1<|zzc _);have Yk:=ae C 4;have Yl:=ae C 5;have Ym:=ae C 6;have Yn:=ae C 7;simp at Yi Yj a6 Yk Yl Ym Yn;have s:=af<|zzb nt<|zzb BD Ni.blk;clear nt BD hk5 Ni C))
    clear n0 FB d0 d4 s4 s5 s6 s7 Yj Yi a6 Yk Yl Ym Yn;by_cases Kk:ev=0
    .have ZB:A.c.fC x.id (r_<|worked x.seq m)=0:=by have:=a1.2.2;omega
     have⟨vH,Ki⟩:=a1.1 ZB;have d3:=ae s.2.2 3;have d5:=ae s.2.2 5;have f3:=aj s.2.2 3;simp at d3 d5;rw[vH]at d3;have b6:¬(x.what:Int)=6:=bL;obtain⟨IA,a'⟩:=s.2.1.Fx (w':=w5.setCell ⟨U,3,none⟩<|.bool true) (x':={x with asked:=true}) H.2.2.2.1 H.2.2.2.2.1 (Fr.cD (by simp) _ _) (by have:=ar s.2.2 3<|.bool true;simp at this;exact this) rfl rfl;have⟨⟨Yo,T⟩,S⟩:=s.1;have H6:=af (show Qz B G m K (.slice (some (gz r)) (m+1) v) I bv O J E ps (Uc A k x m) w (w5.setCell (hO U 3)<|.bool true)from by unfold Uc;rw[if_neg a1.2.1,if_pos ZB];exact⟨Yo,IA,a'.oZ T,S.lg.trans<|a'.lg s.2.1.low.2⟩);clear IA a' T S ZB vH Ki;subst Kk;go_wp2_with fail;go_ret;exact⟨rfl,H6.out⟩
    .have ZB:¬A.c.fC x.id (r_<|worked x.seq m)=0:=by have:=a1.2.2;omega
     have⟨⟨Yo,T⟩,S⟩:=s.1;have H6:=af (show Qz B G m K (.slice (some (gz r)) (m+1) v) I bv O J E ps (Uc A k x m) w w5 from by unfold Uc;rw[if_neg a1.2.1,if_neg ZB];exact⟨Yo,s.2.1,T,S.lg⟩);clear T S ZB;go_wp2_with fail;go_ret;exact⟨rfl,H6.out⟩
end
end
variable{ord:List Nat}{ds:List aS}{k t:Nat}{A:aB}{x:aS}
section
variable{α β:Type}{f:α->List β}{l:List α}{i j:Nat}{y z:α}
theorem zj(h:∀x∈l,f x=[]):l.flatMap f=[]:=by
 rw[List.flatMap_eq_nil_iff];exact h
end
theorem IE(A:aB)(m:Nat)(h:m<=A.ss.length):A.fh (m+1)={A with bC:=A.bC++(A.co++cY A.c.out)++(A.ss.take m).flatMap (·.2),c:={A.c with out:=[]},co:=[],ss:=(A.ss.take m).map (λs=>(s.1,[]))++A.ss.drop m}:=by
 induction m with
 |zero=>simp[aB.fh,aB.send]
 |succ m ih=>
  show(A.fh<|m+1).send (m+1)=_;rw[ih bL];have l:=h;have e:((A.ss.take m).map (λs=>(s.1,([]:List bt)))++A.ss.drop m)[m]?=some A.ss[m]:=by
   rw[List.getElem?_append_right cE];simp;rw[show min m A.ss.length=m by omega];simp[zzg l]
  simp only[aB.send];rw[e];simp only[];congr 1
  .rw[List.take_add_one,List.flatMap_append,zzg l];simp
  .rw[List.set_append_right _ _ cE,List.take_add_one,List.map_append,zzg l];simp only[zzn,zzm];have d:(A.ss.drop m).set 0 (A.ss[m].1,[])=(A.ss[m].1,[])::A.ss.drop (m+1):=by rw[List.drop_eq_getElem_cons l];rfl
   rw[show m-min m A.ss.length=0 by omega,d];simp
theorem Mj(A:aB):A.fh (A.ss.length+1)={A with bC:=A.bC++(A.co++cY A.c.out)++A.ss.flatMap (·.2),c:={A.c with out:=[]},co:=[],ss:=A.ss.map (λs=>(s.1,[]))}:=by
 rw[IE A _<|zzc _];simp
theorem Mk{y:Nat×ByteArray×ByteArray}(d:aS)(h:eK ds ord y=true):eK (ds++[d]) ord y=true:=by
 unfold eK at *;rw[List.any_eq_true]at *;have⟨j,a,w⟩:=h;refine⟨j,a,?_⟩;unfold wrote at *;cases e:ds[j]? with
 |none=>rw[e]at w;cases w
 |some x=>rw[List.getElem?_append_left (zzd.1 e).1,e];rw[e]at w;exact w
theorem BF{y:Nat×ByteArray×ByteArray}(k:Nat)(h:eK ds ord y=true):eK ds (ord++[k]) y=true:=by
 unfold eK at *;rw[List.any_append,h];rfl
theorem vE{y:Nat×ByteArray×ByteArray}{x':aS}(b:ds[k]?=some x)(w:x'.writes=x.writes)(h:eK ds ord y=true):eK (ds.set k x') ord y=true:=by
 unfold eK at *;rw[List.any_eq_true]at *;have⟨j,c,a⟩:=h;refine⟨j,c,?_⟩;unfold wrote at *;by_cases e:k=j
 .subst e;rw[List.getElem?_set_self (zzd.1 b).1];rw[b]at a;simp only[w];exact a
 .rw[List.getElem?_set_ne e];exact a
structure T_(ds:List aS)(ord:List Nat)(Vs:List (List (ByteArray × ByteArray))):Prop where
 ids:X9 ds
 qE:Vo ds
 len:ds.length<=1000/\ord.length<=1000
 T8:∀V∈Vs,V.length<=1000
 kno:∀j V,Vs[j]?=some V->∀y∈V,eK ds ord (j+1,y.1,y.2)=true
def Yf(ss:List (ag × List bt))(V:List (List (ByteArray × ByteArray))):Prop:=∀(j:Nat) (s:ag × List bt),ss[j]?=some s->V[j]?=some s.1.aM
theorem gM{V:List (List<|ByteArray×ByteArray)}(h:T_ A.ds A.ord V)(t:Yf A.ss V)(r:A.c.res=[])(hs:∀x∈A.ds,(A.c.tx x.id).state=6->x.what=5):Looks A A where
 ok:=⟨by rw[r];exact .nil _ _,h.ids,hs,λi s a y b=>h.kno i _ (t i s a) y b⟩
 eq:=by rw[<-r]
 len:=by rw[r];have:=h.len;simp;omega
 qE:=h.qE
 T8:=λi s a=>by have:=h.T8 _<|zzh<|t i s a;omega
theorem IG{V:List (List<|ByteArray×ByteArray)}(h:T_ A.ds A.ord V)(m:Yf A.ss V)(r:A.c.res=[(t,5)])(a:A.ds[k]?=some x)(l:x.id=t)(d:x.what=0)(o:x.asked=true)(hs:∀y∈A.ds,(A.c.tx y.id).state=6->y.what=5\/y.id=t):
  Looks A {A with ds:=A.ds.set k {x with what:=5},ord:=A.ord++[k],c:={A.c with res:=[]}}:=by
 have n:gL A.ds k 5=A.ds.set k {x with what:=5}:=by unfold gL;rw[a];simp[d]
 have b:iT A.ds A.ord k 5=A.ord++[k]:=by unfold iT;rw[a];simp[d]
 refine⟨⟨?_,h.ids,λy g p=>?_,λi s f y g=>BF k<|vE a rfl<|h.kno i _ (m i s f) y g⟩,rfl,by rw[r];have:=h.len;simp;omega,h.qE,λi s f=>by have:=h.T8 _<|zzh<|m i s f;omega⟩
 .rw[r];exact .cons a l (.inl d) (.inl ⟨rfl,o⟩)<|by rw[n,b];exact .nil _ _
 .obtain⟨j,hj⟩:=List.getElem?_of_mem g;by_cases e:k=j
  .subst e;rw[List.getElem?_set_self (zzd.1 a).1]at hj;cases hj;rfl
  .rw[List.getElem?_set_ne e]at hj;obtain b|b:=hs y (zzh hj) p
   .exact b
   .exact absurd (h.ids k j x y a hj<|by rw[l,b]) e
theorem C5{d:Nat}(b:k=1\/k=5)(a:1<=d/\d<=8)(h:t≠0/\t<18446744073709551616):(⟨k,0,d,t⟩:bt).Ok:=⟨by simp[eX];omega,h.2⟩
theorem FI{s:Nat}(a:k=2\/k=4\/k=7)(hs:1<=s/\s<=8)(h:t≠0/\t<18446744073709551616):(⟨k,s,0,t⟩:bt).Ok:=⟨by simp[eX];omega,h.2⟩
def C6(ss:List (ag × List bt)):Prop:=∀x∈ss,x.2=[]
theorem C6.clr{ss:List (ag × List bt)}(h:C6 ss):ss.map (λs=>(s.1,([]:List bt)))=ss:=by
 conv=>rhs;rw[<-List.map_id ss]
 exact List.map_congr_left (λx a=>by rw[<-h x a];rfl)
theorem C6.flat{ss:List (ag × List bt)}(h:C6 ss):ss.flatMap (·.2)=[]:=zj h
theorem C6.outs{ss:List (ag × List bt)}(h:C6 ss):∀(i:Nat) (s:ag × List bt),ss[i]?=some s->∀x∈s.2,x.Ok:=λi s hs x a=>by rw[h s (zzh hs)] at a;cases a
theorem Ml(hb:A.bC=[])(c:A.co=[])(o:A.c.out=[])(m:C6 A.ss):wW A A 0:=by
 have e:A.fh (A.ss.length+1)=A:=by
  rw[Mj,hb,c,o,m.clr,m.flat];obtain⟨ds,ord,bC,⟨tx,x,l,k,rs,out⟩,co,ss⟩:=A;simp at hb c o;subst hb c o;rfl
 refine⟨⟨by rw[c,o];simp[cY],m.outs⟩,hb,by rw[e,hb];rfl,?_⟩;rw[e,hb];have a:({ A with bC:=[] }:aB)=A:=by rw[<-hb]
 rw[a];exact .nil A
section
open Go.Shelf
variable{ord:List Nat}{ds:List aS}{bC:List bt}{B g j:Nat}{o:Obj}{v:Value}{W w:World}{x:aS}
structure BM where
 kd:Int
 a:Int
 b:Int
 c:Int
 f1:Int
 f2:Int
 f3:Int
 f4:Int
def vI(w:World)(b o:Nat)(s:BM):Prop :=
 w.cell? ⟨b,o,none⟩=some (.int .i64 s.kd)/\w.cell? ⟨b,o+1,none⟩=some (.int .i64 s.a)/\w.cell? ⟨b,o+2,none⟩=some (.int .i64 s.b)/\w.cell? ⟨b,o+3,none⟩=some (.int .i64 s.c) /\
 w.cell? ⟨b,o+4,none⟩=some (.int .i64 s.f1)/\w.cell? ⟨b,o+5,none⟩=some (.int .i64 s.f2)/\w.cell? ⟨b,o+6,none⟩=some (.int .i64 s.f3)/\w.cell? ⟨b,o+7,none⟩=some (.int .i64 s.f4)
def QY(w:World)(v:Value)(L:List BM):Prop :=
 ∃o p,v=.slice o L.length p/\∀i s,L[i]?=some s->(∃b f,o=some ⟨b,f,none⟩/\b<w.heap.size/\vI w b (f+i*8) s)/\ly s.a/\ly s.b/\ly s.c
theorem vI.below{w':World}{b o:Nat}{s:BM}(h:vI w b o s)(hb:Below B w w')(U:b<B):vI w' b o s:=by
 obtain⟨a,c,d,e,f,g,i,j⟩:=h;exact⟨(hb.cell (p:=⟨b,o,none⟩) U).trans a,(hb.cell (p:=⟨b,o+1,none⟩) U).trans c,(hb.cell (p:=⟨b,o+2,none⟩) U).trans d,(hb.cell (p:=⟨b,o+3,none⟩) U).trans e,(hb.cell (p:=⟨b,o+4,none⟩) U).trans f,(hb.cell (p:=⟨b,o+5,none⟩) U).trans g,(hb.cell (p:=⟨b,o+6,none⟩) U).trans i,(hb.cell (p:=⟨b,o+7,none⟩) U).trans j⟩
theorem FR(v:Value)(n:Nat):madeCells #[v] n=(List.replicate n v).toArray:=by
 apply Array.ext
 .rw[size_madeCells];simp
 .intro i h1 h2;simp[madeCells];rw[Nat.mod_one];rfl
theorem YL:(Tryz.prog.info? 3).map (λi=>(i.zero,i.size,i.bytes))=some (some (.int .i64 0),1,8):=by kernel_rfl
theorem mkI(w:World)(n:Nat)(hn:n<=1000):(Instr.makeSlice 53 (.int .i64 (n:Int)) (.int .i64 (n:Int))).run prog w=.ok (.slice (some ⟨w.heap.size,0,none⟩) n n) (w.alloc (.cells (List.replicate n (.int .i64 0)).toArray 3)):=by
 obtain⟨c,i,h,a,b⟩:=info_parts YL;have:=run_make (P:=prog) w 53 3 c _ underlying53 i h .i64 .i64 n n (by omega) (Int.le_refl _) (by rw[b];omega) (by omega);rw[a] at this;simp only[Int.toNat_natCast,Value.cells,FR,Nat.mul_one] at this;exact this
section
variable{Z w w':World}{B O n K q:Nat}{J G bv U:Value}{I:Bool}{E:List Nat}{ps:List (Nat × Value × Value)}{ds:List aS}{bC:List bt}{ord:List Nat}{A:aB}{c:Array Value}{t:TypeId}
theorem bJ.QZ(h:bJ Z w B O n K J E A)(hb:A.bC=[]):bJ w w B O n K J E A:=by
 obtain⟨G,bv,U,I,ps,s,a,b,c,d⟩:=h;exact⟨G,bv,U,I,ps,s,a,b,by rw[a.Kf hb];nofun,⟨zzD _ _,λ_ _ _ _ k _ _=>k⟩⟩
theorem bJ.xA(h:bJ Z w B O n K J E A):wS B Z w:=by
 obtain⟨G,bv,U,I,ps,s,b,c,d,a⟩:=h;exact a
end
def kX(W:World)(g:Nat)(o:Obj):Prop:=W.heap[g]?=some o
theorem kX.new(W:World)(o:Obj)(h:g=W.heap.size):kX (W.alloc o) g o:=by subst h;exact heap_alloc_new W o
theorem kX.alloc(h:kX W g o)(a:Obj):kX (W.alloc a) g o:=(zzf W a g (zza.1 h).1).trans h
theorem kX.drew(h:kX W g o):kX W.drew g o:=h
theorem jY{a:Addr}(h:w.cell? a=some v)(o:Obj):(w.alloc o).cell? a=some v:=(zze<|zzf w o a.block<|zzF w _ h).trans h
theorem kX.fr{a:World}(h:kX W g o)(hf:Fr [] W a):kX a g o:=(hf.block g (zza.1 h).1 bR).trans h
theorem zn{n k:Nat}{t:TypeId}{c:Array Value}{xs:List Value}(hb:kX W g<|.cells c t)(h:B<=g)(a:c.toList=xs)(hn:xs.length=n*k)(m:n<=maxLen):W.ownsRow B t k (.slice (some ⟨g,0,none⟩) n n) n xs:=by
 subst a;exact⟨hn,.inr ⟨g,n,c,rfl,h,hb,zzc _,m,by simpa using hn,by rw[<-hn,List.take_length]⟩⟩
structure abK(w0 w w':World)(B np n K:Nat)(hv:Value)(az:List Nat)(A:aB):Prop where
 net:bJ w0 w' B np n K hv az A
 xA:wS B w w'
def YC(w E:World)(v:Value)(l:List (Nat × ByteArray × ByteArray)):Prop:=(v=.slice none 0 0/\l=[])\/∃g c,v=.slice (some ⟨g,0,none⟩) 1 1/\kX E g (.cells c 57)/\c.toList=zb l/\l.length=1/\w.heap.size<=g
theorem YC.row{E:World}{l:List (Nat×ByteArray×ByteArray)}(h:YC w E v l)(f:B<=w.heap.size):E.ownsRow B 57 3 v l.length (zb l)/\∀g,v.ownBlock=some g->w.heap.size<=g:=by
 rcases h with⟨rfl,rfl⟩|⟨g,c,rfl,d,e,a,b⟩
 .exact⟨zzu _ _ _ _,nofun⟩
 .refine⟨?_,λj i=>by cases i;exact b⟩;rw[a];refine zn d (zzk f b) e ?_ bM
  match l,a with
  |[y],_=>rfl
section
variable{w0 w E:World}{B np n K:Nat}{hv G bv J:Value}{I:Bool}{az:List Nat}{ps:List (Nat × Value × Value)}{A:aB}{O:List (List Nat)}
theorem Uj{o:Oper}{a:Act}{C:Act->World->Prop}{Q:Exit->Act->World->Prop}(x:aS)(h:ee w B np hv G bv J n I az ps A.ds A.bC A.ord)(N:jI w B az A.c A.co A.ss K O)(P:∀g,bv.ownBlock=some g->w0.heap.size<=g)(R:wS B w0 w)(hlen:ps.length<=60000000)
  (s y:Operand) (V:o.op=.call {callee:=.builtin .append,args:=#[s,y],argTypes:=#[34,34]}) (hs:a.eval s=G) {b d i m:Nat} {t:Value} {c1:Array Value} {z:Int} (Z:a.eval y=.slice (some ⟨b,0,none⟩) 1 1)
  (hf:Fr [] w E) (hb:kX E b<|.cells #[cQ d] 55) (S:kX E d<|.cells #[.int .u64 z,.slice (some ⟨i,0,none⟩) m m,t,.bool x.asked,.bool x.lost,.int .i64 0] 60) (nA:kX E i<|.cells c1 3) (Y:YC w E t x.writes)
  (D:w.heap.size<=d) (H:w.heap.size<=i) (iX:c1.toList=C0 x.seq) (U:m=x.seq.length) (wE:m<=1000) (hz:z=(x.id:Int)) (X:x.what=0)
  (post:∀v l q f,f.heap[np]?=some (wR hv G bv J n I)->abK w0 w (f.setCell ⟨np,1,none⟩<|.slice v l q) B np n K hv az {A with ds:=A.ds++[x]}->C (a.put o.dst<|.slice v l q) f):o.wp prog a E C Q:=by
 have⟨i0,T,a1,a6,a7⟩:=info_parts Qj;have L:=aD h.dl hf bR;have W:=Y.row h.low.2;subst U;have M:zd E B (d,.slice (some (gz i)) x.seq.length x.seq.length,t) x:=by
  refine⟨?_,zzk h.low.2 D,zn nA (zzk h.low.2 H) iX (by simp[C0]) eA,W.1⟩;have:=S;rw[hz]at this;show E.heap[d]?=some (wj _ _ x);unfold wj;rw[X];exact this
 refine gO s y 34 V B 55 i0 _ 1 8 underlying34 T a1 a6 a7 rfl bM G ps.length _ hs L (gz b) 1 1 [cQ d] Z rfl (λj u k=>?_) (by intro u F;simp at F;subst F;rfl) eA bL (zzk h.low.2 hf.size) ?_
 .match j,k with
  |0,k=>
   simp at k;subst k;have:=ae hb 0;simpa [Addr.add]using this
 .intro v' f cA c eW;obtain⟨v,l,q,rfl⟩:=ct cA;have rX:=(zza.1 h.net).1;have pz:=((Fr.bz c).block np (by have:=hf.size;omega)<|by simp;exact bj h.dl h.net bM).trans ((hf.block np rX bR).trans h.net);have⟨q1,r⟩:=h.abx hf M D (λg c=>by cases c;exact H) W.2 c cA (λg c=>eW.elim (λe=>.inl<|by rw[<-e];exact c) λe=>.inr<|by rw[e]at c;cases c;exact hf.size);exact post v l q f pz ⟨⟨_,bv,J,I,_,O,q1,r.oZ N,P,R.trans<|r.lg h.low.2⟩,r.lg h.low.2⟩
theorem ee.nz{ds:List aS}{bC:List bt}{ord:List Nat}{j:Nat}{x:aS}(h:ee w B np hv G bv J n I az ps ds bC ord)(b:ds[j]?=some x):∃d i p,G=.slice (some ⟨d,0,none⟩) ds.length i/\ps[j]?=some p/\w.cell? ⟨d,j,none⟩=some (cQ p.1)/\zd w B p x:=by
 have⟨p,a⟩:∃p,ps[j]?=some p:=⟨_,zzg<|by rw[h.len];exact(zzd.1 b).1⟩;have⟨o,c,e,N⟩:=fP h.dl;obtain⟨g,rfl,k⟩:=N j p a;exact⟨g,c,p,by rw[e,h.len],a,k,h.each j p x a b⟩
theorem ee.dvS{ds:List aS}{bC:List bt}{ord:List Nat}(h:ee w B np hv G bv J n I az ps ds bC ord):∃o c,G=.slice o ds.length c:=by
 obtain⟨o,c,e,-⟩:=fP h.dl;exact⟨o,c,by rw[e,h.len]⟩
theorem bJ.nz{j:Nat}{x:aS}(h:bJ w0 w B np n K hv az A)(l:A.ds[j]?=some x):∃d i a,w.cell? ⟨np,1,none⟩=some (.slice (some ⟨d,0,none⟩) A.ds.length i)/\w.cell? ⟨d,j,none⟩=some (cQ a)/\w.cell? ⟨a,5,none⟩=some (.int .i64 (x.what:Int))/\w.cell? ⟨a,4,none⟩=some (.bool x.lost):=by
 have⟨G,bv,J,I,ps,O,b,m,o,q⟩:=h;have⟨g,c,p,e,r,k,f⟩:=b.nz l;exact⟨g,c,p.1,(ae b.net 1).trans<|by simp[e],k,(ae f.blk 5).trans bR,(ae f.blk 4).trans bR⟩
end
end
end Go.Proofs.YtcalalndmcemiaaGreatDoor
