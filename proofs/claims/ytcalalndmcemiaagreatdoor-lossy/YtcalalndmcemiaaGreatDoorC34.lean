import Derived.Test.YtcalalndmcemiaaGreatDoorC31
import Derived.Test.YtcalalndmcemiaaGreatDoorC32
set_option maxHeartbeats 4000000
set_option maxRecDepth 100000
namespace Go.Proofs.YtcalalndmcemiaaGreatDoor
open Go.RowKit Go.Maps Tryz Sc
structure bt.Ok(x:bt):Prop where
 sound:eX x.kind x.src x.dst x.aP=true
 id:x.aP<18446744073709551616
def bt.bytes(x:bt):List Nat:=kH x.kind x.src x.dst x.aP
theorem bt.Ok.small{x:bt}(h:x.Ok):x.kind<=8/\x.src<=8/\x.dst<=8/\x.aP≠0:=by
 have:=h.sound;unfold eX at this;simp at this;omega
theorem bt.eP(x:bt):x.bytes.length=15:=BX _ _ _ _
theorem bt.Ok.Ie{x:bt}(h:x.Ok):kE x.bytes:=by
 have:=h.small;exact BZ _ _ _ _ (by omega) (by omega) (by omega)
theorem bt.Ok.dec{x:bt}(h:x.Ok):ph x.bytes=true/\zW x.bytes=.agg #[.int .i64 (x.kind:Int),.int .i64 (x.src:Int),.int .i64 (x.dst:Int),.int .u64 (x.aP:Int)]:=by
 have l:=x.eP;have u:=h.small;have e:at_ x.bytes 0=x.kind:=rfl;have a:at_ x.bytes 1=x.src:=rfl;have b:at_ x.bytes 2=x.dst:=rfl
 have c:oA x.bytes=x.aP:=by
  unfold oA bt.bytes kH jL;rw[show([x.kind,x.src,x.dst]++be 8 x.aP++be 4 (zP ([x.kind,x.src,x.dst]++be 8 x.aP))).drop 3=be 8 x.aP++be 4 (zP ([x.kind,x.src,x.dst]++be 8 x.aP)) from rfl,List.take_left' (dH 8 x.aP)];exact sj 8 x.aP (by have:=h.id;omega)
 have d:x.bytes.take 11=jL x.kind x.src x.dst x.aP:=List.take_left' (pY _ _ _ _);have e5:x.bytes.drop 11=be 4 (zP (jL x.kind x.src x.dst x.aP)):=List.drop_left' (pY _ _ _ _)
 have B:js x.bytes=true:=by
  unfold js;rw[e,a,b,c,d,e5,sj 4 _ (Nq _ (pZ _ _ _ _ (by omega) (by omega) (by omega))),h.sound];simp
 refine⟨by rw[p9 l];exact B,?_⟩;rw[B8 l,AP B,e,a,b,c]
theorem oY(g n p:Nat)(c:Array Value)(w:World)(h:w.heap[g]?=some (.cells c 5 (c.size,c.size+1)))(hn:n<=c.size)(S:n<=1099511627776):
  Calls prog 70 #[.slice (some ⟨g,0,none⟩) n p] w λe w'=>e=.returned (.tuple #[])/\Fr [g] w w':=by
 have G:=af h;clear h;go_enter func70,ntmps70;go_wp2;go_loopw [5] (λi wr=>∃k:Nat,k<=n/\i=.int .i64 k/\Hid ((∃c':Array Value,c'.size=c.size/\wr.heap[g]?=some (.cells c' 5 (c.size,c.size+1)))/\Fr [g] w wr)) (λi _=>n-(intOf i).toNat)
 case atStart=>exact⟨0,zzs _,rfl,⟨c,rfl,G.out⟩,Fr.refl _ _⟩
 case round=>
  obtain⟨k,b,rfl,R⟩:=hrel;by_cases U:k<n
  .obtain⟨⟨c',hs,hb⟩,hf⟩:=R.out;have⟨v,u⟩:∃v,wr.cell? ⟨g,k,none⟩=some v:=⟨c'[k]' bL,by simp[World.cell?,hb]⟩;have x:wr.frozen? (hO g k)=false:=by simp[World.frozen?,hb];omega
   have N:Hid ((∃a:Array Value,a.size=c.size/\(wr.setCell (hO g k)<|.int .u8 33).heap[g]?=some (.cells a 5 (c.size,c.size+1)))/\Fr [g] w (wr.setCell (hO g k)<|.int .u8 33)):=⟨⟨c'.setIfInBounds k<|.int .u8 33,by simp[hs],by simp[World.setCell,Array.getElem?_modify,hb]⟩,hf.trans<|Fr.cD bR _ _⟩;clear hb hf hs;have d:(0:Int)<=k:=bL
   have f:(k:Int)<n:=bL;go_wp2;go_roundw;case rel=>exact⟨k+1,bL,eR,N⟩
   case measure=>simp[intOf];omega
  .go_wp2;go_end0;exact⟨rfl,R.2⟩
theorem TL:Enters 201:=enters_of func201 dJ rfl
theorem TM:Enters 202:=enters_of func202 dJ rfl
theorem TN:Enters 203:=enters_of func203 dJ rfl
theorem TP:Enters 204:=enters_of func204 dJ rfl
theorem TQ:Enters 205:=enters_of func205 dJ rfl
theorem TR:Enters 206:=enters_of func206 dJ rfl
theorem Fp(d i g p f:Nat)(s ss:Option Addr)(ov:Value)(x:bt)(m:x.Ok)(U:x.dst=i)(K:ak Bt x.kind=some (some f))(Z:Enters f)(Y:(s=none/\∃a,ss=some a)\/(∃a,s=some a)/\ss=none)(w:World)(G:w.heap[d]?=some (gK i s ss ov))(z:cW w g 0 x.bytes)(v:15<=p/\p<=maxLen)(Q:World->Prop)
  (V:∀w',Fr [] w w'->Calls prog f #[.pointer<|some ⟨d,0,none⟩,.agg #[.int .i64 (x.kind:Int),.int .i64 (x.src:Int),.int .i64 (x.dst:Int),.int .u64 (x.aP:Int)]] w' λe F=>e=.returned .nilIface/\Q F/\∀k,w.heap.size<=k->k<w'.heap.size->F.heap[k]?=w'.heap[k]?) :
  Calls prog 116 #[.pointer<|some ⟨d,0,none⟩,.slice (some ⟨g,0,none⟩) 15 p] w λe w'=>e=.returned .nilIface/\Q w':=by
 have I:=uM g 0 p x.bytes w x.eP m.Ie v.1 v.2 z;have⟨t,u⟩:=m.dec;rw[p9 x.eP]at t;rw[B8 x.eP]at u;rw[t,u,xL]at I;clear z v t u;go_enter func116,ntmps116;go_wp2_with fail;apply I.mono;rintro e y ⟨rfl,cG⟩;clear I;have⟨W,l⟩:=gb <|y.alloc (fk (x.kind:Int) (x.src:Int) (i:Int) (x.aP:Int));have⟨c,j⟩:=gb y.heap.size;have r:Fr [] w W:=by rw[l];exact(Fr.aX cG []).alloc _
 have E:W.heap[c]?=some (fk (x.kind:Int) (x.src:Int) (i:Int) (x.aP:Int)):=by rw[l,j];exact heap_alloc_new y _
 have C:=(r.block d (zza.1 G).1 bR).trans G;have mM:w.heap.size<=c:=by rw[j];exact cG.size
 have H:=af<|zzb r<|zzb E C;have A:=ae C 0;have c1:=ae C 1;have c2:=ae C 2;have n:=ae E 2;simp at A c1 c2 n;have P:=m.small.1;clear r E C cG G m;subst U;go_wp2_with fail;rw[<-l,<-j];clear l j
 go_quiet (fail)
 have h:=cw (lT W) nq;have T:=(h.block c (zza.1 H.2.1).1 bR).trans H.2.1;have S:=(h.block d (zza.1 H.2.2).1 bR).trans H.2.2;have o:=af<|zzb (H.1.trans h) T;generalize W.drewN nq=W2 at o T S h ⊢;clear h A c1 c2 n H;have c1:=ae S 1;have c2:=ae S 2;have x0:=ae T 0;have x1:=ae T 1;have n:=ae T 2;have x3:=ae T 3;simp at c1 c2 x0 x1 n x3;have R:=(zza.1 T).1;clear T S;unfold Enters at Z;have M:=af V;clear V
 have B:∀(w':World) (b:Nat),aO KI EF w' b 8 Bt->(Instr.lookup 286 (.map<|some b) (.int .i64 (x.kind:Int)) false).run prog w'=.ok (.func (.func f) #[] #[]) w':=λw' b X=>by
  have:=aO.look X underlying286 (P5 w') trivial (show x.kind<256 by omega);rw[K]at this;exact this
 have N:=af B;clear B K P;rcases Y with⟨rfl,a,rfl⟩|⟨⟨a,rfl⟩,rfl⟩
 all_goals
  go_wp2_with fail;clear c1 c2;go_region_held3 (λw'=>w'.cell? (gz c)=some (.int .i64 (x.kind:Int))/\w'.cell? (hO c 1)=some (.int .i64 (x.src:Int))/\w'.cell? (hO c 2)=some (.int .i64 (x.dst:Int))/\w'.cell? (hO c 3)=some (.int .u64 (x.aP:Int))) (simp[*])
   (first
    |(go_at_call 159;apply(L4 _).mono;rintro e J ⟨b3,rfl,lY,dz⟩;have D:=(dz.block c (by simpa using R) bR).trans o.2;have y0:=ae D 0;have y1:=ae D 1;have y2:=ae D 2;have y3:=ae D 3;simp at y0 y1 y2 y3;have kN:=N.out J b3 lY;have q:=af<|zzb ((o.1.drew).trans dz) D;clear lY dz D)
    |(apply(M.out _ q.1).mono;rintro e w4 ⟨rfl,hQ,bG⟩;have O:=(bG c mM (zza.1 q.2).1).trans q.2;have z0:=ae O 0;have z1:=ae O 1;have z2:=ae O 2;have z3:=ae O 3;simp at z0 z1 z2 z3;have L:=af hQ;clear hQ bG O))
  go_wp2;go_ret;exact⟨rfl,L.out⟩
def au.notes(l:au)(d:ah):List (Nat × ByteArray)->au × ah × Nat
 |[]=>(l,d,0)
 |e :: r=>if (l.note d e.1 e.2).2.2=0 then ((l.note d e.1 e.2).1).notes (l.note d e.1 e.2).2.1 r else l.note d e.1 e.2
def au.kc(l:au)(d:ah)(s:List (Nat × ByteArray)):au × ah × Nat :=
 if (l.notes d ((254,ByteArray.empty) :: s++[(255,ByteArray.empty)])).2.2=0 then ((l.notes d ((254,ByteArray.empty) :: s++[(255,ByteArray.empty)])).1).cut (l.notes d ((254,ByteArray.empty) :: s++[(255,ByteArray.empty)])).2.1 l.next
 else l.notes d ((254,ByteArray.empty) :: s++[(255,ByteArray.empty)])
theorem q9:∀(a b:List (Nat × ByteArray)) (l:au) (d:ah),l.notes d (a++b)=if (l.notes d a).2.2=0 then ((l.notes d a).1).notes (l.notes d a).2.1 b else l.notes d a
 |[],b,l,d=>by
  have e:l.notes d []=(l,d,0):=rfl;rw[e];simp
 |e :: r,b,l,d=>by
  show(if (l.note d e.1 e.2).2.2=0 then ((l.note d e.1 e.2).1).notes (l.note d e.1 e.2).2.1 (r++b) else l.note d e.1 e.2)=_;by_cases h:(l.note d e.1 e.2).2.2=0
  .have er:l.notes d (e :: r)=((l.note d e.1 e.2).1).notes (l.note d e.1 e.2).2.1 r:=by show(if _ then _ else _)=_;rw[if_pos h]
   rw[if_pos h,er,q9 r b]
  .have er:l.notes d (e :: r)=l.note d e.1 e.2:=by show(if _ then _ else _)=_;rw[if_neg h]
   rw[if_neg h,er,if_neg h]
def ac0(t:Nat)(L:List (ByteArray × aK)):ByteArray:=str (be 8 t++cF (dG L))
section
open Go.Shelf
variable{D N h k m n p:Nat}{o:Obj}{r s v:Value}{A B C w w':World}{d:ah}{l:au}
def Fq(c:aU)(src t:Nat):List bt:=if kS (c.tx t).state=0 then [] else [⟨kS (c.tx t).state,0,src,t⟩]
section
variable(B Z G p E J I h O U m n kd src dst t:Nat)(c:aU)(l:au)(d:ah)(b:Value)(out:List bt)(w:World)
theorem adm(H:nX w B Z G p E J I h O U m n c l (d.bQ (-1)<|-1) b out)(y:mD l d)(ho:out.length<=60000000)(ht:t<18446744073709551616):
  Calls prog 206 #[.pointer<|some ⟨G,0,none⟩,.agg #[.int .i64 (kd:Int),.int .i64 (src:Int),.int .i64 (dst:Int),.int .u64 (t:Int)]] w λe w'=>e=.returned .nilIface/\qB B Z G p E J I h O U m (n+l.segs.length) c (out++Fq c src t) w w':=by
 have⟨W,f⟩:=gb <|w.alloc (fk (kd:Int) (src:Int) (dst:Int) (t:Int));have F:Fr [] w W:=by rw[f];exact(lT w).alloc _
 have Q:W.heap[w.heap.size]?=some (fk (kd:Int) (src:Int) (dst:Int) (t:Int)):=by rw[f];exact heap_alloc_new w _
 have⟨j,C⟩:=H.new F;have g:=ae j.fG 1;have x:=ae Q 1;have i:=ae Q 3;simp at g x i;have u:∀w',Fr [] W w'->Calls prog 252 #[.pointer<|some (gz E),.int .u64 (t:Int)] w' λe a6=>e=.returned (.int .i64 (kS (c.tx t).state:Int))/\a6=w':=λw' z=>Ih B E J I m t c w' (j.new z).1.sl.co ht
 have⟨a,s⟩:=gb <|kS (c.tx t).state;have rC:a<=6:=by
  rw[s];unfold kS;split
  .omega
  .split<;>omega
 rw[<-s]at u;have M:Fq c src t=if a=0 then []else [⟨a,0,src,t⟩]:=by unfold Fq;rw[<-s]
 rw[M];have R:a≠0->∀w',Fr [] W w'->Calls prog 113 #[.pointer<|some (gz G),.int .i64 (a:Int),.int .i64 (src:Int),.int .u64 (t:Int)] w' λe w2=>e=.returned (.tuple #[])/\qB B Z G p E J I h O U m (n+l.segs.length) c (out++[⟨a,0,src,t⟩]) w w2:=λ_ w' z=>by
  have⟨r,gX⟩:=j.new z;apply(nY B G 0 a src t (some (gz E)) none b out w' r.fG r.jz r.size bL).mono;rintro e w2 ⟨rfl,dT⟩;have⟨A,jo,nB⟩:=r.yX dT;exact⟨rfl,l,_,m,n,A,jo,y.bQ _ _,bL,bL,(C.trans gX).trans nB⟩
 have N:qB B Z G p E J I h O U m (n+l.segs.length) c out w W:=⟨l,_,m,n,b,j,y.bQ _ _,bL,bL,C⟩;have P:=af<|zzb u<|zzb R N;clear F Q H y j C u R s M N;rw[f]at g x i;by_cases o:a=0
 .have i0:(a:Int)=0:=bL;rw[if_pos o,List.append_nil];clear o;go_enter func206,ntmps206;go_wp2_with fail;rw[<-f];rw[<-f]at g x i;clear f;go_region_held3 (λw'=>w'.cell? (hO G 1)=some (.pointer<|some (gz E))/\w'.cell? (hO w.heap.size 3)=some (.int .u64 (t:Int))) (simp[*])
   (first|(go_at_call 252;apply(P.1 _<|by first|exact cw (lT W) _|exact(lT W).drew|exact lT W).mono;rintro e w1 ⟨rfl,rfl⟩))
  have⟨l',d',m',n',A,S,T,V,X,Y⟩:=P.2.2;have K:=(lT W).drew;have⟨q6,q7⟩:=S.new K;have H1:=af<|show qB B Z G p E J I h O U m (n+l.segs.length) c out w W.drew from ⟨l',d',m',n',A,q6,T,V,X,Y.trans q7⟩;clear S T V X Y q6 q7 K;go_wp2_with fail;go_ret;exact⟨rfl,H1.out⟩
 .have i0:¬(a:Int)=0:=bL;have HS:=af<|P.2.1 o;rw[if_neg o];clear o
  go_enter func206,ntmps206;go_wp2_with fail;rw[<-f];rw[<-f]at g x i;clear f;go_region_held3 (λw'=>w'.cell? (hO G 1)=some (.pointer<|some (gz E))/\w'.cell? (hO w.heap.size 3)=some (.int .u64 (t:Int))) (simp[*])
   (first|(go_at_call 252;apply(P.1 _<|by first|exact cw (lT W) _|exact(lT W).drew|exact lT W).mono;rintro e w1 ⟨rfl,rfl⟩))
  have D:=af (lT W).drew;generalize W.drew=W2 at D ⊢;have q:∀k v,W.cell? k=some v->W2.cell? k=some v:=λk v L=>(zze<|D.out.block k.block (zzF W _ L) bR).trans L
  have a1:=q _ _ g;have a7:=q _ _ x;have a8:=q _ _ i;clear g x i q;go_wp2_with fail;apply(HS.out _ D.out).mono;rintro e w3 ⟨rfl,hp3⟩;have H3:=af hp3;clear hp3 a1 a7 a8;go_wp2_with fail;go_ret;exact⟨rfl,H3.out⟩
end
def sL:Obj->Bool
 |.loop ..=>true
 |.deferred ..=>true
 |_=>false
structure Bk(n:Nat)(A B:World):Prop where
 os:B.os=A.os
 tape:B.tape=A.tape
 output:B.output=A.output
 size:A.heap.size<=B.heap.size
 block:∀(k:Nat) (o:Obj),A.heap[k]?=some o->(sL o=false\/k<n)->B.heap[k]?=some o
theorem Bk.refl(n:Nat)(A:World):Bk n A A:=⟨rfl,rfl,rfl,zzc _,λ_ _ h _=>h⟩
theorem Bk.trans(h:Bk n A B)(k:Bk n B C):Bk n A C:=
 ⟨k.os.trans h.os,k.tape.trans h.tape,k.output.trans h.output,zzk h.size k.size,λi o b a=>k.block i o (h.block i o b a) a⟩
theorem Bk.mono(h:Bk n A B)(c:m<=n):Bk m A B:=
 ⟨h.os,h.tape,h.output,h.size,λi o a b=>h.block i o a<|by obtain e|e:=b;exact .inl e;exact .inr bL⟩
theorem Bk.fr(h:Fr [] A B):Bk n A B:=
 ⟨h.os,h.tape,h.output,h.size,λk o a _=>(h.block k (zza.1 a).1 bR).trans a⟩
theorem Bk.put(h:A.heap[k]?=some o)(hb:sL o=true)(hn:n<=k)(c:Obj):Bk n A (A.putObj k c):=
 ⟨rfl,rfl,rfl,bR,λi x a b=>by
  by_cases e:i=k
  .subst e;rw[h]at a;cases a;obtain e|e:=b
   .rw[hb]at e;cases e
   .omega
  .exact(World.putObj_heap_other e).trans a⟩
def J5(A:World):List Nat:=(List.range A.heap.size).filter λk=>(A.heap[k]?.map sL).getD false
theorem Be(h:k∈J5 A):∃o,A.heap[k]?=some o/\sL o=true:=by
 unfold J5 at h;rw[zzp]at h;have⟨a,b⟩:=h;rw[List.mem_range]at a;rw[Array.getElem?_eq_getElem a]at b ⊢;exact⟨_,rfl,by simpa using b⟩
theorem Bk.aaQ(h:Bk n A B):Fr (J5 A) A B:=
 ⟨h.os,h.tape,h.output,h.size,λk a hn=>by
  rw[Array.getElem?_eq_getElem a];refine h.block k _ (Array.getElem?_eq_getElem a)<|.inl ?_
  cases hb:sL A.heap[k]with
  |false=>rfl
  |true=>exact absurd (by unfold J5;rw[zzp,List.mem_range,Array.getElem?_eq_getElem a];exact⟨a,by simpa using hb⟩) hn⟩
def rW:Obj->Bool
 |.cells _ t _=>decide (t≠96/\t≠182/\t≠222/\t≠43/\t≠110)
 |.map ..=>false
 |_=>true
structure nk(A B:World):Prop where
 size:A.heap.size<=B.heap.size
 same:∀(k:Nat) (o:Obj),A.heap[k]?=some o->rW o=true->B.heap[k]?=some o
theorem nk.refl(A:World):nk A A:=⟨zzc _,λ_ _ h _=>h⟩
theorem nk.trans(h:nk A B)(k:nk B C):nk A C:=⟨zzk h.size k.size,λi o b a=>k.same i o (h.same i o b a) a⟩
theorem nk.fr(h:Fr [] A B):nk A B:=⟨h.size,λk o a _=>(h.block k (zza.1 a).1 bR).trans a⟩
theorem nk.alloc(A:World)(o:Obj):nk A (A.alloc o):=nk.fr<|(lT A).alloc o
theorem LC(h:sL o=true):rW o=true:=by cases o<;>first|rfl|cases h
theorem aA.rW{B:Nat}{u:Value}(a:aA w B h p D N v u r l d n k m){q:Nat}(g:w.heap[q]?=some o)(f:rW o=true):¬Own h p w q:=by
 intro j;have y:∀{c:Array Value} {t:TypeId} {fr:Nat×Nat},w.heap[q]?=some (.cells c t fr)->False:=by
  intro c t fr b;rw[b]at g;cases g;simp[Go.Proofs.YtcalalndmcemiaaGreatDoor.rW]at f;exact a.free b f.1 f.2.1 f.2.2.1 f.2.2.2.1 f.2.2.2.2 j
 obtain e|e|e|e|e|e|e:=(a.own q).1 j
 .subst e;exact y a.blk
 .subst e;exact y a.bq.blk
 .subst e;have⟨s,c,i⟩:=a.bq.rz.isMap;rw[i]at g;cases g;cases f
 .subst e;have⟨s,c,i⟩:=a.bq.now.isMap;rw[i]at g;cases g;cases f
 .obtain⟨c,b⟩:=aq a.bq.pen e;exact y b
 .obtain⟨c,b⟩:=aq a.segs e;exact y b
 .obtain⟨c,b⟩:=aq a.recs e;exact y b
theorem ku.kpo{B c e:Nat}(hf:ku h p w w')(b:aA w B h p D N v s r l d n c e):nk w w':=
 ⟨hf.size,λk _ a o=>(hf.block k (zza.1 a).1<|b.rW a o).trans a⟩
theorem aA.bk{j:Nat}{B f g:Nat}(a:aA w B h p D N v s r l d n f g)(hb:Bk j w w'):aA w' B h p D N v s r l d n f g:=
 a.apart hb.aaQ (λk i _=>by
  have⟨o,b,c⟩:=Be i;exact⟨a.rW b (LC c),λt e=>by rw[b]at e;cases e;cases c⟩)
structure E4(ls:List Nat)(A B:World):Prop where
 size:A.heap.size<=B.heap.size
 same:∀(k:Nat) (o:Obj),k∉ls->A.heap[k]?=some o->rW o=true->B.heap[k]?=some o
theorem nk.x(h:nk A B)(s:List Nat):E4 s A B:=⟨h.size,λk o _ a b=>h.same k o a b⟩
theorem E4.trans{s:List Nat}(h:E4 s A B)(k:E4 s B C):E4 s A C:=⟨zzk h.size k.size,λi o l b a=>k.same i o l (h.same i o l b a) a⟩
abbrev CI:=List (Nat × Obj)
def LF{α:Type}(F:Fence)(n:Nat)(P:Program)(gf:Nat)(lb:Array Value)(encs:α->Array Value)(rs:List α)(Inv:World->Prop)(l:Nat)(f:List Nat)(W:World):Prop :=
 ∀(J:CI->List α->World->Prop) (S:List α->World->Prop),(∀p s A,J p s A->Inv A)->(∀p s A B,J p s A->W.heap.size<=A.heap.size->Bk W.heap.size A B->J p s B)->(∀s A B,S s A->W.heap.size<=A.heap.size->Bk W.heap.size A B->S s B) ->
  (∀p s A B g c t,J p s A->W.heap.size<=A.heap.size->Fr [] A B->A.heap.size<=g->B.heap[g]?=some (.cells c t (0,0))->J ((g,.cells c t (0,0)) :: p) s B)->(∀p s A,J p s A->∀x∈p,A.heap[x.1]?=some x.2) ->
  (∀p b x d,J p b d->W.heap.size<=d.heap.size->b++[x] <+: rs->YieldAt F (n-1) P l (encs x) d λe a=>e=.returned (.bool true)/\J p (b++[x]) a/\nk d a\/e=.returned (.bool false)/\S (b++[x]) a/\E4 f d a) ->
  J [] [] W->CallsIn F n P gf (#[.func (.yield l) #[] #[]]++lb) W λe a=>(∃v,e=.returned v)/\((∃p,J p rs a)\/∃b,b <+: rs/\S b a)
section
variable{F:Fence}{n:Nat}{P:Program}
theorem oP{α:Type}{g:Operand}{ps:Array Tmp}{assign body:Code}{Q:Exit->Act->World->Prop}{a:Act}{w:World}
  (D:List Nat) (M9:∀k∈D,k<w.heap.size) (a8:F.round=none) (h1:1<=n) {gf:Nat} {lb:Array Value} (X:a.eval g=.func (.func gf) #[] lb) (Lf:F.fn gf) (eg:∀args w,(callFunc gf args).run P w=.ok (.enter gf args) w)
  {encs:α->Array Value} {rs:List α} {Inv:World->Prop} (az:∀x,(encs x).size=ps.size)
  (nc:∀d,Fr [] w d->d.heap.size=w.heap.size+2->LF F (n-1) P gf lb encs rs Inv (w.heap.size+1) ((w.heap.size+1)::D) d)
  (I:CI->List α->World->Prop) (S:List α->World->Prop) (U:∀s A B,S s A->w.heap.size<=A.heap.size->Bk w.heap.size A B->S s B) (WV:I [] [] w) (CJ:∀p s A,I p s A->Inv A) (J:∀p s A B,I p s A->w.heap.size<=A.heap.size->Bk w.heap.size A B->I p s B)
  (yI:∀p s A B g c t,I p s A->w.heap.size<=A.heap.size->Fr [] A B->A.heap.size<=g->B.heap[g]?=some (.cells c t (0,0))->I ((g,.cells c t (0,0))::p) s B) (yJ:∀p s A,I p s A->∀x∈p,A.heap[x.1]?=some x.2)
  (K:α->Act->World->Prop) (WX:∀x u A r,K x u A->K x u (A.putObj (w.heap.size+1)<|.loop r))
  (oJ:∀(p:CI) (b:List α) (x:α) (W:World) (a1:Act->World->Prop),I p b W->w.heap.size+2<=W.heap.size->b++[x]<+:rs->(∀u y,Bk w.heap.size W y->nk W y->K x u y->a1 u y) ->
   assign.wpIn (F.inRound (w.heap.size+1)) (n-1-1) P (Exit.then a1 (λ_ _ _=>False)) {tmps:=(ps.zip (encs x)).foldl (λt (p,v)=>t.setIfInBounds p v) a.tmps,defers:=[]} W)
  (yq:∀(p:CI) (b:List α) (x:α) (u:Act) (W:World),I p b W->w.heap.size+2<=W.heap.size->K x u W->b++[x]<+:rs->body.wpIn (F.inRound<|w.heap.size+1) (n-1-1) P (λe _ y=>e=.normal/\I p (b++[x]) y/\nk W y\/e=.ret/\S (b++[x]) y/\E4 D W y) u W)
  (yr:∀(p:CI) (W:World),I p rs W->w.heap.size+2<=W.heap.size->W.heap[w.heap.size]?=some (.deferred<|some [])->Q .normal {a with defers:={target:=.collected w.heap.size,args:=#[]}::a.defers} W)
  (a7:∀(b:List α) (W:World),b<+:rs->S b W->w.heap.size+2<=W.heap.size->W.heap[w.heap.size]?=some (.deferred<|some [])->Q .ret {a with defers:={target:=.collected w.heap.size,args:=#[]}::a.defers} W) :
  (Code.rangeFunc g ps assign body).wpIn F n P Q a w:=by
 refine wpIn_rangeFunc λfn xn=>?_
 rw[a8];have⟨L,l⟩:∃L:LoopState->Loop,L=λst=>{state:=st,pending:=none,fn,tmps:=a.tmps,params:=ps,assign,body,defers:=w.heap.size}:=⟨_,rfl⟩
 have⟨d,G⟩:=gb <|(w.alloc<|.deferred<|some []).alloc (.loop<|L .ready);have cG:Fr [] w d:=by rw[G];exact((lT w).alloc _).alloc _
 have df:d.heap.size=w.heap.size+2:=by rw[G];simp
 have dY:d.heap[w.heap.size+1]?=some (.loop<|L .ready):=by
  rw[G];have:=World.alloc_heap_new (w.alloc<|.deferred<|some [])<|.loop<|L .ready;rwa [zzv]at this
 have j_:d.heap[w.heap.size]?=some (.deferred<|some []):=by
  rw[G];exact(zzf _ _ _ bR).trans<|World.alloc_heap_new w _
 refine⟨w.heap.size+1,[{target:=.collected w.heap.size,args:=#[]}],d,{target:=.fn (.func gf) lb,args:=#[.func (.yield<|w.heap.size+1) #[] #[]]},d,gf,#[.func (.yield<|w.heap.size+1) #[] #[]]++lb,d,?_,?_,?_,?_,λ_=>h1,?_⟩
 .rw[G,l];exact run_enterLoop_outer _ _ _ _ _
 .simp only[resolve,X];simp[go_sem]
 .intro f' pF;simp[Target.leads]at pF;subst pF;exact Lf
 .simp[invoke,go_sem,eg]
 refine(nc d cG df (λp s A=>I p s A/\A.heap[w.heap.size+1]?=some (.loop<|L .ready)/\A.heap[w.heap.size]?=some (.deferred<|some [])/\w.heap.size+2<=A.heap.size) (λs A=>S s A/\A.heap[w.heap.size+1]?=some (.loop {L .done with pending:=some .ret})/\A.heap[w.heap.size]?=some (.deferred<|some [])/\w.heap.size+2<=A.heap.size) (λp s A hs=>CJ p s A hs.1) ?_ ?_ ?_ (λp s A hs=>yJ p s A hs.1) ?_ ⟨J _ _ _ _ WV (zzc _)<|Bk.fr cG,dY,j_,bL⟩).mono ?_
 .rintro p s A B ⟨f,i,j,q⟩ _ hb;rw[df]at hb;exact⟨J p s A B f bL<|hb.mono bL,hb.block _ _ i<|.inr bL,hb.block _ _ j<|.inr bL,zzk q hb.size⟩
 .rintro s A B ⟨f,i,j,q⟩ _ hb;rw[df]at hb;exact⟨U s A B f bL<|hb.mono bL,hb.block _ _ i<|.inr bL,hb.block _ _ j<|.inr bL,zzk q hb.size⟩
 .rintro p s A B g c t ⟨f,i,j,q⟩ _ hf X hB;exact⟨yI p s A B g c t f bL hf X hB,(hf.block _ (zza.1 i).1 bR).trans i,(hf.block _ (zza.1 j).1 bR).trans j,zzk q hf.size⟩
 .rintro p b x W ⟨f,i,j,q⟩ _ O;have hy:=run_yield (P:=P) (args:=encs x) i (by rw[l];exact az x);rw[l]at hy;refine⟨fn,_,assign,body,hy,roundIn_of_wpIn xn<|oJ p b x W _ f q O λu N ba R xa=>?_⟩;have la:=R.same _ _ i rfl;have da:=R.same _ _ j rfl;have WY:=(zza.1 la).1;obtain⟨z,E⟩:∃z,z=N.putObj (w.heap.size+1) (.loop<|L .busy):=⟨_,rfl⟩;have bb:Bk w.heap.size N z:=by rw[E];exact Bk.put la rfl bL _
  have U0:z.heap[w.heap.size+1]?=some (.loop<|L .busy):=by rw[E];exact World.putObj_heap_same WY
  have sb:z.heap.size=N.heap.size:=by rw[E];simp
  refine⟨z,by rw[E];have:=run_beginRound (P:=P) la (by rw[l]);rw[l]at this ⊢;exact this,?_⟩;apply wpIn_mono (yq p b x u z (J _ _ _ _ f bL<|ba.trans bb) (by rw[sb];omega) (by rw[E];exact WX _ _ _ _ xa) O);rintro e a3 M v8;have Y:=v8.elim (λh=>h.2.2.x D) λh=>h.2.2;have n1:w.heap.size+1∉D:=λm=>by have:=M9 _ m;omega
  have n0:w.heap.size∉D:=λm=>by have:=M9 _ m;omega
  have H:=Y.same _ _ n1 U0 rfl;have T:=(zza.1 H).1;have d3:=Y.same _ _ n0 (by rw[E];exact(World.putObj_heap_other bL).trans da) rfl;have S_:W.heap.size<=M.heap.size:=by have:=R.size;have:=Y.size;omega
  have a6:∀(k:Nat) (o:Obj),k≠w.heap.size+1->W.heap[k]?=some o->rW o=true->z.heap[k]?=some o:=λk o e m C=>by
   rw[E,World.putObj_heap_other e];exact R.same k o m C
  rcases v8 with⟨rfl,V,Z⟩|⟨rfl,V,Z⟩
  .have ma:=run_endRound (P:=P) none H;refine⟨_,_,ma,.inl ⟨rfl,⟨J _ _ _ _ V bL<|Bk.put H rfl bL _,?_,(World.putObj_heap_other bL).trans d3,by rw[cj];omega⟩,?_,?_⟩⟩
   .rw[World.putObj_heap_same T,l];rfl
   .rw[cj];exact S_
   .intro k o m C;by_cases e:k=w.heap.size+1
    .subst e;rw[i]at m;cases m;rw[World.putObj_heap_same T,l];rfl
    .rw[World.putObj_heap_other e];exact Z.same k o (a6 k o e m C) C
  .have ma:=run_endRound (P:=P) (some .ret) H;refine⟨_,_,ma,.inr ⟨rfl,⟨U _ _ _ V bL<|Bk.put H rfl bL _,?_,(World.putObj_heap_other bL).trans d3,by rw[cj];omega⟩,?_,?_⟩⟩
   .rw[World.putObj_heap_same T,l];rfl
   .rw[cj];exact S_
   .intro k o e m C;rw[zzj,not_or]at e;rw[World.putObj_heap_other e.1];exact Z.same k o e.2 (a6 k o e.1 m C) C
 .rintro e W2 ⟨⟨v,rfl⟩,hc⟩;rcases hc with⟨p,f,i,j,q⟩|⟨b,O,f,i,j,q⟩
  .have ma:=run_endLoop (P:=P) i (by rw[l];simp);have hp:(L .ready).pending=none:=by rw[l]
   rw[hp]at ma;refine⟨none,_,ma,?_⟩;exact yr p _ (J _ _ _ _ f bL<|Bk.put i rfl bL _) (by rw[cj];exact q)<|(World.putObj_heap_other bL).trans j
  .have ma:=run_endLoop (P:=P) i (by rw[l];simp);refine⟨some .ret,_,ma,?_⟩;have hq:=a7 b _ O (U _ _ _ f bL<|Bk.put i rfl bL<|.loop {({L .done with pending:=some .ret}:Loop)with state:=.exhausted}) (by rw[cj];exact q) ((World.putObj_heap_other bL).trans j);exact wpIn_ret hq
end
theorem H'(k v:ByteArray)(w:World)(h:k.size<256)(d:v.size<256):
  Calls prog 189 #[.string k,.string v] w λe w'=>e=.returned (.string (str (CD k v)))/\Below w.heap.size w w':=by
 have g:=tS w.heap.size (.slice none 0 0) [] 0 k w (zzu _ _ _ _) h (by omega) (zzc _)
 go_enter func189,ntmps189
 go_wp2_with fail;refine g.mono ?_;clear g;rintro e f ⟨v1,rfl,eE,cG,_⟩;obtain⟨a,c1,rfl⟩:=dZ eE (by omega);have c:=tS w.heap.size (.slice (some ⟨a,0,none⟩) (0+1+k.size) c1) _ (0+1+k.size) v f eE d (by omega) cG.size;clear eE;go_wp2_with fail;refine c.mono ?_;clear c;rintro e i ⟨v2,rfl,gH,cZ,_⟩;obtain⟨b,c2,rfl⟩:=dZ gH (by omega);have j:=jN i b 0 (0+1+k.size+1+v.size) c2 (CD k v) (by simp[CD,dy];omega) (lA (by simpa [CD] using gH));clear gH;go_wp2;go_ret;exact⟨rfl,cG.trans cZ⟩
theorem Ia(n p:Nat)(w:World):
  CallsIn Fence.wide n prog 144 #[.pointer (some ⟨p,0,none⟩)] w λe w'=>e=.returned (.func (.func 188) #[] #[.pointer (some ⟨w.heap.size,0,none⟩)])/\w'=w.alloc (.cells #[.pointer (some ⟨p,0,none⟩)] 75):=by
 refine callsIn_of_wp func144 rfl trivial ?_ rfl;simp only[ntmps144,List.size_toArray,zzr,List.length_nil,Nat.reduceAdd,Nat.reduceSub,Array.replicate_succ,Array.replicate_zero,List.push_toArray,List.append_toArray,List.nil_append,List.cons_append]
 gi_wp2
 go_ret;exact⟨rfl,rfl⟩
theorem LG(n:Nat)(hn:6<=n)(l:Nat)(E:List Nat)(a b m:Nat)(L:List (ByteArray × ByteArray))(y:m<=67108864)(W:World)(D:W.cell? ⟨a,0,none⟩=some (.map (some b)))(w:aO KS ES W b m L):
  LF Fence.wide n prog 207 #[.pointer (some ⟨a,0,none⟩)] (λx:ByteArray × ByteArray=>#[.string x.1,.string x.2]) (cX L) (λ_=>True) l E W:=λJ S _ v _ _ _ Y u=>by
 have h:=xZ n hn l a b m L y W nk (λ_ _=>True) (λ_ _ _ _=>trivial) (λk A B c t z d i _=>⟨(d.same k _ i (by rcases z with rfl|rfl<;>rfl)).trans i.symm,trivial⟩)
  (λs A=>J [] s A/\W.heap.size<=A.heap.size) S
  (λs A B hs g=>⟨v [] s A B hs.1 hs.2 (Bk.fr ⟨g.os,g.tape,g.output,g.size,λk d _=>g.block k d (by simp)⟩),zzk hs.2 g.size⟩)
  (λf x q j _ p=>by
   obtain⟨r,tmps,assign,body,C,R⟩:=Y [] f x q j.1 j.2 p;refine⟨r,tmps,assign,body,C,R.mono ?_⟩;rintro e o (⟨r1,r2,r3⟩|⟨r1,r2,_⟩)
   .exact .inl ⟨r1,⟨r2,zzk j.2 r3.size⟩,r3⟩
   .exact .inr ⟨r1,r2⟩)
  D w ⟨u,zzc _⟩
 refine h.mono ?_;rintro e o ⟨he,⟨ys,rfl,j⟩|⟨f,p,hf⟩⟩
 .exact⟨he,.inl ⟨_,j.1⟩⟩
 .exact⟨he,.inr ⟨f,p,hf⟩⟩
end
theorem PA{a b:ByteArray}(h:a.data.toList=b.data.toList):a=b:=by
 cases a;cases b;simp at h;rw[h]
theorem PB{L M:List (ByteArray × aK)}(h:b_ L)(g:b_ M)(e:∀k,ak L k=ak M k):fK L=fK M:=by
 have n:∀{X:List (ByteArray × aK)},b_ X->(X.map λp=>p.1.data.toList).Nodup:=λ{X} i=>by
  unfold List.Nodup;rw[List.pairwise_map];exact i.imp λC e=>C (PA e)
 have sub:∀{X Y:List (ByteArray × aK)},b_ X->(∀k,ak X k=ak Y k)->∀a,a∈(X.map λp=>p.1.data.toList)->a∈(Y.map λp=>p.1.data.toList):=λ{X Y} i m a l=>by
  obtain⟨p,j,rfl⟩:=zzq.1 l;have:=cP i (k:=p.1) (v:=p.2) j;rw[m] at this;exact zzq.2 ⟨_,bZ this,rfl⟩
 have j:=
  (List.perm_ext_iff_of_nodup (n h) (n g)).2 λa=>⟨sub h e a,sub g (λk=>(e k).symm) a⟩
 have r:∀a b c:List UInt8,leB a b=true->leB b c=true->leB a c=true:=λa b c d f=>by simp only[leB,decide_eq_true_eq] at *;exact List.le_trans d f
 have t:∀a b:List UInt8,(leB a b||leB b a)=true:=λa b=>by simp only[leB,Bool.or_eq_true,decide_eq_true_eq];exact List.le_total a b
 unfold fK;congr 1;refine List.Perm.eq_of_pairwise (le:=λa b=>leB a b=true) (λa b _ _ d f=>?_) (List.pairwise_mergeSort r t _) (List.pairwise_mergeSort r t _) ((List.mergeSort_perm _ leB).trans (j.trans (List.mergeSort_perm _ leB).symm));simp only[leB,decide_eq_true_eq] at d f;exact List.le_antisymm d f
theorem PC{L M:List (ByteArray × aK)}(h:b_ L)(g:b_ M)(e:∀k,ak L k=ak M k):dG L=dG M:=by
 unfold dG;rw[PB h g e];exact List.map_congr_left λk _=>by rw[e]
def jU(H:List ((Nat × ByteArray) × aK))(t:Nat):List (ByteArray × aK):=(H.filter λx=>decide (x.1.1=t)).map λx=>(x.1.2,x.2)
theorem qq{H:List ((Nat × ByteArray) × aK)}(h:b_ H)(t:Nat):b_ (jU H t):=by
 unfold b_ jU;rw[List.pairwise_map,List.pairwise_filter];refine h.imp ?_;intro a b C c hb e;have c:a.1.1=t:=by simpa using c
 have hb:b.1.1=t:=by simpa using hb
 exact C (Prod.ext (c.trans hb.symm) e)
theorem mV(t:Nat)(k:ByteArray):∀H:List ((Nat × ByteArray) × aK),ak (jU H t) k=ak H (t,k)
 |[]=>rfl
 |x :: r=>by
  have ih:=mV t k r;obtain⟨⟨u,q⟩,g⟩:=x;unfold jU ak at *;by_cases e:u=t
  .subst e;rw[List.filter_cons_of_pos (by simp),List.map_cons,List.find?_cons,List.find?_cons];by_cases a:q=k
   .subst a;simp
   .simp only[a,decide_false,Prod.mk.injEq,and_false];exact ih
  .rw[List.filter_cons_of_neg (by simp[e]),List.find?_cons];simp only[Prod.mk.injEq,e,false_and,decide_false];exact ih
end Go.Proofs.YtcalalndmcemiaaGreatDoor
