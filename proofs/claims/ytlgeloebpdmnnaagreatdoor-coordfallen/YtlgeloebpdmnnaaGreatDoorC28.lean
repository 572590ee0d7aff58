import Derived.Test.YtlgeloebpdmnnaaGreatDoorC22
set_option maxHeartbeats 8000000
set_option maxRecDepth 100000
namespace Go.Proofs.YtlgeloebpdmnnaaGreatDoor
open Go.RowKit Go.Maps Tryz Sc
section
open Go.Shelf
variable{B g n p:Nat}{c:bL}{w:nL}
theorem PK(B p F f n t k:Nat)(hk:k<9)(c:bL)(w:nL)(h:a_ w B p F f n c)(ht:t<2^64)(J:(c.tx t).aS=0)(G:(c.tx t).state=6)(N:(c.tx t).parts.getD k 0=2)(S:((c.tx t).parts.set k 5).any kE=true)(hn:n+1<1000000000):
  Calls prog 137 #[gx p,.int .u64 (t:Int),.int .i64 (k:Int)] w λe w'=>e=.returned .nilIface/\a_ w' B p F f (n+1) {c with aD:=dt c.aD t {c.tx t with parts:=(c.tx t).parts.set k 5}}/\gQ p [p,f] w w':=by
 have R:=h;have Z:=R.GA t;have mn:=R.iQ ht;obtain⟨rv,ov,g1,_⟩:=R.ex;have c1:=af g1 1;simp at c1;have M:=R.jS;obtain⟨T,hT⟩:∃T,T=c.tx t:=⟨_,rfl⟩;rw[<-hT]at Z G N S mn J ⊢;clear hT;obtain⟨d,o⟩:∃d:fQ,d={T with parts:=T.parts.set k 5}:=⟨_,rfl⟩;have U:d.Ok:=by rw[o];exact yn Z dp
 have TA:T.parts.set k 5=d.parts:=by rw[o]
 rw[TA]at S;rw[<-o];have X:=λW=>vA T Z k hk W
 rw[N]at X;have Y:=λW=>sG T Z k 5 hk W
 rw[<-o]at Y;obtain⟨q,i,j,m,r,u,x,y,A,O⟩:=nine U.1
 have K:lz d=.agg #[.int .i64 6,.int .u8 (q:Int),.int .u8 (i:Int),.int .u8 (j:Int),.int .u8 (m:Int),.int .u8 (r:Int),.int .u8 (u:Int),.int .u8 (x:Int),.int .u8 (y:Int),.int .u8 (A:Int),.int .u64 (T.since:Int),.nilIface]:=by
  have e:d=⟨6,[q,i,j,m,r,u,x,y,A],T.since,0⟩:=by
   have e1:d.state=6:=by rw[o];exact G
   have E:d.since=T.since:=by rw[o]
   have e3:d.aS=0:=by rw[o];exact J
   obtain⟨a1,a2,a3,a4⟩:=d;simp only at e1 E e3 O;rw[e1,E,e3,O]
  rw[e,bC,aT];rfl
 rw[K]at Y
 have z_:=ah (λ(W:nL) (m':Nat) (h2:a_ W B p F f m' c) (Rg:m' < maxLen)=>(by
  obtain⟨g,nY,PE,rO⟩:=h2.aD.qV underlying192 Rg (k:=t) ht (v:=d) U;refine⟨g,?_,h2.lS (Fr.bI rO) PE dp,Fr.bI rO⟩;have e:(EX.ev d:Value)=lz d:=rfl;rw[e,K]at nY
  exact nY:∃g,(Instr.mapUpdate 192 (.map (some f)) (.int .u64 (t:Int)) (.agg #[.int .i64 6,.int .u8 (q:Int),.int .u8 (i:Int),.int .u8 (j:Int),.int .u8 (m:Int),.int .u8 (r:Int),.int .u8 (u:Int),.int .u8 (x:Int),.int .u8 (y:Int),.int .u8 (A:Int),.int .u64 (T.since:Int),.nilIface])).run prog W=.ok () g/\a_ g B p F f (m' + 1) {c with aD:=dt c.aD t d}/\Fr [f] W g))
 have TB:=ah λW=>tZ 182 kE Am wV d U W;rw[S,K]at TB;have XU:=ah Y;clear o O Y N S TA K;obtain⟨s,ps,z,qd⟩:=T
 change qd=0 at J
 subst J;obtain⟨p0,p1,p2,p3,p4,p5,p6,p7,p8,eG⟩:=nine Z.1
 change ps=_ at eG
 subst eG
 change s=6 at G
 subst G;rw[bC,aT]at mn;simp only[bC,aT]at X;have HI:=ah h;obtain⟨C,I⟩:∃C,C=w.alloc (.cells #[.int .i64 6,.int .u8 (p0:Int),.int .u8 (p1:Int),.int .u8 (p2:Int),.int .u8 (p3:Int),.int .u8 (p4:Int),.int .u8 (p5:Int),.int .u8 (p6:Int),.int .u8 (p7:Int),.int .u8 (p8:Int),.int .u64 (z:Int),.nilIface] 249):=⟨_,rfl⟩;have dI:Fr [] w C:=by rw[I];exact(fU w).alloc _
 have P:C.heap[nF w]?=some (.cells #[.int .i64 6,.int .u8 (p0:Int),.int .u8 (p1:Int),.int .u8 (p2:Int),.int .u8 (p3:Int),.int .u8 (p4:Int),.int .u8 (p5:Int),.int .u8 (p6:Int),.int .u8 (p7:Int),.int .u8 (p8:Int),.int .u64 (z:Int),.nilIface] 249 (0,0)):=by rw[I];exact oz w _
 have fE:=X C;have wU:=(zza.1 P).1;have H0:=ah<|zzb dI P;clear h g1 X dI P R
 go_enter func137,ntmps137
 go_wp2_with fail;rw[<-I];clear I;refine fE.mono ?_;clear fE
 rintro e w2 ⟨rfl,bH⟩;have r2:=(bH.block (nF w) wU dv).trans H0.2;obtain⟨x0,x1,x2,x3,x4,x5,x6,x7,x8,x9,xa,xb⟩:=mD r2;have Y:=XU.out w2;have H2:=ah<|H0.1.trans bH;clear bH r2;go_wp2_with fail;refine Y.mono ?_;clear Y x0 x1 x2 x3 x4 x5 x6 x7 x8 x9 xa xb;rintro e b ⟨rfl,fu⟩;obtain⟨D,L⟩:∃D,D=b.alloc (.cells #[.int .i64 6,.int .u8 (q:Int),.int .u8 (i:Int),.int .u8 (j:Int),.int .u8 (m:Int),.int .u8 (r:Int),.int .u8 (u:Int),.int .u8 (x:Int),.int .u8 (y:Int),.int .u8 (A:Int),.int .u64 (z:Int),.nilIface] 249):=⟨_,rfl⟩;have iI:Fr [] w D:=by rw[L];exact(H2.out.trans fu).alloc _
 have Q:D.heap[nF b]?=some (.cells #[.int .i64 6,.int .u8 (q:Int),.int .u8 (i:Int),.int .u8 (j:Int),.int .u8 (m:Int),.int .u8 (r:Int),.int .u8 (u:Int),.int .u8 (x:Int),.int .u8 (y:Int),.int .u8 (A:Int),.int .u64 (z:Int),.nilIface] 249 (0,0)):=by rw[L];exact oz b _
 have nb:=(zza.1 Q).1;have H4:=ah<|zzb iI Q;have Lv:=TB.out D;clear iI Q fu;go_wp2_with fail;rw[<-L];clear L;refine Lv.mono ?_;clear Lv;rintro e g ⟨rfl,iR⟩;have H:=ah (zzb (H4.1.trans iR)<|(iR.block (nF b) nb dv).trans H4.2);clear iR;go_wp2;obtain⟨d0,d1,d2,d3,d4,d5,d6,d7,d8,d9,da,db⟩:=mD H.2;have u1:=(zze (a:=⟨p,1,none⟩)<|H.1.block p M.1 dv).trans c1;obtain⟨V,GB,yo,l⟩:=z_.out g.drew n (HI.out.new H.1.drew) eE
 have a7:¬(nF b)=f:=by
  intro e;obtain⟨es,cc,E⟩:=(HI.out.new H.1).aD.isMap;rw[<-e,H.2]at E;cases E
 have r6:=(l.block (nF b) (zza.1 H.2).1<|by simpa using a7).trans H.2;obtain⟨t0,t1,t2,t3,t4,t5,t6,t7,t8,t9,ta,tb⟩:=mD r6;have u6:=(zze (a:=⟨p,1,none⟩)<|l.block p (by have:=H.1.size;show p<g.heap.size;omega)<|by simpa using M.2.2).trans u1;have sQ:Fr [f] g V:=⟨l.os,l.tape,l.output,l.size,l.block⟩;have H6:=ah (show a_ V B p F f (n+1) {c with aD:=dt c.aD t d}/\gQ p [p,f] w V from ⟨yo,gQ.trans (H.1.r M.1 dv dv)<|sQ.r (zzl M.1 H.1.size) (by simpa using M.2.2) dv⟩);clear yo l sQ r6
 go_region_held3 (λw'=>w'.cell? ⟨p,1,none⟩=some (.map<|some f)/\w'.cell? ⟨nF b,0,none⟩=some (.int .i64 6)/\w'.cell? ⟨nF b,1,none⟩=some (.int .u8 (q:Int))/\w'.cell? ⟨nF b,2,none⟩=some (.int .u8 (i:Int))/\w'.cell? ⟨nF b,3,none⟩=some (.int .u8 (j:Int))/\w'.cell? ⟨nF b,4,none⟩=some (.int .u8 (m:Int))/\w'.cell? ⟨nF b,5,none⟩=some (.int .u8 (r:Int))/\w'.cell? ⟨nF b,6,none⟩=some (.int .u8 (u:Int))/\w'.cell? ⟨nF b,7,none⟩=some (.int .u8 (x:Int))/\w'.cell? ⟨nF b,8,none⟩=some (.int .u8 (y:Int))/\w'.cell? ⟨nF b,9,none⟩=some (.int .u8 (A:Int))/\w'.cell? ⟨nF b,10,none⟩=some (.int .u64 (z:Int))/\w'.cell? ⟨nF b,11,none⟩=some (.nilIface))
  (simp[*])
  (fail)
 go_wp2;go_ret;exact⟨rfl,H6.out⟩
theorem a_.cell{w w':nL}{B p l i T n:Nat}{c c':bL}(h:a_ w B p l T n c)(k:c'.aD=c.aD)(I:c'.res=c.res:=by rfl)(u:c'.out=c.out:=by rfl)(hnum:c'.next<2^64/\c'.aH<2^64/\c'.bw<2^64)(hf:Fr [p] w w')(hb:∀r v,w.heap[p]?=some (ub l T c r v)->w'.heap[p]?=some (ub i T c' r v)):a_ w' B p i T n c':=by
 have⟨r,v,j,a,b,d,f⟩:=h.ex;rw[<-I]at a d;rw[<-u]at b f;refine⟨⟨r,v,hb r v j,ar a hf λg m=>?_,ar b hf λg m=>?_,d,f⟩,by rw[k];exact h.aD.fr hf<|by simpa using λe=>h.jS.2.2 e.symm,⟨h.low.1,h.low.2.1,zzk h.low.2.2 hf.size⟩,hnum⟩
 .grind [aQ]
 .grind [aQ]
theorem a_.Ny{w':nL}{l b:Nat}{c':bL}{T:List Nat}(h:a_ w B p g b n c)(hf:Fr [p] w w')(i:p∈T)(hb:∀r v,w.heap[p]?=some (ub g b c r v)->w'.heap[p]?=some (ub l b c' r v)):gQ p T w w':=by
 have⟨r,v,d,_⟩:=h.ex;have f:=hb r v d;have e:rd p w'=rd p w:=by unfold rd;rw[d,f];rfl
 exact⟨hf.mono λk _ a=>by simp at a;subst a;exact List.mem_append_left _ i,λk _ a=>by rw[e]at a;exact a⟩
theorem a_.aaY{T:Nat}(h:a_ w B p g T n c)(y:TypeId):(Builtin.len_ #[192] y #[.map<|some T]).run prog w=.ok (.int .i64 (c.aD.length:Int)) w:=
 h.aD.aaG underlying192 y
abbrev XV(z:Int):Prop:=-2^63<=z/\z<2^63
def jL:Int->List Int->Bool
 |l,[]=>decide (0<l)
 |l,x :: r=>if x<=l\/8<x then false else jL x r
theorem TD:∀(zs:List Int) (l:Int),0<=l->jL l zs=true->∃xs:List Nat,zs=xs.map (λx:Nat=>(x:Int))/\xs.Pairwise (· < ·)/\(∀x∈xs,l<x/\x<=8)/\(xs=[]->0<l):=by
 intro zs
 induction zs with
 |nil=>intro l g h;exact⟨[],rfl,List.Pairwise.nil,dv,λ_=>by simpa [jL]using h⟩
 |cons z r ih=>
  intro l g h;unfold jL at h;by_cases f:z<=l\/8<z
  .grind
  .rw[mE f]at h;obtain⟨xs,b,c,d,i⟩:=ih z dp h;obtain⟨x,rfl⟩:∃x:Nat,z=(x:Int):=⟨z.toNat,dp⟩;refine⟨x::xs,by simp[b],zzA.2 ⟨λy a=>by have:=(d y a).1;omega,c⟩,?_,dv⟩;intro y a;rcases zzj.1 a with e|e<;>grind
theorem xe{zs:List Int}(h:jL 0 zs=true):∃xs:List Nat,zs=xs.map (λx:Nat=>(x:Int))/\j_ xs:=by
 obtain⟨xs,a,b,c,d⟩:=TD zs 0 dp h;exact⟨xs,a,⟨λe=>by have:=d e;omega,b,λx hx=>by have:=c x hx;omega⟩⟩
def TE(w:nL)(o:Option Addr)(zs:List Int):Prop:=∀(k:Nat) (z:Int),zs[k]?=some z->XV z/\∃g,o=some (gi g)/\w.cell? (hP g k)=some (.int .i64 z)
theorem XW(o:Option Addr)(q:Nat)(zs:List Int)(hlen:zs.length<=281474976710656)(w:nL)(hx:TE w o zs):
  Calls prog 195 #[.slice o zs.length q] w λe w'=>e=.returned (.bool<|jL 0 zs)/\w'=w:=by
 have X:Hid (TE w o zs):=hx;obtain⟨m,c⟩:∃m,m=zs.length:=⟨_,rfl⟩;have M:Hid (m=zs.length):=c;rw[<-c]at hlen ⊢;obtain⟨R,b⟩:∃R,R=jL 0 zs:=⟨_,rfl⟩;have l:Hid (R=jL 0 zs):=b;rw[<-b];clear hx c b
 go_enter func195,ntmps195
 go_wp2
 go_loopw [3,8] (λL i wr=>∃(k:Nat) (y:Int),k<=m/\i=.int .i64 k/\L=.int .i64 y/\wr=w/\XV y/\Hid (jL y (zs.drop k)=R)) (λ_ i _=>m-(intOf i).toNat)
 case atStart=>exact⟨0,0,zzs _,rfl,rfl,rfl,du,l.out.symm⟩
 case round=>
  obtain⟨k,y,u,rfl,rfl,rfl,v,H⟩:=hrel;by_cases W:k<m
  .obtain⟨x,Nq⟩:∃x,zs[k]?=some x:=⟨_,zzg<|by have:=M.out;omega⟩;obtain⟨F,g,rfl,t⟩:=X.out k x Nq
   have j:zs.drop k=x::zs.drop (k+1):=by
    obtain⟨n,p⟩:=zzd.1 Nq;rw[List.drop_eq_getElem_cons n,p]
   have a:Hid ((if x<=y\/8<x then false else jL x (zs.drop<|k+1))=R):=by
    have:=H.out;rw[j]at this;exact this
   have s:(k:Int)<m:=dp;clear j Nq;by_cases d:x<=y
   .go_wp2;go_ret;have:=a.out;rw[oo<|.inl d]at this;exact⟨by rw[<-this];rfl,rfl⟩
   .by_cases f:8<x
    .go_wp2;go_ret;have:=a.out;rw[oo<|.inr f]at this;exact⟨by rw[<-this];rfl,rfl⟩
    .go_wp2
     go_roundw
     .have:=a.out;rw[mE<|by rintro (h|h);exact d h;exact f h]at this;exact⟨k+1,x,dp,dv,rfl,dv,F,this⟩
     case measure=>simp[intOf];omega
  .obtain rfl:k=m:=dp;have s:¬(k:Int)<k:=dp;have a:Hid (decide (0<y)=R):=by
    have:=H.out;rw[M.out,List.drop_length]at this;exact this
   by_cases r:0<y
   .go_wp2;go_ret;have:=a.out;rw[zI r]at this;exact⟨by rw[<-this];rfl,rfl⟩
   .go_wp2;go_ret;have:=a.out;rw[show decide (0<y)=false from zY dp]at this;exact⟨by rw[<-this];rfl,rfl⟩
def partAt(t:fQ)(z:Int):Nat:=if 0<=z/\z<9 then t.parts.getD z.toNat 0 else 0
theorem ac0(t:fQ)(h:t.Ok)(z:Int)(w:nL):
  Calls prog 198 #[lz t,.int .i64 z] w λe w'=>e=.returned (.int .u8 ((partAt t z:Nat):Int))/\Fr [] w w':=by
 unfold partAt;by_cases a:0<=z/\z<9
 .rw[oo a];obtain⟨k,rfl⟩:∃k:Nat,z=(k:Int):=⟨z.toNat,dp⟩;rw[Int.toNat_natCast];exact vA t h k dp w
 .rw[mE a];obtain⟨s,ps,y⟩:=t;obtain⟨p,c,d,f,g,i,j,l,m,rfl⟩:=nine h.1;rw[bC];by_cases b:z<0
  .go_enter func198,ntmps198
   go_wp2;go_ret;exact⟨rfl,(fU w).alloc _⟩
  .have h9:(9:Int)<=z:=dp;go_enter func198,ntmps198
   go_wp2;go_ret;exact⟨rfl,(fU w).alloc _⟩
theorem PM(v:Int)(h:v≠2)(a:v≠3)(b:v≠4)(w:nL):
  Calls prog 197 #[.int .i64 v] w λe w'=>e=.returned (.int .u8 0)/\w'=w:=by
 have c:=oT.2 h;have d:=oT.2 a;have f:=oT.2 b
 go_enter func197,ntmps197
 go_wp2;go_ret;exact⟨rfl,rfl⟩
theorem Fm(B p Y b n t v:Nat)(k:Int)(R:v=2\/v=3\/v=4)(c:bL)(w:nL)(h:a_ w B p Y b n c)(f:t<2^64)(j:partAt (c.tx t) k≠1):
  Calls prog 135 #[gx p,.int .u64 (t:Int),.int .i64 k,.int .i64 (v:Int)] w λe w'=>e=.returned .nilIface/\Fr [] w w':=by
 have Z:=h.GA t;obtain⟨rv,ov,g,_⟩:=h.ex;have c1:=af g 1;simp at c1;have Q:=h.jS;have K:=ox v R;obtain⟨T,a⟩:∃T,T=c.tx t:=⟨_,rfl⟩;have U:∀o,(Instr.lookup 192 (.map<|some b) (.int .u64 (t:Int)) false).run prog ((w.alloc o).drew)=.ok (lz T) ((w.alloc o).drew):=λo=>by rw[a];exact(h.new ((fU w).alloc o).drew).iQ f
 have m:(Instr.lookup 192 (.map<|some b) (.int .u64 (t:Int)) false).run prog w.drew=.ok (lz T) w.drew:=by rw[a];exact(h.new (fU w).drew).iQ f
 rw[<-a]at Z j;clear a;have S:¬(v:Int)=0:=dp;have j0:=oT.2 S;obtain⟨P,d⟩:∃P,P=partAt T k:=⟨_,rfl⟩;have X:=λW=>ac0 T Z k W
 rw[<-d]at j X;clear d;have V:¬(P:Int)=1:=dp;have j1:=oT.2 V;have N:=ah X;clear X;obtain⟨s,ps,z,J⟩:=T;obtain⟨l,q,u,x,y,C,D,F,H,G⟩:=nine Z.1
 change ps=_ at G
 subst G;rw[bC]at m N;simp only[bC]at U;have i:∀o,(w.alloc o).cell? ⟨p,1,none⟩=some (.map<|some b):=λo=>(sR _ _ _ Q.1).trans c1
 have HI:=ah h;clear h g
 go_enter func135,ntmps135
 go_wp2
 go_cut [9,10]from 12 to 19 (λs9 O wx=>s9=.pointer (some ⟨w.heap.size,0,none⟩)/\O=.int .u8 (v:Int)/\wx=(w.alloc<|.cells #[.int .i64 (s:Int),.int .u8 (l:Int),.int .u8 (q:Int),.int .u8 (u:Int),.int .u8 (x:Int),.int .u8 (y:Int),.int .u8 (C:Int),.int .u8 (D:Int),.int .u8 (F:Int),.int .u8 (H:Int),.int .u64 (z:Int),bB J] 249).drew)
 .go_region_held3 (λw'=>w'.cell? ⟨p,1,none⟩=some (.map<|some b))
   (first|exact i _|simp[*])
   (first|(go_at_call 197;refine(K _).mono ?_;rintro e w2 ⟨rfl,rfl⟩))
  all_goals
   (go_wp2_with fail
    go_meet
    .exact⟨rfl,rfl,rfl⟩)
 case rest=>
  obtain⟨rfl,rfl,A⟩:=hcut;have I:Fr [] w wc:=by rw[A];exact((fU w).alloc _).drew
  have r:wc.heap[nF w]?=some (.cells #[.int .i64 (s:Int),.int .u8 (l:Int),.int .u8 (q:Int),.int .u8 (u:Int),.int .u8 (x:Int),.int .u8 (y:Int),.int .u8 (C:Int),.int .u8 (D:Int),.int .u8 (F:Int),.int .u8 (H:Int),.int .u64 (z:Int),bB J] 249 (0,0)):=by rw[A];exact oz w _
  obtain⟨y0,y1,y2,y3,y4,y5,y6,y7,y8,y9,ya,yb⟩:=mD r;have wU:=(zza.1 r).1;have E:=N.out wc;have L:=ah<|zzb I r;clear A I r m U i;go_wp2_with fail;refine E.mono ?_;rintro e w2 ⟨rfl,bH⟩;have M:=ah<|L.1.trans bH;clear bH E
  go_wp2;go_ret;exact⟨rfl,M.out⟩
theorem Lx(B p r b n t:Nat)(k v:Int)(j:v≠2)(l:v≠3)(q:v≠4)(c:bL)(w:nL)(h:a_ w B p r b n c)(d:t<2^64):
  Calls prog 135 #[gx p,.int .u64 (t:Int),.int .i64 k,.int .i64 v] w λe w'=>e=.returned .nilIface/\Fr [] w w':=by
 have Z:=h.GA t;obtain⟨R,Q,g,_⟩:=h.ex;have c1:=af g 1;simp at c1;have M:=h.jS;have i:=PM v j l q;obtain⟨T,a⟩:∃T,T=c.tx t:=⟨_,rfl⟩;have U:∀o,(Instr.lookup 192 (.map<|some b) (.int .u64 (t:Int)) false).run prog ((w.alloc o).drew)=.ok (lz T) ((w.alloc o).drew):=λo=>by rw[a];exact(h.new ((fU w).alloc o).drew).iQ d
 have m:(Instr.lookup 192 (.map<|some b) (.int .u64 (t:Int)) false).run prog w.drew=.ok (lz T) w.drew:=by rw[a];exact(h.new (fU w).drew).iQ d
 rw[<-a]at Z;clear a;obtain⟨s,ps,z,N⟩:=T;obtain⟨u,x,C,D,E,F,J,K,L,G⟩:=nine Z.1
 change ps=_ at G
 subst G;rw[bC]at m;simp only[bC]at U;have f:∀o,(w.alloc o).cell? ⟨p,1,none⟩=some (.map<|some b):=λo=>(sR _ _ _ M.1).trans c1
 clear h g
 go_enter func135,ntmps135
 go_wp2
 go_cut [9,10]from 12 to 19 (λO y P=>O=.pointer (some ⟨w.heap.size,0,none⟩)/\y=.int .u8 0/\P=(w.alloc<|.cells #[.int .i64 (s:Int),.int .u8 (u:Int),.int .u8 (x:Int),.int .u8 (C:Int),.int .u8 (D:Int),.int .u8 (E:Int),.int .u8 (F:Int),.int .u8 (J:Int),.int .u8 (K:Int),.int .u8 (L:Int),.int .u64 (z:Int),bB N] 249).drew)
 .go_region_held3 (λw'=>w'.cell? ⟨p,1,none⟩=some (.map<|some b))
   (first|exact f _|simp[*])
   (first|(go_at_call 197;refine(i _).mono ?_;rintro e w2 ⟨rfl,rfl⟩))
  all_goals
   (go_wp2_with fail
    go_meet
    .exact⟨rfl,rfl,rfl⟩)
 case rest=>
  obtain⟨rfl,rfl,A⟩:=hcut;have I:Fr [] w wc:=by rw[A];exact((fU w).alloc _).drew
  have H:=ah I;clear A I m U f;go_wp2;go_ret;exact⟨rfl,H.out⟩
theorem Fo(B E J I n t:Nat)(c:bL)(w:nL)(h:a_ w B E J I n c)(ht:t<2^64)(f:(c.tx t).state=0):
  Calls prog 134 #[gx E,.int .u64 (t:Int)] w λe w'=>e=.returned (bB 7)/\Fr [] w w':=by
 have Z:=h.GA t;have⟨y,v,g,_⟩:=h.ex;have c1:=af g 1;simp at c1;have M:=h.jS;have⟨T,a⟩:=gb <|c.tx t;have U:∀o,(Instr.lookup 192 (.map<|some I) (.int .u64 (t:Int)) false).run prog (w.alloc o)=.ok (lz T) (w.alloc o):=λo=>by rw[a];exact(h.new<|(fU w).alloc o).iQ ht
 have m:(Instr.lookup 192 (.map<|some I) (.int .u64 (t:Int)) false).run prog w=.ok (lz T) w:=by rw[a];exact h.iQ ht
 rw[<-a]at Z f;clear a;have⟨s,ps,z,x⟩:=T;have⟨p,d,i,j,k,l,q,r,u,G⟩:=nine Z.1;change ps=_ at G;change s=0 at f;subst G;subst f;rw[bC]at m;simp only[bC]at U;have b:∀o,(w.alloc o).cell? (hP E 1)=some (.map<|some I):=λo=>(sR _ _ _ M.1).trans c1
 clear h g;go_enter func134,ntmps134;go_wp2;go_ret;exact⟨rfl,(fU w).alloc _⟩
theorem Fp(B E J I n t:Nat)(c:bL)(w:nL)(h:a_ w B E J I n c)(ht:t<2^64)(f:(c.tx t).state=6):
  Calls prog 134 #[gx E,.int .u64 (t:Int)] w λe w'=>e=.returned (bB 4)/\Fr [] w w':=by
 have Z:=h.GA t;have⟨y,v,g,_⟩:=h.ex;have c1:=af g 1;simp at c1;have M:=h.jS;have⟨T,a⟩:=gb <|c.tx t;have U:∀o,(Instr.lookup 192 (.map<|some I) (.int .u64 (t:Int)) false).run prog (w.alloc o)=.ok (lz T) (w.alloc o):=λo=>by rw[a];exact(h.new<|(fU w).alloc o).iQ ht
 have m:(Instr.lookup 192 (.map<|some I) (.int .u64 (t:Int)) false).run prog w=.ok (lz T) w:=by rw[a];exact h.iQ ht
 rw[<-a]at Z f;clear a;have⟨s,ps,z,x⟩:=T;have⟨p,d,i,j,k,l,q,r,u,G⟩:=nine Z.1;change ps=_ at G;change s=6 at f;subst G;subst f;rw[bC]at m;simp only[bC]at U;have b:∀o,(w.alloc o).cell? (hP E 1)=some (.map<|some I):=λo=>(sR _ _ _ M.1).trans c1
 clear h g;go_enter func134,ntmps134;go_wp2;go_ret;exact⟨rfl,(fU w).alloc _⟩
theorem Iz(B E J I n t:Nat)(c:bL)(w:nL)(h:a_ w B E J I n c)(ht:t<2^64)(f:(c.tx t).aS=0)(b:(c.tx t).state≠0)(d:(c.tx t).state≠6)(hn:n+10<1000000000):
  Calls prog 134 #[gx E,.int .u64 (t:Int)] w λe w'=>e=.returned .nilIface/\a_ w' B E J I (n+10) (c.kX t)/\gQ E [E,I] w w':=by
 have Z:=h.GA t;obtain⟨Q,P,g,_⟩:=h.ex;have c1:=af g 1;simp at c1;have M:=h.jS;have⟨T,a⟩:=gb <|c.tx t;have K:∀o,(Instr.lookup 192 (.map<|some I) (.int .u64 (t:Int)) false).run prog (w.alloc o)=.ok (lz T) (w.alloc o):=λo=>by rw[a];exact(h.new<|(fU w).alloc o).iQ ht
 have l:(Instr.lookup 192 (.map<|some I) (.int .u64 (t:Int)) false).run prog w=.ok (lz T) w:=by rw[a];exact h.iQ ht
 rw[<-a]at Z b d f;clear a;have⟨s,ps,z,D⟩:=T;change D=0 at f;subst f;have⟨p,q,r,u,v,x,y,A,C,G⟩:=nine Z.1;change ps=_ at G;have j:¬(s:Int)=0:=by have:s≠0:=b;omega
 have k:¬(s:Int)=6:=by have:s≠6:=d;omega
 have L:=oT.2 j;have N:=oT.2 k;subst G;rw[bC,aT]at l;simp only[bC,aT]at K;have O:∀o,(w.alloc o).cell? (hP E 1)=some (.map<|some I):=λo=>(sR _ _ _ M.1).trans c1
 have⟨W,i⟩:=gb <|w.alloc (.cells (mf s p q r u v x y A C z .nilIface) 249);have U:Fr [] w W:=by rw[i];exact(fU w).alloc _
 have m:=vH B E J I n t c W (h.new U) ht hn;have F:=ah (U.r (T:=[E,I]) M.1 dv dv);clear h g U b d;go_enter func134,ntmps134;go_wp2_with fail;rw[<-i];apply m.mono;clear m;rintro e w2 ⟨rfl,iy,bH⟩;have H:=ah<|zzb iy<|F.out.trans bH;clear iy bH;go_wp2;go_ret;exact⟨rfl,H.out⟩
theorem TG(B E p I m:Nat)(c:bL)(w:nL)(h:a_ w B E p I m c)(l:1<=p)(n:c.aD.length<12)(M:c.next≠c.aH)(u:m+1<1000000000)(C:c.next+1<2^64):
  Calls prog 194 #[gx E] w λe w'=>e=.returned (.tuple #[.int .u64 (c.next:Int),.nilIface])/\a_ w' B E p I (m+1) {c with next:=c.next+1,aD:=dt c.aD c.next ⟨4,[0,0,0,0,0,0,0,0,0],0,0⟩}/\gQ E [E,I] w w':=by
 obtain⟨r,o,g,_⟩:=h.ex;have a:=af g 0;have c1:=af g 1;have c2:=af g 2;have c3:=af g 3;have t:=aq g 2;simp at a c1 c2 c3;rw[kq l]at a;have hlen:=h.aaY;have S:=h.gw;obtain⟨N,hN⟩:∃N,N=c.aD.length:=⟨_,rfl⟩;rw[<-hN]at hlen n;have A:¬(12:Int)<=N:=dp;have q:¬(c.next:Int)=(c.aH:Int):=dp;have F:((c.next:Int)==(c.aH:Int))=false:=oT.2 q;have z:IntKind.u64.wrap ((c.next:Int)+1)=(c.next:Int)+1:=by rw[Bl];omega
 have D:(c.next:Int)+1<18446744073709551616:=dp;obtain⟨W,j⟩:∃W,W=(w.setCell ⟨E,2,none⟩<|.int .u64<|(c.next:Int)+1).drew:=⟨_,rfl⟩;have H:Fr [E] w W:=by rw[j];exact(Fr.cG dv _ _).drew
 have y:∀r o,w.heap[E]?=some (ub p I c r o)->W.heap[E]?=some (ub p I {c with next:=c.next+1} r o):=λr o e=>by
  rw[j];have:=aF e 2<|.int .u64<|(c.next:Int)+1;show(w.setCell _ _).heap[E]?=_
  simpa [ub]using this
 have T:a_ W B E p I m {c with next:=c.next+1}:=h.cell rfl (hnum:=⟨C,S.2.1,S.2.2⟩) (hf:=H) (hb:=y);have Y:gQ E [E,I] w W:=h.Ny H (by simp) y;obtain⟨J,X,b,_⟩:=T.ex;have d:=af b 1;simp at d;obtain⟨s,G,K,L⟩:=T.aD.qV underlying192 eE (k:=c.next) (show c.next<18446744073709551616 by omega) (v:=(⟨4,[0,0,0,0,0,0,0,0,0],0,0⟩:fQ))<|show fQ.Ok _ from ⟨rfl,by decide⟩
 change (Instr.mapUpdate _ _ (.int .u64 (c.next:Int))<|.agg #[.int .i64 4,.int .u8 0,.int .u8 0,.int .u8 0,.int .u8 0,.int .u8 0,.int .u8 0,.int .u8 0,.int .u8 0,.int .u8 0,.int .u64 0,.nilIface]).run _ _=_ at G
 have x:=T.lS (Fr.bI L) K dp;have f:gQ E [E,I] W s:=(Fr.bI L).r T.jS.1 (by simpa using T.jS.2.2) (by simp);have i:=ah<|zzb x<|Y.trans f;rw[j]at d G;clear h g hN H y T Y b K L x f j
 go_enter func194,ntmps194;go_wp2;go_region_held3 (λw'=>w'.cell? ⟨E,2,none⟩=some (.int .u64 (c.next:Int))/\w'.cell? ⟨E,3,none⟩=some (.int .u64 (c.aH:Int)))
  (simp[*])
  (fail)
 go_wp2;go_ret2;exact⟨rfl,i.out⟩
theorem Lz(B E p I m:Nat)(c:bL)(w:nL)(h:a_ w B E p I m c)(y:1<=p)(W:12<=c.aD.length):
  Calls prog 194 #[gx E] w λe w'=>e=.returned (.tuple #[.int .u64 0,bB 5])/\Fr [] w w':=by
 have⟨r,v,g,_⟩:=h.ex;have a:=af g 0;have c1:=af g 1;simp at a c1;rw[kq y]at a;have hlen:=h.aaY;have⟨N,hN⟩:=gb c.aD.length;rw[<-hN]at hlen W;have i:(12:Int)<=N:=dp;clear h g hN;go_enter func194,ntmps194;go_wp2;go_ret2;exact⟨rfl,fU w⟩
section
variable(B E J I n t:Nat)(v:Value)(c:bL)(w:nL)(h:a_ w B E J I n c)(ht:t<18446744073709551616)
include h ht
theorem Fq(f:(c.tx t).state=0):
  Calls prog 133 #[gx E,.int .u64 (t:Int),v] w λe w'=>e=.returned (bB 7)/\w'=w:=by
 have s:=ke B E J I n t c w h ht;rw[f]at s;clear h;go_enter func133,ntmps133;go_wp2_with fail;apply s.mono;clear s;rintro e a ⟨rfl,mR⟩;subst mR;go_wp2;go_ret;exact⟨rfl,rfl⟩
theorem C8(b:(c.tx t).state≠0)(d:(c.tx t).state≠4):
  Calls prog 133 #[gx E,.int .u64 (t:Int),v] w λe w'=>e=.returned (bB 4)/\w'=w:=by
 have a:=ke B E J I n t c w h ht;have⟨s,S⟩:=gb <|(c.tx t).state;rw[<-S]at a b d;have i:¬(s:Int)=0:=dp;have f:¬(s:Int)=4:=dp;have g:=oT.2 i;have j:=oT.2 f;clear h S;go_enter func133,ntmps133;go_wp2_with fail;apply a.mono;clear a;rintro e k ⟨rfl,mR⟩;subst mR;go_wp2;go_ret;exact⟨rfl,rfl⟩
end
theorem C9(B E J I n t p:Nat)(o:Option Addr)(zs:List Int)(c:bL)(w:nL)(h:a_ w B E J I n c)(ht:t<2^64)(hlen:zs.length<=281474976710656)(hx:TE w o zs)(f:(c.tx t).state=4)(Z:jL 0 zs=false):
  Calls prog 133 #[gx E,.int .u64 (t:Int),.slice o zs.length p] w λe w'=>e=.returned (bB 6)/\w'=w:=by
 have s:=ke B E J I n t c w h ht;have r:=XW o p zs hlen w hx;rw[Z]at r;rw[f]at s;clear h;go_enter func133,ntmps133;go_wp2_with fail;apply s.mono;clear s;rintro e a ⟨rfl,mR⟩;subst mR;go_wp2_with fail;apply r.mono;clear r;rintro e w2 ⟨rfl,lI⟩;subst lI;go_wp2;go_ret;exact⟨rfl,rfl⟩
theorem Au(B p r l n t:Nat)(k:Int)(c:bL)(w:nL)(h:a_ w B p r l n c)(o:t<2^64)(f:(c.tx t).state=6)(x:partAt (c.tx t) k≠2):
  Calls prog 137 #[gx p,.int .u64 (t:Int),.int .i64 k] w λe w'=>e=.returned .nilIface/\Fr [] w w':=by
 have Z:=h.GA t;have m:=h.iQ o;obtain⟨O,N,b,_⟩:=h.ex;have c1:=af b 1;simp at c1;obtain⟨T,i⟩:∃T,T=c.tx t:=⟨_,rfl⟩;rw[<-i]at Z f x m;clear i;obtain⟨P,d⟩:∃P,P=partAt T k:=⟨_,rfl⟩;have X:=λW=>ac0 T Z k W
 rw[<-d]at x X;clear d;have q:¬(P:Int)=2:=dp;have M:=oT.2 q;obtain⟨s,ps,z,L⟩:=T;obtain⟨u,v,y,A,C,D,F,J,K,G⟩:=nine Z.1
 change ps=_ at G
 subst G
 change s=6 at f
 subst f;rw[bC]at m;simp only[bC]at X;obtain⟨a,g⟩:∃a,a=w.alloc (.cells #[.int .i64 6,.int .u8 (u:Int),.int .u8 (v:Int),.int .u8 (y:Int),.int .u8 (A:Int),.int .u8 (C:Int),.int .u8 (D:Int),.int .u8 (F:Int),.int .u8 (J:Int),.int .u8 (K:Int),.int .u64 (z:Int),bB L] 249):=⟨_,rfl⟩;have I:Fr [] w a:=by rw[g];exact(fU w).alloc _
 have E:=X a;have H:=ah I;clear h b X I
 go_enter func137,ntmps137
 go_wp2_with fail;rw[<-g];clear g;refine E.mono ?_;clear E
 rintro e w2 ⟨rfl,bH⟩;have j:=ah<|H.out.trans bH;clear bH;go_wp2;go_ret;exact⟨rfl,j.out⟩
theorem Av(B p l b n t:Nat)(k:Int)(c:bL)(w:nL)(h:a_ w B p l b n c)(d:t<2^64)(f:(c.tx t).state≠6):
  Calls prog 137 #[gx p,.int .u64 (t:Int),.int .i64 k] w λe w'=>e=.returned .nilIface/\Fr [] w w':=by
 have Z:=h.GA t;have m:=h.iQ d;obtain⟨F,v,g,_⟩:=h.ex;have c1:=af g 1;simp at c1;obtain⟨T,a⟩:∃T,T=c.tx t:=⟨_,rfl⟩;rw[<-a]at Z f m;clear a;obtain⟨s,ps,z,E⟩:=T;obtain⟨o,q,r,u,x,y,A,C,D,G⟩:=nine Z.1
 change ps=_ at G
 subst G
 change s≠6 at f
 have i:¬(s:Int)=6:=dp;have j:=oT.2 i;rw[bC]at m;clear h g
 go_enter func137,ntmps137
 go_wp2;go_ret;exact⟨rfl,(fU w).alloc _⟩
theorem IA(B p l T n:Nat)(c:bL)(w:nL)(h:a_ w B p l T n c):
  Calls prog 192 #[gx p] w λe w'=>∃v,e=.returned v/\w'.ownsRow B 174 2 v c.res.length (lj c.res)/\(c.res.length=0->v=.slice none 0 0)/\(∀g,v.ownBlock=some g->g∈rd p w)/\a_ w' B p l T n {c with res:=[]}/\(∀g,v.ownBlock=some g->g∉rd p w')/\Fr [p] w w'/\gQ p [p] w w':=by
 obtain⟨r,o,a,d,i,t,u⟩:=h.ex;have c5:=af a 5;have L:=aq a 5;simp at c5;have M:=h.jS;obtain⟨W,j⟩:∃W,W=w.setCell ⟨p,5,none⟩ (.slice none 0 0):=⟨_,rfl⟩;have hf:Fr [p] w W:=by rw[j];exact Fr.cG dv _ _
 have hb:W.heap[p]?=some (ub l T c (.slice none 0 0) o):=by
  rw[j];have:=aF a 5<|.slice none 0 0
  simpa using this
 have A:∀g,r.ownBlock=some g->g∉[p]:=λg b m=>by simp at m;subst m;exact aQ d a du b
 have C:∀g,o.ownBlock=some g->g∉[p]:=λg b m=>by simp at m;subst m;exact aQ i a du b
 have y:=ar d hf A;have z:=ar i hf C;have H:a_ W B p l T n {c with res:=[]}:=⟨⟨Value.slice none 0 0,o,hb,zzu _ _ _ _,z,C7.nil _,u⟩,h.aD.fr hf<|by simpa using λe=>M.2.2 e.symm,⟨h.low.1,h.low.2.1,zzk h.low.2.2 hf.size⟩,h.gw⟩;have I:rd p w=r.ownBlock.toList++o.ownBlock.toList:=by unfold rd Gz;rw[a];rfl
 have s:rd p W=o.ownBlock.toList:=by unfold rd Gz;rw[hb];rfl
 have x:∀g,r.ownBlock=some g->g∉rd p W:=λg b m=>by
  rw[s]at m;simp at m;obtain⟨E,D⟩:=aL d b;obtain⟨F,q⟩:=aL i m;rw[D]at q;cases q
 have N:=ah (show W.ownsRow B 174 2 r c.res.length (lj c.res)/\(c.res.length=0->r=.slice none 0 0)/\(∀g,r.ownBlock=some g->g∈rd p w)/\a_ W B p l T n {c with res:=[]}/\(∀g,r.ownBlock=some g->g∉rd p W)/\Fr [p] w W/\gQ p [p] w W from ⟨y,t.2,λg b=>by rw[I];simp[b],H,x,hf,⟨hf.mono λk _ f=>List.mem_append_left _ f,λk _ f=>by rw[s]at f;rw[I];simp at f ⊢;simp[f]⟩⟩);obtain⟨J,O,K,G⟩:=dN d;rw[G]at c5 N;clear h a d i t u hf hb A C y z H I s x
 go_enter func192,ntmps192
 go_wp2;rw[<-j];go_ret;exact⟨_,rfl,N.out⟩
theorem XX(B p l T n:Nat)(c:bL)(w:nL)(h:a_ w B p l T n c):
  Calls prog 193 #[gx p] w λe w'=>∃v,e=.returned v/\w'.ownsRow B 170 3 v c.out.length (jv c.out)/\(c.out.length=0->v=.slice none 0 0)/\(∀g,v.ownBlock=some g->g∈rd p w)/\a_ w' B p l T n {c with out:=[]}/\(∀g,v.ownBlock=some g->g∉rd p w')/\Fr [p] w w'/\gQ p [p] w w':=by
 obtain⟨r,o,a,i,d,t,u⟩:=h.ex;have c5:=af a 6;have L:=aq a 6;simp at c5;have M:=h.jS;obtain⟨W,j⟩:∃W,W=w.setCell ⟨p,6,none⟩ (.slice none 0 0):=⟨_,rfl⟩;have hf:Fr [p] w W:=by rw[j];exact Fr.cG dv _ _
 have hb:W.heap[p]?=some (ub l T c r<|.slice none 0 0):=by
  rw[j];have:=aF a 6<|.slice none 0 0
  simpa using this
 have A:∀g,r.ownBlock=some g->g∉[p]:=λg b m=>by simp at m;subst m;exact aQ i a du b
 have C:∀g,o.ownBlock=some g->g∉[p]:=λg b m=>by simp at m;subst m;exact aQ d a du b
 have y:=ar i hf A;have z:=ar d hf C;have H:a_ W B p l T n {c with out:=[]}:=⟨⟨r,Value.slice none 0 0,hb,y,zzu _ _ _ _,t,C7.nil _⟩,h.aD.fr hf<|by simpa using λe=>M.2.2 e.symm,⟨h.low.1,h.low.2.1,zzk h.low.2.2 hf.size⟩,h.gw⟩;have I:rd p w=r.ownBlock.toList++o.ownBlock.toList:=by unfold rd Gz;rw[a];rfl
 have s:rd p W=r.ownBlock.toList:=by unfold rd Gz;rw[hb];exact wo _
 have x:∀g,o.ownBlock=some g->g∉rd p W:=λg b m=>by
  rw[s]at m;simp at m;obtain⟨E,D⟩:=aL i m;obtain⟨F,q⟩:=aL d b;rw[D]at q;cases q
 have N:=ah (show W.ownsRow B 170 3 o c.out.length (jv c.out)/\(c.out.length=0->o=.slice none 0 0)/\(∀g,o.ownBlock=some g->g∈rd p w)/\a_ W B p l T n {c with out:=[]}/\(∀g,o.ownBlock=some g->g∉rd p W)/\Fr [p] w W/\gQ p [p] w W from ⟨z,u.2,λg b=>by rw[I];simp[b],H,x,hf,⟨hf.mono λk _ f=>List.mem_append_left _ f,λk _ f=>by rw[s]at f;rw[I];simp at f ⊢;simp[f]⟩⟩);obtain⟨J,O,K,G⟩:=dN d;rw[G]at c5 N;clear h a i d t u hf hb A C y z H I s x
 go_enter func193,ntmps193
 go_wp2;rw[<-j];go_ret;exact⟨_,rfl,N.out⟩
end
end Go.Proofs.YtlgeloebpdmnnaaGreatDoor
