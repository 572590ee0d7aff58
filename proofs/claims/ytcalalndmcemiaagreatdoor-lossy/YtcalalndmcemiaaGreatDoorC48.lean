import Derived.Test.YtcalalndmcemiaaGreatDoorC44
set_option maxHeartbeats 8000000
set_option maxRecDepth 100000
namespace Go.Proofs.YtcalalndmcemiaaGreatDoor
open Go.RowKit Go.Maps Tryz Sc
section
open Go.Shelf
section
variable{G w:World}{B E n K:Nat}{J:Value}{I:List Nat}{A:aB}{x:aS}{j i sq:Nat}{s s':ag}{out:List bt}
theorem sa(a b c:Int)(a1:bJ G w B E n K J I A)(hn:n=A.ss.length)(rX:n<=90)(pz:1<=n)(F:ly a)(hb:ly b)(Q:ly c)(S:j=A.ds.length-1-mq a A.ds.length)(k:A.ds[j]?=some x)(R:i=mq b n)(M:A.ds.length<=1000000)(ad:x.id<1000000000)(hB:2<=B)(bp:Met G)(aH:bI G)(hK:K<=290000)(hlen:x.seq.length=n+1)(bB:x.lost=false->A.c.fC x.id (r_<|worked x.seq n)=0->x.asked=false/\x.what≠6):
  Calls prog 56 #[cQ E,o0 5 a b c] w λe w'=>e=.returned (.bool true)/\bJ G w' B E n (K+1) J I (Uc A j x n):=by
 have⟨dv,bv,ov,fl,ps,L⟩:=a1.l;obtain⟨gh,d_,rfl,-⟩:=L.Dh hn;obtain⟨gd,dc,p,rfl,T,-,-⟩:=L.law.nz k;have⟨pp,sv,wv⟩:=p;have⟨D,hD⟩:=gb A.ds.length;rw[<-hD]at L S M;have nM:j<D:=by rw[hD];exact(zzd.1 k).1
 have⟨q,m⟩:=gb <|mq a D;have⟨d,t⟩:=gb <|mq c 5;have U:=λw'=>eU a D w' F.1 (by have:=F.2;omega) bL bL
 have V:=λw'=>eU b n w' hb.1 (by have:=hb.2;omega) bL bL
 have N:=λw'=>eU c 5 w' Q.1 (by have:=Q.2;omega) bL bL
 rw[<-m]at U;rw[<-R]at V;rw[<-t]at N;have a8:q<D:=by rw[m];exact gD _ _ bL
 have je:i<n:=by rw[R];exact gD _ _ bL
 have JR:d<5:=by rw[t];exact gD _ _ bL
 have a7:j=D-1-q:=by rw[S,m]
 have⟨l,nC⟩:=gb <|i+1;have⟨W,h⟩:=gb <|w.alloc (iV 5 a b c);have gG:Fr [] w W:=by rw[h];exact(lT w).alloc _
 have o:W.heap[w.heap.size]?=some (iV 5 a b c):=by rw[h];exact heap_alloc_new w _
 have P:=L.new gG;obtain⟨ab,aa,p1,VL,lr,u,-⟩:=P.law.nz k;rw[<-hD]at VL;cases VL;rw[T]at lr;cases lr;have r:=ae P.law.net 1;have s:=ae o 0;have f:=ae o 1;simp at r s f u;have X:=af U;have Z:=af V;have VM:=af N;have C:=af<|zzb P o;have H:=af<|zzb hn<|zzb hD<|zzb k<|zzb T<|zzb bp<|zzb aH<|zzb t nC;have D0:¬(D:Int)=0:=bL
 have D1:IntKind.i64.wrap ((D:Int)-1)=(D:Int)-1:=dL;have D2:IntKind.i64.wrap ((D:Int)-1-(q:Int))=(j:Int):=dL;have j0:(0:Int)<=j:=bL;have j1:(j:Int)<D:=bL;have nK:IntKind.i64.wrap (1+(i:Int))=(l:Int):=dL;have a':1<=l/\l<=n:=bL;rw[h]at r s f u;clear a1 L hn hD k T S R m t U V N gG o P bp aH a8 a7 F hb Q nC M nM;go_enter func56,ntmps56;go_wp2_with fail;rw[<-h];rw[<-h]at r s f u;clear h s;go_region_held3 (λw'=>w'.cell? (hO E 1)=some (.slice (some (gz gd)) D dc)/\w'.cell? (hO w.heap.size 1)=some (.int .i64 a)/\w'.cell? (hO gd j)=some (.pointer<|some (gz pp))) (simp[*])
  (first|(go_at_call 10;apply(X.out _).mono;rintro e w3 ⟨rfl,rfl⟩))
 have g:=af<|zzb (C.1.new (lT W).drew)<|show W.drew.heap[w.heap.size]?=some (iV 5 a b c)from C.2;generalize W.drew=W2 at g ⊢;clear r f u D0 D1 D2 X C;have n4:=ae g.1.law.net 4;have v:=ae g.2 2;simp at n4 v;go_wp2_with fail
 go_region_held3 (λw'=>w'.cell? (hO w.heap.size 2)=some (.int .i64 b)/\w'.cell? (hO E 4)=some (.int .i64 (n:Int))) (simp[*])
  (first|(go_at_call 10;apply(Z.out _).mono;rintro e w3 ⟨rfl,rfl⟩))
 have O:=af<|zzb (g.1.new (lT W2).drew)<|show W2.drew.heap[w.heap.size]?=some (iV 5 a b c)from g.2;generalize W2.drew=W3 at O ⊢;clear n4 v Z g;have y:=ae O.2 3;simp at y;go_wp2_with fail;apply(VM.out _).mono;rintro e w4 ⟨rfl,e4⟩;rw[e4];clear e4 y VM;go_wp2_with fail;apply(iI d bL W3).mono;rintro e w5 ⟨rfl,cO⟩;have iz:=(cO.block _ (zza.1 O.2).1 bR).trans O.2;have z:=af<|zzb (O.1.new cO) iz;clear cO iz O;have Cj:(⟨#[107]⟩:ByteArray)++str (lI d)=eV d:=by unfold eV;rw[show(107::lI d)=[107]++lI d from rfl,xw];rfl
 have an:(str<|lI d).size=1:=by rw[cR,mW bL];rfl
 have al:(⟨#[107]⟩:ByteArray).size=1:=rfl;have M1:¬9223372036854775807<1+(str<|lI d).size:=bL
 have s:=ae z.2 0;have M:=z.1.law.each j _ x H.2.2.2.1 H.2.2.1;have d3:=ae M.blk 3;simp at s;have f:=ae z.2 1;have v:=ae z.2 2;have y:=ae z.2 3;have s4:=ae z.2 4;have s5:=ae z.2 5;have s6:=ae z.2 6;have s7:=ae z.2 7;simp at f v y s4 s5 s6 s7;have⟨Yo,jG⟩:=z.1.oZ;have⟨uj,Y⟩:=z.1.met hB H.2.2.2.2.1 H.2.2.2.2.2.1;have sY:=IL 5 a b c z.1.law jG H.1 H.2.2.2.1 H.2.2.1 hlen rX bB bL hB uj Y hK;have a6:=af sY;clear M d3 jG uj Y sY bB;go_wp2_with fail;apply a6.out.mono;rintro e w7 ⟨rfl,YT,ZH,zM,fJ⟩;have H8:=af<|show bJ G w7 B E n (K+1) (.slice (some (gz gh)) (n+1) d_) I (Uc A j x n)from ⟨_,bv,ov,fl,_,YT,ZH,zM,z.1.bC,z.1.xA.trans fJ⟩;clear ZH zM fJ;go_wp2_with fail;go_ret;exact⟨rfl,H8.out⟩
end
end
end Go.Proofs.YtcalalndmcemiaaGreatDoor
