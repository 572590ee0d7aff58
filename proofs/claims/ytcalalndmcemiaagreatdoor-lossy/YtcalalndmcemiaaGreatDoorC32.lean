import Derived.Test.YtcalalndmcemiaaGreatDoorC29
import Derived.Test.YtcalalndmcemiaaGreatDoorC28
import Derived.Test.YtcalalndmcemiaaGreatDoorC30
set_option maxHeartbeats 4000000
set_option maxRecDepth 100000
namespace Go.Proofs.YtcalalndmcemiaaGreatDoor
open Go.RowKit Go.Maps Tryz Sc
section
open Go.Shelf
def iy(t:fe)(i:Nat):Nat:=t.parts.getD i 0
theorem En(n:Nat)(hn:5<=n)(b m:Nat)(L:List<|Nat×fe)(l:L.length<=12)(w:World)(h:aO KU EX w b m L):
  CallsIn Fence.wide n prog 227 #[.func (.func 270) #[] #[.pointer<|some ⟨w.heap.size,0,none⟩]] (w.alloc<|.cells #[.map<|some b] 118) λe w'=>∃v ss,e=.returned v/\ss.Perm (L.map (·.1))/\ss.Pairwise (·<=·)/\w'.ownsRow w.heap.size 43 1 v L.length (eI ss)/\(v=.slice none 0 0↔L.length=0)/\Below w.heap.size w w':=by
 have H:Below w.heap.size w (w.alloc<|.cells #[.map<|some b] 118):=(zzD _ w).alloc (zzc _) _;have P:aO KU EX (w.alloc<|.cells #[.map<|some b] 118) b m L:=h.fr ((lT w).alloc _) bR;have hs:=Em (n-1-1-1) bL w.heap.size b m L _ bR (by rw[ay<|World.alloc_heap_new w<|.cells #[.map<|some b] 118];rfl) P;apply(yh n hn _ _ trivial (enters_of func270 dJ rfl) (L.map (·.1)) L.length l bR _ hs).mono;rintro e w' ⟨v,ss,rfl,h1,h2,h3,h4,h5⟩;have hlen:ss.length=L.length:=by rw[h1.length_eq,zzn]
 rw[hlen]at h3;refine⟨v,ss,rfl,h1,h2,ep h3 bR,?_,H.trans<|h5.mono bR⟩;rw[h4,<-hlen];exact List.length_eq_zero_iff.symm
abbrev Zf(g:fe):List Value:=[.int .i64 (g.state:Int),.int .u8 ((iy g 0:Nat):Int),.int .u8 ((iy g 1:Nat):Int),.int .u8 ((iy g 2:Nat):Int),.int .u8 ((iy g 3:Nat):Int),.int .u8 ((iy g 4:Nat):Int),.int .u8 ((iy g 5:Nat):Int),.int .u8 ((iy g 6:Nat):Int),.int .u8 ((iy g 7:Nat):Int),.int .u8 ((iy g 8:Nat):Int),.int .u64 (g.since:Int),.nilIface]
def Ha(l:List fe):List Value:=l.flatMap Zf
theorem Lh(l:List fe)(g:fe):Ha (l++[g])=Ha l++Zf g:=by simp[Ha]
theorem JO:∀(l:List fe) (k:Nat) (g:fe),l[k]?=some g->∀i,i<12->(Ha l)[k*12+i]?=(Zf g)[i]?
 |[],k,g,h=>by simp at h
 |x::l,0,g,h=>by
  simp at h;subst h;intro i a;unfold Ha;rw[List.flatMap_cons,Nat.zero_mul,Nat.zero_add,List.getElem?_append_left<|by simpa using a]
 |x::l,k+1,g,h=>by
  intro i a;have:=JO l k g (by simpa using h) i a;unfold Ha at this ⊢;rw[List.flatMap_cons,List.getElem?_append_right cE,<-this];congr 1;simp;omega
theorem JP(t:fe)(h:t.Ok):kO t=.agg #[.int .i64 (t.state:Int),.int .u8 ((iy t 0:Nat):Int),.int .u8 ((iy t 1:Nat):Int),.int .u8 ((iy t 2:Nat):Int),.int .u8 ((iy t 3:Nat):Int),.int .u8 ((iy t 4:Nat):Int),.int .u8 ((iy t 5:Nat):Int),.int .u8 ((iy t 6:Nat):Int),.int .u8 ((iy t 7:Nat):Int),.int .u8 ((iy t 8:Nat):Int),.int .u64 (t.since:Int),.nilIface]:=by
 have⟨s,ps,z⟩:=t;have⟨a,b,c,d,e,f,g,i,j,p⟩:=nine h.1;change ps=_ at p;subst p;rfl
theorem WM:(Tryz.prog.info? 128).map (λi=>(i.zero,i.size,i.bytes))=some (some<|.agg #[.int .i64 0,.int .u8 0,.int .u8 0,.int .u8 0,.int .u8 0,.int .u8 0,.int .u8 0,.int .u8 0,.int .u8 0,.int .u8 0,.int .u64 0,.nilIface],12,48):=dJ
theorem aan(p:Option Addr)(n c:Nat)(w:World):(Builtin.len_ #[220] 3 #[.slice p n c]).run prog w=.ok (.int .i64 n) w:=by simp[Builtin.len_,run_underlying underlying220,goInt]
def qY(L:List (Nat × fe))(ss:List Nat):List (Nat × fe):=ss.map λk=>(k,(ak L k).getD A0)
theorem yj{σ:Type}(n:Nat)(hn:6<=n)(l E b m:Nat)(L:List<|Nat×fe)(qh:L.length<=12)(W:World)
  (J:σ->List (Nat×fe)->World->Prop) (Jx:List (Nat×fe)->World->Prop) (a8:∀A,Below W.heap.size W A->∃q,J q [] A)
  (hS:∀A g a c c2,Below W.heap.size W A->W.heap.size<=g->W.heap.size<=a->A.heap[g]?=some (.cells c 43 (0,0))->A.heap[a]?=some (.cells c2 128 (0,0))->∃q,J q [] A/\∀s B,J q s B->B.heap[g]?=some (.cells c 43 (0,0))/\B.heap[a]?=some (.cells c2 128 (0,0)))
  (hY:∀q D x W1,J q D W1->D.length<L.length->x∈L->(∃ss:List Nat,ss.Perm (L.map (·.1))/\ss.Pairwise (·<=·)/\D++[x]<+:qY L ss)->YieldAt Fence.wide (n-1) prog l #[.int .u64 (x.1:Int),kO x.2] W1 λe N=>
   (e=.returned (.bool true)/\J q (D++[x]) N)\/(e=.returned (.bool false)/\Jx (D++[x]) N))
  (lR:W.cell? ⟨E,0,none⟩=some (.map<|some b)) (hL:aO KU EX W b m L) :
  CallsIn Fence.wide n prog 226 #[.func (.yield l) #[] #[],.pointer<|some ⟨E,0,none⟩] W λe N=>(∃v,e=.returned v) /\
   ((∃q ss,ss.Perm (L.map (·.1))/\ss.Pairwise (·<=·)/\J q (qY L ss) N)\/(∃D,True/\Jx D N)):=by
 have tM:=zzF W (gz E) lR;have cK:=OM (n-1) b W;have cS:=En (n-1) bL b m L qh W hL;have⟨i0,hi,aa,ab,ad⟩:=info_parts WM;have b3:Fence.wide.fn 228:=trivial;have b4:Fence.wide.fn 227:=trivial;have Ox:Fence.wide.fn 226:=trivial;have a':Fence.wide.round=none:=rfl;have h1:1<=n:=bL
 have Oy:=aan;have X:=af hL;have HB:=af<|zzb tM lR;have⟨d,Eb⟩:=gb L.length;have HM:=af Eb;rw[<-Eb]at cS qh;have WC:d<=67108864:=bL
 clear hL Eb;refine callsIn_of_wp func226 rfl Ox ?_ a';simp only[ntmps226,mB,zzr,mH,Nat.reduceAdd,Nat.reduceSub,mK,mL,nb,nU,n5,qC];gi_wp2_with (first
  |(gi_at_call 228;apply cK.mono;rintro e w0 ⟨rfl,rfl⟩)
  |(gi_at_call 227;apply cS.mono;rintro e w ⟨v,ss,rfl,uW,Jw,I,dM,cG⟩;obtain⟨pp,Z,rfl⟩:=hZ I;have M:Hid (w.ownsRow W.heap.size 43 1 (.slice pp d Z) d (eI ss)/\(Value.slice pp d Z=.slice none 0 0↔d=0)):=⟨I,dM⟩;have G:Hid (ss.Perm (L.map (·.1))/\ss.Pairwise (·<=·)):=⟨uW,Jw⟩;clear I dM uW Jw))
 clear cK cS;have H:=af cG;have Ry:=af a8;have F:Hid (ss.length=d):=by show _=_;rw[G.1.length_eq,zzn,HM.out]
 clear cG lR;by_cases td:d=0
 .subst td;obtain⟨rfl,rfl⟩:pp=none/\Z=0:=by simpa using M.2.2 rfl
  clear M;have HE:=af<|List.length_eq_zero_iff.1 F.out
  gi_loopw [14] (λi wr=>i=.int .i64 0/\wr=w) (λ_ _=>0);case atStart=>exact⟨rfl,rfl⟩
  case round=>
   obtain⟨rfl,rfl⟩:=hrel;gi_wp2;gi_loopw [27] (λi WD=>i=.int .i64 0/\WD=wr) (λ_ _=>0);case atStart=>exact⟨rfl,rfl⟩
   case round=>
    obtain⟨rfl,rfl⟩:=hrel;gi_wp2;go_end0;have⟨q,hq⟩:=Ry.out _ H.out;exact⟨⟨_,rfl⟩,.inl ⟨q,ss,G.1,G.2,by rw[HE.out];exact hq⟩⟩
 obtain⟨g,rfl⟩:∃g,pp=some ⟨g,0,none⟩:=by have⟨g,fR,e⟩:=jb M.1 bL;exact⟨g,by simp at e;exact e.1⟩
 have I:=M.1;have V:Hid (∃r,w.heap[g]?=some (.cells r 43 (0,0))/\W.heap.size<=g/\∀(k x:Nat),ss[k]?=some x->r[k]?=some (Value.int .u64 (x:Int))):=by
  rcases I.2 with⟨_,h3⟩|⟨g',fR,r,e,hb,t,_,_,a1,lK⟩
  .omega
  .obtain⟨e1,e2⟩:g=g'/\Z=fR:=by simpa using e
   subst e1;refine⟨r,t,hb,λk x z=>?_⟩;have xE:k<d:=by have:=(zzd.1 z).1;have:=F.out;omega
   have:(r.toList.take<|d*1)[k]?=some (.int .u64 (x:Int)):=by rw[lK];unfold eI;rw[zzy,z];rfl
   rw[List.getElem?_take_of_lt bL]at this;simpa using this
 clear I M;have⟨f,GX⟩:∃f:List fe,f=ss.map λk=>(ak L k).getD A0:=⟨_,rfl⟩
 have HV:=af GX;clear GX;have HG:Hid (g<w.heap.size):=by have⟨r,t,_⟩:=V.out;exact(zza.1 t).1
 have OK:Hid (∀k∈ss,∃v,(k,v)∈L/\k<18446744073709551616/\(ak L k).getD A0=v):=λk z=>by
  have⟨p,hp,e⟩:=zzq.1<|G.1.mem_iff.1 z;have⟨_,_,_,eE,O⟩:=X.out;have⟨p1,p2⟩:=p;simp at e;subst e;exact⟨p2,hp,(O _ hp).1,by rw[cP eE hp];rfl⟩
 gi_loopw [14,4] (λi v wr=>∃k:Nat,k<=d/\i=.int .i64 k/\Hid (wr.ownsRow w.heap.size 128 12 v k (Ha<|f.take k)/\Below w.heap.size w wr))
  (λi _ _=>d-(intOf i).toNat)
 case atStart=>exact⟨0,zzs _,rfl,zzu _ _ _ _,zzD _ _⟩
 case round=>
  obtain⟨k,z,rfl,R⟩:=hrel;by_cases bU:k<d
  .obtain⟨x,hx⟩:∃x,ss[k]?=some x:=⟨_,zzg<|by have:=F.out;omega⟩;have⟨y,o⟩:=gb <|(ak L x).getD A0;have h:=H.out.trans<|R.2.mono H.out.size
   have ck:wr.cell? (hO g k)=some (.int .u64 (x:Int)):=by
    have⟨r,t,_,hc⟩:=V.out;have:=(R.2.block g HG.out).trans t;rw[ay this];exact hc k x hx
   have cB:=(h.cell HB.1).trans HB.2;have Sr:x<18446744073709551616:=by
    have⟨_,_,a7,_⟩:=OK.out x<|zzh hx;exact a7
   have my:=(X.out.fr (S:=[]) ⟨h.os,h.tape,h.output,h.size,λk z _=>h.block k z⟩ (by simp)).look underlying118 (OL wr) G' Sr;rw[<-o]at my;have Y:=af<|zzb o hx;clear o hx
   have U:y.Ok:=by
    rw[Y.1];have⟨v,hv,_,e⟩:=OK.out x<|zzh Y.2;have⟨_,_,_,_,O⟩:=X.out;rw[e];exact(O _ hv).2
   change (Instr.lookup _ _ (.int .u64 (x:Int)) false).run _ _=.ok (kO y) _ at my;rw[JP y U]at my;clear U;have a1:=R.2.size;have T:Hid (f.take (k+1)=f.take k++[y]):=by
    show _=_;rw[HV.out,List.take_add_one,zzy,Y.2,Y.1];rfl
   gi_wp2_with (gi_at_builtin;apply wpListIn_append_own _ rfl _ _ 356 rfl w.heap.size 128 i0 _ 12 48 underlying356 hi aa ab ad rfl bM _ k _ rfl (R.1.alloc _) (gz wr.heap.size) 1 1 (Zf y) rfl rfl (dU _ #[.int .i64 (y.state:Int),.int .u8 ((iy y 0:Nat):Int),.int .u8 ((iy y 1:Nat):Int),.int .u8 ((iy y 2:Nat):Int),.int .u8 ((iy y 3:Nat):Int),.int .u8 ((iy y 4:Nat):Int),.int .u8 ((iy y 5:Nat):Int),.int .u8 ((iy y 6:Nat):Int),.int .u8 ((iy y 7:Nat):Int),.int .u8 ((iy y 8:Nat):Int),.int .u64 (y.since:Int),.nilIface] _) (by intro u hu;simp[Zf]at hu;obtain rfl|rfl|rfl|rfl|rfl|rfl|rfl|rfl|rfl|rfl|rfl|rfl:=hu<;>rfl) eA bL cE;intro v' w2 bw bP _);go_roundw;case rel=>
    refine⟨k+1,bL,bR,by rw[T.out,Lh];exact bw,?_⟩;exact((R.2.alloc a1 _).grown bP cE λj P=>(R.1.lt j P).1)
   case measure=>simp[intOf];omega
  .obtain rfl:k=d:=bL;obtain⟨a,GY,rfl⟩:=jb R.1 bL;have Oz:Hid (∃kL,wr.heap[a]?=some (.cells kL 128 (0,0))/\W.heap.size<=a/\∀(j:Nat) (y:fe),f[j]?=some y->∀i,i<12->kL[j*12+i]?=(Zf y)[i]?):=by
    rcases R.1.2 with⟨_,h3⟩|⟨g',fR,r,e,hb,t,_,_,a1,lK⟩
    .omega
    .obtain⟨e1,e2⟩:a=g'/\GY=fR:=by simpa using e
     subst e1;have UM:f.length=k:=by rw[HV.out,zzn,F.out]
     refine⟨r,t,zzk H.out.size hb,λj y P=>?_⟩;have K3:j<k:=by have:=(zzd.1 P).1;omega
     have e3:f.take k=f:=zzt bL;rw[e3]at lK;have eW:=JO f j y P;rw[<-lK]at eW;intro i hi;have h9:=eW i hi;rw[List.getElem?_take_of_lt bL]at h9;simpa using h9
   have⟨r,JJ,Rz,a6⟩:=V.out;have⟨kL,xX,GZ,xY⟩:=Oz.out;have g_:=(R.2.block g HG.out).trans JJ;have h:=H.out.trans<|R.2.mono H.out.size;have C:=af<|zzb a6 xY;have⟨q,hq,bG⟩:=hS wr g a r kL h Rz GZ g_ xX;have HS:=af hq;have T:=af bG;clear V Oz JJ a6 xX xY g_ h hS hq bG
   gi_wp2;gi_loopw [27] (λi wr=>∃j:Nat,j<=k/\i=.int .i64 j/\Hid (J q ((qY L ss).take j) wr))
    (λi _=>k-(intOf i).toNat)
   case atStart=>exact⟨0,zzs _,rfl,by rw[List.take_zero];exact HS.out⟩
   case round=>
    obtain⟨j,P,rfl,Q⟩:=hrel;by_cases qf:j<k
    .obtain⟨x,hx⟩:∃x,ss[j]?=some x:=⟨_,zzg<|by have:=F.out;omega⟩;have⟨y,o⟩:=gb <|(ak L x).getD A0;have K:f[j]?=some y:=by rw[HV.out,zzy,hx,o];rfl
     have Lc:(x,y)∈L:=by
      have⟨v,hv,_,e⟩:=OK.out x<|zzh hx;rw[o,e];exact hv
     have MZ:Hid ((qY L ss).take (j+1)=(qY L ss).take j++[(x,y)]):=by
      show _=_;rw[List.take_add_one];unfold qY;rw[zzy,hx,o];rfl
     have cx:wr.cell? (hO g j)=some (.int .u64 (x:Int)):=by rw[ay (T.out _ _ Q.out).1];exact C.1 j x hx
     have ao:wr.cell? (hO a (j*12))=some (.int .i64 (y.state:Int)):=by rw[ay (T.out _ _ Q.out).2];exact C.2 j y K 0 bL
     have av:wr.cell? (hO a (j*12+1))=some (.int .u8 ((iy y 0:Nat):Int)):=by rw[ay (T.out _ _ Q.out).2];exact C.2 j y K 1 bL
     have aw:wr.cell? (hO a (j*12+2))=some (.int .u8 ((iy y 1:Nat):Int)):=by rw[ay (T.out _ _ Q.out).2];exact C.2 j y K 2 bL
     have az:wr.cell? (hO a (j*12+3))=some (.int .u8 ((iy y 2:Nat):Int)):=by rw[ay (T.out _ _ Q.out).2];exact C.2 j y K 3 bL
     have aE:wr.cell? (hO a (j*12+4))=some (.int .u8 ((iy y 3:Nat):Int)):=by rw[ay (T.out _ _ Q.out).2];exact C.2 j y K 4 bL
     have aH:wr.cell? (hO a (j*12+5))=some (.int .u8 ((iy y 4:Nat):Int)):=by rw[ay (T.out _ _ Q.out).2];exact C.2 j y K 5 bL
     have aQ:wr.cell? (hO a (j*12+6))=some (.int .u8 ((iy y 5:Nat):Int)):=by rw[ay (T.out _ _ Q.out).2];exact C.2 j y K 6 bL
     have b0:wr.cell? (hO a (j*12+7))=some (.int .u8 ((iy y 6:Nat):Int)):=by rw[ay (T.out _ _ Q.out).2];exact C.2 j y K 7 bL
     have b1:wr.cell? (hO a (j*12+8))=some (.int .u8 ((iy y 7:Nat):Int)):=by rw[ay (T.out _ _ Q.out).2];exact C.2 j y K 8 bL
     have b2:wr.cell? (hO a (j*12+9))=some (.int .u8 ((iy y 8:Nat):Int)):=by rw[ay (T.out _ _ Q.out).2];exact C.2 j y K 9 bL
     have al:wr.cell? (hO a (j*12+10))=some (.int .u64 (y.since:Int)):=by rw[ay (T.out _ _ Q.out).2];exact C.2 j y K 10 bL
     have an:wr.cell? (hO a (j*12+11))=some (.nilIface):=by rw[ay (T.out _ _ Q.out).2];exact C.2 j y K 11 bL
     have⟨fn,tmps,assign,body,NP,xj⟩:=hY q _ (x,y) wr Q.out (by rw[zzm,<-HM.out];omega) Lc ⟨ss,G.1,G.2,by rw[<-MZ.out];exact List.take_prefix _ _⟩
     have U:y.Ok:=by
      have⟨_,_,_,_,O⟩:=X.out;exact(O _ Lc).2
     change (Instr.yield l #[.int .u64 (x:Int),kO y]).run _ _=_ at NP;rw[JP y U]at NP;clear U;clear hx o K Lc;gi_wp2;apply xj.mono;rintro e W3 (⟨rfl,rP⟩|⟨rfl,uX⟩)
     .have HN:Hid (J q ((qY L ss).take<|j+1) W3):=by rw[MZ.out];exact rP
      clear rP;gi_wp2;go_roundw;case rel=>exact⟨j+1,bL,bR,HN.out⟩
      case measure=>simp[intOf];omega
     .gi_wp2;apply bodyPost_ret (results_none rfl _ _ _) rfl;exact⟨⟨_,rfl⟩,.inr ⟨_,trivial,uX⟩⟩
    .obtain rfl:j=k:=bL;gi_wp2;go_end0;refine⟨⟨_,rfl⟩,.inl ⟨q,ss,G.1,G.2,?_⟩⟩;have e:(qY L ss).take j=qY L ss:=by
      rw[zzt];unfold qY;rw[zzn,F.out];exact zzc _
     rw[<-e];exact Q.out
theorem Hb(n:Nat)(hn:6<=n)(l y b m:Nat)(L:List<|Nat×fe)(X:L.length<=12)(W:World)(K:World->World->Prop)(P:Nat->World->Prop)
  (F:∀k A,W.heap.size<=k->Below W.heap.size W A->P k A)
  (M:∀k A B c t,(t=43\/t=128)->K A B->A.heap[k]?=some (.cells c t (0,0))->P k A->B.heap[k]?=A.heap[k]?/\P k B)
  (J z:List (Nat×fe)->World->Prop)
  (I:∀s A B,J s A->A.grownBy B none->J s B)
  (Y:∀p x f,J p f->p.length<L.length->x∈L->(∃ss:List Nat,ss.Perm (L.map (·.1))/\ss.Pairwise (·<=·)/\p++[x]<+:qY L ss)->YieldAt Fence.wide (n-1) prog l #[.int .u64 (x.1:Int),kO x.2] f λe d=>
   (e=.returned (.bool true)/\J (p++[x]) d/\K f d)\/(e=.returned (.bool false)/\z (p++[x]) d))
  (V:W.cell? ⟨y,0,none⟩=some (.map<|some b)) (R:aO KU EX W b m L) (G:J [] W) :
  CallsIn Fence.wide n prog 226 #[.func (.yield l) #[] #[],.pointer<|some ⟨y,0,none⟩] W λe d=>(∃v,e=.returned v) /\
   ((∃ss,ss.Perm (L.map (·.1))/\ss.Pairwise (·<=·)/\J (qY L ss) d)\/(∃p,True/\z p d)):=by
 have h:=yj n hn l y b m L X W (λq s A=>J s A/\match q with|none=>True|some (g,o,i,o2)=>A.heap[g]?=some o/\P g A/\A.heap[i]?=some o2/\P i A/\(∃c,o=.cells c 43 (0,0))/\∃c,o2=.cells c 128 (0,0)) z
  (λA a=>⟨none,I [] W A G ⟨a.os,a.tape,a.output,a.size,λk E _=>a.block k E⟩,trivial⟩)
  (λA g i c c2 a T N C D=>⟨some (g,_,i,_),⟨I [] W A G ⟨a.os,a.tape,a.output,a.size,λk E _=>a.block k E⟩,C,F _ _ T a,D,F _ _ N a,⟨c,rfl⟩,c2,rfl⟩,λs B H=>⟨H.2.1,H.2.2.2.1⟩⟩)
  (λq p x f j C D Q=>by
   have⟨O,tmps,assign,body,U,S⟩:=Y p x f j.1 C D Q;refine⟨O,tmps,assign,body,U,S.mono ?_⟩;rintro e d (⟨r1,r2,r3⟩|r)
   .refine .inl ⟨r1,r2,?_⟩;match q,j with
    |none,_=>trivial
    |some (g,o,i,o2),⟨_,a1,a2,a3,a4,⟨c,ec⟩,c2,ec2⟩=>
     subst ec ec2;have u:=M _ _ _ _ _ (.inl rfl) r3 a1 a2;have w:=M _ _ _ _ _ (.inr rfl) r3 a3 a4;exact⟨u.1.trans a1,u.2,w.1.trans a3,w.2,⟨c,rfl⟩,c2,rfl⟩
   .exact .inr r) V R
 apply h.mono;rintro e d ⟨he,⟨q,ss,u,w,j⟩|⟨p,_,hf⟩⟩
 .exact⟨he,.inl ⟨ss,u,w,j.1⟩⟩
 .exact⟨he,.inr ⟨p,trivial,hf⟩⟩
theorem yl(n:Nat)(b:Nat)(w:World):
  CallsIn Fence.wide n prog 181 #[.map<|some b] w λe w'=>e=.returned (.func (.func 226) #[] #[.pointer<|some ⟨w.heap.size,0,none⟩])/\w'=w.alloc (.cells #[.map<|some b] 118):=by
 refine callsIn_of_wp func181 rfl trivial ?_ rfl;simp only[ntmps181,mB,zzr,mH,Nat.reduceAdd,Nat.reduceSub,mK,mL,nb,nU,n5,qC];gi_wp2;go_ret;exact⟨rfl,rfl⟩
end
theorem pO.XQ{w w':World}{B a g V T H m h p D N n:Nat}{s:ag}{l:au}{d:ah}(hf:pO a V T H h p w w')(hs:SL w B a g V T H m h p D N n s l d)(hb:B<=a/\B<=V/\B<=T/\B<=H)(b:2<=B)(c:Met w):Met w':=(hf.gF hs hb).met b c
section
variable(B i E K t:Nat)(seq:Int)(k:ByteArray)(s:ag)(out:List bt)(L:List Nat)(w:World)
theorem adi(v:ByteArray)(h:dh w B i E s out K L)(o:cz K s)(O:2<=B)(M:Met w)(Q:t<18446744073709551616)(W:K<=300000):
  Calls prog 15 #[.pointer<|some ⟨E,0,none⟩,.int .u64 (t:Int),.int .i64 seq,.string k,.string v] w λe w'=>e=.returned (.int .i64 ((s.aJ t seq k ⟨1,v⟩).2:Int))/\∃x,dh w' B i E (s.aJ t seq k ⟨1,v⟩).1 out (K+1) x/\jk L x w w':=by
 obtain⟨c,p,a,g,V,T,y,b,J,N,m,n,l,d,R,P,D,A,rfl⟩:=h;have X:=P.sl.oN;have u:=Xl a g V T y m t seq k s w v P.sl.sh Q eA (o.st t) (by have:=o.done t;omega);have⟨r,C⟩:∃r,r=(s.aJ t seq k ⟨1,v⟩):=⟨_,rfl⟩;rw[<-C]at u ⊢;have c5:=ae P.hh 5;simp at c5;have H:=af<|zzb P<|zzb D A;clear P D A C o
 go_enter func15,ntmps15;go_wp2_with fail;apply u.mono;clear u;rintro e U ⟨rfl,cJ,bh⟩;have⟨df,G⟩:=H.1.sl.ops cJ bh;have S:=G.XQ H.1.sl H.1.hb.2.2.2 O M;have q:=af<|zzb df G;clear cJ bh df G c5;go_wp2_with fail;apply(gC r.2 U S).mono;rintro e f ⟨rfl,aQ⟩;have⟨z,F⟩:=q.1.new aQ;have j:=H.1.Ip (q.2.trans F) z;have I:=af (show dh f B i E r.1 out (K+1) (br E c p b a g f)/\jk (br E c p b a g w) (br E c p b a g f) w f from ⟨⟨c,p,a,g,V,T,y,b,J,N,m+2,n,l,d,R,j.1,H.2.1,(by have:=H.2.2;omega),rfl⟩,j.2⟩);clear z F aQ j;go_wp2;go_ret;exact⟨rfl,_,I.out⟩
theorem TK(h:dh w B i E s out K L)(o:cz K s)(M:2<=B)(J:Met w)(O:t<18446744073709551616)(U:K<=300000):
  Calls prog 96 #[.pointer<|some ⟨E,0,none⟩,.int .u64 (t:Int),.int .i64 seq,.string k] w λe w'=>e=.returned (.int .i64 ((s.aJ t seq k ⟨2,ByteArray.empty⟩).2:Int))/\∃v,dh w' B i E (s.aJ t seq k ⟨2,ByteArray.empty⟩).1 out (K+1) v/\jk L v w w':=by
 obtain⟨c,p,a,g,V,T,x,b,I,N,m,n,l,d,Q,P,C,z,rfl⟩:=h;have W:=P.sl.oN;have u:=Ly a g V T x m t seq k s w P.sl.sh O eA (o.st t) (by have:=o.done t;omega);have⟨r,A⟩:∃r,r=(s.aJ t seq k ⟨2,yA⟩):=⟨_,rfl⟩;rw[<-A]at u ⊢;have c5:=ae P.hh 5;simp at c5;have H:=af<|zzb P<|zzb C z;clear P C z A o
 go_enter func96,ntmps96;go_wp2_with fail;apply u.mono;clear u;rintro e S ⟨rfl,cJ,bh⟩;have⟨df,G⟩:=H.1.sl.ops cJ bh;have R:=G.XQ H.1.sl H.1.hb.2.2.2 M J;have q:=af<|zzb df G;clear cJ bh df G c5;go_wp2_with fail;apply(gC r.2 S R).mono;rintro e f ⟨rfl,aQ⟩;have⟨y,D⟩:=q.1.new aQ;have j:=H.1.Ip (q.2.trans D) y;have F:=af (show dh f B i E r.1 out (K+1) (br E c p b a g f)/\jk (br E c p b a g w) (br E c p b a g f) w f from ⟨⟨c,p,a,g,V,T,x,b,I,N,m+2,n,l,d,Q,j.1,H.2.1,(by have:=H.2.2;omega),rfl⟩,j.2⟩);clear y D aQ j;go_wp2;go_ret;exact⟨rfl,_,F.out⟩
theorem adj(h:dh w B i E s out K L)(o:cz K s)(M:2<=B)(J:Met w)(Q:t<18446744073709551616)(O:k.size<=maxLen)(W:K<=300000):
  Calls prog 13 #[.pointer<|some ⟨E,0,none⟩,.int .u64 (t:Int),.int .i64 seq,.string k] w λe w'=>e=.returned (.tuple #[.string (s.get t seq k).2.1,.bool (s.get t seq k).2.2.1,.int .i64 ((s.get t seq k).2.2.2:Int)])/\∃v,dh w' B i E (s.get t seq k).1 out (K+1) v/\jk L v w w':=by
 obtain⟨c,p,a,g,V,T,x,b,I,N,m,n,l,d,R,P,C,z,rfl⟩:=h;have X:=P.sl.oN;have u:=Xm a g V T x m t seq k s w P.sl.sh Q O eA (o.st t) (by have:=o.done t;omega);have⟨r,A⟩:=gb <|(s.get t seq k);rw[<-A]at u ⊢;have c5:=ae P.hh 5;simp at c5;have H:=af<|zzb P<|zzb C z;clear P C z A o
 go_enter func13,ntmps13;go_wp2_with fail;apply u.mono;clear u;rintro e U ⟨rfl,cJ,bh⟩;have⟨df,G⟩:=H.1.sl.ops cJ bh;have S:=G.XQ H.1.sl H.1.hb.2.2.2 M J;have q:=af<|zzb df G;clear cJ bh df G c5;go_wp2_with fail;apply(gC r.2.2.2 U S).mono;rintro e f ⟨rfl,aQ⟩;have⟨y,D⟩:=q.1.new aQ;have j:=H.1.Ip (q.2.trans D) y;have F:=af (show dh f B i E r.1 out (K+1) (br E c p b a g f)/\jk (br E c p b a g w) (br E c p b a g f) w f from ⟨⟨c,p,a,g,V,T,x,b,I,N,m+2,n,l,d,R,j.1,H.2.1,(by have:=H.2.2;omega),rfl⟩,j.2⟩);clear y D aQ j;go_wp2;go_ret3;exact⟨rfl,_,F.out⟩
theorem XR(h:dh w B i E s out K L)(b:k.size<=maxLen):
  Calls prog 26 #[.pointer<|some ⟨E,0,none⟩,.string k] w λe w'=>e=.returned (.tuple #[.string<|(ak s.aM k).getD ByteArray.empty,.bool (ak s.aM k).isSome])/\Fr [] w w':=by
 obtain⟨r,p,j,g,V,T,H,o,D,N,m,n,l,d,v,⟨a,G,z,hs,hb⟩,f,c,rfl⟩:=h;have u:=A_ j g V T H m k s w hs.sh b;have c5:=ae a 5;simp at c5;clear a hs G z f hb c;go_enter func26,ntmps26;go_wp2_with fail;apply u.mono;clear u;rintro e t ⟨rfl,q,rfl⟩;go_wp2;go_ret2;exact⟨rfl,cw (lT w) q⟩
theorem nIs(x a b:Option Addr)(p:Nat)(up:Bool)(h:w.heap[E]?=some (fg i p up x a b)):
  Calls prog 21 #[.pointer<|some ⟨E,0,none⟩] w λe w'=>e=.returned (.bool up)/\w'=w:=by
 have c3:=ae h 3;simp at c3;clear h;go_enter func21,ntmps21;go_wp2;go_ret;exact⟨rfl,rfl⟩
theorem adk(h:dh w B i E s out K L):Calls prog 21 #[.pointer<|some ⟨E,0,none⟩] w λe w'=>e=.returned (.bool true)/\w'=w:=by
 obtain⟨b,p,c,g,V,T,H,a,D,N,m,n,l,d,v,P,-⟩:=h;exact nIs i E w _ _ _ p true P.hh
theorem adl(c:aU)(h:cT w B E c out K L):Calls prog 21 #[.pointer<|some ⟨E,0,none⟩] w λe w'=>e=.returned (.bool true)/\w'=w:=by
 obtain⟨f,p,a,g,T,b,D,N,m,n,l,d,v,P,-⟩:=h;exact nIs 0 E w _ _ _ p true P.hh
theorem XS(h:dh w B i E s out K L)(c:K<=300000):
  Calls prog 76 #[.pointer<|some ⟨E,0,none⟩,.int .i64 0] w λe w'=>∃v,e=.returned (.tuple #[v,.bool true])/\w'.ownsRow w.heap.size 164 2 v (cX s.aM).length (nn<|cX s.aM)/\Fr [] w w':=by
 obtain⟨o,p,b,g,V,T,H,k,D,N,m,n,l,d,q,⟨a,G,z,hs,hb⟩,j,f,rfl⟩:=h;apply((callsIn_wide).1<|LM 9 (zzc _) E b g V T H m s w _ rfl a hs.sh bL).mono;rintro e w' ⟨v,rfl,hr,gT⟩;exact⟨v,rfl,hr,Fr.aX gT _⟩
end
end Go.Proofs.YtcalalndmcemiaaGreatDoor
