import Derived.Test.YtdcafjmdfpjcbaaGreatDoorC27
set_option maxHeartbeats 4000000
set_option maxRecDepth 100000
namespace Go.Proofs.YtdcafjmdfpjcbaaGreatDoor
open Go.RowKit Go.Maps Tryz Sc
section
open Go.Shelf
theorem FQ(n:Nat)(hn:5<=n)(b m:Nat)(L:List<|Nat×fX)(l:L.length<=12)(w:World)(h:bB KU ET w b m L):
  CallsIn Fence.wide n prog 176 #[.func (.func 225) #[] #[rM w.heap.size]] (w.alloc<|.cells #[.map<|some b] 144) λe w'=>∃v ss,e=.returned v/\ss.Perm (L.map (·.1))/\ss.Pairwise (·<=·)/\w'.ownsRow w.heap.size 34 1 v L.length (dh ss)/\(v=.slice none 0 0↔L.length=0)/\Below w.heap.size w w':=by
 have a:Below w.heap.size w (w.alloc<|.cells #[.map<|some b] 144):=(zzD _ w).alloc (zzc _) _;have j:bB KU ET (w.alloc<|.cells #[.map<|some b] 144) b m L:=h.fr ((lE w).alloc _) sE;have s:=FJ (n-1-1-1) oE w.heap.size b m L _ sE (by rw[aP<|World.alloc_heap_new w<|.cells #[.map<|some b] 144];rfl) j;apply(Jb n hn _ _ trivial (enters_of func225 k6 rfl) (L.map (·.1)) L.length l sE _ s).mono;rintro e w' ⟨v,ss,rfl,h1,h2,h3,h4,h5⟩;have hlen:ss.length=L.length:=by rw[h1.length_eq,zzn]
 rw[hlen]at h3;refine⟨v,ss,rfl,h1,h2,rH h3 sE,?_,a.trans<|h5.mono sE⟩;rw[h4,<-hlen];exact List.length_eq_zero_iff.symm
abbrev elT(g:fX):List Value:=[.int .i64 (g.state:Int),.int .i64 (g.done:Int),.int .u64 (g.last:Int)]
def DW(l:List fX):List Value:=l.flatMap elT
theorem Nr(l:List fX)(g:fX):DW (l++[g])=DW l++elT g:=by simp[DW]
theorem LH:∀(l:List fX) (k:Nat) (g:fX),l[k]?=some g->(DW l)[k*3]?=some (.int .i64 (g.state:Int))/\(DW l)[k*3+1]?=some (.int .i64 (g.done:Int))/\(DW l)[k*3+2]?=some (.int .u64 (g.last:Int))
 |[],k,g,h=>by simp at h
 |x::l,0,g,h=>by simp at h;subst h;simp[DW]
 |x::l,k+1,g,h=>by
  have:=LH l k g (by simpa using h);simp only[DW,List.flatMap_cons]at this ⊢;rw[show(k+1)*3=k*3+1+1+1 by omega]
  simpa using this
theorem Yf:(Tryz.prog.info? 195).map (λi=>(i.zero,i.size,i.bytes))=some (some<|.agg #[.int .i64 0,.int .i64 0,.int .u64 0],3,24):=k6
theorem aaz(p:Option Addr)(n c:Nat)(w:World):(Builtin.len_ #[49] 3 #[.slice p n c]).run prog w=.ok (.int .i64 n) w:=by simp[Builtin.len_,run_underlying underlying49,goInt]
def wW(L:List (Nat × fX))(ss:List Nat):List (Nat × fX):=ss.map λk=>(k,(aj L k).getD ⟨0,0,0⟩)
theorem Jd(n:Nat)(hn:6<=n)(l F b m:Nat)(L:List<|Nat×fX)(UI:L.length<=12)(W:World)(Kp:World->World->Prop)(P:Nat->World->Prop)
  (LC:∀k A,W.heap.size<=k->Below W.heap.size W A->P k A)
  (EY:∀k A B c t,(t=34\/t=195)->Kp A B->A.heap[k]?=some (.cells c t (0,0))->P k A->B.heap[k]?=A.heap[k]?/\P k B)
  (J Jx:List (Nat×fX)->World->Prop)
  (hJ:∀s A B,J s A->A.grownBy B none->J s B)
  (hY:∀D x W1,J D W1->D.length<L.length->x∈L->YieldAt Fence.wide (n-1) prog l #[.int .u64 (x.1:Int),.agg #[.int .i64 (x.2.state:Int),.int .i64 (x.2.done:Int),.int .u64 (x.2.last:Int)]] W1 λe C=>
   (e=.returned (.bool true)/\J (D++[x]) C/\Kp W1 C)\/(e=.returned (.bool false)/\Jx (D++[x]) C))
  (BH:W.cell? (dH F)=some (.map<|some b)) (hL:bB KU ET W b m L) (h0:J [] W) :
  CallsIn Fence.wide n prog 175 #[.func (.yield l) #[] #[],rM F] W λe C=>(∃v,e=.returned v) /\
   ((∃ss,ss.Perm (L.map (·.1))/\ss.Pairwise (·<=·)/\J (wW L ss) C)\/(∃D,True/\Jx D C)):=by
 have zM:F<W.heap.size:=zzF W (dH F) BH;have cK:=Qv (n-1) b W;have cS:=FQ (n-1) oE b m L UI W hL;have⟨i0,hi,al,ad,ak⟩:=info_parts Yf;have aX:Fence.wide.fn 177:=trivial;have b0:Fence.wide.fn 176:=trivial;have Ya:Fence.wide.fn 175:=trivial;have an:Fence.wide.round=none:=rfl;have h1:1<=n:=oE
 have Wt:=aaz;have HL:=ae hL;have HB:=ae<|zzb zM BH;have⟨m0,LD⟩:=xY L.length;have HM:=ae LD;rw[<-LD]at cS UI;have b1:m0<=1000000000:=oE
 clear hL LD;refine callsIn_of_wp func175 rfl Ya ?_ an;simp only[ntmps175,mJ,zzr,mV,Nat.reduceAdd,Nat.reduceSub,m7,m8,n8,oS,p5,qS];gi_wp2_with (first
  |(gi_at_call 177;apply cK.mono;rintro e w0 ⟨rfl,rfl⟩)
  |(gi_at_call 176;apply cS.mono;rintro e w ⟨v,ss,rfl,zK,Z3,E,eQ,gw⟩;obtain⟨pp,a1,rfl⟩:=rG E;have O:Hid (w.ownsRow W.heap.size 34 1 (.slice pp m0 a1) m0 (dh ss)/\(Value.slice pp m0 a1=.slice none 0 0↔m0=0)):=⟨E,eQ⟩;have Z:Hid (ss.Perm (L.map (·.1))/\ss.Pairwise (·<=·)):=⟨zK,Z3⟩;clear E eQ zK Z3))
 clear cK cS;have G:=ae gw;have Wu:Hid (∀A,Below W.heap.size W A->J [] A):=λA H=>hJ [] W A h0 ⟨H.os,H.tape,H.output,H.size,λk h _=>H.block k h⟩
 have z:Hid (ss.length=m0):=by show _=_;rw[Z.1.length_eq,zzn,HM.out]
 clear gw BH;by_cases IA:m0=0
 .subst IA;obtain⟨rfl,rfl⟩:pp=none/\a1=0:=by simpa using O.2.2 rfl
  clear O;have HE:=ae<|List.length_eq_zero_iff.1 z.out
  gi_loopw [14] (λi wr=>i=.int .i64 0/\wr=w) (λ_ _=>0);case atStart=>exact⟨rfl,rfl⟩
  case round=>
   obtain⟨rfl,rfl⟩:=hrel;gi_wp2;gi_loopw [27] (λi a'=>i=.int .i64 0/\a'=wr) (λ_ _=>0);case atStart=>exact⟨rfl,rfl⟩
   case round=>
    obtain⟨rfl,rfl⟩:=hrel;gi_wp2;go_end0;exact⟨⟨_,rfl⟩,.inl ⟨ss,Z.1,Z.2,by rw[HE.out];exact Wu.out _ G.out⟩⟩
 obtain⟨g,rfl⟩:∃g,pp=some ⟨g,0,none⟩:=by have⟨g,X,e⟩:=mG O.1 oE;exact⟨g,by simp at e;exact e.1⟩
 have E:=O.1;have U:Hid (∃r,w.heap[g]?=some (.cells r 34 (0,0))/\W.heap.size<=g/\∀(k x:Nat),ss[k]?=some x->r[k]?=some (Value.int .u64 (x:Int))):=by
  rcases E.2 with⟨_,h3⟩|⟨g',X,r,e,hb,o,_,_,a6,V⟩
  .omega
  .obtain⟨e1,e2⟩:g=g'/\a1=X:=by simpa using e
   subst e1;refine⟨r,o,hb,λk x h=>?_⟩;have mB:k<m0:=by have:=(zzd.1 h).1;have:=z.out;omega
   have:(r.toList.take<|m0*1)[k]?=some (.int .u64 (x:Int)):=by rw[V];unfold dh;rw[zzy,h];rfl
   rw[List.getElem?_take_of_lt oE]at this;simpa using this
 clear E O;have⟨a,Pg⟩:∃a:List fX,a=ss.map λk=>(aj L k).getD ⟨0,0,0⟩:=⟨_,rfl⟩
 have HV:=ae Pg;clear Pg;have HG:Hid (g<w.heap.size):=by have⟨r,o,_⟩:=U.out;exact(zza.1 o).1
 have Yg:Hid (∀k∈ss,∃v,(k,v)∈L/\k<18446744073709551616/\(aj L k).getD ⟨0,0,0⟩=v):=λk h=>by
  have⟨p,hp,e⟩:=zzq.1<|Z.1.mem_iff.1 h;have⟨_,_,_,fe,dz⟩:=HL.out;have⟨Y,K⟩:=p;simp at e;subst e;exact⟨K,hp,(dz _ hp).1,by rw[bS fe hp];rfl⟩
 gi_loopw [14,4] (λi v wr=>∃k:Nat,k<=m0/\i=.int .i64 k/\Hid (wr.ownsRow w.heap.size 195 3 v k (DW<|a.take k)/\Below w.heap.size w wr))
  (λi _ _=>m0-(intOf i).toNat)
 case atStart=>exact⟨0,zzs _,rfl,zzu _ _ _ _,zzD _ _⟩
 case round=>
  obtain⟨k,h,rfl,R⟩:=hrel;by_cases bP:k<m0
  .obtain⟨x,hx⟩:∃x,ss[k]?=some x:=⟨_,zzg<|by have:=z.out;omega⟩;have⟨y,f⟩:∃y,y=(aj L x).getD ⟨0,0,0⟩:=⟨_,rfl⟩;have I:=G.out.trans<|R.2.mono G.out.size
   have ck:wr.cell? (d8 g k)=some (.int .u64 (x:Int)):=by
    have⟨r,o,_,hc⟩:=U.out;have:=(R.2.block g HG.out).trans o;rw[aP this];exact hc k x hx
   have cB:wr.cell? (dH F)=some (.map<|some b):=(I.cell HB.1).trans HB.2;have Qq:x<18446744073709551616:=by
    have⟨_,_,ao,_⟩:=Yg.out x<|zzh hx;exact ao
   have ic:=(HL.out.fr (S:=[]) ⟨I.os,I.tape,I.output,I.size,λk h _=>I.block k h⟩ (by simp)).look underlying144 (Lz wr) trivial Qq;rw[<-f]at ic;have HY:=ae<|zzb f hx;clear f hx
   change (Instr.lookup _ _ (.int .u64 (x:Int)) false).run _ _=.ok (.agg #[.int .i64 (y.state:Int),.int .i64 (y.done:Int),.int .u64 (y.last:Int)]) _ at ic;have a6:=R.2.size;have HT:Hid (a.take (k+1)=a.take k++[y]):=by
    show _=_;rw[HV.out,List.take_add_one,zzy,HY.2,HY.1];rfl
   gi_wp2_with (gi_at_builtin;apply wpListIn_append_own _ rfl _ _ 284 rfl w.heap.size 195 i0 _ 3 24 underlying284 hi al ad ak rfl dN _ k _ rfl (R.1.alloc _) (dH wr.heap.size) 1 1 (elT y) rfl rfl (cD _ #[.int .i64 (y.state:Int),.int .i64 (y.done:Int),.int .u64 (y.last:Int)] _) (by intro u hu;simp[elT]at hu;obtain rfl|rfl|rfl:=hu<;>rfl) mE oE sC;intro v' w2 eP eK _);go_roundw;case rel=>
    refine⟨k+1,oE,sE,by rw[HT.out,Nr];exact eP,?_⟩;exact((R.2.alloc a6 _).grown eK sC λj N=>(R.1.lt j N).1)
   case measure=>simp[intOf];omega
  .obtain rfl:k=m0:=oE;obtain⟨d,Qr,rfl⟩:=mG R.1 oE;have a7:Hid (∃q,wr.heap[d]?=some (.cells q 195 (0,0))/\W.heap.size<=d/\∀(j:Nat) (y:fX),a[j]?=some y->q[j*3]?=some (Value.int .i64 (y.state:Int))/\q[j*3+1]?=some (Value.int .i64 (y.done:Int))/\q[j*3+2]?=some (Value.int .u64 (y.last:Int))):=by
    rcases R.1.2 with⟨_,h3⟩|⟨g',X,r,e,hb,o,_,_,a6,V⟩
    .omega
    .obtain⟨e1,e2⟩:d=g'/\Qr=X:=by simpa using e
     subst e1;have aA:a.length=k:=by rw[HV.out,zzn,z.out]
     refine⟨r,o,zzk G.out.size hb,λj y N=>?_⟩;have Wv:j<k:=by have:=(zzd.1 N).1;omega
     have e3:a.take k=a:=zzt oE;rw[e3]at V;have gJ:=LH a j y N;rw[<-V]at gJ;rw[List.getElem?_take_of_lt oE,List.getElem?_take_of_lt oE,List.getElem?_take_of_lt oE]at gJ;simpa using gJ
   have⟨r,TA,ab,a8⟩:=U.out;have⟨q,Qs,Qt,Qu⟩:=a7.out;have j9:=(R.2.block g HG.out).trans TA;have I:=G.out.trans<|R.2.mono G.out.size;have HC:=ae<|zzb a8 Qu;have HS:=ae<|zzb (Wu.out _ I)<|zzb j9<|zzb (LC _ _ ab I)<|zzb Qs<|LC _ _ Qt I;clear U a7 TA a8 Qs Qu j9 I LC
   gi_wp2;gi_loopw [27] (λi wr=>∃j:Nat,j<=k/\i=.int .i64 j/\Hid (J ((wW L ss).take j) wr/\wr.heap[g]?=some (.cells r 34 (0,0))/\P g wr/\wr.heap[d]?=some (.cells q 195 (0,0))/\P d wr))
    (λi _=>k-(intOf i).toNat)
   case atStart=>exact⟨0,zzs _,rfl,by rw[List.take_zero];exact HS.out⟩
   case round=>
    obtain⟨j,N,rfl,Q⟩:=hrel;by_cases tJ:j<k
    .obtain⟨x,hx⟩:∃x,ss[j]?=some x:=⟨_,zzg<|by have:=z.out;omega⟩;have⟨y,f⟩:∃y,y=(aj L x).getD ⟨0,0,0⟩:=⟨_,rfl⟩;have T:a[j]?=some y:=by rw[HV.out,zzy,hx,f];rfl
     have vh:(x,y)∈L:=by
      have⟨v,hv,_,e⟩:=Yg.out x<|zzh hx;rw[f,e];exact hv
     have Uz:Hid ((wW L ss).take (j+1)=(wW L ss).take j++[(x,y)]):=by
      show _=_;rw[List.take_add_one];unfold wW;rw[zzy,hx,f];rfl
     have cx:wr.cell? (d8 g j)=some (.int .u64 (x:Int)):=by rw[aP Q.2.1];exact HC.1 j x hx
     have ay:wr.cell? (d8 d (j*3))=some (.int .i64 (y.state:Int)):=by rw[aP Q.2.2.2.1];exact(HC.2 j y T).1
     have aE:wr.cell? (d8 d (j*3+1))=some (.int .i64 (y.done:Int)):=by rw[aP Q.2.2.2.1];exact(HC.2 j y T).2.1
     have aI:wr.cell? (d8 d (j*3+2))=some (.int .u64 (y.last:Int)):=by rw[aP Q.2.2.2.1];exact(HC.2 j y T).2.2
     have⟨fn,tmps,assign,body,XQ,BR⟩:=hY _ (x,y) wr Q.1 (by rw[zzm,<-HM.out];omega) vh;clear hx f T vh;gi_wp2;apply BR.mono;rintro e M (⟨rfl,BS,kM⟩|⟨rfl,DV⟩)
     .have Y:=EY _ _ _ _ _ (.inl rfl) kM Q.2.1 Q.2.2.1;have K:=EY _ _ _ _ _ (.inr rfl) kM Q.2.2.2.1 Q.2.2.2.2;have HN:Hid (J ((wW L ss).take<|j+1) M/\M.heap[g]?=some (.cells r 34 (0,0))/\P g M/\M.heap[d]?=some (.cells q 195 (0,0))/\P d M):=⟨by rw[Uz.out];exact BS,Y.1.trans Q.2.1,Y.2,K.1.trans Q.2.2.2.1,K.2⟩;clear Y K BS kM
      gi_wp2;go_roundw;case rel=>exact⟨j+1,oE,sE,HN.out⟩
      case measure=>simp[intOf];omega
     .gi_wp2;apply bodyPost_ret (results_none rfl _ _ _) rfl;exact⟨⟨_,rfl⟩,.inr ⟨_,trivial,DV⟩⟩
    .obtain rfl:j=k:=oE;gi_wp2;go_end0;refine⟨⟨_,rfl⟩,.inl ⟨ss,Z.1,Z.2,?_⟩⟩;have e:(wW L ss).take j=wW L ss:=by
      rw[zzt];unfold wW;rw[zzn,z.out];exact zzc _
     rw[<-e];exact Q.1
theorem BX(n:Nat)(hn:6<=n)(g b m:Nat)(L:List (Nat × fX))(I:L.length<=12)(w:World)(U:g<w.heap.size)(X:w.cell? (dH g)=some (.map (some b)))(E:bB KU ET w b m L)
  (K:World->World->Prop) (P:Nat->World->Prop)
  (F:∀W k A,Below w.heap.size w W->W.heap.size<=k->Below W.heap.size W A->P k A)
  (Y:∀k A B c t,(t=34\/t=195)->K A B->A.heap[k]?=some (.cells c t (0,0))->P k A->B.heap[k]?=A.heap[k]?/\P k B) :
  SeqStopsK Fence.wide n prog 175 #[rM g] (λy:{ x:Nat × fX // x∈L }=>#[.int .u64 (y.1.1:Int),.agg #[.int .i64 (y.1.2.state:Int),.int .i64 (y.1.2.done:Int),.int .u64 (y.1.2.last:Int)]]) K (λv=>∃ss,ss.Perm (L.map (·.1))/\ss.Pairwise (·<=·)/\v.map (·.1)=wW L ss) (λ_=>True) L.length w:=λl J G W d O _ M V=>by
 have h:=Jd n hn l g b m L I W K P (λk A=>F W k A d) Y (λi W=>∃f:List { x:Nat × fX // x∈L },f.map (·.1)=i/\J f W) (λi W=>∃f:List { x:Nat × fX // x∈L },f.map (·.1)=i/\G f W)
  (λs A B N T=>by obtain⟨a,e,j⟩:=N;exact⟨a,e,O a A B none j T (λr e=>by cases e)⟩)
  (λi x z j u o=>by
   obtain⟨a,e,j⟩:=j;obtain⟨C,tmps,assign,body,H,R⟩:=M a ⟨x,o⟩ z j (by rw[<-e,zzn] at u;exact u);refine⟨C,tmps,assign,body,H,R.mono ?_⟩;rintro q D (⟨r1,r2,r3⟩|⟨r1,r2⟩)
   .exact .inl ⟨r1,⟨a++[⟨x,o⟩],by simp[e],r2⟩,r3⟩
   .exact .inr ⟨r1,⟨a++[⟨x,o⟩],by simp[e],r2⟩⟩)
  ((d.cell (p:=⟨g,0,none⟩) U).trans X) (E.fr (S:=[]) ⟨d.os,d.tape,d.output,d.size,λk Q _=>d.block k Q⟩ sE) ⟨[],rfl,V⟩
 refine h.mono ?_;rintro e D ⟨he,⟨ss,h1,h2,a,q,j⟩|⟨i,_,a,_,j⟩⟩
 .exact⟨he,.inl ⟨a,⟨ss,h1,h2,q⟩,j⟩⟩
 .exact⟨he,.inr ⟨a,trivial,j⟩⟩
theorem Jf(n:Nat)(b:Nat)(w:World):
  CallsIn Fence.wide n prog 125 #[.map<|some b] w λe w'=>e=.returned (.func (.func 175) #[] #[rM w.heap.size])/\w'=w.alloc (.cells #[.map<|some b] 144):=by
 refine callsIn_of_wp func125 rfl trivial ?_ rfl;simp only[ntmps125,mJ,zzr,mV,Nat.reduceAdd,Nat.reduceSub,m7,m8,n8,oS,p5,qS];gi_wp2;go_ret;exact⟨rfl,rfl⟩
theorem mM{F:Fence}{n:Nat}{P:Program}(w:World){ops:Array Oper}{rest:List Oper}{o:Oper}{a:Act}{Q:Exit->Act->World->Prop}
  (G:o.guard=none) (s x:Operand) (t:TypeId) (B:o.op=Op.call {callee:=Callee.builtin Builtin.append,args:=#[s,x],argTypes:=#[t,t]})
  (base:Nat) (e:TypeId) (i:TypeInfo) (z:Value) (size bytes:Nat) (O:P.underlying t=some (.slice e)) (A:P.info? e=some i) (L:i.zero=some z) (E:i.size=size) (I:i.bytes=bytes) (p:z.cells.size=size) (C:0<size)
  (v:Value) (k:Nat) (xs:List Value) (H:a.eval s=v) (N:w.ownsRow base e size v k xs) (d:Addr) (m c:Nat) (news:List Value) (R:a.eval x=.slice (some d) m c) (hn:news.length=m*size)
  (J:∀j u,news[j]?=some u->w.cell? (d.add j)=some u) (l:∀u∈news,u.oneCell'=true) (f:k+m<=maxLen) (h:(k+m)*bytes<=140737488355328) (q:base<=w.heap.size)
  (S:∀b w',w'.ownsRow base e size b (k+m) (xs++news)->w.grownBy w' v.ownBlock->(b.ownBlock=v.ownBlock\/b.ownBlock=some w.heap.size)->wpListIn F n P ops Q rest (a.put o.dst b) w') :
  wpListIn F n P ops Q (o::rest) a w:=by
 refine wpListIn_plain G λK M=>?_
 have⟨b,w',U,D,r,_,y⟩:=run_append_own_at w base t o.type e i z size bytes O A L E I p C v k xs N d m c news hn J l f h q;unfold Oper.wpIn;refine⟨?_,?_⟩
 .simp[Oper.about,B,resolve,Target.leads,Sem.run_pure]
 .rw[Oper.semAt_plain F _ _<|by rw[B];intro c g;cases g];simp[execOp,B,resolve,invoke,builtin,H,R,U,Result.andThen];exact M _ _<|S b w' D r y
def waits(s:List (Nat × fX)):List Nat:=(s.filter λy=>decide (y.2.state=3)).map (·.1)
def ir{L:List (Nat × fX)}(e:List { x:Nat × fX // x∈L }):List Nat:=waits (e.map (·.1))
theorem Jv{L:List (Nat×fX)}(e:List {x:Nat×fX//x∈L})(x:{x:Nat×fX//x∈L})(h:x.1.2.state=3):ir (e++[x])=ir e++[x.1.1]:=by simp[ir,waits,h]
theorem NK{L:List (Nat×fX)}(e:List {x:Nat×fX//x∈L})(x:{x:Nat×fX//x∈L})(h:x.1.2.state≠3):ir (e++[x])=ir e:=by simp[ir,waits,h]
theorem Jw{L:List (Nat×fX)}(e:List {x:Nat×fX//x∈L}):(ir e).length<=e.length:=by grind[ir,waits]
theorem zT(n:Nat)(hn:8<=n)(b lg bV T bH m:Nat)(s:ag)(w:World)(h:bC w b lg bV T bH m s)(Q:s.af.length<=12):
  CallsIn Fence.wide n prog 75 #[rM b] w λe w'=>∃v ss,e=.returned v/\ss.Perm (s.af.map (·.1))/\ss.Pairwise (·<=·)/\w'.ownsRow w.heap.size 34 1 v (waits (wW s.af ss)).length (dh (waits (wW s.af ss)))/\(v=.slice none 0 0↔waits (wW s.af ss)=[])/\Below w.heap.size w w':=by
 have a1:Fence.wide.round=none:=rfl;have i:1<=n:=oE;have cA:Fence.wide.fn 125:=trivial;have dD:Fence.wide.fn 175:=trivial;obtain⟨i0,hi,a8,a6,a7⟩:=info_parts nB;have H:=ae (zzb h.af Q);have uK:b<w.heap.size:=(zza.1 h.blk).1
 have c2:(w.alloc (.cells #[.slice none 0 0] 49)).cell? ⟨b,2,none⟩=some (.map (some T)):=by
  rw[World.cell?_alloc_lt _ _ ⟨b,2,none⟩ uK];have:=aa h.blk 2
  simpa using this
 obtain⟨L,R⟩:∃L,L=s.af:=⟨_,rfl⟩;rw[<-R] at H ⊢;clear h Q R;refine callsIn_of_wp_marks func75 rfl trivial ?_ a1;simp only[ntmps75,mJ,zzr,mV,Nat.reduceAdd,Nat.reduceSub,m7,m8,n8,oS,p5,qS]
 gi_wp2_with (gi_at_call 125;refine(Jf _ T _).mono ?_;rintro e w2 ⟨rfl,rfl⟩)
 have bO:=Boxed.new w 49 (.slice none 0 0);have I:=Boxed.new (w.alloc (.cells #[.slice none 0 0] 49)) 144 (.map (some T));rw[zzv] at I;have U:=bO.alloc (.cells #[.map (some T)] 144);have C:Below w.heap.size w ((w.alloc (.cells #[.slice none 0 0] 49)).alloc (.cells #[.map (some T)] 144)):=((zzD _ w).alloc (zzc _) _).alloc sE _;have ab:((w.alloc (.cells #[.slice none 0 0] 49)).alloc (.cells #[.map (some T)] 144)).heap.size=w.heap.size+2:=sE
 obtain⟨j,nX⟩:∃j,((w.alloc (.cells #[.slice none 0 0] 49)).alloc (.cells #[.map (some T)] 144))=j:=⟨_,rfl⟩;rw[nX] at I U C ab ⊢;clear nX bO c2;have Jy:bB KU ET j T m L:=H.1.fr (S:=[]) ⟨C.os,C.tape,C.output,C.size,λk y _=>C.block k y⟩ sE
 refine wpIn_rangeFunc_ownH a1 i (gf:=175) (lb:=#[.pointer (some ⟨w.heap.size+1,0,none⟩)]) rfl dD (enters_of func175 k6 rfl)
  (BX (n-1) oE (w.heap.size+1) T m L H.2 j oE I.cell Jy (zH 34 195 w.heap.size w.heap.size) (λk A=>¬Fx w.heap.size A k)
   (λW k A J _ q r=>by
    obtain⟨v,e1,e2⟩:=r;have i:A.cell? ⟨w.heap.size,0,none⟩=j.cell? ⟨w.heap.size,0,none⟩:=(q.cell (p:=⟨w.heap.size,0,none⟩) (by have:=J.size;show w.heap.size<_;omega)).trans (J.cell (p:=⟨w.heap.size,0,none⟩) (by show w.heap.size<_;omega));rw[i,U.cell] at e1
    cases e1
    cases e2)
   (λk A B c t ht y q hn=>⟨y.same k c t ht q hn,λr=>hn (y.stay k (zza.1 q).1 r)⟩))
  (λh k=>h.trans k) (zH.book oE oE) (zzD _ _) (λ_=>rfl)
  (λa W=>(∃v,Boxed W w.heap.size 49 v/\W.ownsRow w.heap.size 34 1 v (ir a).length (dh (ir a))/\(v=.slice none 0 0↔ir a=[]))/\Below w.heap.size w W)
  (λ_ _ _=>False)
  (OwnFrom.and (Own.from (holdsRow_own w.heap.size w.heap.size 49 34 1 (λa:List { x:Nat × fX // x∈L }=>(ir a).length) (λa=>dh (ir a)) (λa v=>(v=.slice none 0 0↔ir a=[]))) _) (ownFrom_below (zzc _) oE))
  (λ_ _ _ _ _ G _ _=>G)
  ⟨⟨_,U,zzu _ _ _ _,by simp[ir,waits]⟩,C⟩
  (λx z W=>∃d,w.heap.size<d/\W.heap[d]?=some (.cells #[.int .i64 (x.1.2.state:Int),.int .i64 (x.1.2.done:Int),.int .u64 (x.1.2.last:Int)] 195 (0,0))/\z={ tmps:=#[.pointer (some ⟨b,0,none⟩),undef,.slice none 0 0,.pointer (some ⟨w.heap.size,0,none⟩),.int .u64 (x.1.1:Int),.pointer (some ⟨d,0,none⟩),.pointer (some ⟨b,0,none⟩),.pointer (some ⟨b,0,none⟩),.pointer (some ⟨b,2,none⟩),.map (some T),.func (.func 175) #[] #[.pointer (some ⟨w.heap.size+1,0,none⟩)],.int .u64 (x.1.1:Int),.agg #[.int .i64 (x.1.2.state:Int),.int .i64 (x.1.2.done:Int),.int .u64 (x.1.2.last:Int)],undef,undef,undef,undef,undef,undef,undef,undef],defers:=[] })
  (λx z _ X al row G hg r=>by
   obtain⟨d,i,E,f⟩:=G
   exact⟨d,i,(hg.block d (zza.1 E).1 (λe=>by obtain⟨_,o,ho,F⟩:=r d e.symm;rw[E] at ho;cases ho;cases F)).trans E,f⟩)
  ?assign ?body ?done ?stop
 case assign =>
  have o9:=@Oper.semAt_some;rintro l a x W ak ⟨⟨v,hv,aC,eQ⟩,tG⟩ hK;have g:=ae eQ;clear eQ
  gi_wp2
  exact hK _ _ ((KeepsOthers.alloc _ _).from _) (zH.alloc _ tG.size hv.lt _) ⟨⟨v,hv.alloc _,aC.alloc _,g.out⟩,tG.alloc tG.size _⟩ ⟨W.heap.size,hv.lt,World.alloc_heap_new W _,rfl⟩
 case body =>
  have o9:=@Oper.semAt_some;rintro l a x z W eN _ ⟨⟨v,hv,aC,eQ⟩,hB⟩ ⟨d,hBx,bX,rfl⟩ bP;have F:=hv.cell;have N:=aP bX 0;simp at N;have g:=ae eQ;clear eQ;have an:=Jw a;have DH:=H.2;by_cases f:x.1.2.state=3
  .have HW:=ae (Jv a x f);rw[f] at N bX;rw[f];clear f
   gi_wp2_with (gi_at_builtin;refine mM _ rfl _ _ 49 rfl w.heap.size 34 i0 _ 1 8 underlying49 hi a8 a6 a7 rfl dN _ _ _ rfl (aC.alloc _) ⟨W.heap.size,0,none⟩ 1 1 [.int .u64 (x.1.1:Int)] rfl rfl (cD _ #[.int .u64 (x.1.1:Int)] _) (by intro u O;simp at O;subst O;rfl) mE oE (by have:=hB.size;simp;omega) ?_;intro v' w1 P Z K;obtain⟨g',fW,rfl⟩:=ownsRow_succ P;obtain⟨uJ,kC,lQ,gT,M⟩:=hv.appended dN aC hB.size (zzc _) P Z;have om:=uJ.cell;have bF:=uJ.frozen;have ad:Hid (zH 34 195 w.heap.size w.heap.size W (w1.setCell ⟨w.heap.size,0,none⟩ (.slice (some ⟨g',0,none⟩) ((ir a).length+1) fW))):=zH.appended hv dN dN Z K M kC;clear K)
   exact⟨gT.from _,ad.out,⟨_,kC,by rw[HW.out,l_];simpa using lQ,by rw[HW.out];simp⟩,hB.trans M⟩
  .have HW:=ae (NK a x f);have i3:¬(x.1.2.state:Int)=3:=oE;gi_wp2
   exact⟨KeepsFrom.refl _ _,zH.refl _,⟨v,hv,by rw[HW.out];exact aC,by rw[HW.out];exact g.out⟩,hB⟩
 case done =>
  rintro D ys W hD QB ⟨⟨v,hv,aC,eQ⟩,hB⟩ hK;have F:=hv.cell;have g:=ae eQ;clear eQ;obtain⟨ss,p1,Y,p3⟩:=QB;have e:ir ys=waits (wW L ss):=by unfold ir;rw[p3]
  have V:=ae e;have HP:=ae (zzb p1 Y);clear e p1 Y p3
  gi_wp2
  refine⟨sE,.inl ⟨_,_,rfl,run_takeDeferred hK,?_⟩⟩;exact⟨_,results_tmp rfl _ _ _,v,ss,rfl,HP.1,HP.2,by rw[<-V.out];exact ownsRow_putObj aC _ hK rfl,by rw[<-V.out];exact g.out,hB.trans (belowK_b (w:=w) (zzc _) W D _ _ oE hK rfl rfl)⟩
 case stop =>
  rintro D c a W _ _ h _;exact h.elim
theorem Ge(p g V T H m:Nat)(s:ag)(w:World)(h:bC w p g V T H m s)(l:s.af.length<=12):
  Calls prog 75 #[rM p] w λe w'=>∃v ss,e=.returned v/\ss.Perm (s.af.map (·.1))/\ss.Pairwise (·<=·)/\w'.ownsRow w.heap.size 34 1 v (waits<|wW s.af ss).length (dh<|waits<|wW s.af ss)/\(v=.slice none 0 0↔waits (wW s.af ss)=[])/\Below w.heap.size w w':=
 (callsIn_wide).1 (zT 8 (zzc _) p g V T H m s w h l)
end
section
variable(B hp m n t:Nat)(seq:Int)(k:ByteArray)(s:ag)(l:aq)(d:ah)(w:World)
theorem SL.ops{w w':World}{B a g V T H m m' b p h bN n:Nat}{s c:ag}{l:aq}{d:ah}(o:SL w B a g V T H m b p h bN n s l d)(j:bC w' a g V T H m' c)(i:Fr [T,H] w w'):SL w' B a g V T H m' b p h bN n c l d/\lH a V T H b p w w':=
 o.gR j i (by intro k f;simp at f ⊢;obtain e|e:=f<;>simp[e])
end
end Go.Proofs.YtdcafjmdfpjcbaaGreatDoor
