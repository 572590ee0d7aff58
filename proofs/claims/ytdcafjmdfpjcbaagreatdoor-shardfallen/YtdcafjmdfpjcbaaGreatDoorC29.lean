import Derived.Test.YtdcafjmdfpjcbaaGreatDoorC28
set_option maxHeartbeats 4000000
set_option maxRecDepth 100000
namespace Go.Proofs.YtdcafjmdfpjcbaaGreatDoor
open Go.RowKit Go.Maps Tryz Sc
section
open Go.Shelf
abbrev elV(g:ByteArray):List Value:=[.string g]
def I9(l:List ByteArray):List Value:=l.flatMap elV
theorem Ng(l:List ByteArray)(g:ByteArray):I9 (l++[g])=I9 l++elV g:=by simp[I9]
theorem LF:∀(l:List ByteArray) (k:Nat) (g:ByteArray),l[k]?=some g->(I9 l)[k]?=some (.string g)
 |[],k,g,h=>by simp at h
 |x::l,0,g,h=>by simp at h;subst h;simp[I9]
 |x::l,k+1,g,h=>by
  have:=LF l k g (by simpa using h);simp only[I9,List.flatMap_cons]at this ⊢;simpa using this
theorem Yb:(Tryz.prog.info? 9).map (λi=>(i.zero,i.size,i.bytes))=some (some<|.string yA,1,16):=k6
def dy(L:List (ByteArray × ByteArray)):List (ByteArray × ByteArray):=(fJ L).map λk=>(k,(aj L k).getD yA)
theorem aay(p:Option Addr)(n c:Nat)(w:World):(Builtin.len_ #[138] 3 #[.slice p n c]).run prog w=.ok (.int .i64 n) w:=by simp[Builtin.len_,run_underlying underlying138,goInt]
theorem zN(n:Nat)(hn:6<=n)(l D b m:Nat)(L:List<|ByteArray×ByteArray)(hm:m<=1000000000)(W:World)(Kp:World->World->Prop)(P:Nat->World->Prop)
  (LC:∀k A,W.heap.size<=k->Below W.heap.size W A->P k A)
  (EY:∀k A B c t,(t=9\/t=9)->Kp A B->A.heap[k]?=some (.cells c t (0,0))->P k A->B.heap[k]?=A.heap[k]?/\P k B)
  (J Jx:List (ByteArray×ByteArray)->World->Prop)
  (hJ:∀s A B,J s A->A.grownBy B none->J s B)
  (hY:∀f x W1,J f W1->f.length<L.length->f++[x]<+:dy L->YieldAt Fence.wide (n-1) prog l #[.string x.1,.string x.2] W1 λe z=>
   (e=.returned (.bool true)/\J (f++[x]) z/\Kp W1 z)\/(e=.returned (.bool false)/\Jx (f++[x]) z))
  (BH:W.cell? (dH D)=some (.map<|some b)) (Y:bB KS ES W b m L) (h0:J [] W) :
  CallsIn Fence.wide n prog 172 #[.func (.yield l) #[] #[],rM D] W λe z=>(∃v,e=.returned v) /\
   ((∃ys,ys=dy L/\J ys z)\/(∃f,f<+:dy L/\Jx f z)):=by
 have zM:D<W.heap.size:=zzF W ⟨D,0,none⟩ BH;have⟨cK,cS⟩:=FF (n-1) oE b m L W Y hm;have⟨i0,hi,al,ad,ak⟩:=info_parts Yb;have aX:Fence.wide.fn 174:=trivial;have aI:Fence.wide.fn 173:=trivial;have Ya:Fence.wide.fn 172:=trivial;have ay:Fence.wide.round=none:=rfl;have h1:1<=n:=oE
 have Wt:=aay;have a':=Y.len;have HL:=ae Y;have HB:=ae<|zzb zM BH;have⟨m0,LD⟩:=xY L.length;have M:=ae LD;rw[<-LD]at cS a';have b0:m0<=1000000000:=oE
 clear Y LD;refine callsIn_of_wp func172 rfl Ya ?_ ay;simp only[ntmps172,List.size_toArray,zzr,List.length_nil,Nat.reduceAdd,Nat.reduceSub,Array.replicate_succ,Array.replicate_zero,List.push_toArray,List.append_toArray,List.nil_append,List.cons_append];gi_wp2_with (first
  |(gi_at_call 174;apply cK.mono;rintro e w0 ⟨rfl,rfl⟩)
  |(gi_at_call 173;apply cS.mono;rintro e w ⟨v,rfl,C,eQ,gw⟩;obtain⟨U,X,rfl⟩:=rG C;have N:Hid (w.ownsRow W.heap.size 9 1 (.slice U m0 X) m0 ((fJ L).map Value.string)/\(Value.slice U m0 X=.slice none 0 0↔m0=0)):=⟨C,eQ⟩;clear C eQ))
 clear cK cS;have E:=ae gw;have Wu:Hid (∀A,Below W.heap.size W A->J [] A):=λA F=>hJ [] W A h0 ⟨F.os,F.tape,F.output,F.size,λk q _=>F.block k q⟩
 clear gw BH;by_cases IA:m0=0
 .subst IA;obtain⟨rfl,rfl⟩:U=none/\X=0:=by have:=N.2.2 rfl;simpa using this
  clear N;have HE:Hid (dy L=[]):=by show _=_;have:=M.out;rw[List.length_eq_zero_iff.1 this.symm];simp[dy,fJ]
  gi_loopw [14] (λi wr=>i=.int .i64 0/\wr=w) (λ_ _=>0);case atStart=>exact⟨rfl,rfl⟩
  case round=>
   obtain⟨rfl,rfl⟩:=hrel;gi_wp2;gi_loopw [27] (λi a8=>i=.int .i64 0/\a8=wr) (λ_ _=>0);case atStart=>exact⟨rfl,rfl⟩
   case round=>
    obtain⟨rfl,rfl⟩:=hrel;gi_wp2;go_end0;exact⟨⟨_,rfl⟩,.inl ⟨_,rfl,by rw[HE.out];exact Wu.out _ E.out⟩⟩
 obtain⟨g,rfl⟩:∃g,U=some ⟨g,0,none⟩:=by have⟨g,T,e⟩:=mG N.1 oE;exact⟨g,by simp at e;exact e.1⟩
 have C:=N.1;have O:Hid (∃r,w.heap[g]?=some (.cells r 9 (0,0))/\W.heap.size<=g/\∀(k:Nat) (x:ByteArray),(fJ L)[k]?=some x->r[k]?=some (Value.string x)):=by
  rcases C.2 with⟨_,h3⟩|⟨g',T,r,e,hb,h,_,_,a1,V⟩
  .omega
  .obtain⟨e1,e2⟩:g=g'/\X=T:=by simpa using e
   subst e1;refine⟨r,h,hb,λk x q=>?_⟩;have mB:k<m0:=by have:=(zzd.1 q).1;rw[dR]at this;have:=M.out;omega
   have:(r.toList.take<|m0*1)[k]?=some (.string x):=by rw[V,zzy,q];rfl
   rw[List.getElem?_take_of_lt oE]at this;simpa using this
 clear C N;have⟨a,Pg⟩:∃a:List ByteArray,a=(fJ L).map λk=>(aj L k).getD ByteArray.empty:=⟨_,rfl⟩
 have HV:=ae Pg;clear Pg;have HG:Hid (g<w.heap.size):=by have⟨r,h,_⟩:=O.out;exact(zza.1 h).1
 gi_loopw [14,4] (λi v wr=>∃k:Nat,k<=m0/\i=.int .i64 k/\Hid (wr.ownsRow w.heap.size 9 1 v k (I9<|a.take k)/\Below w.heap.size w wr))
  (λi _ _=>m0-(intOf i).toNat)
 case atStart=>exact⟨0,zzs _,rfl,zzu _ _ _ _,zzD _ _⟩
 case round=>
  obtain⟨k,q,rfl,R⟩:=hrel;by_cases bP:k<m0
  .obtain⟨x,hx⟩:∃x,(fJ L)[k]?=some x:=⟨_,zzg<|by rw[dR];have:=M.out;omega⟩;have⟨y,o⟩:=xY <|(aj L x).getD ByteArray.empty;have I:=E.out.trans<|R.2.mono E.out.size
   have ck:wr.cell? ⟨g,k,none⟩=some (.string x):=by
    have⟨r,h,_,hc⟩:=O.out;have:=(R.2.block g HG.out).trans h;rw[aP this];exact hc k x hx
   have cB:wr.cell? ⟨D,0,none⟩=some (.map<|some b):=(I.cell (p:=⟨D,0,none⟩) HB.1).trans HB.2;have Qq:x.size<=maxLen:=by
    have⟨v',an⟩:=kL.1<|zzh hx;have⟨_,_,_,_,dz⟩:=HL.out;exact(dz _ an).1
   have ic:=(HL.out.fr (S:=[]) ⟨I.os,I.tape,I.output,I.size,λk q _=>I.block k q⟩ sE).look underlying143 (LA wr) (by show(0:Nat)<=maxLen;omega) (k:=x) Qq;rw[<-o]at ic;have HY:=ae<|zzb o hx;clear o hx
   change (Instr.lookup _ _ (.string x) false).run _ _=.ok (.string y) _ at ic;have a1:=R.2.size;have ao:k<((fJ L).map λk=>(aj L k).getD ByteArray.empty).length:=by rw[zzn,dR];have:=M.out;omega
   have HT:Hid (a.take (k+1)=a.take k++[y]):=by
    show _=_;rw[HV.out,List.take_add_one,zzy,HY.2,HY.1];rfl
   clear ao;gi_wp2_with (gi_at_builtin;apply wpListIn_append_own _ rfl _ _ 138 rfl w.heap.size 9 i0 _ 1 16 underlying138 hi al ad ak rfl dN _ k _ rfl (R.1.alloc _) ⟨wr.heap.size,0,none⟩ 1 1 (elV y) rfl rfl (cD _ #[.string y] _) (by intro u hu;simp[elV]at hu;subst hu;rfl) mE oE sC;intro v' w2 eP eK _);go_roundw;case rel=>
    refine⟨k+1,oE,sE,by rw[HT.out,Ng];exact eP,?_⟩;exact((R.2.alloc a1 _).grown eK sC λj K=>(R.1.lt j K).1)
   case measure=>simp[intOf];omega
  .obtain rfl:k=m0:=oE;obtain⟨d,Qr,rfl⟩:=mG R.1 oE;have a6:Hid (∃G,wr.heap[d]?=some (.cells G 9 (0,0))/\W.heap.size<=d/\∀(j:Nat) (y:ByteArray),a[j]?=some y->G[j]?=some (Value.string y)):=by
    rcases R.1.2 with⟨_,h3⟩|⟨g',T,r,e,hb,h,_,_,a1,V⟩
    .omega
    .obtain⟨e1,e2⟩:d=g'/\Qr=T:=by simpa using e
     subst e1;have aE:a.length=k:=by rw[HV.out,zzn,dR,M.out]
     refine⟨r,h,zzk E.out.size hb,λj y K=>?_⟩;have Wv:j<k:=by have:=(zzd.1 K).1;omega
     have e3:a.take k=a:=zzt oE;rw[e3]at V;have Z:=LF a j y K;rw[<-V]at Z;rw[List.getElem?_take_of_lt oE]at Z;simpa using Z
   have⟨r,TA,ab,a7⟩:=O.out;have⟨G,Qs,Qt,Qu⟩:=a6.out;have j9:=(R.2.block g HG.out).trans TA;have I:=E.out.trans<|R.2.mono E.out.size;have HC:=ae<|zzb a7 Qu;have HS:=ae<|zzb (Wu.out _ I)<|zzb j9<|zzb (LC _ _ ab I)<|zzb Qs<|LC _ _ Qt I;clear O a6 TA a7 Qs Qu j9 I LC
   gi_wp2;gi_loopw [27] (λi wr=>∃j:Nat,j<=k/\i=.int .i64 j/\Hid (J ((dy L).take j) wr/\wr.heap[g]?=some (.cells r 9 (0,0))/\P g wr/\wr.heap[d]?=some (.cells G 9 (0,0))/\P d wr))
    (λi _=>k-(intOf i).toNat)
   case atStart=>exact⟨0,zzs _,rfl,by rw[List.take_zero];exact HS.out⟩
   case round=>
    obtain⟨j,K,rfl,Q⟩:=hrel;by_cases tJ:j<k
    .obtain⟨x,hx⟩:∃x,(fJ L)[j]?=some x:=⟨_,zzg<|by rw[dR];have:=M.out;omega⟩;have⟨y,o⟩:=xY <|(aj L x).getD ByteArray.empty;have Ww:a[j]?=some y:=by rw[HV.out,zzy,hx,o];rfl
     have Uz:Hid ((dy L).take (j+1)=(dy L).take j++[(x,y)]):=by
      show _=_;rw[List.take_add_one];unfold dy;rw[zzy,hx,o];rfl
     have cx:wr.cell? ⟨g,j,none⟩=some (.string x):=by rw[aP Q.2.1];exact HC.1 j x hx
     have aA:wr.cell? ⟨d,j,none⟩=some (.string y):=by rw[aP Q.2.2.2.1];exact HC.2 j y Ww
     have⟨fn,tmps,assign,body,XQ,BR⟩:=hY _ (x,y) wr Q.1 (by rw[zzm,<-M.out];omega) (by rw[<-Uz.out];exact List.take_prefix _ _);clear hx o Ww;gi_wp2;apply BR.mono;rintro e H (⟨rfl,BS,kM⟩|⟨rfl,DV⟩)
     .have p1:=EY _ _ _ _ _ (.inl rfl) kM Q.2.1 Q.2.2.1;have p2:=EY _ _ _ _ _ (.inr rfl) kM Q.2.2.2.1 Q.2.2.2.2;have HN:Hid (J ((dy L).take<|j+1) H/\H.heap[g]?=some (.cells r 9 (0,0))/\P g H/\H.heap[d]?=some (.cells G 9 (0,0))/\P d H):=⟨by rw[Uz.out];exact BS,p1.1.trans Q.2.1,p1.2,p2.1.trans Q.2.2.2.1,p2.2⟩;clear p1 p2 BS kM
      gi_wp2;go_roundw;case rel=>exact⟨j+1,oE,sE,HN.out⟩
      case measure=>simp[intOf];omega
     .gi_wp2;apply bodyPost_ret (results_none rfl _ _ _) rfl;exact⟨⟨_,rfl⟩,.inr ⟨_,by rw[<-Uz.out];exact List.take_prefix _ _,DV⟩⟩
    .obtain rfl:j=k:=oE;gi_wp2;go_end0;refine⟨⟨_,rfl⟩,.inl ⟨_,?_,Q.1⟩⟩;rw[zzt];unfold dy;rw[zzn,dR,M.out];exact zzc _
theorem BV(n:Nat)(hn:6<=n)(f b m:Nat)(L:List (ByteArray × ByteArray))(Q:ByteArray × ByteArray->Prop)(D:∀x∈dy L,Q x)(v:m<=1000000000)(w:World)(X:f<w.heap.size)(BH:w.cell? (dH f)=some (.map (some b)))(F:bB KS ES w b m L)
  (K:World->World->Prop) (P:Nat->World->Prop)
  (G:∀W k A,Below w.heap.size w W->W.heap.size<=k->Below W.heap.size W A->P k A)
  (Y:∀k A B c t,(t=9\/t=9)->K A B->A.heap[k]?=some (.cells c t (0,0))->P k A->B.heap[k]?=A.heap[k]?/\P k B) :
  SeqStopsK Fence.wide n prog 172 #[rM f] (λy:{ x:ByteArray × ByteArray // Q x }=>#[.string y.1.1,.string y.1.2]) K (λo=>o.map (·.1)=dy L) (λ_=>True) L.length w:=λl J H W h O _ M Z=>by
 have a1:=zN n hn l f b m L v W K P (λk A=>G W k A h) Y (λg W=>∃d:List { x:ByteArray × ByteArray // Q x },d.map (·.1)=g/\J d W) (λg W=>∃d:List { x:ByteArray × ByteArray // Q x },d.map (·.1)=g/\H d W)
  (λs A B N V=>by obtain⟨a,e,j⟩:=N;exact⟨a,e,O a A B none j V (λr e=>by cases e)⟩)
  (λg x z j u T=>by
   obtain⟨a,e,j⟩:=j;have i:Q x:=D x (T.subset sE);obtain⟨C,tmps,assign,body,I,R⟩:=M a ⟨x,i⟩ z j (by rw[<-e,zzn] at u;exact u);refine⟨C,tmps,assign,body,I,R.mono ?_⟩;rintro q E (⟨r1,r2,r3⟩|⟨r1,r2⟩)
   .exact .inl ⟨r1,⟨a++[⟨x,i⟩],by simp[e],r2⟩,r3⟩
   .exact .inr ⟨r1,⟨a++[⟨x,i⟩],by simp[e],r2⟩⟩)
  ((h.cell (p:=⟨f,0,none⟩) X).trans BH) (F.fr (S:=[]) ⟨h.os,h.tape,h.output,h.size,λk U _=>h.block k U⟩ sE) ⟨[],rfl,Z⟩
 refine a1.mono ?_;rintro e E ⟨he,⟨o,rfl,a,q,j⟩|⟨g,_,a,_,j⟩⟩
 .exact⟨he,.inl ⟨a,q,j⟩⟩
 .exact⟨he,.inr ⟨a,trivial,j⟩⟩
theorem zO(n:Nat)(b:Nat)(w:World):
  CallsIn Fence.wide n prog 124 #[.map<|some b] w λe w'=>e=.returned (.func (.func 172) #[] #[rM w.heap.size])/\w'=w.alloc (.cells #[.map<|some b] 143):=by
 refine callsIn_of_wp func124 rfl trivial ?_ rfl;simp only[ntmps124,List.size_toArray,zzr,List.length_nil,Nat.reduceAdd,Nat.reduceSub,Array.replicate_succ,Array.replicate_zero,List.push_toArray,List.append_toArray,List.nil_append,List.cons_append];gi_wp2;go_ret;exact⟨rfl,rfl⟩
abbrev Gz(x:ByteArray × ByteArray):List Value:=[.string x.1,.string x.2]
def eA(l:List (ByteArray × ByteArray)):List Value:=l.flatMap Gz
theorem iK(l:List<|ByteArray×ByteArray)(x:ByteArray×ByteArray):eA (l++[x])=eA l++Gz x:=by simp[eA]
theorem vG:(Tryz.prog.info? 102).map (λi=>(i.zero,i.size,i.bytes))=some (some<|.agg #[.string yA,.string yA],2,32):=k6
theorem YR(v:Array Value)(w:World):(binOp .eql 124 (.func (.func 172) #[] v) .nilFunc).run prog w=.ok (.bool false) w:=k6
theorem Vg(p:Option Addr)(n c:Nat)(w:World):(Builtin.len_ #[44] 3 #[.slice p n c]).run prog w=.ok (.int .i64 n) w:=by simp[Builtin.len_,run_underlying underlying44,goInt]
theorem YS(n:Nat)(hn:1<=n)(p g V T H m:Nat)(s:ag)(w:World)(h:bC w p g V T H m s):
  CallsIn Fence.wide n prog 74 #[rM p] w λe w'=>e=.returned (.func (.func 172) #[] #[rM w.heap.size])/\w'=w.alloc (.cells #[.map<|some V] 143):=by
 have c1:=aa h.blk 1;simp at c1;have f:=zO (n-1) V w;have A:Fence.wide.fn 124:=trivial;refine callsIn_of_wp func74 rfl trivial ?_ rfl;simp only[ntmps74,mJ,zzr,mV,Nat.reduceAdd,Nat.reduceSub,m7,m8,n8,oS,p5,qS];gi_wp2_with fail;apply f.mono;rintro e a ⟨rfl,rfl⟩;gi_wp2;go_ret;exact⟨rfl,rfl⟩
def kV{L:List (ByteArray × ByteArray)}(e:List { x:ByteArray × ByteArray // x∈dy L }):List (ByteArray × ByteArray):=e.map (·.1)
theorem GA{L:List (ByteArray×ByteArray)}(e:List {x:ByteArray×ByteArray//x∈dy L})(x:{x:ByteArray×ByteArray//x∈dy L}):kV (e++[x])=kV e++[x.1]:=by simp[kV]
theorem Rj(n:Nat)(hn:9<=n)(hp p g lg V T Q m:Nat)(s:ag)(w:World)(y:w.heap[hp]?=some (gB p true (rM g)))(h:bC w g lg V T Q m s)(hm:m<=1000000000):
  CallsIn Fence.wide n prog 38 #[rM hp,.int .i64 0] w λe w'=>∃v,e=.returned (.tuple #[v,.bool true])/\w'.ownsRow w.heap.size 102 2 v (dy s.aS).length (eA (dy s.aS))/\Below w.heap.size w w':=by
 have a7:Fence.wide.round=none:=rfl;have r:1<=n:=oE;have cA:Fence.wide.fn 74:=trivial;have dD:Fence.wide.fn 172:=trivial;have⟨i0,hi,ad,a8,ab⟩:=info_parts vG;have⟨d,j⟩:=xY <|w.alloc (.cells #[.int .i64 0] 3);have G:Below w.heap.size w d:=by rw[j];exact(zzD _ w).alloc (zzc _) _
 have d_:d.heap.size=w.heap.size+1:=by rw[j];simp
 have P:Boxed d w.heap.size 3 (.int .i64 0):=by rw[j];exact Boxed.new w _ _
 have td:=(G.block hp (zza.1 y).1).trans y;have Z:=h.fr (Fr.bw G []) sE sE sE sE;have c5:=aa td 5;simp at c5;have a6:=YS (n-1) oE g lg V T Q m s d Z;have H:=ae Z.aS;have aI:=YR;clear h Z y td;rw[j]at c5;refine callsIn_of_wp_marks func38 rfl trivial ?_ a7;simp only[ntmps38,mJ,zzr,mV,Nat.reduceAdd,Nat.reduceSub,m7,m8,n8,oS,p5,qS];gi_wp2_with (gi_at_call 74;rw[<-j];apply a6.mono;rintro e w2 ⟨rfl,rfl⟩);rw[<-j];have ay:=Vg;have⟨i,Y⟩:=xY <|d.alloc (.cells #[.map (some V)] 143);have⟨b,f⟩:=xY <|i.alloc (.cells #[.slice none 0 0] 44);rw[<-Y,<-f];have cC:i.heap.size=w.heap.size+2:=by rw[Y,zzv,d_]
 have aE:b.heap.size=w.heap.size+3:=by rw[f,zzv,cC]
 have bA:Boxed b (w.heap.size+1) 143 (.map (some V)):=by
  rw[f];have:=Boxed.new d 143 (.map (some V));rw[d_,<-Y]at this;exact this.alloc _
 have U2:Boxed b (w.heap.size+1+1) 44 (.slice none 0 0):=by
  have:=Boxed.new i 44 (.slice none 0 0);rw[cC,<-f]at this;exact this
 have ak:Boxed b w.heap.size 3 (.int .i64 0):=by rw[f,Y];exact(P.alloc _).alloc _
 have wC:Below w.heap.size w b:=by rw[f,Y];exact(G.alloc oE _).alloc sC _
 have Jy:bB KS ES b V m s.aS:=by rw[f,Y];exact(H.out.fr ((lE _).alloc _) sE).fr ((lE _).alloc _) sE
 have ao:s.aS.length<=1000000000:=by have r:=H.out.len;omega
 clear f Y j P a6 c5 G H;refine wpIn_rangeFunc_ownH a7 r rfl dD (enters_of func172 k6 rfl)
  (BV (n-1) oE (w.heap.size+1) V m s.aS (λx=>x∈dy s.aS) (λx hx=>hx) hm b oE bA.cell Jy (zH 9 9 w.heap.size (w.heap.size+1+1)) (λk A=>¬Fx (w.heap.size+1+1) A k)
   (λW k A N _ o J=>by
    have⟨v,e1,e2⟩:=J;have r:A.cell? (dH (w.heap.size+1+1))=b.cell? (dH (w.heap.size+1+1)):=(o.cell (by have:=N.size;show w.heap.size+1+1<_;omega)).trans (N.cell (by show w.heap.size+1+1<_;omega));rw[r,U2.cell]at e1;cases e1;cases e2)
   (λk A B c t ht hk o hn=>⟨hk.same k c t ht o hn,λJ=>hn (hk.stay k (zza.1 o).1 J)⟩))
  (λh k=>h.trans k) (zH.book oE oE) (zzD _ _) (λ_=>rfl)
  (λa W=>((∃v,Boxed W (w.heap.size+1+1) 44 v/\W.ownsRow w.heap.size 102 2 v (kV a).length (eA (kV a))/\True)/\Boxed W w.heap.size 3 (.int .i64 0))/\Below w.heap.size w W)
  (λ_ _ _=>False)
  (OwnFrom.and (OwnFrom.and (Own.from (holdsRow_own w.heap.size (w.heap.size+1+1) 44 102 2 (λa:List {x:ByteArray×ByteArray//x∈dy s.aS}=>(kV a).length) (λa=>eA (kV a)) (λ_ _=>True)) _) (Own.from (boxed_own _ _ _) _)) (ownFrom_below (zzc _) oE))
  (λ_ _ _ _ _ F _ _=>F)
  ⟨⟨⟨_,U2,zzu _ _ _ _,trivial⟩,ak⟩,wC⟩
  (λx z W=>z={tmps:=#[rM hp,.int .i64 0,undef,rM w.heap.size,.slice none 0 0,.bool false,.func (.func 172) #[] #[rM (w.heap.size+1)],rM (w.heap.size+1+1),.string x.1.1,.string x.1.2,rM hp,rM hp,.pointer (some (d8 hp 5)),rM g,.bool false,rM hp,rM hp,.pointer (some (d8 hp 5)),rM g,.func (.func 172) #[] #[rM (w.heap.size+1)],.func (.func 172) #[] #[rM (w.heap.size+1)],.bool false,.func (.func 172) #[] #[rM (w.heap.size+1)],.string x.1.1,.string x.1.2,undef,undef,undef,undef,undef,undef,undef,undef,undef,undef,undef],defers:=[]})
  (λx z _ X aA row F _ _=>F)
  ?assign ?body ?done ?stop
 case assign=>
  have o9:=@Oper.semAt_some;rintro l a x W al ⟨⟨⟨v,hv,aC,_⟩,Ly⟩,G⟩ hK;gi_wp2;exact hK _ _ (KeepsFrom.refl _ _) (zH.refl _) ⟨⟨⟨v,hv,aC,trivial⟩,Ly⟩,G⟩ rfl
 case body=>
  have o9:=@Oper.semAt_some;rintro l a x z W eN _ ⟨⟨⟨v,hv,aC,_⟩,Ly⟩,hB⟩ rfl bP;have hc:=hv.cell;have wy:(kV a).length=a.length:=by unfold kV;rw[zzn]
  have HW:=ae (GA a x);have uU:(kV a).length<1000000000:=oE;clear wy;have⟨q,C⟩:=xY <|(kV a).length;have HQ:=ae C;rw[<-C]at aC uU;clear C;have iq:¬((q:Int)+1=0):=oE;gi_wp2_with (gi_at_builtin;apply mM _ rfl _ _ 44 rfl w.heap.size 102 i0 _ 2 32 underlying44 hi ad a8 ab rfl dN _ _ _ rfl (aC.alloc _) (dH W.heap.size) 1 1 [.string x.1.1,.string x.1.2] rfl rfl (cD _ #[.string x.1.1,.string x.1.2] _) (by intro u S;simp at S;obtain rfl|rfl:=S<;>rfl) mE oE (by have:=hB.size;simp;omega);intro v' L R K O;obtain⟨I,E,rfl⟩:=ownsRow_succ R;have⟨uJ,M,lQ,gT,U⟩:=hv.appended dN aC hB.size oE R K;have om:=uJ.cell;have bF:=uJ.frozen;have lI:=M.cell;have fE:Boxed (L.setCell (dH (w.heap.size+1+1)) (.slice (some (dH I)) (q+1) E)) w.heap.size 3 (.int .i64 0):=(Below.heap_setCell _ _ _ w.heap.size (by show w.heap.size≠w.heap.size+1+1;omega)).trans ((K.block w.heap.size (by have:=Ly.lt;simp;omega) (Ly.not_row dN aC)).trans ((zzf _ _ _ Ly.lt).trans Ly));have an:=fE.cell;have a1:Hid (zH 9 9 w.heap.size (w.heap.size+1+1) W (L.setCell (dH (w.heap.size+1+1)) (.slice (some (dH I)) (q+1) E))/\KeepsOthers W (L.setCell (dH (w.heap.size+1+1)) (.slice (some (dH I)) (q+1) E))):=⟨zH.appended hv dN dN K O U M,gT⟩;clear O);refine⟨a1.2.from _,a1.1,⟨⟨_,M,?_,trivial⟩,fE⟩,hB.trans U⟩;rw[HW.out,iK,zzi,<-HQ.out];exact lQ
 case done=>
  rintro D ys W hD QB ⟨⟨⟨v,hv,aC,_⟩,Ly⟩,hB⟩ hK;have hc:=hv.cell;have HE:Hid (kV ys=dy s.aS):=by show _=_;unfold kV;exact QB
  gi_wp2;refine⟨sE,.inl ⟨_,_,rfl,run_takeDeferred hK,?_⟩⟩;rw[HE.out]at aC;refine⟨.tuple #[v,.bool true],?_,v,rfl,ownsRow_putObj aC _ hK rfl,hB.trans (belowK_b (zzc _) W D _ _ oE hK rfl rfl)⟩;simp only[results,f38];simp[go_sem]
 case stop=>
  rintro D c a W _ _ h _;exact h.elim
end
def kz(w:World)(B hp p E a I J O U h bN m n:Nat)(s:ag)(l:aq)(d:ah):Prop :=
 w.heap[hp]?=some (gB p true (rM E))/\SL w B E a I J O m U p h bN n s l d/\(B<=E/\B<=I/\B<=J/\B<=O)
theorem kz.new{w w':World}{B hp p E a I J O U h bN m n:Nat}{s:ag}{l:aq}{d:ah}(e:kz w B hp p E a I J O U h bN m n s l d)(f:Fr [] w w'):kz w' B hp p E a I J O U h bN m n s l d/\lH E I J O U p w w':=by
 have⟨g,b,c⟩:=e;have⟨C,F⟩:=b.new f;exact⟨⟨F.cells b g dN dN dN dN dN dN,C,c⟩,F⟩
section
variable(B hp p E a I J O U h bN m n t:Nat)(seq:Int)(k:ByteArray)(s:ag)(l:aq)(d:ah)(w:World)
theorem Zp(v:ByteArray)(L:kz w B hp p E a I J O U h bN m n s l d)(A:2<=B)(K:Met w)(N:t<2^64)(hn:m+2<maxLen)(x:(s.aM t).state<=3)(M:(s.aM t).done<4611686018427387904):
  Calls prog 81 #[rM hp,.int .u64 (t:Int),.int .i64 seq,.string k,.string v] w λe w'=>e=.returned (.int .i64 ((s.aY t seq k ⟨1,v⟩).2:Int))/\kz w' B hp p E a I J O U h bN (m+2) n (s.aY t seq k ⟨1,v⟩).1 l d/\lH E I J O U p w w':=by
 have⟨f,c,i⟩:=L;have P:=c.CM;have D:=Yy E a I J O m t seq k s w v c.sh N hn x M;have⟨r,u⟩:∃r,r=s.aY t seq k ⟨1,v⟩:=⟨_,rfl⟩;rw[<-u]at D ⊢;have c5:=aa f 5;simp at c5;have H:=ae<|zzb f c;clear f c u x M
 go_enter func81,ntmps81;go_wp2_with fail;apply D.mono;clear D;rintro e z ⟨rfl,fZ,bF⟩;have⟨j,o⟩:=H.2.ops fZ bF;have q:=o.cells H.2 H.1 dN dN dN dN dN dN;have g:=o;have G:=(g.ie H.2 i).met A K;have b:=ae<|zzb q<|zzb j g;clear fZ bF j o q g c5;go_wp2_with fail;apply(jw r.2 z G).mono;rintro e w2 ⟨rfl,cA⟩;have⟨C,F⟩:=b.2.1.new cA;have y:Hid (kz w2 B hp p E a I J O U h bN (m+2) n r.1 l d/\lH E I J O U p w w2):=⟨⟨F.cells b.2.1 b.1 dN dN dN dN dN dN,C,i⟩,b.2.2.trans F⟩;clear C F cA;go_wp2;go_ret;exact⟨rfl,y.out⟩
theorem OB(K:kz w B hp p E a I J O U h bN m n s l d)(z:2<=B)(A:Met w)(L:t<2^64)(hn:m+2<maxLen)(v:(s.aM t).state<=3)(M:(s.aM t).done<4611686018427387904):
  Calls prog 83 #[rM hp,.int .u64 (t:Int),.int .i64 seq,.string k] w λe w'=>e=.returned (.int .i64 ((s.aY t seq k ⟨2,yA⟩).2:Int))/\kz w' B hp p E a I J O U h bN (m+2) n (s.aY t seq k ⟨2,yA⟩).1 l d/\lH E I J O U p w w':=by
 have⟨f,c,i⟩:=K;have N:=c.CM;have D:=NF E a I J O m t seq k s w c.sh L hn v M;have⟨r,u⟩:∃r,r=s.aY t seq k ⟨2,yA⟩:=⟨_,rfl⟩;rw[<-u]at D ⊢;have c5:=aa f 5;simp at c5;have H:=ae<|zzb f c;clear f c u v M
 go_enter func83,ntmps83;go_wp2_with fail;apply D.mono;clear D;rintro e y ⟨rfl,fZ,bF⟩;have⟨j,o⟩:=H.2.ops fZ bF;have q:=o.cells H.2 H.1 dN dN dN dN dN dN;have g:=o;have G:=(g.ie H.2 i).met z A;have b:=ae<|zzb q<|zzb j g;clear fZ bF j o q g c5;go_wp2_with fail;apply(jw r.2 y G).mono;rintro e w2 ⟨rfl,cA⟩;have⟨C,F⟩:=b.2.1.new cA;have x:Hid (kz w2 B hp p E a I J O U h bN (m+2) n r.1 l d/\lH E I J O U p w w2):=⟨⟨F.cells b.2.1 b.1 dN dN dN dN dN dN,C,i⟩,b.2.2.trans F⟩;clear C F cA;go_wp2;go_ret;exact⟨rfl,x.out⟩
theorem Zq(L:kz w B hp p E a I J O U h bN m n s l d)(z:2<=B)(K:Met w)(N:t<2^64)(A:k.size<=maxLen)(hn:m+2<maxLen)(v:(s.aM t).state<=3)(M:(s.aM t).done<4611686018427387904):
  Calls prog 79 #[rM hp,.int .u64 (t:Int),.int .i64 seq,.string k] w λe w'=>e=.returned (.tuple #[.string (s.get t seq k).2.1,.bool (s.get t seq k).2.2.1,.int .i64 ((s.get t seq k).2.2.2:Int)])/\kz w' B hp p E a I J O U h bN (m+2) n (s.get t seq k).1 l d/\lH E I J O U p w w':=by
 have⟨f,c,i⟩:=L;have P:=c.CM;have D:=Yz E a I J O m t seq k s w c.sh N A hn v M;have⟨r,u⟩:=xY <|s.get t seq k;rw[<-u]at D ⊢;have c5:=aa f 5;simp at c5;have H:=ae<|zzb f c;clear f c u v M
 go_enter func79,ntmps79;go_wp2_with fail;apply D.mono;clear D;rintro e y ⟨rfl,fZ,bF⟩;have⟨j,o⟩:=H.2.ops fZ bF;have q:=o.cells H.2 H.1 dN dN dN dN dN dN;have g:=o;have G:=(g.ie H.2 i).met z K;have b:=ae<|zzb q<|zzb j g;clear fZ bF j o q g c5;go_wp2_with fail;apply(jw r.2.2.2 y G).mono;rintro e w2 ⟨rfl,cA⟩;have⟨C,F⟩:=b.2.1.new cA;have x:Hid (kz w2 B hp p E a I J O U h bN (m+2) n r.1 l d/\lH E I J O U p w w2):=⟨⟨F.cells b.2.1 b.1 dN dN dN dN dN dN,C,i⟩,b.2.2.trans F⟩;clear C F cA;go_wp2;go_ret3;exact⟨rfl,x.out⟩
theorem G8(f:kz w B hp p E a I J O U h bN m n s l d)(g:k.size<=maxLen):
  Calls prog 45 #[rM hp,.string k] w λe w'=>e=.returned (.tuple #[.string<|(aj s.aS k).getD yA,.bool (aj s.aS k).isSome])/\∃q,w'=w.drewN q:=by
 have⟨c,b,i⟩:=f;have D:=CJ E a I J O m k s w b.sh g;have c5:=aa c 5;simp at c5;clear c b;go_enter func45,ntmps45;go_wp2_with fail;apply D.mono;clear D;rintro e j ⟨rfl,q,rfl⟩;go_wp2;go_ret2;exact⟨rfl,q,rfl⟩
theorem Kn(g:kz w B hp p E a I J O U h bN m n s l d)(i:s.af.length<=12):
  Calls prog 39 #[rM hp] w λe w'=>∃v ss,e=.returned v/\ss.Perm (s.af.map (·.1))/\ss.Pairwise (·<=·)/\w'.ownsRow w.heap.size 34 1 v (waits<|wW s.af ss).length (dh<|waits<|wW s.af ss)/\(v=.slice none 0 0↔waits (wW s.af ss)=[])/\Fr [] w w':=by
 have⟨c,b,j⟩:=g;have D:=Ge E a I J O m s w b.sh i;have c5:=aa c 5;simp at c5;clear c b;go_enter func39,ntmps39;go_wp2_with fail;apply D.mono;clear D;rintro e f ⟨v,ss,rfl,h1,h2,h3,h4,h5⟩;have H:=ae<|show ss.Perm (s.af.map (·.1))/\ss.Pairwise (·<=·)/\f.ownsRow w.heap.size 34 1 v (waits<|wW s.af ss).length (dh<|waits<|wW s.af ss)/\(v=.slice none 0 0↔waits (wW s.af ss)=[])/\Fr [] w f from ⟨h1,h2,h3,h4,Fr.bw h5 []⟩;clear h1 h2 h3 h4 h5;go_wp2;go_ret;exact⟨v,ss,rfl,H.out⟩
theorem VH(g:kz w B hp p E a I J O U h bN m n s l d)(q:s.aL+1<2^64):
  Calls prog 49 #[rM hp] w λe w'=>e=.returned (.tuple #[])/\kz w' B hp p E a I J O U h bN m n s.tick l d/\lH E I J O U p w w':=by
 have H:=ae g;have⟨f,c,v⟩:=g;have D:=QV E a I J O m s w c.sh q;have c5:=aa f 5;simp at c5;clear f c;go_enter func49,ntmps49;go_wp2_with fail;apply D.mono;clear D;rintro e j ⟨rfl,fZ,bF⟩;have⟨b,o⟩:=H.2.1.gR fZ bF (by intro k i;simp at i ⊢;obtain e|e|e:=i<;>simp[e]);have t:=o.cells H.2.1 H.1 dN dN dN dN dN dN;have r:=aa t 6;simp at r;have u:=ae<|show kz j B hp p E a I J O U h bN m n s.tick l d/\lH E I J O U p w j from ⟨⟨t,b,v⟩,o⟩;clear fZ bF b o t c5;go_wp2;go_end0;exact⟨rfl,u.out⟩
theorem Ss(f:kz w B hp p E a I J O U h bN m n s l d)(g:t<2^64):
  Calls prog 43 #[rM hp,.int .u64 (t:Int)] w λe w'=>e=.returned (.int .i64 ((s.aM t).state:Int))/\w'=w:=by
 have⟨c,b,i⟩:=f;have D:=ke E a I J O m t s w b.sh g;have c5:=aa c 5;simp at c5;clear c b;go_enter func43,ntmps43;go_wp2_with fail;apply D.mono;rintro e j ⟨rfl,rfl⟩;clear D;go_wp2;go_ret;exact⟨rfl,rfl⟩
theorem St(f:kz w B hp p E a I J O U h bN m n s l d)(b:m<=1000000000):
  Calls prog 38 #[rM hp,.int .i64 0] w λe w'=>∃v,e=.returned (.tuple #[v,.bool true])/\w'.ownsRow w.heap.size 102 2 v (dy s.aS).length (eA<|dy s.aS)/\Fr [] w w':=by
 have⟨g,c,i⟩:=f;apply((callsIn_wide).1<|Rj 9 (zzc _) hp p E a I J O m s w g c.sh b).mono;rintro e w' ⟨v,rfl,hr,jW⟩;exact⟨v,rfl,hr,Fr.bw jW _⟩
end
end Go.Proofs.YtdcafjmdfpjcbaaGreatDoor
