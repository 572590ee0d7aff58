import Derived.Test.YtcalalndmcemiaaGreatDoorC12
import Derived.Test.YtcalalndmcemiaaGreatDoorC13
set_option maxHeartbeats 4000000
set_option maxRecDepth 100000
namespace Go.Proofs.YtcalalndmcemiaaGreatDoor
open Go.RowKit Go.Maps Tryz Sc
section
open Go.Shelf
abbrev elV(g:ByteArray):List Value:=[.string g]
def G1(l:List ByteArray):List Value:=l.flatMap elV
theorem K4(l:List ByteArray)(g:ByteArray):G1 (l++[g])=G1 l++elV g:=by simp[G1]
theorem JK:∀(l:List ByteArray) (k:Nat) (g:ByteArray),l[k]?=some g->(G1 l)[k]?=some (.string g)
 |[],k,g,h=>by simp at h
 |x::l,0,g,h=>by simp at h;subst h;simp[G1]
 |x::l,k+1,g,h=>by
  have:=JK l k g (by simpa using h);simp only[G1,List.flatMap_cons]at this ⊢;simpa using this
theorem WE:(Tryz.prog.info? 9).map (λi=>(i.zero,i.size,i.bytes))=some (some<|.string ByteArray.empty,1,16):=dJ
def cX(L:List (ByteArray × ByteArray)):List (ByteArray × ByteArray):=(fK L).map λk=>(k,(ak L k).getD ByteArray.empty)
theorem aah(p:Option Addr)(n c:Nat)(w:World):(Builtin.len_ #[35] 3 #[.slice p n c]).run prog w=.ok (.int .i64 n) w:=by simp[Builtin.len_,run_underlying underlying35,goInt]
theorem xZ(n:Nat)(hn:6<=n)(l D b m:Nat)(L:List<|ByteArray×ByteArray)(hm:m<=67108864)(W:World)(Kp:World->World->Prop)(P:Nat->World->Prop)
  (gl:∀k A,W.heap.size<=k->Below W.heap.size W A->P k A)
  (jo:∀k A B c t,(t=9\/t=9)->Kp A B->A.heap[k]?=some (.cells c t (0,0))->P k A->B.heap[k]?=A.heap[k]?/\P k B)
  (J Jx:List (ByteArray×ByteArray)->World->Prop)
  (hJ:∀s A B,J s A->A.grownBy B none->J s B)
  (hY:∀o x W1,J o W1->o.length<L.length->o++[x]<+:cX L->YieldAt Fence.wide (n-1) prog l #[.string x.1,.string x.2] W1 λe E=>
   (e=.returned (.bool true)/\J (o++[x]) E/\Kp W1 E)\/(e=.returned (.bool false)/\Jx (o++[x]) E))
  (lR:W.cell? ⟨D,0,none⟩=some (.map<|some b)) (X:aO KS ES W b m L) (h0:J [] W) :
  CallsIn Fence.wide n prog 207 #[.func (.yield l) #[] #[],.pointer<|some ⟨D,0,none⟩] W λe E=>(∃v,e=.returned v) /\
   ((∃ys,ys=cX L/\J ys E)\/(∃o,o<+:cX L/\Jx o E)):=by
 have tM:=zzF W (gz D) lR;have⟨cK,cS⟩:=D' (n-1) bL b m L W X hm;have⟨i0,hi,aa,ab,ad⟩:=info_parts WE;have an:Fence.wide.fn 209:=trivial;have ao:Fence.wide.fn 208:=trivial;have Ox:Fence.wide.fn 207:=trivial;have a8:Fence.wide.round=none:=rfl;have h1:1<=n:=bL
 have Oy:=aah;have MY:=X.len;have HL:=af X;have HB:=af<|zzb tM lR;have⟨a,Eb⟩:=gb L.length;have M:=af Eb;rw[<-Eb]at cS MY;have WC:a<=67108864:=bL
 clear X Eb;refine callsIn_of_wp func207 rfl Ox ?_ a8;simp only[ntmps207,mB,zzr,mH,Nat.reduceAdd,Nat.reduceSub,mK,mL,nb,nU,n5,qC];gi_wp2_with (first
  |(gi_at_call 209;apply cK.mono;rintro e w0 ⟨rfl,rfl⟩)
  |(gi_at_call 208;apply cS.mono;rintro e w ⟨v,rfl,I,dM,cG⟩;obtain⟨Z,U,rfl⟩:=hZ I;have H:Hid (w.ownsRow W.heap.size 9 1 (.slice Z a U) a ((fK L).map Value.string)/\(Value.slice Z a U=.slice none 0 0↔a=0)):=⟨I,dM⟩;clear I dM))
 clear cK cS;have F:=af cG;have Ry:Hid (∀A,Below W.heap.size W A->J [] A):=λA K=>hJ [] W A h0 ⟨K.os,K.tape,K.output,K.size,λk z _=>K.block k z⟩
 clear cG lR;by_cases td:a=0
 .subst td;obtain⟨rfl,rfl⟩:Z=none/\U=0:=by simpa using H.2.2 rfl
  clear H;have HE:Hid (cX L=[]):=by show _=_;have:=M.out;rw[List.length_eq_zero_iff.1 this.symm];simp[cX,fK]
  gi_loopw [14] (λi wr=>i=.int .i64 0/\wr=w) (λ_ _=>0);case atStart=>exact⟨rfl,rfl⟩
  case round=>
   obtain⟨rfl,rfl⟩:=hrel;gi_wp2;gi_loopw [27] (λi WD=>i=.int .i64 0/\WD=wr) (λ_ _=>0);case atStart=>exact⟨rfl,rfl⟩
   case round=>
    obtain⟨rfl,rfl⟩:=hrel;gi_wp2;go_end0;exact⟨⟨_,rfl⟩,.inl ⟨_,rfl,by rw[HE.out];exact Ry.out _ F.out⟩⟩
 obtain⟨g,rfl⟩:∃g,Z=some ⟨g,0,none⟩:=by have⟨g,V,e⟩:=jb H.1 bL;exact⟨g,by simp at e;exact e.1⟩
 have I:=H.1;have T:Hid (∃r,w.heap[g]?=some (.cells r 9 (0,0))/\W.heap.size<=g/\∀(k:Nat) (x:ByteArray),(fK L)[k]?=some x->r[k]?=some (Value.string x)):=by
  rcases I.2 with⟨_,h3⟩|⟨g',V,r,e,hb,q,_,_,a1,Y⟩
  .omega
  .obtain⟨e1,e2⟩:g=g'/\U=V:=by simpa using e
   subst e1;refine⟨r,q,hb,λk x z=>?_⟩;have xE:k<a:=by have:=(zzd.1 z).1;rw[dR]at this;have:=M.out;omega
   have:(r.toList.take<|a*1)[k]?=some (.string x):=by rw[Y,zzy,z];rfl
   rw[List.getElem?_take_of_lt bL]at this;simpa using this
 clear I H;have⟨f,GX⟩:∃f:List ByteArray,f=(fK L).map λk=>(ak L k).getD yA:=⟨_,rfl⟩
 have HV:=af GX;clear GX;have HG:Hid (g<w.heap.size):=by have⟨r,q,_⟩:=T.out;exact(zza.1 q).1
 gi_loopw [14,4] (λi v wr=>∃k:Nat,k<=a/\i=.int .i64 k/\Hid (wr.ownsRow w.heap.size 9 1 v k (G1<|f.take k)/\Below w.heap.size w wr))
  (λi _ _=>a-(intOf i).toNat)
 case atStart=>exact⟨0,zzs _,rfl,zzu _ _ _ _,zzD _ _⟩
 case round=>
  obtain⟨k,z,rfl,R⟩:=hrel;by_cases bU:k<a
  .obtain⟨x,hx⟩:∃x,(fK L)[k]?=some x:=⟨_,zzg<|by rw[dR];have:=M.out;omega⟩;have⟨y,C⟩:∃y,y=(ak L x).getD yA:=⟨_,rfl⟩;have d:=F.out.trans<|R.2.mono F.out.size
   have ck:wr.cell? (hO g k)=some (.string x):=by
    have⟨r,q,_,hc⟩:=T.out;have:=(R.2.block g HG.out).trans q;rw[ay this];exact hc k x hx
   have cB:=(d.cell HB.1).trans HB.2;have Sr:x.size<=maxLen:=by
    have⟨v',a'⟩:=qX.1<|zzh hx;have⟨_,_,_,_,bB⟩:=HL.out;exact(bB _ a').1
   have my:=(HL.out.fr (S:=[]) ⟨d.os,d.tape,d.output,d.size,λk z _=>d.block k z⟩ (by simp)).look underlying135 (JH wr) (by show(0:Nat)<=maxLen;omega) Sr;rw[<-C]at my;have HY:=af<|zzb C hx;clear C hx
   change (Instr.lookup _ _ (.string x) false).run _ _=.ok (.string y) _ at my;have a1:=R.2.size;have a7:k<((fK L).map λk=>(ak L k).getD yA).length:=by rw[zzn,dR];have:=M.out;omega
   have HT:Hid (f.take (k+1)=f.take k++[y]):=by
    show _=_;rw[HV.out,List.take_add_one,zzy,HY.2,HY.1];rfl
   clear a7;gi_wp2_with (gi_at_builtin;apply wpListIn_append_own _ rfl _ _ 35 rfl w.heap.size 9 i0 _ 1 16 underlying35 hi aa ab ad rfl bM _ k _ rfl (R.1.alloc _) (gz wr.heap.size) 1 1 (elV y) rfl rfl (dU _ #[.string y] _) (by intro u hu;simp[elV]at hu;subst hu;rfl) eA bL cE;intro v' w2 bw bP _);go_roundw;case rel=>
    refine⟨k+1,bL,bR,by rw[HT.out,K4];exact bw,?_⟩;exact((R.2.alloc a1 _).grown bP cE λj N=>(R.1.lt j N).1)
   case measure=>simp[intOf];omega
  .obtain rfl:k=a:=bL;obtain⟨h,GY,rfl⟩:=jb R.1 bL;have Oz:Hid (∃O,wr.heap[h]?=some (.cells O 9 (0,0))/\W.heap.size<=h/\∀(j:Nat) (y:ByteArray),f[j]?=some y->O[j]?=some (Value.string y)):=by
    rcases R.1.2 with⟨_,h3⟩|⟨g',V,r,e,hb,q,_,_,a1,Y⟩
    .omega
    .obtain⟨e1,e2⟩:h=g'/\GY=V:=by simpa using e
     subst e1;have UM:f.length=k:=by rw[HV.out,zzn,dR,M.out]
     refine⟨r,q,zzk F.out.size hb,λj y N=>?_⟩;have K3:j<k:=by have:=(zzd.1 N).1;omega
     have e3:f.take k=f:=zzt bL;rw[e3]at Y;have eW:=JK f j y N;rw[<-Y]at eW;rw[List.getElem?_take_of_lt bL]at eW;simpa using eW
   have⟨r,JJ,Rz,a6⟩:=T.out;have⟨O,xX,GZ,xY⟩:=Oz.out;have g_:=(R.2.block g HG.out).trans JJ;have d:=F.out.trans<|R.2.mono F.out.size;have HC:=af<|zzb a6 xY;have HS:=af<|zzb (Ry.out _ d)<|zzb g_<|zzb (gl _ _ Rz d)<|zzb xX<|gl _ _ GZ d;clear T Oz JJ a6 xX xY g_ d gl
   gi_wp2;gi_loopw [27] (λi wr=>∃j:Nat,j<=k/\i=.int .i64 j/\Hid (J ((cX L).take j) wr/\wr.heap[g]?=some (.cells r 9 (0,0))/\P g wr/\wr.heap[h]?=some (.cells O 9 (0,0))/\P h wr))
    (λi _=>k-(intOf i).toNat)
   case atStart=>exact⟨0,zzs _,rfl,by rw[List.take_zero];exact HS.out⟩
   case round=>
    obtain⟨j,N,rfl,Q⟩:=hrel;by_cases qf:j<k
    .obtain⟨x,hx⟩:∃x,(fK L)[j]?=some x:=⟨_,zzg<|by rw[dR];have:=M.out;omega⟩;have⟨y,C⟩:∃y,y=(ak L x).getD yA:=⟨_,rfl⟩;have wK:f[j]?=some y:=by rw[HV.out,zzy,hx,C];rfl
     have MZ:Hid ((cX L).take (j+1)=(cX L).take j++[(x,y)]):=by
      show _=_;rw[List.take_add_one];unfold cX;rw[zzy,hx,C];rfl
     have cx:wr.cell? (hO g j)=some (.string x):=by rw[ay Q.2.1];exact HC.1 j x hx
     have al:wr.cell? (hO h j)=some (.string y):=by rw[ay Q.2.2.2.1];exact HC.2 j y wK
     have⟨fn,tmps,assign,body,NP,xj⟩:=hY _ (x,y) wr Q.1 (by rw[zzm,<-M.out];omega) (by rw[<-MZ.out];exact List.take_prefix _ _);clear hx C wK;gi_wp2;apply xj.mono;rintro e G (⟨rfl,rP,kW⟩|⟨rfl,uX⟩)
     .have p1:=jo _ _ _ _ _ (.inl rfl) kW Q.2.1 Q.2.2.1;have p2:=jo _ _ _ _ _ (.inr rfl) kW Q.2.2.2.1 Q.2.2.2.2;have HN:Hid (J ((cX L).take<|j+1) G/\G.heap[g]?=some (.cells r 9 (0,0))/\P g G/\G.heap[h]?=some (.cells O 9 (0,0))/\P h G):=⟨by rw[MZ.out];exact rP,p1.1.trans Q.2.1,p1.2,p2.1.trans Q.2.2.2.1,p2.2⟩;clear p1 p2 rP kW
      gi_wp2;go_roundw;case rel=>exact⟨j+1,bL,bR,HN.out⟩
      case measure=>simp[intOf];omega
     .gi_wp2;apply bodyPost_ret (results_none rfl _ _ _) rfl;exact⟨⟨_,rfl⟩,.inr ⟨_,by rw[<-MZ.out];exact List.take_prefix _ _,uX⟩⟩
    .obtain rfl:j=k:=bL;gi_wp2;go_end0;refine⟨⟨_,rfl⟩,.inl ⟨_,?_,Q.1⟩⟩;rw[zzt];unfold cX;rw[zzn,dR,M.out];exact zzc _
theorem z_(n:Nat)(hn:6<=n)(f b m:Nat)(L:List (ByteArray × ByteArray))(Q:ByteArray × ByteArray->Prop)(M:∀x∈cX L,Q x)(T:m<=67108864)(w:World)(tM:f<w.heap.size)(Z:w.cell? ⟨f,0,none⟩=some (.map (some b)))(I:aO KS ES w b m L)
  (K:World->World->Prop) (P:Nat->World->Prop)
  (F:∀W k A,Below w.heap.size w W->W.heap.size<=k->Below W.heap.size W A->P k A)
  (X:∀k A B c t,(t=9\/t=9)->K A B->A.heap[k]?=some (.cells c t (0,0))->P k A->B.heap[k]?=A.heap[k]?/\P k B) :
  SeqStopsK Fence.wide n prog 207 #[.pointer (some ⟨f,0,none⟩)] (λy:{ x:ByteArray × ByteArray // Q x }=>#[.string y.1.1,.string y.1.2]) K (λu=>u.map (·.1)=cX L) (λ_=>True) L.length w:=λl J v W d H _ Y G=>by
 have h:=xZ n hn l f b m L T W K P (λk A=>F W k A d) X (λi W=>∃g:List { x:ByteArray × ByteArray // Q x },g.map (·.1)=i/\J g W) (λi W=>∃g:List { x:ByteArray × ByteArray // Q x },g.map (·.1)=i/\v g W)
  (λs A B hs E=>by obtain⟨a,e,j⟩:=hs;exact⟨a,e,H a A B none j E (λr e=>by cases e)⟩)
  (λi x C j U N=>by
   obtain⟨a,e,j⟩:=j;have o:Q x:=M x (N.subset bR);obtain⟨D,tmps,assign,body,V,R⟩:=Y a ⟨x,o⟩ C j (by rw[<-e,zzn] at U;exact U);refine⟨D,tmps,assign,body,V,R.mono ?_⟩;rintro q z (⟨r1,r2,r3⟩|⟨r1,r2⟩)
   .exact .inl ⟨r1,⟨a++[⟨x,o⟩],by simp[e],r2⟩,r3⟩
   .exact .inr ⟨r1,⟨a++[⟨x,o⟩],by simp[e],r2⟩⟩)
  ((d.cell (p:=⟨f,0,none⟩) tM).trans Z) (I.fr (S:=[]) ⟨d.os,d.tape,d.output,d.size,λk O _=>d.block k O⟩ bR) ⟨[],rfl,G⟩
 refine h.mono ?_;rintro e z ⟨he,⟨u,rfl,a,q,j⟩|⟨i,_,a,_,j⟩⟩
 .exact⟨he,.inl ⟨a,q,j⟩⟩
 .exact⟨he,.inr ⟨a,trivial,j⟩⟩
theorem x_(n:Nat)(b:Nat)(w:World):
  CallsIn Fence.wide n prog 160 #[.map<|some b] w λe w'=>e=.returned (.func (.func 207) #[] #[.pointer<|some ⟨w.heap.size,0,none⟩])/\w'=w.alloc (.cells #[.map<|some b] 135):=by
 refine callsIn_of_wp func160 rfl trivial ?_ rfl;simp only[ntmps160,mB,zzr,mH,Nat.reduceAdd,Nat.reduceSub,mK,mL,nb,nU,n5,qC];gi_wp2;go_ret;exact⟨rfl,rfl⟩
end
variable{ps:List Nat}{H T V b lg n p:Nat}{w:World}{s:ag}
theorem a_.Xi(h:a_ w p lg V T H n s)(t:s.aC+1<18446744073709551616):a_ (w.setCell ⟨p,4,none⟩ (.int .u64 ((s.aC:Int)+1))) p lg V T H n { s with aC:=s.aC+1 }:=by
 have hf:Fr [p] w (w.setCell ⟨p,4,none⟩ (.int .u64 ((s.aC:Int)+1))):=Fr.cD (by simp) _ _;obtain⟨_,_,_,_,a,b,c⟩:=h.eY;refine { blk:=?_,aM:=h.aM.fr hf (by simp;exact λe=>a e.symm),ai:=h.ai.fr hf (by simp;exact λe=>b e.symm),holds:=h.holds.fr hf (by simp;exact λe=>c e.symm),ne:=h.ne,aC:=t };have:=ar h.blk 4 (.int .u64 ((s.aC:Int)+1));simp at this;exact this
theorem O'(a lg V T H n:Nat)(s:ag)(w:World)(h:a_ w a lg V T H n s)(t:s.aC+1<18446744073709551616):
  Calls prog 141 #[.pointer (some ⟨a,0,none⟩)] w λe w'=>e=.returned (.tuple #[])/\a_ w' a lg V T H n s.tick/\Fr [a,T,H] w w':=by
 have I:=af h;have c2:=ae h.blk 2;have c4:=ae h.blk 4;have g:=aj h.blk 4;simp at c2 c4;have o:=h.eY.1;have z:¬a=w.heap.size:=by omega
 have m:¬w.heap.size=a:=by omega
 have j:IntKind.u64.wrap ((s.aC:Int)+1)=(s.aC:Int)+1:=by rw[IntKind.wrap_u64];omega
 clear h
 go_enter func141,ntmps141
 go_wp2_with fail;have y:(w.setCell ⟨a,4,none⟩ (.int .u64 ((s.aC:Int)+1))).heap.size=w.heap.size:=by simp
 have E:=heap_alloc_new (w.setCell ⟨a,4,none⟩ (.int .u64 ((s.aC:Int)+1))) (.cells #[.pointer (some ⟨a,0,none⟩)] 75);rw[y] at E;have i:=I.out.eY.2.2.1;refine(ED w.heap.size a lg V T H n { s with aC:=s.aC+1 } _ ((I.out.Xi t).fr ((Fr.refl [] _).alloc _) (by simp) (by simp) (by simp) (by simp)) E).mono ?_;rintro e c ⟨rfl,df,bh⟩;have f:Hid (Fr [a,T,H] w c):=((Fr.cD (S:=[a,T,H]) (w:=w) (p:=a) (by simp) 4 (.int .u64 ((s.aC:Int)+1))).alloc _).trans (bh.mono (by intro k _ b;simp at b;simp[b]));have G:c.heap[w.heap.size]?=some (.cells #[.pointer (some ⟨a,0,none⟩)] 75):=(bh.block w.heap.size (by simp) (by simp;omega)).trans E;have d:=ae G 0;simp at d;have r:=vW a lg V T H n _ c df;clear df bh G E y;go_wp2_with fail;refine r.mono ?_;rintro e l ⟨rfl,dT,aQ⟩;have B:=af dT;clear dT r;go_wp2;go_end0;exact⟨rfl,B.out,f.out.trans (aQ.mono (by intro k _ b;simp at b;simp[b]))⟩
def idxOf(q:Nat->Bool)(ps:List Nat):Int:=if ps.any q then (ps.findIdx q:Int) else -1
theorem OY{q:Nat->Bool}(h:ps.length=9):ps.any q=false↔∀k,k<9->q (ps.getD k 0)=false:=by
 rw[List.any_eq_false];constructor
 .intro hx k a;have e:ps.getD k 0=ps[k]' bL:=by simp[h,a]
  rw[e];simpa using hx _ (List.getElem_mem bL)
 .intro hx x hm;obtain⟨k,a,rfl⟩:=List.mem_iff_getElem.1 hm;have:=hx k bL;have e:ps.getD k 0=ps[k]:=by simp[a]
  rw[e]at this;simp[this]
theorem Cs{q:Nat->Bool}(h:ps.length=9){k:Nat}(f:k<9)(b:q (ps.getD k 0)=true)(c:∀j,j<k->q (ps.getD j 0)=false):idxOf q ps=(k:Int):=by
 have e:∀j,(a:j<ps.length)->ps.getD j 0=ps[j]:=λj a=>by simp[a]
 have d:ps.any q=true:=by
  rw[List.any_eq_true];exact⟨ps[k]' bL,List.getElem_mem bL,by rw[<-e k bL];exact b⟩
 unfold idxOf;rw[if_pos d];congr 1;rw[List.findIdx_eq bL];exact⟨by rw[<-e k bL];exact b,λj a=>by rw[<-e j bL];exact c j a⟩
abbrev Ct(f:Nat):Value:=.func (.func f) #[] #[]
def Enters(f:Nat):Prop:=∀args w,(callFunc f args).run prog w=.ok (.enter f args) w
theorem SM(f:Nat)(q:Nat->Bool)(n:rR f q)(r:Enters f)(b:Nat)(ps:List Nat)(l:ps.length=9)(o:∀p∈ps,p<256)(w:World)(c:∀k,k<9->w.cell? ⟨b,1+k,none⟩=some (.int .u8 ((ps.getD k 0:Nat):Int))):
  Calls prog 338 #[.slice (some ⟨b,1,none⟩) 9 9,Ct f] w λe w'=>e=.returned (.int .i64<|idxOf q ps)/\w'=w:=by
 have C:=af c;clear c;go_enter func338,ntmps338;go_wp2;go_loopw [8] (λi wr=>∃k:Nat,k<=9/\i=.int .i64 k/\wr=w/\Hid (∀j,j<k->q (ps.getD j 0)=false)) (λi _=>9-(intOf i).toNat);case atStart=>exact⟨0,zzs _,rfl,rfl,λj m=>bL⟩
 case round=>
  obtain⟨k,s,rfl,rfl,H⟩:=hrel;by_cases U:k<9
  .have i9:(k:Int)<9:=bL;have t:(0:Int)<=k:=bL;have g:=C.out k U;have Z:=n (ps.getD k 0) wr (by
    by_cases x:ps.getD k 0∈ps
    .exact o _ x
    .exact absurd (by simp[l,U]:ps.getD k 0∈ps) x)
   have⟨P,h⟩:=gb <|ps.getD k 0;rw[<-h]at g Z;have a:=af h;clear h;unfold Enters at r;go_wp2_with fail;apply Z.mono;rintro e u ⟨rfl,rfl⟩;cases d:q P with
   |true=>
    go_wp2;go_ret;exact⟨by rw[Cs l U (by rw[<-a.out];exact d) H.out];rfl,rfl⟩
   |false=>
    go_wp2;go_roundw;case rel=>exact⟨k+1,bL,bR,bR,λj m=>by
     by_cases e:j=k
     .rw[e,<-a.out];exact d
     .exact H.out j bL⟩
    case measure=>simp[intOf];omega
  .obtain rfl:k=9:=bL;go_wp2;go_ret;refine⟨?_,rfl⟩;unfold idxOf;rw[if_neg<|by rw[(OY l).2 H.out];decide];rfl
theorem Cu(f:Nat)(q:Nat->Bool)(m:rR f q)(U:Enters f)(b:Nat)(ps:List Nat)(l:ps.length=9)(d:∀p∈ps,p<256)(w:World)(c:∀k,k<9->w.cell? ⟨b,1+k,none⟩=some (.int .u8 ((ps.getD k 0:Nat):Int))):
  Calls prog 314 #[.slice (some ⟨b,1,none⟩) 9 9,Ct f] w λe w'=>e=.returned (.bool<|ps.any q)/\w'=w:=by
 have i:=SM f q m U b ps l d w c;clear c d m U;by_cases h:ps.any q=true
 .have e:idxOf q ps=(ps.findIdx q:Int):=by unfold idxOf;rw[if_pos h]
  rw[e]at i;rw[h];clear e h;have g:(0:Int)<=(ps.findIdx q:Int):=bL;have⟨I,a⟩:∃I:Int,I=(ps.findIdx q:Int):=⟨_,rfl⟩;rw[<-a]at i g;clear a;go_enter func314,ntmps314;go_wp2_with fail;apply i.mono;rintro e j ⟨rfl,rfl⟩;go_wp2;go_ret;exact⟨bR,rfl⟩
 .have e:idxOf q ps=-1:=by unfold idxOf;rw[if_neg h]
  rw[e]at i;have hf:ps.any q=false:=by simpa using h
  rw[hf];clear e h hf;go_enter func314,ntmps314;go_wp2_with fail;apply i.mono;rintro e j ⟨rfl,rfl⟩;go_wp2;go_ret;exact⟨rfl,rfl⟩
theorem O0{t:fe}(h:w.heap[b]?=some (.cells (G_ t).toArray 128 (0,0)))(c:t.Ok):∀k,k<9->w.cell? ⟨b,1+k,none⟩=some (.int .u8 ((t.parts.getD k 0:Nat):Int)):=by
 intro k a;have:=ae h<|1+k;rw[this];have⟨s,ps,z⟩:=t;obtain⟨p,d,e,f,g,i,j,l,m,rfl⟩:=nine c.1;obtain rfl|rfl|rfl|rfl|rfl|rfl|rfl|rfl|rfl:=Cn a<;>rfl
theorem q_(f:Nat)(q:Nat->Bool)(m:rR f q)(U:Enters f)(t:fe)(a:t.Ok)(w:World):
  Calls prog 281 #[kO t,Ct f] w λe w'=>e=.returned (.bool<|t.parts.any q)/\Fr [] w w':=by
 have⟨W,h⟩:=gb <|w.alloc (.cells (G_ t).toArray 128);have hb:W.heap[w.heap.size]?=some (.cells (G_ t).toArray 128 (0,0)):=by rw[h];exact heap_alloc_new w _
 have i:=Cu f q m U w.heap.size t.parts a.1 a.2 W<|O0 hb a;have F:Hid (Fr [] w W):=by rw[h];exact(lT w).alloc _
 clear m U hb;have⟨A,b⟩:=gb <|t.parts.any q;rw[<-b]at i ⊢;clear b;have⟨s,ps,z⟩:=t;obtain⟨p,c,d,g,j,k,l,n,o,rfl⟩:=nine a.1;rw[bE];go_enter func281,ntmps281;go_wp2_with fail;have O:W=w.alloc (.cells #[.int .i64 (s:Int),.int .u8 (p:Int),.int .u8 (c:Int),.int .u8 (d:Int),.int .u8 (g:Int),.int .u8 (j:Int),.int .u8 (k:Int),.int .u8 (l:Int),.int .u8 (n:Int),.int .u8 (o:Int),.int .u64 (z:Int),.nilIface] 128):=h;rw[<-O];clear h O;apply i.mono;rintro e r ⟨rfl,rfl⟩;go_wp2;go_ret;exact⟨rfl,F.out⟩
theorem a_.JW{w':World}{m:Nat}{v:List (ByteArray×ByteArray)}(h:a_ w p lg V T H n s)(hf:Fr [V] w w')(a:aO KS ES w' V m v)(hn:n<=m):a_ w' p lg V T H m {s with aM:=v}:=
 {blk:=(hf.block p h.eY.1 (by simp;exact h.eY.2.2.2.2.1)).trans h.blk
  aM:=a
  ai:=(h.ai.fr hf<|by simp;exact λe=>h.ne.1 e.symm).mono hn
  holds:=(h.holds.fr hf<|by simp;exact λe=>h.ne.2.1 e.symm).mono hn
  ne:=h.ne
  aC:=h.aC}
theorem aO.fA{K V:Type}[DecidableEq K]{d t e:TypeId}{KR:iD prog K d}{ER:kK V}{l:List (K×V)}(h:aO KR ER w b n l)(g:Tryz.prog.underlying t=some (.map d e))(hn:n<maxLen){k:K}(a:KR.ok k){v:V}(c:ER.ok v):
  ∃w',(Instr.mapUpdate t (.map<|some b) (KR.kv k)<|ER.ev v).run prog w=.ok () w'/\aO KR ER w' b (n+1) (aV l k v)/\w.grownBy w' (some b):=by
 have⟨j,o,p,f,B⟩:=h;have⟨w',r,s,i⟩:=o.store KR.law g hn (KR.key k a)<|ER.made v c;exact⟨w',r,aO.UL p f B a c s,i.grown⟩
def im(g:Option aK)(d:Option ByteArray):Option ByteArray :=
 match g with
 |none=>d
 |some g=>if g.way=1 then some g.val else if g.way=2 then none else d
theorem Bc(f lg V T H n t c:Nat)(s:ag)(w:World)(h:a_ w f lg V T H n s)(ht:t<18446744073709551616)(hn:n+c<maxLen)
  (C:∀L:List<|ByteArray×aK,b_ L->(∀k,ak L k=ak s.holds (t,k))->L.length<=c) (hv:∀p∈s.holds,p.2.val.size<=maxLen) :
  Calls prog 171 #[.pointer<|some ⟨f,0,none⟩,.int .u64 (t:Int)] w λe w'=>e=.returned (.tuple #[])/\∃a,a_ w' f lg V T H (n+c) (ag.forget {s with aM:=a} t)/\(∀k,ak a k=im (ak s.holds (t,k)) (ak s.aM k))/\Fr [V,T,H] w w':=by
 have I:=af h;have c1:=ae h.blk 1;simp at c1;have S:=mU f lg V T H n t s w h ht bL;clear h
 go_enter func171,ntmps171
 go_wp2_with fail;apply S.mono;clear S;rintro e d ⟨b,L,rfl,hb,hL,my,bh⟩;have r:=af hL;have E:Hid (a_ d f lg V T H n s):=I.out.fr bh bR bR bR bR;have kV:=af bh;have J:=af my;clear hL bh my;go_wp2_with (first
  |(at_range;apply fq rfl _ 262 134 rfl underlying262 b n L rfl r.out;intro w0 jD D xk)
  |fail)
 go_frame
 have O5:Hid (Fr [V] d w0):=(Fr.bz D).mono (by simp);have Gx:=af jD;have a7:Hid (aO KS ES w0 V n s.aM):=E.out.aM.fr (Fr.bz D) bR;have an:L.length<=c:=by have⟨_,_,_,z,_⟩:=r.out;exact C L z J.out
 have ao:=I.out.eY.2.1;have nQ:=r.out.lt;have a':b≠V:=bL;have HC:=af C;have a8:=af hv;clear jD D C hv;go_loopw [4] (λ_ wr=>∃rem a m,Hid<|aY KS EG wr b d.heap.size n L rem/\aO KS ES wr V m a/\m+rem.length<=n+L.length/\(∀k,ak a k=if (ak rem k).isSome=true then ak s.aM k else im (ak s.holds (t,k)) (ak s.aM k))/\Fr [V] d wr/\d.heap.size+1<=wr.heap.size) (λ_ wr=>wr.rangeLeft b d.heap.size)
 case atStart=>
  refine⟨L,s.aM,n,Gx.out,a7.out,zzc _,λk=>?_,O5.out,bL⟩;have:=J.out k
  cases e:ak L k with
  |none=>rw[e]at this;rw[<-this];rfl
  |some v=>rfl
 case round=>
  have⟨rem,a,m,X⟩:=hrel;have Z:=X.1;go_wp2_with (first
   |(at_next;refine fN rfl _ rfl b d.heap.size n L rem rfl Z ?_ ?_)
   |go_in)
  .intro dM;have je:=E.out.JW X.2.2.2.2.1 (X.2.1.mono (n':=n+c)<|by have:=X.2.2.1;omega) (by omega);have zG:=kz f lg V T H (n+c) t _ wr je ht;clear je Z;go_wp2_with fail;apply zG.mono;rintro e w5 ⟨rfl,iz,cO⟩;have EH:=af iz;have a1:=af cO;clear iz cO zG;go_wp2;go_end0;refine⟨rfl,a,EH.out,λk=>?_,((kV.out.mono bR).trans<|X.2.2.2.2.1.mono<|by intro k _ l;simp at l;simp[l]).trans<|a1.out.mono<|by intro k _ l;simp at l;obtain rfl|rfl:=l<;>simp⟩;rw[X.2.2.2.1 k,dM];rfl
  .intro k x w2 hm kZ bU fc dT iU;have F:(k,x)∈L:=by
    have⟨_,_,_,_,_,_,_,_,h6,_⟩:=Z;exact h6 _ hm
   have B:k.size<=maxLen:=by
    have⟨_,_,_,_,B⟩:=Z.owns;exact(B _ F).1
   have Cw:Hid (b_ L):=by obtain⟨_,_,_,z,_⟩:=Z.owns;exact z
   have K:=af<|(J.out k).symm.trans<|cP Cw.out F;have ad:x.val.size<=maxLen:=a8.out _<|bZ K.out;have M:Hid (Fr [V] d w2):=X.2.2.2.2.1.andThen (Fr.aF fc) (λj hj R=>by simp at hj;omega);have u:Hid (aO KS ES w2 V m a):=X.2.1.fr (Fr.aF fc)<|by simp;have:=E.out.eY.2.1;omega
   have Xg:m<maxLen:=by
    have g:=kP hm;have i:=X.2.2.1;omega
   have a6:=af<|kP hm;have ab:=ae ((M.out.block f E.out.eY.1<|by simp;exact E.out.eY.2.2.2.2.1).trans E.out.blk) 1;simp at ab;have al:f<w2.heap.size:=zzl E.out.eY.1 M.out.size;have z1:¬f=w2.heap.size:=bL
   have l0:d.heap.size+1<=w2.heap.size:=by have:=X.2.2.2.2.2;omega
   have O6:(Instr.entry<|.pointer<|some ⟨d.heap.size,0,none⟩).run prog w2=.ok (.tuple #[.string k,.agg #[.int .u8 (x.way:Int),.string x.val]]) w2:=iU
   have O:Hid (∀W o m',Fr [V] w2 W->aO KS ES W V m' o->m'<=m+1->(∀j,ak o j=if j=k then im (some x) (ak s.aM k)else ak a j) ->
     (∃rem a m,Hid (aY KS EG W b d.heap.size n L rem/\aO KS ES W V m a/\m+rem.length<=n+L.length/\(∀k,ak a k=if (ak rem k).isSome=true then ak s.aM k else im (ak s.holds (t,k)) (ak s.aM k))/\Fr [V] d W/\d.heap.size+1<=W.heap.size))/\W.rangeLeft b d.heap.size<wr.rangeLeft b d.heap.size):=λW o m' A hM tC R=>by
    obtain⟨r1,r2⟩:=kZ.fr A (by simp;exact a') (by simp;have:=E.out.eY.2.1;omega);refine⟨⟨aT rem k,o,m',r1,hM,by have:=a6.out;have:=X.2.2.1;omega,λj=>?_,M.out.trans A,zzk l0 A.size⟩,by rw[r2];exact bU⟩;rw[R j,fY];by_cases e:j=k
    .subst e;rw[if_pos rfl,if_pos rfl,K.out];rfl
    .rw[if_neg e,if_neg e];exact X.2.2.2.1 j
   have aa:Hid (ak a k=ak s.aM k):=by
    have e:=X.2.2.2.1 k;rw[cP (by obtain⟨_,_,_,_,_,_,_,h5,_⟩:=Z;exact h5) hm]at e;exact e
   clear Z kZ hm F iU fc dT bU c1;by_cases g:x.way=1
   .have hb:((x.way:Int)==1)=true:=by simp[g]
    have Q:(x.way:Int)=1:=bL;have G:Hid (im (some x) (ak s.aM k)=some x.val):=by unfold Hid;simp[im,g]
    clear g;obtain⟨q,N,Y,U⟩:=aO.fA (u.out.fr ((lT w2).alloc<|.cells #[.int .u8 (x.way:Int),.string x.val] 134).drew bR) underlying135 Xg (k:=k) B (v:=x.val) ad;have Pa:(Instr.mapUpdate 135 (.map<|some V) (.string k)<|.string x.val).run prog (w2.alloc<|.cells #[.int .u8 (x.way:Int),.string x.val] 134).drew=.ok () q:=N;have Y9:=af Y;have y:=af<|((Fr.refl [V] w2).alloc _).drew.trans<|Fr.aF U;clear N Y U;rw[Q]at Pa;go_wp2
    go_region
    all_goals go_wp2
    exact O.out q _ _ y.out Y9.out (zzc _) λj=>by rw[ky,G.out]
   .have hb:((x.way:Int)==1)=false:=cE;have Q:¬(x.way:Int)=1:=bL;by_cases i:x.way=2
    .have cZ:((x.way:Int)==2)=true:=by simp[i]
     have qQ:(x.way:Int)=2:=bL;have G:Hid (im (some x) (ak s.aM k)=none):=by unfold Hid;simp[im,i]
     clear g i
     go_wp2_with (first
      |(at_delete;refine iE (KR:=KS) (ER:=ES) rfl _ _ 135 9 rfl underlying135 V m a rfl (u.out.fr ((lT w2).alloc _) bR) k B rfl ?_;intro q Y U)
      |go_in)
     go_frame
     go_wp2;have y:=af<|((Fr.refl [V] w2).alloc _).trans<|Fr.aF U;have P:=O.out q _ _ y.out Y bL λj=>by rw[fY,G.out]
     go_roundw
     case rel=>exact P.1
     case measure=>exact P.2
    .have cZ:((x.way:Int)==2)=false:=cE;have G:Hid (im (some x) (ak s.aM k)=ak s.aM k):=by unfold Hid;simp[im,g,i]
     clear g i;go_wp2;refine O.out _ a m ((Fr.refl [V] w2).alloc _) (u.out.fr ((lT w2).alloc _) bR) bL λj=>?_;by_cases e:j=k
     .subst e;rw[if_pos rfl,G.out];exact aa.out
     .rw[if_neg e]
def ah.read(d:ah)(m:ByteArray):Option ByteArray × Nat :=
 if d.down=true then (none,10) else match d.now m with|none=>(none,8)|some t=>(some t,0)
def Got(t:Option ByteArray)(v:Value)(w':World):Prop :=
 match t with
 |none=>v=.slice none 0 0
 |some t=>Src w' v (bytesOf t)
def OC(d:ah)(m:ByteArray)(w:World)(e:Ending)(w':World):Prop :=
 ∃v,e=.returned (.tuple #[v,cf (d.read m).2])/\Got (d.read m).1 v w'/\Below w.heap.size w w'
theorem OD(B p f N n g i:Nat)(v:Value)(d:ah)(m:ByteArray)(w:World)(h:ax w B p f N v d n g i)(R:m.size<=maxLen):
  Calls prog 382 #[.pointer (some ⟨p,0,none⟩),.string m] w (OC d m w):=by
 have j:=ae h.blk 1;have b:=ae h.blk 5;simp at j b;have I:=af h;clear h
 cases a:d.down with
 |true =>
  rw[a] at b;have D:=af a;clear a
  go_enter func382,ntmps382
  go_wp2;go_ret2;have e:d.read m=(none,10):=by unfold ah.read;rw[if_pos D.out]
  refine⟨.slice none 0 0,by rw[e];rfl,by rw[e];rfl,zzD _ _⟩
 |false =>
  rw[a] at b;have D:=af a;clear a;rcases I.out.now.look m R with⟨hN,l⟩|⟨t,q,hN,c,l⟩
  .have HN:=af hN;clear hN
   go_enter func382,ntmps382
   go_wp2;go_ret2;have e:d.read m=(none,8):=by unfold ah.read;rw[if_neg (by rw[D.out];decide),HN.out]
   refine⟨.slice none 0 0,by rw[e];rfl,by rw[e];rfl,zzD _ _⟩
  .have HN:=af hN;have s:=AE c
   have z:t.size<=maxLen:=by
    have k:=I.out.F6 m t hN;have o:=I.out.hN;have r:=I.out.hn;unfold maxLen;omega
   have M:=lO w t;clear hN c
   go_enter func382,ntmps382
   go_wp2;go_ret2;have e:d.read m=(some t,0):=by unfold ah.read;rw[if_neg (by rw[D.out];decide),HN.out]
   refine⟨_,by rw[e];rfl,by rw[e];exact Jt w t z,?_⟩;exact(zzD _ _).drew.alloc (zzc _) _
def yt(w:World)(g:Nat)(xs:List Nat):Prop:=∀(k x:Nat),xs[k]?=some x->w.cell? ⟨g,k,none⟩=some (.int .i64 (x:Int))
structure oK(xs:List Nat):Prop where
 ne:xs≠[]
 up:xs.Pairwise (· < ·)
 b:∀x∈xs,1<=x/\x<=8
theorem oK.len{xs:List Nat}(h:oK xs):xs.length<=8:=by
 have y:∀(l:List Nat) (o:Nat),l.Pairwise (· < ·)->(∀x∈l,o<x/\x<=8)->l.length+o<=8\/l=[]:=by
  intro l;induction l with
  |nil=>intro o _ _;exact .inr rfl
  |cons a r ih=>
   intro o p hb;have⟨c,d⟩:=zzA.1 p;have f:=hb a bR;left;rcases ih a d (λx b=>⟨c x b,(hb x<|by simp[b]).2⟩)with h|h
   .simp;omega
   .subst h;simp;omega
 rcases y xs 0 h.up (λx b=>⟨(h.b x b).1,(h.b x b).2⟩)with e|e
 .omega
 .subst e;simp
theorem Ex(g p:Nat)(xs:List Nat)(r:oK xs)(w:World)(b:yt w g xs):
  Calls prog 65 #[.slice (some ⟨g,0,none⟩) xs.length p] w λe w'=>e=.returned (.bool true)/\w'=w:=by
 have R:=af r;have X:=af b;have⟨m,h⟩:=gb xs.length;have M:=af h;have Z:m<=8:=by rw[h];exact r.len
 have E:0<m:=by rw[h];exact zzE.2 r.ne
 rw[<-h];clear r b h;go_enter func65,ntmps65;go_wp2;go_loopw [3,8] (λL i wr=>∃k y:Nat,k<=m/\i=.int .i64 k/\L=.int .i64 y/\wr=w/\Hid ((k=0->y=0)/\(∀j,k=j+1->xs[j]?=some y))) (λ_ i _=>m-(intOf i).toNat);case atStart=>exact⟨0,0,zzs _,rfl,rfl,rfl,λ_=>rfl,λj a=>bL⟩
 case round=>
  obtain⟨k,y,t,rfl,rfl,rfl,H⟩:=hrel;by_cases U:k<m
  .obtain⟨x,JS⟩:∃x,xs[k]?=some x:=⟨_,zzg<|by have:=M.out;omega⟩;have s:=X.out k x JS;have hb:=R.out.b x<|zzh JS
   have v:y<x:=by
    obtain e|e:=Nat.eq_zero_or_pos k
    .rw[H.1 e];omega
    .obtain⟨j,rfl⟩:∃j,k=j+1:=⟨k-1,bL⟩;have n:=H.2 j rfl;have⟨c,d⟩:=zzd.1 n;have⟨f,l⟩:=zzd.1 JS;have:=List.pairwise_iff_getElem.1 R.out.up j (j+1) c f bL;rw[d,l]at this;exact this
   have o:¬(x:Int)<=y:=bL;have z:¬(8:Int)<x:=bL;have q:(k:Int)<m:=bL;have K:=af JS;clear JS;go_wp2;go_roundw;case rel=>
    have J:∀j,k+1=j+1->xs[j]?=some x:=λj a=>by
     have e:j=k:=bL;rw[e];exact K.out
    exact⟨k+1,x,bL,bR,rfl,bR,λe=>bL,J⟩
   case measure=>simp[intOf];omega
  .obtain rfl:k=m:=bL;have u:0<y:=by
    have⟨j,a⟩:∃j,k=j+1:=⟨k-1,bL⟩;have:=R.out.b y<|zzh<|H.2 j a;omega
   have o:(0:Int)<y:=bL;have q:¬(k:Int)<k:=bL;go_wp2;go_ret;exact⟨bR,rfl⟩
def ch(xs:List Nat)(e:Nat):List Nat:=xs.foldl (λps x=>ps.set x e) [0,0,0,0,0,0,0,0,0]
theorem Ey(xs:List Nat)(x e:Nat):ch (xs++[x]) e=(ch xs e).set x e:=by simp[ch]
theorem mb(xs:List Nat)(e:Nat):(ch xs e).length=9:=by
 unfold ch;have:∀(l:List Nat) (ps:List Nat),(l.foldl (λps x=>ps.set x e) ps).length=ps.length:=by
  intro l;induction l with
  |nil=>intro ps;rfl
  |cons a r ih=>intro ps;rw[List.foldl_cons,ih];simp
 rw[this];rfl
abbrev RD(ps:List Nat):Array Value:=(ps.map λp:Nat=>Value.int .u8 (p:Int)).toArray
theorem vT(g a' b:Nat)(xs:List Nat)(r:oK xs)(w:World)(z:yt w g xs):
  Calls prog 66 #[.slice (some ⟨g,0,none⟩) xs.length a',.int .u8 (b:Int)] w λe w'=>e=.returned (UW<|ch xs b)/\Fr [] w w':=by
 have Y:=af r;have T:∀x,xs[0]?=some x->g<w.heap.size:=λx u=>zzF w _<|z 0 x u
 have HX:=af z;have⟨m,d⟩:=gb xs.length;have M:=af d;have Zj:m<=8:=by rw[d];exact r.len
 have hg:g<w.heap.size:=by
  have⟨x,u⟩:∃x,xs[0]?=some x:=⟨_,zzg<|zzE.2 r.ne⟩;exact T x u
 rw[<-d];clear r z d T;go_enter func66,ntmps66;go_wp2;have⟨W,F⟩:=gb <|(w.alloc<|.cells #[.int .u8 0,.int .u8 0,.int .u8 0,.int .u8 0,.int .u8 0,.int .u8 0,.int .u8 0,.int .u8 0,.int .u8 0] 126).alloc (.cells #[.int .u8 0,.int .u8 0,.int .u8 0,.int .u8 0,.int .u8 0,.int .u8 0,.int .u8 0,.int .u8 0,.int .u8 0] 126);rw[<-F];have A:Fr [] w W:=by rw[F];exact((lT w).alloc _).alloc _
 have R:W.heap[w.heap.size]?=some (.cells (RD [0,0,0,0,0,0,0,0,0]) 126 (0,0)):=by rw[F,zzf _ _ w.heap.size bR];exact heap_alloc_new w _
 have S:W.heap[w.heap.size+1]?=some (.cells (RD [0,0,0,0,0,0,0,0,0]) 126 (0,0)):=by
  rw[F];have:=heap_alloc_new (w.alloc<|.cells #[.int .u8 0,.int .u8 0,.int .u8 0,.int .u8 0,.int .u8 0,.int .u8 0,.int .u8 0,.int .u8 0,.int .u8 0] 126)<|.cells #[.int .u8 0,.int .u8 0,.int .u8 0,.int .u8 0,.int .u8 0,.int .u8 0,.int .u8 0,.int .u8 0,.int .u8 0] 126
  rwa [zzv]at this
 have Z:=af<|zzb A<|zzb R S;clear F A R S
 go_loopw [10] (λi wr=>∃k:Nat,k<=m/\i=.int .i64 k/\Hid (Fr [] w wr/\wr.heap[w.heap.size]?=some (.cells (RD [0,0,0,0,0,0,0,0,0]) 126 (0,0))/\wr.heap[w.heap.size+1]?=some (.cells (RD<|ch (xs.take k) b) 126 (0,0)))) (λi _=>m-(intOf i).toNat)
 case atStart=>exact⟨0,zzs _,rfl,Z.out⟩
 case round=>
  obtain⟨k,hk,rfl,H⟩:=hrel;by_cases bU:k<m
  .obtain⟨x,JS⟩:∃x,xs[k]?=some x:=⟨_,zzg<|by have:=M.out;omega⟩;have ck:=(zze<|H.1.block g hg bR).trans<|HX.out k x JS;have hb:=Y.out.b x<|zzh JS;have az:=mb (xs.take k) b;have B:=ae H.2.2 x;have fx:=aj H.2.2 x
   have P:(RD<|ch (xs.take k) b)[x]?=some (.int .u8 (((ch (xs.take k) b).getD x 0:Nat):Int)):=by
    have e:(ch (xs.take k) b)[x]?=some ((ch (xs.take k) b).getD x 0):=by
     rw[List.getD_eq_getElem?_getD,zzg bL];rfl
    rw[List.getElem?_toArray,zzy,e];rfl
   rw[P]at B;have i3:(k:Int)<m:=bL;have i8:(x:Int)<9:=bL;have i0:(0:Int)<=x:=bL;have⟨V,Q⟩:=gb <|(ch (xs.take k) b).getD x 0;rw[<-Q]at B;have U:Hid (Fr [] w (wr.setCell (hO (w.heap.size+1) x)<|.int .u8 (b:Int))/\(wr.setCell (hO (w.heap.size+1) x)<|.int .u8 (b:Int)).heap[w.heap.size]?=some (.cells (RD [0,0,0,0,0,0,0,0,0]) 126 (0,0))/\(wr.setCell (hO (w.heap.size+1) x)<|.int .u8 (b:Int)).heap[w.heap.size+1]?=some (.cells (RD<|ch (xs.take<|k+1) b) 126 (0,0))):=by
    refine⟨H.1.setCell (.inr bR) _,(Below.heap_setCell _ _ _ _<|by show w.heap.size≠w.heap.size+1;omega).trans H.2.1,?_⟩;have:=ar H.2.2 x<|.int .u8 (b:Int);rw[this];have e:xs.take (k+1)=xs.take k++[x]:=by rw[List.take_add_one,JS];rfl
    rw[e,Ey];simp[RD,List.map_set]
   clear JS az P Q;go_wp2;go_roundw;case rel=>exact⟨k+1,bL,bR,U.out⟩
   case measure=>simp[intOf];omega
  .obtain rfl:k=m:=bL;have i3:¬(k:Int)<k:=bL;have G:=H.2.2;rw[M.out,List.take_length]at G;have⟨q,f,j,l,n,o,p,s,t,y⟩:=nine<|mb xs b;have X:=af y;rw[y]at G;have c0:=ae G 0;have c1:=ae G 1;have c2:=ae G 2;have c3:=ae G 3;have c4:=ae G 4;have c5:=ae G 5;have c6:=ae G 6;have c7:=ae G 7;have c8:=ae G 8;have h:=H.2.1;have a0:=ae h 0;have a1:=ae h 1;have a2:=ae h 2;have a3:=ae h 3;have a4:=ae h 4;have a5:=ae h 5;have a6:=ae h 6;have a7:=ae h 7;have a8:=ae h 8;simp[RD]at c0 c1 c2 c3 c4 c5 c6 c7 c8 a0 a1 a2 a3 a4 a5 a6 a7 a8;have f0:=aj h 0;have f1:=aj h 1;have f2:=aj h 2;have f3:=aj h 3;have f4:=aj h 4;have f5:=aj h 5;have f6:=aj h 6;have f7:=aj h 7;have f8:=aj h 8;have aa:=af h;clear G y h;go_wp2;have⟨c,J⟩:∃c,c=(((((((((wr.setCell ⟨w.heap.size,0,none⟩<|.int .u8 (q:Int)).setCell ⟨w.heap.size,1,none⟩<|.int .u8 (f:Int)).setCell ⟨w.heap.size,2,none⟩<|.int .u8 (j:Int)).setCell ⟨w.heap.size,3,none⟩<|.int .u8 (l:Int)).setCell ⟨w.heap.size,4,none⟩<|.int .u8 (n:Int)).setCell ⟨w.heap.size,5,none⟩<|.int .u8 (o:Int)).setCell ⟨w.heap.size,6,none⟩<|.int .u8 (p:Int)).setCell ⟨w.heap.size,7,none⟩<|.int .u8 (s:Int)).setCell ⟨w.heap.size,8,none⟩<|.int .u8 (t:Int)):=⟨_,rfl⟩;rw[<-J]
   have I:c.heap[w.heap.size]?=some (.cells #[.int .u8 (q:Int),.int .u8 (f:Int),.int .u8 (j:Int),.int .u8 (l:Int),.int .u8 (n:Int),.int .u8 (o:Int),.int .u8 (p:Int),.int .u8 (s:Int),.int .u8 (t:Int)] 126 (0,0)):=by
    have:=(ar (ar (ar (ar (ar (ar (ar (ar (ar H.2.1 0<|.int .u8 (q:Int)) 1<|.int .u8 (f:Int)) 2<|.int .u8 (j:Int)) 3<|.int .u8 (l:Int)) 4<|.int .u8 (n:Int)) 5<|.int .u8 (o:Int)) 6<|.int .u8 (p:Int)) 7<|.int .u8 (s:Int)) 8<|.int .u8 (t:Int));simp[RD]at this;rw[J];exact this
   have b:=ae I 0;have C:=ae I 1;have D:=ae I 2;have E:=ae I 3;have K:=ae I 4;have e5:=ae I 5;have L:=ae I 6;have N:=ae I 7;have O:=ae I 8;simp at b C D E K e5 L N O;have MX:Fr [] w c:=by rw[J];exact(((((((((H.1.setCell (.inr<|zzc _) _).setCell (.inr<|zzc _) _).setCell (.inr<|zzc _) _).setCell (.inr<|zzc _) _).setCell (.inr<|zzc _) _).setCell (.inr<|zzc _) _).setCell (.inr<|zzc _) _).setCell (.inr<|zzc _) _).setCell (.inr<|zzc _) _)
   exact bodyPost_ret (v:=.agg #[.int .u8 (q:Int),.int .u8 (f:Int),.int .u8 (j:Int),.int .u8 (l:Int),.int .u8 (n:Int),.int .u8 (o:Int),.int .u8 (p:Int),.int .u8 (s:Int),.int .u8 (t:Int)]) (by simp[results,results66,go_sem,b,C,D,E,K,e5,L,N,O]) rfl ⟨by rw[X.out];rfl,MX⟩
end Go.Proofs.YtcalalndmcemiaaGreatDoor
