import Derived.Test.YtdcafjmdfpjcbaaGreatDoorC24
import Derived.Test.YtdcafjmdfpjcbaaGreatDoorC23
set_option maxHeartbeats 4000000
set_option maxRecDepth 100000
namespace Go.Proofs.YtdcafjmdfpjcbaaGreatDoor
open Go.RowKit Go.Maps Tryz Sc
section
open Go.Shelf Go.Sort
variable{V:Type}
def fJ{V:Type}(L:List (ByteArray × V)):List ByteArray:=((L.map λp=>p.1.data.toList).mergeSort leB).map λb=>⟨b.toArray⟩
theorem dR(L:List<|ByteArray×V):(fJ L).length=L.length:=by simp[fJ]
theorem kL{L:List (ByteArray×V)}{k:ByteArray}:k∈fJ L↔∃v,(k,v)∈L:=by
 unfold fJ;simp only[zzq,List.mem_mergeSort];constructor
 .rintro⟨x,⟨p,hp,rfl⟩,rfl⟩;exact⟨p.2,by simpa using hp⟩
 .grind
theorem Qp(m:Nat):AnyZ.SortsIn prog Tryz.sortedS_ren Fence.wide m:=
 ⟨λblk f c ss W H k z=>callsIn_wide.2<|Tryz.slices_Sort_string blk f c ss W H k z,λp c W=>callsIn_wide.2<|Tryz.slices_Sort_string_none p c W⟩
theorem strKeys_perm{ER:nC V}{es:List (Lit×DataW Unit)}{L:List (ByteArray×V)}(h:es.Perm<|L.map<|mH KS ER):(strKeys<|DataW.map es).Perm (L.map λp=>p.1.data.toList):=by
 show(es.map λp=>strOf p.1).Perm _;apply(h.map _).trans;rw[List.map_map];exact List.Perm.refl _
theorem Fz(n:Nat)(hn:5<=n)(b m:Nat)(L:List<|ByteArray×aQ)(w:World)(a:bB KS EG w b m L)(g:m<=1000000000):
  (CallsIn Fence.wide n prog 258 #[.map<|some b] w λe w'=>e=.returned (.func (.func 293) #[] #[rM w.heap.size])/\w'=w.alloc (.cells #[.map<|some b] 303)) /\
  (CallsIn Fence.wide n prog 173 #[.func (.func 293) #[] #[rM w.heap.size]] (w.alloc<|.cells #[.map<|some b] 303) λe w'=>∃v,e=.returned v/\w'.ownsRow w.heap.size 9 1 v L.length ((fJ L).map Value.string)/\(v=.slice none 0 0↔L.length=0)/\Below w.heap.size w w'):=by
 have⟨es,N,hp,f,i⟩:=a;have hlen:Maps.size (DataW.map es)=L.length:=by rw[Maps.size_eq,hp.length_eq,zzn]
 have z:=N.size_le;have W:=N.lt;have I:SeqGives Fence.wide (n-1-1-1) prog 293 #[.pointer<|some (dH w.heap.size)] encStr (λss=>ss.Perm<|strKeys<|DataW.map es) (Maps.size<|DataW.map es) (w.alloc<|.cells #[.map<|some b] 303):=
  AnyZ.keys_gives {Tryz.keysG with} Fence.wide _ trivial rfl oE w.heap.size b m (DataW.map es) _ sE sE (by
   have⟨c,clock,h,t,s,hD⟩:=N;exact⟨c,clock,(zzf _ _ b W).trans h,t,s,hD⟩)
 refine⟨AnyZ.keys_in Tryz.keysG Fence.wide n trivial rfl _ w,?_⟩;have S:=AnyZ.sorted_in Tryz.sortedS Fence.wide n trivial trivial trivial trivial rfl oE (Qp _) (enters_of func222 k6 rfl) 293 #[.pointer<|some (dH w.heap.size)] trivial (enters_of func293 k6 rfl) _ _ mE oE _ I
 change CallsIn _ _ prog 173 _ _ _ at S;apply S.mono;rintro e w' ⟨v,ss,rfl,hS,aC,eQ,h⟩;have K:=hS.trans<|strKeys_perm hp;have l:ss.length=L.length:=by rw[K.length_eq,zzn]
 have d:(ss.mergeSort λx y=>decide<|x<=y).map encStr=(fJ L).map Value.string:=by
  have:=mergeSort_of_perm K;unfold fJ;rw[show(ss.mergeSort λx y=>decide<|x<=y)=ss.mergeSort leB from rfl,this,List.map_map];rfl
 rw[l,d]at aC;refine⟨v,rfl,ownsRow_base_a aC sE,by rw[eQ,<-l];exact List.length_eq_zero_iff.symm,((zzD _ w).alloc (zzc _) _).trans<|h.mono sE⟩
theorem FF(n:Nat)(hn:5<=n)(b m:Nat)(L:List<|ByteArray×ByteArray)(w:World)(a:bB KS ES w b m L)(g:m<=1000000000):
  (CallsIn Fence.wide n prog 174 #[.map<|some b] w λe w'=>e=.returned (.func (.func 223) #[] #[rM w.heap.size])/\w'=w.alloc (.cells #[.map<|some b] 143)) /\
  (CallsIn Fence.wide n prog 173 #[.func (.func 223) #[] #[rM w.heap.size]] (w.alloc<|.cells #[.map<|some b] 143) λe w'=>∃v,e=.returned v/\w'.ownsRow w.heap.size 9 1 v L.length ((fJ L).map Value.string)/\(v=.slice none 0 0↔L.length=0)/\Below w.heap.size w w'):=by
 have⟨es,N,hp,f,i⟩:=a;have hlen:Maps.size (DataW.map es)=L.length:=by rw[Maps.size_eq,hp.length_eq,zzn]
 have z:=N.size_le;have W:=N.lt;have I:SeqGives Fence.wide (n-1-1-1) prog 223 #[.pointer<|some (dH w.heap.size)] encStr (λss=>ss.Perm<|strKeys<|DataW.map es) (Maps.size<|DataW.map es) (w.alloc<|.cells #[.map<|some b] 143):=
  AnyZ.keys_gives {Tryz.keysV with} Fence.wide _ trivial rfl oE w.heap.size b m (DataW.map es) _ sE sE (by
   have⟨c,clock,h,t,s,hD⟩:=N;exact⟨c,clock,(zzf _ _ b W).trans h,t,s,hD⟩)
 refine⟨AnyZ.keys_in Tryz.keysV Fence.wide n trivial rfl _ w,?_⟩;have S:=AnyZ.sorted_in Tryz.sortedS Fence.wide n trivial trivial trivial trivial rfl oE (Qp _) (enters_of func222 k6 rfl) 223 #[.pointer<|some (dH w.heap.size)] trivial (enters_of func223 k6 rfl) _ _ mE oE _ I
 change CallsIn _ _ prog 173 _ _ _ at S;apply S.mono;rintro e w' ⟨v,ss,rfl,hS,aC,eQ,h⟩;have K:=hS.trans<|strKeys_perm hp;have l:ss.length=L.length:=by rw[K.length_eq,zzn]
 have d:(ss.mergeSort λx y=>decide<|x<=y).map encStr=(fJ L).map Value.string:=by
  have:=mergeSort_of_perm K;unfold fJ;rw[show(ss.mergeSort λx y=>decide<|x<=y)=ss.mergeSort leB from rfl,this,List.map_map];rfl
 rw[l,d]at aC;refine⟨v,rfl,ownsRow_base_a aC sE,by rw[eQ,<-l];exact List.length_eq_zero_iff.symm,((zzD _ w).alloc (zzc _) _).trans<|h.mono sE⟩
end
section
open Go.Shelf
variable{B n:Nat}{a t:TypeId}{u v:Value}{W b:World}
abbrev elG(g:aQ):List Value:=[.int .u8 (g.way:Int),.string g.val]
def FH(l:List aQ):List Value:=l.flatMap elG
theorem Nf(l:List aQ)(g:aQ):FH (l++[g])=FH l++elG g:=by simp[FH]
theorem LB:∀(l:List aQ) (k:Nat) (g:aQ),l[k]?=some g->(FH l)[k*2]?=some (.int .u8 (g.way:Int))/\(FH l)[k*2+1]?=some (.string g.val)
 |[],k,g,h=>by simp at h
 |x::l,0,g,h=>by simp at h;subst h;simp[FH]
 |x::l,k+1,g,h=>by
  have:=LB l k g (by simpa using h);simp only[FH,List.flatMap_cons]at this ⊢;rw[show(k+1)*2=k*2+1+1 by omega]
  simpa using this
theorem X':(Tryz.prog.info? 287).map (λi=>(i.zero,i.size,i.bytes))=some (some<|.agg #[.int .u8 0,.string yA],2,24):=k6
def b9(L:List (ByteArray × aQ)):List (ByteArray × aQ):=(fJ L).map λk=>(k,(aj L k).getD ⟨0,yA⟩)
theorem aaw(p:Option Addr)(n c:Nat)(w:World):(Builtin.len_ #[138] 3 #[.slice p n c]).run prog w=.ok (.int .i64 n) w:=by simp[Builtin.len_,run_underlying underlying138,goInt]
theorem I7(n:Nat)(hn:6<=n)(l E b m:Nat)(L:List<|ByteArray×aQ)(hm:m<=1000000000)(W:World)(Kp:World->World->Prop)(P:Nat->World->Prop)
  (LC:∀k A,W.heap.size<=k->Below W.heap.size W A->P k A)
  (EY:∀k A B c t,(t=9\/t=287)->Kp A B->A.heap[k]?=some (.cells c t (0,0))->P k A->B.heap[k]?=A.heap[k]?/\P k B)
  (J Jx:List (ByteArray×aQ)->World->Prop)
  (hJ:∀s A B,J s A->A.grownBy B none->J s B)
  (hY:∀f x W1,J f W1->f.length<L.length->f++[x]<+:b9 L->YieldAt Fence.wide (n-1) prog l #[.string x.1,.agg #[.int .u8 (x.2.way:Int),.string x.2.val]] W1 λe C=>
   (e=.returned (.bool true)/\J (f++[x]) C/\Kp W1 C)\/(e=.returned (.bool false)/\Jx (f++[x]) C))
  (BH:W.cell? (dH E)=some (.map<|some b)) (Y:bB KS EG W b m L) (h0:J [] W) :
  CallsIn Fence.wide n prog 257 #[.func (.yield l) #[] #[],rM E] W λe C=>(∃v,e=.returned v) /\
   ((∃ys,ys=b9 L/\J ys C)\/(∃f,f<+:b9 L/\Jx f C)):=by
 have zM:E<W.heap.size:=zzF W ⟨E,0,none⟩ BH;have⟨cK,cS⟩:=Fz (n-1) oE b m L W Y hm;have⟨i0,hi,al,ad,ak⟩:=info_parts X';have b0:Fence.wide.fn 258:=trivial;have aX:Fence.wide.fn 173:=trivial;have Ya:Fence.wide.fn 257:=trivial;have ay:Fence.wide.round=none:=rfl;have h1:1<=n:=oE
 have Wt:=aaw;have a':=Y.len;have HL:=ae Y;have HB:=ae<|zzb zM BH;have⟨m0,LD⟩:=xY L.length;have M:=ae LD;rw[<-LD]at cS a';have b1:m0<=1000000000:=oE
 clear Y LD;refine callsIn_of_wp func257 rfl Ya ?_ ay;simp only[ntmps257,List.size_toArray,zzr,List.length_nil,Nat.reduceAdd,Nat.reduceSub,Array.replicate_succ,Array.replicate_zero,List.push_toArray,List.append_toArray,List.nil_append,List.cons_append];gi_wp2_with (first
  |(gi_at_call 258;apply cK.mono;rintro e w0 ⟨rfl,rfl⟩)
  |(gi_at_call 173;apply cS.mono;rintro e w ⟨v,rfl,D,eQ,gw⟩;obtain⟨U,X,rfl⟩:=rG D;have N:Hid (w.ownsRow W.heap.size 9 1 (.slice U m0 X) m0 ((fJ L).map Value.string)/\(Value.slice U m0 X=.slice none 0 0↔m0=0)):=⟨D,eQ⟩;clear D eQ))
 clear cK cS;have F:=ae gw;have Wu:Hid (∀A,Below W.heap.size W A->J [] A):=λA G=>hJ [] W A h0 ⟨G.os,G.tape,G.output,G.size,λk q _=>G.block k q⟩
 clear gw BH;by_cases IA:m0=0
 .subst IA;obtain⟨rfl,rfl⟩:U=none/\X=0:=by have:=N.2.2 rfl;simpa using this
  clear N;have HE:Hid (b9 L=[]):=by show _=_;have:=M.out;rw[List.length_eq_zero_iff.1 this.symm];simp[b9,fJ]
  gi_loopw [14] (λi wr=>i=.int .i64 0/\wr=w) (λ_ _=>0);case atStart=>exact⟨rfl,rfl⟩
  case round=>
   obtain⟨rfl,rfl⟩:=hrel;gi_wp2;gi_loopw [27] (λi a8=>i=.int .i64 0/\a8=wr) (λ_ _=>0);case atStart=>exact⟨rfl,rfl⟩
   case round=>
    obtain⟨rfl,rfl⟩:=hrel;gi_wp2;go_end0;exact⟨⟨_,rfl⟩,.inl ⟨_,rfl,by rw[HE.out];exact Wu.out _ F.out⟩⟩
 obtain⟨g,rfl⟩:∃g,U=some ⟨g,0,none⟩:=by have⟨g,T,e⟩:=mG N.1 oE;exact⟨g,by simp at e;exact e.1⟩
 have D:=N.1;have O:Hid (∃r,w.heap[g]?=some (.cells r 9 (0,0))/\W.heap.size<=g/\∀(k:Nat) (x:ByteArray),(fJ L)[k]?=some x->r[k]?=some (Value.string x)):=by
  rcases D.2 with⟨_,h3⟩|⟨g',T,r,e,hb,h,_,_,a1,V⟩
  .omega
  .obtain⟨e1,e2⟩:g=g'/\X=T:=by simpa using e
   subst e1;refine⟨r,h,hb,λk x q=>?_⟩;have mB:k<m0:=by have:=(zzd.1 q).1;rw[dR]at this;have:=M.out;omega
   have:(r.toList.take<|m0*1)[k]?=some (.string x):=by rw[V,zzy,q];rfl
   rw[List.getElem?_take_of_lt oE]at this;simpa using this
 clear D N;have⟨a,Pg⟩:∃a:List aQ,a=(fJ L).map λk=>(aj L k).getD ⟨0,ByteArray.empty⟩:=⟨_,rfl⟩
 have HV:=ae Pg;clear Pg;have HG:Hid (g<w.heap.size):=by have⟨r,h,_⟩:=O.out;exact(zza.1 h).1
 gi_loopw [14,4] (λi v wr=>∃k:Nat,k<=m0/\i=.int .i64 k/\Hid (wr.ownsRow w.heap.size 287 2 v k (FH<|a.take k)/\Below w.heap.size w wr))
  (λi _ _=>m0-(intOf i).toNat)
 case atStart=>exact⟨0,zzs _,rfl,zzu _ _ _ _,zzD _ _⟩
 case round=>
  obtain⟨k,q,rfl,R⟩:=hrel;by_cases bP:k<m0
  .obtain⟨x,hx⟩:∃x,(fJ L)[k]?=some x:=⟨_,zzg<|by rw[dR];have:=M.out;omega⟩;have⟨y,o⟩:∃y,y=(aj L x).getD ⟨0,ByteArray.empty⟩:=⟨_,rfl⟩;have I:=F.out.trans<|R.2.mono F.out.size
   have ck:wr.cell? ⟨g,k,none⟩=some (.string x):=by
    have⟨r,h,_,hc⟩:=O.out;have:=(R.2.block g HG.out).trans h;rw[aP this];exact hc k x hx
   have cB:wr.cell? ⟨E,0,none⟩=some (.map<|some b):=(I.cell (p:=⟨E,0,none⟩) HB.1).trans HB.2;have Qq:x.size<=maxLen:=by
    have⟨v',an⟩:=kL.1<|zzh hx;have⟨_,_,_,_,dz⟩:=HL.out;exact(dz _ an).1
   have ic:=(HL.out.fr (S:=[]) ⟨I.os,I.tape,I.output,I.size,λk q _=>I.block k q⟩ sE).look underlying303 (qB wr) trivial (k:=x) Qq;rw[<-o]at ic;have HY:=ae<|zzb o hx;clear o hx
   change (Instr.lookup _ _ (.string x) false).run _ _=.ok (.agg #[.int .u8 (y.way:Int),.string y.val]) _ at ic;have a1:=R.2.size;have ao:k<((fJ L).map λk=>(aj L k).getD ⟨0,ByteArray.empty⟩).length:=by rw[zzn,dR];have:=M.out;omega
   have HT:Hid (a.take (k+1)=a.take k++[y]):=by
    show _=_;rw[HV.out,List.take_add_one,zzy,HY.2,HY.1];rfl
   clear ao;gi_wp2_with (gi_at_builtin;apply wpListIn_append_own _ rfl _ _ 369 rfl w.heap.size 287 i0 _ 2 24 underlying369 hi al ad ak rfl dN _ k _ rfl (R.1.alloc _) ⟨wr.heap.size,0,none⟩ 1 1 (elG y) rfl rfl (cD _ #[.int .u8 (y.way:Int),.string y.val] _) (by intro u hu;simp[elG]at hu;obtain rfl|rfl:=hu<;>rfl) mE oE sC;intro v' w2 eP eK _);go_roundw;case rel=>
    refine⟨k+1,oE,sE,by rw[HT.out,Nf];exact eP,?_⟩;exact((R.2.alloc a1 _).grown eK sC λj K=>(R.1.lt j K).1)
   case measure=>simp[intOf];omega
  .obtain rfl:k=m0:=oE;obtain⟨d,Qr,rfl⟩:=mG R.1 oE;have a6:Hid (∃z,wr.heap[d]?=some (.cells z 287 (0,0))/\W.heap.size<=d/\∀(j:Nat) (y:aQ),a[j]?=some y->z[j*2]?=some (Value.int .u8 (y.way:Int))/\z[j*2+1]?=some (Value.string y.val)):=by
    rcases R.1.2 with⟨_,h3⟩|⟨g',T,r,e,hb,h,_,_,a1,V⟩
    .omega
    .obtain⟨e1,e2⟩:d=g'/\Qr=T:=by simpa using e
     subst e1;have aE:a.length=k:=by rw[HV.out,zzn,dR,M.out]
     refine⟨r,h,zzk F.out.size hb,λj y K=>?_⟩;have Wv:j<k:=by have:=(zzd.1 K).1;omega
     have e3:a.take k=a:=zzt oE;rw[e3]at V;have Z:=LB a j y K;rw[<-V]at Z;rw[List.getElem?_take_of_lt oE,List.getElem?_take_of_lt oE]at Z;simpa using Z
   have⟨r,TA,ab,a7⟩:=O.out;have⟨z,Qs,Qt,Qu⟩:=a6.out;have j9:=(R.2.block g HG.out).trans TA;have I:=F.out.trans<|R.2.mono F.out.size;have HC:=ae<|zzb a7 Qu;have HS:=ae<|zzb (Wu.out _ I)<|zzb j9<|zzb (LC _ _ ab I)<|zzb Qs<|LC _ _ Qt I;clear O a6 TA a7 Qs Qu j9 I LC
   gi_wp2;gi_loopw [27] (λi wr=>∃j:Nat,j<=k/\i=.int .i64 j/\Hid (J ((b9 L).take j) wr/\wr.heap[g]?=some (.cells r 9 (0,0))/\P g wr/\wr.heap[d]?=some (.cells z 287 (0,0))/\P d wr))
    (λi _=>k-(intOf i).toNat)
   case atStart=>exact⟨0,zzs _,rfl,by rw[List.take_zero];exact HS.out⟩
   case round=>
    obtain⟨j,K,rfl,Q⟩:=hrel;by_cases tJ:j<k
    .obtain⟨x,hx⟩:∃x,(fJ L)[j]?=some x:=⟨_,zzg<|by rw[dR];have:=M.out;omega⟩;have⟨y,o⟩:∃y,y=(aj L x).getD ⟨0,ByteArray.empty⟩:=⟨_,rfl⟩;have Ww:a[j]?=some y:=by rw[HV.out,zzy,hx,o];rfl
     have Uz:Hid ((b9 L).take (j+1)=(b9 L).take j++[(x,y)]):=by
      show _=_;rw[List.take_add_one];unfold b9;rw[zzy,hx,o];rfl
     have cx:wr.cell? ⟨g,j,none⟩=some (.string x):=by rw[aP Q.2.1];exact HC.1 j x hx
     have aA:wr.cell? ⟨d,j*2,none⟩=some (.int .u8 (y.way:Int)):=by rw[aP Q.2.2.2.1];exact(HC.2 j y Ww).1
     have aI:wr.cell? ⟨d,j*2+1,none⟩=some (.string y.val):=by rw[aP Q.2.2.2.1];exact(HC.2 j y Ww).2
     have⟨fn,tmps,assign,body,XQ,BR⟩:=hY _ (x,y) wr Q.1 (by rw[zzm,<-M.out];omega) (by rw[<-Uz.out];exact List.take_prefix _ _);clear hx o Ww;gi_wp2;apply BR.mono;rintro e H (⟨rfl,BS,kM⟩|⟨rfl,DV⟩)
     .have p1:=EY _ _ _ _ _ (.inl rfl) kM Q.2.1 Q.2.2.1;have p2:=EY _ _ _ _ _ (.inr rfl) kM Q.2.2.2.1 Q.2.2.2.2;have HN:Hid (J ((b9 L).take<|j+1) H/\H.heap[g]?=some (.cells r 9 (0,0))/\P g H/\H.heap[d]?=some (.cells z 287 (0,0))/\P d H):=⟨by rw[Uz.out];exact BS,p1.1.trans Q.2.1,p1.2,p2.1.trans Q.2.2.2.1,p2.2⟩;clear p1 p2 BS kM
      gi_wp2;go_roundw;case rel=>exact⟨j+1,oE,sE,HN.out⟩
      case measure=>simp[intOf];omega
     .gi_wp2;apply bodyPost_ret (results_none rfl _ _ _) rfl;exact⟨⟨_,rfl⟩,.inr ⟨_,by rw[<-Uz.out];exact List.take_prefix _ _,DV⟩⟩
    .obtain rfl:j=k:=oE;gi_wp2;go_end0;refine⟨⟨_,rfl⟩,.inl ⟨_,?_,Q.1⟩⟩;rw[zzt];unfold b9;rw[zzn,dR,M.out];exact zzc _
theorem BU(n:Nat)(hn:6<=n)(f b m:Nat)(L:List (ByteArray × aQ))(Q:ByteArray × aQ->Prop)(D:∀x∈b9 L,Q x)(v:m<=1000000000)(w:World)(X:f<w.heap.size)(BH:w.cell? (dH f)=some (.map (some b)))(F:bB KS EG w b m L)
  (K:World->World->Prop) (P:Nat->World->Prop)
  (G:∀W k A,Below w.heap.size w W->W.heap.size<=k->Below W.heap.size W A->P k A)
  (Y:∀k A B c t,(t=9\/t=287)->K A B->A.heap[k]?=some (.cells c t (0,0))->P k A->B.heap[k]?=A.heap[k]?/\P k B) :
  SeqStopsK Fence.wide n prog 257 #[rM f] (λy:{ x:ByteArray × aQ // Q x }=>#[.string y.1.1,.agg #[.int .u8 (y.1.2.way:Int),.string y.1.2.val]]) K (λo=>o.map (·.1)=b9 L) (λ_=>True) L.length w:=λl J H W h O _ M Z=>by
 have a1:=I7 n hn l f b m L v W K P (λk A=>G W k A h) Y (λg W=>∃d:List { x:ByteArray × aQ // Q x },d.map (·.1)=g/\J d W) (λg W=>∃d:List { x:ByteArray × aQ // Q x },d.map (·.1)=g/\H d W)
  (λs A B N V=>by obtain⟨a,e,j⟩:=N;exact⟨a,e,O a A B none j V (λr e=>by cases e)⟩)
  (λg x z j u T=>by
   obtain⟨a,e,j⟩:=j;have i:Q x:=D x (T.subset sE);obtain⟨C,tmps,assign,body,I,R⟩:=M a ⟨x,i⟩ z j (by rw[<-e,zzn] at u;exact u);refine⟨C,tmps,assign,body,I,R.mono ?_⟩;rintro q E (⟨r1,r2,r3⟩|⟨r1,r2⟩)
   .exact .inl ⟨r1,⟨a++[⟨x,i⟩],by simp[e],r2⟩,r3⟩
   .exact .inr ⟨r1,⟨a++[⟨x,i⟩],by simp[e],r2⟩⟩)
  ((h.cell (p:=⟨f,0,none⟩) X).trans BH) (F.fr (S:=[]) ⟨h.os,h.tape,h.output,h.size,λk U _=>h.block k U⟩ sE) ⟨[],rfl,Z⟩
 refine a1.mono ?_;rintro e E ⟨he,⟨o,rfl,a,q,j⟩|⟨g,_,a,_,j⟩⟩
 .exact⟨he,.inl ⟨a,q,j⟩⟩
 .exact⟨he,.inr ⟨a,trivial,j⟩⟩
theorem I8(n:Nat)(b:Nat)(w:World):
  CallsIn Fence.wide n prog 230 #[.map<|some b] w λe w'=>e=.returned (.func (.func 257) #[] #[rM w.heap.size])/\w'=w.alloc (.cells #[.map<|some b] 303):=by
 refine callsIn_of_wp func230 rfl trivial ?_ rfl;simp only[ntmps230,List.size_toArray,zzr,List.length_nil,Nat.reduceAdd,Nat.reduceSub,Array.replicate_succ,Array.replicate_zero,List.push_toArray,List.append_toArray,List.nil_append,List.cons_append];gi_wp2;go_ret;exact⟨rfl,rfl⟩
def vx(x:ByteArray × aQ):List Nat:=[x.2.way]++[x.1.size]++bytesOf x.1++[x.2.val.size]++bytesOf x.2.val
def bW(xs:List (ByteArray × aQ)):List Nat:=xs.flatMap vx
def gz(x:ByteArray × aQ):Prop:=x.1.size<=16/\x.2.val.size<=32/\x.2.way<256
def cN(e:List { x:ByteArray × aQ // gz x }):List Nat:=bW (e.map (·.1))
theorem CN{x:ByteArray×aQ}(h:gz x):(vx x).length<=51:=by
 have⟨a,b,_⟩:=h;simp only[vx,zzi,zzr,List.length_nil,dC];omega
theorem yj(e:List {x:ByteArray×aQ//gz x})(x:{x:ByteArray×aQ//gz x}):cN (e++[x])=cN e++vx x.1:=by simp[cN,bW]
theorem zU:∀(e:List {x:ByteArray×aQ//gz x}),(cN e).length<=e.length*51
 |[]=>by simp[cN,bW]
 |x::r=>by
  have a:=CN x.2;have h:=zU r;simp only[cN,bW,List.map_cons,List.flatMap_cons,zzi,zzr]at *;omega
theorem be1(h:n<256):be 1 n=[n]:=by grind[be,digit]
theorem xg(h:Boxed W B t v)(f:wS a W b)(d:t≠a):Boxed b B t v:=
 (f.block B h.lt λc e=>by rw[show W.heap[B]?=_ from h]at e;exact d<|by simpa using (Obj.cells.inj<|Option.some.inj e).2.1).trans h
theorem za{c:Array Value}(h:W.heap[B]?=some (.cells c t (0,0)))(f:wS a W b)(d:t≠a):b.heap[B]?=some (.cells c t (0,0)):=
 (f.block B (zza.1 h).1 λg e=>by rw[h]at e;exact d<|by simpa using (Obj.cells.inj<|Option.some.inj e).2.1).trans h
theorem DQ.of{g f d b:TypeId}{a:World}(j:Below n W a)(o:wS d W a)(m:Boxed a B b v)(r:g≠d)(y:f≠d)(w:g≠b)(s:f≠b)(hn:n<=B):DQ g f n W (a.setCell (dH B) u):=
 ⟨j.setCell hn u,λk c t x h=>by
  have q:t≠d:=by grind
  have l:t≠b:=by grind
  have e:=za h o q;refine(Below.heap_setCell _ _ _ k λi=>?_).trans<|e.trans h.symm;simp at i;subst i;rw[show a.heap[k]?=_ from m]at e
  exact l (by simpa using (Obj.cells.inj (Option.some.inj e)).2.1.symm)⟩
theorem wS.others(h:wS t W b):KeepsOthers W b:=
 ⟨h.size,λk o a d=>(h.block k (zza.1 a).1 λc e=>by rw[a]at e;cases e;cases d).trans a⟩
theorem qH{k:Nat}{o:Obj}(h:W.heap[k]?=some o)(a:k≠B):(W.setCell (dH B) u).heap[k]?=some o:=(Below.heap_setCell _ _ _ k λe=>a<|by simpa using e).trans h
theorem D9{base size:Nat}{e:TypeId}{x:Value}{xs:List Value}(h:W.ownsRow base e size v n xs)(b:Boxed W B t u)(a:t≠e):(W.setCell (dH B) x).ownsRow base e size v n xs:=
 h.kept (grownBy_setCell' W B x) (.inr (b.not_row a h).symm)
theorem Gf(n:Nat)(hn:8<=n)(t b m:Nat)(L:List (ByteArray × aQ))(hm:m<=1000000000)(w:World)(hL:bB KS EG w b m L)(R:t<2^64)(CO:∀x∈b9 L,gz x)(hl:L.length<=16):
  CallsIn Fence.wide n prog 192 #[.int .u64 (t:Int),.map (some b)] w λe w'=>e=.returned (.string (str (be 8 t++bW (b9 L))))/\Below w.heap.size w w':=by
 have ab:Fence.wide.round=none:=rfl;have h1:1<=n:=oE;have j:=(callsIn_wide (n:=n-1)).2 (Fw w.heap.size (.slice none 0 0) [] t 0 w (zzu _ _ _ _) R oE (zzc _));have bF:Fence.wide.fn 165:=trivial;have cA:Fence.wide.fn 230:=trivial;have dD:Fence.wide.fn 257:=trivial;have Z:=ae (zzb hL (zzb CO hl));clear hL CO hl;refine callsIn_of_wp_marks func192 rfl trivial ?_ ab;simp only[ntmps192,mJ,zzr,mV,Nat.reduceAdd,Nat.reduceSub,m7,m8,n8,oS,p5,qS]
 gi_wp2_with (first
  |(gi_at_call 165;refine j.mono ?_;rintro e a ⟨v1,rfl,fe,gw,_⟩;obtain⟨g,f,rfl⟩:=dI fe oE)
  |(gi_at_call 230;refine(I8 _ b _).mono ?_;rintro e w2 ⟨rfl,rfl⟩))
 have bO:=Boxed.new a 179 (.slice (some ⟨g,0,none⟩) 8 f);have bA:=Boxed.new (a.alloc (.cells #[.slice (some ⟨g,0,none⟩) 8 f] 179)) 303 (.map (some b));rw[zzv] at bA;have U2:=bO.alloc (.cells #[.map (some b)] 303);have C:Below w.heap.size w ((a.alloc (.cells #[.slice (some ⟨g,0,none⟩) 8 f] 179)).alloc (.cells #[.map (some b)] 303)):=(gw.alloc gw.size _).alloc (by have:=gw.size;simp;omega) _;have ao:((a.alloc (.cells #[.slice (some ⟨g,0,none⟩) 8 f] 179)).alloc (.cells #[.map (some b)] 303)).heap.size=a.heap.size+2:=sE
 have sw:=gw.size;have a7:=(fe.alloc (.cells #[.slice (some ⟨g,0,none⟩) 8 f] 179)).alloc (.cells #[.map (some b)] 303);obtain⟨D,nX⟩:∃D,((a.alloc (.cells #[.slice (some ⟨g,0,none⟩) 8 f] 179)).alloc (.cells #[.map (some b)] 303))=D:=⟨_,rfl⟩;rw[nX] at bA U2 C ao a7 ⊢;clear nX bO fe j;have Jy:bB KS EG D b m L:=Z.1.fr (S:=[]) ⟨C.os,C.tape,C.output,C.size,λk hk _=>C.block k hk⟩ sE
 refine wpIn_rangeFunc_ownH ab h1 (gf:=257) (lb:=#[.pointer (some ⟨a.heap.size+1,0,none⟩)]) rfl dD (enters_of func257 k6 rfl)
  (BU (n-1) oE (a.heap.size+1) b m L gz Z.2.1 hm D oE bA.cell Jy (DQ 9 287 w.heap.size) (λ_ _=>True) (λ_ _ _ _ _ _=>trivial) (λk aE B c t R hk hA _=>⟨hk.same k c t R hA,trivial⟩))
  (λh k=>h.trans k) (DQ.book oE) (zzD _ _) (λ_=>rfl)
  (λp W=>(∃v,Boxed W a.heap.size 179 v/\W.ownsRow w.heap.size 5 1 v (8+(cN p).length) (bs (be 8 t++cN p))/\True)/\Below w.heap.size w W)
  (λ_ _ _=>False)
  (OwnFrom.and (Own.from (holdsRow_own w.heap.size a.heap.size 179 5 1 (λp:List { x:ByteArray × aQ // gz x }=>8+(cN p).length) (λp=>bs (be 8 t++cN p)) (λ_ _=>True)) _) (ownFrom_below (zzc _) oE))
  (λ_ _ _ _ _ hs _ _=>hs)
  ⟨⟨_,U2,by simpa [cN,bW] using a7,trivial⟩,C⟩
  (λx G W=>∃d,a.heap.size<d/\W.heap[d]?=some (.cells #[.int .u8 (x.1.2.way:Int),.string x.1.2.val] 287 (0,0))/\G={ tmps:=#[.int .u64 (t:Int),.map (some b),undef,undef,.string { data:=#[] },.pointer (some ⟨a.heap.size,0,none⟩),.string x.1.1,.pointer (some ⟨d,0,none⟩),.int .u64 (t:Int),.slice (some ⟨g,0,none⟩) 8 f,.map (some b),.func (.func 257) #[] #[.pointer (some ⟨a.heap.size+1,0,none⟩)],.string x.1.1,.agg #[.int .u8 (x.1.2.way:Int),.string x.1.2.val],undef,undef,undef,undef,undef,undef,undef,undef,undef,undef,undef,undef,undef],defers:=[] })
  (λx G _ X aI row hs j hr=>by
   obtain⟨d,h1,O,h3⟩:=hs
   exact⟨d,h1,(j.block d (zza.1 O).1 (λe=>by obtain⟨_,o,ho,y⟩:=hr d e.symm;rw[O] at ho;cases ho;cases y)).trans O,h3⟩)
  ?assign ?body ?done ?stop
 case assign =>
  have o9:=@Oper.semAt_some;rintro l p x W aA ⟨⟨v,hv,aC,_⟩,tG⟩ hK
  gi_wp2
  exact hK _ _ ((KeepsOthers.alloc _ _).from _) (DQ.alloc _ tG.size _) ⟨⟨v,hv.alloc _,aC.alloc _,trivial⟩,tG.alloc tG.size _⟩ ⟨W.heap.size,hv.lt,World.alloc_heap_new W _,rfl⟩
 case body =>
  have o9:=@Oper.semAt_some;rintro l p x G W eN _ ⟨⟨v,hv,aC,_⟩,hB⟩ ⟨d,hBx,bX,rfl⟩ bP;have y:=hv.cell;have x0:=aP bX 0;have x1:=aP bX 1;simp at x0 x1;have h3:1<=n-1-1:=oE;have Wr:Fence.wide.fn 166:=trivial;have ZX:Fence.wide.fn 231:=trivial;have hlen:=zU p;have b0:=Z.2.2;obtain⟨z1,z2,z3⟩:=x.2;have c1:=(callsIn_wide (n:=n-1-1-1)).2 (Lx w.heap.size v (be 8 t++cN p) x.1.2.way (8+(cN p).length) W aC z3 oE hB.size)
  gi_wp2_with fail
  refine c1.mono ?_;clear c1;rintro e W1 ⟨v1,rfl,fe,gw,DR⟩;obtain⟨F,r,rfl⟩:=dI fe oE;have u:=xg hv DR dN;have ak:=za bX DR dN;have om:=u.cell;have bF:=u.frozen;obtain⟨J,E⟩:∃J,J=W1.setCell ⟨a.heap.size,0,none⟩ (.slice (some ⟨F,0,none⟩) (8+(cN p).length+1) r):=⟨_,rfl⟩
  have A:Hid (Boxed J a.heap.size 179 (.slice (some ⟨F,0,none⟩) (8+(cN p).length+1) r)/\J.heap[d]?=some (.cells #[.int .u8 (x.1.2.way:Int),.string x.1.2.val] 287 (0,0))/\J.ownsRow w.heap.size 5 1 (.slice (some ⟨F,0,none⟩) (8+(cN p).length+1) r) (8+(cN p).length+1) (bs (be 8 t++cN p++be 1 x.1.2.way))/\DQ 9 287 w.heap.size W J/\KeepsOthers W J):=by
   rw[E];exact⟨u.set _,qH ak oE,D9 fe u dN,DQ.of gw DR u dN dN dN dN oE,DR.others.trans (KeepsOthers.setCell _ _ _)⟩
  have N:=aP A.2.1 1;simp at N;have c2:=(callsIn_wide (n:=n-1-1-1)).2 (vu w.heap.size (.slice (some ⟨F,0,none⟩) (8+(cN p).length+1) r) (be 8 t++cN p++be 1 x.1.2.way) (8+(cN p).length+1) x.1.1 J A.2.2.1 oE oE (zzk hB.size A.2.2.2.1.below.size));clear y x0 x1;rw[E] at N
  gi_wp2_with fail
  rw[<-E];clear E;refine c2.mono ?_;clear c2;rintro e W2 ⟨v2,rfl,iH,cU,DS⟩;obtain⟨q,s,rfl⟩:=dI iH oE;have i:=xg A.1 DS dN;have T:=za A.2.1 DS dN;have lI:=i.cell;have cA:=i.frozen;have ay:=aP T 0;have al:=aP T 1;simp at ay al;obtain⟨K,Q⟩:∃K,K=W2.setCell ⟨a.heap.size,0,none⟩ (.slice (some ⟨q,0,none⟩) (8+(cN p).length+1+1+x.1.1.size) s):=⟨_,rfl⟩
  have z:Hid (Boxed K a.heap.size 179 (.slice (some ⟨q,0,none⟩) (8+(cN p).length+1+1+x.1.1.size) s)/\K.heap[d]?=some (.cells #[.int .u8 (x.1.2.way:Int),.string x.1.2.val] 287 (0,0))/\K.ownsRow w.heap.size 5 1 (.slice (some ⟨q,0,none⟩) (8+(cN p).length+1+1+x.1.1.size) s) (8+(cN p).length+1+1+x.1.1.size) (bs (be 8 t++cN p++be 1 x.1.2.way++[x.1.1.size]++bytesOf x.1.1))/\DQ 9 287 w.heap.size W K/\KeepsOthers W K):=by
   rw[Q];exact⟨i.set _,qH T oE,D9 iH i dN,A.2.2.2.1.trans (DQ.of cU DS i dN dN dN dN oE),A.2.2.2.2.trans (DS.others.trans (KeepsOthers.setCell _ _ _))⟩
  have P:=aP z.2.1 1;simp at P;have c3:=(callsIn_wide (n:=n-1-1-1)).2 (vu w.heap.size (.slice (some ⟨q,0,none⟩) (8+(cN p).length+1+1+x.1.1.size) s) (be 8 t++cN p++be 1 x.1.2.way++[x.1.1.size]++bytesOf x.1.1) (8+(cN p).length+1+1+x.1.1.size) x.1.2.val K z.2.2.1 oE oE (zzk hB.size z.2.2.2.1.below.size));clear om bF N;rw[Q] at P
  gi_wp2_with fail
  rw[<-Q];clear Q;refine c3.mono ?_;clear c3;rintro e W3 ⟨v3,rfl,wO,eV,UD⟩;obtain⟨g3,H,rfl⟩:=dI wO oE;have M:=xg z.1 UD dN;have U:=za z.2.1 UD dN;have oX:=M.cell;have dD:=M.frozen;have ad:=aP U 0;have an:=aP U 1;simp at ad an;obtain⟨Y,V⟩:∃Y,Y=W3.setCell ⟨a.heap.size,0,none⟩ (.slice (some ⟨g3,0,none⟩) (8+(cN p).length+1+1+x.1.1.size+1+x.1.2.val.size) H):=⟨_,rfl⟩
  have a6:Hid (Boxed Y a.heap.size 179 (.slice (some ⟨g3,0,none⟩) (8+(cN p).length+1+1+x.1.1.size+1+x.1.2.val.size) H)/\Y.heap[d]?=some (.cells #[.int .u8 (x.1.2.way:Int),.string x.1.2.val] 287 (0,0))/\Y.ownsRow w.heap.size 5 1 (.slice (some ⟨g3,0,none⟩) (8+(cN p).length+1+1+x.1.1.size+1+x.1.2.val.size) H) (8+(cN p).length+1+1+x.1.1.size+1+x.1.2.val.size) (bs (be 8 t++cN p++be 1 x.1.2.way++[x.1.1.size]++bytesOf x.1.1++[x.1.2.val.size]++bytesOf x.1.2.val))/\DQ 9 287 w.heap.size W Y/\KeepsOthers W Y):=by
   rw[V];exact⟨M.set _,qH U oE,D9 wO M dN,z.2.2.2.1.trans (DQ.of eV UD M dN dN dN dN oE),z.2.2.2.2.trans (UD.others.trans (KeepsOthers.setCell _ _ _))⟩
  have a8:=aP a6.2.1 1;simp at a8;clear lI cA P a8
  gi_wp2
  rw[<-V];clear V;have h:=a6.out
  have e1:be 8 t++cN p++be 1 x.1.2.way++[x.1.1.size]++bytesOf x.1.1++[x.1.2.val.size]++bytesOf x.1.2.val=be 8 t++cN (p++[x]):=by
   rw[yj,be1 z3];simp[vx]
  have e2:8+(cN p).length+1+1+x.1.1.size+1+x.1.2.val.size=8+(cN (p++[x])).length:=by
   rw[yj];simp only[vx,zzi,zzr,List.length_nil,dC];omega
  rw[e1,e2] at h;exact⟨h.2.2.2.2.from _,h.2.2.2.1,⟨_,h.1,h.2.2.1,trivial⟩,hB.trans h.2.2.2.1.below⟩
 case done =>
  rintro a1 I W hD QB ⟨⟨v,hv,aC,_⟩,hB⟩ hK;have y:=hv.cell;obtain⟨g5,k5,rfl⟩:=dI aC oE;have aX:=oY W g5 0 (8+(cN I).length) k5 (be 8 t++cN I) (by rw[zzi,eY]) (uN aC)
  gi_wp2
  refine⟨sE,.inl ⟨_,_,rfl,run_takeDeferred hK,?_⟩⟩;have e:cN I=bW (b9 L):=by unfold cN;rw[QB]
  exact⟨_,results_tmp rfl _ _ _,by rw[<-e];rfl,hB.trans (belowK_b (w:=w) (zzc _) W a1 _ _ oE hK rfl rfl)⟩
 case stop =>
  rintro a1 c p W _ _ h _;exact h.elim
theorem vy(t b m:Nat)(L:List<|ByteArray×aQ)(a:m<=1000000000)(w:World)(h:bB KS EG w b m L)(c:t<2^64)(O:∀x∈b9 L,gz x)(l:L.length<=16):
  Calls prog 192 #[.int .u64 (t:Int),.map<|some b] w λe w'=>e=.returned (.string<|str<|be 8 t++bW (b9 L))/\Below w.heap.size w w':=
 (callsIn_wide).1 (Gf 8 (zzc _) t b m L a w h c O l)
end
end Go.Proofs.YtdcafjmdfpjcbaaGreatDoor
