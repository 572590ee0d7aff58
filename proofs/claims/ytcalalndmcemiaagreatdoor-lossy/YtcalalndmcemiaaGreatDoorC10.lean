import Derived.Test.YtcalalndmcemiaaGreatDoorC08
import Derived.Test.YtcalalndmcemiaaGreatDoorC07
import Derived.RangeFuncNested
import Derived.Sort.MapsRangeIn
set_option maxHeartbeats 4000000
set_option maxRecDepth 100000
namespace Go.Proofs.YtcalalndmcemiaaGreatDoor
open Go.RowKit Go.Maps Tryz Sc
variable{xs:List Value}{B box k n:Nat}{K V:Type}{a b d e t:TypeId}{v:Value}{A C w:World}
theorem kP[DecidableEq K]{l:List (K×V)}{k:K}{v:V}(h:(k,v)∈l):(aT l k).length+1<=l.length:=by
 have:(aT l k).length<l.length:=by
  unfold aT;rw[List.length_filter_lt_length_iff_exists];exact⟨_,h,bR⟩
 omega
theorem ky[DecidableEq K]{l:List (K×V)}{k j:K}{v:V}:ak (aV l k v) j=if j=k then some v else ak l j:=by
 by_cases e:j=k
 .subst e;rw[if_pos rfl];simp[ak,aV]
 .rw[if_neg e];have h:=fY (rem:=l) (k:=k) (j:=j);rw[if_neg e]at h;rw[<-h];have a:¬k=j:=λx=>e x.symm
  simp[ak,aV,a]
theorem Xf(W:World):(Instr.makeMap 262 none).run prog W=.ok (.map<|some W.heap.size) (W.alloc<|.map #[] 0):=by
 simp[Instr.makeMap]
theorem mU(p lg V T H n t:Nat)(s:ag)(w:World)(h:a_ w p lg V T H n s)(ht:t<18446744073709551616)(hn:n<maxLen):
  Calls prog 152 #[.pointer<|some ⟨p,0,none⟩,.int .u64 (t:Int)] w λe w'=>∃b L,e=.returned (.map<|some b)/\w.heap.size<=b/\aO KS EG w' b n L/\(∀k,ak L k=ak s.holds (t,k))/\Fr [] w w':=by
 have I:=af h;have c3:=ae h.blk 3;simp at c3;have xo:p<w.heap.size:=(zza.1 h.blk).1;clear h;have OZ:=Xf;go_enter func152,ntmps152;go_wp2_with (first
  |(at_range;apply fq rfl _ 137 134 rfl underlying137 H n s.holds rfl (I.out.holds.fr ((lT w).alloc _) bR);intro Q D c S)
  |go_in)
 have i:(w.alloc<|.map #[] 0).heap.size=w.heap.size+1:=bR
 rw[i]at D S ⊢;clear i;go_frame
 have F:=af<|((lT w).alloc _).trans<|Fr.bz c;have A:Hid (aO KS EG Q w.heap.size 0 []):=(aO.made w).fr (Fr.bz c) bR;have G:=af D;have hlen:=I.out.holds.len;clear D c
 go_loopw [6] (λ_ wr=>∃rem L m,Hid<|aY KH EG wr H (w.heap.size+1) n s.holds rem/\aO KS EG wr w.heap.size m L/\m+rem.length<=n/\(∀k,ak L k=if (ak rem (t,k)).isSome=true then none else ak s.holds (t,k))/\Fr [] w wr/\w.heap.size+2<=wr.heap.size) (λ_ wr=>wr.rangeLeft H<|w.heap.size+1)
 case atStart=>
  refine⟨s.holds,[],0,G.out,A.out,bL,λk=>?_,F.out,bL⟩
  cases ak s.holds (t,k)with
  |none=>rfl
  |some v=>rfl
 case round=>
  have⟨rem,L,m,X⟩:=hrel;have Z:=X.1;go_wp2_with (first
   |(at_next;refine fN rfl _ rfl H (w.heap.size+1) n s.holds rem rfl Z ?_ ?_)
   |go_in)
  .intro dM;go_wp2;go_ret;refine⟨w.heap.size,L,rfl,zzc _,X.2.1.mono<|by have:=X.2.2.1;omega,λk=>?_,X.2.2.2.2.1⟩;rw[X.2.2.2.1 k,dM];rfl
  .intro tx k2 x w2 hm kZ bU fc dT iU;have O:((tx,k2),x)∈s.holds:=by
    obtain⟨_,_,_,_,_,_,_,_,N,_⟩:=Z;exact N _ hm
   have B:tx<18446744073709551616/\k2.size<=maxLen:=by
    obtain⟨_,_,_,_,B⟩:=Z.owns;exact(B _ O).1
   have E:=af bU;have f:=af kZ;have y:Hid (Fr [] w w2):=X.2.2.2.2.1.andThen (Fr.aF fc) (λj a P=>by simp at a;omega);have g:Hid (aO KS EG w2 w.heap.size m L):=X.2.1.fr (Fr.aF fc) bR;have u:w.heap.size+2<=w2.heap.size:=by have:=X.2.2.2.2.2;omega
   have W:(Instr.entry<|.pointer<|some ⟨w.heap.size+1,0,none⟩).run prog w2=.ok (.tuple #[.agg #[.int .u64 (tx:Int),.string k2],.agg #[.int .u8 (x.way:Int),.string x.val]]) w2:=iU;have M:=af<|zzb hm O;have C:Hid (b_ s.holds):=by obtain⟨_,_,_,K,_⟩:=Z.owns;exact K
   clear Z kZ hm O iU fc dT bU
   have J:m<maxLen:=by
    have o:=kP M.1;have q:=X.2.2.1;omega
   by_cases l:tx=t
   .subst l
    go_wp2_with (first
     |(at_mapUpdate;refine xW (KR:=KS) (ER:=EG) rfl _ _ _ 262 134 rfl underlying262 w.heap.size m L rfl (g.out.fr (((lT w2).alloc _).alloc _) bR) J k2 B.2 rfl x trivial rfl ?_;intro R Y U)
     |go_in)
    go_frame
    go_wp2;have z:Fr [w.heap.size] w2 R:=(((Fr.refl [w.heap.size] w2).alloc _).alloc _).trans<|Fr.aF U;have gT:H<w.heap.size:=I.out.eY.2.2.2.1;obtain⟨r,d⟩:=f.out.fr z cE bR
    go_roundw
    case rel=>
     refine⟨aT rem (tx,k2),aV L k2 x,m+1,r,Y,?_,λk=>?_,y.out.andThen z λj a P=>by simp at a;omega,zzk u z.size⟩
     .have o:=kP M.1;have q:=X.2.2.1;omega
     .rw[ky,fY];by_cases e:k=k2
      .subst e;rw[if_pos rfl,if_pos (rfl:(tx,k)=(tx,k))];exact(cP C.out M.2).symm
      .have e1:¬(tx,k)=(tx,k2):=by simp[e]
       rw[if_neg e,if_neg e1];exact X.2.2.2.1 k
    case measure=>rw[d];exact E.out
   .have hb:((tx:Int)==t)=false:=cE;go_wp2;obtain⟨r,d⟩:=f.out.fr (((lT w2).alloc<|.cells #[.int .u64 (tx:Int),.string k2] 141).alloc<|.cells #[.int .u8 (x.way:Int),.string x.val] 134) bR bR;refine⟨⟨aT rem (tx,k2),L,m,r,g.out.fr (((lT w2).alloc _).alloc _) bR,?_,λk=>?_,y.out.trans<|((lT w2).alloc _).alloc _,zzk u cE⟩,by rw[d];exact E.out⟩
    .have o:=kP M.1;have q:=X.2.2.1;omega
    .have e1:¬(t,k)=(tx,k2):=λe=>l (congrArg Prod.fst e).symm
     rw[fY,if_neg e1];exact X.2.2.2.1 k
def Cx(L:List (ByteArray × aK)):Bool:=L.any λp=>p.2.writes
theorem Ah(b n:Nat)(L:List (ByteArray × aK))(w:World)(h:aO KS EG w b n L):
  Calls prog 313 #[.map (some b)] w λe w'=>e=.returned (.bool (Cx L))/\Fr [] w w':=by
 have I:=af h;clear h
 go_enter func313,ntmps313
 go_wp2_with (first
  |(at_range;refine fq (KR:=KS) (ER:=EG) rfl _ 262 134 rfl underlying262 b n L rfl I.out ?_;intro H D z J)
  |go_in)
 go_frame
 have l:=af (Fr.bz z);have G:=af D;clear D z
 go_loopw [4] (λ_ wr=>∃rem,Hid (aY KS EG wr b w.heap.size n L rem/\(∀p∈L,p∉rem->p.2.writes=false)/\Fr [] w wr/\w.heap.size+1<=wr.heap.size)) (λ_ wr=>wr.rangeLeft b w.heap.size)
 case atStart=>exact⟨L,G.out,λp q r=>absurd q r,l.out,by omega⟩
 case round =>
  obtain⟨rem,X⟩:=hrel;have Z:=X.1
  go_wp2_with (first
   |(at_next;refine fN (KR:=KS) (ER:=EG) rfl _ rfl b w.heap.size n L rem rfl Z ?_ ?_)
   |go_in)
  .intro dM;go_wp2;go_ret;refine⟨?_,X.2.2.1⟩
   have Q:Cx L=false:=by
    unfold Cx;rw[List.any_eq_false];intro p c;rw[X.2.1 p c (by rw[dM];simp)];simp
   rw[Q];rfl
  .intro k x w2 hm kZ bU fc dT iU
   have i:(k,x)∈L:=by
    obtain⟨_,_,_,_,_,_,_,_,t,_⟩:=Z;exact t _ hm
   have M:Hid (Fr [] w w2):=X.2.2.1.andThen (Fr.aF fc) (λj u F=>by simp at u;omega);have y:w.heap.size+1<=w2.heap.size:=by have:=X.2.2.2;omega
   have E:(Instr.entry (.pointer (some ⟨w.heap.size,0,none⟩))).run prog w2=.ok (.tuple #[.string k,.agg #[.int .u8 (x.way:Int),.string x.val]]) w2:=iU
   have O:Hid (x.writes=false->∀W,Fr [] w2 W->(∃rem,Hid (aY KS EG W b w.heap.size n L rem/\(∀p∈L,p∉rem->p.2.writes=false)/\Fr [] w W/\w.heap.size+1<=W.heap.size))/\W.rangeLeft b w.heap.size<wr.rangeLeft b w.heap.size):=λg W f=>by
    obtain⟨B,C⟩:=kZ.fr f (by simp) (by simp);refine⟨⟨aT rem k,B,λp c hn=>?_,M.out.trans f,zzk y f.size⟩,by rw[C];exact bU⟩;by_cases A:p∈rem
    .have Lr:p.1=k:=Decidable.byContradiction λv=>hn (zzp.2 ⟨A,by simp[v]⟩)
     have V:b_ L:=by obtain⟨_,_,_,s,_⟩:=Z.owns;exact s
     have:=V.same c i Lr;rw[this];exact g
    .exact X.2.1 p c A
   have d:Hid (x.writes=true->Cx L=true):=λg=>by
    unfold Cx;rw[List.any_eq_true];exact⟨_,i,g⟩
   clear Z kZ hm i iU fc dT bU;by_cases a:x.way=0
   .have hb:((x.way:Int) != 0)=false:=by simp[a]
    have o:Hid _:=O.out (by simp[aK.writes,a]);clear O d a;go_wp2;exact o.out _ (((Fr.refl [] w2).alloc _).alloc _)
   .have hb:((x.way:Int) != 0)=true:=by simp[a]
    have m:Hid _:=d.out (by simp[aK.writes,a]);clear O d a;go_wp2;go_ret;exact⟨by rw[m.out];rfl,M.out.trans (((Fr.refl [] w2).alloc _).alloc _)⟩
theorem Cy(bs p lg V T H n tx:Nat)(k:ByteArray)(x:aK)(s:ag)(w:World)(h:a_ w p lg V T H n s)(E:w.heap[bs]?=some (.cells #[.pointer<|some ⟨p,0,none⟩] 75))(a:tx<18446744073709551616):
  Calls prog 232 #[.agg #[.int .u64 (tx:Int),.string k],.agg #[.int .u8 (x.way:Int),.string x.val],.pointer<|some ⟨bs,0,none⟩] w λe w'=>e=.returned (.bool<|decide<|(s.aP tx).state=0)/\Fr [] w w':=by
 have I:=af h;have d:=ae E 0;simp at d;have g:=(zza.1 E).1;have z:¬bs=w.heap.size:=bL;have c:¬bs=w.heap.size+1:=bL;clear h E;go_enter func232,ntmps232;go_wp2_with fail;apply(Lq p lg V T H n tx s _ (I.out.fr (((lT w).alloc _).alloc _) bR bR bR bR) a).mono;rintro e b ⟨rfl,q,rfl⟩;go_wp2;go_ret;refine⟨?_,cw (((lT w).alloc _).alloc _) q⟩;congr 2;by_cases e:(s.aP tx).state=0
 .simp[e]
 .simp[e]
def oM(s:ag)(p:(Nat × ByteArray) × aK):Bool:=!decide ((s.aP p.1.1).state=0)
theorem EB(bs b lg V T H n:Nat)(s:ag)(w:World)(h:a_ w b lg V T H n s)(E:w.heap[bs]?=some (.cells #[.pointer<|some ⟨b,0,none⟩] 75)):
  Calls prog 231 #[.map<|some H,.func (.func 232) #[] #[.pointer<|some ⟨bs,0,none⟩]] w λe w'=>e=.returned (.tuple #[])/\a_ w' b lg V T H n {s with holds:=s.holds.filter (oM s)}/\Fr [H] w w':=by
 have I:Hid (a_ w b lg V T H n s):=h;have P:Hid (w.heap[bs]?=some (.cells #[.pointer<|some ⟨b,0,none⟩] 75)):=E;have gT:bs<w.heap.size:=(zza.1 E).1;have a1:H<w.heap.size:=h.eY.2.2.2.1;have f:bs≠H:=by rintro rfl;obtain⟨es,c,e⟩:=h.holds.isMap;rw[E]at e;cases e
 clear h E
 go_enter func231,ntmps231
 go_wp2_with (first
  |(at_range;refine fq (KR:=KH) (ER:=EG) rfl _ 137 134 rfl underlying137 H n s.holds rfl I.out.holds ?_;intro L t u xk)
  |go_in)
 go_frame
 have S:Hid (Fr [H] w L):=(Fr.bz u).mono (by simp);have N:Hid (aY KH EG L H w.heap.size n (s.holds.filter λ_=>true) s.holds):=by
  have e:(s.holds.filter λ_=>true)=s.holds:=List.filter_eq_self.2 bR;rw[e];exact t
 clear t u;go_loopw [4] (λ_ wr=>∃rem g,Hid<|aY KH EG wr H w.heap.size n (s.holds.filter g) rem/\(∀p∈s.holds,p∉rem->g p=oM s p)/\(∀p∈rem,p∈s.holds)/\Fr [H] w wr/\w.heap.size+1<=wr.heap.size) (λ_ wr=>wr.rangeLeft H w.heap.size);case atStart=>exact⟨s.holds,λ_=>true,N.out,λp h1 h2=>absurd h1 h2,λp a=>a,S.out,bL⟩
 case round=>
  have⟨rem,g,X⟩:=hrel;have Z:=X.1;go_wp2_with (first
   |(at_next;refine fN (KR:=KH) (ER:=EG) rfl _ rfl H w.heap.size n (s.holds.filter g) rem rfl Z ?_ ?_)
   |go_in)
  .intro dM;go_wp2;go_end0;have e:s.holds.filter g=s.holds.filter (oM s):=List.filter_congr λp a=>X.2.1 p a<|by rw[dM];simp
   refine⟨rfl,?_,X.2.2.2.1⟩;rw[<-e];exact I.out.tX X.2.2.2.1 X.1.owns<|zzc _
  .intro tx k2 x w2 m kZ bU fc dT iU;have O:((tx,k2),x)∈s.holds:=X.2.2.1 _ m;have B:tx<18446744073709551616/\k2.size<=maxLen:=by
    have⟨_,_,_,_,B⟩:=I.out.holds;exact(B _ O).1
   have U:Hid (w2.rangeLeft H w.heap.size<wr.rangeLeft H w.heap.size):=bU;have A:Hid (aY KH EG w2 H w.heap.size n (s.holds.filter g)<|aT rem (tx,k2)):=kZ;have i:Hid (Fr [H] w w2):=X.2.2.2.1.andThen (Fr.aF fc) (λj hj hl=>by simp at hj;omega);have l0:w.heap.size+1<=w2.heap.size:=by have:=X.2.2.2.2;omega
   have O6:(Instr.entry<|.pointer<|some ⟨w.heap.size,0,none⟩).run prog w2=.ok (.tuple #[.agg #[.int .u64 (tx:Int),.string k2],.agg #[.int .u8 (x.way:Int),.string x.val]]) w2:=iU;have Y:Hid (a_ w2 b lg V T H n {s with holds:=s.holds.filter g}):=I.out.tX i.out A.out.owns<|zzc _;have wC:Hid (w2.heap[bs]?=some (.cells #[.pointer<|some ⟨b,0,none⟩] 75)):=(i.out.block bs gT<|by simp;exact f).trans P.out;have C:Hid (b_ s.holds):=by have⟨_,_,_,h3,_⟩:=I.out.holds;exact h3
   have M:Hid (((tx,k2),x)∈rem/\((tx,k2),x)∈s.holds):=⟨m,O⟩;have R:Hid (g ((tx,k2),x)=true):=by
    have⟨_,_,_,_,_,_,_,_,h6,_⟩:=Z;exact(zzp.1<|h6 _ m).2
   clear Z kZ m O iU fc dT bU;go_wp2_with fail;refine(Cy bs b lg V T H n tx k2 x {s with holds:=s.holds.filter g} _ (Y.out.fr (((lT w2).alloc _).alloc _) bR bR bR bR) (((((lT w2).alloc _).alloc _).block bs bL bR).trans wC.out) B.1).mono ?_;rintro e d ⟨rfl,Ai⟩;have o:Hid (Fr [] w2 d):=(((lT w2).alloc _).alloc _).trans Ai;have Q:d.heap[w2.heap.size]?=some (.cells #[.int .u64 (tx:Int),.string k2] 141):=by
    rw[Ai.block w2.heap.size cE bR,((Fr.refl []<|w2.alloc<|.cells #[.int .u64 (tx:Int),.string k2] 141).alloc _).block w2.heap.size bR bR];exact heap_alloc_new _ _
   have k0:=ae Q 0;have k1:=ae Q 1;simp at k0 k1;clear Ai Q;have W:Hid (oM s ((tx,k2),x)=!decide ((s.aP tx).state=0)):=rfl;have l:Hid (w.heap.size+1<=d.heap.size):=zzk l0 o.out.size;have G:({s with holds:=s.holds.filter g}:ag).aP tx=s.aP tx:=rfl;rw[G];clear G;have⟨v,y⟩:=A.out.fr o.out bR bR;have J:Hid (aY KH EG d H w.heap.size n (s.holds.filter g) (aT rem (tx,k2))/\d.rangeLeft H w.heap.size<wr.rangeLeft H w.heap.size):=⟨v,by rw[y];exact U.out⟩;have F:Hid (Fr [H] w d):=i.out.trans (o.out.mono bR);have q:Hid (∀p∈aT rem (tx,k2),p∈s.holds):=λp a=>X.2.2.1 p (zzp.1 a).1
   have k:Hid (∀p∈s.holds,p∉aT rem (tx,k2)->p=((tx,k2),x)\/p∉rem):=λp a hn=>by
    by_cases K:p∈rem
    .have Lr:p.1=(tx,k2):=Decidable.byContradiction λf=>hn<|zzp.2 ⟨K,by simp[f]⟩
     exact .inl<|C.out.same a M.2 Lr
    .exact .inr K
   clear v y;by_cases z:(s.aP tx).state=0
   .have hd:decide ((s.aP tx).state=0)=true:=by simp[z]
    rw[hd]at W ⊢;clear z hd;go_wp2_with (first
     |(at_delete;refine pn (KR:=KH) (ER:=EG) rfl _ _ 137 134 rfl underlying137 H w.heap.size n (s.holds.filter g) (aT rem (tx,k2)) rfl J.1 (tx,k2) B rfl ?_;intro w4 D iZ j8)
     |go_in)
    go_frame;go_wp2;have r:Fr [H] d w4:=Fr.aF j8;have e4:aT (s.holds.filter g) (tx,k2)=s.holds.filter λp=>!decide (p.1=(tx,k2))&&g p:=List.filter_filter ..
    rw[e4]at D;go_roundw;case rel=>
     refine⟨aT (aT rem (tx,k2)) (tx,k2),λp=>!decide (p.1=(tx,k2))&&g p,D,λp a hn=>?_,λp a=>q.out p (zzp.1 a).1,F.out.trans r,zzk l.out r.size⟩;have zS:p∉aT rem (tx,k2):=λm=>hn<|zzp.2 ⟨m,(zzp.1 m).2⟩
     obtain rfl|F7:=k.out p a zS
     .rw[W.out];simp
     .have Zm:¬p.1=(tx,k2):=λe=>F7<|by rw[C.out.same a M.2 e];exact M.1
      rw[<-X.2.1 p a F7];simp[Zm]
    case measure=>exact Nat.lt_of_le_of_lt iZ J.2
   .have hd:decide ((s.aP tx).state=0)=false:=by simp[z]
    rw[hd]at W ⊢;clear z hd;go_wp2;refine⟨⟨aT rem (tx,k2),g,J.1,λp a hn=>?_,q.out,F.out,l.out⟩,J.2⟩;obtain rfl|F7:=k.out p a hn
    .rw[R.out,W.out];rfl
    .exact X.2.1 p a F7
theorem ay{p:Nat}{c:Array Value}(h:w.heap[p]?=some (.cells c t (0,0)))(i:Nat):w.cell? ⟨p,i,none⟩=c[i]?:=by simp[World.cell?,h]
theorem jb(h:w.ownsRow B e k v n xs)(hn:0<n):∃g p,v=.slice (some ⟨g,0,none⟩) n p:=by
 rcases h.2 with⟨_,a⟩|⟨g,p,r,rfl,_⟩
 .omega
 .exact⟨g,p,rfl⟩
theorem hZ(h:w.ownsRow B e k v n xs):∃p c,v=.slice p n c:=by
 rcases h.2 with⟨rfl,rfl⟩|⟨g,c,r,rfl,_⟩
 .exact⟨_,_,rfl⟩
 .exact⟨_,_,rfl⟩
theorem ep{a:Nat}(h:w.ownsRow B e k v n xs)(c:a<=B):w.ownsRow a e k v n xs:=by
 refine⟨h.1,?_⟩;obtain b|⟨g,cap,cur,hv,hb,r⟩:=h.2
 .exact .inl b
 .exact .inr ⟨g,cap,cur,hv,zzk c hb,r⟩
theorem dU(w:World)(s:Array Value)(t:TypeId):∀j u,s.toList[j]?=some u->(w.alloc<|.cells s t).cell? ((⟨w.heap.size,0,none⟩:Addr).add j)=some u:=by
 intro j u a;have hn:(w.alloc<|.cells s t).heap[w.heap.size]?=some (.cells s t (0,0)):=World.alloc_heap_new w _;have:(((gz w.heap.size):Addr).add j)=(hO w.heap.size j):=by simp[Addr.add];exact λh=>h.symm
 rw[this,ay hn];simpa using a
structure Cg(t1 t2:TypeId)(n₀:Nat)(A B:World):Prop where
 below:Below n₀ A B
 same:∀(k:Nat) (c:Array Value) (t:TypeId),(t=t1\/t=t2)->A.heap[k]?=some (Obj.cells c t (0,0))->B.heap[k]?=A.heap[k]?
theorem Cg.trans{B:World}(h:Cg a b n A B)(k:Cg a b n B C):Cg a b n A C:=
 ⟨h.below.trans k.below,λi c t f d=>by have e:=h.same i c t f d;exact(k.same i c t f<|e.trans d).trans e⟩
theorem Cg.book{g:TypeId}(hn:n<=w.heap.size)(W:World)(l:Nat)(o b:Obj)(d:w.heap.size<=l)(h:W.heap[l]?=some o)(c:o.isCells=false)(f:o.isWalk=false):Cg t g n W (W.putObj l b):=
 ⟨belowK_b hn W l o b d h c f,λk _ _ _ a=>World.putObj_heap_other λe=>by rw[e,h]at a;cases a;cases c⟩
theorem Cg.alloc(W:World)(hn:n<=W.heap.size)(o:Obj):Cg t a n W (W.alloc o):=
 ⟨(zzD n W).alloc hn o,λk _ _ _ h=>zzf _ _ k (zza.1 h).1⟩
def D9(box:Nat)(A:World)(k:Nat):Prop:=∃v,A.cell? ⟨box,0,none⟩=some v/\v.ownBlock=some k
structure xU(t1 t2:TypeId)(n₀ box:Nat)(A B:World):Prop where
 below:Below n₀ A B
 same:∀(k:Nat) (c:Array Value) (t:TypeId),(t=t1\/t=t2)->A.heap[k]?=some (Obj.cells c t (0,0))->¬D9 box A k->B.heap[k]?=A.heap[k]?
 stay:∀k,k<A.heap.size->D9 box B k->D9 box A k
theorem xU.trans{B:World}(h:xU b d n box A B)(k:xU b d n box B C):xU b d n box A C:=
 ⟨h.below.trans k.below,λi c t f a hn=>by
  have l:=(zza.1 a).1;have e:=h.same i c t f a hn;exact(k.same i c t f (e.trans a) λr=>hn<|h.stay i l r).trans e,
  λi a r=>h.stay i a (k.stay i (zzl a h.below.size) r)⟩
theorem xU.book{m:TypeId}(hn:n<=w.heap.size)(hb:box<w.heap.size)(W:World)(l:Nat)(o d:Obj)(i:w.heap.size<=l)(h:W.heap[l]?=some o)(c:o.isCells=false)(j:o.isWalk=false):xU t m n box W (W.putObj l d):=
 ⟨belowK_b hn W l o d i h c j,λk _ _ _ b _=>World.putObj_heap_other (λe=>by rw[e,h]at b;cases b;cases c),λk _ r=>by
  have⟨v,f,g⟩:=r;refine⟨v,?_,g⟩;rw[<-f];exact(zze (World.putObj_heap_other (show box≠l by omega))).symm⟩
theorem xU.alloc(W:World)(hn:n<=W.heap.size)(hb:box<W.heap.size)(o:Obj):xU t d n box W (W.alloc o):=
 ⟨(zzD n W).alloc hn o,λk _ _ _ c _=>zzf _ _ k (zza.1 c).1,λk _ r=>by
  have⟨v,h,b⟩:=r;refine⟨v,?_,b⟩;rw[<-h];exact(zze (zzf _ _ box hb)).symm⟩
theorem xU.refl{t a:TypeId}{n box:Nat}(W:World):xU t a n box W W:=⟨zzD _ _,λ_ _ _ _ _ _=>rfl,λ_ _ h=>h⟩
theorem xU.appended{i j:TypeId}{W:World}{a:Value}{p:Obj}(d:Boxed W box t v)(U:t≠i)(J:t≠j)(m:(W.alloc p).grownBy w v.ownBlock)(l:a.ownBlock=v.ownBlock\/a.ownBlock=some (W.alloc p).heap.size)(hb:Below n W<|w.setCell ⟨box,0,none⟩ a)(x:Boxed (w.setCell ⟨box,0,none⟩ a) box t a):xU i j n box W (w.setCell ⟨box,0,none⟩ a):=
 ⟨hb,λk c y s h hn=>by
  have o:=(zza.1 h).1;have q:k≠box:=λe=>by
   subst e;rw[show W.heap[k]?=_ from d]at h;have f:=(Obj.cells.inj<|Option.some.inj h).2.1;obtain rfl|rfl:=s
   .exact U f
   .exact J f
  refine(Below.heap_setCell _ _ _ k λe=>q<|by simpa using e).trans<|(m.block k cE λe=>hn ⟨v,d.cell,e.symm⟩).trans<|zzf _ _ k o,
  λk h r=>by
  have⟨u,g,b⟩:=r;rw[x.cell]at g;cases g;obtain e|e:=l
  .exact⟨v,d.cell,by rw[<-e];exact b⟩
  .rw[e]at b;simp at b;omega⟩
section
variable{P:Program}{K V:Type}[DecidableEq K]{E:TypeId}{KR:iD P K E}{ER:kK V}{w w':World}{b r n:Nat}{l rem:List (K × V)}
theorem yc:∀{l:List (K×V)} {k:K} {v:V},b_ l->(k,v)∈l->l.Perm ((k,v)::aT l k)
 |[],_,_,_,h=>by cases h
 |p::r,k,v,h1,h2=>by
  have⟨a,b⟩:=zzA.1 h1;obtain e|hm:=zzj.1 h2
  .subst e;have:aT ((k,v)::r) k=r:=by
    unfold aT;rw[List.filter_cons_of_neg bR,List.filter_eq_self];intro q c;have:=a q c;simp;exact λe=>this e.symm
   rw[this]
  .have hne:p.1≠k:=λe=>a _ hm e
   have:aT (p::r) k=p::aT r k:=by unfold aT;rw[List.filter_cons_of_pos<|by simp[hne]]
   rw[this];exact((yc b hm).cons p).trans<|List.Perm.swap _ _ _
theorem aY.walks(h:aY KR ER w b r n l rem)(k:KeepsWalks w w'):aY KR ER w' b r n l rem/\w'.rangeLeft b r=w.rangeLeft b r:=by
 have⟨s,left,t,a,c⟩:=h;have q:=a.of_walks k;exact⟨⟨s,left,t,q,c⟩,by rw[q.left_eq,a.left_eq]⟩
theorem aY.iter(h:aY KR ER w b r n l rem):∃o:Obj,w.heap[r]?=some o/\o.isWalk=true:=by
 have⟨s,left,t,a,c⟩:=h;exact a.iter_walk
theorem aY.once(h:aY KR ER w b r n l rem):b_ rem:=by
 have⟨_,_,_,_,_,_,_,a,_⟩:=h;exact a
end
section
variable{F:Fence}{G:Nat}{P:Program}{K V:Type}[DecidableEq K]{E:TypeId}{KR:iD P K E}{ER:kK V}{w:World}{ops:Array Oper}{rest:List Oper}{o:Oper}{a:Act}{Q:Exit->Act->World->Prop}
theorem l7(f:o.guard=none)(m:Operand)(t e:TypeId)(u:o.op=Op.range t m)(r:P.underlying t=some (.map E e))(b n:Nat)(l:List<|K×V)(j:a.eval m=.map (some b))(M:aO KR ER w b n l)
  (d:∀w',aY KR ER w' b w.heap.size n l l->w.grownBy w' none->w'.heap.size=w.heap.size+1->wpListIn F G P ops Q rest (a.put o.dst<|.pointer<|some ⟨w.heap.size,0,none⟩) w'):wpListIn F G P ops Q (o::rest) a w:=by
 have⟨s,q,h,c,B⟩:=M;apply wpListIn_range_own w f m t u E e KR.law r ER.R b n _ j q;intro w' Z g z;exact d w' ⟨s,_,_,Z,h,c,B,c,λp h=>h,λk i=>xV h B i⟩ g z
theorem mR(X:o.guard=none)(t:Operand)(U:o.op=Op.next t false)(b r n:Nat)(l rem:List<|K×V)(Y:a.eval t=.pointer (some ⟨r,0,none⟩))(W:aY KR ER w b r n l rem)
  (H:rem=[]->wpListIn F G P ops Q rest (a.put o.dst<|.tuple #[.bool false]) w)
  (I:∀(k:K) (v:V) (w':World),(k,v)∈rem->aY KR ER w' b r n l (aT rem k)->w'.rangeLeft b r<w.rangeLeft b r->w.grownBy w' (some r)->w'.heap.size=w.heap.size ->
   (Instr.entry (.pointer (some ⟨r,0,none⟩))).run P w'=.ok (.tuple #[KR.kv k,ER.ev v]) w'->wpListIn F G P ops Q rest (a.put o.dst (.tuple #[.bool true,KR.kv k,ER.ev v])) w'):wpListIn F G P ops Q (o::rest) a w:=by
 have⟨s,left,M,Z,h,d,B,z,g,i⟩:=W;refine wpListIn_next_ranges w X t U E KR.law ER.R id id (λm _ _=>⟨m,rfl⟩) (λv _ _=>⟨v,rfl⟩) b r n _ left M Y Z ?_ ?_
 .intro _ hl;apply H;cases c:rem with
  |nil=>rfl
  |cons p q=>
   have C:(p.1,p.2)∈rem:=by rw[c];exact List.mem_cons_self
   have:=i p.1 (B _<|g _ C).1;rw[hl,cP z C]at this;cases this
 .intro m val kl y w' On Cj my hv eW Ck bU g_ hsz iU;have O:=Maps.has_true_of_atKey eW;rw[Maps.has_eq,List.any_eq_true]at O;have⟨p,uW,L⟩:=O;obtain⟨q,f,rfl⟩:=zzq.1<|h.mem_iff.1 uW;have⟨k,v⟩:=q;have D:=(B _ f).1;have a1:=(B _ f).2;have S:KR.kl k=kl:=WideAt.sameKey_eq L;subst S;have R:m=KR.kv k:=KR.law.inj Cj<|KR.key k D;have x:=eW<|ER.el v;rw[tL h d B D<|cP d f]at x;have T:=ER.inv val v y.2 a1<|by rw[x];exact hv
  have J:(k,v)∈rem:=by
   have:=i k D;rw[my]at this;cases c:ak rem k with
   |none=>rw[c]at this;cases this
   |some u=>
    have N:=d.same (g _<|bZ c) f rfl;rw[<-N];exact bZ c
  subst R T;refine I k v w' J ⟨s,_,On,Ck,h,d,B,z.del k,λp h=>g p (zzp.1 h).1,λj A=>?_⟩ (by rw[Ck.left_eq,Z.left_eq];exact bU) g_ hsz iU;rw[i j A,KR.same A D,fY];by_cases e:j=k
  .simp[e]
  .simp[e]
end
end Go.Proofs.YtcalalndmcemiaaGreatDoor
