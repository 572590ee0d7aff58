import Derived.Test.YtcalalndmcemiaaGreatDoorC10
set_option maxHeartbeats 4000000
set_option maxRecDepth 100000
namespace Go.Proofs.YtcalalndmcemiaaGreatDoor
open Go.RowKit Go.Maps Tryz Sc
variable{k:Nat}{t:TypeId}{a b c w:World}
def ag.release(s:ag):ag:={ s with holds:=s.holds.filter (oM s) }
def ag.forget(s:ag)(t:Nat):ag:=ag.release { s with ai:=aT s.ai t }
theorem a_.fS{w':World}{p lg V T H n m:Nat}{s:ag}{t:List (Nat × ft)}(h:a_ w p lg V T H n s)(hf:Fr [T] w w')(a:aO KU ET w' T m t)(hn:n<=m):a_ w' p lg V T H m { s with ai:=t } :=
 {blk:=(hf.block p h.eY.1 (by simp;exact h.eY.2.2.2.2.2.1)).trans h.blk
  aM:=(h.aM.fr hf (by simp;exact h.ne.1)).mono hn
  ai:=a
  holds:=(h.holds.fr hf (by simp;exact λe=>h.ne.2.2 e.symm)).mono hn
  ne:=h.ne
  aC:=h.aC }
theorem vW(p lg V T H n:Nat)(s:ag)(w:World)(h:a_ w p lg V T H n s):
  Calls prog 186 #[.pointer (some ⟨p,0,none⟩)] w λe w'=>e=.returned (.tuple #[])/\a_ w' p lg V T H n s.release/\Fr [H] w w':=by
 have I:=af h;have c3:=ae h.blk 3;simp at c3;have o:=h.eY.1;have z:¬p=w.heap.size:=by omega
 have b:¬w.heap.size=p:=by omega
 clear h
 go_enter func186,ntmps186
 go_wp2_with fail;refine(EB w.heap.size p lg V T H n s _ (I.out.fr ((Fr.refl [] w).alloc _) (by simp) (by simp) (by simp) (by simp)) (heap_alloc_new _ _)).mono ?_;rintro e a ⟨rfl,df,bh⟩;have G:=af df;clear df;go_wp2;go_end0;exact⟨rfl,G.out,((Fr.refl [H] w).alloc _).trans bh⟩
theorem kz(p lg V T H n t:Nat)(s:ag)(w:World)(h:a_ w p lg V T H n s)(b:t<18446744073709551616):
  Calls prog 172 #[.pointer (some ⟨p,0,none⟩),.int .u64 (t:Int)] w λe w'=>e=.returned (.tuple #[])/\a_ w' p lg V T H n (s.forget t)/\Fr [T,H] w w':=by
 have I:=af h;have c2:=ae h.blk 2;simp at c2;clear h
 go_enter func172,ntmps172
 go_wp2_with (first
  |(at_delete;refine iE (KR:=KU) (ER:=ET) rfl _ _ 136 199 rfl underlying136 T n s.ai rfl I.out.ai t b rfl ?_;intro f d A)
  |fail)
 have J:=I.out.fS (Fr.aF A) d (zzc _);have r:=vW p lg V T H n _ f J;have c:=af (Fr.aF A);clear J d A c2;go_wp2_with fail;refine r.mono ?_;rintro e g ⟨rfl,dT,aQ⟩;have B:=af dT;clear dT;go_wp2;go_end0;exact⟨rfl,B.out,(c.out.mono (by intro k _ a;simp at a;simp[a])).trans (aQ.mono (by intro k _ a;simp at a;simp[a]))⟩
structure fe where
 state:Nat
 parts:List Nat
 since:Nat
def fe.Ok(t:fe):Prop:=t.parts.length=9/\∀p∈t.parts,p<256
def UW(ps:List Nat):Value:=.agg (ps.map λp:Nat=>Value.int .u8 (p:Int)).toArray
def G_(t:fe):List Value:=.int .i64 (t.state:Int) :: ((t.parts.map λp:Nat=>Value.int .u8 (p:Int))++[.int .u64 (t.since:Int),.nilIface])
def kO(t:fe):Value:=.agg (G_ t).toArray
theorem nine{l:List Nat}(h:l.length=9):∃a b c d e f g i j,l=[a,b,c,d,e,f,g,i,j]:=by
 match l,h with
 |[a,b,c,d,e,f,g,i,j],_=>exact⟨a,b,c,d,e,f,g,i,j,rfl⟩
abbrev A0:fe:=⟨0,[0,0,0,0,0,0,0,0,0],0⟩
theorem G':A0.Ok:=⟨rfl,by decide⟩
def txR:Value->Option (DataW Unit × List MemPlace)
 |.agg cs=>match cs.toList with
  |[.int .i64 s,.int .u8 a,.int .u8 b,.int .u8 c,.int .u8 d,.int .u8 e,.int .u8 f,.int .u8 g,.int .u8 i,.int .u8 j,.int .u64 z,.nilIface]=>some (.agg [.lit (.int .i64 s),.lit (.int .u8 a),.lit (.int .u8 b),.lit (.int .u8 c),.lit (.int .u8 d),.lit (.int .u8 e),.lit (.int .u8 f),.lit (.int .u8 g),.lit (.int .u8 i),.lit (.int .u8 j),.lit (.int .u64 z)],[])
  |_=>none
 |_=>none
noncomputable def EX:kK fe where
 R:=txR
 ev:=kO
 el:=λt=>.agg (.lit (.int .i64 (t.state:Int)) :: ((t.parts.map λp:Nat=>.lit (.int .u8 (p:Int)))++[.lit (.int .u64 (t.since:Int))]))
 ok:=fe.Ok
 made:=λt h=>by
  obtain⟨a,b,c,d,e,f,g,i,j,hl⟩:=nine h.1;obtain⟨s,ps,z⟩:=t;simp at hl;subst hl;rfl
 inv:=λx t ps ht h=>by
  obtain⟨a',b',c',d',e',f',g',i',j',hl⟩:=nine ht.1;obtain⟨s',ps',z'⟩:=t;simp at hl;subst hl;unfold txR at h;split at h
  .rename_i cs;split at h
   .rename_i hc;simp at h;obtain⟨⟨rfl,rfl,rfl,rfl,rfl,rfl,rfl,rfl,rfl,rfl,rfl⟩,_⟩:=h;show Value.agg cs=Value.agg _;congr 1;exact Array.toList_inj.1 (by rw[hc];rfl)
   .cases h
  .cases h
theorem OL(w:World):(zeroValue 128).run prog w=.ok (EX.ev A0) w:=by kernel_rfl
theorem SB(t:fe)(h:t.Ok)(w:World):(Instr.field 128 (kO t) 0).run prog w=.ok (.int .i64 (t.state:Int)) w:=by
 obtain⟨s,ps,z⟩:=t;obtain⟨a,b,c,d,e,f,g,i,j,rfl⟩:=nine h.1;kernel_rfl
theorem Cn(h:k<9):k=0\/k=1\/k=2\/k=3\/k=4\/k=5\/k=6\/k=7\/k=8:=by omega
theorem WL{ps:List Nat}(h:ps.length=9)(l:k<9)(w:World):(Instr.index 126 (UW ps) (.int .i64 (k:Int))).run prog w=.ok (.int .u8 ((ps.getD k 0:Nat):Int)) w:=by
 obtain⟨a,b,c,d,e,f,g,i,j,rfl⟩:=nine h;rcases Cn l with rfl|rfl|rfl|rfl|rfl|rfl|rfl|rfl|rfl<;>kernel_rfl
structure uU(t:TypeId)(w w':World):Prop where
 os:w'.os=w.os
 tape:w'.tape=w.tape
 output:w'.output=w.output
 size:w.heap.size<=w'.heap.size
 block:∀k,k<w.heap.size->(∀c,w.heap[k]?≠some (.cells c t (0,0)))->w'.heap[k]?=w.heap[k]?
theorem uU.refl(t:TypeId)(w:World):uU t w w:=⟨rfl,rfl,rfl,zzc _,λ_ _ _=>rfl⟩
theorem uU.trans(h:uU t a b)(k:uU t b c):uU t a c:=
 ⟨k.os.trans h.os,k.tape.trans h.tape,k.output.trans h.output,zzk h.size k.size,
  λi d hn=>(k.block i (zzl d h.size) (λc e=>hn c ((h.block i d hn).symm.trans e))).trans (h.block i d hn)⟩
theorem uU.alloc(h:uU t a w)(o:Obj):uU t a (w.alloc o):=
 ⟨h.os,h.tape,h.output,zzk h.size bR,λk b hn=>(zzf w o k<|zzl b h.size).trans<|h.block k b hn⟩
theorem uU.grown{r:Option Nat}(h:uU t a b)(g:b.grownBy c r)(f:∀q,r=some q->∃x,b.heap[q]?=some (.cells x t (0,0))):uU t a c:=
 h.trans ⟨g.os,g.tape,g.output,g.size,λk d hn=>g.block k d λe=>by have⟨x,i⟩:=f k e.symm;exact hn x i⟩
theorem qd(base:Nat)(v:Value)(xs:List Nat)(n m:Nat)(w:World)(c:w.ownsRow base 5 1 v m<|bs xs)(hn:n<18446744073709551616)(s:m<=1099511627776)(J:base<=w.heap.size):
  Calls prog 149 #[v,.int .u64 n] w λe w'=>∃a,e=.returned a/\w'.ownsRow base 5 1 a (m+8) (bs<|xs++be 8 n)/\Below base w w'/\uU 5 w w':=by
 have⟨l,d,f,g,k⟩:=info_parts pV;have z:=af hn;clear hn;go_enter func149,ntmps149;go_wp2_with (go_at_call 193;apply(qU _).mono;rintro e w' ⟨rfl,hw⟩;have p:=hw.symm;subst p;clear hw);go_loopw [0,5] (λv i wr=>∃j:Nat,j<=8/\i=.int .i64 ((8:Int)-1-j)/\wr.ownsRow base 5 1 v (m+j) (bs<|xs++(List.range j).map (digit 8 n))/\Below base w wr/\uU 5 w wr) (λ_ i _=>(intOf i+1).toNat);case atStart=>exact⟨0,zzs _,eR,by simpa using c,zzD _ _,uU.refl _ _⟩
 case round=>
  obtain⟨j,r,rfl,Q,T,W⟩:=hrel;by_cases U:j<8
  .have HD:=af<|qR n 8 j
   go_wp2_with (at_builtin;apply wpList_append_own _ rfl _ _ 88 rfl base 5 l (.int .u8 0) 1 1 underlying88 d f g k rfl bM _ _ _ rfl (Q.alloc _) (gz wr.heap.size) 1 1 [.int .u8<|(n:Int)/2^(8*(7-j))%256] rfl rfl ?c1 ?c2 ?c3 ?c4 ?c5);case c1=>
    intro o u S;match o,S with
    |0,S=>simp at S;subst S;simp[Addr.add]
   case c2=>intro u b;simp at b;subst b;rfl
   case c3=>unfold maxLen;omega
   case c4=>omega
   case c5=>have:=T.size;simp;omega
   .intro a w1 bw bP _;have df:=T.size;have E:=Below.grown (T.alloc bL _) bP cE λq h=>(Q.lt q h).1;have N:=(W.alloc _).grown bP λq h=>aq (Q.alloc _) h
    have A:w1.ownsRow base 5 1 a (m+(j+1)) (bs<|xs++(List.range<|j+1).map (digit 8 n)):=by
     rw[HD.out]at bw;rw[qT,<-Nat.add_assoc];exact bw
    clear bw bP Q T W;go_wp2;go_roundw;case rel=>exact⟨j+1,bL,int_eq bL,A,E,N⟩
    case measure=>simp[intOf]<;>omega
  .have ek:j=8:=bL;subst ek;go_wp2;go_ret;exact⟨_,rfl,Q,T,W⟩
theorem Cf(base:Nat)(v:Value)(xs:List Nat)(n m:Nat)(w:World)(c:w.ownsRow base 5 1 v m<|bs xs)(hn:n<256)(s:m<=1099511627776)(J:base<=w.heap.size):
  Calls prog 156 #[v,.int .u8 n] w λe w'=>∃a,e=.returned a/\w'.ownsRow base 5 1 a (m+1) (bs<|xs++be 1 n)/\Below base w w'/\uU 5 w w':=by
 have⟨l,d,f,g,k⟩:=info_parts pV;have z:=af hn;go_enter func156,ntmps156;go_wp2_with (go_at_call 196;apply(tB _).mono;rintro e w' ⟨rfl,hw⟩;have p:=hw.symm;subst p;clear hw);go_loopw [0,5] (λv i wr=>∃j:Nat,j<=1/\i=.int .i64 ((1:Int)-1-j)/\wr.ownsRow base 5 1 v (m+j) (bs<|xs++(List.range j).map (digit 1 n))/\Below base w wr/\uU 5 w wr) (λ_ i _=>(intOf i+1).toNat);case atStart=>exact⟨0,zzs _,eR,by simpa using c,zzD _ _,uU.refl _ _⟩
 case round=>
  obtain⟨j,r,rfl,Q,T,W⟩:=hrel;by_cases U:j<1
  .have HD:Hid ((n:Int)=((digit 1 n 0:Nat):Int)):=by show _=_;unfold digit;simp;omega
   obtain rfl:j=0:=bL;rw[Nat.add_zero]at Q;go_wp2_with (at_builtin;apply wpList_append_own _ rfl _ _ 88 rfl base 5 l (.int .u8 0) 1 1 underlying88 d f g k rfl bM _ _ _ rfl (Q.alloc _) (gz wr.heap.size) 1 1 [.int .u8 (n:Int)] rfl rfl ?c1 ?c2 ?c3 ?c4 ?c5);case c1=>
    intro o u S;match o,S with
    |0,S=>simp at S;subst S;simp[Addr.add]
   case c2=>intro u b;simp at b;subst b;rfl
   case c3=>unfold maxLen;omega
   case c4=>omega
   case c5=>have:=T.size;simp;omega
   .intro a w1 bw bP _;have df:=T.size;have E:=Below.grown (T.alloc bL _) bP cE λq h=>(Q.lt q h).1;have N:=(W.alloc _).grown bP λq h=>aq (Q.alloc _) h
    have A:w1.ownsRow base 5 1 a (m+(0+1)) (bs<|xs++(List.range<|0+1).map (digit 1 n)):=by
     rw[HD.out]at bw;rw[qT,<-Nat.add_assoc];simpa using bw
    clear bw bP Q T W;go_wp2;go_roundw;case rel=>exact⟨0+1,bL,int_eq bL,A,E,N⟩
    case measure=>simp[intOf]<;>omega
  .have ek:j=1:=bL;subst ek;go_wp2;go_ret;exact⟨_,rfl,Q,T,W⟩
def rT(s:ag)(x:ft):Bool:=!decide (x.state=3)&&decide ((16:Int)<=IntKind.u64.wrap ((s.aC:Int)-(x.last:Int)))
def EC(s:ag)(p:Nat × ft):Bool:=!rT s p.2
theorem Lu(bs p lg V T H n tx:Nat)(x:ft)(s:ag)(w:World)(h:a_ w p lg V T H n s)(E:w.heap[bs]?=some (.cells #[.pointer<|some ⟨p,0,none⟩] 75)):
  Calls prog 185 #[.int .u64 (tx:Int),.agg #[.int .i64 (x.state:Int),.int .i64 (x.done:Int),.int .u64 (x.last:Int)],.pointer<|some ⟨bs,0,none⟩] w λe w'=>e=.returned (.bool<|rT s x)/\Fr [] w w':=by
 have d:=ae E 0;have c4:=ae h.blk 4;simp at d c4;have g:=(zza.1 E).1;have o:=h.eY.1;have z:¬bs=w.heap.size:=bL;have b:¬p=w.heap.size:=bL;clear h E;by_cases a:x.state=3
 .have hb:((x.state:Int) != 3)=false:=by simp[a]
  have I:rT s x=false:=by simp[rT,a]
  rw[I];clear a I;go_enter func185,ntmps185;go_wp2;go_quiet (fail)
  go_wp2;go_ret;exact⟨rfl,cw ((lT w).alloc _) _⟩
 .have hb:((x.state:Int) != 3)=true:=cE;have I:rT s x=decide ((16:Int)<=IntKind.u64.wrap ((s.aC:Int)-(x.last:Int))):=by simp[rT,a]
  rw[I];clear a I;go_enter func185,ntmps185;go_wp2;go_quiet (fail)
  go_wp2;go_ret;exact⟨rfl,cw ((lT w).alloc _) _⟩
theorem ED(bs b lg V T H n:Nat)(s:ag)(w:World)(h:a_ w b lg V T H n s)(E:w.heap[bs]?=some (.cells #[.pointer<|some ⟨b,0,none⟩] 75)):
  Calls prog 184 #[.map<|some T,.func (.func 185) #[] #[.pointer<|some ⟨bs,0,none⟩]] w λe w'=>e=.returned (.tuple #[])/\a_ w' b lg V T H n {s with ai:=s.ai.filter (EC s)}/\Fr [T] w w':=by
 have I:Hid (a_ w b lg V T H n s):=h;have P:Hid (w.heap[bs]?=some (.cells #[.pointer<|some ⟨b,0,none⟩] 75)):=E;have gT:bs<w.heap.size:=(zza.1 E).1;have a1:T<w.heap.size:=h.eY.2.2.1;have i:bs≠T:=by rintro rfl;obtain⟨es,c,e⟩:=h.ai.isMap;rw[E]at e;cases e
 clear h E
 go_enter func184,ntmps184
 go_wp2_with (first
  |(at_range;refine fq (KR:=KU) (ER:=ET) rfl _ 136 199 rfl underlying136 T n s.ai rfl I.out.ai ?_;intro L u z xk)
  |go_in)
 go_frame
 have R:Hid (Fr [T] w L):=(Fr.bz z).mono (by simp);have N:Hid (aY KU ET L T w.heap.size n (s.ai.filter λ_=>true) s.ai):=by
  have e:(s.ai.filter λ_=>true)=s.ai:=List.filter_eq_self.2 bR;rw[e];exact u
 clear u z;go_loopw [4] (λ_ wr=>∃rem g,Hid<|aY KU ET wr T w.heap.size n (s.ai.filter g) rem/\(∀p∈s.ai,p∉rem->g p=EC s p)/\(∀p∈rem,p∈s.ai)/\Fr [T] w wr/\w.heap.size+1<=wr.heap.size) (λ_ wr=>wr.rangeLeft T w.heap.size);case atStart=>exact⟨s.ai,λ_=>true,N.out,λp h1 h2=>absurd h1 h2,λp a=>a,R.out,bL⟩
 case round=>
  have⟨rem,g,X⟩:=hrel;have Z:=X.1;go_wp2_with (first
   |(at_next;refine fN (KR:=KU) (ER:=ET) rfl _ rfl T w.heap.size n (s.ai.filter g) rem rfl Z ?_ ?_)
   |go_in)
  .intro dM;go_wp2;go_end0;have e:s.ai.filter g=s.ai.filter (EC s):=List.filter_congr λp a=>X.2.1 p a<|by rw[dM];simp
   refine⟨rfl,?_,X.2.2.2.1⟩;rw[<-e];exact I.out.fS X.2.2.2.1 X.1.owns<|zzc _
  .intro tx x w2 m kZ bU fc dT iU;have O:(tx,x)∈s.ai:=X.2.2.1 _ m;have B:tx<18446744073709551616:=by
    have⟨_,_,_,_,B⟩:=I.out.ai;exact(B _ O).1
   have S:Hid (w2.rangeLeft T w.heap.size<wr.rangeLeft T w.heap.size):=bU;have A:Hid (aY KU ET w2 T w.heap.size n (s.ai.filter g)<|aT rem tx):=kZ;have k:Hid (Fr [T] w w2):=X.2.2.2.1.andThen (Fr.aF fc) (λj hj hl=>by simp at hj;omega);have l0:w.heap.size+1<=w2.heap.size:=by have:=X.2.2.2.2;omega
   have O6:(Instr.entry<|.pointer<|some ⟨w.heap.size,0,none⟩).run prog w2=.ok (.tuple #[.int .u64 (tx:Int),.agg #[.int .i64 (x.state:Int),.int .i64 (x.done:Int),.int .u64 (x.last:Int)]]) w2:=iU;have U:Hid (a_ w2 b lg V T H n {s with ai:=s.ai.filter g}):=I.out.fS k.out A.out.owns<|zzc _;have wC:Hid (w2.heap[bs]?=some (.cells #[.pointer<|some ⟨b,0,none⟩] 75)):=(k.out.block bs gT<|by simp;exact i).trans P.out;have C:Hid (b_ s.ai):=by have⟨_,_,_,h3,_⟩:=I.out.ai;exact h3
   have M:Hid ((tx,x)∈rem/\(tx,x)∈s.ai):=⟨m,O⟩;have Q:Hid (g (tx,x)=true):=by
    have⟨_,_,_,_,_,_,_,_,h6,_⟩:=Z;exact(zzp.1<|h6 _ m).2
   clear Z kZ m O iU fc dT bU;go_wp2_with fail;refine(Lu bs b lg V T H n tx x {s with ai:=s.ai.filter g} _ (U.out.fr ((lT w2).alloc _) bR bR bR bR)<|(((lT w2).alloc _).block bs bL bR).trans wC.out).mono ?_;rintro e d ⟨rfl,Ai⟩;have o:Hid (Fr [] w2 d):=((lT w2).alloc _).trans Ai;clear Ai;have W:Hid (EC s (tx,x)=!rT s x):=rfl;have q:Hid (w.heap.size+1<=d.heap.size):=zzk l0 o.out.size;have G:rT {s with ai:=s.ai.filter g} x=rT s x:=rfl;rw[G];clear G;have⟨v,y⟩:=A.out.fr o.out bR bR;have J:Hid (aY KU ET d T w.heap.size n (s.ai.filter g) (aT rem tx)/\d.rangeLeft T w.heap.size<wr.rangeLeft T w.heap.size):=⟨v,by rw[y];exact S.out⟩;have F:Hid (Fr [T] w d):=k.out.trans (o.out.mono bR);have r:Hid (∀p∈aT rem tx,p∈s.ai):=λp a=>X.2.2.1 p (zzp.1 a).1
   have l:Hid (∀p∈s.ai,p∉aT rem tx->p=(tx,x)\/p∉rem):=λp a hn=>by
    by_cases K:p∈rem
    .have Lr:p.1=tx:=Decidable.byContradiction λi=>hn<|zzp.2 ⟨K,by simp[i]⟩
     exact .inl<|C.out.same a M.2 Lr
    .exact .inr K
   clear v y;cases f:rT s x with
   |true=>
    rw[f]at W;clear f;go_wp2_with (first
     |(at_delete;refine pn (KR:=KU) (ER:=ET) rfl _ _ 136 199 rfl underlying136 T w.heap.size n (s.ai.filter g) (aT rem tx) rfl J.1 tx B rfl ?_;intro w4 D iZ j8)
     |go_in)
    go_frame;go_wp2;have t:Fr [T] d w4:=Fr.aF j8;have Y:aT (s.ai.filter g) tx=s.ai.filter λp=>!decide (p.1=tx)&&g p:=List.filter_filter ..
    rw[Y]at D;go_roundw;case rel=>
     refine⟨aT (aT rem tx) tx,λp=>!decide (p.1=tx)&&g p,D,λp a hn=>?_,λp a=>r.out p (zzp.1 a).1,F.out.trans t,zzk q.out t.size⟩;have zS:p∉aT rem tx:=λm=>hn<|zzp.2 ⟨m,(zzp.1 m).2⟩
     obtain rfl|F7:=l.out p a zS
     .rw[W.out];simp
     .have Zm:¬p.1=tx:=λe=>F7<|by rw[C.out.same a M.2 e];exact M.1
      rw[<-X.2.1 p a F7];simp[Zm]
    case measure=>exact Nat.lt_of_le_of_lt iZ J.2
   |false=>
    rw[f]at W;clear f;go_wp2;refine⟨⟨aT rem tx,g,J.1,λp a hn=>?_,r.out,F.out,q.out⟩,J.2⟩;obtain rfl|F7:=l.out p a hn
    .rw[Q.out,W.out];rfl
    .exact X.2.1 p a F7
def ag.tick(s:ag):ag :=
 let s1:ag:={ s with aC:=s.aC+1 }
 ag.release { s1 with ai:=s1.ai.filter (EC s1) }
section
open Go.Shelf
theorem OA(n:Nat)(b:Nat)(w:World):
  CallsIn Fence.wide n prog 234 #[.map<|some b] w λe w'=>e=.returned (.func (.func 271) #[] #[.pointer<|some ⟨w.heap.size,0,none⟩])/\w'=w.alloc (.cells #[.map<|some b] 136):=by
 refine callsIn_of_wp func234 rfl trivial ?_ rfl;simp only[ntmps234,mB,zzr,mH,Nat.reduceAdd,Nat.reduceSub,mK,mL,nb,nU,n5,qC];gi_wp2;go_ret;exact⟨rfl,rfl⟩
theorem OB(n:Nat)(hn:1<=n)(l B b m:Nat)(L:List<|Nat×ft)(W:World)(J d:List Nat->World->Prop)(h:AbidesFrom W.heap.size J)
  (Y:∀p (x:Nat) W1,J p W1->p.length<L.length->YieldAt Fence.wide (n-1) prog l #[.int .u64 (x:Int)] W1 λe a=>
   (e=.returned (.bool true)/\J (p++[x]) a/\KeepsWalks W1 a)\/(e=.returned (.bool false)/\d (p++[x]) a))
  (A:W.cell? ⟨B,0,none⟩=some (.map<|some b)) (f:aO KU ET W b m L) (i:J [] W) :
  CallsIn Fence.wide n prog 271 #[.func (.yield l) #[] #[],.pointer<|some ⟨B,0,none⟩] W λe a=>(∃v,e=.returned v) /\
   ((∃y,y.Perm (L.map (·.1))/\J y a)\/(∃p,True/\d p a)):=by
 have o:Fence.wide.round=none:=rfl;have O:Fence.wide.fn 271:=trivial;have g:=af f;have H:=af h;clear f h;refine callsIn_of_wp func271 rfl O ?_ o;simp only[ntmps271,mB,zzr,mH,Nat.reduceAdd,Nat.reduceSub,mK,mL,nb,nU,n5,qC];gi_wp2_with (first
  |(gi_at_range;apply l7 rfl _ 136 199 rfl underlying136 b m L rfl g.out;intro w D z C)
  |gi_in)
 go_frame;have S:Hid (aY KU ET w b W.heap.size m L L/\J [] w):=⟨D,H.out [] W w none i z λr e=>by cases e⟩;clear D z
 gi_loopw [3] (λ_ wr=>∃rem ss,Hid<|aY KU ET wr b W.heap.size m L rem/\(ss++rem.map (·.1)).Perm (L.map (·.1))/\J ss wr)
  (λ_ wr=>wr.rangeLeft b W.heap.size)
 case atStart=>exact⟨L,[],S.1,bR,S.2⟩
 case round=>
  have⟨rem,ss,X⟩:=hrel;have Z:=X.1;gi_wp2_with (first
   |(gi_at_next;refine mR rfl _ rfl b W.heap.size m L rem rfl Z ?_ ?_)
   |gi_in)
  .intro dM;gi_wp2;go_end0;exact⟨⟨_,rfl⟩,.inl ⟨ss,by have:=X.2.1;rw[dM]at this;simpa using this,X.2.2⟩⟩
  .intro k v w2 hm kZ bU fc dT iU;have s:=H.out ss wr w2 (some W.heap.size) X.2.2 fc λr e=>by cases e;exact⟨zzc _,Z.iter⟩
   have u:(ss++[k]++(aT rem k).map (·.1)).Perm (L.map (·.1)):=by
    refine List.Perm.trans ?_ X.2.1;rw[zzx];exact(((yc Z.once hm).map (·.1)).symm).append_left ss
   have hlen:ss.length<L.length:=by
    have:=u.length_eq;simp at this;omega
   have⟨j,tmps,assign,body,q,R⟩:=Y ss k w2 s hlen;have N:=af<|zzb kZ<|zzb u bU
   change (Instr.entry _).run _ _=.ok (.tuple #[.int .u64 (k:Int),.agg #[.int .i64 (v.state:Int),.int .i64 (v.done:Int),.int .u64 (v.last:Int)]]) _ at iU;clear dT Z kZ u bU hm fc s;gi_wp2;apply R.mono;rintro e c (⟨rfl,rP,kW⟩|⟨rfl,uX⟩)
   .obtain⟨kN,qg⟩:=N.1.walks kW;have t:Hid (aY KU ET c b W.heap.size m L (aT rem k)/\(ss++[k]++(aT rem k).map (·.1)).Perm (L.map (·.1))/\J (ss++[k]) c/\c.rangeLeft b W.heap.size<wr.rangeLeft b W.heap.size):=⟨kN,N.2.1,rP,by rw[qg];exact N.2.2⟩;clear kN qg kW rP
    gi_wp2;go_roundw;case rel=>exact⟨_,_,t.1,t.2.1,t.2.2.1⟩
    case measure=>exact t.2.2.2
   .gi_wp2;apply bodyPost_ret (results_none rfl _ _ _) rfl;exact⟨⟨_,rfl⟩,.inr ⟨_,trivial,uX⟩⟩
theorem Ec(n:Nat)(hn:1<=n)(B b m:Nat)(L:List<|Nat×ft)(w:World)(M:B<w.heap.size)(R:w.cell? ⟨B,0,none⟩=some (.map<|some b))(e:aO KU ET w b m L):
  SeqStopsK Fence.wide n prog 271 #[.pointer<|some ⟨B,0,none⟩] (λx:Nat=>#[.int .u64 (x:Int)]) KeepsWalks (λs=>s.Perm<|L.map (·.1)) (λ_=>True) L.length w:=λl J a W h d _ Y c=>
 OB n hn l B b m L W J a d Y ((h.cell M).trans R) (e.fr (S:=[]) ⟨h.os,h.tape,h.output,h.size,λk f _=>h.block k f⟩ (by simp)) c
end
theorem bE(s a b c d e f g i j z:Nat):kO ⟨s,[a,b,c,d,e,f,g,i,j],z⟩=.agg #[.int .i64 (s:Int),.int .u8 (a:Int),.int .u8 (b:Int),.int .u8 (c:Int),.int .u8 (d:Int),.int .u8 (e:Int),.int .u8 (f:Int),.int .u8 (g:Int),.int .u8 (i:Int),.int .u8 (j:Int),.int .u64 (z:Int),.nilIface]:=rfl
theorem sH(t:fe)(a:t.Ok)(k:Nat)(h:k<9)(w:World):
  Calls prog 279 #[kO t,.int .i64 (k:Int)] w λe w'=>e=.returned (.int .u8 ((t.parts.getD k 0:Nat):Int))/\Fr [] w w':=by
 obtain⟨s,ps,z⟩:=t;obtain⟨p,b,c,d,f,g,i,j,l,rfl⟩:=nine a.1;rw[bE];rcases Cn h with rfl|rfl|rfl|rfl|rfl|rfl|rfl|rfl|rfl
 all_goals
  (go_enter func279,ntmps279
   go_wp2;go_ret
   exact⟨rfl,(Fr.refl [] w).alloc _⟩)
theorem qk(t:fe)(a:t.Ok)(k p:Nat)(h:k<9)(w:World):
  Calls prog 280 #[kO t,.int .i64 (k:Int),.int .u8 (p:Int)] w λe w'=>e=.returned (kO { t with parts:=t.parts.set k p })/\Fr [] w w':=by
 obtain⟨s,ps,z⟩:=t;obtain⟨b,c,d,f,g,i,j,l,m,rfl⟩:=nine a.1;rw[bE];rcases Cn h with rfl|rfl|rfl|rfl|rfl|rfl|rfl|rfl|rfl
 all_goals
  (simp only[List.set_cons_zero,List.set_cons_succ,bE]
   go_enter func280,ntmps280
   go_wp2
   exact bodyPost_ret (by simp[results,results280,go_sem]) rfl ⟨rfl,((Fr.refl [] w).alloc _).alloc _⟩)
theorem oG(v:Nat)(h:v=2\/v=3\/v=4)(w:World):
  Calls prog 278 #[.int .i64 (v:Int)] w λe w'=>e=.returned (.int .u8 (v:Int))/\w'=w:=by
 rcases h with rfl|rfl|rfl
 all_goals
  (go_enter func278,ntmps278
   go_wp2;go_ret
   exact⟨rfl,rfl⟩)
def rR(f:Nat)(q:Nat->Bool):Prop:=∀(p:Nat) (w:World),p<256->Calls prog f #[.int .u8 (p:Int)] w λe w'=>e=.returned (.bool (q p))/\w'=w
def l_(p:Nat):Bool:=p==1
def jf(p:Nat):Bool:=p==2
def u_(p:Nat):Bool:=p==1||p==2
def jR(p:Nat):Bool:=p==2||p==5
theorem Cr:rR 68 l_:=by
 intro p w a;by_cases h:p=1
 .subst h
  go_enter func68,ntmps68
  go_wp2;go_ret;exact⟨rfl,rfl⟩
 .have i1:¬(p:Int)=1:=by omega
  have b:=beq_eq_false_iff_ne.2 i1;have e:l_ p=false:=by unfold l_;simpa using h
  rw[e]
  go_enter func68,ntmps68
  go_wp2;go_ret;exact⟨by simp,rfl⟩
theorem xm:rR 183 jf:=by
 intro p w a;by_cases h:p=2
 .subst h
  go_enter func183,ntmps183
  go_wp2;go_ret;exact⟨rfl,rfl⟩
 .have i1:¬(p:Int)=2:=by omega
  have b:=beq_eq_false_iff_ne.2 i1;have e:jf p=false:=by unfold jf;simpa using h
  rw[e]
  go_enter func183,ntmps183
  go_wp2;go_ret;exact⟨by simp,rfl⟩
theorem WT:rR 230 u_:=by
 intro p w d;by_cases h:p=1
 .subst h
  go_enter func230,ntmps230
  go_wp2;go_ret;exact⟨rfl,rfl⟩
 .have i1:¬(p:Int)=1:=by omega
  have b:=beq_eq_false_iff_ne.2 i1;by_cases a:p=2
  .subst a
   go_enter func230,ntmps230
   go_wp2;go_ret;exact⟨rfl,rfl⟩
  .have i2:¬(p:Int)=2:=by omega
   have c:=beq_eq_false_iff_ne.2 i2;have e:u_ p=false:=by unfold u_;simp[h,a]
   rw[e]
   go_enter func230,ntmps230
   go_wp2;go_ret;exact⟨by simp,rfl⟩
theorem He:rR 237 jR:=by
 intro p w d;by_cases h:p=2
 .subst h
  go_enter func237,ntmps237
  go_wp2;go_ret;exact⟨rfl,rfl⟩
 .have i1:¬(p:Int)=2:=by omega
  have b:=beq_eq_false_iff_ne.2 i1;by_cases a:p=5
  .subst a
   go_enter func237,ntmps237
   go_wp2;go_ret;exact⟨rfl,rfl⟩
  .have i2:¬(p:Int)=5:=by omega
   have c:=beq_eq_false_iff_ne.2 i2;have e:jR p=false:=by unfold jR;simp[h,a]
   rw[e]
   go_enter func237,ntmps237
   go_wp2;go_ret;exact⟨by simp,rfl⟩
end Go.Proofs.YtcalalndmcemiaaGreatDoor
