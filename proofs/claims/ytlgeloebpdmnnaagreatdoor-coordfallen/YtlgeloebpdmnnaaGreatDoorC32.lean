import Derived.Test.YtlgeloebpdmnnaaGreatDoorC25
import Derived.Test.YtlgeloebpdmnnaaGreatDoorC28
set_option maxHeartbeats 8000000
set_option maxRecDepth 100000
namespace Go.Proofs.YtlgeloebpdmnnaaGreatDoor
open Go.RowKit Go.Maps Tryz Sc
variable{S:List Nat}{i j k r:Nat}{a u v x:Value}{R:aP}{w:nL}
def kb(r:Nat)(x a v:Value)(ps:List (aK × Value)):List Nat:=r :: (x.ownBlock.toList++(a.ownBlock.toList++(v.ownBlock.toList++ps.flatMap λp=>p.2.ownBlock.toList)))
theorem dC{ps:List (aK×Value)}:k∈kb r x a v ps↔k=r\/x.ownBlock=some k\/a.ownBlock=some k\/v.ownBlock=some k\/∃p∈ps,p.2.ownBlock=some k:=by
 unfold kb;simp
structure fo(S S':List Nat)(w w':nL):Prop where
 fr:Fr S w w'
 stay:∀k∈S',k<w.heap.size->k∈S
theorem fo.trans{T U:List Nat}{a b c:nL}(h:fo S T a b)(k:fo T U b c):fo S U a c:=
 ⟨h.fr.andThen k.fr λj d l=>h.stay j d l,λj d l=>h.stay j (k.stay j d<|zzl l h.fr.size) l⟩
theorem fo.of{w':nL}(h:Fr [] w w'):fo S S w w':=⟨h.mono dv,λ_ h _=>h⟩
def gh [Inhabited Bs](w:nL)(p:Nat)(S:List Nat)(R:aP):Prop:=∃x r v ps,bQ w p x r v ps R/\S=kb p x r v ps
theorem xf:(Tryz.prog.info? 123).map (λi=>(i.zero,i.size,i.bytes))=some (some<|.agg #[.int .u64 0,.int .i64 0,.int .i64 0,.slice none 0 0,.bool false],5,56):=eu
theorem BG:(Tryz.prog.info? 162).map (λi=>(i.zero,i.size,i.bytes))=some (some<|.agg #[.int .i64 0,.int .i64 0,.bool false],3,24):=eu
theorem vI(ps:List<|aK×Value):(dO ps).length=ps.length*5:=wW (f:=nQ) (k:=5) (λ_=>rfl) ps
theorem oD(a b:List<|aK×Value):dO (a++b)=dO a++dO b:=by simp[dO]
theorem D2(ps:List aU):(fP ps).length=ps.length*3:=wW (f:=sM) (k:=3) (λ_=>rfl) ps
theorem PN(a b:List aU):fP (a++b)=fP a++fP b:=by simp[fP]
theorem D3{ps:List (aK×Value)}(h:∀p∈ps,p.2.oneCell'=true):∀u∈dO ps,u.oneCell'=true:=by
 intro u a;unfold dO at a;have⟨p,hp,q⟩:=List.mem_flatMap.1 a;simp at q;obtain rfl|rfl|rfl|rfl|rfl:=q
 .rfl
 .rfl
 .rfl
 .grind
 .rfl
theorem IC(ps:List aU):∀u∈fP ps,u.oneCell'=true:=by
 intro u h;unfold fP at h;have⟨p,hp,q⟩:=List.mem_flatMap.1 h;simp at q;obtain rfl|rfl|rfl:=q<;>rfl
theorem bQ.one [Inhabited Bs]{ps:List (aK×Value)}(h:bQ w r x a v ps R):∀p∈ps,p.2.oneCell'=true:=λp hp=>row_one<|h.prt p hp
theorem bQ.TH [Inhabited Bs]{w2:nL}{c v2:Value}{ps b:List (aK×Value)}{xs:List aK}(h:bQ w r x c v ps R)(hf:Fr [] w w2)(o:w2.ownsRow B0 123 5 v2 b.length<|dO b)
  (l:∀p∈b,w2.ownsRow B0 162 3 p.2 p.1.parts.length<|fP p.1.parts) (d:b.Pairwise λp q=>p.2.ownBlock=none\/p.2.ownBlock≠q.2.ownBlock) (e:b.map (·.1)=xs):bQ (w2.setCell (gi r) v2) r v2 c v b {R with ai:=xs}:=by
 have a:=h.fr hf;refine {base:=h.base,blk:=?_,kF:=aN o a.blk du,prt:=λp hp=>aN (l p hp) a.blk du,apart:=d,res:=aN a.res a.blk du,out:=aN a.out a.blk du,rs:=e};have:=aF a.blk 0 v2
 simpa using this
theorem LA{ps:List (aK×Value)}(h:(dO<|ps.take i)[j]?=some u):(dO ps)[j]?=some u:=by
 have e:dO ps=dO (ps.take i)++dO (ps.drop i):=by rw[<-oD,Ez]
 rw[e,Ij (zzd.1 h).1];exact h
theorem LB{ps:List (aK×Value)}(a:i<=ps.length)(h:(dO<|ps.drop i)[j]?=some u):(dO ps)[i*5+j]?=some u:=by
 have e:dO ps=dO (ps.take i)++dO (ps.drop i):=by rw[<-oD,Ez]
 have l:(dO<|ps.take i).length=i*5:=by grind[vI]
 rw[e,Hn dp,l,Nat.add_sub_cancel_left];exact h
theorem yt [Inhabited Bs](r i:Nat)(x a v:Value)(ps:List<|aK×Value)(R:aP)(w:nL)(h:bQ w r x a v ps R)(Q:i<ps.length)(hn:ps.length<=1048576):
  Calls prog 136 #[gx r,.int .i64 (i:Int)] w λe w'=>e=.returned (.tuple #[])/\(∃d,bQ w' r d a v (ps.take i++ps.drop (i+1)) {R with ai:=R.ai.take i++R.ai.drop (i+1)}/\ju w d)/\Fr [r] w w':=by
 have⟨F,s,B,D,E⟩:=tO xf;have c1:=af h.blk 0;have t:=aq h.blk 0;simp at c1 t;rcases h.kF.2 with⟨b,h0⟩|⟨g,o,Z,b,_,M,U,a1,_⟩
 .omega
 rw[b]at c1;have I:Hid (bQ w r x a v ps R):=h;have O:=h.low;have W:=h.kF;rw[b]at W;have f:=h.one;have⟨n,C⟩:=gb ps.length;rw[<-C]at hn c1 U Q W;have N:Hid (ps.length=n):=C.symm;have Y:r<w.heap.size:=(zza.1 h.blk).1;clear C h b;have j0:(0:Int)<=i:=dp;have j1:(i:Int)<=o:=dp;have j2:(0:Int)<=i+1:=dp;have j3:(i:Int)+1<=(n:Int):=dp;go_enter func136,ntmps136
 go_wp2_with (at_builtin;first
  |(refine fH rfl _ _ 116 rfl B0 123 F _ 5 56 underlying116 s B D E rfl du (.slice none 0 0) 0 [] rfl (zzu _ _ _ _) i (dO<|ps.take i) (DX W 0 i o _ λj u c=>by rw[Nat.zero_add];exact LA c) (by rw[vI,zzm,N.out];congr 1;omega) (D3 λp hp=>f p<|FQ hp) eE dp O ?_;intro l V z G P;have X:B0<=V.heap.size:=zzk O G.size;have q:=G.cell c1<|by simp[Value.ownBlock])
  |(refine fH rfl _ _ 116 rfl B0 123 F _ 5 56 underlying116 s B D E rfl du l _ _ rfl z (n-(i+1)) (dO (ps.drop (i+1))) ?_ ?_ ?_ ?_ ?_ ?_ ?_))
 all_goals first
  |exact DX (ar W (Fr.Tu (S:=[]) G<|by simp[Value.ownBlock]) dv) ((i+1)*5) _ _ _ (λj u c=>LB (by rw[N.out];omega) c)
  |exact Tt _ _ _ dp (by rw[List.drop_eq_nil_of_le<|by rw[N.out];omega];rfl)
  |exact D3 λp hp=>f p<|List.mem_of_mem_drop hp
  |(rw[vI,zzz,N.out];done)
  |(unfold maxLen;omega;done)
  |(omega;done)
  |skip
 all_goals
  intro v2 w2 k T K;obtain⟨J,c2,rfl⟩:=fe k;have A:some r≠l.ownBlock:=by obtain e|e:=P<;>rw[e]<;>simp[Value.ownBlock];omega
  have d2:=T.cell q A;have y:w2.heap[r]?=some (uD x a v R.next):=(T.block r (zzl Y G.size) A).trans ((G.block r Y<|by simp[Value.ownBlock]).trans I.out.blk);have f2:=aq y 0;have m:=Fr.od (Fr.Tu (S:=[]) G<|by simp[Value.ownBlock]) (ju.next (ju.nil w) (zzc _) P) T;have H:=ah<|show ju w (.slice J (i+(n-(i+1))) c2)/\Fr [] w w2/\w2.heap[r]?=some (uD x a v R.next)/\w2.ownsRow B0 123 5 (.slice J (i+(n-(i+1))) c2) (i+(n-(i+1))) (dO (ps.take i)++dO (ps.drop<|i+1))from ⟨ju.next (ju.next (ju.nil w) (zzc _) P) G.size K,m,y,k⟩;clear m y k T K G P z q c1 t W M;go_wp2;go_end0;have L:i+(n-(i+1))=(ps.take i++ps.drop (i+1)).length:=by rw[zzi,zzm,zzz,N.out];omega
  refine⟨rfl,⟨_,I.out.TH H.2.1 (by rw[oD,<-L];exact H.2.2.2) (λp hp=>ar (I.out.prt p ?_) H.2.1 dv) ?_ ?_,H.1⟩,(H.2.1.mono dv).trans<|Fr.cG dv _ _⟩
  .rcases zzo.1 hp with hp|hp
   .exact FQ hp
   .exact List.mem_of_mem_drop hp
  .exact I.out.apart.sublist<|pH ps i
  .rw[BB,List.map_take,List.map_drop,I.out.rs]
section
variable [Inhabited Bs]{w w':nL}{E:Nat}{I O J:Value}{ps:List (aK × Value)}{R:aP}
theorem bQ.ne(h:bQ w E I O J ps R):I.ownBlock≠some E/\O.ownBlock≠some E/\J.ownBlock≠some E/\∀p∈ps,p.2.ownBlock≠some E:=
 ⟨aQ h.kF h.blk du,aQ h.res h.blk du,aQ h.out h.blk du,λp hp=>aQ (h.prt p hp) h.blk du⟩
omit [Inhabited Bs] in
theorem cP{w:nL}{B c k d n n':Nat}{e a:TypeId}{v b:Value}{xs j:List Value}(h:w.ownsRow B e k v n xs)(f:w.ownsRow c a d b n' j)(l:e≠a){g:Nat}(i:v.ownBlock=some g):b.ownBlock≠some g:=by grind[aL]
end
theorem ID [Inhabited Bs](E:Nat)(S:List Nat)(R:aP)(w:nL)(h:gh w E S R)(l:R.ai.length=12):
  Calls prog 131 #[gx E] w λe w'=>e=.returned (.tuple #[.int .u64 0,.int .i64 5])/\∃q,w'=w.drewN q:=by
 have⟨I,O,J,ps,h,_⟩:=h;have a:=af h.blk 0;simp at a;obtain⟨o,c,rfl,_⟩:=h.slice;rw[h.len,l]at a;go_enter func131,ntmps131;go_wp2;go_ret2;exact⟨rfl,0,rfl⟩
theorem BH [Inhabited Bs](E:Nat)(S:List Nat)(R:aP)(w:nL)(h:gh w E S R)(hl:R.ai.length<12)(kB:R.next+1<2^64):
  Calls prog 131 #[gx E] w λe w'=>e=.returned (.tuple #[.int .u64 (R.next:Int),.int .i64 0])/\∃d,gh w' E d {R with ai:=R.ai++[⟨R.next,4,0,[],false⟩],next:=R.next+1}/\fo S d w w':=by
 obtain⟨i0,eH,a8,a',aa⟩:=tO xf;obtain⟨I,O,J,ps,h,rfl⟩:=h;have x:=af h.blk 0;have c1:=af h.blk 1;have f1:=aq h.blk 1;simp at x c1;have eG:=h.len;have Q:=h.kF;obtain⟨xo,xc,l⟩:=fe Q;rw[l]at x;have Z:¬(ps.length:Int)=12:=dp;have rU:=oT.2 Z;have⟨M,D⟩:=gb <|R.next+1;have iM:(R.next:Int)+1=(M:Int):=dp;have jM:IntKind.u64.wrap (M:Int)=M:=by rw[Bl];omega
 rw[<-D];have HM:=ah D;have⟨W,P⟩:∃W,W=w.setCell ⟨E,1,none⟩ (.int .u64 (M:Int)):=⟨_,rfl⟩;have Y:Fr [E] w W:=by rw[P];exact Fr.cG dv _ _
 have B:W.heap[E]?=some (uD I O J M):=by
  rw[P];have:=aF h.blk 1<|.int .u64 (M:Int)
  simpa [uD]using this
 have c:=h.ne;have r:∀{v:Value},v.ownBlock≠some E->∀g,v.ownBlock=some g->g∉[E]:=λhv g F m=>by simp at m;subst m;exact hv F
 have t:bQ W E I O J ps {R with next:=M}:=⟨h.base,B,ar h.kF Y<|r c.1,λp hp=>ar (h.prt p hp) Y<|r<|c.2.2.2 p hp,h.apart,ar h.res Y<|r c.2.1,ar h.out Y<|r c.2.2.1,h.rs⟩;have U:=t.kF;rw[l]at U;have f:=af B 0;simp at f;rw[l]at f;have lL:=t.low;have H:=ah<|show bQ W E I O J ps {R with next:=M}/\Fr [E] w W from ⟨t,Y⟩;have⟨n,C⟩:=gb ps.length;have V:=ah (show I=.slice xo n xc from by rw[C];exact l);have HN:=ah C;rw[<-C]at x f Z rU eG U;have uO:=(zza.1 B).1;have ab:n<12:=dp
 have a7:=ah uO;have C_:=ah lL;clear eG hl uO lL kB;clear D h t Y B c r Q C;rw[P]at f U;have se:=ah P;clear P;go_enter func131,ntmps131;go_wp2_with (at_builtin;apply fH rfl _ _ 116 rfl B0 123 i0 _ 5 56 underlying116 eH a8 a' aa rfl du (.slice xo n xc) n (dO ps) rfl (U.alloc _) 1 (nQ (⟨R.next,4,0,[],false⟩,.slice none 0 0)) (.inl ⟨⟨nF w,0,none⟩,1,rfl,λj u i=>by have h9:=fV (w.setCell (hP E 1)<|.int .u64 (M:Int)) #[.int .u64 (R.next:Int),.int .i64 4,.int .i64 0,.slice none 0 0,.bool false] 123 j u i;rw[show(w.setCell (hP E 1)<|.int .u64 (M:Int)).heap.size=(nF w)from dv]at h9;exact h9⟩) rfl (by intro u i;simp at i;obtain rfl|rfl|rfl|rfl|rfl:=i<;>rfl) eE dp<|by have:=C_.out;rw[se.out]at this;simp at this ⊢;omega)
 intro v2 w2 G T vw;rw[<-se.out]at T;obtain⟨o,c2,rfl⟩:=fe G;have gI:Fr [] W (W.alloc<|.cells #[.int .u64 (R.next:Int),.int .i64 4,.int .i64 0,.slice none 0 0,.bool false] 123):=(fU W).alloc _;have X:=H.1.ne;have s:Fr I.ownBlock.toList W w2:=(gI.mono dv).trans (Fr.cA<|by rw[V.out];exact T);have y:=(s.block E a7.out<|by simp;exact X.1).trans H.1.blk;have a1:=af y 0;have ad:=aq y 0;simp at a1;rw[V.out]at a1;have Kc:=ah (show ∃d,gh (w2.setCell (gi E) (.slice o (n+1) c2)) E d {R with ai:=R.ai++[⟨R.next,4,0,[],false⟩],next:=M}/\fo (kb E I O J ps) d w (w2.setCell (gi E) (.slice o (n+1) c2))from by
  have Kd:∀{L k' n':Nat} {z:TypeId} {v':Value} {N:List Value},W.ownsRow L z k' v' n' N->123≠z->w2.ownsRow L z k' v' n' N:=λh' c=>ar h' s (λg F m=>by
   simp at m;exact cP H.1.kF h' c m F)
  have lT:bQ (w2.setCell (gi E)<|.slice o (n+1) c2) E (.slice o (n+1) c2) O J (ps++[(⟨R.next,4,0,[],false⟩,.slice none 0 0)]) {R with ai:=R.ai++[⟨R.next,4,0,[],false⟩],next:=M}:=by
   refine {base:=H.1.base,blk:=?_,kF:=aN (by rw[oD,zzi,<-HN.out];exact G) y du,prt:=λp hp=>?_,apart:=?_,res:=aN (Kd H.1.res du) y du,out:=aN (Kd H.1.out du) y du,rs:=by rw[BB,H.1.rs];rfl}
   .have:=aF y 0<|.slice o (n+1) c2
    simpa using this
   .rcases zzo.1 hp with hp|hp
    .exact aN (Kd (H.1.prt p hp) du) y du
    .simp at hp;subst hp;exact zzu _ _ _ _
   .refine List.pairwise_append.2 ⟨H.1.apart,dv,λp hp q b=>?_⟩;simp at b;subst b
    cases hb:p.2.ownBlock with
    |none=>exact .inl rfl
    |some g=>exact .inr<|by simp[Value.ownBlock]
  refine⟨_,⟨_,_,_,_,lT,rfl⟩,⟨?_,λk a hl=>?_⟩⟩
  .have mF:Fr [E] w2 (w2.setCell (gi E)<|.slice o (n+1) c2):=Fr.cG dv _ _;have K:∀k,k=E\/I.ownBlock=some k->k∈kb E I O J ps:=λk a=>dC.2<|a.elim .inl λe=>.inr<|.inl e
   exact((H.2.mono λk _ a=>K k<|.inl<|by simpa using a).trans<|s.mono λk _ a=>K k<|.inr<|by simpa using a).trans<|mF.mono λk _ a=>K k<|.inl<|by simpa using a
  .rw[dC]at a ⊢;obtain e|e|e|e|⟨q,b,e⟩:=a
   .exact .inl e
   .rcases vw with A|A
    .exact .inr<|.inl<|by rw[V.out,<-A];exact e
    .rw[A]at e;cases e;omega
   .exact .inr<|.inr<|.inl e
   .exact .inr<|.inr<|.inr<|.inl e
   .rcases zzo.1 b with b|b
    .exact .inr<|.inr<|.inr<|.inr ⟨q,b,e⟩
    .simp at b;subst b;cases e)
 clear G T vw gI s y X;go_wp2;go_ret2;exact⟨rfl,Kc.out⟩
theorem Fs [Inhabited Bs](E:Nat)(S:List Nat)(R:aP)(w:nL)(h:gh w E S R):
  Calls prog 125 #[gx E] w λe w'=>∃v d,e=.returned v/\w'.ownsRow B0 174 2 v R.res.length (lj R.res)/\gh w' E d {R with res:=[]}/\(∀g,v.ownBlock=some g->g∈S/\g∉d)/\Fr [E] w w'/\fo S d w w':=by
 obtain⟨I,O,J,ps,h,rfl⟩:=h;have c5:=af h.blk 2;have s:=aq h.blk 2;simp at c5;have b:=h.ne;obtain⟨W,f⟩:∃W,W=w.setCell ⟨E,2,none⟩ (.slice none 0 0):=⟨_,rfl⟩;have hf:Fr [E] w W:=by rw[f];exact Fr.cG dv _ _
 have hb:W.heap[E]?=some (uD I (.slice none 0 0) J R.next):=by
  rw[f];have:=aF h.blk 2<|.slice none 0 0
  simpa using this
 have r:∀{v:Value},v.ownBlock≠some E->∀g,v.ownBlock=some g->g∉[E]:=λl g a m=>by simp at m;subst m;exact l a
 have i:=ar h.res hf<|r b.2.1;have j:=ar h.out hf<|r b.2.2.1;have H:bQ W E I (.slice none 0 0) J ps {R with res:=[]}:={base:=h.base,blk:=hb,kF:=ar h.kF hf<|r b.1,prt:=λp hp=>ar (h.prt p hp) hf<|r<|b.2.2.2 p hp,apart:=h.apart,res:=zzu _ _ _ _,out:=j,rs:=h.rs}
 have N:=ah (show W.ownsRow B0 174 2 O R.res.length (lj R.res)/\gh W E (kb E I (.slice none 0 0) J ps) {R with res:=[]}/\(∀g,O.ownBlock=some g->g∈kb E I O J ps/\g∉kb E I (.slice none 0 0) J ps)/\Fr [E] w W/\fo (kb E I O J ps) (kb E I (.slice none 0 0) J ps) w W from by
  refine⟨i,⟨_,_,_,_,H,rfl⟩,λg a=>⟨dC.2<|.inr<|.inr<|.inl a,λm=>?_⟩,hf,⟨hf.mono λk _ c=>dC.2<|.inl<|by simpa using c,λk c _=>?_⟩⟩
  .rcases dC.1 m with e|e|e|e|⟨q,hq,e⟩
   .subst e;exact b.2.1 a
   .exact cP h.res h.kF du a e
   .cases e
   .exact cP h.res h.out du a e
   .exact cP h.res (h.prt q hq) du a e
  .rw[dC]at c ⊢;obtain e|e|e|e|e:=c
   .exact .inl e
   .exact .inr<|.inl e
   .cases e
   .exact .inr<|.inr<|.inr<|.inl e
   .exact .inr (.inr (.inr (.inr e))))
 have⟨n,t,o,u⟩:=dN h.res;rw[u]at c5 N ⊢;go_enter func125,ntmps125;go_wp2;rw[<-f];go_ret;exact⟨_,_,rfl,N.out⟩
theorem TI [Inhabited Bs](E:Nat)(S:List Nat)(R:aP)(w:nL)(h:gh w E S R):
  Calls prog 127 #[gx E] w λe w'=>∃v d,e=.returned v/\w'.ownsRow B0 170 3 v R.out.length (jv R.out)/\gh w' E d {R with out:=[]}/\(∀g,v.ownBlock=some g->g∈S/\g∉d)/\Fr [E] w w'/\fo S d w w':=by
 obtain⟨I,O,J,ps,h,rfl⟩:=h;have c5:=af h.blk 3;have s:=aq h.blk 3;simp at c5;have b:=h.ne;obtain⟨W,f⟩:∃W,W=w.setCell ⟨E,3,none⟩ (.slice none 0 0):=⟨_,rfl⟩;have hf:Fr [E] w W:=by rw[f];exact Fr.cG dv _ _
 have hb:W.heap[E]?=some (uD I O (.slice none 0 0) R.next):=by
  rw[f];have:=aF h.blk 3<|.slice none 0 0
  simpa using this
 have r:∀{v:Value},v.ownBlock≠some E->∀g,v.ownBlock=some g->g∉[E]:=λl g a m=>by simp at m;subst m;exact l a
 have i:=ar h.res hf<|r b.2.1;have j:=ar h.out hf<|r b.2.2.1;have H:bQ W E I O (.slice none 0 0) ps {R with out:=[]}:={base:=h.base,blk:=hb,kF:=ar h.kF hf<|r b.1,prt:=λp hp=>ar (h.prt p hp) hf<|r<|b.2.2.2 p hp,apart:=h.apart,res:=i,out:=zzu _ _ _ _,rs:=h.rs}
 have N:=ah (show W.ownsRow B0 170 3 J R.out.length (jv R.out)/\gh W E (kb E I O (.slice none 0 0) ps) {R with out:=[]}/\(∀g,J.ownBlock=some g->g∈kb E I O J ps/\g∉kb E I O (.slice none 0 0) ps)/\Fr [E] w W/\fo (kb E I O J ps) (kb E I O (.slice none 0 0) ps) w W from by
  refine⟨j,⟨_,_,_,_,H,rfl⟩,λg a=>⟨dC.2<|.inr<|.inr<|.inr<|.inl a,λm=>?_⟩,hf,⟨hf.mono λk _ c=>dC.2<|.inl<|by simpa using c,λk c _=>?_⟩⟩
  .rcases dC.1 m with e|e|e|e|⟨q,hq,e⟩
   .subst e;exact b.2.2.1 a
   .exact cP h.out h.kF du a e
   .exact cP h.out h.res du a e
   .cases e
   .exact cP h.out (h.prt q hq) du a e
  .rw[dC]at c ⊢;obtain e|e|e|e|e:=c
   .exact .inl e
   .exact .inr<|.inl e
   .exact .inr<|.inr<|.inl e
   .cases e
   .exact .inr (.inr (.inr (.inr e))))
 have⟨n,t,o,u⟩:=dN h.out;rw[u]at c5 N ⊢;go_enter func127,ntmps127;go_wp2;rw[<-f];go_ret;exact⟨_,_,rfl,N.out⟩
section
variable [Inhabited Bs]{w c J:nL}{E:Nat}{b a O I:Value}{ps:List (aK × Value)}{R:aP}
theorem bQ.yu(h:bQ w E b a O ps R)(m:Fr [] w c)(i:c.grownBy J O.ownBlock)(x:Nat×Nat×Nat)(t:J.ownsRow B0 170 3 I (R.out.length+1)<|jv R.out++PB x)(s:I.ownBlock=O.ownBlock\/I.ownBlock=some c.heap.size):
  bQ (J.setCell (hP E 3) I) E b a I ps {R with out:=R.out++[x]}/\fo (kb E b a O ps) (kb E b a I ps) w (J.setCell (hP E 3) I)/\Fr (E::O.ownBlock.toList) w (J.setCell (hP E 3) I):=by
 have j:=h.ne;have v:=(zza.1 h.blk).1;have Y:Fr O.ownBlock.toList w J:=(m.mono dv).trans<|Fr.cA i;have B:J.heap[E]?=some (uD b a O R.next):=(Y.block E v<|by simp;exact j.2.2.1).trans h.blk
 have Kd:∀{l r n':Nat} {f:TypeId} {u:Value} {W:List Value},w.ownsRow l f r u n' W->170≠f->J.ownsRow l f r u n' W:=λo j=>ar o Y (λg i q=>by
  simp at q;exact cP h.out o j q i)
 have F:Fr [E] J (J.setCell ⟨E,3,none⟩ I):=Fr.cG (by simp) _ _;refine⟨{base:=h.base,blk:=?_,kF:=aN (Kd h.kF du) B du,prt:=λp hp=>aN (Kd (h.prt p hp) du) B du,apart:=h.apart,res:=aN (Kd h.res du) B du,out:=aN (by rw[zzi,Ip];exact t) B du,rs:=h.rs},⟨?_,λk d y=>?_⟩,(Y.mono λk _ d=>by simp at d;simp[d]).trans<|F.mono λk _ d=>by simp at d;simp[d]⟩
 .have:=aF B 3 I;simpa using this
 .exact(Y.mono λk _ d=>dC.2<|.inr<|.inr<|.inr<|.inl<|by simpa using d).trans<|F.mono λk _ d=>dC.2<|.inl<|by simpa using d
 .rw[dC]at d ⊢;obtain e|e|e|e|e:=d
  .grind
  .grind
  .grind
  .rcases s with n|n
   .grind
   .rw[n]at e;cases e;have:=m.size;omega
  .grind
theorem bQ.TJ(h:bQ w E b a O ps R)(m:Fr [] w c)(i:c.grownBy J a.ownBlock)(x:Nat×Nat)(t:J.ownsRow B0 174 2 I (R.res.length+1)<|lj R.res++PA x)(s:I.ownBlock=a.ownBlock\/I.ownBlock=some c.heap.size):
  bQ (J.setCell (hP E 2) I) E b I O ps {R with res:=R.res++[x]}/\fo (kb E b a O ps) (kb E b I O ps) w (J.setCell (hP E 2) I)/\Fr (E::a.ownBlock.toList) w (J.setCell (hP E 2) I):=by
 have j:=h.ne;have v:=(zza.1 h.blk).1;have Y:Fr a.ownBlock.toList w J:=(m.mono dv).trans<|Fr.cA i;have B:J.heap[E]?=some (uD b a O R.next):=(Y.block E v<|by simp;exact j.2.1).trans h.blk
 have Kd:∀{l r n':Nat} {f:TypeId} {u:Value} {W:List Value},w.ownsRow l f r u n' W->174≠f->J.ownsRow l f r u n' W:=λo j=>ar o Y (λg i q=>by
  simp at q;exact cP h.res o j q i)
 have F:Fr [E] J (J.setCell ⟨E,2,none⟩ I):=Fr.cG (by simp) _ _;refine⟨{base:=h.base,blk:=?_,kF:=aN (Kd h.kF du) B du,prt:=λp hp=>aN (Kd (h.prt p hp) du) B du,apart:=h.apart,res:=aN (by rw[zzi,Io];exact t) B du,out:=aN (Kd h.out du) B du,rs:=h.rs},⟨?_,λk d y=>?_⟩,(Y.mono λk _ d=>by simp at d;simp[d]).trans<|F.mono λk _ d=>by simp at d;simp[d]⟩
 .have:=aF B 2 I;simpa using this
 .exact(Y.mono λk _ d=>dC.2<|.inr<|.inr<|.inl<|by simpa using d).trans<|F.mono λk _ d=>dC.2<|.inl<|by simpa using d
 .rw[dC]at d ⊢;obtain e|e|e|e|e:=d
  .grind
  .grind
  .rcases s with n|n
   .grind
   .rw[n]at e;cases e;have:=m.size;omega
  .grind
  .grind
end
section
open Go.Shelf
variable{l:List aU}{k t:Nat}{p:aU}
theorem TL{w:nL}{o:Oper}{a:Act}{K:Act->nL->Prop}{Q:Exit->Act->nL->Prop}(s x:Operand)
  (d:o.op=.call {callee:=.builtin .append,args:=#[s,x],argTypes:=#[117,117]})
  (base:Nat) (v:Value) (n:Nat) (xs:List Value) (t:Nat) (y:Int) (b:Nat) (e:a.eval s=v) (M:w.ownsRow base 174 2 v n xs) (hx:a.eval x=.slice (some<|gi b) 1 1)
  (hb:w.heap[b]?=some (.cells #[.int .u64 (t:Int),.int .i64 y] 174 (0,0))) (hn:n<=4398046511103) (B:base<=w.heap.size)
  (h:∀c w',w'.ownsRow base 174 2 c (n+1) (xs++[.int .u64 (t:Int),.int .i64 y])->w.grownBy w' v.ownBlock->(c.ownBlock=v.ownBlock\/c.ownBlock=some w.heap.size)->K (a.put o.dst c) w'):o.wp prog a w K Q:=by
 have⟨k,i,f,g,j⟩:=tO Ap;have l:=af hb 0;have kn:=af hb 1;simp at l kn;refine gV s x 117 d base 174 k _ 2 16 underlying117 i f g j rfl du v n xs e M (gi b) 1 1 [.int .u64 (t:Int),.int .i64 y] hx rfl ?_ ?_ eE dp B ?_
 .intro jj u fK;match jj,fK with
  |0,fK=>simp at fK;subst fK;simpa [Addr.add]using l
  |1,fK=>simp at fK;subst fK;simpa [Addr.add]using kn
 .intro u hu;simp at hu;obtain rfl|rfl:=hu<;>rfl
 .intro c w' qy EV ha';exact h c w' qy EV ha'
def uY(p:aU):Bool:=p.aZ==0||p.aZ==2
def iF(t:Nat)(l:List aU):List (Nat × Nat × Nat):=(l.filter uY).map λp=>(t,p.cH,6)
theorem PQ(hp:l[k]?=some p)(h:uY p=true):iF t (l.take<|k+1)=iF t (l.take k)++[(t,p.cH,6)]:=by
 unfold iF;rw[vV,hp];simp[h]
theorem TM(hp:l[k]?=some p)(h:uY p=false):iF t (l.take<|k+1)=iF t (l.take k):=by
 unfold iF;rw[vV,hp];simp[h]
theorem yv [Inhabited Bs](r i:Nat)(f b P:Value)(ps:List<|aK×Value)(R:aP)(w:nL)(h:bQ w r f b P ps R)(x:aK)(hx:R.ai[i]?=some x)(hn:ps.length<=1048576)(qI:x.parts.length<=8)(D5:R.out.length<=1048576)(uO:R.res.length<=1048576):
  Calls prog 132 #[gx r,.int .i64 (i:Int)] w λe w'=>e=.returned (.tuple #[])/\∃S',gh w' r S' {R with ai:=R.ai.take i++R.ai.drop (i+1),res:=R.res++[(x.id,6)],out:=R.out++iF x.id x.parts}/\fo (kb r f b P ps) S' w w':=by
 have c0:=af h.blk 0;simp at c0;have⟨ao,c,mo,H⟩:=h.slice;have⟨v,hv⟩:=h.at hx;have⟨g,ag,x0,x1,x2,x3,x4⟩:=H i _ hv;subst ag;have Aq:=(zzd.1 hv).1;have V:=h.prt _<|zzh hv
 change w.ownsRow B0 _ 3 v x.parts.length (fP x.parts)at V;obtain⟨po,t,rfl⟩:=fe V;rw[mo]at c0;have i1:(0:Int)<=i:=dp;have i2:(i:Int)<(ps.length:Int):=dp;simp at x0 x1 x2 x3;have⟨D,hD⟩:=gb x.id;have⟨m,hm⟩:=gb x.parts.length;rw[<-hD]at x0 ⊢;rw[<-hm]at x3 qI hv;have⟨W0,gZ⟩:=gb <|w.alloc (.cells #[.int .u64 (D:Int),.int .i64 (x.st:Int),.int .i64 (x.gH:Int),.slice po m t,.bool x.aS] 123);have dI:Fr [] w W0:=by rw[gZ];exact(fU w).alloc _
 have b0:W0.heap[w.heap.size]?=some (.cells #[.int .u64 (D:Int),.int .i64 (x.st:Int),.int .i64 (x.gH:Int),.slice po m t,.bool x.aS] 123 (0,0)):=by rw[gZ];exact oz w _
 have HI:=ah<|show bQ W0 r f b P ps R/\fo (kb r f b P ps) (kb r f b P ps) w W0/\W0.heap[w.heap.size]?=some (.cells #[.int .u64 (D:Int),.int .i64 (x.st:Int),.int .i64 (x.gH:Int),.slice po m t,.bool x.aS] 123 (0,0))from ⟨h.fr dI,fo.of dI,b0⟩
 have HV:=ah (show ps[i]?=some (x,.slice po m t)/\m=x.parts.length/\D=x.id/\f≠.slice (some ⟨w.heap.size,0,none⟩) ps.length c from ⟨hv,hm,hD,λe=>by
  have:=h.kF.lt w.heap.size<|by rw[e];rfl
  omega⟩)
 have ax:=ah mo;have a':=(zza.1 h.blk).1;have Wk:=ah<|show r<w.heap.size/\(∀p∈ps,∀q,p.2.ownBlock=some q->q<w.heap.size)from ⟨a',λp hp q hq=>((h.prt p hp).lt q hq).2⟩;clear h H hv V dI b0 hx hm hD mo a'
 go_enter func132,ntmps132;go_wp2;rw[<-gZ];clear gZ c0 x0 x1 x2 x3 x4 i1 i2;go_loopw [5] (λj wr=>∃k:Nat,k<=m/\j=.int .i64 k/\Hid (∃T,bQ wr r f b T ps {R with out:=R.out++iF D (x.parts.take k)}/\fo (kb r f b P ps) (kb r f b T ps) w wr/\wr.heap[w.heap.size]?=some (.cells #[.int .u64 (D:Int),.int .i64 (x.st:Int),.int .i64 (x.gH:Int),.slice po m t,.bool x.aS] 123 (0,0)))) (λj _=>m-(intOf j).toNat)
 case atStart=>exact⟨0,zzs _,rfl,P,by simpa [iF]using HI.1,HI.2.1,HI.2.2⟩
 case round=>
  obtain⟨k,hk,rfl,H⟩:=hrel;have⟨J,l,uB,O⟩:=H.out;have x0:=af O 0;have x3:=af O 3;simp at x0 x3;by_cases bW:k<m
  .have V:=l.prt _<|zzh HV.1
   change wr.ownsRow B0 _ 3 (.slice po m t) x.parts.length (fP x.parts)at V;have⟨p,hp⟩:∃p,x.parts[k]?=some p:=⟨_,zzg<|by rw[<-HV.2.1];exact bW⟩;have⟨an,ZH,BI,HP⟩:=kf V;have⟨d,wI,y0,y1,y2⟩:=HP k p hp;obtain⟨rfl,al,rfl⟩:po=an/\m=x.parts.length/\t=ZH:=by simpa using BI
   subst wI;have⟨C,pJ⟩:=gb p.cH;have⟨vo,rX⟩:=gb p.aZ;rw[<-pJ]at y0;rw[<-rX]at y1;have i3:(k:Int)<m:=dp;have i0:(0:Int)<=k:=dp;have Rp:=(V.lt d rfl).2;have⟨ay,sP⟩:=aL V rfl;have Y:=(zza.1 l.blk).1;have C6:=(zza.1 O).1;have a7:=l.ne;have⟨U,xS⟩:=gb <|R.out++iF D (x.parts.take k);have⟨N,hN⟩:=gb U.length;have ZI:N<=1048600:=by
    rw[hN,xS,zzi];have:(iF D<|x.parts.take k).length<=8:=by
     unfold iF;rw[zzn];apply zzk (Hm _ _);rw[zzm];omega
    omega
   have L:=ah (show r<wr.heap.size/\w.heap.size<wr.heap.size/\d<wr.heap.size/\J.ownBlock≠some r/\J.ownBlock≠some w.heap.size/\J.ownBlock≠some d/\w.heap.size≠r/\d≠r from ⟨Y,C6,Rp,a7.2.2.1,aQ l.out O du,aQ l.out sP du,by have:=Wk.1;omega,λe=>by rw[e,l.blk]at sP;cases sP⟩);have A:=ah (show bQ wr r f b J ps {R with out:=U}/\wr.ownsRow B0 170 3 J N (jv U)/\(∀(W:nL) (v:Value) (xs:List Value),W.ownsRow B0 170 3 v (N+1) xs->W.ownsRow B0 170 3 v (U.length+1) xs)from ⟨by rw[xS];exact l,by rw[hN,xS];exact l.out,λW v xs hh=>by rw[<-hN];exact hh⟩);have M:=ah (show ∀n:nL,n.heap[w.heap.size]?=wr.heap[w.heap.size]?->n.heap[d]?=wr.heap[d]?->n.cell? ⟨w.heap.size,0,none⟩=some (.int .u64 (D:Int))/\n.cell? ⟨w.heap.size,3,none⟩=some (.slice (some ⟨d,0,none⟩) m t)/\n.cell? ⟨d,k*3,none⟩=some (.int .i64 (C:Int))from λn h1 h2=>⟨(zze h1).trans x0,(zze h1).trans x3,(zze h2).trans y0⟩);have o3:=af l.blk 3;simp at o3;have Fk:∀o,(wr.drew.alloc o).heap[w.heap.size]?=wr.heap[w.heap.size]?:=λo=>zzf wr.drew o w.heap.size C6
   have o6:∀o,(wr.drew.alloc o).heap[d]?=wr.heap[d]?:=λo=>zzf wr.drew o d Rp
   have LG:∀o,(wr.drew.alloc o).cell? ⟨r,3,none⟩=some J:=λo=>(sR _ _ _ Y).trans o3
   have ae:∀o,(wr.alloc o).cell? ⟨r,3,none⟩=some J:=λo=>(sR _ _ _ Y).trans o3
   have HE:=ah (show ∀n T,bQ n r f b T ps {R with out:=U++[(D,C,6)]}->fo (kb r f b J ps) (kb r f b T ps) wr n->n.heap[w.heap.size]?=wr.heap[w.heap.size]?->uY p=true->∃T,bQ n r f b T ps {R with out:=R.out++iF D (x.parts.take<|k+1)}/\fo (kb r f b P ps) (kb r f b T ps) w n/\n.heap[w.heap.size]?=some (.cells #[.int .u64 (D:Int),.int .i64 (x.st:Int),.int .i64 (x.gH:Int),.slice (some ⟨d,0,none⟩) m t,.bool x.aS] 123 (0,0))from λn T h1 h2 h3 h4=>⟨T,by rw[PQ hp h4,<-zzx,<-xS,<-pJ];exact h1,uB.trans h2,h3.trans O⟩);have HO:=ah (show uY p=false->∃T,bQ wr r f b T ps {R with out:=R.out++iF D (x.parts.take<|k+1)}/\fo (kb r f b P ps) (kb r f b T ps) w wr/\wr.heap[w.heap.size]?=some (.cells #[.int .u64 (D:Int),.int .i64 (x.st:Int),.int .i64 (x.gH:Int),.slice (some ⟨d,0,none⟩) m t,.bool x.aS] 123 (0,0))from λh4=>⟨J,by rw[TM hp h4];exact l,uB,O⟩);have a8:=ah rX;clear al H l uB O V HP BI hp pJ rX sP a7 xS hN Rp Y C6 y2;by_cases h0:vo=0
   .subst h0;go_wp2;refine eX (S:=(λw'=>w'.cell? ⟨r,3,none⟩=some J/\w'.cell? ⟨w.heap.size,0,none⟩=some (.int .u64 (D:Int))/\w'.cell? ⟨w.heap.size,3,none⟩=some (.slice (some ⟨d,0,none⟩) m t)/\w'.cell? ⟨d,k*3,none⟩=some (.int .i64 (C:Int)))) (z:=18) eu rfl eu ⟨by first|assumption|exact dM.2.1,M.out _ rfl rfl⟩ λa1=>?_;apply b_ 0;apply b_ 1;apply b_ 2;apply b_ 3;apply b_ 4;apply b_ 5;apply b_ 6;apply b_ 7;apply b_ 8;apply b_ 9;apply b_ 10;apply b_ 11;apply b_ 12;apply b_ 13
    (try simp only[Act.put,mA,hU,mI]);refine um (rs:=[14]) eu dv<|yg (λK s=>?_) ua;go_simp;refine s.out _ _ ⟨LG _,M.out _ (Fk _)<|o6 _⟩ λa1=>?_;clear s K
    (try simp only[Act.put,mA,hU,mI]);refine um (rs:=[15]) eu dv<|yg (λK s=>?_) ua;rw[oo<|by rfl];refine nr _ _ rfl B0 J N (jv U) D (C:Int) 6 wr.heap.size rfl (ar A.2.1 ((fU wr).drew.alloc _) dv) rfl (oz _ _) dp (by have:=A.1.low;simp;omega) ?_;intro v' Q F E dX;obtain⟨av,mv,cv,rfl⟩:=dN F;have I:Fr [] wr (wr.drew.alloc<|.cells #[.int .u64 (D:Int),.int .i64 (C:Int),.int .i64 6] 170):=(fU wr).drew.alloc _;have B:=(I.mono dv).trans<|Fr.cA E;have G:=(B.block r L.1<|by simp;exact L.2.2.2.1).trans A.1.blk;have g0:=B.block w.heap.size L.2.1 (by simp;exact L.2.2.2.2.1);have g1:=B.block d L.2.2.1 (by simp;exact L.2.2.2.2.2.1);have Z:=af G 3;have f3:=aq G 3;simp at Z;have X:=ah (A.1.yu I E (D,C,6) (A.2.2 _ _ _ F)<|by simpa using dX);have GC:=ah λu=>(wg Q ⟨r,3,none⟩ u w.heap.size L.2.2.2.2.2.2.1).trans g0;have Rq:=ah λu=>(wg Q ⟨r,3,none⟩ u d L.2.2.2.2.2.2.2).trans g1;clear F E dX I B G;refine s.out _ _ ⟨Z,M.out _ g0 g1⟩ λa1=>?_;clear s K
    (try simp only[Act.put,mA,hU,mI]);apply b_ 16;apply b_ 17;(try simp only[Act.put,mA,hU,mI]);refine Cj eu ?_ _;apply lV rfl rfl;go_simp;have HZ:=ah (HE.out _ _ X.1 X.2.1 (GC.out _)<|by unfold uY;rw[<-a8.out];rfl);go_wp2;go_roundw;case rel=>exact⟨k+1,dp,eR,HZ.out⟩
    case measure=>simp[intOf];omega
   .have j0:¬(vo:Int)=0:=dp;have b0:=oT.2 j0;by_cases h2:vo=2
    .subst h2;go_wp2;refine eX (S:=(λw'=>w'.cell? ⟨r,3,none⟩=some J/\w'.cell? ⟨w.heap.size,0,none⟩=some (.int .u64 (D:Int))/\w'.cell? ⟨w.heap.size,3,none⟩=some (.slice (some ⟨d,0,none⟩) m t)/\w'.cell? ⟨d,k*3,none⟩=some (.int .i64 (C:Int)))) (z:=18) eu rfl eu ⟨by first|assumption|exact dM.2.1,M.out _ rfl rfl⟩ λa1=>?_;apply b_ 0;apply b_ 1;apply b_ 2;apply b_ 3;apply b_ 4;apply b_ 5;apply b_ 6;apply b_ 7;apply b_ 8;apply b_ 9;apply b_ 10;apply b_ 11;apply b_ 12;apply b_ 13
     (try simp only[Act.put,mA,hU,mI])
     refine um (rs:=[14]) eu dv<|yg (λK s=>?_) ua;go_simp;refine s.out _ _ ⟨LG _,M.out _ (Fk _)<|o6 _⟩ λa1=>?_;clear s K
     (try simp only[Act.put,mA,hU,mI])
     refine um (rs:=[15]) eu dv<|yg (λK s=>?_) ua;rw[oo<|by rfl];refine nr _ _ rfl B0 J N (jv U) D (C:Int) 6 wr.heap.size rfl (ar A.2.1 ((fU wr).drew.alloc _) dv) rfl (oz _ _) dp (by have:=A.1.low;simp;omega) ?_;intro v' Q F E dX;obtain⟨av,mv,cv,rfl⟩:=dN F;have I:Fr [] wr (wr.drew.alloc<|.cells #[.int .u64 (D:Int),.int .i64 (C:Int),.int .i64 6] 170):=(fU wr).drew.alloc _;have B:=(I.mono dv).trans<|Fr.cA E;have G:=(B.block r L.1<|by simp;exact L.2.2.2.1).trans A.1.blk;have g0:=B.block w.heap.size L.2.1 (by simp;exact L.2.2.2.2.1);have g1:=B.block d L.2.2.1 (by simp;exact L.2.2.2.2.2.1);have Z:=af G 3;have f3:=aq G 3;simp at Z;have X:=ah (A.1.yu I E (D,C,6) (A.2.2 _ _ _ F)<|by simpa using dX);have GC:=ah λu=>(wg Q ⟨r,3,none⟩ u w.heap.size L.2.2.2.2.2.2.1).trans g0;have Rq:=ah λu=>(wg Q ⟨r,3,none⟩ u d L.2.2.2.2.2.2.2).trans g1;clear F E dX I B G;refine s.out _ _ ⟨Z,M.out _ g0 g1⟩ λa1=>?_;clear s K
     (try simp only[Act.put,mA,hU,mI]);apply b_ 16;apply b_ 17;(try simp only[Act.put,mA,hU,mI]);refine Cj eu ?_ _;apply lV rfl rfl;go_simp;have HZ:=ah (HE.out _ _ X.1 X.2.1 (GC.out _)<|by unfold uY;rw[<-a8.out];rfl);go_wp2;go_roundw;case rel=>exact⟨k+1,dp,eR,HZ.out⟩
     case measure=>simp[intOf];omega
    .have j2:¬(vo:Int)=2:=dp;have b2:=oT.2 j2;have HZ:=ah (HO.out<|by unfold uY;rw[<-a8.out];simp;omega);go_wp2;go_roundw;case rel=>exact⟨k+1,dp,eR,HZ.out⟩
     case measure=>simp[intOf];omega
  .obtain rfl:k=m:=dp;have i3:¬(k:Int)<k:=dp;have aa:=zzt (by rw[<-HV.2.1];exact zzc _);rw[aa]at l;have Y:=(zza.1 l.blk).1;have C6:=(zza.1 O).1;have a7:=l.ne;have⟨N,hN⟩:=gb R.res.length;have ZI:N<=1048600:=dp
   have L:=ah (show r<wr.heap.size/\w.heap.size<wr.heap.size/\b.ownBlock≠some r/\b.ownBlock≠some w.heap.size/\w.heap.size≠r from ⟨Y,C6,a7.2.1,aQ l.res O du,by have:=Wk.1;omega⟩);have A:=ah (show bQ wr r f b J ps {R with out:=R.out++iF D x.parts}/\wr.ownsRow B0 174 2 b N (lj R.res)/\(∀(W:nL) (v:Value) (xs:List Value),W.ownsRow B0 174 2 v (N+1) xs->W.ownsRow B0 174 2 v (R.res.length+1) xs)from ⟨l,by rw[hN];exact l.res,λW v xs hh=>by rw[<-hN];exact hh⟩);have M:=ah (show ∀n:nL,n.heap[w.heap.size]?=wr.heap[w.heap.size]?->n.cell? ⟨w.heap.size,0,none⟩=some (.int .u64 (D:Int))from λn h1=>(zze h1).trans x0);have o3:=af l.blk 2;simp at o3;have Fk:∀o,(wr.drew.alloc o).heap[w.heap.size]?=wr.heap[w.heap.size]?:=λo=>zzf wr.drew o w.heap.size C6
   have LG:∀o,(wr.drew.alloc o).cell? ⟨r,2,none⟩=some b:=λo=>(sR _ _ _ Y).trans o3
   have ae:∀o,(wr.alloc o).cell? ⟨r,2,none⟩=some b:=λo=>(sR _ _ _ Y).trans o3
   have TN:=ah uB;clear H l uB O Y C6 a7 hN aa;go_wp2;refine eX (S:=(λw'=>w'.cell? ⟨r,2,none⟩=some b/\w'.cell? ⟨w.heap.size,0,none⟩=some (.int .u64 (D:Int)))) (z:=12) eu rfl eu ⟨by first|assumption|exact dM.2.1,M.out _ rfl⟩ λa1=>?_;apply b_ 0;apply b_ 1;apply b_ 2;apply b_ 3;apply b_ 4;refine b_ 5 ?_;refine b_ 6 ?_;refine b_ 7 ?_
   (try simp only[Act.put,mA,hU,mI])
   refine um (rs:=[8]) eu dv<|yg (λK s=>?_) ua;go_simp;refine s.out _ _ ⟨LG _,M.out _<|Fk _⟩ λa1=>?_;clear s K
   (try simp only[Act.put,mA,hU,mI])
   refine um (rs:=[9]) eu dv<|yg (λK s=>?_) ua;rw[oo<|by rfl];refine TL _ _ rfl B0 b N (lj R.res) D 6 wr.heap.size rfl (ar A.2.1 ((fU wr).drew.alloc _) dv) rfl (oz _ _) dp (by have:=A.1.low;simp;omega) ?_;intro v' Q F E dX;obtain⟨av,mv,cv,rfl⟩:=dN F;have I:Fr [] wr (wr.drew.alloc<|.cells #[.int .u64 (D:Int),.int .i64 6] 174):=(fU wr).drew.alloc _;have B:=(I.mono dv).trans<|Fr.cA E;have G:=(B.block r L.1<|by simp;exact L.2.2.1).trans A.1.blk;have g0:=B.block w.heap.size L.2.1 (by simp;exact L.2.2.2.1);have Z:=af G 2;have f3:=aq G 2;simp at Z;have X:=ah (A.1.TJ I E (D,6) (A.2.2 _ _ _ F)<|by simpa using dX);have GC:=ah λu=>(wg Q ⟨r,2,none⟩ u w.heap.size L.2.2.2.2).trans g0;clear F E dX I B G;refine s.out _ _ ⟨Z,M.out _ g0⟩ λa1=>?_;clear s K
   (try simp only[Act.put,mA,hU,mI]);apply b_ 10;apply b_ 11;(try simp only[Act.put,mA,hU,mI]);refine Cj eu ?_ _;apply lV rfl rfl;go_simp;have ab:=yt r i f (.slice av mv cv) J ps _ _ X.1 Aq hn;have ad:=ah<|TN.out.trans X.2.1;clear X GC M L A TN;go_wp2_with fail;apply ab.mono;clear ab;rintro e w5 ⟨rfl,⟨CP,kr,vJ⟩,iR⟩
   have HF:=ah (show ∃S',gh w5 r S' {R with ai:=R.ai.take i++R.ai.drop (i+1),res:=R.res++[(D,6)],out:=R.out++iF D x.parts}/\fo (kb r f b P ps) S' w w5 from by
    refine⟨_,⟨_,_,_,_,kr,rfl⟩,ad.out.trans ⟨iR.mono λq _ hq=>dC.2<|.inl<|by simpa using hq,λq hq hl=>?_⟩⟩;rw[dC]at hq ⊢;obtain e|e|e|e|⟨y,hy,e⟩:=hq
    .exact .inl e
    .have:=vJ q e;omega
    .exact .inr<|.inr<|.inl e
    .exact .inr<|.inr<|.inr<|.inl e
    .exact .inr (.inr (.inr (.inr ⟨y,(pH ps i).subset hy,e⟩))))
   clear kr vJ iR;go_wp2;go_end0;exact⟨rfl,HF.out⟩
end
end Go.Proofs.YtlgeloebpdmnnaaGreatDoor
