import Derived.Test.YtcalalndmcemiaaGreatDoorC09
import Derived.Test.YtcalalndmcemiaaGreatDoorC10
set_option maxHeartbeats 4000000
set_option maxRecDepth 100000
namespace Go.Proofs.YtcalalndmcemiaaGreatDoor
open Go.RowKit Go.Maps Tryz Sc
theorem JL:(Tryz.prog.info? 9).map (λi=>(i.zero,i.size,i.bytes))=some (some<|.string ByteArray.empty,1,16):=dJ
theorem Ee(l:List ByteArray)(x:ByteArray):jO (l++[x])=jO l++[.string x]:=by simp[jO]
theorem Ef{w:World}{ops:Array Oper}{rest:List Oper}{o:Oper}{a:Act}{Q:Exit->Act->World->Prop}(U:o.guard=none)(s x:Operand)
  (d:o.op=.call {callee:=.builtin .append,args:=#[s,x],argTypes:=#[35,35]})
  (base:Nat) (v:Value) (n:Nat) (l:List ByteArray) (r:ByteArray) (b:Nat) (hs:a.eval s=v) (A:w.ownsRow base 9 1 v n<|jO l) (e:a.eval x=.slice (some ⟨b,0,none⟩) 1 1)
  (hb:w.cell? ⟨b,0,none⟩=some (.string r)) (hn:n<=1073741824) (J:base<=w.heap.size)
  (h:∀c w',w'.ownsRow base 9 1 c (n+1) (jO<|l++[r])->w.grownBy w' v.ownBlock->wpList prog ops Q rest (a.put o.dst c) w'):wpList prog ops Q (o::rest) a w:=by
 have⟨k,i,f,g,j⟩:=info_parts JL;refine wpList_append_own _ U s x 35 d base 9 k _ 1 16 underlying35 i f g j rfl bM v n (jO l) hs A (gz b) 1 1 [.string r] e rfl ?_ ?_ eA bL J ?_
 .intro jj u gS;match jj,gS with
  |0,gS=>simp at gS;subst gS;simpa [Addr.add]using hb
 .intro u hu;simp at hu;subst hu;rfl
 .intro c w' s8 AF _;refine h c w' ?_ AF;rw[Ee];exact s8
theorem Cl(s f m d:Nat)(l:List Nat)(w:World)(h:l.length=m)(G:m<=67108864)(c:∀(k x:Nat),l[k]?=some x->w.cell? ⟨s,f+k,none⟩=some (.int .u64 (x:Int))/\x<18446744073709551616)(n:s<w.heap.size)(H:bI w)(g:1<w.heap.size):
  Calls prog 137 #[.slice (some ⟨s,f,none⟩) m d] w λe w'=>∃v,e=.returned v/\w'.ownsRow w.heap.size 9 1 v m (jO<|l.map aN)/\Below w.heap.size w w':=by
 have L:=af h;have C:=af c;have P:=af H;clear h c H;go_enter func137,ntmps137;go_wp2;go_loopw [3,8] (λv i wr=>∃k:Nat,k<=m/\i=.int .i64 k/\wr.ownsRow w.heap.size 9 1 v k (jO<|(l.take k).map aN)/\Below w.heap.size w wr) (λ_ i _=>m-(intOf i).toNat);case atStart=>exact⟨0,zzs _,rfl,zzu _ _ _ _,zzD _ _⟩
 case round=>
  obtain⟨k,F,rfl,A,hb⟩:=hrel;by_cases b:k<m
  .obtain⟨x,hx⟩:∃x,l[k]?=some x:=⟨_,zzg<|by rw[L.out];exact b⟩;have⟨c1,c2⟩:=C.out k x hx;have c3:=(hb.cell n).trans c1;have X:=af hx;have O:=af A;have B:=af hb;have y:=P.out.cI<|hb.block 1 g;have J:(0:Int)<=k:=bL
   have K:(k:Int)<m:=bL;have U:=hb.size;clear hx c1 A hb;go_wp2_with fail;apply(pj x wr c2 y).mono;rintro e a ⟨rfl,cG⟩;have I:=cG.size;have E:=aD O.out (Fr.aX cG []) bR;have r:=af<|B.out.trans<|cG.mono U;have W:=af E;clear cG E
   go_wp2_with (at_builtin;apply Ef rfl _ _ rfl w.heap.size u3 k ((l.take k).map aN) (aN x) a.heap.size rfl (W.out.alloc _) rfl bR bL cE;intro M D u j);have z:=(r.out.alloc bL _).grown j cE λq o=>(W.out.lt q o).1;clear j
   go_roundw;case rel=>
    refine⟨k+1,bL,eR,?_,z⟩;rw[List.take_add_one,X.out]
    simpa using u
   case measure=>simp[intOf];omega
  .obtain rfl:k=m:=bL;have t:=zzt (by rw[L.out];exact zzc _);rw[t]at A;go_wp2;go_ret;exact⟨u3,rfl,A,hb⟩
theorem Eg(w:World):Calls prog 137 #[.slice none 0 0] w λe w'=>e=.returned (.slice none 0 0)/\w'=w:=by
 go_enter func137,ntmps137;go_wp2;apply wp_loop_rounds 1;rw[rounds_succ];go_wp2;go_ret;exact⟨rfl,rfl⟩
theorem removeAll_nil(B p D N n c a:Nat)(v:Value)(d:ah)(w:World)(h:ax w B p D N v d n c a):
  Calls prog 123 #[dX p,.slice none 0 0] w (mS B p D N n (d.removeAll []) w):=by
 have I:=af h;have m:=JB;clear h;go_enter func123,ntmps123;go_wp2;apply wp_loop_rounds 1;rw[rounds_succ];go_wp2_with fail;apply(qa B p D N n c a v d w I.out).mono;rintro e f ⟨rfl,⟨j9,lC,j_,lZ⟩,bh⟩;have H:Hid (mS B p D N n (d.removeAll []) w (.returned<|cf d.sync.2) f):=⟨rfl,⟨j9,lC,a,j_⟩,I.out.Su j_ bh (λq b _=>by simp at b;obtain e|e:=b<;>simp[e]) lZ⟩;clear j_ lZ bh;go_wp2;go_ret;exact H.out
section
open Go.Shelf Go.Sort
variable{V:Type}
def fK{V:Type}(L:List (ByteArray × V)):List ByteArray:=((L.map λp=>p.1.data.toList).mergeSort leB).map λb=>⟨b.toArray⟩
theorem dR(L:List<|ByteArray×V):(fK L).length=L.length:=by simp[fK]
theorem qX{L:List (ByteArray×V)}{k:ByteArray}:k∈fK L↔∃v,(k,v)∈L:=by
 unfold fK;simp only[zzq,List.mem_mergeSort];constructor
 .rintro⟨x,⟨p,hp,rfl⟩,rfl⟩;exact⟨p.2,by simpa using hp⟩
 .rintro⟨v,hv⟩;exact⟨k.data.toList,⟨(k,v),hv,rfl⟩,bR⟩
theorem Ow(m:Nat):AnyZ.SortsIn prog Tryz.sortedS_ren Fence.wide m:=
 ⟨λblk f c ss W H k z=>callsIn_wide.2<|Tryz.slices_Sort_string blk f c ss W H k z,λp c W=>callsIn_wide.2<|Tryz.slices_Sort_string_none p c W⟩
theorem strKeys_perm{ER:kK V}{s:List (Lit×DataW Unit)}{L:List (ByteArray×V)}(h:s.Perm<|L.map<|l4 KS ER):(strKeys<|DataW.map s).Perm (L.map λp=>p.1.data.toList):=by
 show(s.map λp=>strOf p.1).Perm _;apply(h.map _).trans;rw[List.map_map];exact List.Perm.refl _
theorem D_(n:Nat)(hn:5<=n)(b m:Nat)(L:List<|ByteArray×aK)(w:World)(h:aO KS EG w b m L)(g:m<=67108864):
  (CallsIn Fence.wide n prog 273 #[.map<|some b] w λe w'=>e=.returned (.func (.func 308) #[] #[.pointer<|some ⟨w.heap.size,0,none⟩])/\w'=w.alloc (.cells #[.map<|some b] 262)) /\
  (CallsIn Fence.wide n prog 208 #[.func (.func 308) #[] #[.pointer<|some ⟨w.heap.size,0,none⟩]] (w.alloc<|.cells #[.map<|some b] 262) λe w'=>∃v,e=.returned v/\w'.ownsRow w.heap.size 9 1 v L.length ((fK L).map Value.string)/\(v=.slice none 0 0↔L.length=0)/\Below w.heap.size w w'):=by
 have⟨s,A,p,f,B⟩:=h;have hlen:Maps.size (DataW.map s)=L.length:=by rw[Maps.size_eq,p.length_eq,zzn]
 have z:=A.size_le;have T:=A.lt;have d:SeqGives Fence.wide (n-1-1-1) prog 308 #[.pointer<|some (gz w.heap.size)] encStr (λss=>ss.Perm<|strKeys<|DataW.map s) (Maps.size<|DataW.map s) (w.alloc<|.cells #[.map<|some b] 262):=
  AnyZ.keys_gives {Tryz.keysG with} Fence.wide _ trivial rfl bL w.heap.size b m (DataW.map s) _ bR bR (by
   have⟨a,clock,hb,t,hs,hD⟩:=A;exact⟨a,clock,(zzf _ _ b T).trans hb,t,hs,hD⟩)
 refine⟨AnyZ.keys_in Tryz.keysG Fence.wide n trivial rfl _ w,?_⟩;have S:=AnyZ.sorted_in Tryz.sortedS Fence.wide n trivial trivial trivial trivial rfl bL (Ow _) (enters_of func254 dJ rfl) 308 #[.pointer<|some (gz w.heap.size)] trivial (enters_of func308 dJ rfl) _ _ eA bL _ d
 change CallsIn _ _ prog 208 _ _ _ at S;apply S.mono;rintro e w' ⟨v,ss,rfl,hS,aI,dM,hb⟩;have W:=hS.trans<|strKeys_perm p;have l:ss.length=L.length:=by rw[W.length_eq,zzn]
 have c:(ss.mergeSort λx y=>decide<|x<=y).map encStr=(fK L).map Value.string:=by
  have:=mergeSort_of_perm W;unfold fK;rw[show(ss.mergeSort λx y=>decide<|x<=y)=ss.mergeSort leB from rfl,this,List.map_map];rfl
 rw[l,c]at aI;refine⟨v,rfl,ownsRow_base_a aI bR,by rw[dM,<-l];exact List.length_eq_zero_iff.symm,((zzD _ w).alloc (zzc _) _).trans<|hb.mono bR⟩
theorem D'(n:Nat)(hn:5<=n)(b m:Nat)(L:List<|ByteArray×ByteArray)(w:World)(h:aO KS ES w b m L)(g:m<=67108864):
  (CallsIn Fence.wide n prog 209 #[.map<|some b] w λe w'=>e=.returned (.func (.func 255) #[] #[.pointer<|some ⟨w.heap.size,0,none⟩])/\w'=w.alloc (.cells #[.map<|some b] 135)) /\
  (CallsIn Fence.wide n prog 208 #[.func (.func 255) #[] #[.pointer<|some ⟨w.heap.size,0,none⟩]] (w.alloc<|.cells #[.map<|some b] 135) λe w'=>∃v,e=.returned v/\w'.ownsRow w.heap.size 9 1 v L.length ((fK L).map Value.string)/\(v=.slice none 0 0↔L.length=0)/\Below w.heap.size w w'):=by
 have⟨s,A,p,f,B⟩:=h;have hlen:Maps.size (DataW.map s)=L.length:=by rw[Maps.size_eq,p.length_eq,zzn]
 have z:=A.size_le;have T:=A.lt;have d:SeqGives Fence.wide (n-1-1-1) prog 255 #[.pointer<|some (gz w.heap.size)] encStr (λss=>ss.Perm<|strKeys<|DataW.map s) (Maps.size<|DataW.map s) (w.alloc<|.cells #[.map<|some b] 135):=
  AnyZ.keys_gives {Tryz.keysV with} Fence.wide _ trivial rfl bL w.heap.size b m (DataW.map s) _ bR bR (by
   have⟨a,clock,hb,t,hs,hD⟩:=A;exact⟨a,clock,(zzf _ _ b T).trans hb,t,hs,hD⟩)
 refine⟨AnyZ.keys_in Tryz.keysV Fence.wide n trivial rfl _ w,?_⟩;have S:=AnyZ.sorted_in Tryz.sortedS Fence.wide n trivial trivial trivial trivial rfl bL (Ow _) (enters_of func254 dJ rfl) 255 #[.pointer<|some (gz w.heap.size)] trivial (enters_of func255 dJ rfl) _ _ eA bL _ d
 change CallsIn _ _ prog 208 _ _ _ at S;apply S.mono;rintro e w' ⟨v,ss,rfl,hS,aI,dM,hb⟩;have W:=hS.trans<|strKeys_perm p;have l:ss.length=L.length:=by rw[W.length_eq,zzn]
 have c:(ss.mergeSort λx y=>decide<|x<=y).map encStr=(fK L).map Value.string:=by
  have:=mergeSort_of_perm W;unfold fK;rw[show(ss.mergeSort λx y=>decide<|x<=y)=ss.mergeSort leB from rfl,this,List.map_map];rfl
 rw[l,c]at aI;refine⟨v,rfl,ownsRow_base_a aI bR,by rw[dM,<-l];exact List.length_eq_zero_iff.symm,((zzD _ w).alloc (zzc _) _).trans<|hb.mono bR⟩
end
variable{X:List Nat}{B D N n p:Nat}{v:Value}{w w':World}{d:ah}
def ah.up(d:ah):ah:={ d with now:=d.aZ,pending:=[],down:=false }
theorem Xd(B p b n f:Nat)(P nv:Value)(d:ah)(w:World)(h:w.heap[p]?=some (.cells #[.map<|some b,nv,P,.int .i64 d.left,.int .i64 d.full,.bool d.down] 96))(K:B<=p/\B<=b/\B<=w.heap.size)(X:FileMap w b f d.aZ)(hn:f<=n)(zS:n<=67108864)(Y:d.aZ.Le<|f*4096):
  Calls prog 37 #[.pointer<|some ⟨p,0,none⟩] w λe w'=>e=.returned (.tuple #[])/\ax w' B p b w.heap.size (.slice none 0 0) d.up n f f/\Fr [p] w w':=by
 have M6:=@run_makeMap prog;have c0:=ae h 0;have c1:=ae h 1;have c2:=ae h 2;have c5:=ae h 5;have f1:=aj h 1;have f2:=aj h 2;have f5:=aj h 5;simp at c0 c1 c2 c5;have M:p<w.heap.size:=(zza.1 h).1;have gT:=X.lt;have aa:b≠p:=X.cH h;obtain⟨D,F,o⟩:=X;have H5:=af o;clear o;have an:=F.size_le;have R:=af h;clear h;have ab:(w.alloc<|.map #[] 0).cell? ⟨p,1,none⟩=some nv:=(zze (a:=⟨p,1,none⟩)<|zzf w _ p M).trans c1;have ad:(w.alloc<|.map #[] 0).frozen? ⟨p,1,none⟩=false:=(zzw (a:=⟨p,1,none⟩)<|zzf w _ p M).trans f1;have⟨g,G⟩:∃g,g=(w.setCell ⟨p,1,none⟩<|.map<|some w.heap.size).alloc (.map #[] 0):=⟨_,rfl⟩;have yw:(w.setCell ⟨p,1,none⟩<|.map<|some w.heap.size).heap.size=w.heap.size:=bR
 have O:g.heap[p]?=some (.cells #[.map<|some b,.map<|some w.heap.size,P,.int .i64 d.left,.int .i64 d.full,.bool d.down] 96):=by
  have:=ar R.out 1<|.map<|some w.heap.size;rw[G,zzf _ _ p<|by rw[yw];exact M];simpa using this
 have kx:Fr [p] w g:=by rw[G];exact((Fr.refl [p] w).setCell (Or.inl bR) _).alloc _
 have df:g.heap.size=w.heap.size+1:=by rw[G];simp
 have a7:g.ownsMap prog 9 di b f D:=by rw[G];exact(F.setCell aa _).alloc _
 have a8:g.ownsMap prog 9 di w.heap.size 0 (.map []):=by
  have:=World.ownsMap_made (w.setCell ⟨p,1,none⟩<|.map<|some w.heap.size) prog 9 di;rw[yw]at this;rw[G];exact this
 have d0:=ae O 0;simp at d0;go_enter func37,ntmps37;go_wp2_with (first
  |(at_range;rw[<-G];apply wpList_range_own _ rfl _ 93 rfl 9 165 wB underlying93 di b f D rfl a7;intro w0 jD mz xk)
  |go_in)
 go_frame;clear G;have kj:=af O;clear O;rw[df]at jD xk ⊢;go_loopw [2] (λ_ wr=>∃(left:Lit->Bool) (s:Nat) (A:DataW Unit),wr.ranges prog 9 di b (w.heap.size+1) f D left s/\s<=Maps.size D /\
   wr.ownsMap prog 9 di w.heap.size (Maps.size D-s) A/\Agree A D left/\Fr [w.heap.size,w.heap.size+1] g wr)
  (λ_ wr=>wr.rangeLeft b<|w.heap.size+1)
 case atStart=>
  exact⟨_,_,.map [],jD,zzc _,(a8.kept mz bR).mono<|zzs _,agree_start D,(Fr.bz mz).mono bR⟩
 case round=>
  have⟨left,s,A,Z,al,r,U,E⟩:=hrel;have S:=af E;have UO:=E.size;have u:=(E.block p bL cE).trans kj.out;have a6:=af u;have r1:=ae u 1;have r2:=ae u 2;have r5:=ae u 5;have q2:=aj u 2;have q5:=aj u 5;simp at r1 r2 r5;clear E u;go_wp2_with (first
   |(at_next;refine wpList_next_ranges _ rfl _ rfl 9 wB di encStr Value.pointer (λav kl i=>by have⟨x,hx,_⟩:=Maps.keyOf_str underlying9 i;exact⟨x,hx⟩) (λv y L=>rK L) b (w.heap.size+1) f _ _ _ rfl Z ?_ ?_)
   |go_in)
  .intro qM Cv;go_wp2;go_end0;subst qM;have hD:=agree_end U Cv (r.canon wB)<|F.canon wB;subst hD;have⟨W,I⟩:∃W,W=(wr.setCell ⟨p,2,none⟩<|.slice none 0 0).setCell ⟨p,5,none⟩ (.bool false):=⟨_,rfl⟩;rw[<-I];have Q:Fr [p] wr W:=by rw[I];exact(Fr.cD bR _ _).trans<|Fr.cD bR _ _
   have N:=(kx.andThen S.out<|by intro j hj hl;simp at hj;omega).trans Q;have cZ:W.heap[p]?=some (gv b w.heap.size (.slice none 0 0) d.left d.full false):=by
    have:=ar (ar a6.out 2<|.slice none 0 0) 5<|.bool false;rw[I];simpa using this
   have Hn:∀(q:Nat) (t:ByteArray),w.heap[q]?=some (dV t)->W.heap[q]?=some (dV t):=λq t C=>by
    rw[N.block q (zza.1 C).1<|by simp;intro e;subst e;rw[R.out]at C;cases C];exact C
   have eE:W.ownsMap prog 9 di b f A:=by
    have⟨J,c,l,m⟩:=Z.owns;exact⟨J,c,(Q.block b bL cE).trans l,m⟩
   have gH:W.ownsMap prog 9 di w.heap.size f A:=by
    obtain⟨J,c,l,m⟩:=r.mono (n':=f) bL;exact⟨J,c,(Q.block w.heap.size bL cE).trans l,m⟩
   have o:∀k:ByteArray,(d.aZ k=none->Maps.has A (kY k)=false)/\(∀t,d.aZ k=some t->Maps.has A (kY k)=true/\k.size<=maxLen/\∃q:Nat,(∀z,A.atKey (kY k) z=.lit (.int .i64 (q:Int)))/\W.heap[q]?=some (dV t)):=λk=>by
    have⟨l,m⟩:=H5.out k;refine⟨l,λt ht=>?_⟩;have⟨b1,b2,q,b3,b4⟩:=m t ht;exact⟨b1,b2,q,b3,Hn q t b4⟩
   refine⟨rfl,?_,N⟩;exact {blk:=cZ,base:=⟨K.1,K.2.1,K.2.2,by have:=N.size;omega⟩,ne:=bL,rz:=⟨_,eE,o⟩,now:=⟨_,gH,o⟩,pen:=zzu _ _ _ _,hD:=by simpa [ah.up]using hn,hN:=hn,hn:=zS,MR:=Y,F6:=Y,ops:=by simp[ah.up]}
  .intro x c kl yd yp w2 aak Cj my L eW kZ bU fc dT iU;obtain⟨x',ex,rfl,ao⟩:=Maps.keyOf_str underlying9 Cj;obtain rfl:x=x':=encStr_inj ex;have a':=r.kept fc bR;have s1:=(lW fc cE cE).trans r1;clear dT;go_wp2_with (first
    |(at_mapUpdate;refine wpList_mapUpdate_own _ rfl _ _ _ 93 rfl 9 165 wB underlying93 di w.heap.size _ _ rfl a' eA _ _ _ rfl rfl Cj _ _ L ?_;intro w3 Ba V;go_frame)
    |go_in)
   have T:=kZ.kept V (λe=>by have:=Option.some.inj e;omega) λe=>by have:=Option.some.inj e;omega
   go_roundw;case rel=>
    exact⟨_,aak,_,T,bL,Ba.mono bL,agree_step U r.isMap trivial eW,(S.out.trans<|(Fr.aF fc).mono<|by intro k _ i;simp at i;simp[i]).trans<|(Fr.aF V).mono<|by intro k _ i;simp at i;simp[i]⟩
   case measure=>rw[T.left_eq,Z.left_eq];exact bU
structure Sv(X:List Nat)(p:Nat)(w w':World):Prop where
 os:w'.os=w.os
 tape:w'.tape=w.tape
 output:w'.output=w.output
 size:w.heap.size<=w'.heap.size
 block:∀k,k<w.heap.size->¬rA p w k->k∉X->w'.heap[k]?=w.heap[k]?
 stay:∀k,k<w.heap.size->rA p w' k->rA p w k
theorem uC.x(h:uC p w w'):Sv X p w w':=⟨h.os,h.tape,h.output,h.size,λk a hn _=>h.block k a hn,h.stay⟩
theorem Sv.trans{a b c:World}(h:Sv X p a b)(k:Sv X p b c):Sv X p a c:=
 ⟨k.os.trans h.os,k.tape.trans h.tape,k.output.trans h.output,zzk h.size k.size,
  λi d hn x=>(k.block i (zzl d h.size) (λo=>hn<|h.stay i d o) x).trans<|h.block i d hn x,
  λi d o=>h.stay i d (k.stay i (zzl d h.size) o)⟩
theorem ax.dfx{i l n' u z g:Nat}{j:Value}{b:ah}(h:ax w B p D N v d n i l)(c:ax w' B p D N j b n' u z)(hf:Fr (g::dS p D N v) w w')(f:bS w.heap.size v j):Sv [g] p w w':=by
 refine⟨hf.os,hf.tape,hf.output,hf.size,λk a hn x=>hf.block k a λm=>?_,λk a o=>?_⟩
 .rcases zzj.1 m with e|m
  .exact x<|by simp[e]
  .exact hn<|(h.l8 k).2 m
 rw[h.l8];have:=(c.l8 k).1 o;obtain e|this:=zzj.1 this
 .simp[e]
 obtain e|this:=zzj.1 this
 .simp[e]
 obtain e|this:=zzj.1 this
 .simp[e]
 .simp at this;obtain e|e:=f k this
  .simp[e]
  .omega
theorem Sv.Su(h:Sv X p w w')(x:∀k∈X,w.heap.size<=k):uC p w w':=
 ⟨h.os,h.tape,h.output,h.size,λk a hn=>h.block k a hn λm=>by have:=x k m;omega,h.stay⟩
theorem ax.acJ{a b:Nat}(h:ax w B p D N v d n a b)(hf:Fr [] w w'):uC p w w':=
 h.Su (h.new hf) hf bR (bS.refl _ _)
def dm:ByteArray:=⟨#[109,97,114,107,46,110,101,119]⟩
def ie:ByteArray:=⟨#[109,97,114,107]⟩
theorem JM:(dm.toList==ie.toList)=false/\dm≠ie:=by
 refine⟨by rw[ByteArray.toList_eq,ByteArray.toList_eq];decide,λe=>?_⟩;have:=congrArg (λx:ByteArray=>x.data.size) e;exact absurd this bM
def Eh(B p D N n:Nat)(X:List Nat)(r:ah × Nat)(w:World)(e:Ending)(w':World):Prop :=
 e=.returned (cf r.2)/\(∃v a b,ax w' B p D N v r.1 n a b)/\Sv X p w w'
theorem K8(B p D N n a i f b g c base:Nat)(v:Value)(d:ah)(l:List Nat)(w:World)(h:ax w B p D N v d n a i)(hn:n<67108864)(U:w.heap[f]?=some (.cells #[dX p] 167))(Q:w.heap[b]?=some (.cells #[.slice (some ⟨g,0,none⟩) l.length c] 88))
  (r:w.ownsRow base 5 1 (.slice (some ⟨g,0,none⟩) l.length c) l.length<|bs l) (j:l.length<=4096) :
  Calls prog 179 #[.pointer<|some ⟨f,0,none⟩,.pointer<|some ⟨b,0,none⟩] w (Eh B p D N (n+1) [g] (d.tell ⟨1,dm,ByteArray.empty,str l⟩) w):=by
 have x:=ae U 0;have y:=ae Q 0;simp at x y;have I:=af h;have R:=af r;have m:=Wm;clear h r U Q;go_enter func179,ntmps179;go_wp2_with fail;apply(KW B p D N n a i g c base v d dm l w I.out hn bM R.out j).mono;rintro e k ⟨rfl,⟨j9,lu,j_,lZ⟩,bh⟩;have H:Hid (Eh B p D N (n+1) [g] (d.tell ⟨1,dm,yA,str l⟩) w (.returned<|cf (d.tell ⟨1,dm,yA,str l⟩).2) k):=⟨rfl,⟨j9,a,lu,j_⟩,I.out.dfx j_ bh lZ⟩;clear j_ lZ bh;go_wp2;go_ret;exact H.out
theorem K9(B p D N n a c b:Nat)(v:Value)(d:ah)(w:World)(h:ax w B p D N v d n a c)(hn:n<67108864)(U:w.heap[b]?=some (.cells #[dX p] 167)):
  Calls prog 180 #[.pointer<|some ⟨b,0,none⟩] w (mS B p D N (n+1) (d.tell ⟨4,dm,ie,ByteArray.empty⟩) w):=by
 have x:=ae U 0;simp at x;have I:=af h;have m:=Si;clear h U;go_enter func180,ntmps180;go_wp2_with fail;apply(GH B p D N n a c v d dm ie w I.out hn bM bM JM).mono;rintro e g ⟨rfl,⟨j9,lu,j_,lZ⟩,bh⟩;have H:Hid (mS B p D N (n+1) (d.tell ⟨4,dm,ie,yA⟩) w (.returned<|cf (d.tell ⟨4,dm,ie,yA⟩).2) g):=⟨rfl,⟨j9,a,lu,j_⟩,I.out.Su j_ bh (λq f _=>f) lZ⟩;clear j_ lZ bh;go_wp2;go_ret;exact H.out
def ah.cL(d:ah)(first:Nat):ah × Nat :=
 let t1:=d.tell ⟨1,dm,ByteArray.empty,str (bF first 0 [])⟩
 if t1.2=0 then
  let t2:=t1.1.sync
  if t2.2=0 then
   let t3:=t2.1.tell ⟨4,dm,ie,ByteArray.empty⟩
   if t3.2=0 then t3.1.sync else t3
  else t2
 else t1
theorem Sw(B p D N n Y Z b x g y base S first:Nat)(pv:Value)(d:ah)(w:World)(h:ax w B p D N pv d n Y Z)(hn:n+2<=67108864)
  (G:w.heap[S]?=some (.cells #[.func (.func 179) #[] #[.pointer (some ⟨b,0,none⟩),.pointer (some ⟨x,0,none⟩)],.func (.method "Sync") #[dX p] #[],.func (.func 180) #[] #[.pointer (some ⟨b,0,none⟩)],.func (.method "Sync") #[dX p] #[]] 123))
  (U:w.heap[b]?=some (.cells #[dX p] 167)) (nQ:w.heap[x]?=some (.cells #[.slice (some ⟨g,0,none⟩) (bF first 0 []).length y] 88))
  (z:w.ownsRow base 5 1 (.slice (some ⟨g,0,none⟩) (bF first 0 []).length y) (bF first 0 []).length<|bs<|bF first 0 []) (hl:(bF first 0 []).length<=4096) :
  Calls prog 120 #[.slice (some ⟨S,0,none⟩) 4 4] w (Eh B p D N (n+2) [g] (d.cL first) w):=by
 have z0:=ae G 0;simp at z0;have I:=af h;have a8:=JB;have⟨cg,J⟩:=aq z rfl;have a1:S≠g:=λe=>by rw[e,J]at G;cases G
 have a6:b≠g:=λe=>by rw[e,J]at U;cases U
 go_enter func120,ntmps120;go_wp2;apply wp_loop_rounds 5;rw[rounds_succ];go_wp2_with fail;apply(K8 B p D N n Y Z b x g y base pv d _ w I.out bL U nQ z hl).mono;have⟨a,l⟩:∃a,a=d.tell ⟨1,dm,yA,str<|bF first 0 []⟩:=⟨_,rfl⟩;have j:=af l.symm;rw[<-l];clear l;rintro e w1 ⟨rfl,⟨j9,lC,lu,j_⟩,eE⟩;have A:=(eE.block S (zza.1 G).1 (I.out.iF G bM bM)<|by simp;exact a1).trans G;have T:=(eE.block b (zza.1 U).1 (I.out.iF U bM bM)<|by simp;exact a6).trans U;have y1:=ae A 1;simp at y1;have W:=af A;have u:=af T;have H:=af j_;have R:=af eE;clear h G U nQ z z0 A T j_ eE J;by_cases X:a.2=0
 .rw[X,bK];go_wp2;rw[rounds_succ];go_wp2_with fail;apply(qa B p D N (n+1) lC lu j9 a.1 w1 H.out).mono;have⟨c,C⟩:=gb a.1.sync;have r:=af C.symm;rw[<-C];clear C;rintro e w2 ⟨rfl,⟨zE,AX,zD,xS⟩,aQ⟩;have k:=H.out.Su zD aQ (λq i _=>by simp at i;obtain e|e:=i<;>simp[e]) xS;have L:=(k.block S (zza.1 W.out).1<|H.out.iF W.out bM bM).trans W.out;have V:=(k.block b (zza.1 u.out).1<|H.out.iF u.out bM bM).trans u.out;have y2:=ae L 2;simp at y2;have v:=af L;have a7:=af V;have m:=af zD;have P:=af<|R.out.trans k.x;clear L V zD k aQ xS y1;by_cases f:c.2=0
  .rw[f,bK];go_wp2;rw[rounds_succ];go_wp2_with fail;apply(K9 B p D N (n+1) AX lu b zE c.1 w2 m.out bL a7.out).mono;have⟨t,s⟩:∃t,t=c.1.tell ⟨4,dm,ie,yA⟩:=⟨_,rfl⟩;have M:=af s.symm;rw[<-s];clear s;rintro e w3 ⟨rfl,⟨UR,US,Sx,hd3⟩,pN⟩;have sA:=(pN.block S (zza.1 v.out).1<|m.out.iF v.out bM bM).trans v.out;have y3:=ae sA 3;simp at y3;have o:=af hd3;have K:=af<|P.out.trans pN.x;clear sA hd3 pN y2;by_cases Q:t.2=0
   .rw[Q,bK];go_wp2;rw[rounds_succ];go_wp2_with fail;apply(qa B p D N (n+2) US Sx UR t.1 w3 o.out).mono;have E:Hid (d.cL first=t.1.sync):=by show _=_;unfold ah.cL;simp only;rw[j.out,if_pos X,r.out,if_pos f,M.out,if_pos Q]
    rintro e w4 ⟨rfl,⟨DC,nD4,uY,Sy⟩,fo⟩;have F:Hid (Eh B p D N (n+2) [g] (d.cL first) w (.returned<|cf t.1.sync.2) w4):=by
     show Eh _ _ _ _ _ _ _ _ _ _;rw[E.out];exact⟨rfl,⟨DC,nD4,Sx,uY⟩,K.out.trans (o.out.Su uY fo (λq i _=>by simp at i;obtain e|e:=i<;>simp[e]) Sy).x⟩
    clear uY Sy fo y3;by_cases O:t.1.sync.2=0
    .rw[O,bK]at F ⊢;go_wp2;rw[rounds_succ];go_wp2;go_ret;exact F.out
    .rw[aG O]at F ⊢;go_wp2;go_ret;exact F.out
   .have E:Hid (d.cL first=t):=by show _=_;unfold ah.cL;simp only;rw[j.out,if_pos X,r.out,if_pos f,M.out,if_neg Q]
    rw[aG Q];go_wp2;go_ret;unfold Eh;rw[E.out];exact⟨by rw[aG Q];rfl,⟨UR,US,Sx,o.out⟩,K.out⟩
  .have E:Hid (d.cL first=c):=by show _=_;unfold ah.cL;simp only;rw[j.out,if_pos X,r.out,if_neg f]
   rw[aG f];go_wp2;go_ret;unfold Eh;rw[E.out];exact⟨by rw[aG f];rfl,⟨zE,AX,lu,m.out.lx bL hn⟩,P.out⟩
 .have e:d.cL first=a:=by unfold ah.cL;simp only;rw[j.out,if_neg X]
  have E:=af e;clear e;rw[aG X];go_wp2;go_ret;unfold Eh;rw[E.out];exact⟨by rw[aG X];rfl,⟨j9,lC,lu,H.out.lx bL hn⟩,R.out⟩
section
open Go.Shelf
abbrev elG(g:aK):List Value:=[.int .u8 (g.way:Int),.string g.val]
def Ea(l:List aK):List Value:=l.flatMap elG
theorem K2(l:List aK)(g:aK):Ea (l++[g])=Ea l++elG g:=by simp[Ea]
theorem JI:∀(l:List aK) (k:Nat) (g:aK),l[k]?=some g->(Ea l)[k*2]?=some (.int .u8 (g.way:Int))/\(Ea l)[k*2+1]?=some (.string g.val)
 |[],k,g,h=>by simp at h
 |x::l,0,g,h=>by simp at h;subst h;simp[Ea]
 |x::l,k+1,g,h=>by
  have:=JI l k g (by simpa using h);simp only[Ea,List.flatMap_cons]at this ⊢;rw[show(k+1)*2=k*2+1+1 by omega]
  simpa using this
theorem WB:(Tryz.prog.info? 134).map (λi=>(i.zero,i.size,i.bytes))=some (some<|.agg #[.int .u8 0,.string ByteArray.empty],2,24):=dJ
def dG(L:List (ByteArray × aK)):List (ByteArray × aK):=(fK L).map λk=>(k,(ak L k).getD ⟨0,ByteArray.empty⟩)
theorem aag(p:Option Addr)(n c:Nat)(w:World):(Builtin.len_ #[35] 3 #[.slice p n c]).run prog w=.ok (.int .i64 n) w:=by simp[Builtin.len_,run_underlying underlying35,goInt]
theorem GV(n:Nat)(hn:6<=n)(l D b m:Nat)(L:List<|ByteArray×aK)(hm:m<=67108864)(W:World)(Kp:World->World->Prop)(P:Nat->World->Prop)
  (gl:∀k A,W.heap.size<=k->Below W.heap.size W A->P k A)
  (jo:∀k A B c t,(t=9\/t=134)->Kp A B->A.heap[k]?=some (.cells c t (0,0))->P k A->B.heap[k]?=A.heap[k]?/\P k B)
  (J Jx:List (ByteArray×aK)->World->Prop)
  (hJ:∀s A B,J s A->A.grownBy B none->J s B)
  (hY:∀o x W1,J o W1->o.length<L.length->o++[x]<+:dG L->YieldAt Fence.wide (n-1) prog l #[.string x.1,.agg #[.int .u8 (x.2.way:Int),.string x.2.val]] W1 λe E=>
   (e=.returned (.bool true)/\J (o++[x]) E/\Kp W1 E)\/(e=.returned (.bool false)/\Jx (o++[x]) E))
  (lR:W.cell? ⟨D,0,none⟩=some (.map<|some b)) (X:aO KS EG W b m L) (h0:J [] W) :
  CallsIn Fence.wide n prog 272 #[.func (.yield l) #[] #[],.pointer<|some ⟨D,0,none⟩] W λe E=>(∃v,e=.returned v) /\
   ((∃ys,ys=dG L/\J ys E)\/(∃o,o<+:dG L/\Jx o E)):=by
 have tM:=zzF W (gz D) lR;have⟨cK,cS⟩:=D_ (n-1) bL b m L W X hm;have⟨i0,hi,aa,ab,ad⟩:=info_parts WB;have ao:Fence.wide.fn 273:=trivial;have av:Fence.wide.fn 208:=trivial;have Ox:Fence.wide.fn 272:=trivial;have a8:Fence.wide.round=none:=rfl;have h1:1<=n:=bL
 have Oy:=aag;have MY:=X.len;have HL:=af X;have HB:=af<|zzb tM lR;have⟨a,Eb⟩:=gb L.length;have M:=af Eb;rw[<-Eb]at cS MY;have WC:a<=67108864:=bL
 clear X Eb;refine callsIn_of_wp func272 rfl Ox ?_ a8;simp only[ntmps272,mB,zzr,mH,Nat.reduceAdd,Nat.reduceSub,mK,mL,nb,nU,n5,qC];gi_wp2_with (first
  |(gi_at_call 273;apply cK.mono;rintro e w0 ⟨rfl,rfl⟩)
  |(gi_at_call 208;apply cS.mono;rintro e w ⟨v,rfl,I,dM,cG⟩;obtain⟨Z,U,rfl⟩:=hZ I;have H:Hid (w.ownsRow W.heap.size 9 1 (.slice Z a U) a ((fK L).map Value.string)/\(Value.slice Z a U=.slice none 0 0↔a=0)):=⟨I,dM⟩;clear I dM))
 clear cK cS;have G:=af cG;have Ry:Hid (∀A,Below W.heap.size W A->J [] A):=λA N=>hJ [] W A h0 ⟨N.os,N.tape,N.output,N.size,λk z _=>N.block k z⟩
 clear cG lR;by_cases td:a=0
 .subst td;obtain⟨rfl,rfl⟩:Z=none/\U=0:=by simpa using H.2.2 rfl
  clear H;have HE:Hid (dG L=[]):=by show _=_;have:=M.out;rw[List.length_eq_zero_iff.1 this.symm];simp[dG,fK]
  gi_loopw [14] (λi wr=>i=.int .i64 0/\wr=w) (λ_ _=>0);case atStart=>exact⟨rfl,rfl⟩
  case round=>
   obtain⟨rfl,rfl⟩:=hrel;gi_wp2;gi_loopw [27] (λi WD=>i=.int .i64 0/\WD=wr) (λ_ _=>0);case atStart=>exact⟨rfl,rfl⟩
   case round=>
    obtain⟨rfl,rfl⟩:=hrel;gi_wp2;go_end0;exact⟨⟨_,rfl⟩,.inl ⟨_,rfl,by rw[HE.out];exact Ry.out _ G.out⟩⟩
 obtain⟨g,rfl⟩:∃g,Z=some ⟨g,0,none⟩:=by have⟨g,V,e⟩:=jb H.1 bL;exact⟨g,by simp at e;exact e.1⟩
 have I:=H.1;have T:Hid (∃r,w.heap[g]?=some (.cells r 9 (0,0))/\W.heap.size<=g/\∀(k:Nat) (x:ByteArray),(fK L)[k]?=some x->r[k]?=some (Value.string x)):=by
  rcases I.2 with⟨_,h3⟩|⟨g',V,r,e,hb,q,_,_,a1,Y⟩
  .omega
  .obtain⟨e1,e2⟩:g=g'/\U=V:=by simpa using e
   subst e1;refine⟨r,q,hb,λk x z=>?_⟩;have xE:k<a:=by have:=(zzd.1 z).1;rw[dR]at this;have:=M.out;omega
   have:(r.toList.take<|a*1)[k]?=some (.string x):=by rw[Y,zzy,z];rfl
   rw[List.getElem?_take_of_lt bL]at this;simpa using this
 clear I H;have⟨f,GX⟩:∃f:List aK,f=(fK L).map λk=>(ak L k).getD ⟨0,yA⟩:=⟨_,rfl⟩
 have HV:=af GX;clear GX;have HG:Hid (g<w.heap.size):=by have⟨r,q,_⟩:=T.out;exact(zza.1 q).1
 gi_loopw [14,4] (λi v wr=>∃k:Nat,k<=a/\i=.int .i64 k/\Hid (wr.ownsRow w.heap.size 134 2 v k (Ea<|f.take k)/\Below w.heap.size w wr))
  (λi _ _=>a-(intOf i).toNat)
 case atStart=>exact⟨0,zzs _,rfl,zzu _ _ _ _,zzD _ _⟩
 case round=>
  obtain⟨k,z,rfl,R⟩:=hrel;by_cases bU:k<a
  .obtain⟨x,hx⟩:∃x,(fK L)[k]?=some x:=⟨_,zzg<|by rw[dR];have:=M.out;omega⟩;have⟨y,C⟩:∃y,y=(ak L x).getD ⟨0,yA⟩:=⟨_,rfl⟩;have d:=G.out.trans<|R.2.mono G.out.size
   have ck:wr.cell? (hO g k)=some (.string x):=by
    have⟨r,q,_,hc⟩:=T.out;have:=(R.2.block g HG.out).trans q;rw[ay this];exact hc k x hx
   have cB:=(d.cell HB.1).trans HB.2;have Sr:x.size<=maxLen:=by
    have⟨v',a'⟩:=qX.1<|zzh hx;have⟨_,_,_,_,bB⟩:=HL.out;exact(bB _ a').1
   have my:=(HL.out.fr (S:=[]) ⟨d.os,d.tape,d.output,d.size,λk z _=>d.block k z⟩ (by simp)).look underlying262 (qe wr) trivial Sr;rw[<-C]at my;have HY:=af<|zzb C hx;clear C hx
   change (Instr.lookup _ _ (.string x) false).run _ _=.ok (.agg #[.int .u8 (y.way:Int),.string y.val]) _ at my;have a1:=R.2.size;have a7:k<((fK L).map λk=>(ak L k).getD ⟨0,yA⟩).length:=by rw[zzn,dR];have:=M.out;omega
   have HT:Hid (f.take (k+1)=f.take k++[y]):=by
    show _=_;rw[HV.out,List.take_add_one,zzy,HY.2,HY.1];rfl
   clear a7;gi_wp2_with (gi_at_builtin;apply wpListIn_append_own _ rfl _ _ 393 rfl w.heap.size 134 i0 _ 2 24 underlying393 hi aa ab ad rfl bM _ k _ rfl (R.1.alloc _) (gz wr.heap.size) 1 1 (elG y) rfl rfl (dU _ #[.int .u8 (y.way:Int),.string y.val] _) (by intro u hu;simp[elG]at hu;obtain rfl|rfl:=hu<;>rfl) eA bL cE;intro v' w2 bw bP _);go_roundw;case rel=>
    refine⟨k+1,bL,bR,by rw[HT.out,K2];exact bw,?_⟩;exact((R.2.alloc a1 _).grown bP cE λj O=>(R.1.lt j O).1)
   case measure=>simp[intOf];omega
  .obtain rfl:k=a:=bL;obtain⟨h,GY,rfl⟩:=jb R.1 bL;have Oz:Hid (∃F,wr.heap[h]?=some (.cells F 134 (0,0))/\W.heap.size<=h/\∀(j:Nat) (y:aK),f[j]?=some y->F[j*2]?=some (Value.int .u8 (y.way:Int))/\F[j*2+1]?=some (Value.string y.val)):=by
    rcases R.1.2 with⟨_,h3⟩|⟨g',V,r,e,hb,q,_,_,a1,Y⟩
    .omega
    .obtain⟨e1,e2⟩:h=g'/\GY=V:=by simpa using e
     subst e1;have UM:f.length=k:=by rw[HV.out,zzn,dR,M.out]
     refine⟨r,q,zzk G.out.size hb,λj y O=>?_⟩;have K3:j<k:=by have:=(zzd.1 O).1;omega
     have e3:f.take k=f:=zzt bL;rw[e3]at Y;have eW:=JI f j y O;rw[<-Y]at eW;rw[List.getElem?_take_of_lt bL,List.getElem?_take_of_lt bL]at eW;simpa using eW
   have⟨r,JJ,Rz,a6⟩:=T.out;have⟨F,xX,GZ,xY⟩:=Oz.out;have g_:=(R.2.block g HG.out).trans JJ;have d:=G.out.trans<|R.2.mono G.out.size;have HC:=af<|zzb a6 xY;have HS:=af<|zzb (Ry.out _ d)<|zzb g_<|zzb (gl _ _ Rz d)<|zzb xX<|gl _ _ GZ d;clear T Oz JJ a6 xX xY g_ d gl
   gi_wp2;gi_loopw [27] (λi wr=>∃j:Nat,j<=k/\i=.int .i64 j/\Hid (J ((dG L).take j) wr/\wr.heap[g]?=some (.cells r 9 (0,0))/\P g wr/\wr.heap[h]?=some (.cells F 134 (0,0))/\P h wr))
    (λi _=>k-(intOf i).toNat)
   case atStart=>exact⟨0,zzs _,rfl,by rw[List.take_zero];exact HS.out⟩
   case round=>
    obtain⟨j,O,rfl,Q⟩:=hrel;by_cases qf:j<k
    .obtain⟨x,hx⟩:∃x,(fK L)[j]?=some x:=⟨_,zzg<|by rw[dR];have:=M.out;omega⟩;have⟨y,C⟩:∃y,y=(ak L x).getD ⟨0,yA⟩:=⟨_,rfl⟩;have wK:f[j]?=some y:=by rw[HV.out,zzy,hx,C];rfl
     have MZ:Hid ((dG L).take (j+1)=(dG L).take j++[(x,y)]):=by
      show _=_;rw[List.take_add_one];unfold dG;rw[zzy,hx,C];rfl
     have cx:wr.cell? (hO g j)=some (.string x):=by rw[ay Q.2.1];exact HC.1 j x hx
     have al:wr.cell? (hO h (j*2))=some (.int .u8 (y.way:Int)):=by rw[ay Q.2.2.2.1];exact(HC.2 j y wK).1
     have an:wr.cell? (hO h (j*2+1))=some (.string y.val):=by rw[ay Q.2.2.2.1];exact(HC.2 j y wK).2
     have⟨fn,tmps,assign,body,NP,xj⟩:=hY _ (x,y) wr Q.1 (by rw[zzm,<-M.out];omega) (by rw[<-MZ.out];exact List.take_prefix _ _);clear hx C wK;gi_wp2;apply xj.mono;rintro e K (⟨rfl,rP,kW⟩|⟨rfl,uX⟩)
     .have p1:=jo _ _ _ _ _ (.inl rfl) kW Q.2.1 Q.2.2.1;have p2:=jo _ _ _ _ _ (.inr rfl) kW Q.2.2.2.1 Q.2.2.2.2;have HN:Hid (J ((dG L).take<|j+1) K/\K.heap[g]?=some (.cells r 9 (0,0))/\P g K/\K.heap[h]?=some (.cells F 134 (0,0))/\P h K):=⟨by rw[MZ.out];exact rP,p1.1.trans Q.2.1,p1.2,p2.1.trans Q.2.2.2.1,p2.2⟩;clear p1 p2 rP kW
      gi_wp2;go_roundw;case rel=>exact⟨j+1,bL,bR,HN.out⟩
      case measure=>simp[intOf];omega
     .gi_wp2;apply bodyPost_ret (results_none rfl _ _ _) rfl;exact⟨⟨_,rfl⟩,.inr ⟨_,by rw[<-MZ.out];exact List.take_prefix _ _,uX⟩⟩
    .obtain rfl:j=k:=bL;gi_wp2;go_end0;refine⟨⟨_,rfl⟩,.inl ⟨_,?_,Q.1⟩⟩;rw[zzt];unfold dG;rw[zzn,dR,M.out];exact zzc _
theorem z8(n:Nat)(hn:6<=n)(f b m:Nat)(L:List (ByteArray × aK))(Q:ByteArray × aK->Prop)(M:∀x∈dG L,Q x)(T:m<=67108864)(w:World)(tM:f<w.heap.size)(Z:w.cell? ⟨f,0,none⟩=some (.map (some b)))(I:aO KS EG w b m L)
  (K:World->World->Prop) (P:Nat->World->Prop)
  (F:∀W k A,Below w.heap.size w W->W.heap.size<=k->Below W.heap.size W A->P k A)
  (X:∀k A B c t,(t=9\/t=134)->K A B->A.heap[k]?=some (.cells c t (0,0))->P k A->B.heap[k]?=A.heap[k]?/\P k B) :
  SeqStopsK Fence.wide n prog 272 #[.pointer (some ⟨f,0,none⟩)] (λy:{ x:ByteArray × aK // Q x }=>#[.string y.1.1,.agg #[.int .u8 (y.1.2.way:Int),.string y.1.2.val]]) K (λu=>u.map (·.1)=dG L) (λ_=>True) L.length w:=λl J v W d H _ Y G=>by
 have h:=GV n hn l f b m L T W K P (λk A=>F W k A d) X (λi W=>∃g:List { x:ByteArray × aK // Q x },g.map (·.1)=i/\J g W) (λi W=>∃g:List { x:ByteArray × aK // Q x },g.map (·.1)=i/\v g W)
  (λs A B hs E=>by obtain⟨a,e,j⟩:=hs;exact⟨a,e,H a A B none j E (λr e=>by cases e)⟩)
  (λi x C j U N=>by
   obtain⟨a,e,j⟩:=j;have o:Q x:=M x (N.subset bR);obtain⟨D,tmps,assign,body,V,R⟩:=Y a ⟨x,o⟩ C j (by rw[<-e,zzn] at U;exact U);refine⟨D,tmps,assign,body,V,R.mono ?_⟩;rintro q z (⟨r1,r2,r3⟩|⟨r1,r2⟩)
   .exact .inl ⟨r1,⟨a++[⟨x,o⟩],by simp[e],r2⟩,r3⟩
   .exact .inr ⟨r1,⟨a++[⟨x,o⟩],by simp[e],r2⟩⟩)
  ((d.cell (p:=⟨f,0,none⟩) tM).trans Z) (I.fr (S:=[]) ⟨d.os,d.tape,d.output,d.size,λk O _=>d.block k O⟩ bR) ⟨[],rfl,G⟩
 refine h.mono ?_;rintro e z ⟨he,⟨u,rfl,a,q,j⟩|⟨i,_,a,_,j⟩⟩
 .exact⟨he,.inl ⟨a,q,j⟩⟩
 .exact⟨he,.inr ⟨a,trivial,j⟩⟩
theorem G0(n:Nat)(b:Nat)(w:World):
  CallsIn Fence.wide n prog 236 #[.map<|some b] w λe w'=>e=.returned (.func (.func 272) #[] #[.pointer<|some ⟨w.heap.size,0,none⟩])/\w'=w.alloc (.cells #[.map<|some b] 262):=by
 refine callsIn_of_wp func236 rfl trivial ?_ rfl;simp only[ntmps236,mB,zzr,mH,Nat.reduceAdd,Nat.reduceSub,mK,mL,nb,nU,n5,qC];gi_wp2;go_ret;exact⟨rfl,rfl⟩
end
end Go.Proofs.YtcalalndmcemiaaGreatDoor
