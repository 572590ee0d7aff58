import Derived.Test.YtdcafjmdfpjcbaaGreatDoorC25
set_option maxHeartbeats 4000000
set_option maxRecDepth 100000
namespace Go.Proofs.YtdcafjmdfpjcbaaGreatDoor
open Go.RowKit Go.Maps Tryz Sc
variable{l rest:List Nat}{E n p:Nat}{w w':World}
theorem oA{L:List (ByteArray×aQ)}(b:aV L){x:ByteArray×aQ}(a:x∈b9 L):x∈L:=by
 unfold b9 at a;obtain⟨k,c,rfl⟩:=zzq.1 a;have⟨v,h⟩:=kL.1 c;rw[bS b h];exact h
theorem Gg{s:List ((Nat×ByteArray)×aQ)}(h:aV s)(t:Nat):∃L:List<|ByteArray×aQ,aV L/\∀k,aj L k=aj s (t,k):=by
 refine⟨(s.filter λp=>decide<|p.1.1=t).map λp=>(p.1.2,p.2),?_,λk=>?_⟩
 .unfold aV;rw[List.pairwise_map];apply(List.Pairwise.filter _ h).imp_of_mem;intro a b g i f e;have c:=(zzp.1 g).2;have d:=(zzp.1 i).2;simp at c d;exact f<|Prod.ext (c.trans d.symm) e
 .unfold aj;rw[List.find?_map,List.find?_filter,Option.map_map];have hp:∀(p q:(Nat×ByteArray)×aQ->Bool),(∀a,p a=q a)->s.find? p=s.find? q:=λp q e=>by rw[funext e]
  rw[hp _ (λp=>decide<|p.1=(t,k)) λa=>by have⟨⟨j,l⟩,m⟩:=a;simp[Prod.ext_iff]];rfl
def ag.Small(s:ag):Prop:=∀p∈s.holds,gz (p.1.2,p.2)
def ag.ni(s:ag)(l:aq)(d:ah)(t:Nat)(L:List (ByteArray × aQ)):ag × aq × ah × Nat × Nat :=
 if zS L=true then
  if (l.keep d 1 (str (be 8 t++bW (b9 L)))).2.2=0 then ({ s with af:=dm s.af t ⟨3,0,0⟩ },(l.keep d 1 (str (be 8 t++bW (b9 L)))).1,(l.keep d 1 (str (be 8 t++bW (b9 L)))).2.1,2,0)
  else (s,(l.keep d 1 (str (be 8 t++bW (b9 L)))).1,(l.keep d 1 (str (be 8 t++bW (b9 L)))).2.1,0,(l.keep d 1 (str (be 8 t++bW (b9 L)))).2.2)
 else (s.forget t,l,d,4,0)
section
variable(B E I J O U m c p h bN n t:Nat)(s:ag)(l:aq)(d:ah)(w:World)
theorem QX(M:SL w B E I J O U m c p h bN n s l d)(K:t<2^64)(hn:n+3<1000000000)(hB:2<=B)(uG:l.filled<600->l.segs≠[])(dF:dw w)(hm:m<1000000000)(hc:s.count t<=16)(hv:s.Small):
  Calls prog 139 #[rM E,.int .u64 (t:Int)] w λe w'=>∃L,aV L/\(∀k,aj L k=aj s.holds (t,k))/\e=.returned (.tuple #[.int .i64 ((s.ni l d t L).2.2.2.1:Int),cj (s.ni l d t L).2.2.2.2])/\SL w' B E I J O U (m+1) c p h bN (n+3) (s.ni l d t L).1 (s.ni l d t L).2.1 (s.ni l d t L).2.2.1/\lH E J O U c p w w':=by
 have U0:=nG E I J O U m t s w M.sh K mE;have q:=ae<|zzb M<|zzb dF<|zzb hc<|zzb hv uG;have uK:=M.sh.oT.1;clear M hc hv uG dF
 go_enter func139,ntmps139;go_wp2_with fail;apply U0.mono;clear U0;rintro e j ⟨b,L,rfl,hb,hL,ic,F⟩;have a1:=B2 b m L j hL;have i:=ae<|zzb hL<|zzb ic F;have z:Hid (aV L):=by have⟨_,_,_,u,_⟩:=hL;exact u
 have jW:=hL.lt;clear hL ic F;go_wp2_with fail;apply a1.mono;clear a1;rintro e w2 ⟨rfl,cA⟩;have nT:=ae<|i.2.2.trans cA;have a6:Hid (bB KS EG w2 b m L):=i.1.fr cA sE;have⟨o,G⟩:=q.1.new nT.out;have f:=ae<|zzb o G;clear cA o G
 cases C:zS L with
 |false=>
  have P:Hid (s.ni l d t L=(s.forget t,l,d,4,0)):=by show _=_;unfold ag.ni;rw[if_neg<|by rw[C];decide]
  clear C;go_wp2_with fail;apply(kO E I J O U m t s w2 f.1.sh K).mono;rintro e A ⟨rfl,gA,D⟩;have⟨u,yl⟩:=f.1.gR gA D sE;have g:=ae<|zzb u<|f.2.trans yl;clear gA D u yl;go_wp2;go_ret2;have⟨W,N,Q,V,nN,S⟩:=g.1.lg;refine⟨L,z.out,i.2.1,?_,?_,g.2⟩
  .rw[P.out];rfl
  .rw[P.out];exact⟨g.1.sh.mono oE,⟨W,N,Q,V,nN,S.fK oE oE⟩,g.1.ap,g.1.CM⟩
 |true=>
  have YC:∀x∈b9 L,gz x:=λx hx=>by
   have y:=bS z.out<|oA z.out hx;rw[i.2.1]at y;exact q.2.2.2.1 _<|bJ y
  have hlen:L.length<=16:=by
   have Gh:aV s.holds:=by have⟨_,_,_,u,_⟩:=f.1.sh.holds;exact u
   rw[ag.jx Gh z.out i.2.1];exact q.2.2.1
  have TF:=vy t b m L oE w2.drew (a6.out.fr (lE w2).drew sE) K YC hlen;have⟨X,hX⟩:=xY <|str (be 8 t++bW (b9 L));rw[<-hX]at TF;have HK:Hid (∀j,Fr [] w2 j->Calls prog 141 #[.pointer<|some (dH I),.int .u8 1,.string X] j λe w2=>e=.returned (cj (l.keep d 1 X).2.2)/\SL w2 B E I J O U m c p h bN (n+3) s (l.keep d 1 X).1 (l.keep d 1 X).2.1/\lH E J O U c p w w2):=λj F=>by
   have⟨y,d_⟩:=f.1.new F;have⟨W,N,Q,V,nN,S⟩:=y.lg;have pT:dw j:=q.2.1.cF ((nT.out.trans F).block 1 (by have⟨_,_,_,_,_,o⟩:=q.1.lg;have:=o.bE.base.2.2.2;omega) sE);apply(FW B I c p h bN n V nN 1 W N Q l d X j y.ap.lW S oE hn hB q.2.2.2.2 pT).mono;rintro e w2 ⟨he,eN,iH⟩;have⟨o,G⟩:=y.log iH eN;exact⟨he,o,f.2.trans<|d_.trans G⟩
  have⟨R,hR⟩:=xY <|l.keep d 1 X;have P:Hid (s.ni l d t L=if R.2.2=0 then ({s with af:=dm s.af t ⟨3,0,0⟩},R.1,R.2.1,2,0)else (s,R.1,R.2.1,0,R.2.2)):=by show _=_;unfold ag.ni;rw[if_pos C,<-hX,<-hR]
  rw[<-hR]at HK;clear hR hX C YC hlen;have c0:=aa f.1.sh.blk 0;simp at c0;rw[iw f.1.CM]at c0;have a7:=f.1.sh.oT.1;go_wp2;go_region_held3 (λw'=>w'.cell? (dH E)=some (.pointer<|some (dH I)))
   (simp[*])
   (first
    |(go_at_call 192;apply TF.mono;rintro e A ⟨rfl,eV⟩;have D:Fr [] w2 A:=⟨eV.os,eV.tape,eV.output,eV.size,λk hk _=>eV.block k hk⟩;have p0:A.cell? (dH E)=some (.pointer<|some (dH I)):=(zze<|D.block E a7 sE).trans c0;have g:Hid (Fr [] w2 A):=D;clear eV D)
    |(go_at_call 141;apply(HK.out A g.out).mono;rintro e Z ⟨rfl,h4,wF⟩;have q0:Z.cell? (dH E)=some (rM I):=(aa h4.sh.blk 0).trans (by simp[iw h4.CM]);have H:Hid (SL Z B E I J O U m c p h bN (n+3) s R.1 R.2.1/\lH E J O U c p w Z):=⟨h4,wF⟩;clear h4 wF))
  by_cases r:R.2.2=0
  .rw[r,bQ];have Y:Hid (s.ni l d t L=({s with af:=dm s.af t ⟨3,0,0⟩},R.1,R.2.1,2,0)):=by show _=_;rw[P.out,if_pos r]
   have c2:=aa H.1.sh.blk 2;simp at c2;obtain⟨w5,Jp,Yu,wz⟩:=H.1.sh.af.tS underlying144 mE K (v:=(⟨3,0,0⟩:fX)) trivial
   change (Instr.mapUpdate _ _ (.int .u64 (t:Int))<|.agg #[.int .i64 3,.int .i64 0,.int .u64 0]).run _ _=_ at Jp;have T:=Fr.bK wz;have⟨h5,Pm⟩:=H.1.gR (H.1.sh.ld T Yu oE) T sE;have H5:=ae<|zzb h5<|H.2.trans Pm;clear r P Yu wz T h5 Pm;go_wp2;go_ret2;refine⟨L,z.out,i.2.1,?_,?_,H5.2⟩
   .rw[Y.out];rfl
   .rw[Y.out];exact H5.1
  .have Y:Hid (s.ni l d t L=(s,R.1,R.2.1,0,R.2.2)):=by show _=_;rw[P.out,if_neg r]
   rw[aG r];go_wp2;go_ret2;refine⟨L,z.out,i.2.1,?_,?_,H.2⟩
   .rw[Y.out,aG r];rfl
   .rw[Y.out];exact⟨H.1.sh.mono oE,H.1.lg,H.1.ap,H.1.CM⟩
def ag.aO(s:ag)(l:aq)(d:ah)(t:Nat)(L:List (ByteArray × aQ)):ag × aq × ah × Nat × Nat :=
 if t=0 then (s,l,d,0,7) else if (s.aM t).state=3 then (s,l,d,2,0) else if (s.aM t).state=1 then s.ni l d t L else (s.forget t,l,d,3,0)
theorem ym(b:SL w B E I J O U m c p h bN n s l d)(v:t<2^64)(hn:n+3<1000000000)(hB:2<=B)(G:l.filled<600->l.segs≠[])(F:dw w)(R:m<1000000000)(K:s.count t<=16)(x:s.Small):
  Calls prog 87 #[rM E,.int .u64 (t:Int)] w λe w'=>∃L,aV L/\(∀k,aj L k=aj s.holds (t,k))/\e=.returned (.tuple #[.int .i64 ((s.aO l d t L).2.2.2.1:Int),cj (s.aO l d t L).2.2.2.2])/\SL w' B E I J O U (m+1) c p h bN (n+3) (s.aO l d t L).1 (s.aO l d t L).2.1 (s.aO l d t L).2.2.1/\lH E J O U c p w w':=by
 have D:aV s.holds:=by have⟨_,_,_,a,_⟩:=b.sh.holds;exact a
 have⟨r,y,N⟩:∃L,aV L/\∀k,aj L k=aj s.holds (t,k):=Gg D t;have f:=ae<|zzb y N
 have Y:Hid (∀{w':World} {u:ag},SL w' B E I J O U m c p h bN n u l d->SL w' B E I J O U (m+1) c p h bN (n+3) u l d):=λ{w' u} j=>by
  have⟨Z,Q,V,X,nN,W⟩:=j.lg;exact⟨j.sh.mono oE,⟨Z,Q,V,X,nN,W.fK oE oE⟩,j.ap,j.CM⟩
 have o:=ae b;have S:=ae<|(b.new<|lE w).2;have M:=ke E I J O U m t s w b.sh v;have q:=QX B E I J O U m c p h bN n t s l d w b v hn hB G F R K x;have T:=kO E I J O U m t s w b.sh v;clear y N D b G F K x;by_cases g:t=0
 .have P:Hid (∀L,s.aO l d t L=(s,l,d,0,7)):=λL=>by unfold ag.aO;rw[if_pos g]
  subst g;clear M q T;go_enter func87,ntmps87;go_wp2;go_ret2;refine⟨r,f.1,f.2,?_,?_,S.out⟩
  .rw[P.out];show _=Ending.returned (.tuple #[.int .i64 0,cj 7]);rw[aG dN];rfl
  .rw[P.out];exact Y.out o.out
 have i0:¬(t:Int)=0:=oE;by_cases a:(s.aM t).state=3
 .have P:Hid (∀L,s.aO l d t L=(s,l,d,2,0)):=λL=>by unfold ag.aO;rw[if_neg g,if_pos a]
  rw[a]at M;clear q T a;go_enter func87,ntmps87;go_wp2_with fail;apply M.mono;clear M;rintro e A ⟨rfl,rfl⟩;go_wp2;go_ret2;refine⟨r,f.1,f.2,?_,?_,S.out⟩
  .rw[P.out];rfl
  .rw[P.out];exact Y.out o.out
 have i3:¬((s.aM t).state:Int)=3:=oE;by_cases i:(s.aM t).state=1
 .have P:Hid (∀L,s.aO l d t L=s.ni l d t L):=λL=>by unfold ag.aO;rw[if_neg g,if_neg a,if_pos i]
  rw[i]at M;clear T i a i3;go_enter func87,ntmps87;go_wp2_with fail;apply M.mono;clear M;rintro e A ⟨rfl,rfl⟩;go_wp2_with fail;apply q.mono;clear q;rintro e w2 ⟨L,a1,a2,rfl,a3,a4⟩;have H:=ae<|zzb a1<|zzb a2<|zzb a3 a4;clear a1 a2 a3 a4;go_wp2;go_ret2;refine⟨L,H.1,H.2.1,?_,?_,H.2.2.2⟩
  .rw[P.out];rfl
  .rw[P.out];exact H.2.2.1
 .have i1:¬((s.aM t).state:Int)=1:=oE;have P:Hid (∀L,s.aO l d t L=(s.forget t,l,d,3,0)):=λL=>by unfold ag.aO;rw[if_neg g,if_neg a,if_neg i]
  clear q i a;go_enter func87,ntmps87;go_wp2_with fail;apply M.mono;clear M;rintro e A ⟨rfl,rfl⟩;go_wp2_with fail;apply T.mono;clear T;rintro e w2 ⟨rfl,cC,cA⟩;have⟨z,C⟩:=o.out.gR cC cA sE;have H:=ae<|zzb z C;clear cC cA z C;go_wp2;go_ret2;refine⟨r,f.1,f.2,?_,?_,H.2⟩
  .rw[P.out];rfl
  .rw[P.out];exact Y.out H.1
end
theorem NL(l:List Nat):(str l).data=(l.map λx=>UInt8.ofNat x).toArray:=by
 have a:∀(l:List Nat) (r:ByteArray),((l.map λx:Nat=>(x:Int)).foldl (λr n=>r.push<|UInt8.ofNat n.toNat) r).data=r.data++(l.map λx=>UInt8.ofNat x).toArray:=by
  intro l;induction l with
  |nil=>grind
  |cons x l ih=>simp_all
 unfold str;rw[a];simp
theorem f_(h:k9 l):bytesOf (str l)=l:=by
 unfold bytesOf;rw[NL];simp only[List.map_map];have:∀(m:List Nat),k9 m->m.map (UInt8.toNat∘λx=>UInt8.ofNat x)=m:=by
  intro m;induction m with
  |nil=>grind
  |cons x m ih=>
   intro b;have c:x<256:=b x sE;rw[List.map_cons,ih λy a=>b y<|by simp[a]];congr 1;simp;omega
 exact this l h
abbrev Jz(b f n p:Nat):Obj:=.cells #[.slice (some (d8 b f)) n p,.bool false] 322
def yn(w:World)(f:Nat)(rest:List Nat):Prop :=
 ∃b o p,w.heap[f]?=some (Jz b o rest.length p)/\cZ w b o rest/\b<w.heap.size/\rest.length<=p/\p<=maxLen/\b≠f/\k9 rest
theorem yn.lt(h:yn w p rest):p<w.heap.size:=by have⟨_,_,_,a,_⟩:=h;exact(zza.1 a).1
theorem yn.keep(h:yn w p rest)(d:∀k,n<=k->k<w.heap.size->w'.heap[k]?=w.heap[k]?)(s:w.heap.size<=w'.heap.size)(l:∀b f c,w.heap[p]?=some (Jz b f rest.length c)->n<=b)(hn:n<=p):yn w' p rest:=by
 have o:=h.lt;have⟨b,f,c,e,m,q,g⟩:=h;refine⟨b,f,c,(d p hn o).trans e,λi j=>?_,oE,g⟩;exact(zze (a:=⟨b,f+i,none⟩)<|d b (l b f c e) q).trans<|m i j
structure gu(n:Nat)(w:World)(fp:Nat)(rest:List Nat):Prop where
 fld:yn w fp rest
 low:n<=fp
 row:∀b off cap,w.heap[fp]?=some (Jz b off rest.length cap)->n<=b
 typ:∀b off cap,w.heap[fp]?=some (Jz b off rest.length cap)->∃c fr,w.heap[b]?=some (.cells c 5 fr)
theorem gu.keep(h:gu n w p rest)(f:∀k,n<=k->k<w.heap.size->w'.heap[k]?=w.heap[k]?)(s:w.heap.size<=w'.heap.size):gu n w' p rest:=by
 have y:=h.fld.lt;refine⟨h.fld.keep f s h.row h.low,h.low,λb o d a=>?_,λb o d a=>?_⟩
 .rw[f p h.low y]at a;exact h.row b o d a
 .rw[f p h.low y]at a;have⟨c,fr,e⟩:=h.typ b o d a;exact⟨c,fr,(f b (h.row b o d a) (zza.1 e).1).trans e⟩
theorem gu.fr{S:List Nat}(h:gu n w p rest)(f:Fr S w w')(a:∀k∈S,k<n):gu n w' p rest:=
 h.keep (λk b l=>f.block k l λm=>by have:=a k m;omega) f.size
theorem D_(l:List Nat)(d:k9 l)(s:l.length<=4096)(w:World):
  Calls prog 155 #[.string<|str l] w λe w'=>∃k,e=.returned (rM k)/\gu w.heap.size w' k l/\Fr [] w w':=by
 have f:=CA w<|str l;have z:(str l).size=l.length:=by rw[<-dC,f_ d]
 have C:=Ll w (str l)<|grownCap w (str l).size 0 5;have y:(w.drew.alloc<|MY (str l)<|grownCap w (str l).size 0 5).heap[w.heap.size]?=some (MY (str l)<|grownCap w (str l).size 0 5):=heap_alloc_new w.drew _;have g:=grownCap_ge w (str l).size 0 5;have j:=grownCap_le_maxLen w (str l).size 0 5 (by rw[z];unfold maxLen;omega);rw[f_ d]at C;have⟨W,a⟩:=xY <|w.drew.alloc (MY (str l)<|grownCap w (str l).size 0 5);have n:Fr [] w W:=by rw[a];exact(lE w).drew.alloc _
 have m:W.heap.size=w.heap.size+1:=by rw[a];simp
 rw[<-a]at f C y;rw[z]at f g j;have⟨p,q⟩:=xY <|grownCap w l.length 0 5;rw[<-q]at f g j;clear a q z;go_enter func155,ntmps155;go_wp2;go_ret;have hn:=heap_alloc_new W<|Jz w.heap.size 0 l.length p;refine⟨W.heap.size,by rw[m];rfl,⟨⟨w.heap.size,0,p,hn,λi o=>?_,sC,g,j,oE,d⟩,oE,λb r c h=>?_,λb r c h=>?_⟩,n.alloc _⟩
 .rw[World.cell?_alloc_lt _ _ ⟨w.heap.size,0+i,none⟩<|by show w.heap.size<_;omega];exact C i o
 .rw[hn]at h;cases h;exact zzc _
 .rw[hn]at h;cases h;exact⟨_,_,(zzf _ _ _ oE).trans y⟩
theorem cZ.fr{b f:Nat}(h:cZ w b f l)(d:w'.heap[b]?=w.heap[b]?):cZ w' b f l:=λi c=>
 (zze (a:=⟨b,f+i,none⟩) d).trans (h i c)
def WL(n p:Nat)(rest:List Nat)(k:Nat)(w:World)(e:Ending)(w':World):Prop :=
 ∃b f,e=.returned (.slice (some (d8 b f)) k k)/\cZ w' b f (rest.take k)/\gu n w' p (rest.drop k)/\Fr [p] w w'
theorem xh(n p k:Nat)(rest:List Nat)(w:World)(h:gu n w p rest)(D:k<=rest.length)(gT:k<=4096):
  Calls prog 243 #[rM p,.int .i64 (k:Int)] w (WL n p rest k w):=by
 have⟨⟨b,f,c,d,A,T,B,S,y,L⟩,F,C,x⟩:=h;have z:=x b f c d;have j:=aa d 0;have u:=au d 0;simp at j;have V:=C b f c d;have H:=ae<|zzb d A;have yo:p<w.heap.size:=(zza.1 d).1;have⟨m,o⟩:=xY rest.length;rw[<-o]at j D B H;have M:=ae o;have i1:¬(m:Int)<k:=oE
 have K:=wK b f m c k w D B S;have Y:=ae z;clear d A o C x z;go_enter func243,ntmps243;go_wp2_with fail;apply K.mono;clear K;rintro e w1 ⟨rfl,q,rfl⟩;have⟨G,hcut⟩:∃G,tE b f k c=some ⟨b,G,none⟩/\(k<c->G=f+k):=by
  unfold tE;by_cases E:c=k
  .rw[if_pos E];exact⟨f,rfl,λh=>oE⟩
  .rw[if_neg E];exact⟨f+k,rfl,λ_=>rfl⟩
 have⟨N,R⟩:=hcut;rw[N];have Z:(w.drewN q).cell? ⟨p,0,none⟩=some (.slice (some ⟨b,f,none⟩) m c):=by rw[zze (a:=⟨p,0,none⟩)<|show(w.drewN q).heap[p]?=w.heap[p]? by rw[heap_drewN]];exact j
 have g0:(w.drewN q).frozen? ⟨p,0,none⟩=false:=by rw[zzw (a:=⟨p,0,none⟩)<|show(w.drewN q).heap[p]?=w.heap[p]? by rw[heap_drewN]];exact u
 clear j u N;go_wp2;go_ret;have⟨W,l⟩:∃W,W=(w.drewN q).setCell ⟨p,0,none⟩ (.slice (some ⟨b,G,none⟩) (m-k)<|c-k):=⟨_,rfl⟩;rw[<-l];have r:Fr [p] w W:=by rw[l];exact(fR (Fr.refl [p] w) q).setCell (.inl sE) _
 have v:W.heap[b]?=w.heap[b]?:=r.block b T<|by simpa using y
 have t:W.heap[p]?=some (Jz b G (m-k)<|c-k):=by
  have:(w.drewN q).heap[p]?=some (Jz b f m c):=by rw[heap_drewN];exact H.1
  have:=aH this 0<|.slice (some ⟨b,G,none⟩) (m-k)<|c-k;rw[l];simpa using this
 have U:(rest.drop k).length=m-k:=by rw[zzz,M.out]
 refine⟨b,f,rfl,λi g=>?_,⟨⟨b,G,c-k,by rw[U];exact t,λi g=>?_,by have:=r.size;omega,by rw[U];omega,oE,y,L.drop k⟩,F,λQ I J O=>?_,λQ I J O=>?_⟩,r⟩
 .have s:i<rest.length:=by rw[zzm]at g;omega
  have P:i<k:=by rw[zzm]at g;omega
  rw[(H.2.fr v) i s];simp[at_,List.getElem?_take_of_lt P]
 .rw[U]at g;have X:G=f+k:=R oE;have s:k+i<rest.length:=by rw[<-M.out];omega
  have:=(H.2.fr v) (k+i) s;rw[X,Nat.add_assoc];rw[this];simp[at_,List.getElem?_drop]
 .rw[U,t]at O;cases O;exact V
 .rw[U,t]at O;cases O;rw[v];exact Y.out
theorem xj(n p:Nat)(rest:List Nat)(w:World)(h:gu n w p rest)(k:8<=rest.length):
  Calls prog 206 #[rM p] w λe w'=>e=.returned (.int .u64 ((val (rest.take 8):Nat):Int))/\gu n w' p (rest.drop 8)/\Fr [p] w w':=by
 have d:k9 rest:=by have⟨_,_,_,_,_,_,_,_,_,h⟩:=h.fld;exact h
 have t:=xh n p 8 rest w h k oE;clear h;go_enter func206,ntmps206;go_wp2_with fail;apply(rz w).mono;rintro e g ⟨rfl,rfl⟩;go_wp2_with fail;apply t.mono;clear t;rintro e w2 ⟨b,off,rfl,aC,cA,ie⟩;have F:=ae<|zzb cA ie;have c:(rest.take 8).length=8:=by rw[zzm];omega
 have a:=Fc b off 8 8 (rest.take 8) w2 (d.take 8) c oE oE mE aC;rw[List.take_take,Nat.min_self]at a;clear cA ie aC;go_wp2_with fail;apply a.mono;clear a;rintro e f ⟨rfl,q,rfl⟩;go_wp2;go_ret;exact⟨rfl,F.1.fr (fR (lE w2) q) sE,fR F.2 q⟩
theorem Gj(n p:Nat)(rest:List Nat)(w:World)(h:gu n w p rest)(k:1<=rest.length):
  Calls prog 208 #[rM p] w λe w'=>e=.returned (.int .u8 ((val (rest.take 1):Nat):Int))/\gu n w' p (rest.drop 1)/\Fr [p] w w':=by
 have d:k9 rest:=by have⟨_,_,_,_,_,_,_,_,_,h⟩:=h.fld;exact h
 have t:=xh n p 1 rest w h k oE;clear h;go_enter func208,ntmps208;go_wp2_with fail;apply(uV w).mono;rintro e g ⟨rfl,rfl⟩;go_wp2_with fail;apply t.mono;clear t;rintro e w2 ⟨b,off,rfl,aC,cA,ie⟩;have F:=ae<|zzb cA ie;have c:(rest.take 1).length=1:=by rw[zzm];omega
 have a:=Lf b off 1 1 (rest.take 1) w2 (d.take 1) c oE oE mE aC;rw[List.take_take,Nat.min_self]at a;clear cA ie aC;go_wp2_with fail;apply a.mono;clear a;rintro e f ⟨rfl,q,rfl⟩;go_wp2;go_ret;exact⟨rfl,F.1.fr (fR (lE w2) q) sE,fR F.2 q⟩
theorem vz(n p k:Nat)(t rest:List Nat)(w:World)(h:gu n w p (k::t++rest))(c:t.length=k)(T:k<256):
  Calls prog 209 #[rM p] w λe w'=>e=.returned (.string<|str t)/\gu n w' p rest/\Fr [p] w w':=by
 have hn:=Gj n p (k::t++rest) w h sE;have d:val ((k::t++rest).take 1)=k:=by simp[val]
 have f:(k::t++rest).drop 1=t++rest:=sE;rw[d,f]at hn;clear h d f;go_enter func209,ntmps209;go_wp2_with fail;apply hn.mono;clear hn;rintro e j ⟨rfl,bF,lu⟩;have a:=xh n p k (t++rest) j bF sC oE;have g:(t++rest).take k=t:=by rw[<-c];simp
 have i:(t++rest).drop k=rest:=by rw[<-c];simp
 unfold WL at a;rw[g,i]at a;have F:=ae lu;clear bF lu g i;have l:IntKind.i64.wrap (k:Int)=k:=iS;go_wp2_with fail;apply a.mono;clear a;rintro e w2 ⟨b,off,rfl,aC,cA,sF⟩;have v:=oY w2 b off k k t c aC;have H:=ae<|zzb cA<|F.out.trans sF;clear cA sF aC;go_wp2;go_ret;exact⟨rfl,H.out⟩
theorem Gk(n p:Nat)(rest:List Nat)(w:World)(h:gu n w p rest):
  Calls prog 207 #[rM p] w λe w'=>e=.returned (.bool<|decide<|0<rest.length)/\w'=w:=by
 obtain⟨⟨b,f,g,a,_⟩,_,_⟩:=h;have d:=aa a 0;simp at d;clear a;have⟨m,c⟩:=xY rest.length;rw[<-c]at d ⊢;clear c;go_enter func207,ntmps207;go_wp2;go_ret;refine⟨?_,rfl⟩;simp
theorem rN(n p:Nat)(rest:List Nat)(w:World)(h:gu n w p rest):
  Calls prog 211 #[rM p] w λe w'=>e=.returned (.bool (!decide (0<rest.length)))/\w'=w:=by
 have m:=Gk n p rest w h;obtain⟨⟨b,f,d,a,_⟩,_,_⟩:=h;have c1:=aa a 1;simp at c1;clear a
 go_enter func211,ntmps211
 go_wp2_with fail;refine m.mono ?_;rintro e c ⟨rfl,rfl⟩;go_wp2;go_ret;exact⟨rfl,rfl⟩
def ag.takes(s:ag)(t:Nat):List (ByteArray × aQ)->ag
 |[]=>s
 |x :: r=>(s.take t x.1 x.2).takes t r
theorem ag.zV:∀(a:List<|ByteArray×aQ) (s:ag) (t:Nat) (x:ByteArray×aQ),s.takes t (a++[x])=(s.takes t a).take t x.1 x.2
 |[],_,_,_=>rfl
 |y::a,s,t,x=>ag.zV a (s.take t y.1 y.2) t x
def JA(w:World)(E:Nat):Nat:=match w.cell? (dH E) with
 |some (.slice _ n _)=>n
 |_=>0
theorem yn.len(h:yn w E rest):JA w E=rest.length:=by
 have⟨b,f,p,a,_⟩:=h;have c:=aa a 0;simp at c;unfold JA;rw[c]
def ag.kE(s:ag)(t:Nat)(xs:List (ByteArray × aQ)):ag:=({ s with af:=dm s.af t ⟨3,0,0⟩ }:ag).takes t xs
theorem tU(x:ByteArray×aQ)(xs:List<|ByteArray×aQ):bW (x::xs)=x.2.way::(x.1.size::bytesOf x.1++(x.2.val.size::bytesOf x.2.val++bW xs)):=by
 simp[bW,vx]
theorem gu.more{x:ByteArray×aQ}{xs:List (ByteArray×aQ)}(_h:gu n w E<|bW (x::xs)):0<(bW (x::xs)).length:=by rw[tU];simp
theorem D'(n U a O I J m E t:Nat)(s:ag)(xs:List<|ByteArray×aQ)(w:World)(h:bC w U a O I J m s)(r:gu n w E<|be 8 t++bW xs)(f:t<2^64)(h0:t≠0)(C:(s.aM t).state=0)(V:∀x∈xs,gz x/\x.2.way<=2)(hl:xs.length<=16)(hm:m+32<maxLen)(lj:U<n/\O<n/\I<n/\J<n):
  Calls prog 156 #[rM U,rM E] w λe w'=>e=.returned (.bool true)/\bC w' U a O I J (m+1+xs.length) (s.kE t xs)/\Fr [E,I,J] w w':=by
 have B:=xj n E (be 8 t++bW xs) w r<|by simp[eY]
 have Q:val ((be 8 t++bW xs).take 8)=t:=by
  rw[List.take_left'<|by rw[eY]];exact qj 8 t<|by simpa using f
 have F:(be 8 t++bW xs).drop 8=bW xs:=List.drop_left' (by rw[eY]);rw[Q,F]at B;have HI:Hid (bC w U a O I J m s):=h;have k_:=r.low;have i0:¬(t:Int)=0:=oE
 have a6:=beq_eq_false_iff_ne.2 i0;clear Q F h r;go_enter func156,ntmps156;go_wp2_with fail;apply B.mono;clear B;rintro e d ⟨rfl,bF,lu⟩;have Z:=HI.out.fr lu sC sC sC sC;have z:=ke U a O I J m t s d Z f;rw[C]at z;have H:Hid (bC d U a O I J m s/\gu n d E (bW xs)/\Fr [E] w d):=⟨Z,bF,lu⟩;clear Z bF lu C;go_wp2_with fail;apply z.mono;clear z;rintro e w2 ⟨rfl,rfl⟩;have c2:=aa H.1.blk 2;simp at c2;obtain⟨u,wU,W,K⟩:=H.1.af.tS underlying144 oE f (v:=(⟨3,0,0⟩:fX)) trivial
 change (Instr.mapUpdate _ _ (.int .u64 (t:Int))<|.agg #[.int .i64 3,.int .i64 0,.int .u64 0]).run _ _=_ at wU;have D:=Fr.bK K;have j:Hid (bC u U a O I J (m+1) {s with af:=dm s.af t ⟨3,0,0⟩}/\gu n u E (bW xs)/\Fr [E,I,J] w u):=by
  refine⟨H.1.ld D W oE,H.2.1.fr D sC,?_⟩;exact(H.2.2.mono<|by intro k _ b;simp at b ⊢;exact .inl b).trans<|D.mono<|by intro k _ b;simp at b ⊢;exact .inr<|.inl b
 have HS:Hid (∀x∈xs,gz x/\x.2.way<=2):=V;have HP:Hid (s.kE t xs=({s with af:=dm s.af t ⟨3,0,0⟩}:ag).takes t xs):=rfl;clear W K D V;go_wp2;go_loopw [26] (λ_ wr=>∃y zs,Hid<|xs=y++zs/\gu n wr E (bW zs)/\bC wr U a O I J (m+1+y.length) (({s with af:=dm s.af t ⟨3,0,0⟩}:ag).takes t y)/\Fr [E,I,J] w wr) (λ_ wr=>JA wr E);case atStart=>exact⟨[],xs,rfl,j.2.1,j.1,j.2.2⟩
 case round=>
  have⟨y,zs,X⟩:=hrel;have o:=Gk n E (bW zs) wr X.2.1;cases zs with
  |nil=>
   have L:=rN n E (bW []) wr X.2.1;simp only[show decide (0<(bW []).length)=false from rfl,Bool.not_false]at o L;go_wp2_with fail;apply o.mono;rintro e q ⟨rfl,rfl⟩;go_wp2_with fail;apply L.mono;rintro e p ⟨rfl,rfl⟩;go_wp2;go_ret;have vh:xs=y:=by rw[X.1];simp
   exact⟨rfl,by rw[HP.out,vh];exact X.2.2.1,X.2.2.2⟩
  |cons x zs=>
   have P:=decide_eq_true X.2.1.more;rw[P]at o;have hx:=HS.out x (by rw[X.1];simp);have⟨⟨z1,z2,z3⟩,z4⟩:=hx;have N:=X.2.1;have I5:Hid (JA wr E=(bW (x::zs)).length):=N.fld.len;have TB:Hid ((bW zs).length<(bW (x::zs)).length):=by show _<_;rw[tU];simp;omega
   rw[tU]at N;have i:=Gj n E _ wr N sE;simp only[List.take_succ_cons,List.take_zero,List.drop_succ_cons,List.drop_zero]at i;have R:val [x.2.way]=x.2.way:=by simp[val]
   rw[R]at i;clear P N R;go_wp2_with fail;apply o.mono;clear o;rintro e q ⟨rfl,rfl⟩;go_wp2_with fail;apply i.mono;clear i;rintro e p ⟨rfl,kP,yN⟩;have a1:=vz n E x.1.size (bytesOf x.1) (x.2.val.size::bytesOf x.2.val++bW zs) p kP (dC _) oE;have H5:Hid (Fr [E] q p):=yN;clear kP yN;go_wp2_with fail;apply a1.mono;clear a1;rintro e G ⟨rfl,oz,ac4⟩;have S:=vz n E x.2.val.size (bytesOf x.2.val) (bW zs) G oz (dC _) oE;have H6:Hid (Fr [E] q G):=H5.out.trans ac4;clear oz ac4;go_wp2_with fail;apply S.mono;clear S;rintro e l ⟨rfl,lX,tV⟩;rw[ln,ln];have M:=H6.out.trans tV;have Y:=X.2.2.1.fr M sC sC sC sC;have T:Hid (gu n l E (bW zs)/\Fr [E,I,J] w l):=⟨lX,X.2.2.2.trans<|M.mono<|by intro k _ b;simp at b ⊢;exact .inl b⟩;have a7:y.length+1<=xs.length:=by rw[X.1];simp
   have A:=Ga U a O I J (m+1+y.length) t x.1 x.2 _ l Y f mE oE;have i2:¬(2:Int)<(x.2.way:Int):=oE
   clear lX tV M Y;go_wp2_with fail;apply A.mono;clear A;rintro e c ⟨rfl,Js,zW⟩;have g:Hid (bC c U a O I J (m+1+y.length+1) ((({s with af:=dm s.af t ⟨3,0,0⟩}:ag).takes t y).take t x.1 x.2)/\gu n c E (bW zs)/\Fr [E,I,J] w c):=⟨Js,T.1.fr zW sC,T.2.trans<|zW.mono<|by intro k _ b;simp at b ⊢;exact .inr<|.inr b⟩;clear Js zW;go_wp2
   go_roundw;case rel=>
    have HR:Hid (bC c U a O I J (m+1+(y++[x]).length)<|({s with af:=dm s.af t ⟨3,0,0⟩}:ag).takes t<|y++[x]):=by show bC _ _ _ _ _ _ _ _;rw[ag.zV,zzi];exact g.1
    exact⟨y++[x],zs,by rw[X.1];simp,g.2.1,HR.out,g.2.2⟩
   case measure=>rw[g.2.1.fld.len,I5.out];exact TB.out
section
variable(n U a O I J m E t c:Nat)(s:ag)(w:World)
theorem zX(h:bC w U a O I J m s)(f:gu n w E<|be 8 t)(i:t<2^64)(l:(s.aM t).state=3)(A:m+c<maxLen)(x:s.count t<=c)(v:s.Small)(N:U<n/\O<n/\I<n/\J<n):
  Calls prog 157 #[rM U,rM E,.func (.func 143) #[rM U] #[]] w λe w'=>e=.returned (.bool true)/\∃z,kQ s z t/\bC w' U a O I J (m+c) z/\Fr [E,O,I,J] w w':=by
 have B:=xj n E (be 8 t) w f<|Nat.le_of_eq (eY 8 t).symm;have y:val ((be 8 t).take 8)=t:=by rw[zzt<|Nat.le_of_eq<|eY 8 t];exact qj 8 t<|by simpa using i
 have o:=List.drop_of_length_le<|Nat.le_of_eq<|eY 8 t;rw[y,o]at B;have d:=ae<|zzb h<|zzb x v;have P:=f.low;clear y o h f x v
 go_enter func157,ntmps157;go_wp2_with fail;apply B.mono;clear B;rintro e r ⟨rfl,bF,lu⟩;have Z:=d.1.fr lu sC sC sC sC;have M:=ke U a O I J m t s r Z i;rw[l]at M;have G:aV s.holds:=by have⟨_,_,_,F,_⟩:=Z.holds;exact F
 have j:=CL U a O I J m t c s r Z i A (λL K C=>by rw[ag.jx G K C];exact d.2.1) (λp hp=>by have:=(d.2.2 p hp).2.1;simp at this;unfold maxLen;omega);have q:=ae<|zzb bF lu;clear Z bF lu l G;go_wp2_with fail;apply M.mono;clear M;rintro e w2 ⟨rfl,rfl⟩;go_wp2_with fail;apply j.mono;clear j;rintro e g ⟨rfl,vs,D3,ic,Ea⟩;have D:=q.1.fr Ea sC;have u:=rN n E [] g D;have H:Hid (bC g U a O I J (m+c) (ag.forget {s with aS:=vs} t)/\kQ s (ag.forget {s with aS:=vs} t) t/\Fr [E,O,I,J] w g):=⟨D3,⟨vs,rfl,ic⟩,(q.2.mono<|by intro k _ b;simp at b ⊢;exact .inl b).trans<|Ea.mono<|by intro k _ b;simp at b ⊢;exact .inr b⟩;clear D3 ic Ea D;simp only[List.length_nil,Nat.lt_irrefl,decide_false,Bool.not_false]at u;go_wp2_with fail;apply u.mono;rintro e Q ⟨rfl,rfl⟩;go_wp2;go_ret;exact⟨rfl,_,H.2.1,H.1,H.2.2⟩
theorem B5(h:bC w U a O I J m s)(f:gu n w E<|be 8 t)(d:t<2^64)(g:(s.aM t).state=3)(r:U<n/\O<n/\I<n/\J<n):
  Calls prog 157 #[rM U,rM E,.func (.func 140) #[rM U] #[]] w λe w'=>e=.returned (.bool true)/\bC w' U a O I J m (s.forget t)/\Fr [E,O,I,J] w w':=by
 have B:=xj n E (be 8 t) w f<|Nat.le_of_eq (eY 8 t).symm;have p:val ((be 8 t).take 8)=t:=by rw[zzt<|Nat.le_of_eq<|eY 8 t];exact qj 8 t<|by simpa using d
 have i:=List.drop_of_length_le<|Nat.le_of_eq<|eY 8 t;rw[p,i]at B;have q:=ae h;have u:=f.low;clear p i h f
 go_enter func157,ntmps157;go_wp2_with fail;apply B.mono;clear B;rintro e l ⟨rfl,bF,lu⟩;have Z:=q.out.fr lu sC sC sC sC;have M:=ke U a O I J m t s l Z d;rw[g]at M;have T:=kO U a O I J m t s l Z d;have j:=ae<|zzb bF lu;clear Z bF lu g;go_wp2_with fail;apply M.mono;clear M;rintro e w2 ⟨rfl,rfl⟩;go_wp2_with fail;apply T.mono;clear T;rintro e c ⟨rfl,D3,Ea⟩;have D:=j.1.fr Ea sC;have o:=rN n E [] c D;have H:Hid (bC c U a O I J m (s.forget t)/\Fr [E,O,I,J] w c):=⟨D3,(j.2.mono<|by intro k _ b;simp at b ⊢;exact .inl b).trans<|Ea.mono<|by intro k _ b;simp at b ⊢;exact .inr<|.inr b⟩;clear D3 Ea D;simp only[List.length_nil,Nat.lt_irrefl,decide_false,Bool.not_false]at o;go_wp2_with fail;apply o.mono;rintro e v ⟨rfl,rfl⟩;go_wp2;go_ret;exact⟨rfl,H.1,H.2⟩
end
def p7(k v:ByteArray):List Nat:=k.size :: bytesOf k++(v.size :: bytesOf v)
theorem Gm(n U a O I J m E:Nat)(s:ag)(k v:ByteArray)(w:World)(h:bC w U a O I J m s)(f:gu n w E<|p7 k v)(r:k.size<256)(i:v.size<256)(g:m<maxLen)(t:U<n/\O<n/\I<n/\J<n):
  Calls prog 158 #[rM U,rM E] w λe w'=>e=.returned (.bool true)/\bC w' U a O I J (m+1) {s with aS:=dm s.aS k v}/\Fr [E,O,I,J] w w':=by
 have R:=vz n E k.size (bytesOf k) (v.size::bytesOf v) w f (dC _) r;have q:=ae h;have u:=f.low;clear h f;go_enter func158,ntmps158;go_wp2_with fail;apply R.mono;clear R;rintro e p ⟨rfl,bF,lu⟩;have S:=vz n E v.size (bytesOf v) [] p (by rw[List.append_nil];exact bF) (dC _) i;have l:=ae lu;clear bF lu;go_wp2_with fail;apply S.mono;clear S;rintro e w2 ⟨rfl,cA,sF⟩;rw[ln,ln];have N:=l.out.trans sF;have Q:=q.out.fr N sC sC sC sC;have c1:=aa Q.blk 1;simp at c1;have⟨c,d,W,o⟩:=Q.aS.tS underlying143 g (show k.size<=maxLen by unfold maxLen;omega) (show v.size<=maxLen by unfold maxLen;omega);change (Instr.mapUpdate _ _ (.string k)<|.string v).run _ _=_ at d;have D:=Fr.bK o;have Z:=rN n E [] c (cA.fr D sC);simp only[List.length_nil,Nat.lt_irrefl,decide_false,Bool.not_false]at Z;have H:Hid (bC c U a O I J (m+1) {s with aS:=dm s.aS k v}/\Fr [E,O,I,J] w c):=⟨Q.LN D W oE,(N.mono<|by intro j _ b;simp at b ⊢;exact .inl b).trans<|D.mono<|by intro j _ b;simp at b ⊢;exact .inr<|.inl b⟩;clear Q N sF cA W o D;go_wp2_with fail;apply Z.mono;rintro e x ⟨rfl,rfl⟩;go_wp2;go_ret;exact⟨rfl,H.out⟩
inductive Gn(K:ag->Prop)(s:ag):Rec->Prop
 |ni (i t:Nat) (xs:List (ByteArray × aQ)) (ht:t<18446744073709551616) (h0:t≠0) (cm:(s.aM t).state=0) (CO:∀x∈xs,gz x/\x.2.way<=2) (hl:xs.length<=16) (hK:K (s.kE t xs)):Gn K s ⟨i,1,be 8 t++bW xs⟩
 |comm (i t:Nat) (ht:t<18446744073709551616) (cm:(s.aM t).state=3) (hc:s.count t<=16) (hv:s.Small) (hK:∀s',kQ s s' t->K s'):Gn K s ⟨i,2,be 8 t⟩
 |aaP (i t:Nat) (ht:t<18446744073709551616) (cm:(s.aM t).state=3) (hK:K (s.forget t)):Gn K s ⟨i,3,be 8 t⟩
 |aaQ (i:Nat) (k v:ByteArray) (hk:k.size<256) (hv:v.size<256) (hK:K { s with aS:=dm s.aS k v }):Gn K s ⟨i,4,p7 k v⟩
theorem QZ(n U a O I J m E:Nat)(s:ag)(r:Rec)(w:World)(h:bC w U a O I J m s)(f:gu n w E r.pay)(K:ag->Prop)(l:Gn K s r)(o:m+32<maxLen)(j:U<n/\O<n/\I<n/\J<n):
  Calls prog 100 #[rM U,.int .u8 (r.kind:Int),rM E] w λe w'=>e=.returned (.bool true)/\∃c,K c/\bC w' U a O I J (m+20) c/\Fr [E,O,I,J] w w':=by
 cases l with
 |ni i t xs ht h0 cm CO hl hK=>
  have d:=D' n U a O I J m E t s xs w h f ht h0 cm CO hl o j;clear h f;go_enter func100,ntmps100;go_wp2_with fail;apply d.mono;clear d;rintro e b ⟨rfl,jc,ie⟩;have H:Hid (bC b U a O I J (m+20) (s.kE t xs)/\Fr [E,O,I,J] w b):=⟨jc.mono oE,ie.mono<|by intro k _ g;simp at g ⊢;obtain e|e|e:=g<;>simp[e]⟩;clear jc ie;go_wp2;go_ret;exact⟨rfl,_,hK,H.out⟩
 |comm i t ht cm d hv hK=>
  have y:=zX n U a O I J m E t 16 s w h f ht cm oE d hv j;clear h f;go_enter func100,ntmps100;go_wp2_with fail;apply y.mono;clear y;rintro e b ⟨rfl,c,hco,jc,ie⟩;have H:Hid (kQ s c t/\bC b U a O I J (m+20) c/\Fr [E,O,I,J] w b):=⟨hco,jc.mono oE,ie⟩;clear jc ie hco;go_wp2;go_ret;exact⟨rfl,c,hK c H.1,H.2⟩
 |aaP i t ht cm hK=>
  have y:=B5 n U a O I J m E t s w h f ht cm j;clear h f;go_enter func100,ntmps100;go_wp2_with fail;apply y.mono;clear y;rintro e b ⟨rfl,jc,ie⟩;have H:Hid (bC b U a O I J (m+20) (s.forget t)/\Fr [E,O,I,J] w b):=⟨jc.mono oE,ie⟩;clear jc ie;go_wp2;go_ret;exact⟨rfl,_,hK,H.out⟩
 |aaQ i k v g hv hK=>
  have y:=Gm n U a O I J m E s k v w h f g hv oE j;clear h f;go_enter func100,ntmps100;go_wp2_with fail;apply y.mono;clear y;rintro e b ⟨rfl,jc,ie⟩;have H:Hid (bC b U a O I J (m+20) {s with aS:=dm s.aS k v}/\Fr [E,O,I,J] w b):=⟨jc.mono oE,ie⟩;clear jc ie;go_wp2;go_ret;exact⟨rfl,_,hK,H.out⟩
theorem JH{base:Nat}{v:Value}{rs:List Rec}(h:w.ownsRow base 82 3 v n<|cG rs):xb w.heap.size w v rs:=by
 have l:rs.length=n:=by have:=h.1;rw[rC]at this;omega
 have P:=h.lt;have⟨o,p,e,H⟩:=JF h;rcases h.2 with⟨a,t⟩|⟨g,W,j,a,m,q,rest⟩
 .left;exact⟨a,List.eq_nil_of_length_eq_zero oE⟩
 .right;refine⟨g,W,by rw[a,l],(P g<|by rw[a];rfl).2,λk r i=>?_⟩;have⟨D,T⟩:=zzd.1 i;have⟨s,f,c,b,d⟩:=H k D;rw[a]at e
  cases e;cases f;rw[T]at c b d;exact⟨c,b,d⟩
end Go.Proofs.YtdcafjmdfpjcbaaGreatDoor
