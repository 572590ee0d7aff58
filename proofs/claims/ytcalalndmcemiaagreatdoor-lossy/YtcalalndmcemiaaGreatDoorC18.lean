import Derived.Test.YtcalalndmcemiaaGreatDoorC17
import Derived.Test.YtcalalndmcemiaaGreatDoorC11
import Derived.Lib.SmallJoins
set_option maxHeartbeats 4000000
set_option maxRecDepth 100000
namespace Go.Proofs.YtcalalndmcemiaaGreatDoor
open Go.RowKit Go.Maps Tryz Sc
variable{segs:List Nat}{B D N c e h j k low m n p:Nat}{o r s v:Value}{b w w':World}{d:ah}{l:au}
theorem WN(B g p D N n o q n':Nat)(X:List Nat)(v t s:Value)(a:Option Addr)(k c:Nat)(l:au)(d:ah)(r:au × ah × Nat)(w:World)(h:aA w B g p D N v t s l d n o q)(hn:n<=n')(R:n'<=67108864)
  (T:l.failed=0->Calls prog 120 #[.slice a k c] w (kb B g p D N n' X r w)) :
  Calls prog 129 #[.pointer (some ⟨g,0,none⟩),.slice a k c] w (kb B g p D N n' X (l.wr d r) w):=by
 have u:=ae h.blk 0;have i:=ae h.blk 6;simp at u i;have I:=af h;have M:=JC p;by_cases hf:l.failed=0
 .rw[hf,bK] at i;have e:l.wr d r=({ r.1 with failed:=r.2.2 },r.2.1,r.2.2):=by unfold au.wr;rw[if_pos hf]
  rw[e];clear e
  replace T:=T hf
  go_enter func129,ntmps129
  go_wp2_with fail;refine T.mono ?_;rintro e z ⟨rfl,⟨j9,qc,m_,lC,lu,dY⟩,eE⟩;have H:=af dY;have O:=af eE;have x:=ae dY.blk 6;have y:=aj dY.blk 6;simp at x;clear dY eE h;by_cases j:r.2.2=0
  .rw[j,bK];go_wp2;go_ret;obtain⟨b,Q⟩:=H.out.fail (c:=0) rfl;unfold kb;simp only;rw[j];exact⟨rfl,⟨j9,qc,m_,lC,lu,b⟩,O.out.trans (H.out.Wn b Q (by intro k f _;simp at f;simp[f]) (bS.refl _ _) (bS.refl _ _) (bS.refl _ _))⟩
  .have he:=aG j;obtain⟨b,Q⟩:=H.out.fail (c:=r.2.2) rfl;rw[he] at b Q ⊢;have m:=af b;clear b;go_wp2;go_ret;exact⟨by simp only;rw[he];rfl,⟨j9,qc,m_,lC,lu,m.out⟩,O.out.trans (H.out.Wn m.out Q (by intro k f _;simp at f;simp[f]) (bS.refl _ _) (bS.refl _ _) (bS.refl _ _))⟩
 .rw[aG hf] at i;have e:l.wr d r=(l,d,l.failed):=by unfold au.wr;rw[if_neg hf]
  rw[e]
  go_enter func129,ntmps129
  go_wp2;go_ret;exact⟨by simp only;rw[aG hf];rfl,⟨v,t,s,o,q,I.out.lx hn R⟩,(ku.refl _ _ _).x⟩
theorem Hd:∀(rs:List Rec) (k:Nat),eH (rs.drop k)=(eH rs).drop (k*3):=by
 intro rs;induction rs with
 |nil=>intro k;simp[eH]
 |cons r rs ih=>
  intro k;cases k with
  |zero=>simp
  |succ k=>
   rw[List.drop_succ_cons,ih k];show _=(gB r++eH rs).drop _;rw[show(k+1)*3=3+k*3 by omega,<-List.drop_drop];rfl
theorem OT(rs:List Rec):∀u∈eH rs,u.oneCell'=true:=by
 intro u a;simp only[eH,List.mem_flatMap]at a;have⟨r,_,h⟩:=a;simp[gB]at h;obtain rfl|rfl|rfl:=h<;>rfl
theorem WO(B r m c k:Nat)(rs:List Rec)(w:World)(h:w.ownsRow B 110 3 (.slice (some ⟨r,0,none⟩) m c) m<|eH rs)(l:rs.length=m)(n:m<=67108864):
  Calls prog 138 #[.slice (some ⟨r,k*3,none⟩) (m-k)<|c-k] w λe w'=>∃v,e=.returned v/\w'.ownsRow w.heap.size 110 3 v (rs.drop k).length (eH<|rs.drop k)/\Below w.heap.size w w':=by
 have⟨f,i,a,b,d⟩:=info_parts Jy;have hlen:(rs.drop k).length=m-k:=by simp[l]
 refine(Tryz.slices_CloneR f _ 3 32 i a b d rfl bM sizeOf110 r (k*3) (m-k) (c-k) (eH<|rs.drop k) w (by rw[uQ,hlen]) eA bL ?_<|OT _).mono ?_
 .intro j u hu;rw[Hd,List.getElem?_drop]at hu;have:=h.cells rfl _ u hu;simpa [Addr.add_lit]using this
 .rintro e w' ⟨v,rfl,ho,_,hb⟩;exact⟨v,rfl,by rw[hlen];exact ho,hb⟩
theorem WQ(B s m c k:Nat)(l:List Nat)(w:World)(h:w.ownsRow B 43 1 (.slice (some ⟨s,0,none⟩) m c) m<|eI l)(b:l.length=m)(q:m<=67108864):
  Calls prog 139 #[.slice (some ⟨s,k,none⟩) (m-k)<|c-k] w λe w'=>∃v,e=.returned v/\w'.ownsRow w.heap.size 43 1 v (l.drop k).length (eI<|l.drop k)/\Below w.heap.size w w':=by
 have⟨p,i,f,n,o⟩:=info_parts xh;have hlen:(l.drop k).length=m-k:=by simp[b]
 refine(Tryz.slices_Clone p _ 1 8 i f n o rfl bM sizeOf43 s k (m-k) (c-k) (eI<|l.drop k) w (by rw[N5,hlen];omega) eA bL ?_<|by intro u a;unfold eI at a;obtain⟨x,_,rfl⟩:=zzq.1 a;rfl).mono ?_
 .intro j u a;have d:(eI l)[k+j]?=some u:=by
   rw[<-a];simp[eI,List.getElem?_drop]
  have:=h.cells rfl _ u d;simpa [Addr.add_lit]using this
 .rintro e w' ⟨v,rfl,ho,_,hb⟩;exact⟨v,rfl,by rw[hlen];exact ho,hb⟩
theorem bS.OU{s:Nat}{a:Value}{xs:List Value}(h:w.ownsRow s e k a n xs):bS s v a:=λq b=>.inr (h.lt q b).1
theorem aA.SF{A:Value}{rs:List Rec}(a:aA w B h p D N o s A l d n j m)(r:Below w.heap.size w b)(u:b.ownsRow w.heap.size 110 3 v rs.length<|eH rs)(z:rs.length<=n):
  aA (b.setCell ⟨h,3,none⟩ v) B h p D N o s v {l with recs:=rs} d n j m/\ku h p w (b.setCell ⟨h,3,none⟩ v)/\Fr [h] w (b.setCell ⟨h,3,none⟩ v):=by
 have C:=(zza.1 a.blk).1;have y:=(r.block h C).trans a.blk;have⟨W,f⟩:∃W,W=b.setCell ⟨h,3,none⟩ v:=⟨_,rfl⟩;rw[<-f];have J:Fr [h] b W:=by rw[f];exact Fr.cD bR _ _
 have hf:=(Fr.aX r _).trans J;have hb:W.heap[h]?=some (pC p s v {l with recs:=rs}):=by
  rw[f];have:=ar y 3 v;simpa using this
 have x:=aD u J λg i=>by simp;intro e;subst e;exact bj u y bM i
 have hs:=aD a.segs hf (λg i t=>by
  simp at t;subst t;exact bj a.segs a.blk bM i)
 have q:=a.rows hf (by intro k c _;simp at c;exact .inl c) hb hs (Joins.ownsRow_le x a.bq.base.2.2.2) (zzc _) a.bq.hn a.eB z a.km a.iC a.mZ;exact⟨q,a.zY q hf (by intro k c _;simp at c;simp[c]) (.inl rfl) (bS.refl _ _) (bS.refl _ _)<|bS.OU x,hf⟩
theorem aA.SG{C:Value}{ss:List Nat}(a:aA w B h p D N o C r l d n j m)(t:Below w.heap.size w b)(x:b.ownsRow w.heap.size 43 1 v ss.length<|eI ss)(z:ss.length<=n/\∀s∈ss,s<18446744073709551616):
  aA (b.setCell ⟨h,1,none⟩ v) B h p D N o v r {l with segs:=ss} d n j m/\ku h p w (b.setCell ⟨h,1,none⟩ v)/\Fr [h] w (b.setCell ⟨h,1,none⟩ v):=by
 have E:=(zza.1 a.blk).1;have y:=(t.block h E).trans a.blk;have⟨W,f⟩:∃W,W=b.setCell ⟨h,1,none⟩ v:=⟨_,rfl⟩;rw[<-f];have J:Fr [h] b W:=by rw[f];exact Fr.cD bR _ _
 have hf:=(Fr.aX t _).trans J;have hb:W.heap[h]?=some (pC p v r {l with segs:=ss}):=by
  rw[f];have:=ar y 1 v;simpa using this
 have hs:=aD x J λg i=>by simp;intro e;subst e;exact bj x y bM i
 have A:=aD a.recs hf (λg i u=>by
  simp at u;subst u;exact bj a.recs a.blk bM i)
 have q:=a.rows hf (by intro k c _;simp at c;exact .inl c) hb (Joins.ownsRow_le hs a.bq.base.2.2.2) A (zzc _) a.bq.hn z a.gJ a.km a.iC a.mZ;exact⟨q,a.zY q hf (by intro k c _;simp at c;simp[c]) (.inl rfl) (bS.refl _ _) (bS.OU hs)<|bS.refl _ _,hf⟩
theorem Co:∀{f k:Nat},k<segs.length->ez segs low f k<segs.length:=by
 intro f;induction f with
 |zero=>intro k h;exact h
 |succ f ih=>
  intro k h;by_cases a:k+1<segs.length
  .obtain⟨s,hs⟩:∃s,segs[k+1]?=some s:=⟨_,zzg a⟩;by_cases l:s<=low
   .rw[sD hs l];exact ih a
   .rw[sF hs l];exact h
  .rw[sB bL];exact h
theorem oF(h:cb segs low≠0):cb segs low<segs.length:=by
 cases segs with
 |nil=>exact absurd rfl h
 |cons a t=>exact Co bR
theorem aA.ltO{f:Nat}(a:aA w B h p D N v s r l d n c f)(b:Own h p w k):k<w.heap.size:=by
 obtain e|e|e|e|e|e|e:=(a.own k).1 b
 .rw[e];exact(zza.1 a.blk).1
 .rw[e];exact(zza.1 a.bq.blk).1
 .rw[e];exact a.bq.rz.lt
 .rw[e];exact a.bq.now.lt
 .exact(a.bq.pen.lt k e).2
 .exact(a.segs.lt k e).2
 .exact(a.recs.lt k e).2
theorem kb.lx{X:List Nat}{r:au×ah×Nat}{e:Ending}(a:kb B h p D N n X r w e w')(f:n<=m)(E:m<=67108864):kb B h p D N m X r w e w':=by
 have⟨b,⟨v,s,j,g,i,c⟩,d⟩:=a;exact⟨b,⟨v,s,j,g,i,c.lx f E⟩,d⟩
theorem A5(l:au)(d:ah)(gone first:Nat):(l.lD d gone first).1.segs=l.segs:=by unfold au.lD;split;split;all_goals exact nS l d
theorem Lk(l:au)(d:ah)(gone first:Nat):(l.lD d gone first).1.recs=l.recs:=by unfold au.lD;split;split;all_goals exact Lj l d
theorem dB(w:World)(a i b j:Nat)(v:Value)(h:b≠a):(w.setCell ⟨a,i,none⟩ v).cell? ⟨b,j,none⟩=w.cell? ⟨b,j,none⟩:=
 zze (by
  by_cases hb:b<w.heap.size
  .exact(Fr.cD (w:=w) (p:=a) (S:=[a]) (by simp) i v).block b hb<|by simpa using h
  .rw[Array.getElem?_eq_none (by simpa using hb),Array.getElem?_eq_none (by simpa using hb)])
def au.cut(l:au)(d:ah)(low:Nat):au × ah × Nat :=
 if cb l.segs low=0 then l.wr d (l.sync d) else
  let gone:=cb l.segs low
  let first:=l.segs.getD gone 0
  let r:=l.wr d (l.lD d gone first)
  if r.2.2=0 then ({ r.1 with recs:=r.1.recs.drop (first-(r.1.recs.headD ⟨0,0,[]⟩).oq),segs:=r.1.segs.drop gone },r.2.1,0) else r
theorem OV(g B b p D N n M O low:Nat)(Q sv R:Value)(l:au)(d:ah)(w:World)(a6:aA w B b p D N Q sv R l d n M O)(hn:n+2+l.segs.length<=67108864)(hB:2<=B)(aH:bI w)
  (al:g<=l.segs.length) (JJ:l.failed=0->cb l.segs low≠0->l.tQ d (cb l.segs low) (l.segs.getD (cb l.segs low) 0)<=g) (hinv:l.failed=0->∀k s:Nat,l.segs[k]?=some s->∃r rs,l.recs=r::rs/\r.oq<=s/\s-r.oq<l.recs.length) :
  Calls prog 90 #[.pointer<|some ⟨b,0,none⟩,.int .u64 (low:Int)] w (jQ B b p D N (n+2+g) (l.cut d low) w):=by
 have zS:n+2+g<=67108864:=bL;have aI:Hid (l.failed=0->cb l.segs low≠0->l.tQ d (cb l.segs low) (l.segs.getD (cb l.segs low) 0)<=g):=JJ;clear JJ;have I:Hid (aA w B b p D N Q sv R l d n M O):=a6;clear a6;by_cases E:cb l.segs low=0
 .have e:l.cut d low=l.wr d (l.sync d):=by unfold au.cut;rw[if_pos E]
  rw[e];go_enter func90,ntmps90
  go_wp2_with fail;have y:Fr [] w (w.alloc<|.cells #[.pointer<|some ⟨b,0,none⟩] 74):=(lT w).alloc _;refine(rQ B b p D N n M O low Q sv R l d _<|I.out.new y).mono ?_;rintro e f ⟨rfl,q,mY⟩;rw[E];have Y:Fr [] w f:=by rw[mY];exact⟨y.os,y.tape,y.output,y.size,y.block⟩
  have T:f.heap[w.heap.size]?=some (.cells #[.pointer<|some ⟨b,0,none⟩] 74):=by rw[mY];exact heap_alloc_new w _
  have V:=ae T 0;simp at V;have dY:w.heap.size<f.heap.size:=(zza.1 T).1;have kV:Hid (Fr [] w f):=Y;clear mY y Y T;go_wp2_with fail;have aQ:Fr [] w ((f.alloc<|.cells #[.int .i64 0] 3).alloc<|.cells #[.func (.func 121) #[.pointer<|some ⟨b,0,none⟩] #[]] 123):=(kV.out.alloc _).alloc _;refine(OS B b p D N n M O (f.heap.size+1) Q sv R l d _ (I.out.new aQ) bL<|(congrArg _ bR).trans<|heap_alloc_new _ _).mono ?_;rintro e w2 ⟨rfl,⟨zE,Og,F8,AX,zZ,eh⟩,gH⟩;have H2:Hid (jQ B b p D N (n+2+g) (l.wr d<|l.sync d) w (.returned<|cf (l.wr d<|l.sync d).2.2) w2):=⟨rfl,⟨zE,Og,F8,AX,zZ,eh.lx bL zS⟩,(I.out.uT aQ).trans gH.zY⟩;clear eh gH;go_wp2;go_ret;exact H2.out
 .obtain⟨gone,Ep⟩:∃gone,cb l.segs low=gone:=⟨_,rfl⟩;have nG:gone<l.segs.length:=by rw[<-Ep];exact oF E
  have⟨first,sG⟩:∃first,l.segs[gone]?=some first:=⟨_,zzg nG⟩
  have⟨gs,cs,GN⟩:=dZ I.out.segs bL;subst GN;have bb:first<18446744073709551616:=I.out.eB.2 first<|zzh sG
  have s0:=nP I.out.segs gone first sG
  have c1:=ae I.out.blk 1;simp at c1;have ab:Hid (l.segs[gone]?=some first):=sG
  have b0:Hid (l.failed=0->n+2+l.tQ d gone first<=n+2+g):=λhf=>by
   have h1:=aI.out hf E;have e:l.segs.getD gone 0=first:=by rw[List.getD_eq_getElem?_getD,sG];rfl
   rw[Ep,e]at h1;omega
  have zB:=(zza.1 I.out.blk).1;have al:=(I.out.segs.lt gs rfl).2;clear sG;go_enter func90,ntmps90
  go_wp2_with fail;have y:Fr [] w (w.alloc<|.cells #[.pointer<|some ⟨b,0,none⟩] 74):=(lT w).alloc _;refine(rQ B b p D N n M O low Q _ R l d _<|I.out.new y).mono ?_;rintro e f ⟨rfl,q,mY⟩;rw[Ep];have Y:Fr [] w f:=by rw[mY];exact⟨y.os,y.tape,y.output,y.size,y.block⟩
  have T:f.heap[w.heap.size]?=some (.cells #[.pointer<|some ⟨b,0,none⟩] 74):=by rw[mY];exact heap_alloc_new w _
  have V:=ae T 0;simp at V;have dY:w.heap.size<f.heap.size:=(zza.1 T).1;have kV:Hid (Fr [] w f):=Y;have aw:Hid (f.heap[w.heap.size]?=some (.cells #[.pointer<|some ⟨b,0,none⟩] 74)):=T;have d1:f.cell? ⟨b,1,none⟩=some (.slice (some ⟨gs,0,none⟩) l.segs.length cs):=(zze (a:=⟨b,1,none⟩)<|Y.block b zB bR).trans c1;have t1:f.cell? ⟨gs,gone,none⟩=some (.int .u64 (first:Int)):=(zze (a:=⟨gs,gone,none⟩)<|Y.block gs al bR).trans s0;have k0:¬(gone:Int)=0:=bL
  have k1:((gone:Int)==0)=false:=by simpa using k0
  have k2:(gone:Int)<(l.segs.length:Int):=bL;have k3:(0:Int)<=gone:=bL;clear mY y Y T c1 s0;have b4:b<f.heap.size:=bL;have b5:gs<f.heap.size:=bL;go_wp2_with fail;go_region;go_wp2_with fail;have⟨W,nI⟩:∃W:World,W=(((f.alloc<|.cells #[.int .i64 (gone:Int)] 3).alloc<|.cells #[.int .u64 (first:Int)] 43).alloc<|.cells #[.func (.func 121) #[.pointer<|some ⟨b,0,none⟩] #[],.func (.func 134) #[] #[.pointer<|some ⟨w.heap.size,0,none⟩,.pointer<|some ⟨f.heap.size+1,0,none⟩],.func (.func 136) #[] #[.pointer<|some ⟨w.heap.size,0,none⟩,.pointer<|some ⟨f.heap.size,0,none⟩]] 123).drew:=⟨_,rfl⟩;rw[<-nI];have dz:Fr [] w W:=by rw[nI];exact(((kV.out.alloc _).alloc _).alloc _).drew
  have lB:Fr [] f W:=by rw[nI];exact((((lT f).alloc _).alloc _).alloc _).drew
  have sA:W.heap[f.heap.size+1+1]?=some (.cells #[.func (.func 121) #[.pointer<|some ⟨b,0,none⟩] #[],.func (.func 134) #[] #[.pointer<|some ⟨w.heap.size,0,none⟩,.pointer<|some ⟨f.heap.size+1,0,none⟩],.func (.func 136) #[] #[.pointer<|some ⟨w.heap.size,0,none⟩,.pointer<|some ⟨f.heap.size,0,none⟩]] 123):=by
   rw[nI];exact(congrArg _ bR).trans<|heap_alloc_new _ _
  have SH:W.heap[f.heap.size]?=some (.cells #[.int .i64 (gone:Int)] 3):=by
   rw[nI];exact(zzf _ _ _ cE).trans<|(zzf _ _ _ bR).trans<|heap_alloc_new _ _
  have OW:W.heap[f.heap.size+1]?=some (.cells #[.int .u64 (first:Int)] 43):=by
   rw[nI];exact(zzf _ _ _ bR).trans<|(congrArg _ bR).trans<|heap_alloc_new _ _
  have Ad:W.heap[w.heap.size]?=some (.cells #[.pointer<|some ⟨b,0,none⟩] 74):=(lB.block _ dY bR).trans aw.out;have qg:=I.out.new dz;have SC:¬Own b p W (f.heap.size+1):=λho=>by
   have:=I.out.ltO<|(I.out.own _).2<|(qg.own _).1 ho;omega
  have b3:bI W:=aH.cI (dz.block 1 (by have:=I.out.bq.base.2.2.2;omega) bR);have⟨x,T⟩:∃x,w.heap.size=x:=⟨_,rfl⟩;have⟨j,mM⟩:∃j,f.heap.size=j:=⟨_,rfl⟩;have pE:b<x/\x<j:=bL
  have ba:j+1<W.heap.size:=by rw[<-mM];exact(zza.1 OW).1
  have av:Hid (ku b p w W):=I.out.uT dz;rw[T]at sA Ad ⊢;rw[mM]at sA SH OW SC ⊢;have H3:Hid (aA W B b p D N Q (.slice (some ⟨gs,0,none⟩) l.segs.length cs) R l d n M O):=qg;have Ll:=WN B b p D N n M O (n+2+g) [] Q _ R (some ⟨j+1+1,0,none⟩) 3 3 l d (l.lD d gone first) W qg bL zS (λy=>(SE B b p D N n M O (j+1+1) x (j+1) j first gone Q _ R l d W qg bL hB b3 bb bL bL sA Ad OW SC SH).mono λe w' a6=>a6.lx (b0.out y) zS);have b6:Hid (W.heap[x]?=some (.cells #[.pointer<|some ⟨b,0,none⟩] 74)):=Ad;have az:Hid (W.heap[j+1]?=some (.cells #[.int .u64 (first:Int)] 43)/\¬Own b p W (j+1)):=⟨OW,SC⟩;have b7:Hid (W.heap[j]?=some (.cells #[.int .i64 (gone:Int)] 3)):=SH;clear nI dz lB sA SH OW Ad SC qg T mM V kV d1 t1 aw dY b4 b5 al zB;refine Ll.mono ?_;rintro e h ⟨rfl,⟨DC,sv4,rv4,nD4,nN4,Z⟩,kq⟩;clear Ll;have H:Hid (aA h B b p D N DC sv4 rv4 (l.wr d<|l.lD d gone first).1 (l.wr d<|l.lD d gone first).2.1 (n+2+g) nD4 nN4):=Z;have aa:Hid (ku b p W h):=kq.zY;clear Z kq;by_cases G:(l.wr d<|l.lD d gone first).2.2=0
  .have X:l.failed=0:=by
    by_cases X:l.failed=0
    .exact X
    .exfalso;unfold au.wr at G;rw[if_neg X]at G;exact X G
   have⟨F,rs,OX,tE,UU⟩:=hinv X gone first ab.out
   have⟨L,hL⟩:=gb <|(l.wr d<|l.lD d gone first).1;have⟨a',hD⟩:=gb <|(l.wr d<|l.lD d gone first).2.1;have ad:L.segs=l.segs:=by rw[hL];unfold au.wr;rw[if_pos X];exact A5 l d gone first
   have M3:L.recs=l.recs:=by rw[hL];unfold au.wr;rw[if_pos X];exact Lk l d gone first
   have hcut:Hid (l.cut d low=({L with recs:=L.recs.drop<|first-F.oq,segs:=L.segs.drop gone},a',0)):=by
    show l.cut d low=_;unfold au.cut;rw[if_neg E,Ep];simp only;rw[show l.segs.getD gone 0=first by rw[List.getD_eq_getElem?_getD,ab.out];rfl,if_pos G,<-hL,<-hD,M3,OX];rfl
   rw[<-hL,<-hD]at H;have Z:=H.out;have⟨z,cr,Od⟩:=dZ Z.recs (by rw[M3,OX];simp);have⟨g5,c5,GN⟩:=dZ Z.segs (by rw[ad];omega);subst Od GN;have⟨k,hk⟩:=gb <|first-F.oq
   have⟨m,J⟩:=gb L.recs.length;have Zh:k<m:=by rw[hk,J,M3];exact UU
   have Ca:∀{q:Nat} {c:Array Value} {t:TypeId},W.heap[q]?=some (.cells c t (0,0))->t≠96->t≠182->t≠222->t≠43->t≠110->h.heap[q]?=some (.cells c t (0,0)):=λ{q c t} E h1 h2 h3 h4 h5=>
    (aa.out.block q (zza.1 E).1<|H3.out.free E h1 h2 h3 h4 h5).trans E
   have e0:=Ca b6.out (by decide) bM bM bM bM;have e2:=Ca b7.out (by decide) (by decide) bM bM bM;have e1:=(aa.out.block (j+1) ba az.2).trans az.1;have a0:h.cell? ⟨x,0,none⟩=some (.pointer<|some ⟨b,0,none⟩):=(ae e0 0).trans bR;have a1:h.cell? ⟨j+1,0,none⟩=some (.int .u64 (first:Int)):=(ae e1 0).trans bR;have a2:h.cell? ⟨j,0,none⟩=some (.int .i64 (gone:Int)):=(ae e2 0).trans bR;have a3:h.cell? ⟨b,3,none⟩=some (.slice (some ⟨z,0,none⟩) m cr):=by rw[J];exact(ae Z.blk 3).trans bR
   have a4:h.cell? ⟨z,0,none⟩=some (.int .u64 (F.oq:Int)):=by
    have:=Z.recs.cells (g:=z) rfl 0 (.int .u64 (F.oq:Int))<|by rw[M3,OX];rfl
    simpa [Addr.add_lit]using this
   have a5:h.frozen? ⟨b,3,none⟩=false:=aj Z.blk 3;have j1:IntKind.u64.wrap ((first:Int)-(F.oq:Int))=(k:Int):=by rw[IntKind.wrap_u64];omega
   have j2:(k:Int)<=m:=bL;have j3:m<=cr:=by
    rcases Z.recs.2 with⟨e,_⟩|⟨g',fR,b',e,_,_,h3,h4,_⟩
    .cases e
    .cases e;rw[J];exact h3
   have j4:(k:Int)<=cr:=bL;have j5:0<m:=bL;have j6:¬cr=k:=bL;have bf:m<=n+2+g:=by rw[J];exact Z.gJ
   have a7:b<h.heap.size/\x<h.heap.size/\j+1<h.heap.size/\z<h.heap.size:=⟨(zza.1 Z.blk).1,(zza.1 e0).1,(zza.1 e1).1,(Z.recs.lt z rfl).2⟩;have HE:Hid (h.heap[x]?=some (.cells #[.pointer<|some ⟨b,0,none⟩] 74)/\h.heap[j]?=some (.cells #[.int .i64 (gone:Int)] 3)):=⟨e0,e2⟩;have ao:Hid (L.recs=l.recs/\L.segs=l.segs/\k=first-F.oq/\m=L.recs.length/\l.recs=F::rs/\F.oq<=first):=⟨M3,ad,hk,J,OX,tE⟩;clear hL hD M3 ad hk OX tE UU Z hinv e0 e1 e2 Ca;have an:=WO B z m cr k L.recs h.drew (by rw[J];exact H.out.recs) J.symm bL;have b8:Hid (Calls prog 138 #[.slice (some ⟨z,k*3,none⟩) (m-k)<|cr-k] h.drew λe w'=>∃v,e=.returned v/\w'.ownsRow h.drew.heap.size 110 3 v (L.recs.drop k).length (eH<|L.recs.drop k)/\Below h.drew.heap.size h.drew w'):=an;have a8:x≠b/\j+1≠b/\z≠b:=⟨bL,bL,λe=>bj H.out.recs H.out.blk bM<|by rw[e];rfl⟩;have xE:0<(L.recs.drop k).length:=cE
   clear J an;rw[G,bK];clear G;go_wp2_with fail;refine wp_region_held_drew (S:=(λw'=>w'.cell? ⟨x,0,none⟩=some (.pointer<|some ⟨b,0,none⟩)/\w'.cell? ⟨j+1,0,none⟩=some (.int .u64 (first:Int))/\w'.cell? ⟨z,0,none⟩=some (.int .u64 (F.oq:Int)))) dJ ?_ (λA=>?_)
   .simp[*]
   refine tkH 0 ?_;refine tkH 1 ?_;refine tkH 2 ?_;refine tkH 3 ?_;refine tkH 5 ?_;refine tkH 6 ?_;refine tkH 7 ?_;refine tkH 8 ?_;(try simp only[Act.put,mA,mC,mI]);refine wpAnyH_ready (rs:=[4,9]) dJ bR ?_;refine ryC (λK o=>?_)<|ryC (λK o=>?_) AllReadyH.nil
   focus
    go_simp;refine o.out _ _ ?_ λA=>?_
    .simp[*]
    clear o K;(try simp only[Act.put,mA,mC,mI]);refine wpAnyH_ready (rs:=[9]) dJ bR ?_;refine ryC (λK o=>?_) AllReadyH.nil;go_simp;refine o.out _ _ ?_ λA=>?_
    .simp[*]
    clear o K;(try simp only[Act.put,mA,mC,mI]);refine tkH 10 ?_;refine tkH 11 ?_;refine tkH 12 ?_;(try simp only[Act.put,mA,mC,mI]);refine wpAnyH_take (i:=13) (oi:=⟨some 48,.binOp BinOp.sub 43 (.tmp 40) (.tmp 47) 43,43,"log.go:68",#[⟨5,.data⟩,⟨12,.data⟩],none⟩) (v:=.int .u64 (k:Int)) rfl dJ dJ dJ (λ_ _ _ a6=>a6) (Or.inl ⟨by rfl,?_⟩) eC ?_
    .intro w hSw;(try dsimp only at hSw);go_simp
   rotate_left;focus
    go_simp;refine o.out _ _ ?_ λA=>?_
    .simp[*]
    clear o K;(try simp only[Act.put,mA,mC,mI]);refine tkH 10 ?_;refine tkH 11 ?_;refine tkH 12 ?_;refine tkH 13 ?_;(try simp only[Act.put,mA,mC,mI]);refine wpAnyH_ready (rs:=[4]) dJ bR ?_;refine ryC (λK o=>?_) AllReadyH.nil;go_simp;refine o.out _ _ ?_ λA=>?_
    .simp[*]
    clear o K
   all_goals
    (try simp only[Act.put,mA,mC,mI]);refine tkH 14 ?_;(try simp only[Act.put,mA,mC,mI]);refine wpAnyH_ready (rs:=[15]) dJ bR ?_;refine AllReadyH.cons rfl (λK o=>?_) AllReadyH.nil;go_simp;refine b8.out.mono ?_;rintro e U ⟨v5,rfl,xg,h_⟩;have⟨g6,c6,bc⟩:=dZ xg xE;subst bc;have hb:Below h.heap.size h U:=⟨h_.os,h_.tape,h_.output,h_.size,h_.block⟩;have V:=(hb.cell (p:=⟨x,0,none⟩) a7.2.1).trans a0;have x2:=(hb.cell (p:=⟨j+1,0,none⟩) a7.2.2.1).trans a1;have x3:=(hb.cell (p:=⟨b,3,none⟩) a7.1).trans a3;have x4:=(hb.cell (p:=⟨z,0,none⟩) a7.2.2.2).trans a4;have x5:U.frozen? ⟨b,3,none⟩=false:=(zzw (a:=⟨b,3,none⟩)<|hb.block b a7.1).trans a5;have y1:=λv=>(dB U b 3 x 0 v a8.1).trans V;have y2:=λv=>(dB U b 3 (j+1) 0 v a8.2.1).trans x2;have y4:=λv=>(dB U b 3 z 0 v a8.2.2).trans x4;have H5:Hid (U.ownsRow h.heap.size 110 3 (.slice (some ⟨g6,0,none⟩) (L.recs.drop k).length c6) (L.recs.drop k).length (eH<|L.recs.drop k)/\Below h.heap.size h U):=⟨xg,hb⟩;clear xg h_ hb
    go_wp2_with fail;refine o.out _ _ ?_ λA=>?_
    .simp[*]
    clear o K;(try simp only[Act.put,mA,mC,mI]);refine tkH 16 ?_;refine tkH 17 ?_;(try simp only[Act.put,mA,mC,mI]);refine wpAnyH_ready (rs:=[18]) dJ bR ?_;refine AllReadyH.cons rfl (λK o=>?_) AllReadyH.nil;go_simp;refine o.out _ _ ?_ λA=>?_
    .simp[*]
    clear o K;(try simp only[Act.put,mA,mC,mI]);refine wpAnyH_done dJ ?_ _;go_wp2_with fail;have⟨u,qZ⟩:∃u:World,u=U.setCell ⟨b,3,none⟩ (.slice (some ⟨g6,0,none⟩) (L.recs.length-k) c6):=⟨_,rfl⟩;rw[<-qZ];clear A;have C:=H.out.SF H5.2 H5.1 (by simp;have:=H.out.gJ;omega);rw[zzz,<-qZ]at C;have b1:=(C.2.2.block x a7.2.1<|by simpa using a8.1).trans HE.1;have b2:=(C.2.2.block j bL cE).trans HE.2;have z1:u.cell? ⟨x,0,none⟩=some (.pointer<|some ⟨b,0,none⟩):=(ae b1 0).trans bR;have z2:u.cell? ⟨j,0,none⟩=some (.int .i64 (gone:Int)):=(ae b2 0).trans bR;have⟨P,RS⟩:=gb L.segs.length;have z3:u.cell? ⟨b,1,none⟩=some (.slice (some ⟨g5,0,none⟩) P c5):=by rw[RS];exact(ae C.1.blk 1).trans bR
    have z5:u.frozen? ⟨b,1,none⟩=false:=aj C.1.blk 1;have RA:gone<P:=by rw[RS,ao.2.1];exact nG
    have JR:P<=c5:=by
     rcases C.1.segs.2 with⟨e,_⟩|⟨g',fR,b',e,_,_,h3,h4,_⟩
     .cases e
     .cases e;rw[RS];exact h3
    have l1:(gone:Int)<=P:=bL;have l2:(gone:Int)<=c5:=bL;have l3:¬c5=gone:=bL;have aE:Hid (Calls prog 139 #[.slice (some ⟨g5,gone,none⟩) (P-gone)<|c5-gone] u.drew λe w'=>∃v,e=.returned v/\w'.ownsRow u.drew.heap.size 43 1 v (L.segs.drop gone).length (eI<|L.segs.drop gone)/\Below u.drew.heap.size u.drew w'):=WQ B g5 P c5 gone L.segs u.drew (by rw[RS];exact C.1.segs) RS.symm (by have h7:L.segs.length<=n+2+g:=H.out.eB.1;omega);have M4:b<u.heap.size/\x<u.heap.size/\j<u.heap.size:=⟨(zza.1 C.1.blk).1,(zza.1 b1).1,(zza.1 b2).1⟩;have b9:0<(L.segs.drop gone).length:=cE
    have Q6:Hid (aA u B b p D N DC (.slice (some ⟨g5,0,none⟩) L.segs.length c5) (.slice (some ⟨g6,0,none⟩) (L.recs.length-k) c6) {L with recs:=L.recs.drop k} a' (n+2+g) nD4 nN4/\ku b p h u):=⟨C.1,C.2.1⟩;clear C b1 b2 RS qZ;refine wp_region_held_drew (S:=(λw'=>w'.cell? ⟨x,0,none⟩=some (.pointer<|some ⟨b,0,none⟩)/\w'.cell? ⟨j,0,none⟩=some (.int .i64 (gone:Int)))) dJ ?_ (λA=>?_)
    .simp[*]
    refine tkH 0 ?_;refine tkH 1 ?_;refine tkH 2 ?_;refine tkH 3 ?_;refine tkH 5 ?_;(try simp only[Act.put,mA,mC,mI]);refine wpAnyH_ready (rs:=[4]) dJ bR ?_;refine ryC (λK o=>?_) AllReadyH.nil;go_simp;refine o.out _ _ ?_ λA=>?_
    .simp[*]
    clear o K;(try simp only[Act.put,mA,mC,mI]);refine tkH 6 ?_;(try simp only[Act.put,mA,mC,mI]);refine wpAnyH_ready (rs:=[7]) dJ bR ?_;refine AllReadyH.cons rfl (λK o=>?_) AllReadyH.nil;go_simp;refine aE.out.mono ?_;rintro e w7 ⟨v7,rfl,SI,nJ⟩;have⟨g8,c8,bd⟩:=dZ SI b9;subst bd;have hb:Below u.heap.size u w7:=⟨nJ.os,nJ.tape,nJ.output,nJ.size,nJ.block⟩;have V:=(hb.cell (p:=⟨x,0,none⟩) M4.2.1).trans z1;have x2:=(hb.cell (p:=⟨j,0,none⟩) M4.2.2).trans z2;have x3:=(hb.cell (p:=⟨b,1,none⟩) M4.1).trans z3;have x5:w7.frozen? ⟨b,1,none⟩=false:=(zzw (a:=⟨b,1,none⟩)<|hb.block b M4.1).trans z5;have y1:=λv=>(dB w7 b 1 x 0 v a8.1).trans V
    have y2:=λv=>(dB w7 b 1 j 0 v bL).trans x2
    have H7:Hid (w7.ownsRow u.heap.size 43 1 (.slice (some ⟨g8,0,none⟩) (L.segs.drop gone).length c8) (L.segs.drop gone).length (eI<|L.segs.drop gone)/\Below u.heap.size u w7):=⟨SI,hb⟩;clear SI nJ hb;go_wp2_with fail;refine o.out _ _ ?_ λA=>?_
    .simp[*]
    clear o K;(try simp only[Act.put,mA,mC,mI]);refine tkH 8 ?_;refine tkH 9 ?_;(try simp only[Act.put,mA,mC,mI]);refine wpAnyH_ready (rs:=[10]) dJ bR ?_;refine AllReadyH.cons rfl (λK o=>?_) AllReadyH.nil;go_simp;refine o.out _ _ ?_ λA=>?_
    .simp[*]
    clear o K;(try simp only[Act.put,mA,mC,mI]);refine wpAnyH_done dJ ?_ _;have q8:=Q6.1.SG H7.2 H7.1 ⟨by have h7:L.segs.length<=n+2+g:=H.out.eB.1;simp;omega,λs hs=>H.out.eB.2 s<|List.mem_of_mem_drop hs⟩;rw[zzz]at q8
    have H8:Hid (jQ B b p D N (n+2+g) (l.cut d low) w (.returned .nilIface)<|w7.setCell ⟨b,1,none⟩<|.slice (some ⟨g8,0,none⟩) (L.segs.length-gone) c8):=by
     show jQ _ _ _ _ _ _ _ _ _ _;rw[hcut.out,<-ao.2.2.1];exact⟨rfl,⟨DC,_,_,nD4,nN4,q8.1⟩,av.out.trans<|aa.out.trans<|Q6.2.trans q8.2.1⟩
    clear q8;go_wp2;go_ret;exact H8.out
  .have e:l.cut d low=l.wr d (l.lD d gone first):=by unfold au.cut;rw[if_neg E,Ep];simp only;rw[show l.segs.getD gone 0=first by rw[List.getD_eq_getElem?_getD,ab.out];rfl,if_neg G]
   have H5:Hid (jQ B b p D N (n+2+g) (l.cut d low) w (.returned<|cf (l.wr d<|l.lD d gone first).2.2) h):=by
    show jQ _ _ _ _ _ _ _ _ _ _;rw[e];exact⟨rfl,⟨DC,sv4,rv4,nD4,nN4,H.out⟩,av.out.trans aa.out⟩
   rw[aG G]at H5 ⊢;go_wp2;go_ret;exact H5.out
abbrev fy(a b c d:Int):Value:=.agg #[.int .i64 a,.int .i64 b,.int .i64 c,.int .i64 d]
def ah.bQ(d:ah)(a b:Int):ah:={ d with left:=a,full:=b }
section
variable{w w':World}{B f h p E G n J O:Nat}{I Z U:Value}{l:au}{d:ah}
theorem aA.bQ(e:aA w B h p E G I Z U l d n J O)(a b:Int)(hf:Fr [p] w w')(hb:w'.heap[p]?=some (gv E G I a b d.down)):
  aA w' B h p E G I Z U l (d.bQ a b) n J O/\ku h p w w':=by
 have f:aA w' B h p E G I Z U l (d.bQ a b) n J O:=e.turned (e.bq.ic hf a b d.down hb) hf (λk c _=>e.sep k (by simp at c;simp[c])) (zzc _);exact⟨f,e.zY f hf (λk c _=>by simp at c;simp[c]) (.inl rfl) (bS.refl _ _) (bS.refl _ _) (bS.refl _ _)⟩
end
theorem gC(c:Nat)(w:World)(g:Met w):Calls prog 30 #[cf c] w λe w'=>e=.returned (.int .i64 (c:Int))/\Fr [] w w':=by
 by_cases h:c=0
 .subst h;rw[bK];refine(DW w).mono ?_;rintro e a ⟨rfl,hb⟩;exact⟨rfl,Fr.aX hb _⟩
 .rw[aG h];refine(DX (c:Int) w g).mono ?_;rintro e a ⟨rfl,hb⟩;exact⟨rfl,Fr.aX hb _⟩
abbrev rB(p:Nat):Obj:=.cells #[.pointer (some ⟨p,0,none⟩)] 244
theorem ku.ju{q:Nat}(hf:ku h p w w')(b:aA w B h p D N v s r l d n c e)(a:w.heap[q]?=some (rB h)):w'.heap[q]?=some (rB h) :=
 (hf.block q (zza.1 a).1 (b.free a (by decide) (by decide) (by decide) (by decide) (by decide))).trans a
theorem vQ(B a p D N n b c kind:Nat)(v f r:Value)(l:au)(d:ah)(s:ByteArray)(w:World)(h:aA w B a p D N v f r l d n b c)(k:kind<256)(hn:n+3<67108864)(g:2<=B)(i:l.filled<600->l.segs≠[])(H:bI w):
  Calls prog 88 #[.pointer (some ⟨a,0,none⟩),.int .u8 (kind:Int),.string s] w (Cb B a p D N (n+3) (l.append d kind s) w):=by
 by_cases hs:255<s.size
 .refine(GR B a p D N n b c kind v f r l d s w h hs (by omega)).mono ?_;rintro e j ⟨he,⟨zE,Og,F8,AX,zZ,eh⟩,gH⟩;exact⟨he,⟨zE,Og,F8,AX,zZ,eh.lx (by omega) (by omega)⟩,gH⟩
 .exact D8 B a p D N n b c kind v f r l d s w h (by omega) k (by omega) g i H
def au.note(l:au)(d:ah)(kind:Nat)(s:ByteArray):au × ah × Nat:=((l.append d kind s).1,(l.append d kind s).2.1,(l.append d kind s).2.2.2)
theorem qi(B g a p D N n c f kind:Nat)(v i r:Value)(l:au)(d:ah)(s:ByteArray)(w:World)(b:w.heap[g]?=some (rB a))(h:aA w B a p D N v i r l d n c f)(o:kind<256)(hn:n+3<67108864)(m:2<=B)(q:l.filled<600->l.segs≠[])(j:bI w):
  Calls prog 148 #[.pointer (some ⟨g,0,none⟩),.int .u8 (kind:Int),.string s] w (jQ B a p D N (n+3) (l.note d kind s) w):=by
 have k:=ae b 0;simp at k;have C:=af (vQ B a p D N n c f kind v i r l d s w h o hn m q j);clear h b
 go_enter func148,ntmps148
 go_wp2_with fail;refine C.out.mono ?_;rintro e t ⟨rfl,dY,eE⟩;have H:=af (zzb dY eE);clear dY eE;go_wp2;go_ret;exact⟨rfl,H.1,H.2⟩
def au.keep(l:au)(d:ah)(kind:Nat)(s:ByteArray):au × ah × Nat :=
 if (l.note d kind s).2.2=0 then (l.note d kind s).1.force (l.note d kind s).2.1 else l.note d kind s
theorem tR(B g a p D N n i j kind:Nat)(v k r:Value)(l:au)(d:ah)(s:ByteArray)(w:World)(b:w.heap[g]?=some (rB a))(h:aA w B a p D N v k r l d n i j)(t:kind<256)(hn:n+3<67108864)(q:2<=B)(u:l.filled<600->l.segs≠[])(m:bI w):
  Calls prog 97 #[.pointer (some ⟨g,0,none⟩),.int .u8 (kind:Int),.string s] w (jQ B a p D N (n+3) (l.keep d kind s) w):=by
 have C:=af (qi B g a p D N n i j kind v k r l d s w b h t hn q u m);have G:=af (zzb b h);clear h b
 go_enter func97,ntmps97
 go_wp2_with fail;refine C.out.mono ?_;rintro e x ⟨rfl,⟨j9,qc,m_,lC,lu,dY⟩,eE⟩;have A:=eE.ju G.2 G.1;have o:=ae A 0;simp at o;have H:=af (zzb dY eE);clear dY eE A;by_cases c:(l.note d kind s).2.2=0
 .have e:l.keep d kind s=(l.note d kind s).1.force (l.note d kind s).2.1:=by unfold au.keep;rw[if_pos c]
  rw[c,bK];go_wp2_with fail;refine(Li B a p D N (n+3) lC lu j9 qc m_ _ _ x H.1 (by omega)).mono ?_;rintro e y ⟨rfl,eh,gH⟩;have f:=af (zzb eh (H.2.trans gH));clear eh gH;go_wp2;go_ret;rw[e];exact⟨rfl,f.1,f.2⟩
 .have e:l.keep d kind s=l.note d kind s:=by unfold au.keep;rw[if_neg c]
  rw[aG c];go_wp2;go_ret;rw[e];exact⟨by rw[aG c];rfl,⟨j9,qc,m_,lC,lu,H.1⟩,H.2⟩
section
open Go.Shelf
variable{S:List Nat}{A B:World}
structure oH(S:List Nat)(A B:World):Prop where
 size:A.heap.size<=B.heap.size
 same:∀k∈S,k<A.heap.size->B.heap[k]?=A.heap[k]?
theorem oH.trans{C:World}(h:oH S A B)(k:oH S B C):oH S A C:=
 ⟨zzk h.size k.size,λi a l=>(k.same i a<|zzl l h.size).trans<|h.same i a l⟩
theorem oH.book{w:World}(h:∀k∈S,k<w.heap.size)(W:World)(l:Nat)(o b:Obj)(c:w.heap.size<=l)(_:W.heap[l]?=some o)(_:o.isCells=false)(_:o.isWalk=false):oH S W (W.putObj l b):=
 ⟨bR,λk a _=>World.putObj_heap_other λe=>by have:=h k a;omega⟩
theorem oH.alloc(W:World)(o:Obj):oH S W (W.alloc o):=⟨bR,λk _ l=>zzf _ _ k l⟩
theorem oH.refl{S:List Nat}(W:World):oH S W W:=⟨zzc _,λ_ _ _=>rfl⟩
theorem oH.below{n:Nat}(h:Below n A B)(a:∀k∈S,k<n):oH S A B:=⟨h.size,λk b _=>h.block k<|a k b⟩
def rowsOf(v:Value):List Nat:=v.ownBlock.toList
theorem O1(n:Nat)(hn:1<=n)(l B j g u:Nat)(rs:List Rec)(hlen:rs.length<=67108864)(J d:List Rec->World->Prop)
  (D:∀s W b,J s W->W.grownBy b none->J s b)
  (Y:∀p x W,J p W->p.length<rs.length->x∈rs->YieldAt Fence.wide (n-1) prog l #[Es x] W λe b=>
   (e=.returned (.bool true)/\J (p++[x]) b/\oH [g] W b)\/(e=.returned (.bool false)/\d (p++[x]) b))
  (W:World) (G:g<W.heap.size) (P:W.cell? ⟨B,0,none⟩=some (.pointer<|some ⟨j,0,none⟩)) (A:W.cell? ⟨j,3,none⟩=some (.slice (some ⟨g,0,none⟩) rs.length u)) (R:vd W g rs) (z:J [] W) :
  CallsIn Fence.wide n prog 127 #[.func (.yield l) #[] #[],.pointer<|some ⟨B,0,none⟩] W λe b=>(∃v,e=.returned v) /\
   ((∃y,y=rs/\J y b)\/(∃p,p<+:rs/\d p b)):=by
 have⟨m,h⟩:=gb rs.length;rw[<-h]at A hlen;have H:=af h;have E:Fence.wide.round=none:=rfl;clear h;refine callsIn_of_wp func127 rfl trivial ?_ E;simp only[ntmps127,mB,zzr,mH,Nat.reduceAdd,Nat.reduceSub,mK,mL,nb,nU,n5,qC];gi_wp2;gi_loopw [10] (λi wr=>∃k:Nat,k<=m/\i=.int .i64 k/\J (rs.take k) wr/\oH [g] W wr)
  (λi _=>m-(intOf i).toNat)
 case atStart=>exact⟨0,zzs _,rfl,by simpa using z,oH.refl _⟩
 case round=>
  obtain⟨k,L,rfl,f,C⟩:=hrel;by_cases U:k<m
  .obtain⟨r,hr⟩:∃r,rs[k]?=some r:=⟨_,zzg<|by have:=H.out;omega⟩;have M:=C.same g bR G;have⟨q,o,t⟩:=R k r hr;have Q:=(zze M).trans q;have T:=(zze M).trans o;have V:=(zze M).trans t;have⟨c,O⟩:=gb <|wr.alloc (.cells #[.int .u64 (r.oq:Int),.int .u8 (r.kind:Int),.string<|str r.nH] 110);have w:wr.grownBy c none:=by rw[O];exact World.grownBy_alloc wr _ none
   have S:=D _ _ _ f w;have Z:oH [g] W c:=by rw[O];exact C.trans<|oH.alloc _ _
   have⟨K,tmps,assign,body,N,F⟩:=Y _ r c S (by rw[zzm];have:=H.out;omega)<|zzh hr;subst O;clear q o t M
   gi_wp2;apply F.mono;rintro e I (⟨rfl,rP,kW⟩|⟨rfl,uX⟩)
   .gi_wp2;go_roundw;case rel=>exact⟨k+1,bL,bR,by rw[lF hr];exact rP,Z.trans kW⟩
    case measure=>simp[intOf];omega
   .gi_wp2;apply bodyPost_ret (results_none rfl _ _ _) rfl;exact⟨⟨_,rfl⟩,.inr ⟨_,by rw[<-lF hr];exact List.take_prefix _ _,uX⟩⟩
  .obtain rfl:k=m:=bL;gi_wp2;go_end0;exact⟨⟨_,rfl⟩,.inl ⟨_,by rw[H.out,List.take_length],f⟩⟩
theorem yo(n:Nat)(hn:1<=n)(c d:Nat)(v:Value)(rs:List Rec)(w:World)(hlen:rs.length<=67108864)(M:c<w.heap.size)(N:d<w.heap.size)
  (G:w.cell? ⟨c,0,none⟩=some (.pointer (some ⟨d,0,none⟩))) (E:w.cell? ⟨d,3,none⟩=some v) (L:ve w.heap.size w v rs) :
  SeqStopsK Fence.wide n prog 127 #[.pointer (some ⟨c,0,none⟩)] (λx:{ x:Rec // x∈rs }=>#[Es x.1]) (oH (rowsOf v)) (λy=>y.map (·.1)=rs) (λb=>b.map (·.1) <+: rs) rs.length w:=λl J t W k F _ Y q=>by
 have c1:=(k.cell (p:=⟨c,0,none⟩) M).trans G;have c2:=(k.cell (p:=⟨d,3,none⟩) N).trans E;rcases L.below (k.mono (zzc _)) with⟨rfl,rfl⟩|⟨g,z,rfl,H,I⟩
 .refine(Et Fence.wide n trivial rfl l c d (λ_ W=>J [] W) W c1 c2 q).mono ?_;rintro e o ⟨he,j⟩;exact⟨he,.inl ⟨[],rfl,j⟩⟩
 .have h:=O1 n hn l c d g z rs hlen (λb W=>∃f:List { x:Rec // x∈rs },f.map (·.1)=b/\J f W) (λb W=>∃f:List { x:Rec // x∈rs },f.map (·.1)=b/\t f W)
   (λs A B hs D=>by obtain⟨a,e,j⟩:=hs;exact⟨a,e,F a A B none j D (λr e=>by cases e)⟩)
   (λb x u j U m=>by
    obtain⟨a,e,j⟩:=j;obtain⟨C,tmps,assign,body,K,R⟩:=Y a ⟨x,m⟩ u j (by rw[<-e,zzn] at U;exact U);refine⟨C,tmps,assign,body,K,R.mono ?_⟩;rintro i o (⟨r1,r2,r3⟩|⟨r1,r2⟩)
    .exact .inl ⟨r1,⟨a++[⟨x,m⟩],by simp[e],r2⟩,by simpa [rowsOf,Value.ownBlock] using r3⟩
    .exact .inr ⟨r1,⟨a++[⟨x,m⟩],by simp[e],r2⟩⟩)
   W (zzl H k.size) c1 c2 I ⟨[],rfl,q⟩
  refine h.mono ?_;rintro e o ⟨he,⟨y,rfl,a,i,j⟩|⟨b,hp,a,i,j⟩⟩
  .exact⟨he,.inl ⟨a,i,j⟩⟩
  .exact⟨he,.inr ⟨a,by show _ <+: rs;rw[i];exact hp,j⟩⟩
end
end Go.Proofs.YtcalalndmcemiaaGreatDoor
