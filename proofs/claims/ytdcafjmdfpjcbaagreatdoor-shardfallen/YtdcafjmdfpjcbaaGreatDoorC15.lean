import Derived.Test.YtdcafjmdfpjcbaaGreatDoorC14
set_option maxHeartbeats 4000000
set_option maxRecDepth 100000
namespace Go.Proofs.YtdcafjmdfpjcbaaGreatDoor
open Go.RowKit Go.Maps Tryz Sc
variable{segs:List Nat}{B D N b bN h low n p:Nat}{r v:Value}{w w':World}{d:ah}{l:aq}
theorem DY:∀{f k:Nat},k<segs.length->eL segs low f k<segs.length:=by
 intro f;induction f with
 |zero=>intro k h;exact h
 |succ f ih=>
  intro k h;by_cases a:k+1<segs.length
  .obtain⟨s,hs⟩:∃s,segs[k+1]?=some s:=⟨_,zzg a⟩;by_cases l:s<=low
   .rw[tN hs l];exact ih a
   .rw[tP hs l];exact h
  .rw[tM oE];exact h
theorem vk(h:bU segs low≠0):bU segs low<segs.length:=by
 cases segs with
 |nil=>exact absurd rfl h
 |cons a t=>exact DY sE
theorem aD.ltO{k:Nat}{s:Value}(a:aD w B b p h bN v s r l d n D N)(c:Own b p w k):k<w.heap.size:=by
 obtain e|e|e|e|e|e|e:=(a.own k).1 c
 .rw[e];exact(zza.1 a.blk).1
 .rw[e];exact(zza.1 a.bE.blk).1
 .rw[e];exact a.bE.j8.lt
 .rw[e];exact a.bE.now.lt
 .exact(a.bE.pen.lt k e).2
 .exact(a.segs.lt k e).2
 .exact(a.recs.lt k e).2
theorem kK.fK{l m:Nat}{X:List Nat}{r:aq×ah×Nat}{e:Ending}(f:kK B l p h bN n X r w e w')(b:n<=m)(U:m<=1000000000):kK B l p h bN m X r w e w':=by
 have⟨a,⟨v,s,c,D,N,d⟩,g⟩:=f;exact⟨a,⟨v,s,c,D,N,d.fK b U⟩,g⟩
theorem Nu(l:aq)(d:ah)(gone first:Nat):(l.gU d gone first).1.segs=l.segs:=by unfold aq.gU;split;split;all_goals exact rK l d
theorem Nv(l:aq)(d:ah)(gone first:Nat):(l.gU d gone first).1.recs=l.recs:=by unfold aq.gU;split;split;all_goals exact Nt l d
theorem dT(w:World)(a i b j:Nat)(v:Value)(h:b≠a):(w.setCell (d8 a i) v).cell? (d8 b j)=w.cell? (d8 b j):=
 zze (by
  by_cases c:b<w.heap.size
  .exact(Fr.cH (S:=[a]) (by simp) i v).block b c<|by simpa using h
  .rw[Array.getElem?_eq_none (by simpa using c),Array.getElem?_eq_none (by simpa using c)])
def aq.cut(l:aq)(d:ah)(low:Nat):aq × ah × Nat :=
 if bU l.segs low=0 then l.wr d (l.sync d) else
  let gone:=bU l.segs low
  let first:=l.segs.getD gone 0
  let r:=l.wr d (l.gU d gone first)
  if r.2.2=0 then ({ r.1 with recs:=r.1.recs.drop (first-(r.1.recs.headD ⟨0,0,[]⟩).cQ),segs:=r.1.segs.drop gone },r.2.1,0) else r
theorem QJ(g B b p J bN n nD nN low:Nat)(Z sv rv:Value)(l:aq)(d:ah)(w:World)(h:aD w B b p J bN Z sv rv l d n nD nN)(hn:n+2+l.segs.length<=1000000000)(hB:2<=B)(dF:dw w)
  (ab:g<=l.segs.length) (TA:l.failed=0->bU l.segs low≠0->l.pZ d (bU l.segs low) (l.segs.getD (bU l.segs low) 0)<=g) (hinv:l.failed=0->∀k s:Nat,l.segs[k]?=some s->∃r rs,l.recs=r::rs/\r.cQ<=s/\s-r.cQ<l.recs.length) :
  Calls prog 73 #[rM b,.int .u64 (low:Int)] w (jE B b p J bN (n+2+g) (l.cut d low) w):=by
 have tD:n+2+g<=1000000000:=oE;have aI:=ae TA;clear TA;have I:=ae h;clear h;by_cases M:bU l.segs low=0
 .have e:l.cut d low=l.wr d (l.sync d):=by unfold aq.cut;rw[if_pos M]
  rw[e]
  go_enter func73,ntmps73
  go_wp2_with fail;have U:Fr [] w (w.alloc<|.cells #[.pointer<|some ⟨b,0,none⟩] 59):=(lE w).alloc _;refine(sV B b p J bN n nD nN low Z sv rv l d _<|I.out.new U).mono ?_;rintro e j ⟨rfl,q,sw⟩;rw[M];have V:Fr [] w j:=by rw[sw];exact⟨U.os,U.tape,U.output,U.size,U.block⟩
  have D:j.heap[w.heap.size]?=some (.cells #[.pointer<|some ⟨b,0,none⟩] 59):=by rw[sw];exact heap_alloc_new w _
  have P:=aa D 0;simp at P;have fE:w.heap.size<j.heap.size:=(zza.1 D).1;have lf:=ae V;clear sw U V D;go_wp2_with fail;have cA:Fr [] w ((j.alloc<|.cells #[.int .i64 0] 3).alloc<|.cells #[.func (.func 96) #[.pointer<|some ⟨b,0,none⟩] #[]] 122):=(lf.out.alloc _).alloc _;refine(QF B b p J bN n nD nN (j.heap.size+1) Z sv rv l d _ (I.out.new cA) oE<|(congrArg _ sE).trans<|heap_alloc_new _ _).mono ?_;rintro e w2 ⟨rfl,⟨ya,Qg,Nc,CF,BP,eN⟩,iH⟩;have H2:Hid (jE B b p J bN (n+2+g) (l.wr d<|l.sync d) w (.returned<|cj (l.wr d<|l.sync d).2.2) w2):=⟨rfl,⟨ya,Qg,Nc,CF,BP,eN.fK oE tD⟩,(I.out.yL cA).trans iH.BG⟩;clear eN iH;go_wp2;go_ret;exact H2.out
 .obtain⟨gone,yc⟩:∃gone,bU l.segs low=gone:=⟨_,rfl⟩;have kB:gone<l.segs.length:=by rw[<-yc];exact vk M
  obtain⟨first,o_⟩:∃first,l.segs[gone]?=some first:=⟨_,zzg kB⟩
  obtain⟨gs,cs,H_⟩:=dI I.out.segs oE;subst H_;have Z2:first<18446744073709551616:=I.out.dL.2 first<|zzh o_
  have s0:=ma I.out.segs gone first o_
  have c1:=aa I.out.blk 1;simp at c1;have ak:=ae o_
  have aE:Hid (l.failed=0->n+2+l.pZ d gone first<=n+2+g):=λhf=>by
   have h1:=aI.out hf M;have e:l.segs.getD gone 0=first:=by rw[List.getD_eq_getElem?_getD,o_];rfl
   rw[yc,e]at h1;omega
  have wA:=(zza.1 I.out.blk).1;have ab:=(I.out.segs.lt gs rfl).2;clear o_
  go_enter func73,ntmps73
  go_wp2_with fail;have U:Fr [] w (w.alloc<|.cells #[.pointer<|some ⟨b,0,none⟩] 59):=(lE w).alloc _;refine(sV B b p J bN n nD nN low Z _ rv l d _<|I.out.new U).mono ?_;rintro e j ⟨rfl,q,sw⟩;rw[yc];have V:Fr [] w j:=by rw[sw];exact⟨U.os,U.tape,U.output,U.size,U.block⟩
  have D:j.heap[w.heap.size]?=some (.cells #[.pointer<|some ⟨b,0,none⟩] 59):=by rw[sw];exact heap_alloc_new w _
  have P:=aa D 0;simp at P;have fE:w.heap.size<j.heap.size:=(zza.1 D).1;have lf:=ae V;have al:=ae D;have d1:j.cell? ⟨b,1,none⟩=some (.slice (some ⟨gs,0,none⟩) l.segs.length cs):=(zze (a:=⟨b,1,none⟩)<|V.block b wA sE).trans c1;have t1:j.cell? ⟨gs,gone,none⟩=some (.int .u64 (first:Int)):=(zze (a:=⟨gs,gone,none⟩)<|V.block gs ab sE).trans s0;have k0:¬(gone:Int)=0:=oE
  have k1:((gone:Int)==0)=false:=by simpa using k0
  have k2:(gone:Int)<(l.segs.length:Int):=oE;have k3:(0:Int)<=gone:=oE;clear sw U V D c1 s0;have b8:b<j.heap.size:=oE;have ay:gs<j.heap.size:=oE;go_wp2_with fail
  go_region
  go_wp2_with fail;obtain⟨C,X⟩:∃C:World,C=(((j.alloc<|.cells #[.int .i64 (gone:Int)] 3).alloc<|.cells #[.int .u64 (first:Int)] 34).alloc<|.cells #[.func (.func 96) #[.pointer<|some ⟨b,0,none⟩] #[],.func (.func 118) #[] #[.pointer<|some ⟨w.heap.size,0,none⟩,.pointer<|some ⟨j.heap.size+1,0,none⟩],.func (.func 120) #[] #[.pointer<|some ⟨w.heap.size,0,none⟩,.pointer<|some ⟨j.heap.size,0,none⟩]] 122).drew:=⟨_,rfl⟩;rw[<-X];have dD:Fr [] w C:=by rw[X];exact(((lf.out.alloc _).alloc _).alloc _).drew
  have yG:Fr [] j C:=by rw[X];exact((((lE j).alloc _).alloc _).alloc _).drew
  have pX:C.heap[j.heap.size+1+1]?=some (.cells #[.func (.func 96) #[.pointer<|some ⟨b,0,none⟩] #[],.func (.func 118) #[] #[.pointer<|some ⟨w.heap.size,0,none⟩,.pointer<|some ⟨j.heap.size+1,0,none⟩],.func (.func 120) #[] #[.pointer<|some ⟨w.heap.size,0,none⟩,.pointer<|some ⟨j.heap.size,0,none⟩]] 122):=by
   rw[X];exact(congrArg _ sE).trans<|heap_alloc_new _ _
  have Yj:C.heap[j.heap.size]?=some (.cells #[.int .i64 (gone:Int)] 3):=by
   rw[X];exact(zzf _ _ _ sC).trans<|(zzf _ _ _ sE).trans<|heap_alloc_new _ _
  have UM:C.heap[j.heap.size+1]?=some (.cells #[.int .u64 (first:Int)] 34):=by
   rw[X];exact(zzf _ _ _ sE).trans<|(congrArg _ sE).trans<|heap_alloc_new _ _
  have DZ:C.heap[w.heap.size]?=some (.cells #[.pointer<|some ⟨b,0,none⟩] 59):=(yG.block _ fE sE).trans al.out;have sT:=I.out.new dD
  have FV:¬Own b p C (j.heap.size+1):=λho=>by
   have:=I.out.ltO<|(I.out.own _).2<|(sT.own _).1 ho;omega
  have b7:dw C:=dF.cF (dD.block 1 (by have:=I.out.bE.base.2.2.2;omega) sE);obtain⟨y,D⟩:∃y,w.heap.size=y:=⟨_,rfl⟩;obtain⟨u,qd⟩:∃u,j.heap.size=u:=⟨_,rfl⟩;have Ly:b<y/\y<u:=oE
  have b6:u+1<C.heap.size:=by rw[<-qd];exact(zza.1 UM).1
  have Tw:=ae<|I.out.yL dD;rw[D]at pX DZ ⊢;rw[qd]at pX Yj UM FV ⊢;have H3:=ae sT;have qe:=Yh B b p J bN n nD nN (n+2+g) [] Z _ rv (some ⟨u+1+1,0,none⟩) 3 3 l d (l.gU d gone first) C sT oE tD (λU=>(UK B b p J bN n nD nN (u+1+1) y (u+1) u first gone Z _ rv l d C sT oE hB b7 Z2 oE oE pX DZ UM FV Yj).mono λe w' h=>h.fK (aE.out U) tD);have b4:=ae DZ;have ao:=ae<|zzb UM FV;have b3:=ae Yj;clear X dD yG pX Yj UM DZ FV sT D qd P lf d1 t1 al fE b8 ay ab wA;refine qe.mono ?_;rintro e x ⟨rfl,⟨pv4,sv4,rv4,nD4,nN4,H⟩,lh⟩;clear qe;have E:=ae H;have a8:=ae lh.BG;clear H lh;by_cases O:(l.wr d<|l.gU d gone first).2.2=0
  .have T:l.failed=0:=by
    by_cases T:l.failed=0
    .exact T
    .exfalso;unfold aq.wr at O;rw[if_neg T]at O;exact T O
   obtain⟨R,rs,sW,kn,lQ⟩:=hinv T gone first ak.out
   obtain⟨L,hL⟩:∃L,L=(l.wr d<|l.gU d gone first).1:=⟨_,rfl⟩;obtain⟨a',hD⟩:∃a',a'=(l.wr d<|l.gU d gone first).2.1:=⟨_,rfl⟩;have ad:L.segs=l.segs:=by rw[hL];unfold aq.wr;rw[if_pos T];exact Nu l d gone first
   have Y:L.recs=l.recs:=by rw[hL];unfold aq.wr;rw[if_pos T];exact Nv l d gone first
   have hcut:Hid (l.cut d low=({L with recs:=L.recs.drop<|first-R.cQ,segs:=L.segs.drop gone},a',0)):=by
    show l.cut d low=_;unfold aq.cut;rw[if_neg M,yc];simp only;rw[show l.segs.getD gone 0=first by rw[List.getD_eq_getElem?_getD,ak.out];rfl,if_pos O,<-hL,<-hD,Y,sW];rfl
   rw[<-hL,<-hD]at E;have H:=E.out;obtain⟨z,cr,aC⟩:=dI H.recs (by rw[Y,sW];simp);obtain⟨g5,c5,H_⟩:=dI H.segs (by rw[ad];omega);subst aC H_;obtain⟨k,hk⟩:∃k,k=first-R.cQ:=⟨_,rfl⟩
   obtain⟨m,N⟩:∃m,m=L.recs.length:=⟨_,rfl⟩;have WA:k<m:=by rw[hk,N,Y];exact lQ
   have I2:∀{q:Nat} {c:Array Value} {t:TypeId},C.heap[q]?=some (.cells c t (0,0))->t≠58->t≠162->t≠137->t≠34->t≠82->x.heap[q]?=some (.cells c t (0,0)):=λ{q c t} M h1 h2 h3 h4 h5=>
    (a8.out.block q (zza.1 M).1<|H3.out.free M h1 h2 h3 h4 h5).trans M
   have e0:=I2 b4.out dN dN dN dN dN;have e2:=I2 b3.out dN dN dN dN dN;have e1:=(a8.out.block (u+1) b6 ao.2).trans ao.1;have a0:x.cell? ⟨y,0,none⟩=some (.pointer<|some ⟨b,0,none⟩):=(aa e0 0).trans sE;have a1:x.cell? ⟨u+1,0,none⟩=some (.int .u64 (first:Int)):=(aa e1 0).trans sE;have a2:x.cell? ⟨u,0,none⟩=some (.int .i64 (gone:Int)):=(aa e2 0).trans sE;have a3:x.cell? ⟨b,3,none⟩=some (.slice (some ⟨z,0,none⟩) m cr):=by rw[N];exact(aa H.blk 3).trans sE
   have a4:x.cell? ⟨z,0,none⟩=some (.int .u64 (R.cQ:Int)):=by
    have:=H.recs.cells (g:=z) rfl 0 (.int .u64 (R.cQ:Int))<|by rw[Y,sW];rfl
    simpa [Addr.add_lit]using this
   have a5:x.frozen? ⟨b,3,none⟩=false:=au H.blk 3;have j1:IntKind.u64.wrap ((first:Int)-(R.cQ:Int))=(k:Int):=by rw[IntKind.wrap_u64];omega
   have j2:(k:Int)<=m:=oE;have j3:m<=cr:=by
    rcases H.recs.2 with⟨e,_⟩|⟨g',fW,aA,e,_,_,h3,h4,_⟩
    .cases e
    .cases e;rw[N];exact h3
   have j4:(k:Int)<=cr:=oE;have j5:0<m:=oE;have j6:¬cr=k:=oE;have ba:m<=n+2+g:=by rw[N];exact H.fV
   have a6:b<x.heap.size/\y<x.heap.size/\u+1<x.heap.size/\z<x.heap.size:=⟨(zza.1 H.blk).1,(zza.1 e0).1,(zza.1 e1).1,(H.recs.lt z rfl).2⟩;have HE:=ae<|zzb e0 e2;have an:=ae<|zzb Y<|zzb ad<|zzb hk<|zzb N<|zzb sW kn;clear hL hD Y ad hk sW kn lQ H hinv e0 e1 e2 I2;have UN:=Yi B z m cr k L.recs x.drew (by rw[N];exact E.out.recs) N.symm oE;have b0:=ae UN;have a7:y≠b/\u+1≠b/\z≠b:=⟨oE,oE,λe=>bG E.out.recs E.out.blk dN<|by rw[e];rfl⟩;have mB:0<(L.recs.drop k).length:=sC
   clear N UN;rw[O,bQ];clear O;go_wp2_with fail;refine wp_region_held_drew (S:=(λw'=>w'.cell? ⟨y,0,none⟩=some (.pointer<|some ⟨b,0,none⟩)/\w'.cell? ⟨u+1,0,none⟩=some (.int .u64 (first:Int))/\w'.cell? ⟨z,0,none⟩=some (.int .u64 (R.cQ:Int)))) k6 ?_ (λF=>?_)
   .simp[*]
   refine wpAnyH_take (i:=0) (oi:=⟨some 35,.load 59 (.tmp 2),59,"log.go:68",#[],none⟩) (v:=.pointer (some ⟨b,0,none⟩)) rfl k6 k6 k6 (λ_ _ _ h=>h) (Or.inl ⟨by rfl,?_⟩) pE ?_
   .intro w hSw;(try dsimp only at hSw);go_simp
   (try simp only[Act.put,List.setIfInBounds_toArray,List.set_cons_zero,List.set_cons_succ])
   refine wpAnyH_take (i:=1) (oi:=⟨some 36,.load 59 (.tmp 2),59,"log.go:68",#[],none⟩) (v:=.pointer (some ⟨b,0,none⟩)) rfl k6 k6 k6 (λ_ _ _ h=>h) (Or.inl ⟨by rfl,?_⟩) pE ?_
   .intro w hSw;(try dsimp only at hSw);go_simp
   (try simp only[Act.put,List.setIfInBounds_toArray,List.set_cons_zero,List.set_cons_succ])
   refine wpAnyH_take (i:=2) (oi:=⟨some 37,.nilCheck (.tmp 36),0,"log.go:68",#[⟨1,.data⟩],none⟩) (v:=.pointer (some ⟨b,0,none⟩)) rfl k6 k6 k6 (λ_ _ _ h=>h) (Or.inl ⟨by rfl,?_⟩) pE ?_
   .intro w hSw;(try dsimp only at hSw);go_simp
   (try simp only[Act.put,List.setIfInBounds_toArray,List.set_cons_zero,List.set_cons_succ])
   refine wpAnyH_take (i:=3) (oi:=⟨some 38,.fieldAddr 137 (.tmp 37) 3,0,"log.go:68",#[⟨2,.data⟩],none⟩) (v:=.pointer (some ⟨b,3,none⟩)) rfl k6 k6 k6 (λ_ _ _ h=>h) (Or.inl ⟨by rfl,?_⟩) pE ?_
   .intro w hSw;(try dsimp only at hSw);go_simp
   (try simp only[Act.put,List.setIfInBounds_toArray,List.set_cons_zero,List.set_cons_succ])
   refine wpAnyH_take (i:=5) (oi:=⟨some 40,.load 34 (.tmp 6),34,"log.go:68",#[],none⟩) (v:=.int .u64 (first:Int)) rfl k6 k6 k6 (λ_ _ _ h=>h) (Or.inl ⟨by rfl,?_⟩) pE ?_
   .intro w hSw;(try dsimp only at hSw);go_simp
   (try simp only[Act.put,List.setIfInBounds_toArray,List.set_cons_zero,List.set_cons_succ])
   refine wpAnyH_take (i:=6) (oi:=⟨some 41,.load 59 (.tmp 2),59,"log.go:68",#[],none⟩) (v:=.pointer (some ⟨b,0,none⟩)) rfl k6 k6 k6 (λ_ _ _ h=>h) (Or.inl ⟨by rfl,?_⟩) pE ?_
   .intro w hSw;(try dsimp only at hSw);go_simp
   (try simp only[Act.put,List.setIfInBounds_toArray,List.set_cons_zero,List.set_cons_succ])
   refine wpAnyH_take (i:=7) (oi:=⟨some 42,.nilCheck (.tmp 41),0,"log.go:68",#[⟨6,.data⟩],none⟩) (v:=.pointer (some ⟨b,0,none⟩)) rfl k6 k6 k6 (λ_ _ _ h=>h) (Or.inl ⟨by rfl,?_⟩) pE ?_
   .intro w hSw;(try dsimp only at hSw);go_simp
   (try simp only[Act.put,List.setIfInBounds_toArray,List.set_cons_zero,List.set_cons_succ])
   refine wpAnyH_take (i:=8) (oi:=⟨some 43,.fieldAddr 137 (.tmp 42) 3,0,"log.go:68",#[⟨7,.data⟩],none⟩) (v:=.pointer (some ⟨b,3,none⟩)) rfl k6 k6 k6 (λ_ _ _ h=>h) (Or.inl ⟨by rfl,?_⟩) pE ?_
   .intro w hSw;(try dsimp only at hSw);go_simp
   (try simp only[Act.put,List.setIfInBounds_toArray,List.set_cons_zero,List.set_cons_succ])
   refine wpAnyH_ready (rs:=[4,9]) k6 sE ?_;refine AllReadyH.cons (o:=⟨some 39,.load 35 (.tmp 38),35,"log.go:68",#[⟨3,.data⟩],none⟩) rfl (λK f=>?_) (AllReadyH.cons (o:=⟨some 44,.load 35 (.tmp 43),35,"log.go:68",#[⟨8,.data⟩],none⟩) rfl (λK f=>?_) AllReadyH.nil)
   focus
    go_simp;refine f.out _ _ ?_ λF=>?_
    .simp[*]
    clear f K
    (try simp only[Act.put,mA,mC,mI])
    refine wpAnyH_ready (rs:=[9]) k6 sE ?_;refine AllReadyH.cons (o:=⟨some 44,.load 35 (.tmp 43),35,"log.go:68",#[⟨8,.data⟩],none⟩) rfl (λK f=>?_) AllReadyH.nil;go_simp;refine f.out _ _ ?_ (λF=>?_)
    .simp[*]
    clear f K
    (try simp only[Act.put,mA,mC,mI])
    refine wpAnyH_take (i:=10) (oi:=⟨some 45,.indexAddr 35 (.tmp 44) (.const (Value.int IntKind.i64 0)),0,"log.go:68",#[⟨9,.data⟩],none⟩) (v:=.pointer (some ⟨z,0,none⟩)) rfl k6 k6 k6 (λ_ _ _ h=>h) (Or.inl ⟨by rfl,?_⟩) pE ?_
    .intro w hSw;(try dsimp only at hSw);go_simp
    (try simp only[Act.put,List.setIfInBounds_toArray,List.set_cons_zero,List.set_cons_succ])
    refine wpAnyH_take (i:=11) (oi:=⟨some 46,.fieldAddr 82 (.tmp 45) 0,0,"log.go:68",#[⟨10,.data⟩],none⟩) (v:=.pointer (some ⟨z,0,none⟩)) rfl k6 k6 k6 (λ_ _ _ h=>h) (Or.inl ⟨by rfl,?_⟩) pE ?_
    .intro w hSw;(try dsimp only at hSw);go_simp
    (try simp only[Act.put,List.setIfInBounds_toArray,List.set_cons_zero,List.set_cons_succ])
    refine wpAnyH_take (i:=12) (oi:=⟨some 47,.load 34 (.tmp 46),34,"log.go:68",#[⟨11,.data⟩],none⟩) (v:=.int .u64 (R.cQ:Int)) rfl k6 k6 k6 (λ_ _ _ h=>h) (Or.inl ⟨by rfl,?_⟩) pE ?_
    .intro w hSw;(try dsimp only at hSw);go_simp
    (try simp only[Act.put,List.setIfInBounds_toArray,List.set_cons_zero,List.set_cons_succ])
    refine wpAnyH_take (i:=13) (oi:=⟨some 48,.binOp BinOp.sub 34 (.tmp 40) (.tmp 47) 34,34,"log.go:68",#[⟨5,.data⟩,⟨12,.data⟩],none⟩) (v:=.int .u64 (k:Int)) rfl k6 k6 k6 (λ_ _ _ h=>h) (Or.inl ⟨by rfl,?_⟩) pE ?_
    .intro w hSw;(try dsimp only at hSw);go_simp
   rotate_left
   focus
    go_simp;refine f.out _ _ ?_ λF=>?_
    .simp[*]
    clear f K
    (try simp only[Act.put,mA,mC,mI])
    refine wpAnyH_take (i:=10) (oi:=⟨some 45,.indexAddr 35 (.tmp 44) (.const (Value.int IntKind.i64 0)),0,"log.go:68",#[⟨9,.data⟩],none⟩) (v:=.pointer (some ⟨z,0,none⟩)) rfl k6 k6 k6 (λ_ _ _ h=>h) (Or.inl ⟨by rfl,?_⟩) pE ?_
    .intro w hSw;(try dsimp only at hSw);go_simp
    (try simp only[Act.put,List.setIfInBounds_toArray,List.set_cons_zero,List.set_cons_succ])
    refine wpAnyH_take (i:=11) (oi:=⟨some 46,.fieldAddr 82 (.tmp 45) 0,0,"log.go:68",#[⟨10,.data⟩],none⟩) (v:=.pointer (some ⟨z,0,none⟩)) rfl k6 k6 k6 (λ_ _ _ h=>h) (Or.inl ⟨by rfl,?_⟩) pE ?_
    .intro w hSw;(try dsimp only at hSw);go_simp
    (try simp only[Act.put,List.setIfInBounds_toArray,List.set_cons_zero,List.set_cons_succ])
    refine wpAnyH_take (i:=12) (oi:=⟨some 47,.load 34 (.tmp 46),34,"log.go:68",#[⟨11,.data⟩],none⟩) (v:=.int .u64 (R.cQ:Int)) rfl k6 k6 k6 (λ_ _ _ h=>h) (Or.inl ⟨by rfl,?_⟩) pE ?_
    .intro w hSw;(try dsimp only at hSw);go_simp
    (try simp only[Act.put,List.setIfInBounds_toArray,List.set_cons_zero,List.set_cons_succ])
    refine wpAnyH_take (i:=13) (oi:=⟨some 48,.binOp BinOp.sub 34 (.tmp 40) (.tmp 47) 34,34,"log.go:68",#[⟨5,.data⟩,⟨12,.data⟩],none⟩) (v:=.int .u64 (k:Int)) rfl k6 k6 k6 (λ_ _ _ h=>h) (Or.inl ⟨by rfl,?_⟩) pE ?_
    .intro w hSw;(try dsimp only at hSw);go_simp
    (try simp only[Act.put,List.setIfInBounds_toArray,List.set_cons_zero,List.set_cons_succ])
    refine wpAnyH_ready (rs:=[4]) k6 sE ?_;refine AllReadyH.cons (o:=⟨some 39,.load 35 (.tmp 38),35,"log.go:68",#[⟨3,.data⟩],none⟩) rfl (λK f=>?_) AllReadyH.nil;go_simp;refine f.out _ _ ?_ (λF=>?_)
    .simp[*]
    clear f K
   all_goals
    (try simp only[Act.put,List.setIfInBounds_toArray,List.set_cons_zero,List.set_cons_succ])
    refine wpAnyH_take (i:=14) (oi:=⟨some 49,.slice 35 (.tmp 39) (some (.tmp 48)) none none,35,"log.go:68",#[⟨4,.data⟩,⟨13,.data⟩],none⟩) (v:=.slice (some ⟨z,k*3,none⟩) (m-k) (cr-k)) rfl k6 k6 k6 (λ_ _ _ h=>h) (Or.inl ⟨by rfl,?_⟩) pE ?_
    .intro w hSw;(try dsimp only at hSw);go_simp
    (try simp only[Act.put,List.setIfInBounds_toArray,List.set_cons_zero,List.set_cons_succ])
    refine wpAnyH_ready (rs:=[15]) k6 sE ?_;refine AllReadyH.cons rfl (λK f=>?_) AllReadyH.nil;go_simp;refine b0.out.mono ?_;rintro e Q ⟨v5,rfl,qx,lr⟩;obtain⟨g6,c6,UO⟩:=dI qx mB;subst UO;have A:Below x.heap.size x Q:=⟨lr.os,lr.tape,lr.output,lr.size,lr.block⟩;have P:=(A.cell (p:=⟨y,0,none⟩) a6.2.1).trans a0;have x2:=(A.cell (p:=⟨u+1,0,none⟩) a6.2.2.1).trans a1;have x3:=(A.cell (p:=⟨b,3,none⟩) a6.1).trans a3;have x4:=(A.cell (p:=⟨z,0,none⟩) a6.2.2.2).trans a4;have x5:Q.frozen? ⟨b,3,none⟩=false:=(zzw (a:=⟨b,3,none⟩)<|A.block b a6.1).trans a5;have y1:=λv=>(dT Q b 3 y 0 v a7.1).trans P;have y2:=λv=>(dT Q b 3 (u+1) 0 v a7.2.1).trans x2;have y4:=λv=>(dT Q b 3 z 0 v a7.2.2).trans x4;have H5:Hid (Q.ownsRow x.heap.size 82 3 (.slice (some ⟨g6,0,none⟩) (L.recs.drop k).length c6) (L.recs.drop k).length (cG<|L.recs.drop k)/\Below x.heap.size x Q):=⟨qx,A⟩;clear qx lr A
    go_wp2_with fail;refine f.out _ _ ?_ λF=>?_
    .simp[*]
    clear f K
    (try simp only[Act.put,mA,mC,mI])
    refine wpAnyH_take (i:=16) (oi:=⟨some 51,.nilCheck (.tmp 35),0,"log.go:68",#[⟨0,.data⟩,⟨0,.phase⟩,⟨1,.phase⟩,⟨2,.phase⟩,⟨3,.phase⟩,⟨4,.phase⟩,⟨5,.phase⟩,⟨6,.phase⟩,⟨7,.phase⟩,⟨8,.phase⟩,⟨9,.phase⟩,⟨10,.phase⟩,⟨11,.phase⟩,⟨12,.phase⟩,⟨13,.phase⟩,⟨14,.phase⟩,⟨15,.phase⟩],none⟩) (v:=.pointer (some ⟨b,0,none⟩)) rfl k6 k6 k6 (λ_ _ _ h=>h) (Or.inl ⟨by rfl,?_⟩) pE ?_
    .intro w hSw;(try dsimp only at hSw);go_simp
    (try simp only[Act.put,List.setIfInBounds_toArray,List.set_cons_zero,List.set_cons_succ])
    refine wpAnyH_take (i:=17) (oi:=⟨some 52,.fieldAddr 137 (.tmp 51) 3,0,"log.go:68",#[⟨16,.data⟩,⟨0,.phase⟩,⟨1,.phase⟩,⟨2,.phase⟩,⟨3,.phase⟩,⟨4,.phase⟩,⟨5,.phase⟩,⟨6,.phase⟩,⟨7,.phase⟩,⟨8,.phase⟩,⟨9,.phase⟩,⟨10,.phase⟩,⟨11,.phase⟩,⟨12,.phase⟩,⟨13,.phase⟩,⟨14,.phase⟩,⟨15,.phase⟩],none⟩) (v:=.pointer (some ⟨b,3,none⟩)) rfl k6 k6 k6 (λ_ _ _ h=>h) (Or.inl ⟨by rfl,?_⟩) pE ?_
    .intro w hSw;(try dsimp only at hSw);go_simp
    (try simp only[Act.put,List.setIfInBounds_toArray,List.set_cons_zero,List.set_cons_succ])
    refine wpAnyH_ready (rs:=[18]) k6 sE ?_;refine AllReadyH.cons rfl (λK f=>?_) AllReadyH.nil;go_simp;refine f.out _ _ ?_ λF=>?_
    .simp[*]
    clear f K
    (try simp only[Act.put,mA,mC,mI])
    refine wpAnyH_done k6 ?_ _;go_wp2_with fail;obtain⟨W,qg⟩:∃W:World,W=Q.setCell ⟨b,3,none⟩ (.slice (some ⟨g6,0,none⟩) (L.recs.length-k) c6):=⟨_,rfl⟩;rw[<-qg];clear F;have G:=E.out.LI H5.2 H5.1 (by simp;have:=E.out.fV;omega);rw[zzz,<-qg]at G;have b1:=(G.2.2.block y a6.2.1<|by simpa using a7.1).trans HE.1;have b2:=(G.2.2.block u oE sC).trans HE.2;have z1:W.cell? ⟨y,0,none⟩=some (.pointer<|some ⟨b,0,none⟩):=(aa b1 0).trans sE;have z2:W.cell? ⟨u,0,none⟩=some (.int .i64 (gone:Int)):=(aa b2 0).trans sE;obtain⟨ns,xX⟩:∃ns,ns=L.segs.length:=⟨_,rfl⟩;have z3:W.cell? ⟨b,1,none⟩=some (.slice (some ⟨g5,0,none⟩) ns c5):=by rw[xX];exact(aa G.1.blk 1).trans sE
    have z5:W.frozen? ⟨b,1,none⟩=false:=au G.1.blk 1;have b':gone<ns:=by rw[xX,an.2.1];exact kB
    have hc5:ns<=c5:=by
     rcases G.1.segs.2 with⟨e,_⟩|⟨g',fW,aA,e,_,_,h3,h4,_⟩
     .cases e
     .cases e;rw[xX];exact h3
    have l1:(gone:Int)<=ns:=oE;have l2:(gone:Int)<=c5:=oE;have l3:¬c5=gone:=oE;have aX:Hid (Calls prog 123 #[.slice (some ⟨g5,gone,none⟩) (ns-gone)<|c5-gone] W.drew λe w'=>∃v,e=.returned v/\w'.ownsRow W.drew.heap.size 34 1 v (L.segs.drop gone).length (dh<|L.segs.drop gone)/\Below W.drew.heap.size W.drew w'):=QH B g5 ns c5 gone L.segs W.drew (by rw[xX];exact G.1.segs) xX.symm (by have h7:L.segs.length<=n+2+g:=E.out.dL.1;omega);have QK:b<W.heap.size/\y<W.heap.size/\u<W.heap.size:=⟨(zza.1 G.1.blk).1,(zza.1 b1).1,(zza.1 b2).1⟩;have Yk:0<(L.segs.drop gone).length:=sC
    have Q6:=ae<|zzb G.1 G.2.1;clear G b1 b2 xX qg;refine wp_region_held_drew (S:=(λw'=>w'.cell? ⟨y,0,none⟩=some (.pointer<|some ⟨b,0,none⟩)/\w'.cell? ⟨u,0,none⟩=some (.int .i64 (gone:Int)))) k6 ?_ (λF=>?_)
    .simp[*]
    refine wpAnyH_take (i:=0) (oi:=⟨some 53,.load 59 (.tmp 2),59,"log.go:69",#[],none⟩) (v:=.pointer (some ⟨b,0,none⟩)) rfl k6 k6 k6 (λ_ _ _ h=>h) (Or.inl ⟨by rfl,?_⟩) pE ?_
    .intro w hSw;(try dsimp only at hSw);go_simp
    (try simp only[Act.put,List.setIfInBounds_toArray,List.set_cons_zero,List.set_cons_succ])
    refine wpAnyH_take (i:=1) (oi:=⟨some 54,.load 59 (.tmp 2),59,"log.go:69",#[],none⟩) (v:=.pointer (some ⟨b,0,none⟩)) rfl k6 k6 k6 (λ_ _ _ h=>h) (Or.inl ⟨by rfl,?_⟩) pE ?_
    .intro w hSw;(try dsimp only at hSw);go_simp
    (try simp only[Act.put,List.setIfInBounds_toArray,List.set_cons_zero,List.set_cons_succ])
    refine wpAnyH_take (i:=2) (oi:=⟨some 55,.nilCheck (.tmp 54),0,"log.go:69",#[⟨1,.data⟩],none⟩) (v:=.pointer (some ⟨b,0,none⟩)) rfl k6 k6 k6 (λ_ _ _ h=>h) (Or.inl ⟨by rfl,?_⟩) pE ?_
    .intro w hSw;(try dsimp only at hSw);go_simp
    (try simp only[Act.put,List.setIfInBounds_toArray,List.set_cons_zero,List.set_cons_succ])
    refine wpAnyH_take (i:=3) (oi:=⟨some 56,.fieldAddr 137 (.tmp 55) 1,0,"log.go:69",#[⟨2,.data⟩],none⟩) (v:=.pointer (some ⟨b,1,none⟩)) rfl k6 k6 k6 (λ_ _ _ h=>h) (Or.inl ⟨by rfl,?_⟩) pE ?_
    .intro w hSw;(try dsimp only at hSw);go_simp
    (try simp only[Act.put,List.setIfInBounds_toArray,List.set_cons_zero,List.set_cons_succ])
    refine wpAnyH_take (i:=5) (oi:=⟨some 58,.load 3 (.tmp 5),3,"log.go:69",#[],none⟩) (v:=.int .i64 (gone:Int)) rfl k6 k6 k6 (λ_ _ _ h=>h) (Or.inl ⟨by rfl,?_⟩) pE ?_
    .intro w hSw;(try dsimp only at hSw);go_simp
    (try simp only[Act.put,List.setIfInBounds_toArray,List.set_cons_zero,List.set_cons_succ])
    refine wpAnyH_ready (rs:=[4]) k6 sE ?_;refine AllReadyH.cons (o:=⟨some 57,.load 49 (.tmp 56),49,"log.go:69",#[⟨3,.data⟩],none⟩) rfl (λK f=>?_) AllReadyH.nil;go_simp;refine f.out _ _ ?_ (λF=>?_)
    .simp[*]
    clear f K
    (try simp only[Act.put,mA,mC,mI])
    refine wpAnyH_take (i:=6) (oi:=⟨some 59,.slice 49 (.tmp 57) (some (.tmp 58)) none none,49,"log.go:69",#[⟨4,.data⟩,⟨5,.data⟩],none⟩) (v:=.slice (some ⟨g5,gone,none⟩) (ns-gone) (c5-gone)) rfl k6 k6 k6 (λ_ _ _ h=>h) (Or.inl ⟨by rfl,?_⟩) pE ?_
    .intro w hSw;(try dsimp only at hSw);go_simp
    (try simp only[Act.put,List.setIfInBounds_toArray,List.set_cons_zero,List.set_cons_succ])
    refine wpAnyH_ready (rs:=[7]) k6 sE ?_;refine AllReadyH.cons rfl (λK f=>?_) AllReadyH.nil;go_simp;refine aX.out.mono ?_;rintro e w7 ⟨v7,rfl,ho7,sX⟩;obtain⟨g8,c8,Yl⟩:=dI ho7 Yk;subst Yl;have A:Below W.heap.size W w7:=⟨sX.os,sX.tape,sX.output,sX.size,sX.block⟩;have P:=(A.cell (p:=⟨y,0,none⟩) QK.2.1).trans z1;have x2:=(A.cell (p:=⟨u,0,none⟩) QK.2.2).trans z2;have x3:=(A.cell (p:=⟨b,1,none⟩) QK.1).trans z3;have x5:w7.frozen? ⟨b,1,none⟩=false:=(zzw (a:=⟨b,1,none⟩)<|A.block b QK.1).trans z5;have y1:=λv=>(dT w7 b 1 y 0 v a7.1).trans P
    have y2:=λv=>(dT w7 b 1 u 0 v oE).trans x2
    have H7:=ae<|zzb ho7 A;clear ho7 sX A;go_wp2_with fail;refine f.out _ _ ?_ λF=>?_
    .simp[*]
    clear f K
    (try simp only[Act.put,mA,mC,mI])
    refine wpAnyH_take (i:=8) (oi:=⟨some 61,.nilCheck (.tmp 53),0,"log.go:69",#[⟨0,.data⟩,⟨0,.phase⟩,⟨1,.phase⟩,⟨2,.phase⟩,⟨3,.phase⟩,⟨4,.phase⟩,⟨5,.phase⟩,⟨6,.phase⟩,⟨7,.phase⟩],none⟩) (v:=.pointer (some ⟨b,0,none⟩)) rfl k6 k6 k6 (λ_ _ _ h=>h) (Or.inl ⟨by rfl,?_⟩) pE ?_
    .intro w hSw;(try dsimp only at hSw);go_simp
    (try simp only[Act.put,List.setIfInBounds_toArray,List.set_cons_zero,List.set_cons_succ])
    refine wpAnyH_take (i:=9) (oi:=⟨some 62,.fieldAddr 137 (.tmp 61) 1,0,"log.go:69",#[⟨8,.data⟩,⟨0,.phase⟩,⟨1,.phase⟩,⟨2,.phase⟩,⟨3,.phase⟩,⟨4,.phase⟩,⟨5,.phase⟩,⟨6,.phase⟩,⟨7,.phase⟩],none⟩) (v:=.pointer (some ⟨b,1,none⟩)) rfl k6 k6 k6 (λ_ _ _ h=>h) (Or.inl ⟨by rfl,?_⟩) pE ?_
    .intro w hSw;(try dsimp only at hSw);go_simp
    (try simp only[Act.put,List.setIfInBounds_toArray,List.set_cons_zero,List.set_cons_succ])
    refine wpAnyH_ready (rs:=[10]) k6 sE ?_;refine AllReadyH.cons rfl (λK f=>?_) AllReadyH.nil;go_simp;refine f.out _ _ ?_ λF=>?_
    .simp[*]
    clear f K
    (try simp only[Act.put,mA,mC,mI])
    refine wpAnyH_done k6 ?_ _;have q8:=Q6.1.LJ H7.2 H7.1 ⟨by have h7:L.segs.length<=n+2+g:=E.out.dL.1;simp;omega,λs hs=>E.out.dL.2 s<|List.mem_of_mem_drop hs⟩;rw[zzz]at q8
    have H8:Hid (jE B b p J bN (n+2+g) (l.cut d low) w (.returned .nilIface)<|w7.setCell ⟨b,1,none⟩<|.slice (some ⟨g8,0,none⟩) (L.segs.length-gone) c8):=by
     show jE _ _ _ _ _ _ _ _ _ _;rw[hcut.out,<-an.2.2.1];exact⟨rfl,⟨pv4,_,_,nD4,nN4,q8.1⟩,Tw.out.trans<|a8.out.trans<|Q6.2.trans q8.2.1⟩
    clear q8;go_wp2;go_ret;exact H8.out
  .have e:l.cut d low=l.wr d (l.gU d gone first):=by unfold aq.cut;rw[if_neg M,yc];simp only;rw[show l.segs.getD gone 0=first by rw[List.getD_eq_getElem?_getD,ak.out];rfl,if_neg O]
   have H5:Hid (jE B b p J bN (n+2+g) (l.cut d low) w (.returned<|cj (l.wr d<|l.gU d gone first).2.2) x):=by
    show jE _ _ _ _ _ _ _ _ _ _;rw[e];exact⟨rfl,⟨pv4,sv4,rv4,nD4,nN4,E.out⟩,Tw.out.trans a8.out⟩
   rw[aG O]at H5 ⊢;go_wp2;go_ret;exact H5.out
abbrev fY(a b c d:Int):Value:=.agg #[.int .i64 a,.int .i64 b,.int .i64 c,.int .i64 d]
def ah.bj(d:ah)(a b:Int):ah:={ d with left:=a,full:=b }
section
variable{w w':World}{B hp E p h bN n J O:Nat}{I U f:Value}{l:aq}{d:ah}
theorem aD.bj(e:aD w B E p h bN I U f l d n J O)(a b:Int)(g:Fr [p] w w')(j:w'.heap[p]?=some (kF h bN I a b d.down)):
  aD w' B E p h bN I U f l (d.bj a b) n J O/\kI E p w w':=by
 have i:aD w' B E p h bN I U f l (d.bj a b) n J O:=e.turned (e.bE.gR g a b d.down j) g (λk c _=>e.sep k<|by simp at c;simp[c])<|zzc _;exact⟨i,e.BG i g (λk c _=>by simp at c;simp[c]) (.inl rfl) (bn.refl _ _) (bn.refl _ _)<|bn.refl _ _⟩
end
theorem jw(c:Nat)(w:World)(g:Met w):Calls prog 28 #[cj c] w λe w'=>e=.returned (.int .i64 (c:Int))/\Fr [] w w':=by
 by_cases h:c=0
 .subst h;rw[bQ];apply(PV w).mono;rintro e a ⟨rfl,hb⟩;exact⟨rfl,Fr.bw hb _⟩
 .rw[aG h];apply(PW (c:Int) w g).mono;rintro e a ⟨rfl,hb⟩;exact⟨rfl,Fr.bw hb _⟩
theorem pM.ofO{W:World}{n' t E i F P:Nat}{j q:Value}{l':aq}{d' g:ah}(m:aB w B p h bN v g i F P)(c:aD W B b p h bN v (.slice none 0 0) (.slice none 0 0) l d n D N)(f:Fr [] w W)(A:w.heap.size<=b)(o:kI b p W w')(C:aD w' B b p h bN j q r l' d' n' t E):pM p w w':=by
 have y:∀k,k<w.heap.size->Own b p W k->lq p w k:=λk a O=>by
  rw[m.eO];obtain e|e|e|e|e|e|e:=(c.own k).1 O
  .omega
  .simp[e]
  .simp[e]
  .simp[e]
  .simp[e]
  .cases e
  .cases e
 refine⟨o.os.trans f.os,o.tape.trans f.tape,o.output.trans f.output,zzk f.size o.size,λk a hn=>?_,λk a hD=>?_⟩
 .exact(o.block k (zzl a f.size) λO=>hn<|y k a O).trans<|f.block k a sE
 .refine y k a<|o.stay k (zzl a f.size) ?_;have:=(C.bE.eO k).1 hD;rw[C.own];simp at this;obtain e|e|e|e:=this<;>simp[e]
theorem NW(rs:List Rec):∀u∈cG rs,u.oneCell'=true:=by
 intro u a;have⟨r,_,h⟩:=List.mem_flatMap.1 a;simp[dE]at h;obtain rfl|rfl|rfl:=h<;>rfl
end Go.Proofs.YtdcafjmdfpjcbaaGreatDoor
