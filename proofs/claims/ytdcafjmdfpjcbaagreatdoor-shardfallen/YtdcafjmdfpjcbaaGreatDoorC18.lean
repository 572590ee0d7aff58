import Derived.Test.YtdcafjmdfpjcbaaGreatDoorC17
set_option maxHeartbeats 8000000
set_option maxRecDepth 100000
namespace Go.Proofs.YtdcafjmdfpjcbaaGreatDoor
open Go.RowKit Go.Maps Tryz Sc
variable{B D N b bN h m n p:Nat}{v:Value}{w wr:World}{d:ah}{l:aq}
theorem xA:∀(m:Nat) (l:List Nat),l.Nodup->(∀x∈l,x<m)->l.length<=m
 |0,l,_,h=>by
  cases l with
  |nil=>simp
  |cons x l=>have:=h x sE;omega
 |m+1,l,hn,h=>by
  have ih:=xA m (l.erase m) (hn.erase m) (λx a=>by
   have c:=h x<|List.mem_of_mem_erase a;have d:x≠m:=λe=>by subst e;exact(List.Nodup.not_mem_erase hn) a
   omega)
  by_cases b:m∈l
  .rw[List.length_erase_of_mem b]at ih;omega
  .rw[List.erase_of_not_mem b]at ih;omega
theorem Y9{l:List Nm}(hn:l.Nodup)(h:∀u,(.inl u:Nm)∈l->u<m):l.length<=m+2:=by
 have c:=xA (m+2) (l.map λo=>match o with|.inl u=>u+2|.inr z=>if z then 1 else 0) (by
  unfold List.Nodup;rw[List.pairwise_map];refine hn.imp λ{a b} Y e=>Y ?_;obtain u|z:=a<;>obtain v|y:=b
  .simp at e;rw[e]
  .cases y<;>simp at e
  .cases z<;>simp at e
  .cases z<;>cases y<;>simp at e<;>rfl) (by
  intro x d;obtain⟨o,f,rfl⟩:=zzq.1 d;obtain u|z:=o
  .have:=h u f;simp;omega
  .cases z<;>simp)
 simpa using c
theorem Ez(B p b bN n D N mk:Nat)(ss:List Sg)(v:Value)(d:ah)(w:World)(h:aB w B p b bN v d n D N)(M:d.down=false)(m:br d.now mk ss):
  Calls prog 148 #[fo p] w λe w'=>e=.returned (.tuple #[.int .u64 (mk:Int),.nilIface])/\Below w.heap.size w w':=by
 rcases m.mark with⟨rfl,a⟩|a
 .grind [sU]
 .exact B7 B p b bN n D N mk v d w h M a<|by have:=m.tz;unfold aw at this;omega
structure Vw(w wr:World)(B lp p bD bN:Nat)(pv:Value)(l:aq)(d:ah)(n nD nN:Nat):Prop where
 fr:Fr [lp] w wr
 log:aD wr B lp p bD bN pv (.slice none 0 0) (.slice none 0 0) l d n nD nN
theorem Vw.new{q:World}(a:Vw w wr B b p h bN v l d n D N)(f:Fr [] wr q):Vw w q B b p h bN v l d n D N:=⟨a.fr.trans<|f.mono sE,a.log.new f⟩
theorem Vw.rdg{c:Nat}(b:Vw w wr B c p h bN v l d n D N):Cb w wr B c p h bN v l d n D N:=⟨b.fr,_,_,b.log,(λk a=>by cases a),(λk a=>by cases a)⟩
theorem Cb.from{e:World}(f:Fr [b] w e)(c:Cb e wr B b p h bN v l d n D N):Cb w wr B b p h bN v l d n D N:=by
 have⟨s,r,g,i,j⟩:=c.log;exact⟨f.trans c.fr,s,r,g,λk a=>zzk f.size<|i k a,λk a=>zzk f.size<|j k a⟩
def EA(B l p b bN n D N mk:Nat)(ss:List Sg)(a:Value)(d:ah)(w:World)(e:Ending)(w':World):Prop :=
 ∃v us,e=.returned (.tuple #[v,.nilIface])/\w'.ownsRow w.heap.size 9 1 v us.length (fu (us.map ar))/\jG d.now mk ss us/\Cb w w' B l p b bN a (cJ mk ss) d n D N
theorem RP(B l p D bN n r N mk:Nat)(ss:List Sg)(m:Value)(d:ah)(w:World)(h:aD w B l p D bN m (.slice none 0 0) (.slice none 0 0) (nY 0) d n r N)(hB:3<=B)(jM:d.down=false)(cm:br d.now mk ss)(aX:ki d.now mk ss≠[])(dF:dw w)(sK:mP w)(hlen:aw mk ss<=n)(RJ:ss.length+1<=n)(ZZ:n+8<=1000000000):
  Calls prog 94 #[rM l] w (EA B l p D bN n r N mk ss m d w):=by
 have c0:=aa h.blk 0;simp at c0;have bH:=h.bE.base.2.2.2;have bu:l<w.heap.size:=(zza.1 h.blk).1;have HI:=ae h;have HP:=ae (zzb dF sK);have X:=ae (zzb cm aX);have b2:=ae (zzb bu h.base)
 have aC:Hid ((w.heap[l]?≠none/\∀c fr,w.heap[l]?≠some (.cells c 9 fr))/\(p≠l/\D≠l/\bN≠l/\m.ownBlock≠some l)):=by
  refine⟨⟨by rw[h.blk];simp,λc fr e=>by rw[h.blk]at e;cases e⟩,(h.sep p (by simp)).1,(h.sep D (by simp)).1,(h.sep bN (by simp)).1,λe=>(h.sep l (by simp[e])).1 rfl⟩
 have b1:Vw w w B l p D bN m (nY 0) d n r N:=⟨Fr.refl _ _,h⟩
 have RQ:Hid (∀W',Fr [l] w W'->dw W'/\mP W'):=λW' ho=>by
  have aI:∀k,k<B->W'.heap[k]?=w.heap[k]?:=λk Q=>ho.block k (by omega) (by simp;have:=h.base;omega)
  refine⟨dF.cF (aI 1 (by omega)),?_⟩;obtain⟨ev,e1,e2⟩:=sK;exact⟨ev,(zze (a:=⟨2,0,none⟩) (aI 2 (by omega))).trans e1,e2⟩
 clear h dF cm sK aX;have C:=P7;have bV:=abj
 go_enter func94,ntmps94
 go_wp2_with fail;refine(CP B p D bN n r N m d w HI.out.bE jM).mono ?_;rintro e w1 ⟨v1,ns,rfl,Z,qo,gw⟩;obtain⟨z,a8,J8,uZ⟩:=X.1.names Z;have yQ:z.Nodup:=C6 (by rw[<-a8];exact Z.1)
 have a6:∀u∈gY z,u<aw mk ss+1:=λu f=>by
  rcases X.1.other _ ((uZ u).1 f)with e|e|⟨v,e,_,J⟩
  .exact absurd e (bm u).1
  .exact absurd e (bm u).2
  .obtain rfl:=eR e;have c7:mk<=aw mk ss:=Nat.le_add_right _ _;rcases J with J|J|J
   .omega
   .have:=(X.1.start J).2.2;omega
   .omega
 have bT:z.length<=aw mk ss+1+2:=Y9 yQ (λu f=>a6 u (AM.2 f))
 have a':gY z≠[]:=λe=>by
  obtain⟨u,f⟩:=List.exists_mem_of_ne_nil _ X.2;have:=(uZ u).2 ((X.1.GN u).1 f).1;rw[e]at this;simp at this
 have bc:0<z.length:=by have:=zg z;have:=zzE.2 a';omega
 have ba:z.length=ns.length:=by rw[a8,zzn]
 rw[<-ba]at qo;obtain⟨A,k1,rfl⟩:=dI qo bc;have Ig:=b1.new (Fr.bw gw _);have fE:=Ig.log;have k0:=aa fE.blk 0;simp at k0
 have b8:Vm w1 A z:=λk o Q=>by
  have:=qo.cells (g:=A) rfl k (.string (Vl o)) (by rw[a8];simp[Q])
  simpa [Addr.add_lit]using this
 have iN:=(qo.lt A rfl).2;have bF:=(qo.lt A rfl).1;have H1:=ae (zzb Ig b8);have Y:=ae (zzb J8 (zzb uZ (zzb a6 a')));clear b1 Ig fE gw c0 b8 qo Z a8 ba J8 uZ yQ a6 a';go_wp2_with fail;refine(Ez B p D bN n r N mk ss m d w1 H1.1.log.bE jM X.1).mono ?_;rintro e w2 ⟨rfl,cU⟩;have Oc:=H1.1.new (Fr.bw cU _);have eN:=Oc.log;have m4:=aa eN.blk 4;have f4:=au eN.blk 4;simp at m4;have dY:A<w2.heap.size:=zzl iN cU.size;have b4:Vm w2 A z:=λk o Q=>(cU.cell (p:=⟨A,k,none⟩) iN).trans (H1.2 k o Q)
 obtain⟨W,hW⟩:∃W,W=w2.setCell ⟨l,4,none⟩ (.int .u64 (mk:Int)):=⟨_,rfl⟩;have dD:Fr [l] w2 W:=by rw[hW];exact Fr.cH (by simp) _ _
 have eV:W.heap[l]?=some (nc p (.slice none 0 0) (.slice none 0 0) (cJ mk [])):=by
  rw[hW];have:=aH eN.blk 4 (.int .u64 (mk:Int));simp[nY,cJ,aw,kX,starts]at this ⊢;exact this
 have c6:mk<=aw mk ss:=Nat.le_add_right _ _;have sT:aD W B l p D bN m (.slice none 0 0) (.slice none 0 0) (cJ mk []) d n r N:=eN.I0 dD eV (by simp[cJ,starts]) (by simp[cJ]) (by show kX []<=4096;simp[kX]) (by show aw mk []<=n+1;rw[gX];omega) eN.lS (by simp[nY,cJ,starts]) (by simp[nY,cJ]);have Md:Vw w W B l p D bN m (cJ mk []) d n r N:=⟨Oc.fr.trans dD,sT⟩;have bp:A≠l:=by have:=b2.1;omega
 have b0:Vm W A z:=λk u Q=>(zze (a:=⟨A,k,none⟩) (dD.block A dY (by simpa using bp))).trans (b4 k u Q)
 have ko:A<W.heap.size:=zzl dY dD.size;have bl:w.heap.size<=W.heap.size:=Md.fr.size;have ab:=Of A k1 z W ko b0 (λu f=>by have:=Y.2.2.1 u f;omega) Y.2.2.2 (by omega) Y.1 (RQ.out W Md.fr).1 (RQ.out W Md.fr).2 (by omega);have b6:=aa sT.blk 4;simp[cJ,gX]at b6;have H3:=ae Md;clear Oc Md eN sT dD eV b0 b4 cU H1 k0;obtain⟨M,hM⟩:∃M,M=(gY z).length:=⟨_,rfl⟩;have HM:=ae hM;rw[<-hM]at ab;have bf:M<=1000000000:=by have:=zg z;omega
 clear hM;subst hW;go_wp2_with fail;refine ab.mono ?_;clear ab;rintro e w4 ⟨g4,c4,l4,rfl,zK,od,RR,tH⟩;have Y_:l4.length=M:=by rw[zK.length_eq,HM.out]
 have al:l4.Pairwise (· < ·):=by
  have O:l4.Pairwise (·<=·):=nE.pairwise (by rw[Y_];exact od);have K:l4.Nodup:=zK.nodup_iff.2 Y.1;exact(O.and K).imp (λ{a b} lY=>Nat.lt_of_le_of_ne lY.1 lY.2)
 have b7:∀u,u∈l4↔d.now (ar u)≠none:=λu=>by rw[zK.mem_iff];exact Y.2.1 u
 have J9:=H3.out.new (Fr.bw tH _);have jH:=J9.log
 have E3:Hid (∀(k u:Nat),l4[k]?=some u->w4.cell? ⟨g4,k,none⟩=some (.int .u64 (u:Int))):=λk u Q=>by
  have:=RR.cells (g:=g4) rfl k (.int .u64 (u:Int)) (by unfold dh;simp[Q])
  simpa [Addr.add_lit]using this
 have iX:=RR.lt g4 rfl;have n4:=aa jH.blk 4;simp[cJ,gX]at n4;have b':=J_ g4 c4 M mk l4 w4 E3.out Y_ al bf;have H4:=ae J9;have G:=ae (zzb al (zzb b7 Y_))
 have Wj:M<=c4:=by
  rcases RR.2 with⟨h',_⟩|⟨g',fW,bA,h',_,_,bq,_⟩
  .simp at h'
  .simp only[Value.slice.injEq,Option.some.injEq,Addr.mk.injEq,and_true,true_and]at h';obtain⟨_,rfl⟩:=h';exact bq
 have bL:w.heap.size<=g4:=by have:=iX.1;have:=bl;simp at *;omega
 have bg:=J9.fr.size;clear J9 jH RR b6 zK od al b7 Y_ tH;go_wp2_with fail;refine b'.mono ?_;clear b';rintro e w5 ⟨k,bo,rfl,hkM,hkp,rfl⟩;have Kb:=X.1.parted G.1 G.2.1 hkp;have RT:=X.1.Vo G.1 G.2.1 hkp
 have bX:k<M:=by
  rcases Nat.lt_or_ge k M with h|h
  .exact h
  .exfalso;apply X.2;rw[<-Kb,List.drop_of_length_le (by rw[G.2.2];exact h)]
 have HT:Hid (l4.drop k=ki d.now mk ss/\jG d.now mk ss (l4.take k++gv d.now mk ss)/\M-k=ss.length+(gv d.now mk ss).length):=by
  refine⟨Kb,RT,?_⟩;rw[<-GQ (F:=d.now) mk ss,<-Kb,zzz,G.2.2]
 have iB:=ve g4 0 k c4 (l4.take k) w5 (by rw[zzm,G.2.2];omega) (by omega) (λj x L=>by
  rw[List.getElem?_take]at L;split at L
  .refine⟨by simpa using E3.out j x L,?_⟩;have O:=(G.2.1 x).1 (zzh L);have K:=Y.2.2.1 x ((Y.2.1 x).2 O);omega
  .cases L) iX.2 (RQ.out w5 H4.out.fr).1 (by omega)
 clear Kb RT hkp;have i1:(k:Int)<=(M:Int):=by omega
 have i2:(k:Int)<=(c4:Int):=by omega
 have i3:k<c4:=by omega
 have i4:¬(c4:Int)-(k:Int)=0:=by omega
 have i5:¬c4-k=0:=by omega
 have i6:¬k=c4:=by omega
 go_wp2_with fail;refine iB.mono ?_;clear iB;rintro e E ⟨v6,rfl,abo,M4⟩;have b3:=H4.out.new (Fr.bw M4 _);have bR:=M4.size
 have bt:Hid (∀(j u:Nat),(ki d.now mk ss)[j]?=some u->E.cell? ⟨g4,k+j,none⟩=some (.int .u64 (u:Int))):=λj u L=>by
  rw[<-HT.1,List.getElem?_drop]at L;exact(M4.cell (p:=⟨g4,k+j,none⟩) iX.2).trans (E3.out _ u L)
 have XS:Hid (Vw w E B l p D bN m (cJ mk []) d n r N/\E.ownsRow w.heap.size 9 1 v6 (l4.take k++(gv d.now mk ss).take (0-ss.length)).length (fu ((l4.take k++(gv d.now mk ss).take (0-ss.length)).map ar))):=by
  refine⟨b3,?_⟩;simp only[Nat.zero_sub,List.take_zero,List.append_nil];rw[zzm,G.2.2,Nat.min_eq_left (by omega)];exact rH abo bg
 have bz:g4<E.heap.size:=by have:=iX.2;omega
 obtain⟨T,hT⟩:∃T,T=M-k:=⟨_,rfl⟩;have YP:=ae hT;have jT:(M:Int)-(k:Int)=(T:Int):=by omega
 clear abo M4 b3 n4 H4;go_wp2
 go_loopw [58,9] (λi v wr=>∃j:Nat,j<=T/\i=.int .i64 j/\Hid (vR w.heap.size v/\Cb w wr B l p D bN m (cJ mk (ss.take j)) d n r N/\wr.ownsRow w.heap.size 9 1 v (l4.take k++(gv d.now mk ss).take (j-ss.length)).length (fu ((l4.take k++(gv d.now mk ss).take (j-ss.length)).map ar))/\(j<=ss.length->Cb E wr B l p D bN m (cJ mk (ss.take j)) d n r N))) (λi _ _=>T-(intOf i).toNat)
 case atStart=>
  have h6:Cb E E B l p D bN m (cJ mk (ss.take 0)) d n r N:=Vw.rdg ⟨Fr.refl _ _,XS.1.log⟩;exact⟨0,zzs _,rfl,(λq y=>(XS.2.lt q y).1),Cb.from XS.1.fr h6,XS.2,λ_=>h6⟩
 case round=>
  obtain⟨j,c8,rfl,R⟩:=hrel;by_cases bP:j<T
  .obtain⟨u,f⟩:∃u,(ki d.now mk ss)[j]?=some u:=⟨_,zzg (by rw[GQ];have:=HT.2.2;have:=YP.out;omega)⟩;have U5:(gv d.now mk ss).length<=1:=by rcases AP d.now mk ss with e|e<;>rw[e.1]<;>simp
   have ak:j<=ss.length:=by have:=HT.2.2;have:=YP.out;omega
   have hQ:=R.2.2.2 ak;have U4:wr.heap[g4]?=E.heap[g4]?:=hQ.fr.block g4 bz (by simp;omega);have ck:=(zze (a:=⟨g4,k+j,none⟩) U4).trans (bt.out j u f);have l1:(j:Int)<(T:Int):=by omega
   have a7:=RQ.out wr R.2.1.fr;obtain⟨sv,rv,S,Z,Fu⟩:=hQ.log;rcases Nat.lt_or_ge j ss.length with CB|CB
   .obtain⟨s,hs⟩:∃s,ss[j]?=some s:=⟨_,zzg CB⟩;have U:u=aw mk (ss.take j):=by rw[tail_at mk ss CB]at f;exact(Option.some.inj f).symm
    obtain⟨x1,x2,x3,x4,x5,x6,x7⟩:=X.1.at_ hs;have P:=Vr B l p D bN n r N m sv rv (cJ mk (ss.take j)) d s.1 s.2 wr S jM x1 x2 x3 x5 x4 a7.1 (by have O:=x7;have K:=hlen;unfold aw at O K;show((chunks (ss.take j)).flatten).length+s.1.length<=n;omega) (by show(starts _ _).length+1<=n;rw[ei];simp;omega) (by show aw mk (ss.take j)+s.1.length<=n+1;omega) (by rw[tX];omega);have es:(⟨(cJ mk (ss.take j)).segs++[(cJ mk (ss.take j)).next],ly (s.1,s.2),(cJ mk (ss.take j)).recs++s.1,(cJ mk (ss.take j)).next+s.1.length,(cJ mk (ss.take j)).ai,(cJ mk (ss.take j)).failed⟩:aq)=cJ mk (ss.take (j+1)):=by rw[GK hs,J'];rfl
    rw[es]at P;have en:(cJ mk (ss.take j)).next=u:=by rw[U];rfl
    rw[en]at P;have H:=ae (zzb hQ (zzb Z (zzb Fu (zzb S.segs S.recs))));have HJ:=ae CB;clear S hQ x1 x2 x3 x4 x5 x6 x7 U es en hs f a7 Z Fu CB ak;go_wp2_with fail;refine P.mono ?_;clear P;rintro e I ⟨rfl,⟨sv7,rv7,hl7,hs7,hr7⟩,lX⟩
    have V:Cb E I B l p D bN m (cJ mk (ss.take (j+1))) d n r N:=by
     refine⟨H.1.fr.andThen lX (λq y bY=>?_),sv7,rv7,hl7,H.2.1.abk hs7 H.1.fr.size,H.2.2.1.abk hr7 H.1.fr.size⟩;rcases zzj.1 y with e|y
     .simp[e]
     .rcases zzo.1 y with y|y
      .simp at y;have:=H.2.1 q y;omega
      .simp at y;have:=H.2.2.1 q y;omega
    have Yl:I.ownsRow w.heap.size 9 1 u9 (l4.take k++(gv d.now mk ss).take (j+1-ss.length)).length (fu ((l4.take k++(gv d.now mk ss).take (j+1-ss.length)).map ar)):=by
     have CB:=HJ.out;have h0:=R.2.2.1;rw[show j-ss.length=0 by omega]at h0;rw[show j+1-ss.length=0 by omega];refine av h0 lX (λq y C=>?_);obtain⟨c,hc⟩:=aF h0 y;rcases zzj.1 C with e|C
     .have:=R.1 q y;omega
     .rcases zzo.1 C with C|C
      .simp at C;exact bG H.2.2.2.1 hc (by decide) C
      .simp at C;exact bG H.2.2.2.2 hc (by decide) C
    have H7:Hid (vR w.heap.size u9/\Cb w I B l p D bN m (cJ mk (ss.take (j+1))) d n r N/\I.ownsRow w.heap.size 9 1 u9 (l4.take k++(gv d.now mk ss).take (j+1-ss.length)).length (fu ((l4.take k++(gv d.now mk ss).take (j+1-ss.length)).map ar))/\(j+1<=ss.length->Cb E I B l p D bN m (cJ mk (ss.take (j+1))) d n r N)):=⟨R.1,Cb.from XS.1.fr V,Yl,λ_=>V⟩;clear V Yl hl7 hs7 hr7 lX;go_wp2
    go_roundw
    case rel=>exact⟨j+1,by omega,by simp,H7.out⟩
    case measure=>simp[intOf];omega
   .obtain rfl:j=ss.length:=by omega
    have uL:ss.take ss.length=ss:=List.take_length;rcases AP d.now mk ss with a1|a1
    .exfalso;have O:=HT.2.2;have K:=YP.out;rw[a1.1]at O;simp at O;omega
    .obtain⟨t,ht⟩:∃t,d.now (ar (aw mk ss))=some t:=Option.ne_none_iff_exists'.1 a1.2;obtain⟨b,rfl,hb⟩:=X.1.dead t ht
     have U:u=aw mk ss:=by
      unfold ki at f;rw[a1.1,List.getElem?_append_right (by rw[ei];simp)]at f;rw[ei]at f;simp at f;exact f.symm
     rw[uL]at S;have P:=Vu B l p D bN n r N m sv rv (cJ mk ss) d b wr S jM hb ht a7.1;have en:(cJ mk ss).next=u:=by rw[U];rfl
     rw[en]at P;have a6:u<18446744073709551616:=by rw[U];have:=X.1.tz;omega
     have HU:=ae (zzb U a1.1);have Vq:=R.2.2.1;rw[Nat.sub_self,List.take_zero,List.append_nil]at Vq;have HV:=ae Vq;have qe:=R.2.1.fr.size;have mB:(l4.take k).length<=1000000000:=by rw[zzm];omega
     clear S hQ f a7 Z Fu ak ht hb a1 en U Vq uL U5;go_wp2_with fail;refine P.mono ?_;clear P;rintro e I ⟨rfl,sX⟩;have V:=R.2.1.new (Fr.bw sX _);have Yl:=oB HV.out sX;have bx:=(RQ.out I V.fr).1;have ad:=ae (zzb V Yl);clear V Yl sX;go_wp2_with fail;refine(fP u I a6 bx).mono ?_;rintro e w8 ⟨rfl,hb8⟩;have an:=ad.1.new (Fr.bw hb8 _);have aE:=oB ad.2 hb8;have bO:=an.fr.size;have ao:=ae (zzb an aE);clear an aE hb8 ad
     go_wp2_with (at_builtin;refine yb rfl _ _ rfl w.heap.size u9 (l4.take k).length ((l4.take k).map ar) (ar u) w8.heap.size rfl (ao.2.alloc _) rfl (by simp) (by omega) (by simp;omega) ?_;intro v9 w9 ay bb)
     have aA:=Cb.texts HI.out.bE b2.1 aC.1 aC.2 (ao.1.new ((Fr.refl [] w8).alloc (.cells #[.string (ar u)] 9))) (ao.2.alloc _) R.1 bb
     have H9:Hid (vR w.heap.size v9/\Cb w w9 B l p D bN m (cJ mk (ss.take ss.length)) d n r N/\w9.ownsRow w.heap.size 9 1 v9 (l4.take k++(gv d.now mk ss).take (ss.length+1-ss.length)).length (fu ((l4.take k++(gv d.now mk ss).take (ss.length+1-ss.length)).map ar))):=by
      refine⟨λq y=>(ay.lt q y).1,aA,?_⟩;rw[show ss.length+1-ss.length=1 by omega,HU.2,<-HU.1]
      simpa using ay
     clear aA ay bb
     go_roundw
     case rel=>exact⟨ss.length+1,by omega,by simp,H9.1,by rw[zzt (by omega:ss.length<=ss.length+1)];have:=H9.2.1;rwa [List.take_length]at this,H9.2.2,λh=>by omega⟩
     case measure=>simp[intOf];omega
  .obtain rfl:j=T:=by omega
   have l1:¬(j:Int)<(j:Int):=by omega
   have GU:Hid (j=ss.length+(gv d.now mk ss).length):=by have:=HT.2.2;have:=YP.out;show _=_;omega
   go_wp2;go_ret2;obtain⟨_,K,J,_⟩:=R.out;have e2:ss.take j=ss:=zzt (by have:=GU.out;omega);have e3:(gv d.now mk ss).take (j-ss.length)=gv d.now mk ss:=zzt (by have:=GU.out;omega);rw[e2]at K;rw[e3]at J;exact⟨_,_,rfl,J,HT.2.1,K⟩
theorem aD.ady{w':World}{a base:Nat}{b s c:Value}{xs:List Value}(e:aD w B a p h bN b s c l d n D N)(f:kI a p w w')(r:w.ownsRow base 9 1 v m xs):w'.ownsRow base 9 1 v m xs:=by
 refine⟨r.1,?_⟩;obtain i|⟨g,cap,cur,rfl,b1,b2,b3⟩:=r.2
 .grind
 .exact .inr ⟨g,cap,cur,rfl,b1,(f.block g (zza.1 b2).1<|e.free b2 dN dN dN dN dN).trans b2,b3⟩
theorem Cf(B p D bN n a N base:Nat)(b v:Value)(d:ah)(ns:List ByteArray)(w:World)(h:aB w B p D bN b d n a N)(hn:n+ns.length<=1000000000)(r:w.ownsRow base 9 1 v ns.length<|fu ns)(z:∀x∈ns,x.size<=maxLen):
  Calls prog 98 #[fo p,v] w (lU B p D bN (n+ns.length) (d.removeAll ns) w):=by
 rcases r.2 with⟨rfl,c⟩|⟨g,f,e,rfl,_⟩
 .obtain rfl:ns=[]:=List.length_eq_zero_iff.1 oE;exact removeAll_nil B p D bN n a N b d w h
 .grind [qC]
theorem Y'(B i p D bN n a N bd u base:Nat)(b s r v:Value)(ns:List ByteArray)(l:aq)(d:ah)(w:World)(h:aD w B i p D bN b s r l d n a N)(j:w.heap[bd]?=some (.cells #[fo p] 111))(k:w.heap[u]?=some (.cells #[v] 138))(f:w.ownsRow base 9 1 v ns.length<|fu ns)(z:∀x∈ns,x.size<=maxLen)(hn:n+ns.length<=1000000000):
  Calls prog 97 #[rM bd,rM u] w (kK B i p D bN (n+ns.length) [] (l,d.removeAll ns) w):=by
 have m:=aa j 0;have c1:=aa k 0;simp at m c1;have I:=ae h;have c:=Cf B p D bN n a N base b v d ns w h.bE hn f z;clear h j k f z;go_enter func97,ntmps97;go_wp2_with fail;apply c.mono;clear c;rintro e o ⟨rfl,⟨kr,lT,lN,mF⟩,bF⟩;have⟨E,g⟩:=(I.out.fK (by omega:n<=n+ns.length) hn).UT mF bF;have H:=ae<|zzb E g;clear E g mF bF;go_wp2;go_ret;exact⟨rfl,⟨kr,s,r,lT,lN,H.1⟩,H.2.x⟩
def aq.dX(l:aq)(d:ah)(ns:List ByteArray):aq × ah × Nat :=
 if (l.sync d).2.2=0 then ((l.sync d).1,(l.sync d).2.1.removeAll ns) else l.sync d
theorem Vy(B a p D bN n j N Q bd u base:Nat)(k s r v:Value)(ns:List ByteArray)(l:aq)(d:ah)(w:World)(h:aD w B a p D bN k s r l d n j N)(hn:n+ns.length<=1000000000)(q:w.ownsRow base 9 1 v ns.length<|fu ns)(E:∀x∈ns,x.size<=maxLen)
  (m:w.heap[Q]?=some (.cells #[.func (.func 96) #[rM a] #[],.func (.func 97) #[] #[rM bd,rM u]] 122)) (g:w.heap[bd]?=some (.cells #[fo p] 111)) (i:w.heap[u]?=some (.cells #[v] 138)) :
  Calls prog 95 #[.slice (some<|dH Q) 2 2] w (kK B a p D bN (n+ns.length) [] (l.dX d ns) w):=by
 have z:=aa m 0;simp at z;have I:Hid (aD w B a p D bN k s r l d n j N):=h;have G:=h.free m dN dN dN dN dN;have C:=h.free g dN dN dN dN dN;have A:=h.free i dN dN dN dN dN;clear h;go_enter func95,ntmps95;go_wp2;apply wp_loop_rounds 3;rw[rounds_succ];go_wp2_with fail;apply(rF B a p D bN n j N k s r l d w I.out oE).mono;rintro e b ⟨rfl,⟨kr,sB,qz,lT,lN,fE⟩,fe⟩;have y:=I.out.ady fe q;have R:=(fe.block Q (zza.1 m).1 G).trans m;have F:=(fe.block bd (zza.1 g).1 C).trans g;have t:=(fe.block u (zza.1 i).1 A).trans i;have J:=aa R 1;simp at J;have c:Hid (aD b B a p D bN kr sB qz (l.sync d).1 (l.sync d).2.1 n lT lN/\kI a p w b):=⟨fE,fe⟩;have o:Hid (b.heap[bd]?=some (.cells #[fo p] 111)/\b.heap[u]?=some (.cells #[v] 138)/\b.ownsRow base 9 1 v ns.length (fu ns)):=⟨F,t,y⟩;clear fE fe R F t g i m z q y;by_cases f:(l.sync d).2.2=0
 .have eo:l.dX d ns=((l.sync d).1,(l.sync d).2.1.removeAll ns):=by unfold aq.dX;rw[if_pos f]
  rw[f,bQ];go_wp2;rw[rounds_succ];go_wp2_with fail;apply(Y' B a p D bN n lT lN bd u base kr sB qz v ns (l.sync d).1 (l.sync d).2.1 b c.1 o.1 o.2.1 o.2.2 E hn).mono;rintro e w2 ⟨rfl,eN,iH⟩;have H:Hid (kK B a p D bN (n+ns.length) [] ((l.sync d).1,(l.sync d).2.1.removeAll ns) w (.returned<|cj ((l.sync d).2.1.removeAll ns).2) w2):=⟨rfl,eN,c.2.x.trans iH⟩;clear eN iH;by_cases lI:((l.sync d).2.1.removeAll ns).2=0
  .rw[lI,bQ]at H ⊢;go_wp2;rw[rounds_succ];go_wp2;go_ret;rw[eo];exact H.out
  .rw[aG lI]at H ⊢;go_wp2;go_ret;rw[eo];exact H.out
 .have eo:l.dX d ns=l.sync d:=by unfold aq.dX;rw[if_neg f]
  have H:Hid (kK B a p D bN (n+ns.length) [] (l.sync d) w (.returned<|cj (l.sync d).2.2) b):=⟨rfl,⟨kr,sB,qz,lT,lN,c.1.fK oE hn⟩,c.2.x⟩;rw[aG f]at H ⊢;go_wp2;go_ret;rw[eo];exact H.out
theorem Vx(a:Option Addr)(c:Nat)(w:World):Calls prog 149 #[.slice a 0 c] w λe w'=>e=.returned (.slice none 0 0)/\w'=w:=by
 go_enter func149,ntmps149;go_wp2;apply wp_loop_rounds 1;rw[rounds_succ];go_wp2_with fail;apply(CH w).mono;rintro e b ⟨rfl,rfl⟩;go_wp2;go_ret;exact⟨rfl,rfl⟩
theorem Og(B b p f bN n D N:Nat)(v:Value)(d:ah)(w:World)(h:aD w B b p f bN v (.slice none 0 0) (.slice none 0 0) (nY 0) d n D N)(M:d.down=false)(o:∀k,d.now k=none):
  Calls prog 94 #[rM b] w (EA B b p f bN n D N 1 [] v d w):=by
 have G:=aa h.blk 0;simp at G;have I:=ae h;clear h;have S:=P7;go_enter func94,ntmps94;go_wp2_with fail;apply(CP B p f bN n D N v d w I.out.bE M).mono;rintro e j ⟨v1,ns,rfl,xX,qo,gw⟩;obtain rfl:ns=[]:=by
  cases ns with
  |nil=>rfl
  |cons x l=>exact absurd (o x)<|(xX.2 x).1 sE
 obtain⟨L,Q,rfl⟩:∃a c,v1=.slice a 0 c:=by
  rcases qo.2 with⟨e,_⟩|⟨g,U,R,e,_⟩
  .exact⟨_,_,e⟩
  .exact⟨_,_,e⟩
 clear xX qo;have F:Fr [] w j:=Fr.bw gw _;have E:=I.out.new F;have J:Fr [b] w j:=F.mono sE;have z:=aa E.blk 0;simp at z;have r:=ae<|zzb E J;clear E J F gw G;go_wp2_with fail;apply(sU B p f bN n D N v d j r.1.bE M<|o _).mono;rintro e w2 ⟨rfl,cU⟩;have A:Fr [] j w2:=Fr.bw cU _;have i:=r.1.new A;have C:Fr [b] w w2:=r.2.trans (A.mono sE);have K:=aa i.blk 4;have X:=au i.blk 4;simp at K;have H:=ae<|zzb i C;clear i C A cU z;have⟨W,m⟩:∃W,W=w2.setCell ⟨b,4,none⟩ (.int .u64 1):=⟨_,rfl⟩;have q:Fr [b] w2 W:=by rw[m];exact Fr.cH sE _ _
 have V:W.heap[b]?=some (nc p (.slice none 0 0) (.slice none 0 0)<|nY 1):=by rw[m];have:=aH H.1.blk 4<|.int .u64 1;simp[nY]at this ⊢;exact this
 have hn:=H.1.bE.hn;have T:aD W B b p f bN v (.slice none 0 0) (.slice none 0 0) (nY 1) d n D N:=H.1.I0 q V H.1.dL H.1.fV H.1.jv (by show 1<=n+1;omega) H.1.lS rfl rfl;have O:Fr [b] w W:=H.2.trans q;have P:=aa T.blk 4;simp[nY]at P;have t:=ae<|zzb T O;clear T O q V;subst m;go_wp2_with fail;apply(Vx L Q _).mono;rintro e y ⟨rfl,rfl⟩;go_wp2_with fail;apply(I' 1 _).mono;rintro e y ⟨rfl,rfl⟩;go_wp2_with fail;apply(FM _).mono;rintro e y ⟨rfl,rfl⟩;go_wp2;apply wp_loop_rounds 1;rw[rounds_succ];go_wp2;go_ret2;exact⟨_,[],rfl,zzu _ _ _ _,⟨List.nodup_nil,λu=>by simp[o]⟩,t.2,_,_,t.1,(λk s=>by cases s),(λk s=>by cases s)⟩
theorem br.RU{F:az}{mk:Nat}{ss:List Sg}(h:br F mk ss)(B:∀k,F k=none):mk=1/\ss=[]:=by
 constructor
 .rcases h.mark with h|h
  .exact h.1
  .grind
 .cases ss with
  |nil=>rfl
  |cons s l=>have:=h.files 0 s rfl;rw[B]at this;cases this
def yz(F:az)(mk:Nat)(ss:List Sg):Prop:=ki F mk ss≠[]\/∀k,F k=none
theorem Oh(B l p b bN n D N mk:Nat)(ss:List Sg)(v:Value)(d:ah)(w:World)(h:aD w B l p b bN v (.slice none 0 0) (.slice none 0 0) (nY 0) d n D N)(a:3<=B)(M:d.down=false)(m:br d.now mk ss)(e:yz d.now mk ss)(F:dw w)(K:mP w)(hlen:aw mk ss<=n)(J:ss.length+1<=n)(Z:n+8<=1000000000):
  Calls prog 94 #[rM l] w (EA B l p b bN n D N mk ss v d w):=by
 obtain e|e:=e
 .grind [RP]
 .obtain⟨rfl,rfl⟩:=m.RU e;exact Og B l p b bN n D N v d w h M e
def Ol(B p b bN n:Nat)(r:aq × ah × Nat)(w:World)(e:Ending)(w':World):Prop :=
 ∃l,e=.returned (.tuple #[rM l,.nilIface])/\w.heap.size<=l/\(∃v s a D N,aD w' B l p b bN v s a r.1 r.2.1 n D N)/\pM p w w'/\∀k,k<w.heap.size->Own l p w' k->lq p w k
def rX(B p D bN n:Nat)(r:aq × ah × Nat)(w:World)(e:Ending)(w':World):Prop :=
 (r.2.2=0/\Ol B p D bN n r w e w')\/(r.2.2≠0/\e=.returned (.tuple #[.pointer none,cj r.2.2])/\(∃v a N,aB w' B p D bN v r.2.1 n a N)/\pM p w w')
theorem Om(B p D bN n o N mk:Nat)(ss:List Sg)(q:Value)(d:ah)(w:World)(h:aB w B p D bN q d n o N)(hB:3<=B)(jM:d.down=false)(Q:br d.now mk ss)(P:yz d.now mk ss)(K:dw w)(sK:mP w)(hlen:aw mk ss<=n)(RJ:ss.length+1<=n)(ZZ:n+8<=1000000000)(a':∀us,jG d.now mk ss us->n+us.length<=1000000000):
  Calls prog 59 #[fo p] w λe w'=>∃us,jG d.now mk ss us/\rX B p D bN (n+us.length) ((cJ mk ss).dX d<|us.map ar) w e w':=by
 have hn:=h.hn;have nh:=h.base;have⟨W,g⟩:=xY <|(w.alloc<|.cells #[fo p] 111).alloc (nc p (.slice none 0 0) (.slice none 0 0)<|nY 0);have U:Fr [] w W:=by rw[g];exact((lE w).alloc _).alloc _
 have Z:W.heap[w.heap.size]?=some (.cells #[fo p] 111):=by rw[g,zzf _ _ w.heap.size sE];exact heap_alloc_new w _
 have T:W.heap[w.heap.size+1]?=some (nc p (.slice none 0 0) (.slice none 0 0)<|nY 0):=by rw[g];have:=heap_alloc_new (w.alloc<|.cells #[fo p] 111)<|nc p (.slice none 0 0) (.slice none 0 0)<|nY 0;rw[zzv]at this;exact this
 have L:aD W B (w.heap.size+1) p D bN q (.slice none 0 0) (.slice none 0 0) (nY 0) d n o N:={bE:=h.new U,blk:=T,base:=oE,segs:=zzu _ _ _ _,recs:=zzu _ _ _ _,dL:=⟨by simp[nY],by simp[nY]⟩,fV:=by simp[nY],jv:=by simp[nY],gy:=by simp[nY],lS:=by simp[nY]};have H:=ae<|zzb h U;have i:=ae L;have G:=ae Z;have X:Hid ((br d.now mk ss/\yz d.now mk ss)/\dw W/\mP W):=⟨⟨Q,P⟩,K.cF<|U.block 1 oE sE,by have⟨ev,e1,e2⟩:=sK;exact⟨ev,(zze<|U.block 2 oE sE).trans e1,e2⟩⟩;have eQ:=Lv p;clear h U Z T L Q P K sK
 go_enter func59,ntmps59;go_wp2_with fail;have Y:W=(w.alloc<|.cells #[fo p] 111).alloc (.cells #[fo p,.slice none 0 0,.int .i64 600,.slice none 0 0,.int .u64 0,.int .u64 0,.nilIface] 137):=g;rw[<-Y];clear g Y;apply(Oh B (w.heap.size+1) p D bN n o N mk ss q d W i.out hB jM X.1.1 X.1.2 X.2.1 X.2.2 hlen RJ ZZ).mono;rintro e b ⟨uv,us,rfl,hru,RT,hrd⟩;have⟨sv,rv,E,M,V⟩:=hrd.log;have I:kI (w.heap.size+1) p W b:=i.out.BG E hrd.fr (λk f _=>by simp at f;simp[f]) (.inl rfl) (bn.refl _ _) (λk f=>.inr<|M k f) λk f=>.inr<|V k f;obtain⟨j,m,l,rfl⟩:=wP hru;have ab:=a' us RT;have z:=(I.block w.heap.size (zza.1 G.out).1<|i.out.free G.out dN dN dN dN dN).trans G.out;have⟨c,Y⟩:∃c,c=(b.alloc<|.cells #[.slice j m l] 138).alloc (.cells #[.func (.func 96) #[.pointer<|some ⟨w.heap.size+1,0,none⟩] #[],.func (.func 97) #[] #[.pointer<|some ⟨w.heap.size,0,none⟩,.pointer<|some ⟨b.heap.size,0,none⟩]] 122):=⟨_,rfl⟩;have A:Fr [] b c:=by rw[Y];exact((lE b).alloc _).alloc _
 have O:c.heap[b.heap.size]?=some (.cells #[.slice j m l] 138):=by rw[Y,zzf _ _ b.heap.size sE];exact heap_alloc_new b _
 have qy:c.heap[b.heap.size+1]?=some (.cells #[.func (.func 96) #[.pointer<|some (dH (w.heap.size+1))] #[],.func (.func 97) #[] #[.pointer<|some (dH w.heap.size),.pointer<|some (dH b.heap.size)]] 122):=by
  rw[Y];have:=heap_alloc_new (b.alloc<|.cells #[.slice j m l] 138)<|.cells #[.func (.func 96) #[.pointer<|some (dH (w.heap.size+1))] #[],.func (.func 97) #[] #[.pointer<|some (dH w.heap.size),.pointer<|some (dH b.heap.size)]] 122;rw[zzv]at this;exact this
 have a7:c.heap[w.heap.size]?=some (.cells #[fo p] 111):=(A.block w.heap.size (zza.1 z).1 sE).trans z;have S:∀x∈us.map ar,x.size<=maxLen:=λx hx=>by
  obtain⟨u,hu,rfl⟩:=zzq.1 hx;have J:=X.1.1.other _ ((RT.2 u).1 hu).1;have a8:u<18446744073709551616:=by
   obtain e|e|⟨v,e,h2,_⟩:=J
   .exact absurd e (bm u).1
   .exact absurd e (bm u).2
   .rw[eR e];exact h2
  have:=gS u a8;unfold maxLen;omega
 have a1:c.ownsRow W.heap.size 9 1 (.slice j m l) (us.map ar).length (fu<|us.map ar):=by rw[zzn];exact av hru A sE
 have HC:Hid (Calls prog 95 #[.slice (some (dH (b.heap.size+1))) 2 2] c (kK B (w.heap.size+1) p D bN (n+us.length) [] ((cJ mk ss).dX d<|us.map ar) c)):=by
  have h9:=Vy B (w.heap.size+1) p D bN n o N (b.heap.size+1) w.heap.size b.heap.size W.heap.size q sv rv (.slice j m l) (us.map ar) (cJ mk ss) d c (E.new A) (by simpa using ab) a1 S qy a7 O;rwa [zzn]at h9
 have a6:=ae RT;have HO:=ae<|I.trans<|E.yL A;clear E I z A O qy a7 hru a1 RT hrd S M V;go_wp2_with fail;rw[<-Y];clear Y;apply HC.out.mono;rintro e t ⟨rfl,⟨Nj,sv3,rv3,Ph,Nk,sT⟩,wO⟩;have y:=ae sT;have HD:Hid (pM p w t):=pM.ofO H.1 i.out H.2 oE (HO.out.trans wO.BG) sT
 have HK:Hid (∀k,k<w.heap.size->Own (w.heap.size+1) p t k->lq p w k):=λk f ho=>by
  have J:=(HO.out.trans wO.BG).stay k (zzl f H.2.size) ho;obtain e|e|e|e|e|e|e:=(i.out.own k).1 J
  .omega
  .exact(H.1.eO k).2<|by simp[e]
  .exact(H.1.eO k).2<|by simp[e]
  .exact(H.1.eO k).2<|by simp[e]
  .exact(H.1.eO k).2<|by simp[e]
  .cases e
  .cases e
 clear sT wO;have⟨r,C⟩:=xY <|(cJ mk ss).dX d (us.map ar);rw[<-C]at y ⊢;have R:=ae C;clear C;by_cases s:r.2.2=0
 .rw[s,bQ];have F:Hid (∃us,jG d.now mk ss us/\rX B p D bN (n+us.length) ((cJ mk ss).dX d<|us.map ar) w (.returned<|.tuple #[.pointer<|some (dH (w.heap.size+1)),.nilIface]) t):=⟨us,a6.out,by rw[<-R.out];exact .inl ⟨s,w.heap.size+1,rfl,oE,⟨Nj,sv3,rv3,Ph,Nk,y.out⟩,HD.out,HK.out⟩⟩;go_wp2;go_ret2;exact F.out
 .have F:Hid (∃us,jG d.now mk ss us/\rX B p D bN (n+us.length) ((cJ mk ss).dX d<|us.map ar) w (.returned<|.tuple #[.pointer none,cj r.2.2]) t):=⟨us,a6.out,by rw[<-R.out];exact .inr ⟨s,rfl,⟨Nj,Ph,Nk,y.out.bE⟩,HD.out⟩⟩;rw[aG s]at F ⊢;go_wp2;go_ret2;exact F.out
end Go.Proofs.YtdcafjmdfpjcbaaGreatDoor
