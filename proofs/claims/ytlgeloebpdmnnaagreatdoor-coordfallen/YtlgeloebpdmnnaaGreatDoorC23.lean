import Derived.Test.YtlgeloebpdmnnaaGreatDoorC21
set_option maxHeartbeats 8000000
set_option maxRecDepth 100000
namespace Go.Proofs.YtlgeloebpdmnnaaGreatDoor
open Go.RowKit Go.Maps Tryz Sc
variable{xs:List Value}{B D N a b base c e h m n p:Nat}{pv v:Value}{d:aj}{l:au}{w wr:nL}
theorem Yc(B a p D N n c f:Nat)(pv s v:Value)(l:au)(d:aj)(b:List Nat)(w:nL)(h:aM w B a p D N pv s v l d n c f)(q:d.down=false)(hb:vO b)(R:d.now (aw l.next)=some (str b))(K:dJ w):
  Calls prog 206 #[gx a,.int .u64 (l.next:Int)] w λe w'=>e=.returned (.tuple #[.bool false,.nilIface])/\Below w.heap.size w w':=by
 have hn:=h.bP.hn;have i:=af h.blk 0;have c4:=af h.blk 4;simp at i c4;have S:=Uq l.next B p D N n c f pv d b w h.bP q (by have:=h.iO;omega) hb R K;have⟨g,P⟩:=gb l.next;rw[<-P]at S c4 ⊢;clear h R hb P;go_enter func206,ntmps206;go_wp2_with fail;apply S.mono;clear S;rintro e j ⟨x,rfl,dB⟩;have H:=IP dB;clear dB;go_wp2;go_ret2;exact⟨rfl,H.out⟩
theorem adg(p:Option Addr)(n c:Nat)(w:nL):(Builtin.len_ #[49] 3 #[.slice p n c]).run prog w=.ok (.int .i64 n) w:=by simp[Builtin.len_,run_underlying underlying49,goInt]
def xl(s:Nat)(v:Value):Prop:=∀k,v.ownBlock=some k->s<=k
theorem xl.adh{s:Nat}{b:Value}(h:xl s v)(hn:bU a v b)(d:s<=a):xl s b:=λk c=>by
 obtain e|e:=hn k c
 .exact h k e
 .omega
structure Dc(w wr:nL)(B lp p bD bN:Nat)(pv:Value)(l:au)(d:aj)(n nD nN:Nat):Prop where
 fr:Fr [lp] w wr
 log:∃sv rv,aM wr B lp p bD bN pv sv rv l d n nD nN/\xl w.heap.size sv/\xl w.heap.size rv
section
variable{w wr E:nL}{B lp p bD bN n nD nN:Nat}{pv:Value}{l l':au}{d:aj}
theorem Dc.new(h:Dc w wr B lp p bD bN pv l d n nD nN)(hf:Fr [] wr E):Dc w E B lp p bD bN pv l d n nD nN:=by
 have⟨s,v,a,b,c⟩:=h.log;exact⟨h.fr.trans<|hf.mono dv,s,v,a.new hf,b,c⟩
theorem Dc.texts{v:Value}{base m:Nat}{xs:List Value}(u:aC w B p bD bN pv d n nD nN)(M:lp<w.heap.size)(I:w.heap[lp]?≠none/\∀c fr,w.heap[lp]?≠some (.cells c 9 fr))(Y:p≠lp/\bD≠lp/\bN≠lp/\pv.ownBlock≠some lp)(h:Dc w wr B lp p bD bN pv l d n nD nN)(r:wr.ownsRow base 9 1 v m xs)(hb:xl w.heap.size v)(f:wr.grownBy E v.ownBlock):Dc w E B lp p bD bN pv l d n nD nN:=by
 have hf:=Fr.cA f;have s:=h.fr.andThen hf (λj o G=>by
  simp at o;have:=hb j o;omega)
 have⟨F,D,a,x,y⟩:=h.log;have z:=u.fr s (by simpa using Y.1) (by simpa using Y.2.1) (by simpa using Y.2.2.1) (λg f b=>by simp at b;subst b;exact Y.2.2.2 f) (λq i t C=>by simp at i;subst i;exact I.2 _ _ C);have A:∀q,v.ownBlock=some q->q≠lp:=λq i e=>by have:=hb q i;omega
 refine⟨s,F,D,⟨z,(hf.block lp (zzl M h.fr.size) λb=>by simp at b;exact A lp b rfl).trans a.blk,a.base,?_,?_,a.eJ,a.iC,a.kQ,a.iO,a.nU⟩,x,y⟩
 .refine ar a.segs hf λg f b=>?_;simp at b;have⟨c,k⟩:=aL r b;exact aQ a.segs k du f
 .refine ar a.recs hf λg f b=>?_;simp at b;have⟨c,k⟩:=aL r b;exact aQ a.recs k du f
end
theorem yA:∀(m:Nat) (l:List Nat),l.Nodup->(∀x∈l,x<m)->l.length<=m
 |0,l,_,h=>by
  cases l with
  |nil=>simp
  |cons x l=>have:=h x dv;omega
 |m+1,l,hn,h=>by
  have ih:=yA m (l.erase m) (hn.erase m) (λx hx=>by
   have b:=h x<|List.mem_of_mem_erase hx;have c:x≠m:=λe=>by subst e;exact(List.Nodup.not_mem_erase hn) hx
   omega)
  by_cases a:m∈l
  .rw[List.length_erase_of_mem a]at ih;omega
  .rw[List.erase_of_not_mem a]at ih;omega
theorem abb{l:List Nm}(hn:l.Nodup)(h:∀u,(.inl u:Nm)∈l->u<m):l.length<=m+2:=by
 have c:=yA (m+2) (l.map λo=>match o with|.inl u=>u+2|.inr z=>if z then 1 else 0) (by
  unfold List.Nodup;rw[zv];refine hn.imp λ{a b} Z e=>Z ?_;obtain u|z:=a<;>obtain v|y:=b
  .simp at e;rw[e]
  .cases y<;>simp at e
  .cases z<;>simp at e
  .cases z<;>cases y<;>simp at e<;>rfl) (by
  intro x hx;obtain⟨o,d,rfl⟩:=zzq.1 hx;obtain u|z:=o
  .have:=h u d;simp;omega
  .cases z<;>simp)
 simpa using c
theorem FH(B p D N n b c mk:Nat)(ss:List Sg)(pv:Value)(d:aj)(w:nL)(h:aC w B p D N pv d n b c)(q:d.down=false)(f:bG d.now mk ss):
  Calls prog 203 #[fS p] w λe w'=>e=.returned (.tuple #[.int .u64 (mk:Int),.nilIface])/\Below w.heap.size w w':=by
 rcases f.mark with⟨rfl,a⟩|a
 .grind [uP]
 .exact Db B p D N n b c mk pv d w h q a<|by have:=f.ve;unfold az at this;omega
structure Ye(w wr:nL)(B lp p bD bN:Nat)(pv:Value)(l:au)(d:aj)(n nD nN:Nat):Prop where
 fr:Fr [lp] w wr
 log:aM wr B lp p bD bN pv (.slice none 0 0) (.slice none 0 0) l d n nD nN
theorem Ye.new{q:nL}(a:Ye w wr B b p h N pv l d n D c)(hf:Fr [] wr q):Ye w q B b p h N pv l d n D c:=⟨a.fr.trans<|hf.mono dv,a.log.new hf⟩
theorem Ye.rdg(b:Ye w wr B c p h N pv l d n D e):Dc w wr B c p h N pv l d n D e:=⟨b.fr,_,_,b.log,(λk a=>by cases a),(λk a=>by cases a)⟩
theorem Dc.from{f:nL}(hf:Fr [b] w f)(c:Dc f wr B b p h N pv l d n D e):Dc w wr B b p h N pv l d n D e:=by
 have⟨s,v,g,i,j⟩:=c.log;exact⟨hf.trans c.fr,s,v,g,λk a=>zzk hf.size<|i k a,λk a=>zzk hf.size<|j k a⟩
def FI(B l p D N n a b mk:Nat)(ss:List Sg)(pv:Value)(d:aj)(w:nL)(e:Ending)(w':nL):Prop :=
 ∃v us,e=.returned (.tuple #[v,.nilIface])/\w'.ownsRow w.heap.size 9 1 v us.length (fZ (us.map aw))/\kY d.now mk ss us/\Dc w w' B l p D N pv (cL mk ss) d n a b
theorem Ur(B l p D N n m r mk:Nat)(ss:List Sg)(pv:Value)(d:aj)(w:nL)(h:aM w B l p D N pv (.slice none 0 0) (.slice none 0 0) (pG 0) d n m r)(hB:3<=B)(mq:d.down=false)(cf:bG d.now mk ss)(b5:lY d.now mk ss≠[])(dK:dJ w)(vP:nZ w)(hlen:az mk ss<=n)(CJ:ss.length+1<=n)(Zq:n+8<=1000000000):
  Calls prog 138 #[gx l] w (FI B l p D N n m r mk ss pv d w):=by
 have c0:=af h.blk 0;simp at c0;have ZN:=h.bP.base.2.2.2;have b':l<w.heap.size:=(zza.1 h.blk).1;have HI:=ah h;have HP:=ah (zzb dK vP);have X:=ah (zzb cf b5);have ay:=ah (zzb b' h.base)
 have aA:Hid ((w.heap[l]?≠none/\∀c fr,w.heap[l]?≠some (.cells c 9 fr))/\(p≠l/\D≠l/\N≠l/\pv.ownBlock≠some l)):=by
  refine⟨⟨by rw[h.blk];simp,λc fr e=>by rw[h.blk] at e;cases e⟩,(h.sep p dv).1,(h.sep D dv).1,(h.sep N dv).1,λe=>(h.sep l (by simp[e])).1 rfl⟩
 have b1:Ye w w B l p D N pv (pG 0) d n m r:=⟨Fr.refl _ _,h⟩
 have C_:Hid (∀W',Fr [l] w W'->dJ W'/\nZ W'):=λW' ho=>by
  have b4:∀k,k<B->W'.heap[k]?=w.heap[k]?:=λk O=>ho.block k dp (by simp;have:=h.base;omega)
  refine⟨dK.cZ (b4 1 dp),?_⟩;obtain⟨ev,e1,e2⟩:=vP;exact⟨ev,(zze (a:=⟨2,0,none⟩) (b4 2 dp)).trans e1,e2⟩
 clear h dK cf vP b5;have C:=Sw;have bq:=adg
 go_enter func138,ntmps138
 go_wp2_with fail;refine(D_ B p D N n m r pv d w HI.out.bP mq).mono ?_;rintro e w1 ⟨v1,ns,rfl,S,jU,dB⟩;obtain⟨z,aa,u_,qP⟩:=X.1.names S;have P5:z.Nodup:=Ea (by rw[<-aa];exact S.1)
 have a8:∀u∈jC z,u<az mk ss+1:=λu f=>by
  rcases X.1.other _ ((qP u).1 f) with e|e|⟨v,e,_,K⟩
  .exact absurd e (br u).1
  .exact absurd e (br u).2
  .obtain rfl:=fN e;have bO:mk<=az mk ss:=Nat.le_add_right _ _;rcases K with K|K|K
   .omega
   .have:=(X.1.start K).2.2;omega
   .omega
 have bt:z.length<=az mk ss+1+2:=abb P5 (λu f=>a8 u (BR.2 f))
 have ag:jC z≠[]:=λe=>by
  obtain⟨u,f⟩:=List.exists_mem_of_ne_nil _ X.2;have:=(qP u).2 ((X.1.IV u).1 f).1;rw[e] at this;simp at this
 have ba:0<z.length:=by have:=Aw z;have:=zzE.2 ag;omega
 have aE:z.length=ns.length:=by rw[aa,zzn]
 rw[<-aE] at jU;obtain⟨A,k1,rfl⟩:=eQ jU ba;have IJ:=b1.new (Fr.bE dB _);have eK:=IJ.log;have k0:=af eK.blk 0;simp at k0
 have aI:X_ w1 A z:=λk o O=>by
  have:=jU.cells (g:=A) rfl k (.string (X9 o)) (by rw[aa];simp[O])
  simpa [Addr.add_lit] using this
 have qG:=(jU.lt A rfl).2;have bu:=(jU.lt A rfl).1;have H1:=ah (zzb IJ aI);have U:=ah (zzb u_ (zzb qP (zzb a8 ag)));clear b1 IJ eK dB c0 aI jU S aa aE u_ qP P5 a8 ag;go_wp2_with fail;refine(FH B p D N n m r mk ss pv d w1 H1.1.log.bP mq X.1).mono ?_;rintro e w2 ⟨rfl,dy⟩;have rJ:=H1.1.new (Fr.bE dy _);have eL:=rJ.log;have m4:=af eL.blk 4;have f4:=aq eL.blk 4;simp at m4;have fT:A<w2.heap.size:=zzl qG dy.size;have aW:X_ w2 A z:=λk o O=>(dy.cell (p:=⟨A,k,none⟩) qG).trans (H1.2 k o O)
 obtain⟨W,hW⟩:∃W,W=w2.setCell ⟨l,4,none⟩ (.int .u64 (mk:Int)):=⟨_,rfl⟩;have fu:Fr [l] w2 W:=by rw[hW];exact Fr.cG dv _ _
 have iL:W.heap[l]?=some (o0 p (.slice none 0 0) (.slice none 0 0) (cL mk [])):=by
  rw[hW];have:=aF eL.blk 4 (.int .u64 (mk:Int));simp[pG,cL,az,mU,starts] at this ⊢;exact this
 have bx:mk<=az mk ss:=Nat.le_add_right _ _;have nV:aM W B l p D N pv (.slice none 0 0) (.slice none 0 0) (cL mk []) d n m r:=eL.KO fu iL (by simp[cL,starts]) (by simp[cL]) (by show mU []<=4096;simp[mU]) (by show az mk []<=n+1;rw[jB];omega) eL.nU (by simp[pG,cL,starts]) (by simp[pG,cL]);have C':Ye w W B l p D N pv (cL mk []) d n m r:=⟨rJ.fr.trans fu,nV⟩;have bb:A≠l:=by have:=ay.1;omega
 have aX:X_ W A z:=λk u O=>(zze (a:=⟨A,k,none⟩) (fu.block A fT (by simpa using bb))).trans (aW k u O)
 have pL:A<W.heap.size:=zzl fT fu.size;have bl:w.heap.size<=W.heap.size:=C'.fr.size;have an:=P2 A k1 z W pL aX (λu f=>by have:=U.2.2.1 u f;omega) U.2.2.2 dp U.1 (C_.out W C'.fr).1 (C_.out W C'.fr).2 dp;have b8:=af nV.blk 4;simp[cL,jB] at b8;have H3:=ah C';clear rJ C' eL nV fu iL aX aW dy H1 k0;obtain⟨M,hM⟩:∃M,M=(jC z).length:=⟨_,rfl⟩;have HM:=ah hM;rw[<-hM] at an;have bc:M<=1000000000:=by have:=Aw z;omega
 clear hM;subst hW;go_wp2_with fail;refine an.mono ?_;clear an;rintro e w4 ⟨g4,c4,l4,rfl,Bq,Dd,NG,nM⟩;have Yf:l4.length=M:=by rw[Bq.length_eq,HM.out]
 have al:l4.Pairwise (· < ·):=by
  have I:l4.Pairwise (·<=·):=nO.pairwise (by rw[Yf];exact Dd);have J:l4.Nodup:=Bq.nodup_iff.2 U.1;exact(I.and J).imp (λ{a b} mZ=>Nat.lt_of_le_of_ne mZ.1 mZ.2)
 have b0:∀u,u∈l4↔d.now (aw u)≠none:=λu=>by rw[Bq.mem_iff];exact U.2.1 u
 have Kf:=H3.out.new (Fr.bE nM _);have nb:=Kf.log
 have GF:Hid (∀(k u:Nat),l4[k]?=some u->w4.cell? ⟨g4,k,none⟩=some (.int .u64 (u:Int))):=λk u O=>by
  have:=NG.cells (g:=g4) rfl k (.int .u64 (u:Int)) (by unfold fC;simp[O])
  simpa [Addr.add_lit] using this
 have oY:=NG.lt g4 rfl;have n4:=af nb.blk 4;simp[cL,jB] at n4;have b6:=LL g4 c4 M mk l4 w4 GF.out Yf al bc;have H4:=ah Kf;have G:=ah (zzb al (zzb b0 Yf))
 have CA:M<=c4:=by
  rcases NG.2 with⟨h',_⟩|⟨g',mz,bH,h',_,_,bm,_⟩
  .simp at h'
  .simp only[Bx,Option.some.injEq,Addr.mk.injEq,and_true,true_and] at h';obtain⟨_,rfl⟩:=h';exact bm
 have bz:w.heap.size<=g4:=by have:=oY.1;have:=bl;simp at *;omega
 have bf:=Kf.fr.size;clear Kf nb NG b8 Bq Dd al b0 Yf nM;go_wp2_with fail;refine b6.mono ?_;clear b6;rintro e w5 ⟨k,bo,rfl,hkM,hkp,rfl⟩;have FJ:=X.1.parted G.1 G.2.1 hkp;have LQ:=X.1.Ya G.1 G.2.1 hkp
 have bA:k<M:=by
  rcases Nat.lt_or_ge k M with h|h
  .exact h
  .exfalso;apply X.2;rw[<-FJ,List.drop_of_length_le (by rw[G.2.2];exact h)]
 have HT:Hid (l4.drop k=lY d.now mk ss/\kY d.now mk ss (l4.take k++iG d.now mk ss)/\M-k=ss.length+(iG d.now mk ss).length):=by
  refine⟨FJ,LQ,?_⟩;rw[<-IW (F:=d.now) mk ss,<-FJ,zzz,G.2.2]
 have j9:=wP g4 0 k c4 (l4.take k) w5 (by rw[zzm,G.2.2];omega) dp (λj x L=>by
  rw[List.getElem?_take] at L;split at L
  .refine⟨by simpa using GF.out j x L,?_⟩;have I:=(G.2.1 x).1 (zzh L);have J:=U.2.2.1 x ((U.2.1 x).2 I);omega
  .cases L) oY.2 (C_.out w5 H4.out.fr).1 dp
 clear FJ LQ hkp;have i1:(k:Int)<=M:=dp;have i2:(k:Int)<=c4:=dp;have i3:k<c4:=dp;have i4:¬(c4:Int)-k=0:=dp;have i5:¬c4-k=0:=dp;have i6:¬k=c4:=dp;go_wp2_with fail;refine j9.mono ?_;clear j9;rintro e E ⟨v6,rfl,ZP,CD⟩;have b2:=H4.out.new (Fr.bE CD _);have bF:=CD.size
 have b9:Hid (∀(j u:Nat),(lY d.now mk ss)[j]?=some u->E.cell? ⟨g4,k+j,none⟩=some (.int .u64 (u:Int))):=λj u L=>by
  rw[<-HT.1,List.getElem?_drop] at L;exact(CD.cell (p:=⟨g4,k+j,none⟩) oY.2).trans (GF.out _ u L)
 have a7:Hid (Ye w E B l p D N pv (cL mk []) d n m r/\E.ownsRow w.heap.size 9 1 v6 (l4.take k++(iG d.now mk ss).take (0-ss.length)).length (fZ ((l4.take k++(iG d.now mk ss).take (0-ss.length)).map aw))):=by
  refine⟨b2,?_⟩;simp only[Nat.zero_sub,List.take_zero,wo];rw[zzm,G.2.2,Nat.min_eq_left dp];exact tW ZP bf
 have bg:g4<E.heap.size:=by have:=oY.2;omega
 obtain⟨T,hT⟩:∃T,T=M-k:=⟨_,rfl⟩;have Wn:=ah hT;have jT:(M:Int)-k=(T:Int):=dp;clear ZP CD b2 n4 H4;go_wp2
 go_loopw [58,9] (λi v wr=>∃j:Nat,j<=T/\i=.int .i64 j/\Hid (xl w.heap.size v/\Dc w wr B l p D N pv (cL mk (ss.take j)) d n m r/\wr.ownsRow w.heap.size 9 1 v (l4.take k++(iG d.now mk ss).take (j-ss.length)).length (fZ ((l4.take k++(iG d.now mk ss).take (j-ss.length)).map aw))/\(j<=ss.length->Dc E wr B l p D N pv (cL mk (ss.take j)) d n m r))) (λi _ _=>T-(intOf i).toNat)
 case atStart =>
  have h6:Dc E E B l p D N pv (cL mk (ss.take 0)) d n m r:=Ye.rdg ⟨Fr.refl _ _,a7.1.log⟩;exact⟨0,zzs _,rfl,(λq y=>(a7.2.lt q y).1),Dc.from a7.1.fr h6,a7.2,λ_=>h6⟩
 case round =>
  obtain⟨j,bK,rfl,R⟩:=hrel;by_cases bW:j<T
  .obtain⟨u,f⟩:∃u,(lY d.now mk ss)[j]?=some u:=⟨_,zzg (by rw[IW];have:=HT.2.2;have:=Wn.out;omega)⟩;have XM:(iG d.now mk ss).length<=1:=by rcases BU d.now mk ss with e|e<;>rw[e.1]<;>simp
   have ao:j<=ss.length:=by have:=HT.2.2;have:=Wn.out;omega
   have hQ:=R.2.2.2 ao;have XL:wr.heap[g4]?=E.heap[g4]?:=hQ.fr.block g4 bg ef;have ck:=(zze (a:=⟨g4,k+j,none⟩) XL).trans (b9.out j u f);have l1:(j:Int)<T:=dp
   have ab:=C_.out wr R.2.1.fr;obtain⟨sv,rv,Y,S,SD⟩:=hQ.log;rcases Nat.lt_or_ge j ss.length with G'|G'
   .obtain⟨s,hs⟩:∃s,ss[j]?=some s:=⟨_,zzg G'⟩;have V:u=az mk (ss.take j):=by rw[tail_at mk ss G'] at f;exact(Option.some.inj f).symm
    obtain⟨x1,x2,x3,x4,x5,x6,x7⟩:=X.1.at_ hs;have P:=Yb B l p D N n m r pv sv rv (cL mk (ss.take j)) d s.1 s.2 wr Y mq x1 x2 x3 x5 x4 ab.1 (by have I:=x7;have J:=hlen;unfold az at I J;show((chunks (ss.take j)).flatten).length+s.1.length<=n;omega) (by show(starts _ _).length+1<=n;rw[eT];simp;omega) (by show az mk (ss.take j)+s.1.length<=n+1;omega) (by rw[vM];omega);have es:(⟨(cL mk (ss.take j)).segs++[(cL mk (ss.take j)).next],nu (s.1,s.2),(cL mk (ss.take j)).recs++s.1,(cL mk (ss.take j)).next+s.1.length,(cL mk (ss.take j)).ak,(cL mk (ss.take j)).failed⟩:au)=cL mk (ss.take (j+1)):=by rw[IQ hs,LO];rfl
    rw[es] at P;have en:(cL mk (ss.take j)).next=u:=by rw[V];rfl
    rw[en] at P;have H:=ah (zzb hQ (zzb S (zzb SD (zzb Y.segs Y.recs))));have HJ:=ah G';clear Y hQ x1 x2 x3 x4 x5 x6 x7 V es en hs f ab S SD G' ao;go_wp2_with fail;refine P.mono ?_;clear P;rintro e Q ⟨rfl,⟨sv7,rv7,Us,hs7,hr7⟩,lU⟩
    have Z:Dc E Q B l p D N pv (cL mk (ss.take (j+1))) d n m r:=by
     refine⟨H.1.fr.andThen lU (λq y bR=>?_),sv7,rv7,Us,H.2.1.adh hs7 H.1.fr.size,H.2.2.1.adh hr7 H.1.fr.size⟩;rcases zzj.1 y with e|y
     .simp[e]
     .rcases zzo.1 y with y|y
      .simp at y;have:=H.2.1 q y;omega
      .simp at y;have:=H.2.2.1 q y;omega
    have a':Q.ownsRow w.heap.size 9 1 u9 (l4.take k++(iG d.now mk ss).take (j+1-ss.length)).length (fZ ((l4.take k++(iG d.now mk ss).take (j+1-ss.length)).map aw)):=by
     have G':=HJ.out;have h0:=R.2.2.1;rw[show j-ss.length=0 by omega] at h0;rw[show j+1-ss.length=0 by omega];refine ar h0 lU (λq y C=>?_);obtain⟨c,hc⟩:=aL h0 y;rcases zzj.1 C with e|C
     .have:=R.1 q y;omega
     .rcases zzo.1 C with C|C
      .simp at C;exact aQ H.2.2.2.1 hc du C
      .simp at C;exact aQ H.2.2.2.2 hc du C
    have H7:Hid (xl w.heap.size u9/\Dc w Q B l p D N pv (cL mk (ss.take (j+1))) d n m r/\Q.ownsRow w.heap.size 9 1 u9 (l4.take k++(iG d.now mk ss).take (j+1-ss.length)).length (fZ ((l4.take k++(iG d.now mk ss).take (j+1-ss.length)).map aw))/\(j+1<=ss.length->Dc E Q B l p D N pv (cL mk (ss.take (j+1))) d n m r)):=⟨R.1,Dc.from a7.1.fr Z,a',λ_=>Z⟩;clear Z a' Us hs7 hr7 lU;go_wp2
    go_roundw
    case rel=>exact⟨j+1,dp,dv,H7.out⟩
    case measure=>simp[intOf];omega
   .obtain rfl:j=ss.length:=dp;have IX:ss.take ss.length=ss:=List.take_length;rcases BU d.now mk ss with a1|a1
    .exfalso;have I:=HT.2.2;have J:=Wn.out;rw[a1.1] at I;simp at I;omega
    .obtain⟨t,ht⟩:∃t,d.now (aw (az mk ss))=some t:=Option.ne_none_iff_exists'.1 a1.2;obtain⟨b,rfl,hb⟩:=X.1.dead t ht
     have V:u=az mk ss:=by
      unfold lY at f;rw[a1.1,Hn (by rw[eT];simp)] at f;rw[eT] at f;simp at f;exact f.symm
     rw[IX] at Y;have P:=Yc B l p D N n m r pv sv rv (cL mk ss) d b wr Y mq hb ht ab.1;have en:(cL mk ss).next=u:=by rw[V];rfl
     rw[en] at P;have a8:u<18446744073709551616:=by rw[V];have:=X.1.ve;omega
     have HU:=ah (zzb V a1.1);have Wo:=R.2.2.1;rw[Nat.sub_self,List.take_zero,wo] at Wo;have HV:=ah Wo;have rG:=R.2.1.fr.size;have o_:(l4.take k).length<=1000000000:=by rw[zzm];omega
     clear Y hQ f ab S SD ao ht hb a1 en V Wo IX XM;go_wp2_with fail;refine P.mono ?_;clear P;rintro e Q ⟨rfl,uS⟩;have Z:=R.2.1.new (Fr.bE uS _);have a':=qa HV.out uS;have bp:=(C_.out Q Z.fr).1;have ad:=ah (zzb Z a');clear Z a' uS;go_wp2_with fail;refine(gS u Q a8 bp).mono ?_;rintro e w8 ⟨rfl,IY⟩;have ax:=ad.1.new (Fr.bE IY _);have b7:=qa ad.2 IY;have bT:=ax.fr.size;have ae:=ah (zzb ax b7);clear ax b7 IY ad
     go_wp2_with (at_builtin;refine zn rfl _ _ rfl w.heap.size u9 (l4.take k).length ((l4.take k).map aw) (aw u) w8.heap.size rfl (ae.2.alloc _) rfl dv dp ef ?_;intro v9 w9 av b3)
     have Yg:=Dc.texts HI.out.bP ay.1 aA.1 aA.2 (ae.1.new ((fU w8).alloc (.cells #[.string (aw u)] 9))) (ae.2.alloc _) R.1 b3
     have H9:Hid (xl w.heap.size v9/\Dc w w9 B l p D N pv (cL mk (ss.take ss.length)) d n m r/\w9.ownsRow w.heap.size 9 1 v9 (l4.take k++(iG d.now mk ss).take (ss.length+1-ss.length)).length (fZ ((l4.take k++(iG d.now mk ss).take (ss.length+1-ss.length)).map aw))):=by
      refine⟨λq y=>(av.lt q y).1,Yg,?_⟩;rw[show ss.length+1-ss.length=1 by omega,HU.2,<-HU.1]
      simpa using av
     clear Yg av b3
     go_roundw
     case rel=>exact⟨ss.length+1,dp,dv,H9.1,by rw[zzt (by omega:ss.length<=ss.length+1)];have:=H9.2.1;rwa [List.take_length] at this,H9.2.2,λh=>dp⟩
     case measure=>simp[intOf];omega
  .obtain rfl:j=T:=dp;have l1:¬(j:Int)<j:=dp;have BV:Hid (j=ss.length+(iG d.now mk ss).length):=by have:=HT.2.2;have:=Wn.out;show _=_;omega
   go_wp2;go_ret2;obtain⟨_,J,K,_⟩:=R.out;have e2:ss.take j=ss:=zzt (by have:=BV.out;omega);have e3:(iG d.now mk ss).take (j-ss.length)=iG d.now mk ss:=zzt (by have:=BV.out;omega);rw[e2] at J;rw[e3] at K;exact⟨_,_,rfl,K,HT.2.1,J⟩
theorem aM.afL{w':nL}{s e:Value}(b:aM w B a p h N pv s e l d n D c)(hf:mJ a p w w')(r:w.ownsRow base 9 1 v m xs):w'.ownsRow base 9 1 v m xs:=by
 refine⟨r.1,?_⟩;obtain f|⟨g,cap,cur,rfl,b1,b2,b3⟩:=r.2
 .grind
 .exact .inr ⟨g,cap,cur,rfl,b1,(hf.block g (zza.1 b2).1<|b.free b2 du du du du du).trans b2,b3⟩
theorem De(B p D N n a b base:Nat)(pv v:Value)(d:aj)(ns:List nS)(w:nL)(h:aC w B p D N pv d n a b)(hn:n+ns.length<=1000000000)(r:w.ownsRow base 9 1 v ns.length<|fZ ns)(z:∀x∈ns,x.size<=maxLen):
  Calls prog 142 #[fS p,v] w (nW B p D N (n+ns.length) (d.removeAll ns) w):=by
 rcases r.2 with⟨rfl,f⟩|⟨g,c,e,rfl,_⟩
 .obtain rfl:ns=[]:=List.length_eq_zero_iff.1 dp;exact removeAll_nil B p D N n a b pv d w h
 .grind [sD]
theorem abe(B f p D N n g i bd u base:Nat)(pv s j v:Value)(ns:List nS)(l:au)(d:aj)(w:nL)(h:aM w B f p D N pv s j l d n g i)(a:w.heap[bd]?=some (.cells #[fS p] 137))(c:w.heap[u]?=some (.cells #[v] 178))(r:w.ownsRow base 9 1 v ns.length<|fZ ns)(z:∀x∈ns,x.size<=maxLen)(hn:n+ns.length<=1000000000):
  Calls prog 141 #[gx bd,gx u] w (lM B f p D N (n+ns.length) [] (l,d.removeAll ns) w):=by
 have k:=af a 0;have c1:=af c 0;simp at k c1;have I:=ah h;have b:=De B p D N n g i base pv v d ns w h.bP hn r z;clear h a c r z;go_enter func141,ntmps141;go_wp2_with fail;apply b.mono;clear b;rintro e m ⟨rfl,⟨mj,nK,nG,kR⟩,cY⟩;have⟨K,q⟩:=(I.out.fW (by omega:n<=n+ns.length) hn).XH kR cY;have H:=ah<|zzb K q;clear K q kR cY;go_wp2;go_ret;exact⟨rfl,⟨mj,s,j,nK,nG,H.1⟩,H.2.x⟩
def au.dR(l:au)(d:aj)(ns:List nS):au × aj × Nat :=
 if (l.sync d).2.2=0 then ((l.sync d).1,(l.sync d).2.1.removeAll ns) else l.sync d
theorem Yh(B a p D N n m o Z bd u base:Nat)(pv s r v:Value)(ns:List nS)(l:au)(d:aj)(w:nL)(h:aM w B a p D N pv s r l d n m o)(hn:n+ns.length<=1000000000)(q:w.ownsRow base 9 1 v ns.length<|fZ ns)(C:∀x∈ns,x.size<=maxLen)
  (f:w.heap[Z]?=some (.cells #[.func (.func 140) #[gx a] #[],.func (.func 141) #[] #[gx bd,gx u]] 147)) (i:w.heap[bd]?=some (.cells #[fS p] 137)) (j:w.heap[u]?=some (.cells #[v] 178)) :
  Calls prog 139 #[.slice (some<|gi Z) 2 2] w (lM B a p D N (n+ns.length) [] (l.dR d ns) w):=by
 have A:=af f 0;simp at A;have I:Hid (aM w B a p D N pv s r l d n m o):=h;have E:=h.free f du du du du du;have F:=h.free i du du du du du;have G:=h.free j du du du du du;clear h;go_enter func139,ntmps139;go_wp2;apply Bn 3;rw[wk];go_wp2_with fail;apply(tU B a p D N n m o pv s r l d w I.out dp).mono;rintro e b ⟨rfl,⟨mj,tV,gM,nK,nG,eK⟩,gq⟩;have z:=I.out.afL gq q;have y:=(gq.block Z (zza.1 f).1 E).trans f;have R:=(gq.block bd (zza.1 i).1 F).trans i;have t:=(gq.block u (zza.1 j).1 G).trans j;have J:=af y 1;simp at J;have c:Hid (aM b B a p D N mj tV gM (l.sync d).1 (l.sync d).2.1 n nK nG/\mJ a p w b):=⟨eK,gq⟩;have k:Hid (b.heap[bd]?=some (.cells #[fS p] 137)/\b.heap[u]?=some (.cells #[v] 178)/\b.ownsRow base 9 1 v ns.length (fZ ns)):=⟨R,t,z⟩;clear eK gq y R t i j f A q z;by_cases g:(l.sync d).2.2=0
 .have eo:l.dR d ns=((l.sync d).1,(l.sync d).2.1.removeAll ns):=by unfold au.dR;rw[oo g]
  rw[g,aT];go_wp2;rw[wk];go_wp2_with fail;apply(abe B a p D N n nK nG bd u base mj tV gM v ns (l.sync d).1 (l.sync d).2.1 b c.1 k.1 k.2.1 k.2.2 C hn).mono;rintro e w2 ⟨rfl,eL,ik⟩;have H:Hid (lM B a p D N (n+ns.length) [] ((l.sync d).1,(l.sync d).2.1.removeAll ns) w (.returned<|bB ((l.sync d).2.1.removeAll ns).2) w2):=⟨rfl,eL,c.2.x.trans ik⟩;clear eL ik;by_cases iy:((l.sync d).2.1.removeAll ns).2=0
  .rw[iy,aT]at H ⊢;go_wp2;rw[wk];go_wp2;go_ret;rw[eo];exact H.out
  .rw[aV iy]at H ⊢;go_wp2;go_ret;rw[eo];exact H.out
 .have eo:l.dR d ns=l.sync d:=by unfold au.dR;rw[mE g]
  have H:Hid (lM B a p D N (n+ns.length) [] (l.sync d) w (.returned<|bB (l.sync d).2.2) b):=⟨rfl,⟨mj,tV,gM,nK,nG,c.1.fW dp hn⟩,c.2.x⟩;rw[aV g]at H ⊢;go_wp2;go_ret;rw[eo];exact H.out
theorem Yi(a:Option Addr)(c:Nat)(w:nL):Calls prog 204 #[.slice a 0 c] w λe w'=>e=.returned (.slice none 0 0)/\w'=w:=by
 go_enter func204,ntmps204;go_wp2;apply Bn 1;rw[wk];go_wp2_with fail;apply(DT w).mono;rintro e b ⟨rfl,rfl⟩;go_wp2;go_ret;exact⟨rfl,rfl⟩
theorem P7(B b p D N n f i:Nat)(pv:Value)(d:aj)(w:nL)(h:aM w B b p D N pv (.slice none 0 0) (.slice none 0 0) (pG 0) d n f i)(F:d.down=false)(t:∀k,d.now k=none):
  Calls prog 138 #[gx b] w (FI B b p D N n f i 1 [] pv d w):=by
 have y:=af h.blk 0;simp at y;have I:=ah h;clear h;have U:=Sw
 go_enter func138,ntmps138
 go_wp2_with fail;refine(D_ B p D N n f i pv d w I.out.bP F).mono ?_;rintro e j ⟨v1,ns,rfl,DA,jU,dB⟩
 obtain rfl:ns=[]:=by
  cases ns with
  |nil=>rfl
  |cons x l=>exact absurd (t x)<|(DA.2 x).1 dv
 obtain⟨P,Q,rfl⟩:∃a c,v1=.slice a 0 c:=by
  rcases jU.2 with⟨e,_⟩|⟨g,R,S,e,_⟩
  .exact⟨_,_,e⟩
  .exact⟨_,_,e⟩
 clear DA jU;have Y:Fr [] w j:=Fr.bE dB _;have K:=I.out.new Y;have z:Fr [b] w j:=Y.mono (by simp);have E:=af K.blk 0;simp at E;have m:=ah<|zzb K z;clear K z Y dB y;go_wp2_with fail;refine(uP B p D N n f i pv d j m.1.bP F<|t _).mono ?_;rintro e w2 ⟨rfl,dy⟩;have o:Fr [] j w2:=Fr.bE dy _;have L:=m.1.new o;have C:=m.2.trans (o.mono dv);have M:=af L.blk 4;have T:=aq L.blk 4;simp at M;have H:=ah<|zzb L C;clear L C o dy E;have⟨W,r⟩:∃W,W=w2.setCell ⟨b,4,none⟩ (.int .u64 1):=⟨_,rfl⟩;have q:Fr [b] w2 W:=by rw[r];exact Fr.cG dv _ _
 have A:W.heap[b]?=some (o0 p (.slice none 0 0) (.slice none 0 0)<|pG 1):=by rw[r];have:=aF H.1.blk 4<|.int .u64 1;simp[pG]at this ⊢;exact this
 have hn:=H.1.bP.hn;have V:=H.1.KO q A H.1.eJ H.1.iC H.1.kQ (by show 1<=n+1;omega) H.1.nU rfl rfl;have J:=H.2.trans q;have O:=af V.blk 4;simp[pG]at O;have v:=ah<|zzb V J;clear V J q A;subst r;go_wp2_with fail;apply(Yi P Q _).mono;rintro e G ⟨rfl,rfl⟩;go_wp2_with fail;apply(KZ 1 _).mono;rintro e G ⟨rfl,rfl⟩;go_wp2_with fail;apply(Hr _).mono;rintro e G ⟨rfl,rfl⟩;go_wp2;apply Bn 1;rw[wk];go_wp2;go_ret2;exact⟨_,[],rfl,zzu _ _ _ _,⟨List.nodup_nil,λu=>by simp[t]⟩,v.2,_,_,v.1,(λk s=>by cases s),(λk s=>by cases s)⟩
theorem bG.Ut{F:aG}{mk:Nat}{ss:List Sg}(h:bG F mk ss)(j:∀k,F k=none):mk=1/\ss=[]:=by
 constructor
 .rcases h.mark with h|h
  .exact h.1
  .grind
 .cases ss with
  |nil=>rfl
  |cons s l=>have:=h.files 0 s rfl;rw[j]at this;cases this
def zw(F:aG)(mk:Nat)(ss:List Sg):Prop:=lY F mk ss≠[]\/∀k,F k=none
theorem P8(B l p D N n a b mk:Nat)(ss:List Sg)(pv:Value)(d:aj)(w:nL)(h:aM w B l p D N pv (.slice none 0 0) (.slice none 0 0) (pG 0) d n a b)(c:3<=B)(q:d.down=false)(f:bG d.now mk ss)(e:zw d.now mk ss)(K:dJ w)(P:nZ w)(hlen:az mk ss<=n)(J:ss.length+1<=n)(Z:n+8<=1000000000):
  Calls prog 138 #[gx l] w (FI B l p D N n a b mk ss pv d w):=by
 obtain e|e:=e
 .grind [Ur]
 .obtain⟨rfl,rfl⟩:=f.Ut e;exact P7 B l p D N n a b pv d w h q e
def P9(B p D N n:Nat)(r:au × aj × Nat)(w:nL)(e:Ending)(w':nL):Prop :=
 ∃l,e=.returned (.tuple #[gx l,.nilIface])/\w.heap.size<=l/\(∃pv s v a b,aM w' B l p D N pv s v r.1 r.2.1 n a b)/\qQ p w w'/\∀k,k<w.heap.size->Own l p w' k->nj p w k
def uf(B p D N n:Nat)(r:au × aj × Nat)(w:nL)(e:Ending)(w':nL):Prop :=
 (r.2.2=0/\P9 B p D N n r w e w')\/(r.2.2≠0/\e=.returned (.tuple #[.pointer none,bB r.2.2])/\(∃pv a b,aC w' B p D N pv r.2.1 n a b)/\qQ p w w')
theorem P_(B p D N n t y mk:Nat)(ss:List Sg)(pv:Value)(d:aj)(w:nL)(h:aC w B p D N pv d n t y)(hB:3<=B)(mq:d.down=false)(Y:bG d.now mk ss)(a1:zw d.now mk ss)(Z:dJ w)(vP:nZ w)(hlen:az mk ss<=n)(CJ:ss.length+1<=n)(Zq:n+8<=1000000000)(aa:∀us,kY d.now mk ss us->n+us.length<=1000000000):
  Calls prog 87 #[fS p] w λe w'=>∃us,kY d.now mk ss us/\uf B p D N (n+us.length) ((cL mk ss).dR d<|us.map aw) w e w':=by
 have hn:=h.hn;have mY:=h.base;obtain⟨W,l⟩:∃W,W=(w.alloc<|.cells #[fS p] 137).alloc (o0 p (.slice none 0 0) (.slice none 0 0)<|pG 0):=⟨_,rfl⟩;have I:Fr [] w W:=by rw[l];exact((fU w).alloc _).alloc _
 have O:W.heap[w.heap.size]?=some (.cells #[fS p] 137):=by rw[l,zzf _ _ w.heap.size dv];exact oz w _
 have rU:W.heap[w.heap.size+1]?=some (o0 p (.slice none 0 0) (.slice none 0 0)<|pG 0):=by rw[l];have:=oz (w.alloc<|.cells #[fS p] 137)<|o0 p (.slice none 0 0) (.slice none 0 0)<|pG 0;rw[zzv]at this;exact this
 have wU:aM W B (w.heap.size+1) p D N pv (.slice none 0 0) (.slice none 0 0) (pG 0) d n t y:={bP:=h.new I,blk:=rU,base:=dp,segs:=zzu _ _ _ _,recs:=zzu _ _ _ _,eJ:=⟨by simp[pG],by simp[pG]⟩,iC:=by simp[pG],kQ:=by simp[pG],iO:=by simp[pG],nU:=by simp[pG]};have H:=ah<|zzb h I;have g:=ah wU;have C:=ah O;have X:Hid ((bG d.now mk ss/\zw d.now mk ss)/\dJ W/\nZ W):=⟨⟨Y,a1⟩,Z.cZ<|I.block 1 dp dv,by have⟨ev,e1,e2⟩:=vP;exact⟨ev,(zze<|I.block 2 dp dv).trans e1,e2⟩⟩;have my:=Nf p;clear h I O rU wU Y a1 Z vP
 go_enter func87,ntmps87;go_wp2_with fail;have j:W=(w.alloc<|.cells #[fS p] 137).alloc (.cells #[fS p,.slice none 0 0,.int .i64 600,.slice none 0 0,.int .u64 0,.int .u64 0,.nilIface] 177):=l;rw[<-j];clear l j;apply(P8 B (w.heap.size+1) p D N n t y mk ss pv d W g.out hB mq X.1.1 X.1.2 X.2.1 X.2.2 hlen CJ Zq).mono;rintro e b ⟨uv,us,rfl,hru,LQ,Wp⟩;have⟨sv,rv,K,Q,T⟩:=Wp.log;have G:=g.out.C0 K Wp.fr (λk f _=>by simp at f;simp[f]) (.inl rfl) (bU.refl _ _) (λk f=>.inr<|Q k f) λk f=>.inr<|T k f;obtain⟨m,q,o,rfl⟩:=dN hru;have a8:=aa us LQ;have E:=(G.block w.heap.size (zza.1 C.out).1<|g.out.free C.out du du du du du).trans C.out;have⟨c,j⟩:∃c,c=(b.alloc<|.cells #[.slice m q o] 178).alloc (.cells #[.func (.func 140) #[.pointer<|some ⟨w.heap.size+1,0,none⟩] #[],.func (.func 141) #[] #[.pointer<|some ⟨w.heap.size,0,none⟩,.pointer<|some ⟨b.heap.size,0,none⟩]] 147):=⟨_,rfl⟩;have i:Fr [] b c:=by rw[j];exact((fU b).alloc _).alloc _
 have a7:c.heap[b.heap.size]?=some (.cells #[.slice m q o] 178):=by rw[j,zzf _ _ b.heap.size dv];exact oz b _
 have pS:c.heap[b.heap.size+1]?=some (.cells #[.func (.func 140) #[.pointer<|some ⟨w.heap.size+1,0,none⟩] #[],.func (.func 141) #[] #[.pointer<|some ⟨w.heap.size,0,none⟩,.pointer<|some ⟨b.heap.size,0,none⟩]] 147):=by
  rw[j];have:=oz (b.alloc<|.cells #[.slice m q o] 178)<|.cells #[.func (.func 140) #[.pointer<|some ⟨w.heap.size+1,0,none⟩] #[],.func (.func 141) #[] #[.pointer<|some ⟨w.heap.size,0,none⟩,.pointer<|some ⟨b.heap.size,0,none⟩]] 147;rw[zzv]at this;exact this
 have U:=(i.block w.heap.size (zza.1 E).1 dv).trans E;have hz:∀x∈us.map aw,x.size<=maxLen:=λx hx=>by
  obtain⟨u,hu,rfl⟩:=zzq.1 hx;have J:=X.1.1.other _ ((LQ.2 u).1 hu).1;have a':u<18446744073709551616:=by
   obtain e|e|⟨v,e,h2,_⟩:=J
   .exact absurd e (br u).1
   .exact absurd e (br u).2
   .rw[fN e];exact h2
  have:=jr u a';unfold maxLen;omega
 have V:c.ownsRow W.heap.size 9 1 (.slice m q o) (us.map aw).length (fZ<|us.map aw):=by rw[zzn];exact ar hru i dv
 have HC:Hid (Calls prog 139 #[.slice (some ⟨b.heap.size+1,0,none⟩) 2 2] c (lM B (w.heap.size+1) p D N (n+us.length) [] ((cL mk ss).dR d<|us.map aw) c)):=by
  have h9:=Yh B (w.heap.size+1) p D N n t y (b.heap.size+1) w.heap.size b.heap.size W.heap.size pv sv rv (.slice m q o) (us.map aw) (cL mk ss) d c (K.new i) (by simpa using a8) V hz pS U a7;rwa [zzn]at h9
 have S:=ah LQ;have P:=ah<|G.trans<|K.zS i;clear K G E i a7 pS U hru V LQ Wp hz Q T;go_wp2_with fail;rw[<-j];clear j;apply HC.out.mono;rintro e z ⟨rfl,⟨Ht,sv3,rv3,J_,Hu,nV⟩,wj⟩;have A:=ah nV;have M:Hid (qQ p w z):=qQ.ofO H.1 g.out H.2 dp (P.out.trans wj.C0) nV
 have HK:Hid (∀k,k<w.heap.size->Own (w.heap.size+1) p z k->nj p w k):=λk f ho=>by
  have J:=(P.out.trans wj.C0).stay k (zzl f H.2.size) ho;rcases (g.out.own k).1 J with e|e|e|e|e|e|e
  .omega
  .exact(H.1.fI k).2<|by simp[e]
  .exact(H.1.fI k).2<|by simp[e]
  .exact(H.1.fI k).2<|by simp[e]
  .exact(H.1.fI k).2<|by simp[e]
  .cases e
  .cases e
 clear nV wj;have⟨r,L⟩:=gb <|(cL mk ss).dR d (us.map aw);rw[<-L]at A ⊢;have R:=ah L;clear L;by_cases s:r.2.2=0
 .rw[s,aT];have F:Hid (∃us,kY d.now mk ss us/\uf B p D N (n+us.length) ((cL mk ss).dR d<|us.map aw) w (.returned<|.tuple #[.pointer<|some ⟨w.heap.size+1,0,none⟩,.nilIface]) z):=⟨us,S.out,by rw[<-R.out];exact .inl ⟨s,w.heap.size+1,rfl,by omega,⟨Ht,sv3,rv3,J_,Hu,A.out⟩,M.out,HK.out⟩⟩;go_wp2;go_ret2;exact F.out
 .have F:Hid (∃us,kY d.now mk ss us/\uf B p D N (n+us.length) ((cL mk ss).dR d<|us.map aw) w (.returned<|.tuple #[.pointer none,bB r.2.2]) z):=⟨us,S.out,by rw[<-R.out];exact .inr ⟨s,rfl,⟨Ht,J_,Hu,A.out.bP⟩,M.out⟩⟩;rw[aV s]at F ⊢;go_wp2;go_ret2;exact F.out
end Go.Proofs.YtlgeloebpdmnnaaGreatDoor
