import Derived.Test.YtdcafjmdfpjcbaaGreatDoorC46
set_option maxHeartbeats 16000000
set_option maxRecDepth 100000
namespace Go.Proofs.YtdcafjmdfpjcbaaGreatDoor
open Go.RowKit Go.Maps Tryz Sc
variable{wr:Bool}{k:ByteArray}{seq:Int}{c g i t:Nat}{l l':aJ}{R:aK}{x:a_}
section
variable(rp t:Nat)(k:ByteArray)(wr:Bool)(R:aK)(w:World)
theorem OH [Inhabited Bs](h:RS w rp R)(ha:jg R.af)(hn:R.af.length<=12)(hl:∀x∈R.af,x.ak.length<=4)(Z:aU R.af t=none)(hr:R.refuse t 0 k=0):
  Calls prog 127 #[rM rp,.int .u64 (t:Int),.int .i64 0,.string k,.bool wr] w λe w'=>∃i kx:Nat,e=.returned (.tuple #[.int .i64 (i:Int),.int .i64 (kx:Int),.int .i64 ((R.op t 0 k wr<|dv k).2:Int)])/\EK w w' rp t 0 k wr R i kx:=by
 have n_:=h.find (t:=t) oE;obtain⟨h0,kD,gT,_,Ky⟩:=jQ hr;obtain⟨_,DH⟩:=Ky Z
 have Q:p8 R.af t=none:=by
  cases hz:p8 R.af t with
  |none=>rfl
  |some i=>obtain⟨x',_,_,e⟩:=kR hz;rw[Z]at e;cases e
 rw[Q]at n_;have e2:ze none=-1:=rfl;rw[e2]at n_;have z1:¬((t:Int)=0):=oE;have b0:((t:Int)==0)=false:=sC;have y1:¬(k.size:Int)<1:=oE;have y2:¬(16:Int)<(k.size:Int):=oE;obtain⟨ao,cc,c1⟩:=h.nil;obtain⟨m,hm⟩:∃m,m=R.af.length:=⟨_,rfl⟩;rw[<-hm]at c1;have b1:m<12:=oE;have aI:¬((m:Int)=12):=oE;have aX:((m:Int)==12)=false:=sC;obtain⟨Y,xv,A,h⟩:=h;have wy:A.length=m:=by rw[h.len,hm]
 have I:Hid (cX w rp Y xv A R/\jg R.af/\(∀x∈R.af,x.ak.length<=4)/\R.refuse t 0 k=0/\aU R.af t=none):=⟨h,ha,hl,hr,Z⟩;have qd:=λq=>JU rp t Y xv A R (w.drewN q) (h.fr<|(lE w).aR q) oE
 clear h Q Z hl ha hn Ky hr hm DH
 go_enter func127,ntmps127
 go_wp2_with fail;refine n_.mono ?_;rintro e w1 ⟨rfl,q,rfl⟩;clear n_;have a8:=qd q;clear qd;go_wp2_with fail;refine a8.mono ?_;rintro e a7 ⟨i,hik,rfl,hB⟩;clear a8 c1;obtain⟨CX,a6⟩:=hB.rs;obtain⟨x,N⟩:∃x,x=yv t:=⟨_,rfl⟩;obtain⟨v,hp⟩:=a6.at hB.at_
 have a1:(A.take i++py t::A.drop i)[i]?=some (py t):=by
  rw[List.getElem?_append_right<|by rw[zzm];omega,zzm,Nat.min_eq_left hik,Nat.sub_self];rfl
 obtain⟨ay,c,e0,H⟩:=a6.slice;obtain⟨g,e3,_⟩:=H i _ a1;rw[e3]at e0;subst e0;obtain⟨P,S⟩:∃P,P=A.take i++py t::A.drop i:=⟨_,rfl⟩;obtain⟨n,W⟩:∃n,n=P.length:=⟨_,rfl⟩;have aA:n<=13:=by rw[W,S,zzi,zzm,zzr,zzz];omega
 have JS:i<n:=by rw[W,S];exact(zzd.1 a1).1
 obtain⟨d,U⟩:∃d,d=aK.mk R.table (ins R.af<|yv t):=⟨_,rfl⟩;obtain⟨l,ab⟩:∃l:Option Addr,l=none:=⟨_,rfl⟩;obtain⟨f,Uu⟩:∃f:Nat,f=0:=⟨_,rfl⟩;have Zl:Value.slice none 0 0=.slice l x.ak.length f:=by rw[ab,Uu,N];rfl
 have L:Hid (Tl a7 rp g n c i Y P d x<|.slice l x.ak.length f):=by
  refine⟨?_,W.symm,?_⟩
  .rw[W,S,U];exact a6
  .rw[<-Zl,S,N];exact a1
 have B:Hid (TkB w a7 t 0 k P R d x):=by
  refine⟨?_,by rw[U],?_,?_,(iE.dJ ((lE w).aR q) sE).trans (iE.dJ hB.fr λz hz=>by simp at hz;subst hz;exact(I.1.fr<|(lE w).aR q).ref),λp hp=>?_,I.2.2.2.1,by rw[N];show 0<_;decide⟩
  .rw[U];unfold began;rw[I.2.2.2.2];rfl
  .rw[N];unfold aK.tx;rw[I.2.2.2.2];rfl
  .rw[U];exact I.2.1.ins _ I.2.2.2.2
  .rw[S]at hp;rcases zzo.1 hp with hp|hp
   .obtain⟨j,hj⟩:=zzB.1<|List.mem_of_mem_take hp;exact I.2.2.1 p.1<|zzh<|I.1.back hj
   .rcases zzj.1 hp with rfl|hp
    .show 0<=4;omega
    .obtain⟨j,hj⟩:=zzB.1<|List.mem_of_mem_drop hp;exact I.2.2.1 p.1<|zzh<|I.1.back hj
 have HJ:Hid (lJ x.ak k=none):=by show _=_;rw[N];rfl
 have i0:(0:Int)<=i:=oE;have i1:(i:Int)<n:=oE;have i2:¬(i:Int)<0:=oE;obtain⟨A,zL⟩:∃A,A=P:=⟨_,rfl⟩;rw[<-zL]at L B;have c1:=True.intro;have F:=True.intro;have J:=True.intro;have G:=True.intro;have o:=True.intro;clear zL Zl ab Uu U W S a1 hp H e3 a6 hB N hik wy;obtain⟨T1,r1⟩:=L.out.set (j:=3) (u:=.int .i64 0) (x':=⟨x.id,x.st,x.ops,0,x.ak⟩) (by decide) rfl rfl
 have Mo:=ub rp t k wr Y (.slice (some ⟨g,0,none⟩) n c) _ _ _ T1.1 (by rw[T1.2.1];omega) (λp hp=>by
  rcases List.mem_or_eq_of_mem_set hp with hp|rfl
  .have:=B.out.nj p hp;omega
  .have:=B.out.nj _ (zzh L.2.2);exact zzk this dN)
 have a':meets (d.af.set i ⟨x.id,x.st,x.ops,0,x.ak⟩) t k wr=meets (began R.af t) t k wr:=by rw[xK (x:=x) (x':=⟨x.id,x.st,x.ops,0,x.ak⟩) L.out.tx rfl rfl,B.out.xs]
 rw[show(aK.mk d.table<|d.af.set i ⟨x.id,x.st,x.ops,0,x.ak⟩).af=d.af.set i ⟨x.id,x.st,x.ops,0,x.ak⟩from rfl,a']at Mo;obtain⟨b,hb⟩:∃b,b=meets (began R.af t) t k wr:=⟨_,rfl⟩;rw[<-hb]at Mo;have HM:Hid (b=meets (began R.af t) t k wr):=hb;have H1:=ae<|zzb T1 r1;clear c1 F J G o;obtain⟨c1,F,J,G,o,C,E⟩:=L.1.gZ rfl L.2.2;have f3:=E<|i*5+3
 try simp only[]at F J G o C
 have aE:=B.out.ops;have Kv:=B.out.nj _<|zzh L.2.2
 try simp only[]at Kv
 clear T1 r1 a' hb C E;go_wp2_with fail;refine Mo.mono ?_;rintro e wm ⟨rfl,q3,rfl⟩;have M:=H1.1.fr<|(lE _).aR q3;have V:=H1.2.trans (iE.dJ ((lE _).aR q3) sE);generalize (a7.setCell ⟨g,i*5+3,none⟩<|.int .i64 0).drewN q3=W2 at M V ⊢;clear Mo c1 F J G o f3 H1;obtain⟨c1,F,J,G,o,C,E⟩:=M.1.gZ rfl M.2.2;have f1:=E<|i*5+1;have f2:=E<|i*5+2
 try simp only[]at F J G o C
 cases b with
 |true=>
  have⟨T,X⟩:=M.set (j:=1) (u:=.int .i64 2) (x':=x.dQ) dN rfl rfl;have O:Hid (R.op t 0 k wr (dv k)=(⟨R.table,fH (began R.af t) (R.tx t).dQ⟩,3)):=EL B.out.re HM.out.symm;have HR:Hid (EK w (W2.setCell ⟨g,i*5+1,none⟩<|.int .i64 2) rp t 0 k wr R 0 0):=by
   refine⟨?_,(B.out.fr.trans V).trans X,λh=>by rw[O.out]at h;cases h⟩;rw[O.out];have e9:(d.af.set i ⟨x.id,x.st,x.ops,0,x.ak⟩).set i x.dQ=fH (began R.af t) (R.tx t).dQ:=by rw[pG (z:=x.dQ) B.out.jh L.out.tx rfl,B.out.xs,<-B.out.tx]
   have:=T.1;rw[show(aK.mk (aK.mk d.table<|d.af.set i ⟨x.id,x.st,x.ops,0,x.ak⟩).table<|(aK.mk d.table<|d.af.set i ⟨x.id,x.st,x.ops,0,x.ak⟩).af.set i x.dQ)=aK.mk d.table ((d.af.set i ⟨x.id,x.st,x.ops,0,x.ak⟩).set i x.dQ)from rfl,e9,B.out.tab]at this;exact⟨_,_,_,this⟩
  clear T X C E M V;go_wp2;go_ret3;exact⟨0,0,by rw[O.out];rfl,HR.out⟩
 |false=>
  have⟨T,X⟩:=M.set (j:=2) (u:=.int .i64<|(x.ops:Int)+1) (x':=⟨x.id,x.st,x.ops+1,0,x.ak⟩) dN rfl rfl;have O:Hid (R.op t 0 k wr (dv k)=(⟨R.table,fH (began R.af t)<|(R.tx t).worked<|dv k⟩,0)):=r_ B.out.re HM.out.symm;have⟨d1,d2,d3,d4,d5,SR,ad⟩:=T.1.gZ rfl T.2.2;have B_:=mj g (i*5) (.slice l x.ak.length f) k x.ak _ d5 SR oE;have H3:=ae<|zzb T<|(B.out.fr.trans V).trans X;clear T X C E M V d1 d2 d3 d4 d5 SR ad;go_wp2_with fail;refine B_.mono ?_;rintro e wm ⟨rfl,q4,rfl⟩;have K:=H3.1.fr<|(lE _).aR q4;have r4:=H3.2.trans (iE.dJ ((lE _).aR q4) sE);generalize (W2.setCell ⟨g,i*5+2,none⟩<|.int .i64<|(x.ops:Int)+1).drewN q4=W4 at K r4 ⊢;clear B_ c1 F J G o f1 f2 H3;have⟨c1,F,J,G,o,C,E⟩:=K.1.gZ rfl K.2.2;have f4:=E<|i*5+4
  try simp only[]at F J G o C;have HX:Hid (∀y:a_,y.id=x.id->(((d.af.set i ⟨x.id,x.st,x.ops,0,x.ak⟩).set i ⟨x.id,x.st,x.ops+1,0,x.ak⟩).set i y)=fH (began R.af t) y):=λy hy=>by rw[List.set_set,pG B.out.jh L.out.tx hy,B.out.xs]
  have HA:Hid (∀y:a_,y.id=x.id->(fH (began R.af t) y)[i]?=some y):=λy hy=>by
   rw[<-HX.out y hy];exact i_<|i_<|i_ L.out.tx
  have e1:ze none=-1:=rfl;have Q:=HJ.out;rw[Q,e1];have HW:Hid (Tl W4 rp g n c i Y ((A.set i (⟨x.id,x.st,x.ops,0,x.ak⟩,.slice l x.ak.length f)).set i (⟨x.id,x.st,x.ops+1,0,x.ak⟩,.slice l x.ak.length f)) ⟨d.table,(d.af.set i ⟨x.id,x.st,x.ops,0,x.ak⟩).set i ⟨x.id,x.st,x.ops+1,0,x.ak⟩⟩ ⟨x.id,x.st,x.ops+1,0,x.ak⟩ (.slice l x.ak.length f)/\iE w W4/\aT x.ak k=none):=⟨K,r4,nI Q⟩;have kB:g<W4.heap.size:=zzF W4 _ o;have Uv:rp<W4.heap.size:=zzF W4 _ c1;have an:∀D,(W4.alloc D).cell? ⟨rp,1,none⟩=some (.slice (some ⟨g,0,none⟩) n c):=λD=>(zze (a:=⟨rp,1,none⟩)<|zzf W4 D rp Uv).trans c1
  have ak:∀D,(W4.alloc D).cell? ⟨g,i*5+4,none⟩=some (.slice l x.ak.length f):=λD=>(zze (a:=⟨g,i*5+4,none⟩)<|zzf W4 D g kB).trans o
  have yG:∀D,(W4.alloc D).frozen? ⟨g,i*5+4,none⟩=false:=λD=>(zzw (a:=⟨g,i*5+4,none⟩)<|zzf W4 D g kB).trans f4
  have⟨l0,J3,YW,YX,YY⟩:=info_parts rS;have⟨s,uL⟩:=xY x.ak.length;have wD:Hid (s=x.ak.length):=uL;rw[<-uL]at o ak Kv C;have HQ:Hid (W4.ownsRow B0 134 4 (.slice l s f) s (dW x.ak)/\some g≠(Value.slice l s f).ownBlock/\some rp≠(Value.slice l s f).ownBlock):=by
   have BI:=K.1.tk;have⟨al,hg⟩:=aF BI (g:=g) rfl;exact⟨C,λe=>bG C hg dN e.symm,λe=>bG C K.1.blk dN e.symm⟩
  clear K r4 E Q C uL;go_wp2;go_region_law (first|(rw[if_pos<|by rfl];refine fT _ _ 90 rfl B0 134 l0 _ 4 40 underlying90 J3 YW YX YY rfl dN _ s (dW x.ak) rfl (HQ.1.alloc _) ⟨W4.heap.size,0,none⟩ 1 1 (yu ⟨k,false,false,ByteArray.empty⟩) rfl rfl (cD _ #[.string k,.bool false,.bool false,.string ByteArray.empty] _) (by intro u hu;simp at hu;obtain rfl|rfl|rfl|rfl:=hu<;>rfl) mE oE (zzk HW.1.1.low sE) ?_;intro v5 w5 qx wz SC;obtain⟨o5,c5,rfl⟩:=bZ qx;have SB:w5.heap[g]?=W4.heap[g]?:=(wz.block g sC HQ.2.1).trans<|zzf W4 _ g kB;have t4:=(zze (a:=⟨g,i*5+4,none⟩) SB).trans o;have tf:=(zzw (a:=⟨g,i*5+4,none⟩) SB).trans f4;have UO:w5.heap[rp]?=W4.heap[rp]?:=(wz.block rp sC HQ.2.2).trans<|zzf W4 _ rp Uv;have t1:=(zze (a:=⟨rp,1,none⟩) UO).trans c1;clear SB UO))
  all_goals
   have HR:Hid (EK w (w5.setCell ⟨g,i*5+4,none⟩<|.slice o5 (s+1) c5) rp t 0 k wr R i s):=by
    have ef:dv k x.ak=x.ak++[⟨k,false,false,ByteArray.empty⟩]:=by unfold dv;simp[HW.2.2]
    have ie:=(((Fr.refl _ W4).alloc _).drew).trans<|Fr.dc (r:=(Value.slice l s f).ownBlock) wz;have ew:x.worked (dv k)=⟨x.id,x.st,x.ops+1,0,x.ak++[⟨k,false,false,ByteArray.empty⟩]⟩:=by unfold a_.worked;rw[ef]
    have YV:=HW.1;rw[<-wD.out]at YV;have⟨k1,k2⟩:=YV.VR (x':=x.worked<|dv k) (v2:=.slice o5 (s+1) c5) ie (by rw[ew,Al];show w5.ownsRow _ _ _ _ (x.ak++[_]).length _;rw[zzi,<-wD.out];exact qx) (SC.elim (λe=>.inl e) λe=>.inr ⟨_,e,sE⟩) (by rw[ew];rfl);refine⟨?_,HW.2.1.trans k2,λ_=>⟨⟨k,false,false,ByteArray.empty⟩,?_,?_,rfl⟩⟩
    .rw[O.out,<-B.out.tx,<-HX.out (x.worked<|dv k) rfl,<-B.out.tab];exact k1
    .rw[O.out,<-B.out.tx];exact HA.out _ rfl
    .rw[<-B.out.tx,ef,wD.out];simp
   clear qx wz SC;go_wp2;go_ret3;exact⟨i,s,by rw[O.out];rfl,HR.out⟩
end
theorem Dl{α:Type}(f:α->List Value):∀{xs:List α} {i:Nat} {x x':α},xs[i]?=some x->f x'=f x->(xs.set i x').flatMap f=xs.flatMap f
 |[],i,x,x',h,_=>by simp at h
 |y::ys,0,x,x',h,hf=>by
  simp at h;subst h;rw[List.set_cons_zero,List.flatMap_cons,List.flatMap_cons,hf]
 |y::ys,i+1,x,x',h,hf=>by
  simp at h;rw[List.set_cons_succ,List.flatMap_cons,List.flatMap_cons,Dl f h hf]
section
variable{w:World}{rp:Nat}{I J:Value}{E:List (a_ × Value)}{R:aK}
abbrev a_.lk(x:a_)(s:List aJ):a_:=⟨x.id,x.st,x.ops,x.jY,s⟩
theorem cX.VS [Inhabited Bs](h:cX w rp I J E R){i d j g c:Nat}{x:a_}{l l':aJ}{u:Value}(hp:E[i]?=some (x,.slice (some<|dH g) x.ak.length c))(n:x.ak[d]?=some l)(r:j<4)(o:yu l'=(yu l).set j u):
  cX (w.setCell (d8 g<|d*4+j) u) rp I J (E.set i (x.lk<|x.ak.set d l',.slice (some<|dH g) x.ak.length c)) ⟨R.table,R.af.set i<|x.lk<|x.ak.set d l'⟩/\lK w g:=by
 have A:i<E.length:=(zzd.1 hp).1;have N:=h.nj _<|zzh hp;simp only[]at N;obtain⟨y,m⟩:=aF N (g:=g) rfl;refine⟨{base:=h.base,blk:=?_,tab:=b_ h.tab m (by decide),tk:=?_,nj:=λp s=>?_,apart:=?_,rs:=?_,mine:=h.Ej (by simp) (λk n=>h.Ao hp n)},⟨(N.lt g rfl).1,h.Ao hp rfl⟩,_,_,m,.inr<|.inr rfl⟩
 .refine(Below.heap_setCell _ _ _ rp ?_).trans h.blk;intro e;simp only[]at e;have:=h.blk;rw[e,m]at this
  cases this
 .rw[List.length_set];unfold cT;rw[Dl jZ (x':=(x.lk<|x.ak.set d l',.slice (some ⟨g,0,none⟩) x.ak.length c)) hp rfl];exact b_ h.tk m dN
 .obtain⟨q,hq⟩:=zzB.1 s;rw[List.getElem?_set]at hq;split at hq
  .rename_i em;subst em;cases hq;have:=qR (j:=d*4+j) (u:=u) N;have e:=vK (f:=yu) (k:=4) (λ_=>rfl) x.ak d j l l' u n r o;show(w.setCell _ _).ownsRow B0 _ 4 _ (x.ak.set d l').length (dW<|x.ak.set d l');rw[List.length_set];unfold dW at this ⊢;rw[e];exact this
  .rename_i em;have v:=h.nj p<|zzh hq;refine av v (Fr.cH (S:=[g]) (by simp) _ _) λz t U=>?_
   simp at U;subst U;exact Hc h.apart hp hq em rfl t
 .have h2:(E.map (·.2)).Pairwise λa b=>a.ownBlock=none\/a.ownBlock≠b.ownBlock:=by rw[List.pairwise_map];exact h.apart
  rw[<-vZ (·.2) hp (x':=(x.lk<|x.ak.set d l',.slice (some ⟨g,0,none⟩) x.ak.length c)) rfl,List.pairwise_map]at h2;exact h2
 .rw[List.map_set,h.rs]
theorem cX.Xl [Inhabited Bs](h:cX w rp I J E R){i a g c:Nat}{x:a_}{l:aJ}(hp:E[i]?=some (x,.slice (some<|dH g) x.ak.length c))(e:x.ak[a]?=some l)(k v:ByteArray)(b d:Bool):
  RS ((((w.setCell (d8 g<|a*4)<|.string k).setCell (d8 g<|a*4+1)<|.bool b).setCell (d8 g<|a*4+2)<|.bool d).setCell (d8 g<|a*4+3)<|.string v) rp ⟨R.table,R.af.set i<|x.lk<|x.ak.set a ⟨k,b,d,v⟩⟩/\lK w g:=by
 have C:i<E.length:=(zzd.1 hp).1;have B:a<x.ak.length:=(zzd.1 e).1;obtain⟨q,t⟩:=h.VS (j:=0) (l':=⟨k,l.wr,l.gone,l.val⟩) (u:=.string k) hp e (by decide) rfl;have p:=i_ (y:=(x.lk<|x.ak.set a ⟨k,l.wr,l.gone,l.val⟩,Value.slice (some ⟨g,0,none⟩) x.ak.length c)) hp;have hlen:∀l',(x.ak.set a l').length=x.ak.length:=λl'=>List.length_set
 have A:=i_ (y:=(⟨k,l.wr,l.gone,l.val⟩:aJ)) e;obtain⟨m,_⟩:=q.VS (j:=1) (x:=x.lk<|x.ak.set a ⟨k,l.wr,l.gone,l.val⟩) (c:=c) (g:=g) (l':=⟨k,b,l.gone,l.val⟩) (u:=.bool b) (by rw[hlen];exact p) A (by decide) rfl;simp only[List.set_set,hlen]at m;have o:=i_ (y:=(x.lk<|x.ak.set a ⟨k,b,l.gone,l.val⟩,Value.slice (some ⟨g,0,none⟩) x.ak.length c)) hp;have s:=i_ (y:=(⟨k,b,l.gone,l.val⟩:aJ)) e;obtain⟨n,_⟩:=m.VS (j:=2) (x:=x.lk<|x.ak.set a ⟨k,b,l.gone,l.val⟩) (c:=c) (g:=g) (l':=⟨k,b,d,l.val⟩) (u:=.bool d) (by rw[hlen];exact o) s (by decide) rfl;simp only[List.set_set,hlen]at n;have r:=i_ (y:=(x.lk<|x.ak.set a ⟨k,b,d,l.val⟩,Value.slice (some ⟨g,0,none⟩) x.ak.length c)) hp;have z:=i_ (y:=(⟨k,b,d,l.val⟩:aJ)) e;obtain⟨f,_⟩:=n.VS (j:=3) (x:=x.lk<|x.ak.set a ⟨k,b,d,l.val⟩) (c:=c) (g:=g) (l':=⟨k,b,d,v⟩) (u:=.string v) (by rw[hlen];exact r) z (by decide) rfl;simp only[List.set_set,hlen]at f;exact⟨⟨_,_,_,f⟩,t⟩
end
section
variable(rp t:Nat)(seq:Int)(k:ByteArray)(wr:Bool)(R:aK)(w:World)
theorem xL [Inhabited Bs](h:RS w rp R)(f:jg R.af)(hn:R.af.length<=12)(l:∀x∈R.af,x.ak.length<=4)(u:∀x∈R.af,x.ops<4611686018427387904):
  Calls prog 127 #[rM rp,.int .u64 (t:Int),.int .i64 seq,.string k,.bool wr] w λe w'=>∃i c:Nat,e=.returned (.tuple #[.int .i64 (i:Int),.int .i64 (c:Int),.int .i64 ((R.op t seq k wr<|dv k).2:Int)])/\EK w w' rp t seq k wr R i c:=by
 by_cases r:R.refuse t seq k=0
 .obtain⟨_,_,_,h1,h2⟩:=jQ r;cases d:aU R.af t with
  |some x=>grind[OG,aN]
  |none=>grind[OH]
 .refine(SQ rp t seq k wr R w h hn l r).mono ?_;rintro e w' ⟨rfl,hf⟩;have a:R.op t seq k wr (dv k)=(R,R.refuse t seq k):=by grind[aK.op]
  exact⟨0,0,by rw[a];rfl,by rw[a];exact h.fr hf,iE.dJ hf sE,λb=>by rw[a]at b;exact absurd b r⟩
end
theorem se(f g:List aJ->List aJ):(R.op t seq k wr f).2=(R.op t seq k wr g).2/\((R.op t seq k wr f).2≠0->R.op t seq k wr f=R.op t seq k wr g):=by grind[aK.op,meets,began]
theorem Mz{f:List aJ->List aJ}(h:(R.op t seq k wr f).2=0):R.refuse t seq k=0/\meets (began R.af t) t k wr=false:=by grind[aK.op,meets,began]
theorem SS(xs:List a_)(t:Nat):∃x,aU (began xs t) t=some x:=by rw[pw,if_pos rfl];exact⟨_,rfl⟩
theorem SV{x:Nat}(g:jg R.af)(d:iy (R.tx t).ak)(p:(R.op t seq k wr<|dv k).2=0)(h:(R.op t seq k wr<|dv k).1.af[i]?=some ((R.tx t).worked<|dv k))(n:(dv k (R.tx t).ak)[x]?=some l)(c:l.key=k)(C:l'.key=k):
  aK.mk R.table ((R.op t seq k wr<|dv k).1.af.set i<|((R.tx t).worked<|dv k).lk<|(dv k (R.tx t).ak).set x l')=(R.op t seq k wr λs=>eJ s l').1:=by
 have⟨r,m⟩:=Mz p;rw[r_ r m]at h ⊢;rw[r_ r m];simp only[]at h ⊢;have U:=((g.began t).fH<|(R.tx t).worked<|dv k).set h (x':=((R.tx t).worked<|dv k).lk<|(dv k (R.tx t).ak).set x l') rfl;rw[U];have X:(dv k (R.tx t).ak).set x l'=eJ (R.tx t).ak l':=by
  have o:=(rR k).once _ d;rw[o.set n<|by rw[c,C]]
  have J:(aT (dv k (R.tx t).ak) l'.key).isSome=true:=by
   cases u:aT (dv k (R.tx t).ak) l'.key with
   |some z=>rfl
   |none=>grind[jP]
  by_cases b:(aT (R.tx t).ak k).isSome=true
  .grind
  .have a:dv k (R.tx t).ak=(R.tx t).ak++[⟨k,false,false,yA⟩]:=if_neg b;rw[a]at J;show eJ (dv k (R.tx t).ak) l'=_;rw[a];have hn:aT (R.tx t).ak k=none:=by simpa using b
   unfold eJ;rw[if_pos J,C,if_neg b,List.map_append];congr 1
   .conv=>rhs;rw[<-List.map_id (R.tx t).ak]
    apply List.map_congr_left;intro y f;rw[if_neg<|jP.1 hn y f];rfl
   .simp
 rw[X];congr 1;unfold fH;rw[List.map_map];apply List.map_congr_left;intro y _;simp only[Function.comp];have j:((R.tx t).worked<|dv k).id=(R.tx t).id:=rfl;have a:((R.tx t).worked λs=>eJ s l').id=(R.tx t).id:=rfl;have q:((R.tx t).worked<|dv k).lk (eJ (R.tx t).ak l')=(R.tx t).worked (λs=>eJ s l'):=rfl;rw[q,j,a];by_cases e:y.id=(R.tx t).id
 .grind
 .grind
structure TkL [Inhabited Bs](w:World)(rp:Nat)(R:aK)(i kx:Nat)(X:a_)(l:aJ)(tv:Value)(g n c gl lc:Nat)(ps:List (a_ × Value)):Prop where
 rs:cX w rp tv (.slice (some (dH g)) n c) ps R
 at_:ps[i]?=some (X,.slice (some (dH gl)) X.ak.length lc)
 il:i<n
 kl:kx<X.ak.length
 lk:X.ak[kx]?=some l
 c1:w.cell? (d8 rp 1)=some (.slice (some (dH g)) n c)
 x4:w.cell? (d8 g (i*5+4))=some (.slice (some (dH gl)) X.ak.length lc)
 l0:w.cell? (d8 gl (kx*4))=some (.string l.key)
 l1:w.cell? (d8 gl (kx*4+1))=some (.bool l.wr)
 l2:w.cell? (d8 gl (kx*4+2))=some (.bool l.gone)
 l3:w.cell? (d8 gl (kx*4+3))=some (.string l.val)
 fz:∀j,w.frozen? (d8 gl j)=false
theorem RS.aT [Inhabited Bs]{w:World}{rp:Nat}(h:RS w rp R){x:Nat}{X:a_}(o:R.af[i]?=some X)(k:X.ak[x]?=some l):∃t g n c gl a s,TkL w rp R i x X l t g n c gl a s:=by
 have⟨t,F,s,h⟩:=h;have⟨v,hp⟩:=h.at o;have⟨E,c,e,H⟩:=h.slice;have⟨g,u,_⟩:=H i _ hp;rw[u]at e;subst e;have⟨c1,z,D,A,y,C,G⟩:=h.gZ rfl hp;have⟨I,a,r,L⟩:=mR C;have⟨gl,p,f,b,d,m⟩:=L x l k;subst p;subst r;have⟨B,q⟩:=aF C rfl;exact⟨t,g,_,c,gl,a,s,h,hp,(zzd.1 hp).1,(zzd.1 k).1,k,c1,y,f,b,d,m,λj=>au q j⟩
def aK.get(R:aK)(t:Nat)(seq:Int)(k:ByteArray):aK × ByteArray × Bool × Nat :=
 if (R.op t seq k false (dv k)).2=0 then ((R.op t seq k false (dv k)).1,((R.op t seq k false (dv k)).1.got t k).1,((R.op t seq k false (dv k)).1.got t k).2,0) else ((R.op t seq k false (dv k)).1,yA,false,(R.op t seq k false (dv k)).2)
def aK.put(R:aK)(t:Nat)(seq:Int)(k v:ByteArray):aK × Nat :=
 if 32<v.size then (R,if t=0 then 7 else 1) else R.op t seq k true (λs=>eJ s ⟨k,true,false,v⟩)
def aK.delete(R:aK)(t:Nat)(seq:Int)(k:ByteArray):aK × Nat:=R.op t seq k true (λs=>eJ s ⟨k,true,true,yA⟩)
theorem qY(f:List aJ->List aJ):(R.op t seq k wr f).1.table=R.table:=by grind[aK.op]
theorem iy.at{s:List aJ}(h:iy s)(a:s[i]?=some l):Go.Proofs.YtdcafjmdfpjcbaaGreatDoor.aT s l.key=some l:=by
 induction s generalizing i with
 |nil=>simp at a
 |cons y ys ih=>
  have⟨b,c⟩:=zzA.1 h;unfold Go.Proofs.YtdcafjmdfpjcbaaGreatDoor.aT;cases i with
  |zero=>grind
  |succ i=>
   simp at a;rw[List.find?_cons_of_neg<|by simpa using b l (zzh a)];exact ih c a
theorem ZA(z:iy (R.tx t).ak)(b:(R.op t seq k false<|dv k).2=0)(e:(dv k (R.tx t).ak)[c]?=some l)(a:l.key=k):
  (R.op t seq k false<|dv k).1.got t k=if l.wr=true then (l.val,!l.gone)else ((aj R.table k).getD yA,(aj R.table k).isSome):=by
 have⟨r,m⟩:=Mz b;rw[r_ r m];have h:(aK.mk R.table<|fH (began R.af t)<|(R.tx t).worked<|dv k).tx t=(R.tx t).worked (dv k):=by
  unfold aK.tx;simp only[];have⟨x,h⟩:=SS R.af t;have d:=yt R t;unfold aK.tx at d;rw[vC,show(((aU R.af t).getD ⟨t,1,0,0,[]⟩).worked<|dv k).id=t from d,if_pos rfl,h];rfl
 have J:aT (dv k (R.tx t).ak) k=some l:=by
  have:=((rR k).once _ z).at e;rw[a]at this;exact this
 unfold aK.got;rw[h,show((R.tx t).worked<|dv k).ak=dv k (R.tx t).ak from rfl,J]
section
variable(rp t:Nat)(seq:Int)(k:ByteArray)(R:aK)(w:World)
theorem SW [Inhabited Bs](v:ByteArray)(h:RS w rp R)(o:jg R.af)(hn:R.af.length<=12)(s:∀x∈R.af,x.ak.length<=4)(C:∀x∈R.af,x.ops<4611686018427387904)(p:iy (R.tx t).ak):
  Calls prog 82 #[rM rp,.int .u64 (t:Int),.int .i64 seq,.string k,.string v] w λe w'=>e=.returned (.int .i64 ((R.put t seq k v).2:Int))/\RS w' rp (R.put t seq k v).1/\iE w w':=by
 have V:=xL rp t seq k true R w h o hn s C;by_cases u:32<v.size
 .have e1:R.put t seq k v=(R,if t=0 then 7 else 1):=if_pos u;have J:(32:Int)<(v.size:Int):=oE;have q:Hid (RS w rp R/\iE w w):=⟨h,iE.refl w⟩;clear V h;by_cases b:t=0
  .rw[if_pos b]at e1;subst b;go_enter func82,ntmps82;go_wp2;go_ret;rw[e1];exact⟨rfl,q.out⟩
  .rw[if_neg b]at e1;have G:¬((t:Int)=0):=oE;go_enter func82,ntmps82;go_wp2;go_ret;rw[e1];exact⟨rfl,q.out⟩
 .have J:¬(32:Int)<(v.size:Int):=oE;have P:Hid (R.put t seq k v=R.op t seq k true (λE=>eJ E ⟨k,true,false,v⟩)):=if_neg u;have A:Hid (jg R.af/\iy (R.tx t).ak):=⟨o,p⟩;have⟨r,j⟩:=xY <|(R.op t seq k true<|dv k).2;have N:Hid (r=(R.op t seq k true<|dv k).2):=j;rw[<-j]at V;clear h o hn s C p j;go_enter func82,ntmps82;go_wp2_with fail;apply V.mono;rintro e W ⟨i,a,rfl,hT⟩;clear V;have H:=ae hT;clear hT;by_cases b:r=0
  .subst b;have⟨l,m,d,y⟩:=H.out.at_ N.out.symm;have⟨tv,g,n,c,gl,lc,ps,T⟩:=H.out.rs.aT m d;have X:Hid (RS ((((W.setCell (d8 gl (a*4))<|.string k).setCell (d8 gl (a*4+1))<|.bool true).setCell (d8 gl (a*4+2))<|.bool false).setCell (d8 gl (a*4+3))<|.string v) rp (R.put t seq k v).1/\lK W gl/\(R.put t seq k v).2=0):=by
    have⟨D,F⟩:=T.rs.Xl T.at_ d k v true false;refine⟨?_,F,?_⟩
    .rw[P.out,<-SV A.1 A.2 N.out.symm m d y rfl];rw[qY]at D;exact D
    .rw[P.out,(se _<|dv k).1,<-N.out]
   have c1:=T.c1;have I:=T.x4;have U:=T.l0;have O:=T.l1;have Q:=T.l2;have Y:=T.l3;have M:=T.fz<|a*4;have f1:=T.fz<|a*4+1;have f2:=T.fz<|a*4+2;have f3:=T.fz<|a*4+3;have Z:(0:Int)<=i:=oE
   have i1:(i:Int)<n:=by have:=T.il;omega
   have j0:(0:Int)<=a:=oE;have⟨f,L⟩:=xY <|((R.tx t).worked<|dv k).ak.length;have j1:(a:Int)<f:=by have:=T.kl;omega
   rw[<-L]at I;clear T m d y L;go_wp2;go_ret;rw[X.2.2];exact⟨rfl,X.1,H.out.fr.trans (iE.dJ (S:=[gl]) ((((Fr.cH (by simp) _ _).trans<|Fr.cH (by simp) _ _).trans<|Fr.cH (by simp) _ _).trans<|Fr.cH sE _ _) λz B=>by simp at B;subst B;exact X.2.1)⟩
  .have G:¬((r:Int)=0):=oE;have K:((r:Int)==0)=false:=sC;have X:Hid (R.put t seq k v=R.op t seq k true (dv k)):=by
    show _=_;rw[P.out];exact(se _<|dv k).2<|by rw[(se _<|dv k).1,<-N.out];exact b
   go_wp2;go_ret;rw[X.out,<-N.out];exact⟨rfl,H.out.rs,H.out.fr⟩
theorem Hd [Inhabited Bs](h:RS w rp R)(m:jg R.af)(hn:R.af.length<=12)(p:∀x∈R.af,x.ak.length<=4)(u:∀x∈R.af,x.ops<4611686018427387904)(o:iy (R.tx t).ak):
  Calls prog 84 #[rM rp,.int .u64 (t:Int),.int .i64 seq,.string k] w λe w'=>e=.returned (.int .i64 ((R.delete t seq k).2:Int))/\RS w' rp (R.delete t seq k).1/\iE w w':=by
 have V:=xL rp t seq k true R w h m hn p u;have P:Hid (R.delete t seq k=R.op t seq k true (λB=>eJ B ⟨k,true,true,yA⟩)):=rfl;have A:Hid (jg R.af/\iy (R.tx t).ak):=⟨m,o⟩;have⟨r,f⟩:=xY <|(R.op t seq k true<|dv k).2;have N:Hid (r=(R.op t seq k true<|dv k).2):=f;rw[<-f]at V;clear h m hn p u o f;go_enter func84,ntmps84;go_wp2_with fail;apply V.mono;rintro e W ⟨i,a,rfl,hT⟩;clear V;have H:=ae hT;clear hT;by_cases y:r=0
 .subst y;have⟨l,j,b,q⟩:=H.out.at_ N.out.symm;have⟨tv,g,n,c,gl,Z,U,T⟩:=H.out.rs.aT j b;have X:Hid (RS ((((W.setCell (d8 gl (a*4))<|.string k).setCell (d8 gl (a*4+1))<|.bool true).setCell (d8 gl (a*4+2))<|.bool true).setCell (d8 gl (a*4+3))<|.string yA) rp (R.delete t seq k).1/\lK W gl/\(R.delete t seq k).2=0):=by
   have⟨v,C⟩:=T.rs.Xl T.at_ b k yA true true;refine⟨?_,C,?_⟩
   .rw[P.out,<-SV A.1 A.2 N.out.symm j b q rfl];rw[qY]at v;exact v
   .rw[P.out,(se _<|dv k).1,<-N.out]
  have c1:=T.c1;have D:=T.x4;have J:=T.l0;have G:=T.l1;have I:=T.l2;have K:=T.l3;have F:=T.fz<|a*4;have f1:=T.fz<|a*4+1;have f2:=T.fz<|a*4+2;have Q:=T.fz<|a*4+3;have M:(0:Int)<=i:=oE
  have O:(i:Int)<n:=by have:=T.il;omega
  have j0:(0:Int)<=a:=oE;have⟨d,L⟩:=xY <|((R.tx t).worked<|dv k).ak.length;have Y:(a:Int)<d:=by have:=T.kl;omega
  rw[<-L]at D;clear T j b q L;go_wp2;go_ret;rw[X.2.2];exact⟨rfl,X.1,H.out.fr.trans (iE.dJ (S:=[gl]) ((((Fr.cH (by simp) _ _).trans<|Fr.cH (by simp) _ _).trans<|Fr.cH (by simp) _ _).trans<|Fr.cH sE _ _) λz s=>by simp at s;subst s;exact X.2.1)⟩
 .have z1:¬((r:Int)=0):=oE;have E:((r:Int)==0)=false:=sC;have X:Hid (R.delete t seq k=R.op t seq k true (dv k)):=by
   show _=_;rw[P.out];exact(se _<|dv k).2<|by rw[(se _<|dv k).1,<-N.out];exact y
  go_wp2;go_ret;rw[X.out,<-N.out];exact⟨rfl,H.out.rs,H.out.fr⟩
theorem SX [Inhabited Bs](h:RS w rp R)(u:jg R.af)(hn:R.af.length<=12)(m:∀x∈R.af,x.ak.length<=4)(v:∀x∈R.af,x.ops<4611686018427387904)(z:iy (R.tx t).ak)(B:R.table.length<=1048576):
  Calls prog 80 #[rM rp,.int .u64 (t:Int),.int .i64 seq,.string k] w λe w'=>e=.returned (.tuple #[.string (R.get t seq k).2.1,.bool (R.get t seq k).2.2.1,.int .i64 ((R.get t seq k).2.2.2:Int)])/\RS w' rp (R.get t seq k).1/\iE w w':=by
 have V:=xL rp t seq k false R w h u hn m v;have A:=ae<|zzb z B;have⟨r,d⟩:=xY <|(R.op t seq k false<|dv k).2;have N:=ae d;rw[<-d]at V;clear h u hn m v z d B
 go_enter func80,ntmps80;go_wp2_with fail;apply V.mono;rintro e W ⟨i,j,rfl,hT⟩;clear V;have H:=ae hT;clear hT;by_cases y:r=0
 .subst y;have⟨l,s,f,o⟩:=H.out.at_ N.out.symm;have⟨tv,g,n,c,gl,U,Q,T⟩:=H.out.rs.aT s f;have G:Hid (R.get t seq k=((R.op t seq k false<|dv k).1,(if l.wr=true then (l.val,!l.gone)else ((aj R.table k).getD yA,(aj R.table k).isSome)).1,(if l.wr=true then (l.val,!l.gone)else ((aj R.table k).getD yA,(aj R.table k).isSome)).2,0)):=by
   show _=_;unfold aK.get;rw[if_pos N.out.symm,ZA A.1 N.out.symm f o]
  have a:=λp (D:Fr [] W p)=>JT rp k _ _ _ _ p (T.rs.fr D)<|by rw[qY];have:=A.2;omega
  rw[qY]at a;have c1:=T.c1;have J:=T.x4;have E:=T.l0;have C:=T.l1;have F:=T.l2;have I:=T.l3;have O:(0:Int)<=i:=oE;have P:(i:Int)<n:=by have:=T.il;omega
  have Z:(0:Int)<=j:=oE;have⟨b,L⟩:=xY <|((R.tx t).worked<|dv k).ak.length;have S:(j:Int)<b:=by have:=T.kl;omega
  rw[<-L]at J;have⟨lk,lw,M,Y⟩:=l;simp only[]at E C F I G;clear T s f o L;cases lw with
  |true=>
   simp only[if_true]at G;clear a;go_wp2;go_quiet (fail)
   go_wp2;go_ret3;rw[G.out];exact⟨rfl,H.out.rs.fr<|((lE W).alloc _).aR nq,H.out.fr.trans<|iE.dJ (((lE W).alloc _).aR nq) sE⟩
  |false=>
   simp only[Bool.false_eq_true,if_false]at G;go_wp2_with fail;apply(a _<|(lE W).alloc _).mono;rintro e w2 ⟨rfl,q,rfl⟩;clear a;go_wp2;go_ret3;rw[G.out];exact⟨rfl,H.out.rs.fr<|((lE W).alloc _).aR q,H.out.fr.trans<|iE.dJ (((lE W).alloc _).aR q) sE⟩
 .have z1:¬((r:Int)=0):=oE;have K:((r:Int)==0)=false:=sC;have X:Hid (R.get t seq k=((R.op t seq k false<|dv k).1,yA,false,(R.op t seq k false<|dv k).2)):=by
   show _=_;unfold aK.get;rw[if_neg<|by rw[<-N.out];exact y]
  go_wp2;go_ret3;rw[X.out,<-N.out];exact⟨rfl,H.out.rs,H.out.fr⟩
end
end Go.Proofs.YtdcafjmdfpjcbaaGreatDoor
