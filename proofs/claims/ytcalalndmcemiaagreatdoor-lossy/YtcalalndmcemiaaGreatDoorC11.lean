import Derived.Test.YtcalalndmcemiaaGreatDoorC09
import Derived.Deep.CutRange
set_option maxHeartbeats 8000000
set_option maxRecDepth 100000
namespace Go.Proofs.YtcalalndmcemiaaGreatDoor
open Go.RowKit Go.Maps Tryz Sc
variable{w:World}
theorem Of{o:Oper}{a:Act}{K:Act->World->Prop}{Q:Exit->Act->World->Prop}(s x:Operand)
  (d:o.op=.call {callee:=.builtin .append,args:=#[s,x],argTypes:=#[64,64]})
  (base:Nat) (v:Value) (n:Nat) (rs:List Rec) (r:Rec) (b:Nat) (hs:a.eval s=v) (A:w.ownsRow base 110 3 v n<|eH rs) (e:a.eval x=.slice (some ⟨b,0,none⟩) 1 1)
  (M:w.cell? ⟨b,0,none⟩=some (.int .u64 (r.oq:Int))) (X:w.cell? ⟨b,1,none⟩=some (.int .u8 (r.kind:Int))) (f:w.cell? ⟨b,2,none⟩=some (.string<|str r.nH)) (hn:n<=1099511627776) (J:base<=w.heap.size)
  (h:∀c w',w'.ownsRow base 110 3 c (n+1) (eH<|rs++[r])->w.grownBy w' v.ownBlock->(c.ownBlock=v.ownBlock\/c.ownBlock=some w.heap.size)->K (a.put o.dst c) w'):o.wp prog a w K Q:=by
 have⟨l,i,g,j,k⟩:=info_parts Jy;refine gO s x 64 d base 110 l _ 3 32 underlying64 i g j k rfl bM v n (eH rs) hs A (gz b) 1 1 (gB r) e rfl ?_ ?_ eA bL J ?_
 .intro jj u gS;match jj,gS with
  |0,gS=>simp[gB]at gS;subst gS;simpa [Addr.add]using M
  |1,gS=>simp[gB]at gS;subst gS;simpa [Addr.add]using X
  |2,gS=>simp[gB]at gS;subst gS;simpa [Addr.add]using f
 .intro u hu;simp[gB]at hu;obtain rfl|rfl|rfl:=hu<;>rfl
 .intro c w' s8 AF AG;refine h c w' ?_ AF AG;rw[GL];exact s8
theorem aA.Sl{f:World}{B h p D N n u x:Nat}{z s j v:Value}{l:au}{d:ah}{E:Obj}{r:Rec}(a:aA w B h p D N z s j l d n u x)(hn:n<67108864)(i:(w.alloc E).drew.grownBy f j.ownBlock)(t:f.ownsRow B 110 3 v (l.recs.length+1)<|eH<|l.recs++[r])(F:bS w.heap.size j v):
  aA (f.setCell ⟨h,3,none⟩ v) B h p D N z s v {l with recs:=l.recs++[r]} d (n+1) u x/\ku h p w (f.setCell ⟨h,3,none⟩ v)/\Fr (h::j.ownBlock.toList) w (f.setCell ⟨h,3,none⟩ v):=by
 have y:f.heap[h]?=some (pC p s j l):=(N_ a i (bj a.recs a.blk bM) 0).2.2;have⟨W,o⟩:∃W,W=f.setCell ⟨h,3,none⟩ v:=⟨_,rfl⟩;rw[<-o];have J:Fr [h] f W:=by rw[o];exact Fr.cD bR _ _
 have hf:Fr (h::j.ownBlock.toList) w W:=((((Fr.refl _ w).alloc _).drew).trans<|(Fr.bz i).mono λk _ b=>List.mem_cons_of_mem _ b).trans<|J.mono<|by intro k _ b;simp at b;simp[b]
 have hb:W.heap[h]?=some (pC p s v {l with recs:=l.recs++[r]}):=by
  rw[o];have:=ar y 3 v;simpa using this
 have A:W.ownsRow B 110 3 v (l.recs++[r]).length (eH<|l.recs++[r]):=by
  have:=aD t J λg i=>by simp;intro e;subst e;exact bj t y bM i
  simpa using this
 have hs:W.ownsRow B 43 1 s l.segs.length (eI l.segs):=aD a.segs hf (λg i m=>by
  obtain e|m:=zzj.1 m
  .subst e;exact bj a.segs a.blk bM i
  .simp at m;have⟨c,C⟩:=aq a.recs m;exact bj a.segs C bM i)
 have q:=a.rows (n':=n+1) hf (by intro k b _;rcases zzj.1 b with e|b;exact .inl e;simp at b;exact .inr<|.inr b) hb hs A (by omega) (by omega)
  ⟨by have:=a.eB.1;simp;omega,a.eB.2⟩ (by have:=a.gJ;simp;omega) a.km (by have:=a.iC;simp;omega) a.mZ
 exact⟨q,a.zY q hf (by intro k b _;obtain e|b:=zzj.1 b;simp[e];simp at b;simp[b]) (.inl rfl) (bS.refl _ _) (bS.refl _ _) F,hf⟩
theorem D8(B f p J N n nD nN kind:Nat)(pv sv rv:Value)(l:au)(d:ah)(s:ByteArray)(w:World)(h:aA w B f p J N pv sv rv l d n nD nN)(hs:s.size<=255)(z:kind<256)(hn:n+2<67108864)(hB:2<=B)(lN:l.filled<600->l.segs≠[])(aH:bI w):
  Calls prog 88 #[.pointer<|some ⟨f,0,none⟩,.int .u8 (kind:Int),.string s] w (Cb B f p J N (n+3) (l.append d kind s) w):=by
 have zB:=(zza.1 h.blk).1;have c4:=ae h.blk 4;simp at c4;have b':∀o,(w.alloc o).cell? ⟨f,4,none⟩=some (.int .u64 (l.next:Int)):=λo=>(zze (a:=⟨f,4,none⟩)<|zzf w o f zB).trans c4
 have zC:l.next<18446744073709551616:=by have:=h.iC;omega
 have HI:=af h;have bl:=h.bq.base.2.2.2;clear h;go_enter func88,ntmps88;go_wp2_with fail;refine(vP l.next kind s _ hs z zC).mono ?_;rintro e r ⟨g,rfl,hg,aI,cG⟩;rw[zzv]at cG hg aI;have bh:Fr [] w r:=((lT w).alloc _).trans (Fr.aX (by rw[zzv];exact cG) []);have T:r.heap[w.heap.size]?=some (.cells #[.pointer<|some ⟨f,0,none⟩] 74):=(cG.block w.heap.size bL).trans<|heap_alloc_new w _;have nG:=(kp aI).2;have hlen:(bF l.next kind<|bytesOf s).length=11+s.size+4:=by rw[tK,dy];omega
 have Rw:=af T;have Wq:=af aI;have kV:=af bh;have Cd:=af hlen;have b0:=ae T 0;simp at b0;have aE:w.heap.size<r.heap.size:=(zza.1 T).1;have KJ:∀o,(r.alloc o).cell? ⟨w.heap.size,0,none⟩=some (.pointer<|some ⟨f,0,none⟩):=λo=>(zze (a:=⟨w.heap.size,0,none⟩)<|zzf r o _ aE).trans b0
 clear cG aI bh T hlen c4 b';go_wp2_with fail;obtain⟨v,O⟩:∃v,v=(r.alloc<|.cells #[.slice (some ⟨g,0,none⟩) (11+s.size+4)<|15+s.size] 88).alloc (.cells #[.func (.func 130) #[.pointer<|some ⟨f,0,none⟩] #[],.func (.func 131) #[] #[.pointer<|some ⟨w.heap.size,0,none⟩,.pointer<|some ⟨r.heap.size,0,none⟩]] 123):=⟨_,rfl⟩;rw[<-O];have L:Fr [] w v:=by rw[O];exact(kV.out.alloc _).alloc _
 have Sm:v.heap.size=r.heap.size+1+1:=by rw[O];simp
 have bG:v.heap[r.heap.size+1]?=some (.cells #[.func (.func 130) #[.pointer<|some ⟨f,0,none⟩] #[],.func (.func 131) #[] #[.pointer<|some ⟨w.heap.size,0,none⟩,.pointer<|some ⟨r.heap.size,0,none⟩]] 123):=by
  rw[O];have:=heap_alloc_new (r.alloc<|.cells #[.slice (some ⟨g,0,none⟩) (11+s.size+4)<|15+s.size] 88)<|.cells #[.func (.func 130) #[.pointer<|some ⟨f,0,none⟩] #[],.func (.func 131) #[] #[.pointer<|some ⟨w.heap.size,0,none⟩,.pointer<|some ⟨r.heap.size,0,none⟩]] 123;rw[zzv]at this;exact this
 have nQ:v.heap[r.heap.size]?=some (.cells #[.slice (some ⟨g,0,none⟩) (11+s.size+4)<|15+s.size] 88):=by
  rw[O,zzf _ _ _ bR];exact heap_alloc_new _ _
 have T:v.heap[w.heap.size]?=some (.cells #[.pointer<|some ⟨f,0,none⟩] 74):=by
  rw[O,zzf _ _ _ cE,zzf _ _ _ aE];exact Rw.out
 have aw:v.ownsRow (w.heap.size+1+1) 5 1 (.slice (some ⟨g,0,none⟩) (11+s.size+4)<|15+s.size) (11+s.size+4) (bs<|bF l.next kind<|bytesOf s):=by rw[O];exact(Wq.out.alloc _).alloc _
 have av:bI v:=aH.cI (L.block 1 bL bR);have y:=Wp B f p J N n nD nN w.heap.size r.heap.size g (15+s.size) (w.heap.size+1+1) (r.heap.size+1) pv sv rv l d (bF l.next kind<|bytesOf s) v (HI.out.new L) bL hB lN bG T (by rw[Cd.out];exact nQ) (by rw[Cd.out];exact aw) (by rw[Cd.out];omega) av;refine y.mono ?_;clear y bG nQ aw av O;obtain⟨R,hR⟩:∃R,R=l.wr d (l.put d<|bF l.next kind<|bytesOf s):=⟨_,rfl⟩;have HR:=af hR.symm;rw[<-hR];clear hR;rintro e j ⟨rfl,⟨zE,Og,F8,AX,zZ,eh⟩,gH⟩;have Sn:=af L
 have pN:ku f p w j:=by
  have P:=(HI.out.uT L).x.trans gH;exact⟨P.os,P.tape,P.output,P.size,λk z hn=>P.block k z hn cE,P.stay⟩
 have HO:=af pN;have H2:=af eh;have sz:j.heap[w.heap.size]?=some (.cells #[.pointer<|some ⟨f,0,none⟩] 74):=(gH.block w.heap.size bL ((HI.out.new L).free T bM bM bM bM bM) cE).trans T;have Wr:=af sz;have x:=ae sz 0;have k2:=ae eh.blk 2;have D:=ae eh.blk 3;have C:=ae eh.blk 4;have g2:=aj eh.blk 2;have g3:=aj eh.blk 3;have g4:=aj eh.blk 4;simp at x k2 D C;have bn:r.heap.size+1+1<=j.heap.size:=by have:=gH.size;omega
 have b6:f<j.heap.size:=bL;clear gH eh pN sz T L b0 KJ Sm;by_cases y:R.2.2=0
 .rw[y,bK];go_wp2
  go_cut [11]from 37 to 44 (λbc G=>∃rb,bc=.pointer (some ⟨rb,0,none⟩)/\j.heap.size<=rb/\G.heap[rb]?=some (.cells #[.int .u64 (R.1.next:Int),.int .u8 (kind:Int),.string s] 110)/\Fr [] j G)
  case first=>
   have dA:∀o,(j.alloc o).cell? ⟨w.heap.size,0,none⟩=some (.pointer<|some ⟨f,0,none⟩):=λo=>(zze (a:=⟨w.heap.size,0,none⟩)<|zzf j o w.heap.size bL).trans x
   have kA:∀o,(j.alloc o).cell? ⟨f,4,none⟩=some (.int .u64 (R.1.next:Int)):=λo=>(zze (a:=⟨f,4,none⟩)<|zzf j o _ b6).trans C
   have n1:=World.new_ne j ⟨w.heap.size,0,none⟩ x;have n2:=World.new_ne j ⟨f,4,none⟩ C
   go_region_held3 (λw'=>w'.cell? ⟨w.heap.size,0,none⟩=some (.pointer<|some ⟨f,0,none⟩)/\w'.cell? ⟨f,4,none⟩=some (.int .u64 (R.1.next:Int)))
    (go_keep)
    (first|(go_at_call 109;refine(Cc s (j.alloc<|.cells #[.int .u64 0,.int .u8 0,.string ⟨#[]⟩] 110).drew bL).mono ?_;rintro e u ⟨rfl,ja⟩;have m0:u.cell? ⟨w.heap.size,0,none⟩=some (.pointer<|some ⟨f,0,none⟩):=(ja.cell (p:=⟨w.heap.size,0,none⟩) cE).trans<|dA _;have m4:u.cell? ⟨f,4,none⟩=some (.int .u64 (R.1.next:Int)):=(ja.cell (p:=⟨f,4,none⟩) cE).trans<|kA _;have V:u.cell? ⟨j.heap.size,0,none⟩=some (.int .u64 0):=(ja.cell (p:=⟨j.heap.size,0,none⟩) bR).trans bR;have Y:u.cell? ⟨j.heap.size,1,none⟩=some (.int .u8 0):=(ja.cell (p:=⟨j.heap.size,1,none⟩) bR).trans bR;have r2:u.cell? ⟨j.heap.size,2,none⟩=some (.string ⟨#[]⟩):=(ja.cell (p:=⟨j.heap.size,2,none⟩) bR).trans bR;have rf:∀i,u.frozen? ⟨j.heap.size,i,none⟩=false:=(λi=>(ja.frozen (p:=⟨j.heap.size,i,none⟩) bR).trans bR))|(go_at_call 109;refine(Cc s j.drew bL).mono ?_;rintro e u ⟨rfl,ja⟩;have m0:u.cell? ⟨w.heap.size,0,none⟩=some (.pointer<|some ⟨f,0,none⟩):=(ja.cell (p:=⟨w.heap.size,0,none⟩) cE).trans x;have m4:u.cell? ⟨f,4,none⟩=some (.int .u64 (R.1.next:Int)):=(ja.cell (p:=⟨f,4,none⟩) cE).trans C))
   .go_wp2_with fail;go_meet;case rel=>
     have dz:=((lT j).drew).trans<|Fr.aX ja [];exact⟨u.heap.size,rfl,dz.size,heap_alloc_new _ _,dz.alloc _⟩
   .go_wp2_with fail;go_meet;case rel=>
     have dz:=(((lT j).alloc _).drew).trans<|Fr.aX ja [];have hz:u.heap[j.heap.size]?=some (.cells #[.int .u64 0,.int .u8 0,.string ⟨#[]⟩] 110):=(ja.block j.heap.size bR).trans<|heap_alloc_new j _;refine⟨j.heap.size,rfl,zzc _,?_,((dz.setCell (Or.inr<|zzc _) _).setCell (Or.inr<|zzc _) _).setCell (Or.inr<|zzc _) _⟩;have:=ar (ar (ar hz 0<|.int .u64 (R.1.next:Int)) 1<|.int .u8 (kind:Int)) 2<|.string s
     simpa using this
  case rest=>
   obtain⟨rb,b7,bf,Q,U⟩:=hcut;subst b7;have K:=H2.out.new U;have ad:=HO.out.trans<|H2.out.uT U;have Ws:wc.heap[w.heap.size]?=some (.cells #[.pointer<|some ⟨f,0,none⟩] 74):=(U.block w.heap.size bL bR).trans Wr.out;have F:=af K;have b4:=af ad;have a8:=af Q;have aQ:=af Ws;have x:=ae Ws 0;have k2:=ae K.blk 2;have D:=ae K.blk 3;have C:=ae K.blk 4;have g2:=aj K.blk 2;have g3:=aj K.blk 3;have g4:=aj K.blk 4;have V:=ae Q 0;have Y:=ae Q 1;have r2:=ae Q 2;simp at x k2 D C V Y r2;have bu:=U.size;have bg:f<wc.heap.size:=bL
   have lZ:f≠w.heap.size:=bL;have xS:f≠rb:=bL;have Ce:w.heap.size≠rb:=bL;clear K ad Ws Q U;have JD:R.1.filled<600:=by have:=HR.out;rw[<-this]at y ⊢;exact K1 y
   go_wp2;obtain⟨m,E⟩:∃m,m=({R.1 with filled:=R.1.filled+(15+s.size)}:au):=⟨_,rfl⟩;have hF:(R.1.filled:Int)+(11+(s.size:Int)+4)=(m.filled:Int):=by rw[E];simp;omega
   rw[hF];obtain⟨W,JF⟩:∃W,W=wc.setCell ⟨f,2,none⟩ (.int .i64 (m.filled:Int)):=⟨_,rfl⟩;rw[<-JF];have M:Fr [f] wc W:=by rw[JF];exact Fr.cD bR _ _
   have wI:W.heap[f]?=some (pC p Og F8 m):=by rw[JF,E];have:=ar F.out.blk 2<|.int .i64 ((R.1.filled+(15+s.size):Nat):Int);simp at this ⊢;exact this
   have Wt:aA W B f p J N zE Og F8 m R.2.1 (n+2) AX zZ:=F.out.N9 M wI (by rw[E];exact F.out.eB) (by rw[E];exact F.out.gJ) (by rw[E];simp;omega) (by rw[E];exact F.out.iC) (by rw[E];exact F.out.mZ) (by rw[E]) (by rw[E]);have H:=af Wt;have b3:Hid (ku f p w W):=b4.out.trans (F.out.zY Wt M (by intro k z _;simp at z;simp[z]) (.inl rfl) (bS.refl _ _) (bS.refl _ _)<|bS.refl _ _);have Wu:W.heap[w.heap.size]?=some (.cells #[.pointer<|some ⟨f,0,none⟩] 74):=(M.block w.heap.size bL cE).trans aQ.out;have ba:rb<wc.heap.size:=(zza.1 a8.out).1;have S:W.heap[rb]?=some (.cells #[.int .u64 (R.1.next:Int),.int .u8 (kind:Int),.string s] 110):=(M.block rb ba cE).trans a8.out;have Wv:=af Wu;have b8:=af S;have bp:=M.size;clear x k2 D C g2 g3 g4 V Y r2;have x:=ae Wu 0;have D:=ae wI 3;have C:=ae wI 4;have g3:=aj wI 3;have V:=ae S 0;have Y:=ae S 1;have r2:=ae S 2;have ab:m.next=R.1.next:=by rw[E]
   simp at x D C V Y r2;have bd:=af ab;have b1:=af E;have al:∀(b i:Nat) (o:Obj),b<W.heap.size->(W.alloc o).cell? ⟨b,i,none⟩=W.cell? ⟨b,i,none⟩:=λb i o hb=>zze (a:=⟨b,i,none⟩)<|zzf W o b hb
   have F9:∀o,(W.alloc o).cell? ⟨w.heap.size,0,none⟩=some (.pointer<|some ⟨f,0,none⟩):=λo=>(al _ _ o bL).trans x
   have bw:∀o,(W.alloc o).cell? ⟨f,3,none⟩=some F8:=λo=>(al _ _ o bL).trans D
   clear al Wt wI M Wu S hF JF E ab;have b9:=kI s;have b2:Hid (F8.ownBlock≠some rb):=λe=>by have:=(H2.out.recs.lt _ e).2;omega
   have lQ:∀q c t,W.heap[q]?=some (.cells c t (0,0))->t≠110->F8.ownBlock≠some q:=λq c t hq ht=>bj H.out.recs hq λe=>ht e.symm
   go_cut [60]from 53 to 62 (λ_ G=>∃Z,aA G B f p J N zE Og Z {m with recs:=m.recs++[⟨R.1.next,kind,bytesOf s⟩]} R.2.1 (n+3) AX zZ/\ku f p w G/\G.heap[w.heap.size]?=some (.cells #[.pointer<|some ⟨f,0,none⟩] 74)/\(F8.ownBlock≠some rb->G.heap[rb]?=some (.cells #[.int .u64 (R.1.next:Int),.int .u8 (kind:Int),.string s] 110)))
   case first=>
    go_region_law (first|(rw[if_pos<|by rfl];refine Of _ _ rfl B F8 m.recs.length m.recs ⟨R.1.next,kind,bytesOf s⟩ W.heap.size rfl ?_ rfl ?_ ?_ ?_ ?_ ?_ ?_;(exact H.out.recs.alloc _);(simp);(simp);(simp[b9]);(have:=H.out.gJ;omega);(have:=H.out.bq.base.2.2.2;simp;omega);intro v4 w4 kq j8 iZ;obtain⟨q4,kr,rfl⟩:=gW kq;have⟨q1,q2,q3⟩:=N_ H.out j8 (bj H.out.recs H.out.blk bM) 3;rw[D]at q1;have e0:w4.cell? ⟨w.heap.size,0,none⟩=some (.pointer<|some ⟨f,0,none⟩):=(zze (a:=⟨w.heap.size,0,none⟩)<|j8.block w.heap.size cE λe=>bj H.out.recs Wv.out bM e.symm).trans<|F9 _;have sr:Hid (bS W.heap.size F8<|.slice (some ⟨q4,0,none⟩) (m.recs.length+1) kr):=bS.o_ iZ bR;clear iZ))
    all_goals (
     go_wp2_with fail;go_meet;case rel=>
      have⟨t1,t2,t3⟩:=H.out.Sl bL j8 kq sr.out;exact⟨_,t1,b3.out.trans t2,(t3.block w.heap.size bL (by intro A;obtain e|A:=zzj.1 A;omega;simp at A;exact lQ _ _ _ Wv.out bM A)).trans Wv.out,λhx=>(t3.block rb bL (by intro A;obtain e|A:=zzj.1 A;omega;simp at A;exact hx A)).trans b8.out⟩)
   case rest=>
    have⟨Z,a1,ao,dQ,az⟩:=hcut;have a':=az b2.out;have d1:=ae dQ 0;have x4:=ae a1.blk 4;have y4:=aj a1.blk 4;have bb:=ae a' 0;simp at d1 x4 bb;have X:=af a1;have b5:=af ao;have Zd:m.next<=n+3:=by have:=H.out.iC;omega
    clear a1 ao dQ az a';go_wp2;go_ret2;have e:l.append d kind s=({m with recs:=m.recs++[⟨R.1.next,kind,bytesOf s⟩],next:=m.next+1},R.2.1,R.1.next,0):=by
     unfold au.append;rw[if_neg bL,HR.out,if_pos y,b1.out]
    rw[e];have⟨I,a6⟩:∃I,I=wc.setCell ⟨f,4,none⟩ (.int .u64 ((m.next+1:Nat):Int)):=⟨_,rfl⟩;have aa:Fr [f] wc I:=by rw[a6];exact Fr.cD bR _ _
    have Oj:I.heap[f]?=some (pC p Og Z {m with recs:=m.recs++[⟨R.1.next,kind,bytesOf s⟩],next:=m.next+1}):=by
     rw[a6];have:=ar X.out.blk 4<|.int .u64 ((m.next+1:Nat):Int);simp at this ⊢;exact this
    have a7:aA I B f p J N zE Og Z {m with recs:=m.recs++[⟨R.1.next,kind,bytesOf s⟩],next:=m.next+1} R.2.1 (n+3) AX zZ:=X.out.N9 aa Oj X.out.eB X.out.gJ X.out.km cE X.out.mZ rfl rfl;have an:ku f p w I:=b5.out.trans (X.out.zY a7 aa (by intro k z _;simp at z;simp[z]) (.inl rfl) (bS.refl _ _) (bS.refl _ _)<|bS.refl _ _);rw[a6]at a7 an;exact⟨rfl,⟨zE,Og,Z,AX,zZ,a7⟩,an⟩
 .rw[aG y];go_wp2;go_ret2;have e:l.append d kind s=(R.1,R.2.1,0,R.2.2):=by unfold au.append;rw[if_neg bL,HR.out,if_neg y]
  rw[e];exact⟨by simp only;rw[aG y];rfl,⟨zE,Og,F8,AX,zZ,H2.out.more bL⟩,HO.out⟩
end Go.Proofs.YtcalalndmcemiaaGreatDoor
