import Derived.Test.YtcalalndmcemiaaGreatDoorC45
set_option maxHeartbeats 8000000
set_option maxRecDepth 100000
namespace Go.Proofs.YtcalalndmcemiaaGreatDoor
open Go.RowKit Go.Maps Tryz Sc
section
open Go.Shelf
variable{A':aB}
inductive uw(A:aB)(j i:Nat)(x:aS)(sq:Nat)(key:ByteArray):Int->aB->Prop
 |asked {kd:Int} (hk:kd=2\/kd=3\/kd=4) (ha:x.asked=true):uw A j i x sq key kd A
 |none {kd:Int} (hk:kd<1\/6<kd):uw A j i x sq key kd { A with ds:=A.ds.set j { x with seq:=x.seq.set (i+1) (sq+1) } }
 |get {s s':ag} {out:List bt} {val:ByteArray} {ok:Bool} {er:Nat} (ha:x.asked=false) (hs:A.ss[i]?=some (s,out)) (gu:s.get x.id (sq:Int) key=(s',val,ok,er)):uw A j i x sq key 2 (Nj A j i x sq s' out [] er)
 |del {s s':ag} {out:List bt} {er:Nat} (ha:x.asked=false) (hs:A.ss[i]?=some (s,out)) (gu:s.aJ x.id (sq:Int) key ⟨2,ByteArray.empty⟩=(s',er)):uw A j i x sq key 4 (Nj A j i x sq s' out [(i+1,key,ByteArray.empty)] er)
 |abort (he:A.c.rZ x.id≠0\/x.what≠5):uw A j i x sq key 6 { A with c:=A.c.iR x.id }
theorem uw.adF{A:aB}{j i sq:Nat}{x:aS}{y:ByteArray}{kd:Int}(h:uw A j i x sq y kd A'):¬kd=1/\¬kd=5:=by cases h<;>omega
section
variable{I w:World}{B E n K:Nat}{J:Value}{G:List Nat}{A:aB}{x:aS}{j i sq:Nat}{s s':ag}{out:List bt}
theorem wu(kd:Int){A':aB}(a b c:Int)(av:bJ I w B E n K J G A)(hn:n=A.ss.length)(rX:n<=90)(pz:1<=n)(O:ly a)(hb:ly b)(hc:ly c)(hj:j=A.ds.length-1-mq a A.ds.length)(hx:A.ds[j]?=some x)(hi:i=mq b n)(M:A.ds.length<=1000000)(bb:x.id<1000000000)(hB:2<=B)(bp:Met I)(aH:bI I)(hK:K<=290000)(hlen:x.seq.length=n+1)(uG:x.seq[i+1]?=some sq)(Bf:x.writes.length<=1000000)(zU:sq<=1000000)(hC:uw A j i x sq (eV<|mq c 5) kd A'):
  Calls prog 56 #[cQ E,o0 kd a b c] w λe w'=>e=.returned (.bool true)/\bJ I w' B E n (K+1) J G A':=by
 have I_:=ry (mq c 5) (gD c 5 bM);have⟨k1,k5⟩:=hC.adF;have⟨dv,bv,ov,fl,ps,hL⟩:=av.l;obtain⟨o,N,rfl,-⟩:=hL.Dh hn;obtain⟨gd,dc,p,rfl,V,-,-⟩:=hL.law.nz hx;have⟨C,sv,wv⟩:=p;have⟨D,hD⟩:=gb A.ds.length;rw[<-hD]at hL hj M;have nM:j<D:=by rw[hD];exact(zzd.1 hx).1
 have⟨q,h⟩:=gb <|mq a D;have⟨g,na⟩:=gb <|mq c 5;have pL:=λw'=>eU a D w' O.1 (by have:=O.2;omega) bL bL
 have su:=λw'=>eU b n w' hb.1 (by have:=hb.2;omega) bL bL
 have BN:=λw'=>eU c 5 w' hc.1 (by have:=hc.2;omega) bL bL
 rw[<-h]at pL;rw[<-hi]at su;rw[<-na]at BN;have b6:q<D:=by rw[h];exact gD _ _ bL
 have je:i<n:=by rw[hi];exact gD _ _ bL
 have JR:g<5:=by rw[na];exact gD _ _ bL
 have b5:j=D-1-q:=by rw[hj,h]
 have⟨d,nC⟩:=gb <|i+1;have⟨a7,hW⟩:=gb <|w.alloc (iV kd a b c);have gG:Fr [] w a7:=by rw[hW];exact(lT w).alloc _
 have mP:a7.heap[w.heap.size]?=some (iV kd a b c):=by rw[hW];exact heap_alloc_new w _
 have iP:=hL.new gG;obtain⟨ba,b',p1,VL,lr,Ku,-⟩:=iP.law.nz hx;rw[<-hD]at VL;cases VL;rw[V]at lr;cases lr;have n1:=ae iP.law.net 1;have W:=ae mP 0;have s1:=ae mP 1;simp at n1 W s1 Ku;have DI:=af pL;have Q5:=af su;have VM:=af BN;have Dj:=af<|zzb iP mP;have H:=af<|zzb hn<|zzb hD<|zzb hx<|zzb V<|zzb bp<|zzb aH<|zzb na nC;have D0:¬(D:Int)=0:=bL
 have D1:IntKind.i64.wrap ((D:Int)-1)=(D:Int)-1:=dL;have D2:IntKind.i64.wrap ((D:Int)-1-(q:Int))=(j:Int):=dL;have j0:(0:Int)<=j:=bL;have j1:(j:Int)<D:=bL;have nK:IntKind.i64.wrap (1+(i:Int))=(d:Int):=dL;have b7:1<=d/\d<=n:=bL;rw[hW]at n1 W s1 Ku;rw[<-na]at hC I_;rw[<-nC]at uG;have Q:=af<|zzb uG hlen;have HC:=af<|zzb hC I_;clear hC I_ uG hlen;clear av hL hn hD hx V hj hi h na pL su BN gG mP iP bp aH b6 b5 O hb hc nC M nM
 go_enter func56,ntmps56;go_wp2_with fail;rw[<-hW];rw[<-hW]at n1 W s1 Ku;clear hW W;go_region_held3 (λw'=>w'.cell? ⟨E,1,none⟩=some (.slice (some ⟨gd,0,none⟩) D dc)/\w'.cell? ⟨w.heap.size,1,none⟩=some (.int .i64 a)/\w'.cell? ⟨gd,j,none⟩=some (.pointer<|some ⟨C,0,none⟩)) (simp[*])
  (first|(go_at_call 10;refine(DI.out _).mono ?_;rintro e w3 ⟨rfl,rfl⟩))
 have ig:=af<|zzb (Dj.1.new (lT a7).drew)<|show a7.drew.heap[w.heap.size]?=some (iV kd a b c)from Dj.2;generalize a7.drew=W2 at ig ⊢;clear n1 s1 Ku D0 D1 D2 DI Dj;have n4:=ae ig.1.law.net 4;have s2:=ae ig.2 2;simp at n4 s2;go_wp2_with fail
 go_region_held3 (λw'=>w'.cell? ⟨w.heap.size,2,none⟩=some (.int .i64 b)/\w'.cell? ⟨E,4,none⟩=some (.int .i64 (n:Int))) (simp[*])
  (first|(go_at_call 10;refine(Q5.out _).mono ?_;rintro e w3 ⟨rfl,rfl⟩))
 have zO:=af<|zzb (ig.1.new (lT W2).drew)<|show W2.drew.heap[w.heap.size]?=some (iV kd a b c)from ig.2;generalize W2.drew=W3 at zO ⊢;clear n4 s2 Q5 ig;have s3:=ae zO.2 3;simp at s3;go_wp2_with fail;refine(VM.out _).mono ?_;rintro e w4 ⟨rfl,e4⟩;rw[e4];clear e4 s3 VM;go_wp2_with fail;refine(iI g bL W3).mono ?_;rintro e k ⟨rfl,cO⟩;have iz:k.heap[w.heap.size]?=some (iV kd a b c):=(cO.block _ (zza.1 zO.2).1 bR).trans zO.2;have z:=af<|zzb (zO.1.new cO) iz;clear cO iz zO;have Cj:(⟨#[107]⟩:ByteArray)++str (lI g)=eV g:=by unfold eV;rw[show(107::lI g)=[107]++lI g from rfl,xw];rfl
 have an:(str<|lI g).size=1:=by rw[cR,mW bL];rfl
 have al:(⟨#[107]⟩:ByteArray).size=1:=rfl;have M1:¬9223372036854775807<1+(str<|lI g).size:=bL
 have W:=ae z.2 0;have M:=z.1.law.each j _ x H.2.2.2.1 H.2.2.1;have T:=ae M.blk 3;simp at W;have b9:IntKind.i64.wrap ((sq:Int)+1)=(sq:Int)+1:=dL;have hC:=HC.1;cases hC with
 |asked hk O=>
  simp at T;rw[O]at T;have R:=af<|z.1.b.up<|zzC K;clear M HC;obtain e|e|e:=hk<;>subst e
  all_goals
   go_wp2_with fail;go_ret;exact⟨rfl,R.out⟩
 |none hk=>
  have k2:¬kd=2:=bL;have k3:¬kd=3:=bL;have k4:¬kd=4:=bL;have k6:¬kd=6:=bL;clear hk M T HC;have⟨U,cq,L,Up⟩:=jB (z.1.law.each j _ x H.2.2.2.1 H.2.2.1).seq Q.1;rw[Q.2]at L;simp only[]at L;subst L;have aE:(0:Int)<=d:=bL;have aI:(d:Int)<n+1:=bL;have i9:(((sq+1:Nat)):Int)=(sq:Int)+1:=bL;obtain⟨g9,c9,e9,ab,ad,Z,m⟩:=z.1.law.C' (m':=sq+1) H.2.2.2.1 H.2.2.1 Q.1;rw[Q.2]at e9;cases e9;have M:=z.1.law.each j _ x H.2.2.2.1 H.2.2.1;have u:=ae M.blk 1;simp at u;rw[i9]at Z m;have⟨VA,Mn⟩:=z.1.oZ;have R:=af<|show bJ I (k.setCell ⟨U,d,none⟩<|.int .i64<|(sq:Int)+1) B E n (K+1) (.slice (some ⟨o,0,none⟩) (n+1) N) G {A with ds:=A.ds.set j {x with seq:=x.seq.set d (sq+1)}}from ⟨_,bv,ov,fl,_,VA,Z,m.oZ<|Mn.mono<|zzC K,z.1.bC,z.1.xA.trans<|m.lg z.1.law.low.2⟩;clear Z m Mn M i9;go_wp2_with fail;go_ret;exact⟨rfl,by rw[<-H.2.2.2.2.2.2.2];exact R.out⟩
 |@get s s' out val ok er O hs gu=>
  simp at T;rw[O]at T;clear O;have aa:Hid (n=(A.ss.set i (s',out)).length):=by rw[List.length_set];exact H.1
  have HO:=af<|zzb hs<|zzb gu HC.2;have⟨v,X⟩:∃v:Int,v=(er:Int):=⟨_,rfl⟩;have S:=af X;clear hs gu X M;go_wp2_with fail;clear W T M1 an al;have⟨h,l⟩:∃y,G[d]?=some y:=⟨_,zzg<|by have:=z.1.b.ln;have:=H.1;omega⟩;have⟨g6,c6,Uo,eN⟩:=z.1.Dh H.1
  cases Uo;have Q8:=eN d h l;have n0:=ae z.1.law.net 0;have M:=z.1.law.each j _ x H.2.2.2.1 H.2.2.1;have d0:=ae M.blk 0;have u:=ae M.blk 1;have⟨U,cq,L,Up⟩:=jB M.seq Q.1;rw[Q.2]at L;simp only[]at L;subst L;simp at Q8 n0 d0 u Up;have aE:(0:Int)<=d:=bL;have aI:(d:Int)<n+1:=bL;have VO:∀w',Fr [] k w'->Calls prog 13 #[.pointer<|some ⟨h,0,none⟩,.int .u64 (x.id:Int),.int .i64 (sq:Int),.string<|eV g] w' λe a6=>e=.returned (.tuple #[.string val,.bool ok,.int .i64 v])/\uu I k a6 B E n (K+1) (.slice (some ⟨o,0,none⟩) (n+1) N) (.slice (some ⟨gd,0,none⟩) D dc) bv ov fl G ps {A with ss:=A.ss.set i (s',out)}:=λw' a1=>by
   have P:=z.1.new a1;have⟨Ls,zN⟩:=P.oZ;obtain⟨uj,-⟩:=P.met hB H.2.2.2.2.1 H.2.2.2.2.2.1;have hg:=ado (t:=x.id) (i:=i) (sq:Int) (eV g) zN HO.1 (by rw[<-H.2.2.2.2.2.2.2];exact l) hB uj (by omega) (by unfold maxLen;have:=HO.2.2;omega) bL;rw[HO.2.1,<-S.out]at hg;refine hg.mono ?_;rintro e a6 ⟨rfl,V⟩;exact⟨rfl,(P.call (A':={A with ss:=A.ss.set i (s',out)}) V rfl rfl rfl).of a1⟩
  have HG:=af VO;have HH:=af l;clear VO l M eN;go_region_held3 (λw'=>w'.cell? ⟨E,0,none⟩=some (.slice (some ⟨o,0,none⟩) (n+1) N)/\w'.cell? ⟨o,d,none⟩=some (.pointer<|some ⟨h,0,none⟩)/\w'.cell? ⟨C,0,none⟩=some (.int .u64 (x.id:Int))/\w'.cell? ⟨C,1,none⟩=some (.slice (some ⟨U,0,none⟩) (n+1) cq)/\w'.cell? ⟨U,d,none⟩=some (.int .i64 (sq:Int))) (simp[*])
   (first|(go_at_call 13;refine(HG.out _<|by first|exact cw (lT k) _|exact(lT k).drew|exact lT k).mono ?_;rintro e w7 ⟨rfl,rI⟩;(have⟨g7,c7,Qu,qI⟩:=rI.net.Dh aa.out);cases Qu;have zt:=qI d h HH.out;have Y:=ae rI.net.law.net 0;have F:=rI.net.law.each j _ x H.2.2.2.1 H.2.2.1;have Q9:=ae F.blk 0;have a8:=ae F.blk 1;(have⟨b4,b3,FX,FY⟩:=jB F.seq Q.1);rw[Q.2]at FX;cases FX;simp at zt Y Q9 a8 FY;have f:=af rI.net;clear rI F qI))
  clear Q8 n0 d0 u Up zt Y Q9 a8 FY;by_cases Kk:er=0
  .subst Kk;have RN:v=0:=by rw[S.out];rfl
   subst RN;have i9:(((sq+1:Nat)):Int)=(sq:Int)+1:=bL;obtain⟨g9,c9,e9,ab,ad,Z,m⟩:=f.out.law.C' (m':=sq+1) H.2.2.2.1 H.2.2.1 Q.1;rw[Q.2]at e9;cases e9;have M:=f.out.law.each j _ x H.2.2.2.1 H.2.2.1;have u:=ae M.blk 1;simp at u;rw[i9]at Z m;obtain⟨VA,Mn⟩:=f.out.oZ;have R:=af<|show bJ I (w7.setCell ⟨U,d,none⟩<|.int .i64<|(sq:Int)+1) B E n (K+1) (.slice (some ⟨o,0,none⟩) (n+1) N) G {A with ss:=A.ss.set i (s',out),ds:=A.ds.set j {x with seq:=x.seq.set d (sq+1)}}from ⟨_,bv,ov,fl,_,VA,Z,m.oZ Mn,f.out.bC,f.out.xA.trans<|m.lg f.out.law.low.2⟩;clear Z m Mn M i9;go_wp2_with fail;go_ret;exact⟨rfl,by rw[xB rfl,<-H.2.2.2.2.2.2.2,List.append_nil];exact R.out⟩
  .have RN:¬v=0:=by rw[S.out];omega
   have M:=f.out.law.each j _ x H.2.2.2.1 H.2.2.1;have d4:=ae M.blk 4;have f4:=aj M.blk 4;simp at d4;obtain⟨VN,Q_⟩:=f.out.law.Fx (w':=w7.setCell ⟨C,4,none⟩<|.bool true) (x':={x with lost:=true}) H.2.2.2.1 H.2.2.1 (Fr.cD (by simp) _ _) (by have:=ar M.blk 4<|.bool true;simp at this;exact this) rfl rfl;have⟨YT,zM⟩:=f.out.oZ;have r:=af<|show bJ I (w7.setCell ⟨C,4,none⟩<|.bool true) B E n (K+1) (.slice (some ⟨o,0,none⟩) (n+1) N) G {A with ss:=A.ss.set i (s',out),ds:=A.ds.set j {x with lost:=true}}from ⟨_,bv,ov,fl,_,YT,VN,Q_.oZ zM,f.out.bC,f.out.xA.trans<|Q_.lg f.out.law.low.2⟩;clear VN Q_ zM M;go_wp2_with fail;go_ret;exact⟨rfl,by rw[Dg Kk];exact r.out⟩
 |@del s s' out er O hs gu=>
  simp at T;rw[O]at T;clear O;have aa:Hid (n=(A.ss.set i (s',out)).length):=by rw[List.length_set];exact H.1
  have HO:=af<|zzb hs<|zzb gu HC.2;have⟨v,X⟩:∃v:Int,v=(er:Int):=⟨_,rfl⟩;have S:=af X;clear hs gu X M;go_wp2_with fail;clear W T M1 an al;have⟨h,l⟩:∃y,G[d]?=some y:=⟨_,zzg<|by have:=z.1.b.ln;have:=H.1;omega⟩;have⟨g6,c6,Uo,eN⟩:=z.1.Dh H.1
  cases Uo;have Q8:=eN d h l;have n0:=ae z.1.law.net 0;have M:=z.1.law.each j _ x H.2.2.2.1 H.2.2.1;have d0:=ae M.blk 0;have u:=ae M.blk 1;have⟨U,cq,L,Up⟩:=jB M.seq Q.1;rw[Q.2]at L;simp only[]at L;subst L;simp at Q8 n0 d0 u Up;have aE:(0:Int)<=d:=bL;have aI:(d:Int)<n+1:=bL;have VO:∀w',Fr [] k w'->Calls prog 96 #[.pointer<|some ⟨h,0,none⟩,.int .u64 (x.id:Int),.int .i64 (sq:Int),.string<|eV g] w' λe a6=>e=.returned (.int .i64 v)/\uu I k a6 B E n (K+1) (.slice (some ⟨o,0,none⟩) (n+1) N) (.slice (some ⟨gd,0,none⟩) D dc) bv ov fl G ps {A with ss:=A.ss.set i (s',out)}:=λw' a1=>by
   have P:=z.1.new a1;have⟨Ls,zN⟩:=P.oZ;obtain⟨uj,-⟩:=P.met hB H.2.2.2.2.1 H.2.2.2.2.2.1;have hg:=T5 (t:=x.id) (i:=i) (sq:Int) (eV g) zN HO.1 (by rw[<-H.2.2.2.2.2.2.2];exact l) hB uj (by omega) bL;rw[HO.2.1,<-S.out]at hg;refine hg.mono ?_;rintro e a6 ⟨rfl,V⟩;exact⟨rfl,(P.call (A':={A with ss:=A.ss.set i (s',out)}) V rfl rfl rfl).of a1⟩
  have HG:=af VO;have HH:=af l;clear VO l M eN;go_region_held3 (λw'=>w'.cell? ⟨E,0,none⟩=some (.slice (some ⟨o,0,none⟩) (n+1) N)/\w'.cell? ⟨o,d,none⟩=some (.pointer<|some ⟨h,0,none⟩)/\w'.cell? ⟨C,0,none⟩=some (.int .u64 (x.id:Int))/\w'.cell? ⟨C,1,none⟩=some (.slice (some ⟨U,0,none⟩) (n+1) cq)/\w'.cell? ⟨U,d,none⟩=some (.int .i64 (sq:Int))) (simp[*])
   (first|(go_at_call 96;refine(HG.out _<|by first|exact cw (lT k) _|exact(lT k).drew|exact lT k).mono ?_;rintro e w7 ⟨rfl,rI⟩;(have⟨g7,c7,Qu,qI⟩:=rI.net.Dh aa.out);cases Qu;have zt:=qI d h HH.out;have Y:=ae rI.net.law.net 0;have F:=rI.net.law.each j _ x H.2.2.2.1 H.2.2.1;have Q9:=ae F.blk 0;have a8:=ae F.blk 1;(have⟨b4,b3,FX,FY⟩:=jB F.seq Q.1);rw[Q.2]at FX;cases FX;simp at zt Y Q9 a8 FY;have f:=af rI.net;clear rI F qI))
  clear Q8 n0 d0 u Up zt Y Q9 a8 FY;by_cases Kk:er=0
  .subst Kk;have RN:v=0:=by rw[S.out];rfl
   subst RN;have M:=f.out.law.each j _ x H.2.2.2.1 H.2.2.1;have d2:=ae M.blk 2;simp at d2;have YQ:x.writes.length<=60000000:=bL;have⟨wo,wm,Q7,ao⟩:=ct M.qE;simp only[]at ao;subst ao;clear M;go_wp2_with (at_builtin;refine wpList_plain rfl λKc aw=>?_;refine FW (y:=(d,eV g,ByteArray.empty)) f.out H.2.2.2.1 H.2.2.1 YQ _ _ rfl rfl rfl ?_ ?_ ?_)
   .repeat (first|with_reducible exact lT _|with_reducible refine Fr.alloc ?_ _|with_reducible refine Fr.drew ?_)
   .exact kX.new _ _ bR
   intro va vb vc w8 b8 h8;refine aw _ _ ?_;clear aw Kc;have c8:=ae b8 2;have f8:=aj b8 2;simp at c8;have r:=af h8;clear h8 b8;obtain⟨wy,ZG⟩:∃y,y=w8.setCell ⟨C,2,none⟩ (.slice va vb vc):=⟨_,rfl⟩;rw[<-ZG]at r;have nM:=zzd.1 H.2.2.1;have az:=zzd.1 H.2.2.2.1;have YR:({A with ss:=A.ss.set i (s',out),ds:=A.ds.set j {x with writes:=x.writes++[(d,eV g,ByteArray.empty)]}}:aB).ds[j]?=some {x with writes:=x.writes++[(d,eV g,ByteArray.empty)]}:=List.getElem?_set_self nM.1;have YS:=List.getElem?_set_self (a:=(C,Value.slice (some ⟨U,0,none⟩) (n+1) cq,Value.slice va vb vc)) az.1;have⟨g9,c9,e9,ab,ad,Z,m⟩:=r.out.law.C' (m':=sq+1) YS YR Q.1;rw[show({x with writes:=x.writes++[(d,eV g,ByteArray.empty)]}:aS).seq.length=n+1 from Q.2]at e9;cases e9;have M:=r.out.law.each j _ _ YS YR;have u:=ae M.blk 1;simp at u;have i9:(((sq+1:Nat)):Int)=(sq:Int)+1:=bL;rw[i9]at Z m;have⟨VA,Mn⟩:=r.out.oZ;have R:=af (show bJ I (wy.setCell ⟨U,d,none⟩<|.int .i64<|(sq:Int)+1) B E n (K+1) (.slice (some ⟨o,0,none⟩) (n+1) N) G {A with ss:=A.ss.set i (s',out),ds:=A.ds.set j {x with writes:=x.writes++[(d,eV g,ByteArray.empty)],seq:=x.seq.set d (sq+1)}}from ⟨_,bv,ov,fl,_,VA,by rw[List.set_set]at Z;exact Z,m.oZ Mn,r.out.bC,r.out.xA.trans<|m.lg r.out.law.low.2⟩);rw[ZG]at u ab ad;clear Z m Mn M YR YS nM az i9 r;go_wp2_with fail;rw[<-ZG];go_ret;exact⟨rfl,by rw[xB rfl,<-H.2.2.2.2.2.2.2];exact R.out⟩
  .have RN:¬v=0:=by rw[S.out];omega
   have M:=f.out.law.each j _ x H.2.2.2.1 H.2.2.1;have d4:=ae M.blk 4;have f4:=aj M.blk 4;simp at d4;have⟨VN,Q_⟩:=f.out.law.Fx (w':=w7.setCell ⟨C,4,none⟩<|.bool true) (x':={x with lost:=true}) H.2.2.2.1 H.2.2.1 (Fr.cD bR _ _) (by have:=ar M.blk 4<|.bool true;simp at this;exact this) rfl rfl;have⟨YT,zM⟩:=f.out.oZ;have r:=af<|show bJ I (w7.setCell ⟨C,4,none⟩<|.bool true) B E n (K+1) (.slice (some ⟨o,0,none⟩) (n+1) N) G {A with ss:=A.ss.set i (s',out),ds:=A.ds.set j {x with lost:=true}}from ⟨_,bv,ov,fl,_,YT,VN,Q_.oZ zM,f.out.bC,f.out.xA.trans<|Q_.lg f.out.law.low.2⟩;clear VN Q_ zM M;go_wp2_with fail;go_ret;exact⟨rfl,by rw[Dg Kk];exact r.out⟩
 |abort he=>
  have s4:=ae z.2 4;have s5:=ae z.2 5;have s6:=ae z.2 6;have s7:=ae z.2 7;simp at s4 s5 s6 s7;have HE:=af he;clear M T HC he;go_wp2_with fail;clear W M1 an al;have⟨h,l⟩:∃y,G[0]?=some y:=⟨_,zzg<|by have:=z.1.b.ln;omega⟩;have⟨g6,c6,Uo,eN⟩:=z.1.Dh H.1
  cases Uo;have Q8:=eN 0 h l;have n0:=ae z.1.law.net 0;have M:=z.1.law.each j _ x H.2.2.2.1 H.2.2.1;have d0:=ae M.blk 0;simp at Q8 n0 d0;have⟨v,X⟩:∃v:Int,v=(A.c.rZ x.id:Int):=⟨_,rfl⟩;have S:=af X;have VO:∀w',Fr [] k w'->Calls prog 95 #[.pointer<|some ⟨h,0,none⟩,.int .u64 (x.id:Int),fy (-1) (-1) 0 0] w' λe a6=>e=.returned (.int .i64 v)/\uu I k a6 B E n (K+1) (.slice (some ⟨o,0,none⟩) (n+1) N) (.slice (some ⟨gd,0,none⟩) D dc) bv ov fl G ps {A with c:=A.c.iR x.id}:=λw' a1=>by
   have P:=z.1.new a1;have⟨Ls,zN⟩:=P.oZ;have⟨uj,Bq⟩:=P.met hB H.2.2.2.2.1 H.2.2.2.2.2.1;have hg:=Qo (t:=x.id) zN l (by omega) hB uj Bq hK;rw[<-S.out]at hg;refine hg.mono ?_;rintro e a6 ⟨rfl,V⟩;exact⟨rfl,(P.call (A':={A with c:=A.c.iR x.id}) V rfl rfl rfl).of a1⟩
  have HG:=af VO;have HH:=af<|zzb l z.2;clear VO l M eN X
  go_region_held3 (λw'=>w'.cell? ⟨E,0,none⟩=some (.slice (some ⟨o,0,none⟩) (n+1) N)/\w'.cell? ⟨o,0,none⟩=some (.pointer<|some ⟨h,0,none⟩)/\w'.cell? ⟨C,0,none⟩=some (.int .u64 (x.id:Int))/\w'.cell? ⟨w.heap.size,4,none⟩=some (.int .i64<|-1)/\w'.cell? ⟨w.heap.size,5,none⟩=some (.int .i64<|-1)/\w'.cell? ⟨w.heap.size,6,none⟩=some (.int .i64 0)/\w'.cell? ⟨w.heap.size,7,none⟩=some (.int .i64 0)) (simp[*])
   (first|(go_at_call 95;refine(HG.out _<|by first|exact cw (lT k) _|exact(lT k).drew|exact lT k).mono ?_;rintro e w7 ⟨rfl,rI⟩;(have⟨g7,c7,Qu,qI⟩:=rI.net.Dh H.1);cases Qu;have zt:=qI 0 h HH.1;have Y:=ae rI.net.law.net 0;have F:=rI.net.law.each j _ x H.2.2.2.1 H.2.2.1;have Q9:=ae F.blk 0;(have a':=rI.own _ _ _ HH.2 I6);have aQ:=ae a' 4;have b0:=ae a' 5;have b1:=ae a' 6;have b2:=ae a' 7;simp at zt Y Q9 aQ b0 b1 b2;have f:=af rI.net;clear rI F qI a'))
  clear Q8 n0 d0 s4 s5 s6 s7 zt Y Q9 aQ b0 b1 b2;have M:=f.out.law.each j _ x H.2.2.2.1 H.2.2.1;have d5:=ae M.blk 5;simp at d5;have R:=af f.out.b;clear M;by_cases Kk:v=0
  .have wP:((x.what:Int) != 5)=true:=by have h1:=S.out;rw[bne_iff_ne];obtain h2|h2:=HE.out<;>omega
   subst Kk;go_wp2_with fail;go_ret;exact⟨rfl,R.out⟩
  .go_wp2_with fail;go_ret;exact⟨rfl,R.out⟩
end
end
end Go.Proofs.YtcalalndmcemiaaGreatDoor
