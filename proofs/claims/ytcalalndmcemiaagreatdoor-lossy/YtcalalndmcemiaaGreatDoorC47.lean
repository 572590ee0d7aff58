import Derived.Test.YtcalalndmcemiaaGreatDoorC44
set_option maxHeartbeats 16000000
set_option maxRecDepth 100000
namespace Go.Proofs.YtcalalndmcemiaaGreatDoor
open Go.RowKit Go.Maps Tryz Sc
section
open Go.Shelf
section
variable{I w:World}{B E n K O:Nat}{J:Value}{G:List Nat}{A A1 U:aB}
def VK(I:World)(B E n K O:Nat)(J:Value)(G:List Nat)(A A1:aB)(i:Nat)(kd a b c:Int):Prop :=
 ((kd<7\/14<kd)/\∀w',bJ I w' B E n K J G A->Calls prog 56 #[cQ E,o0 kd a b c] w' λe w=>e=.returned (.bool true)/\bJ I w B E n O J G A1) \/
 ((kd=8\/kd=9\/kd=14)/\∀w',bJ I w' B E n K J G A->Calls prog 55 #[cQ E,o0 kd a b c] w' λe w=>e=.returned (.bool true)/\bJ I w B E n O J G A1) \/
 (kd=7/\A1=A.send i/\(∀x∈A.outs i,x.Ok)/\A.bC.length+(A.outs i).length<=60000000) \/
 (kd=10/\∀w' p,G[i]?=some p->bJ I w' B E n K J G A->Calls prog 53 #[cQ p] w' λe w=>e=.returned (.tuple #[])/\bJ I w B E n O J G A1) \/
 (kd=13/\∀w' p,G[i]?=some p->bJ I w' B E n K J G A->Calls prog 54 #[cQ p,fy (-1) (-1) 0 0] w' λe w=>e=.returned (.int .i64 0)/\bJ I w B E n O J G A1/\∀(q:Nat) (c:Array Value) (t:TypeId),w'.heap[q]?=some (.cells c t)->¬bo t->w.heap[q]?=some (.cells c t))
theorem FT{i:Nat}(kd a b c:Int)(h:bJ I w B E n K J G A)(a':n=A.ss.length)(ha:ly a)(rX:n<=90)(hi:i=mq a (n+1))(S:VK I B E n K O J G A A1 i kd a b c)(my:Looks A1 U)(hn:n=A1.ss.length)(hK:K<=O)(b0:O<=140000):
  Calls prog 25 #[cQ E,o0 kd a b c] w λe w'=>e=.returned (.bool true)/\bJ I w' B E n O J G U:=by
 have⟨W,p⟩:=gb <|w.alloc (iV kd a b c);have gG:Fr [] w W:=by rw[p];exact(lT w).alloc _
 have mP:W.heap[w.heap.size]?=some (iV kd a b c):=by rw[p];exact heap_alloc_new w _
 have P:=h.new gG;have pL:=λw'=>eU a (n+1) w' ha.1 (by have:=ha.2;omega) bL bL
 rw[show(((n+1:Nat):Int))=(n:Int)+1 by omega]at pL;obtain⟨-,k⟩:=P.cells;have s:=ae mP 1;simp at s;have T:=af pL;have l:=af<|zzb P mP;have av:IntKind.i64.wrap ((n:Int)+1)=(n:Int)+1:=dL
 have Kd:i<=n:=by have:=gD a (n+1) bL;omega
 obtain⟨OH,hc,Mc,-⟩:=fP h.hs.1;have Nc:G.length=n+1:=by have:=h.ln;omega
 rw[Nc]at Mc;subst Mc;rw[<-hi]at T;rw[p]at k s;have a7:=af<|zzb S a';have X:=af<|zzb my hn;clear h gG mP P pL ha S my hn a' hi
 go_enter func25,ntmps25;go_wp2_with fail;rw[<-p];rw[<-p]at k s;clear p;go_region_held3 (λw'=>w'.cell? (hO w.heap.size 1)=some (.int .i64 a)/\w'.cell? (hO E 4)=some (.int .i64 (n:Int))) (simp[*])
  (first|(go_at_call 10;apply(T.out _).mono;rintro e Q ⟨rfl,rfl⟩))
 have H:=af<|zzb (l.1.new (lT W).drew)<|show W.drew.heap[w.heap.size]?=some (iV kd a b c)from l.2;generalize W.drew=W2 at H ⊢;clear k s T l av;have q:=ae H.2 0;have s:=ae H.2 1;have r:=ae H.2 2;have t:=ae H.2 3;have u:=ae H.2 4;have x:=ae H.2 5;have y:=ae H.2 6;have z:=ae H.2 7;simp at q s r t u x y z;have⟨M,k⟩:=H.1.cells;have⟨F,Z⟩:∃F,G[i]?=some F:=⟨_,zzg bL⟩;obtain⟨gh,rfl,o⟩:=dF (f:=id) H.1.hs.1 Z;simp at o;have j0:(0:Int)<=i:=bL
 have j1:(i:Int)<=n:=bL;have j2:(i:Int)<n+1:=bL;have N:=af Z;clear Z Nc;have S:=a7.1;rcases S with⟨Y,C⟩|⟨Y,C⟩|⟨rfl,rfl,bB,gT⟩|⟨rfl,C⟩|⟨rfl,C⟩
 .have k7:¬kd=7:=bL;have a1:¬kd=10:=bL;have YM:¬kd=11:=bL;have YN:¬kd=12:=bL;have a6:¬kd=13:=bL;have k8:¬kd=8:=bL;have k9:¬kd=9:=bL;have aw:¬kd=14:=bL;have m:=af C;clear Y C;go_wp2_with fail;apply(m.out W2 H.1).mono;rintro e Q ⟨rfl,d⟩;clear M k o q s r t u x y z k7 a1 YM YN a6 k8 k9 aw;have g:=af d;clear d;go_wp2_with fail;apply(rp g.out X.1 X.2 bL bL).mono;rintro e R ⟨rfl,h4⟩;have j:=af h4;clear h4;go_wp2_with fail;go_ret;exact⟨rfl,j.out⟩
 .have k7:¬kd=7:=bL;have a1:¬kd=10:=bL;have YM:¬kd=11:=bL;have YN:¬kd=12:=bL;have a6:¬kd=13:=bL;have m:=af C;clear C;obtain rfl|rfl|rfl:=Y
  all_goals
   go_wp2_with fail;apply(m.out W2 H.1).mono;rintro e Q ⟨rfl,d⟩;clear M k o q s r t u x y z k7 a1 YM YN a6;have g:=af d;clear d;go_wp2_with fail;apply(rp g.out X.1 X.2 bL bL).mono;rintro e R ⟨rfl,h4⟩;have j:=af h4;clear h4;go_wp2_with fail;go_ret;exact⟨rfl,j.out⟩
 .obtain⟨dv,bv,ov,fl,ps,Ls,hL,hN,nQ,hG⟩:=H.1;have zA:=FG hN N.out (by have:=a7.2;omega) bB bL;have V:=af<|zzb hL<|zzb hN<|zzb nQ<|zzb hG bB;clear hL hN nQ hG bB;go_wp2_with fail;apply zA.mono;clear zA;rintro e w1 ⟨v,rfl,Od,dM,⟨Ls1,gX⟩,bh,-⟩;have P:=V.1.Vm bh;have c2:=ae P.net 2;have i_:=aj P.net 2;simp at c2;clear M k o q s r t u x y z;obtain⟨va,vn,vc,rfl⟩:=ct Od;have⟨ba,bn,bc,Ua⟩:=ct P.bg;have mM:=P.bg;have Qy:=P.Kf;have ei:=P.low.2;have l:=af<|zzb P<|zzb gX bh;subst Ua;clear P gX bh
  go_wp2_with (at_builtin;apply zf rfl _ _ rfl B _ _ _ _ _ rfl mM Qy rfl Od gT ei);intro v' w2 D;obtain⟨aE,aI,aH,rfl⟩:=ct D.row;have cZ:=D.net l.1;have g2:=ae cZ 2;have aQ:=aj cZ 2;simp at g2;have d:bJ I (w2.setCell (hO E 2)<|.slice aE aI aH) B E n O (.slice (some (gz gh)) (n+1) hc) G (A.send i):=by
   rw[<-uk]at D;exact(bJ.C9 l.1 l.2.1 D V.2.2.1 (V.2.2.2.1.trans l.2.2.lg) (xy _ _).1 (xy _ _).2).up hK
  clear D cZ mM Qy Od dM c2 i_;have g:=af d;clear d;go_wp2_with fail;apply(rp g.out X.1 X.2 bL bL).mono;rintro e R ⟨rfl,h4⟩;have j:=af h4;clear h4;go_wp2_with fail;go_ret;exact⟨rfl,j.out⟩
 .have m:=af C;clear C;go_wp2_with fail;apply(m.out W2 F N.out H.1).mono;rintro e Q ⟨rfl,d⟩;clear M k o q s r t u x y z;have g:=af d;clear d;go_wp2_with fail;apply(rp g.out X.1 X.2 bL bL).mono;rintro e R ⟨rfl,h4⟩;have j:=af h4;clear h4;go_wp2_with fail;go_ret;exact⟨rfl,j.out⟩
 .have m:=af C;clear C;go_wp2_with fail;go_region_held3 (λw'=>w'.cell? (gz E)=some (.slice (some (gz gh)) (n+1) hc)/\w'.cell? (hO gh i)=some (cQ F)/\w'.cell? (hO w.heap.size 4)=some (.int .i64<|-1)/\w'.cell? (hO w.heap.size 5)=some (.int .i64<|-1)/\w'.cell? (hO w.heap.size 6)=some (.int .i64 0)/\w'.cell? (hO w.heap.size 7)=some (.int .i64 0)) (simp[*])
   (first|(go_at_call 54;apply(m.out _ F N.out<|H.1.new<|by first|exact cw (lT W2) _|exact(lT W2).drew|exact lT W2).mono;rintro e Q ⟨rfl,d,kW⟩;obtain⟨az,-⟩:=d.cells;(have⟨g3,ao,a8⟩:=dF d.hs.1 N.out);cases ao;(have L:=kW _ _ _ (show _=some (iV 13 a b c)from H.2) I6);have aa:=ae L 4;have ab:=ae L 5;have ad:=ae L 6;have al:=ae L 7;simp at a8 aa ab ad al;have an:=af d;clear d kW L))
  clear M k o q s r t u x y z az a8 aa ab ad al;have d:=an.out;have g:=af d;clear d;go_wp2_with fail;apply(rp g.out X.1 X.2 bL bL).mono;rintro e R ⟨rfl,h4⟩;have j:=af h4;clear h4;go_wp2_with fail;go_ret;exact⟨rfl,j.out⟩
end
theorem addr_add(g o j:Nat):(⟨g,o,none⟩:Addr).add j=⟨g,o+j,none⟩:=by
 unfold Addr.add;split
 .rename_i e;rw[e];rfl
 .rfl
def Di(l:List bt)(k:Nat):List bt:=l.take k++l.drop (k+1)
theorem Me.anew{w d b:World}{B:Nat}{bv v n:Value}{u m:List bt}(j:Me w d B (.slice Option.none 0 0) v u)(h:Me d b B v n m):Me w b B bv n m/\Fr [] w b:=by
 obtain⟨S,o,-,s⟩:=j.fr;obtain⟨x,f,-,t⟩:=h.fr;have new:∀g,v.ownBlock=some g->w.heap.size<=g:=λg c=>(j.loc g c).elim nofun id
 have a:Fr [] w d:=o.mono λk _ p=>absurd (s k p) nofun;have i:Fr [] w b:=⟨f.os.trans a.os,f.tape.trans a.tape,f.output.trans a.output,zzk a.size f.size,λq l hn=>(f.block q (zzl l a.size) λr=>by have:=new q<|t q r;omega).trans<|a.block q l hn⟩;refine⟨⟨h.row,h.nil,⟨[],i,oV.nil w,bR⟩,λg c=>.inr ?_⟩,i⟩;obtain e|e:=h.loc g c
 .exact new g e
 .exact zzk a.size e
def rJ(A:aB)(kd c:Int)(k:Nat):aB:=if kd=9\/mq c 2=0 then { A with bC:=Di A.bC k } else A
def uv(A:aB)(kd c:Int)(k:Nat)(x:bt):aB:=if kd=9 then rJ A kd c k else (rJ A kd c k).recv x
section
variable{G w:World}{B E n K:Nat}{J:Value}{I:List Nat}{A:aB}{x:bt}{k:Nat}
theorem I7(kd a b c:Int)(Iu:kd=8\/kd=9)(ao:bJ G w B E n K J I A)(ha:ly a)(hc:ly c)(gT:A.bC.length<=60000000)(hk:k=mq a A.bC.length)(hx:A.bC[k]?=some x)(hC:kd=8->(rJ A kd c k).Comes x)(hn:n=A.ss.length)(hB:2<=B)(bp:Met G)(aH:bI G)(hK:K<=290000):
  Calls prog 55 #[cQ E,o0 kd a b c] w λe w'=>e=.returned (.bool true)/\bJ G w' B E n (K+1) J I (uv A kd c k x):=by
 have⟨dv,bv,ov,fl,ps,hL⟩:=ao.l;have⟨D,hD⟩:=gb A.bC.length;rw[<-hD]at gT hk;have b0:k<D:=by rw[hD];exact(zzd.1 hx).1
 have⟨d,f,Ua,aE⟩:∃d f,bv=.slice (some ⟨d,0,none⟩) D f/\D<=f:=by
  rcases hL.law.bg.2 with⟨e,e2⟩|⟨g,av,az,e,-,-,Y8,-⟩
  .omega
  .exact⟨g,av,by rw[hD];exact e,bL⟩
 subst Ua;have pL:=λw'=>eU a D w' ha.1 (by have:=ha.2;omega) bL bL
 rw[<-hk]at pL;have⟨W,R⟩:=gb <|w.alloc (iV kd a b c);have gG:Fr [] w W:=by rw[R];exact(lT w).alloc _
 have mP:W.heap[w.heap.size]?=some (iV kd a b c):=by rw[R];exact heap_alloc_new w _
 have iP:=hL.new gG;have L:=ae iP.law.net 2;have s1:=ae mP 1;simp at L s1;have DI:=af pL;have Dj:=af<|zzb iP mP;have D0:¬(D:Int)=0:=bL
 have j0:(0:Int)<=k:=bL;have j1:(k:Int)<D:=bL;rw[R]at L s1;have HX:=af<|zzb hx hD;clear ao hL hk hx hD pL gG mP iP ha
 go_enter func55,ntmps55;go_wp2_with fail;rw[<-R];rw[<-R]at L s1;clear R;go_region_held3 (λw'=>w'.cell? ⟨E,2,none⟩=some (.slice (some ⟨d,0,none⟩) D f)/\w'.cell? ⟨w.heap.size,1,none⟩=some (.int .i64 a)) (simp[*])
  (first|(go_at_call 10;apply(DI.out _).mono;rintro e w3 ⟨rfl,rfl⟩))
 have i:=af<|zzb (Dj.1.new (lT W).drew)<|show W.drew.heap[w.heap.size]?=some (iV kd a b c)from Dj.2;generalize W.drew=W2 at i ⊢;clear L s1 D0 DI Dj;have L:=ae i.1.law.net 2;have bk:=dC i.1.law.bg rfl (by unfold eJ;rw[zzy,HX.1];rfl);have s0:=ae i.2 0;have s2:=ae i.2 2;have s3:=ae i.2 3;have s4:=ae i.2 4;have s5:=ae i.2 5;have s6:=ae i.2 6;have s7:=ae i.2 7;simp at L s0 s2 s3 s4 s5 s6 s7;have aI:=i.1.law.bg;have ei:=i.1.law.low.2;have MH:∀j u,(eJ A.bC)[j]?=some u->W2.cell? ⟨d,j,none⟩=some u:=λj u h=>dC aI rfl h
 have S:(A.bC.take k).length=k:=by rw[zzm,<-HX.2];omega
 have TV:(A.bC.drop<|k+1).length=D-(k+1):=by rw[zzz,<-HX.2]
 have nG:=(aI.lt d rfl).2;have iX:∀j u,(eJ<|A.bC.take k)[j]?=some u->∃s,(some ⟨d,0,none⟩:Option Addr)=some s/\W2.cell? (s.add j)=some u:=λj u h=>by
  refine⟨_,rfl,?_⟩;have hl:j<k:=by have:=(zzd.1 h).1;simp[eJ]at this;omega
  have:(eJ A.bC)[j]?=some u:=by
   unfold eJ at h ⊢;rw[zzy]at h ⊢;rw[List.getElem?_take_of_lt hl]at h;exact h
  rw[addr_add,Nat.zero_add];exact MH j u this
 have jc:(k:Int)<=f:=bL;have jd:(k:Int)+1<=(D:Int):=bL;have jw:IntKind.i64.wrap ((k:Int)+1)=(k:Int)+1:=dL;have b1:¬kd=14:=bL;have HC:=af hC;have HN:Hid (n=(rJ A kd c k).ss.length):=by unfold rJ;split<;>exact hn
 have BN:=λw'=>eU c 2 w' hc.1 (by have:=hc.2;omega) bM bM
 have⟨cc,na⟩:=gb <|mq c 2;rw[<-na]at BN;have an:=af na;clear hC hc na hn s2;obtain rfl|rfl:=Iu
 .go_wp2_with fail;apply(BN _).mono;rintro e w4 ⟨rfl,e4⟩;rw[e4];clear e4 BN;by_cases h0:cc=0
  .subst h0;have M:rJ A 8 c k={A with bC:=Di A.bC k}:=by unfold rJ;rw[if_pos<|.inr an.out.symm]
   rw[M]at HC HN;have a1:=af M;clear M;go_wp2_with (at_builtin;apply jA rfl _ _ rfl B (.slice none 0 0) (some ⟨d,0,none⟩) f [] (A.bC.take k) rfl (zzu _ _ _ _) (λ_=>rfl) (by rw[S];rfl) iX (by rw[S];simp;omega) ei);intro v1 N O;have o:Fr [] W2 N:=by
    obtain⟨S1,f1,-,k1⟩:=O.fr;exact f1.mono λq _ hq=>absurd (k1 q hq) nofun
   have U:∀j u,(eJ<|A.bC.drop<|k+1)[j]?=some u->∃s,(if f=k+1 then some ⟨d,0,none⟩else some ⟨d,k+1,none⟩:Option Addr)=some s/\N.cell? (s.add j)=some u:=λj u h=>by
    have hl:j<D-(k+1):=by have:=(zzd.1 h).1;simp[eJ]at this;rw[<-TV];simpa using this
    rw[if_neg bL];refine⟨_,rfl,?_⟩;have:(eJ A.bC)[k+1+j]?=some u:=by
     unfold eJ at h ⊢;rw[zzy]at h ⊢;rw[List.getElem?_drop]at h;exact h
    rw[addr_add];have V:=MH _ _ this;rw[<-zze (o.block d nG bR)]at V;exact V
   obtain⟨a7,ab,a',rfl⟩:=ct O.row;have Y:=(o.block E (zza.1 i.1.law.net).1 bR).trans i.1.law.net;have a6:=ae Y 2;simp at a6;have Q0:=zzk ei o.size;have p:=af<|zzb O<|zzb o U;clear O o Y U
   go_wp2_with (at_builtin;refine jA rfl _ _ rfl B (.slice a7 ab a') (if f=k+1 then some ⟨d,0,none⟩else some ⟨d,k+1,none⟩) (f-(k+1)) (A.bC.take k) (A.bC.drop<|k+1) rfl p.1.row p.1.nil ?_ p.2.2 (by rw[S,TV];omega) Q0 ?_);all_goals
    intro v2 w2 H;obtain⟨a8,al,aa,rfl⟩:=ct H.row;obtain⟨X,Q⟩:=p.1.anew H;obtain⟨Ls,hN⟩:=i.1.oZ;have F:=bJ.C9 (A:=A) (A1:={A with bC:=Di A.bC k}) i.1.law hN X i.1.bC i.1.xA rfl rfl;have Z:=(Q.block E (zza.1 i.1.law.net).1 bR).trans i.1.law.net;have g2:=ae Z 2;have aw:=aj Z 2;simp at g2;have⟨r,m⟩:∃r,r=w2.setCell ⟨E,2,none⟩ (.slice a8 al aa):=⟨_,rfl⟩;have zA:w.heap.size≠E:=λe=>by have P:=i.2;rw[e,i.1.law.net]at P;cases P
    have l:=((show Fr [E] w2 r by rw[m];exact Fr.cD bR _ _).block _ (zzl (zza.1 i.2).1 Q.size)<|by simpa using zA).trans ((Q.block _ (zza.1 i.2).1 bR).trans i.2);rw[<-m]at F;have t:=ae l 0;have v:=ae l 4;have y:=ae l 5;have z:=ae l 6;have C:=ae l 7;simp at t v y z C;rw[m]at t v y z C;have T:=af F;clear H X Q hN F Z l zA;go_wp2_with fail;rw[<-m];rw[<-m]at t v y z C;clear m;apply(sT x T.out (HC.out bR) HN.out hK hB bp aH).mono;rintro e w5 ⟨rfl,h5⟩;have H5:=af h5;clear h5 t v y z C;go_wp2_with fail;go_ret;exact⟨rfl,by unfold uv;rw[if_neg bM,a1.out];exact H5.out⟩
  .have P:¬(cc:Int)=0:=bL;have M:rJ A 8 c k=A:=by unfold rJ;rw[if_neg<|by have:=an.out;omega]
   rw[M]at HC HN;have a1:=af M;have T:=af i.1.b;clear M;go_wp2_with fail;apply(sT x T.out (HC.out bR) HN.out hK hB bp aH).mono;rintro e w5 ⟨rfl,h5⟩;have H5:=af h5;clear h5 L bk s0 s3 s4 s5 s6 s7;go_wp2_with fail;go_ret;exact⟨rfl,by unfold uv;rw[if_neg bM,a1.out];exact H5.out⟩
 .clear BN;go_wp2_with (at_builtin;apply jA rfl _ _ rfl B (.slice none 0 0) (some ⟨d,0,none⟩) f [] (A.bC.take k) rfl (zzu _ _ _ _) (λ_=>rfl) (by rw[S];rfl) iX (by rw[S];simp;omega) ei);intro v1 N O;have o:Fr [] W2 N:=by
   obtain⟨S1,f1,-,k1⟩:=O.fr;exact f1.mono λq _ hq=>absurd (k1 q hq) nofun
  have U:∀j u,(eJ<|A.bC.drop<|k+1)[j]?=some u->∃s,(if f=k+1 then some ⟨d,0,none⟩else some ⟨d,k+1,none⟩:Option Addr)=some s/\N.cell? (s.add j)=some u:=λj u h=>by
   have hl:j<D-(k+1):=by have:=(zzd.1 h).1;simp[eJ]at this;rw[<-TV];simpa using this
   rw[if_neg bL];refine⟨_,rfl,?_⟩;have:(eJ A.bC)[k+1+j]?=some u:=by
    unfold eJ at h ⊢;rw[zzy]at h ⊢;rw[List.getElem?_drop]at h;exact h
   rw[addr_add];have V:=MH _ _ this;rw[<-zze (o.block d nG bR)]at V;exact V
  obtain⟨a7,ab,a',rfl⟩:=ct O.row;have Y:=(o.block E (zza.1 i.1.law.net).1 bR).trans i.1.law.net;have a6:=ae Y 2;simp at a6;have Q0:=zzk ei o.size;have p:=af<|zzb O<|zzb o U;clear O o Y U
  go_wp2_with (at_builtin;refine jA rfl _ _ rfl B (.slice a7 ab a') (if f=k+1 then some ⟨d,0,none⟩else some ⟨d,k+1,none⟩) (f-(k+1)) (A.bC.take k) (A.bC.drop<|k+1) rfl p.1.row p.1.nil ?_ p.2.2 (by rw[S,TV];omega) Q0 ?_);all_goals
   intro v2 w2 H;obtain⟨a8,al,aa,rfl⟩:=ct H.row;obtain⟨X,Q⟩:=p.1.anew H;obtain⟨Ls,hN⟩:=i.1.oZ;have F:=bJ.C9 (A:=A) (A1:={A with bC:=Di A.bC k}) i.1.law hN X i.1.bC i.1.xA rfl rfl;have Z:=(Q.block E (zza.1 i.1.law.net).1 bR).trans i.1.law.net;have g2:=ae Z 2;have aw:=aj Z 2;simp at g2;have⟨r,m⟩:∃r,r=w2.setCell ⟨E,2,none⟩ (.slice a8 al aa):=⟨_,rfl⟩;have zA:w.heap.size≠E:=λe=>by have P:=i.2;rw[e,i.1.law.net]at P;cases P
   have l:=((show Fr [E] w2 r by rw[m];exact Fr.cD bR _ _).block _ (zzl (zza.1 i.2).1 Q.size)<|by simpa using zA).trans ((Q.block _ (zza.1 i.2).1 bR).trans i.2);rw[<-m]at F;have t:=ae l 0;have v:=ae l 4;have y:=ae l 5;have z:=ae l 6;have C:=ae l 7;simp at t v y z C;rw[m]at t v y z C;have T:=af F;clear H X Q hN F Z l zA;go_wp2_with fail;rw[<-m];rw[<-m]at t v y z C;clear m;go_ret;exact⟨rfl,by unfold uv rJ;rw[if_pos rfl,if_pos<|.inl rfl];exact T.out.up<|zzC K⟩
end
end
end Go.Proofs.YtcalalndmcemiaaGreatDoor
