import Derived.Test.YtdcafjmdfpjcbaaGreatDoorC50
set_option maxHeartbeats 16000000
set_option maxRecDepth 100000
namespace Go.Proofs.YtdcafjmdfpjcbaaGreatDoor
open Go.RowKit Go.Maps Tryz Sc
variable{I J:Bool}{us:List Nat}{cs:List aK}{B M b bN h hp k m0 n p q:Nat}{w:World}{R a:aK}{s:ag}{d:ah}{l:aq}
def Xz(b hp k aM:Nat)(I:Bool)(y:ByteArray)(n c a f:Int):Prop:=k<16384/\3<=b/\b<=hp/\aM<2^64/\y.size<=16384/\(I=false->c<0/\a<0)/\-2^63<=n/\n<=9223372036854775807/\-2^63<=c/\-2^63<=a/\-2^63<=f/\f<=9223372036854775807
theorem ny.next{so:Option (Nat × List Nat)}(a:ny w b hp p h so k cs R us I J M m0)(m:k<16384):ny w b hp p h so (k+1) cs R us I J M m0:=by
 obtain⟨i,j,V,T,H,n,bN,s,l,d,rfl,c,o⟩:=a;have F:=gx k;have g:=o.gd.mono (zzC k) (by omega:20*k<=20*(k+1));exact(o.still g (o.ck.mono (zzC k)) rfl (λc y e f=>(o.wd c).Ik y e f) (λa=>a)).host c (by unfold nK;omega) m
structure V8(R R':aK):Prop where
 rest:R'.rest=R.rest
 table:R'.table=R.table
 nS:R'.nS<=R.nS
 af:∀y∈R'.af,∃z∈R.af,y.id=z.id/\y.st=z.st
theorem V8.refl(R:aK):V8 R R:=⟨rfl,rfl,zzc _,λy h=>⟨y,h,rfl,rfl⟩⟩
theorem V8.tick(h:V8 R a)(r:Rel s a):V8 R a.tick:=by
 refine⟨(Oq r).trans h.rest,h.table,zzk (Tb a) h.nS,λy d=>?_⟩;obtain⟨x,c,e⟩:=List.mem_filterMap.1 d;obtain⟨z,f,g,b⟩:=h.af x c;refine⟨z,f,(oH e).trans g,?_⟩;unfold a_.eF at e;split at e
 .cases e;exact b
 .split at e
  .cases e
  .cases e;exact b
theorem fI.aL{b:ag}(h:fI k s l d cs R us I J M m0)(g:Gd k (20*(k+1)) b a)(o:V8 R a):fI (k+1) b l d cs a us I J M m0:=by
 have P:Vs a:=by have:=h.ck.vs;unfold Vs at this ⊢;rw[o.table];exact this
 refine h.still (g.mono (zzC k) (zzc _)) (g.ck P (by have:=h.ck.nS;have:=o.nS;omega)) o.rest (λi y c m=>?_) (λh=>h);obtain⟨z,f,j,e⟩:=o.af y c;rw[j];exact(h.wd i).Ik z f (by rw[<-e];exact m)
theorem kz.lt{g V T H c m:Nat}(f:kz w B hp p b g V T H c h bN m n s l d)(o:jL hp p (some (c,[b,V,T,H])) w q):q<w.heap.size:=by
 obtain⟨i,a,_⟩:=f;obtain⟨v,k,r,D,N,j⟩:=a.lg;rcases eM.1 o with e|e|e
 .rw[e];exact(zza.1 i).1
 .exact j.ltO e
 .simp at e;rcases e with rfl|rfl|rfl|rfl
  .exact(zza.1 a.sh.blk).1
  .obtain⟨es,c2,e2⟩:=a.sh.aS.isMap;exact(zza.1 e2).1
  .obtain⟨es,c2,e2⟩:=a.sh.af.isMap;exact(zza.1 e2).1
  .obtain⟨es,c2,e2⟩:=a.sh.holds.isMap;exact(zza.1 e2).1
theorem aB.ltX{D N:Nat}{v:Value}(a:aB w B p h bN v d n D N)(b:lq p w k):k<w.heap.size:=by
 have:=(a.eO k).1 b;simp at this;rcases this with e|e|e|e
 .rw[e];exact(zza.1 a.blk).1
 .rw[e];exact a.j8.lt
 .rw[e];exact a.now.lt
 .exact(a.pen.lt k e).2
theorem wH.lt{kd:Int}(a:wH w B kd hp p h bN d n)(o:jL hp p none w q):q<w.heap.size:=by
 obtain⟨b,v,D,N,c⟩:=a;rcases eX.1 o with e|e
 .rw[e];exact(zza.1 b).1
 .exact c.ltX e
section
variable{b hp p h bN n O E:Nat}{C w w' w2:World}{so:Option (Nat × List Nat)}{d:ah}{v f A:Value}{I J:Bool}{m:cM}{U:List cM}{us us':List Nat}{c:cM}{iF:Array Value}
theorem KN.Hr(h:KN b C w hp p O E so v I J f m U us c iF){q:Nat}(e:q∈f.ownBlock.toList):¬jL hp p so w q/\∃a,w.heap[q]?=some (.cells a 34 (0,0)):=by
 have d:f.ownBlock=some q:=by simpa using e
 exact⟨h.ka.free q d,aF h.ka.mem.used d⟩
theorem KN.ZC(i:KN b C w hp p O E so v I J f m U us c iF)(F:nR w b hp p h bN so d n)(z:Fr f.ownBlock.toList w w2)(B:w2.ownsRow b 34 1 A us'.length (dh us'))(G:∀g,A.ownBlock=some g->f.ownBlock=some g\/w.heap.size<=g)(K:3<=b):KN b C (w2.setCell (d8 O 5) A) hp p O E so v I J A m U us' c iF/\oh b f.ownBlock.toList w (w2.setCell (d8 O 5) A):=by
 have x:oh b f.ownBlock.toList w (w2.setCell ⟨O,5,none⟩ A):=by
  refine oh.dJ (T:=O :: f.ownBlock.toList) i.ka.mem.size ((z.mono (by simp +contextual)).trans (Fr.cH (by simp) _ _)) (λk j=>?_);rcases zzj.1 j with rfl|j
  .exact⟨i.ka.mem.low,.inr λo B=>i.ka.mem.ZD B⟩
  .exact⟨(i.ka.mem.used.lt k (by simpa using j)).1,.inl j⟩
 obtain⟨V,N⟩:=F.jA x (λq y=>i.Hr y);have j:KF b w (w2.setCell ⟨O,5,none⟩ A):=KF.KO x (λq y=>(i.Hr y).2);obtain⟨T,Y,S⟩:=x.list;refine⟨⟨⟨i.ka.mem.ZC z B,λg L D=>?_⟩,?_,i.dis,i.kf.trans j,j.gl K i.gl,j.step _ _ i.st⟩,x⟩
 .rcases G g L with e|e
  .exact i.ka.free g e (N g D)
  .have h1:=N g D;rcases F with⟨P,W,bV,Z,R,X,Q,s,l,rfl,H⟩|⟨rfl,M⟩
   .have:=(H.lt h1);omega
   .have:=(M.lt h1);omega
 .have ie:Fr (O :: f.ownBlock.toList) w (w2.setCell ⟨O,5,none⟩ A):=(z.mono (by simp +contextual)).trans (Fr.cH (by simp) _ _);refine i.ref.v_ ie (λk j r=>?_) (λk r a t u e=>?_)
  .obtain⟨_,a,t,u,ht⟩:=i.ref.cells j;rcases zzj.1 r with rfl|r
   .rw[i.ka.mem.kb] at u;cases u;rcases ht with e|e|e<;>exact absurd e (by decide)
   .obtain⟨a2,h2⟩:=(i.Hr r).2;rw[u] at h2;cases h2;rcases ht with e|e|e<;>exact absurd e (by decide)
  .subst e;rcases zzj.1 r with rfl|r
   .have h1:=i.ka.mem.kb;rw[u] at h1;exact absurd h1 (mW (by decide))
   .obtain⟨a2,h2⟩:=(i.Hr r).2;rw[u] at h2;exact absurd h2 (mW (by decide))
end
section
variable(b hp p h O k M m0:Nat)(so:Option (Nat × List Nat))(v f:Value)(I J:Bool)(m:cM)(U:List cM)(us:List Nat)(w:World)
theorem O3(kd:Int)(sq nn G P Q L:Int)(aM x y:Nat)(ad sv:ByteArray)(ao:Option Addr)(ak:KA b w hp p O so v I J f m U us)(V:ny w b hp p h so k (U.map (·.2.1)) m.2.1 us I J M m0)(kB:Gl w)(Cn:Xz b hp k aM I ad nn G P L):
  Calls prog 18 #[rM O,qX kd aM sq nn ad sv ao x y G P Q L] w λe w'=>e=.returned (.bool true)/\TK b w w' hp p h O (k+1):=by
 obtain⟨im,T,fL,ht,hk,wg,Cu,tD,Cz,Mx,Di,Dj⟩:=Cn;obtain⟨iF,nz⟩:∃iF,iF=#[Value.int .i64 kd,.int .u64 (aM:Int),.int .i64 sq,.int .i64 nn,.string ad,.string sv,.slice ao x y,.int .i64 G,.int .i64 P,.int .i64 Q,.int .i64 L]:=⟨_,rfl⟩;obtain⟨al,hW⟩:∃al,al=w.alloc (gI kd aM sq nn ad sv ao x y G P Q L):=⟨_,rfl⟩;have eU:Fr [] w al:=by rw[hW];exact(Fr.refl [] w).alloc _
 have ja:al.heap[w.heap.size]?=some (.cells iF 40 (0,0)):=by rw[hW,nz];exact heap_alloc_new w _
 obtain⟨bY,d0,hE,OZ⟩:=V.km;have A0:=ak.new hE eU;have O0:=(V.new eU).1;have L0:=KF.new ak.mem.size eU;have ju:Ck k m.2.1:=by obtain⟨_,_,_,_,_,_,_,_,_,_,_,_,V⟩:=V;exact V.ck
 have od:jg m.2.1.af:=by obtain⟨_,_,_,_,_,_,_,_,_,_,_,_,V⟩:=V;exact V.gd.rel.jh
 have yQ:U.length<=1048576:=by have:=OZ.Cm;rw[zzn] at this;omega
 have bD:=ju.len;have nJ:=ik (A0.mem.each m (by simp)) (by omega) (λx hx=>by have:=ju.four x hx;omega) (by have:=ju.table;omega);have k1:=aa A0.mem.kb 1;simp at k1;rw[hW] at k1;have iT:=ae (zzb A0 (zzb O0 (zzb L0 (zzb (L0.gl T kB) ja))));have O2:=ae (zzb ju od);have wJ:=ae nz;clear ak V ja A0 O0 L0 eU kB hE OZ ju od nz
 go_enter func18,ntmps18
 go_wp2_with fail;rw[<-hW];obtain⟨E,iA⟩:∃E,E=w.heap.size:=⟨_,rfl⟩;rw[<-iA] at iT ⊢;clear hW iA k1;refine nJ.mono ?_;rintro e W1 ⟨np,S1,rfl,Ky,bF,yS⟩;clear nJ;obtain⟨bP,d1,KQ,_⟩:=iT.2.1.km;have xQ:=KF.new iT.1.mem.size bF;have N1:KN b w W1 hp p O E so v I J f m U us (np,m.2.1,S1) iF:=⟨iT.1.new KQ bF,Ky,λx hx=>(iT.1.mem.each x hx).apart yS,iT.2.2.1.trans xQ,xQ.gl T iT.2.2.2.1,xQ.step _ _ iT.2.2.2.2⟩;have O1:=(iT.2.1.new bF).1;have k1:=aa N1.ka.mem.kb 1;have z1:=aa N1.st 1;rw[wJ.out] at z1;simp at k1 z1;obtain⟨Cj,d2,Bm,_⟩:=O1.km;have cm:=λq=>@RS.state (oP b) _ m.1 aM m.2.1 ((N1.new Bm ((Fr.refl [] W1).aR q) T).ka.mem.each m (by simp)).rs (by omega)
 obtain⟨st,m_⟩:∃st,st=m.2.1.state aM:=⟨_,rfl⟩;rw[<-m_] at cm;have xS:=ae (zzb N1 (zzb O1 m_));clear N1 O1 m_ Ky bF yS KQ xQ iT;go_wp2
 go_quiet (first|(go_at_call 44;refine Calls.quiet_of (cm _)))
 clear cm k1 z1;have c:=ae (zzb (xS.1.new Bm ((Fr.refl [] W1).aR nq) T) (zzb (xS.2.1.new ((Fr.refl [] W1).aR nq)).1 xS.2.2));clear Bm xS;generalize W1.drewN nq=W2 at c ⊢;have k0:=aa c.1.ka.mem.kb 0;have k1:=aa c.1.ka.mem.kb 1;have a':=au c.1.ka.mem.kb 1;have cC:=c.1.st;rw[wJ.out] at cC;have z0:=aa cC 0;have z1:=aa cC 1;have z2:=aa cC 2;have z3:=aa cC 3;have z4:=aa cC 4;have z5:=aa cC 5;have z6:=aa cC 6;have z7:=aa cC 7;have z8:=aa cC 8;have z9:=aa cC 9;have E8:=aa cC 10;simp at k0 k1 z0 z1 z2 z3 z4 z5 z6 z7 z8 z9 E8;clear cC;by_cases q2:kd=2
 .subst q2
  have K:∀w',Fr [] W2 w'->Calls prog 58 #[.pointer (some ⟨hp,0,none⟩),fY G P Q L] w' λe o=>∃x':Nat,e=.returned (.int .i64 (x':Int))/\∃C,KN b w o hp p O E C v I J f m U us (np,m.2.1,S1) iF/\MG o b hp p h so C k (U.map (·.2.1)) ([m.2.1]) m.2.1 (m.2.1) (us) I J m0 x':=λw' F=>by
   obtain⟨Kw,d3,D,_⟩:=c.2.1.km;have N:=c.1.new D F T;have a6:=(c.2.1.new F).1;refine(aec b hp p h k M m0 so (U.map (·.2.1)) m.2.1 us I J G P Q L w' a6 im wg Cz Mx Di Dj (by omega) fL N.gl.1 N.gl.2.1).mono ?_;rintro e o ⟨x',rfl,hW⟩;obtain⟨C,iY,hX⟩:=hW.two;obtain⟨Xk,d4,KP,_⟩:=a6.km;exact⟨x',rfl,C,N.host KP hX T fL,iY⟩
  go_wp2
  go_region_held3 (λw'=>w'.cell? ⟨O,0,none⟩=some (.pointer (some ⟨hp,0,none⟩))/\w'.cell? ⟨E,7,none⟩=some (.int .i64 G)/\w'.cell? ⟨E,8,none⟩=some (.int .i64 P)/\w'.cell? ⟨E,9,none⟩=some (.int .i64 Q)/\w'.cell? ⟨E,10,none⟩=some (.int .i64 L)) (simp[*])
   (first|(go_at_call 58;refine(K _ (by first|exact(Fr.refl [] W2).drew|exact Fr.refl [] W2)).mono ?_;rintro e o ⟨x',rfl,C,qa,jX⟩;have A:=qa.st;rw[wJ.out] at A;have a0:=aa qa.ka.mem.kb 0;have a1:=aa A 1;have X:=aa A 7;have Z:=aa A 8;have a9:=aa A 9;have JK:=aa A 10;simp at a0 a1 X Z a9 JK;have B:=ae (zzb qa jX);clear qa jX A K))
  clear k0 k1 a' z0 z1 z2 z3 z4 z5 z6 z7 z8 z9 E8 X Z a9 JK;have qe:=kwr b hp p h O E k m0 x' w o so C v f I J true m U us (np,m.2.1,S1) iF B.1 B.2 (O2.1.mono (zzC k)) yQ im;clear a0 a1;go_wp2_with fail;refine qe.mono ?_;clear qe;rintro e w5 ⟨rfl,hS⟩;have HS:=ae hS;clear hS;go_wp2;go_ret;exact⟨rfl,HS.out⟩
 by_cases q3:kd=3
 .subst q3;obtain⟨sp,gp,bV,bT,bH,lp,bN,s,l,d,Gh,hH,hO⟩:=c.2.1;subst Gh;have J0:KJ b W2 hp p sp gp bV bT bH lp h bN (mK k) (nK k M m0) s l d O v I J f m U us:=⟨c.1.ka,hH⟩;have HJ:=ae (zzb J0 hO);clear hH hO J0;have WG:=SP nn 20 W2 Cu tD (by decide) (by decide);have wy:=aa5 nn 20 (by decide);obtain⟨z,hz⟩:∃z,z=pk nn 20:=⟨_,rfl⟩;rw[<-hz] at WG wy;clear hz;go_wp2_with fail;refine WG.mono ?_;rintro e o ⟨rfl,rfl⟩;clear WG k0 k1 a' z0 z1 z2 z3 z4 z5 z6 z7 z8 z9 E8;go_wp2
  go_loopw [7] (λi wr=>∃j:Int,-1<=j/\j<=19/\i=.int .i64 j/\Hid (∃s' R',Dx b wr hp p sp gp bV bT bH lp h bN (mK k) (nK k M m0) s' l d O v I J f m.1 R' U us/\Gd k (20*k+(19-j).toNat) s' R'/\V8 m.2.1 R'/\KF b w wr)) (λi _=>(intOf i+1).toNat)
  case atStart=>exact⟨(z:Int),by omega,by omega,rfl,s,m.2.1,HJ.1.tt (R:=m.2.1) (S:=m.2.2),HJ.2.gd.mono (zzc _) (by omega),V8.refl _,c.1.kf⟩
  case round =>
   obtain⟨j,bR,bO,rfl,s',R',ab,hG,hT,hL⟩:=hrel;have b0:=aa ab.kb 0;simp at b0;by_cases bx:0<=j
   .have WV:=VH b hp p sp gp bV bT bH lp h bN (mK k) (nK k M m0) s' l d wr ab.host (by have:=hG.aL;omega);have H:=ae (zzb ab (zzb hG (zzb hT hL)));clear ab hG hT hL;go_wp2_with fail;refine WV.mono ?_;rintro e w4 ⟨rfl,hH4,hS4⟩;obtain⟨S4,J4⟩:=H.1.sfr hH4 hS4;have F4:KF b wr w4:=KF.sL (d:=d) (n:=nK k M m0) (bN:=bN) (.inl ⟨sp,gp,bV,bT,bH,lp,_,s',l,rfl,H.1.host⟩) fL hS4.sL;have b1:=aa J4.kb 1;simp at b1;have EZ:=OJ (J4.ka.mem.each (m.1,R',S4) (by simp)) (by have:=H.2.1.rel.len;show R'.af.length<=_;omega) (λx hx=>by have:=H.2.1.sH x hx;omega);have H4:=ae (zzb J4 F4);clear J4 F4 hH4 hS4 WV b0;go_wp2_with fail;refine EZ.mono ?_;rintro e w5 ⟨rfl,Xf⟩;obtain⟨J5,F5⟩:=Dx.gR H4.1 Xf;have H5:Hid (∃aX ay,Dx b w5 hp p sp gp bV bT bH lp h bN (mK k) (nK k M m0) aX l d O v I J f m.1 ay U us/\Gd k (20*k+(19-(j-1)).toNat) aX ay/\V8 m.2.1 ay/\KF b w w5):=⟨_,_,J5,H.2.1.tick.mono (zzc _) (by omega),H.2.2.1.tick H.2.1.rel,(H.2.2.2.trans H4.2).trans F5⟩;clear Xf EZ b1 J5 F5;go_wp2
    go_roundw
    case rel=>exact⟨j-1,by omega,by omega,by go_num,H5⟩
    case measure=>simp[intOf];omega
   .have H:=ae (zzb ab (zzb hG (zzb hT hL)));clear ab hG hT hL;go_wp2;go_ret;have bF:=gx k;exact⟨rfl,.inl (H.1.iF (R:=m.2.1) (S:=m.2.2) HJ.1.ka.mem.one H.2.2.1.rest (HJ.2.aL (H.2.1.mono (zzc _) (by omega)) H.2.2.1) (by unfold nK;omega) im H.2.2.2)⟩
 by_cases h7:kd=7\/kd=8\/kd=9
 .skip
  obtain⟨sp,gp,bV,bT,bH,lp,bN,s,l,d,Gh,hH,hO⟩:=c.2.1;subst Gh;have J0:KJ b W2 hp p sp gp bV bT bH lp h bN (mK k) (nK k M m0) s l d O v I J f m U us:=⟨c.1.ka,hH⟩;have HJ:=ae (zzb J0 hO);clear hH hO J0;have bu:=OY b hp p sp gp bV bT bH lp h bN (mK k) (nK k M m0) O m.1 k (20*k) s l d v f I J U us m.2.1 m.2.2 W2 kd sq nn G P Q L aM x y ad sv ao HJ.1 HJ.2.gd (by unfold mK;omega) (by omega) (by have:=HJ.2.zt;omega) T fL c.1.gl.1 ht hk
  have JP:∀w',Wkd b W2 w' hp p sp gp bV bT bH lp h bN (mK k) (nK k M m0) O m.1 k (20*k) l d v I J f U us m.2.1 aM->TK b w w' hp p h O (k+1):=λw' hW=>by
   obtain⟨m',s',R',h1,h2,Y,h4,h5⟩:=hW;have bF:=gx k;have hn:nK k M m0<=nK (k+1) M m0:=by unfold nK;omega
   have tR:=HJ.1.ka.mem.one;rcases h5 with rfl|⟨h5,h6⟩
   .have hO':=HJ.2.still (Y.mono (zzc _) (by omega:20*k<=20*(k+1))) (HJ.2.ck.mono (zzC k)) rfl (λhh y hy Y=>(HJ.2.wd hh).Ik y hy Y) (λak=>ak);exact .inl (h2.iF (R:=m.2.1) (S:=m.2.2) tR rfl hO' hn im (c.1.kf.trans h4))
   .exact .inl (h2.iF (R:=m.2.1) (S:=m.2.2) tR h5.rest (HJ.2.oper Y h5 h6) hn im (c.1.kf.trans h4))
  have HF:=ae JP;clear JP;rcases h7 with rfl|rfl|rfl
  all_goals
   go_wp2_with fail;refine bu.mono ?_;rintro e o ⟨rfl,hW⟩;have HR:=ae (HF.out o hW);clear hW;go_wp2;go_ret;exact⟨rfl,HR.out⟩
 by_cases b4:kd=10
 .subst b4;have t:=λw' F=>EM (b:=b) (w:=w') (rp:=np) (R:=m.2.1) (S:=S1) aM F (by omega) O2.2 (λx hx=>by have:=O2.1.four x hx;omega)
  have TD:=ae t;clear t;by_cases Y:m.2.1.state aM=1/\(m.2.1.aO aM).2.1=2
  .have lR:st=1:=by rw[c.2.2];exact Y.1
   obtain⟨x0,qh,oa,h0,bo,an⟩:∃x0,aU m.2.1.af aM=some x0/\x0.st=1/\aM≠0/\x0.ak.any (·.wr)=true/\m.2.1.aO aM=(⟨m.2.1.table,fH m.2.1.af x0.ready⟩,2,0):=by
    obtain⟨_,_,_,_,_,_,_,_,_,_,_,_,V⟩:=c.2.1;exact OV V.gd Y.1 Y.2
   obtain⟨R2,Oc⟩:∃R2:aK,R2=⟨m.2.1.table,fH m.2.1.af x0.ready⟩:=⟨_,rfl⟩
   have LM:Hid (Nx k R2 us (us++[aM])):=by
    obtain⟨_,_,_,_,_,_,_,_,_,_,_,_,V⟩:=c.2.1;rw[Oc];exact(V.Xs qh oa an).1
   have K:∀w',Fr [] W2 w'->Calls prog 51 #[.pointer (some ⟨hp,0,none⟩),.int .u64 (aM:Int),fY G P Q L] w' λe o=>∃x':Nat,e=.returned (.tuple #[.int .i64 ((if x'=0 then 2 else 0:Nat):Int),.int .i64 (x':Int)])/\∃C,KN b w o hp p O E C v I J f m U us (np,m.2.1,S1) iF/\MG o b hp p h so C k (U.map (·.2.1)) ([(⟨m.2.1.table,fH m.2.1.af x0.ready⟩:aK)]) m.2.1 (⟨m.2.1.table,fH m.2.1.af x0.ready⟩) (us++[aM]) I J m0 x':=λw' F=>by
    obtain⟨Kw,d3,D,_⟩:=c.2.1.km;have N:=c.1.new D F T;have a6:=(c.2.1.new F).1;refine(Tg b hp p h k M m0 aM so (U.map (·.2.1)) m.2.1 us I J G P Q L w' a6 im qh oa h0 bo an wg Cz Mx Di Dj (by omega) fL N.gl.1 N.gl.2.1).mono ?_;rintro e o ⟨x',rfl,hW⟩;obtain⟨C,iY,hX⟩:=hW.two;obtain⟨Xk,d4,KP,_⟩:=a6.km;exact⟨x',rfl,C,N.host KP hX T fL,iY⟩
   have t:=TD.out;rw[an,<-Oc] at t;simp only[] at t;rw[<-Oc] at K;have ZQ:=ae t
   have b6:∀w',Fr [] W2 w'->Calls prog 51 #[.pointer (some ⟨hp,0,none⟩),.int .u64 (aM:Int),fY G P Q L] w' λe o=>∃(vv x':Nat),e=.returned (.tuple #[.int .i64 (vv:Int),.int .i64 (x':Int)])/\∃C,KN b w o hp p O E C v I J f m U us (np,m.2.1,S1) iF/\(MG o b hp p h so C k (U.map (·.2.1)) [R2] m.2.1 R2 (us++[aM]) I J m0 x'/\vv=if x'=0 then 2 else 0):=λw' F=>by
    refine(K w' F).mono ?_;rintro e o ⟨x',he,C,h1,h2⟩;exact⟨_,x',he,C,h1,h2,rfl⟩
   clear K;have K:=b6;clear an Y Oc t b6;subst lR;go_wp2
   go_region_held3 (λw'=>w'.cell? ⟨O,0,none⟩=some (.pointer (some ⟨hp,0,none⟩))/\w'.cell? ⟨E,1,none⟩=some (.int .u64 (aM:Int))/\w'.cell? ⟨E,7,none⟩=some (.int .i64 G)/\w'.cell? ⟨E,8,none⟩=some (.int .i64 P)/\w'.cell? ⟨E,9,none⟩=some (.int .i64 Q)/\w'.cell? ⟨E,10,none⟩=some (.int .i64 L)) (simp[*])
    (first|(go_at_call 51;refine(K _ (by first|exact(Fr.refl [] W2).drew|exact Fr.refl [] W2)).mono ?_;rintro e o ⟨vv,x',rfl,C,qa,jX⟩;have A:=qa.st;rw[wJ.out] at A;have a0:=aa qa.ka.mem.kb 0;have a1:=aa A 1;have X:=aa A 7;have Z:=aa A 8;have a9:=aa A 9;have JK:=aa A 10;simp at a0 a1 X Z a9 JK;have B:=ae (zzb qa jX);clear qa jX A K))
   clear k0 k1 a' z0 z1 z2 z3 z4 z5 z6 z7 z8 z9 E8 X Z a9 JK;have t:=ZQ.out o B.1.ref;go_wp2_with fail;refine t.mono ?_;clear t;rintro e w4 ⟨rfl,zE⟩;obtain⟨Kw,d3,n3,D⟩:=B.2.1.km;obtain⟨S4,W,L4⟩:=B.1.gR D zE T;have W4:=B.2.1.jA L4 (λk hk=>by cases hk);have H4:=ae (zzb W W4);have b8:=ae (zzb W4.code B.2.2);clear a0 a1 D L4 zE W W4;obtain⟨i0,jc,bg,bb,bc⟩:=info_parts nB;obtain⟨uo,uc,eu⟩:=bZ H4.1.ka.mem.used;subst eu;have k5:=aa H4.1.ka.mem.kb 5;have wF:=H4.1.st;rw[wJ.out] at wF;have c1:=aa wF 1;have mB:O<w4.heap.size:=(zza.1 H4.1.ka.mem.kb).1;have jW:E<w4.heap.size:=(zza.1 wF).1;simp at k5 c1;clear wF;have aC:=H4.1.ka.mem.used;have L_:=H4.1.ka.mem.size;have bq:us.length<=16384:=by obtain⟨_,_,_,_,_,_,_,_,_,_,_,_,V⟩:=c.2.1;have:=V.zt;omega
   obtain⟨nu,ZP⟩:∃nu,nu=us.length:=⟨_,rfl⟩;have ba:some O≠(Value.slice uo nu uc).ownBlock:=by rw[ZP];exact λe=>bG aC H4.1.ka.mem.kb (by decide) e.symm
   have HX:=ae H4.1;rw[<-ZP] at aC k5 HX bq;have b7:=ae ZP.symm;clear ZP;have bl:∀ob,(w4.alloc ob).cell? ⟨O,5,none⟩=some (.slice uo nu uc):=λob=>(zze (a:=⟨O,5,none⟩) (zzf w4 ob O mB)).trans k5
   have bt:∀ob,(w4.alloc ob).cell? ⟨E,1,none⟩=some (.int .u64 (aM:Int)):=λob=>(zze (a:=⟨E,1,none⟩) (zzf w4 ob E jW)).trans c1
   have HQ:=ae aC;clear aC;go_wp2
   go_region_law (first|(rw[if_pos (by rfl)];refine fT _ _ 49 rfl b 34 i0 _ 1 8 underlying49 jc bg bb bc rfl (by decide) _ nu (dh us) rfl (HQ.out.alloc _) ⟨w4.heap.size,0,none⟩ 1 1 [.int .u64 (aM:Int)] rfl rfl (cD _ #[.int .u64 (aM:Int)] _) (by intro u J;simp at J;subst J;rfl) (by unfold maxLen;omega) (by omega) (zzk L_ (by simp)) ?_;intro v5 w5 qx wz aA;obtain⟨o5,c5,rfl⟩:=bZ qx;have lr:w5.heap[O]?=some (oQ hp m.1 v I J (.slice uo nu uc)):=(wz.block O (by simp;omega) ba).trans ((zzf w4 _ O mB).trans HX.out.ka.mem.kb);have t5:=aa lr 5;have tf:=au lr 5;simp at t5))
   all_goals
    obtain⟨bL,d5,n5,aE⟩:=H4.2.km;obtain⟨N6,L6⟩:=HX.out.ZC (us':=us++[aM]) aE ((((Fr.refl _ w4).alloc _).drew).trans (Fr.dc (r:=(Value.slice uo nu uc).ownBlock) wz)) (by unfold dh;rw[List.map_append,zzi,b7.out];exact qx) (λg hg=>aA.elim (λe=>.inl (e▸hg)) (λe=>.inr (by rw[e] at hg;cases hg;simp))) T;have W6:=H4.2.jA L6 (λq hq=>HX.out.Hr hq);have qe:=kwr b hp p h O E k m0 x' w _ so C v (.slice o5 (nu+1) c5) I J true m U (us++[aM]) (np,R2,S4) iF N6 W6 LM.out.ck yQ im;clear qx wz aA lr bl bt N6 W6 L6 aE;go_wp2_with fail;refine qe.mono ?_;clear qe;rintro e w6 ⟨rfl,hS⟩;have HS:=ae hS;clear hS t5 tf;obtain⟨bp,Zl⟩:=b8.out;rcases bp with⟨MR,_⟩|⟨MR,_⟩
    .rw[if_pos MR] at Zl;subst MR Zl;go_wp2;go_ret;exact⟨rfl,HS.out⟩
    .have aek:¬x'=0:=by omega
     have b':¬((x':Int)=0):=by omega
     rw[if_neg aek] at Zl;subst Zl;rcases MR with b2|b2
     all_goals
      subst b2;clear aek b';go_wp2;go_ret;exact⟨rfl,HS.out⟩
  .obtain⟨pv,hpv⟩:∃pv,pv=(m.2.1.aO aM).2.1:=⟨_,rfl⟩;obtain⟨pe,TF⟩:∃pe,pe=(m.2.1.aO aM).2.2:=⟨_,rfl⟩
   have mQ:¬((pv:Int)=2)\/(((pv:Int)=2)/\¬((st:Int)=1)):=by
    rw[c.2.2,hpv];by_cases e2:(m.2.1.aO aM).2.1=2
    .exact .inr ⟨by omega,λe1=>Y ⟨by omega,e2⟩⟩
    .exact .inl (by omega)
   have K:∀w',Fr [] W2 w'->Calls prog 51 #[.pointer (some ⟨hp,0,none⟩),.int .u64 (aM:Int),fY G P Q L] w' λe o=>e=.returned (.tuple #[.int .i64 ((m.2.1.aO aM).2.1:Int),.int .i64 ((m.2.1.aO aM).2.2:Int)])/\KN b w o hp p O E so v I J f m U us (np,m.2.1,S1) iF/\ny o b hp p h so (k+1) (U.map (·.2.1)) ((m.2.1.aO aM).1) us I J M m0:=λw' F=>by
    obtain⟨Kw,d3,D,_⟩:=c.2.1.km;have N:=c.1.new D F T;have a6:=(c.2.1.new F).1;refine(Th b hp p h k M m0 aM so (U.map (·.2.1)) m.2.1 us I J G P Q L w' a6 im ht Y Di Dj (by omega) fL N.gl.1 N.gl.2.1).mono ?_;rintro e o ⟨rfl,hO,hX⟩;obtain⟨Xk,d4,KP,_⟩:=a6.km;exact⟨rfl,N.host KP hX T fL,hO⟩
   have t:=TD.out;rw[<-hpv,<-TF] at K t;have ZQ:=ae t;clear Y hpv TF t;go_wp2
   go_region_held3 (λw'=>w'.cell? ⟨O,0,none⟩=some (.pointer (some ⟨hp,0,none⟩))/\w'.cell? ⟨E,1,none⟩=some (.int .u64 (aM:Int))/\w'.cell? ⟨E,7,none⟩=some (.int .i64 G)/\w'.cell? ⟨E,8,none⟩=some (.int .i64 P)/\w'.cell? ⟨E,9,none⟩=some (.int .i64 Q)/\w'.cell? ⟨E,10,none⟩=some (.int .i64 L)) (simp[*])
    (first|(go_at_call 51;refine(K _ (by first|exact(Fr.refl [] W2).drew|exact Fr.refl [] W2)).mono ?_;rintro e o ⟨rfl,qa,jX⟩;have A:=qa.st;rw[wJ.out] at A;have a0:=aa qa.ka.mem.kb 0;have a1:=aa A 1;have X:=aa A 7;have Z:=aa A 8;have a9:=aa A 9;have JK:=aa A 10;simp at a0 a1 X Z a9 JK;have B:=ae (zzb qa jX);clear qa jX A K))
   clear k0 k1 a' z0 z1 z2 z3 z4 z5 z6 z7 z8 z9 E8 X Z a9 JK;have t:=ZQ.out o B.1.ref;go_wp2_with fail;refine t.mono ?_;clear t;rintro e w4 ⟨rfl,zE⟩;obtain⟨Kw,d3,D,_⟩:=B.2.km;obtain⟨S4,W,L4⟩:=B.1.gR D zE T;have W4:=B.2.jA L4 (λk hk=>by cases hk);have b1:=aa W.ka.mem.kb 1;have bf:=au W.ka.mem.kb 1;simp at b1;have H4:=ae (W.OM W4);clear a0 a1 D L4 zE W W4;rcases mQ with tD|⟨tD,Cu⟩
   all_goals
    go_wp2;go_ret;exact⟨rfl,.inl H4.out⟩
 by_cases aI:kd=11
 .subst aI;have t:=λw' F=>Hg (b:=b) (w:=w') (rp:=np) (R:=m.2.1) (S:=S1) aM F (by omega) O2.2 (λx hx=>by have:=O2.1.four x hx;omega) (by have:=O2.1.table;omega)
  have TD:=ae t;clear t;by_cases Y:m.2.1.state aM=3
  .have pX:st=3:=by rw[c.2.2];exact Y
   obtain⟨x0,qh,yl⟩:=mZ Y (by omega);have h0:aM≠0:=by obtain⟨_,_,_,_,_,_,_,_,_,_,_,_,V⟩:=c.2.1;rw[<-(aN qh).2];exact(V.gd.rel.ok x0 (aN qh).1).E1
   have lI:(m.2.1.cR aM).2=0:=by rw[wh qh h0 yl]
   have LM:Hid (Nx k (m.2.1.cR aM).1 us us):=by
    obtain⟨_,_,_,_,_,_,_,_,_,_,_,_,V⟩:=c.2.1;have:=(V.Xu qh h0 yl).1;rw[wh qh h0 yl];exact this
   have K:∀w',Fr [] W2 w'->Calls prog 54 #[.pointer (some ⟨hp,0,none⟩),.int .u64 (aM:Int),fY G P Q L] w' λe o=>∃x':Nat,e=.returned (.int .i64 (x':Int))/\∃C,KN b w o hp p O E C v I J f m U us (np,m.2.1,S1) iF/\MG o b hp p h so C k (U.map (·.2.1)) ([(m.2.1.cR aM).1]) m.2.1 ((m.2.1.cR aM).1) (us) I J m0 x':=λw' F=>by
    obtain⟨Kw,d3,D,_⟩:=c.2.1.km;have N:=c.1.new D F T;have a6:=(c.2.1.new F).1;refine(Ti b hp p h k M m0 aM so (U.map (·.2.1)) m.2.1 us I J G P Q L w' a6 im qh h0 yl wg Cz Mx Di Dj (by omega) fL N.gl.1 N.gl.2.1).mono ?_;rintro e o ⟨x',rfl,hW⟩;obtain⟨C,iY,hX⟩:=hW.two;obtain⟨Xk,d4,KP,_⟩:=a6.km;exact⟨x',rfl,C,N.host KP hX T fL,iY⟩
   subst pX;go_wp2
   go_region_held3 (λw'=>w'.cell? ⟨O,0,none⟩=some (.pointer (some ⟨hp,0,none⟩))/\w'.cell? ⟨E,1,none⟩=some (.int .u64 (aM:Int))/\w'.cell? ⟨E,7,none⟩=some (.int .i64 G)/\w'.cell? ⟨E,8,none⟩=some (.int .i64 P)/\w'.cell? ⟨E,9,none⟩=some (.int .i64 Q)/\w'.cell? ⟨E,10,none⟩=some (.int .i64 L)) (simp[*])
    (first|(go_at_call 54;refine(K _ (by first|exact(Fr.refl [] W2).drew|exact Fr.refl [] W2)).mono ?_;rintro e o ⟨x',rfl,C,qa,jX⟩;have A:=qa.st;rw[wJ.out] at A;have a0:=aa qa.ka.mem.kb 0;have a1:=aa A 1;have X:=aa A 7;have Z:=aa A 8;have a9:=aa A 9;have JK:=aa A 10;simp at a0 a1 X Z a9 JK;have B:=ae (zzb qa jX);clear qa jX A K))
   clear k0 k1 a' z0 z1 z2 z3 z4 z5 z6 z7 z8 z9 E8 X Z a9 JK;have t:=TD.out o B.1.ref;rw[lI] at t;go_wp2_with fail;refine t.mono ?_;clear t;rintro e w4 ⟨rfl,zE⟩;obtain⟨Kw,d3,n3,D⟩:=B.2.km;obtain⟨S4,W,L4⟩:=B.1.gR D zE T;have W4:=B.2.jA L4 (λk hk=>by cases hk);have qe:=kwr b hp p h O E k m0 x' w w4 so C v f I J true m U us (np,(m.2.1.cR aM).1,S4) iF W W4 LM.out.ck yQ im;clear a0 a1 D L4 zE W W4;go_wp2_with fail;refine qe.mono ?_;clear qe;rintro e w5 ⟨rfl,hS⟩;have HS:=ae hS;clear hS;go_wp2;go_ret;exact⟨rfl,HS.out⟩
  .have pX:¬((st:Int)=3):=by rw[c.2.2];omega
   obtain⟨pe,TF⟩:∃pe,pe=(m.2.1.cR aM).2:=⟨_,rfl⟩
   have K:∀w',Fr [] W2 w'->Calls prog 54 #[.pointer (some ⟨hp,0,none⟩),.int .u64 (aM:Int),fY G P Q L] w' λe o=>e=.returned (.int .i64 ((m.2.1.cR aM).2:Int))/\KN b w o hp p O E so v I J f m U us (np,m.2.1,S1) iF/\ny o b hp p h so (k+1) (U.map (·.2.1)) (m.2.1) us I J M m0:=λw' F=>by
    obtain⟨Kw,d3,D,_⟩:=c.2.1.km;have N:=c.1.new D F T;have a6:=(c.2.1.new F).1;refine(Tj b hp p h k M m0 aM so (U.map (·.2.1)) m.2.1 us I J G P Q L w' a6 im ht Y Di Dj (by omega) fL N.gl.1).mono ?_;rintro e o ⟨rfl,hO,hX⟩;obtain⟨Xk,d4,KP,_⟩:=a6.km;exact⟨rfl,N.host KP hX T fL,hO⟩
   have t:=TD.out;rw[<-TF] at K t;have ZQ:=ae t;clear TF t;go_wp2
   go_region_held3 (λw'=>w'.cell? ⟨O,0,none⟩=some (.pointer (some ⟨hp,0,none⟩))/\w'.cell? ⟨E,1,none⟩=some (.int .u64 (aM:Int))/\w'.cell? ⟨E,7,none⟩=some (.int .i64 G)/\w'.cell? ⟨E,8,none⟩=some (.int .i64 P)/\w'.cell? ⟨E,9,none⟩=some (.int .i64 Q)/\w'.cell? ⟨E,10,none⟩=some (.int .i64 L)) (simp[*])
    (first|(go_at_call 54;refine(K _ (by first|exact(Fr.refl [] W2).drew|exact Fr.refl [] W2)).mono ?_;rintro e o ⟨rfl,qa,jX⟩;have A:=qa.st;rw[wJ.out] at A;have a0:=aa qa.ka.mem.kb 0;have a1:=aa A 1;have X:=aa A 7;have Z:=aa A 8;have a9:=aa A 9;have JK:=aa A 10;simp at a0 a1 X Z a9 JK;have B:=ae (zzb qa jX);clear qa jX A K))
   clear k0 k1 a' z0 z1 z2 z3 z4 z5 z6 z7 z8 z9 E8 X Z a9 JK;have t:=ZQ.out o B.1.ref;go_wp2_with fail;refine t.mono ?_;clear t;rintro e w4 ⟨rfl,zE⟩;obtain⟨Kw,d3,D,_⟩:=B.2.km;obtain⟨S4,W,L4⟩:=B.1.gR D zE T;have W4:=B.2.jA L4 (λk hk=>by cases hk);have H4:=ae (zzb W W4);clear a0 a1 D L4 zE W W4;go_wp2;go_ret;exact⟨rfl,.inl (H4.1.stands H4.2)⟩
 by_cases b3:kd=12
 .subst b3;have t:=λw' F=>Kz (b:=b) (w:=w') (rp:=np) (R:=m.2.1) (S:=S1) aM F (by omega) O2.2
  have TD:=ae t;clear t;by_cases Y:m.2.1.state aM=3
  .have pX:st=3:=by rw[c.2.2];exact Y
   obtain⟨x0,qh,yl⟩:=mZ Y (by omega);have h0:aM≠0:=by obtain⟨_,_,_,_,_,_,_,_,_,_,_,_,V⟩:=c.2.1;rw[<-(aN qh).2];exact(V.gd.rel.ok x0 (aN qh).1).E1
   have e9:m.2.1.abort aM=((⟨m.2.1.table,del m.2.1.af aM⟩:aK),0):=by unfold aK.abort;rw[if_neg h0]
   have lI:(m.2.1.abort aM).2=0:=by rw[e9]
   have LM:Hid (Nx k (m.2.1.abort aM).1 us us):=by
    obtain⟨_,_,_,_,_,_,_,_,_,_,_,_,V⟩:=c.2.1;have:=(V.Xv qh yl).1;rw[e9];exact this
   have K:∀w',Fr [] W2 w'->Calls prog 56 #[.pointer (some ⟨hp,0,none⟩),.int .u64 (aM:Int),fY G P Q L] w' λe o=>∃x':Nat,e=.returned (.int .i64 (x':Int))/\∃C,KN b w o hp p O E C v I J f m U us (np,m.2.1,S1) iF/\MG o b hp p h so C k (U.map (·.2.1)) (U.map (·.2.1)++[(m.2.1.abort aM).1]) m.2.1 ((m.2.1.abort aM).1) (us) I J m0 x':=λw' F=>by
    obtain⟨Kw,d3,D,_⟩:=c.2.1.km;have N:=c.1.new D F T;have a6:=(c.2.1.new F).1;refine(Tk b hp p h k M m0 aM so (U.map (·.2.1)) m.2.1 us I J G P Q L w' a6 im qh h0 yl wg Cz Mx Di Dj (by omega) fL N.gl.1 N.gl.2.1).mono ?_;rintro e o ⟨x',rfl,hW⟩;obtain⟨C,iY,hX⟩:=hW.two;obtain⟨Xk,d4,KP,_⟩:=a6.km;exact⟨x',rfl,C,N.host KP hX T fL,iY⟩
   subst pX;go_wp2
   go_region_held3 (λw'=>w'.cell? ⟨O,0,none⟩=some (.pointer (some ⟨hp,0,none⟩))/\w'.cell? ⟨E,1,none⟩=some (.int .u64 (aM:Int))/\w'.cell? ⟨E,7,none⟩=some (.int .i64 G)/\w'.cell? ⟨E,8,none⟩=some (.int .i64 P)/\w'.cell? ⟨E,9,none⟩=some (.int .i64 Q)/\w'.cell? ⟨E,10,none⟩=some (.int .i64 L)) (simp[*])
    (first|(go_at_call 56;refine(K _ (by first|exact(Fr.refl [] W2).drew|exact Fr.refl [] W2)).mono ?_;rintro e o ⟨x',rfl,C,qa,jX⟩;have A:=qa.st;rw[wJ.out] at A;have a0:=aa qa.ka.mem.kb 0;have a1:=aa A 1;have X:=aa A 7;have Z:=aa A 8;have a9:=aa A 9;have JK:=aa A 10;simp at a0 a1 X Z a9 JK;have B:=ae (zzb qa jX);clear qa jX A K))
   clear k0 k1 a' z0 z1 z2 z3 z4 z5 z6 z7 z8 z9 E8 X Z a9 JK;have t:=TD.out o B.1.ref;rw[lI] at t;go_wp2_with fail;refine t.mono ?_;clear t;rintro e w4 ⟨rfl,zE⟩;obtain⟨Kw,d3,n3,D⟩:=B.2.km;obtain⟨S4,W,L4⟩:=B.1.gR D zE T;have W4:=B.2.jA L4 (λk hk=>by cases hk);have qe:=kwr b hp p h O E k m0 x' w w4 so C v f I J false m U us (np,(m.2.1.abort aM).1,S4) iF W W4 LM.out.ck yQ im;clear a0 a1 D L4 zE W W4;go_wp2_with fail;refine qe.mono ?_;clear qe;rintro e w5 ⟨rfl,hS⟩;have HS:=ae hS;clear hS;go_wp2;go_ret;exact⟨rfl,HS.out⟩
  .have pX:¬((st:Int)=3):=by rw[c.2.2];omega
   obtain⟨pe,TF⟩:∃pe,pe=(m.2.1.abort aM).2:=⟨_,rfl⟩
   have K:∀w',Fr [] W2 w'->Calls prog 56 #[.pointer (some ⟨hp,0,none⟩),.int .u64 (aM:Int),fY G P Q L] w' λe o=>e=.returned (.int .i64 ((m.2.1.abort aM).2:Int))/\KN b w o hp p O E so v I J f m U us (np,m.2.1,S1) iF/\ny o b hp p h so (k+1) (U.map (·.2.1)) ((m.2.1.abort aM).1) us I J M m0:=λw' F=>by
    obtain⟨Kw,d3,D,_⟩:=c.2.1.km;have N:=c.1.new D F T;have a6:=(c.2.1.new F).1;refine(Tm b hp p h k M m0 aM so (U.map (·.2.1)) m.2.1 us I J G P Q L w' a6 im ht Y Di Dj (by omega) fL N.gl.1).mono ?_;rintro e o ⟨rfl,hO,hX⟩;obtain⟨Xk,d4,KP,_⟩:=a6.km;exact⟨rfl,N.host KP hX T fL,hO⟩
   have t:=TD.out;rw[<-TF] at K t;have ZQ:=ae t;clear TF t;go_wp2
   go_region_held3 (λw'=>w'.cell? ⟨O,0,none⟩=some (.pointer (some ⟨hp,0,none⟩))/\w'.cell? ⟨E,1,none⟩=some (.int .u64 (aM:Int))/\w'.cell? ⟨E,7,none⟩=some (.int .i64 G)/\w'.cell? ⟨E,8,none⟩=some (.int .i64 P)/\w'.cell? ⟨E,9,none⟩=some (.int .i64 Q)/\w'.cell? ⟨E,10,none⟩=some (.int .i64 L)) (simp[*])
    (first|(go_at_call 56;refine(K _ (by first|exact(Fr.refl [] W2).drew|exact Fr.refl [] W2)).mono ?_;rintro e o ⟨rfl,qa,jX⟩;have A:=qa.st;rw[wJ.out] at A;have a0:=aa qa.ka.mem.kb 0;have a1:=aa A 1;have X:=aa A 7;have Z:=aa A 8;have a9:=aa A 9;have JK:=aa A 10;simp at a0 a1 X Z a9 JK;have B:=ae (zzb qa jX);clear qa jX A K))
   clear k0 k1 a' z0 z1 z2 z3 z4 z5 z6 z7 z8 z9 E8 X Z a9 JK;have t:=ZQ.out o B.1.ref;go_wp2_with fail;refine t.mono ?_;clear t;rintro e w4 ⟨rfl,zE⟩;obtain⟨Kw,d3,D,_⟩:=B.2.km;obtain⟨S4,W,L4⟩:=B.1.gR D zE T;have W4:=B.2.jA L4 (λk hk=>by cases hk);have b1:=aa W.ka.mem.kb 1;have bf:=au W.ka.mem.kb 1;simp at b1;have H4:=ae (W.OM W4);clear a0 a1 D L4 zE W W4;go_wp2;go_ret;exact⟨rfl,.inl H4.out⟩
 have y2:(kd==2)=false:=by simpa using q2
 have y3:(kd==3)=false:=by simpa using q3
 have y7:(kd==7)=false:=by simp;exact λe=>h7 (.inl e)
 have y8:(kd==8)=false:=by simp;exact λe=>h7 (.inr (.inl e))
 have y9:(kd==9)=false:=by simp;exact λe=>h7 (.inr (.inr e))
 have bz:(kd==10)=false:=by simpa using b4
 have bX:(kd==11)=false:=by simpa using aI
 have bA:(kd==12)=false:=by simpa using b3
 go_wp2;go_ret;exact⟨rfl,.inl (c.1.stands (c.2.1.next im))⟩
end
end Go.Proofs.YtdcafjmdfpjcbaaGreatDoor
