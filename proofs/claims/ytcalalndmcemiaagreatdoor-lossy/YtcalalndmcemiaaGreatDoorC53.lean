import Derived.Test.YtcalalndmcemiaaGreatDoorC50
import Derived.Test.YtcalalndmcemiaaGreatDoorC48
import Derived.Test.YtcalalndmcemiaaGreatDoorC51
import Derived.Test.YtcalalndmcemiaaGreatDoorC52
import Derived.Test.YtcalalndmcemiaaGreatDoorC27
import Derived.Test.YtcalalndmcemiaaGreatDoorTie
import Derived.Test.YtcalalndmcemiaaGreatDoorCards
set_option maxHeartbeats 8000000
set_option maxRecDepth 100000
namespace Go.Proofs.YtcalalndmcemiaaGreatDoor
open Go.RowKit Go.Maps Go.Proofs.Tryz Sc
section
open Go.Shelf
variable{a b c kd:Int}{i m:Nat}
def wkd(m:Nat):Int:=[1,3,3,1,2,5].getD m 0
def wa(m:Nat):Int:=[0,0,0,0,0,1].getD m 0
def wb(m:Nat):Int:=[0,0,1,0,0,0].getD m 0
def wc(m:Nat):Int:=[0,1,1,0,1,0].getD m 0
def ZJ(m j:Nat):List Value:=[.int .i64 (wkd j),.int .i64 (wa j),.int .i64 (wb j),.int .i64 (wc j)]++(if j<m then [.int .i64 (-1),.int .i64 (-1),.int .i64 0,.int .i64 0] else [.int .i64 0,.int .i64 0,.int .i64 0,.int .i64 0])
def zy(m:Nat):List Value:=ZJ m 0++ZJ m 1++ZJ m 2++ZJ m 3++ZJ m 4++ZJ m 5
abbrev F2(m:Nat):Obj:=.cells (zy m).toArray 42
theorem UC(h:m<6):(zy m).toArray[m*8]?=some (.int .i64<|wkd m)/\(zy m).toArray[m*8+1]?=some (.int .i64<|wa m)/\(zy m).toArray[m*8+2]?=some (.int .i64<|wb m)/\(zy m).toArray[m*8+3]?=some (.int .i64<|wc m) /\
  (zy m).toArray[m*8+4]?=some (.int .i64 0)/\(zy m).toArray[m*8+4+1]?=some (.int .i64 0)/\(zy m).toArray[m*8+4+2]?=some (.int .i64 0)/\(zy m).toArray[m*8+4+3]?=some (.int .i64 0):=by
 rcases (by omega:m=0\/m=1\/m=2\/m=3\/m=4\/m=5)with rfl|rfl|rfl|rfl|rfl|rfl<;>exact⟨rfl,rfl,rfl,rfl,rfl,rfl,rfl,rfl⟩
theorem Rp(h:m<6):((((zy m).toArray.setIfInBounds (m*8+4)<|.int .i64<|-1).setIfInBounds (m*8+4+1)<|.int .i64<|-1).setIfInBounds (m*8+4+2)<|.int .i64 0).setIfInBounds (m*8+4+3) (.int .i64 0)=(zy<|m+1).toArray:=by
 rcases (by omega:m=0\/m=1\/m=2\/m=3\/m=4\/m=5)with rfl|rfl|rfl|rfl|rfl|rfl<;>rfl
def wk:ByteArray:=eV 1
def se:ByteArray:=DJ 1 0
def wZ:ByteArray:=DJ 1 1
theorem Rq:(⟨#[107,49]⟩:ByteArray)=wk:=by
 unfold wk eV;rw[mW bM];rfl
theorem UD:se.size<=32/\wZ.size<=32:=by
 unfold se wZ DJ;rw[mW bM,mW bM];exact⟨bM,bM⟩
def wA:Nat->aB
 |0=>QV 2
 |1=>wN1
 |2=>wN2 wk se
 |3=>wN3 wk se wZ
 |4=>wN4 wk se wZ
 |5=>wN5 wk se wZ
 |_=>VQ wk se wZ
theorem acf(m:Nat):(wA m).ss.length=2:=by
 unfold wA;split<;>rfl
section
variable{J w w':World}{B E n K:Nat}{I:Value}{G:List Nat}{A:aB}
theorem acg{m:Nat}(q:m<6)(h:bJ J w B E 2 (1+m) I G<|wA m)(g:2<=B)(p:Met J)(H:bI J):
  Calls prog 25 #[cQ E,o0 (wkd m) (wa m) (wb m)<|wc m] w λe w'=>e=.returned (.bool true)/\bJ J w' B E 2 (1+m+1) I G (wA<|m+1):=by
 have d:∀z:Int,z=0\/z=1->ly z:=λz t=>by obtain rfl|rfl:=t<;>exact⟨bM,bM⟩
 have M:=ry 1 bM;have X:=UD;have y:∀(kd a b c:Int) (m:Nat) (A1 A:aB),kd<7->ly a->bJ J w B E 2 (1+m) I G (wA m)->1+m<=100->Looks A1 A->2=A1.ss.length->(∀w',bJ J w' B E 2 (1+m) I G (wA m)->Calls prog 56 #[cQ E,o0 kd a b c] w' λe u=>e=.returned (.bool true)/\bJ J u B E 2 (1+m+1) I G A1)->Calls prog 25 #[cQ E,o0 kd a b c] w λe w'=>e=.returned (.bool true)/\bJ J w' B E 2 (1+m+1) I G A:=λkd a b c m A1 A n l h q o hn C=>
  FT kd a b c h (acf m).symm l bM rfl (.inl ⟨.inl n,C⟩) o hn bL bL
 rcases (by omega:m=0\/m=1\/m=2\/m=3\/m=4\/m=5)with rfl|rfl|rfl|rfl|rfl|rfl
 .refine y 1 0 0 0 0 wN1 wN1 bM (d _<|.inl rfl) h bM AD rfl λw' f=>?_;have:=o7 0 0 0 f rfl bM nofun bM bM g p H bM;unfold Ul at this;rw[if_neg bM,show(wA 0).c=c0s 1 1 [] []from rfl,Rn]at this;exact this
 .refine y 3 0 0 1 1 (wN2 wk se) (wN2 wk se) bM (d _<|.inl rfl) h bM (ab5 wk se) rfl λw' f=>?_;exact sX 0 0 1 f rfl bM bM (d _<|.inl rfl) (d _<|.inl rfl) (d _<|.inr rfl) rfl rfl rfl bM bM g p H bM rfl rfl rfl rfl (zi [] 1 wk ⟨1,se⟩ bM M X.1) bM bM
 .refine y 3 0 1 1 2 (wN3 wk se wZ) (wN3 wk se wZ) bM (d _<|.inl rfl) h bM (ab6 wk se wZ) rfl λw' f=>?_;exact sX 0 1 1 f rfl bM bM (d _<|.inl rfl) (d _<|.inr rfl) (d _<|.inr rfl) rfl rfl rfl bM bM g p H bM rfl rfl rfl rfl (zi [] 1 wk ⟨1,wZ⟩ bM M X.2) bM bM
 .refine y 1 0 0 0 3 (wN4 wk se wZ) (wN4 wk se wZ) bM (d _<|.inl rfl) h bM (ab7 wk se wZ) rfl λw' f=>?_;have:=o7 0 0 0 f rfl bM (λx k=>by simp[wA]at k;subst k;decide) bM bM g p H bM;unfold Ul at this;rw[if_neg bM,show(wA 3).c=Yd 1 4 fL 2 17 [] []from rfl,Ro]at this;exact this
 .refine y 2 0 0 1 4 (wN5 wk se wZ) (wN5 wk se wZ) bM (d _<|.inl rfl) h bM (ab8 wk se wZ) rfl λw' f=>?_;exact wu 2 0 0 1 (A':=Nj (wA 4) 1 0 (Y3 false) 0 ⟨[],[(2,⟨2,0,0⟩),(1,⟨1,1,0⟩)],[((1,wk),⟨1,se⟩)],0⟩ [] [] 3) (x:=Y3 false) (j:=1) (i:=0) (sq:=0) f rfl bM bM (d _<|.inl rfl) (d _<|.inl rfl) (d _<|.inr rfl) rfl rfl rfl bM bM g p H bM rfl rfl bM bM<|.get (s:=df [] 1 1 1 1 wk se) (out:=[]) rfl rfl<|ab4 wk se M
 .refine y 5 1 0 0 5 (VQ wk se wZ) (VQ wk se wZ) bM (d _<|.inr rfl) h bM (ab9 wk se wZ) rfl λw' f=>?_;have r:r_ (worked [0,1,1] 2)=[1,2]:=rfl;have:=sa 1 0 0 f rfl bM bM (d _<|.inr rfl) (d _<|.inl rfl) (d _<|.inl rfl) rfl rfl rfl bM bM g p H bM rfl (λ_ _=>⟨rfl,bM⟩);unfold Uc at this;rw[if_neg bM,r,show(wA 5).c=⟨[(2,⟨4,fL,0⟩),(1,⟨4,fL,0⟩)],3,17,0,[],[]⟩from rfl,if_pos VR.1,VR.2]at this;exact this
theorem bJ.UE{q:Nat}{c:Array Value}(h:bJ J w B E n K I G A)(hf:Fr [q] w w')(o:w.heap[q]?=some (.cells c 42 (0,0)))(hb:A.bC=[]):bJ w' w' B E n K I G A:=by
 have⟨u,bv,H,y,ps,s,a,z,L,M⟩:=h;have keep:∀(k:Nat) (c':Array Value) (t:TypeId) (fr:Nat×Nat),w.heap[k]?=some (.cells c' t fr)->t≠42->w'.heap[k]?=some (.cells c' t fr):=λk c' t fr d a=>(hf.block k (zza.1 d).1 (λl=>by
  simp at l;subst l;rw[o]at d;cases d;exact a rfl)).trans d
 have row:∀{b m j:Nat} {e:TypeId} {v:Value} {xs:List Value},w.ownsRow b e j v m xs->e≠42->w'.ownsRow b e j v m xs:=λ{b m j e v xs} r a=>bW r (λg F=>by
  have⟨c,i⟩:=aq r F;exact(keep g c e _ i a).trans i.symm)
 exact⟨u,bv,H,y,ps,s,⟨keep _ _ _ _ a.net bM,⟨a.low.1,zzk a.low.2 hf.size⟩,row a.hs bM,row a.dl bM,row a.bg bM,a.Kf,row a.od bM,a.Qh,a.ap,a.len,λj p x C D=>by
  have f:=a.each j p x C D;exact⟨keep _ _ _ _ f.blk bM,f.low,row f.seq bM,row f.qE bM⟩,a.zK⟩,z.law hf (oV.one o (by simp[bo]) bM),by rw[a.Kf hb];nofun,zzD _ _,λ_ _ _ _ d _ _=>d⟩
theorem bJ.adI(h:bJ J w B E n K I G A):∃o c,w.cell? ⟨E,3,none⟩=some (.slice o A.ord.length c):=by
 have⟨v,bv,i,l,ps,s,a,b,d,g⟩:=h;obtain⟨o,c,e,-⟩:=fP a.od;exact⟨o,c,(ae a.net 3).trans<|by simp[e]⟩
end
theorem Rs(m:Nat):(wA m).bC=[]:=by
 unfold wA;split<;>rfl
theorem MO(w:World)(B:2<=w.heap.size)(p:Met w)(Q:bI w):
  Calls prog 7 #[] w λe w'=>e=.returned (.bool true)/\Below w.heap.size w w':=by
 have U:=BL w 1 B p bM bM;rw[show 1+mq 1 4=2 from rfl]at U;have L:=af U;have K:∀w',Below w.heap.size w w'->Met w'/\bI w':=λw' a1=>⟨p.below a1 bL,Q.cI<|a1.block 1 bL⟩
 have M:=af K;clear U p Q K;go_enter func7,ntmps7;go_wp2_with fail;apply L.out.mono;rintro e a ⟨E,I,G,rfl,gX,cG⟩;have g:=af<|zzb gX cG;clear gX cG L;have⟨W,h⟩:=gb <|a.alloc (F2 0);have q:Fr [] a W:=by rw[h];exact(lT a).alloc _
 have a6:W.heap[a.heap.size]?=some (F2 0):=by rw[h];exact heap_alloc_new a _
 have HW:=af (zzb a6<|zzb ((g.1.new q).QZ rfl)<|g.2.trans<|q.below g.2.size bR);have s:W=a.alloc (.cells #[.int .i64 1,.int .i64 0,.int .i64 0,.int .i64 0,.int .i64 0,.int .i64 0,.int .i64 0,.int .i64 0,.int .i64 3,.int .i64 0,.int .i64 0,.int .i64 1,.int .i64 0,.int .i64 0,.int .i64 0,.int .i64 0,.int .i64 3,.int .i64 0,.int .i64 1,.int .i64 1,.int .i64 0,.int .i64 0,.int .i64 0,.int .i64 0,.int .i64 1,.int .i64 0,.int .i64 0,.int .i64 0,.int .i64 0,.int .i64 0,.int .i64 0,.int .i64 0,.int .i64 2,.int .i64 0,.int .i64 0,.int .i64 1,.int .i64 0,.int .i64 0,.int .i64 0,.int .i64 0,.int .i64 5,.int .i64 1,.int .i64 0,.int .i64 0,.int .i64 0,.int .i64 0,.int .i64 0,.int .i64 0] 42):=h;clear q a6 h;go_wp2_with fail;rw[<-s];clear s;go_loopw [3] (λi wr=>∃m:Nat,m<=6/\i=.int .i64 (m:Int)/\Hid (wr.heap[a.heap.size]?=some (F2 m)/\bJ wr wr w.heap.size E 2 (1+m) I G (wA m)/\Below w.heap.size w wr)) (λi _=>6-(intOf i).toNat);case atStart=>exact⟨0,zzs _,rfl,HW.out⟩
 case round=>
  obtain⟨m,hm,rfl,R⟩:=hrel;by_cases u:m<6
  .have i0:(0:Int)<=m:=bL;have i1:(m:Int)<6:=bL;go_wp2_with fail;apply(qF _).mono;rintro e w3 ⟨rfl,dz⟩;have N:=(dz.block _ (zza.1 R.1).1 bR).trans R.1;have sR:=R.2.1.new dz;have b:=UC u;have c0:=(ae N<|m*8).trans b.1;have c1:=(ae N<|m*8+1).trans b.2.1;have c2:=(ae N<|m*8+2).trans b.2.2.1;have c3:=(ae N<|m*8+3).trans b.2.2.2.1;have c4:=(ae N<|m*8+4).trans b.2.2.2.2.1;have c5:=(ae N<|m*8+4+1).trans b.2.2.2.2.2.1;have c6:=(ae N<|m*8+4+2).trans b.2.2.2.2.2.2.1;have c7:=(ae N<|m*8+4+3).trans b.2.2.2.2.2.2.2;have f4:=aj N<|m*8+4;have f5:=aj N<|m*8+4+1;have f6:=aj N<|m*8+4+2;have f7:=aj N<|m*8+4+3;have⟨f,J⟩:∃f,f=(((w3.setCell ⟨a.heap.size,m*8+4,none⟩<|.int .i64<|-1).setCell ⟨a.heap.size,m*8+4+1,none⟩<|.int .i64<|-1).setCell ⟨a.heap.size,m*8+4+2,none⟩<|.int .i64 0).setCell ⟨a.heap.size,m*8+4+3,none⟩ (.int .i64 0):=⟨_,rfl⟩
   have D:f.heap[a.heap.size]?=some (F2<|m+1):=by
    have:=ar (ar (ar (ar N (m*8+4)<|.int .i64<|-1) (m*8+4+1)<|.int .i64<|-1) (m*8+4+2)<|.int .i64 0) (m*8+4+3)<|.int .i64 0;rw[Rp u]at this;rw[J];exact this
   have o:Fr [a.heap.size] w3 f:=by
    rw[J];exact(((Fr.cD bR _ _).trans<|Fr.cD bR _ _).trans<|Fr.cD bR _ _).trans<|Fr.cD bR _ _
   have v:=sR.UE o N<|Rs m;have vO:=(R.2.2.trans<|dz.below R.2.2.size bR).trans (o.below (zzk R.2.2.size dz.size) λk hk=>by simp at hk;rw[hk];exact g.2.size);have H:=af<|zzb D<|zzb v vO;clear N sR b D o v dz vO;go_wp2_with fail;rw[<-J];clear J c0 c1 c2 c3 c4 c5 c6 c7 f4 f5 f6 f7;apply(acg u H.2.1 B (M.out _ H.2.2).1 (M.out _ H.2.2).2).mono;rintro e w5 ⟨rfl,jG⟩;have rU:=jG.xA.cells _ _ _ _ H.1 (by simp[bo]) (by simp[mr]);have H5:=af<|zzb rU<|zzb (jG.QZ<|Rs<|m+1)<|H.2.2.trans jG.xA.below;clear jG rU;go_wp2_with fail
   go_roundw;case rel=>exact⟨m+1,bL,eR,H5.out⟩
   case measure=>simp[intOf];omega
  .have i1:¬(m:Int)<6:=bL;have em:m=6:=bL;subst em;have⟨S,T⟩:=M.out _ R.2.2;have O:=Mm wr 8 R.2.1 rfl (Y6 wk se wZ) bM bM B S T rfl;have a8:=af O;have Z4:=af R.2.2;clear O S T R;go_wp2_with fail;apply a8.out.mono;rintro e w6 ⟨rfl,qD⟩;obtain⟨gd,dc,pp,V,X,-,e4⟩:=qD.nz (j:=1) (x:=Y3 true) rfl;have⟨oo,oc,Y⟩:=qD.adI;have⟨dv,bv,ov,fl,ps,d⟩:=qD.l;obtain⟨gh,hc,rfl,n⟩:=d.Dh rfl;have hlen:=qD.ln;simp at hlen;have⟨lr,C⟩:∃y,G[1]?=some y:=⟨_,zzg bL⟩;have⟨P,r⟩:∃y,G[2]?=some y:=⟨_,zzg bL⟩;have c1:=n 1 lr C;have⟨Ls,z⟩:=d.oZ;have l:=Qn ⟨#[107,49]⟩ z rfl C bM;rw[show(ak (Ux [(wk,se)]).aM (⟨#[107,49]⟩:ByteArray))=some se by rw[Rq];simp[ak]]at l
   have ot:∀w',Fr [] w6 w'->Calls prog 26 #[.pointer<|some (gz P),.string ⟨#[107,49]⟩] w' λe aa=>e=.returned (.tuple #[.string wZ,.bool true])/\Fr [] w' aa:=λw' hf=>by
    have:=Qn ⟨#[107,49]⟩ (z.new hf) rfl r bM;rw[show(ak (rs [(wk,wZ)]).aM (⟨#[107,49]⟩:ByteArray))=some wZ by rw[Rq];simp[ak]]at this;exact this
   have n0:=ae d.law.net 0;simp at V X Y e4 c1 n0 l;have c:=af<|zzb d<|zzb n<|zzb r<|zzb qD.xA.below ot;have a':=af l;clear qD d n hlen C r z l ot;go_wp2_with fail;apply a'.out.mono;rintro e w7 ⟨rfl,fJ⟩;have Z:=c.1.new fJ;have⟨ab,Dy,eg,qI⟩:=Z.Dh rfl
   cases eg;have c2:=qI 2 P c.2.2.1;have t:=ae Z.law.net 0;simp at c2 t;have F:=af fJ;clear fJ Z qI V X Y e4 c1 n0;go_wp2_with fail;apply(c.2.2.2.2 _ F.out).mono;rintro e w8 ⟨rfl,JY⟩;have a7:=af JY;clear JY c2 t;go_wp2_with fail;go_ret;exact⟨rfl,Z4.out.trans<|c.2.2.2.1.trans<|(F.out.trans a7.out).below (by exact c.1.law.low.2) bR⟩
section
variable{E w:World}{B G n K j:Nat}{I:Value}{O:List Nat}{A A1 J:aB}
theorem Ja(kd a b c:Int)(h:bJ E w B G n K I O A)(k:A.bC=[]):
  Calls prog 55 #[cQ G,o0 kd a b c] w λe w'=>e=.returned (.bool true)/\bJ E w' B G n (K+1) I O A:=by
 have⟨W,f⟩:=gb <|w.alloc (iV kd a b c);have d:Fr [] w W:=by rw[f];exact(lT w).alloc _
 have⟨v,bv,o,m,ps,L⟩:=(h.new d).l;have M:=L.law.bg;rw[k]at M;have⟨i,j,U⟩:∃i j,bv=.slice i 0 j:=by
  rcases M.2 with⟨e,-⟩|⟨g,p,r,e,-⟩
  .exact⟨_,_,e⟩
  .exact⟨_,_,e⟩
 subst U;have l:=ae L.law.net 2;simp at l;have H:=af<|(h.new d).up<|zzC K;rw[f]at l;clear h L d k M
 go_enter func55,ntmps55;go_wp2_with fail;rw[<-f];go_ret;exact⟨rfl,H.out⟩
structure Az(j:Nat)(A:aB):Prop where
 jv:Jv A
 pS:iB j A
 gw:Gw j A
def VP(E:World)(B G n K j:Nat)(I:Value)(O:List Nat)(A:aB)(i:Nat)(kd a b c:Int):Prop :=
 ∃A1 J,VK E B G n K (K+20) I O A A1 i kd a b c/\Looks A1 J/\Jv J/\iB (j+1) J/\Gw (j+1) A1/\n=A1.ss.length
theorem bJ.ab1(h:bJ E w B G n K I O A):cN K A.c/\∀(i:Nat) (s:ag×List bt),A.ss[i]?=some s->cz K s.1:=by
 obtain⟨v,bv,o,l,ps,b,-,a,-⟩:=h;refine⟨a.cg,λi s hs=>?_⟩;obtain⟨p,L,-,-,-,g⟩:=a.sh i s hs;exact g
theorem VP.Nk{i:Nat}{kd a b c:Int}(k:kd<7\/14<kd)(C:∀w',bJ E w' B G n K I O A->Calls prog 56 #[cQ G,o0 kd a b c] w' λe w=>e=.returned (.bool true)/\bJ E w B G n (K+1) I O A1)(l:Looks A1 J)(d:Jv J)(hb:iB (j+1) J)(g:Gw (j+1) A1)(hn:n=A1.ss.length):VP E B G n K j I O A i kd a b c:=
 ⟨A1,J,.inl ⟨k,λw' h=>(C w' h).mono λe w ⟨q,f⟩=>⟨q,f.up bL⟩⟩,l,d,hb,g,hn⟩
theorem VP.car{i:Nat}{kd a b c:Int}(k:kd=8\/kd=9\/kd=14)(C:∀w',bJ E w' B G n K I O A->Calls prog 55 #[cQ G,o0 kd a b c] w' λe w=>e=.returned (.bool true)/\bJ E w B G n (K+1) I O A1)(l:Looks A1 J)(d:Jv J)(hb:iB (j+1) J)(g:Gw (j+1) A1)(hn:n=A1.ss.length):VP E B G n K j I O A i kd a b c:=
 ⟨A1,J,.inr<|.inl ⟨k,λw' h=>(C w' h).mono λe w ⟨q,f⟩=>⟨q,f.up bL⟩⟩,l,d,hb,g,hn⟩
theorem Dq{i k sq er:Nat}{x:aS}{s s':ag}{out:List bt}{f:ByteArray}{g:aK}{ws:List (Nat×ByteArray×ByteArray)}(I:Az j A)(m:j<5000)(h:A.ds[k]?=some x)(hs:A.ss[i]?=some (s,out))(c:x.asked=false)(G:x.seq[i+1]?=some sq)(u:s.aJ x.id (sq:Int) f g=(s',er))(w:g.way=1->(i+1,f,g.val)∈ws)(l:ws.length<=1)(V:∀y∈ws,YU y):
  Looks (Nj A k i x sq s' out ws er) (Nj A k i x sq s' out ws er)/\Jv (Nj A k i x sq s' out ws er)/\iB (j+1) (Nj A k i x sq s' out ws er)/\Gw (j+1) (Nj A k i x sq s' out ws er)/\(Nj A k i x sq s' out ws er).ss.length=A.ss.length:=by
 have X:=I.gw.ds x<|zzh h
 have hlen:∀d:List aS,({A with ss:=A.ss.set i (s',out),ds:=d}:aB).all.length<=A.all.length+200:=λd=>by
  rw[dP,dP];have:=lV (s':=(s',out)) hs;show A.bC.length+A.co.length+A.c.out.length+((A.ss.set i (s',out)).flatMap (·.2)).length<=_;simp only[]at this;omega
 by_cases e:er=0
 .rw[xB e];subst e;have⟨q,a,b⟩:=I.jv.adq I.pS bL h hs c G u w l;exact⟨q,a,b,I.gw.set (X.op (i+1) (X.2 sq<|zzh G) V) rfl<|hlen _,List.length_set⟩
 .rw[Dg e];have⟨q,a,b⟩:=I.jv.adr I.pS bL h hs c u e;exact⟨q,a,b,I.gw.set (k:=k) (x':={x with lost:=true}) X.up rfl<|hlen _,List.length_set⟩
theorem YU.of{i:Nat}(c:Int){v:ByteArray}(I:v.size<=200):∀y∈[(i,eV<|mq c 5,v)],YU y:=λy h=>by
 simp at h;subst h;exact⟨⟨_,gD c 5 bM,rfl⟩,I⟩
theorem Jb{i:Nat}{kd a b c:Int}(h:Az j A)(T:j<5000)(hn:n=A.ss.length)(U:1<=n)(F':n<=8)(R:ly a)(hb:ly b)(S:ly c)(L:2<=B)(z:Met E)(y:bI E)(hK:K<=100000)(l:kd<7\/14<kd):VP E B G n K j I O A i kd a b c:=by
 have hd:=h.pS.ds;have up:∀{A'},iB j A'->iB (j+1) A':=λa7=>a7.mono bL
 have F:=h.jv.jX h.pS bL;have D:=h.gw.same rfl bL;by_cases k1:kd=1
 .subst k1;have C:=λw' (o:bJ E w' B G n K I O A)=>o7 a b c o hn bL (λx d=>by
   have⟨q,M⟩:=zzB.1 d;have:=h.jv.ids q x M;have:=(zzd.1 M).1;have:=h.jv.Nf;omega) (by have:=h.jv.Nf;omega) bL L z y bL
  by_cases P:12<=A.c.ai.length
  .have e:Ul A n=A:=by
    unfold Ul aU.begun;rw[if_pos P,if_pos P]
   rw[e]at C;exact .Nk l C F h.jv (up h.pS) D hn
  .have e:Ul A n={A with c:=A.c.begun.1,ds:=A.ds++[⟨A.ds.length+1,List.replicate (A.ss.length+1) 0,[],false,false,0⟩]}:=by
    unfold Ul;rw[if_neg P,h.jv.Nf,hn]
   rw[e]at C;obtain⟨-,g,f,m⟩:=h.jv.Yt h.pS bL (by unfold aU.begun;rw[if_neg P]);refine .Nk l C g f m (h.gw.add (x':=⟨A.ds.length+1,List.replicate (A.ss.length+1) 0,[],false,false,0⟩) ⟨nofun,λq M=>?_⟩ rfl ?_) hn
   .have:=List.eq_of_mem_replicate M;omega
   .rw[dP,dP];have:A.c.begun.1.out=A.c.out:=by unfold aU.begun;rw[if_neg P]
    show A.bC.length+A.co.length+A.c.begun.1.out.length+(A.ss.flatMap (·.2)).length<=_;rw[this];omega
 .by_cases V:A.ds=[]
  .exact .Nk l (λw' o=>Ay kd a b c k1 o V) F h.jv (up h.pS) D hn
  .have eM:0<A.ds.length:=zzE.2 V;have⟨k,Q⟩:=gb <|A.ds.length-1-mq a A.ds.length;have⟨x,d⟩:∃x,A.ds[k]?=some x:=⟨_,zzg bL⟩;have⟨r,N⟩:=gb <|mq b n;have ab:r<n:=by rw[N];exact gD _ _ bL
   have aa:=h.jv.ids k x d;have bG:=h.jv.st k x d;have xE:=(zzd.1 d).1;have X:=h.gw.ds x<|zzh d;have Bf:=h.pS.wr x<|zzh d;have hlen:x.seq.length=n+1:=by rw[bG.2.2,hn]
   have⟨sq,u⟩:∃q,x.seq[r+1]?=some q:=⟨_,zzg bL⟩;have zU:=X.2 sq<|zzh u;have⟨⟨s,out⟩,hs⟩:∃s,A.ss[r]?=some s:=⟨_,zzg bL⟩;have w:∀{A'},uw A k r x sq (eV<|mq c 5) kd A'->∀w',bJ E w' B G n K I O A->Calls prog 56 #[cQ G,o0 kd a b c] w' λe a8=>e=.returned (.bool true)/\bJ E a8 B G n (K+1) I O A':=λC w' o=>wu kd a b c o hn bL U R hb S Q d N bL bL L z y bL hlen u bL bL C
   have a':Looks {A with c:=A.c.iR x.id} {A with c:=A.c.iR x.id}->True:=λ_=>trivial
   have a6:Gw (j+1) {A with c:=A.c.iR x.id}:=h.gw.same rfl (by
    rw[dP,dP];have:=Rb A.c x.id;show A.bC.length+A.co.length+(A.c.iR x.id).out.length+(A.ss.flatMap (·.2)).length<=_;omega)
   have⟨rC,J,W,Y,a3⟩:=h.jv.abB h.pS bL bL d;by_cases gu:kd=2\/kd=3\/kd=4
   .cases H:x.asked with
    |true=>exact .Nk l (w<|.asked gu H) F h.jv (up h.pS) D hn
    |false=>
     obtain rfl|rfl|rfl:=gu
     .obtain⟨s',val,ok,er,hg⟩:∃s' val ok er,s.get x.id (sq:Int) (eV<|mq c 5)=(s',val,ok,er):=⟨_,_,_,_,rfl⟩;have p:=QI s x.id (sq:Int)<|eV<|mq c 5;rw[hg]at p;have⟨g,f,m,t,v⟩:=Dq (ws:=[]) h T d hs H u p nofun (zzs _) nofun;exact .Nk l (w<|.get H hs hg) g f m t<|by rw[v];exact hn
     .obtain⟨s',er,p⟩:∃s' er,s.aJ x.id (sq:Int) (eV<|mq c 5) ⟨1,DJ x.id x.writes.length⟩=(s',er):=⟨_,_,rfl⟩;obtain⟨g,f,m,t,v⟩:=Dq (ws:=[(r+1,eV<|mq c 5,DJ x.id x.writes.length)]) h T d hs H u p (λ_=>by simp) (zzc _) (YU.of c<|Ra (by omega) (by omega));exact .Nk l (λw' o=>sX a b c o hn bL U R hb S Q d N bL bL L z y bL H hlen hs u p bL bL) g f m t<|by rw[v];exact hn
     .obtain⟨s',er,p⟩:∃s' er,s.aJ x.id (sq:Int) (eV<|mq c 5) ⟨2,ByteArray.empty⟩=(s',er):=⟨_,_,rfl⟩;obtain⟨g,f,m,t,v⟩:=Dq (ws:=[(r+1,eV<|mq c 5,ByteArray.empty)]) h T d hs H u p nofun (zzc _) (YU.of c (by decide));exact .Nk l (w<|.del H hs p) g f m t<|by rw[v];exact hn
   .by_cases k5:kd=5
    .subst k5;have C:=λw' (o:bJ E w' B G n K I O A)=>sa a b c o hn bL U R hb S Q d N bL bL L z y bL hlen (λg f=>by
      rw[hn]at f;have:=h.jv.abA h.pS bL bL d g f;exact⟨this.1,by rw[this.2.1];decide⟩)
     by_cases c1:x.lost=true\/worked x.seq n=[]
     .have e:Uc A k x n={A with c:=A.c.iR x.id}:=if_pos c1;rw[e]at C;exact .Nk l C W Y (up a3) a6 hn
     .have e:Uc A k x n=if A.c.fC x.id (r_<|worked x.seq n)=0 then {A with c:=A.c.dD x.id<|r_<|worked x.seq n,ds:=A.ds.set k {x with asked:=true}}else {A with c:=A.c.dD x.id (r_<|worked x.seq n)}:=if_neg c1
      rw[e]at C;by_cases c2:A.c.fC x.id (r_<|worked x.seq n)=0
      .rw[if_pos c2]at C;have qG:x.lost=false:=by cases hl:x.lost with|true=>exact absurd (.inl hl) c1|false=>rfl
       have Z:=c2;rw[hn]at Z;obtain⟨-,-,g,f,m⟩:=h.jv.abA h.pS bL bL d qG Z;rw[<-hn]at g f m;refine .Nk l C g f m (h.gw.set (k:=k) (x':={x with asked:=true}) X.up rfl ?_) hn;rw[dP,dP];have:=Rc A.c x.id<|r_<|worked x.seq n;show A.bC.length+A.co.length+(A.c.dD x.id<|r_<|worked x.seq n).out.length+(A.ss.flatMap (·.2)).length<=_;omega
      .rw[if_neg c2]at C;have eS:A.c.dD x.id (r_<|worked x.seq n)=A.c:=by
        unfold aU.dD;refine if_neg λq=>c2 ?_
        unfold aU.fC;rw[if_neg bL,if_neg bL,if_pos q.2]
       rw[eS]at C;exact .Nk l C F h.jv (up h.pS) D hn
    .by_cases k6:kd=6
     .subst k6;exact .Nk l (w<|.abort rC) W Y (up a3) a6 hn
     .obtain⟨g,f,m⟩:=h.jv.bump h.pS bL d;exact .Nk l (w<|.none bL) g f m (h.gw.set (X.seq (r+1) zU) rfl<|by show A.all.length<=_;omega) hn
theorem ML{i:Nat}{kd a b c:Int}(d:Az j A)(hj:j<5000)(hn:n=A.ss.length)(pz:1<=n)(F':n<=8)(V:cN K A.c/\∀(i:Nat) (s:ag×List bt),A.ss[i]?=some s->cz K s.1)(M:ly a)(hb:ly b)(P:ly c)(F:2<=B)(u:Met E)(H:bI E)(hK:K<=100000)(o:kd=8\/kd=9\/kd=14):VP E B G n K j I O A i kd a b c:=by
 have up:∀{A'},iB j A'->iB (j+1) A':=λh=>h.mono bL
 have z:=d.jv.jX d.pS bL;have v:=d.gw.same rfl bL;by_cases R:A.bC=[]
 .exact .car o (λw' g=>Ja kd a b c g R) z d.jv (up d.pS) v hn
 .have gT:0<A.bC.length:=zzE.2 R;have S:A.bC.length<=60000000:=by
   have U:=d.gw.ms;rw[dP]at U;omega
  have⟨k,D⟩:=gb <|mq a A.bC.length;have⟨x,r⟩:∃x,A.bC[k]?=some x:=⟨_,zzg<|by rw[D];exact gD _ _ gT⟩;have t:=zzh r;have T:=(d.jv.ms x<|by unfold aB.all;simp[t]).1;by_cases W:kd=14
  .subst W;exact .car o (λw' g=>F1 a b c g M hb P S D r T hn F u H bL) z d.jv (up d.pS) v hn
  .have adG:kd=8\/kd=9:=bL;have w:Gw (j+1) (uv A kd c k x):=d.gw.same (by
    unfold uv rJ;have er:∀A':aB,(A'.recv x).ds=A'.ds:=λA'=>by
     unfold aB.recv;split
     .rfl
     .split<;>rfl
    split
    .split<;>rfl
    .rw[er]
     split<;>rfl) (by have:=Ut A kd c k x;omega)
   have p:∃f,rJ A kd c k={A with bC:=f}/\∀y∈f,y∈A.bC:=by
    unfold rJ;split
    .exact⟨_,rfl,λy l=>Us l⟩
    .exact⟨A.bC,rfl,λy l=>l⟩
   have⟨f,m,p⟩:=p;obtain⟨sY,J,X,Y,Z⟩:=d.jv.come d.pS bL bL (Uv V.2) t p;have C:=λw' (g:bJ E w' B G n K I O A)=>I7 kd a b c adG g M P S D r (λ_=>by rw[m];exact sY) hn F u H bL
   have q:n=(uv A kd c k x).ss.length:=by
    have er:∀A':aB,(A'.recv x).ss.length=A'.ss.length:=λA'=>by
     unfold aB.recv;split
     .rfl
     .split
      .rfl
      .exact List.length_set
    unfold uv;rw[m];split
    .exact hn
    .rw[er];exact hn
   by_cases Q:kd=9
   .have e:uv A kd c k x={A with bC:=f}:=by unfold uv;rw[if_pos Q,m]
    have L:Jv {A with bC:=f}:=d.jv.bC λy l=>by unfold aB.all;simp[p y l]
    have N:iB j {A with bC:=f}:=⟨d.pS.ds,d.pS.wr,d.pS.vl⟩;rw[e]at C w q;exact .car o C (L.jX N bL) L (up N) w q
   .have e:uv A kd c k x=({A with bC:=f}:aB).recv x:=by unfold uv;rw[if_neg Q,m]
    rw[e]at C w q;exact .car o C X Y Z w q
theorem Rk{i:Nat}{kd a b c:Int}(d:Az j A)(hj:j<5000)(hn:n=A.ss.length)(pz:1<=n)(Z:n<=8)(g:cN K A.c/\∀(i:Nat) (s:ag×List bt),A.ss[i]?=some s->cz K s.1)(hi:i=mq a (n+1))(D:2<=B)(U:Met E)(T:bI E)(hK:K<=100000)(W:kd=7\/kd=10\/kd=13):VP E B G n K j I O A i kd a b c:=by
 have up:∀{A'},iB j A'->iB (j+1) A':=λh=>h.mono bL
 have Kd:i<=n:=by have:=gD a (n+1) bL;omega
 obtain rfl|rfl|rfl:=W
 .have hJ:=d.jv.send i;have hl:=Rh A i;have a1:=d.gw.ms;have w:(A.send i).ss.length=A.ss.length/\(A.send i).ds=A.ds/\∀(m:Nat) (s:ag×List bt),(A.send i).ss[m]?=some s->∃s',A.ss[m]?=some s'/\s.1=s'.1:=by
   cases i with
   |zero=>exact⟨rfl,rfl,λm s h=>⟨s,h,rfl⟩⟩
   |succ i=>
    rcases Dp A i with⟨-,e,-⟩|⟨s,hs,e,-⟩
    .rw[e];exact⟨rfl,rfl,λm s h=>⟨s,h,rfl⟩⟩
    .rw[e];refine⟨List.length_set,rfl,λm y X=>?_⟩;have k:=X;by_cases x:i=m
     .subst x;rw[List.getElem?_set_self (zzd.1 hs).1]at k;cases k;exact⟨s,hs,rfl⟩
     .rw[List.getElem?_set_ne x]at k;exact⟨y,k,rfl⟩
  have t:iB j (A.send i):=⟨by rw[w.2.1];exact d.pS.ds,by rw[w.2.1];exact d.pS.wr,λm s h=>by
   have⟨s',l,C⟩:=w.2.2 m s h;rw[C];exact d.pS.vl m s' l⟩
  exact⟨A.send i,A.send i,.inr<|.inr<|.inl ⟨rfl,rfl,Uu d.jv i,bL⟩,hJ.jX t bL,hJ,up t,d.gw.same w.2.1 bL,by rw[w.1];exact hn⟩
 .cases i with
  |zero=>
   have⟨J,q,o,p⟩:=d.jv.tick d.pS bL bL (vq g.1.once) g.1.len;refine⟨{A with c:=A.c.tick},J,.inr<|.inr<|.inr<|.inl ⟨rfl,λw' M u f=>?_⟩,q,o,up p,d.gw.same rfl ?_,hn⟩
   .obtain⟨v,bv,P,z,ps,L⟩:=f.l;have⟨r,N⟩:=L.oZ;apply(YA N u bL).mono;rintro e Q ⟨rfl,hP⟩;exact⟨rfl,(L.node (A':={A with c:=A.c.tick}) hP rfl rfl rfl).b.up bL⟩
   .rw[dP,dP];have:=Rf A.c g.1.len;show A.bC.length+A.co.length+A.c.tick.out.length+(A.ss.flatMap (·.2)).length<=_;omega
  |succ i=>
   have⟨⟨s,out⟩,hs⟩:∃s,A.ss[i]?=some s:=⟨_,zzg bL⟩;have S:=g.2 i _ hs;have⟨q,o,p⟩:=d.jv.abZ d.pS bL hs S bL;refine⟨_,_,.inr<|.inr<|.inr<|.inl ⟨rfl,λw' M u f=>?_⟩,q,o,p,d.gw.same rfl ?_,by show n=(A.ss.set i _).length;rw[List.length_set];exact hn⟩
   .obtain⟨v,bv,P,z,ps,L⟩:=f.l;have⟨r,N⟩:=L.oZ;apply(abE N hs u bL).mono;rintro e Q ⟨rfl,hP⟩;exact⟨rfl,(L.node (A':={A with ss:=A.ss.set i (s.tick,out++ny (i+1) (gY s.tick))}) hP rfl rfl rfl).b.up bL⟩
   .rw[dP,dP];have l:=lV (s':=(s.tick,out++ny (i+1) (gY s.tick))) hs;have C:=og s.tick;have h3:s.tick.ai.length<=12:=S.tick.len;have V:(ny (i+1)<|gY s.tick).length=(gY s.tick).length:=zzn _;have h5:(out++ny (i+1) (gY s.tick)).length=out.length+(gY s.tick).length:=by rw[zzi,V]
    have l:((A.ss.set i (s.tick,out++ny (i+1) (gY s.tick))).flatMap (·.2)).length+out.length=(A.ss.flatMap (·.2)).length+(out++ny (i+1) (gY s.tick)).length:=l;show A.bC.length+A.co.length+A.c.out.length+((A.ss.set i (s.tick,out++ny (i+1) (gY s.tick))).flatMap (·.2)).length<=_;omega
 .refine⟨A,A,.inr<|.inr<|.inr<|.inr ⟨rfl,λw' M u f=>?_⟩,d.jv.jX d.pS bL,d.jv,up d.pS,d.gw.same rfl bL,hn⟩;have⟨v,bv,P,z,ps,L⟩:=f.l;have⟨r,N⟩:=L.oZ;have⟨Y,R⟩:=L.met D U T
  apply(kCk N bL u (λs hs=>by
   have⟨m,H⟩:=zzB.1 hs;exact YV d.jv d.gw H (g.2 m s H)) D Y R bL).mono
  rintro e Q ⟨rfl,hP⟩;have F:=L.call hP rfl rfl rfl;exact⟨rfl,F.net.b,F.own⟩
theorem Jc{kd a b c:Int}(h:bJ E w B G n K I O A)(f:Az j A)(k:j<5000)(hn:n=A.ss.length)(z:1<=n)(F:n<=8)(i:ly a)(hb:ly b)(o:ly c)(v:¬kd=11/\¬kd=12)(d:2<=B)(p:Met E)(H:bI E)(g:K<=100000):
  ∃J,Az (j+1) J/\n=J.ss.length/\Calls prog 25 #[cQ G,o0 kd a b c] w λe w'=>e=.returned (.bool true)/\bJ E w' B G n (K+20) I O J:=by
 have m:=h.ab1;have S:VP E B G n K j I O A (mq a<|n+1) kd a b c:=by
  by_cases s:kd<7\/14<kd
  .exact Jb f k hn z F i hb o d p H g s
  .by_cases t:kd=8\/kd=9\/kd=14
   .exact ML f k hn z F m i hb o d p H g t
   .exact Rk f k hn z F m rfl d p H g bL
 have⟨A1,J,S,l,q,u,r,R⟩:=S;refine⟨J,⟨q,u,r.look l⟩,?_,FT kd a b c h hn i bL rfl S l R bL bL⟩;rw[l.eq];exact R
end
theorem ab2(n:Nat):Az 0 (QV n):=by
 obtain⟨h,a⟩:=Jv.zero (A:=QV n) ⟨rfl,rfl,rfl,rfl⟩ ⟨rfl,rfl,rfl,rfl⟩ (λs hs=>by
  have:=List.eq_of_mem_replicate hs;subst this;exact⟨rfl,rfl,rfl,rfl⟩)
 refine⟨h,a,?_,nofun⟩;rw[dP,zj (λs hs=>by
  have:=List.eq_of_mem_replicate hs;subst this;rfl)]
 exact zzc _
theorem MM(w:World)(ao:Option Addr)(ab:Nat)(L:List BM)(z:Int)(bG:∀i s,L[i]?=some s->(∃b a',ao=some ⟨b,a',none⟩/\b<w.heap.size/\vI w b (a'+i*8) s)/\ly s.a/\ly s.b/\ly s.c)(hl:L.length<=3000)(hz:ly z)(B:2<=w.heap.size)(bp:Met w)(aH:bI w):
  Calls prog 8 #[.slice ao L.length ab,.int .i64 z,.bool false] w λe w'=>(∃p,e=.returned (.tuple #[cQ p,.bool true]))/\Below w.heap.size w w':=by
 have⟨N,hN⟩:=gb L.length;rw[<-hN];have H:=af<|zzb hN<|zzb bG<|zzb hz<|zzb bp<|zzb aH hl;have aE:N<=3000:=bL
 clear hN bG hz bp aH hl;go_enter func8,ntmps8;go_wp2_with fail;apply(BL w z B H.2.2.2.1 H.2.2.1.1<|by have:=H.2.2.1.2;omega).mono;rintro e h ⟨p,y,u,rfl,Y2,cZ⟩;have⟨n,hn⟩:=gb <|1+mq z 4;have aw:1<=n/\n<=4:=by have:=gD z 4 bM;omega
 rw[<-hn]at Y2;have d:=af<|zzb Y2 cZ;clear Y2 cZ hn;go_wp2_with fail
 go_loopw [9] (λi wr=>∃m:Nat,m<=N/\i=.int .i64 (m:Int)/\Hid (∃A K,Az m A/\n=A.ss.length/\K<=1+20*m/\bJ h wr w.heap.size p n K y u A)) (λi _=>N-(intOf i).toNat);case atStart=>exact⟨0,zzs _,rfl,QV n,1,ab2 n,bR,bL,d.1⟩
 case round=>
  obtain⟨m,hm,rfl,R⟩:=hrel;by_cases uj:m<N
  .have i0:(0:Int)<=m:=bL;have i1:(m:Int)<N:=bL;have⟨aa,a1⟩:∃x,L[m]?=some x:=⟨_,zzg<|by rw[<-H.1];exact uj⟩;obtain⟨⟨lb,lo,rfl,pE,MH⟩,a7,uD,a8⟩:=H.2.1 m aa a1;have⟨A,K,I,t,o,C⟩:=R.out;have v:=d.2.trans C.xA.below;have⟨k0,k1,k2,k3,k4,k5,k6,k7⟩:=MH.below v pE;have T:=af<|zzb I<|zzb t<|zzb o<|zzb C<|zzb v<|zzb a7<|zzb uD a8;have⟨kd,a,b,c,f1,f2,f3,f4⟩:=aa;simp only[]at k0 k1 k2 k3 k4 k5 k6 k7;have⟨g,r⟩:=gb wr.heap.size;have⟨W,q⟩:=gb <|wr.alloc (.cells #[.int .i64 kd,.int .i64 a,.int .i64 b,.int .i64 c,.int .i64 f1,.int .i64 f2,.int .i64 f3,.int .i64 f4] 42);have gG:Fr [] wr W:=by rw[q];exact(lT wr).alloc _
   have Rz:W.heap[g]?=some (.cells #[.int .i64 kd,.int .i64 a,.int .i64 b,.int .i64 c,.int .i64 f1,.int .i64 f2,.int .i64 f3,.int .i64 f4] 42):=by rw[q,r];exact heap_alloc_new wr _
   have l:=af<|zzb gG<|zzb Rz r;clear I t o C v a7 uD a8 R MH a1 gG Rz;go_wp2_with fail;rw[<-r,<-q];clear q r k0 k1 k2 k3 k4 k5 k6 k7;apply(qF _).mono;rintro e w3 ⟨rfl,dz⟩;have k:=(dz.block _ (zza.1 l.2.1).1 bR).trans l.2.1;have ad:=aj k 4;have al:=aj k 5;have an:=aj k 6;have av:=aj k 7;have c4:=ae k 4;have c5:=ae k 5;have c6:=ae k 6;have c7:=ae k 7;have⟨f,J⟩:∃f,f=(((w3.setCell ⟨g,4,none⟩<|.int .i64<|-1).setCell ⟨g,5,none⟩<|.int .i64<|-1).setCell ⟨g,6,none⟩<|.int .i64 0).setCell ⟨g,7,none⟩ (.int .i64 0):=⟨_,rfl⟩
   have E:f.heap[g]?=some (iV kd a b c):=by
    have:=ar (ar (ar (ar k 4<|.int .i64<|-1) 5<|.int .i64<|-1) 6<|.int .i64 0) 7<|.int .i64 0;simp at this;rw[J];exact this
   have G:wr.heap.size<=g:=by rw[l.2.2];exact zzc _
   have fo:Fr [] wr f:=by
    rw[J];exact((((l.1.trans dz).setCell (.inr G) _).setCell (.inr G) _).setCell (.inr G) _).setCell (.inr G) _
   have D:=ae E 0;have F:=ae E 1;have M:=ae E 2;have O:=ae E 3;have P:=ae E 4;have Q:=ae E 5;have V:=ae E 6;have X:=ae E 7;simp at D F M O P Q V X c4 c5 c6 c7;have Z:=af<|T.2.2.2.1.new fo;have Sb:=af B;clear k E fo dz G;rw[J]at D F M O P Q V X;by_cases hk:kd=11\/kd=12
   .have next:∃A K,Az (m+1) A/\n=A.ss.length/\K<=1+20*(m+1)/\bJ h f w.heap.size p n K y u A:=⟨A,K,⟨T.1.jv,T.1.pS.mono bL,T.1.gw.same rfl bL⟩,T.2.1,by have:=T.2.2.1;omega,Z.out⟩;have j:=af next;clear next;obtain rfl|rfl:=hk
    .go_wp2_with fail;rw[<-J];go_roundw;case rel=>exact⟨m+1,bL,eR,j.out⟩
     case measure=>simp[intOf];omega
    .go_wp2_with fail;rw[<-J];go_roundw;case rel=>exact⟨m+1,bL,eR,j.out⟩
     case measure=>simp[intOf];omega
   .have YM:¬kd=11:=bL;have Y:¬kd=12:=bL;have U:Met h/\bI h:=⟨H.2.2.2.1.below d.2 bL,H.2.2.2.2.1.cI<|d.2.block 1 bL⟩;have⟨A2,a6,zS,wL⟩:=Jc Z.out T.1 bL T.2.1 aw.1 bL T.2.2.2.2.2.1 T.2.2.2.2.2.2.1 T.2.2.2.2.2.2.2 ⟨YM,Y⟩ B U.1 U.2 (by have:=T.2.2.1;omega);have S:=af<|zzb a6<|zzb zS wL;have aI:(kd==11)=false:=by simp[YM]
    have aQ:(kd==12)=false:=by simp[Y]
    clear a6 zS wL U hk YM Y;go_wp2_with fail;rw[<-J];clear J D F M O P Q V X c4 c5 c6 c7 ad al an av;apply S.2.2.mono;rintro e w5 ⟨rfl,jG⟩;have next:∃A K,Az (m+1) A/\n=A.ss.length/\K<=1+20*(m+1)/\bJ h w5 w.heap.size p n K y u A:=⟨A2,K+20,S.1,S.2.1,by have:=T.2.2.1;omega,jG⟩;have j:=af next;clear next jG;go_wp2_with fail
    go_roundw;case rel=>exact⟨m+1,bL,eR,j.out⟩
    case measure=>simp[intOf];omega
  .have i1:¬(m:Int)<N:=bL;have⟨A,K,I,t,o,C⟩:=R.out;have HB:=af<|d.2.trans C.xA.below;clear I t o C R;go_wp2_with fail;go_ret2;exact⟨⟨p,rfl⟩,HB.out⟩
theorem MN(w:World)(v:Value)(L:List BM)(z:Int)(r:QY w v L)(h:ly z)(B:2<=w.heap.size)(f:Met w)(d:bI w)
  (l:Calls prog 7 #[] w λe w'=>e=.returned (.bool true)/\Below w.heap.size w w') :
  Calls prog 4 #[v,.int .i64 z] w λe w'=>e=.returned (.bool true)/\Below w.heap.size w w':=by
 obtain⟨o,k,rfl,G⟩:=r;obtain⟨N,hN⟩:∃N,N=L.length:=⟨_,rfl⟩;have a:=af (zzb hN (zzb G (zzb h (zzb f d))));rw[<-hN];clear hN G h f d
 go_enter func4,ntmps4
 go_wp2_with fail;refine l.mono ?_;clear l;rintro e c ⟨rfl,cG⟩;have U:Met c/\bI c:=⟨a.2.2.2.1.below cG (by omega),a.2.2.2.2.cI (cG.block 1 (by omega))⟩;have H:=af (zzb cG U);clear cG U;by_cases u:(N:Int)<=3000
 .have adH:¬3000<(N:Int):=by omega
  have p:=MM c o k L z (λi s hs=>by
   obtain⟨⟨b,t,m,g,n⟩,q⟩:=a.2.1 i s hs
   exact⟨⟨b,t,m,zzl g H.1.size,n.below H.1 g⟩,q⟩) (by have:=a.1;omega) a.2.2.1 (by have:=H.1.size;omega) H.2.1 H.2.2
  rw[<-a.1] at p;have P:=af p;clear p;go_wp2_with fail;refine P.out.mono ?_;rintro e x ⟨⟨np,rfl⟩,cZ⟩;have j:=af (H.1.trans (cZ.mono H.1.size));clear cZ;go_wp2_with fail;go_ret;exact⟨rfl,j.out⟩
 .have adH:3000<(N:Int):=by omega
  go_wp2_with fail;go_ret;exact⟨rfl,H.1⟩
end
end Go.Proofs.YtcalalndmcemiaaGreatDoor
set_option maxRecDepth 100000
namespace Go.Proofs.YtcalalndmcemiaaGreatDoor
open Go.ChangeShapes Go.WideShapes Go.RowKit Go.Joins Go.Proofs.Tryz
open Sc
theorem KA:Tryz.prog.cellsOf 42=8:=dJ
theorem UF:Tryz.prog.cellsOf 40=4:=dJ
theorem mX:Tryz.prog.cellsOf 3=1:=dJ
theorem F3{s:List Value}(h:s.length=8):∃a b c d e f g i,s=[a,b,c,d,e,f,g,i]:=by
 match s,h with
 |[a,b,c,d,e,f,g,i],_=>exact⟨a,b,c,d,e,f,g,i,rfl⟩
section
variable{H:Type}{enc:TypeId × Value->H}{P:Program}{w:World}{base:Nat}{G:Nat->Bool}{E:Bool}
theorem Du{t:TypeId}{f a b c d:Field}{fuel:Nat}{s:List Value}{x:DataW H×List MemPlace}(k:P.underlying t=some (.struct #[f,a,b,c,d]))(h:DataW.trod enc P w base G E fuel t s=some x):
  ∃y e g i j n,DataW.trod enc P w base G E n f.type ((s.drop f.offset).take<|P.cellsOf f.type)=some y /\
   DataW.trod enc P w base G E n a.type ((s.drop a.offset).take<|P.cellsOf a.type)=some e/\DataW.trod enc P w base G E n b.type ((s.drop b.offset).take<|P.cellsOf b.type)=some g /\
   DataW.trod enc P w base G E n c.type ((s.drop c.offset).take<|P.cellsOf c.type)=some i/\DataW.trod enc P w base G E n d.type ((s.drop d.offset).take<|P.cellsOf d.type)=some j:=by
 obtain⟨xs,n,_,rfl,l,hlen,hf⟩:=DataW.trod_struct k h;match xs,hlen with
 |[y,e,g,i,j],_=>exact⟨y,e,g,i,j,n,by simpa using hf 0 f rfl,by simpa using hf 1 a rfl,by simpa using hf 2 b rfl,by simpa using hf 3 c rfl,by simpa using hf 4 d rfl⟩
theorem Dv{t:TypeId}{f a b c:Field}{fuel:Nat}{s:List Value}{x:DataW H×List MemPlace}(i:P.underlying t=some (.struct #[f,a,b,c]))(h:DataW.trod enc P w base G E fuel t s=some x):
  ∃y d e g n,DataW.trod enc P w base G E n f.type ((s.drop f.offset).take<|P.cellsOf f.type)=some y /\
   DataW.trod enc P w base G E n a.type ((s.drop a.offset).take<|P.cellsOf a.type)=some d/\DataW.trod enc P w base G E n b.type ((s.drop b.offset).take<|P.cellsOf b.type)=some e /\
   DataW.trod enc P w base G E n c.type ((s.drop c.offset).take<|P.cellsOf c.type)=some g:=by
 obtain⟨xs,n,_,rfl,l,hlen,hf⟩:=DataW.trod_struct i h;match xs,hlen with
 |[y,d,e,g],_=>exact⟨y,d,e,g,n,by simpa using hf 0 f rfl,by simpa using hf 1 a rfl,by simpa using hf 2 b rfl,by simpa using hf 3 c rfl⟩
end
theorem MP{H:Type}{enc:TypeId×Value->H}{W:World}{v:Value}{d:DataW H}{p:List MemPlace}(hv:∃a len P,v=.slice a len P)(h:DataW.Trod enc prog W 0 (λ_=>true) true 25 v d p):∃L,QY W v L:=by
 obtain⟨a0,Q,Y,rfl⟩:=hv;have⟨fuel,hf⟩:=h;rcases Deep.open_slice underlying25 hf with⟨e,_⟩|⟨t,aw,fR,m,n,av,Pl,e,_,hl,_,hm,hd,C⟩
 .simp[Value.cells]at e;obtain⟨rfl,rfl,rfl⟩:=e;exact⟨[],none,0,rfl,bR⟩
 .simp[Value.cells]at e;obtain⟨rfl,rfl,rfl⟩:=e;simp only[if_true]at hm;have a7:∀i,∃s:BM,i<Q->(∃b o,(some t:Option Addr)=some (hO b o)/\b<W.heap.size/\vI W b (o+i*8) s)/\ly s.a/\ly s.b/\ly s.c:=λi=>by
   by_cases q:i<Q
   .obtain⟨cs',h1,h2⟩:=C i bL;rw[KA]at h1;have⟨_,R,l⟩:=World.cells?_some h1;have⟨y0,y1,y2,y3,y4,n',U,X,g2,g3,g4⟩:=Du underlying42 h2;obtain⟨v0,v1,v2,v3,D,E,F,G,rfl⟩:=F3 R;have V:DataW.trod enc prog W 0 (λ_=>true) true n' 3 [v0]=some y0:=by simpa [mX]using U
    have Z:DataW.trod enc prog W 0 (λ_=>true) true n' 3 [v1]=some y1:=by simpa [mX]using X
    have S:DataW.trod enc prog W 0 (λ_=>true) true n' 3 [v2]=some y2:=by simpa [mX]using g2
    have a1:DataW.trod enc prog W 0 (λ_=>true) true n' 3 [v3]=some y3:=by simpa [mX]using g3
    have a6:DataW.trod enc prog W 0 (λ_=>true) true n' 40 [D,E,F,G]=some y4:=by simpa [UF]using g4
    have⟨q0,q1,q2,q3,r,r0,r1,r2,r3⟩:=Dv underlying40 a6;have a8:DataW.trod enc prog W 0 (λ_=>true) true r 3 [D]=some q0:=by simpa [mX]using r0
    have aa:DataW.trod enc prog W 0 (λ_=>true) true r 3 [E]=some q1:=by simpa [mX]using r1
    have ab:DataW.trod enc prog W 0 (λ_=>true) true r 3 [F]=some q2:=by simpa [mX]using r2
    have ad:DataW.trod enc prog W 0 (λ_=>true) true r 3 [G]=some q3:=by simpa [mX]using r3
    have⟨x0,u,_,_⟩:=DataW.trod_int underlying3 V;have⟨I,w,_,al⟩:=DataW.trod_int underlying3 Z;have⟨J,x,_,an⟩:=DataW.trod_int underlying3 S;have⟨K,y,_,ao⟩:=DataW.trod_int underlying3 a1;have⟨x4,z,_,_⟩:=DataW.trod_int underlying3 a8;have⟨x5,e5,_,_⟩:=DataW.trod_int underlying3 aa;have⟨x6,A,_,_⟩:=DataW.trod_int underlying3 ab;have⟨x7,B,_,_⟩:=DataW.trod_int underlying3 ad;simp at u w x y z e5 A B;subst u w x y z e5 A B;have⟨b,o,spot⟩:=t;have c:=l 0 bL;have c1:=l 1 bL;have c2:=l 2 bL;have c3:=l 3 bL;have c4:=l 4 bL;have c5:=l 5 bL;have g:=l 6 bL;have k:=l 7 bL;rw[Deep.add_add]at c c1 c2 c3 c4 c5 g k;have O:spot=none:=by
     have⟨az,N,_⟩:=C 0 bL;rw[KA]at N;have⟨_,zl,zc⟩:=World.cells?_some N;obtain⟨u0,u1,u2,u3,u4,u5,u6,u7,rfl⟩:=F3 zl;have M:=zc 0 bL;rw[Deep.add_add]at M;simpa [Addr.add]using World.cell?_spot M
    subst O;have T:∀j,(((hO b o):Addr).add j)=(hO b (o+j)):=λj=>by
     unfold Addr.add;split
     .rename_i h0;subst h0;rfl
     .rfl
    rw[T]at c c1 c2 c3 c4 c5 g k;simp only[Nat.add_zero]at c;simp only[<-Nat.add_assoc]at c1 c2 c3 c4 c5 g k;have b1:=bounds_i64 al;have b2:=bounds_i64 an;have b3:=bounds_i64 ao;exact⟨⟨x0,I,J,K,x4,x5,x6,x7⟩,λ_=>⟨⟨b,o,rfl,zzF W _ c,c,c1,c2,c3,c4,c5,g,k⟩,by show ly I;unfold ly;omega,by show ly J;unfold ly;omega,by show ly K;unfold ly;omega⟩⟩
   .exact⟨⟨0,0,0,0,0,0,0,0⟩,λh=>absurd h q⟩
  have⟨f,pF⟩:=Classical.skolem.1 a7;refine⟨(List.range Q).map f,some t,Y,bR,λi s hs=>?_⟩;rw[zzy]at hs
  have q:i<Q:=by
   have:=(Option.map_eq_some_iff.1 hs);have⟨j,hj,_⟩:=this;have:=(zzd.1 hj).1;simpa using this
  rw[List.getElem?_range q]at hs;simp at hs;subst hs;exact pF i q
theorem Dw(os:Os)(started:os.Started)(H:Type)(enc:TypeId×Value->H):
  ReturnsInHanded {} checked os 4 .any (λw args=>(Rows.lossySpec.pre enc prog f4 [] false w args/\laidMetH prog yL w)/\sizedMet enc prog f4 (OpenSpec.ofChange Rows.lossySpec) false w args)
   (Rows.lossySpec.post enc prog f4 false true false false):=by
 refine returnsInHanded_of_change_and (λ_ _ _ P h=>h.of_heap P) cd started (by as_aux_lemma=>kernel_rfl) func4
  (ChangeSpec.witness_at (enc:=enc) (C:=checked) (os:=os) (X:=λw _=>laidMetH prog yL w) false (Bj os) #[.slice none 0 0,.int .i64 0] 8 rfl (by as_aux_lemma=>kernel_rfl) (by as_aux_lemma=>kernel_rfl) (by as_aux_lemma=>kernel_rfl) (by as_aux_lemma=>kernel_rfl) (by as_aux_lemma=>kernel_rfl) (Am os _)) ?_
 intro W base args ds s before F y _ _ u _;have l:=F;have c:=y;obtain⟨p,q,M,N,rfl,a7,fG⟩:=y;have A:=M;have V:=N;rw[params4]at A l;obtain⟨f,a8,m,a1,d,q0,G,rfl,rfl,n,S⟩:=trodAll_cons A;obtain⟨D,a',d1,a6,p1,q1,rfl,rfl,rfl,o,U⟩:=trodAll_cons S;obtain⟨rfl,rfl,rfl⟩:=trodAll_nil U;obtain rfl:args=#[f,D]:=by apply Array.ext';simpa using G
 obtain⟨rfl,rfl⟩:s=[]/\q=[]:=by
  cases s with
  |nil=>exact⟨rfl,V⟩
  |cons g r=>exact absurd V<|by intro h;cases h
 have I:=n;have K:=o;have⟨E,Q,Y,R⟩:=okWide_slice underlying25<|l 0 25 f rfl rfl;have⟨L,T⟩:=MP ⟨E,Q,Y,R⟩ n;obtain⟨i,rfl,rfl,rfl,Z⟩:=open_int underlying3 (l 1 3 D rfl rfl) o;simp only[List.append_nil]at c;have J:∀x∈d,x.block<W.heap.size:=λx b=>c.lt x b
 have z:=E' u;have⟨k,B⟩:=CO u;have b1:=bounds_i64 Z;have a:Rows.lossySpec.fn H ([m,.lit<|.int .i64 i]++[])={results:=[.lit<|.bool true],args:=[m,.lit<|.int .i64 i]}:=by simp[Rows.lossySpec]
 refine(MN W f L i T (by unfold ly;omega) B z k<|MO W B z k).mono λe W' ⟨O,hb⟩=>?_
 subst O;refine⟨_,rfl,_,_,_,[],d,[],(by simpa using c),?_,?_,?_,hb.frame _,λh=>by cases h⟩
 .rw[a];exact trodAll_mk1<|shut_bool underlying4 true
 .rw[a];exact⟨d,_,Below.trod laidOut (by as_aux_lemma=>kernel_rfl) (of_decide_eq_true<|by as_aux_lemma=>kernel_rfl) I hb J,⟨[],[],Below.trod laidOut (by as_aux_lemma=>kernel_rfl) (of_decide_eq_true<|by as_aux_lemma=>kernel_rfl) K hb<|by intro x b;simp at b,trodAll_mk0,rfl⟩,bR⟩
 .rw[a];rfl
end Go.Proofs.YtcalalndmcemiaaGreatDoor
set_option maxRecDepth 100000
namespace Go.Proofs.YtcalalndmcemiaaGreatDoor
open Go.ChangeShapes Go.WideShapes Go.RowKit Go.Joins Go.Proofs.Tryz
open Sc
theorem Dx:joinedFacts prog 4 f4 Rows.lossySpec Rows.lossyRow=true:=by
 unfold joinedFacts;exact fF (fF (fF (fF (fF (fF (fF (fF (fF (fF (fF (fF (fF (fF (fF (fF (fF (fF (fF (fF (fF (fF (fF (fF (fF (fF (fF (fF (fF (fF (fF adK adL) adM) adN) adO) adP) adQ) adR) adS) lf10) lf11) lf12) lf13) lf14) lf15) lf16) lf17) lf18) lf19) lf20) lf21) lf22) lf23) lf24) lf25) lf26) lf27) lf28) lf29) lf30) lf31) lf32
theorem F4:Tryz.pinned.checked.prog.funcNamed Rows.lossyRow.func=some 4:=by kernel_rfl
theorem Je:Tryz.f4.isInstance Tryz.pinned.checked.prog Rows.lossyRow.origin Rows.lossyRow.targs:=of_decide_eq_true (by kernel_rfl)
theorem Jf:Tryz.f4.isWrapper Tryz.pinned.checked.prog Rows.lossyRow.wrapper Rows.lossyRow.mainSum:=by
 unfold Func.isWrapper;rw[if_neg (of_decide_eq_false (by kernel_rfl))];exact⟨rfl,rfl⟩
theorem F5:Rows.LossySaid :=
 OpenClaim.holds_of_wide 4 f4 rfl rfl rfl rfl rfl rfl rfl ⟨rfl,rfl,rfl,rfl,rfl⟩ rfl rfl rfl rfl rfl F4 func4 Dx Je Jf
  (λos started H enc _=>Dw os started H enc)
end Go.Proofs.YtcalalndmcemiaaGreatDoor
namespace Go.Proofs.YtcalalndmcemiaaGreatDoor
open Go Go.Proofs.Tryz
set_option maxRecDepth 100000
theorem lc1:Rows.lossyRow.wfByText (OpenSpec.ofChange Rows.lossySpec)=true:=by kernel_rfl
theorem lc2:Tryz.pinned.checked.prog.mainIs=some (true, "10e9fa5a88baf02d0e0e54d6964b9f795c2415ebd95be496be09a29fe4af7e36".toList):=by kernel_rfl
theorem lc3:Tryz.prog.funcNamed "shardcommit/shardcommitkeep.Lossy"=some 4:=by kernel_rfl
theorem lc4:true=Tryz.pinned.checked.prog.looks []:=by kernel_rfl
theorem lc5:Tryz.prog.wantsStandIn 3=false:=by kernel_rfl
theorem lc7:Tryz.prog.wantsStandIn 25=false:=by kernel_rfl
theorem lc6:false=Rows.lossyRow.goesBy Tryz.pinned.checked.prog:=by kernel_rfl
theorem lc8(f:FuncId)(n:Func)(hf:Tryz.pinned.checked.prog.funcNamed Rows.lossyRow.func=some f)(x:Tryz.pinned.checked.prog.funcs[f]?=some n):true=Tryz.pinned.checked.prog.looks []/\∀(j:Nat) t,n.params[j]?=some t->Tryz.pinned.checked.prog.wantsStandIn t=false:=by
 obtain rfl:f=4:=Option.some.inj (lc3.symm.trans hf) |>.symm;obtain rfl:n=f4:=(Option.some.inj (Tryz.func4.symm.trans x)).symm;refine⟨lc4,λj t h=>?_⟩;rw[params4] at h;rcases j with _|(_|j)
 .obtain rfl:t=25:=by simpa using h.symm
  exact lc7
 .obtain rfl:t=3:=by simpa using h.symm
  exact lc5
 .simp at h
theorem lossy_card_holds:Rows.LossyCardSaid :=
 ⟨Claim7.tied_new_at .later [.data,.data,.data,.handle,.sentinel,.sentinel] true (Claim7.new_of_sixth F5 (true, "10e9fa5a88baf02d0e0e54d6964b9f795c2415ebd95be496be09a29fe4af7e36") true rfl ⟨rfl,rfl⟩ lc2 (by simp[Claim7.isSixth]) lc8) lc1,(λ_ h=>by cases h),lossy_row_tie,(λh=>by cases h),lc6⟩
#print axioms lossy_card_holds
end Go.Proofs.YtcalalndmcemiaaGreatDoor
