import Derived.Test.YtlgeloebpdmnnaaGreatDoorC07
import Derived.Test.YtlgeloebpdmnnaaGreatDoorC08
set_option maxHeartbeats 4000000
set_option maxRecDepth 100000
namespace Go.Proofs.YtlgeloebpdmnnaaGreatDoor
open Go.RowKit Go.Maps Tryz Sc
variable{X l l' segs:List Nat}{B D N b f g h i j k low n n' p s:Nat}{V pv v:Value}{d d':aj}{a w w' wr:nL}
structure Xs(X:List Nat)(p:Nat)(w w':nL):Prop where
 os:w'.os=w.os
 tape:w'.tape=w.tape
 output:w'.output=w.output
 size:w.heap.size<=w'.heap.size
 block:∀k,k<w.heap.size->¬nj p w k->k∉X->w'.heap[k]?=w.heap[k]?
 stay:∀k,k<w.heap.size->nj p w' k->nj p w k
theorem qQ.x(h:qQ p w w'):Xs X p w w':=⟨h.os,h.tape,h.output,h.size,λk a hn _=>h.block k a hn,h.stay⟩
theorem Xs.trans{b c:nL}(h:Xs X p a b)(k:Xs X p b c):Xs X p a c:=
 ⟨k.os.trans h.os,k.tape.trans h.tape,k.output.trans h.output,zzk h.size k.size,
  λi d hn hx=>(k.block i (zzl d h.size) (λo=>hn<|h.stay i d o) hx).trans<|h.block i d hn hx,
  λi d o=>h.stay i d (k.stay i (zzl d h.size) o)⟩
theorem aC.dfx{l:Nat}(a:aC w B p h N pv d n D i)(c:aC w' B p h N V d' n' j l)(hf:Fr (g::dS p h N pv) w w')(f:bU w.heap.size pv V):Xs [g] p w w':=by
 refine⟨hf.os,hf.tape,hf.output,hf.size,λk b hn hx=>hf.block k b λm=>?_,λk b o=>?_⟩
 .rcases zzj.1 m with e|m
  .grind
  .exact hn<|(a.fI k).2 m
 rw[a.fI];have:=(c.fI k).1 o;obtain e|this:=zzj.1 this
 .simp[e]
 obtain e|this:=zzj.1 this
 .simp[e]
 obtain e|this:=zzj.1 this
 .simp[e]
 .simp at this;obtain e|e:=f k this
  .simp[e]
  .omega
theorem Xs.Xr(h:Xs X p w w')(hx:∀k∈X,w.heap.size<=k):qQ p w w':=
 ⟨h.os,h.tape,h.output,h.size,λk a hn=>h.block k a hn λm=>by have:=hx k m;omega,h.stay⟩
theorem aC.ae7(a:aC w B p h N pv d n D b)(hf:Fr [] w w'):qQ p w w':=
 a.Xr (a.new hf) hf dv (bU.refl _ _)
def cD:nS:=⟨#[109,97,114,107,46,110,101,119]⟩
def eA:nS:=⟨#[109,97,114,107]⟩
theorem Al:(cD.toList==eA.toList)=false/\cD≠eA:=by
 refine⟨by rw[ByteArray.toList_eq,ByteArray.toList_eq];decide,λe=>?_⟩;have:=congrArg (λx:nS=>x.data.size) e;exact absurd this du
def Hs(B p D N n:Nat)(X:List Nat)(r:aj × Nat)(w:nL)(e:Ending)(w':nL):Prop :=
 e=.returned (bB r.2)/\(∃pv a b,aC w' B p D N pv r.1 n a b)/\Xs X p w w'
theorem OU(B p D N n a f bd b g c base:Nat)(pv:Value)(d:aj)(l:List Nat)(w:nL)(h:aC w B p D N pv d n a f)(hn:n<1000000000)(E:w.heap[bd]?=some (.cells #[fS p] 137))(m:w.heap[b]?=some (.cells #[.slice (some<|gi g) l.length c] 217))
  (r:w.ownsRow base 5 1 (.slice (some<|gi g) l.length c) l.length<|bs l) (i:l.length<=4096) :
  Calls prog 225 #[gx bd,gx b] w (Hs B p D N (n+1) [g] (d.tell ⟨1,cD,gW,str l⟩) w):=by
 have x:=af E 0;have y:=af m 0;simp at x y;have I:=ah h;have R:=ah r;have k:=aax;clear h r E m;go_enter func225,ntmps225;go_wp2_with fail;apply(OC B p D N n a f g c base pv d cD l w I.out hn du R.out i).mono;rintro e j ⟨rfl,⟨mj,nG,kR,nT⟩,cY⟩;have H:Hid (Hs B p D N (n+1) [g] (d.tell ⟨1,cD,gW,str l⟩) w (.returned<|bB (d.tell ⟨1,cD,gW,str l⟩).2) j):=⟨rfl,⟨mj,a,nG,kR⟩,I.out.dfx kR cY nT⟩;clear kR nT cY;go_wp2;go_ret;exact H.out
theorem OV(B p D N n a b bd:Nat)(pv:Value)(d:aj)(w:nL)(h:aC w B p D N pv d n a b)(hn:n<1000000000)(E:w.heap[bd]?=some (.cells #[fS p] 137)):
  Calls prog 226 #[gx bd] w (nW B p D N (n+1) (d.tell ⟨4,cD,eA,gW⟩) w):=by
 have x:=af E 0;simp at x;have I:=ah h;have m:=Xd;clear h E;go_enter func226,ntmps226;go_wp2_with fail;apply(KC B p D N n a b pv d cD eA w I.out hn du du Al).mono;rintro e f ⟨rfl,⟨mj,nG,kR,nT⟩,cY⟩;have H:Hid (nW B p D N (n+1) (d.tell ⟨4,cD,eA,gW⟩) w (.returned<|bB (d.tell ⟨4,cD,eA,gW⟩).2) f):=⟨rfl,⟨mj,a,nG,kR⟩,I.out.Xr kR cY (λq c _=>c) nT⟩;clear kR nT cY;go_wp2;go_ret;exact H.out
def aj.bn(d:aj)(first:Nat):aj × Nat :=
 let t1:=d.tell ⟨1,cD,gW,str (aB first 0 [])⟩
 if t1.2=0 then
  let t2:=t1.1.sync
  if t2.2=0 then
   let t3:=t2.1.tell ⟨4,cD,eA,gW⟩
   if t3.2=0 then t3.1.sync else t3
  else t2
 else t1
theorem Xt(B p D N n P Q bd v g x base Z first:Nat)(pv:Value)(d:aj)(w:nL)(h:aC w B p D N pv d n P Q)(hn:n+2<=1000000000)
  (f:w.heap[Z]?=some (.cells #[.func (.func 225) #[] #[gx bd,gx v],.func (.method "Sync") #[fS p] #[],.func (.func 226) #[] #[gx bd],.func (.method "Sync") #[fS p] #[]] 147))
  (r:w.heap[bd]?=some (.cells #[fS p] 137)) (T:w.heap[v]?=some (.cells #[.slice (some<|gi g) (aB first 0 []).length x] 217))
  (y:w.ownsRow base 5 1 (.slice (some<|gi g) (aB first 0 []).length x) (aB first 0 []).length<|bs<|aB first 0 []) (hl:(aB first 0 []).length<=4096) :
  Calls prog 139 #[.slice (some<|gi Z) 4 4] w (Hs B p D N (n+2) [g] (d.bn first) w):=by
 have z0:=af f 0;simp at z0;have I:=ah h;have a':=Nc;have⟨cg,s⟩:=aL y rfl;have a1:Z≠g:=λe=>by rw[e,s]at f;cases f
 have a7:bd≠g:=λe=>by rw[e,s]at r;cases r
 go_enter func139,ntmps139;go_wp2;apply Bn 5;rw[wk];go_wp2_with fail;apply(OU B p D N n P Q bd v g x base pv d _ w I.out dp r T y hl).mono;have⟨a,o⟩:∃a,a=d.tell ⟨1,cD,gW,str<|aB first 0 []⟩:=⟨_,rfl⟩;have i:=ah o.symm;rw[<-o];clear o;rintro e R ⟨rfl,⟨mj,nK,nG,kR⟩,gq⟩;have A:=(gq.block Z (zza.1 f).1 (I.out.kD f du du)<|by simp;exact a1).trans f;have M:=(gq.block bd (zza.1 r).1 (I.out.kD r du du)<|by simp;exact a7).trans r;have U:=af A 1;simp at U;have u:=ah A;have J:=ah M;have H:=ah kR;have Y:=ah gq;clear h f r T y z0 A M kR gq s;by_cases kn:a.2=0
 .rw[kn,aT];go_wp2;rw[wk];go_wp2_with fail;apply(sr B p D N (n+1) nK nG mj a.1 R H.out).mono;have⟨b,W⟩:=gb a.1.sync;have m:=ah W.symm;rw[<-W];clear W;rintro e w2 ⟨rfl,⟨CG,DM,qA,sA⟩,bH⟩;have k:=H.out.Xr qA bH (λq c _=>by simp at c;obtain e|e:=c<;>simp[e]) sA;have S:=(k.block Z (zza.1 u.out).1<|H.out.kD u.out du du).trans u.out;have O:=(k.block bd (zza.1 J.out).1<|H.out.kD J.out du du).trans J.out;have V:=af S 2;simp at V;have K:=ah S;have a8:=ah O;have j:=ah qA;have G:=ah<|Y.out.trans k.x;clear S O qA k bH sA U;by_cases iy:b.2=0
  .rw[iy,aT];go_wp2;rw[wk];go_wp2_with fail;apply(OV B p D N (n+1) DM nG bd CG b.1 w2 j.out dp a8.out).mono;have⟨t,z⟩:∃t,t=b.1.tell ⟨4,cD,eA,gW⟩:=⟨_,rfl⟩;have C:=ah z.symm;rw[<-z];clear z;rintro e w3 ⟨rfl,⟨Ht,J_,Hu,C2⟩,wj⟩;have zT:=(wj.block Z (zza.1 K.out).1<|j.out.kD K.out du du).trans K.out;have X:=af zT 3;simp at X;have l:=ah C2;have L:=ah<|G.out.trans wj.x;clear zT C2 wj V;by_cases mH:t.2=0
   .rw[mH,aT];go_wp2;rw[wk];go_wp2_with fail;apply(sr B p D N (n+2) J_ Hu Ht t.1 w3 l.out).mono;have E:Hid (d.bn first=t.1.sync):=by show _=_;unfold aj.bn;simp only;rw[i.out,oo kn,m.out,oo iy,C.out,oo mH]
    rintro e w4 ⟨rfl,⟨Rj,nD4,OX,Xu⟩,iI⟩;have F:Hid (Hs B p D N (n+2) [g] (d.bn first) w (.returned<|bB t.1.sync.2) w4):=by
     show Hs _ _ _ _ _ _ _ _ _ _;rw[E.out];exact⟨rfl,⟨Rj,nD4,Hu,OX⟩,L.out.trans (l.out.Xr OX iI (λq c _=>by simp at c;obtain e|e:=c<;>simp[e]) Xu).x⟩
    clear OX Xu iI X;by_cases CA:t.1.sync.2=0
    .rw[CA,aT]at F ⊢;go_wp2;rw[wk];go_wp2;go_ret;exact F.out
    .rw[aV CA]at F ⊢;go_wp2;go_ret;exact F.out
   .have E:Hid (d.bn first=t):=by show _=_;unfold aj.bn;simp only;rw[i.out,oo kn,m.out,oo iy,C.out,mE mH]
    rw[aV mH];go_wp2;go_ret;unfold Hs;rw[E.out];exact⟨by rw[aV mH];rfl,⟨Ht,J_,Hu,l.out⟩,L.out⟩
  .have E:Hid (d.bn first=b):=by show _=_;unfold aj.bn;simp only;rw[i.out,oo kn,m.out,mE iy]
   rw[aV iy];go_wp2;go_ret;unfold Hs;rw[E.out];exact⟨by rw[aV iy];rfl,⟨CG,DM,nG,j.out.fW dp hn⟩,G.out⟩
 .have e:d.bn first=a:=by unfold aj.bn;simp only;rw[i.out,mE kn]
  have E:=ah e;clear e;rw[aV kn];go_wp2;go_ret;unfold Hs;rw[E.out];exact⟨by rw[aV kn];rfl,⟨mj,nK,nG,H.out.fW dp hn⟩,Y.out⟩
theorem H_(B p D N n f i first:Nat)(pv:Value)(d:aj)(w:nL)(h:aC w B p D N pv d n f i)(hn:n+2<=1000000000)(hx:first<2^64):
  Calls prog 163 #[fS p,.int .u64 (first:Int)] w (nW B p D N (n+2) (d.bn first) w):=by
 have I:=ah h;clear h
 go_enter func163,ntmps163
 go_wp2_with fail;refine(zj first 0 ⟨#[]⟩ _ du (by decide) hx).mono ?_;rintro e b ⟨g,rfl,hg,aW,dB⟩;rw[zzv]at dB hg aW;have z:(⟨#[]⟩:nS).size=0:=rfl;have t:bytesOf ⟨#[]⟩=[]:=rfl;rw[z]at aW ⊢;rw[t]at aW;have hlen:(aB first 0 []).length=11+0+4:=by rw[gu];rfl
 have Y:Fr [] w b:=((Fr.refl [] w).alloc _).trans (Fr.bE (by rw[zzv];exact dB) []);have E:b.heap[w.heap.size]?=some (.cells #[fS p] 137):=(dB.block w.heap.size (by omega)).trans<|oz w _;have r:w.heap.size<b.heap.size:=(zza.1 E).1;have J:=(r9 aW).2;have s:=ah E;have A:=ah aW;have L:=ah Y;have V:=ah hlen;have m:=af E 0;simp at m;have u:∀o,(b.alloc o).cell? ⟨w.heap.size,0,none⟩=some (fS p):=λo=>(zze (a:=⟨w.heap.size,0,none⟩)<|zzf b o _ r).trans m
 have G:∀o l,((b.alloc o).alloc l).cell? ⟨w.heap.size,0,none⟩=some (fS p):=λo l=>(zze (a:=⟨w.heap.size,0,none⟩)<|zzf (b.alloc o) l w.heap.size (by simp;omega)).trans<|u o
 clear dB aW Y E hlen;go_wp2
 have H:=λ(W:nL) (c:W=((b.alloc (.cells #[.slice (some ⟨g,0,none⟩) 15 15] 217)).alloc (.cells #[.func (.func 225) #[] #[.pointer (some ⟨w.heap.size,0,none⟩),.pointer (some ⟨b.heap.size,0,none⟩)],.func (.method "Sync") #[fS p] #[],.func (.func 226) #[] #[.pointer (some ⟨w.heap.size,0,none⟩)],.func (.method "Sync") #[fS p] #[]] 147)).drew)=>by
  have U:Fr [] w W:=by rw[c];exact((L.out.alloc _).alloc _).drew
  have v:W.heap[b.heap.size+1]?=some (.cells #[.func (.func 225) #[] #[.pointer (some ⟨w.heap.size,0,none⟩),.pointer (some ⟨b.heap.size,0,none⟩)],.func (.method "Sync") #[fS p] #[],.func (.func 226) #[] #[.pointer (some ⟨w.heap.size,0,none⟩)],.func (.method "Sync") #[fS p] #[]] 147):=by
   rw[c];have:=oz (b.alloc (.cells #[.slice (some ⟨g,0,none⟩) 15 15] 217)) (.cells #[.func (.func 225) #[] #[.pointer (some ⟨w.heap.size,0,none⟩),.pointer (some ⟨b.heap.size,0,none⟩)],.func (.method "Sync") #[fS p] #[],.func (.func 226) #[] #[.pointer (some ⟨w.heap.size,0,none⟩)],.func (.method "Sync") #[fS p] #[]] 147);rw[zzv]at this;exact this
  have C:W.heap[b.heap.size]?=some (.cells #[.slice (some ⟨g,0,none⟩) 15 15] 217):=by
   rw[c];exact(zzf _ _ _ (by simp)).trans<|oz _ _
  have E:W.heap[w.heap.size]?=some (.cells #[fS p] 137):=by
   rw[c];exact(zzf _ _ _ (by simp;omega)).trans<|(zzf _ _ _ r).trans s.out
  have y:W.ownsRow (w.heap.size+1+1) 5 1 (.slice (some ⟨g,0,none⟩) 15 15) 15 (bs<|aB first 0 []):=by rw[c];exact(A.out.alloc _).alloc _
  have j:=V.out;have:=Xt B p D N n f i w.heap.size b.heap.size g 15 (w.heap.size+1+1) (b.heap.size+1) first pv d W (I.out.new U) hn v E (by rw[j];exact C) (by rw[j];exact y)<|by rw[j];omega
  exact zzb U<|zzb E this
 go_region_held3 (λw'=>w'.cell? ⟨w.heap.size,0,none⟩=some (fS p))
  (simp[*])
  (first|(go_at_call 139;refine(H _ rfl).2.2.mono ?_;rintro e w2 ⟨rfl,qA,ik⟩;have q:=H _ rfl;have K:w2.cell? ⟨w.heap.size,0,none⟩=some (fS p):=(af ((ik.block w.heap.size (zza.1 q.2.1).1 ((I.out.new q.1).kD q.2.1 du du) ef).trans q.2.1) 0).trans dv;have F:Hid (qQ p w w2):=((I.out.ae7 q.1).x.trans ik).Xr (by intro k x;simp at x;omega);have R:Hid (∃pv f i,aC w2 B p D N pv (d.bn first).1 (n+2) f i):=qA;clear q qA ik))
 all_goals clear H
 all_goals go_wp2
 all_goals go_ret
 all_goals exact⟨rfl,R.out,F.out⟩
def fF(segs:List Nat)(low:Nat):Nat->Nat->Nat
 |0,k=>k
 |f+1,k=>match segs[k+1]? with
  |none=>k
  |some s=>if s<=low then fF segs low f (k+1) else k
def bM(segs:List Nat)(low:Nat):Nat:=fF segs low segs.length 0
theorem vx(h:segs.length<=k+1):fF segs low f k=k:=by
 cases f with
 |zero=>rfl
 |succ f=>grind[fF]
theorem vy(h:segs[k+1]?=some s)(a:s<=low):fF segs low (f+1) k=fF segs low f (k+1):=by grind[fF]
theorem vz(h:segs[k+1]?=some s)(a:¬s<=low):fF segs low f k=k:=by
 cases f with
 |zero=>rfl
 |succ f=>grind[fF]
theorem Br(B j p D N n x z low g cs:Nat)(pv A:Value)(l:au)(d:aj)(w:nL)(h:aM w B j p D N pv (.slice (some<|gi g) l.segs.length cs) A l d n x z):
  Calls prog 161 #[gx j,.int .u64 (low:Int)] w λe w'=>e=.returned (.int .i64 (bM l.segs low:Nat))/\∃q,w'=w.drewN q:=by
 have c1:=af h.blk 1;simp at c1;have u:=h.eJ.1;have hn:=h.bP.hn;have I:=ah h;have⟨S,b⟩:=gb l.segs.length;rw[<-b]at c1 u;have H:=ah b.symm;clear h b;go_enter func161,ntmps161;go_wp2;go_loopw [5] (λi wr=>∃k f:Nat,(k<=S)/\i=.int .i64 k/\k+f=S/\bM l.segs low=fF l.segs low f k/\∃q,wr=w.drewN q) (λi _=>S-(intOf i).toNat);.exact⟨0,S,zzs _,rfl,dp,by unfold bM;rw[H.out],0,rfl⟩
 .obtain⟨k,f,E,rfl,M,o,q,c⟩:=hrel;have Q:=ah c;have C:wr.cell? (hP j 1)=some (.slice (some (gi g)) S cs):=by rw[c,World.cell?_drewN];exact c1
  have y:=ah o;clear c o;have F:wrap64 ((k:Int)+1)=(k:Int)+1:=by unfold wrap64;omega
  have G:IntKind.i64.wrap ((k:Int)+1)=(k:Int)+1:=eD;have J:(0:Int)<=k+1:=dp;by_cases W:k+1<S
  .obtain⟨s,hs⟩:∃s,l.segs[k+1]?=some s:=⟨_,zzg<|by rw[H.out];exact W⟩;have t:=n_ I.out.segs (k+1) s hs;have L:wr.cell? (hP g (k+1))=some (.int .u64 (s:Int)):=by rw[Q.out,World.cell?_drewN];exact t
   have v:(k:Int)+1<(S:Int):=dp;have K:((k:Int)+1).toNat=k+1:=dp;have m:=ah hs;clear hs t;by_cases r:s<=low
   .have j5:(s:Int)<=low:=dp;obtain⟨a,rfl⟩:∃a,f=a + 1:=⟨f-1,dp⟩;go_wp2;refine⟨⟨k+1,a,dp,rfl,dp,?_,q,Q.out⟩,fq⟩;rw[y.out,vy m.out r]
   .have j5:¬(s:Int)<=low:=dp;go_wp2;go_ret;exact⟨by rw[y.out,vz m.out r];rfl,q,Q.out⟩
  .have v:¬(k:Int)+1<(S:Int):=dp;go_wp2;go_ret;exact⟨by rw[y.out,vx<|by rw[H.out];omega];rfl,q,Q.out⟩
theorem insert_nil(w:nL):Calls prog 325 #[.slice none 0 0,.int .i64 0,.int .i64 0] w λe w'=>e=.returned (.tuple #[])/\w'=w:=by
 go_enter func325,ntmps325;go_wp2;apply Bn 1;rw[wk];go_wp2;go_end0;exact⟨rfl,rfl⟩
theorem Xv(k:Int)(w:nL):Calls prog 295 #[.slice none 0 0,.int .i64 0,.int .i64 0,.int .i64 k] w λe w'=>e=.returned (.tuple #[])/\w'=w:=by
 go_enter func295,ntmps295;go_wp2;apply Bn 1;rw[wk];go_wp2_with fail;apply(insert_nil w).mono;rintro e a ⟨rfl,rfl⟩;go_wp2;apply zA (xw rfl _ _ _) rfl;exact⟨rfl,rfl⟩
theorem DT(w:nL):Calls prog 260 #[.slice none 0 0] w λe w'=>e=.returned (.tuple #[])/\w'=w:=by
 go_enter func260,ntmps260;go_wp2_with fail;apply(Tryz.bits_Len 0 w dp dp).mono;rintro e a ⟨rfl,rfl⟩;go_wp2_with fail;apply(Xv _ a).mono;rintro e a ⟨rfl,rfl⟩;go_wp2;go_end0;exact⟨rfl,rfl⟩
theorem KZ(x:Int)(w:nL):Calls prog 205 #[.slice none 0 0,.int .u64 x] w λe w'=>e=.returned (.tuple #[.int .i64 0,.bool false])/\w'=w:=by
 go_enter func205,ntmps205;go_wp2;apply Bn 1;rw[wk];go_wp2;go_ret2;exact⟨rfl,rfl⟩
theorem uP(B p D N n a b:Nat)(pv:Value)(d:aj)(w:nL)(h:aC w B p D N pv d n a b)(q:d.down=false)(j:d.now eA=none):
  Calls prog 203 #[fS p] w λe w'=>e=.returned (.tuple #[.int .u64 1,.nilIface])/\Below w.heap.size w w':=by
 have m:=Nb;have r:=wO B p D N n a b pv d eA w h du;have e:d.read eA=(none,8):=by unfold aj.read;rw[mE<|by rw[q];decide,j]
 clear h;go_enter func203,ntmps203;go_wp2_with fail;apply r.mono;clear r;rintro f c ⟨v,rfl,OY,hb⟩;rw[e]at OY ⊢;obtain rfl:v=.slice none 0 0:=OY;rw[aV du];go_wp2_with fail;apply(MV 8 c).mono;rintro g w2 ⟨rfl,rfl⟩;go_wp2;go_ret2;exact⟨rfl,hb⟩
def wQ(l:List Nat)(j:Nat):List Nat:=(l.set j (l.getD (j-1) 0)).set (j-1) (l.getD j 0)
theorem getD_at(h:j<l.length):l.getD j 0=l[j]:=by grind
theorem K0(h:j<l.length):(wQ l j).Perm l:=by grind[wQ,getD_at]
theorem Hv(h:j<l.length)(b:0<j)(a:Nat):(wQ l j).getD a 0=if a=j then l.getD (j-1) 0 else if a=j-1 then l.getD j 0 else l.getD a 0:=by grind[wQ]
def nO(l:List Nat)(k:Nat):Prop:=∀a b,a<b->b<k->l.getD a 0<=l.getD b 0
def pC(l:List Nat)(k j:Nat):Prop:=∀a b,a<b->b<k->b≠j->l.getD a 0<=l.getD b 0
theorem nO.but(h:nO l k):pC l (k+1) k:=λa b c d e=>h a b c dp
theorem pC.first(h:pC l k 0):nO l k:=λa b c d=>h a b c d dp
theorem pC.stop(h:pC l k j)(i:0<j)(f:l.getD (j-1) 0<=l.getD j 0):nO l k:=by
 intro a b c d;by_cases e:b=j
 .subst e;by_cases g:a=b-1
  .grind
  .exact zzk (h a (b-1) dp dp dp) f
 .exact h a b c d e
theorem pC.swap(h:pC l k j)(g:0<j)(G:j<l.length)(n:j<k)(W:l.getD j 0<l.getD (j-1) 0):pC (wQ l j) k (j-1):=by
 intro a b i d m;rw[Hv G g,Hv G g];by_cases e:b=j
 .rw[oo e,mE (by omega:¬a=j)];by_cases c:a=j-1
  .grind
  .rw[mE c];exact h a (j-1) dp dp dp
 .rw[mE e,mE m];by_cases c:a=j
  .rw[oo c];exact h (j-1) b dp d e
  .rw[mE c];by_cases f:a=j-1
   .rw[oo f];exact h j b dp d e
   .rw[mE f];exact h a b i d e
theorem nO.pairwise(h:nO l l.length):l.Pairwise (·<=·):=by
 rw[DS];intro i j b a c;have:=h i j c a;rwa [getD_at b,getD_at a]at this
theorem ae'(x:Int)(w:nL):Calls prog 297 #[.int .u64 x] w λe w'=>e=.returned (.bool false)/\w'=w:=by
 go_enter func297,ntmps297;go_wp2;go_ret;exact⟨dv,rfl⟩
theorem fX(x y:Int)(w:nL):Calls prog 261 #[.int .u64 x,.int .u64 y] w λe w'=>e=.returned (.bool<|decide<|x<y)/\w'=w:=by
 go_enter func261,ntmps261;go_wp2_with fail;apply(ae' x w).mono;rintro e a ⟨rfl,rfl⟩;go_wp2;go_ret;exact⟨rfl,rfl⟩
theorem OZ(l:List Nat)(j:Nat):((fC l).set j<|.int .u64 (l.getD (j-1) 0:Nat)).set (j-1) (.int .u64 (l.getD j 0:Nat))=fC (wQ l j):=by
 unfold fC wQ;rw[List.map_set,List.map_set]
structure ln(w wr:nL)(B g n cap:Nat)(l l':List Nat):Prop where
 perm:l'.Perm l
 row:wr.ownsRow B 34 1 (.slice (some (gi g)) n cap) n (fC l')
 fr:Fr [g] w wr
theorem ln.swap(h:ln w wr B g n p l l')(b:j<l'.length):
  ln w ((wr.setCell (hP g j)<|.int .u64 (l'.getD (j-1) 0:Nat)).setCell (hP g<|j-1)<|.int .u64 (l'.getD j 0:Nat)) B g n p l (wQ l' j) where
 perm:=(K0 b).trans h.perm
 row:=by
  have a:=((h.row.stored j<|.int .u64 (l'.getD (j-1) 0:Nat)).1.stored (j-1)<|.int .u64 (l'.getD j 0:Nat)).1
  rwa [OZ]at a
 fr:=(h.fr.setCell (.inl dv) _).setCell (.inl dv) _
theorem ln.drewN(h:ln w wr B g n p l l')(k:Nat):ln w (wr.drewN k) B g n p l l' where
 perm:=h.perm
 row:=ar h.row (mX (fU wr) k) λ_ _=>dv
 fr:=mX h.fr k
theorem ln.at(h:ln w wr B g n p l l')(a:k<l'.length):wr.cell? (hP g k)=some (.int .u64 ((l'.getD k 0:Nat):Int)):=
 n_ h.row k _ (by rw[getD_at a];exact zzg a)
theorem ln.free(h:ln w wr B g n p l l')(k:Nat):wr.frozen? (hP g k)=false:=by
 rcases h.row.2 with⟨a,_⟩|⟨b,z,r,a,hb,c,_⟩
 .simp at a
 .grind [aq]
theorem Xw(B g n p:Nat)(l:List Nat)(w:nL)(h:w.ownsRow B 34 1 (.slice (some<|gi g) n p) n<|fC l)(t:l.length=n)(hn:n<=1000000000):
  Calls prog 325 #[.slice (some<|gi g) n p,.int .i64 0,.int .i64 (n:Int)] w λe w'=>e=.returned (.tuple #[])/\∃l',ln w w' B g n p l l'/\nO l' n:=by
 have L:Hid (l.length=n):=t;have z:Hid (ln w w B g n p l l):=⟨List.Perm.refl _,h,Fr.refl _ _⟩;clear h t;go_enter func325,ntmps325;go_wp2;go_loopw [6] (λi wr=>∃k:Nat,i=.int .i64 k/\1<=k/\(k<=n\/k=1)/\∃l',ln w wr B g n p l l'/\nO l' k) (λi _=>n-(intOf i).toNat);.exact⟨1,rfl,dp,.inr rfl,l,z.out,λa b s A=>dp⟩
 .obtain⟨k,rfl,R,Z,d,T,P⟩:=hrel;by_cases F:k<n
  .have j1:(k:Int)<n:=dp;have D:IntKind.i64.wrap ((k:Int)+1)=(k:Int)+1:=eD;have r:Hid (ln w wr B g n p l d):=T;have f:Hid (nO d k):=P;clear T P;go_wp2;go_loopw [7] (λi E=>∃j:Nat,i=.int .i64 j/\j<=k/\∃l',ln w E B g n p l l'/\pC l' (k+1) j) (λi _=>(intOf i).toNat);.exact⟨k,rfl,dp,d,r.out,f.out.but⟩
   .obtain⟨j,rfl,J,c,o,v⟩:=hrel;have H:Hid (ln w wr B g n p l c):=o;have W:Hid (pC c (k+1) j):=v;have m:Hid (c.length=n):=by rw[<-L.out];exact o.perm.length_eq
    clear o v;have Q:=D;cases j with
    |zero=>
     go_wp2;go_quiet (first|(go_at_call 261;refine Calls.quiet_of_same<|fX _ _ _))
     go_wp2;refine⟨⟨k+1,dv,dp,.inl dp,c,H.out.drewN _,W.out.first⟩,fq⟩
    |succ i=>
     have c1:=H.out.at (k:=i+1) (by rw[m.out];omega);have c2:=H.out.at (k:=i) (by rw[m.out];omega);have G:wr.frozen? ⟨g,i+1,none⟩=false:=H.out.free _;have I:wr.frozen? ⟨g,i,none⟩=false:=H.out.free _;have K:(0:Int)<((i+1:Nat):Int):=dp
     have M:IntKind.i64.wrap (((i+1:Nat):Int)-1)=(i:Int):=eD;have N:((i+1:Nat):Int)<(n:Int):=dp;have O:(i:Int)<n:=dp;have⟨x,hx⟩:=gb <|c.getD (i+1) 0;have⟨y,q⟩:=gb <|c.getD i 0;rw[<-hx]at c1;rw[<-q]at c2;have X:Hid (x=c.getD (i+1) 0):=hx;have Y:Hid (y=c.getD i 0):=q;clear hx q;by_cases C:(x:Int)<y
     .have hd:decide ((x:Int)<y)=true:=by simp[C]
      go_wp2;go_quiet (first|(go_at_call 261;refine Calls.quiet_of_same<|fX _ _ _))
      go_wp2;go_region;all_goals go_wp2
      have hlen:i+1<c.length:=by rw[m.out];omega
      have u:=(H.out.drewN<|nq+1).swap hlen;rw[show i+1-1=i from rfl,<-X.out,<-Y.out]at u;refine⟨⟨i,rfl,dp,wQ c<|i+1,u,?_⟩,by simp[intOf]⟩;exact W.out.swap dp hlen dp<|by rw[show i+1-1=i from rfl,<-X.out,<-Y.out];omega
     .have hd:decide ((x:Int)<y)=false:=by simp[C]
      go_wp2
      go_quiet (first|(go_at_call 261;refine Calls.quiet_of_same<|fX _ _ _))
      go_wp2;refine⟨⟨k+1,dv,dp,.inl dp,c,H.out.drewN _,W.out.stop dp ?_⟩,fq⟩;rw[show i+1-1=i from rfl,<-X.out,<-Y.out];omega
  .have j1:¬(k:Int)<n:=dp;have r:Hid (ln w wr B g n p l d):=T;have f:Hid (nO d k):=P;clear T P;go_wp2;go_end0;refine⟨rfl,d,r.out,λa b s A=>f.out a b s dp⟩
theorem SS(B g n p:Nat)(k:Int)(l:List Nat)(w:nL)(h:w.ownsRow B 34 1 (.slice (some<|gi g) n p) n<|fC l)(a:l.length=n)(hn:n<=12):
  Calls prog 295 #[.slice (some<|gi g) n p,.int .i64 0,.int .i64 (n:Int),.int .i64 k] w λe w'=>e=.returned (.tuple #[])/\∃l',ln w w' B g n p l l'/\nO l' n:=by
 have i:=Xw B g n p l w h a dp;have j:(n:Int)<=12:=dp
 have b:IntKind.i64.wrap ((n:Int)-0)=(n:Int):=eD;have c:IntKind.i64.wrap (n:Int)=n:=eD;clear h a;go_enter func295,ntmps295;go_wp2;apply Bn 1;rw[wk];go_wp2_with fail;apply i.mono;clear i;rintro e d ⟨rfl,hp⟩;go_wp2;apply zA (xw rfl _ _ _) rfl;exact⟨rfl,hp⟩
theorem O2(B g n p:Nat)(l:List Nat)(w:nL)(h:w.ownsRow B 34 1 (.slice (some<|gi g) n p) n<|fC l)(a:l.length=n)(hn:n<=12):
  Calls prog 260 #[.slice (some<|gi g) n p] w λe w'=>e=.returned (.tuple #[])/\∃l',ln w w' B g n p l l'/\nO l' n:=by
 have hp:=λk=>SS B g n p k l w h a hn
 clear h a;go_enter func260,ntmps260;go_wp2_with fail;apply(Tryz.bits_Len n w dp dp).mono;rintro e b ⟨rfl,rfl⟩;go_wp2_with fail;apply(hp _).mono;rintro e b ⟨rfl,hq⟩;go_wp2;go_end0;exact⟨rfl,hq⟩
abbrev fR(x y:Nat):Bool:=decide (x<y)
theorem aa0:Go.Sort.SWO fR where
 irrefl:=λx=>by simp[fR]
 trans:=λx y z h a=>by simp[fR]at *;omega
 ntrans:=λx y z h a=>by simp[fR]at *;omega
structure SU(w wr:nL)(B g n cap:Nat)(d:Array Nat):Prop where
 sz:d.size=n
 row:wr.ownsRow B 34 1 (.slice (some (gi g)) n cap) n (fC d.toList)
 fr:Fr [g] w wr
theorem qZ{d:Array Nat}(h:i<d.size):d[i]! = d[i]:=by simp[h]
theorem TT(d:Array Nat)(i j:Nat):((fC d.toList).set i<|.int .u64 (d[j]!:Nat)).set j (.int .u64 (d[i]!:Nat))=fC (Go.Sort.swp d i j).toList:=by
 unfold fC Go.Sort.swp;simp[List.map_set]
theorem PR(d:Array Nat)(i j:Nat):(Go.Sort.swp d i j).size=d.size:=by simp[Go.Sort.swp]
section
variable{w wr:nL}{B g n cap:Nat}{d:Array Nat}
theorem SU.on(h:SU w wr B g n cap d){q:nL}(hf:Fr [] wr q):SU w q B g n cap d:=⟨h.sz,ar h.row hf λ_ _=>dv,h.fr.trans<|hf.mono dv⟩
theorem SU.drewN(h:SU w wr B g n cap d)(k:Nat):SU w (wr.drewN k) B g n cap d:=h.on<|mX (fU wr) k
theorem SU.drew(h:SU w wr B g n cap d):SU w wr.drew B g n cap d:=h.on (fU wr).drew
theorem SU.at(h:SU w wr B g n cap d){k:Nat}(a:k<n):wr.cell? (hP g k)=some (.int .u64 ((d[k]!:Nat):Int)):=
 n_ h.row k _ (by rw[qZ<|by rw[h.sz];exact a];simp[h.sz,a])
theorem SU.free(h:SU w wr B g n cap d)(k:Nat):wr.frozen? (hP g k)=false:=by
 rcases h.row.2 with⟨a,_⟩|⟨b,z,r,a,hb,c,_⟩
 .simp at a
 .grind [aq]
theorem SU.swp(h:SU w wr B g n cap d)(i j:Nat):
  SU w ((wr.setCell (hP g i)<|.int .u64 (d[j]!:Nat)).setCell (hP g j)<|.int .u64 (d[i]!:Nat)) B g n cap (Go.Sort.swp d i j) where
 sz:=by rw[PR];exact h.sz
 row:=by
  have a:=((h.row.stored i<|.int .u64 (d[j]!:Nat)).1.stored j<|.int .u64 (d[i]!:Nat)).1;rwa [TT]at a
 fr:=(h.fr.setCell (.inl dv) _).setCell (.inl dv) _
end
theorem afu(B g n cap a b:Nat)(d:Array Nat)(w0 w:nL)(h:SU w0 w B g n cap d)(Z:a<b)(hb:b<=n)(hn:n<=1000000000):
  Calls prog 329 #[.slice (some<|gi g) n cap,.int .i64 (a:Int),.int .i64 (b:Int)] w λe w'=>e=.returned (.tuple #[])/\SU w0 w' B g n cap (Go.Sort.reverseRange d a b):=by
 have H:=ah h;have o:IntKind.i64.wrap ((b:Int)-1)=((b-1:Nat):Int):=eD;clear h;go_enter func329,ntmps329;go_wp2;go_loopw [6,7] (λi j wr=>∃x y:Nat,i=.int .i64 x/\j=.int .i64 y/\a<=x/\y<b/\x<=y+1/\∃d',SU w0 wr B g n cap d'/\Go.Sort.reverseLoop x y d'=Go.Sort.reverseRange d a b) (λi j _=>(intOf j).toNat+1-(intOf i).toNat);case atStart=>exact⟨a,b-1,rfl,rfl,dp,dp,dp,d,H.out,rfl⟩
 case round=>
  obtain⟨x,y,rfl,rfl,hx,m,C,c,T,U⟩:=hrel;have S:=ah T;have E:=ah U;clear T U;by_cases W:x<y
  .have j1:(x:Int)<y:=dp;have c1:=S.out.at (k:=x) (by omega);have c2:=S.out.at (k:=y) (by omega);have f:wr.frozen? ⟨g,x,none⟩=false:=S.out.free _;have l:wr.frozen? ⟨g,y,none⟩=false:=S.out.free _;have p:IntKind.i64.wrap ((x:Int)+1)=((x+1:Nat):Int):=eD
   have q:IntKind.i64.wrap ((y:Int)-1)=((y-1:Nat):Int):=eD;have r:(x:Int)<n:=dp;have s:(y:Int)<n:=dp;go_wp2;go_region;all_goals go_wp2
   refine⟨⟨x+1,y-1,dv,rfl,dp,dp,dp,_,(S.out.swp x y).drew,?_⟩,fq⟩;rw[<-E.out]
   conv=>rhs;rw[Go.Sort.reverseLoop,oo W]
  .have j1:¬(x:Int)<y:=dp;go_wp2;go_end0;refine⟨rfl,?_⟩;rw[<-E.out,Go.Sort.reverseLoop,mE W];exact S.out
structure yw(w0 w:nL)(B g n cap:Nat)(d:Array Nat)(sp s:Nat):Prop where
 su:SU w0 w B g n cap d
 ne:sp≠g
 new:w0.heap.size<=sp
 blk:w.heap[sp]?=some (.cells #[.int .i64 (s:Int)] 3 (0,0))
section
variable{w0 w:nL}{B g n cap sp s:Nat}{d:Array Nat}
theorem yw.drewN(h:yw w0 w B g n cap d sp s)(k:Nat):yw w0 (w.drewN k) B g n cap d sp s:=⟨h.su.drewN k,h.ne,h.new,by rw[(mX (fU w) k).block sp (by have:=h.blk;exact(zza.mp this).1) dv];exact h.blk⟩
theorem yw.count(h:yw w0 w B g n cap d sp s):yw w0 (w.setCell (gi sp)<|.int .i64<|(s:Int)+1) B g n cap d sp (s+1) where
 su:=⟨h.su.sz,ar h.su.row (Fr.cG (S:=[sp]) (by simp) 0 _) λq a=>by simp[Value.ownBlock]at a;subst a;simp;exact λe=>h.ne e.symm,h.su.fr.setCell (.inr h.new) _⟩
 ne:=h.ne;new:=h.new;blk:=by rw[aF h.blk];simp
end
theorem Fu(B g n cap a b sp s:Nat)(d:Array Nat)(w0 w:nL)(h:yw w0 w B g n cap d sp s)(f:a<n)(hb:b<n)(l:s<=1000):
  Calls prog 368 #[.slice (some<|gi g) n cap,.int .i64 (a:Int),.int .i64 (b:Int),gx sp] w λe w'=>∃x y t:Nat,e=.returned (.tuple #[.int .i64 (x:Int),.int .i64 (y:Int)])/\(x=a/\y=b\/x=b/\y=a)/\t<=s+1/\yw w0 w' B g n cap d sp t:=by
 have H:=ah h;have c1:=h.su.at f;have c2:=h.su.at hb;have i:w.frozen? ⟨g,a,none⟩=false:=h.su.free _;have j:w.frozen? ⟨g,b,none⟩=false:=h.su.free _;have c3:=af h.blk 0;have k:=aq h.blk 0;have m:(a:Int)<n:=dp;have o:(b:Int)<n:=dp;have p:IntKind.i64.wrap ((s:Int)+1)=(s:Int)+1:=eD;have⟨x,hx⟩:=gb <|d[a]!;have⟨y,c⟩:=gb <|d[b]!;rw[<-hx]at c1;rw[<-c]at c2;clear h hx c;go_enter func368,ntmps368;by_cases C:(y:Int)<x
 .have hd:decide ((y:Int)<x)=true:=by simp[C]
  go_wp2;go_quiet (first|(go_at_call 261;refine Calls.quiet_of_same<|fX _ _ _))
  go_wp2;go_ret2;refine⟨b,a,s+1,rfl,.inr ⟨rfl,rfl⟩,dp,(H.out.drewN nq).count⟩
 .have hd:decide ((y:Int)<x)=false:=by simp[C]
  go_wp2;go_quiet (first|(go_at_call 261;refine Calls.quiet_of_same<|fX _ _ _))
  go_wp2;go_ret2;refine⟨a,b,s,rfl,.inl ⟨rfl,rfl⟩,dp,H.out.drewN nq⟩
theorem Fv(B g n cap a b c sp s:Nat)(d:Array Nat)(w0 w:nL)(h:yw w0 w B g n cap d sp s)(k:a<n)(hb:b<n)(l:c<n)(o:s<=900):
  Calls prog 356 #[.slice (some<|gi g) n cap,.int .i64 (a:Int),.int .i64 (b:Int),.int .i64 (c:Int),gx sp] w λe w'=>∃x t:Nat,e=.returned (.int .i64 (x:Int))/\(x=a\/x=b\/x=c)/\t<=s+3/\yw w0 w' B g n cap d sp t:=by
 have H:=ah h;clear h;go_enter func356,ntmps356;go_wp2_with fail;apply(Fu B g n cap a b sp s d w0 w H.out k hb dp).mono;rintro e m ⟨x1,y1,t1,rfl,h1,Wc,mR⟩;have f:=ah mR;clear mR;go_wp2_with fail;apply(Fu B g n cap y1 c sp t1 d w0 m f.out dp l dp).mono;rintro e w2 ⟨x2,y2,t2,rfl,h2,OW,lI⟩;have i:=ah lI;clear lI;go_wp2_with fail;apply(Fu B g n cap x1 x2 sp t2 d w0 w2 i.out dp dp dp).mono;rintro e p ⟨x3,y3,t3,rfl,h3,ht3,Rs⟩;have j:=ah Rs;clear Rs;go_wp2;go_ret;exact⟨y3,t3,rfl,dp,dp,j.out⟩
theorem Fw(B g n cap a sp s:Nat)(d:Array Nat)(w0 w:nL)(h:yw w0 w B g n cap d sp s)(P:1<=a)(c:a+1<n)(hn:n<=1000000000)(f:s<=900):
  Calls prog 355 #[.slice (some<|gi g) n cap,.int .i64 (a:Int),gx sp] w λe w'=>∃x t:Nat,e=.returned (.int .i64 (x:Int))/\(x=a-1\/x=a\/x=a+1)/\t<=s+3/\yw w0 w' B g n cap d sp t:=by
 have H:=ah h;have j:IntKind.i64.wrap ((a:Int)-1)=((a-1:Nat):Int):=eD;have i:IntKind.i64.wrap ((a:Int)+1)=((a+1:Nat):Int):=eD;clear h;go_enter func355,ntmps355;go_wp2_with fail;apply(Fv B g n cap (a-1) a (a+1) sp s d w0 w H.out dp dp c f).mono;rintro e k ⟨x1,t1,rfl,h1,Wc,mR⟩;have b:=ah mR;clear mR;go_wp2;go_ret;exact⟨x1,t1,rfl,h1,Wc,b.out⟩
theorem SU.lt{d:Array Nat}(h:SU w wr B g n p d):g<wr.heap.size:=by
 rcases h.row.2 with⟨a,_⟩|⟨b,z,r,a,hb,c,_⟩
 .simp at a
 .grind
theorem SU.count{d:Array Nat}(h:SU a w B g n p d):yw a (w.alloc<|.cells #[.int .i64 0] 3) B g n p d w.heap.size 0 where
 su:=h.on<|(fU w).alloc _
 ne:=λe=>by have:=h.lt;omega
 new:=h.fr.size;blk:=Cy w _
theorem XZ(B g n f a b:Nat)(d:Array Nat)(i w:nL)(h:SU i w B g n f d)(Z:a+12<b)(hb:b<=n)(hn:n<=1000000000):
  Calls prog 328 #[.slice (some<|gi g) n f,.int .i64 (a:Int),.int .i64 (b:Int)] w λe w'=>∃p t:Nat,e=.returned (.tuple #[.int .i64 (p:Int),.int .i64 (t:Int)])/\a<=p/\p<b/\t<=2/\SU i w' B g n f d:=by
 have l:=ah h.count;have F:IntKind.i64.wrap ((b:Int)-a)=((b-a:Nat):Int):=eD;clear h;go_enter func328,ntmps328;have⟨x,hx⟩:=gb <|a+(b-a)/4;have⟨y,D⟩:=gb <|a+(b-a)/4*2;have⟨z,E⟩:=gb <|a+(b-a)/4*3;have m:Hid ((a:Int)+((b-a:Nat):Int)/4=(x:Int)):=show _=_ by omega
 have m2:Hid ((a:Int)+((b-a:Nat):Int)/4*2=(y:Int)):=show _=_ by omega
 have o:Hid ((a:Int)+((b-a:Nat):Int)/4*3=(z:Int)):=show _=_ by omega
 have G:(8:Int)<=((b-a:Nat):Int):=dp;by_cases C:b-a<50
 .have l2:((b-a:Nat):Int)<50:=dp;go_wp2_with fail;rw[m.out,m2.out,o.out];apply(Fv B g n f x y z _ 0 d i _ l.out dp dp dp dp).mono;rintro e W ⟨x1,c,rfl,h1,Wc,mR⟩;have H:=ah mR;have c1:=af mR.blk 0;clear mR;by_cases j:c=0
  .subst j;go_wp2;go_ret2;exact⟨x1,1,rfl,dp,dp,dp,H.out.su⟩
  .have k0:¬(c:Int)=0:=dp;by_cases k:c=12
   .subst k;go_wp2;go_ret2;exact⟨x1,2,rfl,dp,dp,dp,H.out.su⟩
   .have k1:¬(c:Int)=12:=dp;go_wp2;go_ret2;exact⟨x1,0,rfl,dp,dp,dp,H.out.su⟩
 .have l2:¬((b-a:Nat):Int)<50:=dp;go_wp2_with fail;rw[m.out];apply(Fw B g n f x _ 0 d i _ l.out dp dp hn dp).mono;rintro e u ⟨x2,t2,rfl,h2,OW,lI⟩;have q:=ah lI;clear lI;go_wp2_with fail;rw[m2.out];apply(Fw B g n f y _ t2 d i _ q.out dp dp hn dp).mono;rintro e v ⟨x3,t3,rfl,h3,ht3,Rs⟩;have r:=ah Rs;clear Rs;go_wp2_with fail;rw[o.out];apply(Fw B g n f z _ t3 d i _ r.out dp dp hn dp).mono;rintro e A ⟨x4,t4,rfl,h4,ht4,NB⟩;have s:=ah NB;clear NB;go_wp2_with fail;apply(Fv B g n f x2 x3 x4 _ t4 d i _ s.out dp dp dp dp).mono;rintro e W ⟨x1,c,rfl,h1,Wc,mR⟩;have H:=ah mR;have c1:=af mR.blk 0;clear mR;by_cases j:c=0
  .subst j;go_wp2;go_ret2;exact⟨x1,1,rfl,dp,dp,dp,H.out.su⟩
  .have k0:¬(c:Int)=0:=dp;by_cases k:c=12
   .subst k;go_wp2;go_ret2;exact⟨x1,2,rfl,dp,dp,dp,H.out.su⟩
   .have k1:¬(c:Int)=12:=dp;go_wp2;go_ret2;exact⟨x1,0,rfl,dp,dp,dp,H.out.su⟩
theorem aM.ZA{s:Value}{l:au}(a:aM w B b p h N pv s v l d n D i)(f:aC w' B p h N V d' n' j g)(hf:qQ p w w')(hn:n<=n'):aM w' B b p h N V s v l d' n' j g/\mJ b p w w':=by
 have hb:=hf.block b (zza.1 a.blk).1 (a.bP.kD a.blk du du);refine⟨{bP:=f,blk:=hb.trans a.blk,base:=a.base,segs:=hf.row a.bP a.segs du du,recs:=hf.row a.bP a.recs du du,eJ:=⟨by have:=a.eJ.1;omega,a.eJ.2⟩,iC:=by have:=a.iC;omega,kQ:=a.kQ,iO:=by have:=a.iO;omega,nU:=a.nU},?_⟩;refine⟨hf.os,hf.tape,hf.output,hf.size,λk c hn=>hf.block k c λo=>hn ?_,λk c o=>?_⟩
 .rcases o with e|e
  .exact .inr<|.inl e
  .exact .inr<|.inr<|.inr e
 .rcases o with e|e|e|e
  .exact .inl e
  .exact .inr<|.inl e
  .rw[hb]at e;exact .inr<|.inr<|.inl e
  .rcases hf.stay k c (.inr e)with e|e
   .exact .inr<|.inl e
   .exact .inr<|.inr<|.inr e
theorem qQ.keep{q:Nat}{c:Array Value}{t:TypeId}(hf:qQ p w w')(b:aC w B p h N pv d n D g)(a:w.heap[q]?=some (.cells c t (0,0)))(e:t≠65)(f:t≠200):w'.heap[q]?=some (.cells c t (0,0)):=
 (hf.block q (zza.1 a).1<|b.kD a e f).trans a
theorem S7(B a p D N n i k b f first:Nat)(pv s v:Value)(l:au)(d:aj)(w:nL)(h:aM w B a p D N pv s v l d n i k)(hn:n+2<=1000000000)(hx:first<2^64)
  (g:w.heap[b]?=some (.cells #[gx a] 66)) (j:w.heap[f]?=some (.cells #[.int .u64 (first:Int)] 34)) :
  Calls prog 162 #[gx b,gx f] w λe w'=>e=.returned (bB (d.bn first).2)/\(∃o r t,aM w' B a p D N o s v l (d.bn first).1 (n+2) r t)/\mJ a p w w':=by
 have x:=af g 0;have y:=af j 0;have m:=af h.blk 0;simp at x y m;have I:=ah h;have V:=ah g;have F:=ah j;clear h g j
 go_enter func162,ntmps162
 go_wp2
 go_region_held3 (λw'=>w'.cell? ⟨b,0,none⟩=some (.pointer<|some ⟨a,0,none⟩)/\w'.cell? ⟨a,0,none⟩=some (fS p)/\w'.cell? ⟨f,0,none⟩=some (.int .u64 (first:Int)))
  (simp[*])
  (first|(go_at_call 163;refine(H_ B p D N n i k first pv d w.drew (I.out.bP.new (Fr.refl [] w).drew) hn hx).mono ?_;rintro e c ⟨rfl,⟨mj,nK,nG,kR⟩,cY⟩;have q:=(I.out.new (Fr.refl [] w).drew).ZA kR cY dp;have u:c.cell? ⟨b,0,none⟩=some (.pointer<|some ⟨a,0,none⟩):=(af (cY.keep (I.out.bP.new (fU w).drew) (show w.drew.heap[b]?=_ from V.out) du du) 0).trans dv;have c1:c.cell? ⟨a,0,none⟩=some (fS p):=(af q.1.blk 0).trans dv;have z:c.cell? ⟨f,0,none⟩=some (.int .u64 (first:Int)):=(af (cY.keep (I.out.bP.new (fU w).drew) (show w.drew.heap[f]?=_ from F.out) du du) 0).trans dv;have Q:Hid (aM c B a p D N mj s v l (d.bn first).1 (n+2) nK nG/\mJ a p w c):=⟨q.1,(I.out.zS (fU w).drew).trans q.2⟩;clear q kR cY))
 all_goals go_wp2
 all_goals go_ret
 all_goals exact⟨rfl,⟨mj,nK,nG,Q.1⟩,Q.2⟩
theorem eQ{e:TypeId}{xs:List Value}(h:w.ownsRow B e k v n xs)(hn:0<n):∃g p,v=.slice (some<|gi g) n p:=by
 rcases h.2 with⟨_,a⟩|⟨g,p,r,rfl,_⟩
 .omega
 .grind
theorem Lc{cs m:Nat}(h:w.ownsRow B 34 1 (.slice (some<|gi g) n cs) n<|fC l)(hb:∀s∈l,s<2^64)(k x:Nat)(b:(l.take m)[k]?=some x):w.cell? (hP g<|0+k)=some (.int .u64 (x:Int))/\x<2^64:=by
 have a:l[k]?=some x:=by grind
 rw[Nat.zero_add];exact⟨n_ h k x a,hb x<|zzh a⟩
theorem S_(B a p D N n o r b g gone s cs:Nat)(pv v:Value)(l:au)(d:aj)(w:nL)(h:aM w B a p D N pv (.slice (some<|gi s) l.segs.length cs) v l d n o r)(hg:gone<=l.segs.length)(E:0<gone)(hn:n+gone<=1000000000)(hB:2<=B)(L:dJ w)
  (f:w.heap[b]?=some (.cells #[gx a] 66)) (V:w.heap[g]?=some (.cells #[.int .i64 (gone:Int)] 3)) :
  Calls prog 164 #[gx b,gx g] w λe w'=>e=.returned (bB (d.removeAll<|(l.segs.take gone).map aw).2)/\(∃T U X,aM w' B a p D N T (.slice (some<|gi s) l.segs.length cs) v l (d.removeAll<|(l.segs.take gone).map aw).1 (n+gone) U X)/\mJ a p w w':=by
 have A:=af f 0;have C:=af V 0;have j:=af h.blk 0;have c1:=af h.blk 1;simp at A C j c1
 have rN:l.segs.length<=cs/\cs<=maxLen:=by
  rcases h.segs.2 with⟨e,_⟩|⟨g',mz,Y,e,_,_,M,O,_⟩
  .cases e
  .cases e;exact⟨M,O⟩
 have W:b<w.heap.size/\g<w.heap.size/\a<w.heap.size/\s<w.heap.size/\1<w.heap.size:=⟨(zza.1 f).1,(zza.1 V).1,(zza.1 h.blk).1,(h.segs.lt s rfl).2,by have:=h.bP.base.2.2.2;omega⟩;have u:=h.eJ;have kC:=h.bP.hn;have i0:(0:Int)<=(gone:Int):=by omega
 have i1:(gone:Int)<=(cs:Int):=by omega
 have I:=ah h;have F:=ah f;have G:=ah V;have J:=ah u;have t:(l.segs.take gone).length=gone:=by rw[zzm];omega
 have S:Hid (∀x∈(l.segs.take gone).map aw,x.size<=maxLen):=by
  intro x hx;obtain⟨y,R,rfl⟩:=zzq.1 hx;have:=jr y<|u.2 y<|FQ R;unfold maxLen;omega
 clear h f V u
 go_enter func164,ntmps164
 go_wp2
 go_region_held3 (λw'=>w'.cell? ⟨b,0,none⟩=some (.pointer<|some ⟨a,0,none⟩)/\w'.cell? ⟨a,0,none⟩=some (fS p)/\w'.cell? ⟨a,1,none⟩=some (.slice (some ⟨s,0,none⟩) l.segs.length cs)/\w'.cell? ⟨g,0,none⟩=some (.int .i64 (gone:Int)))
  (simp[*])
  (first|(go_at_call 165;refine(wP s 0 gone cs (l.segs.take gone) w.drew t dp (Lc I.out.segs J.2) W.2.2.2.1 (show dJ w.drew from L) W.2.2.2.2).mono ?_;rintro e i ⟨v1,rfl,Wf,mY⟩;obtain⟨m,k,P⟩:=eQ Wf E;subst P;have c:Below w.heap.size w i:=⟨mY.os,mY.tape,mY.output,mY.size,mY.block⟩;have x1:=(c.cell (p:=⟨b,0,none⟩) W.1).trans A;have y1:=(c.cell (p:=⟨g,0,none⟩) W.2.1).trans C;have Z:=(c.cell (p:=⟨a,0,none⟩) W.2.2.1).trans j;have d1:=(c.cell (p:=⟨a,1,none⟩) W.2.2.1).trans c1;have z:Hid (Below w.heap.size w i):=c;have H:Hid (i.ownsRow w.drew.heap.size 9 1 (.slice (some ⟨m,0,none⟩) gone k) gone<|fZ<|(l.segs.take gone).map aw):=Wf;clear c mY Wf)|(go_at_call 142;refine(sD B p D N n o r m gone k _ pv d ((l.segs.take gone).map aw) i (I.out.bP.new<|Fr.bE z.out []) (by rw[zzn];exact t) hn H.out S.out).mono ?_;rintro e w2 ⟨rfl,⟨CG,DM,C1,qA⟩,bH⟩;have K:=I.out.new<|Fr.bE z.out [];have q:=K.ZA qA bH dp;have x2:w2.cell? ⟨b,0,none⟩=some (.pointer<|some ⟨a,0,none⟩):=(af (bH.keep K.bP ((z.out.block b W.1).trans F.out) du du) 0).trans dv;have y2:w2.cell? ⟨g,0,none⟩=some (.int .i64 (gone:Int)):=(af (bH.keep K.bP ((z.out.block g W.2.1).trans G.out) du du) 0).trans dv;have e0:w2.cell? ⟨a,0,none⟩=some (fS p):=(af q.1.blk 0).trans dv;have e1:w2.cell? ⟨a,1,none⟩=some (.slice (some ⟨s,0,none⟩) l.segs.length cs):=(af q.1.blk 1).trans dv;have Q:Hid (aM w2 B a p D N CG (.slice (some ⟨s,0,none⟩) l.segs.length cs) v l (d.removeAll<|(l.segs.take gone).map aw).1 (n+gone) DM C1/\mJ a p w w2):=⟨q.1,(I.out.zS<|Fr.bE z.out []).trans q.2⟩;clear q K qA bH))
 all_goals go_wp2
 all_goals go_ret
 all_goals exact⟨by rw[List.map_take];rfl,⟨CG,DM,C1,Q.1⟩,Q.2⟩
end Go.Proofs.YtlgeloebpdmnnaaGreatDoor
