import Derived.Test.YtlgeloebpdmnnaaGreatDoorC07
import Derived.RangeFuncBound
import Derived.Test.YtlgeloebpdmnnaaGreatDoorC08
set_option maxHeartbeats 4000000
set_option maxRecDepth 100000
namespace Go.Proofs.YtlgeloebpdmnnaaGreatDoor
open Go.RowKit Go.Maps Tryz Sc
theorem Xy(B a p D N n b c Z:Nat)(pv s v:Value)(l:au)(d:aj)(w:nL)(h:aM w B a p D N pv s v l d n b c)(hn:n<=1000000000)
  (g:w.heap[Z]?=some (.cells #[.func (.func 140) #[gx a] #[]] 147)) :
  Calls prog 139 #[.slice (some<|gi Z) 1 1] w (lM B a p D N n [] (l.sync d) w):=by
 have z:=af g 0;simp at z;have I:Hid (aM w B a p D N pv s v l d n b c):=h;clear h;go_enter func139,ntmps139;go_wp2;apply Bn 2;rw[wk];go_wp2_with fail;apply(tU B a p D N n b c pv s v l d w I.out hn).mono;rintro e i ⟨rfl,eK,gq⟩;have H:Hid (lM B a p D N n [] (l.sync d) w (.returned<|bB (l.sync d).2.2) i):=⟨rfl,eK,gq.x⟩;clear eK gq;by_cases f:(l.sync d).2.2=0
 .rw[f,aT]at H ⊢;go_wp2;rw[wk];go_wp2;go_ret;exact H.out
 .rw[aV f]at H ⊢;go_wp2;go_ret;exact H.out
theorem Ta(B b p D N n j m Z:Nat)(pv s v:Value)(l:au)(d:aj)(w:nL)(h:aM w B b p D N pv s v l d n j m)(hn:n<=1000000000)
  (q:w.heap[Z]?=some (.cells #[.func (.func 140) #[gx b] #[]] 147)) :
  Calls prog 156 #[gx b,.slice (some<|gi Z) 1 1] w (lM B b p D N n [] (l.wr d<|l.sync d) w):=by
 have r:=af h.blk 0;have g:=af h.blk 6;simp at r g;have I:=ah h;have y:=Nf p;by_cases hf:l.failed=0
 .rw[hf,aT]at g;have e:l.wr d (l.sync d)=({(l.sync d).1 with failed:=(l.sync d).2.2},(l.sync d).2.1,(l.sync d).2.2):=by unfold au.wr;rw[oo hf]
  rw[e];clear e;go_enter func156,ntmps156;go_wp2_with fail;apply(Xy B b p D N n j m Z pv s v l d w I.out hn q).mono;rintro e x ⟨rfl,⟨mj,tV,gM,nK,nG,eK⟩,gq⟩;have H:=ah eK;have O:=ah gq;have t:=af eK.blk 6;have u:=aq eK.blk 6;simp at t;clear eK gq q h;by_cases i:(l.sync d).2.2=0
  .rw[i,aT];go_wp2;go_ret;obtain⟨L,f⟩:=H.out.fail (c:=0) rfl;unfold lM;simp only;rw[i];exact⟨rfl,⟨mj,tV,gM,nK,nG,L⟩,O.out.trans<|H.out.ofx L f (by intro k a _;simp at a;simp[a]) (bU.refl _ _) (bU.refl _ _)<|bU.refl _ _⟩
  .have he:=aV i;obtain⟨L,f⟩:=H.out.fail (c:=(l.sync d).2.2) rfl;rw[he]at L f ⊢;have o:=ah L;clear L;go_wp2;go_ret;exact⟨by simp only;rw[he];rfl,⟨mj,tV,gM,nK,nG,o.out⟩,O.out.trans<|H.out.ofx o.out f (by intro k a _;simp at a;simp[a]) (bU.refl _ _) (bU.refl _ _)<|bU.refl _ _⟩
 .rw[aV hf]at g;have e:l.wr d (l.sync d)=(l,d,l.failed):=by unfold au.wr;rw[mE hf]
  rw[e];go_enter func156,ntmps156;go_wp2;go_ret;exact⟨by simp only;rw[aV hf];rfl,⟨pv,s,v,j,m,I.out⟩,(mJ.refl _ _ _).x⟩
theorem V_.C0{l p:Nat}{w w':nL}(h:V_ [] l p w w'):mJ l p w w':=⟨h.os,h.tape,h.output,h.size,λk a hn=>h.block k a hn dv,h.stay⟩
def au.force(l:au)(d:aj):au × aj × Nat:=if l.ak=l.next then (l,d,0) else l.wr d (l.sync d)
def lO(B l p D N n:Nat)(r:au × aj × Nat)(w:nL)(e:Ending)(w':nL):Prop :=
 e=.returned (bB r.2.2)/\(∃pv s v a b,aM w' B l p D N pv s v r.1 r.2.1 n a b)/\mJ l p w w'
theorem Pe(B a p D N n b c:Nat)(pv s v:Value)(l:au)(d:aj)(w:nL)(h:aM w B a p D N pv s v l d n b c)(hn:n<=1000000000):
  Calls prog 99 #[gx a] w (lO B a p D N n (l.force d) w):=by
 have c4:=af h.blk 4;have c5:=af h.blk 5;simp at c4 c5;have I:Hid (aM w B a p D N pv s v l d n b c):=h;clear h;by_cases q:l.ak=l.next
 .have e:l.force d=(l,d,0):=by unfold au.force;rw[oo q]
  rw[e];rw[q]at c5;go_enter func99,ntmps99;go_wp2;go_region;go_wp2;go_ret;have hf:Fr [] w w.drew:=(fU w).drew;exact⟨rfl,⟨pv,s,v,b,c,I.out.new hf⟩,I.out.zS hf⟩
 .have e:l.force d=l.wr d (l.sync d):=by unfold au.force;rw[mE q]
  rw[e];have i:¬(l.ak:Int)=(l.next:Int):=dp;have g:((l.ak:Int)==(l.next:Int))=false:=by simpa using i
  go_enter func99,ntmps99;go_wp2;go_region
  go_wp2_with fail;have hf:Fr [] w (w.drew.alloc<|.cells #[.func (.func 140) #[.pointer<|some ⟨a,0,none⟩] #[]] 147):=(fU w).drew.alloc _;apply(Ta B a p D N n b c _ pv s v l d _ (I.out.new hf) hn<|oz w.drew _).mono;rintro e f ⟨rfl,eK,gq⟩;have H:Hid (lO B a p D N n (l.wr d<|l.sync d) w (.returned<|bB (l.wr d<|l.sync d).2.2) f):=⟨rfl,eK,(I.out.zS hf).trans gq.C0⟩;clear eK gq;go_wp2;go_ret;exact H.out
section
open Go.Shelf
variable{rs:List Rec}{n:Nat}{A B:nL}
abbrev Hy(r:Rec):Value:=.agg #[.int .u64 (r.cW:Int),.int .u8 (r.kind:Int),.string (str r.pay)]
def ye(W:nL)(g:Nat)(rs:List Rec):Prop :=
 ∀k r,rs[k]?=some r->W.cell? (hP g (k*3))=some (.int .u64 (r.cW:Int))/\W.cell? (hP g (k*3+1))=some (.int .u8 (r.kind:Int))/\W.cell? (hP g (k*3+2))=some (.string (str r.pay))
theorem ye.below{g:Nat}(h:Below n A B)(a:g<n)(c:ye A g rs):ye B g rs:=λk r b=>
 ⟨(h.cell a).trans (c k r b).1,(h.cell a).trans (c k r b).2.1,(h.cell a).trans (c k r b).2.2⟩
theorem nX{k:Nat}{r:Rec}(h:rs[k]?=some r):rs.take (k+1)=rs.take k++[r]:=by
 rw[vV,h];rfl
theorem Hz(F:Fence)(n:Nat)(b:F.fn 154)(o:F.round=none)(l B p:Nat)(J:List Rec->nL->Prop)
  (W:nL) (X:W.cell? (gi B)=some (gx p)) (c:W.cell? (hP p 3)=some (.slice none 0 0)) (h:J [] W) :
  CallsIn F n prog 154 #[.func (.yield l) #[] #[],gx B] W λe a=>(∃v,e=.returned v)/\J [] a:=by
 refine callsIn_of_wp func154 rfl b ?_ o;simp only[ntmps154,ji,zzr,jn,Nat.reduceAdd,Nat.reduceSub,mK,jo,j7,j8,kV,lC];gi_wp2;gi_loopw [10] (λi wr=>i=.int .i64 0/\J [] wr) (λ_ _=>0);.exact⟨rfl,h⟩
 .obtain⟨rfl,s⟩:=hrel;gi_wp2;go_end0;exact⟨⟨_,rfl⟩,s⟩
theorem Lb(F:Fence)(n:Nat)(h:F.fn 97)(o:F.round=none)(p:Option Addr)(w:nL):
  CallsIn F n prog 97 #[.pointer p] w λe w'=>e=.returned (.func (.func 154) #[] #[gx w.heap.size])/\w'=w.alloc (.cells #[.pointer p] 66):=by
 refine callsIn_of_wp func97 rfl h ?_ o;simp only[ntmps97,ji,zzr,jn,Nat.reduceAdd,Nat.reduceSub,mK,jo,j7,j8,kV,lC];gi_wp2;go_ret;exact⟨rfl,rfl⟩
def yf(n:Nat)(W:nL)(v:Value)(rs:List Rec):Prop :=
 (v=.slice none 0 0/\rs=[])\/∃g p,v=.slice (some (gi g)) rs.length p/\g<n/\ye W g rs
theorem yf.below{v:Value}(h:Below n A B)(r:yf n A v rs):yf n B v rs:=by
 obtain e|⟨g,cap,e,hg,r⟩:=r
 .exact .inl e
 .exact .inr ⟨g,cap,e,hg,r.below h hg⟩
end
variable{S l ps rest:List Nat}{b f n p:Nat}{q:Nat->Bool}{w w':nL}
theorem Pz(l:List Nat):(str l).data=(l.map λx=>UInt8.ofNat x).toArray:=by
 have a:∀(l:List Nat) (r:nS),((l.map λx:Nat=>(x:Int)).foldl (λr n=>r.push<|UInt8.ofNat n.toNat) r).data=r.data++(l.map λx=>UInt8.ofNat x).toArray:=by
  intro l;induction l with
  |nil=>grind
  |cons x l ih=>simp_all
 unfold str;rw[a];simp
theorem gv(h:mG l):bytesOf (str l)=l:=by
 unfold bytesOf;rw[Pz];simp only[List.map_map];have:∀(m:List Nat),mG m->m.map (UInt8.toNat∘λx=>UInt8.ofNat x)=m:=by
  intro m;induction m with
  |nil=>grind
  |cons x m ih=>
   intro hb;have hx:=hb x dv;rw[List.map_cons,ih λy a=>hb y<|by simp[a]];congr 1;simp;omega
 exact this l h
abbrev Ik(b f n p:Nat):Obj:=.cells #[.slice (some (hP b f)) n p,.bool false] 366
def zr(w:nL)(f:Nat)(rest:List Nat):Prop :=
 ∃b o p,w.heap[f]?=some (Ik b o rest.length p)/\cX w b o rest/\b<w.heap.size/\rest.length<=p/\p<=maxLen/\b≠f/\mG rest
theorem zr.lt(h:zr w p rest):p<w.heap.size:=by have⟨_,_,_,a,_⟩:=h;exact(zza.1 a).1
theorem zr.keep(h:zr w p rest)(hf:∀k,n<=k->k<w.heap.size->w'.heap[k]?=w.heap[k]?)(s:w.heap.size<=w'.heap.size)(hb:∀b f c,w.heap[p]?=some (Ik b f rest.length c)->n<=b)(hn:n<=p):zr w' p rest:=by
 have V:=h.lt;have⟨b,f,c,d,e,g,j⟩:=h;refine⟨b,f,c,(hf p hn V).trans d,λi l=>?_,dp,j⟩;exact(zze<|hf b (hb b f c d) g).trans<|e i l
structure g_(n:Nat)(w:nL)(fp:Nat)(rest:List Nat):Prop where
 XK:zr w fp rest
 low:n<=fp
 row:∀b off cap,w.heap[fp]?=some (Ik b off rest.length cap)->n<=b
 typ:∀b off cap,w.heap[fp]?=some (Ik b off rest.length cap)->∃c fr,w.heap[b]?=some (.cells c 5 fr)
theorem g_.keep(h:g_ n w f rest)(hf:∀k,n<=k->k<w.heap.size->w'.heap[k]?=w.heap[k]?)(s:w.heap.size<=w'.heap.size):g_ n w' f rest:=by
 have V:=h.XK.lt;refine⟨h.XK.keep hf s h.row h.low,h.low,λb o p hb=>?_,λb o p hb=>?_⟩
 .rw[hf f h.low V]at hb;exact h.row b o p hb
 .rw[hf f h.low V]at hb;have⟨c,fr,a⟩:=h.typ b o p hb;exact⟨c,fr,(hf b (h.row b o p hb) (zza.1 a).1).trans a⟩
theorem g_.apart{d:Nat}(h:g_ n w d rest)(hf:Fr S w w')(l:∀k∈S,k≠d/\∀c fr,w.heap[k]?≠some (.cells c 5 fr)):g_ n w' d rest:=by
 have V:=h.XK.lt;have g:=hf.block d V λe=>(l d e).1 rfl
 have j:∀b f p,w.heap[d]?=some (Ik b f rest.length p)->w'.heap[b]?=w.heap[b]?:=λb f p hb=>by
  have⟨c,fr,m⟩:=h.typ b f p hb;exact hf.block b (zza.1 m).1 λe=>(l b e).2 c fr m
 refine⟨?_,h.low,λb f p hb=>h.row b f p<|by rw[<-g];exact hb,λb f p hb=>?_⟩
 .obtain⟨b,f,p,h1,h2,h3,h4⟩:=h.XK;refine⟨b,f,p,g.trans h1,λi o=>?_,by have:=hf.size;omega,h4⟩;exact(zze<|j b f p h1).trans<|h2 i o
 .rw[g]at hb;rw[j b f p hb];exact h.typ b f p hb
theorem g_.fr(h:g_ n w p rest)(hf:Fr S w w')(a:∀k∈S,k<n):g_ n w' p rest:=
 h.keep (λk b l=>hf.block k l λm=>by have:=a k m;omega) hf.size
theorem Fg(l:List Nat)(d:mG l)(s:l.length<=4096)(w:nL):
  Calls prog 210 #[.string<|str l] w λe w'=>∃g,e=.returned (gx g)/\g_ w.heap.size w' g l/\Fr [] w w':=by
 have B:=DH w<|str l;have z:(str l).size=l.length:=by rw[<-iZ,gv d]
 have a:=MW w (str l)<|grownCap w (str l).size 0 5;have o:(w.drew.alloc<|G_ (str l)<|grownCap w (str l).size 0 5).heap[w.heap.size]?=some (G_ (str l)<|grownCap w (str l).size 0 5):=oz w.drew _;have U:=grownCap_ge w (str l).size 0 5;have f:=grownCap_le_maxLen w (str l).size 0 5 (by rw[z];unfold maxLen;omega);rw[gv d]at a;have⟨W,h⟩:=gb <|w.drew.alloc (G_ (str l)<|grownCap w (str l).size 0 5);have hf:Fr [] w W:=by rw[h];exact(fU w).drew.alloc _
 have T:W.heap.size=w.heap.size+1:=by rw[h];simp
 rw[<-h]at B a o;rw[z]at B U f;have⟨p,N⟩:=gb <|grownCap w l.length 0 5;rw[<-N]at B U f;clear h N z;go_enter func210,ntmps210;go_wp2;go_ret;have hn:=oz W<|Ik w.heap.size 0 l.length p;refine⟨W.heap.size,by rw[T];rfl,⟨⟨w.heap.size,0,p,hn,λi j=>?_,by simp;omega,U,f,dp,d⟩,by omega,λb k c hb=>?_,λb k c hb=>?_⟩,hf.alloc _⟩
 .rw[sR _ _ ⟨w.heap.size,0+i,none⟩<|by show w.heap.size<_;omega];exact a i j
 .rw[hn]at hb;cases hb;exact zzc _
 .rw[hn]at hb;cases hb;exact⟨_,_,(zzf _ _ _ (by omega)).trans o⟩
theorem cX.fr(h:cX w b f l)(hb:w'.heap[b]?=w.heap[b]?):cX w' b f l:=λi c=>
 (zze hb).trans (h i c)
def acR(n p:Nat)(rest:List Nat)(k:Nat)(w:nL)(e:Ending)(w':nL):Prop :=
 ∃b f,e=.returned (.slice (some (hP b f)) k k)/\cX w' b f (rest.take k)/\g_ n w' p (rest.drop k)/\Fr [p] w w'
theorem DV(n p k:Nat)(rest:List Nat)(w:nL)(h:g_ n w p rest)(C:k<=rest.length)(mL:k<=4096):
  Calls prog 299 #[gx p,.int .i64 (k:Int)] w (acR n p rest k w):=by
 have⟨⟨b,f,c,d,y,G,z,I,A,J⟩,P,v,S⟩:=h;have u:=S b f c d;have g:=af d 0;have x:=aq d 0;simp at g;have N:=v b f c d;have H:=ah<|zzb d y;have rV:=(zza.1 d).1;have⟨m,r⟩:=gb rest.length;rw[<-r]at g C z H;have t:=ah r;have X:¬(m:Int)<k:=dp
 have U:=xW b f m c k w C z I;have D:=ah u;clear d y r v S u;go_enter func299,ntmps299;go_wp2_with fail;apply U.mono;rintro e w1 ⟨rfl,q,rfl⟩;have⟨l,hcut⟩:∃l,vp b f k c=some ⟨b,l,none⟩/\(k<c->l=f+k):=by
  unfold vp;by_cases B:c=k
  .rw[oo B];exact⟨f,rfl,λh=>dp⟩
  .rw[mE B];exact⟨f+k,rfl,λ_=>rfl⟩
 have⟨Z,T⟩:=hcut;rw[Z];have R:(w.drewN q).cell? (gi p)=some (.slice (some<|hP b f) m c):=by rw[zze<|show(w.drewN q).heap[p]?=w.heap[p]? by rw[heap_drewN]];exact g
 have V:(w.drewN q).frozen? (gi p)=false:=by rw[zzw<|show(w.drewN q).heap[p]?=w.heap[p]? by rw[heap_drewN]];exact x
 clear g x Z;go_wp2;go_ret;have⟨W,o⟩:∃W,W=(w.drewN q).setCell ⟨p,0,none⟩ (.slice (some ⟨b,l,none⟩) (m-k)<|c-k):=⟨_,rfl⟩;rw[<-o];have hf:Fr [p] w W:=by rw[o];exact(mX (Fr.refl [p] w) q).setCell (.inl dv) _
 have s:=hf.block b G<|by simpa using A
 have L:W.heap[p]?=some (Ik b l (m-k)<|c-k):=by
  have:(w.drewN q).heap[p]?=some (Ik b f m c):=by rw[heap_drewN];exact H.1
  have:=aF this 0<|.slice (some<|hP b l) (m-k)<|c-k;rw[o];simpa using this
 have M:(rest.drop k).length=m-k:=by rw[zzz,t.out]
 refine⟨b,f,rfl,λi j=>?_,⟨⟨b,l,c-k,by rw[M];exact L,λi j=>?_,by have:=hf.size;omega,by rw[M];omega,dp,A,J.drop k⟩,P,λF Q c' Y=>?_,λF Q c' Y=>?_⟩,hf⟩
 .have E:i<rest.length:=by rw[zzm]at j;omega
  have K:i<k:=by rw[zzm]at j;omega
  rw[(H.2.fr s) i E];simp[at_,List.getElem?_take_of_lt K]
 .rw[M]at j;have O:=T dp;have E:k+i<rest.length:=by rw[<-t.out];omega
  have:=(H.2.fr s) (k+i) E;rw[O,Nat.add_assoc];rw[this];simp[at_,List.getElem?_drop]
 .rw[M,L]at Y;cases Y;exact N
 .rw[M,L]at Y;cases Y;rw[s];exact D.out
theorem yj(n p:Nat)(rest:List Nat)(w:nL)(h:g_ n w p rest)(k:8<=rest.length):
  Calls prog 265 #[gx p] w λe w'=>e=.returned (.int .u64 ((val (rest.take 8):Nat):Int))/\g_ n w' p (rest.drop 8)/\Fr [p] w w':=by
 have hb:mG rest:=by have⟨_,_,_,_,_,_,_,_,_,h⟩:=h.XK;exact h
 have t:=DV n p 8 rest w h k dp;clear h;go_enter func265,ntmps265;go_wp2_with fail;apply(tL w).mono;rintro e c ⟨rfl,rfl⟩;go_wp2_with fail;apply t.mono;rintro e w2 ⟨b,off,rfl,aW,bH,kO⟩;have H:=ah<|zzb bH kO;have a:(rest.take 8).length=8:=by rw[zzm];omega
 have F:=G4 b off 8 8 (rest.take 8) w2 (hb.take 8) a dp dp eE aW;rw[List.take_take,Nat.min_self]at F;go_wp2_with fail;apply F.mono;rintro e d ⟨rfl,q,rfl⟩;go_wp2;go_ret;exact⟨rfl,H.1.fr (mX (fU w2) q) dv,mX H.2 q⟩
theorem Tq(n p:Nat)(rest:List Nat)(w:nL)(h:g_ n w p rest)(k:1<=rest.length):
  Calls prog 267 #[gx p] w λe w'=>e=.returned (.int .u8 ((val (rest.take 1):Nat):Int))/\g_ n w' p (rest.drop 1)/\Fr [p] w w':=by
 have hb:mG rest:=by have⟨_,_,_,_,_,_,_,_,_,h⟩:=h.XK;exact h
 have t:=DV n p 1 rest w h k dp;clear h;go_enter func267,ntmps267;go_wp2_with fail;apply(wJ w).mono;rintro e c ⟨rfl,rfl⟩;go_wp2_with fail;apply t.mono;rintro e w2 ⟨b,off,rfl,aW,bH,kO⟩;have H:=ah<|zzb bH kO;have a:(rest.take 1).length=1:=by rw[zzm];omega
 have F:=MR b off 1 1 (rest.take 1) w2 (hb.take 1) a dp dp eE aW;rw[List.take_take,Nat.min_self]at F;go_wp2_with fail;apply F.mono;rintro e d ⟨rfl,q,rfl⟩;go_wp2;go_ret;exact⟨rfl,H.1.fr (mX (fU w2) q) dv,mX H.2 q⟩
theorem Im(n p:Nat)(rest:List Nat)(w:nL)(h:g_ n w p rest):
  Calls prog 266 #[gx p] w λe w'=>e=.returned (.bool<|decide<|0<rest.length)/\w'=w:=by
 obtain⟨⟨b,o,f,a,_⟩,_,_⟩:=h;have c:=af a 0;simp at c;clear a;have⟨m,d⟩:=gb rest.length;rw[<-d]at c ⊢;clear d;go_enter func266,ntmps266;go_wp2;go_ret;refine⟨?_,rfl⟩;simp
theorem yl(n p:Nat)(rest:List Nat)(w:nL)(h:g_ n w p rest):
  Calls prog 270 #[gx p] w λe w'=>e=.returned (.bool<|!decide (0<rest.length))/\w'=w:=by
 have m:=Im n p rest w h;obtain⟨⟨b,f,c,a,_⟩,_,_⟩:=h;have c1:=af a 1;simp at c1;go_enter func270,ntmps270;go_wp2_with fail;apply m.mono;rintro e d ⟨rfl,rfl⟩;go_wp2;go_ret;exact⟨rfl,rfl⟩
def idxOf(q:Nat->Bool)(ps:List Nat):Int:=if ps.any q then (ps.findIdx q:Int) else -1
theorem SZ(h:ps.length=9):ps.any q=false↔∀k,k<9->q (ps.getD k 0)=false:=by
 rw[List.any_eq_false];constructor
 .grind
 .intro hx x hm;obtain⟨k,a,rfl⟩:=List.mem_iff_getElem.1 hm;have:=hx k dp;have e:ps.getD k 0=ps[k]:=by simp[a]
  rw[e]at this;simp[this]
theorem Fa(h:ps.length=9){k:Nat}(f:k<9)(c:q (ps.getD k 0)=true)(b:∀j,j<k->q (ps.getD j 0)=false):idxOf q ps=(k:Int):=by
 have e:∀j,(a:j<ps.length)->ps.getD j 0=ps[j]:=λj a=>by simp[a]
 have d:ps.any q=true:=by grind
 unfold idxOf;rw[oo d];congr 1;rw[List.findIdx_eq dp];exact⟨by rw[<-e k dp];exact c,λj a=>by rw[<-e j dp];exact b j a⟩
abbrev Fb(f:Nat):Value:=.func (.func f) #[] #[]
def Enters(f:Nat):Prop:=∀args w,(callFunc f args).run prog w=.ok (.enter f args) w
theorem Xx(f:Nat)(q:Nat->Bool)(r:uQ f q)(C:Enters f)(b:Nat)(ps:List Nat)(l:ps.length=9)(hp:∀p∈ps,p<256)(w:nL)(c:∀k,k<9->w.cell? (hP b<|1+k)=some (.int .u8 ((ps.getD k 0:Nat):Int))):
  Calls prog 288 #[.slice (some<|hP b 1) 9 9,Fb f] w λe w'=>e=.returned (.int .i64<|idxOf q ps)/\w'=w:=by
 have m:Hid (∀k,k<9->w.cell? ⟨b,1+k,none⟩=some (.int .u8 ((ps.getD k 0:Nat):Int))):=c;clear c;go_enter func288,ntmps288;go_wp2;go_loopw [8] (λi wr=>∃k:Nat,k<=9/\i=.int .i64 k/\wr=w/\Hid (∀j,j<k->q (ps.getD j 0)=false)) (λi _=>9-(intOf i).toNat);.exact⟨0,zzs _,rfl,rfl,λj o=>dp⟩
 case round=>
  obtain⟨k,s,rfl,rfl,H⟩:=hrel;by_cases W:k<9
  .have i9:(k:Int)<9:=dp;have t:(0:Int)<=k:=dp;have n:=m.out k W;have d:=r (ps.getD k 0) wr (by
    by_cases hx:ps.getD k 0∈ps
    .exact hp _ hx
    .exact absurd (by simp[l,W]:ps.getD k 0∈ps) hx)
   have⟨P,h⟩:=gb <|ps.getD k 0;rw[<-h]at n d;have a:Hid (P=ps.getD k 0):=h;clear h;unfold Enters at C;go_wp2_with fail;refine d.mono ?_;rintro e w2 ⟨rfl,rfl⟩;cases g:q P with
   |true=>
    go_wp2;go_ret;exact⟨by rw[Fa l W (by rw[<-a.out];exact g) H.out];rfl,rfl⟩
   |false=>
    go_wp2;go_roundw;.exact⟨k+1,dp,dv,dv,λj o=>by
     by_cases e:j=k
     .rw[e,<-a.out];exact g
     .exact H.out j dp⟩
    case measure=>simp[intOf];omega
  .obtain rfl:k=9:=dp;go_wp2;go_ret;refine⟨?_,rfl⟩;unfold idxOf;rw[mE<|by rw[(SZ l).2 H.out];decide];rfl
theorem Fc(f:Nat)(q:Nat->Bool)(m:uQ f q)(H:Enters f)(b:Nat)(ps:List Nat)(l:ps.length=9)(hp:∀p∈ps,p<256)(w:nL)(c:∀k,k<9->w.cell? (hP b<|1+k)=some (.int .u8 ((ps.getD k 0:Nat):Int))):
  Calls prog 254 #[.slice (some<|hP b 1) 9 9,Fb f] w λe w'=>e=.returned (.bool<|ps.any q)/\w'=w:=by
 have i:=Xx f q m H b ps l hp w c;clear c hp m H;by_cases h:ps.any q=true
 .have e:idxOf q ps=(ps.findIdx q:Int):=by unfold idxOf;rw[oo h]
  rw[e]at i;rw[h];clear e h;have d:(0:Int)<=(ps.findIdx q:Int):=dp;have⟨I,a⟩:∃I:Int,I=(ps.findIdx q:Int):=⟨_,rfl⟩;rw[<-a]at i d;clear a;go_enter func254,ntmps254;go_wp2_with fail;apply i.mono;rintro e w2 ⟨rfl,rfl⟩;go_wp2;go_ret;exact⟨dv,rfl⟩
 .have e:idxOf q ps=-1:=by unfold idxOf;rw[mE h]
  rw[e]at i;have hf:ps.any q=false:=by simpa using h
  rw[hf];clear e h hf;go_enter func254,ntmps254;go_wp2_with fail;apply i.mono;rintro e w2 ⟨rfl,rfl⟩;go_wp2;go_ret;exact⟨rfl,rfl⟩
theorem S0{t:fQ}(h:w.heap[b]?=some (.cells (J9 t).toArray 249 (0,0)))(c:t.Ok):∀k,k<9->w.cell? (hP b<|1+k)=some (.int .u8 ((t.parts.getD k 0:Nat):Int)):=by
 intro k a;have:=af h<|1+k;rw[this];have⟨s,ps,z,q⟩:=t;obtain⟨p,d,e,f,g,i,j,l,m,rfl⟩:=nine c.1;obtain rfl|rfl|rfl|rfl|rfl|rfl|rfl|rfl|rfl:=E8 a<;>rfl
theorem tZ(f:Nat)(q:Nat->Bool)(m:uQ f q)(H:Enters f)(t:fQ)(a:t.Ok)(w:nL):
  Calls prog 200 #[lz t,Fb f] w λe w'=>e=.returned (.bool<|t.parts.any q)/\Fr [] w w':=by
 have⟨W,h⟩:=gb <|w.alloc (.cells (J9 t).toArray 249);have hb:W.heap[nF w]?=some (.cells (J9 t).toArray 249 (0,0)):=by rw[h];exact oz w _
 have i:=Fc f q m H (nF w) t.parts a.1 a.2 W<|S0 hb a;have F:Hid (Fr [] w W):=by rw[h];exact(fU w).alloc _
 clear m H hb;have⟨A,b⟩:=gb <|t.parts.any q;rw[<-b]at i ⊢;clear b;have⟨s,ps,z,u⟩:=t;obtain⟨p,c,d,g,k,l,n,o,r,rfl⟩:=nine a.1;rw[bC];go_enter func200,ntmps200;go_wp2_with fail;have j:W=w.alloc (.cells #[.int .i64 (s:Int),.int .u8 (p:Int),.int .u8 (c:Int),.int .u8 (d:Int),.int .u8 (g:Int),.int .u8 (k:Int),.int .u8 (l:Int),.int .u8 (n:Int),.int .u8 (o:Int),.int .u8 (r:Int),.int .u64 (z:Int),bB u] 249):=h;rw[<-j];clear h j;apply i.mono;rintro e w2 ⟨rfl,rfl⟩;go_wp2;go_ret;exact⟨rfl,F.out⟩
theorem sU(a b:List Nat)(n:Nat)(h:a.length=n):(a++b).take n=a:=by grind
theorem qc(a b:List Nat)(n:Nat)(h:a.length=n):(a++b).drop n=b:=by grind
theorem aa6(x k:Nat)(l r:List Nat):(d_ x k l++r).take 2=be 2 l.length:=by grind[d_,sU,ew]
theorem yx(x k:Nat)(l r:List Nat)(h:l.length<=255):gX (d_ x k l++r)=l.length:=by grind[gX,aa6,py]
theorem PU(x k:Nat)(l r:List Nat)(a:l.length<=255)(h:k<256)(hb:mG l):gK (aB x k l++r)=true:=by
 have e:aB x k l++r=d_ x k l++(be 4 (Gs<|d_ x k l)++r):=by grind[aB]
 have hlen:(d_ x k l++(be 4 (Gs<|d_ x k l)++r)).length=15+l.length+r.length:=by simp[pd,ew];omega
 rw[e];have hf:=yx x k l (be 4 (Gs<|d_ x k l)++r) a;apply zk (Hc dp dp dp);unfold KG;rw[hf,sU _ _ _<|pd x k l,qc _ _ _<|pd x k l,sU _ _ _<|ew _ _,py 4 _<|RQ _<|sw x k l h hb];simp
theorem PV(x k:Nat)(l r:List Nat)(a:l.length<=255)(hx:x<2^64):rD (aB x k l++r)=⟨x,k,l⟩:=by
 have e:aB x k l++r=d_ x k l++(be 4 (Gs<|d_ x k l)++r):=by grind[aB]
 have hf:=yx x k l (be 4 (Gs<|d_ x k l)++r) a;rw[e];unfold rD;rw[hf];unfold d_;generalize be 4 _++r=q;have h:(be 2 l.length++be 8 x++[k]++l++q).drop 2=be 8 x++([k]++(l++q)):=by grind[qc,ew]
 have Z:(be 2 l.length++be 8 x++[k]++l++q).drop 11=l++q:=by grind[be,qc,ew]
 have G:(be 2 l.length++be 8 x++[k]++l++q).drop 10=k::(l++q):=by grind[be,qc,ew]
 have g:at_ (be 2 l.length++be 8 x++[k]++l++q) 10=k:=by grind[E1,be,at_]
 rw[h,Z,g,sU _ _ _<|ew _ _,sU _ _ _ rfl,py 8 _ hx]
theorem D'(x k:Nat)(l r:List Nat)(h:l.length<=255):gX (aB x k l++r)=l.length:=by grind[aB,d_,be,Gs,yx]
theorem PW(x k:Nat)(l:List Nat)(h:l.length<=255)(p:Nat)(hp:p<15+l.length):gK ((aB x k l).take p)=false:=by
 have hlen:=gu x k l;by_cases a:p<15
 .grind [ko,qL]
 .refine ko<|Hd ?_
  have hf:gX ((aB x k l).take p)=l.length:=by
   unfold gX;rw[List.take_take,show min 2 p=2 by omega];have:=D' x k l [] h;rw[wo]at this;exact this
  rw[hf,zzm];omega
def rb(S:Nat->nS)(j:Nat):List Nat:=aB j j (bytesOf (S j))
def recs(S:Nat->nS)(j:Nat):List Rec:=(List.range j).map λq=>⟨q,q,bytesOf (S q)⟩
def Ns(l:List Nat)(w:nL)(e:Ending)(w':nL):Prop :=
 ∃k v,e=.returned (.tuple #[v,.int .i64 ((st k l).2:Nat)])/\uN l k/\w'.ownsRow w.heap.size 89 3 v k (cM (st k l).1)/\(k=0->v=.slice none 0 0)/\Below w.heap.size w w'
theorem Pv(w:nL):Calls prog 257 #[.slice none 0 0] w (Ns [] w):=by
 have V:∀(x:Bool) (w:nL),(Op.unary .not<|.bool x).run prog w=.ok (.bool<|!x) w:=λ_ _=>rfl
 go_enter func257,ntmps257;go_wp2;apply Bn 1;rw[wk];go_wp2_with fail;apply(mS _ _ _ _ dp).mono;rintro e a ⟨rfl,rfl⟩;go_wp2;go_ret2;exact⟨0,_,rfl,OK,zzu _ _ _ _,λ_=>rfl,(zzD _ _).alloc (zzc _) _⟩
theorem To(v:Value)(l:List Nat)(w:nL)(s:Src w v l)(hb:mG l)(h:l.length<=4398046511103):Calls prog 257 #[v] w (Ns l w):=by
 rcases s with⟨rfl,rfl⟩|⟨b,f,p,rfl,W,a,c,iy⟩
 .exact Pv w
 .exact KM b f p l w hb h W a c iy
theorem Bz:∀(rs:List Rec) (i:Nat) (h:i<rs.length),(cM rs)[i*3]?=some (.int .u64 (rs[i].cW:Int))/\(cM rs)[i*3+1]?=some (.int .u8 (rs[i].kind:Int))/\(cM rs)[i*3+2]?=some (.string<|str rs[i].pay)
 |[],i,h=>absurd h<|Nat.not_lt_zero _
 |r::rs,0,_=>⟨rfl,rfl,rfl⟩
 |r::rs,i+1,h=>by
  have ih:=Bz rs i<|by simpa using h
  have e:∀j,(cM (r::rs))[(i+1)*3+j]?=(cM rs)[i*3+j]?:=λj=>by
   show(dQ r++cM rs)[(i+1)*3+j]?=_;rw[Hn<|by simp[dQ];omega];congr 1;simp[dQ];omega
  exact⟨(e 0).trans ih.1,(e 1).trans ih.2.1,(e 2).trans ih.2.2⟩
def aaT(w:nL)(v:Value)(rs:List Rec):Prop :=
 ∃o p,v=.slice o rs.length p/\∀i (h:i<rs.length),∃g,o=some (gi g)/\w.cell? (hP g (i*3))=some (.int .u64 (rs[i].cW:Int))/\w.cell? (hP g (i*3+1))=some (.int .u8 (rs[i].kind:Int))/\w.cell? (hP g (i*3+2))=some (.string (str rs[i].pay))
theorem Ll{base:Nat}{v:Value}{rs:List Rec}(h:w.ownsRow base 89 3 v n<|cM rs):aaT w v rs:=by
 have l:rs.length=n:=by have:=h.1;rw[tQ]at this;omega
 rcases h.2 with⟨rfl,b⟩|⟨g,p,r,rfl,hb,m,rest⟩
 .exact⟨none,0,by rw[l,b],λi a=>dp⟩
 .refine⟨_,p,by rw[l],λi a=>⟨g,rfl,?_⟩⟩
  have c:∀j u,(cM rs)[j]?=some u->w.cell? (hP g j)=some u:=λj u k=>by
   have:=h.cells rfl j u k;simpa [Addr.add_lit]using this
  have⟨d,e,f⟩:=Bz rs i a;exact⟨c _ _ d,c _ _ e,c _ _ f⟩
def vB(w:nL)(g:Nat)(xs:List Nat):Prop:=∀(k x:Nat),xs[k]?=some x->w.cell? (hP g k)=some (.int .i64 (x:Int))
structure j_(xs:List Nat):Prop where
 ne:xs≠[]
 up:xs.Pairwise (· < ·)
 b:∀x∈xs,1<=x/\x<=8
theorem j_.len{xs:List Nat}(h:j_ xs):xs.length<=8:=by
 have y:∀(l:List Nat) (o:Nat),l.Pairwise (· < ·)->(∀x∈l,o<x/\x<=8)->l.length+o<=8\/l=[]:=by
  intro l;induction l with
  |nil=>grind
  |cons a r ih=>
   intro o hp hb;have⟨b,c⟩:=zzA.1 hp;have d:=hb a dv;left;rcases ih a c (λx hx=>⟨b x hx,(hb x<|by simp[hx]).2⟩)with h|h
   .simp;omega
   .grind
 rcases y xs 0 h.up (λx hx=>⟨(h.b x hx).1,(h.b x hx).2⟩)with e|e
 .omega
 .grind
theorem Ih(g p:Nat)(xs:List Nat)(r:j_ xs)(w:nL)(hx:vB w g xs):
  Calls prog 195 #[.slice (some<|gi g) xs.length p] w λe w'=>e=.returned (.bool true)/\w'=w:=by
 have R:Hid (j_ xs):=r;have X:Hid (vB w g xs):=hx;have⟨m,h⟩:=gb xs.length;have M:Hid (m=xs.length):=h;have T:m<=8:=by rw[h];exact r.len
 have q:0<m:=by rw[h];exact zzE.2 r.ne
 rw[<-h];go_enter func195,ntmps195;go_wp2;go_loopw [3,8] (λL i wr=>∃k y:Nat,k<=m/\i=.int .i64 k/\L=.int .i64 y/\wr=w/\Hid ((k=0->y=0)/\(∀j,k=j+1->xs[j]?=some y))) (λ_ i _=>m-(intOf i).toNat);case atStart=>exact⟨0,0,zzs _,rfl,rfl,rfl,λ_=>rfl,λj a=>dp⟩
 case round=>
  obtain⟨k,y,t,rfl,rfl,rfl,H⟩:=hrel;by_cases W:k<m
  .obtain⟨x,Nq⟩:∃x,xs[k]?=some x:=⟨_,zzg<|by have:=M.out;omega⟩;have s:=X.out k x Nq;have hb:=R.out.b x<|zzh Nq
   have v:y<x:=by
    obtain e|e:=Nat.eq_zero_or_pos k
    .rw[H.1 e];omega
    .obtain⟨j,rfl⟩:∃j,k=j+1:=⟨k-1,dp⟩;have l:=H.2 j rfl;have⟨b,c⟩:=zzd.1 l;have⟨d,f⟩:=zzd.1 Nq;have:=DS.1 R.out.up j (j+1) b d dp;rw[c,f]at this;exact this
   have n:¬(x:Int)<=y:=dp;have z:¬(8:Int)<x:=dp;have o:(k:Int)<m:=dp;have K:Hid (xs[k]?=some x):=Nq;go_wp2;go_roundw;case rel=>
    have J:∀j,k+1=j+1->xs[j]?=some x:=λj a=>by
     have e:j=k:=dp;rw[e];exact K.out
    exact⟨k+1,x,dp,dv,rfl,dv,λe=>dp,J⟩
   case measure=>simp[intOf];omega
  .obtain rfl:k=m:=dp;have u:0<y:=by
    have⟨j,a⟩:∃j,k=j+1:=⟨k-1,dp⟩;have:=R.out.b y<|zzh<|H.2 j a;omega
   have n:(0:Int)<y:=dp;have o:¬(k:Int)<k:=dp;go_wp2;go_ret;exact⟨dv,rfl⟩
def cO(xs:List Nat)(e:Nat):List Nat:=xs.foldl (λps x=>ps.set x e) [0,0,0,0,0,0,0,0,0]
theorem Ii(xs:List Nat)(x e:Nat):cO (xs++[x]) e=(cO xs e).set x e:=by simp[cO]
theorem k_(xs:List Nat)(e:Nat):(cO xs e).length=9:=by
 unfold cO;have:∀(l:List Nat) (ps:List Nat),(l.foldl (λps x=>ps.set x e) ps).length=ps.length:=by
  intro l;induction l with
  |nil=>grind
  |cons a r ih=>grind
 rw[this];rfl
abbrev Pp(ps:List Nat):Array Value:=(ps.map λp:Nat=>Value.int .u8 (p:Int)).toArray
theorem zq(g a' b:Nat)(xs:List Nat)(t:j_ xs)(w:nL)(hx:vB w g xs):
  Calls prog 196 #[.slice (some<|gi g) xs.length a',.int .u8 (b:Int)] w λe w'=>e=.returned (Xm<|cO xs b)/\Fr [] w w':=by
 have U:Hid (j_ xs):=t;have R:∀x,xs[0]?=some x->g<(nF w):=λx y=>zzF w _<|hx 0 x y
 have HX:Hid (vB w g xs):=hx;have⟨m,s⟩:=gb xs.length;have M:Hid (m=xs.length):=s;have Ti:m<=8:=by rw[s];exact t.len
 have hg:g<(nF w):=by
  have⟨x,y⟩:∃x,xs[0]?=some x:=⟨_,zzg<|zzE.2 t.ne⟩;exact R x y
 rw[<-s];go_enter func196,ntmps196;go_wp2;have⟨W,Z⟩:=gb <|(w.alloc<|.cells #[.int .u8 0,.int .u8 0,.int .u8 0,.int .u8 0,.int .u8 0,.int .u8 0,.int .u8 0,.int .u8 0,.int .u8 0] 247).alloc (.cells #[.int .u8 0,.int .u8 0,.int .u8 0,.int .u8 0,.int .u8 0,.int .u8 0,.int .u8 0,.int .u8 0,.int .u8 0] 247);rw[<-Z];have I:Fr [] w W:=by rw[Z];exact((fU w).alloc _).alloc _
 have Q:W.heap[nF w]?=some (.cells (Pp [0,0,0,0,0,0,0,0,0]) 247 (0,0)):=by rw[Z,zzf _ _ (nF w) dv];exact oz w _
 have Y:W.heap[nF w+1]?=some (.cells (Pp [0,0,0,0,0,0,0,0,0]) 247 (0,0)):=by
  rw[Z];have:=oz (w.alloc<|.cells #[.int .u8 0,.int .u8 0,.int .u8 0,.int .u8 0,.int .u8 0,.int .u8 0,.int .u8 0,.int .u8 0,.int .u8 0] 247)<|.cells #[.int .u8 0,.int .u8 0,.int .u8 0,.int .u8 0,.int .u8 0,.int .u8 0,.int .u8 0,.int .u8 0,.int .u8 0] 247
  rwa [zzv]at this
 have X:Hid (Fr [] w W/\W.heap[nF w]?=some (.cells (Pp [0,0,0,0,0,0,0,0,0]) 247 (0,0))/\W.heap[nF w+1]?=some (.cells (Pp [0,0,0,0,0,0,0,0,0]) 247 (0,0))):=⟨I,Q,Y⟩;go_loopw [10] (λi wr=>∃k:Nat,k<=m/\i=.int .i64 k/\Hid (Fr [] w wr/\wr.heap[nF w]?=some (.cells (Pp [0,0,0,0,0,0,0,0,0]) 247 (0,0))/\wr.heap[nF w+1]?=some (.cells (Pp<|cO (xs.take k) b) 247 (0,0)))) (λi _=>m-(intOf i).toNat)
 .exact⟨0,zzs _,rfl,X.out⟩
 case round=>
  obtain⟨k,hk,rfl,H⟩:=hrel;by_cases bW:k<m
  .obtain⟨x,Nq⟩:∃x,xs[k]?=some x:=⟨_,zzg<|by have:=M.out;omega⟩;have ck:=(zze (a:=⟨g,k,none⟩)<|H.1.block g hg dv).trans<|HX.out k x Nq;have hb:=U.out.b x<|zzh Nq;have eG:=k_ (xs.take k) b;have A:=af H.2.2 x;have fx:=aq H.2.2 x
   have O:(Pp<|cO (xs.take k) b)[x]?=some (.int .u8 (((cO (xs.take k) b).getD x 0:Nat):Int)):=by
    have e:(cO (xs.take k) b)[x]?=some ((cO (xs.take k) b).getD x 0):=by
     rw[Il,zzg dp];rfl
    rw[List.getElem?_toArray,zzy,e];rfl
   rw[O]at A;have i3:(k:Int)<m:=dp;have i8:(x:Int)<9:=dp;have i0:(0:Int)<=x:=dp;have⟨V,P⟩:=gb <|(cO (xs.take k) b).getD x 0;rw[<-P]at A;have S:Hid (Fr [] w (wr.setCell ⟨nF w+1,x,none⟩<|.int .u8 (b:Int))/\(wr.setCell ⟨nF w+1,x,none⟩<|.int .u8 (b:Int)).heap[nF w]?=some (.cells (Pp [0,0,0,0,0,0,0,0,0]) 247 (0,0))/\(wr.setCell ⟨nF w+1,x,none⟩<|.int .u8 (b:Int)).heap[nF w+1]?=some (.cells (Pp<|cO (xs.take<|k+1) b) 247 (0,0))):=by
    refine⟨H.1.setCell (.inr dv) _,(wg _ _ _ _<|by show (nF w)≠nF w+1;omega).trans H.2.1,?_⟩;have:=aF H.2.2 x<|.int .u8 (b:Int);rw[this];have e:xs.take (k+1)=xs.take k++[x]:=by rw[vV,Nq];rfl
    rw[e,Ii];simp[Pp,List.map_set]
   clear Nq eG O P;go_wp2;go_roundw;case rel=>exact⟨k+1,dp,dv,S.out⟩
   case measure=>simp[intOf];omega
  .obtain rfl:k=m:=dp;have i3:¬(k:Int)<k:=dp;have C:=H.2.2;rw[M.out,List.take_length]at C;have⟨q,c,d,f,j,l,n,o,p,z⟩:=nine<|k_ xs b;have T:Hid (cO xs b=[q,c,d,f,j,l,n,o,p]):=z;rw[z]at C;have c0:=af C 0;have c1:=af C 1;have c2:=af C 2;have c3:=af C 3;have c4:=af C 4;have c5:=af C 5;have c6:=af C 6;have c7:=af C 7;have c8:=af C 8;have h:=H.2.1;have a0:=af h 0;have a1:=af h 1;have a2:=af h 2;have a3:=af h 3;have a4:=af h 4;have a5:=af h 5;have a6:=af h 6;have a7:=af h 7;have a8:=af h 8;simp[Pp]at c0 c1 c2 c3 c4 c5 c6 c7 c8 a0 a1 a2 a3 a4 a5 a6 a7 a8;have f0:=aq h 0;have f1:=aq h 1;have f2:=aq h 2;have f3:=aq h 3;have f4:=aq h 4;have f5:=aq h 5;have f6:=aq h 6;have f7:=aq h 7;have f8:=aq h 8;have aa:=h;clear C z h;go_wp2;have⟨r,N⟩:∃r,r=(((((((((wr.setCell ⟨nF w,0,none⟩<|.int .u8 (q:Int)).setCell ⟨nF w,1,none⟩<|.int .u8 (c:Int)).setCell ⟨nF w,2,none⟩<|.int .u8 (d:Int)).setCell ⟨nF w,3,none⟩<|.int .u8 (f:Int)).setCell ⟨nF w,4,none⟩<|.int .u8 (j:Int)).setCell ⟨nF w,5,none⟩<|.int .u8 (l:Int)).setCell ⟨nF w,6,none⟩<|.int .u8 (n:Int)).setCell ⟨nF w,7,none⟩<|.int .u8 (o:Int)).setCell ⟨nF w,8,none⟩<|.int .u8 (p:Int)):=⟨_,rfl⟩
   rw[<-N];have u:r.heap[nF w]?=some (.cells #[.int .u8 (q:Int),.int .u8 (c:Int),.int .u8 (d:Int),.int .u8 (f:Int),.int .u8 (j:Int),.int .u8 (l:Int),.int .u8 (n:Int),.int .u8 (o:Int),.int .u8 (p:Int)] 247 (0,0)):=by
    have:=(aF (aF (aF (aF (aF (aF (aF (aF (aF H.2.1 0<|.int .u8 (q:Int)) 1<|.int .u8 (c:Int)) 2<|.int .u8 (d:Int)) 3<|.int .u8 (f:Int)) 4<|.int .u8 (j:Int)) 5<|.int .u8 (l:Int)) 6<|.int .u8 (n:Int)) 7<|.int .u8 (o:Int)) 8<|.int .u8 (p:Int));simp[Pp]at this;rw[N];exact this
   have b:=af u 0;have B:=af u 1;have D:=af u 2;have E:=af u 3;have F:=af u 4;have G:=af u 5;have J:=af u 6;have K:=af u 7;have L:=af u 8;simp at b B D E F G J K L;have OP:Fr [] w r:=by rw[N];exact(((((((((H.1.setCell (.inr<|zzc _) _).setCell (.inr<|zzc _) _).setCell (.inr<|zzc _) _).setCell (.inr<|zzc _) _).setCell (.inr<|zzc _) _).setCell (.inr<|zzc _) _).setCell (.inr<|zzc _) _).setCell (.inr<|zzc _) _).setCell (.inr<|zzc _) _)
   exact zA (v:=.agg #[.int .u8 (q:Int),.int .u8 (c:Int),.int .u8 (d:Int),.int .u8 (f:Int),.int .u8 (j:Int),.int .u8 (l:Int),.int .u8 (n:Int),.int .u8 (o:Int),.int .u8 (p:Int)]) (by simp[results,results196,go_sem,b,B,D,E,F,G,J,K,L]) rfl ⟨by rw[T.out];rfl,OP⟩
end Go.Proofs.YtlgeloebpdmnnaaGreatDoor
