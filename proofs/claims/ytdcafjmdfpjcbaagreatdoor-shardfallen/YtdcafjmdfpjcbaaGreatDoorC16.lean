import Derived.Test.YtdcafjmdfpjcbaaGreatDoorC15
set_option maxHeartbeats 4000000
set_option maxRecDepth 100000
namespace Go.Proofs.YtdcafjmdfpjcbaaGreatDoor
open Go.RowKit Go.Maps Tryz Sc
variable{nm:ByteArray}{xs:List ByteArray}{rs:List Rec}{b k:Nat}{F a:az}
theorem JG(u:Nat):Lib.decDigits u≠[]:=by
 rw[Lib.decDigits];split<;>simp
theorem LQ{a:Nat}(e:a<10)(d:b<10)(h:UInt8.ofNat (48+a)=UInt8.ofNat (48+b)):a=b:=by
 have c:=congrArg UInt8.toNat h;simp at c;omega
theorem U6:∀(n a b:Nat),a<n->Lib.decDigits a=Lib.decDigits b->a=b:=by
 intro n;induction n with
 |zero=>grind
 |succ n ih=>
  intro a b hn h;rw[Lib.decDigits,Lib.decDigits.eq_def b]at h;split at h
  .split at h
   .grind [LQ]
   .have:=congrArg List.length h;have d:0<(Lib.decDigits<|b/10).length:=zzE.2<|JG _;rw[zzi]at this;simp only[zzr,List.length_nil]at this;omega
  .split at h
   .have:=congrArg List.length h;have d:0<(Lib.decDigits<|a/10).length:=zzE.2<|JG _;rw[zzi]at this;simp only[zzr,List.length_nil]at this;omega
   .rename_i ha hb;have⟨e,c⟩:=List.append_inj' h rfl;simp only[List.cons.injEq,and_true]at c;have d:=LQ oE oE c;have f:=ih (a/10) (b/10) oE e;omega
theorem ph(u:Nat):(ar u).data.toList=[115,101,103,109,101,110,116,45]++Lib.decDigits u:=by
 unfold ar;rw[ByteArray.data_append];simp
theorem eR{a:Nat}(h:ar a=ar b):a=b:=by
 have c:=congrArg (λx:ByteArray=>x.data.toList) h;simp only[ph]at c;exact U6 (a+1) a b oE<|List.append_cancel_left c
theorem bm(u:Nat):ar u≠dP/\ar u≠cf:=by grind[ph,dP,cf]
/-! ### the segments -/
def starts:Nat->List (List Rec)->List Nat
 |_,[]=>[]
 |n,c :: cs=>n :: starts (n+c.length) cs
theorem ei:∀(cs:List<|List Rec) (n:Nat),(starts n cs).length=cs.length
 |[],_=>rfl
 |c::cs,n=>by simp[starts,ei cs]
theorem jO:∀(cs:List<|List Rec) (n k:Nat),k<cs.length->(starts n cs)[k]?=some (n+(cs.take k).flatten.length)
 |[],_,_,h=>absurd h sE
 |c::cs,n,0,_=>by simp[starts]
 |c::cs,n,k+1,h=>by
  have:=jO cs (n+c.length) k (by simpa using h);simp only[starts,List.getElem?_cons_succ,this];simp;omega
theorem dU:∀(cs:List<|List Rec) (n:Nat) (c:List Rec),starts n (cs++[c])=starts n cs++[n+cs.flatten.length]
 |[],_,_=>by simp[starts]
 |b::cs,n,c=>by
  simp only[List.cons_append,starts,dU cs];simp;omega
theorem qI:∀(cs:List<|List Rec) (n k:Nat),(starts n cs).drop k=starts (n+(cs.take k).flatten.length) (cs.drop k)
 |[],_,k=>by simp[starts]
 |c::cs,n,0=>sE
 |c::cs,n,k+1=>by
  simp only[starts,List.drop_succ_cons,qI cs];simp[Nat.add_assoc]
theorem tW:∀(cs:List<|List Rec) (n:Nat) (a b:List Rec),starts n (cs++[a])=starts n (cs++[b]):=by grind[dU]
theorem mO:∀(cs:List<|List Rec) (n:Nat),(∀c∈cs,c≠[])->(starts n cs).Pairwise (· < ·)/\∀s∈starts n cs,n<=s
 |[],_,_=>by simp[starts]
 |c::cs,n,h=>by
  have⟨f,b⟩:=mO cs (n+c.length) (λd g=>h d<|by simp[g]);have i:0<c.length:=zzE.2 (h c sE);refine⟨?_,?_⟩
  .simp only[starts,zzA];exact⟨λs a=>by have:=b s a;omega,f⟩
  .intro s a;simp only[starts,zzj]at a;obtain e|a:=a
   .omega
   .have:=b s a;omega
theorem zZ{segs:List Nat}{low:Nat}:∀(f k:Nat),(eL segs low f k=k\/∃x,segs[eL segs low f k]?=some x/\x<=low)/\(segs.length<=k+f->∀x,segs[eL segs low f k+1]?=some x->low<x):=by
 intro f;induction f with
 |zero=>grind[eL]
 |succ f ih=>
  intro k;by_cases h:k+1<segs.length
  .obtain⟨s,hs⟩:∃s,segs[k+1]?=some s:=⟨_,zzg h⟩;by_cases l:s<=low
   .grind [tN]
   .grind [tP]
  .grind [tM]
theorem qJ(segs:List Nat)(low:Nat):(bU segs low=0\/∃x,segs[bU segs low]?=some x/\x<=low)/\∀x,segs[bU segs low+1]?=some x->low<x:=by
 obtain⟨h,a⟩:=zZ (low:=low) segs.length 0;exact⟨h,a oE⟩
def ez:List Rec->Nat
 |[]=>0
 |r :: l=>15+r.pay.length+ez l
theorem jJ(a b:List Rec):ez (a++b)=ez a+ez b:=by
 induction a with
 |nil=>simp[ez]
 |cons r a ih=>grind[ez]
section
variable{l:aq}{d:ah}{E c:Nat}{cs:List (List Rec)}
theorem z_(k:Nat)(cs:List<|List Rec):cs.flatten=(cs.take k).flatten++(cs.drop k).flatten:=by
 rw[<-List.flatten_append,List.take_append_drop]
theorem dK(cs:List<|List Rec)(a:List Rec):(cs++[a]).flatten=cs.flatten++a:=sE
theorem NP{L:List Rec}{f:Nat}(h:∀(k:Nat) (r:Rec),L[k]?=some r->r.cQ=f+k)(x:Rec)(a:x.cQ=f+L.length):∀(k:Nat) (r:Rec),(L++[x])[k]?=some r->r.cQ=f+k:=by grind
end
theorem Ab(M:Nat)(c:UInt8)(v:Nat):∀(a:List UInt8) (b:Nat),Lib.parseUintM M b a=.ok v->Lib.parseUintM M b (a++[c])=Lib.parseUintM M v [c]
 |[],b,h=>by
  have e:b=v:=by simpa [Lib.parseUintM]using h
  rw[e];rfl
 |x::a,b,h=>by
  rw[List.cons_append];unfold Lib.parseUintM at h ⊢;split at h
  .rename_i h1;rw[if_pos h1];split at h
   .cases h
   .rename_i h2;rw[if_neg h2];split at h
    .cases h
    .rename_i h3;rw[if_neg h3];exact Ab M c v a _ h
  .cases h
theorem JL:∀(n u:Nat),u<n->u<2^64->Lib.parseUintM 18446744073709551615 0 (Lib.decDigits u)=.ok u:=by
 intro n;induction n with
 |zero=>grind
 |succ n ih=>
  intro u hn a;rw[Lib.decDigits];split
  .rename_i h;obtain rfl|rfl|rfl|rfl|rfl|rfl|rfl|rfl|rfl|rfl:u=0\/u=1\/u=2\/u=3\/u=4\/u=5\/u=6\/u=7\/u=8\/u=9:=oE
   all_goals rfl
  .rename_i h;rw[Ab _ _ (u/10) _ _<|ih (u/10) oE oE];have e:(UInt8.ofNat<|48+u%10).toNat=48+u%10:=sC
   unfold Lib.parseUintM;rw[e,if_pos oE,if_neg oE,if_neg oE];unfold Lib.parseUintM;congr 1;omega
theorem NY(u:Nat)(h:u<2^64):Lib.parseUintB 64 (Lib.decDigits u)=.ok u:=by
 unfold Lib.parseUintB;rw[if_neg<|JG u];exact JL (u+1) u oE h
def mP(w:World):Prop:=∃v,w.cell? (dH 2)=some v/\(v=.nilIface\/∃e p,v=.iface e p)
theorem mP.below{n:Nat}{w w':World}(h:mP w)(b:Below n w w')(hn:2<n):mP w':=by
 have⟨v,a,c⟩:=h;exact⟨v,(b.cell hn).trans a,c⟩
theorem tX(rs:List Rec):(dt rs).length=ez rs:=by
 induction rs with
 |nil=>rfl
 |cons r rs ih=>grind[dt,fj,ez]
/-! ### few segments,few bytes -/
theorem xl:∀(a:List<|List Rec) (n:Nat),(∀b∈a,b≠[])->∀x∈starts n a,x<n+a.flatten.length:=by
 intro a;induction a with
 |nil=>grind[starts]
 |cons b a ih=>
  intro n c x h;have d:0<b.length:=zzE.2 (c b sE);simp only[starts,zzj]at h;obtain rfl|h:=h
  .simp;omega
  .grind
theorem rP(a b:List Nat):str (a++b)=str a++str b:=by
 apply ByteArray.ext;rw[ByteArray.data_append,oD,oD,oD];simp
theorem Q7{cs:List (List Rec)}{c:List Rec}(h:cs[k]?=some c):cs.take (k+1)=cs.take k++[c]:=by rw[List.take_add_one,h];rfl
/-! ### records that lie in a file -/
def th(rs:List Rec):Prop:=∀r∈rs,r.kind<256/\r.pay.length<=255/\k9 r.pay/\r.cQ<2^64
theorem JM(h:th rs):k9 (dt rs):=by
 intro b e;have⟨r,d,a⟩:=List.mem_flatMap.1 e;have⟨c,_,f,_⟩:=h r d;exact oZ r.cQ r.kind r.pay c f b a
theorem LW:∀(rs:List Rec),th rs->∀t,Good (dt rs++t) rs.length/\(st rs.length<|dt rs++t).1=rs/\(st rs.length<|dt rs++t).2=(dt rs).length:=by
 intro rs;refine List.B6 (motive:=λrs=>th rs->∀t,Good (dt rs++t) rs.length/\(st rs.length<|dt rs++t).1=rs/\(st rs.length<|dt rs++t).2=(dt rs).length) rs ?_ ?_
 .intro _ t;exact⟨rB _,rfl,rfl⟩
 .intro rs r ih hf t;have⟨a,k,f,g⟩:=hf r sE;have e:dt (rs++[r])++t=dt rs++(ax r.cQ r.kind r.pay++t):=by grind[rO]
  rw[e];have⟨h,c,i⟩:=ih (λx b=>hf x<|by simp[b])<|ax r.cQ r.kind r.pay++t;have d:(dt rs++(ax r.cQ r.kind r.pay++t)).drop (st rs.length<|dt rs++(ax r.cQ r.kind r.pay++t)).2=ax r.cQ r.kind r.pay++t:=by grind
  have l:(rs++[r]).length=rs.length+1:=sE;rw[l];refine⟨CC h<|by rw[d];exact NT _ _ _ t k a f,?_,?_⟩
  .show(st rs.length<|dt rs++(ax r.cQ r.kind r.pay++t)).1++[pL<|(dt rs++(ax r.cQ r.kind r.pay++t)).drop (st rs.length<|dt rs++(ax r.cQ r.kind r.pay++t)).2]=_;rw[d,c,NU _ _ _ t k g]
  .grind [st,dt,ax,fU,rO,CQ,fj]
theorem Q8(h:th rs):sS (dt rs) rs.length/\(st rs.length<|dt rs).1=rs/\(st rs.length<|dt rs).2=(dt rs).length:=by
 have⟨b,c,a⟩:=LW rs h [];rw[List.append_nil]at b c a;exact⟨⟨b,by rw[a,List.drop_length];exact iP<|o6 sE⟩,c,a⟩
theorem Ec(w:World)(d:Nat)(b:Int):
  (Op.equalIn (d+2) 67 .nilIface<|.iface 27<|.int .i64 b).run prog w=.ok false w:=by
 simp[Op.equalIn,run_underlying underlying67]
theorem Q9(w:World)(b:Int):
  (binOp .eql 67 .nilIface<|.iface 27<|.int .i64 b).run prog w=.ok (.bool false) w:=by
 simp only[binOp];simp[Op.equal,Op.maxDepth,Ec w 9998 b]
theorem YJ(n:Int)(w:World):
  Calls prog 67 #[.nilIface,.iface 27<|.int .i64 n] w λv w'=>v=.returned (.bool false)/\w'=w:=by
 have e:∀w,(binOp .eql 67 .nilIface<|.iface 27<|.int .i64 n).run prog w=.ok (.bool false) w:=λw=>Q9 w n
 go_enter func67,ntmps67;go_wp2;go_ret;exact⟨rfl,rfl⟩
theorem B7(B p U bN n i j f:Nat)(m:Value)(d:ah)(w:World)(h:aB w B p U bN m d n i j)(M:d.down=false)(s:d.now dP=some (str<|ax f 0 []))(D:f<2^64):
  Calls prog 148 #[fo p] w λe w'=>e=.returned (.tuple #[.int .u64 (f:Int),.nilIface])/\Below w.heap.size w w':=by
 have K:=Lt;have a:=vd B p U bN n i j m d dP w h dN;have Z:th [⟨f,0,[]⟩]:=by intro r a;simp at a;subst a;exact⟨show 0<256 by decide,show 0<=255 by decide,by intro x G;simp at G,D⟩
 have S:dt [⟨f,0,[]⟩]=ax f 0 []:=by simp[dt]
 have e:d.read dP=(some<|str<|dt [⟨f,0,[]⟩],0):=by unfold ah.read;rw[if_neg<|by rw[M];decide,s,S]
 have l:(dt [⟨f,0,[]⟩]).length=15:=by rw[S,fj];rfl
 clear h s;go_enter func148,ntmps148;go_wp2_with fail;apply a.mono;clear a;rintro N c ⟨v,rfl,Qy,hb⟩;rw[e]at Qy ⊢;rw[bQ];have O:Src c v (dt [⟨f,0,[]⟩]):=by
  have:Src c v (bytesOf<|str<|dt [⟨f,0,[]⟩]):=Qy;rwa [qM<|JM Z]at this
 have y:=Q4 v (dt [⟨f,0,[]⟩]) c O (JM Z) oE;obtain⟨q,o2,c2,rfl⟩:∃q o2 c2,v=.slice (some ⟨q,o2,none⟩) 15 c2:=by
  rcases O with⟨_,e⟩|⟨b,I,C,e,_⟩
  .rw[e]at l;simp at l
  .exact⟨b,I,C,by rw[e,l]⟩
 have H:=ae hb;clear Qy O hb;go_wp2_with fail;apply(YJ 8 c).mono;rintro L w2 ⟨rfl,rfl⟩;go_wp2_with fail;apply y.mono;clear y;rintro Q P ⟨k,v3,rfl,hE,aC,_,eV⟩;have⟨t,u,z⟩:=Q8 Z;obtain rfl:=o0 hE t;rw[u]at aC;rw[z,l];obtain⟨o,c3,rfl⟩:=dI aC sE;have J:=aC.cells rfl 0 (.int .u64 (f:Int)) (by simp[cG,dE]);have F:=aC.cells rfl 1 (.int .u8 0) (by simp[cG,dE]);have A:=aC.cells rfl 2 (.string<|str []) (by simp[cG,dE]);simp only[Addr.add_lit,Nat.zero_add]at J F A;have E:=ae<|H.out.trans<|eV.mono H.out.size;clear hE aC eV t u z;go_wp2;go_ret2;exact⟨rfl,E.out⟩
section
variable{w I:World}{B E p U bN n i j:Nat}{m J O v:Value}{l:aq}{d:ah}
theorem aD.YK{ss:List Nat}(h:aD w B E p U bN m J O l d n i j)(r:Fr J.ownBlock.toList w I)(u:I.ownsRow B 34 1 v ss.length<|dh ss)(F:bn w.heap.size J v)(y:ss.length<=n/\∀s∈ss,s<2^64):
  aD (I.setCell (d8 E 1) v) B E p U bN m v O {l with segs:=ss} d n i j/\kI E p w (I.setCell (d8 E 1) v):=by
 have C:=(zza.1 h.blk).1;have z:E∉J.ownBlock.toList:=by simp;exact bG h.segs h.blk dN
 have H:=(r.block E C z).trans h.blk;have⟨W,o⟩:∃W,W=I.setCell ⟨E,1,none⟩ v:=⟨_,rfl⟩;rw[<-o];have t:Fr [E] I W:=by rw[o];exact Fr.cH sE _ _
 have q:Fr (E::J.ownBlock.toList) w W:=(r.mono λk _ a=>List.mem_cons_of_mem _ a).trans<|t.mono<|by intro k _ a;simp at a;simp[a]
 have x:W.heap[E]?=some (nc p v O {l with segs:=ss}):=by
  rw[o];have:=aH H 1 v;simpa using this
 have D:W.ownsRow B 34 1 v ss.length (dh ss):=av u t λg f=>by simp;intro e;subst e;exact bG u H dN f
 have A:W.ownsRow B 82 3 O l.recs.length (cG l.recs):=av h.recs q (λg f b=>by
  obtain e|b:=zzj.1 b
  .subst e;exact bG h.recs h.blk dN f
  .simp at b;have⟨c,K⟩:=aF h.segs b;exact bG h.recs K dN f)
 have N:aD W B E p U bN m v O {l with segs:=ss} d n i j:=h.rows q (by intro k a _;obtain e|a:=zzj.1 a;exact .inl e;simp at a;exact .inr<|.inl a) x D A (zzc _) h.bE.hn y h.fV h.jv h.gy h.lS;exact⟨N,h.BG N q (by intro k a _;obtain e|a:=zzj.1 a;simp[e];simp at a;simp[a]) (.inl rfl) (bn.refl _ _) F<|bn.refl _ _⟩
theorem aD.YL{rs:List Rec}(h:aD w B E p U bN m J O l d n i j)(r:Fr O.ownBlock.toList w I)(t:I.ownsRow B 82 3 v rs.length<|cG rs)(F:bn w.heap.size O v)(x:rs.length<=n):
  aD (I.setCell (d8 E 3) v) B E p U bN m J v {l with recs:=rs} d n i j/\kI E p w (I.setCell (d8 E 3) v):=by
 have A:=(zza.1 h.blk).1;have y:E∉O.ownBlock.toList:=by simp;exact bG h.recs h.blk dN
 have H:=(r.block E A y).trans h.blk;have⟨W,o⟩:∃W,W=I.setCell ⟨E,3,none⟩ v:=⟨_,rfl⟩;rw[<-o];have s:Fr [E] I W:=by rw[o];exact Fr.cH sE _ _
 have q:Fr (E::O.ownBlock.toList) w W:=(r.mono λk _ a=>List.mem_cons_of_mem _ a).trans<|s.mono<|by intro k _ a;simp at a;simp[a]
 have u:W.heap[E]?=some (nc p J v {l with recs:=rs}):=by
  rw[o];have:=aH H 3 v;simpa using this
 have z:W.ownsRow B 82 3 v rs.length (cG rs):=av t s λg f=>by simp;intro e;subst e;exact bG t H dN f
 have C:W.ownsRow B 34 1 J l.segs.length (dh l.segs):=av h.segs q (λg f b=>by
  obtain e|b:=zzj.1 b
  .subst e;exact bG h.segs h.blk dN f
  .simp at b;have⟨c,K⟩:=aF h.recs b;exact bG h.segs K dN f)
 have N:aD W B E p U bN m J v {l with recs:=rs} d n i j:=h.rows q (by intro k a _;obtain e|a:=zzj.1 a;exact .inl e;simp at a;exact .inr<|.inr a) u C z (zzc _) h.bE.hn h.dL x h.jv h.gy h.lS;exact⟨N,h.BG N q (by intro k a _;obtain e|a:=zzj.1 a;simp[e];simp at a;simp[a]) (.inl rfl) (bn.refl _ _) (bn.refl _ _) F⟩
end
theorem NZ(a b:List Rec):cG (a++b)=cG a++cG b:=by simp[cG]
abbrev jK:=ByteArray->Bool
def jK.set(c:jK)(k:ByteArray):jK:=λx=>if x=k then true else c x
def bM(b torn:Bool)(q:Nat)(o:iD)(s:jK × az):jK × az :=
 if b=false then (if o.kind=2 then s.1.set o.name else s.1,s.2)
 else if o.kind=2/\s.1 o.name=true then s
 else if torn=true/\o.kind<3 then (s.1.set o.name,cV s.2 { o with data:=o.data.extract 0 q })
 else (s.1,cV s.2 o)
def gW(b:Nat->Bool)(torn q:Nat):Nat->List iD->jK × az->jK × az
 |_,[],s=>s
 |i,o :: os,s=>gW b torn q (i+1) os (bM (b i) (decide (i=torn)) q o s)
theorem qN(b:Nat->Bool)(torn q:Nat):∀(os:List iD) (i:Nat) (o:iD) (s:jK×az),
  gW b torn q i (os++[o]) s=bM (b<|i+os.length) (decide<|i+os.length=torn) q o (gW b torn q i os s)
 |[],i,o,s=>by simp[gW]
 |x::os,i,o,s=>by
  rw[List.cons_append];show gW b torn q (i+1) (os++[o]) _=_;rw[qN b torn q os (i+1) o];simp only[zzr];rw[show i+1+os.length=i+(os.length+1) by omega];rfl
def Left(F:az)(ops:List iD)(a:az):Prop:=∃b torn q,a=(gW b torn q 0 ops (λ_=>false,F)).2
theorem Ac(h:Left F [] a):a=F:=by
 obtain⟨b,t,q,rfl⟩:=h;rfl
theorem az.ext{m m':az}(h:∀k,m k=m' k):m=m':=funext h
/-! ### U8 to one file -/
def kg(nm x:ByteArray):iD:=⟨2,nm,yA,x⟩
def nH:List ByteArray->ByteArray
 |[]=>yA
 |x :: l=>x++nH l
theorem tY:∀(l:List ByteArray) (x:ByteArray),nH (l++[x])=nH l++x
 |[],x=>by simp[nH]
 |y::l,x=>by
  rw[List.cons_append];show y++nH (l++[x])=(y++nH l)++x;rw[tY l x,ByteArray.append_assoc]
def az.plus(F:az)(nm y:ByteArray):az:=F.set nm (some ((F nm).getD yA++y))
theorem oF(F:az)(nm x y:ByteArray):(F.plus nm x).plus nm y=F.plus nm (x++y):=by
 apply az.ext;intro k;unfold az.plus;by_cases h:k=nm
 .subst h;simp[az.jk,ByteArray.append_assoc]
 .grind [az.cP]
theorem oG(F:az)(nm x:ByteArray):cV F (kg nm x)=F.plus nm x:=rfl
def Rb(F:az)(nm:ByteArray)(xs:List ByteArray)(i:Nat)(s:jK × az):Prop :=
 (s.1 nm=false/\(i=0/\s.2=F\/0<i/\s.2=F.plus nm (nH (xs.take i)))) \/
 (s.1 nm=true/\(s.2=F\/∃k y z,xs[k]?=some z/\(∃q,y=z.extract 0 q)/\s.2=F.plus nm (nH (xs.take k)++y)))
theorem Rc{i:Nat}{s:jK×az}{x:ByteArray}(a:xs[i]?=some x)(h:Rb F nm xs i s)(b t:Bool)(q:Nat):Rb F nm xs (i+1) (bM b t q (kg nm x) s):=by
 have V:xs.take (i+1)=xs.take i++[x]:=by rw[List.take_add_one,a];rfl
 unfold bM;by_cases f:b=false
 .rw[if_pos f];right;refine⟨by simp[kg,jK.set],?_⟩;rcases h with⟨_,h⟩|⟨_,h⟩
  .rcases h with⟨_,h⟩|⟨k,h⟩
   .grind
   .right;obtain⟨j,rfl⟩:∃j,i=j+1:=⟨i-1,oE⟩;have⟨z,d⟩:∃z,xs[j]?=some z:=⟨_,zzg<|by have:=(zzd.1 a).1;omega⟩;refine⟨j,z,z,d,⟨z.size,sE⟩,?_⟩;rw[<-tY];have:xs.take (j+1)=xs.take j++[z]:=by rw[List.take_add_one,d];rfl
    rw[<-this];exact h
  .exact h
 .rw[if_neg f];rcases h with⟨c,h⟩|⟨c,h⟩
  .rw[if_neg<|by intro e;have:=e.2;simp only[kg]at this;rw[c]at this;cases this];by_cases g:t=true
   .rw[if_pos ⟨g,by simp[kg]⟩];right;refine⟨by simp[kg,jK.set],.inr ⟨i,x.extract 0 q,x,a,⟨q,rfl⟩,?_⟩⟩;show cV s.2 (kg nm<|x.extract 0 q)=_;rw[oG];rcases h with⟨rfl,h⟩|⟨_,h⟩
    .rw[h];simp[nH]
    .rw[h,oF]
   .rw[if_neg<|by intro e;exact g e.1];left;refine⟨c,.inr ⟨oE,?_⟩⟩;show cV s.2 (kg nm x)=_;rw[oG,V,tY];rcases h with⟨rfl,h⟩|⟨_,h⟩
    .rw[h];simp[nH]
    .rw[h,oF]
  .rw[if_pos ⟨by simp[kg],c⟩];exact .inr ⟨c,h⟩
theorem LX(xs:List ByteArray)(b:Nat->Bool)(torn q:Nat):∀i,i<=xs.length->Rb F nm xs i (gW b torn q 0 ((xs.take i).map (kg nm)) (λ_=>false,F))
 |0,_=>.inl ⟨rfl,.inl ⟨rfl,rfl⟩⟩
 |i+1,hi=>by
  obtain⟨x,h⟩:∃x,xs[i]?=some x:=⟨_,zzg oE⟩;have V:xs.take (i+1)=xs.take i++[x]:=by rw[List.take_add_one,h];rfl
  rw[V,List.map_append,List.map_cons,List.map_nil,qN];exact Rc h (LX xs b torn q i oE) _ _ _
theorem N0(h:Left F (xs.map<|kg nm) a):
  a=F\/(∃k,k<=xs.length/\0<k/\a=F.plus nm (nH<|xs.take k))\/∃k z q,xs[k]?=some z/\a=F.plus nm (nH (xs.take k)++z.extract 0 q):=by
 obtain⟨b,t,q,rfl⟩:=h;have:=LX (F:=F) (nm:=nm) xs b t q xs.length<|zzc _;rw[List.take_length]at this;rcases this with⟨_,h⟩|⟨_,h⟩
 .grind
 .grind
/-! ### U9 -/
def cW(nm:ByteArray):iD:=⟨3,nm,yA,yA⟩
theorem xn:∀(ns:List ByteArray) {F:az} {b:Nat->Bool} {torn q i:Nat} {c:jK},∃s:List ByteArray,(∀m∈s,m∈ns)/\∀k,(k∈s->(gW b torn q i (ns.map cW) (c,F)).2 k=none)/\(k∉s->(gW b torn q i (ns.map cW) (c,F)).2 k=F k)
 |[],F,b,torn,q,i,c=>⟨[],sE,λk=>⟨sE,λ_=>rfl⟩⟩
 |n::ns,F,b,torn,q,i,c=>by
  have e:gW b torn q i ((n::ns).map cW) (c,F)=gW b torn q (i+1) (ns.map cW) (bM (b i) (decide<|i=torn) q (cW n) (c,F)):=rfl;rw[e];unfold bM;by_cases j:b i=false
  .rw[if_pos j];have⟨s,f,d⟩:=xn ns (F:=F) (b:=b) (torn:=torn) (q:=q) (i:=i+1) (c:=if (cW n).kind=2 then jK.set c (cW n).name else c);exact⟨s,λm a=>List.mem_cons_of_mem _<|f m a,d⟩
  .rw[if_neg j,if_neg<|by simp[cW],if_neg<|by simp[cW]];have⟨s,f,d⟩:=xn ns (F:=cV F<|cW n) (b:=b) (torn:=torn) (q:=q) (i:=i+1) (c:=c);refine⟨n::s,λm a=>?_,λk=>⟨λh=>?_,λh=>?_⟩⟩
   .rcases zzj.1 a with e|a
    .simp[e]
    .exact List.mem_cons_of_mem _<|f m a
   .by_cases g:k∈s
    .exact(d k).1 g
    .rcases zzj.1 h with e|h
     .refine((d k).2 g).trans ?_;show(F.set n none) k=none;rw[e,az.jk]
     .exact absurd h g
   .simp only[zzj,not_or]at h;apply((d k).2 h.2).trans;show(F.set n none) k=F k;rw[az.cP _ _ h.1]
theorem Gr{o:iD}(h:Left F [o] a)(k:o.kind≠2):a=F\/a=cV F o\/o.kind=1/\∃q,a=cV F {o with data:=o.data.extract 0 q}:=by
 obtain⟨b,t,q,rfl⟩:=h;have e:gW b t q 0 [o] (λ_=>false,F)=bM (b 0) (decide<|0=t) q o (λ_=>false,F):=rfl;rw[e];unfold bM;by_cases c:b 0=false
 .grind
 .grind [cV]
theorem Ey{p:Prop}(h:p):Hid p:=h
abbrev Sg:=List Rec × List Nat
def AJ(s:Sg):List Nat:=dt s.1++s.2
abbrev chunks(ss:List Sg):List (List Rec):=ss.map Prod.fst
structure ug(t:List Nat):Prop where
 byt:k9 t
 no:fN t=false
 le:t.length<=300
theorem vO:ug []:=⟨by intro x h;simp at h,iP<|o6 sE,sE⟩
def aw(mk:Nat)(ss:List Sg):Nat:=mk+(chunks ss).flatten.length
def ly(s:Sg):Nat:=if s.2=[] then ez s.1 else 600
def kX(ss:List Sg):Nat:=match ss.getLast? with|none=>600|some s=>ly s
def vP(rs:List Rec):Prop:=∀r∈rs,r.kind<256/\r.pay.length<=255/\k9 r.pay
structure br(F:az)(mk:Nat)(ss:List Sg):Prop where
 mark:(mk=1/\F dP=none)\/F dP=some (str (ax mk 0 []))
 pos:1<=mk
 ne:∀s∈ss,s.1≠[]
 files:∀(k:Nat) (s:Sg),ss[k]?=some s->F (ar (aw mk (ss.take k)))=some (str (AJ s))
 sJ:∀s∈ss,ug s.2
 size:∀s∈ss,ez s.1<870
 nk:∀(k:Nat) (r:Rec),(chunks ss).flatten[k]?=some r->r.cQ=mk+k
 fine:vP (chunks ss).flatten
 other:∀nm,F nm≠none->nm=dP\/nm=cf\/∃u,nm=ar u/\u<2^64/\(u<mk\/u∈starts mk (chunks ss)\/u=aw mk ss)
 dead:∀t,F (ar (aw mk ss))=some t->∃b,t=str b/\ug b
 tz:aw mk ss<2^64
def cJ(mk:Nat)(ss:List Sg):aq:=⟨starts mk (chunks ss),kX ss,(chunks ss).flatten,aw mk ss,0,0⟩
theorem eG(ss:List Sg)(k:Nat):chunks (ss.take k)=(chunks ss).take k:=by simp_all
theorem GK{ss:List Sg}{s:Sg}(h:ss[k]?=some s):ss.take (k+1)=ss.take k++[s]:=by rw[List.take_add_one,h];rfl
theorem aZ(ss:List Sg)(s:Sg):chunks (ss++[s])=chunks ss++[s.1]:=by grind
theorem qT(mk:Nat)(ss:List Sg)(s:Sg):aw mk (ss++[s])=aw mk ss+s.1.length:=by grind[aw,aZ,dK]
theorem gX(mk:Nat):aw mk []=mk:=by simp[aw]
theorem nM(ss:List Sg)(s:Sg):kX (ss++[s])=ly s:=by unfold kX;simp
theorem J'(mk:Nat)(ss:List Sg)(s:Sg):cJ mk (ss++[s])=⟨(cJ mk ss).segs++[(cJ mk ss).next],ly s,(cJ mk ss).recs++s.1,(cJ mk ss).next+s.1.length,0,0⟩:=by
 unfold cJ;rw[nM,qT,aZ,dU,dK];rfl
theorem AK(mk:Nat)(ss:List Sg)(k:Nat):aw mk (ss.take k)<=aw mk ss:=by
 unfold aw;rw[eG];have:=congrArg List.length<|z_ k<|chunks ss;rw[zzi]at this;omega
theorem Rx{s:Sg}(f:th s.1)(j:ug s.2):k9 (AJ s)/\sS (AJ s) s.1.length/\(st s.1.length<|AJ s).1=s.1/\(st s.1.length<|AJ s).2=(dt s.1).length:=by
 have⟨b,c,a⟩:=LW s.1 f s.2;refine⟨?_,⟨b,?_⟩,c,a⟩
 .intro x h;obtain h|h:=zzo.1 h
  .exact JM f x h
  .exact j.byt x h
 .show fN ((dt s.1++s.2).drop (st s.1.length<|dt s.1++s.2).2)=false;rw[a,oC _ _ _ rfl];exact j.no
section
variable{F:az}{mk:Nat}{ss:List Sg}
theorem br.ne'(h:br F mk ss):∀c∈chunks ss,c≠[]:=by
 intro c a;obtain⟨s,b,rfl⟩:=zzq.1 a;exact h.ne s b
theorem br.at_(h:br F mk ss){k:Nat}{s:Sg}(c:ss[k]?=some s):
  th s.1/\(∀(j:Nat) (r:Rec),s.1[j]?=some r->r.cQ=aw mk (ss.take k)+j)/\s.1≠[]/\F (ar<|aw mk<|ss.take k)=some (str<|AJ s)/\ug s.2/\ez s.1<870/\aw mk (ss.take k)+s.1.length<=aw mk ss:=by
 have m:=zzh c;have i:(chunks ss)[k]?=some s.1:=by grind
 have K:(chunks ss).flatten=((chunks ss).take k).flatten++(s.1++((chunks ss).drop<|k+1).flatten):=by
  have b:=z_ (k+1)<|chunks ss;rw[Q7 i,dK,zzx]at b;exact b
 have J:∀(j:Nat) (r:Rec),s.1[j]?=some r->(chunks ss).flatten[((chunks ss).take k).flatten.length+j]?=some r:=λj r a=>by
  rw[K,List.getElem?_append_right oE,show((chunks ss).take k).flatten.length+j-((chunks ss).take k).flatten.length=j by omega,List.getElem?_append_left (zzd.1 a).1];exact a
 have e:aw mk (ss.take k)=mk+((chunks ss).take k).flatten.length:=by unfold aw;rw[eG]
 refine⟨λr d=>?_,λj r a=>?_,h.ne s m,h.files k s c,h.sJ s m,h.size s m,?_⟩
 .obtain⟨j,a⟩:=zzB.1 d;have b:=J j r a;have o:=h.nk _ r b;have p:=(zzd.1 b).1;have⟨l,g,f⟩:=h.fine r<|zzh b;have n:aw mk ss=mk+(chunks ss).flatten.length:=rfl;have:=h.tz;exact⟨l,g,f,oE⟩
 .have:=h.nk _ r<|J j r a;omega
 .rw[e];have:=congrArg List.length K;simp only[zzi]at this;show _<=mk+(chunks ss).flatten.length;omega
end
abbrev Nm:=Nat ⊕ Bool
def AL(z:Bool):ByteArray:=if z then cf else dP
def Vl:Nm->ByteArray
 |.inl u=>ar u
 |.inr z=>AL z
def gY(l:List Nm):List Nat:=l.filterMap λo=>match o with|.inl u=>some u|.inr _=>none
theorem Ry(l:List Nm)(u:Nat):gY (l++[.inl u])=gY l++[u]:=by simp[gY]
theorem Rz(l:List Nm)(z:Bool):gY (l++[.inr z])=gY l:=by simp[gY]
theorem zg(l:List Nm):(gY l).length<=l.length:=by grind[gY]
def Vm(w:World)(g:Nat)(l:List Nm):Prop:=∀(k:Nat) (o:Nm),l[k]?=some o->w.cell? (d8 g k)=some (.string (Vl o))
theorem RA(z:Bool):(⟨(Lib.trimPrefix (AL z).data.toList [115,101,103,109,101,110,116,45]).toArray⟩:ByteArray)=AL z:=by
 cases z<;>decide
theorem Oe(z:Bool):Lib.parseUintB 64 (AL z).data.toList=.«syntax»:=by cases z<;>rfl
theorem RB(z:Bool):(AL z).size<=281474976710656:=by cases z<;>decide
theorem Of(g a1:Nat)(l:List Nm)(w:World)(hg:g<w.heap.size)(B:Vm w g l)(X:∀u∈gY l,u<2^64)(I:gY l≠[])(Z:l.length<=1000000000)(C:(gY l).Nodup)(q:dw w)(K:mP w)(h1:2<w.heap.size):
  Calls prog 149 #[.slice (some<|dH g) l.length a1] w λe w'=>∃Q y l',e=.returned (.slice (some<|dH Q) (gY l).length y)/\l'.Perm (gY l)/\nE l' (gY l).length/\w'.ownsRow w.heap.size 34 1 (.slice (some<|dH Q) (gY l).length y) (gY l).length (dh l')/\Below w.heap.size w w':=by
 have⟨m,h⟩:=xY l.length;rw[<-h]at Z ⊢;have N:=ae h;have H:=ae<|zzb X<|zzb B<|zzb q K;have P:=zzE.2 I;have S:(gY l).length<=1000000000:=by have:=zg l;omega
 have⟨i0,hi,a',a6,a7⟩:=info_parts nB;have hlen:=YH;have a8:=ae C;clear h B X q I K C;go_enter func149,ntmps149;go_wp2;go_loopw [12,3] (λi v wr=>∃k:Nat,k<=m/\i=.int .i64 k/\Hid (wr.ownsRow w.heap.size 34 1 v (gY<|l.take k).length (dh<|gY<|l.take k)/\Below w.heap.size w wr)) (λi _ _=>m-(intOf i).toNat);case atStart=>exact⟨0,zzs _,rfl,zzu _ _ _ _,zzD _ _⟩
 case round=>
  obtain⟨k,hk,rfl,R⟩:=hrel;by_cases bP:k<m
  .obtain⟨o,ho⟩:∃o,l[k]?=some o:=⟨_,zzg<|by have:=N.out;omega⟩;have ck:wr.cell? (d8 g k)=some (.string<|Vl o):=(R.2.cell hg).trans<|H.2.1 k o ho;have T:Hid (l.take (k+1)=l.take k++[o]):=by show _=_;rw[List.take_add_one,ho];rfl
   have s:=R.2.size;have mB:(gY<|l.take k).length<=1000000000:=by have:=zg<|l.take k;rw[zzm]at this;omega
   cases o with
   |inr z=>
    have⟨ev,J,E⟩:=H.2.2.2;have A:=(R.2.cell h1).trans J;have L:=Tryz.strconv_ParseUint_10_at64_syntax (AL z) (RB z) (Oe z) ev wr A E;change wr.cell? (d8 g k)=some (.string<|AL z)at ck;clear J E A ho;go_wp2_with fail;apply(Tryz.strings_CutPrefix _ _ wr).mono;rintro e a ⟨rfl,rfl⟩;simp only[RA];go_wp2_with fail;apply L.mono;clear L;rintro e w2 ⟨Nn,rfl,_,_,U⟩;have t:=ae U;clear U;go_wp2;go_roundw;case rel=>exact⟨k+1,oE,sE,by rw[T.out,Rz];exact oB R.1 t.out,R.2.trans<|t.out.mono s⟩
    case measure=>simp[intOf];omega
   |inl u=>
    change wr.cell? (d8 g k)=some (.string<|ar u)at ck;have d:u<18446744073709551616:=H.1 u (by unfold gY;rw[List.mem_filterMap];exact⟨.inl u,zzh ho,rfl⟩);have O:=NY u d;have ad:=gS u d;have ab:(Lib.decDigits u).length<=28:=by
     have:(ar u).size=8+(Lib.decDigits u).length:=by unfold ar;simp[ByteArray.size];omega
     omega
    clear ho;go_wp2_with fail;apply(Tryz.strings_CutPrefix _ _ wr).mono;rintro e a ⟨rfl,rfl⟩;simp only[Q5];go_wp2_with fail;apply(Tryz.strconv_ParseUint_10_at64_ok ⟨(Lib.decDigits u).toArray⟩ (by simp[ByteArray.size];omega) u (by simpa using O) a).mono;rintro e w2 ⟨rfl,sQ⟩;have U:Below a.heap.size a w2:=by
     obtain rfl|rfl:=sQ
     .exact zzD _ _
     .exact Gq _ _
    clear sQ;have V:dw w2:=H.2.2.1.cF ((U.block 1 oE).trans<|R.2.block 1 oE);go_wp2_with fail;apply(fP u w2 d V).mono;rintro e w3 ⟨rfl,eV⟩;have c:=U.trans<|eV.mono U.size;have W:=oB R.1 c;have D:=ae<|R.2.trans<|c.mono s;have gA:=D.out.size;clear U eV c V O
    go_wp2_with (first
     |(at_builtin;apply wpList_append_own _ rfl _ _ 49 rfl w.heap.size 34 i0 _ 1 8 underlying49 hi a' a6 a7 rfl dN _ (gY<|l.take k).length _ rfl (W.alloc _) (dH w3.heap.size) 1 1 [.int .u64 (u:Int)] rfl rfl (cD _ #[.int .u64 (u:Int)] _) (by intro x G;simp at G;subst G;rfl) mE oE sC;intro v' w4 eP eK _)
     |fail)
    go_roundw;case rel=>
     refine⟨k+1,oE,sE,by rw[T.out,Ry,l_,zzi];exact eP,?_⟩;exact(D.out.alloc gA _).grown eK sC λj hj=>(W.lt j hj).1
    case measure=>simp[intOf];omega
  .obtain rfl:k=m:=oE;have e:l.take k=l:=zzt (by rw[N.out];exact zzc _);rw[e]at R;obtain⟨b,r,rfl⟩:=dI R.1 P;have⟨M,n⟩:=xY <|(gY l).length;have F:=ae n;rw[<-n]at R P S ⊢;clear n;go_wp2_with fail;apply(Od w.heap.size b M r (gY l) wr R.1 F.out.symm S a8.out).mono;rintro e w2 ⟨rfl,l',cC,wV⟩;have Y:=ae<|zzb cC wV;clear cC wV;go_wp2;go_ret;have kB:=(R.1.lt b rfl).1;refine⟨b,r,l',by rw[<-F.out];rfl,Y.1.perm,by rw[<-F.out];exact Y.2,by rw[<-F.out];exact Y.1.row,R.2.trans ?_⟩;have f:=Y.1.fr;exact⟨f.os,f.tape,f.output,f.size,λk hk=>f.block k (by have:=R.2.size;omega) sC⟩
end Go.Proofs.YtdcafjmdfpjcbaaGreatDoor
