import Derived.Test.YtcalalndmcemiaaGreatDoorC24
set_option maxHeartbeats 4000000
set_option maxRecDepth 100000
namespace Go.Proofs.YtcalalndmcemiaaGreatDoor
open Go.RowKit Go.Maps Tryz Sc
variable{H K T a n p t:Nat}{V:Type}{w:World}{s s':ag}
structure cz(K:Nat)(s:ag):Prop where
 once:b_ s.aM/\b_ s.ai/\b_ s.holds
 xt:∀p∈s.ai,1<=p.2.state/\p.2.state<=3/\p.2.done<=K
 cnt:∀t,s.count t<=4
 small:s.Small
 aC:s.aC<=K
 len:s.ai.length<=12
 alive:∀p∈s.holds,(s.aP p.1.1).state≠0
theorem cz.mono(h:cz K s)(c:K<=a):cz a s:=
 ⟨h.once,λp b=>by have:=h.xt p b;omega,h.cnt,h.small,by have:=h.aC;omega,h.len,h.alive⟩
theorem rk(t:Nat):(ak s.ai t=none/\s.aP t=⟨0,0,0⟩)\/∃x,(t,x)∈s.ai/\s.aP t=x/\ak s.ai t=some x:=by
 unfold ag.aP;cases h:ak s.ai t with
 |none=>exact .inl ⟨rfl,rfl⟩
 |some x=>exact .inr ⟨x,bZ h,rfl,rfl⟩
theorem cz.st(h:cz K s)(t:Nat):(s.aP t).state<=3:=by
 rcases rk t with⟨-,e⟩|⟨x,a,e,-⟩
 .rw[e];decide
 .rw[e];exact(h.xt _ a).2.1
theorem cz.done(h:cz K s)(t:Nat):(s.aP t).done<=K:=by
 rcases rk t with⟨-,e⟩|⟨x,a,e,-⟩
 .rw[e];exact zzs _
 .rw[e];exact(h.xt _ a).2.2
theorem kC{K:Type}[DecidableEq K](l:List<|K×V)(k:K):(aT l k).length<=l.length:=List.length_filter_le _ _
theorem qz{K:Type}[DecidableEq K]{l:List (K×V)}{k:K}{v:V}(h:(k,v)∈l):(aT l k).length+1<=l.length:=by
 induction l with
 |nil=>cases h
 |cons p l ih=>
  by_cases e:p.1=k
  .have:=kC l k;unfold aT at this ⊢;rw[List.filter_cons_of_neg<|by simp[e]];simp;omega
  .have hm:(k,v)∈l:=by
    obtain a|a:=zzj.1 h
    .rw[<-a]at e;exact absurd rfl e
    .exact a
   have:=ih hm;unfold aT at this ⊢;rw[List.filter_cons_of_pos<|by simp[e]];simp;omega
theorem Ka(s:ag)(t u:Nat)(x:ft):({s with ai:=aV s.ai t x}:ag).aP u=if u=t then x else s.aP u:=by
 unfold ag.aP;simp only[ky];split<;>rfl
theorem cz.put(h:cz K s){x:ft}(c:1<=x.state/\x.state<=3/\x.done<=K)(l:(s.aP t).state≠0\/s.ai.length<12):cz K {s with ai:=aV s.ai t x} where
 once:=⟨h.once.1,h.once.2.1.put t x,h.once.2.2⟩
 xt:=λp a=>by
  obtain e|e:=zzj.1 a
  .rw[e];exact c
  .exact h.xt p (zzp.1 e).1
 cnt:=h.cnt;small:=h.small;aC:=h.aC;len:=by
  show(aT s.ai t).length+1<=12;obtain l|l:=l
  .rcases rk t with⟨-,e⟩|⟨y,d,-,-⟩
   .rw[e]at l;exact absurd rfl l
   .have:=qz d;have:=h.len;omega
  .have:=kC s.ai t;omega
 alive:=λp a=>by
  have b:=h.alive p a;rw[Ka];split
  .omega
  .exact b
theorem count_filter(s:ag)(c:(Nat×ByteArray)×aK->Bool)(t:Nat):({s with holds:=s.holds.filter c}:ag).count t<=s.count t:=by
 unfold ag.count;simp only[List.filter_filter];exact(List.Sublist.filter _ (List.filter_sublist) |> λh=>by
  rw[List.filter_filter]at h;exact h.length_le)
theorem cz.forget(h:cz K s)(t:Nat):cz K (s.forget t) where
 once:=⟨h.once.1,h.once.2.1.del t,List.Pairwise.filter _ h.once.2.2⟩
 xt:=λp a=>h.xt p (zzp.1 a).1
 cnt:=λu=>zzk (count_filter s _ u)<|h.cnt u
 small:=λp a=>h.small p (zzp.1 a).1
 aC:=h.aC;len:=zzk (kC _ _) h.len;alive:=λp a=>by
  have:=(zzp.1 a).2;unfold oM at this;simp at this;exact this
theorem cz.aM(h:cz K s){v:List (ByteArray×ByteArray)}(a:b_ v):cz K {s with aM:=v}:=⟨⟨a,h.once.2⟩,h.xt,h.cnt,h.small,h.aC,h.len,h.alive⟩
theorem LY(t u:Nat)(k:ByteArray)(g:aK):({s with holds:=aV s.holds (t,k) g}:ag).count u<=if (ak s.holds (t,k)).isSome=true\/u≠t then s.count u else s.count u+1:=by
 unfold ag.count aV;simp only[List.filter_cons];have e:((aT s.holds (t,k)).filter λp=>decide<|p.1.1=u).length<=(s.holds.filter λp=>decide<|p.1.1=u).length:=(List.Sublist.filter _ List.filter_sublist).length_le;by_cases a:t=u
 .rw[if_pos<|by simpa using a];by_cases hs:(ak s.holds (t,k)).isSome=true
  .rw[if_pos<|.inl hs];have⟨v,d⟩:=Option.isSome_iff_exists.1 hs;have m:((t,k),v)∈s.holds.filter λp=>decide (p.1.1=u):=zzp.2 ⟨bZ d,by simpa using a⟩
   have b:=qz m;have c:(aT (s.holds.filter λp=>decide<|p.1.1=u) (t,k))=(aT s.holds (t,k)).filter λp=>decide (p.1.1=u):=by
    unfold aT;rw[List.filter_filter,List.filter_filter];congr 1;funext p;rw[Bool.and_comm]
   rw[c]at b;simp only[zzr];omega
  .rw[if_neg<|by rintro (h|h);exact hs h;exact h a.symm];simp only[zzr];omega
 .rw[if_neg<|by simpa using a];split<;>omega
theorem cz.take(h:cz K s){k:ByteArray}{g:aK}(hs:gP (k,g))(b:(s.aP t).state≠0)(r:s.eZ t k=0):cz K (s.take t k g):=by
 unfold ag.take;split
 .refine⟨⟨h.once.1,h.once.2.1,h.once.2.2.put _ _⟩,h.xt,λu=>?_,λp a=>?_,h.aC,h.len,λp a=>?_⟩
  .have h1:=LY (s:=s) t u k g;have l:=h.cnt u;split at h1
   .omega
   .rename_i hc;have j:u=t:=by
     apply Classical.byContradiction;intro i;exact hc<|.inr i
    subst j;have c:(ak s.holds (u,k)).isSome=false:=by
     cases f:(ak s.holds (u,k)).isSome
     .rfl
     .exact absurd (.inl f) hc
    unfold ag.eZ at r;by_cases d:4<=s.count u
    .rw[if_pos ⟨c,d⟩]at r;cases r
    .omega
  .rcases zzj.1 a with e|e
   .rw[e];exact hs
   .exact h.small p (zzp.1 e).1
  .rcases zzj.1 a with e|e
   .rw[e];exact b
   .exact h.alive p (zzp.1 e).1
 .exact h
theorem cz.aJ(h:cz K s)(t:Nat)(seq:Int)(k:ByteArray)(g:aK)(c:g.way<256):cz (K+1) (s.aJ t seq k g).1:=by
 unfold ag.aJ;split
 .rename_i hr;have u:=tY hr;have E:s.eD t seq k g.val=0/\s.eZ t k=0:=by
   unfold ag.refuse at hr;split at hr
   .rename_i h1;exact⟨h1,hr⟩
   .rename_i h1;exact absurd hr h1
  have hlen:(s.aP t).state≠0\/s.ai.length<12:=by
   by_cases b:(s.aP t).state=0
   .right;have:=nh s t seq k g.val u.1;rcases this with⟨a,-⟩|⟨a,-⟩|⟨-,-,-,-,-,a⟩
    .exact absurd E.1 a
    .rw[E.1]at a;cases a
    .omega
   .exact .inl b
  have d:=h.done t;split
  .exact(h.mono<|zzC K).put ⟨by show 1<=2;decide,by show 2<=3;decide,by show(s.aP t).done<=K+1;omega⟩ hlen
  .have h2:=(h.mono<|zzC K).put (x:=⟨1,(s.aP t).done+1,s.aC⟩) ⟨by show 1<=1;decide,by show 1<=3;decide,by show(s.aP t).done+1<=K+1;omega⟩ hlen;exact h2.take ⟨u.2.1,u.2.2,c⟩ (by rw[Ka,if_pos rfl];show 1≠0;decide) E.2
 .exact h.mono<|zzC K
theorem Tx(s:ag)(t:Nat)(seq:Int)(k:ByteArray):(s.get t seq k).1=(s.aJ t seq k ⟨0,ByteArray.empty⟩).1:=by
 unfold ag.get;split
 .split<;>rfl
 .rfl
theorem cz.get{K:Nat}{s:ag}(h:cz K s)(t:Nat)(seq:Int)(k:ByteArray):cz (K+1) (s.get t seq k).1:=by
 rw[Tx];exact h.aJ t seq k _ bM
/-! ### acq,adh,adW -/
def ag.wr(s:ag)(t:Nat):Bool:=s.holds.any λp=>decide (p.1.1=t)&&p.2.writes
def ag.kh(s:ag)(t:Nat):ag × Nat :=
 if (s.aP t).state=3 then (s,2) else if (s.aP t).state=1 then (if s.wr t=true then ({ s with ai:=aV s.ai t ⟨3,0,0⟩ },2) else (s.forget t,4)) else (s.forget t,3)
theorem XM{L:List (ByteArray×aK)}(hs:b_ s.holds)(a:b_ L)(h:∀k,ak L k=ak s.holds (t,k)):Cx L=s.wr t:=by
 rw[Bool.eq_iff_iff];unfold Cx ag.wr;rw[List.any_eq_true,List.any_eq_true];constructor
 .rintro⟨⟨k,g⟩,hm,w⟩;have:=cP a hm;rw[h]at this;exact⟨((t,k),g),bZ this,by simpa using w⟩
 .rintro⟨⟨⟨u,k⟩,g⟩,hm,w⟩;simp at w;obtain⟨rfl,w⟩:=w;have:=cP hs hm;rw[<-h]at this;exact⟨(k,g),bZ this,w⟩
theorem cz.kh(h:cz K s)(t:Nat):cz K (s.kh t).1:=by
 unfold ag.kh;split
 .exact h
 .split
  .rename_i h1;split
   .exact h.put ⟨bM,bM,zzs _⟩<|.inl bL
   .exact h.forget t
  .exact h.forget t
def oT(t:Nat)(s:List (ByteArray × ByteArray))(p:(Nat × ByteArray) × aK):List (ByteArray × ByteArray) :=
 if p.1.1=t then (if p.2.way=1 then aV s p.1.2 p.2.val else if p.2.way=2 then aT s p.1.2 else s) else s
def ag.comm(s:ag)(t:Nat):ag:=ag.forget { s with aM:=s.holds.foldl (oT t) s.aM } t
theorem LZ{s:List (ByteArray×ByteArray)}(h:b_ s)(p:(Nat×ByteArray)×aK):b_ (oT t s p):=by
 unfold oT;split
 .split
  .exact h.put _ _
  .split
   .exact h.del _
   .exact h
 .exact h
theorem oU:∀(hs:List<|(Nat×ByteArray)×aK) (s:List<|ByteArray×ByteArray),b_ s->b_ (hs.foldl (oT t) s)
 |[],_,h=>h
 |p::hs,_,h=>oU hs _<|LZ h p
theorem L1{s:List (ByteArray×ByteArray)}(p:(Nat×ByteArray)×aK)(k:ByteArray):ak (oT t s p) k=if p.1=(t,k)then im (some p.2) (ak s k)else ak s k:=by
 have⟨⟨u,j⟩,g⟩:=p;unfold oT;by_cases c:u=t
 .rw[if_pos c];by_cases d:j=k
  .rw[c,d];rw[if_pos rfl];unfold im;by_cases a:g.way=1
   .simp only[a,if_true,ky]
   .by_cases b:g.way=2
    .simp only[if_neg a,if_pos b,fY,if_true]
    .simp only[a,b,if_false]
  .rw[if_neg<|show ¬(u,j)=(t,k)from λh=>d (Prod.mk.inj h).2];have f:¬k=j:=λe=>d e.symm
   by_cases a:g.way=1
   .simp only[a,if_true,ky,f,if_false]
   .by_cases b:g.way=2
    .simp only[if_neg a,if_pos b,fY,if_neg f]
    .simp only[a,b,if_false]
 .rw[if_neg c,if_neg<|show ¬(u,j)=(t,k)from λh=>c (Prod.mk.inj h).1]
theorem yS(k:ByteArray):∀(hs:List<|(Nat×ByteArray)×aK) (s:List<|ByteArray×ByteArray),b_ hs->ak (hs.foldl (oT t) s) k=im (ak hs (t,k)) (ak s k)
 |[],s,_=>rfl
 |p::hs,s,h=>by
  have a:=zzA.1 h;rw[List.foldl_cons,yS k hs _ a.2,L1];by_cases e:p.1=(t,k)
  .have hn:ak hs (t,k)=none:=kJ.2 λq c b=>a.1 q c<|e.trans b.symm
   rw[if_pos e,hn];have:ak (p::hs) (t,k)=some p.2:=by unfold ak;rw[List.find?_cons_of_pos<|by simpa using e];rfl
   rw[this];rfl
  .rw[if_neg e];have:ak (p::hs) (t,k)=ak hs (t,k):=by unfold ak;rw[List.find?_cons_of_neg<|by simpa using e]
   rw[this]
theorem yT{K:Type}[DecidableEq K]{l:List (K×V)}(h:b_ l):l.Nodup:=h.imp λh e=>h<|by rw[e]
theorem L2{K:Type}[DecidableEq K]{l m:List (K×V)}(a:b_ l)(b:b_ m)(h:∀k,ak l k=ak m k):l.Perm m:=
 (List.perm_ext_iff_of_nodup (yT a)<|yT b).2 λ⟨k,v⟩=>⟨λx=>bZ<|by rw[<-h];exact cP a x,λx=>bZ<|by rw[h];exact cP b x⟩
theorem aO.perm{P:Program}{K:Type}[DecidableEq K]{t:TypeId}{KR:iD P K t}{ER:kK V}{b:Nat}{l m:List (K×V)}(h:aO KR ER w b n l)(a:l.Perm m)(f:b_ m):aO KR ER w b n m:=by
 obtain⟨s,c,d,-,e⟩:=h;exact⟨s,c,d.trans<|a.map _,f,λp q=>e p<|a.mem_iff.2 q⟩
theorem yU{lg V:Nat}(g:cz K s)(c:lS s s' t)(h:a_ w p lg V T H n s'):a_ w p lg V T H n (s.comm t):=by
 obtain⟨b,rfl,v⟩:=c;have a:aO KS ES w V n (s.holds.foldl (oT t) s.aM):=by
  refine aO.perm h.aM (L2 ?_ (oU _ _ g.once.1) λk=>?_)<|oU _ _ g.once.1
  .obtain⟨es,-,-,h3,-⟩:=h.aM;exact h3
  .show ak b k=_;rw[v,yS k _ _ g.once.2.2]
 exact⟨h.blk,a,h.ai,h.holds,h.ne,h.aC⟩
theorem cz.comm(h:cz K s)(t:Nat):cz K (s.comm t):=(h.aM<|oU _ _ h.once.1).forget t
theorem cz.entry(h:cz K s)(t:Nat){L:List (ByteArray×aK)}(d:b_ L)(e:∀k,ak L k=ak s.holds (t,k)):(str<|be 8 t++cF (dG L)).size<=255:=by
 have f:∀(xs:List<|ByteArray×aK),(∀x∈xs,gP x)->(cF xs).length<=xs.length*51:=by
  intro xs;induction xs with
  |nil=>intro _;simp[cF]
  |cons x xs ih=>
   intro c;have a:=A6 (c x bR);have b:=ih λy g=>c y<|by simp[g]
   unfold cF at *;rw[List.flatMap_cons,zzi,zzr];omega
 rw[cR,zzi,dH];have j:=ag.nT h.once.2.2 d e;have i:=h.cnt t;have l:(dG L).length=L.length:=by unfold dG;rw[zzn,dR]
 have:=f (dG L) λx c=>by
  have m:=cP d<|vr d c;rw[e]at m;exact h.small _<|bZ m
 omega
section
variable(B E m n t:Nat)(seq:Int)(k:ByteArray)(s:ag)(l:au)(d:ah)(w:World)
theorem SL.ops{w w':World}{B a g V T H m m' h p D N n:Nat}{s s':ag}{l:au}{d:ah}(c:SL w B a g V T H m h p D N n s l d)(j:a_ w' a g V T H m' s')(hf:Fr [T,H] w w'):SL w' B a g V T H m' h p D N n s' l d/\pO a V T H h p w w' :=
 c.ic j hf (by intro k b;simp at b ⊢;rcases b with e|e<;>simp[e])
end
def CoP0(B p D N n:Nat)(R:au × ah × Nat)(w:World)(e:Ending)(w':World):Prop :=
 ∃c g T l,e=.returned (.tuple #[.pointer (some ⟨c,0,none⟩),.nilIface])/\CL w' B c g T 0 l p D N n ⟨[],1,1,0,[],[]⟩ R.1 R.2.1/\(w.heap.size<=c/\w.heap.size<=T/\w.heap.size<=g)/\rD p [] w w'
theorem coOpen_0(B p D N n:Nat)(R:au×ah×Nat)(w:World)(Y:R.1.recs=[])(h:∃v d l m,ax w B p D N v d n l m)(J:∀W,Fr [] w W->Calls prog 78 #[dX p] W (mg B p D N n R W))(X:jS R.1.recs R.1.next=1):
  Calls prog 80 #[dX p] w (CoP0 B p D N n R w):=by
 have M6:=@run_makeMap prog;have⟨v,d,l,m,h⟩:=h;have jJ:=h.base;have rX:=h.now.lt;have eM:=h.rz.lt;have⟨W,g⟩:∃W,W=(w.alloc<|.map #[] 0).alloc (qt 0 w.heap.size ⟨[],0,1,0,[],[]⟩ (.slice none 0 0)<|.slice none 0 0):=⟨_,rfl⟩;have gF:Fr [] w W:=by rw[g];exact((lT w).alloc _).alloc _
 have a6:W.heap.size=w.heap.size+2:=by rw[g];simp
 have H:W.heap[w.heap.size+1]?=some (qt 0 w.heap.size ⟨[],0,1,0,[],[]⟩ (.slice none 0 0)<|.slice none 0 0):=by
  rw[g];have:=heap_alloc_new (w.alloc<|.map #[] 0)<|qt 0 w.heap.size ⟨[],0,1,0,[],[]⟩ (.slice none 0 0)<|.slice none 0 0;rwa [zzv]at this
 have E:aO KU EX W w.heap.size 0 []:=by
  rw[g];exact(aO.made w).fr ((lT _).alloc _) bR
 have u:=led0 B p D N n 126 (w.heap.size+1) R Y W ⟨_,_,_,_,h.new gF⟩ (λA y=>J A<|gF.trans y) X;have F:=af<|show Fr [] w W/\ax w B p D N v d n l m from ⟨gF,h⟩;have I:=af<|zzb H E;clear gF h E H J
 go_enter func80,ntmps80;go_wp2_with fail;have O:W=(w.alloc<|.map #[] 0).alloc (.cells #[.pointer none,.map<|some w.heap.size,.int .u64 0,.int .u64 1,.int .u64 0,.slice none 0 0,.slice none 0 0] 122):=g;rw[<-O];clear g O;apply u.mono;clear u;rintro e a ⟨gp,lp,rfl,⟨j9,qc,m_,lC,lu,dY⟩,nA,CM,kg⟩;have⟨K,f⟩:∃K:aU,K=⟨[],0,1,0,[],[]⟩:=⟨_,rfl⟩;have i:K.res=[]/\K.out=[]:=by rw[f];exact⟨rfl,rfl⟩
 have x:K.next<18446744073709551616/\K.aW<18446744073709551616/\K.aC<18446744073709551616:=by rw[f];exact⟨bM,bM,bM⟩
 have o:=F.2.new F.1;have G:a.heap[w.heap.size+1]?=some (qt 0 w.heap.size K (.slice none 0 0)<|.slice none 0 0):=by
  rw[f];exact(kg.block _ bL (o.iF I.1 bM bM) bR).trans I.1
 have s:aO KU EX a w.heap.size 0 K.ai:=by
  rw[f];have a1:=kg.block w.heap.size bL (o.ub I.2.isMap bL bL) bR;have⟨L,⟨M,c,U,V⟩,r⟩:=I.2;exact⟨L,⟨M,c,a1.trans U,V⟩,r⟩
 have z:=af f;clear f o;have C:=ae G 0;have c2:=ae G 2;have c3:=ae G 3;have f0:=aj G 0;have T:=aj G 2;simp at C c2 c3;have⟨b,O⟩:∃b,b=(a.setCell ⟨w.heap.size+1,0,none⟩<|.pointer<|some ⟨gp,0,none⟩).setCell ⟨w.heap.size+1,2,none⟩ (.int .u64 (K.aW:Int)):=⟨_,rfl⟩;have Q:Fr [w.heap.size+1] a b:=by rw[O];exact(Fr.cD bR _ _).trans<|Fr.cD bR _ _
 have P:1<=gp:=bL;have Z:b.heap[w.heap.size+1]?=some (qt gp w.heap.size {K with next:=K.aW} (.slice none 0 0)<|.slice none 0 0):=by
  have:=ar (ar G 0<|.pointer<|some (gz gp)) 2<|.int .u64 (K.aW:Int);simp at this;rw[O];unfold qt;rw[dE P];exact this
 have S:=af (show CL b B (w.heap.size+1) gp w.heap.size 0 lp p D N n {K with next:=K.aW} R.1 R.2.1/\rD p [] w b from by
  refine⟨⟨⟨⟨_,_,Z,by show World.ownsRow _ _ _ _ _ K.res.length (oQ K.res);rw[i.1];exact zzu _ _ _ _,by show World.ownsRow _ _ _ _ _ K.out.length (oR K.out);rw[i.2];exact zzu _ _ _ _,by show Ao _ K.res.length _;rw[i.1];exact Ao.nil _,by show Ao _ K.out.length _;rw[i.2];exact Ao.nil _⟩,s.fr Q bR,⟨bL,bL,by have:=Q.size;have:=kg.size;omega⟩,⟨x.2.1,x.2.1,x.2.2⟩⟩,⟨j9,qc,m_,lC,lu,dY.apart Q λk j _=>?_⟩,(Q.block gp (zza.1 nA).1 cE).trans nA,⟨bL,bL⟩,P⟩,?_⟩
  .simp at j;subst j;exact⟨dY.free G bM bM bM bM bM,λt e=>by rw[G]at e;cases e⟩
  .have cu:=F.1;have q:=F.2;refine⟨Q.os.trans<|kg.os.trans cu.os,Q.tape.trans<|kg.tape.trans cu.tape,Q.output.trans<|kg.output.trans cu.output,by have:=Q.size;have:=kg.size;omega,λk j ho _=>?_⟩
   rw[Q.block k (by have:=kg.size;omega) cE,kg.block k bL (λs8=>ho ((q.l8 k).2 (((q.new cu).l8 k).1 s8))) bR,cu.block k j bR])
 have d2:(a.setCell (gz (w.heap.size+1))<|.pointer<|some (gz gp)).cell? (hO (w.heap.size+1) 2)=some (.int .u64 (K.next:Int)):=by
  have:=ae (ar G 0<|.pointer<|some (gz gp)) 2;simpa using this
 have d3:(a.setCell (gz (w.heap.size+1))<|.pointer<|some (gz gp)).cell? (hO (w.heap.size+1) 3)=some (.int .u64 (K.aW:Int)):=by
  have:=ae (ar G 0<|.pointer<|some (gz gp)) 3;simpa using this
 have g2:=aj (ar G 0<|.pointer<|some (gz gp)) 2;clear G s dY nA kg Q Z c2 c3 T;go_wp2;rw[<-O];go_ret2;exact⟨w.heap.size+1,gp,w.heap.size,lp,rfl,by have:=S.1;rw[z.out]at this;exact this,⟨bL,bL,bL⟩,S.2⟩
end Go.Proofs.YtcalalndmcemiaaGreatDoor
