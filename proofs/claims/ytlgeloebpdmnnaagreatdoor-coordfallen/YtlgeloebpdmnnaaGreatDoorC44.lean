import Derived.Test.YtlgeloebpdmnnaaGreatDoorC40
import Derived.Test.YtlgeloebpdmnnaaGreatDoorC42
import Derived.Test.YtlgeloebpdmnnaaGreatDoorC38
import Derived.Test.YtlgeloebpdmnnaaGreatDoorC43
import Derived.Test.YtlgeloebpdmnnaaGreatDoorC41
set_option maxHeartbeats 16000000
set_option maxRecDepth 100000
namespace Go.Proofs.YtlgeloebpdmnnaaGreatDoor
open Go.RowKit Go.Maps Tryz Sc
section
open Go.Shelf
theorem Vk(n:Nat)(Q:Nat->Prop):∃S:List Nat,(∀k∈S,Q k)/\∀k,k<n->Q k->k∈S:=by
 classical
 refine⟨(List.range n).filter λk=>decide<|Q k,λk h=>?_,λk h q=>?_⟩
 .grind
 .grind
theorem Mk{c c':Array Value}{t a:TypeId}{fr f:Nat×Nat}(e:t≠a):some (Obj.cells c t fr)≠some (Obj.cells c' a f):=by grind
section
variable [Inhabited Bs]{w w':nL}{E:Nat}{S T:List Nat}{R:aP}
theorem gh.Ws(h:gh w E S R)(hf:Fr T w w')(b:∀k∈S,k∉T):gh w' E S R:=by
 obtain⟨x,r,v,ps,h,rfl⟩:=h;refine⟨x,r,v,ps,{base:=h.base,blk:=(hf.block E (zza.1 h.blk).1<|b E<|dC.2<|.inl rfl).trans h.blk,kF:=ar h.kF hf λg a=>b g<|dC.2<|.inr<|.inl a,prt:=λp hp=>ar (h.prt p hp) hf λg a=>b g<|dC.2<|.inr<|.inr<|.inr<|.inr ⟨p,hp,a⟩,apart:=h.apart,res:=ar h.res hf λg a=>b g<|dC.2<|.inr<|.inr<|.inl a,out:=ar h.out hf λg a=>b g<|dC.2<|.inr<|.inr<|.inr<|.inl a,rs:=h.rs},rfl⟩
theorem gh.kinds(h:gh w E S R){k:Nat}(a:k∈S):B0<=k/\k<w.heap.size/\∃c t,w.heap[k]?=some (.cells c t (0,0))/\(t=120\/t=123\/t=162\/t=174\/t=170):=by
 obtain⟨x,r,v,ps,h,rfl⟩:=h;obtain rfl|e|e|e|⟨q,hq,e⟩:=dC.1 a
 .exact⟨h.base,(zza.1 h.blk).1,_,_,h.blk,.inl rfl⟩
 .obtain⟨c,hc⟩:=aL h.kF e;exact⟨(h.kF.lt k e).1,(h.kF.lt k e).2,_,_,hc,.inr<|.inl rfl⟩
 .obtain⟨c,hc⟩:=aL h.res e;exact⟨(h.res.lt k e).1,(h.res.lt k e).2,_,_,hc,.inr<|.inr<|.inr<|.inl rfl⟩
 .obtain⟨c,hc⟩:=aL h.out e;exact⟨(h.out.lt k e).1,(h.out.lt k e).2,_,_,hc,.inr<|.inr<|.inr<|.inr rfl⟩
 .obtain⟨c,hc⟩:=aL (h.prt q hq) e;exact⟨((h.prt q hq).lt k e).1,((h.prt q hq).lt k e).2,_,_,hc,.inr<|.inr<|.inl rfl⟩
theorem gh.size(h:gh w E S R):B0<=w.heap.size:=by obtain⟨x,r,v,ps,h,rfl⟩:=h;exact h.low
theorem gh.root(h:gh w E S R):E∈S/\∃x r v,w.heap[E]?=some (uD x r v R.next):=by obtain⟨x,r,v,ps,h,rfl⟩:=h;exact⟨dC.2<|.inl rfl,_,_,_,h.blk⟩
end
abbrev cC:=Nat × aP × List Nat
def nR(x:cC):Value:=(gx x.1)
def xF(x y:cC):Prop:=x=y\/∀k∈x.2.2,k∉y.2.2
abbrev FZ(hp p:Nat)(cv:Value)(gc:Nat)(sk hu:Bool):Obj:=.cells #[gx hp,gx p,cv,.int .u64 (gc:Int),.bool sk,.bool hu] 59
structure nI [Inhabited Bs](w:nL)(hp jp:Nat)(cv:Value)(gc:Nat)(sk hu:Bool)(m:cC)(cl:List cC):Prop where
 low:B0<=jp
 kb:w.heap[jp]?=some (FZ hp m.1 cv gc sk hu)
 each:∀x∈m :: cl,gh w x.1 x.2.2 x.2.1
 pq:w.ownsRow B0 55 1 cv cl.length (cl.map nR)
 apart:(m :: cl).Pairwise xF
section
variable [Inhabited Bs]{hp jp p h J n gc gc':Nat}{w w' w2:nL}{cv cv':Value}{sk hu sk' hu':Bool}{m m2:cC}{cl cl':List cC}{so I:Option (Nat × List Nat)}{d:aj}
theorem nI.size(h:nI w hp jp cv gc sk hu m cl):B0<=w.heap.size:=(h.each m dv).size
theorem nI.ne(h:nI w hp jp cv gc sk hu m cl){x:cC}(hx:gh w x.1 x.2.2 x.2.1):jp∉x.2.2/\∀q,cv.ownBlock=some q->q∉x.2.2:=by
 refine⟨λa=>?_,λq c a=>?_⟩
 .obtain⟨_,_,cc,t,e,ht⟩:=hx.kinds a;rw[h.kb]at e;obtain rfl|rfl|rfl|rfl|rfl:=ht<;>exact Mk du e
 .obtain⟨_,_,cc,t,e,ht⟩:=hx.kinds a;have⟨c2,b⟩:=aL h.pq c;rw[b]at e;obtain rfl|rfl|rfl|rfl|rfl:=ht<;>exact Mk du e
theorem nI.abz{T:List Nat}(h:nI w hp jp cv gc sk hu m cl)(hf:Fr T w w')(a:jp∉T)(b:∀q,cv.ownBlock=some q->q∉T)(c:∀x∈m::cl,∀k∈x.2.2,k∉T):nI w' hp jp cv gc sk hu m cl:=
 ⟨h.low,(hf.block jp (zza.1 h.kb).1 a).trans h.kb,λx hx=>(h.each x hx).Ws hf<|c x hx,ar h.pq hf b,h.apart⟩
theorem nI.new(h:nI w hp jp cv gc sk hu m cl)(hf:Fr [] w w'):nI w' hp jp cv gc sk hu m cl:=h.abz hf dv dv dv
theorem nI.host{g:Nat}(c:nI w hp jp cv gc sk hu m cl)(f:oO w g hp p h J so d n)(hf:kI hp p so I w w')(U:∀x∈m::cl,∀k∈x.2.2,¬jN hp p so w k):nI w' hp jp cv gc sk hu m cl/\∀x∈m::cl,∀k∈x.2.2,¬jN hp p I w' k:=by
 have⟨T,e,j⟩:=Vk (nF w) λk=>jN hp p so w k
 have kO:Fr T w w':=⟨hf.os,hf.tape,hf.output,hf.size,λk a hn=>hf.block k a λo=>hn<|j k a o⟩;refine⟨c.abz kO (λb=>f.free c.kb du du du du du du du du du<|e _ b) (λq l b=>?_) λx hx k a b=>U x hx k a<|e _ b,λx hx k a o=>U x hx k a<|hf.stay k ((c.each x hx).kinds a).2.1 o⟩;have⟨c2,i⟩:=aL c.pq l;exact f.free i du du du du du du du du du<|e _ b
theorem nI.swap(h:nI w hp jp cv gc sk hu m cl)(hf:Fr [jp] w w')(b:w'.heap[jp]?=some (FZ hp m2.1 cv gc' sk' hu'))(c:gh w m2.1 m2.2.2 m2.2.1)(d:∀x∈cl,xF m2 x):nI w' hp jp cv gc' sk' hu' m2 cl:=by
 have e:∀q,cv.ownBlock=some q->q∉[jp]:=λq f a=>by
  simp at a;exact aQ h.pq h.kb du<|a▸f
 refine⟨h.low,b,λx hx=>?_,ar h.pq hf e,zzA.2 ⟨d,(zzA.1 h.apart).2⟩⟩
 have r:gh w x.1 x.2.2 x.2.1:=by
  obtain rfl|hx:=zzj.1 hx
  .exact c
  .exact h.each x<|by simp[hx]
 exact r.Ws hf λk b a=>(h.ne r).1<|(show k=jp by simpa using a)▸b
theorem nI.set(h:nI w hp jp cv gc sk hu m cl)(hf:Fr [jp] w w')(k:w'.heap[jp]?=some (FZ hp m.1 cv gc' sk' hu')):nI w' hp jp cv gc' sk' hu' m cl:=
 h.swap hf k (h.each m dv) (zzA.1 h.apart).1
theorem nI.uH(h:nI w hp jp cv gc sk hu m cl)(hf:Fr cv.ownBlock.toList w w2)(o:w2.ownsRow B0 55 1 cv' cl'.length<|cl'.map nR)(e:∀x∈cl',gh w x.1 x.2.2 x.2.1)(c:(m::cl').Pairwise xF):nI (w2.setCell (hP jp 2) cv') hp jp cv' gc sk hu m cl':=by
 have Z:jp∉cv.ownBlock.toList:=λa=>aQ h.pq h.kb du<|by simpa using a
 have L:w2.heap[jp]?=some (FZ hp m.1 cv gc sk hu):=(hf.block jp (zza.1 h.kb).1 Z).trans h.kb;have H:Fr (jp::cv.ownBlock.toList) w (w2.setCell ⟨jp,2,none⟩ cv'):=(hf.mono<|by simp +contextual).trans (Fr.cG (by simp) _ _);refine⟨h.low,?_,λx hx=>?_,aN o L du,c⟩
 .have:=aF L 2 cv';simpa using this
 .have hr:gh w x.1 x.2.2 x.2.1:=by
   obtain rfl|hx:=zzj.1 hx
   .exact h.each _ dv
   .grind
  exact hr.Ws H λk b a=>by
   obtain rfl|a:=zzj.1 a
   .exact(h.ne hr).1 b
   .exact(h.ne hr).2 k (by simpa using a) b
theorem nI.fL{R':aP}{S:List Nat}(h:nI w hp jp cv gc sk hu m cl)(hf:fo m.2.2 S w w')(r:gh w' m.1 S R'):nI w' hp jp cv gc sk hu (m.1,R',S) (cl.map λx=>if x.1=m.1 then (m.1,R',S)else x):=by
 have g:=h.each m dv;have Y:=zzA.1 h.apart;have J:∀x∈cl,x.1≠m.1->(∀k∈x.2.2,k∉m.2.2)/\∀k∈x.2.2,k∉S:=λx hx hn=>by
  have f:∀k∈x.2.2,k∉m.2.2:=λk a Z=>by
   obtain b|b:=Y.1 x hx<;>grind
  exact⟨f,λk a s=>f k a<|hf.stay k s ((h.each x<|by simp[hx]).kinds a).2.1⟩
 refine⟨h.low,(hf.fr.block jp (zza.1 h.kb).1 (h.ne g).1).trans h.kb,λx hx=>?_,?_,zzA.2 ⟨λx hx=>?_,?_⟩⟩
 .rcases zzj.1 hx with rfl|hx
  .exact r
  .obtain⟨y,c,rfl⟩:=zzq.1 hx;by_cases e:y.1=m.1
   .grind
   .rw[mE e];exact(h.each y<|by simp[c]).Ws hf.fr (J y c e).1
 .have e:(cl.map λx=>if x.1=m.1 then (m.1,R',S)else x).map nR=cl.map nR:=by
   rw[List.map_map];apply List.map_congr_left;intro x hx;show nR (if x.1=m.1 then (m.1,R',S)else x)=nR x;split
   .grind [nR]
   .rfl
  rw[e,zzn];exact ar h.pq hf.fr (h.ne g).2
 .obtain⟨y,c,rfl⟩:=zzq.1 hx;by_cases e:y.1=m.1
  .rw[oo e];exact .inl rfl
  .rw[mE e];exact .inr λk a L=>(J y c e).2 k L a
 .rw[zv];apply Y.2.imp_of_mem;intro x y hx c C;by_cases d:x.1=m.1
  .rw[oo d];by_cases b:y.1=m.1
   .rw[oo b];exact .inl rfl
   .rw[mE b];exact .inr λk a L=>(J y c b).2 k L a
  .rw[mE d];by_cases b:y.1=m.1
   .rw[oo b];exact .inr λk a L=>(J x hx d).2 k a L
   .grind
end
end
variable{sk':Bool}{kind:Nat}{pay:nS}
abbrev kL:Nat:=1000000
structure xK(k:Nat)(l:au)(d:aj)(cs:List qE)(m:qE)(sk hu:Bool)(M m0:Nat):Prop where
 up:d.down=false
 df:DF m0 d
 fl:m0<=M
 st:(hu=false/\l.next<=16*k+1/\∃ss c1,xz kK kL l d M ss c1 cs m)\/(hu=true/\sk=true/\RB kK kL l d 9 cs M (16*k+1))
structure JF(k:Nat)(d:aj)(cs:List qE)(M m0:Nat):Prop where
 up:d.down=false
 df:DF m0 d
 fl:m0<=M
 sure:iq (Holds (Qw kK kL cs M (16*k+1))) d
def QO(k:Nat)(l:au)(d:aj)(cs:List qE)(m:qE)(M m0 x:Nat):Prop :=
 (x=9/\d.down=false/\xK k l (d.aJ (-1) (-1)) cs m true true M m0)\/(x=10/\d.down=true/\∀F,Left d.ak d.pending F->JF k (dP F) cs M m0)
theorem abL{c:Nat}{cs:List qE}{M N:Nat}{d:aj}(h:iq (Holds<|Qw kK c cs M N) d)(b:d.down=false):M<=N:=by
 have⟨mk,ss,_,_,_,e,a⟩:=(h.now b).1;unfold az at a;omega
section
variable{k:Nat}{l:au}{d:aj}{cs:List qE}{m m':qE}{sk hu:Bool}{M m0:Nat}{a b:Int}
theorem xK.gone(h:xK k l d cs m sk hu M m0):JF k d cs M m0:=by
 refine⟨h.up,h.df,h.fl,?_⟩;rcases h.st with⟨_,hn,ss,c1,o⟩|⟨_,_,hf⟩
 .exact o.sure.mono λF e=>by obtain⟨mk,ss,a,b,c⟩:=e;exact⟨mk,ss,a,b,c.mono (λ_ h=>h) (zzc _) hn⟩
 .exact hf.sure
theorem JF.le(h:JF k d cs M m0):M<=16*k+1:=abL h.sure h.up
theorem AU{x:Nat}(hf:RB kK kL l d x cs M<|16*k+1)(f:DF m0 d)(a:m0<=M):QO k l d cs m M m0 x:=by
 rcases hf.code with⟨rfl,h⟩|⟨rfl,h⟩
 .exact .inl ⟨rfl,h,⟨h,f.aJ _ _,a,.inr ⟨rfl,rfl,⟨.inl ⟨rfl,h⟩,hf.fail,hf.segs,hf.sure.aJ _ _⟩⟩⟩⟩
 .exact .inr ⟨rfl,h,λb F=>⟨rfl,DF.dP<|f.left F,a,lr<|hf.sure.left b F⟩⟩
theorem xK.segs(h:xK k l d cs m sk hu M m0):l.filled<600->l.segs≠[]:=by
 rcases h.st with⟨_,_,ss,c1,o⟩|⟨_,_,hf⟩
 .exact o.lg.sg'
 .exact hf.segs
theorem xK.Ge(h:xK k l d cs m sk true M m0)(a b:Int):sk=true/\l.failed=9/\QO (k+1) l (d.aJ a b) cs m M m0 l.failed:=by
 rcases h.st with⟨e,_⟩|⟨_,I,N⟩
 .cases e
 .refine⟨I,N.fail,AU ⟨?_,rfl,N.segs,?_⟩ (h.df.aJ _ _) h.fl⟩
  .rw[N.fail];exact .inl ⟨rfl,h.up⟩
  .exact(N.mono (λ_ h=>h) (zzc _) (by omega:16*k+1<=16*(k+1)+1)).sure.aJ _ _
theorem xK.keeps(h:xK k l d cs m sk hu M m0)(I:sk=false->a<0/\b<0)(n:-2^63<=a)(hb:-2^63<=b){kind:Nat}(p:kind<128){pay:nS}(s:pay.size<=255)(o:∀i,CE m ⟨i,kind,bytesOf pay⟩ m')(hn:Ac kL m')(O:k<10000):
  ((l.keep (d.aJ a b) kind pay).2.2=0/\hu=false/\(l.keep (d.aJ a b) kind pay).2.1.down=false/\xK (k+1) (l.keep (d.aJ a b) kind pay).1 ((l.keep (d.aJ a b) kind pay).2.1.aJ (-1)<|-1) [m'] m' sk false M m0) \/
  (sk=true/\(l.keep (d.aJ a b) kind pay).2.2≠0/\QO (k+1) (l.keep (d.aJ a b) kind pay).1 (l.keep (d.aJ a b) kind pay).2.1 (if hu then cs else cs++[m']) m M m0 (l.keep (d.aJ a b) kind pay).2.2):=by
 cases hu with
 |false=>
  rcases h.st with⟨_,B,ss,c1,N⟩|⟨e,_⟩
  rotate_left
  .cases e
  have A:=N.aJ a b;have L:=DF.keep (h.df.aJ a b) (N.lg.UI.low h.fl) kind pay;rcases A.keep p s dp (o _) hn with⟨g,j,w,c⟩|e
  .refine .inl ⟨g,rfl,c.up,c.up,L.aJ _ _,h.fl,.inl ⟨rfl,?_,j,w,c.aJ _ _⟩⟩;have:=QM (l:=l) (d:=d.aJ a b) kind pay;omega
  .have hc:(l.keep (d.aJ a b) kind pay).2.2=9\/(l.keep (d.aJ a b) kind pay).2.2=10:=by obtain q|q:=e.code<;>omega
   have u:sk=true:=by
    cases f:sk with
    |true=>rfl
    |false=>
     have:=QK kind pay N.lg.eZ<|ur h.up (I f).1 (I f).2 n hb 3;omega
   exact .inr ⟨u,dp,AU (e.mono (λ_ h=>h) (zzc _) dp) L h.fl⟩
 |true=>
  have⟨r,v,t⟩:=h.Ge a b;rw[QN dp s];exact .inr ⟨r,by show l.failed≠0;omega,t⟩
theorem xK.Vv(h:xK k l d cs m sk hu M m0)(I:sk=false->a<0/\b<0)(o:-2^63<=a)(hb:-2^63<=b){kind:Nat}(r:kind<128){pay:nS}(s:pay.size<=255)(p:∀i,CE m ⟨i,kind,bytesOf pay⟩ m')(hn:Ac kL m')(O:k<10000):
  ((l.note (d.aJ a b) kind pay).2.2=0/\hu=false/\(l.note (d.aJ a b) kind pay).2.1.down=false/\xK (k+1) (l.note (d.aJ a b) kind pay).1 ((l.note (d.aJ a b) kind pay).2.1.aJ (-1)<|-1) (cs++[m']) m' sk false M m0) \/
  (sk=true/\(l.note (d.aJ a b) kind pay).2.2≠0/\QO (k+1) (l.note (d.aJ a b) kind pay).1 (l.note (d.aJ a b) kind pay).2.1 (if hu then cs else cs++[m']) m M m0 (l.note (d.aJ a b) kind pay).2.2):=by
 cases hu with
 |false=>
  rcases h.st with⟨_,B,ss,c1,N⟩|⟨e,_⟩
  rotate_left
  .cases e
  have A:=N.aJ a b;have L:=DF.note (h.df.aJ a b) (N.lg.UI.low h.fl) kind pay;rcases A.note r s dp (p _) hn with⟨j,x,n,w,f⟩|e
  .exact .inl ⟨j,rfl,f.up,f.up,L.aJ _ _,h.fl,.inl ⟨rfl,dp,n,w,f.aJ _ _⟩⟩
  .have hc:(l.note (d.aJ a b) kind pay).2.2=9\/(l.note (d.aJ a b) kind pay).2.2=10:=by obtain q|q:=e.code<;>omega
   have u:sk=true:=by
    cases g:sk with
    |true=>rfl
    |false=>
     have:=(yR (c:=0) (l:=l) (d:=d.aJ a b) kind pay N.lg.eZ (ur h.up (I g).1 (I g).2 o hb _) (by omega)).1;omega
   exact .inr ⟨u,dp,AU (e.mono (λ_ h=>h) (zzc _) dp) L h.fl⟩
 |true=>
  have⟨t,y,v⟩:=h.Ge a b;rw[yS dp s];exact .inr ⟨t,by show l.failed≠0;omega,v⟩
theorem xK.Vw(h:xK k l d cs m sk hu M m0)(I:sk=false->a<0/\b<0)(y:-2^63<=a)(hb:-2^63<=b)(g:Ac kL m)(w:1<=m.lim)(O:k<10000){es:List (Nat×nS)}(D:es=Qy m):
  ((l.eV (d.aJ a b) es).2.2=0/\hu=false/\(l.eV (d.aJ a b) es).2.1.down=false/\∃i,M+l.Jl (d.aJ a b) es<=i/\xK (k+1) (l.eV (d.aJ a b) es).1 ((l.eV (d.aJ a b) es).2.1.aJ (-1)<|-1) [m] m sk false i m0) \/
  (sk=true/\(l.eV (d.aJ a b) es).2.2≠0/\QO (k+1) (l.eV (d.aJ a b) es).1 (l.eV (d.aJ a b) es).2.1 cs m (M+l.Jl (d.aJ a b) es) m0 (l.eV (d.aJ a b) es).2.2):=by
 have hlen:es.length<=13:=by
  rw[D];unfold Qy;rw[zzr,zzn];have:=g.len;omega
 cases hu with
 |false=>
  rcases h.st with⟨_,J,ss,c1,N⟩|⟨e,_⟩
  rotate_left
  .cases e
  have A:=N.aJ a b;have s:=DF.eV (h.df.aJ a b) (N.lg.UI.low h.fl) es;have V:=Qz g;rw[<-D]at V;have n:=Mg g w<|l.next+1;rw[<-D]at n;rcases A.eV V dp n with⟨r,C,v,f,t,H⟩|e
  .exact .inl ⟨r,rfl,f.up,C,t,f.up,s.aJ _ _,by have:=h.fl;omega,.inl ⟨rfl,dp,v,[],f.aJ _ _⟩⟩
  .have hc:(l.eV (d.aJ a b) es).2.2=9\/(l.eV (d.aJ a b) es).2.2=10:=by obtain q|q:=e.code<;>omega
   have u:sk=true:=by
    cases o:sk with
    |true=>rfl
    |false=>
     have j:=λc=>ur h.up (I o).1 (I o).2 y hb c
     have B:∀x∈((254,ByteArray.empty)::es++[(255,ByteArray.empty)]:List<|Nat×nS),x.1<256/\x.2.size<=255:=λx hx=>by
      obtain hx|hx:=zzo.1 hx
      .rcases zzj.1 hx with rfl|hx
       .exact⟨by show 254<256;omega,du⟩
       .have:=V x hx;omega
      .simp_all
     have L:((254,ByteArray.empty)::es++[(255,ByteArray.empty)]:List<|Nat×nS).length=es.length+2:=dv
     by_cases z:(l.notes (d.aJ a b) ((254,ByteArray.empty)::es++[(255,ByteArray.empty)])).2.2=0
     .obtain⟨pn,c2,f1,f2⟩:=kH.notes _ A.lg A.ba A.up B (by rw[L];omega) z;have G:=f1.NV;have hx:=f1.l7;rw[L]at f2;have:=QL es N.lg.eZ j dp (by omega);omega
     .have j9:=(vX ((254,ByteArray.empty)::es++[(255,ByteArray.empty)]) (c:=0) N.lg.eZ (j _)<|by rw[L];omega).1;have p:l.eV (d.aJ a b) es=l.notes (d.aJ a b) ((254,ByteArray.empty)::es++[(255,ByteArray.empty)]):=by unfold au.eV;rw[mE z]
      rw[p]at hc;omega
   exact .inr ⟨u,dp,AU (e.mono (λ_ h=>h) (zzc _) dp) s<|by have:=h.fl;omega⟩
 |true=>
  have⟨E,K,F⟩:=h.Ge a b;obtain⟨W,Y⟩:=ED (d:=d.aJ a b) es (by omega:l.failed≠0);rw[W,Y];exact .inr ⟨E,by show l.failed≠0;omega,F⟩
theorem xK.still(h:xK k l d cs m sk hu M m0){sk':Bool}(s:sk=true->sk'=true):xK (k+1) l d cs m sk' hu M m0:=by
 refine⟨h.up,h.df,h.fl,?_⟩;rcases h.st with⟨rfl,B,ss,c1,a⟩|⟨rfl,I,N⟩
 .grind
 .exact .inr ⟨rfl,s I,N.mono (λ_ h=>h) (zzc _) dp⟩
theorem xK.aJ(h:xK k l d cs m sk hu M m0)(x y:Int):xK k l (d.aJ x y) cs m sk hu M m0:=by
 refine⟨h.up,h.df.aJ _ _,h.fl,?_⟩;rcases h.st with⟨a,c,ss,c1,e⟩|⟨a,b,N⟩
 .exact .inl ⟨a,c,ss,c1,e.aJ _ _⟩
 .exact .inr ⟨a,b,⟨.inl ⟨rfl,h.up⟩,N.fail,N.segs,N.sure.aJ _ _⟩⟩
theorem xK.Vy(h:xK k l d cs m sk hu M m0){sk':Bool}(s:sk=true->sk'=true):xK k l d cs m sk' hu M m0:=by
 refine⟨h.up,h.df,h.fl,?_⟩;obtain a|⟨a,h2,h3⟩:=h.st<;>grind
end
section
open Go.Shelf
variable{b:Nat}{L:Nat->Nat}{v:Value}{R:aP}{c:bL}{w:nL}
theorem Ev{T:List (Nat×Nat)}(h:w.ownsRow b 174 2 v T.length<|lj T):∃o c,v=.slice o T.length c/\(∀i x,T[i]?=some x->∃g,o=some (gi g)/\w.cell? (hP g<|i*2)=some (.int .u64 (x.1:Int))/\w.cell? (hP g<|i*2+1)=some (.int .i64 (x.2:Int))):=by
 rcases h.2 with⟨e,l⟩|⟨g,a,r,e,rest⟩
 .grind
 .refine⟨some ⟨g,0,none⟩,a,e,λi p hp=>⟨g,rfl,?_⟩⟩;have y:=λj d=>qW (f:=PA) (k:=2) (λ_=>rfl) T i p hp j d
  exact⟨fA h e<|y 0 du,fA h e<|y 1 du⟩
theorem Ew{T:List (Nat×Nat×Nat)}(h:w.ownsRow b 170 3 v T.length<|jv T):∃o c,v=.slice o T.length c/\(∀i x,T[i]?=some x->∃g,o=some (gi g)/\w.cell? (hP g<|i*3)=some (.int .u64 (x.1:Int))/\w.cell? (hP g<|i*3+1)=some (.int .i64 (x.2.1:Int))/\w.cell? (hP g<|i*3+2)=some (.int .i64 (x.2.2:Int))):=by
 rcases h.2 with⟨e,l⟩|⟨g,a,r,e,rest⟩
 .grind
 .refine⟨some ⟨g,0,none⟩,a,e,λi p hp=>⟨g,rfl,?_⟩⟩;have y:=λj d=>qW (f:=PB) (k:=3) (λ_=>rfl) T i p hp j d
  exact⟨fA h e<|y 0 du,fA h e<|y 1 du,fA h e<|y 2 du⟩
theorem yQ(d f:Nat)(v v2:Value)(T:List<|Nat×Nat)(w:nL)(h:w.ownsRow d 174 2 v T.length<|lj T)(b:w.ownsRow f 174 2 v2 T.length<|lj T)(hn:T.length<=4398046511103):
  Calls prog 128 #[v,v2] w λe w'=>e=.returned (.bool true)/\∃q,w'=w.drewN q:=by
 obtain⟨m,c1,rfl,H⟩:=Ev h;obtain⟨o,c2,rfl,a⟩:=Ev b;have G:=ah H;have c:=ah a;clear H a h b;have⟨n,C⟩:=gb T.length;rw[<-C]at hn ⊢;have N:Hid (T.length=n):=C.symm;clear C;go_enter func128,ntmps128;go_wp2;go_loopw [5] (λi wr=>∃k:Nat,k<=n/\i=.int .i64 k/\∃q,wr=w.drewN q) (λi _=>n-(intOf i).toNat);.exact⟨0,zzs _,rfl,0,rfl⟩
 case round=>
  obtain⟨k,s,rfl,q,rfl⟩:=hrel;by_cases W:k<n
  .obtain⟨x,hx⟩:∃x,T[k]?=some x:=⟨_,zzg<|by rw[N.out];exact W⟩;obtain⟨p,rfl,g,j⟩:=G.out k x hx;obtain⟨r,rfl,y,l⟩:=c.out k x hx;have t:(0:Int)<=k:=dp
   have u:(k:Int)<n:=dp;have⟨z,A⟩:=x;simp only[]at g j y l;clear hx;go_wp2;go_quiet (fail)
   go_wp2;go_roundw;.exact⟨k+1,dp,eR,_,rfl⟩
   case measure=>simp[intOf];omega
  .go_wp2;go_ret;exact⟨rfl,q,rfl⟩
theorem Dp(d f:Nat)(v v2:Value)(T:List<|Nat×Nat×Nat)(w:nL)(h:w.ownsRow d 170 3 v T.length<|jv T)(b:w.ownsRow f 170 3 v2 T.length<|jv T)(hn:T.length<=4398046511103):
  Calls prog 129 #[v,v2] w λe w'=>e=.returned (.bool true)/\∃q,w'=w.drewN q:=by
 obtain⟨p,c1,rfl,H⟩:=Ew h;obtain⟨r,c2,rfl,a⟩:=Ew b;have G:=ah H;have c:=ah a;clear H a h b;have⟨n,C⟩:=gb T.length;rw[<-C]at hn ⊢;have N:Hid (T.length=n):=C.symm;clear C;go_enter func129,ntmps129;go_wp2;go_loopw [5] (λi wr=>∃k:Nat,k<=n/\i=.int .i64 k/\∃q,wr=w.drewN q) (λi _=>n-(intOf i).toNat);.exact⟨0,zzs _,rfl,0,rfl⟩
 case round=>
  obtain⟨k,u,rfl,q,rfl⟩:=hrel;by_cases W:k<n
  .obtain⟨x,hx⟩:∃x,T[k]?=some x:=⟨_,zzg<|by rw[N.out];exact W⟩;obtain⟨s,rfl,g,j,l⟩:=G.out k x hx;obtain⟨t,rfl,y,m,o⟩:=c.out k x hx;have z:(0:Int)<=k:=dp
   have A:(k:Int)<n:=dp;have⟨B,D,E⟩:=x;simp only[]at g j l y m o;clear hx;go_wp2;go_quiet (fail)
   go_wp2;go_roundw;.exact⟨k+1,dp,eR,_,rfl⟩
   case measure=>simp[intOf];omega
  .go_wp2;go_ret;exact⟨rfl,q,rfl⟩
theorem cV.answer(h:cV L c R)(t:Nat):jI (c.tx t).state=((aO R.ai t).map λx=>if x.st=6 then 5 else 0).getD 6:=by
 rw[h.status];unfold jI;cases hx:aO R.ai t with
 |none=>rfl
 |some x=>
  have:=(h.ok x (bh hx).1).1.st;simp only[Option.map_some,Option.getD_some];rw[mE<|show ¬x.st=0 by omega]
def aP.stat(R:aP)(t:Nat):Nat:=((aO R.ai t).map aK.st).getD 0
def aP.ans(R:aP)(t:Nat):Nat:=((aO R.ai t).map λx=>if x.st=6 then 5 else 0).getD 6
def Looks(c:bL)(Q:aP):Prop:=∀t,t<Q.next+3->(c.tx t).state=Q.stat t/\jI (c.tx t).state=Q.ans t
theorem cV.looks(h:cV L c R):Looks c R:=λt _=>⟨h.status t,h.answer t⟩
theorem Ex [Inhabited Bs](hp p z G T J D y m n jp mp g gc:Nat)(c:bL)(l:au)(d:aj)(cv:Value)(sk hu:Bool)(S:List Nat)(R:aP)(w:nL)(h:mM w B0 hp p z G T J D y m n c l d)(a1:w.heap[jp]?=some (FZ hp mp cv gc sk hu))(P:gh w g S R)(hlen:R.ai.length<=1000)(kB:R.next<=1000000):
  Calls prog 23 #[gx jp,gx g] w λe w'=>∃r:Bool,(r=true↔Looks c R)/\e=.returned (.bool r)/\∃q,w'=w.drewN q:=by
 have k0:=af a1 0;have⟨_,x,u,v,hb⟩:=P.root;have r1:=af hb 1;simp at k0 r1;have Gv:=ah λ(t q:Nat) (f:t<18446744073709551616)=>QE B0 hp p z G T J D y m n t c l d (w.drewN q) (h.new<|(fU w).dE q).1 f;have a7:=ah λ(t q:Nat) (f:t<18446744073709551616)=>QD B0 hp p z G T J D y m n t c l d (w.drewN q) (h.new<|(fU w).dE q).1 f
 have a':=ah (show ∀(t q:Nat),Calls prog 67 #[gx g,.int .u64 (t:Int)] (w.drewN q) λe w'=>e=.returned (.int .i64 (R.stat t:Int))/\∃K,w'=(w.drewN q).drewN K from λt q=>by
  have⟨x,u,v,ps,j,_⟩:=P.Ws ((fU w).dE q) dv;exact sN g t x u v ps R _ j (by rw[j.len];omega))
 have a8:=ah (show ∀(t q:Nat),Calls prog 69 #[gx g,.int .u64 (t:Int)] (w.drewN q) λe w'=>e=.returned (.int .i64 (R.ans t:Int))/\∃K,w'=(w.drewN q).drewN K from λt q=>by
  have⟨x,u,v,ps,j,_⟩:=P.Ws ((fU w).dE q) dv;exact Ir g t x u v ps R _ j (by rw[j.len];omega))
 have⟨M,hM⟩:=gb <|R.next+3;have L:=ah (show Looks c R↔∀t,t<M->(c.tx t).state=R.stat t/\jI (c.tx t).state=R.ans t from by rw[hM];exact Iff.rfl);have iM:(R.next:Int)+3=(M:Int):=dp
 have jM:IntKind.u64.wrap (M:Int)=M:=by rw[Bl];omega
 have aa:M<=1000003:=dp;clear h P a1 hb hM kB hlen;go_enter func23,ntmps23;go_wp2;go_loopw [5] (λi wr=>∃k:Nat,k<=M/\i=.int .u64 k/\(∃q,wr=w.drewN q)/\Hid (∀t,t<k->(c.tx t).state=R.stat t/\jI (c.tx t).state=R.ans t)) (λi _=>M-(intOf i).toNat);.exact⟨0,zzs _,rfl,⟨0,rfl⟩,λt f=>absurd f<|Nat.not_lt_zero t⟩
 case round=>
  obtain⟨k,hk,rfl,⟨q,rfl⟩,I⟩:=hrel;by_cases W:k<M
  .have i0:(k:Int)<M:=dp;have⟨a,ha⟩:∃a:Nat,a=(c.tx k).state:=⟨_,rfl⟩;have⟨b,hb⟩:∃b:Nat,b=jI (c.tx k).state:=⟨_,rfl⟩;have⟨o,vw⟩:∃a:Nat,a=R.stat k:=⟨_,rfl⟩;have⟨s,X⟩:∃b:Nat,b=R.ans k:=⟨_,rfl⟩;have E:=ah<|show a=(c.tx k).state/\b=jI (c.tx k).state/\o=R.stat k/\s=R.ans k from ⟨ha,hb,vw,X⟩;clear ha hb vw X;have A:=Gv.out k q dp;rw[<-E.1]at A;go_wp2_with fail;apply A.mono;rintro e w1 ⟨rfl,rfl⟩;clear A;have B:=a'.out k q;rw[<-E.2.2.1]at B;go_wp2_with fail;apply B.mono;rintro e w2 ⟨rfl,q2,rfl⟩;clear B;rw[World.drewN_drewN];have C:=a7.out k (q+q2) dp;rw[<-E.2.1]at C;go_wp2_with fail;apply C.mono;rintro e w3 ⟨rfl,rfl⟩;clear C;have F:=a8.out k<|q+q2;rw[<-E.2.2.2]at F;go_wp2_with fail;refine F.mono ?_;rintro e w4 ⟨rfl,q4,rfl⟩;rw[World.drewN_drewN];clear F;by_cases Y:(a:Int)=o
   .obtain rfl:o=a:=dp;clear Y;by_cases Z:(b:Int)=s
    .obtain rfl:s=b:=dp;clear Z;have N:=ah (show ∀t,t<k+1->(c.tx t).state=R.stat t/\jI (c.tx t).state=R.ans t from λt f=>by
      have⟨O,Q,U,V⟩:=E.out;obtain h9|rfl:=Nat.lt_succ_iff_lt_or_eq.1 f
      .exact I.out t h9
      .exact⟨O.symm.trans U,Q.symm.trans V⟩)
     clear E I;go_wp2;go_roundw;.exact⟨k+1,dp,eR,⟨_,rfl⟩,N⟩
     case measure=>simp[intOf];omega
    .have e3:((b:Int)==s)=false:=by simpa using Z
     have N:=ah (show ¬Looks c R from λH=>by
      have⟨O,Q,U,V⟩:=E.out;have:=(L.1 H k W).2;omega)
     clear E I;go_wp2;go_ret;exact⟨false,⟨λe=>(by cases e),λe=>absurd e N.out⟩,rfl,_,rfl⟩
   .have e3:((a:Int)==o)=false:=by simpa using Y
    have N:=ah (show ¬Looks c R from λH=>by
     have⟨O,Q,U,V⟩:=E.out;have:=(L.1 H k W).1;omega)
    clear E I;go_wp2;go_ret;exact⟨false,⟨λe=>(by cases e),λe=>absurd e N.out⟩,rfl,_,rfl⟩
  .have N:=ah (show Looks c R from L.2 λt f=>I.out t dp);clear I;go_wp2;go_ret;exact⟨true,⟨λ_=>N.out,λ_=>rfl⟩,rfl,_,rfl⟩
end
variable{sk':Bool}{Qs:List aP}{kind n x:Nat}{L:Nat->Nat}{Q:aP}{d':aj}{pay:nS}
structure rR(nx:Nat)(H:Nat->List Nat)(Qs:List aP):Prop where
 ok:∀Q∈Qs,Gg nx Q
 at_:∀Q∈Qs,∀p∈Q.ds,p.2=H p.1/\0<p.1
theorem rR.mono{H:Nat->List Nat}(h:rR x H Qs)(hn:x<=n):rR n H Qs:=⟨λQ a=>(h.ok Q a).mono hn,h.at_⟩
theorem rR.snoc{H:Nat->List Nat}{R:aP}(h:rR x H Qs)(b:Gg x R)(c:∀p∈R.ds,p.2=H p.1/\0<p.1):rR x H (Qs++[R]):=by
 refine⟨λQ a=>?_,λQ a=>?_⟩
 .rcases zzo.1 a with a|a
  .exact h.ok Q a
  .simp at a;rw[a];exact b
 .rcases zzo.1 a with a|a
  .exact h.at_ Q a
  .simp at a;rw[a];exact c
structure dH(k:Nat)(c:bL)(l:au)(d:aj)(Qs:List aP)(R:aP)(gc:Nat)(sk hu:Bool)(H:Nat->List Nat)(M m0:Nat):Prop where
 jd:Jd k c R
 RM:c.next<=R.next+gc
 pos:∀x∈R.ai,0<x.id
 qs:rR R.next H Qs
 rq:∃Q∈Qs,Q.ds=R.ds
 EG:Qs.length<=k+1
 Wu:hu=false->∀x∈R.ai,x.st≠6->∀Q∈Qs,∀p∈Q.ds,p.1≠x.id
 lg:∃cs,(∀s∈cs,(∃Q∈Qs,s.ds=Q.ds)/\c.aH<=s.lim/\s.lim<=c.next+16)/\xK k l d cs c.cst sk hu M m0
structure rL(k nx gc:Nat)(d:aj)(Qs:List aP)(H:Nat->List Nat)(M m0:Nat):Prop where
 one:1<=nx
 qs:rR nx H Qs
 EG:Qs.length<=k+1
 lg:∃cs,(∀s∈cs,(∃Q∈Qs,s.ds=Q.ds)/\nx<=s.lim/\s.lim<=nx+gc+16/\s.lim<=64*(k+1)+16)/\JF k d cs M m0
def Gh(k:Nat)(c:bL)(l:au)(d:aj)(Qs:List aP)(R:aP)(gc:Nat)(H:Nat->List Nat)(M m0 x:Nat):Prop :=
 (x=9/\d.down=false/\dH k c l (d.aJ (-1) (-1)) Qs R gc true true H M m0)\/(x=10/\d.down=true/\∀F,Left d.ak d.pending F->rL k R.next gc (dP F) Qs H M m0)
section
variable{k:Nat}{c c':bL}{l:au}{d:aj}{Qs:List aP}{R R':aP}{gc:Nat}{sk hu:Bool}{H:Nat->List Nat}{M m0:Nat}{a b:Int}
theorem xK.any{cs:List qE}{m m':qE}(h:xK k l d cs m sk true M m0):xK k l d cs m' sk true M m0:=by
 refine⟨h.up,h.df,h.fl,?_⟩;rcases h.st with⟨e,_⟩|a
 .cases e
 .grind
theorem dH.gone(h:dH k c l d Qs R gc sk hu H M m0):rL k R.next gc d Qs H M m0:=by
 have⟨cs,a,e⟩:=h.lg;refine⟨h.jd.rK.1,h.qs,h.EG,cs,λs b=>?_,e.gone⟩;have:=a s b;have:=h.jd.rK;have:=h.jd.lim;have:=h.jd.rel.next;have:=h.RM;exact⟨(a s b).1,dp,dp,dp⟩
theorem dH.aJ(h:dH k c l d Qs R gc sk hu H M m0)(x y:Int):dH k c l (d.aJ x y) Qs R gc sk hu H M m0:=by
 have⟨cs,a,b⟩:=h.lg;exact⟨h.jd,h.RM,h.pos,h.qs,h.rq,h.EG,h.Wu,cs,a,b.aJ x y⟩
theorem dH.Vy(h:dH k c l d Qs R gc sk hu H M m0){sk':Bool}(s:sk=true->sk'=true):dH k c l d Qs R gc sk' hu H M m0:=by
 have⟨cs,a,b⟩:=h.lg;exact⟨h.jd,h.RM,h.pos,h.qs,h.rq,h.EG,h.Wu,cs,a,b.Vy s⟩
theorem dH.rH(h:dH k c l d Qs R gc sk hu H M m0):∀p∈R.ds,p.2=H p.1/\0<p.1:=by
 have⟨Q,a,b⟩:=h.rq;rw[<-b];exact h.qs.at_ Q a
theorem cV.cst{L:Nat->Nat}(h:cV L c R):c.cst=⟨c.aH,R.ds⟩:=by unfold bL.cst;rw[h.ds]
theorem dH.bd(h:dH k c l d Qs R gc sk hu H M m0)(f:k<=10000):Ac kL c.cst/\1<=c.cst.lim:=by
 have a:=h.jd.lim;have b:=h.jd.rK;have e:=h.jd.rel.next;rw[h.jd.rel.cst];refine⟨⟨by show c.aH<=1000000;omega,?_,jE.ds h.jd.rel.oL,λp hp=>?_⟩,by show 1<=c.aH;omega⟩
 .show R.ds.length<=12;unfold aP.ds;rw[zzn];exact zzk (Hm _ _) h.jd.rel.len
 .obtain⟨x,hx,h6,rfl⟩:=jG.1 hp;have:=(h.jd.rel.ok x hx).2;exact⟨h.pos x hx,by show x.id<c.aH;omega,(h.jd.rel.ok x hx).1.VB h6⟩
theorem dH.still(h:dH k c l d Qs R gc sk hu H M m0)(j:Jd (k+1) c' R')(b:R'.ds=R.ds)(r:c'.aH=c.aH)(hn:c.next<=c'.next)(g:R.next<=R'.next){gc':Nat}(f:c'.next<=R'.next+gc')(hp:∀x∈R'.ai,x.st≠6->(∃y∈R.ai,y.st≠6/\y.id=x.id)\/R.next<=x.id)(i:∀x∈R'.ai,0<x.id){sk':Bool}(I:sk=true->sk'=true):dH (k+1) c' l d Qs R' gc' sk' hu H M m0:=by
 have⟨cs,v,n⟩:=h.lg;refine⟨j,f,i,h.qs.mono g,by rw[b];exact h.rq,by have:=h.EG;omega,λe x hx o Q a p q=>?_,cs,λs f=>?_,?_⟩
 .rcases hp x hx o with⟨y,t,u,m⟩|U
  .rw[<-m];exact h.Wu e y t u Q a p q
  .obtain⟨z,hz,_,rfl⟩:=jG.1 q;have:=((h.qs.ok Q a).ok z hz).2;show z.id≠x.id;omega
 .grind
 .have e:c'.cst=c.cst:=by rw[j.rel.cst,h.jd.rel.cst,b,r]
  rw[e];exact n.still I
structure JNx(k:Nat)(c:bL)(R:aP)(Qs:List aP)(H H':Nat->List Nat)(hu:Bool)(gc:Nat)(c':bL)(R':aP)(cF:bL)(RF:aP):Prop where
 jd:Jd (k+1) c' R'
 jf:Jd (k+1) cF RF
 lim:c'.aH=c.aH
 rK:c'.next=c.next/\R'.next=R.next
 Mz:cF.aH=c.aH/\cF.next=c.next/\RF.next=R.next
 dsF:RF.ds=R.ds
 frF:∀x∈RF.ai,0<x.id
 pos:∀x∈R'.ai,0<x.id
 hH:hu=false->∀Q∈Qs,∀p∈Q.ds,H' p.1=H p.1
 rH:∀p∈R'.ds,p.2=H' p.1/\0<p.1
 fr:hu=false->∀x∈R'.ai,x.st≠6->∀p∈R'.ds,p.1≠x.id
theorem jE.fresh{ds:List aK}(h:jE ds){x y:aK}(hx:x∈ds)(d:y∈ds)(e:x.id=y.id):x=y:=by
 induction ds with
 |nil=>cases hx
 |cons z r ih=>
  have⟨f,c⟩:=zzA.1 h;obtain a|a:=zzj.1 hx<;>obtain b|b:=zzj.1 d
  .rw[a,b]
  .grind
  .grind
  .exact ih c a b
theorem cV.apart{L:Nat->Nat}(h:cV L c R):∀x∈R.ai,x.st≠6->∀p∈R.ds,p.1≠x.id:=λx hx a p hp e=>by
 obtain⟨y,b,d,rfl⟩:=jG.1 hp;exact a<|h.oL.fresh hx b e.symm▸d
theorem dH.keeps(h:dH k c l d Qs R gc sk hu H M m0)(S:sk=false->a<0/\b<0)(I:-2^63<=a)(hb:-2^63<=b){kind:Nat}(K:kind<128){pay:nS}(f:pay.size<=255){j:Nat->List Nat}{u:bL}{F:aP}(hn:JNx k c R Qs H j hu gc c' R' u F)(J:∀i,CE c.cst ⟨i,kind,bytesOf pay⟩ c'.cst)(Y:Ac kL c'.cst)(P:k<10000):
  ((l.keep (d.aJ a b) kind pay).2.2=0/\hu=false/\(l.keep (d.aJ a b) kind pay).2.1.down=false/\dH (k+1) c' (l.keep (d.aJ a b) kind pay).1 ((l.keep (d.aJ a b) kind pay).2.1.aJ (-1)<|-1) [R'] R' gc sk false j M m0) \/
  (sk=true/\(l.keep (d.aJ a b) kind pay).2.2≠0/\Gh (k+1) u (l.keep (d.aJ a b) kind pay).1 (l.keep (d.aJ a b) kind pay).2.1 (if hu then Qs else Qs++[R']) F gc (if hu then H else j) M m0 (l.keep (d.aJ a b) kind pay).2.2):=by
 have⟨cs,U,D⟩:=h.lg;have v:=hn.rK.2▸hn.jd.rel.RL;have V:=h.jd.lim;have A:=h.RM;have T:=h.jd.rel.next;rcases D.keeps S I hb K f J Y P with⟨n,m,o,C⟩|⟨n,m,o⟩
 .refine .inl ⟨n,m,o,hn.jd,by rw[hn.rK.1,hn.rK.2];exact A,hn.pos,⟨λQ g=>?_,λQ g=>?_⟩,⟨R',dv,rfl⟩,dv,λ_ x hx E Q g=>?_,[c'.cst],λs f=>?_,C⟩
  .simp at g;rw[g,hn.rK.2];exact v
  .simp at g;rw[g];exact hn.rH
  .simp at g;rw[g];exact hn.fr m x hx E
  .simp at f;subst f;have e:c'.cst.lim=c.aH:=hn.lim;exact⟨⟨R',dv,by rw[hn.jd.rel.cst]⟩,by rw[hn.lim,e];exact zzc _,by rw[e,hn.rK.1];omega⟩
 .refine .inr ⟨n,m,?_⟩;have z:rR F.next (if hu then H else j) (if hu then Qs else Qs++[R']):=by
   rw[hn.Mz.2.2];cases hu with
   |true=>exact h.qs
   |false=>exact rR.snoc ⟨h.qs.ok,λQ g p hp=>by rw[mE dv,hn.hH rfl Q g p hp];exact h.qs.at_ Q g p hp⟩ v hn.rH
  have L:∃Q∈(if hu then Qs else Qs++[R']),Q.ds=F.ds:=by
   have⟨Q,N,O⟩:=h.rq;refine⟨Q,?_,by rw[O,hn.dsF]⟩
   cases hu
   .grind
   .exact N
  have y:(if hu then Qs else Qs++[R']).length<=k+1+1:=by
   have:=h.EG;cases hu<;>grind
  have w:∀s∈(if hu then cs else cs++[c'.cst]),(∃Q∈(if hu then Qs else Qs++[R']),s.ds=Q.ds)/\c.aH<=s.lim/\s.lim<=c.next+16:=λs f=>by
   cases hu with
   |true=>grind
   |false=>
    rw[mE dv]at f;obtain f|f:=zzo.1 f
    .grind
    .simp at f;subst f;have e:c'.cst.lim=c.aH:=hn.lim;exact⟨⟨R',EL _ dv,by rw[hn.jd.rel.cst]⟩,by omega,by omega⟩
  rcases o with⟨q,r,t⟩|⟨q,r,t⟩
  .exact .inl ⟨q,r,hn.jf,by rw[hn.Mz.2.1,hn.Mz.2.2];exact A,hn.frF,z,L,y,(λe=>by cases e),_,λs f=>by rw[hn.Mz.1,hn.Mz.2.1];exact w s f,t.any⟩
  .refine .inr ⟨q,r,λB G=>⟨hn.jf.rK.1,z,y,_,λs f=>?_,t B G⟩⟩;rw[hn.Mz.2.2];have hx:=w s f;have:=h.jd.rK;exact⟨hx.1,dp,dp,dp⟩
end
section
variable{k:Nat}{c c':bL}{l:au}{d:aj}{E:List aP}{R R':aP}{gc:Nat}{I J:Bool}{H:Nat->List Nat}{M m0:Nat}{a b:Int}
theorem dH.JJ{cs':List qE}{K:List aP}{l':au}{d':aj}{g x:Nat}(h:dH k c l d E R gc I J H M m0)(j:rR R.next H K)(m:∀Q∈E,Q∈K)(q:K.length<=k+2)(i:∀s∈cs',(∃Q∈K,s.ds=Q.ds)/\c.aH<=s.lim/\s.lim<=c.next+16)(o:QO (k+1) l' d' cs' c.cst g m0 x):Gh (k+1) c l' d' K R gc H g m0 x:=by
 have u:=h.jd.lim;have A:=h.RM;have y:=h.jd.rel.next;have B:=h.jd.rK;rcases o with⟨a,b,f⟩|⟨a,b,f⟩
 .exact .inl ⟨a,b,h.jd.mono<|zzC k,A,h.pos,j,by have⟨Q,r,t⟩:=h.rq;exact⟨Q,m Q r,t⟩,q,(λe=>by cases e),cs',i,f⟩
 .refine .inr ⟨a,b,λF n=>⟨B.1,j,q,cs',λs p=>?_,f F n⟩⟩;have:=i s p;exact⟨this.1,dp,dp,dp⟩
theorem YY(n:Nat):(str<|be 8 n).size<=255/\bytesOf (str<|be 8 n)=be 8 n:=⟨by rw[AP<|za 8 _,ew];omega,gv<|za 8 _⟩
theorem dH.VG(h:dH k c l d E R gc I J H M m0)(D:I=false->a<0/\b<0)(y:-2^63<=a)(hb:-2^63<=b)(hx:c.next=c.aH)(A:R.ai.length<12)(O:k<10000):
  ((l.keep (d.aJ a b) 1<|str<|be 8<|c.aH+16).2.2=0/\J=false/\(l.keep (d.aJ a b) 1<|str<|be 8<|c.aH+16).2.1.down=false/\dH (k+1) (c.begun 0) (l.keep (d.aJ a b) 1<|str<|be 8<|c.aH+16).1 ((l.keep (d.aJ a b) 1<|str<|be 8<|c.aH+16).2.1.aJ (-1)<|-1) E {R with ai:=R.ai++[⟨c.next,4,0,[],false⟩],next:=c.next+1} 0 I false H M m0) \/
  (I=true/\(l.keep (d.aJ a b) 1<|str<|be 8<|c.aH+16).2.2≠0/\Gh (k+1) c (l.keep (d.aJ a b) 1<|str<|be 8<|c.aH+16).1 (l.keep (d.aJ a b) 1<|str<|be 8<|c.aH+16).2.1 E R gc H M m0 (l.keep (d.aJ a b) 1<|str<|be 8<|c.aH+16).2.2):=by
 obtain⟨cs,G,v⟩:=h.lg;have K:=h.jd.lim;have L:=h.jd.rK;have F:=h.jd.rel.next;have C:=(h.bd<|Nat.le_of_lt O).1;have P:c.cst.ds=R.ds:=by rw[h.jd.rel.cst]
 obtain⟨n,q,u⟩:=h.rq;rcases v.keeps (kind:=1) (pay:=str<|be 8<|c.aH+16) (m':=⟨c.aH+16,c.cst.ds⟩) D y hb (by omega) (YY _).1 (λi=>by rw[(YY _).2];exact CE.UG c.cst i (c.aH+16)<|by show c.aH<=_;omega) (C.more (by show c.aH<=_;omega)<|by show _<=1000000;omega) O with⟨g,f,j,t⟩|⟨g,f,j⟩
 .have hj:=h.jd.begin A hx
  have r:(c.begun 0).cst=⟨c.aH+16,c.cst.ds⟩:=by
   have:=hj.rel.cst;refine(show(c.begun 0).cst=_ from this).trans ?_;rw[P];show(⟨c.aH+16,_⟩:qE)=_;congr 1;unfold aP.ds;rw[List.filter_append];simp
  refine .inl ⟨g,f,j,hj,by show c.aH+1<=c.next+1+0;omega,λx V=>?_,h.qs.mono<|by show R.next<=c.next+1;omega,⟨n,q,?_⟩,by have:=h.EG;omega,λ_ x V w Q o p hp=>?_,[⟨c.aH+16,c.cst.ds⟩],λs m=>?_,by rw[r];exact t⟩
  .rcases zzo.1 V with e|e
   .exact h.pos x e
   .grind
  .grind [aP.ds]
  .rcases zzo.1 V with e|e
   .exact h.Wu f x e w Q o p hp
   .simp at e;obtain⟨z,B,_,rfl⟩:=jG.1 hp;have:=((h.qs.ok Q o).ok z B).2;rw[e];show z.id≠c.next;omega
  .simp at m;subst m;exact⟨⟨n,q,by rw[u];exact P⟩,zzc _,by show c.aH+16<=c.aH+1+16;omega⟩
 .refine .inr ⟨g,f,h.JJ h.qs (λ_ h=>h) (by have:=h.EG;omega) (λs m=>?_) j⟩;cases J with
  |true=>grind
  |false=>grind
theorem dH.Vv(h:dH k c l d E R gc I J H M m0)(K:I=false->a<0/\b<0)(D:-2^63<=a)(hb:-2^63<=b){kind:Nat}(G:kind<128){pay:nS}(f:pay.size<=255)(j:Jd (k+1) c' R')(Z:c'.aH=c.aH/\c'.next=c.next/\R'.next=R.next)(q:∀x∈R'.ai,x∈R.ai)(F:∀i,CE c.cst ⟨i,kind,bytesOf pay⟩ c'.cst)(O:k<10000):
  ((l.note (d.aJ a b) kind pay).2.2=0/\J=false/\(l.note (d.aJ a b) kind pay).2.1.down=false/\dH (k+1) c' (l.note (d.aJ a b) kind pay).1 ((l.note (d.aJ a b) kind pay).2.1.aJ (-1)<|-1) (E++[R']) R' gc I false H M m0) \/
  (I=true/\(l.note (d.aJ a b) kind pay).2.2≠0/\Gh (k+1) c (l.note (d.aJ a b) kind pay).1 (l.note (d.aJ a b) kind pay).2.1 (if J then E else E++[R']) R gc H M m0 (l.note (d.aJ a b) kind pay).2.2):=by
 have⟨cs,B,C⟩:=h.lg;have L:=h.jd.lim;have u:∀p∈R'.ds,p∈R.ds:=λp hp=>by
  have⟨x,hx,o,e⟩:=jG.1 hp;exact jG.2 ⟨x,q x hx,o,e⟩
 have y:=h.qs.snoc (Z.2.2▸j.rel.RL) λp hp=>h.rH p<|u p hp
 have z:Ac kL c'.cst:=by
  have⟨t,_⟩:=h.bd<|Nat.le_of_lt O;rw[j.rel.cst];rw[h.jd.rel.cst]at t;refine⟨by rw[Z.1];exact t.lim,?_,jE.ds j.rel.oL,λp hp=>by rw[Z.1];exact t.pos p<|u p hp⟩;show R'.ds.length<=12;unfold aP.ds;rw[zzn];exact zzk (Hm _ _) j.rel.len
 have v:∀s∈cs++[c'.cst],(∃Q∈E++[R'],s.ds=Q.ds)/\c.aH<=s.lim/\s.lim<=c.next+16:=λs f=>by
  obtain f|f:=zzo.1 f
  .grind
  .simp at f;subst f;have e:c'.cst.lim=c.aH:=Z.1;exact⟨⟨R',EL _ dv,by rw[j.rel.cst]⟩,by omega,by omega⟩
 have w:(E++[R']).length<=k+2:=by rw[zzi,List.length_singleton];have:=h.EG;omega
 rcases C.Vv K D hb G f F z O with⟨r,m,n,A⟩|⟨r,m,n⟩
 .refine .inl ⟨r,m,n,j,by rw[Z.2.1,Z.2.2];exact h.RM,λx hx=>h.pos x<|q x hx,by rw[Z.2.2];exact y,⟨R',EL _ dv,rfl⟩,w,λ_ x hx o Q g=>?_,_,λs f=>by rw[Z.1,Z.2.1];exact v s f,A⟩;obtain g|g:=zzo.1 g
  .exact h.Wu m x (q x hx) o Q g
  .simp at g;rw[g];exact j.rel.apart x hx o
 .refine .inr ⟨r,m,?_⟩;cases J with
  |true=>exact h.JJ h.qs (λ_ h=>h) (by have:=h.EG;show E.length<=_;omega) B n
  |false=>exact h.JJ y (λQ g=>List.mem_append_left _ g) w v n
theorem dH.Vw(h:dH k c l d E R gc I J H M m0)(A:I=false->a<0/\b<0)(t:-2^63<=a)(hb:-2^63<=b)(O:k<10000){es:List (Nat×nS)}(D:es=(vk c).map yC):
  ((l.eV (d.aJ a b) es).2.2=0/\J=false/\(l.eV (d.aJ a b) es).2.1.down=false/\∃f,M+l.Jl (d.aJ a b) es<=f/\dH (k+1) c (l.eV (d.aJ a b) es).1 ((l.eV (d.aJ a b) es).2.1.aJ (-1)<|-1) [R] R gc I false H f m0) \/
  (I=true/\(l.eV (d.aJ a b) es).2.2≠0/\Gh (k+1) c (l.eV (d.aJ a b) es).1 (l.eV (d.aJ a b) es).2.1 (if J then E else E++[R]) R gc H (M+l.Jl (d.aJ a b) es) m0 (l.eV (d.aJ a b) es).2.2):=by
 have⟨cs,n,q⟩:=h.lg;have u:=h.jd.lim;have⟨B,y⟩:=h.bd<|Nat.le_of_lt O;rcases q.Vw A t hb B y O (D.trans<|aby c)with⟨j,m,g,f,o,p⟩|⟨j,m,g⟩
 .refine .inl ⟨j,m,g,f,o,h.jd.mono<|zzC k,h.RM,h.pos,⟨λQ e=>?_,λQ e=>?_⟩,⟨R,dv,rfl⟩,dv,λ_ x hx r Q e=>?_,_,λs i=>?_,p⟩
  .simp at e;rw[e];exact h.jd.rel.RL
  .simp at e;rw[e];exact h.rH
  .simp at e;rw[e];exact h.jd.rel.apart x hx r
  .simp at i;subst i;exact⟨⟨R,dv,by rw[h.jd.rel.cst]⟩,zzc _,u.2⟩
 .refine .inr ⟨j,m,?_⟩;cases J with
  |true=>exact h.JJ h.qs (λ_ h=>h) (by have:=h.EG;show E.length<=_;omega) n g
  |false=>exact h.JJ (h.qs.snoc h.jd.rel.RL h.rH) (λQ e=>List.mem_append_left _ e) (by rw[mE dv,zzi,List.length_singleton];have:=h.EG;omega) (λs i=>by have⟨⟨Q,v,w⟩,z⟩:=n s i;exact⟨⟨Q,List.mem_append_left _ v,w⟩,z⟩) g
end
theorem Ob:aP.ds {Q.rest with next:=n}=Q.ds:=by
 unfold aP.ds;show((jW Q.ai).filter _).map _=_;unfold jW;rw[List.filter_map,List.map_map,List.filter_filter]
 have e:(Q.ai.filter λx=>((λx:aK=>decide<|x.st=6)∘mP) x&&decide (x.st=6))=Q.ai.filter λx=>decide (x.st=6):=List.filter_congr λx _=>by
  show(decide (x.st=6)&&decide (x.st=6))=_;simp
 rw[e];refine List.map_congr_left λx _=>?_
 show(x.id,(mP x).yes)=(x.id,x.yes);congr 1;unfold aK.yes;show((x.parts.map jc).filter _).map _=_;rw[List.filter_map,List.map_map];rfl
theorem EH{k gc M m0 mk:Nat}{d:aj}{E:List aP}{H:Nat->List Nat}{x:bL}{s:qE}{l:au}{ss:List Sg}(g:rL k n gc d E H M m0)(U:n<=s.lim/\s.lim<=n+gc+16/\s.lim<=64*(k+1)+16)(hx:En x s)(r:x.res=[]/\x.out=[])(c:Q∈E)(i:s.ds=Q.ds)(h:kH l d' mk ss [])(hb:kJ d'.ak mk ss)(f:d'.down=false)(L:ny kK kL mk (chunks ss).flatten s)(hn:az mk ss<=16*k+1):
  dH (k+1) {x with next:=x.aH} l d' [{Q.rest with next:=n}] {Q.rest with next:=n} (gc+32) false false H mk mk:=by
 have p:=hx.lim;have hrel:=hx.rel r (g.qs.ok Q c) i (by omega);have P:aP.ds {Q.rest with next:=n}=Q.ds:=Ob;have m:=g.qs.at_ Q c;have o:bL.cst {x with next:=x.aH}=s:=by
  have e:=hrel.cst;rw[P,<-i]at e;exact e.trans<|by show(⟨x.aH,s.ds⟩:qE)=s;rw[p]
 refine⟨⟨hrel,⟨zzc _,by show x.aH<=x.aH+16;omega⟩,⟨g.one,by show x.aH<=_;omega⟩,by show x.bw<=_;rw[hx.zero.2];omega,by simp[aP.rest],by simp[aP.rest]⟩,by show x.aH<=n+(gc+32);omega,λy b=>?_,⟨λj Y=>?_,λj Y=>?_⟩,⟨_,dv,rfl⟩,dv,λ_ y b a=>?_,[s],λt q=>?_,?_⟩
 .obtain⟨z,h1,a,rfl⟩:=qu.1 b;exact(m _<|jG.2 ⟨z,h1,a,rfl⟩).2
 .simp at Y;rw[Y];exact hrel.RL
 .grind
 .obtain⟨z,h1,h6',rfl⟩:=qu.1 b;exact absurd h6' a
 .grind
 .rw[o];refine⟨f,h.floor,zzc _,.inl ⟨rfl,?_,ss,[],⟨h,hb,f,?_,?_,⟨s,dv,rfl⟩⟩⟩⟩
  .have:=h.next;simp at this;omega
  .have hdk:=h.Ma.1;rw[wo,hdk];exact NY.all L
  .grind
section
open Go.Shelf
variable{b:Array Value}{S:List Nat}{k:Nat}{t:TypeId}
structure iw [Inhabited Bs](w w':nL):Prop where
 below:Below B0 w w'
 step:∀(k:Nat) (c:Array Value),w.heap[k]?=some (.cells c 40 (0,0))->w'.heap[k]?=some (.cells c 40 (0,0))
section
variable [Inhabited Bs]{w w' w2:nL}
theorem iw.trans(h:iw w w')(k:iw w' w2):iw w w2:=⟨h.below.trans k.below,λi c a=>k.step i c<|h.step i c a⟩
theorem iw.Ey{S:List Nat}(hf:Fr S w w')(B:B0<=w.heap.size)(a:∀k∈S,B0<=k/\∀c,w.heap[k]?≠some (.cells c 40 (0,0))):iw w w':=
 ⟨hf.below B λk h=>(a k h).1,λk c h=>(hf.block k (zza.1 h).1 λm=>(a k m).2 c h).trans h⟩
theorem iw.new(hf:Fr [] w w')(B:B0<=w.heap.size):iw w w':=by grind[iw.Ey]
end
section
variable{w w':nL}{B hp p cp gp bT lp bD bN m n m' n':Nat}{c c':bL}{l l':au}{d d':aj}
structure Lwc(w:nL)(hp p cp gp bT lp k:Nat):Prop where
 own:¬Own lp p w k
 text:∀t,w.heap[k]?≠some (gN t)
 ne:k∉[hp,cp,gp,bT]
 rd:k∉rd cp w
theorem mM.law{S:List Nat}(h:mM w B hp p cp gp bT lp bD bN m n c l d)(hf:Fr S w w')(b:∀k∈S,k<w.heap.size->Lwc w hp p cp gp bT lp k):mM w' B hp p cp gp bT lp bD bN m n c l d/\(∀k,Own lp p w' k->Own lp p w k)/\rd cp w'=rd cp w:=by
 have⟨u,s⟩:=h;have⟨pv,K,J,G,N,x⟩:=s.lg;have j:∀k,k<(nF w)->k∈[hp,cp,gp,bT]->k∉S:=λk f q hx=>(b k hx f).ne q
 have L:=x.apart hf λk f W=>⟨(b k f W).own,(b k f W).text⟩
 have r:=(zza.1 u).1;have i:=s.co.jS;have t:=(zza.1 s.qD).1;have⟨I,H,o,z,A,C,D⟩:=s.co.ex;have Y:=hf.block cp i.1 (j cp i.1 dv);have row:∀{e:TypeId} {k m:Nat} {v:Value} {xs:List Value},w.ownsRow B e k v m xs->(∀g,v.ownBlock=some g->g∈rd cp w)->w'.ownsRow B e k v m xs:=λy E=>ar y hf λg a q=>(b g q (y.lt g a).2).rd<|E g a
 refine⟨⟨(hf.block hp r<|j hp r dv).trans u,⟨⟨⟨I,H,Y.trans o,row z λg a=>by unfold Go.Proofs.YtlgeloebpdmnnaaGreatDoor.rd Go.Proofs.YtlgeloebpdmnnaaGreatDoor.Gz;rw[o];simp[a],row A λg a=>by unfold Go.Proofs.YtlgeloebpdmnnaaGreatDoor.rd Go.Proofs.YtlgeloebpdmnnaaGreatDoor.Gz;rw[o];simp[a],C,D⟩,s.co.aD.fr hf<|j bT i.2.1 dv,⟨s.co.low.1,s.co.low.2.1,zzk s.co.low.2.2 hf.size⟩,s.co.gw⟩,⟨pv,K,J,G,N,L⟩,(hf.block gp t<|j gp t dv).trans s.qD,s.ne,s.PG⟩⟩,λk F=>(x.own k).2<|(L.own k).1 F,lR Y⟩
theorem mM.apart(h:mM w B hp p cp gp bT lp bD bN m n c l d){k:Nat}{f:Array Value}{t:TypeId}(a:w.heap[k]?=some (.cells f t (0,0)))(i:t≠194)(g:t≠273)(j:t≠71):k∉[hp,cp,gp,bT]:=by
 have⟨o,s⟩:=h;have⟨cs,Y⟩:=s.co.w_;intro b;simp at b;obtain e|e|e|e:=b
 .grind
 .grind
 .rw[e,s.qD]at a;exact Mk g.symm a
 .obtain⟨es,c2,e2⟩:=s.co.aD.isMap;rw[e,e2]at a;cases a
theorem mM.lwr(h:mM w B hp p cp gp bT lp bD bN m n c l d){k:Nat}{b:Array Value}{t:TypeId}(a:w.heap[k]?=some (.cells b t (0,0)))(x:k∉rd cp w)(f:t≠65)(g:t≠200)(i:t≠177)(j:t≠34)(o:t≠89)(q:t≠194)(r:t≠273)(s:t≠9)(u:t≠71):Lwc w hp p cp gp bT lp k:=by
 have⟨pv,z,y,D,N,v⟩:=h.2.lg;exact⟨v.free a f g i j o,λt e=>Mk s<|a.symm.trans e,h.apart a q r u,x⟩
theorem mM.lw(h:mM w B hp p cp gp bT lp bD bN m n c l d){k:Nat}{b:Array Value}{t:TypeId}(a:w.heap[k]?=some (.cells b t (0,0)))(e:t≠65)(f:t≠200)(g:t≠177)(i:t≠34)(j:t≠89)(o:t≠194)(q:t≠273)(s:t≠9)(u:t≠71)(G:t≠174)(r:t≠170):Lwc w hp p cp gp bT lp k:=
 h.lwr a (h.2.co.rd_not a G r) e f g i j o q s u
end
section
variable [Inhabited Bs]{w w':nL}{I:Nat}{S T:List Nat}{R:aP}
variable{hp p cp gp bT lp bD bN m n m' n':Nat}{c c':bL}{l l':au}{d d':aj}
theorem gh.lw(h:gh w I S R)(hx:mM w B0 hp p cp gp bT lp bD bN m n c l d)(b:∀k∈S,k∉rd cp w){k:Nat}(a:k∈S):Lwc w hp p cp gp bT lp k:=by
 have⟨_,_,g,t,e,f⟩:=h.kinds a;obtain rfl|rfl|rfl|rfl|rfl:=f<;>exact hx.lwr e (b k a) du du du du du du du du du
theorem iw.ee(h:mM w B0 hp p cp gp bT lp bD bN m n c l d)(hf:jJ cp bT lp p w w'):iw w w':=
 ⟨(hf.kO h.2).below,λ_ _ k=>hf.cells h.2 k du du du du du du du du⟩
theorem fo.lfr{E:List Nat}(hf:fo S E w w')(h:gh w I S R):iw w w':=by
 refine iw.Ey hf.fr h.size λk a=>⟨(h.kinds a).1,λd e=>?_⟩
 have⟨_,_,c2,t,c,b⟩:=h.kinds a;rw[e]at c;obtain rfl|rfl|rfl|rfl|rfl:=b<;>exact Mk du c
end
structure zH [Inhabited Bs](w:nL)(hp p cp gp bT lp bD bN m n:Nat)(c:bL)(l:au)(d:aj)(jp:Nat)(cv:Value)(gc:Nat)(sk hu:Bool)(M:cC)(cl:List cC):Prop where
 host:mM w B0 hp p cp gp bT lp bD bN m n c l d
 mem:nI w hp jp cv gc sk hu M cl
 zR:∀x∈M :: cl,∀k∈x.2.2,k∉rd cp w
def mO(M:cC)(R':aP)(E:List Nat)(cl:List cC):List cC:=cl.map λx=>if x.1=M.1 then (M.1,R',E) else x
section
variable [Inhabited Bs]{w w' w2:nL}{hp p cp gp bT lp bD bN m n m' n' jp gc:Nat}{c c':bL}{l l':au}{d d':aj}{cv cv':Value}{sk hu:Bool}{M:cC}{cl:List cC}{E:List Nat}{R':aP}
theorem zH.size(h:zH w hp p cp gp bT lp bD bN m n c l d jp cv gc sk hu M cl):B0<=w.heap.size:=h.mem.size
theorem zH.ref(h:zH w hp p cp gp bT lp bD bN m n c l d jp cv gc sk hu M cl):gh w M.1 M.2.2 M.2.1:=h.mem.each M dv
theorem zH.mg(h:zH w hp p cp gp bT lp bD bN m n c l d jp cv gc sk hu M cl):oO w B0 hp p bD bN (cx cp bT lp w) d n:=.inl ⟨cp,gp,bT,lp,m,c,l,rfl,h.host⟩
theorem zH.free(h:zH w hp p cp gp bT lp bD bN m n c l d jp cv gc sk hu M cl):∀x∈M::cl,∀k∈x.2.2,¬jN hp p (cx cp bT lp w) w k:=λx hx k b o=>by
 have a:=(h.mem.each x hx).lw h.host (h.zR x hx) b;obtain e|e|e:=cQ.1 o
 .exact a.ne<|by simp[e]
 .exact a.own e
 .rcases zzj.1 e with e|e
  .exact a.ne<|by simp[e]
  .rcases zzj.1 e with e|e
   .exact a.ne<|by simp[e]
   .exact a.rd e
theorem zH.cfr(h:zH w hp p cp gp bT lp bD bN m n c l d jp cv gc sk hu M cl)(b:mM w' B0 hp p cp gp bT lp bD bN m' n' c' l' d')(hf:jJ cp bT lp p w w'):zH w' hp p cp gp bT lp bD bN m' n' c' l' d' jp cv gc sk hu M cl:=by
 refine⟨b,(h.mem.host h.mg (hf.vR) h.free).1,λx hx k a e=>?_⟩;exact h.zR x hx k a<|hf.own k ((h.mem.each x hx).kinds a).2.1 e
theorem zH.new(h:zH w hp p cp gp bT lp bD bN m n c l d jp cv gc sk hu M cl)(hf:Fr [] w w'):zH w' hp p cp gp bT lp bD bN m n c l d jp cv gc sk hu M cl:=by
 have⟨k,a⟩:=h.host.new hf;exact h.cfr k a
theorem zH.GL(h:zH w hp p cp gp bT lp bD bN m n c l d jp cv gc sk hu M cl)(hf:fo M.2.2 E w w')(r:gh w' M.1 E R'):zH w' hp p cp gp bT lp bD bN m n c l d jp cv gc sk hu (M.1,R',E) (mO M R' E cl):=by
 have⟨f,j,g⟩:=h.host.law hf.fr λk a _=>h.ref.lw h.host (h.zR M dv) a
 have S:∀k∈E,k∉rd cp w:=λk a b=>by
  have⟨_,i,t,e,_⟩:=h.host.2.co.Tv b;exact h.zR M dv k (hf.stay k a (zza.1 e).1) b
 refine⟨f,h.mem.fL hf r,λx hx k a=>?_⟩;rw[g];obtain rfl|hx:=zzj.1 hx
 .grind
 .obtain⟨y,hy,rfl⟩:=zzq.1 hx;by_cases e:y.1=M.1
  .grind
  .rw[mE e]at a;exact h.zR y (by simp[hy]) k a
end
end
variable{t:Nat}{x:aK}
section
variable{c:bL}{R:aP}
theorem Cw{t i:Nat}{x:aK}(h:eW R.ai t=some i)(a:R.ai[i]?=some x):R.cR t=R.setAt i {x with aS:=true}:=by grind[aP.cR]
theorem fJ.cR(h:fJ c R){t y:Nat}{x:aK}(hx:aO R.ai t=some x)(j:x.st=5)(d:y=9\/y=10):fJ (c.cR t y) (R.cR t):=by
 obtain⟨i,f,a,g⟩:=fg hx;have Z:=(h.ok x<|zzh a).1;have⟨b,l⟩:=h.ib hx;rw[Cw f a];subst g;have:=h.Cl (y:={x with aS:=true}) (T:={c.tx x.id with aS:=y}) (res:=R.res) a rfl ⟨b.st,b.ps,(λ_ e=>by cases e),⟨by rcases d with rfl|rfl<;>simp,.inr d⟩⟩ (h.sin _<|eO l) ⟨Z.st,Z.up,Z.act,Z.vot,Z.N8,Z.ne,λ_=>j⟩<|show c.out=R.out from h.out;unfold bL.cR;rw[show({c with aD:=dt c.aD x.id {c.tx x.id with aS:=y}}:bL)={c with aD:=dt c.aD x.id {c.tx x.id with aS:=y},res:=R.res,out:=c.out} by rw[<-h.res]];exact this
theorem rz(t:Nat):(R.cR t).next=R.next:=by
 unfold aP.cR;split
 .rfl
 .split<;>rfl
end
section
open Go.Shelf
variable{R:aP}
theorem tA{M:cC}{R':aP}{S a:List Nat}{I:List cC}:mO (M.1,R',S) R a (mO M R' S I)=mO M R a I:=by
 unfold mO;rw[List.map_map];refine List.map_congr_left λx _=>?_
 show(if (if x.1=M.1 then (M.1,R',S)else x).1=M.1 then (M.1,R,a)else (if x.1=M.1 then (M.1,R',S)else x))=_;by_cases e:x.1=M.1
 .grind
 .simp[e]
theorem oh{w w':nL}{b q:Nat}{e a:TypeId}{size n:Nat}{v:Value}{xs:List Value}{c:Array Value}{fr:Nat×Nat}(h:w.ownsRow b e size v n xs)(hf:Fr [q] w w')(f:w.heap[q]?=some (.cells c a fr))(d:e≠a):w'.ownsRow b e size v n xs:=by grind[ar,aQ]
theorem abD(n c:Nat)(w:nL):(binOp .eql 117 (.slice none n c)<|.slice none 0 0).run prog w=.ok (.bool true) w:=eu
theorem abE(n c:Nat)(w:nL):(binOp .eql 118 (.slice none n c)<|.slice none 0 0).run prog w=.ok (.bool true) w:=eu
section
variable [Inhabited Bs](hp p a f O g h J m n i E:Nat)(c:bL)(l:au)(d:aj)(j:Value)(gc:Nat)(o k:Bool)(I:List cC)(S:List Nat)(R:aP)(w:nL)
omit [Inhabited Bs] in
theorem cV.asked{L:Nat->Nat}{c:bL}{R:aP}(h:cV L c R):cV L {c with res:=[],out:=[]} {R with res:=[],out:=[]}:=⟨h.oL,h.Mn,h.non,h.ok,h.len,h.o1,h.sin,h.next,rfl,rfl⟩
theorem N_(B:zH w hp p a f O g h J m n c l d i j gc o k (E,R,S) I)(K:fJ c R)(uO:R.res.length<=1048576)(D5:R.out.length<=1048576):
  Calls prog 71 #[gx i] w λe w'=>e=.returned (.bool true)/\∃x,zH w' hp p a f O g h J m n {c with res:=[],out:=[]} l d i j gc o k (E,{R with res:=[],out:=[]},x) (mO (E,R,S) {R with res:=[],out:=[]} x I)/\iw w w':=by
 have k0:=af B.mem.kb 0;simp at k0;have D:=Ml B0 hp p a f O g h J m n c l d w B.host;rw[K.res]at D;have HG:Hid (c.out=R.out):=K.out;have ae:=abD;have ag:=abE;have P:=ah B;clear B K;go_enter func71,ntmps71;go_wp2_with fail;apply D.mono;clear D k0;rintro e w1 ⟨v1,rfl,ra,na,KP,AF,vw,cY,oW⟩;have t:=P.out.cfr AF oW;have k1:=af t.mem.kb 1;simp at k1;have⟨_,nJ,gM,iJ,W⟩:=t.ref.root;have X:=Fs E S R w1 t.ref;have s:=ah<|zzb t<|zzb ra<|zzb W<|iw.ee P.out.host oW;have Q:=ah na;clear t ra na KP AF vw cY oW W;obtain⟨aa,z,ac,rfl⟩:=dN s.2.1;go_wp2_with fail;apply X.mono;clear X k1;rintro e w2 ⟨v2,S2,rfl,rb,zo,dy,bH,mL⟩;have u:=s.1.GL mL zo;have k2:=af u.mem.kb 0;simp at k2;have G:=abA B0 hp p a f O g h J m n _ l d w2 u.host;simp only[HG.out]at G;have V:=u.host.2.co.w_;have b:=ah (zzb u<|zzb (oh s.2.1 bH s.2.2.1 du)<|zzb rb<|zzb V<|s.2.2.2.trans<|mL.lfr s.1.ref);clear u rb zo dy bH mL V s;obtain⟨ba,bm,bc,rfl⟩:=dN b.2.2.1;go_wp2_with fail;apply G.mono;clear G k2;rintro e w3 ⟨v3,rfl,rc,nc,kn,zy,iy,fu,yr⟩;have v:=b.1.cfr zy yr;have k3:=af v.mem.kb 1;simp at k3;have⟨_,an,al,I5,iL⟩:=v.ref.root;have Y:=TI E S2 _ w3 v.ref;have⟨ad,F⟩:=b.2.2.2.1;have H:=ah (zzb v<|zzb (oh b.2.1 fu F du)<|zzb (oh b.2.2.1 fu F du)<|zzb rc<|zzb iL<|b.2.2.2.2.trans<|iw.ee b.1.host yr);have T:=ah nc;clear v rc nc kn zy iy fu yr iL F b;obtain⟨ca,A,cx,rfl⟩:=dN H.2.2.2.1
 go_wp2_with fail;refine Y.mono ?_;clear Y k3;rintro e r ⟨v4,S4,rfl,rd4,GJ,nM,iI,Rx⟩;obtain⟨da,dm,dx,rfl⟩:=dN rd4;have U:=H.1.GL Rx GJ;have L:=oh H.2.1 iI H.2.2.2.2.1 du;have a1:=oh H.2.2.1 iI H.2.2.2.2.1 du;have N:=oh H.2.2.2.1 iI H.2.2.2.2.1 du;have Z:=yQ B0 B0 _ _ R.res r L a1 dp;have f6:=λq=>Dp B0 B0 _ _ R.out (r.drewN q) (ar N ((fU r).dE q) dv) (ar rd4 ((fU r).dE q) dv) dp
 have C:=ah<|zzb U<|H.2.2.2.2.2.trans<|Rx.lfr H.1.ref
 have a8:z=R.res.length:=by
  rcases L.2 with⟨e,y⟩|⟨_,_,_,e,_⟩
  .simp only[Bx]at e;omega
  .simp only[Bx]at e;exact e.2.1
 have a':A=R.out.length:=by
  rcases N.2 with⟨e,y⟩|⟨_,_,_,e,_⟩
  .simp only[Bx]at e;omega
  .simp only[Bx]at e;exact e.2.1
 have ab:(z=0/\aa=none)\/(0:Int)<z:=by
  by_cases y:z=0
  .refine .inl ⟨y,?_⟩;have:=Q.out dp;simp only[Bx]at this;exact this.1
  .exact .inr dp
 have oU:(A=0/\ca=none)\/(0:Int)<A:=by
  by_cases y:A=0
  .refine .inl ⟨y,?_⟩;have:=T.out dp;simp only[Bx]at this;exact this.1
  .exact .inr dp
 have a7:Hid (∀q,∃x,zH (r.drewN q) hp p a f O g h J m n {c with res:=[],out:=[]} l d i j gc o k (E,{R with res:=[],out:=[]},x) (mO (E,R,S) {R with res:=[],out:=[]} x I)/\iw w (r.drewN q)):=λq=>⟨S4,(tA (M:=(E,R,S))▸C.1).new<|(fU r).dE q,C.2.trans<|iw.new ((fU r).dE q) C.1.size⟩
 clear U L a1 N rd4 GJ nM iI Rx H Q T a8 a';go_wp2_with fail;apply Z.mono;clear Z;rintro e w5 ⟨rfl,q5,rfl⟩;go_wp2_with fail;apply(f6 _).mono;clear f6;rintro e w6 ⟨rfl,q6,rfl⟩;rw[World.drewN_drewN];rcases ab with⟨rfl,rfl⟩|ia<;>rcases oU with⟨rfl,rfl⟩|ic
 all_goals
  go_wp2;go_ret;exact⟨rfl,a7.out _⟩
end
end
variable{a b:Int}{kk t v y:Nat}{x:aK}{p:aU}{pay:nS}
section
variable{k:Nat}{c:bL}{l:au}{d:aj}{I:List aP}{R R':aP}{gc:Nat}{J E:Bool}{H:Nat->List Nat}{M m0:Nat}
theorem fJ.posOf{c':bL}{t:Nat}{T:fQ}(h:fJ c R)(r:fJ c' R')(hp:∀x∈R.ai,0<x.id)(g:0<t)(e:c'.aD=dt c.aD t T):∀z∈R'.ai,0<z.id:=λz d=>by
 have⟨f,a,_⟩:=r.Mn z d;rw[e,kc]at a;by_cases b:z.id=t
 .omega
 .rw[mE b]at a;cases hx:aO R.ai z.id with
  |none=>rw[h.non _ hx]at a;cases a
  |some x=>have⟨m,m2⟩:=bh hx;rw[<-m2];exact hp x m
theorem dH.abM(h:dH k c l d I R gc J E H M m0){t kk v y:Nat}{x:aK}{p:aU}(hx:aO R.ai t=some x)(a:x.st=5)(w:x.aS=false)(hp:dW x.parts kk=some p)(o:p.aZ=0)(L:v=2\/v=4)(Z:((c.tx t).parts.set kk v).any nk=false)(Y:((c.tx t).parts.set kk v).any fG=true)(B:y=9\/y=10):
  JNx k c R I H (λu=>if u=t then bV fG ((c.tx t).parts.set kk v)else H u) E gc (c.comm t {c.tx t with parts:=(c.tx t).parts.set kk v,state:=6}) (R.aZ t (kk:Int) (v:Int)) (c.cR t y) (R.cR t):=by
 have hrel:=h.jd.rel;have⟨m,g⟩:=bh hx;have V:0<t:=by rw[<-g];exact h.pos x m
 have⟨r,_⟩:=(hrel.aZ hx a w hp o dp).2.2.2 dp Z Y;have hf:=hrel.cR hx a B;have⟨i,F,G,N⟩:=fg hx;have D:=Cw F G;have⟨T,A⟩:=hrel.ib hx;have n:jZ c.aD t=none:=by unfold jZ;rw[A];show(if (c.tx t).state=6 then _ else none)=none;rw[mE<|by rw[T.st,a];omega]
 have⟨K,v2,j⟩:=Cu (λz C=>(hrel.ok z C).1.up.len) t (kk:Int) (v:Int);refine {jd:=h.jd.step r rfl rfl rfl j K v2,jf:=h.jd.step hf rfl rfl rfl (rz t) (by rw[D];exact Nat.le_add_right _ _)<|by rw[D];exact Nat.le_add_right _ _,lim:=rfl,rK:=⟨rfl,j⟩,Mz:=⟨rfl,rfl,rz t⟩,dsF:=?_,frF:=hrel.posOf hf h.pos V rfl,pos:=hrel.posOf r h.pos V rfl,hH:=λe Q s q b=>?_,rH:=λq b=>?_,fr:=λ_=>r.apart}
 .rw[<-hf.ds,<-hrel.ds];exact YG hrel.o1 n<|by show(c.tx t).state≠6;rw[T.st,a];omega
 .have:=h.Wu e x m dp Q s q b;show(if q.1=t then _ else H q.1)=H q.1;rw[mE<|by rw[<-g];exact this]
 .rw[<-r.ds,jP r.o1]at b;have f:jZ (dt c.aD t {c.tx t with parts:=(c.tx t).parts.set kk v,state:=6}) q.1=some q.2:=b;rw[tq]at f;show q.2=(if q.1=t then _ else H q.1)/\_;by_cases e:q.1=t
  .grind
  .rw[mE e]at f;rw[mE e];exact h.rH q<|by rw[<-hrel.ds];exact(jP hrel.o1).2 f
theorem dH.fw{a b:Int}(h:dH k c l d I R gc J E H M m0)(X:J=false->a<0/\b<0)(A:-2^63<=a)(hb:-2^63<=b){t kk v y:Nat}{x:aK}{p:aU}(hx:aO R.ai t=some x)(f:x.st=5)(B:x.aS=false)(hp:dW x.parts kk=some p)(s:p.aZ=0)(L:v=2\/v=4)(Z:((c.tx t).parts.set kk v).any nk=false)(Y:((c.tx t).parts.set kk v).any fG=true)(N:y=9\/y=10)(O:k<10000){pay:nS}(G:pay=str (be 8 t++bV fG ((c.tx t).parts.set kk v))){e:Nat->List Nat}(w:e=λu=>if u=t then bV fG ((c.tx t).parts.set kk v)else H u):
  ((l.keep (d.aJ a b) 2 pay).2.2=0/\E=false/\(l.keep (d.aJ a b) 2 pay).2.1.down=false/\dH (k+1) (c.comm t {c.tx t with parts:=(c.tx t).parts.set kk v,state:=6}) (l.keep (d.aJ a b) 2 pay).1 ((l.keep (d.aJ a b) 2 pay).2.1.aJ (-1)<|-1) [R.aZ t (kk:Int) (v:Int)] (R.aZ t (kk:Int) (v:Int)) gc J false e M m0) \/
  (J=true/\(l.keep (d.aJ a b) 2 pay).2.2≠0/\Gh (k+1) (c.cR t y) (l.keep (d.aJ a b) 2 pay).1 (l.keep (d.aJ a b) 2 pay).2.1 (if E then I else I++[R.aZ t (kk:Int) (v:Int)]) (R.cR t) gc (if E then H else e) M m0 (l.keep (d.aJ a b) 2 pay).2.2):=by
 have hn:=h.abM hx f B hp s L Z Y N;rw[<-w]at hn;have hrel:=h.jd.rel;have r:=hn.jd.rel;have⟨m,C⟩:=bh hx;have V:0<t:=by rw[<-C];exact h.pos x m
 have⟨T,F⟩:=hrel.ib hx;have D:jZ c.aD t=none:=by unfold jZ;rw[F];show(if (c.tx t).state=6 then _ else none)=none;rw[mE<|by rw[T.st,f];omega]
 have P:t<c.aH:=by have:=(hrel.ok x m).2;have:=hrel.next;have:=h.jd.lim;omega
 have U:RD (bV fG<|(c.tx t).parts.set kk v):=by
  have:(t,bV fG<|(c.tx t).parts.set kk v)∈(R.aZ t (kk:Int) (v:Int)).ds:=by
   rw[<-r.ds,jP r.o1];show jZ (dt c.aD t {c.tx t with parts:=(c.tx t).parts.set kk v,state:=6}) t=_;rw[tq,oo rfl,oo rfl]
  have⟨z,Q,S,W⟩:=jG.1 this;have o:bV fG ((c.tx t).parts.set kk v)=z.yes:=(Prod.ext_iff.1 W).2;rw[o];exact(r.ok z Q).1.VB S
 have n:mG (be 8 t++bV fG ((c.tx t).parts.set kk v)):=Ce (p:=(t,_)) U;have hlen:=U.len;refine h.keeps X A hb dp (by rw[G,AP n,zzi,ew];omega) hn (λi=>?_) ?_ O
 .rw[G,gv n];have g:=CE.comm hrel.o1 i t {c.tx t with parts:=(c.tx t).parts.set kk v,state:=6} rfl D ⟨V,P⟩ U;have j:bL.cst (c.comm t {c.tx t with parts:=(c.tx t).parts.set kk v,state:=6})=⟨c.aH,ru<|dt c.aD t {c.tx t with parts:=(c.tx t).parts.set kk v,state:=6}⟩:=by with_unfolding_all rfl
  rw[j];exact g
 .have h1:=hn.jd.lim;have h2:=hn.jd.rK;rw[r.cst];refine⟨by show c.aH<=1000000;have:=hn.lim;omega,?_,jE.ds r.oL,λq K=>?_⟩
  .show(R.aZ t (kk:Int) (v:Int)).ds.length<=12;unfold aP.ds;rw[zzn];exact zzk (Hm _ _) r.len
  .obtain⟨z,hz,h6,rfl⟩:=jG.1 K;have:=(r.ok z hz).2;have:=r.next;exact⟨hn.pos z hz,by show z.id<c.aH;have e6:=hn.rK.1;have e5:=hn.lim;omega,(r.ok z hz).1.VB h6⟩
end
section
variable{k:Nat}{c:bL}{l:au}{d:aj}{E:List aP}{R R':aP}{gc:Nat}{I J:Bool}{H:Nat->List Nat}{M m0:Nat}
theorem VI{t:Nat}{z:Int}(B:R.l_ t z=true):∀x∈(R.done t z).ai,x∈R.ai:=by
 unfold aP.l_ at B;cases hx:aO R.ai t with
 |none=>grind
 |some x=>
  rw[hx]at B;have⟨i,g,j,_⟩:=fg hx;have a:=B;rw[Bool.and_eq_true]at a;have d:x.st=6:=by grind
  have f:(x.parts.map<|dw z).any (·.left)=false:=by grind
  have e:R.done t z=R.without i:=by grind[aP.done,dw]
  rw[e];intro y b;have c:=b;obtain h|h:=zzo.1 c<;>grind
theorem dH.aeo{a b:Int}(h:dH k c l d E R gc I J H M m0)(o:I=false->a<0/\b<0)(m:-2^63<=a)(hb:-2^63<=b){t:Nat}{z:Int}(j:(c.tx t).state=6)(r:fJ {c with aD:=dU c.aD t} (R.done t z))(B:R.l_ t z=true)(O:k<10000){pay:nS}(G:pay=str (be 8 t)):
  ((l.note (d.aJ a b) 3 pay).2.2=0/\J=false/\(l.note (d.aJ a b) 3 pay).2.1.down=false/\dH (k+1) {c with aD:=dU c.aD t} (l.note (d.aJ a b) 3 pay).1 ((l.note (d.aJ a b) 3 pay).2.1.aJ (-1)<|-1) (E++[R.done t z]) (R.done t z) gc I false H M m0) \/
  (I=true/\(l.note (d.aJ a b) 3 pay).2.2≠0/\Gh (k+1) c (l.note (d.aJ a b) 3 pay).1 (l.note (d.aJ a b) 3 pay).2.1 (if J then E else E++[R.done t z]) R gc H M m0 (l.note (d.aJ a b) 3 pay).2.2):=by
 obtain⟨f,g,e⟩:=Cv (R:=R) t z;have n:=h.jd.step r rfl rfl rfl e (by rw[f];omega)<|by rw[g];omega
 have D:∃s,jZ c.aD t=some s:=by
  unfold jZ;unfold bL.tx at j;cases p:bJ c.aD t with
  |none=>grind
  |some T=>simp_all
 have⟨s,D⟩:=D;refine h.Vv o m hb dp (by rw[G];exact(YY t).1) n ⟨rfl,rfl,e⟩ (VI B) (λi=>?_) O;rw[G,(YY t).2];exact CE.ended h.jd.rel.o1 i t D
end
section
open Go.Shelf
variable{sk:Bool}{a b j:Int}{S:List Nat}{l:List cC}{B M N f g gc gc' h hp k m m0 n p r t:Nat}{L:Nat->Nat}{o:Obj}{v:Value}{R:aP}{d:aj}{c:bL}{x:cC}{w:nL}
theorem JD:(Tryz.prog.info? 55).map (λi=>(i.zero,i.size,i.bytes))=some (some<|.pointer none,1,8):=eu
def Ad:Obj->Bool
 |.cells _ t fr=>decide (fr=(0,0)/\(t=59\/t=55\/t=120\/t=123\/t=162))
 |_=>false
structure tB(b:Nat)(U:List Nat)(w w':nL):Prop where
 os:w'.os=w.os
 tape:w'.tape=w.tape
 output:w'.output=w.output
 size:w.heap.size<=w'.heap.size
 block:∀(k:Nat) (o:Obj),w.heap[k]?=some o->Ad o=false->k∉U->w'.heap[k]?=some o
 low:∀k,k<b->w'.heap[k]?=w.heap[k]?
section
variable{b:Nat}{U h:List Nat}{w w' w2:nL}
theorem tB.trans(a:tB b U w w')(k:tB b h w' w2)(f:∀i∈h,i∈U\/w.heap.size<=i):tB b U w w2:=
 ⟨k.os.trans a.os,k.tape.trans a.tape,k.output.trans a.output,zzk a.size k.size,λi o c d hn=>k.block i o (a.block i o c d hn) d (λm=>by
  obtain e|e:=f i m
  .exact hn e
  .have:=(zza.1 c).1;omega),λi c=>(k.low i c).trans (a.low i c)⟩
theorem tB.Ey{T:List Nat}(hb:b<=w.heap.size)(hf:Fr T w w')(a:∀k∈T,b<=k/\(k∈U\/∀o,w.heap[k]?=some o->Ad o=true)):tB b U w w':=
 ⟨hf.os,hf.tape,hf.output,hf.size,λk o h c hn=>(hf.block k (zza.1 h).1 (λm=>by
  obtain e|e:=(a k m).2
  .exact hn e
  .rw[e o h]at c;cases c)).trans h,λk h=>hf.block k dp (λm=>by have:=(a k m).1;omega)⟩
theorem tB.new(hb:b<=w.heap.size)(hf:Fr [] w w'):tB b U w w':=by grind[tB.Ey]
theorem tB.below(h:tB b U w w'):Below b w w':=⟨h.os,h.tape,h.output,h.size,h.low⟩
theorem tB.list(h:tB b U w w'):∃T,Fr T w w'/\∀k∈T,k<w.heap.size/\(k∈U\/∃o,w.heap[k]?=some o/\Ad o=true):=by
 have⟨T,c,e⟩:=Vk (nF w) λk=>k<nF w/\(k∈U\/∃o,w.heap[k]?=some o/\Ad o=true)
 refine⟨T,⟨h.os,h.tape,h.output,h.size,λk d hn=>?_⟩,c⟩;have a:=Cq d
 cases l:Ad w.heap[k]with
 |true=>grind
 |false=>
  by_cases f:k∈U
  .grind
  .rw[h.block k _ a l f,a]
theorem Cs{o:Obj}(h:Ad o=true):∃c t,o=.cells c t (0,0)/\(t=59\/t=55\/t=120\/t=123\/t=162):=by
 cases o with
 |cells c t fr=>
  have a:=of_decide_eq_true h;exact⟨c,t,by rw[a.1],a.2⟩
 |_=>cases h
end
section
variable{w w':nL}{B hp p O A s g j q m n:Nat}{c:bL}{l:au}{d:aj}{kd:Int}
theorem mM.mW(h:mM w B hp p O A s g j q m n c l d){b:Nat}(hf:tB b [] w w'):mM w' B hp p O A s g j q m n c l d/\(∀k,Own g p w' k->Own g p w k)/\rd O w'=rd O w:=by
 have⟨T,a,f⟩:=hf.list;refine h.law a λk i _=>?_
 obtain e|⟨o,ho,hl⟩:=(f k i).2
 .cases e
 .obtain⟨c,t,rfl,ht⟩:=Cs hl;obtain rfl|rfl|rfl|rfl|rfl:=ht<;>exact h.lw ho du du du du du du du du du du du
end
section
variable [Inhabited Bs]{hp E gc:Nat}{w w2:nL}{a cv':Value}{J f:Bool}{m x:cC}{I cl':List cC}
theorem nI.aeb(h:nI w hp E a gc J f m I){o:Obj}(b:w.heap[E]?=some o):Ad o=true:=by
 rw[h.kb]at b;cases b;rfl
theorem nI.mh(h:nI w hp E a gc J f m I)(U:List Nat)(i:Nat)(v:Value):tB B0 U w (w.setCell (hP E i) v):=
 tB.Ey h.size (Fr.cG (S:=[E]) (by simp) _ _) (λk b=>by simp at b;subst b;exact⟨h.low,.inr λo c=>h.aeb c⟩)
theorem nI.Ad(h:nI w hp E a gc J f m I)(U:List Nat)(hf:Fr a.ownBlock.toList w w2):tB B0 U w (w2.setCell (hP E 2) cv'):=by
 have W:=h.pq;refine tB.Ey (T:=E::a.ownBlock.toList) h.size ((hf.mono<|by simp +contextual).trans<|Fr.cG (by simp) _ _) λk b=>?_;obtain rfl|b:=zzj.1 b
 .exact⟨h.low,.inr λo d=>h.aeb d⟩
 .refine⟨(W.lt k<|by simpa using b).1,.inr λo d=>?_⟩;have⟨c,e⟩:=aL W (show a.ownBlock=some k by simpa using b);rw[e]at d
  cases d;rfl
theorem nI.fresh{w:nL}{c:cC}(h:nI w hp E a gc J f m I)(hn:∀k∈c.2.2,w.heap.size<=k):(m::(I++[c])).Pairwise xF:=by
 have:(m::I++[c]).Pairwise xF:=List.pairwise_append.2 ⟨h.apart,dv,λy e z b=>by
  simp at b;subst b;exact .inr λk d L=>by have:=hn k L;have:=((h.each y e).kinds d).2.1;omega⟩
 exact this
end
def aec [Inhabited Bs](hp E gc:Nat)(w:nL)(J forced:Bool)(x:cC)(I:List cC)(w':nL):Prop:=∃(cv':Value) (c:cC),c.2.1=x.2.1/\(∀k∈c.2.2,w.heap.size<=k)/\nI w' hp E cv' gc J false x ((if forced then [] else I)++[c])/\tB B0 [] w w'
theorem QJ [Inhabited Bs](hp E gc:Nat)(w:nL)(a:Value)(J forced:Bool)(m x:cC)(I:List cC)(h:nI w hp E a gc J false m I)(hx:gh w x.1 x.2.2 x.2.1)(a1:∀y∈I,xF x y)(hn:x.2.1.ai.length<=1048576)(Z:∀y∈x.2.1.ai,y.parts.length<=1000)(ht:x.2.1.res.length<=1048576)(C:x.2.1.out.length<=1048576)(T:I.length<=1048576):
  Calls prog 83 #[gx E,gx x.1,.int .i64 0,.bool forced] w λv w'=>v=.returned (.bool true)/\aec hp E gc w J forced x I w':=by
 obtain⟨i0,eH,ad,ae,ag⟩:=tO JD;have k4:=af h.kb 5;have i:=af h.kb 2;have f1:=aq h.kb 1;have f2:=aq h.kb 2;have k1:=af h.kb 1;simp at k4 i k1;have j:=h.swap (w':=w.setCell ⟨E,1,none⟩<|.pointer<|some ⟨x.1,0,none⟩) (m2:=x) (gc':=gc) (sk':=J) (hu':=false) (Fr.cG (by simp) _ _) (by simpa using aF h.kb 1<|.pointer<|some ⟨x.1,0,none⟩) hx a1;have L:=h.mh [] 1<|.pointer<|some ⟨x.1,0,none⟩;have HC:Hid (I.length<=1048576):=T;clear T;have⟨co,g,ec⟩:=fe h.pq;subst ec
 have s:Hid (∀W,W=(w.setCell ⟨E,1,none⟩<|.pointer<|some ⟨x.1,0,none⟩).setCell ⟨E,2,none⟩ (.slice none 0 0)->nI W hp E (.slice none 0 0) gc J false x []/\tB B0 [] w W):=λW e=>by
  have K2:=j.uH (Fr.refl _ _) (cv':=.slice none 0 0) (cl':=[]) (zzu _ _ _ _) dv dv;rw[e];exact⟨K2,L.trans (j.mh [] 2 _) dv⟩
 have H:=ah<|zzb j L;have Y:∀W a8 z,nI W hp E a8 gc J false x z->Calls prog 22 #[.pointer<|some ⟨x.1,0,none⟩] W λe w'=>∃P D,e=.returned (.pointer<|some ⟨P,0,none⟩)/\gh w' P D x.2.1/\(∀k∈D,W.heap.size<=k)/\Fr [] W w':=λW _ _ hK=>oq x.1 x.2.2 x.2.1 W (hK.each x dv) hn Z ht C
 clear j L h hx a1 hn Z ht C;cases forced;focus
  go_enter func83,ntmps83;go_wp2_with fail;apply(Y _ _ _ H.1).mono;rintro v W ⟨O,S',rfl,CF,CR,kO⟩;have S:Hid (∃(co g:_) (z:List cC),z.length<=I.length/\nI W hp E (.slice co z.length g) gc J false x z/\tB B0 [] w W/\(x::(z++[(O,x.2.1,S')])).Pairwise xF/\(z=if false=true then []else I)/\∀k∈S',w.heap.size<=k):=⟨co,g,I,zzc _,H.1.new kO,H.2.trans (tB.new (U:=[]) H.1.size kO) (by simp),H.1.fresh CR,rfl,λk o=>zzk H.2.size<|CR k o⟩
 rotate_left;focus
  go_enter func83,ntmps83;go_wp2_with fail;apply(Y _ _ _ (s.out _ rfl).1).mono;rintro v W ⟨O,S',rfl,CF,CR,kO⟩;have S:Hid (∃(co g:_) (z:List cC),z.length<=I.length/\nI W hp E (.slice co z.length g) gc J false x z/\tB B0 [] w W/\(x::(z++[(O,x.2.1,S')])).Pairwise xF/\(z=if true=true then []else I)/\∀k∈S',w.heap.size<=k):=⟨none,0,[],zzs _,(s.out _ rfl).1.new kO,(s.out _ rfl).2.trans (tB.new (U:=[]) (s.out _ rfl).1.size kO) (by simp),(s.out _ rfl).1.fresh CR,rfl,λk o=>zzk (s.out _ rfl).2.size<|CR k o⟩
 all_goals
  have a7:=ah CF;clear H Y s CF kO CR k1 i k4 f1 f2;have⟨V,d,z,Kq,K,B,G,M,N⟩:=S.out;have i:=af K.kb 2;have o_:=(zza.1 K.kb).1;simp at i;have l:=K.pq;have a':=K.size;have⟨n,R⟩:=gb z.length;have al:n<=1048576:=by have:=HC.out;omega
  have ab:some E≠(Value.slice V n d).ownBlock:=by rw[R];exact λe=>aQ l K.kb du e.symm
  have X:Hid (z.length=n/\nI W hp E (.slice V n d) gc J false x z/\tB B0 [] w W/\(x::(z++[(O,x.2.1,S')])).Pairwise xF):=⟨R.symm,by rw[R];exact K,B,G⟩;have Q:=ah<|zzb M N;rw[<-R]at l i;clear K B Kq R S G M N
  go_wp2_with (at_builtin;apply fH rfl _ _ 57 rfl B0 55 i0 _ 1 8 underlying57 eH ad ae ag rfl du _ n (z.map nR) rfl (l.alloc _) 1 [.pointer<|some ⟨O,0,none⟩] (.inl ⟨⟨W.heap.size,0,none⟩,1,rfl,fV _ #[.pointer<|some ⟨O,0,none⟩] _⟩) rfl (by intro u f;simp at f;subst f;rfl) eE dp (zzk a' dv);intro v5 w5 t q aa;obtain⟨o5,c5,rfl⟩:=fe t;have F:=(q.block E ef ab).trans<|(zzf W _ E o_).trans X.2.1.kb;have t2:=af F 2;have tf:=aq F 2;have p:=((Fr.refl _ W).alloc _).trans<|Fr.cA (r:=(Value.slice V n d).ownBlock) q;have A:=ah (zzb (X.2.1.uH (cl':=z++[(O,x.2.1,S')]) p (by rw[zzi,X.1,BB];exact t) (λy b=>by rcases zzo.1 b with b|b;exact X.2.1.each y (by simp[b]);simp at b;subst b;exact a7.out) X.2.2.2)<|X.2.1.Ad (cv':=.slice o5 (n+1) c5) [] p);simp at t2;clear t q aa F p)
  go_ret;exact⟨rfl,_,(O,x.2.1,S'),rfl,Q.2,(by have hq:=Q.1;simp at hq;subst hq;exact A.1),X.2.2.1.trans A.2 dv⟩
theorem nI.Gd [Inhabited Bs]{k u:Bool}{m:cC}(h:nI w hp p v gc k u m l):nI (w.setCell (hP p 5)<|.bool true) hp p v gc k true m l:=
 h.set (Fr.cG dv _ _) (by simpa using aF h.kb 5<|.bool true)
def abJ [Inhabited Bs](hp p gc:Nat)(w:nL)(u:Bool)(m:cC)(R':aP)(l:List cC)(w':nL):Prop:=∃(cv':Value) (cl':List cC),(u=true/\cl'=l\/u=false/\∃c,c.2.1=R'/\(∀k∈c.2.2,w.heap.size<=k)/\cl'=l++[c])/\nI w' hp p cv' gc true true m cl'/\tB B0 [] w w'
theorem Mt [Inhabited Bs](hp p gc d:Nat)(w:nL)(L:Value)(a forced:Bool)(m x:cC)(l:List cC)(Z:d=9\/d=10)(h:nI w hp p L gc true a m l)(hx:gh w x.1 x.2.2 x.2.1)(hn:x.2.1.ai.length<=1048576)(q:∀y∈x.2.1.ai,y.parts.length<=1000)(z:x.2.1.res.length<=1048576)(k:x.2.1.out.length<=1048576)(o:l.length<=1048576):
  Calls prog 83 #[gx p,gx x.1,.int .i64 (d:Int),.bool forced] w λv w'=>v=.returned (.bool true)/\abJ hp p gc w a m x.2.1 l w':=by
 have⟨i0,M,a1,a7,a8⟩:=tO JD;have B:=af h.kb 4;have D:=af h.kb 5;have P:=aq h.kb 5;simp at B D;have RJ:¬(d:Int)=0:=dp;have I:=oK d w;rw[show decide (d=9\/d=10)=true from zI Z]at I;have G:Hid (l.length<=1048576):=o;have H:=ah<|zzb h hx;have Y:=oq x.1 x.2.2 x.2.1 w hx hn q z k;clear h hx hn q z k o
 cases a
 .go_enter func83,ntmps83;go_wp2_with fail;apply I.mono;rintro v w1 ⟨rfl,rfl⟩;clear I;go_wp2_with fail;apply Y.mono;rintro v W ⟨cp,S',rfl,CF,CR,kO⟩;have K:=H.1.new kO;have J:=ah CR;have C:=ah<|zzb CF<|zzb (H.1.fresh (c:=(cp,x.2.1,S')) CR) kO;clear Y CF kO CR B D P;have⟨V,s,N⟩:=fe K.pq;subst N;have A:=af K.kb 2;have o_:=(zza.1 K.kb).1;simp at A;have g:=K.pq;have Q:=K.size;have⟨n,t⟩:=gb l.length;have a':n<=1048576:=by have:=G.out;omega
  have T:some p≠(Value.slice V n s).ownBlock:=by rw[t];exact λe=>aQ g K.kb du e.symm
  have X:Hid (l.length=n/\nI W hp p (.slice V n s) gc true false m l):=⟨t.symm,by rw[t];exact K⟩;rw[<-t]at g A;clear K t
  go_wp2_with (at_builtin;apply fH rfl _ _ 57 rfl B0 55 i0 _ 1 8 underlying57 M a1 a7 a8 rfl du _ n (l.map nR) rfl (g.alloc _) 1 [.pointer<|some (gi cp)] (.inl ⟨⟨nF W,0,none⟩,1,rfl,fV _ #[.pointer<|some (gi cp)] _⟩) rfl (by intro u a;simp at a;subst a;rfl) eE dp (zzk Q dv);intro v5 E i O S;obtain⟨o5,c5,rfl⟩:=fe i;have F:=(O.block p ef T).trans<|(zzf W _ p o_).trans X.2.kb;have t2:=af F 2;have tf:=aq F 2;have R:=((Fr.refl _ W).alloc _).trans<|Fr.cA O;have f:=X.2.uH R (by rw[zzi,X.1,BB];exact i) (λy b=>by obtain b|b:=zzo.1 b;exact X.2.each y (by simp[b]);simp at b;subst b;exact C.1) C.2.1;have t4:=af f.kb 5;have aa:=aq f.kb 5;have j:=ah (zzb (f.Gd)<|(X.2.Ad [] R).trans (f.mh [] 5<|.bool true) dv);simp at t2 t4;clear i O S F R f)
  go_ret;exact⟨rfl,_,_,.inr ⟨rfl,(cp,x.2.1,S'),rfl,J.out,rfl⟩,j.1,(tB.new H.1.size C.2.2).trans j.2 dv⟩
 .go_enter func83,ntmps83;go_wp2_with fail;apply I.mono;rintro v w1 ⟨rfl,rfl⟩;clear I Y;go_wp2;go_ret;exact⟨rfl,_,l,.inl ⟨rfl,rfl⟩,H.1.Gd,H.1.mh [] 5<|.bool true⟩
section
variable{w w':nL}{B hp p h E n:Nat}{d:aj}{kd:Int}{T:List Nat}
theorem ug.aeg(o:ug w B kd hp p h E d n)(b:Fr T w w')(q:∀k∈T,∃c t,w.heap[k]?=some (.cells c t (0,0))/\t≠65/\t≠200/\t≠9/\t≠71):ug w' B kd hp p h E d n/\∀k,jN hp p none w' k->jN hp p none w k:=by
 have⟨i,pv,D,N,f⟩:=o;have g:=f.beside b (λk a=>by have⟨c,t,e,j,l,m,_⟩:=q k a;exact⟨c,t,e,j,l,m⟩);refine⟨⟨(b.block hp (zza.1 i).1 λr=>?_).trans i,pv,D,N,g⟩,λk a=>?_⟩
 .grind
 .rcases fY.1 a with e|e
  .grind [fY]
  .exact fY.2<|.inr<|(f.fI k).2<|(g.fI k).1 e
theorem ug.mW(a:ug w B kd hp p h E d n){b:Nat}(hf:tB b [] w w'):ug w' B kd hp p h E d n/\∀k,jN hp p none w' k->jN hp p none w k:=by
 have⟨T,c,f⟩:=hf.list;refine a.aeg c λk g=>?_
 obtain e|⟨o,ho,hl⟩:=(f k g).2
 .cases e
 .grind [Cs]
theorem ug.GL [Inhabited Bs]{g:Nat}{S a:List Nat}{R:aP}(b:ug w B kd hp p h E d n)(r:gh w g S R)(hf:fo S a w w'):ug w' B kd hp p h E d n/\∀k,jN hp p none w' k->jN hp p none w k:=
 b.aeg hf.fr λk e=>by
  have⟨_,_,c,t,o,f⟩:=r.kinds e;obtain rfl|rfl|rfl|rfl|rfl:=f<;>exact⟨c,_,o,du,du,du,du⟩
end
def Gl(w:nL):Prop:=Met w/\dJ w/\nZ w
def mC(k:Nat):Nat:=3000*k+100
def nC(k M m0:Nat):Nat:=1100+60*k+M+2*m0
abbrev AW:=Option (Nat × List Nat)
inductive Oc where
 |on (Qs:List aP) (R:aP) (gc:Nat) (sk hu:Bool)
 |off (Qs:List aP) (nx gc:Nat)
def rY [Inhabited Bs](w:nL)(hp p h:Nat)(so:AW)(k:Nat)(Qs:List aP)(R:aP)(gc:Nat)(sk hu:Bool):Prop :=
 ∃a g T b E c l d H M m0,so=cx a T b w/\mM w B0 hp p a g T b h E (mC k) (nC k M m0) c l d/\dH k c l d Qs R gc sk hu H M m0
def agi [Inhabited Bs](w:nL)(hp p h k:Nat)(Qs:List aP)(nx gc:Nat):Prop :=
 ∃E d H M m0,ug w B0 3 hp p h E d (nC k M m0-5)/\rL k nx gc d Qs H M m0
def ku [Inhabited Bs](w:nL)(hp p h:Nat)(so:AW)(k:Nat):Oc->Prop
 |.on Qs R gc sk hu=>rY w hp p h so k Qs R gc sk hu
 |.off Qs nx gc=>so=none/\agi w hp p h k Qs nx gc
def JZ(k m0:Nat)(o:Oc)(s:bL)(l:au)(d:aj)(m n:Nat):Prop:=m<=mC k/\match o with
 |.on Qs R gc sk hu=>d.down=false/\∃H M,n+5<=nC k M m0/\dH k s l (d.aJ (-1) (-1)) Qs R gc sk hu H M m0
 |.off Qs nx gc=>d.down=true/\∃H M,n+5<=nC k M m0/\∀F,Left d.ak d.pending F->rL k nx gc (dP F) Qs H M m0
def Tw(Q:List aP)(a:aP)(J:Nat)(F:List aP)(R:aP)(gc:Nat)(sk hu:Bool)(x:Nat)(o:Oc):Prop :=
 (x=0/\hu=false/\o=.on Q a J sk false)\/(sk=true/\(x=9/\o=.on F R gc true true\/x=10/\o=.off F R.next gc))
section
variable{k:Nat}{c:bL}{l:au}{d:aj}{Qs JK:List aP}{R:aP}{gc nx:Nat}{sk hu:Bool}{H:Nat->List Nat}{M m0 x m n:Nat}
theorem qx(b:k<=10000)(h:m0<=M)(a:M<=16*k+1):nC k M m0<=2000000:=by unfold nC;omega
theorem rL.le(h:rL k nx gc d Qs H M m0):m0<=M/\M<=16*k+1:=by have⟨cs,_,a⟩:=h.lg;exact⟨a.fl,a.le⟩
theorem dH.segs(h:dH k c l d Qs R gc sk hu H M m0):l.filled<600->l.segs≠[]:=by have⟨cs,_,a⟩:=h.lg;exact a.segs
theorem dH.up(h:dH k c l d Qs R gc sk hu H M m0):d.down=false:=by have⟨cs,_,a⟩:=h.lg;exact a.up
theorem Gh.z(h:Gh k c l d Qs R gc H M m0 x)(e:m<=mC k)(hn:n+5<=nC k M m0):∃o,(x=9/\o=.on Qs R gc true true\/x=10/\o=.off Qs R.next gc)/\JZ k m0 o c l d m n:=by
 rcases h with⟨rfl,a,b⟩|⟨rfl,a,b⟩
 .exact⟨_,.inl ⟨rfl,rfl⟩,e,a,H,M,hn,b⟩
 .exact⟨_,.inr ⟨rfl,rfl⟩,e,a,H,M,hn,b⟩
theorem dH.z(h:dH k c l d Qs R gc sk hu H M m0)(a b:Int)(e:m<=mC k)(hn:n+5<=nC k M m0):JZ k m0 (.on Qs R gc sk hu) c l (d.aJ a b) m n:=
 ⟨e,h.up,H,M,hn,(h.aJ a b).aJ (-1)<|-1⟩
structure Gj(nx:Nat)(Qs JK:List aP):Prop where
 len:JK.length=Qs.length
 fwd:∀Q'∈JK,Gg nx Q'/\∃Q∈Qs,Q'.ds=Q.ds
 bck:∀Q∈Qs,∃Q'∈JK,Q'.ds=Q.ds
theorem rR.alike(h:rR nx H Qs)(b:Gj nx Qs JK):rR nx H JK:=⟨λQ a=>(b.fwd Q a).1,λQ a p hp=>by
 have⟨_,c,d,e⟩:=b.fwd Q a;rw[e]at hp;exact h.at_ c d p hp⟩
theorem dH.alike(h:dH k c l d Qs R gc sk hu H M m0)(a:Gj R.next Qs JK):dH k c l d JK R gc sk hu H M m0:=by
 have⟨cs,j,m⟩:=h.lg;have⟨f,r,t⟩:=h.rq;have⟨g,u,v⟩:=a.bck f r;refine⟨h.jd,h.RM,h.pos,h.qs.alike a,⟨g,u,v.trans t⟩,by rw[a.len];exact h.EG,λe x hx b Q o p hp=>?_,cs,λs q=>?_,m⟩
 .obtain⟨_,Q2,h3,e2⟩:=a.fwd Q o;rw[e2]at hp;exact h.Wu e x hx b Q2 h3 p hp
 .obtain⟨⟨Q2,h3,h4⟩,h5⟩:=j s q;have⟨i,b,n⟩:=a.bck Q2 h3;exact⟨⟨i,b,h4.trans n.symm⟩,h5⟩
theorem rL.alike(h:rL k nx gc d Qs H M m0)(a:Gj nx Qs JK):rL k nx gc d JK H M m0:=by
 have⟨cs,c,e⟩:=h.lg;refine⟨h.one,h.qs.alike a,by rw[a.len];exact h.EG,cs,λs m=>?_,e⟩;have⟨⟨Q,f,g⟩,i⟩:=c s m;have⟨b,j,l⟩:=a.bck Q f;exact⟨⟨b,j,g.trans l.symm⟩,i⟩
end
theorem aC.ltX{E D:Nat}{pv:Value}(a:aC w B p h E pv d n D N)(b:nj p w k):k<w.heap.size:=by
 have:=(a.fI k).1 b;simp at this;obtain e|e|e|e:=this
 .rw[e];exact(zza.1 a.blk).1
 .rw[e];exact a.lB.lt
 .rw[e];exact a.now.lt
 .exact(a.pen.lt k e).2
section
variable [Inhabited Bs]{w w' w2:nL}{hp p h E n jp k gc:Nat}{so J:AW}{d:aj}{cv cv':Value}{sk hu sk' hu':Bool}{m m':cC}{cl cl':List cC}{Qs JK:List aP}{R R':aP}{nx:Nat}{S I:List Nat}{O:Nat}{o:Oc}
theorem iw.vR(b:oO w B0 hp p h E so d n)(N:B0<=hp)(hf:kI hp p so J w w'):iw w w':=⟨b.below N hf,λi _ a=>(hf.block i (zza.1 a).1<|b.step a).trans a⟩
theorem iw.QW(hf:tB B0 [] w w'):iw w w':=⟨hf.below,λi _ h=>hf.block i _ h rfl dv⟩
theorem iw.gl(h:iw w w')(hb:3<=(B0:Nat))(g:Gl w):Gl w':=⟨g.1.below h.below dp,g.2.1.cZ<|h.below.block 1 dp,g.2.2.below h.below dp⟩
theorem oO.mW(a:oO w B0 hp p h E so d n)(hf:tB B0 [] w w'):oO w' B0 hp p h E so d n/\∀k,jN hp p so w' k->jN hp p so w k:=by
 rcases a with⟨c,g,T,b,m,s,l,rfl,a⟩|⟨rfl,a⟩
 .obtain⟨k1,k2,k3⟩:=a.mW hf;have e:cx c T b w=cx c T b w':=by grind
  refine⟨.inl ⟨c,g,T,b,m,s,l,e,k1⟩,λk f=>?_⟩;obtain e|e|e:=cQ.1 f
  .grind [cQ]
  .grind [cQ]
  .grind [cQ]
 .exact⟨.inr ⟨rfl,(a.mW hf).1⟩,(a.mW hf).2⟩
theorem oO.GL(a:oO w B0 hp p h E so d n)(r:gh w O S R)(U:∀k∈S,¬jN hp p so w k)(hf:fo S I w w'):oO w' B0 hp p h E so d n/\∀k,jN hp p so w' k->jN hp p so w k:=by
 rcases a with⟨c,g,T,f,m,s,l,rfl,a⟩|⟨rfl,a⟩
 .obtain⟨k1,k2,k3⟩:=a.law hf.fr λk b _=>r.lw a (λk b i=>U k b<|cQ.2<|.inr<|.inr<|by simp[i]) b
  have e:cx c T f w=cx c T f w':=by grind
  refine⟨.inl ⟨c,g,T,f,m,s,l,e,k1⟩,λk b=>?_⟩;obtain e|e|e:=cQ.1 b
  .grind [cQ]
  .grind [cQ]
  .grind [cQ]
 .obtain⟨k1,k2⟩:=a.GL r hf;exact⟨.inr ⟨rfl,k1⟩,k2⟩
theorem rY.mg(b:rY w hp p h so k Qs R gc sk hu):∃E d n,oO w B0 hp p h E so d n:=by
 obtain⟨a,g,T,f,E,c,l,d,H,M,m0,rfl,e,o⟩:=b;exact⟨E,d,_,.inl ⟨a,g,T,f,_,c,l,rfl,e⟩⟩
theorem ku.mg(a:ku w hp p h so k o):∃E d n,oO w B0 hp p h E so d n:=by
 cases o with
 |on=>exact rY.mg a
 |off=>obtain⟨rfl,E,d,H,M,m0,b,_⟩:=a;exact⟨E,d,_,.inr ⟨rfl,b⟩⟩
theorem ku.stays(e:ku w hp p h so k o)(f:∀{a g T b E m n c l d},so=cx a T b w->mM w B0 hp p a g T b h E m n c l d->mM w' B0 hp p a g T b h E m n c l d/\rd a w'=rd a w)(i:∀{E n d},ug w B0 3 hp p h E d n->ug w' B0 3 hp p h E d n):ku w' hp p h so k o:=by
 cases o with
 |on=>
  obtain⟨a,g,T,b,E,c,l,d,H,M,m0,rfl,r,s⟩:=e;have⟨t,u⟩:=f rfl r;exact⟨a,g,T,b,E,c,l,d,H,M,m0,by unfold cx;rw[u],t,s⟩
 |off=>
  obtain⟨rfl,E,d,H,M,m0,j,q⟩:=e;exact⟨rfl,E,d,H,M,m0,i j,q⟩
theorem ku.mW(b:ku w hp p h so k o)(hf:tB B0 [] w w'):ku w' hp p h so k o:=
 b.stays (λ_ a=>⟨(a.mW hf).1,(a.mW hf).2.2⟩) (λc=>(c.mW hf).1)
theorem ku.new(b:ku w hp p h so k o)(hf:Fr [] w w'):ku w' hp p h so k o:=
 b.stays (λ_ a=>⟨(a.new hf).1,lR<|hf.block _ a.2.co.jS.1 dv⟩) (λc=>(c.fresh hf).1)
theorem ku.GL(c:ku w hp p h so k o)(r:gh w O S R')(U:∀k∈S,¬jN hp p so w k)(hf:fo S I w w'):ku w' hp p h so k o:=
 c.stays (λe b=>by
  subst e;have:=b.law hf.fr λk a _=>r.lw b (λk a m=>U k a<|cQ.2<|.inr<|.inr<|by simp[m]) a
  exact⟨this.1,this.2.2⟩) (λd=>(d.GL r hf).1)
structure JA [Inhabited Bs](w:nL)(hp p jp:Nat)(so:AW)(cv:Value)(gc:Nat)(sk hu:Bool)(m:cC)(cl:List cC):Prop where
 mem:nI w hp jp cv gc sk hu m cl
 free:∀x∈m :: cl,∀k∈x.2.2,¬jN hp p so w k
theorem JA.size(h:JA w hp p jp so cv gc sk hu m cl):B0<=w.heap.size:=h.mem.size
theorem JA.ref(h:JA w hp p jp so cv gc sk hu m cl):gh w m.1 m.2.2 m.2.1:=h.mem.each m dv
theorem JA.host(a:JA w hp p jp so cv gc sk hu m cl)(b:oO w B0 hp p h E so d n)(hf:kI hp p so J w w'):JA w' hp p jp J cv gc sk hu m cl:=
 ⟨(a.mem.host b hf a.free).1,(a.mem.host b hf a.free).2⟩
theorem JA.new(b:JA w hp p jp so cv gc sk hu m cl)(a:oO w B0 hp p h E so d n)(hf:Fr [] w w'):JA w' hp p jp so cv gc sk hu m cl:=b.host a (a.new hf).2
theorem JA.law{gc':Nat}(_h:JA w hp p jp so cv gc sk hu m cl)(a:oO w B0 hp p h E so d n)(c:nI w' hp jp cv' gc' sk' hu' m' cl')(hf:tB B0 [] w w')(hx:∀x∈m'::cl',(∀k∈x.2.2,¬jN hp p so w k)):JA w' hp p jp so cv' gc' sk' hu' m' cl':=
 ⟨c,λx H k b o=>hx x H k b<|(a.mW hf).2 k o⟩
theorem oO.above(b:oO w B0 hp p h E so d n){k:Nat}(j:w.heap.size<=k):¬jN hp p so w k:=by
 intro o;rcases b with⟨g,i,T,q,m,s,l,rfl,f,a⟩|⟨rfl,f,pv,D,N,c⟩
 .obtain⟨pv,sv,rv,D,N,hl⟩:=a.lg;obtain e|e|e:=cQ.1 o
  .grind
  .have:=hl.ltO e;omega
  .have h2:=a.co.jS;obtain e|e:=zzj.1 e
   .omega
   .rcases zzj.1 e with e|e
    .omega
    .obtain⟨_,cc,t,e2,_⟩:=a.co.Tv e;have:=(zza.1 e2).1;omega
 .rcases fY.1 o with e|e
  .grind
  .have:=c.ltX e;omega
omit [Inhabited Bs] in
theorem xF.eq{x y:cC}(h:xF x y)(hx:x.1∈x.2.2)(a:y.1∈y.2.2)(e:x.1=y.1):x=y:=by
 obtain h|h:=h
 .exact h
 .grind
theorem JA.alike(h:JA w hp p jp so cv gc sk hu m cl)(d:R'.ds=m.2.1.ds)(q:Gg nx R')(a:∀x∈cl,Gg nx x.2.1):Gj nx (cl.map (·.2.1)) ((mO m R' I cl).map (·.2.1)):=by
 have t:∀x∈cl,x.1=m.1->x.2.1.ds=R'.ds:=λx hx e=>by
  have:=xF.eq ((zzA.1 h.mem.apart).1 x hx) h.ref.root.1 (h.mem.each x<|by simp[hx]).root.1 e.symm;rw[<-this,d]
 have O:∀x∈cl,Gg nx (if x.1=m.1 then (m.1,R',I)else x).2.1/\(if x.1=m.1 then (m.1,R',I)else x).2.1.ds=x.2.1.ds:=λx hx=>by
  by_cases e:x.1=m.1
  .grind
  .grind
 refine⟨by unfold mO;simp,λQ Y=>?_,λQ Y=>?_⟩
 .obtain⟨y,hy,rfl⟩:=zzq.1 Y;obtain⟨x,hx,rfl⟩:=zzq.1 hy;exact⟨(O x hx).1,x.2.1,zzq.2 ⟨x,hx,rfl⟩,(O x hx).2⟩
 .obtain⟨x,hx,rfl⟩:=zzq.1 Y;exact⟨_,zzq.2 ⟨_,zzq.2 ⟨x,hx,rfl⟩,rfl⟩,(O x hx).2⟩
theorem JA.fL(a:JA w hp p jp so cv gc sk hu m cl)(b:oO w B0 hp p h E so d n)(hf:fo m.2.2 I w w')(r:gh w' m.1 I R'):JA w' hp p jp so cv gc sk hu (m.1,R',I) (mO m R' I cl):=by
 have c:=b.GL a.ref (a.free m dv) hf;have f:∀k∈I,¬jN hp p so w' k:=λk S o=>by
  have o:=c.2 k o;by_cases W:k<w.heap.size
  .exact a.free m dv k (hf.stay k S W) o
  .exact b.above (by omega) o
 refine⟨a.mem.fL hf r,λx hx k S=>?_⟩;obtain rfl|hx:=zzj.1 hx
 .grind
 .obtain⟨y,hy,rfl⟩:=zzq.1 hx;by_cases e:y.1=m.1
  .grind
  .rw[mE e]at S;exact λo=>a.free y (by simp[hy]) k S<|c.2 k o
end
section
variable{k:Nat}{c c':bL}{l:au}{d:aj}{E:List aP}{R R':aP}{gc:Nat}{sk I:Bool}{H:Nat->List Nat}{M m0 t:Nat}{T T0:fQ}
structure Sm(c c':bL):Prop where
 cm:∀t,jZ c'.aD t=jZ c.aD t
 op:∀t T,bJ c'.aD t=some T->T.state≠6->∃T0,bJ c.aD t=some T0/\T0.state≠6
 lim:c'.aH=c.aH
 rK:c'.next=c.next
theorem Sm.refl(c:bL):Sm c c:=⟨λ_=>rfl,λ_ T h a=>⟨T,h,a⟩,rfl,rfl⟩
theorem Sm.trans{c2:bL}(h:Sm c c')(k:Sm c' c2):Sm c c2:=⟨λt=>(k.cm t).trans<|h.cm t,λt T a b=>by have⟨T0,d,e⟩:=k.op t T a b;exact h.op t T0 d e,k.lim.trans h.lim,k.rK.trans h.rK⟩
theorem Sm.ds(h:Sm c c')(r:fJ c R)(b:fJ c' R'):R'.ds=R.ds:=by
 have e:=b.cst;have a:=r.cst;have d:=Eo r.o1 b.o1 h.cm;unfold bL.cst at e a;injection e with _ e;injection a with _ a;rw[<-e,<-a,d]
theorem dH.sm(h:dH k c l d E R gc sk I H M m0)(j:Jd (k+1) c' R')(s:Sm c c')(n:R'.next=R.next):dH (k+1) c' l d E R' gc sk I H M m0:=by
 have hold:∀x∈R'.ai,∃y∈R.ai,y.id=x.id/\(x.st≠6->y.st≠6):=λx hx=>by
  have⟨T,g,p⟩:=j.rel.Mn x hx;have u:=p.st;have o:∃T0,bJ c.aD x.id=some T0/\(x.st≠6->T0.state≠6):=by
   by_cases b:T.state=6
   .have e:=s.cm x.id;unfold jZ at e;rw[g]at e;cases a:bJ c.aD x.id with
    |none=>grind
    |some T0=>grind
   .obtain⟨T0,f,e2⟩:=s.op x.id T g b;exact⟨T0,f,λ_=>e2⟩
  have⟨T0,a,f⟩:=o;cases i:aO R.ai x.id with
  |none=>rw[h.jd.rel.non _ i]at a;cases a
  |some y=>
   have⟨m,m2⟩:=bh i;have⟨r,t,q⟩:=h.jd.rel.Mn y m;rw[m2,a]at t;cases t;have:=q.st;exact⟨y,m,m2,λb=>by have:=f b;omega⟩
 have hn:=s.rK;refine h.still j (s.ds h.jd.rel j.rel) s.lim dp dp (by rw[hn,n];exact h.RM) (λx hx b=>.inl ?_) (λx hx=>?_) λh=>h
 .grind
 .obtain⟨y,h1,h2,_⟩:=hold x hx;rw[<-h2];exact h.pos y h1
theorem Od{L:List (Nat×fQ)}(h:bJ L t=some T):jZ L t=if T.state=6 then some (bV fG T.parts)else none:=by grind[jZ]
theorem Sm.put(e:c'.aD=dt c.aD t T)(h:bJ c.aD t=some T0)(b:T.state=T0.state/\bV fG T.parts=bV fG T0.parts\/T.state≠6/\T0.state≠6)(l:c'.aH=c.aH)(hn:c'.next=c.next):Sm c c':=by
 refine⟨λu=>?_,λu a I s=>?_,l,hn⟩
 .grind [tq,Od]
 .grind [kc]
theorem Sm.del(e:c'.aD=dU c.aD t)(b:(c.tx t).state≠6)(l:c'.aH=c.aH)(hn:c'.next=c.next):Sm c c':=by
 refine⟨λu=>?_,λu T I s=>?_,l,hn⟩
 .rw[e,Cf];by_cases a:u=t
  .rw[oo a,a];unfold jZ;cases h:bJ c.aD t with
   |none=>rfl
   |some T1=>grind[bL.tx]
  .grind
 .grind [js]
theorem dH.stays(h:dH k c l d E R gc sk I H M m0):dH (k+1) c l d E R gc sk I H M m0:=h.sm (h.jd.mono<|zzC k) (Sm.refl c) rfl
theorem cV.aad{L:Nat->Nat}(h:cV L c R)(a:(c.tx t).state≠0):∃x,aO R.ai t=some x/\Ga c.bw (L t) (c.tx t) x/\bJ c.aD t=some (c.tx t):=by
 cases d:aO R.ai t with
 |none=>exact absurd (by rw[h.AR d]) a
 |some x=>exact⟨x,rfl,h.ib d⟩
theorem cV.Ck{L:Nat->Nat}(h:cV L c R):R.dZ t=true↔(c.tx t).aS≠0:=by
 unfold aP.dZ;cases d:aO R.ai t with
 |none=>rw[h.AR d];simp
 |some x=>exact(h.ib d).1.Ck.1.symm
end
theorem pw(k:Nat):mC (k+1)=mC k+3000:=by unfold mC;omega
theorem px(k M m0:Nat):nC (k+1) M m0=nC k M m0+60:=by unfold nC;omega
theorem oR(h:k<10000):mC k+3000<1000000000:=by unfold mC;omega
theorem MC{ps:List Nat}{kk:Nat}(h:ps.getD kk 0=2):bV fG (ps.set kk 5)=bV fG ps:=by
 unfold bV gL;refine List.filter_congr λj _=>?_
 by_cases e:j=kk
 .subst e;rw[h];have l:j<ps.length:=Classical.byContradiction λl=>by
   rw[Il,List.getElem?_eq_none (by omega)]at h;cases h
  rw[Il,List.getElem?_set_self l];rfl
 .grind
theorem dH.zz{l:au}{E:List aP}{I:Bool}{H:Nat->List Nat}(h:dH k c l (d.aJ (-1)<|-1) E R gc sk I H M m0)(a:d.down=false)(b:m<=mC k)(hn:n+5<=nC k M m0):JZ k m0 (.on E R gc sk I) c l d m n:=⟨b,a,H,M,hn,h⟩
section
variable [Inhabited Bs]{w w':nL}{hp p q r J h O i k gc m0 m' n':Nat}{so:AW}{E:List aP}{R:aP}{sk I:Bool}{o:Oc}{s:bL}{l':au}{d':aj}
theorem JZ.host(b:JZ (k+1) m0 o s l' d' m' n')(z:Qm w w' B0 hp p J h O i q r m' n' s l' d')(g:k<10000):∃c,ku w' hp p q c (k+1) o/\kI hp p (cx J O i w) c w w':=by
 have⟨m,b⟩:=b;cases o with
 |on E R gc sk I=>
  have⟨e,H,M,hn,a⟩:=b;have L:=qx dp a.gone.le.1 a.gone.le.2;rcases z with⟨_,z,hf⟩|⟨d,_⟩
  .exact⟨cx J O i w',⟨J,h,O,i,r,s,l',_,H,M,m0,rfl,⟨z.1,z.2.fW dp dp m⟩,a⟩,hf.vR⟩
  .grind
 |off E nx gc=>
  have⟨e,H,M,hn,a⟩:=b;rcases z with⟨d,_⟩|⟨_,F,f,l,z,hf⟩
  .grind
  .have L:=qx dp (a F l).le.1 (a F l).le.2;exact⟨none,⟨rfl,f,dP F,H,M,m0,z.fW dp dp,a F l⟩,hf⟩
theorem JM(f g:Nat)(u:List Value)(t:Nat->Value->Value)(K:ZU f g u t)(a b c3 n:Int)(T:Nat->Nat->Oc->Prop)(D:rY w hp p q so k E R gc sk I)(B:k<10000)(U:3<=(B0:Nat))(P:B0<=hp)(S:-2^63<=n)(Q:n<=9223372036854775807)(A:Gl w)
  (X:∀J h O i r c l d H M m0 j,dH k c l d E R gc sk I H M m0->nC k M m0<=2000000->CL j B0 J h O (mC k) i p q r (nC k M m0) c l (d.aJ a b)->dJ j->Calls prog g (Ql J::u).toArray j λe w2=>∃v x o s l' d' m' n',T v x o/\JZ (k+1) m0 o s l' d' m' n'/\e=.returned (t v<|bB x)/\CL w2 B0 J h O m' i p q r n' s l' d'/\jJ J O i p j w2) :
  Calls prog f ((gx hp)::(u++[kS a b c3 n])).toArray w λe w'=>∃v x o m,T v x o/\e=.returned (t v<|.int .i64 (x:Int))/\ku w' hp p q m (k+1) o/\kI hp p so m w w':=by
 obtain⟨J,h,O,i,r,c,l,d,H,M,m0,rfl,⟨N,z⟩,y⟩:=D;have L:=qx (Nat.le_of_lt B) y.gone.le.1 y.gone.le.2;refine(Yt f g u t K B0 hp J h O (mC k) i p q r (nC k M m0) c l d a b c3 n w (λv x s l' d' m' n'=>∃o,T v x o/\JZ (k+1) m0 o s l' d' m' n') N z dp P S Q A.1 λj C Y=>?_).mono ?_
 .refine(X J h O i r c l d H M m0 j y L C<|(Y.kO z).p_ dp A.2.1).mono ?_;rintro e w2 ⟨v,x,o,s,l',d',m',n',hT,hJ,he,eP,bH⟩;exact⟨v,x,s,l',d',m',n',⟨o,hT,hJ⟩,he,eP,bH⟩
 .rintro e w' ⟨v,x,s,l',d',m',n',⟨o,hT,hJ⟩,rfl,hz⟩;have⟨m,F,G⟩:=hJ.host hz B;exact⟨v,x,o,m,hT,rfl,F,G⟩
structure ZB [Inhabited Bs](w:nL)(hp k t:Nat)(sk:Bool)(a b k4:Int):Prop where
 kk:k<10000
 b3:3<=(B0:Nat)
 iN:B0<=hp
 k1:-2^63<=k4
 k2:k4<=9223372036854775807
 a1:-2^63<=a
 b1:-2^63<=b
 gl:Gl w
 sk:sk=false->a<0/\b<0
 t:t<2^64
def JO(E:List aP)(R:aP)(gc:Nat)(sk I:Bool)(v x:Nat)(o:Oc):Prop :=
 if 12<=R.ai.length then v=0/\x=5/\o=.on E R gc sk I
 else (x=0/\R.next<=v/\v<=R.next+gc/\v<1000000/\o=.on E { R with ai:=R.ai++[⟨v,4,0,[],false⟩],next:=v+1 } 0 sk I)\/(sk=true/\v=0/\(x=9/\o=.on E R gc true true\/x=10/\o=.off E R.next gc))
theorem abN{t:Nat}{a b j:Int}(c3:Int)(g:rY w hp p q so k E R gc sk I)(z:ZB w hp k t sk a b j):
  Calls prog 130 #[gx hp,kS a b c3 j] w λe w'=>∃v x o G,JO E R gc sk I v x o/\e=.returned (.tuple #[.int .u64 (v:Int),.int .i64 (x:Int)])/\ku w' hp p q G (k+1) o/\kI hp p so G w w':=by
 apply JM _ 194 [] (λv y=>.tuple #[.int .u64 (v:Int),y]) (.inl ⟨rfl,rfl,rfl,rfl⟩) a b c3 j (JO E R gc sk I) g z.kk z.b3 z.iN z.k1 z.k2 z.gl;intro J h O i r c l d H M m0 B f U T L;have a1:=f.jd.rel.Mo;have hlen:=f.jd.rel.len;have kB:=f.jd.rK;have a7:=f.jd.lim;have D:=f.jd.rel.next;have C:=f.RM;have K:=z.kk;have W:=pw k;have X:=px k M m0;have e3:=oR K;by_cases Z:12<=R.ai.length
 .refine(Lz B0 J h O (mC k) c B T.co T.PG dp).mono ?_;rintro e w2 ⟨rfl,bH⟩;have⟨P,Y⟩:=T.new bH;exact⟨0,5,_,c,l,d.aJ a b,mC k,nC k M m0,by unfold JO;rw[oo Z];exact⟨rfl,rfl,rfl⟩,f.stays.z a b dp dp,rfl,P,Y⟩
 .have hT:∀{v x o},_->JO E R gc sk I v x o:=λQ=>by unfold JO;rw[mE Z];exact Q
  by_cases hx:c.next=c.aH
  .refine(Yr B0 J h O (mC k) i p q r (nC k M m0) c l (d.aJ a b) B T dp hx dp dp dp (by have:=z.b3;omega) f.segs L).mono ?_;rintro e w2 ⟨rfl,P,Y⟩;rcases f.VG z.sk z.a1 z.b1 hx dp K with⟨s,u,A,S⟩|⟨s,u,A⟩
   .rw[s]at P ⊢;exact⟨c.next,0,_,_,_,_,mC k+1,nC k M m0+3,hT<|.inl ⟨rfl,D,C,dp,by rw[u]⟩,S.zz A dp dp,by rw[hx];rfl,P,Y⟩
   .obtain⟨o,z1,z2⟩:=A.z (m:=mC k+1) (n:=nC k M m0+3) (by omega) (by omega);have N:c.begun (l.keep (d.aJ a b) 1<|str<|be 8<|c.aH+16).2.2=c:=by grind[bL.begun]
    rw[N]at P;exact⟨0,_,o,_,_,_,_,_,hT<|.inr ⟨s,rfl,z1⟩,z2,by unfold abl;rw[mE u];rfl,P,Y⟩
  .refine(TG B0 J h O (mC k) c B T.co T.PG dp hx dp dp).mono ?_;rintro e w2 ⟨rfl,iy,bH⟩;have⟨P,Y⟩:=T.fL iy bH;refine⟨c.next,0,_,_,l,d.aJ a b,mC k+1,nC k M m0,hT<|.inl ⟨rfl,D,C,dp,rfl⟩,dH.z (f.still (f.jd.YX dp hx) ?_ rfl (zzC _) (by show R.next<=c.next+1;omega) (by show c.next+1<=c.next+1+0;omega) (λx V h6=>?_) (λx V=>?_) λg=>g) a b dp dp,rfl,P,Y⟩
   .grind [aP.ds]
   .grind
   .rcases zzo.1 V with F|F
    .exact f.pos x F
    .grind
def TAb(E:List aP)(R:aP)(t gc:Nat)(sk I:Bool)(x:Nat)(o:Oc):Prop :=
 if R.dZ t then (x=9\/x=10)/\o=.on E R gc sk I else x=R.kg t/\o=.on E (R.abort t) gc sk I/\(R.abort t).ds=R.ds
theorem abO{t:Nat}{a b A:Int}(c3:Int)(D:rY w hp p q so k E R gc sk I)(z:ZB w hp k t sk a b A):
  Calls prog 76 #[gx hp,.int .u64 (t:Int),kS a b c3 A] w λe w'=>∃(_:Nat) (x:Nat) (o:Oc) (C:AW),TAb E R t gc sk I x o/\e=.returned (.int .i64 (x:Int))/\ku w' hp p q C (k+1) o/\kI hp p so C w w':=by
 apply JM _ 134 [.int .u64 (t:Int)] (λ_ y=>y) (.inr ⟨rfl,.inr<|.inl ⟨rfl,rfl,t,rfl⟩⟩) a b c3 A (λ_=>TAb E R t gc sk I) D z.kk z.b3 z.iN z.k1 z.k2 z.gl;intro J h O i r c l d H M m0 v f L T K;have j:=f.jd.rel.kg t;have hlen:=QT f.jd.rel.parts t;have s:=z.t;have F:=pw k;have G:=px k M m0;have N:=oR z.kk;by_cases g:(c.tx t).state=0
 .rw[oo g]at j;apply(Fo B0 J h O (mC k) t c v T.co s g).mono;rintro e w2 ⟨rfl,bH⟩;have⟨P,Y⟩:=T.new bH;have u:R.dZ t=false:=by
   unfold aP.dZ;rw[f.jd.rel.status t]at g;cases m:aO R.ai t with
   |none=>rfl
   |some x=>rw[m]at g;have:=(f.jd.rel.ok x (bh m).1).1.st;simp at g;omega
  exact⟨0,7,_,c,l,d.aJ a b,mC k,nC k M m0,by unfold TAb;rw[u,aP.Jv dp,j];exact⟨rfl,rfl,rfl⟩,f.stays.z a b dp dp,rfl,P,Y⟩
 .rw[mE g]at j;have⟨x,hx,B,Q⟩:=f.jd.rel.aad g;by_cases n:(c.tx t).state=6
  .rw[oo n]at j;apply(Fp B0 J h O (mC k) t c v T.co s n).mono;rintro e w2 ⟨rfl,bH⟩;have⟨P,Y⟩:=T.new bH;have u:R.dZ t=false:=by
    unfold aP.dZ;rw[hx];exact(f.jd.rel.ok x (bh hx).1).1.nod<|by have:=B.st;omega
   exact⟨0,4,_,c,l,d.aJ a b,mC k,nC k M m0,by unfold TAb;rw[u,aP.Jv dp,j];exact⟨rfl,rfl,rfl⟩,f.stays.z a b dp dp,rfl,P,Y⟩
  .rw[mE n]at j;by_cases m:(c.tx t).aS=0
   .refine(Iz B0 J h O (mC k) t c v T.co s m g n dp).mono ?_;rintro e w2 ⟨rfl,iy,bH⟩;have⟨P,Y⟩:=T.fL iy bH;have u:=Bool.eq_false_iff.2 λe=>f.jd.rel.Ck.1 e m
    have L:=Sm.del (c':=c.kX t) rfl n rfl rfl;exact⟨0,0,_,_,l,d.aJ a b,mC k+10,nC k M m0,by unfold TAb;rw[u,j];exact⟨rfl,rfl,L.ds f.jd.rel<|f.jd.rel.abort j⟩,dH.z (f.sm (f.jd.step (f.jd.rel.abort j) rfl rfl rfl hlen.2.2 hlen.1 hlen.2.1) L hlen.2.2) a b dp dp,rfl,P,Y⟩
   .refine(Dq B0 J h O (mC k) t c v T.co s g n m).mono ?_;rintro e w2 ⟨rfl,bH⟩;have⟨P,Y⟩:=T.new bH;have u:=f.jd.rel.Ck.2 m;exact⟨0,(c.tx t).aS,_,c,l,d.aJ a b,mC k,nC k M m0,by unfold TAb;rw[u];exact⟨by have:=B.Ck.2;omega,rfl⟩,f.stays.z a b dp dp,rfl,P,Y⟩
def TDn(E:List aP)(R:aP)(t:Nat)(z:Int)(gc:Nat)(sk I:Bool)(x:Nat)(o:Oc):Prop :=
 if R.l_ t z then Tw (E++[R.done t z]) (R.done t z) gc (if I then E else E++[R.done t z]) R gc sk I x o/\Gg R.next (R.done t z) else x=0/\o=.on E (R.done t z) gc sk I
theorem aep{t:Nat}{a b N:Int}(z c3:Int)(X:rY w hp p q so k E R gc sk I)(f:ZB w hp k t sk a b N):
  Calls prog 85 #[gx hp,.int .u64 (t:Int),.int .i64 z,kS a b c3 N] w λe w'=>∃(_:Nat) (x:Nat) (o:Oc) (S:AW),TDn E R t z gc sk I x o/\e=.returned (.int .i64 (x:Int))/\ku w' hp p q S (k+1) o/\kI hp p so S w w':=by
 refine JM _ 137 [.int .u64 (t:Int),.int .i64 z] (λ_ y=>y) (.inr ⟨rfl,.inr (.inr (.inl ⟨rfl,rfl,t,z,rfl⟩))⟩) a b c3 N (λ_=>TDn E R t z gc sk I) X f.kk f.b3 f.iN f.k1 f.k2 f.gl ?_;intro J h O i r c l d H M m0 A g BL u V;have hlen:=Cv (R:=R) t z;have K:=f.t;have e1:=pw k;have e2:=px k M m0;have e3:=oR f.kk
 have none_:∀(e:Ending) (w2:nL),R.done t z=R->R.l_ t z=false->e=.returned .nilIface/\Fr [] A w2->∃(v x:Nat) (o:Oc) (s:bL) (l':au) (d':aj) (m' n':Nat),TDn E R t z gc sk I x o/\JZ (k+1) m0 o s l' d' m' n'/\e=.returned (bB x)/\CL w2 B0 J h O m' i p q r n' s l' d'/\jJ J O i p A w2:=by
  rintro e w2 F L ⟨rfl,bH⟩;obtain⟨P,Y⟩:=u.new bH;exact⟨0,0,_,c,l,d.aJ a b,mC k,nC k M m0,by unfold TDn;rw[L,F];exact⟨rfl,rfl⟩,g.stays.z a b dp dp,rfl,P,Y⟩
 by_cases j:(c.tx t).state=6
 .obtain⟨x,hx,hT,lJ⟩:=g.jd.rel.aad (by omega:(c.tx t).state≠0)
  have U:(c.tx t).aS=0:=Classical.byContradiction λhd=>by
   have Z:=hT.Ck.1.1 hd;have B:=(g.jd.rel.ok x (bh hx).1).1.Ck Z;have:=hT.st;omega
  by_cases B:partAt (c.tx t) z=2
  .obtain⟨kk,rfl,VC,Nx,ZX,mn⟩:=g.jd.rel.done j B
   cases G:((c.tx t).parts.set kk 5).any kE with
   |true =>
    obtain⟨C,D⟩:=ZX G;refine(PK B0 J h O (mC k) t kk VC c A u.co K U j Nx G dp).mono ?_;rintro e w2 ⟨rfl,iy,bH⟩;obtain⟨P,Y⟩:=u.fL iy bH;exact⟨0,0,_,_,l,d.aJ a b,mC k+1,nC k M m0,by unfold TDn;rw[C];exact⟨rfl,rfl⟩,dH.z (g.sm (g.jd.step D rfl rfl rfl hlen.2.2 (by rw[hlen.1];omega) (by rw[hlen.2.1];omega)) (Sm.put (T:={ c.tx t with parts:=(c.tx t).parts.set kk 5 }) rfl lJ (.inl ⟨rfl,MC Nx⟩) rfl rfl) hlen.2.2) a b dp dp,rfl,P,Y⟩
   |false =>
    obtain⟨C,D⟩:=mn G;refine(abm B0 J h O (mC k) i p q r (nC k M m0) t kk VC c l (d.aJ a b) A u K U j Nx G dp (by have:=f.b3;omega) g.segs V).mono ?_;rintro e w2 ⟨rfl,P,Y⟩;rcases g.aeo f.sk f.a1 f.b1 j D C f.kk rfl with⟨F,L,Q,q4⟩|⟨F,L,Q⟩
    .rw[F] at P ⊢;exact⟨0,0,_,_,_,_,mC k,nC k M m0+3,by unfold TDn;rw[C];exact⟨.inl ⟨rfl,L,rfl⟩,hlen.2.2▸D.RL⟩,q4.zz Q dp dp,rfl,P,Y⟩
    .obtain⟨o,z1,z2⟩:=Q.z (m:=mC k) (n:=nC k M m0+3) dp dp;have W:c.ended t (l.note (d.aJ a b) 3 (str (be 8 t))).2.2=c:=by grind [bL.ended]
     rw[W] at P;exact⟨0,_,o,_,_,_,_,_,by unfold TDn;rw[C];exact⟨.inr ⟨F,z1⟩,hlen.2.2▸D.RL⟩,z2,rfl,P,Y⟩
  .exact(Au B0 J h O (mC k) t z c A u.co K j B).mono λe w2=>none_ e w2 (g.jd.rel.Au j B).1 (g.jd.rel.Au j B).2
 .exact(Av B0 J h O (mC k) t z c A u.co K j).mono λe w2=>none_ e w2 (g.jd.rel.Av j).1 (g.jd.rel.Av j).2
theorem zCk{t:Nat}{a b j:Int}(c3:Int)(C:rY w hp p q so k E R gc sk I)(z:ZB w hp k t sk a b j):
  Calls prog 65 #[gx hp,kS a b c3 j] w λe w'=>∃(_:Nat) (x:Nat) (o:Oc) (v:AW),Tw [R] R gc (if I then E else E++[R]) R gc sk I x o/\e=.returned (.int .i64 (x:Int))/\ku w' hp p q v (k+1) o/\kI hp p so v w w':=by
 refine JM _ 120 [] (λ_ y=>y) (.inr ⟨rfl,.inl ⟨rfl,rfl,rfl⟩⟩) a b c3 j (λ_=>Tw [R] R gc (if I then E else E++[R]) R gc sk I) C z.kk z.b3 z.iN z.k1 z.k2 z.gl ?_;intro J h O i r c l d H M m0 Q f S T K;have a1:=f.jd.rel.Mo;have hlen:=f.jd.rel.len;have Z:=Ys c;have W:=pw k;have X:=oR z.kk;have V:=z.kk;have⟨hcut,G⟩:UF (nC k M m0) (l.Jl (d.aJ a b)<|(vk c).map yC) l (d.aJ a b) (vk c)/\nC k M m0+3*((vk c).length+2)+2+l.Jl (d.aJ a b) ((vk c).map yC)<=1000000000:=by
  have⟨cs,_,D⟩:=f.lg;rcases D.st with⟨_,hn,ss,c1,N⟩|⟨_,_,L⟩
  .have Ae:=N.aJ a b;have U:=abK (n:=nC k M m0) (es:=vk c) Ae.lg Ae.ba Ae.up (λe F=>I8 F) (by omega);refine⟨U,?_⟩;by_cases g:(l.notes (d.aJ a b)<|gC<|vk c).2.2=0
   .obtain⟨h3,h4,_⟩:=U g;omega
   .have:l.Jl (d.aJ a b) ((vk c).map yC)=0:=by unfold au.Jl;exact mE g
    omega
  .have hne:l.failed≠0:=by rw[L.fail];omega
   obtain⟨_,Y⟩:=ED (d:=d.aJ a b) ((vk c).map yC) hne;rw[Y];refine⟨λg=>?_,dp⟩;rw[show l.notes (d.aJ a b) (gC<|vk c)=(l,d.aJ a b,l.failed)from Ct hne du]at g;exact absurd g hne
 apply(adB B0 J h O (mC k) i p q r (nC k M m0) _ c l (d.aJ a b) Q T dp (λx hx=>(f.jd.ids dp x hx).2) f.segs G hcut (by have:=z.b3;omega) K).mono;rintro e w2 ⟨rfl,eP,Y⟩;rcases f.Vw z.sk z.a1 z.b1 z.kk rfl with⟨s,A,u,B,q4,P⟩|⟨s,A,u⟩
 .have e2:=px k B m0;rw[s];exact⟨0,0,_,_,_,_,mC k,_,.inl ⟨rfl,A,rfl⟩,P.zz u dp<|by unfold nC;omega,rfl,eP,Y⟩
 .obtain⟨o,z1,z2⟩:=u.z (m:=mC k) (n:=nC k M m0+3*((vk c).length+2)+2+l.Jl (d.aJ a b) ((vk c).map yC)) (by omega) (by unfold nC;omega);exact⟨0,_,o,_,_,_,_,_,.inr ⟨s,z1⟩,z2,rfl,eP,Y⟩
end
def Gm [Inhabited Bs](w0 w:nL)(hp p h jp k:Nat):Prop :=
 ∃so cv gc sk hu m cl o,JA w hp p jp so cv gc sk hu m cl/\iw w0 w/\ku w hp p h so k o/\(o=.on (cl.map (·.2.1)) m.2.1 gc sk hu\/o=.off (cl.map (·.2.1)) m.2.1.next gc/\sk=true)/\gc<=100*k
structure JN [Inhabited Bs](w0 w:nL)(hp p jp bx:Nat)(so:AW)(cv:Value)(gc:Nat)(sk hu:Bool)(m:cC)(cl:List cC)(c:cC)(nB:Array Value):Prop where
 ja:JA w hp p jp so cv gc sk hu m cl
 ref:gh w c.1 c.2.2 c.2.1
 dis:∀x∈m :: cl,∀k∈x.2.2,k∉c.2.2
 free:∀k∈c.2.2,¬jN hp p so w k
 jf:iw w0 w
 gl:Gl w
 st:w.heap[bx]?=some (.cells nB 40 (0,0))
section
variable [Inhabited Bs]{w0 w w':nL}{hp p h J n jp bx k gc:Nat}{so I:AW}{d:aj}{cv:Value}{sk hu:Bool}{m c:cC}{cl:List cC}{nB:Array Value}{R R':aP}{E:List Nat}{o:Oc}
theorem gh.vR{r:Nat}{S:List Nat}(h:gh w r S R)(U:∀k∈S,¬jN hp p so w k)(hf:kI hp p so I w w'):gh w' r S R/\∀k∈S,¬jN hp p I w' k:=by
 have⟨T,b,c⟩:=Vk (nF w) λk=>jN hp p so w k
 have kO:Fr T w w':=⟨hf.os,hf.tape,hf.output,hf.size,λk a hn=>hf.block k a λo=>hn<|c k a o⟩;exact⟨h.Ws kO λk a m=>U k a<|b k m,λk a o=>U k a<|hf.stay k (h.kinds a).2.1 o⟩
theorem JN.host(a:JN w0 w hp p jp bx so cv gc sk hu m cl c nB)(E:oO w B0 hp p h J so d n)(hf:kI hp p so I w w')(B:3<=(B0:Nat))(N:B0<=hp):JN w0 w' hp p jp bx I cv gc sk hu m cl c nB:=by
 have k:=iw.vR E N hf;have⟨b,e⟩:=a.ref.vR a.free hf;exact⟨a.ja.host E hf,b,a.dis,e,a.jf.trans k,k.gl B a.gl,k.step _ _ a.st⟩
theorem JN.new(a:JN w0 w hp p jp bx so cv gc sk hu m cl c nB)(E:oO w B0 hp p h J so d n)(hf:Fr [] w w')(B:3<=(B0:Nat))(N:B0<=hp):JN w0 w' hp p jp bx so cv gc sk hu m cl c nB:=a.host E (E.new hf).2 B N
theorem JN.fL(a:JN w0 w hp p jp bx so cv gc sk hu m cl c nB)(f:oO w B0 hp p h J so d n)(hf:fo c.2.2 E w w')(r:gh w' c.1 E R')(B:3<=(B0:Nat)):JN w0 w' hp p jp bx so cv gc sk hu m cl (c.1,R',E) nB:=by
 have b:=hf.lfr a.ref;have C:=(f.GL a.ref a.free hf).2;have R:∀k∈E,k∈c.2.2\/w.heap.size<=k:=λk b=>by
  by_cases W:k<w.heap.size
  .exact .inl<|hf.stay k b W
  .grind
 refine⟨⟨a.ja.mem.abz hf.fr (a.ja.mem.ne a.ref).1 (a.ja.mem.ne a.ref).2 a.dis,λx hx k b o=>a.ja.free x hx k b<|C k o⟩,r,λx hx k b s=>?_,λk b o=>?_,a.jf.trans b,b.gl B a.gl,b.step _ _ a.st⟩
 .rcases R k s with e|e
  .exact a.dis x hx k b e
  .have:=((a.ja.mem.each x hx).kinds b).2.1;omega
 .rcases R k b with e|e
  .exact a.free k e<|C k o
  .exact f.above e<|C k o
theorem JN.VP(b:JN w0 w hp p jp bx so cv gc sk hu m cl c nB)(f:oO w B0 hp p h J so d n)(hf:fo m.2.2 E w w')(r:gh w' m.1 E R')(B:3<=(B0:Nat)):JN w0 w' hp p jp bx so cv gc sk hu (m.1,R',E) (mO m R' E cl) c nB:=by
 have a:=hf.lfr b.ja.ref;have g:=b.dis m dv;have C:=(f.GL b.ja.ref (b.ja.free m dv) hf).2;refine⟨b.ja.fL f hf r,b.ref.Ws hf.fr λk a Z=>g k Z a,λx hx k a s=>?_,λk a o=>b.free k a<|C k o,b.jf.trans a,a.gl B b.gl,a.step _ _ b.st⟩;have S:k∈E->False:=λa=>g k (hf.stay k a (b.ref.kinds s).2.1) s
 obtain rfl|hx:=zzj.1 hx
 .exact S a
 .obtain⟨y,hy,rfl⟩:=zzq.1 hx;by_cases e:y.1=m.1
  .grind
  .rw[mE e]at a;exact b.dis y (by simp[hy]) k a s
theorem JN.Kd(h:JN w0 w hp p jp bx so cv gc sk hu m cl c nB):∀y∈cl,xF c y:=λy b=>.inr λk a L=>h.dis y (by simp[b]) k L a
theorem JN.aeu(a:JN w0 w hp p jp bx so cv gc sk hu m cl c nB)(b:rY w hp p h so k (cl.map (·.2.1)) c.2.1 gc sk hu)(U:gc<=100*k):Gm w0 (w.setCell (hP jp 1)<|gx c.1) hp p h jp k:=by
 obtain⟨J,d,n,E⟩:=b.mg;have l:=a.ja.mem.mh [] 1<|.pointer<|some ⟨c.1,0,none⟩;have e:=a.ja.mem.swap (w':=w.setCell ⟨jp,1,none⟩<|.pointer<|some ⟨c.1,0,none⟩) (m2:=c) (gc':=gc) (sk':=sk) (hu':=hu) (Fr.cG (by simp) _ _) (by simpa using aF a.ja.mem.kb 1<|.pointer<|some ⟨c.1,0,none⟩) a.ref a.Kd
 exact⟨so,cv,gc,sk,hu,c,cl,_,a.ja.law E e l (λx hx=>by
  obtain rfl|hx:=zzj.1 hx
  .exact a.free
  .exact a.ja.free x (by simp[hx])),a.jf.trans (iw.QW l),ku.mW (o:=.on _ _ _ _ _) b l,.inl rfl,U⟩
theorem JN.stands(a:JN w0 w hp p jp bx so cv gc sk hu m cl c nB)(o:rY w hp p h so k (cl.map (·.2.1)) m.2.1 gc sk hu)(U:gc<=100*k):Gm w0 w hp p h jp k:=⟨so,cv,gc,sk,hu,m,cl,.on _ _ _ _ _,a.ja,a.jf,o,.inl rfl,U⟩
omit [Inhabited Bs] in
theorem Tw.code{Q F:List aP}{R b:aP}{J x:Nat}(h:Tw Q R J F b gc sk hu x o):x=0/\hu=false\/(x=9\/x=10)/\sk=true:=by
 rcases h with⟨c,a,_⟩|⟨c,⟨a,_⟩|⟨a,_⟩⟩<;>grind
end
def WrP [Inhabited Bs](w0 w:nL)(hp p h jp bx k:Nat)(so:AW)(gc:Nat)(m:cC)(F:aP)(nB:Array Value)(x:Nat):Prop :=
 (x=0/\Gm w0 w hp p h jp k) \/
 (x≠0/\∃cv cl o,JA w hp p jp so cv gc true true m cl/\iw w0 w/\Gl w/\w.heap[bx]?=some (.cells nB 40 (0,0))/\ku w hp p h so k o/\(o=.on (cl.map (·.2.1)) F gc true true\/o=.off (cl.map (·.2.1)) F.next gc))
theorem jwr [Inhabited Bs](hp p h jp bx k gc x:Nat)(w0 w:nL)(I:AW)(cv:Value)(sk hu forced:Bool)(m:cC)(cl:List cC)(c:cC)(nB:Array Value)(F:aP)(o:Oc)(b:JN w0 w hp p jp bx I cv gc sk hu m cl c nB)
  (T:Tw ((if forced then []else cl.map (·.2.1))++[c.2.1]) c.2.1 gc (if hu then cl.map (·.2.1)else cl.map (·.2.1)++[c.2.1]) F gc sk hu x o) (A:ku w hp p h I (k+1) o) (i:c.2.1.ai.length<=1048576) (j:∀y∈c.2.1.ai,y.parts.length<=1000) (l:c.2.1.res.length<=1048576) (q:c.2.1.out.length<=1048576) (hn:cl.length<=1048576) (t:3<=(B0:Nat)) (U:gc<=100*(k+1)) :
  Calls prog 83 #[gx jp,gx c.1,.int .i64 (x:Int),.bool forced] w λe w'=>e=.returned (.bool true)/\WrP w0 w' hp p h jp bx (k+1) I gc m F nB x:=by
 have⟨J,d,n,E⟩:=A.mg;rcases T.code with⟨rfl,rfl⟩|⟨hx,rfl⟩
 .refine(QJ hp jp gc w cv sk forced m c cl b.ja.mem b.ref b.Kd i j l q hn).mono ?_;rintro e w' ⟨he,cv',c',V6,R,hK,hL⟩;refine⟨he,.inl ⟨rfl,?_⟩⟩;rcases T with⟨_,_,rfl⟩|⟨_,⟨hx,_⟩|⟨hx,_⟩⟩
  .refine⟨I,cv',gc,sk,false,c,_,_,⟨hK,λy a k f g=>?_⟩,b.jf.trans<|iw.QW hL,A.mW hL,.inl ?_,U⟩
   .have ik:=(E.mW hL).2 k g;obtain rfl|a:=zzj.1 a
    .exact b.free k f ik
    .rcases zzo.1 a with a|a
     .cases forced
      .exact b.ja.free y (by simp at a;simp[a]) k f ik
      .simp at a
     .simp at a;subst a;exact E.above (R k f) ik
   .grind
  .cases hx
  .cases hx
 .refine(Mt hp jp gc x w cv hu forced m c cl hx b.ja.mem b.ref i j l q hn).mono ?_;rintro e w' ⟨he,cv',cl',dM,hK,hL⟩;refine⟨he,.inr ⟨dp,?_⟩⟩;have B:=iw.QW hL;have r:cl'.map (·.2.1)=if hu then cl.map (·.2.1)else cl.map (·.2.1)++[c.2.1]:=by grind
  refine⟨cv',cl',o,⟨hK,λy a k f g=>?_⟩,b.jf.trans B,B.gl t b.gl,B.step _ _ b.st,A.mW hL,?_⟩
  .have ik:=(E.mW hL).2 k g;obtain rfl|a:=zzj.1 a
   .exact b.ja.free y dv k f ik
   .rcases dM with⟨_,rfl⟩|⟨_,c',_,R,rfl⟩
    .exact b.ja.free y (by simp[a]) k f ik
    .rcases zzo.1 a with a|a
     .exact b.ja.free y (by simp[a]) k f ik
     .simp at a;subst a;exact E.above (R k f) ik
  .rw[r];rcases T with⟨u,_⟩|⟨_,⟨_,s⟩|⟨_,s⟩⟩
   .omega
   .grind
   .grind
theorem gh.Oe [Inhabited Bs](h:gh w r S R)(v:Nat):gh (w.setCell (hP r 1)<|.int .u64 (v:Int)) r S {R with next:=v}/\fo S S w (w.setCell (hP r 1)<|.int .u64 (v:Int)):=by
 obtain⟨x,a,o,ps,h,rfl⟩:=h;refine⟨⟨x,a,o,ps,{base:=h.base,blk:=?_,kF:=aN h.kF h.blk du,prt:=λp hp=>aN (h.prt p hp) h.blk du,apart:=h.apart,res:=aN h.res h.blk du,out:=aN h.out h.blk du,rs:=h.rs},rfl⟩,⟨Fr.cG (dC.2<|.inl rfl) _ _,λ_ k _=>k⟩⟩;have:=aF h.blk 1<|.int .u64 (v:Int)
 simpa using this
section
variable [Inhabited Bs]{i w w':nL}{hp p h l n E O k gc:Nat}{so:AW}{d:aj}{b:Value}{I J:Bool}{m c:cC}{a:List cC}{j:Array Value}{R:aP}{g:Nat}{f:List Nat}
theorem JA.copy(e:JA w hp p E so b gc I J m a)(o:oO w B0 hp p h l so d n)(r:iw i w)(A:Gl w)(q:w.heap[O]?=some (.cells j 40 (0,0)))(t:gh w' g f R)(C:∀k∈f,w.heap.size<=k)(hf:Fr [] w w')(B:3<=(B0:Nat)):JN i w' hp p E O so b gc I J m a (g,R,f) j:=by
 have c:=iw.new hf e.size;exact⟨e.new o hf,t,λx hx k c u=>by have:=C k u;have:=((e.mem.each x hx).kinds c).2.1;omega,λk c s=>o.above (C k c)<|(o.mW<|tB.new e.size hf).2 k s,r.trans c,c.gl B A,c.step _ _ q⟩
theorem JN.agn(e:JN i w hp p E O so b gc I J m a c j)(g:rY w hp p h so k (a.map (·.2.1)) c.2.1 0 I J):Gm i ((w.setCell (hP E 1)<|gx c.1).setCell (hP E 3)<|.int .u64 0) hp p h E k:=by
 obtain⟨l,d,n,q⟩:=g.mg;have B:=aF e.ja.mem.kb 1<|.pointer<|some ⟨c.1,0,none⟩;have Y:=e.ja.mem.swap (w':=w.setCell ⟨E,1,none⟩<|.pointer<|some ⟨c.1,0,none⟩) (m2:=c) (gc':=gc) (sk':=I) (hu':=J) (Fr.cG (by simp) _ _) (by simpa using B) e.ref e.Kd;have Z:=Y.set (w':=(w.setCell ⟨E,1,none⟩<|.pointer<|some ⟨c.1,0,none⟩).setCell ⟨E,3,none⟩<|.int .u64 0) (gc':=0) (sk':=I) (hu':=J) (Fr.cG (by simp) _ _) (by have:=aF Y.kb 3<|.int .u64 0;simp at this;exact this);have f:=(e.ja.mem.mh [] 1<|.pointer<|some ⟨c.1,0,none⟩).trans (Y.mh [] 3<|.int .u64 0) dv
 exact⟨so,b,0,I,J,c,a,_,e.ja.law q Z f (λx hx=>by
  obtain rfl|hx:=zzj.1 hx
  .exact e.free
  .exact e.ja.free x (by simp[hx])),e.jf.trans (iw.QW f),ku.mW (o:=.on _ _ _ _ _) g f,.inl rfl,zzs _⟩
end
section
variable [Inhabited Bs](hp p h E k gc:Nat)(so:AW)(b:Value)(I J:Bool)(m:cC)(a:List cC)(w:nL)
theorem MI(kd sq nn l n r s:Int)(eC x y:Nat)(a7 sv:nS)(ao:Option Addr)(a8:JA w hp p E so b gc I J m a)(F:rY w hp p h so k (a.map (·.2.1)) m.2.1 gc I J)(R:ZB w hp k eC I l n s)(uU:gc<=100*k):
  Calls prog 72 #[gx E,Jp kd eC sq nn a7 sv ao x y l n r s] w λe w'=>e=.returned (.bool true)/\Gm w w' hp p h E (k+1):=by
 obtain⟨W,C⟩:∃W,W=w.alloc (qo kd eC sq nn a7 sv ao x y l n r s):=⟨_,rfl⟩;have dI:Fr [] w W:=by rw[C];exact(fU w).alloc _
 have K:W.heap[w.heap.size]?=some (qo kd eC sq nn a7 sv ao x y l n r s):=by rw[C];exact oz w _
 have⟨aX,d0,n0,hE⟩:=F.mg;have A0:=a8.new hE dI;have O0:=ku.new (o:=.on _ _ _ _ _) F dI;have L0:=iw.new dI a8.size;have qO:=R.kk;have Q:∃c,Jd k c m.2.1:=by have⟨_,_,_,_,_,c,_,_,_,_,_,_,_,F⟩:=F;exact⟨c,F.jd⟩
 obtain⟨cj,Q⟩:=Q;have hlen:=Q.rel.len;have HD:=ah (show ∀x∈m.2.1.ai,x.parts.length<=1000 from λx hx=>by have:=Q.rel.parts x hx;omega);have aW:=Q.res;have Ps:=Q.out;have k0:=af A0.mem.kb 0;have z:=af K 7;have u:=af K 8;have A:=af K 9;have S:=af K 10;simp at k0 z u A S;have kB:=Q.rK;have SD:=Q.rel.next;have j:=ah<|zzb A0<|zzb O0<|zzb L0<|zzb (L0.gl R.b3 R.gl) K;have Z:=ah R;obtain⟨O,k9⟩:∃O,O=w.heap.size:=⟨_,rfl⟩;rw[<-k9]at j z u A S
 have U:∀w',Fr [] W w'->Calls prog 130 #[.pointer<|some ⟨hp,0,none⟩,kS l n r s] w' λe L=>∃v x' o G,JO (a.map (·.2.1)) m.2.1 gc I J v x' o/\e=.returned (.tuple #[.int .u64 (v:Int),.int .i64 (x':Int)])/\ku L hp p h G (k+1) o/\JA L hp p E G b gc I J m a/\iw w L/\Gl L/\L.heap[O]?=some (qo kd eC sq nn a7 sv ao x y l n r s):=λw' a'=>by
  have L1:=iw.new a' j.1.size;have O1:=ku.new j.2.1 a';have⟨b0,d1,n1,aI⟩:=ku.mg j.2.1;have⟨RG,d2,n2,RH⟩:=ku.mg O1;have G1:=L1.gl Z.out.b3 j.2.2.2.1;apply(abN r O1 {Z.out with gl:=G1}).mono;rintro e L ⟨v,x',o,G,T,rfl,hA,hX⟩;have L2:=iw.vR RH Z.out.iN hX;exact⟨v,x',o,G,T,rfl,hA,(j.1.new aI a').host RH hX,(j.2.2.1.trans L1).trans L2,L2.gl Z.out.b3 G1,L2.step _ _<|L1.step _ _ j.2.2.2.2⟩
 clear a8 F K A0 O0 L0 dI hE R Q;rw[C]at k0 z u A S;have ae:=ah U;clear U;go_enter func72,ntmps72;rw[k9]at z u A S;go_wp2;rw[<-C];rw[<-C]at k0 z u A S;rw[<-k9]at z u A S ⊢;have U:=ae.out;clear C k9 ae;go_region_held3 (λw'=>w'.cell? ⟨E,0,none⟩=some (.pointer<|some ⟨hp,0,none⟩)/\w'.cell? ⟨O,7,none⟩=some (.int .i64 l)/\w'.cell? ⟨O,8,none⟩=some (.int .i64 n)/\w'.cell? ⟨O,9,none⟩=some (.int .i64 r)/\w'.cell? ⟨O,10,none⟩=some (.int .i64 s)) (simp[*])
  (first|(go_at_call 130;apply(U _<|by first|exact(fU W).drew|exact fU W).mono;rintro e W1 ⟨v,x',o,G,h1,rfl,h2,h3,h4,h5,h6⟩;have an:=af h3.mem.kb 0;have aa:=af h6 7;have ab:=af h6 8;have ad:=af h6 9;have ag:=af h6 10;simp at an aa ab ad ag;have i:=ah<|zzb h1<|zzb h2<|zzb h3<|zzb h4<|zzb h5 h6;clear h1 h2 h3 h4 h5 h6 U))
 clear k0 z u A S j;have k1:=af i.2.2.1.mem.kb 1;simp at k1;have Y:=oq m.1 m.2.2 m.2.1 W1 i.2.2.1.ref dp HD.out dp dp;clear an aa ab ad ag;go_wp2_with fail;apply Y.mono;clear Y k1;rintro e W2 ⟨g,f,rfl,zo,vJ,bH⟩;have⟨RI,d3,n3,xE⟩:=i.2.1.mg;have d:=ah<|zzb (i.2.2.1.copy xE i.2.2.2.1 i.2.2.2.2.1 i.2.2.2.2.2 zo vJ bH Z.out.b3)<|zzb (i.2.1.new bH) i.1;clear zo vJ bH i xE;by_cases Zs:12<=m.2.1.ai.length
 .have hbm:=ID g f m.2.1 W2 d.1.ref dp;have T:=d.2.2;unfold JO at T;rw[oo Zs]at T;obtain⟨rfl,rfl,rfl⟩:=T;go_wp2_with fail;apply hbm.mono;clear hbm;rintro e W3 ⟨rfl,q,rfl⟩;have NI:=(fU W2).dE q;have⟨aA,d4,n4,X⟩:=d.2.1.mg;have M:=ah ((d.1.new X NI Z.out.b3 Z.out.iN).stands (ku.new d.2.1 NI) dp);go_wp2;go_ret;exact⟨rfl,M.out⟩
 .have hbm:=BH g f m.2.1 W2 d.1.ref dp dp;have T:=d.2.2;unfold JO at T;rw[mE Zs]at T;go_wp2_with fail;apply hbm.mono;clear hbm;rintro e W3 ⟨rfl,S3,Gw,lF⟩;have⟨aA,d4,n4,X⟩:=d.2.1.mg;have H:=ah<|zzb (d.1.fL X lF Gw Z.out.b3)<|d.2.1.GL d.1.ref d.1.free lF;clear Gw lF X d;rcases T with⟨rfl,Wf,tX,CQ,rfl⟩|⟨rfl,rfl,T⟩
  .obtain⟨D,hD⟩:∃D,v=m.2.1.next+D:=⟨v-m.2.1.next,dp⟩;have iD:(v:Int)-(m.2.1.next:Int)=(D:Int):=dp
   have jD:IntKind.u64.wrap (D:Int)=D:=by rw[Bl];omega
   have nD:¬(gc:Int)<D:=dp;have nv:¬(v:Int)<(m.2.1.next:Int):=dp;have HV:=ah hD;clear hD;have ax:=af H.1.ja.mem.kb 1;have ay:=af H.1.ja.mem.kb 3;simp at ax ay;have Y:=oq m.1 m.2.2 m.2.1 W3 H.1.ja.ref dp HD.out dp dp;go_wp2_with fail;apply Y.mono;clear Y ay ax iD jD nD nv;rintro e W4 ⟨np2,S4,rfl,GJ,aae,iI⟩;have⟨aE,d5,n5,P⟩:=H.2.mg;have V:=H.1.ja.copy P H.1.jf H.1.gl H.1.st GJ aae iI Z.out.b3;have O4:=H.2.new iI;have⟨_,bb,ba,b',nM⟩:=GJ.root;have n1:=af nM 1;have nf:=aq nM 1;simp at n1;have⟨nY,a1⟩:=GJ.Oe v;have⟨W5,vg⟩:=gb <|W4.setCell ⟨np2,1,none⟩ (.int .u64 (v:Int));rw[<-vg]at nY a1;have⟨b2,d6,n6,Q4⟩:=O4.mg;have N5:=V.fL Q4 a1 nY Z.out.b3;have O5:=O4.GL V.ref V.free a1;have al:=BH np2 S4 {m.2.1 with next:=v} W5 nY (by show m.2.1.ai.length<12;omega) (by show v+1<_;omega);have B:=ah<|zzb N5 O5;clear GJ aae iI P V O4 nM nY a1 Q4 N5 O5 H;go_wp2_with fail;rw[<-vg];apply al.mono;clear al vg n1 nf;rintro e W6 ⟨rfl,S6,GB,hk6⟩;have⟨b6,d7,n7,av⟩:=B.2.mg;have N:=B.1.fL av hk6 GB Z.out.b3;have O6:=B.2.GL B.1.ref B.1.free hk6;have b1:=af N.ja.mem.kb 1;have b7:=aq N.ja.mem.kb 1;have b3:=af N.ja.mem.kb 3;have b8:=aq N.ja.mem.kb 3;simp at b1 b3;have M:=ah<|N.agn O6;clear GB hk6 av N O6 B;go_wp2;go_ret;exact⟨rfl,M.out⟩
  .have Z6:x'=9\/x'=10:=by rcases T with⟨e,_⟩|⟨e,_⟩<;>omega
   have RJ:¬(x':Int)=0:=dp;have gI:=oK x' W3;rw[show decide (x'=9\/x'=10)=true from zI Z6]at gI;have b5:=af H.1.ja.mem.kb 5;have b9:=aq H.1.ja.mem.kb 5;have b4:=af H.1.ja.mem.kb 4;simp at b5 b4;have⟨aE,d5,n5,P⟩:=H.2.mg;have hl:=H.1.ja.mem.mh [] 5<|.bool true
   have M:Hid (Gm w (W3.setCell ⟨E,5,none⟩<|.bool true) hp p h E<|k+1):=by
    refine⟨G,b,gc,true,true,m,a,o,H.1.ja.law P H.1.ja.mem.Gd hl H.1.ja.free,H.1.jf.trans<|iw.QW hl,H.2.mW hl,?_,dp⟩;rcases T with⟨_,e⟩|⟨_,e⟩
    .exact .inl e
    .exact .inr ⟨e,rfl⟩
   clear hl P H T;go_wp2_with fail;apply gI.mono;rintro e W4 ⟨rfl,rfl⟩;clear gI;go_wp2;go_ret;exact⟨rfl,M.out⟩
end
section
variable{k:Nat}{c:bL}{l:au}{d:aj}{j:List aP}{R Q y:aP}{gc gc' u t:Nat}{b O:Bool}{H:Nat->List Nat}{M m0:Nat}{x:bL}{s:qE}
theorem dH.asked(h:dH k c l d j R gc b O H M m0):dH k {c with res:=[],out:=[]} l d j {R with res:=[],out:=[]} gc b O H M m0:=
 ⟨h.jd.asked,h.RM,h.pos,h.qs,h.rq,h.EG,h.Wu,h.lg⟩
theorem dH.aey(h:dH k c l d j R gc b O H M m0)(s:gc<=gc'):dH k c l d j R gc' b O H M m0:=
 ⟨h.jd,by have:=h.RM;omega,h.pos,h.qs,h.rq,h.EG,h.Wu,h.lg⟩
theorem Og(h:jE R.ai):R.stat t=6↔∃p∈R.ds,p.1=t:=by
 unfold aP.stat;constructor
 .intro e;cases d:aO R.ai t with
  |none=>grind
  |some x=>
   rw[d]at e;have⟨m,m2⟩:=bh d;exact⟨(x.id,x.yes),jG.2 ⟨x,m,e,rfl⟩,m2⟩
 .rintro⟨p,hp,rfl⟩;obtain⟨x,m,a,rfl⟩:=jG.1 hp;rw[h.at m];exact a
theorem VR(q:rR u H j)(hx:En x s)(r:x.res=[]/\x.out=[])(hn:u<=x.aH)(a:y∈j)(f:s.ds=y.ds)(h:Q∈j):Looks {x with next:=x.aH} {Q.rest with next:=u}↔Q.ds=s.ds:=by
 have hrel:=hx.rel r (q.ok y a) f hn;constructor
 .intro hl
  have L:∀Q∈j,jE (aP.ai {Q.rest with next:=u}):=λQ h=>by
   show jE (jW Q.ai);unfold jE jW;rw[zv];exact List.Pairwise.filter _ (q.ok Q h).oL
  have lt:∀Q∈j,∀p∈Q.ds,p.1<u:=λQ h p hp=>by
   obtain⟨z,b,_,rfl⟩:=jG.1 hp;exact((q.ok Q h).ok z b).2
  have k:∀t,t<u->((∃p∈Q.ds,p.1=t)↔∃p∈y.ds,p.1=t):=λt i=>by
   have c:=Og (t:=t)<|L Q h;have d:=Og (t:=t)<|L y a;rw[Ob]at c d;rw[<-c,<-d];have b:=(hl t<|by show t<u+3;omega).1;have g:(bL.tx {x with next:=x.aH} t).state=aP.stat {y.rest with next:=u} t:=hrel.status t;rw[<-b,g]
  rw[f];refine VD (jE.ds (q.ok Q h).oL) (jE.ds (q.ok y a).oL) (λp hp=>(q.at_ Q h p hp).1) (λp hp=>(q.at_ y a p hp).1) λt=>⟨?_,?_⟩
  .grind
  .grind
 .intro e;exact(hx.rel r (q.ok Q h) e.symm hn).looks
end
theorem rR.each{g:List cC}{u:Nat}{H:Nat->List Nat}(h:rR u H<|g.map (·.2.1)):∀x∈g,Gg u x.2.1:=λx hx=>h.ok _<|zzq.2 ⟨x,hx,rfl⟩
section
variable [Inhabited Bs]{w w':nL}{hp p I i E J h f A n o k gc:Nat}{c:bL}{l:au}{d:aj}{so:AW}{v:Value}{b O:Bool}{m:cC}{g:List cC}
theorem JA.iz(a:JA w hp p o (cx I E J w) v gc b O m g)(e:mM w B0 hp p I i E J h f A n c l d):zH w hp p I i E J h f A n c l d o v gc b O m g:=⟨e,a.mem,λx hx k j q=>a.free x hx k j<|cQ.2<|.inr<|.inr<|by simp[q]⟩
theorem zH.ja(a:zH w hp p I i E J h f A n c l d o v gc b O m g):JA w hp p o (cx I E J w) v gc b O m g:=⟨a.mem,a.free⟩
abbrev aP.told(R:aP):aP:={ R with res:=[],out:=[] }
theorem JS(j:JA w hp p o so v gc b O m g)(a:rY w hp p h so k (g.map (·.2.1)) m.2.1 gc b O)(t:k<=10000):
  Calls prog 71 #[gx o] w λe w'=>e=.returned (.bool true)/\∃n S,JA w' hp p o n v gc b O (m.1,m.2.1.told,S) (mO m m.2.1.told S g)/\rY w' hp p h n k ((mO m m.2.1.told S g).map (·.2.1)) m.2.1.told gc b O/\iw w w':=by
 obtain⟨I,i,E,J,f,c,l,d,H,M,m0,rfl,q,a⟩:=a;have r:=a.jd.res;have s:=a.jd.out;apply(N_ hp p I i E J h f (mC k) (nC k M m0) o m.1 c l d v gc b O g m.2.2 m.2.1 w (j.iz q) a.jd.rel dp dp).mono;rintro e w' ⟨he,S,hJ,hF⟩;exact⟨he,cx I E J w',S,hJ.ja,⟨I,i,E,J,f,_,l,d,H,M,m0,rfl,hJ.host,a.asked.alike<|j.alike rfl a.jd.asked.rel.RL a.qs.each⟩,hF⟩
theorem yX{x:cC}{j:List aP}{sk' hu':Bool}{gc' m:Nat}(a:rY w hp p h so k j x.2.1 gc b O)(s:w.heap[o]?=some (FZ hp m v gc' sk' hu'))(g:gh w x.1 x.2.2 x.2.1)(z:k<=10000):
  Calls prog 23 #[gx o,gx x.1] w λe w'=>e=.returned (.bool true)/\Fr [] w w':=by
 obtain⟨I,i,E,J,f,c,l,d,H,M,m0,rfl,n,a⟩:=a;have t:=a.jd.rel.len;have u:=a.jd.rK;have y:=a.jd.rel.next;apply(Ex hp p I i E J h f (mC k) (nC k M m0) o m x.1 gc' c l d v sk' hu' x.2.2 x.2.1 w n s g dp dp).mono;rintro e w' ⟨r,g,he,q,rfl⟩;rw[g.2 a.jd.rel.looks]at he;exact⟨he,(fU w).dE q⟩
def COs(w:nL)(hp p h f n mk:Nat)(ss:List Sg)(s:qE)(w':nL):Prop :=
 ∃I i E J x l d,(En x s/\x.res=[]/\x.out=[])/\mM w' B0 hp p I i E J h f l.recs.length (n+1) { x with next:=x.aH } l d/\d.down=false/\kH l d mk ss []/\kJ d.ak mk ss/\kI hp p none (cx I E J w') w w'
theorem EJ{N mk:Nat}{ss:List Sg}{F:aG}{s:qE}(b:ug w B0 3 hp p h f (dP F) n)(P:Holds (λa s=>a=mk/\s=ss) F)(g:mN mk F)(L:ny kK kL mk (chunks ss).flatten s)(j:az mk ss<=N)(B:3<=(B0:Nat))(o:B0<=hp)(k:Gl w)(hN:N+1<=n)(hn:n+(N-mk)+10<=1000000000):
  Calls prog 11 #[gx hp,kS (-1) (-1) 0 0] w λe w'=>e=.returned (.int .i64 0)/\COs w hp p h f n mk ss s w':=by
 refine(yO (cs:=[s]) (M:=mk) (m0:=mk) (N:=N) (c:=kL) (so:=none) (d:=dP F) (Q:=λa s=>a=mk/\s=ss) (.inr ⟨rfl,b⟩) (lr P) (DF.dP g) rfl (λa q m=>?_) (zzc _) (by decide) B o k hN hn).mono ?_
 .obtain⟨rfl,rfl⟩:=m;exact⟨⟨s,dv,L⟩,zzc _,j⟩
 .rintro e w' ⟨he,_,mk',gj,⟨rfl,rfl⟩,_,⟨_,I,i,E,J,x,l,d,R,hR,a1,a2,a3,a4,a5,a6,a7⟩|⟨h9,_⟩⟩
  .simp at hR;subst hR;refine⟨he,I,i,E,J,x,l,d,a1,?_,a3,a4,a5,a7⟩;rw[Nat.sub_self]at a2;exact a2
  .omega
end
def aP.fw(R:aP)(t:Nat)(zs:List Int):aP:=if jL 0 zs then R.iu t (zs.map Int.toNat) else R
theorem EI(xs:List Nat):(xs.map λx:Nat=>(x:Int)).map Int.toNat=xs:=by rw[List.map_map];exact List.map_id' xs
theorem QZ [Inhabited Bs](p t:Nat)(z v:Int)(S:List Nat)(R:aP)(c:bL)(w:nL)(h:gh w p S R)(g:fJ c R)(D:R.out.length<=1048000)(O:R.res.length<=1048000):
  Calls prog 82 #[gx p,.int .u64 (t:Int),.int .i64 z,.int .i64 v] w λe w'=>e=.returned (.tuple #[])/\∃a,gh w' p a (R.aZ t z v)/\fo S a w w':=by
 have hn:R.ai.length<=1048576:=by have:=g.len;omega
 by_cases y:∃x,aO R.ai t=some x/\x.st=5/\2<=v/\v<=4
 .obtain⟨x,hx,h5,h2,h4⟩:=y;obtain⟨n,rfl⟩:∃n:Nat,v=(n:Int):=⟨v.toNat,dp⟩;have⟨i,U,b,d⟩:=fg hx;have e:R.aZ t z (n:Int)=R.jV i x z n t:=by grind[aP.aZ]
  rw[e];have Z:=(g.ok x (bh hx).1).1;exact QY p t i z n ⟨dp,dp⟩ S R x w h hn U b h5 (Z.ne h5) Z.up.len D O
 .have e:R.aZ t z v=R:=by
   unfold aP.aZ;cases hx:aO R.ai t with
   |none=>rw[jF hx]
   |some x=>grind[fg]
  rw[e];refine(VL p t z v S R w h hn λx hx=>?_).mono ?_
  .grind
  .rintro e w' ⟨rfl,q,rfl⟩;exact⟨rfl,S,h.Ws ((fU w).dE q) dv,fo.of<|(fU w).dE q⟩
theorem JQ [Inhabited Bs](p t:Nat)(o:Option Addr)(b:Nat)(zs:List Int)(S:List Nat)(R:aP)(c:bL)(w:nL)(h:gh w p S R)(g:fJ c R)(hlen:zs.length<=1048576)(z:yV w o zs)(D:R.out.length<=1048000):
  Calls prog 75 #[gx p,.int .u64 (t:Int),.slice o zs.length b] w λe w'=>e=.returned (.int .i64 (R.gD t zs:Int))/\∃f,gh w' p f (R.fw t zs)/\fo S f w w':=by
 have hn:R.ai.length<=1048576:=by have:=g.len;omega
 by_cases E:R.gD t zs=0
 .cases hx:aO R.ai t with
  |none=>grind[aP.gD]
  |some x=>
   have d:x.st=4/\jL 0 zs=true:=by grind[aP.gD,jL]
   obtain⟨xs,rfl,l⟩:=xe d.2;have⟨i,U,a,m⟩:=fg hx;have Z:=(g.ok x (bh hx).1).1;have e:R.fw t (xs.map λx:Nat=>(x:Int))=R.iu t xs:=by grind[aP.fw,EI]
   rw[e,E,zzn];exact JP p t i o b xs l S R x w h hn U a d.1 (Z.act d.1) z D
 .have e:R.fw t zs=R:=by
   unfold aP.fw;cases hb:jL 0 zs with
   |false=>rfl
   |true=>grind[aP.iu,aO,jF,fg,aP.gD]
  rw[e];have⟨j,r,v,ps,a,k⟩:=h;apply(MD p t o b zs j r v ps R w a hn hlen z E).mono;rintro e w' ⟨rfl,q,rfl⟩;exact⟨rfl,S,⟨j,r,v,ps,a.fr<|(fU w).dE q,k⟩,fo.of<|(fU w).dE q⟩
theorem yV.src [Inhabited Bs]{o:Option Addr}{zs:List Int}(h:yV w o zs)(k:zs=[]->(o=none/\p=0)\/∃d:Addr,o=some d):qX w (.slice o zs.length p) zs.length (N2 zs):=by
 cases zs with
 |nil=>
  rcases k rfl with⟨rfl,rfl⟩|⟨d,rfl⟩
  .exact .inr ⟨rfl,rfl,rfl⟩
  .exact .inl ⟨_,_,rfl,λj u a=>by simp[N2]at a⟩
 |cons z r=>
  obtain⟨_,g,m,rfl,_,_⟩:=h 0 z rfl;refine .inl ⟨hP g m,p,rfl,λj u a=>?_⟩;unfold N2 at a;rw[zzy]at a
  cases f:(z::r)[j]? with
  |none=>grind
  |some y=>
   rw[f]at a;cases a;have⟨_,b,s,e,_,l⟩:=h j y f;simp only[Option.some.injEq,Addr.mk.injEq,and_true]at e;rw[e.1,e.2];have i:((hP b s):Addr).add j=(hP b (s+j)):=by
    by_cases c:j=0
    .subst c;simp[Addr.add]
    .simp[Addr.add,c]
   rw[i];exact l
def VN(E:List aP)(R:aP)(t:Nat)(z v:Int)(gc:Nat)(J I:Bool)(x:Nat)(o:Oc):Prop :=
 if R.dZ t then (if R.counts t z v then x=9\/x=10 else x=0)/\o=.on E R gc J I
 else if R.stat t=5/\(R.aZ t z v).stat t=6 then Tw [R.aZ t z v] (R.aZ t z v) gc (if I then E else E++[R.aZ t z v]) (R.cR t) gc J I x o/\(R.cR t).ds=R.ds/\Gg R.next (R.cR t)/\Gg R.next (R.aZ t z v)
 else x=0/\o=.on E (R.aZ t z v) gc J I
section
variable [Inhabited Bs]{w w':nL}{hp p O k gc:Nat}{so:AW}{E:List aP}{R:aP}{J I:Bool}
theorem aet{t:Nat}{a b k4:Int}(z v c3:Int)(ab:rY w hp p O so k E R gc J I)(g:ZB w hp k t J a b k4):
  Calls prog 80 #[gx hp,.int .u64 (t:Int),.int .i64 z,.int .i64 v,kS a b c3 k4] w λe w'=>∃(_:Nat) (x:Nat) (o:Oc) (iH:AW),VN E R t z v gc J I x o/\e=.returned (.int .i64 (x:Int))/\ku w' hp p O iH (k+1) o/\kI hp p so iH w w':=by
 apply JM _ 135 [.int .u64 (t:Int),.int .i64 z,.int .i64 v] (λ_ y=>y) (.inr ⟨rfl,.inr<|.inr<|.inr ⟨rfl,rfl,t,z,v,rfl⟩⟩) a b c3 k4 (λ_=>VN E R t z v gc J I) ab g.kk g.b3 g.iN g.k1 g.k2 g.gl;intro j s i G U c l d H M m0 A h BL r dK;have hlen:=Cu h.jd.rel.parts t z v;have D:=g.t;have e1:=pw k;have e2:=px k M m0;have e3:=oR g.kk;have cf:=h.jd.rel.status t;have none_:∀(e:Ending) (w2:nL),R.aZ t z v=R->R.counts t z v=false->e=.returned .nilIface/\Fr [] A w2->∃(u x:Nat) (o:Oc) (s':bL) (l':au) (d':aj) (m' n':Nat),VN E R t z v gc J I x o/\JZ (k+1) m0 o s' l' d' m' n'/\e=.returned (bB x)/\CL w2 B0 j s i m' G p O U n' s' l' d'/\jJ j i G p A w2:=by
  rintro e w2 N L ⟨rfl,bH⟩;have⟨P,Y⟩:=r.new bH;refine⟨0,0,.on E R gc J I,c,l,d.aJ a b,mC k,nC k M m0,?_,h.stays.z a b dp dp,rfl,P,Y⟩;unfold VN;rw[N,L,mE<|show ¬(R.stat t=5/\R.stat t=6) by omega];split
  .grind
  .grind
 by_cases hv:v=2\/v=3\/v=4
 .obtain⟨f,rfl⟩:∃f:Nat,v=(f:Int):=⟨v.toNat,dp⟩;have a8:f=2\/f=3\/f=4:=dp
  by_cases V:partAt (c.tx t) z=1
  .obtain⟨x,hx,h5,kk,q,rfl,VC,LK,hq0⟩:=h.jd.rel.ad_ V;have⟨hT,lJ⟩:=h.jd.rel.ib hx;have ae:(c.tx t).state=5:=by grind
   have Z:(c.tx t).parts.getD kk 0=1:=by grind[partAt]
   have rW:R.stat t=5:=by grind[aP.stat]
   have X:R.dZ t=x.aS:=by grind[aP.dZ]
   by_cases C:(c.tx t).aS=0
   .have hdx:x.aS=false:=Bool.eq_false_iff.2 λe=>hT.Ck.1.2 e C
    rw[hdx]at X;have⟨aa,cw,cn,cy⟩:=h.jd.rel.aZ hx h5 hdx LK hq0 a8;have nB:∀{c':bL},fJ c' (R.aZ t (kk:Int) (f:Int))->c'.next=c.next->c'.aH=c.aH->c'.bw=c.bw->Jd (k+1) c' (R.aZ t (kk:Int) (f:Int)):=λhr a1 a2 a3=>h.jd.step hr a1 a2 a3 hlen.2.2 hlen.1 hlen.2.1
    have a7:(R.aZ t (kk:Int) (f:Int)).stat t≠6->VN E R t (kk:Int) (f:Int) gc J I 0 (.on E (R.aZ t (kk:Int) (f:Int)) gc J I):=λad=>by
     unfold VN;rw[X,mE<|show ¬(_/\_)from λh9=>ad h9.2];exact⟨rfl,rfl⟩
    by_cases K:f=3
    .refine(XT B0 j s i (mC k) t kk f K VC c A r.co D C Z dp).mono ?_;rintro e w2 ⟨rfl,iy,bH⟩;have⟨P,Y⟩:=r.fL iy bH;have⟨Q,S⟩:=aa K;exact⟨0,0,_,_,l,d.aJ a b,mC k+11,nC k M m0,a7<|by unfold aP.stat;rw[S];decide,dH.z (h.sm (nB Q rfl rfl rfl) (Sm.del rfl dp rfl rfl) hlen.2.2) a b dp dp,rfl,P,Y⟩
    .have VO:f=2\/f=4:=dp;cases B:((c.tx t).parts.set kk f).any nk with
     |true=>
      apply(PJ B0 j s i (mC k) t kk f VO VC c A r.co D C Z B dp).mono;rintro e w2 ⟨rfl,iy,bH⟩;have⟨P,Y⟩:=r.fL iy bH;have⟨Q,S⟩:=cw K B;exact⟨0,0,_,_,l,d.aJ a b,mC k+1,nC k M m0,a7<|by unfold aP.stat;rw[S];decide,dH.z (h.sm (nB Q rfl rfl rfl) (Sm.put rfl lJ (.inr ⟨by show(c.tx t).state≠6;omega,dp⟩) rfl rfl) hlen.2.2) a b dp dp,rfl,P,Y⟩
     |false=>
      have bZ:fQ.Ok {c.tx t with parts:=(c.tx t).parts.set kk f}:=yn (r.co.GA t) (by omega);cases F:((c.tx t).parts.set kk f).any fG with
      |false=>
       refine(D0 B0 j s i (mC k) t kk f VO VC c A r.co D C Z B .nilIface (λw2=>CL w2 B0 j s i (mC k+10) G p O U (nC k M m0) {c with aD:=dU c.aD t,res:=c.res++[(t,5)]} l (d.aJ a b)/\jJ j i G p A w2) λW hW=>?_).mono ?_
       .obtain⟨hsW,hxW⟩:=r.new hW;apply(Fl B0 j s i (mC k) t c _ bZ C F W hsW.co D dp).mono;rintro e w2 ⟨rfl,iy,bH⟩;have⟨P,Y⟩:=hsW.fL iy bH;exact⟨rfl,P,hxW.trans Y⟩
       .rintro e w2 ⟨rfl,P,Y⟩;have⟨Q,S⟩:=cn K B F;exact⟨0,0,_,_,l,d.aJ a b,mC k+10,nC k M m0,a7<|by unfold aP.stat;rw[S];decide,dH.z (h.sm (nB Q rfl rfl rfl) (Sm.del rfl dp rfl rfl) hlen.2.2) a b dp dp,rfl,P,Y⟩
      |true=>
       have⟨pay,Gi⟩:=gb <|str (be 8 t++bV fG ((c.tx t).parts.set kk f));have a':∀{x o},Tw [R.aZ t (kk:Int) (f:Int)] (R.aZ t (kk:Int) (f:Int)) gc (if I then E else E++[R.aZ t (kk:Int) (f:Int)]) (R.cR t) gc J I x o->VN E R t (kk:Int) (f:Int) gc J I x o:=λh9=>by
        unfold VN;rw[X,oo<|show R.stat t=5/\_ from ⟨rW,by unfold aP.stat;rw[(cy K B F).2];rfl⟩];have Wp:=h.jd.rel.cR hx h5<|.inl rfl;exact⟨h9,(Sm.put (c':=c.cR t 9) (T:={c.tx t with aS:=9}) rfl lJ (.inl ⟨rfl,rfl⟩) rfl rfl).ds h.jd.rel Wp,rz (R:=R) t▸Wp.RL,hlen.2.2▸(cy K B F).1.RL⟩
       refine(D0 B0 j s i (mC k) t kk f VO VC c A r.co D C Z B (bB (l.keep (d.aJ a b) 2 pay).2.2) (λw2=>CL w2 B0 j s i (mC k+11) G p O U (nC k M m0+3) (c.JL t {c.tx t with parts:=(c.tx t).parts.set kk f} (l.keep (d.aJ a b) 2 pay).2.2) (l.keep (d.aJ a b) 2 pay).1 (l.keep (d.aJ a b) 2 pay).2.1/\jJ j i G p A w2) λW hW=>?_).mono ?_
       .obtain⟨hsW,hxW⟩:=r.new hW;apply(QV B0 j s i (mC k) G p O U (nC k M m0) t c l (d.aJ a b) _ bZ C F W hsW D dp dp (by have:=g.b3;omega) h.segs<|(hxW.kO r).p_ (by have:=g.b3;omega) dK).mono;rintro e w2 ⟨rfl,P,Y⟩;rw[Gi];exact⟨rfl,P,hxW.trans Y⟩
       .rintro e w2 ⟨rfl,P,Y⟩;rcases h.fw g.sk g.a1 g.b1 hx h5 hdx LK hq0 VO B F (.inl rfl) g.kk Gi rfl with⟨N,L,q3,q4⟩|⟨N,L,q3⟩
        .rw[N]at P ⊢;exact⟨0,0,_,_,_,_,mC k+11,nC k M m0+3,a'<|.inl ⟨rfl,L,rfl⟩,q4.zz q3 dp dp,rfl,P,Y⟩
        .have hc:(l.keep (d.aJ a b) 2 pay).2.2=9\/(l.keep (d.aJ a b) 2 pay).2.2=10:=by rcases q3 with⟨e,_⟩|⟨e,_⟩<;>omega
         rcases h.fw g.sk g.a1 g.b1 hx h5 hdx LK hq0 VO B F hc g.kk Gi rfl with⟨q4,_⟩|⟨_,_,q5⟩
         .exact absurd q4 L
         .obtain⟨o,z1,z2⟩:=q5.z (m:=mC k+11) (n:=nC k M m0+3) (by omega) (by omega);have eb:c.JL t {c.tx t with parts:=(c.tx t).parts.set kk f} (l.keep (d.aJ a b) 2 pay).2.2=c.cR t (l.keep (d.aJ a b) 2 pay).2.2:=by unfold bL.JL;rw[mE L]
          rw[eb]at P;exact⟨0,_,o,_,_,_,_,_,a'<|.inr ⟨N,z1⟩,z2,rfl,P,Y⟩
   .refine(LV B0 j s i (mC k) t kk f a8 VC c A r.co D Z C).mono ?_;rintro e w2 ⟨rfl,bH⟩;have⟨P,Y⟩:=r.new bH;refine⟨0,(c.tx t).aS,.on E R gc J I,c,l,d.aJ a b,mC k,nC k M m0,?_,h.stays.z a b dp dp,rfl,P,Y⟩;unfold VN;rw[X,hT.Ck.1.1 C,uz hx,Jy LK hq0];have:=hT.Ck.2;refine⟨?_,rfl⟩;rw[oo ef];omega
  .refine(Fm B0 j s i (mC k) t f z a8 c A r.co D V).mono λe w2=>none_ e w2 (h.jd.rel.Fm V) ?_
   cases hx:aO R.ai t with
   |none=>exact vY<|jF hx
   |some x=>rw[uz hx,Jw (h.jd.rel.ok x (bh hx).1).1 (h.jd.rel.ib hx).1.ps V,Bool.and_false]
 .refine(Lx B0 j s i (mC k) t z v dp dp dp c A r.co D).mono λe w2=>none_ e w2 (aP.Lx dp dp dp) ?_
  cases hx:aO R.ai t with
  |none=>exact vY<|jF hx
  |some x=>grind[uz]
theorem Y7{t:Nat}{a b K:Int}(c3:Int)(v:Value)(zs:List Int)(a1:rY w hp p O so k E R gc J I)(u:ZB w hp k t J a b K)(hlen:zs.length<=16384)(a7:∀z∈zs,XV z)(sW:∀W,Below B0 w W->qX W v zs.length (N2 zs)):
  Calls prog 74 #[gx hp,.int .u64 (t:Int),v,kS a b c3 K] w λe w'=>∃Y,e=.returned (.int .i64 (R.gD t zs:Int))/\rY w' hp p O Y (k+1) E (R.fw t zs) gc J I/\kI hp p so Y w w'/\(R.fw t zs).ds=R.ds:=by
 obtain⟨i,n,g,L,P,c,l,d,H,M,m0,rfl,V,o⟩:=a1;have BL:=qx (Nat.le_of_lt u.kk) o.gone.le.1 o.gone.le.2;have A:=o.jd.rel.status t;have C:=u.t;have e1:=pw k;have F:=px k M m0;have e3:=oR u.kk;refine(QF B0 hp p i n g L O P (mC k) (nC k M m0) t v zs c l d a b c3 K w (λx N m'=>x=R.gD t zs/\dH (k+1) N l d E (R.fw t zs) gc J I H M m0/\m'<=mC (k+1)/\(R.fw t zs).ds=R.ds) V (by have:=u.b3;omega) u.gl.1 o.up hlen a7 (λW hW=>sW W (hW.kO V.2).below) λw2 ao Q h hx=>?_).mono ?_
 .cases q:aO R.ai t with
  |none=>
   have f:R.gD t zs=7:=by grind[aP.gD]
   have m:R.fw t zs=R:=by grind[aP.fw,aP.iu,jF]
   rw[q]at A;apply(Fq B0 i n g (mC k) t _ c w2 h C A).mono;rintro e r ⟨rfl,rfl⟩;rw[f,m];exact⟨7,c,mC k,⟨rfl,o.stays,dp,rfl⟩,rfl,h,(fU r).r h.jS.1 dv dv⟩
  |some x=>
   rw[q]at A;simp only[Option.map_some,Option.getD_some]at A;have bZ:=(o.jd.rel.ok x (bh q).1).1;have f:R.gD t zs=if x.st=4 then (if jL 0 zs then 0 else 6)else 4:=by grind[aP.gD]
   by_cases B:x.st=4
   .rw[oo B]at f;cases hb:jL 0 zs with
    |false=>
     rw[hb]at f;have m:R.fw t zs=R:=by grind[aP.fw]
     apply(C9 B0 i n g (mC k) t Q ao zs c w2 h C dp hx dp hb).mono;rintro e r ⟨rfl,rfl⟩;rw[f,m];exact⟨6,c,mC k,⟨rfl,o.stays,dp,rfl⟩,rfl,h,(fU r).r h.jS.1 dv dv⟩
    |true=>
     rw[hb]at f;obtain⟨xs,rfl,s⟩:=xe hb;have m:R.fw t (xs.map λx:Nat=>(x:Int))=R.iu t xs:=by grind[aP.fw,EI]
     have X:=Mx (R:=R) t s.len;have⟨D,oF⟩:∃D,xs[0]?=some D:=⟨_,zzg<|zzE.2 s.ne⟩;have S:∀(j y:Nat),xs[j]?=some y->(xs.map λx:Nat=>(x:Int))[j]?=some (y:Int):=λj y G=>by rw[zzy,G];rfl
     obtain⟨_,U,rfl,_⟩:=hx 0 (D:Int)<|S 0 D oF
     have ZY:vB w2 U xs:=λj y G=>by
      have⟨_,g2,F,dM⟩:=hx j (y:Int)<|S j y G;simp only[Option.some.injEq,Addr.mk.injEq,and_true]at F;rw[F];exact dM
     rw[zzn];apply(Ix B0 i n g (mC k) t U Q xs c w2 h C dp s ZY dp).mono;rintro e r ⟨rfl,mH,fu⟩;rw[f,m];have Z:=(o.jd.rel.ib q).2;exact⟨0,_,mC k+10,⟨rfl,o.sm (o.jd.step (o.jd.rel.iu q B s) rfl rfl rfl X.2.2 X.1<|by rw[X.2.1];omega) (Sm.put rfl Z (.inr ⟨by show(5:Nat)≠6;decide,dp⟩) rfl rfl) X.2.2,dp,(Sm.put (c':=c.asked t xs) (T:=⟨5,cO xs 1,c.bw,0⟩) rfl Z (.inr ⟨by show(5:Nat)≠6;decide,dp⟩) rfl rfl).ds o.jd.rel<|o.jd.rel.iu q B s⟩,rfl,mH,fu⟩
   .rw[mE B]at f;have m:R.fw t zs=R:=by grind[aP.fw,aP.iu,fg]
    have ni:=bZ.st;apply(C8 B0 i n g (mC k) t _ c w2 h C dp dp).mono;rintro e r ⟨rfl,rfl⟩;rw[f,m];exact⟨4,c,mC k,⟨rfl,o.stays,dp,rfl⟩,rfl,h,(fU r).r h.jS.1 dv dv⟩
 .rintro e w' ⟨x,N,m',⟨rfl,qy,Rg,P3⟩,rfl,hH,hF⟩;exact⟨cx i g L w',rfl,⟨i,n,g,L,P,N,l,_,H,M,m0,rfl,⟨hH.1,hH.2.fW dp dp Rg⟩,qy.aJ (-1)<|-1⟩,hF.vR,P3⟩
end
theorem Sm.bw{b:bL}:∀(l:List<|Nat×fQ) {c:bL},(∀x∈l,x.2.state=5->jZ b.aD x.1=none)->Sm b c->Sm b (l.foldl bL.aR c)
 |[],_,_,h=>h
 |x::l,c,hl,h=>by
  apply Sm.bw l (λy f=>hl y<|Ds _ f);unfold bL.aR;split
  .split
   .rename_i _ h5;split
    .refine⟨λt=>?_,λt T a d=>?_,h.lim,h.rK⟩
     .show jZ (dU c.aD x.1) t=_;rw[Cf];split
      .rename_i e;rw[e,hl x dv h5]
      .exact h.cm t
     .have a:bJ (dU c.aD x.1) t=some T:=a;rw[js]at a;split at a
      .cases a
      .exact h.op t T a d
    .exact⟨h.cm,h.op,h.lim,h.rK⟩
   .split
    .exact⟨h.cm,h.op,h.lim,h.rK⟩
    .exact h
  .exact h
theorem Sm.tick(c:bL)(h:fM c.aD):Sm c c.tick:=by
 refine Sm.bw _ (λx hx b=>?_) ⟨λ_=>rfl,λ_ T h a=>⟨T,h,a⟩,rfl,rfl⟩;rw[Od<|jR h<|show(x.1,x.2)∈c.aD from ui h hx,mE dp]
structure Tk(k r:Nat)(c:bL)(R:aP)(c1:bL)(R1:aP):Prop where
 sm:Sm c c1
 nx:R1.next=R.next
 rel:fJ c1 R1
 Wt:c1.bw<=21*k+r
 out:R1.out.length<=8*k
 res:R1.res.length<=k
section
variable{k r:Nat}{c c1:bL}{R R1:aP}
theorem Tk.first(h:Jd k c R)(r:Nat):Tk k r c R c R:=⟨Sm.refl c,rfl,h.rel,by have:=h.Wt;omega,h.out,h.res⟩
theorem Tk.jd(h:Tk k r c R c1 R1)(g:r<=21)(j:Jd k c R):Jd (k+1) c1 R1:=by
 have a:=h.sm.lim;have b:=h.sm.rK;have d:=j.lim;have e:=j.rK;have f:=h.nx;exact⟨h.rel,dp,dp,by have:=h.Wt;omega,by have:=h.out;omega,by have:=h.res;omega⟩
theorem Tk.ids(h:Tk k r c R c1 R1)(hn:R.next<=1000000):∀x∈c1.aD,x.2.since<=c1.bw/\x.1<2^64:=λx hx=>by
 refine⟨h.rel.sin x hx,?_⟩;have:=jR h.rel.o1 hx;cases d:aO R1.ai x.1 with
 |none=>rw[h.rel.non _ d]at this;cases this
 |some y=>
  have⟨m,e⟩:=bh d;have a:=(h.rel.ok y m).2;have b:=h.nx;omega
theorem Tk.len(h:Tk k r c R c1 R1):R1.tick.out.length<=8*k+96/\R1.tick.res.length<=k+12/\R1.tick.next=R1.next:=by
 have l:=EF (R1.ai.map (·.id)) R1 h.rel.parts;rw[zzn]at l;have s:=h.rel.len;have a:=h.out;have b:=h.res;unfold aP.tick;exact⟨dp,dp,l.2.2⟩
theorem Tk.round(h:Tk k r c R c1 R1):Tk k (r+1) c R {c1.tick with res:=[],out:=[]} R1.tick.told:=by
 have a:=BW (wy c1.aD<|jO c1.aD) {c1 with bw:=c1.bw+1};have t:=Sm.tick c1 h.rel.o1;refine⟨h.sm.trans ⟨t.cm,t.op,t.lim,t.rK⟩,h.len.2.2.trans h.nx,h.rel.tick.asked,?_,zzs _,zzs _⟩;show c1.tick.bw<=_;unfold bL.tick;rw[a];have:=h.Wt;simp only;omega
end
section
variable [Inhabited Bs]{a w w':nL}{hp p h O n J j k gc:Nat}{so:AW}{d:aj}{I:Value}{f b:Bool}{m c:cC}{E:List cC}{q:Array Value}{R R' i:aP}{g:List Nat}{o:Oc}{x:Nat}
theorem Gm.from(c:Gm w w' hp p h J k)(hf:iw a w):Gm a w' hp p h J k:=by
 have⟨so,I,gc,f,b,m,E,o,d,e,g⟩:=c;exact⟨so,I,gc,f,b,m,E,o,d,hf.trans e,g⟩
theorem Q8(h:nI w hp J I gc f b m E):mO m m.2.1 m.2.2 E=E:=by
 unfold mO;refine(List.map_congr_left λx hx=>?_).trans<|List.map_id _;by_cases e:x.1=m.1
 .rw[oo e];exact xF.eq ((zzA.1 h.apart).1 x hx) (h.each m dv).root.1 (h.each x<|by simp[hx]).root.1 e.symm
 .grind
theorem JN.aag(r:JN a w hp p J j so I gc f b m E c q)(i:rY w hp p h so k (E.map (·.2.1)) R' gc f b)(x:R'.ds=m.2.1.ds)(hf:fo m.2.2 g w w')(z:gh w' m.1 g R')(B:3<=(B0:Nat))(U:gc<=100*k):Gm a w' hp p h J k:=by
 obtain⟨O,d,n,v⟩:=i.mg;have N:=r.VP v hf z B;have s:=ku.GL (o:=.on _ _ _ _ _) i r.ja.ref (r.ja.free m dv) hf;refine⟨so,I,gc,f,b,_,_,.on _ _ _ _ _,N.ja,N.jf,?_,.inl rfl,U⟩;have⟨t,u,T,A,O,c,l,d,H,M,m0,e,y,i⟩:=s;exact⟨t,u,T,A,O,c,l,d,H,M,m0,e,y,i.alike<|r.ja.alike x i.jd.rel.RL i.qs.each⟩
theorem WrP.done(b:WrP a w hp p h J j k so gc m i q x)(F:i=m.2.1)(U:gc<=100*k):Gm a w hp p h J k:=by
 subst F;rcases b with⟨_,b⟩|⟨_,I,E,o,c,d,_,_,f,g⟩
 .exact b
 .exact⟨so,I,gc,true,true,m,E,o,c,d,f,g.imp id λe=>⟨e,rfl⟩,U⟩
theorem abS{I:Value}{E:List cC}(b:JA w hp p J so I gc true true m E)(r:iw a w)(i:ku w hp p h so k o)(s:o=.on (E.map (·.2.1)) R' gc true true\/o=.off (E.map (·.2.1)) R'.next gc)(j:R'.ds=m.2.1.ds)(q:Gg R'.next R')(hf:fo m.2.2 g w w')(u:gh w' m.1 g R')(U:gc<=100*k):Gm a w' hp p h J k:=by
 have⟨O,d,n,t⟩:=i.mg;have N:=b.fL t hf u;have f:=i.GL b.ref (b.free m dv) hf;have F:=r.trans<|hf.lfr b.ref;obtain rfl|rfl:=s
 .obtain⟨cp,gp,bT,lp,O,c,l,d,H,M,m0,e,hh,ho⟩:=f;exact⟨so,I,gc,true,true,_,_,.on _ _ _ _ _,N,F,⟨cp,gp,bT,lp,O,c,l,d,H,M,m0,e,hh,ho.alike<|b.alike j q ho.qs.each⟩,.inl rfl,U⟩
 .obtain⟨e,O,d,H,M,m0,hh,ho⟩:=f;exact⟨so,I,gc,true,true,_,_,.off _ _ _,N,F,⟨e,O,d,H,M,m0,hh,ho.alike<|b.alike j q ho.qs.each⟩,.inr ⟨rfl,rfl⟩,U⟩
end
theorem Zb(R:aP)(t:Nat)(z v:Int):(R.aZ t z v).ai.length<=R.ai.length:=by
 have d:∀i,(R.ai.take i++R.ai.drop (i+1)).length<=R.ai.length:=λi=>ef
 have e:∀i x t v,(R.jV i x z v t).ai.length<=R.ai.length:=λi x t v=>by
  unfold aP.jV;dsimp only;by_cases b:x.parts.any (jQ z)=false
  .grind
  rw[mE b];by_cases h:v=3
  .rw[oo h];show(((R.ai.set i _).take i++(R.ai.set i _).drop (i+1))).length<=_;rw[set_drop];exact d i
  rw[mE h];by_cases a:((x.parts.map<|cN z v).any rQ)=true
  .rw[oo a];show(R.ai.set i _).length<=_;simp
  rw[mE a];by_cases c:(x.parts.map<|cN z v).any uy=false<;>grind
 unfold aP.aZ;split<;>grind
section
variable [Inhabited Bs]{q w:nL}{hp p h g O k gc:Nat}{so:AW}{b:Value}{I E:Bool}{m c:cC}{a:List cC}{j:Array Value}{J:List aP}{R:aP}
theorem rY.succ(f:rY w hp p h so k J R gc I E)(i:k<10000):rY w hp p h so (k+1) J R gc I E:=by
 have⟨b,g,T,j,N,c,l,d,H,M,m0,e,a,o⟩:=f;have L:=qx (Nat.le_of_lt i) o.gone.le.1 o.gone.le.2;have m:=pw k;have n:=px k M m0;exact⟨b,g,T,j,N,c,l,d,H,M,m0,e,⟨a.1,a.2.fW dp dp dp⟩,o.stays⟩
theorem JN.call(v:JN q w hp p g O so b gc I E m a c j)(r:rY w hp p h so k J R gc I E)(B:3<=(B0:Nat))(t:B0<=hp){f:Nat}{args:Array Value}{T:Nat->Oc->Prop}
  (X:∀w',Gl w'->rY w' hp p h so k J R gc I E->Calls prog f args w' λe i=>∃(_:Nat) (x:Nat) (o:Oc) (H:AW),T x o/\e=.returned (.int .i64 (x:Int))/\ku i hp p h H (k+1) o/\kI hp p so H w' i) :
  ∀w',Fr [] w w'->Calls prog f args w' λe i=>∃(x:Nat) (o:Oc) (H:AW),e=.returned (.int .i64 (x:Int))/\T x o/\JN q i hp p g O H b gc I E m a c j/\ku i hp p h H (k+1) o:=λw' s=>by
 obtain⟨z,d,n,y⟩:=r.mg;have N:=v.new y s B t;have l:=ku.new (o:=.on _ _ _ _ _) r s;have⟨G,A,C,u⟩:=ku.mg l;apply(X w' N.gl l).mono;rintro e i ⟨_,x,o,H,hT,he,hA,hF⟩;exact⟨x,o,H,he,hT,N.host u hF B t,hA⟩
end
section
variable [Inhabited Bs](hp p h E k gc:Nat)(so:AW)(a:Value)(O J:Bool)(m:cC)(I:List cC)(w:nL)
theorem Q9(kd s B f1 f2 Z f4:Int)(eC x y:Nat)(aA sv:nS)(Y:Option Addr)(zs:List Int)(aI:JA w hp p E so a gc O J m I)(ho:rY w hp p h so k (I.map (·.2.1)) m.2.1 gc O J)(V:ZB w hp k eC O f1 f2 f4)(uU:gc<=100*k)(J5:-2^63<=B)(DB:B<=9223372036854775807)(ay:yV w Y zs)(bm:zs=[]->(Y=none/\y=0)\/∃ad:Addr,Y=some ad)(bl:x=zs.length)(bX:zs.length<=16384):
  Calls prog 25 #[gx E,Jp kd eC s B aA sv Y x y f1 f2 Z f4] w λe w'=>e=.returned (.bool true)/\Gm w w' hp p h E (k+1):=by
 obtain⟨nB,Du⟩:∃nB,nB=#[Value.int .i64 kd,.int .u64 (eC:Int),.int .i64 s,.int .i64 B,.string aA,.string sv,.slice Y x y,.int .i64 f1,.int .i64 f2,.int .i64 Z,.int .i64 f4]:=⟨_,rfl⟩;have⟨W,hW⟩:=gb <|w.alloc (qo kd eC s B aA sv Y x y f1 f2 Z f4);have dI:Fr [] w W:=by rw[hW];exact(fU w).alloc _
 have ni:W.heap[w.heap.size]?=some (.cells nB 40 (0,0)):=by rw[hW,Du];exact oz w _
 have⟨c8,d0,n0,hE⟩:=ho.mg;have A0:=aI.new hE dI;have O0:=ku.new (o:=.on _ _ _ _ _) ho dI;have L0:=iw.new dI aI.size;have qO:=V.kk;have C:=V.b3;have L:=V.iN;have⟨cj,GQ,P5⟩:∃c,Jd k c m.2.1/\I.length<=1048576:=by
  have⟨_,_,_,_,_,c,_,_,_,_,_,_,_,ho⟩:=ho;exact⟨c,ho.jd,by have:=ho.EG;rw[zzn]at this;omega⟩
 have hlen:=GQ.rel.len;have c0:=GQ.rK;have SD:=GQ.rel.next;have c7:=GQ.res;have Ps:=GQ.out;have HD:=ah (show ∀x∈m.2.1.ai,x.parts.length<=1000 from λx hx=>by have:=GQ.rel.parts x hx;omega);have jY:=oq m.1 m.2.2 m.2.1 W A0.ref dp HD.out dp dp;have r:=af A0.mem.kb 1;simp at r;rw[hW]at r;have ab:=ah (zzb bl (zzb (show ∀z∈zs,XV z from λz bY=>by
  have⟨j,hj⟩:=zzB.1 bY;exact(ay j z hj).1) (show ∀W',Below B0 w W'->yV W' Y zs/\qX W' (.slice Y zs.length y) zs.length (N2 zs)from λW' QA=>⟨ay.below QA,(ay.below QA).src bm⟩)))
 have GM:=ah<|zzb A0<|zzb O0<|zzb L0<|zzb (L0.gl C V.gl) ni;have HJ:=ah GQ;have HZ:=ah V;have GR:=ah Du;clear aI ho ni A0 O0 L0 dI V hE GQ Du ay bm bl
 go_enter func25,ntmps25
 go_wp2_with fail;rw[<-hW];obtain⟨b,k9⟩:∃b,b=w.heap.size:=⟨_,rfl⟩;rw[<-k9]at GM ⊢;clear hW k9 r;apply jY.mono;rintro e W1 ⟨np,S1,rfl,My,CR,cY⟩;clear jY;have⟨c9,d1,n1,b9⟩:=ku.mg GM.2.1;have N1:=GM.1.copy b9 GM.2.2.1 GM.2.2.2.1 GM.2.2.2.2 My CR cY C;have O1:=ku.new GM.2.1 cY;have r:=af N1.ja.mem.kb 1;have dT:=N1.st;rw[GR.out]at dT;have G:=af dT 1;simp at r G;have⟨RG,d2,n2,RH⟩:=ku.mg O1;have cf:∀q:Nat,Calls prog 67 #[.pointer<|some ⟨m.1,0,none⟩,.int .u64 (eC:Int)] (W1.drewN q) λe w'=>e=.returned (.int .i64 (m.2.1.stat eC:Int))/\∃q',w'=(W1.drewN q).drewN q':=λq=>by
  have⟨xv,rv,ov,ps,hi,_⟩:=(N1.new RH ((fU W1).dE q) C L).ja.ref;exact sN m.1 eC xv rv ov ps m.2.1 _ hi<|by rw[hi.len];omega
 have⟨st,aE⟩:=gb <|m.2.1.stat eC;rw[<-aE]at cf;have ax:=ah<|zzb N1<|zzb O1 aE;clear N1 O1 aE My cY CR b9 GM dT;go_wp2
 go_quiet (first|(go_at_call 67;refine Calls.quiet_of<|cf _))
 clear cf r G;have A:=ah<|zzb (ax.1.new RH ((fU W1).dE nq) C L)<|zzb (ku.new ax.2.1<|(fU W1).dE nq) ax.2.2;clear RH ax;generalize W1.drewN nq=W2 at A ⊢;have k0:=af A.1.ja.mem.kb 0;have r:=af A.1.ja.mem.kb 1;have VT:=aq A.1.ja.mem.kb 1;have eP:=A.1.st;rw[GR.out]at eP;have z0:=af eP 0;have G:=af eP 1;have z2:=af eP 2;have z3:=af eP 3;have z4:=af eP 4;have z5:=af eP 5;have z6:=af eP 6;have z7:=af eP 7;have z8:=af eP 8;have z9:=af eP 9;have CS:=af eP 10;simp at k0 r z0 G z2 z3 z4 z5 z6 z7 z8 z9 CS;clear eP;by_cases q2:kd=2
 .subst q2;have kN:=A.1.call A.2.1 C L λw' g o=>zCk Z o {HZ.out with gl:=g};go_wp2
  go_region_held3 (λw'=>w'.cell? ⟨E,0,none⟩=some (.pointer<|some ⟨hp,0,none⟩)/\w'.cell? ⟨b,7,none⟩=some (.int .i64 f1)/\w'.cell? ⟨b,8,none⟩=some (.int .i64 f2)/\w'.cell? ⟨b,9,none⟩=some (.int .i64 Z)/\w'.cell? ⟨b,10,none⟩=some (.int .i64 f4)) (simp[*])
   (first|(go_at_call 65;apply(kN _<|by first|exact(fU W2).drew|exact fU W2).mono;rintro e u ⟨x',o,U,rfl,VU,xT,Lq⟩;have f:=xT.st;rw[GR.out]at f;have a0:=af xT.ja.mem.kb 0; have a7:=af f 7;have a8:=af f 8;have a9:=af f 9;have Kg:=af f 10;simp at a0  a7 a8 a9 Kg;have v:=ah<|zzb xT<|zzb VU Lq;clear xT VU Lq f kN))
  clear k0 r VT z0 G z2 z3 z4 z5 z6 z7 z8 z9 CS a0 a7 a8 a9 Kg;have rG:=jwr hp p h E b k gc x' w u U a O J true m I (np,m.2.1,S1) nB m.2.1 o v.1 v.2.1 v.2.2 (by show m.2.1.ai.length<=_;omega) HD.out (by show m.2.1.res.length<=_;omega) (by show m.2.1.out.length<=_;omega) P5 C dp;go_wp2_with fail;apply rG.mono;clear rG;rintro e n ⟨rfl,S⟩;have F:=ah (S.done rfl dp);clear S;go_wp2;go_ret;exact⟨rfl,F.out⟩
 by_cases q3:kd=3
 .subst q3;have⟨cp,gp,bT,lp,bN,c,l,d,H,M,m0,Rv,hH,hO⟩:=A.2.1;subst Rv;have BL:=qx (Nat.le_of_lt qO) hO.gone.le.1 hO.gone.le.2;have J0:=A.1.ja.iz hH;have e0:=Q8 A.1.ja.mem;have ch:=hO.jd.rK;have ck:=hO.jd.rel.next;have e1:=pw k;have e2:=px k M m0;have e3:=oR qO;have HO:=ah<|zzb hO A.1.jf;have b5:=ah J0;have GC:=ah e0;have bF:=ah<|zzb A.1.ja hH;clear hH hO J0 e0;have bb:=Z4 B 20 W2 J5 DB du du;go_wp2_with fail;apply bb.mono;clear bb k0 r VT z0 G z2 z3 z4 z5 z6 z7 z8 z9 CS;rintro e u ⟨z,V,rfl,rfl⟩;have H0:Hid (∃m1 c1 S1 R1,m1<=mC k+120*(20-((z:Int)+1)).toNat/\zH u hp p cp gp bT lp h bN m1 (nC k M m0) c1 l d E a gc O J (m.1,R1,S1) (mO m R1 S1 I)/\Tk k (19-(z:Int)).toNat c m.2.1 c1 R1/\iw w u):=⟨mC k,c,m.2.2,m.2.1,dp,by rw[GC.out];exact b5.out,Tk.first HO.1.jd _,HO.2⟩;clear GC b5;go_wp2
  go_loopw [7] (λi wr=>∃j:Int,-1<=j/\j<=19/\i=.int .i64 j/\Hid (∃m1 c1 S1 R1,m1<=mC k+120*(20-(j+1)).toNat/\zH wr hp p cp gp bT lp h bN m1 (nC k M m0) c1 l d E a gc O J (m.1,R1,S1) (mO m R1 S1 I)/\Tk k (19-j).toNat c m.2.1 c1 R1/\iw w wr)) (λi _=>(intOf i+1).toNat)
  .exact⟨(z:Int),dp,dp,rfl,H0⟩
  .obtain⟨j,cm,cn,rfl,m1,c1,S9,R1,EY,a',hG,hL⟩:=hrel;have k0:=af a'.mem.kb 0;simp at k0;by_cases cl:0<=j
   .have hti:=abB B0 hp p cp gp bT lp h bN m1 (nC k M m0) c1 l d wr a'.host (by rw[hG.rel.Mo];exact hG.rel.len) (hG.ids dp) (by have:=hG.Wt;omega) dp;have H:=ah<|zzb a'<|zzb hG<|zzb hL EY;clear a' hG hL EY;go_wp2_with fail;apply hti.mono;rintro e w4 ⟨rfl,hH,S⟩;have K4:=H.1.cfr hH S;have L4:=H.2.2.1.trans<|iw.ee H.1.host S;have b1:=af K4.mem.kb 1;simp at b1;have DZ:=Q5 m.1 S9 R1 w4 K4.ref H.2.1.rel.oL H.2.1.rel.len H.2.1.rel.parts (λx hx h5=>by have:=((H.2.1.rel.ok x hx).1.vot h5).1;omega) (by have:=H.2.1.out;omega) (by have:=H.2.1.res;omega);have D:=ah<|zzb K4 L4;clear K4 L4 hH S hti k0;go_wp2_with fail;apply DZ.mono;rintro e n ⟨rfl,X,hR5,hk5⟩;have K5:=D.1.GL hk5 hR5;have L5:=D.2.trans<|hk5.lfr D.1.ref;have bR:=H.2.1.len;have an:=N_ hp p cp gp bT lp h bN _ (nC k M m0) E m.1 _ l d a gc O J _ X _ n K5 H.2.1.rel.tick dp dp;have b7:=ah<|zzb L5 H.2.1.round;clear DZ b1 K5 L5 hR5 hk5 bR;go_wp2_with fail;apply an.mono;clear an;rintro e w6 ⟨rfl,S6,K6,L6⟩;rw[tA,tA]at K6;have H6:Hid (∃m1 c1 S1 R1,m1<=mC k+120*(20-(j-1+1)).toNat/\zH w6 hp p cp gp bT lp h bN m1 (nC k M m0) c1 l d E a gc O J (m.1,R1,S1) (mO m R1 S1 I)/\Tk k (19-(j-1)).toNat c m.2.1 c1 R1/\iw w w6):=⟨m1+120,_,S6,_,by have:=H.2.2.2;omega,K6,(show(19-(j-1)).toNat=(19-j).toNat+1 by omega)▸b7.2,b7.1.trans L6⟩;clear K6 L6;go_wp2
    go_roundw;.exact⟨j-1,dp,dp,eR,H6⟩
    case measure=>simp[intOf];omega
   .have hjm:j=-1:=dp;have b':=hG.jd dp HO.1.jd;have F:Hid (Gm w wr hp p h E<|k+1):=⟨_,_,_,_,_,_,_,.on _ _ _ _ _,a'.ja,hL,⟨cp,gp,bT,lp,bN,c1,l,d,H,M,m0,rfl,⟨a'.host.1,a'.host.2.fW dp dp dp⟩,(HO.1.sm b' hG.sm hG.nx).alike<|bF.1.alike (hG.sm.ds HO.1.jd.rel hG.rel) hG.rel.RL λz V=>(HO.1.qs.each z V).mono<|by rw[hG.nx];exact zzc _⟩,.inl rfl,dp⟩;clear a' hG hL EY b';go_wp2;go_ret;exact⟨rfl,F.out⟩
 by_cases bo:kd=13
 .subst bo;have oV:=MI hp p h E k gc so a O J m I W2 13 s B f1 f2 Z f4 eC x y aA sv Y A.1.ja A.2.1 {HZ.out with gl:=A.1.gl} uU;go_wp2_with fail;apply oV.mono;clear oV;rintro e u ⟨rfl,S⟩;have F:=ah<|S.from A.1.jf;clear S;go_wp2;go_ret;exact⟨rfl,F.out⟩
 by_cases bp:kd=14
 .subst bp;have kN:∀w',Fr [] W2 w'->Calls prog 74 #[.pointer<|some ⟨hp,0,none⟩,.int .u64 (eC:Int),.slice Y x y,kS f1 f2 Z f4] w' λe u=>e=.returned (.int .i64 (m.2.1.gD eC zs:Int))/\∃U,JN w u hp p E b U a gc O J m I (np,m.2.1,S1) nB/\rY u hp p h U (k+1) (I.map (·.2.1)) (m.2.1.fw eC zs) gc O J/\(m.2.1.fw eC zs).ds=m.2.1.ds:=λw' K=>by
   have⟨RI,d3,n3,P⟩:=ku.mg A.2.1;have N:=A.1.new P K C L;have Q:=ku.new A.2.1 K;have⟨bH,d4,n4,VQ⟩:=ku.mg Q;rw[ab.1];apply(Y7 Z _ zs Q {HZ.out with gl:=N.gl} bX ab.2.1 λW' QA=>(ab.2.2 W'<|N.jf.below.trans QA).2).mono;rintro e u ⟨U,rfl,hO,hX,hd⟩;exact⟨rfl,U,N.host VQ hX C L,hO,hd⟩
  have⟨ae,aW⟩:=gb <|m.2.1.gD eC zs;rw[<-aW]at kN;have bA:=ah aW;clear aW;go_wp2;go_region_held3 (λw'=>w'.cell? ⟨E,0,none⟩=some (.pointer<|some ⟨hp,0,none⟩)/\w'.cell? ⟨b,1,none⟩=some (.int .u64 (eC:Int))/\w'.cell? ⟨b,6,none⟩=some (.slice Y x y)/\w'.cell? ⟨b,7,none⟩=some (.int .i64 f1)/\w'.cell? ⟨b,8,none⟩=some (.int .i64 f2)/\w'.cell? ⟨b,9,none⟩=some (.int .i64 Z)/\w'.cell? ⟨b,10,none⟩=some (.int .i64 f4)) (simp[*])
   (first|(go_at_call 74;apply(kN _<|by first|exact(fU W2).drew|exact fU W2).mono;rintro e u ⟨rfl,U,xT,VV,C2⟩;have f:=xT.st;rw[GR.out]at f;have a0:=af xT.ja.mem.kb 0;have a1:=af f 1;have a6:=af f 6;have a7:=af f 7;have a8:=af f 8;have a9:=af f 9;have Kg:=af f 10;simp at a0 a1 a6 a7 a8 a9 Kg;have v:=ah<|zzb xT<|zzb VV C2;clear xT VV C2 f kN))
  clear k0 r VT z0 G z2 z3 z4 z5 z6 z7 z8 z9 CS a0 a7 a8 a9 Kg;have r:=af v.1.ja.mem.kb 1;simp at r
  have mZ:∀w',Fr [] u w'->Calls prog 75 #[.pointer<|some ⟨m.1,0,none⟩,.int .u64 (eC:Int),.slice Y x y] w' λe n=>e=.returned (.int .i64 (ae:Int))/\Gm w n hp p h E (k+1)/\n.cell? ⟨E,1,none⟩=some (.pointer<|some ⟨m.1,0,none⟩)/\n.cell? ⟨b,1,none⟩=some (.int .u64 (eC:Int))/\n.cell? ⟨b,6,none⟩=some (.slice Y x y):=λw' K=>by
   have⟨RI,d3,n3,P⟩:=ku.mg (o:=.on _ _ _ _ _) v.2.1;have N:=v.1.new P K C L;have Q:=ku.new (o:=.on _ _ _ _ _) v.2.1 K;rw[ab.1];apply(JQ m.1 eC Y y zs m.2.2 m.2.1 cj w' N.ja.ref HJ.out.rel dp (ab.2.2 w' N.jf.below).1 dp).mono;rintro e n ⟨he,X,hr,hk⟩;have hF:=N.aag Q v.2.2 hk hr C dp;have⟨b8,d6,n6,Q4⟩:=ku.mg Q;have N5:=N.VP Q4 hk hr C;have rW:=N5.st;rw[GR.out,ab.1]at rW;have c1:=af N5.ja.mem.kb 1;have c2:=af rW 1;have c6:=af rW 6;simp at c1 c2 c6;exact⟨by rw[he,bA.out],hF,c1,c2,c6⟩
  go_wp2;go_region_held3 (λw'=>w'.cell? ⟨E,1,none⟩=some (.pointer<|some ⟨m.1,0,none⟩)/\w'.cell? ⟨b,1,none⟩=some (.int .u64 (eC:Int))/\w'.cell? ⟨b,6,none⟩=some (.slice Y x y)) (simp[*])
   (first|(go_at_call 75;apply(mZ _<|by first|exact(fU u).drew|exact fU u).mono;rintro e n ⟨rfl,hS5,b1,b2,b6⟩;have F:=ah hS5;clear hS5 mZ))
  clear r a1 a6 b1 b2 b6;go_wp2;go_ret;exact⟨rfl,F.out⟩
 by_cases bq:kd=15
 .subst bq;have kN:=A.1.call A.2.1 C L λw' g o=>abO Z o {HZ.out with gl:=g};go_wp2
  go_region_held3 (λw'=>w'.cell? ⟨E,0,none⟩=some (.pointer<|some ⟨hp,0,none⟩)/\w'.cell? ⟨b,1,none⟩=some (.int .u64 (eC:Int))/\w'.cell? ⟨b,7,none⟩=some (.int .i64 f1)/\w'.cell? ⟨b,8,none⟩=some (.int .i64 f2)/\w'.cell? ⟨b,9,none⟩=some (.int .i64 Z)/\w'.cell? ⟨b,10,none⟩=some (.int .i64 f4)) (simp[*])
   (first|(go_at_call 76;apply(kN _<|by first|exact(fU W2).drew|exact fU W2).mono;rintro e u ⟨x',o,U,rfl,VU,xT,Lq⟩;have f:=xT.st;rw[GR.out]at f;have a0:=af xT.ja.mem.kb 0;have a1:=af f 1; have a7:=af f 7;have a8:=af f 8;have a9:=af f 9;have Kg:=af f 10;simp at a0 a1 a7 a8 a9 Kg;have v:=ah<|zzb xT<|zzb VU Lq;clear xT VU Lq f kN))
  clear k0 r VT z0 G z2 z3 z4 z5 z6 z7 z8 z9 CS a0 a7 a8 a9 Kg;have r:=af v.1.ja.mem.kb 1;simp at r;have⟨RI,d3,n3,P⟩:=v.2.2.mg;have CO:∀q:Nat,Calls prog 77 #[.pointer<|some ⟨m.1,0,none⟩,.int .u64 (eC:Int)] (u.drewN q) λe w'=>e=.returned (.bool<|m.2.1.dZ eC)/\∃q',w'=(u.drewN q).drewN q':=λq=>by
   have⟨xv,rv,ov,ps,hi,_⟩:=(v.1.new P ((fU u).dE q) C L).ja.ref;exact uW m.1 eC xv rv ov ps m.2.1 _ hi<|by rw[hi.len];omega
  have⟨dq,aa⟩:=gb <|m.2.1.dZ eC;rw[<-aa]at CO;have ag:=ah aa;clear aa;go_wp2;go_quiet (first|(go_at_call 77;refine Calls.quiet_of<|CO _))
  clear CO r a1;have D:=ah<|zzb (v.1.new P ((fU u).dE nq) C L)<|zzb v.2.1<|v.2.2.new<|(fU u).dE nq;clear P v;generalize u.drewN nq=w4 at D ⊢;have q9:=D.1.st;rw[GR.out]at q9;have r:=af D.1.ja.mem.kb 1;have VT:=aq D.1.ja.mem.kb 1;have G:=af q9 1;have z2:=af q9 2;have z3:=af q9 3;simp at r G z2 z3;clear q9
  cases dq with
  |true=>
   have T:=D.2.1;unfold TAb at T;rw[<-ag.out]at T;obtain⟨av,rfl⟩:=T;have gI:=oK x' w4;rw[show decide (x'=9\/x'=10)=true from zI av]at gI;have F:=ah (D.1.stands D.2.2 dp);go_wp2_with fail;apply gI.mono;rintro e n ⟨rfl,rfl⟩;clear gI;go_wp2;go_ret;exact⟨rfl,F.out⟩
  |false=>
   have T:=D.2.1;unfold TAb at T;rw[<-ag.out]at T;obtain⟨bg,rfl,P3⟩:=T;have HX:=ah<|zzb bg P3;clear bg P3
   have mZ:∀w',Fr [] w4 w'->Calls prog 79 #[.pointer<|some ⟨m.1,0,none⟩,.int .u64 (eC:Int)] w' λe n=>e=.returned (.int .i64 (x':Int))/\Gm w n hp p h E (k+1)/\n.cell? ⟨E,1,none⟩=some (.pointer<|some ⟨m.1,0,none⟩)/\n.cell? ⟨b,1,none⟩=some (.int .u64 (eC:Int)):=λw' K=>by
    have⟨RI,d3,n3,P⟩:=ku.mg D.2.2;have N:=D.1.new P K C L;have Q:=ku.new D.2.2 K;apply(LH m.1 eC m.2.2 m.2.1 w' N.ja.ref dp HJ.out.rel.parts dp dp).mono;rintro e n ⟨he,X,hr,hk⟩;have hF:=N.aag Q HX.2 hk hr C dp;have⟨b8,d6,n6,Q4⟩:=ku.mg Q;have N5:=N.VP Q4 hk hr C;have rW:=N5.st;rw[GR.out]at rW;have c1:=af N5.ja.mem.kb 1;have c2:=af rW 1;simp at c1 c2;exact⟨by rw[he,HX.1],hF,c1,c2⟩
   go_wp2;go_region_held3 (λw'=>w'.cell? ⟨E,1,none⟩=some (.pointer<|some ⟨m.1,0,none⟩)/\w'.cell? ⟨b,1,none⟩=some (.int .u64 (eC:Int))) (simp[*])
    (first|(go_at_call 79;apply(mZ _<|by first|exact(fU w4).drew|exact fU w4).mono;rintro e n ⟨rfl,hS5,b1,b2⟩;have F:=ah hS5;clear hS5 mZ))
   clear r VT G z2 z3 b1 b2;go_wp2;go_ret;exact⟨rfl,F.out⟩
 by_cases bt:kd=16
 .subst bt;have kN:=A.1.call A.2.1 C L λw' g o=>aet s B Z o {HZ.out with gl:=g};go_wp2
  go_region_held3 (λw'=>w'.cell? ⟨E,0,none⟩=some (.pointer<|some ⟨hp,0,none⟩)/\w'.cell? ⟨b,1,none⟩=some (.int .u64 (eC:Int))/\w'.cell? ⟨b,2,none⟩=some (.int .i64 s)/\w'.cell? ⟨b,3,none⟩=some (.int .i64 B)/\w'.cell? ⟨b,7,none⟩=some (.int .i64 f1)/\w'.cell? ⟨b,8,none⟩=some (.int .i64 f2)/\w'.cell? ⟨b,9,none⟩=some (.int .i64 Z)/\w'.cell? ⟨b,10,none⟩=some (.int .i64 f4)) (simp[*])
   (first|(go_at_call 80;apply(kN _<|by first|exact(fU W2).drew|exact fU W2).mono;rintro e u ⟨x',o,U,rfl,VU,xT,Lq⟩;have f:=xT.st;rw[GR.out]at f;have a0:=af xT.ja.mem.kb 0;have a1:=af f 1;have a2:=af f 2;have a3:=af f 3; have a7:=af f 7;have a8:=af f 8;have a9:=af f 9;have Kg:=af f 10;simp at a0 a1 a2 a3 a7 a8 a9 Kg;have v:=ah<|zzb xT<|zzb VU Lq;clear xT VU Lq f kN))
  clear k0 r VT z0 G z2 z3 z4 z5 z6 z7 z8 z9 CS a0 a7 a8 a9 Kg;have r:=af v.1.ja.mem.kb 1;simp at r;have⟨RI,d3,n3,P⟩:=v.2.2.mg;have CO:∀q:Nat,Calls prog 77 #[.pointer<|some ⟨m.1,0,none⟩,.int .u64 (eC:Int)] (u.drewN q) λe w'=>e=.returned (.bool<|m.2.1.dZ eC)/\∃q',w'=(u.drewN q).drewN q':=λq=>by
   have⟨xv,rv,ov,ps,hi,_⟩:=(v.1.new P ((fU u).dE q) C L).ja.ref;exact uW m.1 eC xv rv ov ps m.2.1 _ hi<|by rw[hi.len];omega
  have⟨dq,aa⟩:=gb <|m.2.1.dZ eC;rw[<-aa]at CO;have ag:=ah aa;clear aa;go_wp2;go_quiet (first|(go_at_call 77;refine Calls.quiet_of<|CO _))
  clear CO r a1 a2 a3;have D:=ah<|zzb (v.1.new P ((fU u).dE nq) C L)<|zzb v.2.1<|v.2.2.new<|(fU u).dE nq;clear P v;generalize u.drewN nq=w4 at D ⊢;have q9:=D.1.st;rw[GR.out]at q9;have r:=af D.1.ja.mem.kb 1;have VT:=aq D.1.ja.mem.kb 1;have G:=af q9 1;have z2:=af q9 2;have z3:=af q9 3;simp at r G z2 z3;clear q9
  cases dq with
  |true=>
   have T:=D.2.1;unfold VN at T;rw[<-ag.out]at T;obtain⟨av,rfl⟩:=T;have⟨cq,T3⟩:=gb <|m.2.1.counts eC s B;rw[<-T3]at av;have uF:∀w',Fr [] w4 w'->Calls prog 81 #[.pointer<|some ⟨m.1,0,none⟩,.int .u64 (eC:Int),.int .i64 s,.int .i64 B] w' λe n=>e=.returned (.bool cq)/\Gm w n hp p h E (k+1)/\n.cell? ⟨E,1,none⟩=some (.pointer<|some ⟨m.1,0,none⟩)/\n.cell? ⟨b,1,none⟩=some (.int .u64 (eC:Int))/\n.cell? ⟨b,2,none⟩=some (.int .i64 s)/\n.cell? ⟨b,3,none⟩=some (.int .i64 B):=λw' K=>by
    have⟨RI,d3,n3,P⟩:=ku.mg D.2.2;have N:=D.1.new P K C L;have Q:=ku.new D.2.2 K;have⟨b8,d6,n6,Q4⟩:=ku.mg Q;apply(JR m.1 eC s B m.2.2 m.2.1 w' N.ja.ref dp HJ.out.rel.parts).mono;rintro e n ⟨he,hf⟩;have N5:=N.new Q4 hf C L;have rW:=N5.st;rw[GR.out]at rW;have c1:=af N5.ja.mem.kb 1;have c2:=af rW 1;have c3:=af rW 2;have c4:=af rW 3;simp at c1 c2 c3 c4;exact⟨by rw[he,T3],N5.stands (ku.new Q hf) dp,c1,c2,c3,c4⟩
   have bZ:=ah T3;clear T3;go_wp2;go_region_held3 (λw'=>w'.cell? ⟨E,1,none⟩=some (.pointer<|some ⟨m.1,0,none⟩)/\w'.cell? ⟨b,1,none⟩=some (.int .u64 (eC:Int))/\w'.cell? ⟨b,2,none⟩=some (.int .i64 s)/\w'.cell? ⟨b,3,none⟩=some (.int .i64 B)) (simp[*])
    (first|(go_at_call 81;apply(uF _<|by first|exact(fU w4).drew|exact fU w4).mono;rintro e n ⟨rfl,hS5,b1,b2,b3,b4⟩;have F:=ah hS5;clear hS5 uF))
   clear r VT G z2 z3 b1 b2 b3 b4;have gI:=oK x' n;cases cq with
   |true=>
    have hx:x'=9\/x'=10:=av;have bW:¬(x':Int)=0:=by omega
    rw[show decide (x'=9\/x'=10)=true from zI hx]at gI;go_wp2_with fail;apply gI.mono;rintro e w6 ⟨rfl,rfl⟩;clear gI;go_wp2;go_ret;exact⟨rfl,F.out⟩
   |false=>
    obtain rfl:x'=0:=av;go_wp2_with fail;apply gI.mono;rintro e w6 ⟨rfl,rfl⟩;clear gI;go_wp2;go_ret;exact⟨rfl,F.out⟩
  |false=>
   have bc:∀w',Fr [] w4 w'->Calls prog 82 #[.pointer<|some ⟨np,0,none⟩,.int .u64 (eC:Int),.int .i64 s,.int .i64 B] w' λe n=>e=.returned (.tuple #[])/\∃X,JN w n hp p E b U a gc O J m I (np,m.2.1.aZ eC s B,X) nB/\ku n hp p h U (k+1) o:=λw' K=>by
    have⟨RI,d3,n3,P⟩:=D.2.2.mg;have N:=D.1.new P K C L;have Q:=D.2.2.new K;have⟨bK,d5,n5,Of⟩:=Q.mg;apply(QZ np eC s B S1 m.2.1 cj w' N.ref HJ.out.rel dp dp).mono;rintro e n ⟨he,X,hr,hk⟩;exact⟨he,X,N.fL Of hk hr C,Q.GL N.ref N.free hk⟩
   go_wp2_with fail;apply(bc _<|by first|exact(fU w4)|exact(fU w4).drew).mono;clear bc r VT G z2 z3;rintro e n ⟨rfl,X,hN5,hA5⟩;have⟨l1,l2,l3⟩:=Cu HJ.out.rel.parts eC s B;have Kh:=Zb m.2.1 eC s B;have CJ:Calls prog 67 #[.pointer<|some ⟨np,0,none⟩,.int .u64 (eC:Int)] n λe w'=>e=.returned (.int .i64 ((m.2.1.aZ eC s B).stat eC:Int))/\∃q',w'=n.drewN q':=by
    have⟨xv,rv,ov,ps,hi,_⟩:=hN5.ref;exact sN np eC xv rv ov ps _ _ hi<|by rw[hi.len];show(m.2.1.aZ eC s B).ai.length<=_;omega
   obtain⟨now,pR⟩:∃now,now=(m.2.1.aZ eC s B).stat eC:=⟨_,rfl⟩;rw[<-pR]at CJ;have rW:=hN5.st;rw[GR.out]at rW;have G:=af rW 1;simp at G
   have HT:Hid (if st=5/\now=6 then Tw [m.2.1.aZ eC s B] (m.2.1.aZ eC s B) gc (if J then I.map (·.2.1)else I.map (·.2.1)++[m.2.1.aZ eC s B]) (m.2.1.cR eC) gc O J x' o/\(m.2.1.cR eC).ds=m.2.1.ds/\Gg m.2.1.next (m.2.1.cR eC)/\Gg m.2.1.next (m.2.1.aZ eC s B)else x'=0/\o=.on (I.map (·.2.1)) (m.2.1.aZ eC s B) gc O J):=by
    have T:=D.2.1;unfold VN at T;rw[<-ag.out]at T;rw[A.2.2,pR];exact T
   have H5:=ah<|zzb hN5 hA5;clear hN5 hA5 rW pR D;go_wp2_with fail;refine CJ.mono ?_;rintro e cr ⟨rfl,nq2,rfl⟩;clear CJ G;obtain⟨bK,d5,n5,Of⟩:=H5.2.mg;have H6:=ah<|zzb (H5.1.new Of ((fU n).dE nq2) C L)<|H5.2.new<|(fU n).dE nq2;clear Of H5;generalize n.drewN nq2=w6 at H6 ⊢;by_cases hy:st=5/\now=6
   .have T:=HT.out;rw[oo hy]at T;obtain⟨rfl,rfl⟩:=hy;have rG:=jwr hp p h E b k gc x' w w6 U a O J true m I (np,m.2.1.aZ eC s B,X) nB (m.2.1.cR eC) o H6.1 T.1 H6.2 (by have:=T.2.2.2.len;show(m.2.1.aZ eC s B).ai.length<=_;omega) (λz V=>by have:=(T.2.2.2.ok z V).1.up.len;omega) (by show(m.2.1.aZ eC s B).res.length<=_;omega) (by show(m.2.1.aZ eC s B).out.length<=_;omega) P5 C dp;have Wn:=ah T;clear T HT;go_wp2_with fail;refine rG.mono ?_;clear rG;rintro e w7 ⟨rfl,S⟩;rcases S with⟨rfl,S⟩|⟨bW,cg,cd,o7,j1,j2,j3,j4,j5,j6⟩
    .have F:=ah S;clear S;go_wp2;go_ret;exact⟨rfl,F.out⟩
    .have TF:¬(x':Int)=0:=dp;have r:=af j1.mem.kb 1;rw[GR.out]at j4;have G:=af j4 1;simp at r G;have H7:=ah<|zzb j1<|zzb j2<|zzb j5<|zzb j6 j4
     have ba:∀w',Fr [] w7 w'->Calls prog 84 #[.pointer<|some ⟨m.1,0,none⟩,.int .u64 (eC:Int)] w' λe w8=>e=.returned (.tuple #[])/\Gm w w8 hp p h E (k+1)/\w8.cell? ⟨E,1,none⟩=some (.pointer<|some ⟨m.1,0,none⟩)/\w8.cell? ⟨b,1,none⟩=some (.int .u64 (eC:Int)):=λw' K=>by
      have⟨ca,d8,n8,Wr⟩:=H7.2.2.1.mg;have A8:=H7.1.new Wr K;have O8:=H7.2.2.1.new K;have F8:=iw.new K H7.1.size;apply(MH m.1 eC m.2.2 m.2.1 w' A8.ref dp).mono;rintro e w8 ⟨he,S8,NN,hk8⟩;have mq:=rz (R:=m.2.1) eC;have⟨cb,d9,n9,bO⟩:=O8.mg;have c1:=af (A8.fL bO hk8 NN).mem.kb 1;have c2:=af ((F8.trans<|hk8.lfr A8.ref).step _ _ H7.2.2.2.2) 1;simp at c1 c2;exact⟨he,abS A8 (H7.2.1.trans F8) O8 H7.2.2.2.1 Wn.2.1 (by rw[mq];exact Wn.2.2.1) hk8 NN dp,c1,c2⟩
     clear j1 j2 j3 j4 j5 j6;go_wp2;go_region_held3 (λw'=>w'.cell? ⟨E,1,none⟩=some (.pointer<|some ⟨m.1,0,none⟩)/\w'.cell? ⟨b,1,none⟩=some (.int .u64 (eC:Int))) (simp[*])
      (first|(go_at_call 84;apply(ba _<|by first|exact(fU w7).drew|exact fU w7).mono;rintro e w8 ⟨rfl,hS8,b1,b2⟩;have F:=ah hS8;clear hS8 ba))
     clear r G b1 b2;go_wp2;go_ret;exact⟨rfl,F.out⟩
   .have T:=HT.out;rw[mE hy]at T;obtain⟨rfl,rfl⟩:=T;have b1:=af H6.1.ja.mem.kb 1;have bf:=aq H6.1.ja.mem.kb 1;simp at b1;have F:=ah (H6.1.aeu H6.2 dp);have th:¬((st:Int)=5)\/(((st:Int)=5)/\¬((now:Int)=6)):=dp
    clear hy HT;obtain aX|⟨aX,Zq⟩:=th
    .have bn2:((st:Int)==5)=false:=oT.2 aX;go_wp2;go_ret;exact⟨rfl,F.out⟩
    .have bn2:((st:Int)==5)=true:=by simpa using aX
     have cc:=oT.2 Zq;go_wp2;go_ret;exact⟨rfl,F.out⟩
 by_cases bu:kd=17
 .subst bu;have kN:=A.1.call A.2.1 C L λw' g o=>aep s Z o {HZ.out with gl:=g};go_wp2
  go_region_held3 (λw'=>w'.cell? ⟨E,0,none⟩=some (.pointer<|some ⟨hp,0,none⟩)/\w'.cell? ⟨b,1,none⟩=some (.int .u64 (eC:Int))/\w'.cell? ⟨b,2,none⟩=some (.int .i64 s)/\w'.cell? ⟨b,7,none⟩=some (.int .i64 f1)/\w'.cell? ⟨b,8,none⟩=some (.int .i64 f2)/\w'.cell? ⟨b,9,none⟩=some (.int .i64 Z)/\w'.cell? ⟨b,10,none⟩=some (.int .i64 f4)) (simp[*])
   (first|(go_at_call 85;apply(kN _<|by first|exact(fU W2).drew|exact fU W2).mono;rintro e u ⟨x',o,U,rfl,VU,xT,Lq⟩;have f:=xT.st;rw[GR.out]at f;have a0:=af xT.ja.mem.kb 0;have a1:=af f 1;have a2:=af f 2; have a7:=af f 7;have a8:=af f 8;have a9:=af f 9;have Kg:=af f 10;simp at a0 a1 a2 a7 a8 a9 Kg;have v:=ah<|zzb xT<|zzb VU Lq;clear xT VU Lq f kN))
  clear k0 r VT z0 G z2 z3 z4 z5 z6 z7 z8 z9 CS a0 a7 a8 a9 Kg;have b0:∀w',Fr [] u w'->Calls prog 86 #[.pointer<|some ⟨np,0,none⟩,.int .u64 (eC:Int),.int .i64 s] w' λe n=>e=.returned (.bool<|m.2.1.l_ eC s)/\∃X,JN w n hp p E b U a gc O J m I (np,m.2.1.done eC s,X) nB/\ku n hp p h U (k+1) o:=λw' K=>by
   have⟨RI,d3,n3,P⟩:=v.2.2.mg;have N:=v.1.new P K C L;have Q:=v.2.2.new K;have⟨bH,d4,n4,VQ⟩:=Q.mg;apply(QP np eC s S1 m.2.1 w' N.ref dp λz V=>⟨HJ.out.rel.parts z V,λh6 e0=>by have:=((HJ.out.rel.ok z V).1.N8 h6).2;rw[e0]at this;cases this⟩).mono;rintro e n ⟨he,X,hr,hk⟩;exact⟨he,X,N.fL VQ hk hr C,Q.GL N.ref N.free hk⟩
  obtain⟨al,Zt⟩:∃al,al=m.2.1.l_ eC s:=⟨_,rfl⟩;rw[<-Zt]at b0;have bD:=ah Zt;clear Zt;have T:=v.2.1;unfold TDn at T;rw[<-bD.out]at T;have HT:=ah T;clear T;go_wp2_with fail;refine(b0 _<|by first|exact(fU u)|exact(fU u).drew).mono ?_;clear b0;rintro e n ⟨rfl,X,hN5,hA5⟩;have H5:=ah<|zzb hN5 hA5;clear hN5 hA5 v;obtain⟨l1,l2,l3⟩:=Cv (R:=m.2.1) eC s
  cases al with
  |false=>
   obtain⟨rfl,rfl⟩:=HT.out;have b1:=af H5.1.ja.mem.kb 1;have bf:=aq H5.1.ja.mem.kb 1;simp at b1;have F:=ah (H5.1.aeu H5.2 dp);clear a1 a2;go_wp2;go_ret;exact⟨rfl,F.out⟩
  |true=>
   have T:=HT.out;have rG:=jwr hp p h E b k gc x' w n U a O J false m I (np,m.2.1.done eC s,X) nB m.2.1 o H5.1 T.1 H5.2 (by have:=T.2.len;show(m.2.1.done eC s).ai.length<=_;omega) (λz V=>by have:=(T.2.ok z V).1.up.len;omega) (by show(m.2.1.done eC s).res.length<=_;rw[l2];omega) (by show(m.2.1.done eC s).out.length<=_;rw[l1];omega) P5 C dp;clear a1 a2 T;go_wp2_with fail;apply rG.mono;clear rG;rintro e w6 ⟨rfl,S⟩;have F:=ah (S.done rfl dp);clear S;go_wp2;go_ret;exact⟨rfl,F.out⟩
 by_cases bz:kd=18
 .subst bz;have an:=JS A.1.ja A.2.1 dp;go_wp2_with fail;apply an.mono;clear an;rintro e u ⟨rfl,U,S',h1,h2,h3⟩;have F:Hid (Gm w u hp p h E<|k+1):=⟨_,_,_,_,_,_,_,.on _ _ _ _ _,h1,A.1.jf.trans h3,h2.succ qO,.inl rfl,dp⟩;clear h1 h2 h3;go_wp2;go_ret;exact⟨rfl,F.out⟩
 have F:=ah (A.1.stands (A.2.1.succ qO) dp);have y2:(kd==2)=false:=by simpa using q2
 have y3:(kd==3)=false:=by simpa using q3
 have ct:(kd==13)=false:=by simpa using bo
 have cu:(kd==14)=false:=by simpa using bp
 have cv:(kd==15)=false:=by simpa using bq
 have cw:(kd==16)=false:=by simpa using bt
 have cy:(kd==17)=false:=by simpa using bu
 have cz:(kd==18)=false:=by simpa using bz
 go_wp2;go_ret;exact⟨rfl,F.out⟩
end
theorem zL{b:Nat}(h:w.ownsRow b 55 1 v l.length<|l.map nR):∃o c,v=.slice o l.length c/\∀(i:Nat) (x:cC),l[i]?=some x->∃g,o=some (gi g)/\w.cell? (hP g i)=some (gx x.1):=by
 rcases h.2 with⟨e,a⟩|⟨g,p,r,e,rest⟩
 .grind
 .refine⟨some (gi g),p,e,λi x hx=>⟨g,rfl,?_⟩⟩;exact fA h e<|by rw[zzy,hx];rfl
theorem JW{e:TypeId}{x:Value}(h:B<=w.heap.size):(w.alloc<|.cells #[x] e).ownsRow B e 1 (.slice (some<|gi w.heap.size) 1 1) 1 [x]:=
 ⟨rfl,.inr ⟨_,1,#[x],rfl,h,oz w _,zzc _,by unfold maxLen;decide,rfl,rfl⟩⟩
def AgC [Inhabited Bs](r w:nL)(hp p b g T e D N k n h f:Nat)(c:bL)(l:au)(d:aj)(v:Value)(gc:Nat)(s u:Bool)(a:List cC)(q:Nat)(ds:List (Nat × List Nat))(B:Array Value)(j:Nat)(o:Bool):Prop :=
 ∃m:cC,JA w hp p h (cx b T e w) v gc s u m a/\mM w B0 hp p b g T e D N k n c l d/\iw r w/\Gl w/\w.heap[f]?=some (.cells B 40 (0,0))/\(o=false->∀i x,a[i]?=some x->j<=i->x.2.1.ds≠ds)/\(o=true->∃Q∈a.map (·.2.1),Q.ds=ds/\m.2.1={ Q.rest with next:=q })
theorem mM.mg[Inhabited Bs]{a T b:Nat}{l:au}(e:mM w B0 hp p a g T b h N m n c l d):oO w B0 hp p h N (cx a T b w) d n:=.inl ⟨a,g,T,b,m,c,l,rfl,e⟩
def Af [Inhabited Bs](a w:nL)(hp p D j k:Nat):Prop :=
 ∃so v gc s u m l,JA w hp p j so v gc s u m l/\iw a w/\rY w hp p D so k (l.map (·.2.1)) m.2.1 gc s u/\gc<=100*k
section
variable [Inhabited Bs]
theorem VW{hp p h bN f k n M m0 gc:Nat}{so:AW}{d:aj}{cv:Value}{sk hu:Bool}{m:cC}{G:List cC}{H:Nat->List Nat}{w:nL}(kd:Int)(eC x y:Nat)(sq nn:Int)(ad sv:nS)(ao:Option Addr)(f1 f2 f3 R:Int)
  (aa:JA w hp p f so cv gc sk hu m G) (hh:oO w B0 hp p h bN so d n) (hg:rL k m.2.1.next gc d (G.map (·.2.1)) H M m0) (qO:k+2<=10000) (Yo:16*k+1+1<=n) (xT:n<=nC k M m0) (B:3<=(B0:Nat)) (iN:B0<=hp) (nA:Gl w) (uU:gc<=100*k)
  (J5:-2^63<=nn) (DB:nn<=9223372036854775807) (Zr:-2^63<=f1) (cB:-2^63<=f2) (bR:-2^63<=R) (bW:R<=9223372036854775807) :
  Calls prog 24 #[gx f,Jp kd eC sq nn ad sv ao x y f1 f2 f3 R] w λe w'=>e=.returned (.bool true)/\Af w w' hp p h f (k+2):=by
 have df:=hg.le;have⟨cs,cf,UH⟩:=hg.lg;have Oo:n+2*(16*k+1-m0)+20<=1000000000:=by unfold nC at xT;omega
 have⟨nB,Du⟩:=gb <|#[Value.int .i64 kd,.int .u64 (eC:Int),.int .i64 sq,.int .i64 nn,.string ad,.string sv,.slice ao x y,.int .i64 f1,.int .i64 f2,.int .i64 f3,.int .i64 R];have⟨W,hW⟩:=gb <|w.alloc (qo kd eC sq nn ad sv ao x y f1 f2 f3 R);have dI:Fr [] w W:=by rw[hW];exact(fU w).alloc _
 have D:W.heap[w.heap.size]?=some (qo kd eC sq nn ad sv ao x y f1 f2 f3 R):=by rw[hW];exact oz w _
 have A0:=aa.new hh dI;have⟨YI,_⟩:=hh.new dI;have F0:iw w W:=iw.new dI aa.size;have Z:Fr [] W W.drew:=(fU W).drew;have AD:=A0.new YI Z;have⟨ag,_⟩:=YI.new Z;have FD:iw w W.drew:=F0.trans<|iw.new Z A0.size;have GD:=FD.gl B nA;have c0:=af A0.mem.kb 0;have z0:=af D 0;have z1:=af D 1;have z2:=af D 2;have z3:=af D 3;have z4:=af D 4;have z5:=af D 5;have z6:=af D 6;have z7:=af D 7;have z8:=af D 8;have z9:=af D 9;have CS:=af D 10;simp at c0 z0 z1 z2 z3 z4 z5 z6 z7 z8 z9 CS;have al:W.drew.heap[w.heap.size]?=some (.cells nB 40 (0,0)):=by rw[Du];exact D
 have J:=ah<|zzb AD<|zzb ag<|zzb FD<|zzb GD al;have HG:=ah hg;have ae:=ah<|zzb UH cf;have GR:=ah Du;clear aa hh hg nA dI D A0 YI F0 Z AD ag FD GD al UH cf Du
 go_enter func24,ntmps24
 go_wp2_with fail;rw[<-hW];clear hW;obtain⟨g,k9⟩:∃g,g=w.heap.size:=⟨_,rfl⟩;rw[<-k9]at J z0 z1 z2 z3 z4 z5 z6 z7 z8 z9 CS ⊢;clear k9;go_region_held3 (λw'=>w'.cell? ⟨f,0,none⟩=some (.pointer<|some ⟨hp,0,none⟩)/\w'.cell? ⟨g,0,none⟩=some (.int .i64 kd)/\w'.cell? ⟨g,1,none⟩=some (.int .u64 (eC:Int))/\w'.cell? ⟨g,2,none⟩=some (.int .i64 sq)/\w'.cell? ⟨g,3,none⟩=some (.int .i64 nn)/\w'.cell? ⟨g,4,none⟩=some (.string ad)/\w'.cell? ⟨g,5,none⟩=some (.string sv)/\w'.cell? ⟨g,6,none⟩=some (.slice ao x y)/\w'.cell? ⟨g,7,none⟩=some (.int .i64 f1)/\w'.cell? ⟨g,8,none⟩=some (.int .i64 f2)/\w'.cell? ⟨g,9,none⟩=some (.int .i64 f3)/\w'.cell? ⟨g,10,none⟩=some (.int .i64 R))
  (simp[*])
  (first|(go_at_call 39;refine(Jr kd eC x y sq nn ad sv ao f1 f2 f3 R J.2.1 ae.1.sure ae.1.df ae.1.up (λ_ _ aa=>aa) ae.1.fl du B iN J.2.2.2.1 Yo Oo J5 DB Zr cB bR bW).mono ?_;rintro e w2 ⟨rfl,dy,cp,gp,bT,lp,RG,x2,l2,d2,mk,ss,s0,a1,a2,a3,a4,a5,a6,a7,a8,a9,aX⟩;have r:=J.1.host J.2.1 aX;have U:=iw.vR J.2.1 iN aX;have eP:=U.step _ _ J.2.2.2.2;have y0:=af r.mem.kb 0;have C:=eP;rw[GR.out]at C;have y1:=af C 0;have y2:=af C 1;have y3:=af C 2;have y4:=af C 3;have y5:=af C 4;have y6:=af C 5;have y7:=af C 6;have y8:=af C 7;have y9:=af C 8;have av:=af C 9;have cj:=af C 10;simp at y0 y1 y2 y3 y4 y5 y6 y7 y8 y9 av cj;have b:=ah<|zzb r<|zzb (J.2.2.1.trans U)<|zzb (U.gl B J.2.2.2.1)<|zzb eP<|zzb a1<|zzb a2<|zzb a3<|zzb a4<|zzb a5<|zzb a6<|zzb a7<|zzb a8 a9;clear a1 a2 a3 a4 a5 a6 a7 a8 a9 aX r U eP C dy))
 clear c0 z0 z1 z2 z3 z4 z5 z6 z7 z8 z9 CS y1 y2 y3 y4 y5 y6 y7 y8 y9 av cj J;have⟨_,cF,kB⟩:=b.2.2.2.2.2.2.2.2.2.2.2.1;have cY:m0<=mk:=b.2.2.2.2.2.2.2.2.2.2.2.2;have⟨⟨Q0,bc,bg⟩,eK,eL,nV⟩:=ae.2 s0 b.2.2.2.2.1;have iY:=b.2.2.2.2.2.1;have C6:=iY.1.lim;have bp:m.2.1.next<=x2.aH:=dp;have c8:∀Q∈G.map (·.2.1),(Looks {x2 with next:=x2.aH} {Q.rest with next:=m.2.1.next}↔Q.ds=s0.ds):=λQ hQ=>VR HG.out.qs iY.1 iY.2 bp bc bg hQ
 have⟨xR,ch,bq⟩:=zzq.1 bc;have HO:=ah<|zzb c8<|zzb (zzb eK<|zzb eL nV)<|zzb cF kB;have Wk:=ah<|zzb ch (show xR.2.1.ds=s0.ds by rw[bq];exact bg.symm)
 have uO:l2.recs.length<=mC k:=by
  have e:=b.2.2.2.2.2.2.2.2.1.recs;rw[e,wo];unfold az at kB;unfold mC;omega
 have bl:mM w2 B0 hp p cp gp bT lp h RG (mC k) (n+2*(mk-m0)+2) {x2 with next:=x2.aH} l2 d2:=⟨b.2.2.2.2.2.2.1.1,b.2.2.2.2.2.2.1.2.more uO⟩;have⟨F,b7⟩:=gb <|n+2*(mk-m0)+2;rw[<-b7]at bl;have cS:mk<=16*k+1:=by unfold az at kB;omega
 have bt:F+10+(16*k+1-mk)<=1000000000/\16*k+1+1<=F/\F+1<=nC (k+2) mk mk:=by
  rw[b7];unfold nC at xT ⊢;refine⟨?_,?_,?_⟩<;>omega
 have cd:∀z∈G,z.2.1.ai.length<=12/\∀y∈z.2.1.ai,y.parts.length<=8:=λz c=>by
  have:=HG.out.qs.each z c;exact⟨this.len,λy hy=>(this.ok y hy).1.up.len⟩
 have aI:=ah cd;have bu:m.2.1.next<=1000000:=dp;clear b7 ch bq Yo Oo xT c8 bc bg eK eL nV iY C6 bp cd;have⟨bK,c2,cn,_⟩:=zL b.1.mem.pq;subst cn;have⟨S,bm⟩:=gb G.length;have k2:=af b.1.mem.kb 2;have k1:=af b.1.mem.kb 1;have⟨_,xv,rv,ov,cc⟩:=b.1.ref.root;have r1:=af cc 1;simp at k2 k1 r1;have⟨Y,b8⟩:=gb m.2.1.next;rw[<-b8]at r1 HO bu;have Gy:=ah b8;have b0:Hid (AgC w w2 hp p cp gp bT lp h RG (mC k) F f g {x2 with next:=x2.aH} l2 d2 (.slice bK G.length c2) gc sk hu G Y s0.ds nB S false):=⟨m,b.1,bl,b.2.1,b.2.2.1,b.2.2.2.1,λ_ i z c hi=>by have:=(zzd.1 c).1;omega,λaa=>by cases aa⟩;rw[<-bm]at k2 b0;have bo:Hid (G.length=S):=bm.symm;have da:S<=16385:=by have:=HG.out.EG;rw[zzn]at this;omega
 clear bl bm cc b8;go_wp2;go_loopw [5,7] (λcK iv wr=>∃(j:Nat) (o:Bool),j<=S/\iv=.int .i64 ((j:Int)-1)/\cK=.bool o/\Hid (AgC w wr hp p cp gp bT lp h RG (mC k) F f g {x2 with next:=x2.aH} l2 d2 (.slice bK S c2) gc sk hu G Y s0.ds nB j o)) (λ_ i _=>(intOf i+1).toNat);case atStart=>exact⟨S,false,zzc _,rfl,rfl,b0⟩
 case round=>
  obtain⟨j,o,hj,rfl,rfl,HL⟩:=hrel;clear b0 k2 y0 k1 r1;cases o with
  |false=>
   obtain⟨q,rfl⟩:∃q,j=q+1:=by
    cases j with
    |succ q=>exact⟨q,rfl⟩
    |zero=>
     exfalso;have⟨t,_,_,_,_,_,j9,_⟩:=HL.out;have⟨i,hi⟩:=zzB.1 Wk.1;exact j9 rfl i xR hi (zzs _) Wk.2
   have ej:(((q+1:Nat):Int)-1)=(q:Int):=dp;rw[ej];have⟨t,v,X1,F1,G1,S1,j9,_⟩:=HL.out;have⟨l,aE⟩:∃l,G[q]?=some l:=⟨_,zzg<|by rw[bo.out];omega⟩;have I1:=zzh aE;have Cz:=v.mem.pq;rw[<-bo.out]at Cz;have⟨db,c3,cm,VX⟩:=zL Cz
   cases cm;have⟨g3,cr,v3⟩:=VX q l aE;subst cr;have k2:=af v.mem.kb 2;simp at k2;have i0:(0:Int)<=q:=dp;have i1:(q:Int)<S:=dp;have Ry:=QS l.1 l.2.2 l.2.1 wr (v.mem.each l<|by simp[I1]) (by have:=(aI.out l I1).1;omega) (λz c=>by have:=(aI.out l I1).2 z c;omega);have A:=ah<|zzb v<|zzb X1<|zzb F1<|zzb G1<|zzb S1<|zzb j9<|zzb I1 aE;clear v X1 F1 G1 S1 j9 I1 aE Cz VX;go_wp2_with fail;refine Ry.mono ?_;clear Ry;rintro e w3 ⟨cq,S',rfl,CF,CR,fu⟩;have N3:=A.1.copy A.2.1.mg A.2.2.1 A.2.2.2.1 A.2.2.2.2.1 CF CR fu B;have X:=(A.2.1.new fu).1;have bO:cx cp bT lp wr=cx cp bT lp w3:=by unfold cx;rw[lR<|fu.block cp A.2.1.2.co.jS.1 dv]
   rw[bO]at N3;have⟨_,dm,dk,dj,nM⟩:=CF.root;have n1:=af nM 1;have nf:=aq nM 1;simp at n1;have⟨GJ,Rx⟩:=CF.Oe Y;have⟨I,NB⟩:∃I,I=w3.setCell ⟨cq,1,none⟩ (.int .u64 (Y:Int)):=⟨_,rfl⟩;rw[<-NB]at GJ Rx;have N4:=N3.fL X.mg Rx GJ B;have nb:=X.law Rx.fr λk hk _=>N3.ref.lw X (λk hk hm=>N3.free k hk<|cQ.2<|.inr<|.inr<|by simp[hm]) hk
   have bz:cx cp bT lp w3=cx cp bT lp I:=by unfold cx;rw[nb.2.2]
   rw[bz]at N4
   have lJ:=Ex hp p cp gp bT lp h RG (mC k) F f t.1 cq gc _ l2 d2 _ sk hu S' {l.2.1.rest with next:=Y} I nb.1 N4.ja.mem.kb GJ (by
    show(jW l.2.1.ai).length<=1000;unfold jW;rw[zzn];have:=Hm (λx:aK=>decide<|x.st=6) l.2.1.ai;have:=(aI.out l A.2.2.2.2.2.2.1).1
    omega) bu
   have H4:=ah<|zzb N4 nb.1;clear N3 X bO nM CF CR fu GJ Rx N4 nb bz k2 v3 i0 i1;go_wp2_with fail;rw[<-NB];refine lJ.mono ?_;clear lJ NB n1 nf;rintro e w5 ⟨o',qy,rfl,qq,rfl⟩;have NI:=(fU I).dE qq;have VQ:=H4.2.mg;have u:=H4.1.new VQ NI B iN;have X5:=(H4.2.new NI).1;have VY:cx cp bT lp I=cx cp bT lp (I.drewN qq):=by unfold cx;rw[lR<|NI.block cp H4.2.2.co.jS.1 dv]
   rw[VY]at u;have b1:=af u.ja.mem.kb 1;have bf:=aq u.ja.mem.kb 1;simp at b1;have M6:=u.ja.mem.swap (w':=(I.drewN qq).setCell ⟨f,1,none⟩<|.pointer<|some ⟨cq,0,none⟩) (m2:=(cq,{l.2.1.rest with next:=Y},S')) (gc':=gc) (sk':=sk) (hu':=hu) (Fr.cG (by simp) _ _) (by simpa using aF u.ja.mem.kb 1<|.pointer<|some ⟨cq,0,none⟩) u.ref u.Kd;have L6:=u.ja.mem.mh [] 1<|.pointer<|some ⟨cq,0,none⟩
   have A6:=u.ja.law X5.mg M6 L6 (λz c=>by
    obtain rfl|c:=zzj.1 c
    .exact u.free
    .exact u.ja.free z (by simp[c]))
   have X6:=X5.mW L6;have bA:cx cp bT lp (I.drewN qq)=cx cp bT lp ((I.drewN qq).setCell ⟨f,1,none⟩<|.pointer<|some ⟨cq,0,none⟩):=by unfold cx;rw[X6.2.2]
   rw[bA]at A6;have F6:=iw.QW L6;have b6:=HO.1 l.2.1<|zzq.2 ⟨l,A.2.2.2.2.2.2.1,rfl⟩
   have H6:Hid (AgC w ((I.drewN qq).setCell ⟨f,1,none⟩<|.pointer<|some ⟨cq,0,none⟩) hp p cp gp bT lp h RG (mC k) F f g {x2 with next:=x2.aH} l2 d2 (.slice (some ⟨g3,0,none⟩) S c2) gc sk hu G Y s0.ds nB q o'):=by
    refine⟨_,A6,X6.1,u.jf.trans F6,F6.gl B u.gl,F6.step _ _ u.st,λh0 i z c hi=>?_,λh1=>⟨l.2.1,zzq.2 ⟨l,A.2.2.2.2.2.2.1,rfl⟩,b6.1<|qy.1 h1,rfl⟩⟩;obtain hq|hq:=Nat.lt_or_ge q i
    .exact A.2.2.2.2.2.1 (by first|rfl|trivial) i z c hq
    .have e1:i=q:=dp;subst e1;rw[A.2.2.2.2.2.2.2]at c;cases c;exact λhm=>by rw[qy.2<|b6.2 hm]at h0;cases h0
   clear u X5 VY M6 L6 A6 X6 bA F6 b6 NI VQ qy H4;go_wp2;go_roundw;case rel=>exact⟨q,o',dp,eR,rfl,H6⟩
   case measure=>first|(simp[intOf];done)|(simp[intOf];omega)
  |true=>
   have⟨t,v,X1,F1,G1,S1,_,aA⟩:=HL.out;have⟨QQ,c9,ca,aA⟩:=aA rfl;obtain⟨K,hK⟩:∃K,K=gc+32:=⟨_,rfl⟩;have iK:(gc:Int)+32=(K:Int):=dp;have jK:IntKind.u64.wrap (K:Int)=K:=by rw[Bl];omega
   have b3:=af v.mem.kb 3;have cu:=aq v.mem.kb 3;simp at b3;obtain⟨O,VZ⟩:∃O,O=wr.setCell ⟨f,3,none⟩ (.int .u64 (K:Int)):=⟨_,rfl⟩;have M1:=v.mem.set (w':=O) (gc':=K) (sk':=sk) (hu':=hu) (by rw[VZ];exact Fr.cG dv _ _) (by rw[VZ];have:=aF v.mem.kb 3<|.int .u64 (K:Int);simpa using this);have L1:=v.mem.mh [] 3<|.int .u64 (K:Int);rw[<-VZ]at L1;have r:=v.law X1.mg M1 L1 v.free;have X2:=X1.mW L1;have bF:cx cp bT lp wr=cx cp bT lp O:=by unfold cx;rw[X2.2.2]
   rw[bF]at r;have U:=iw.QW L1;have b1:=af r.mem.kb 1;have b2:=af r.mem.kb 2;have ct:=aq r.mem.kb 2;simp at b1 b2;have o_:f<O.heap.size:=(zza.1 r.mem.kb).1;have M3:=r.mem.uH (cv':=.slice (some ⟨O.heap.size,0,none⟩) 1 1) (cl':=[t]) (w2:=O.alloc<|.cells #[nR t] 55) ((Fr.refl _ O).alloc _) (JW r.mem.size) (λz c=>by simp at c;rw[c];exact r.mem.each t dv) (zzA.2 ⟨λz c=>by simp at c;rw[c];exact .inl rfl,dv⟩);have L3:=r.mem.Ad (w2:=O.alloc<|.cells #[nR t] 55) (cv':=.slice (some ⟨O.heap.size,0,none⟩) 1 1) []<|(Fr.refl _ O).alloc _
   have A3:=r.law X2.1.mg M3 L3 (λz c=>by
    have e:z=t:=by simpa using c
    rw[e];exact r.free t dv)
   have X:=X2.1.mW L3;have⟨ab,V0⟩:∃ab,ab=(O.alloc<|.cells #[nR t] 55).setCell ⟨f,2,none⟩ (.slice (some ⟨O.heap.size,0,none⟩) 1 1):=⟨_,rfl⟩;rw[<-V0]at A3 X L3;have bH:cx cp bT lp O=cx cp bT lp ab:=by unfold cx;rw[X.2.2]
   rw[bH]at A3;have F3:=iw.QW L3;rw[World.setCell_alloc_past _ _ _ _ o_]at V0;have b4:=af A3.mem.kb 4;have b5:=af A3.mem.kb 5;have cw:=aq A3.mem.kb 4;have cy:=aq A3.mem.kb 5;simp at b4 b5;have T:=ah<|zzb A3<|zzb X.1<|zzb ((F1.trans U).trans F3)<|zzb ((U.trans F3).gl B G1)<|zzb ((U.trans F3).step _ _ S1)<|zzb c9<|zzb ca aA;have aW:=ah hK;clear v X1 F1 G1 S1 aA c9 ca M1 L1 r X2 bF U M3 L3 A3 X bH F3 HL hK;have th:¬(0:Int)<=j-1\/(0:Int)<=j-1:=dp
   obtain fK|fK:=th
   all_goals
    go_upto_region 16 with fail;rw[<-VZ];clear VZ b3 cu iK jK;go_upto_region 17 with fail;rw[show nR t=Value.pointer (some ⟨t.1,0,none⟩)from rfl]at V0;rw[<-V0];clear V0 b1 b2 ct o_ fK;go_upto_region 19 with fail;have⟨a',V1⟩:∃a',a'=(ab.setCell ⟨f,4,none⟩<|.bool false).setCell ⟨f,5,none⟩ (.bool false):=⟨_,rfl⟩;rw[<-V1];have M4:=T.1.mem.set (w':=ab.setCell ⟨f,4,none⟩<|.bool false) (gc':=K) (sk':=false) (hu':=hu) (Fr.cG dv _ _) (by simpa using aF T.1.mem.kb 4<|.bool false);have M5:=M4.set (w':=a') (gc':=K) (sk':=false) (hu':=false) (by rw[V1];exact Fr.cG dv _ _) (by rw[V1];simpa using aF M4.kb 5<|.bool false);have L5:=(T.1.mem.mh [] 4<|.bool false).trans (M4.mh [] 5<|.bool false) dv;rw[<-V1]at L5;have A5:=T.1.law T.2.1.mg M5 L5 T.1.free;have X5:=T.2.1.mW L5;have VY:cx cp bT lp ab=cx cp bT lp a':=by unfold cx;rw[X5.2.2]
    rw[VY]at A5;have F5:=iw.QW L5;have S5:=F5.step _ _ T.2.2.2.2.1;have Z:Fr [] a' a'.drew:=(fU a').drew;have b':=X5.1.mg;have AD:=A5.new b' Z;have⟨ag,_⟩:=b'.new Z;have FD:=F5.trans<|iw.new Z A5.size;have al:a'.drew.heap[g]?=some (.cells nB 40 (0,0)):=S5;rw[GR.out]at S5;have c0:=af A5.mem.kb 0;have z9:=af S5 9;have CS:=af S5 10;simp at c0 z9 CS;have A:=ah<|zzb AD<|zzb ag<|zzb (T.2.2.1.trans FD)<|zzb (FD.gl B T.2.2.2.1)<|zzb al T.2.2.2.2.2;clear V1 M4 M5 L5 A5 X5 VY F5 S5 Z b' AD ag FD al T b4 b5 cw cy
    go_region_held3 (λw'=>w'.cell? ⟨f,0,none⟩=some (.pointer<|some ⟨hp,0,none⟩)/\w'.cell? ⟨g,9,none⟩=some (.int .i64 f3)/\w'.cell? ⟨g,10,none⟩=some (.int .i64 R))
     (simp[*])
     (first|(go_at_call 40;refine(Ve (P:=Holds λa s=>a=mk/\s=ss) f3 R A.2.1.any (b.2.2.2.2.2.2.2.2.1.Vc ⟨mk,ss,b.2.2.2.2.2.2.2.2.1.st,b.2.2.2.2.2.2.2.2.2.1,rfl,rfl⟩) b.2.2.2.2.2.2.2.2.1.floor bR bW).mono ?_;rintro e wB ⟨rfl,FB,bNB,hPB,hFB,hCB,hXB⟩;have AB:=A.1.host A.2.1 hXB;have KB:=iw.vR A.2.1 iN hXB;have cg:=KB.step _ _ A.2.2.2.2.1;have Zd:=cg;rw[GR.out]at Zd;have y0:=af AB.mem.kb 0;have y9:=af Zd 9;have av:=af Zd 10;simp at y0 y9 av;have HB:=ah<|zzb AB<|zzb hCB<|zzb (A.2.2.1.trans KB)<|zzb (KB.gl B A.2.2.2.1)<|zzb A.2.2.2.2.2<|zzb hPB hFB;clear AB KB cg Zd hPB hFB hCB hXB))
    clear c0 z9 CS y9 av A;go_wp2_with fail;have ax:Fr [] wB wB.drew:=(fU wB).drew;have bY:oO wB B0 hp p h bNB none (dP FB) F:=.inr ⟨rfl,HB.2.1⟩;have FC:iw wB wB.drew:=iw.new ax HB.1.size;have HC:=ah<|zzb (HB.1.new bY ax)<|zzb (HB.2.1.fresh ax).1<|zzb (HB.2.2.1.trans FC)<|zzb (FC.gl B HB.2.2.2.1) HB.2.2.2.2;clear ax bY FC HB
    go_region_held3 (λw'=>w'.cell? ⟨f,0,none⟩=some (.pointer<|some ⟨hp,0,none⟩))
     (simp[*])
     (first
      |(go_at_call 12;refine(xD _).mono ?_;rintro e wE ⟨rfl,hbE⟩;have ay:Fr [] wB.drew wE:=Fr.bE hbE [];have bZ:oO wB.drew B0 hp p h bNB none (dP FB) F:=.inr ⟨rfl,HC.2.1⟩;have AE:=HC.1.new bZ ay;have CE:=(HC.2.1.fresh ay).1;have FE:iw wB.drew wE:=iw.new ay HC.1.size;have YI:=af AE.mem.kb 0;simp at YI;have V:=ah<|zzb AE<|zzb CE<|zzb (HC.2.2.1.trans FE)<|zzb (FE.gl B HC.2.2.2.1) HC.2.2.2.2;clear hbE ay bZ AE CE FE)
      |(go_at_call 11;refine(EJ (N:=16*k+1) V.2.1 V.2.2.2.2.2.1 V.2.2.2.2.2.2 b.2.2.2.2.2.2.2.2.2.2.1 HO.2.2.2 B iN V.2.2.2.1 bt.2.1 dp).mono ?_;rintro e wG ⟨rfl,cpG,gpG,bTG,lpG,xG,lG,dG,g1,g2,g3,g4,g5,g6⟩;have b9:oO wE B0 hp p h bNB none (dP FB) F:=.inr ⟨rfl,V.2.1⟩;have AG:=V.1.host b9 g6;have FG:=iw.vR b9 iN g6;have c6:=af AG.mem.kb 0;simp at c6;have L:=ah (zzb AG (zzb (V.2.2.1.trans FG) (zzb V.2.2.2.2.1 (zzb g1 (zzb g2 (zzb g3 (zzb g4 g5)))))));clear b9 AG FG g1 g2 g3 g4 g5 g6))
    clear y0 YI c6 V HC;have⟨E,cE⟩:=gb <|K+16;have iK:(K:Int)+16=(E:Int):=dp;have jK:IntKind.u64.wrap (E:Int)=E:=by rw[Bl];have:=aW.out;omega
    have c7:mM wG B0 hp p cpG gpG bTG lpG h bNB (mC<|k+2) (nC (k+2) mk mk) {xG with next:=xG.aH} lG dG:=by
     refine⟨L.2.2.2.2.1.1,L.2.2.2.2.1.2.fW bt.2.2 (by unfold nC;omega) ?_⟩;have e:=L.2.2.2.2.2.2.1.recs;rw[e,wo];have kB:=HO.2.2.2;unfold az at kB;unfold mC;omega
    have ba:=(((EH HG.out (by rw[<-Gy.out];exact HO.2.1) L.2.2.2.1.1 L.2.2.2.1.2 L.2.2.1.1 L.2.2.1.2.1.symm L.2.2.2.2.2.2.1 L.2.2.2.2.2.2.2 L.2.2.2.2.2.1 b.2.2.2.2.2.2.2.2.2.2.1 HO.2.2.2).aey (gc':=E)<|by have:=aW.out;omega).stays);have e9:t.2.1={QQ.rest with next:=m.2.1.next}:=by rw[L.2.2.1.2.2,Gy.out]
    rw[<-e9]at ba;have bb:rY wG hp p h (cx cpG bTG lpG wG) (k+2) [t.2.1] t.2.1 E false false:=⟨cpG,gpG,bTG,lpG,bNB,_,lG,dG,H,mk,mk,rfl,c7,ba⟩;have g3:=af L.1.mem.kb 3;have cz:=aq L.1.mem.kb 3;simp at g3;have⟨wH,an⟩:=gb <|wG.setCell ⟨f,3,none⟩ (.int .u64 (E:Int));have M8:=L.1.mem.set (w':=wH) (gc':=E) (sk':=false) (hu':=false) (by rw[an];exact Fr.cG dv _ _) (by rw[an];simpa using aF L.1.mem.kb 3<|.int .u64 (E:Int));have L8:=L.1.mem.mh [] 3<|.int .u64 (E:Int);rw[<-an]at L8;have⟨dd,d8,n8,Wr⟩:=bb.mg;have A8:=L.1.law Wr M8 L8 L.1.free;have O8:=ku.mW (o:=.on _ _ _ _ _) bb L8;have F8:=L.2.1.trans<|iw.QW L8;have lJ:=yX (x:=t) O8 A8.mem.kb A8.ref dp;have k1:=af A8.mem.kb 1;simp at k1;have H8:=ah<|zzb A8<|zzb O8 F8;have ck:E<=100*(k+2):=by have:=aW.out;omega
    clear cE c7 ba e9 bb M8 L8 Wr A8 O8 F8 L;go_upto_region 22 with fail;rw[<-an];clear an g3 cz iK jK;go_wp2_with fail;refine lJ.mono ?_;clear lJ k1;rintro e wZ ⟨rfl,hfZ⟩;have⟨de,d9,n9,bX⟩:=ku.mg H8.2.1;have A9:=H8.1.new bX hfZ;have O9:=ku.new (o:=.on _ _ _ _ _) H8.2.1 hfZ;have H9:=ah<|H8.2.2.trans<|iw.new hfZ H8.1.size;have cb:=JS A9 O9 dp;clear hfZ bX A9 O9 H8;go_wp2_with fail;refine cb.mono ?_;clear cb;rintro e wY ⟨rfl,soY,SY,hY1,hY2,hY3⟩;have HY:Hid (Af w wY hp p h f<|k+2):=⟨_,_,_,_,_,_,_,hY1,H9.out.trans hY3,hY2,ck⟩;clear hY1 hY2 hY3 H9;go_wp2;go_ret;exact⟨rfl,HY.out⟩
end
end
end Go.Proofs.YtlgeloebpdmnnaaGreatDoor
