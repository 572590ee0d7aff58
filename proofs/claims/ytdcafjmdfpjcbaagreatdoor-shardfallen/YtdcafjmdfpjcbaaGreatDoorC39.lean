import Derived.Test.YtdcafjmdfpjcbaaGreatDoorC38
import Derived.Test.YtdcafjmdfpjcbaaGreatDoorC24
namespace Go.Proofs.YtdcafjmdfpjcbaaGreatDoor
open Go.RowKit Go.Maps Tryz Sc
variable{Y:List Rec}{T c f g mk:Nat}{d d':ah}{F:az}
def E4(mk T:Nat)(Y:List Rec)(f:Nat)(F:az):Prop :=
 ∃(m:Nat) (ss:List Sg) (k:Nat),br F m ss/\iZ F m ss/\mk<=m/\(m=mk\/m<=T)/\f<=k/\k<=Y.length/\m - mk<=k/\(chunks ss).flatten=(Y.take k).drop (m - mk)
theorem E4.of{k:Nat}{ss:List Sg}(a:br F mk ss)(b:iZ F mk ss)(h:f<=k)(c:k<=Y.length)(e:(chunks ss).flatten=Y.take k):E4 mk T Y f F:=
 ⟨mk,ss,k,a,b,zzc _,.inl rfl,h,c,oE,by rw[e];simp⟩
theorem E4.more(h:E4 mk T Y f F)(Z:List Rec):E4 mk T (Y++Z) f F:=by
 have⟨m,ss,k,b,g,j,c,a,i,d,e⟩:=h;refine⟨m,ss,k,b,g,j,c,a,by rw[zzi];omega,d,?_⟩;rw[e,List.take_append_of_le_length i]
theorem Kd(X c:List Rec)(k:Nat):(X++c).take (X.length+k)=X++c.take k:=by
 rw[List.take_append,zzt oE];congr 2;omega
section
variable{l:aq}{d:ah}{mk:Nat}{ss:List Sg}{c1:List Rec}
theorem iR.Zc(h:iR l d mk ss c1)(b:iZ d.ai mk ss){F:az}(a:Left d.ai d.pending F):
  ∃g k,k<=c1.length/\br F mk g/\iZ F mk g/\(chunks g).flatten=(chunks ss).flatten++c1.take k:=by
 have same:∃g k,k<=c1.length/\br d.ai mk g/\iZ d.ai mk g/\(chunks g).flatten=(chunks ss).flatten++c1.take k:=⟨ss,0,zzs _,h.st,b,sE⟩;rcases h.mode with⟨o,c,m,f,i⟩|⟨u,j,n,o,c,m,f,i,p⟩|⟨o,c,m,f,i,p⟩
 .rw[c]at a;rw[Ac a];exact same
 .obtain⟨g,k,a1,a2,_,a4,_⟩:=h.abp a;refine⟨g,k,a1,a2,.inl ?_,a4⟩;intro e;rw[e,n,aZ,dK]at a4;have:=congrArg List.length a4;have hp:0<j.length:=zzE.2 (h.st.ne (j,[])<|by rw[n];simp);simp at this;omega
 .rw[c]at a;obtain e|⟨k,t,hk,hj,e⟩:=xB h.Ce a
  .simp_all
  .rw[e];have r:=pB c1 k;by_cases B:c1.take k=[]
   .rw[B];have q:dt []++t=t:=by simp[dt]
    rw[q];refine⟨ss,0,zzs _,h.st.WZ h.clean hj,?_,sE⟩;obtain b|⟨gw,cU⟩:=b
    .exact .inl b
    .by_cases s:ss=[]
     .subst s;refine .inr ⟨gw,λnm M=>?_⟩;by_cases e:nm=ar (aw mk [])
      .rw[e,gX,gw]
      .rw[eC _ _ e]at M;exact cU nm M
     .exact .inl s
   .exact⟨ss++[(c1.take k,t)],k,hk,h.st.more h.clean B (AU h.Cc k) (uj h.Ce k) hj oE<|by rw[zzm];have:=h.tz;omega,.inl sE,by rw[aZ,dK]⟩
theorem iR.zh(h:iR l d mk ss c1)(u:iZ d.ai mk ss){d':ah}(p:d'.ai=d.pending.foldl cV d.ai)(i:d'.now=d.now)(t:d'.pending=[]):
  ∃g,iR {l with ai:=l.next} d' mk g []/\iZ d'.ai mk g/\(chunks g).flatten=(chunks ss).flatten++c1/\d'.now=d'.ai:=by
 have⟨g,c,b,_⟩:=h.synced p i t;refine⟨g,c,?_,b,?_⟩
 .by_cases e:g=[]
  .rw[e]at b;have z:=congrArg List.length b;simp only[List.map_nil,List.flatten_nil,List.length_nil,zzi]at z;have v:c1=[]:=List.length_eq_zero_iff.1 oE;have D:ss=[]:=by
    cases ss with
    |nil=>rfl
    |cons s r=>
     have:=zzE.2 (h.st.ne s sE);simp at z;omega
   rcases h.mode with⟨a,j,f,k,n⟩|⟨m,o,q,a,_⟩|⟨a,_⟩
   .grind
   .grind
   .grind
  .exact .inl e
 .rcases c.mode with⟨a,j,f,k,n⟩|⟨m,o,q,a,_⟩|⟨a,_⟩
  .exact f
  .grind
  .grind
theorem iR.Ke(h:iR l d mk ss c1):l.ai-mk=(chunks ss).flatten.length/\mk<=l.ai:=by
 have:=h.j8;unfold aw at this;omega
theorem iR.sure(h:iR l d mk ss c1)(g:iZ d.ai mk ss)(T:Nat):gF (E4 mk T ((chunks ss).flatten++c1)<|l.ai-mk) d where
 left:=λF i=>by
  have⟨j,k,f,b,c,a⟩:=h.Zc g i;apply E4.of (k:=(chunks ss).flatten.length+k) b c (by rw[h.Ke.1];omega) (by rw[zzi];omega);rw[a,Kd]
 now:=λ_=>by
  have⟨j,f,b,c,a⟩:=h.zh g (d':={d with ai:=d.pending.foldl cV d.ai,pending:=[]}) rfl rfl rfl;have e:=a;refine⟨?_,e.symm⟩;rw[e];apply E4.of f.st b (by rw[h.Ke.1,zzi];omega) (zzc _);rw[List.take_length];exact c
structure abt(l:aq)(d:ah)(mk T:Nat)(X Y:List Rec):Prop where
 fail:l.failed≠0
 recs:l.recs=X
 next:l.next=mk+X.length
 j8:mk<=l.ai/\l.ai<=l.next
 segs:l.filled<600->l.segs≠[]
 sure:gF (E4 mk T Y (l.ai-mk)) d
def VB(l':aq)(d':ah)(c:Nat)(mk T:Nat)(X Y:List Rec):Prop :=
 (c=9/\d'.down=false\/c=10/\d'.down=true)/\abt l' d' mk T X Y
theorem iR.sg'(h:iR l d mk ss c1):l.filled<600->l.segs≠[]:=h.sg
theorem iR.fell(h:iR l d mk ss c1)(b:iZ d.ai mk ss)(i:d.down=false){d':ah}{c T:Nat}{Z:List Rec}(g:d'.ai=d.ai)(e:d'.now=d.now)(a:d'.pending=d.pending)(j:c=9/\d'.down=false\/c=10/\d'.down=true):VB {l with failed:=c} d' c mk T ((chunks ss).flatten++c1) ((chunks ss).flatten++c1++Z):=by
 refine⟨j,⟨by show c≠0;omega,h.recs,?_,⟨h.Ke.2,?_⟩,h.sg',((h.sure b T).same i g a e).mono λF f=>f.more Z⟩⟩
 .show l.next=_;rw[h.next,zzi];unfold aw;omega
 .show l.ai<=l.next;rw[h.j8,h.next];omega
theorem iR.Mf(h:iR l d mk ss c1)(i:iZ d.ai mk ss)(v:d.down=false)(T kind:Nat)(z:kind<256)(s:ByteArray)(D:s.size<=255)(q:l.next+1<2^64):
  ((l.append d kind s).2.2.1=l.next/\(l.append d kind s).2.2.2=0/\(l.append d kind s).2.1.down=false/\∃k Y,iR (l.append d kind s).1 (l.append d kind s).2.1 mk k Y/\iZ (l.append d kind s).2.1.ai mk k/\(chunks k).flatten++Y=(chunks ss).flatten++c1++[⟨l.next,kind,bytesOf s⟩]/\(chunks ss).flatten.length<=(chunks k).flatten.length) \/
  ((l.append d kind s).2.2.1=0/\VB (l.append d kind s).1 (l.append d kind s).2.1 (l.append d kind s).2.2.2 mk T ((chunks ss).flatten++c1) ((chunks ss).flatten++c1++[⟨l.next,kind,bytesOf s⟩])):=by
 have hlen:=dC s;have n:(⟨l.next,kind,bytesOf s⟩:Rec).kind<256/\(⟨l.next,kind,bytesOf s⟩:Rec).pay.length<=255/\k9 (⟨l.next,kind,bytesOf s⟩:Rec).pay:=⟨z,by show(bytesOf s).length<=255;omega,jN s⟩
 -- how it ends where the put has failed
 have g:∀(j:aq) (m:ah) (c:Nat),l.put d (ax l.next kind<|bytesOf s)=(j,m,c)->c≠0->l.append d kind s=({j with failed:=c},m,0,c):=λj m c e y=>by
  have r:l.wr d (l.put d<|ax l.next kind<|bytesOf s)=({j with failed:=c},m,c):=by unfold aq.wr;rw[if_pos h.eD,e]
  unfold aq.append;rw[if_neg oE,r];simp only;rw[if_neg y]
 by_cases p:l.filled<600
 .have A:l.room d=(l,d,0):=by unfold aq.room;rw[if_pos p]
  have⟨o,a⟩:∃o:iD,o=⟨2,ar<|l.segs.getLastD 0,yA,str<|ax l.next kind<|bytesOf s⟩:=⟨_,rfl⟩;have X:l.put d (ax l.next kind<|bytesOf s)=(l,(d.tell o).1,(d.tell o).2):=by grind[aq.put]
  rcases AQ d o (by rw[a];simp)with t|t|t
  .left;have r:l.wr d (l.put d<|ax l.next kind<|bytesOf s)=(l,(d.tell o).1,0):=by
    unfold aq.wr;rw[if_pos h.eD,X,t.1];simp only[h.eD.symm]
   have Z:l.append d kind s=({l with filled:=l.filled+(15+s.size),recs:=l.recs++[⟨l.next,kind,bytesOf s⟩],next:=l.next+1},(d.tell o).1,l.next,0):=by grind[aq.append]
   rw[Z];refine⟨rfl,rfl,t.2.2.2.2,ss,c1++[⟨l.next,kind,bytesOf s⟩],?_,by show iZ (d.tell o).1.ai mk ss;rw[t.2.1];exact i,by rw[zzx],zzc _⟩;have:=h.told p n rfl q t.2.1 (by rw[t.2.2.1,a];rfl) (by rw[t.2.2.2.1,a];rfl);simp only at this;rw[hlen]at this;exact this
  .right;rw[g l (d.tell o).1 9 (by rw[X,t.1]) oE];exact⟨rfl,h.fell i v t.2.1 t.2.2.1 t.2.2.2.1<|.inl ⟨rfl,t.2.2.2.2⟩⟩
  .right;rw[g l (d.tell o).1 10 (by rw[X,t.1]) oE];have u:=h.told (d':={d with pending:=d.pending++[o],now:=cV d.now o}) p n rfl q rfl (by show cV d.now o=_;rw[a];rfl) (by show d.pending++[o]=_;rw[a];rfl);have U:=u.sure (by exact i) T;refine⟨rfl,.inr ⟨rfl,t.2.2.2.2⟩,⟨sE,h.recs,?_,⟨h.Ke.2,?_⟩,h.sg',⟨λF f=>?_,λB=>?_⟩⟩⟩
   .show l.next=_;rw[h.next,zzi];unfold aw;omega
   .show l.ai<=l.next;rw[h.j8,h.next];omega
   .have:=U.left F (by rw[t.2.1,t.2.2.2.1]at f;exact f);rw[<-zzx]at this;exact this
   .grind
 .rcases iL d with b|b
  .obtain⟨nO,h2,cU,k_,J8⟩:=h.zh i b.2.1 b.2.2.1 b.2.2.2.1;have w:l.sync d=({l with ai:=l.next},d.sync.1,0):=by grind[aq.sync]
   have A:l.room d=({l with ai:=l.next,segs:=l.segs++[l.next],filled:=0},d.sync.1,0):=by grind[aq.room]
   have⟨o,a⟩:∃o:iD,o=⟨2,ar l.next,yA,str<|ax l.next kind<|bytesOf s⟩:=⟨_,rfl⟩;have X:l.put d (ax l.next kind<|bytesOf s)=({l with ai:=l.next,segs:=l.segs++[l.next],filled:=0},(d.sync.1.tell o).1,(d.sync.1.tell o).2):=by grind[aq.put]
   have J:l.next=mk+((chunks ss).flatten++c1).length:=by rw[h.next,zzi];unfold aw;omega
   have C:l.next-mk=((chunks ss).flatten++c1).length:=oE;rcases AQ d.sync.1 o (by rw[a];simp)with t|t|t
   .left;have r:l.wr d (l.put d<|ax l.next kind<|bytesOf s)=({l with ai:=l.next,segs:=l.segs++[l.next],filled:=0},(d.sync.1.tell o).1,0):=by
     unfold aq.wr;rw[if_pos h.eD,X,t.1];simp only[h.eD.symm]
    have Z:l.append d kind s=({l with ai:=l.next,segs:=l.segs++[l.next],filled:=0+(15+s.size),recs:=l.recs++[⟨l.next,kind,bytesOf s⟩],next:=l.next+1},(d.sync.1.tell o).1,l.next,0):=by grind[aq.append]
    rw[Z];refine⟨rfl,rfl,t.2.2.2.2,nO,[⟨l.next,kind,bytesOf s⟩],?_,by show iZ (d.sync.1.tell o).1.ai mk nO;rw[t.2.1];exact cU,by rw[k_],by rw[k_];simp⟩;have:=h2.Me n rfl q t.2.1 (by rw[t.2.2.1,a];rfl) (by rw[t.2.2.2.1,a];rfl);simp only at this;rw[hlen]at this;exact this
   .right;rw[g _ (d.sync.1.tell o).1 9 (by rw[X,t.1]) oE];refine⟨rfl,.inl ⟨rfl,t.2.2.2.2⟩,⟨sE,h.recs,J,⟨by show mk<=l.next;omega,zzc _⟩,λ_=>sE,?_⟩⟩;have:=(h2.sure cU T).same b.2.2.2.2 t.2.1 t.2.2.2.1 t.2.2.1;rw[k_,List.append_nil]at this;exact this.mono λF f=>f.more _
   .right;rw[g _ (d.sync.1.tell o).1 10 (by rw[X,t.1]) oE];have u:=h2.Me (d':={d.sync.1 with pending:=d.sync.1.pending++[o],now:=cV d.sync.1.now o}) n rfl q rfl (by show cV d.sync.1.now o=_;rw[a];rfl) (by show d.sync.1.pending++[o]=_;rw[a];rfl);have U:=u.sure (by exact cU) T;refine⟨rfl,.inr ⟨rfl,t.2.2.2.2⟩,⟨sE,h.recs,J,⟨by show mk<=l.next;omega,zzc _⟩,λ_=>sE,⟨λF f=>?_,λB=>?_⟩⟩⟩
    .have:=U.left F (by rw[t.2.1,t.2.2.2.1]at f;exact f);rw[k_]at this;exact this
    .grind
  .right;have w:l.sync d=(l,d.sync.1,d.sync.2):=by grind[aq.sync]
   have A:l.room d=(l,d.sync.1,d.sync.2):=by grind[aq.room]
   have X:l.put d (ax l.next kind<|bytesOf s)=(l,d.sync.1,d.sync.2):=by grind[aq.put]
   rw[g _ _ _ X b.1];exact⟨rfl,h.fell i v b.2.1 b.2.2.1 b.2.2.2.1 b.2.2.2.2⟩
theorem iR.Ze(h:iR l d mk ss c1)(b:iZ d.ai mk ss)(i:d.down=false)(T:Nat):
  ((l.force d).2.2=0/\(l.force d).2.1.down=false/\∃g,iR (l.force d).1 (l.force d).2.1 mk g []/\iZ (l.force d).2.1.ai mk g/\(chunks g).flatten=(chunks ss).flatten++c1) \/
  VB (l.force d).1 (l.force d).2.1 (l.force d).2.2 mk T ((chunks ss).flatten++c1) ((chunks ss).flatten++c1):=by
 unfold aq.force;by_cases q:l.ai=l.next
 .rw[if_pos q];have j:c1=[]:=by
   have m:=h.j8;have f:=h.next;exact List.length_eq_zero_iff.1 oE
  subst j;exact .inl ⟨rfl,i,ss,h,b,sE⟩
 .rw[if_neg q];obtain c|c:=iL d
  .left;have⟨O,f,U,k,_⟩:=h.zh b c.2.1 c.2.2.1 c.2.2.2.1;have a:l.sync d=({l with ai:=l.next},d.sync.1,0):=by grind[aq.sync]
   have e:l.wr d (l.sync d)=({l with ai:=l.next},d.sync.1,0):=by
    unfold aq.wr;rw[if_pos h.eD,a];simp only[h.eD.symm]
   rw[e];exact⟨rfl,c.2.2.2.2,O,f,U,k⟩
  .right;have a:l.sync d=(l,d.sync.1,d.sync.2):=by grind[aq.sync]
   have e:l.wr d (l.sync d)=({l with failed:=d.sync.2},d.sync.1,d.sync.2):=by
    unfold aq.wr;rw[if_pos h.eD,a]
   rw[e];have:=h.fell (T:=T) (Z:=[]) b i c.2.1 c.2.2.1 c.2.2.2.1 c.2.2.2.2;rw[List.append_nil]at this;exact this
end
theorem Mg:∀{cs:List (List Rec)},(∀c∈cs,c≠[])->cs.length<=cs.flatten.length
 |[],_=>zzc _
 |c::cs,h=>by
  have d:0<c.length:=zzE.2 (h c sE);have b:=Mg (cs:=cs) (λx a=>h x<|by simp[a]);simp at b ⊢;omega
theorem W_(d:ah)(o:iD)(c:2<o.kind->d.now o.name≠none)(b:o.kind=4->o.name≠o.to):((d.tell o).2=0/\(d.tell o).1.ai=d.ai/\(d.tell o).1.now=cV d.now o/\(d.tell o).1.pending=d.pending++[o]/\(d.tell o).1.down=false) \/
  ((d.tell o).2=9/\(d.tell o).1.ai=d.ai/\(d.tell o).1.now=d.now/\(d.tell o).1.pending=d.pending/\(d.tell o).1.down=false) \/
  ((d.tell o).2=10/\(d.tell o).1.ai=d.ai/\(d.tell o).1.now=d.now/\(d.tell o).1.pending=d.pending++[o]/\(d.tell o).1.down=true):=by
 have s:=gM d;unfold ah.tell;rcases rU d with⟨h,a⟩|⟨h,a⟩|⟨h,a⟩
 .left;simp only[h];have hn:¬(d.writes.1.now o.name=none/\2<o.kind):=λe=>c e.2<|by have:=e.1;rw[s]at this;exact this
  rw[if_neg oE,if_neg oE,if_neg hn,if_neg λe=>b e.1 e.2];refine⟨rfl,?_,?_,?_,a⟩
  .grind
  .show cV d.writes.1.now o=_;rw[s]
  .grind
 .grind
 .grind
def az.marked(F:az)(first:Nat):az:=((F.set cf (some (str (ax first 0 [])))).set dP (some (str (ax first 0 [])))).set cf none
def EB(F:az)(first:Nat)(G:az):Prop:=G=F\/(∃x,G=F.set cf x)\/G=F.marked first
theorem AY(F:az)(first:Nat):cV (F.set cf<|some<|str<|ax first 0 []) ⟨4,cf,dP,yA⟩=F.marked first:=by grind[cV,az.marked,az.jk]
theorem RZ(first:Nat)(i:d.ai=F)(k:d.pending=[])(l:d.now=F):
  ((d.bh first).2=0/\(d.bh first).1.down=false/\(d.bh first).1.pending=[]/\(d.bh first).1.ai=F.marked first/\(d.bh first).1.now=F.marked first) \/
  ((d.bh first).2≠0/\((d.bh first).2=9/\(d.bh first).1.down=false\/(d.bh first).2=10/\(d.bh first).1.down=true)/\gF (EB F first) (d.bh first).1):=by
 have⟨o,c⟩:∃o:iD,o=⟨1,cf,yA,str<|ax first 0 []⟩:=⟨_,rfl⟩;have⟨q,f⟩:∃q:iD,q=⟨4,cf,dP,yA⟩:=⟨_,rfl⟩
 have U:d.bh first=if (d.tell o).2=0 then (if (d.tell o).1.sync.2=0 then (if ((d.tell o).1.sync.1.tell q).2=0 then ((d.tell o).1.sync.1.tell q).1.sync else (d.tell o).1.sync.1.tell q)else (d.tell o).1.sync)else d.tell o:=by
  rw[c,f];rfl
 have j:cV F o=F.set cf (some<|str<|ax first 0 []):=by rw[c];rfl
 have X:∀G,Left F [o] G->EB F first G:=λG h=>by
  rcases Gr h (by rw[c];simp)with e|e|⟨_,z,e⟩
  .exact .inl e
  .exact .inr<|.inl ⟨_,e.trans j⟩
  .exact .inr<|.inl ⟨some<|(str<|ax first 0 []).extract 0 z,by rw[e,c];rfl⟩
 have R:∀G,Left (F.set cf<|some<|str<|ax first 0 []) [q] G->EB F first G:=λG h=>by
  rcases Gr h (by rw[f];simp)with e|e|⟨h1,_⟩
  .exact .inr<|.inl ⟨_,e⟩
  .exact .inr<|.inr<|by rw[e,f,AY]
  .grind
 rcases W_ d o (by rw[c];simp) (by rw[c];simp)with a|a|a
 .rw[if_pos a.1]at U;obtain b|b:=iL (d.tell o).1
  .rw[if_pos b.1]at U;have g:(d.tell o).1.sync.1.ai=F.set cf (some<|str<|ax first 0 []):=by grind
   have n:(d.tell o).1.sync.1.now=F.set cf (some<|str<|ax first 0 []):=by grind
   rcases W_ (d.tell o).1.sync.1 q (λ_=>by rw[n,f];simp[az.jk]) (λ_=>by rw[f];exact y_.2)with t|t|t
   .rw[if_pos t.1]at U;have m:((d.tell o).1.sync.1.tell q).1.now=F.marked first:=by grind[AY]
    have p:((d.tell o).1.sync.1.tell q).1.pending=[q]:=by grind
    have r:((d.tell o).1.sync.1.tell q).1.pending.foldl cV ((d.tell o).1.sync.1.tell q).1.ai=F.marked first:=by grind
    obtain s|s:=iL ((d.tell o).1.sync.1.tell q).1
    .grind
    .right;rw[U];refine⟨s.1,s.2.2.2.2,⟨λG h=>R G ?_,λ_=>⟨.inr<|.inr<|by rw[s.2.2.1,m],by rw[s.2.1,s.2.2.2.1,s.2.2.1,r,m]⟩⟩⟩;rw[s.2.1,s.2.2.2.1,p,t.2.1,g]at h;exact h
   .right;rw[if_neg oE]at U;rw[U];exact⟨oE,.inl ⟨t.1,t.2.2.2.2⟩,gF.rest (.inr<|.inl ⟨_,by rw[t.2.1,g]⟩) (by rw[t.2.2.2.1,b.2.2.2.1])<|by rw[t.2.2.1,t.2.1,n,g]⟩
   .right;rw[if_neg oE]at U;rw[U];refine⟨oE,.inr ⟨t.1,t.2.2.2.2⟩,⟨λG h=>R G ?_,λx=>by rw[t.2.2.2.2]at x;cases x⟩⟩;rw[t.2.1,t.2.2.2.1,b.2.2.2.1,g]at h;exact h
  .right;rw[if_neg b.1]at U;rw[U];refine⟨b.1,b.2.2.2.2,⟨λG h=>X G ?_,λ_=>⟨.inr<|.inl ⟨_,by rw[b.2.2.1,a.2.2.1,l];exact j⟩,?_⟩⟩⟩
   .grind
   .grind
 .right;rw[if_neg oE]at U;rw[U];exact⟨oE,.inl ⟨a.1,a.2.2.2.2⟩,gF.rest (.inl<|by rw[a.2.1,i]) (by rw[a.2.2.2.1,k])<|by rw[a.2.2.1,a.2.1,i,l]⟩
 .right;rw[if_neg oE]at U;rw[U];refine⟨oE,.inr ⟨a.1,a.2.2.2.2⟩,⟨λG h=>X G ?_,λx=>by rw[a.2.2.2.2]at x;cases x⟩⟩;rw[a.2.1,a.2.2.2.1,i,k]at h;exact h
section
variable{F:az}{mk:Nat}{ss:List Sg}
theorem br.VC(h:br F mk ss)(x:Option ByteArray):br (F.set cf x) mk ss:=by
 have R:∀u,(F.set cf x) (ar u)=F (ar u):=λu=>az.cP _ _ (bm u).2
 refine {mark:=?_,pos:=h.pos,ne:=h.ne,files:=λk s b=>by rw[R];exact h.files k s b,sJ:=h.sJ,size:=h.size,nk:=h.nk,fine:=h.fine,other:=λnm M=>?_,dead:=λt a=>h.dead t<|by rw[<-R];exact a,tz:=h.tz}
 .rw[az.cP _ _ λe=>y_.2 e.symm];exact h.mark
 .by_cases e:nm=cf
  .grind
  .rw[az.cP _ _ e]at M;exact h.other nm M
theorem EC(ss:List Sg)(g k:Nat):ss.take (g+k)=ss.take g++(ss.drop g).take k:=by grind
theorem A8(mk:Nat)(a b:List Sg):aw mk (a++b)=aw (aw mk a) b:=by
 unfold aw chunks;simp;omega
theorem br.marked(h:br F mk ss){g:Nat}(w:g<ss.length):br (F.marked<|aw mk<|ss.take g) (aw mk<|ss.take g) (ss.drop g):=by
 have R:∀u,(F.marked<|aw mk<|ss.take g) (ar u)=F (ar u):=λu=>by
  unfold az.marked;rw[az.cP _ _ (bm u).2,az.cP _ _ (bm u).1,az.cP _ _ (bm u).2]
 have n:aw (aw mk<|ss.take g) (ss.drop g)=aw mk ss:=by rw[<-A8,List.take_append_drop]
 have K:(chunks ss).flatten=(chunks<|ss.take g).flatten++(chunks<|ss.drop g).flatten:=by
  rw[<-List.flatten_append,<-List.map_append,List.take_append_drop]
 have p:starts mk (chunks ss)=starts mk (chunks<|ss.take g)++starts (aw mk<|ss.take g) (chunks<|ss.drop g):=by
  have:=qI (chunks ss) mk g;have j:starts mk (chunks<|ss.take g)=(starts mk<|chunks ss).take g:=by
   apply List.ext_getElem?;intro i;rw[List.getElem?_take];split
   .grind [jO,eG]
   .grind [ei]
  rw[j];have a:starts (aw mk<|ss.take g) (chunks<|ss.drop g)=(starts mk<|chunks ss).drop g:=by
   rw[this];unfold aw;rw[eG];congr 1;simp[chunks,List.map_drop]
  rw[a,List.take_append_drop]
 refine {mark:=.inr ?_,pos:=zzk h.pos<|by unfold aw;omega,ne:=λs b=>h.ne s<|List.mem_of_mem_drop b,files:=λk s d=>?_,sJ:=λs b=>h.sJ s<|List.mem_of_mem_drop b,size:=λs b=>h.size s<|List.mem_of_mem_drop b,nk:=λk r d=>?_,fine:=λr q=>h.fine r<|by rw[K];exact List.mem_append_right _ q,other:=λnm M=>?_,dead:=λt m=>h.dead t<|by rw[n,R]at m;exact m,tz:=by rw[n];exact h.tz}
 .unfold az.marked;rw[az.cP _ _ λe=>y_.2 e.symm,az.jk]
 .rw[R,<-A8,<-EC];rw[List.getElem?_drop]at d;exact h.files (g+k) s d
 .have:=h.nk ((chunks<|ss.take g).flatten.length+k) r (by rw[K,List.getElem?_append_right oE];rw[<-d];congr 1;omega);rw[this];unfold aw;omega
 .by_cases o:nm=dP
  .grind
  .by_cases l:nm=cf
   .grind
   .unfold az.marked at M;rw[az.cP _ _ l,az.cP _ _ o,az.cP _ _ l]at M;obtain f|f|⟨u,f,j,a⟩:=h.other nm M
    .grind
    .grind
    .refine .inr<|.inr ⟨u,f,j,?_⟩;rw[n];obtain a|a|a:=a
     .grind [aw]
     .rw[p]at a;obtain a|a:=zzo.1 a
      .left;exact xl _ mk (λc v=>h.ne' c (by
        obtain⟨s,b,rfl⟩:=zzq.1 v;exact zzq.2 ⟨s,List.mem_of_mem_take b,rfl⟩)) u a
      .exact .inr<|.inl a
     .grind
theorem GY{g:Nat}(h:g<ss.length):kX (ss.drop g)=kX ss:=by grind[kX]
end
section
variable{l:aq}{d:ah}{mk:Nat}{ss:List Sg}{c1:List Rec}
def aq.pD(l:aq)(d:ah)(low:Nat):Nat:=if bU l.segs low=0 then 0 else l.pZ d (bU l.segs low) (l.segs.getD (bU l.segs low) 0)
structure adF(l:aq)(d:ah)(mk:Nat)(X:List Rec)(low:Nat)(r:aq × ah × Nat)(mk':Nat)(fg:List Sg):Prop where
 ret:r.2.2=0
 up:r.2.1.down=false
 log:iR r.1 r.2.1 mk' fg []
 bare:iZ r.2.1.ai mk' fg
 ge:mk<=mk'
 le:mk'=mk\/mk'<=low/\mk' < l.next
 len:mk' - mk<=X.length
 recs:(chunks fg).flatten=X.drop (mk' - mk)
 two:∀x,r.1.segs[1]?=some x->low<x
 gone:mk+l.pD d low<=mk'
theorem iR.adG(h:iR l d mk ss c1)(hb:iZ d.ai mk ss)(hd:d.down=false)(low T:Nat)(hT:low<=T\/l.next<=T):
  (∃q w,adF l d mk ((chunks ss).flatten++c1) low (l.cut d low) q w) \/
  (VB (l.cut d low).1 (l.cut d low).2.1 (l.cut d low).2.2 mk T ((chunks ss).flatten++c1) ((chunks ss).flatten++c1)/\gF (λF=>∃q w,br F q w/\mk+l.pD d low<=q) (l.cut d low).2.1):=by
 have⟨p1,V⟩:=qJ l.segs low;have⟨X,hX⟩:=xY <|(chunks ss).flatten++c1;have kJ:l.next=mk+X.length:=by rw[h.next,hX,zzi];unfold aw;omega
 obtain k|k:=iL d
 .obtain⟨nO,i,cU,k_,J8⟩:=h.zh hb (d':=d.sync.1) k.2.1 k.2.2.1 k.2.2.2.1;have v:l.sync d=({l with ai:=l.next},d.sync.1,0):=by grind[aq.sync]
  rw[<-hX]at k_ ⊢;by_cases p:bU l.segs low=0
  .left;have D:l.wr d (l.sync d)=({l with ai:=l.next},d.sync.1,0):=by
    unfold aq.wr;rw[if_pos h.eD,v];simp only[h.eD.symm]
   have e:l.cut d low=({l with ai:=l.next},d.sync.1,0):=by unfold aq.cut;rw[if_pos p,D]
   rw[p]at V;rw[e];exact⟨mk,nO,⟨rfl,k.2.2.2.2,i,cU,zzc _,.inl rfl,oE,by rw[k_];simp,λx hx=>V x hx,by unfold aq.pD;rw[if_pos p];omega⟩⟩
  .have vS:l.segs=starts mk (chunks nO)/\l.filled=kX nO:=by
    rcases i.mode with⟨h1,i,E,h4,h5⟩|⟨ds,c0,h0,h1,_⟩|⟨h1,_⟩
    .grind
    .grind
    .grind
   have Q:=vk p;have⟨g,Y⟩:=xY <|bU l.segs low;rw[<-Y]at p1 V Q p;have L:g<nO.length:=by rw[vS.1,ei]at Q;simpa using Q
   have al:l.pD d low<=g:=by unfold aq.pD;rw[if_neg<|by rw[<-Y];exact p,<-Y];exact DX _ _ _ _
   obtain⟨first,J⟩:∃first,first=aw mk (nO.take g):=⟨_,rfl⟩
   have gJ:l.segs[g]?=some first:=by
    rw[vS.1,jO _ _ g<|by simpa using L,J];unfold aw;rw[eG]
   have o_:l.segs.getD g 0=first:=by grind
   have lj:first<=low:=by grind
   have C:=i.st.marked L;rw[<-J]at C
   have uK:(chunks nO).flatten=(chunks<|nO.take g).flatten++(chunks<|nO.drop g).flatten:=by
    rw[<-List.flatten_append,<-List.map_append,List.take_append_drop]
   have ab:first-mk=(chunks<|nO.take g).flatten.length/\mk<=first:=by rw[J];unfold aw;omega
   have an:mk+g<=first:=by
    have hl:=Mg (λc A=>i.st.ne' c (by rw[eG]at A;exact List.mem_of_mem_take A):∀c∈chunks (nO.take g),c≠[]);have pU:(chunks<|nO.take g).length=g:=by simp_all;omega
    omega
   have a6:(chunks<|nO.drop g).flatten=X.drop (first-mk):=by grind
   have R:nO.drop g≠[]:=λe=>by have:=congrArg List.length e;rw[zzz]at this;simp at this;omega
   have Jc:0<(chunks<|nO.drop g).flatten.length:=by
    cases hh:nO.drop g with
    |nil=>exact absurd hh R
    |cons s r=>
     have:=zzE.2 (i.st.ne s<|List.mem_of_mem_drop<|by rw[hh];simp);simp;omega
   have ay:X.length=(chunks<|nO.take g).flatten.length+(chunks<|nO.drop g).flatten.length:=by grind
   have UR:first<l.next:=oE;have K:=(mO (chunks nO) mk i.st.ne').1;rw[<-vS.1]at K;have ak:(l.segs.take g).Nodup:=(K.imp λ{a b} (lY:a<b)=>Nat.ne_of_lt lY).sublist<|List.take_sublist _ _
   have FK:starts first (chunks<|nO.drop g)=l.segs.drop g:=by
    rw[vS.1,qI,J];unfold aw;rw[eG];congr 1;simp[chunks,List.map_drop]
   have MT:∀s∈l.segs.take g,s∉starts first (chunks<|nO.drop g):=λs n B=>by
    rw[FK]at B;have:=K;rw[<-List.take_append_drop g l.segs,List.pairwise_append]at this;exact Nat.lt_irrefl _<|this.2.2 s n s B
   have wR:∀u,(d.sync.1.ai.marked first) (ar u)=d.sync.1.ai (ar u):=λu=>by
    unfold az.marked;rw[az.cP _ _ (bm u).2,az.cP _ _ (bm u).1,az.cP _ _ (bm u).2]
   have a':∀(o:ah) (c:Nat),l.gU d g first=({l with ai:=l.next},o,c)->c≠0->l.cut d low=({l with ai:=l.next,failed:=c},o,c):=λo c e A=>by
    unfold aq.cut;rw[<-Y,if_neg p];simp only;have D:l.wr d (l.gU d g<|l.segs.getD g 0)=({l with ai:=l.next,failed:=c},o,c):=by unfold aq.wr;rw[if_pos h.eD,o_,e]
    rw[D];simp only;rw[if_neg A]
   have a8:∀(o:ah) (c:Nat),c≠0->gF (E4 mk T X X.length) o->abt {l with ai:=l.next,failed:=c} o mk T X X:=λo c A B=>
    ⟨A,by rw[hX];exact h.recs,kJ,⟨by show mk<=l.next;omega,zzc _⟩,h.sg',by show gF (E4 mk T X<|l.next-mk) o;rw[show l.next-mk=X.length by omega];exact B⟩
   have keep:∀(G:az),br G mk nO->E4 mk T X X.length G:=λG j=>E4.of j (.inl λe=>R<|by rw[e];simp) (zzc _) (zzc _)<|by rw[k_,List.take_length]
   have a7:∀(G:az),br G first (nO.drop g)->E4 mk T X X.length G:=λG j=>⟨first,nO.drop g,X.length,j,.inl R,ab.2,.inr oE,zzc _,zzc _,oE,by rw[List.take_length,a6]⟩
   rcases RZ (d:=d.sync.1) first rfl k.2.2.2.1 J8 with⟨z,P,N,m4,m5⟩|⟨z,P,N⟩
   .have M:l.gU d g first=({l with ai:=l.next},(d.sync.1.bh first).1.removeAll<|(l.segs.take g).map ar):=by
     unfold aq.gU;rw[v];simp only[if_true];rw[if_pos z]
    have VA:((l.segs.take g).map ar).Nodup:=by
     unfold List.Nodup;rw[List.pairwise_map];exact List.Pairwise.imp (λad e=>ad<|eR e) ak
    have S:∀m∈(l.segs.take g).map ar,∃u,m=ar u/\u∉starts first (chunks<|nO.drop g):=λm n=>by
     obtain⟨u,t,rfl⟩:=zzq.1 n;exact⟨u,rfl,MT u t⟩
    rcases AW ((l.segs.take g).map ar) [] (d:=(d.sync.1.bh first).1) m4 N (by rw[m5];rfl) P VA (λs B=>by
     obtain⟨u,t,rfl⟩:=zzq.1 B;rw[m5,wR]
     exact(i.st.start (by rw[<-vS.1];exact List.mem_of_mem_take t)).1)with⟨I,W,H,r4,r5⟩|⟨I,W,H⟩
    .left;have O:(d.sync.1.ai.marked first).Cg ((l.segs.take g).map ar) ((d.sync.1.bh first).1.removeAll<|(l.segs.take g).map ar).1.ai:=by grind[rY]
     have pX:=C.some_ S O
     have D:l.wr d (l.gU d g<|l.segs.getD g 0)=({l with ai:=l.next},((d.sync.1.bh first).1.removeAll<|(l.segs.take g).map ar).1,0):=by
      unfold aq.wr;rw[if_pos h.eD,o_,M];simp only[I];simp only[h.eD.symm]
     have ao:(l.recs.headD ⟨0,0,[]⟩).cQ=mk:=by
      have y:=i.recs;simp only[List.append_nil]at y;rw[y]
      cases hf:(chunks nO).flatten with
      |nil=>have h9:=congrArg List.length hf;rw[k_]at h9;simp only[List.length_nil]at h9;omega
      |cons r rs=>have:=i.st.nk 0 r (by rw[hf];rfl);simpa using this
     have e:l.cut d low=({l with ai:=l.next,recs:=l.recs.drop<|first-mk,segs:=l.segs.drop g},((d.sync.1.bh first).1.removeAll<|(l.segs.take g).map ar).1,0):=by grind[aq.cut]
     rw[e]
     have pU:Clean ((d.sync.1.bh first).1.removeAll<|(l.segs.take g).map ar).1.ai first (nO.drop g):=λu t=>by
      by_cases n:ar u∈(l.segs.take g).map ar
      .exact absurd ((O _).1 n) t
      .rw[(O _).2 n,wR]at t;have:=i.clean u t;rw[<-vS.1,<-List.take_append_drop g l.segs]at this;rcases zzo.1 this with E|E
       .exact absurd (zzq.2 ⟨u,E,rfl⟩) n
       .rw[FK];exact E
     have na:aw first (nO.drop g)=l.next:=by unfold aw;omega
     refine⟨first,nO.drop g,⟨rfl,W,⟨pX,pU,mS R,?_,?_,h.eD,na.symm,sE,by intro r y;simp at y,by rw[na];have:=i.tz;have:=i.next;simp at *;omega,.rest rfl H r4 FK.symm<|by show l.filled=_;rw[GY L,vS.2]⟩,.inl R,ab.2,.inr ⟨lj,UR⟩,oE,a6,λx hx=>?_,oE⟩⟩
     .show l.recs.drop (first-mk)=_;have y:=i.recs;simp only[List.append_nil]at y;rw[y,k_,a6,List.append_nil]
     .grind
     .grind
    .right;rw[a' _ _ (by rw[M]) I];refine⟨⟨W,a8 _ _ I<|H.mono λG j=>?_⟩,H.mono λG j=>?_⟩
     .obtain⟨ms,a1,a2⟩:=j;exact a7 G<|C.some_ (λm n=>S m<|by simpa using a1 m n) a2
     .obtain⟨ms,a1,a2⟩:=j;exact⟨first,_,C.some_ (λm n=>S m<|by simpa using a1 m n) a2,oE⟩
   .right
    have M:l.gU d g first=({l with ai:=l.next},(d.sync.1.bh first).1,(d.sync.1.bh first).2):=by
     unfold aq.gU;rw[v];simp only[if_true];rw[if_neg z]
    rw[a' _ _ M z]
    have Z4:l.pD d low=0:=by
     unfold aq.pD;rw[<-Y,if_neg p,o_];unfold aq.pZ;rw[v];simp only[if_true];rw[if_neg z]
    have hS:gF (E4 mk T X X.length) (d.sync.1.bh first).1:=N.mono (λG j=>by
     rcases j with e|⟨x,e⟩|e
     .rw[e];exact keep _ i.st
     .rw[e];exact keep _<|i.st.VC x
     .rw[e];exact a7 _ C)
    exact⟨⟨P,a8 _ _ z hS⟩,hS.mono λG j=>by obtain⟨q,w,_,U,_,b3,_⟩:=j;exact⟨q,w,U,oE⟩⟩
 .right;have v:l.sync d=(l,d.sync.1,d.sync.2):=by grind[aq.sync]
  have e:l.cut d low=({l with failed:=d.sync.2},d.sync.1,d.sync.2):=by
   unfold aq.cut;split
   .unfold aq.wr;rw[if_pos h.eD,v]
   .have M:∀g f,l.gU d g f=(l,d.sync.1,d.sync.2):=λg f=>by unfold aq.gU;rw[v];simp only;rw[if_neg k.1]
    simp only;unfold aq.wr;rw[if_pos h.eD,M];simp only;rw[if_neg k.1]
  rw[e];have:=h.fell (T:=T) (Z:=[]) hb hd k.2.1 k.2.2.1 k.2.2.2.1 k.2.2.2.2;rw[List.append_nil]at this;have Z4:l.pD d low=0:=by grind[aq.pD,aq.pZ]
  exact⟨this,this.2.sure.mono λG j=>by have⟨q,w,_,U,_,b3,_⟩:=j;exact⟨q,w,U,oE⟩⟩
end
structure ah.Calm(d:ah)(c:Nat):Prop where
 up:d.down=false
 left:(d.left<0\/(c:Int)<d.left)/\-2^63<=d.left/\d.left<=9223372036854775807
 full:(d.full<0\/(c:Int)<d.full)/\-2^63<=d.full/\d.full<=9223372036854775807
theorem ah.Calm.mono{a:Nat}(h:d.Calm c)(f:a<=c):d.Calm a:=by
 have⟨b,e,g⟩:=h;exact⟨b,oE,oE⟩
theorem yB(h:d.Calm<|c+1)(f:c<4398046511103):d.writes.2=0/\d.writes.1.Calm c:=by
 have⟨a,b,g⟩:=h;have e:=Wh (by rw[a];simp;omega) oE;rw[e];refine⟨rfl,a,?_,?_⟩
 .show(wrap64 (d.left-1)<0\/(c:Int)<wrap64 (d.left-1))/\-9223372036854775808<=wrap64 (d.left-1)/\wrap64 (d.left-1)<=9223372036854775807;unfold wrap64;omega
 .show(wrap64 (d.full-1)<0\/(c:Int)<wrap64 (d.full-1))/\-9223372036854775808<=wrap64 (d.full-1)/\wrap64 (d.full-1)<=9223372036854775807;unfold wrap64;omega
theorem rZ(h:d.Calm<|c+1)(b:c<4398046511103):d.sync.2=0/\d.sync.1.Calm c:=by
 have⟨e,a⟩:=yB h b;rw[yY e];exact⟨rfl,a.up,a.left,a.full⟩
theorem oK(o:iD)(h:d.Calm<|c+1)(b:c<4398046511103):(d.tell o).2≠9/\(d.tell o).2≠10/\(d.tell o).1.Calm c:=by
 have⟨e,a⟩:=yB h b;unfold ah.tell;simp only[e];rw[if_neg oE,if_neg oE];split
 .grind
 .split
  .grind
  .exact⟨oE,oE,a.up,a.left,a.full⟩
theorem mT:∀(l:List ByteArray) {d:ah} {c:Nat},d.Calm (c+1+l.length)->c+1+l.length<4398046511103->(d.removeAll l).2≠9/\(d.removeAll l).2≠10/\(d.removeAll l).1.Calm c
 |[],d,c,h,hc=>by
  have⟨b,a⟩:=rZ h (by simp at hc;omega);exact⟨by show d.sync.2≠9;omega,by show d.sync.2≠10;omega,a⟩
 |x::l,d,c,h,hc=>by
  simp only[zzr]at h hc;obtain⟨b,a,e⟩:=oK (c:=c+1+l.length) (cW x) (h.mono (by omega)) (by omega);have r:d.removeAll (x::l)=if (d.tell<|cW x).2=0 then (d.tell<|cW x).1.removeAll l else d.tell (cW x):=rfl;rw[r];split
  .exact mT l e oE
  .exact⟨b,a,e.mono (by omega)⟩
theorem ED(first:Nat)(h:d.Calm<|c+4)(f:c+4<4398046511103):(d.bh first).2≠9/\(d.bh first).2≠10/\(d.bh first).1.Calm c:=by
 unfold ah.bh;have⟨b,e,a⟩:=oK ⟨1,cf,yA,str<|ax first 0 []⟩ h oE;simp only;split
 .obtain⟨b1,b2⟩:=rZ a oE;rw[if_pos b1];have⟨c1,c2,c3⟩:=oK ⟨4,cf,dP,yA⟩ b2 oE;split
  .grind [rZ]
  .exact⟨c1,c2,c3.mono oE⟩
 .exact⟨b,e,a.mono oE⟩
section
variable{l:aq}{d:ah}
theorem mU{c:Nat}(h:d.Calm<|c+1)(a:c<4398046511103):(l.sync d).2.2=0/\(l.sync d).2.1.Calm c:=by grind[rZ,aq.sync]
theorem zi{r:aq×ah×Nat}(f:l.failed=0)(h:r.2.2≠9/\r.2.2≠10):(l.wr d r).2.2≠9/\(l.wr d r).2.2≠10:=by grind[aq.wr]
theorem R7(C:List Nat)(h:d.Calm 2):(l.put d C).2.2≠9/\(l.put d C).2.2≠10:=by
 have r:(l.room d).2.2=0/\(l.room d).2.1.Calm 1:=by
  unfold aq.room;split
  .exact⟨rfl,h.mono oE⟩
  .grind [mU]
 unfold aq.put;rw[if_pos r.1];have:=oK ⟨2,ar<|(l.room d).1.segs.getLastD 0,yA,str C⟩ r.2 oE;exact⟨this.1,this.2.1⟩
theorem GZ(kind:Nat)(s:ByteArray)(f:l.failed=0)(h:d.Calm 2):(l.append d kind s).2.2.2≠9/\(l.append d kind s).2.2.2≠10:=by grind[aq.append,zi,R7]
theorem Kf(f:l.failed=0)(h:d.Calm 1):(l.force d).2.2≠9/\(l.force d).2.2≠10:=by
 unfold aq.force;split
 .simp
 .refine zi f ?_;obtain⟨a,_⟩:=mU (l:=l) (c:=0) h oE;omega
theorem R8(low:Nat)(i:l.failed=0)(h:d.Calm<|6+l.segs.length)(k:l.segs.length<1000000000):(l.cut d low).2.2≠9/\(l.cut d low).2.2≠10:=by
 obtain⟨a,b⟩:=mU (l:=l) (c:=5+l.segs.length) (h.mono (by omega)) (by omega);unfold aq.cut;split
 .grind [zi]
 .have hS:∀g first,(l.gU d g first).2.2≠9/\(l.gU d g first).2.2≠10:=λg first=>by
   unfold aq.gU;rw[if_pos a];obtain⟨f,j,e⟩:=ED (c:=1+l.segs.length) first (b.mono (by omega)) (by omega)
   split
   .have:=mT ((l.segs.take g).map ar) (c:=0) (e.mono<|by rw[zzn,zzm];omega) (by rw[zzn,zzm];omega);exact⟨this.1,this.2.1⟩
   .grind
  simp only;split
  .simp
  .grind [zi]
theorem Kg(ns:List ByteArray)(h:d.Calm<|2+ns.length)(e:ns.length<1000000000):(l.dX d ns).2.2≠9/\(l.dX d ns).2.2≠10:=by
 obtain⟨b,a⟩:=mU (c:=1+ns.length) (h.mono (by omega)) (by omega);unfold aq.dX;rw[if_pos b];have:=mT ns (c:=0) (a.mono (by omega)) (by omega);exact⟨this.1,this.2.1⟩
theorem r7(h:d.down=false){a b:Int}(e:a<0)(f:b<0)(V:-2^63<=a)(U:-2^63<=b)(c:Nat):(d.bj a b).Calm c:=
 ⟨h,by show(a<0\/_)/\_<=a/\a<=_;omega,by show(b<0\/_)/\_<=b/\b<=_;omega⟩
end
/-! ### texts as records -/
theorem xD:∀{cs:List (List Rec)},(∀c∈cs,c≠[])->cs.length<=cs.flatten.length
 |[],_=>zzc _
 |c::cs,h=>by
  have d:0<c.length:=zzE.2 (h c sE);have b:=xD (cs:=cs) (λx a=>h x<|by simp[a]);simp at b ⊢;omega
end Go.Proofs.YtdcafjmdfpjcbaaGreatDoor
