import Derived.Test.YtdcafjmdfpjcbaaGreatDoorC19
namespace Go.Proofs.YtdcafjmdfpjcbaaGreatDoor
open Go.RowKit Go.Maps Tryz Sc
variable{nm:ByteArray}{ns:List ByteArray}{c:List Rec}{ss:List Sg}{mk:Nat}{d d':ah}{F G:az}
/-! ### what a bE answers -/
theorem rU(d:ah):(d.writes.2=0/\d.writes.1.down=false)\/(d.writes.2=9/\d.writes.1.down=false)\/(d.writes.2=10/\d.writes.1.down=true):=by grind[ah.writes]
theorem iL(d:ah):(d.sync.2=0/\d.sync.1.ai=d.pending.foldl cV d.ai/\d.sync.1.now=d.now/\d.sync.1.pending=[]/\d.sync.1.down=false) \/
  (d.sync.2≠0/\d.sync.1.ai=d.ai/\d.sync.1.now=d.now/\d.sync.1.pending=d.pending/\(d.sync.2=9/\d.sync.1.down=false\/d.sync.2=10/\d.sync.1.down=true)):=by grind[gM,rU,yY,cV,ot]
theorem AQ(d:ah)(o:iD)(b:o.kind<3):((d.tell o).2=0/\(d.tell o).1.ai=d.ai/\(d.tell o).1.now=cV d.now o/\(d.tell o).1.pending=d.pending++[o]/\(d.tell o).1.down=false) \/
  ((d.tell o).2=9/\(d.tell o).1.ai=d.ai/\(d.tell o).1.now=d.now/\(d.tell o).1.pending=d.pending/\(d.tell o).1.down=false) \/
  ((d.tell o).2=10/\(d.tell o).1.ai=d.ai/\(d.tell o).1.now=d.now/\(d.tell o).1.pending=d.pending++[o]/\(d.tell o).1.down=true):=by
 have s:=gM d;unfold ah.tell;rcases rU d with⟨h,a⟩|⟨h,a⟩|⟨h,a⟩
 .left;simp only[h];rw[if_neg oE,if_neg oE,if_neg oE,if_neg oE];refine⟨rfl,?_,?_,?_,a⟩
  .grind
  .grind
  .grind
 .grind
 .grind
/-! ### records as U8 -/
def vQ(nm:ByteArray)(c:List Rec):List iD:=c.map λr=>kg nm (str (ax r.cQ r.kind r.pay))
theorem C7(nm:ByteArray)(c:List Rec)(r:Rec):vQ nm (c++[r])=vQ nm c++[kg nm<|str<|ax r.cQ r.kind r.pay]:=by simp[vQ]
theorem RG(nm:ByteArray)(c:List Rec):vQ nm c=(c.map λr=>str<|ax r.cQ r.kind r.pay).map (kg nm):=by simp[vQ]
theorem Vp:str []=yA:=by rfl
theorem xy:∀(c:List Rec),nH (c.map λr=>str<|ax r.cQ r.kind r.pay)=str (dt c)
 |[]=>by simp[nH,dt,Vp]
 |r::c=>by
  have e:dt (r::c)=ax r.cQ r.kind r.pay++dt c:=by simp[dt]
  rw[e,rP,<-xy c];rfl
theorem RH(a b:List Rec):dt (a++b)=dt a++dt b:=by simp[dt]
theorem xz(nm:ByteArray):∀(c:List Rec) (F:az),c≠[]->(vQ nm c).foldl cV F=F.plus nm (str<|dt c)
 |[],_,h=>absurd rfl h
 |r::c,F,_=>by
  have e:vQ nm (r::c)=kg nm (str<|ax r.cQ r.kind r.pay)::vQ nm c:=rfl;rw[e,List.foldl_cons,oG];by_cases a:c=[]
  .subst a;simp[vQ,dt]
  .rw[xz nm c _ a,oF,<-rP];have e:dt (r::c)=ax r.cQ r.kind r.pay++dt c:=by simp[dt]
   rw[e]
/-! ### files that hold more -/
def Clean(F:az)(mk:Nat)(ss:List Sg):Prop:=∀u,F (ar u)≠none->u∈starts mk (chunks ss)
theorem rV(F:az)(nm y:ByteArray):F.plus nm y nm=some ((F nm).getD yA++y):=az.jk _ _ _
theorem eC(F:az){x:ByteArray}(y:ByteArray)(h:x≠nm):F.plus nm y x=F x:=az.cP _ _ h
theorem ui{a b:Nat}(h:a≠b):ar a≠ar b:=by grind[eR]
section
variable{F:az}{mk:Nat}{ss E:List Sg}{I c1:List Rec}{t:List Nat}
theorem br.fresh(h:br F mk ss)(c:Clean F mk ss):F (ar<|aw mk ss)=none:=by
 cases a:F (ar<|aw mk ss)with
 |none=>rfl
 |some x=>
  exfalso;have:=(h.start<|c _<|by rw[a];simp).2.2;omega
theorem fx(mk:Nat)(E:List Sg)(c:List Rec)(t:List Nat):aw mk (E++[(c,t)])=aw mk E+c.length:=qT mk E (c,t)
theorem GR{a b:List Rec}{f:Nat}(h:∀(k:Nat) (r:Rec),a[k]?=some r->r.cQ=f+k)(c:∀(k:Nat) (r:Rec),b[k]?=some r->r.cQ=f+a.length+k):∀(k:Nat) (r:Rec),(a++b)[k]?=some r->r.cQ=f+k:=by grind
theorem br.more(h:br F mk ss)(g:Clean F mk ss)(j:c1≠[])(hn:∀(k:Nat) (r:Rec),c1[k]?=some r->r.cQ=aw mk ss+k)(i:vP c1)(n:ug t)(a:ez c1<870)(l:aw mk ss+c1.length<2^64):
  br (F.plus (ar<|aw mk ss)<|str<|dt c1++t) mk (ss++[(c1,t)]) where
 mark:=by rw[eC F _ λe=>(bm<|aw mk ss).1 e.symm];exact h.mark
 pos:=h.pos;ne:=λs a=>by
  obtain a|a:=zzo.1 a
  .exact h.ne s a
  .grind
 files:=λk s b=>by
  rw[List.getElem?_append]at b;split at b
  .rename_i mB;have d:=h.files k s b;rw[List.take_append_of_le_length oE];have P:aw mk (ss.take k)<aw mk ss:=by
    have:=(h.at_ b).2.2.2.2.2.2;have m:0<s.1.length:=zzE.2<|h.ne s<|zzh b;omega
   rw[eC F _<|ui oE];exact d
  .rename_i mB;have B:k-ss.length=0:=by grind
   rw[B]at b;simp at b;subst b;rw[List.take_append_of_le_length oE,zzt oE,rV,h.fresh g];simp[AJ]
 sJ:=λs a=>by
  obtain a|a:=zzo.1 a
  .exact h.sJ s a
  .grind
 size:=λs R=>by
  obtain R|R:=zzo.1 R
  .exact h.size s R
  .grind
 nk:=by
  rw[aZ,dK];exact GR h.nk hn
 fine:=by
  rw[aZ,dK];intro r c;obtain c|c:=zzo.1 c
  .exact h.fine r c
  .exact i r c
 other:=λnm M=>by
  by_cases e:nm=ar (aw mk ss)
  .grind [aZ,dU,aw]
  .rw[eC F _ e]at M;obtain d|d|⟨u,d,h2,m⟩:=h.other nm M
   .grind
   .grind
   .grind [aZ,dU]
 dead:=λx f=>by
  exfalso;rw[fx,eC F _<|ui<|by have:0<c1.length:=zzE.2 j;omega]at f;have:=(h.start<|g _<|by rw[f];simp).2.2;omega
 tz:=by rw[fx];exact l
theorem Clean.more(c:Clean F mk ss)(y:ByteArray):Clean (F.plus (ar<|aw mk ss) y) mk (ss++[(c1,t)]):=λu h=>by
 rw[aZ,dU];by_cases e:u=aw mk ss
 .grind [aw]
 .rw[eC F _<|ui e]at h;simp[c u h]
theorem br.WZ(h:br F mk ss)(c:Clean F mk ss)(j:ug t):br (F.plus (ar<|aw mk ss)<|str t) mk ss:=
 {mark:=by rw[eC F _ (λe=>(bm (aw mk ss)).1 e.symm)];exact h.mark
  pos:=h.pos
  ne:=h.ne
  files:=λk s b=>by
   have P:aw mk (ss.take k)<aw mk ss:=by
    have:=(h.at_ b).2.2.2.2.2.2;have d:0<s.1.length:=zzE.2<|h.ne s<|zzh b;omega
   rw[eC F _<|ui oE];exact h.files k s b
  sJ:=h.sJ
  size:=h.size
  nk:=h.nk
  fine:=h.fine
  other:=λnm M=>by
   by_cases e:nm=ar (aw mk ss)
   .exact .inr<|.inr ⟨_,e,h.tz,.inr<|.inr rfl⟩
   .rw[eC F _ e]at M;exact h.other nm M
  dead:=λx a=>by
   rw[rV,h.fresh c]at a;simp at a;exact⟨t,a.symm,j⟩
  tz:=h.tz}
theorem br.longer(h:br F mk<|E++[(I,[])])(i:Clean F mk<|E++[(I,[])])(hn:∀(k:Nat) (r:Rec),c1[k]?=some r->r.cQ=aw mk (E++[(I,[])])+k)(m:vP c1)(p:ug t)(b:ez I+ez c1<870)(l:aw mk (E++[(I,[])])+c1.length<2^64):
  br (F.plus (ar<|aw mk E)<|str<|dt c1++t) mk (E++[(I++c1,t)]) where
 mark:=by rw[eC F _ λe=>(bm<|aw mk E).1 e.symm];exact h.mark
 pos:=h.pos;ne:=λs b=>by
  obtain b|b:=zzo.1 b
  .exact h.ne s<|by simp[b]
  .simp at b;subst b;have:=h.ne (I,[]) sE;intro e;simp at e;exact this e.1
 files:=λk s c=>by
  have q:=h.files E.length (I,[]) sE;rw[List.take_append_of_le_length oE,zzt oE]at q;rw[List.getElem?_append]at c;split at c
  .rename_i mB;have g:(E++[(I,[])])[k]?=some s:=by grind
   have a:=h.files k s g;rw[List.take_append_of_le_length oE]at a ⊢;have P:aw mk (E.take k)<aw mk E:=by
    have o:=AK mk E<|k+1;rw[GK c,qT]at o;have f:0<s.1.length:=zzE.2<|h.ne s<|zzh g;omega
   rw[eC F _<|ui oE];exact a
  .rename_i mB;have B:k-E.length=0:=by grind
   rw[B]at c;simp at c;subst c;rw[List.take_append_of_le_length oE,zzt oE,rV,q];simp only[Option.getD_some,AJ,List.append_nil];rw[<-rP,RH,zzx]
 sJ:=λs b=>by
  obtain b|b:=zzo.1 b
  .exact h.sJ s<|by simp[b]
  .grind
 size:=λs R=>by
  obtain R|R:=zzo.1 R
  .exact h.size s<|by simp[R]
  .grind [jJ]
 nk:=by
  have a:=h.nk;rw[aZ,dK]at a ⊢;simp only;rw[<-zzx];refine GR a λk r c=>?_;have:=hn k r c;rw[fx]at this;simp only[zzi];unfold aw at this;omega
 fine:=by
  have a:=h.fine;rw[aZ,dK]at a ⊢;simp only;rw[<-zzx];intro r d;obtain d|d:=zzo.1 d
  .exact a r d
  .exact m r d
 other:=λnm M=>by
  have n:starts mk (chunks<|E++[(I++c1,t)])=starts mk (chunks<|E++[(I,[])]):=by grind[aZ,tW]
  rw[n];by_cases e:nm=ar (aw mk E)
  .grind [fx,aZ,dU,aw]
  .rw[eC F _ e]at M;obtain a|a|⟨u,a,h2,f⟩:=h.other nm M
   .grind
   .grind
   .refine .inr<|.inr ⟨u,a,h2,?_⟩;obtain f|f|f:=f
    .grind
    .grind
    .exfalso;rw[a]at M;have:=(h.start<|i u M).2.2;omega
 dead:=λx j=>by
  exfalso;have hp:0<I.length:=zzE.2 (h.ne (I,[]) sE);rw[fx,eC F _<|ui<|by rw[zzi];omega]at j;have:=(h.start<|i _<|by rw[j];simp).2.2;rw[fx,zzi]at this;omega
 tz:=by rw[fx]at l ⊢;rw[zzi];omega
theorem Clean.longer(c:Clean F mk<|E++[(I,[])])(y:ByteArray):Clean (F.plus (ar<|aw mk E) y) mk (E++[(I++c1,t)]):=λu h=>by
 have a:starts mk (chunks<|E++[(I++c1,t)])=starts mk (chunks<|E++[(I,[])]):=by grind[aZ,tW]
 rw[a];by_cases e:u=aw mk E
 .grind [aZ,dU,aw]
 .rw[eC F _<|ui e]at h;exact c u h
end
inductive Mode(l:aq)(d:ah)(mk:Nat)(ss:List Sg)(c1:List Rec):Prop
 |rest (h1:c1=[]) (h2:d.pending=[]) (h3:d.now=d.ai) (h4:l.segs=starts mk (chunks ss)) (h5:l.filled=kX ss)
 |last (ds:List Sg) (c0:List Rec) (h0:ss=ds++[(c0,[])]) (h1:c1≠[]) (h2:d.pending=vQ (ar (aw mk ds)) c1) (h3:d.now=d.ai.plus (ar (aw mk ds)) (str (dt c1))) (h4:l.segs=starts mk (chunks ss)) (h5:l.filled=ez c0+ez c1) (h6:ez c0+ez c1<870)
 |fresh (h1:c1≠[]) (h2:d.pending=vQ (ar (aw mk ss)) c1) (h3:d.now=d.ai.plus (ar (aw mk ss)) (str (dt c1))) (h4:l.segs=starts mk (chunks ss)++[aw mk ss]) (h5:l.filled=ez c1) (h6:ez c1<870)
structure iR(l:aq)(d:ah)(mk:Nat)(ss:List Sg)(c1:List Rec):Prop where
 st:br d.ai mk ss
 clean:Clean d.ai mk ss
 beg:yz d.ai mk ss
 recs:l.recs=(chunks ss).flatten++c1
 next:l.next=aw mk ss+c1.length
 eD:l.failed=0
 j8:l.ai=aw mk ss
 Cc:∀(k:Nat) (r:Rec),c1[k]?=some r->r.cQ=aw mk ss+k
 Ce:vP c1
 tz:aw mk ss+c1.length<2^64
 mode:Mode l d mk ss c1
theorem RV(l:List Nat)(q:Nat):(str l).extract 0 q=str (l.take q):=by
 apply ByteArray.ext;rw[oD,ByteArray.data_extract,oD];simp
theorem pB(l:List Rec)(k:Nat):ez (l.take k)<=ez l:=by
 have h:=jJ (l.take k)<|l.drop k;rw[List.take_append_drop]at h;omega
theorem uj(h:vP c)(k:Nat):vP (c.take k):=λr a=>h r<|List.mem_of_mem_take a
theorem RX{r:Rec}(h:r.kind<256/\r.pay.length<=255/\k9 r.pay){q:Nat}(a:q<15+r.pay.length):ug ((ax r.cQ r.kind r.pay).take q) where
 byt:=(oZ r.cQ r.kind r.pay h.1 h.2.2).pJ q
 no:=NV r.cQ r.kind r.pay h.2.1 q a;le:=by rw[zzm,fj];have:=h.2.1;omega
theorem xB{b:az}(f:vP c)(h:Left F (vQ nm c) b):b=F\/∃k t,k<=c.length/\ug t/\b=F.plus nm (str<|dt (c.take k)++t):=by
 rw[RG]at h;obtain h|⟨k,hk,_,h⟩|⟨k,z,q,hz,h⟩:=N0 h
 .grind
 .right;rw[zzn]at hk;refine⟨k,[],hk,vO,?_⟩;rw[h,<-List.map_take,xy,List.append_nil]
 .right;rw[zzy]at hz;cases a:c[k]? with
  |none=>grind
  |some r=>
   rw[a]at hz;simp at hz;subst hz;have B:=(zzd.1 a).1;rw[<-List.map_take,xy,RV,<-rP]at h;by_cases d:q<15+r.pay.length
   .exact⟨k,_,oE,RX (f r<|zzh a) d,h⟩
   .refine⟨k+1,[],oE,vO,?_⟩;have e:(ax r.cQ r.kind r.pay).take q=ax r.cQ r.kind r.pay:=zzt (by rw[fj];omega);rw[h,e,List.append_nil,List.take_add_one,a];simp[dt]
theorem mS(h:ss≠[]):yz F mk ss:=.inl (by
 unfold ki;intro e;have:=congrArg List.length e;rw[zzi,ei]at this;simp at this;exact h this.1)
section
variable{l:aq}{d:ah}{mk:Nat}{ss:List Sg}{c1:List Rec}
theorem AU(h:∀(k:Nat) (r:Rec),c1[k]?=some r->r.cQ=aw mk ss+k)(j:Nat):∀(k:Nat) (r:Rec),(c1.take j)[k]?=some r->r.cQ=aw mk ss+k:=by grind
theorem iR.abp(h:iR l d mk ss c1){F:az}(a:Left d.ai d.pending F):
  ∃g k,k<=c1.length/\br F mk g/\yz F mk g/\(chunks g).flatten=(chunks ss).flatten++c1.take k/\g.length<=ss.length+1:=by
 have same:∃g k,k<=c1.length/\br d.ai mk g/\yz d.ai mk g/\(chunks g).flatten=(chunks ss).flatten++c1.take k/\g.length<=ss.length+1:=⟨ss,0,zzs _,h.st,h.beg,sE,oE⟩;rcases h.mode with⟨n,b,j,f,i⟩|⟨s,q,c,n,b,j,f,i,p⟩|⟨n,b,j,f,i,p⟩
 .rw[b]at a;rw[Ac a];exact same
 .rw[b]at a;obtain e|⟨k,t,hk,hj,e⟩:=xB h.Ce a
  .simp_all
  .rw[e];have m:=h.st;have U:=h.clean;have u:=AU h.Cc k;have r:=h.tz;rw[c]at m U u r;have o:=pB c1 k;refine⟨s++[(q++c1.take k,t)],k,hk,m.longer U u (uj h.Ce k) hj oE<|by rw[zzm];omega,mS sE,?_,by rw[c];simp⟩;rw[c,aZ,aZ,dK,dK,zzx]
 .rw[b]at a;obtain e|⟨k,t,hk,hj,e⟩:=xB h.Ce a
  .simp_all
  .rw[e];have o:=pB c1 k;by_cases B:c1.take k=[]
   .rw[B];have v:dt []++t=t:=by simp[dt]
    rw[v];refine⟨ss,0,zzs _,h.st.WZ h.clean hj,.inl ?_,sE,oE⟩;unfold ki gv;rw[rV];simp
   .exact⟨ss++[(c1.take k,t)],k,hk,h.st.more h.clean B (AU h.Cc k) (uj h.Ce k) hj oE<|by rw[zzm];have:=h.tz;omega,mS sE,by rw[aZ,dK],sE⟩
theorem iR.synced(h:iR l d mk ss c1){d':ah}(w:d'.ai=d.pending.foldl cV d.ai)(m:d'.now=d.now)(p:d'.pending=[]):
  ∃j,iR {l with ai:=l.next} d' mk j []/\(chunks j).flatten=(chunks ss).flatten++c1/\j.length<=ss.length+1:=by
 rcases h.mode with⟨a,f,c,g,n⟩|⟨s,o,x,a,f,c,g,n,k⟩|⟨a,f,c,g,n,k⟩
 .subst a;have e:d'.ai=d.ai:=by grind
  refine⟨ss,⟨by rw[e];exact h.st,by rw[e];exact h.clean,by rw[e];exact h.beg,by simpa using h.recs,by simpa using h.next,h.eD,by simpa using h.next,sE,by intro r b;simp at b,by simpa using h.tz,.rest rfl p (by rw[m,c,e]) g n⟩,sE,oE⟩
 .have e:d'.ai=d.ai.plus (ar<|aw mk s) (str<|dt c1):=by rw[w,f,xz _ _ _ a]
  have v:=h.st;have U:=h.clean;have u:=h.Cc;have q:=h.tz;have J:=h.next;have H:=h.recs;rw[x]at v U u q J H;have y:=v.longer U u h.Ce vO k q;rw[List.append_nil,<-e]at y;have i:aw mk (s++[(o++c1,[])])=aw mk (s++[(o,[])])+c1.length:=by grind[fx]
  refine⟨s++[(o++c1,[])],⟨y,by rw[e];exact U.longer _,mS sE,?_,?_,h.eD,?_,sE,by intro r b;simp at b,by rw[i];simpa using q,.rest rfl p (by rw[m,c,e]) ?_ ?_⟩,?_,by rw[x];simp⟩
  .grind
  .grind
  .grind
  .grind [aZ,tW]
  .grind [nM,ly,jJ]
  .grind
 .have e:d'.ai=d.ai.plus (ar<|aw mk ss) (str<|dt c1):=by rw[w,f,xz _ _ _ a]
  have y:=h.st.more h.clean a h.Cc h.Ce vO k h.tz;rw[List.append_nil,<-e]at y;have i:=fx mk ss c1 [];refine⟨ss++[(c1,[])],⟨y,by rw[e];exact h.clean.more _,mS sE,?_,?_,h.eD,?_,sE,by intro r b;simp at b,by rw[i];simpa using h.tz,.rest rfl p (by rw[m,c,e]) ?_ ?_⟩,by rw[aZ,dK],sE⟩
  .show l.recs=_;rw[h.recs,aZ,dK];simp
  .show l.next=_;rw[h.next,i];simp
  .show l.next=_;rw[h.next,i]
  .show l.segs=_;rw[g,aZ,dU];rfl
  .grind [nM,ly]
end
section
variable{l:aq}{d d':ah}{mk:Nat}{ss:List Sg}{c1:List Rec}{x:Rec}
theorem RY(h:∀(k:Nat) (r:Rec),c1[k]?=some r->r.cQ=aw mk ss+k)(a:x.cQ=aw mk ss+c1.length):∀(k:Nat) (r:Rec),(c1++[x])[k]?=some r->r.cQ=aw mk ss+k:=by grind
theorem Oj(h:vP c1)(b:x.kind<256/\x.pay.length<=255/\k9 x.pay):vP (c1++[x]):=λr a=>by
 obtain a|a:=zzo.1 a
 .exact h r a
 .grind
theorem pC(r:Rec):ez [r]=15+r.pay.length:=by simp[ez]
theorem iR.told(h:iR l d mk ss c1)(v:l.filled<600)(r:x.kind<256/\x.pay.length<=255/\k9 x.pay)(hn:x.cQ=l.next)(t:l.next+1<2^64)
  (k:d'.ai=d.ai) (i:d'.now=cV d.now (kg (ar<|l.segs.getLastD 0)<|str<|ax x.cQ x.kind x.pay)) (f:d'.pending=d.pending++[kg (ar<|l.segs.getLastD 0)<|str<|ax x.cQ x.kind x.pay]) :
  iR {l with filled:=l.filled+(15+x.pay.length),recs:=l.recs++[x],next:=l.next+1} d' mk ss (c1++[x]):=by
 have z:x.cQ=aw mk ss+c1.length:=by rw[hn,h.next]
 have common:Mode {l with filled:=l.filled+(15+x.pay.length),recs:=l.recs++[x],next:=l.next+1} d' mk ss (c1++[x])->iR {l with filled:=l.filled+(15+x.pay.length),recs:=l.recs++[x],next:=l.next+1} d' mk ss (c1++[x]):=λp=>
  ⟨by rw[k];exact h.st,by rw[k];exact h.clean,by rw[k];exact h.beg,by show l.recs++[x]=_;rw[h.recs,zzx],by show l.next+1=_;rw[h.next];simp;omega,h.eD,h.j8,RY h.Cc z,Oj h.Ce r,by have:=h.next;simp;omega,p⟩
 apply common;rw[oG]at i;rcases h.mode with⟨m,g,o,b,n⟩|⟨a,c,j,m,g,o,b,n,q⟩|⟨m,g,o,b,n,q⟩
 .subst m;have⟨a,c,j,u⟩:∃a c,ss=a++[(c,[])]/\l.filled=ez c:=by
   obtain e|⟨a,s,e⟩:=List.eq_nil_or_concat ss
   .grind [kX]
   .grind [nM,ly]
  have V:l.segs.getLastD 0=aw mk a:=by grind[aZ,dU,aw]
  rw[V]at i f;refine .last a c j sE (by rw[f,g];simp[vQ]) ?_ b ?_ ?_
  .grind [dt]
  .grind [ez]
  .grind [ez]
 .have V:l.segs.getLastD 0=aw mk a:=by rw[b,j,aZ,dU];simp[aw]
  rw[V]at i f;refine .last a c j sE (by rw[f,g,C7]) ?_ b ?_ ?_
  .grind [oF,rP,rO]
  .grind [jJ,pC]
  .grind [jJ,pC]
 .have V:l.segs.getLastD 0=aw mk ss:=by rw[b];simp
  rw[V]at i f;refine .fresh sE (by rw[f,g,C7]) ?_ b ?_ ?_
  .grind [oF,rP,rO]
  .grind [jJ,pC]
  .grind [jJ,pC]
theorem iR.Me(h:iR l d mk ss [])(n:x.kind<256/\x.pay.length<=255/\k9 x.pay)(hn:x.cQ=l.next)(p:l.next+1<2^64)
  (e:d'.ai=d.ai) (b:d'.now=cV d.now (kg (ar l.next)<|str<|ax x.cQ x.kind x.pay)) (c:d'.pending=d.pending++[kg (ar l.next)<|str<|ax x.cQ x.kind x.pay]) :
  iR {l with segs:=l.segs++[l.next],filled:=0+(15+x.pay.length),recs:=l.recs++[x],next:=l.next+1} d' mk ss [x]:=by
 have i:l.next=aw mk ss:=by simpa using h.next
 rcases h.mode with⟨a,f,g,j,q⟩|⟨s,t,m,a,_⟩|⟨a,_⟩
 .rw[oG]at b;refine⟨by rw[e];exact h.st,by rw[e];exact h.clean,by rw[e];exact h.beg,by show l.recs++[x]=_;rw[h.recs];simp,by show l.next+1=_;rw[i];simp,h.eD,h.j8,λk r u=>?_,λr o=>?_,sC,.fresh sE (by rw[c,f,i];simp[vQ]) (by rw[b,g,e,i];simp[dt]) ?_ ?_ ?_⟩
  .grind
  .grind
  .grind
  .grind [ez]
  .grind [ez]
 .grind
 .grind
theorem iR.bj(h:iR l d mk ss c1)(a b:Int):iR l (d.bj a b) mk ss c1:=
 ⟨h.st,h.clean,h.beg,h.recs,h.next,h.eD,h.j8,h.Cc,h.Ce,h.tz,by
  rcases h.mode with⟨e,f,i,c,g⟩|⟨s,m,k,e,f,i,c,g,j⟩|⟨e,f,i,c,g,j⟩
  .exact .rest e f i c g
  .exact .last s m k e f i c g j
  .exact .fresh e f i c g j⟩
theorem iR.sg(h:iR l d mk ss c1):l.filled<600->l.segs≠[]:=λj=>by
 rcases h.mode with⟨b,c,f,a,e⟩|⟨s,k,i,b,c,f,a,e,g⟩|⟨b,c,f,a,e,g⟩
 .grind [ei,kX]
 .rw[a,i,aZ,dU];simp
 .rw[a];simp
end
def az.Cg(F:az)(ns:List ByteArray)(G:az):Prop:=∀k,(k∈ns->G k=none)/\(k∉ns->G k=F k)
section
variable{F G:az}{mk:Nat}{ss:List Sg}{us:List Nat}
theorem AV{u:Nat}:ar u∈us.map ar↔u∈us:=by grind[eR]
theorem On:dP∉us.map ar/\cf∉us.map ar:=by grind[bm]
theorem br.Cg(h:br F mk ss)(d:jG F mk ss us)(g:F.Cg (us.map ar) G):br G mk ss/\Clean G mk ss:=by
 have R:∀u,u∈starts mk (chunks ss)->G (ar u)=F (ar u):=λu b=>(g _).2 λm=>((d.2 u).1<|AV.1 m).2 b
 have U:Clean G mk ss:=λu hn=>by
  by_cases m:u∈us
  .exact absurd ((g<|ar u).1<|AV.2 m) hn
  .rw[(g<|ar u).2 λh=>m<|AV.1 h]at hn;exact Classical.byContradiction λb=>m<|(d.2 u).2 ⟨hn,b⟩
 refine⟨{mark:=by rw[(g dP).2 On.1];exact h.mark,pos:=h.pos,ne:=h.ne,files:=λk s c=>?_,sJ:=h.sJ,size:=h.size,nk:=h.nk,fine:=h.fine,other:=λnm M=>?_,dead:=λt e=>?_,tz:=h.tz},U⟩
 .have mB:k<ss.length:=(zzd.1 c).1;have a:aw mk (ss.take k)∈starts mk (chunks ss):=by
   have:=jO (chunks ss) mk k (by simpa using mB);apply zzh;rw[this];unfold aw;rw[eG]
  rw[R _ a];exact h.files k s c
 .have:F nm≠none:=by
   by_cases m:nm∈us.map ar
   .exact absurd ((g nm).1 m) M
   .rw[(g nm).2 m]at M;exact M
  exact h.other nm this
 .exfalso;have a:=U (aw mk ss) (by rw[e];simp);have:=xl _ mk h.ne' _ a;unfold aw at this;omega
end
structure gF(P:az->Prop)(d:ah):Prop where
 left:∀F',Left d.ai d.pending F'->P F'
 now:d.down=false->P d.now/\d.pending.foldl cV d.ai=d.now
theorem gF.mono{P Q:az->Prop}(h:gF P d)(i:∀F,P F->Q F):gF Q d:=
 ⟨λF b=>i F<|h.left F b,λa=>⟨i _ (h.now a).1,(h.now a).2⟩⟩
theorem gF.same{P:az->Prop}(h:gF P d)(f:d.down=false)(b:d'.ai=d.ai)(e:d'.pending=d.pending)(c:d'.now=d.now):gF P d':=
 ⟨λF a=>h.left F<|by rw[b,e]at a;exact a,λ_=>by rw[b,e,c];exact h.now f⟩
theorem gF.rest{P:az->Prop}(h:P d.ai)(b:d.pending=[])(e:d.now=d.ai):gF P d:=
 ⟨λF a=>by rw[b]at a;rw[Ac a];exact h,λ_=>⟨by rw[e];exact h,by rw[b,e];rfl⟩⟩
def iZ(F:az)(mk:Nat)(ss:List Sg):Prop:=ss≠[]\/(mk=1/\∀nm,F nm≠none->nm=ar 1)
theorem iZ.begun(h:iZ F mk ss):yz F mk ss:=by
 obtain h|⟨rfl,h⟩:=h
 .exact mS h
 .by_cases s:ss=[]
  .subst s;by_cases a:F (ar 1)=none
   .right;intro k;cases b:F k with
    |none=>rfl
    |some t=>grind
   .left;unfold ki gv;rw[gX];cases x:F (ar 1)with
    |none=>grind
    |some t=>simp
  .exact mS s
theorem br.some_(h:br F mk ss)(hn:∀m∈ns,∃u,m=ar u/\u∉starts mk (chunks ss))(g:F.Cg ns G):br G mk ss:=by
 have b:∀nm,G nm≠none->G nm=F nm:=λnm M=>by
  by_cases a:nm∈ns
  .exact absurd ((g nm).1 a) M
  .exact(g nm).2 a
 have W:dP∉ns:=λa=>by have⟨u,e,_⟩:=hn _ a;exact(bm u).1 e.symm
 refine {mark:=by rw[(g dP).2 W];exact h.mark,pos:=h.pos,ne:=h.ne,files:=λk s c=>?_,sJ:=h.sJ,size:=h.size,nk:=h.nk,fine:=h.fine,other:=λnm M=>h.other nm<|by rw[<-b nm M];exact M,dead:=λt d=>h.dead t<|by rw[<-b _ (by rw[d];simp)];exact d,tz:=h.tz};have B:k<ss.length:=(zzd.1 c).1
 have f:aw mk (ss.take k)∈starts mk (chunks ss):=by
  have:=jO (chunks ss) mk k (by simpa using B);apply zzh;rw[this];unfold aw;rw[eG]
 rw[(g _).2 λa=>by have⟨u,e,j⟩:=hn _ a;exact j<|eR e▸f];exact h.files k s c
theorem iZ.some_(h:iZ F mk ss)(g:F.Cg ns G):iZ G mk ss:=by
 obtain h|⟨h1,h2⟩:=h
 .exact .inl h
 .refine .inr ⟨h1,λnm M=>h2 nm ?_⟩;by_cases m:nm∈ns
  .exact absurd ((g nm).1 m) M
  .rw[<-(g nm).2 m];exact M
/-! ### U9 -/
theorem rY:∀(ns:List ByteArray) (F:az),F.Cg ns<|(ns.map cW).foldl cV F
 |[],F=>λk=>⟨sE,λ_=>rfl⟩
 |n::ns,F=>λk=>by
  have e:((n::ns).map cW).foldl cV F=(ns.map cW).foldl cV (F.set n none):=rfl;rw[e];have h:=rY ns (F.set n none) k;refine⟨λa=>?_,λa=>?_⟩
  .by_cases b:k∈ns
   .exact h.1 b
   .rw[h.2 b];obtain e|a:=zzj.1 a
    .rw[e,az.jk]
    .exact absurd a b
  .rw[zzj,not_or]at a;rw[h.2 a.2,az.cP _ _ a.1]
theorem Kc{a:az}(h:Left F (ns.map cW) a):∃s:List ByteArray,(∀m∈s,m∈ns)/\F.Cg s a:=by
 obtain⟨b,t,q,rfl⟩:=h;exact xn ns
def Za(F:az)(ns:List ByteArray)(G:az):Prop:=∃s:List ByteArray,(∀m∈s,m∈ns)/\F.Cg s G
theorem xC{s:List ByteArray}(a:d.ai=F)(e:d.pending=ns.map cW)(f:d.down=false->d.now=(ns.map cW).foldl cV F)(k:∀m∈ns,m∈s):gF (Za F s) d:=
 ⟨λG h=>by
  rw[a,e]at h;have⟨g,b,i⟩:=Kc h;exact⟨g,λm c=>k m<|b m c,i⟩,
  λj=>by rw[a,e,f j];exact⟨⟨ns,k,rY ns F⟩,rfl⟩⟩
theorem abr(d:ah)(nm:ByteArray)(I:d.now nm≠none):((d.tell<|cW nm).2=0/\(d.tell<|cW nm).1.ai=d.ai/\(d.tell<|cW nm).1.now=cV d.now (cW nm)/\(d.tell<|cW nm).1.pending=d.pending++[cW nm]/\(d.tell<|cW nm).1.down=false) \/
  ((d.tell<|cW nm).2=9/\(d.tell<|cW nm).1.ai=d.ai/\(d.tell<|cW nm).1.now=d.now/\(d.tell<|cW nm).1.pending=d.pending/\(d.tell<|cW nm).1.down=false) \/
  ((d.tell<|cW nm).2=10/\(d.tell<|cW nm).1.ai=d.ai/\(d.tell<|cW nm).1.now=d.now/\(d.tell<|cW nm).1.pending=d.pending++[cW nm]/\(d.tell<|cW nm).1.down=true):=by
 have s:=gM d;unfold ah.tell;rcases rU d with⟨h,a⟩|⟨h,a⟩|⟨h,a⟩
 .left;simp only[h];have hn:d.writes.1.now nm≠none:=by rw[s];exact I
  rw[if_neg oE,if_neg oE,if_neg λe=>hn e.1,if_neg<|by simp[cW]];refine⟨rfl,?_,?_,?_,a⟩
  .grind
  .show cV d.writes.1.now (cW nm)=_;rw[s]
  .grind
 .grind
 .grind
theorem AW:∀(l a:List ByteArray) {d:ah} {F:az},d.ai=F->d.pending=a.map cW->d.now=(a.map cW).foldl cV F->d.down=false->l.Nodup->(∀s∈l,d.now s≠none) ->
  ((d.removeAll l).2=0/\(d.removeAll l).1.down=false/\(d.removeAll l).1.pending=[]/\(d.removeAll l).1.now=(d.removeAll l).1.ai/\(d.removeAll l).1.ai=((a++l).map cW).foldl cV F) \/
  ((d.removeAll l).2≠0/\((d.removeAll l).2=9/\(d.removeAll l).1.down=false\/(d.removeAll l).2=10/\(d.removeAll l).1.down=true)/\gF (Za F<|a++l) (d.removeAll l).1):=by
 intro l;induction l with
 |nil=>
  intro a d F f g i q _ _;obtain b|b:=iL d
  .left;show d.sync.2=0/\d.sync.1.down=false/\d.sync.1.pending=[]/\d.sync.1.now=d.sync.1.ai/\d.sync.1.ai=_;refine⟨b.1,b.2.2.2.2,b.2.2.2.1,by rw[b.2.2.1,b.2.1,f,g,i],by rw[b.2.1,f,g,List.append_nil]⟩
  .right;show d.sync.2≠0/\(d.sync.2=9/\d.sync.1.down=false\/d.sync.2=10/\d.sync.1.down=true)/\gF (Za F<|a++[]) d.sync.1;exact⟨b.1,b.2.2.2.2,xC (by rw[b.2.1,f]) (by rw[b.2.2.2.1,g]) (λ_=>by rw[b.2.2.1,i]) sE⟩
 |cons x l ih=>
  intro a d F f g i q J j;have A:=List.nodup_cons.1 J;have p:=j x sE;have r:d.removeAll (x::l)=if (d.tell<|cW x).2=0 then (d.tell<|cW x).1.removeAll l else d.tell (cW x):=rfl;obtain c|c|c:=abr d x p
  .rw[if_pos c.1]at r;rw[r];have P:(d.tell<|cW x).1.pending=(a++[x]).map cW:=by grind
   have o:(d.tell<|cW x).1.now=((a++[x]).map cW).foldl cV F:=by grind
   have:=ih (a++[x]) (by rw[c.2.1,f]) P o c.2.2.2.2 A.2 (λs n=>by
    rw[c.2.2.1];show(d.now.set x none) s≠none;rw[az.cP _ _ λe=>by subst e;exact A.1 n]
    exact j s (by simp[n]))
   rw[zzx]at this;exact this
  .rw[if_neg oE]at r;rw[r];exact .inr ⟨oE,.inl ⟨c.1,c.2.2.2.2⟩,xC (by rw[c.2.1,f]) (by rw[c.2.2.2.1,g]) (λ_=>by rw[c.2.2.1,i]) λm k=>by simp[k]⟩
  .rw[if_neg oE]at r;rw[r];refine .inr ⟨oE,.inr ⟨c.1,c.2.2.2.2⟩,xC (ns:=a++[x]) (by rw[c.2.1,f]) (by rw[c.2.2.2.1,g];simp) (λh=>?_) λm k=>?_⟩
   .grind
   .grind
/-! ### opened,over a bE that may fail -/
theorem Zb{P:az->Prop}{us:List Nat}(n:gF P d)(q:d.down=false)(h:br d.now mk ss)(k:iZ d.now mk ss)(a:jG d.now mk ss us):
  let r:=(cJ mk ss).dX d<|us.map ar
  (r.2.2=0/\r.2.1.down=false/\iR r.1 r.2.1 mk ss []/\iZ r.2.1.ai mk ss) \/
  (r.2.2≠0/\(r.2.2=9/\r.2.1.down=false\/r.2.2=10/\r.2.1.down=true)/\gF (λF=>P F\/br F mk ss/\iZ F mk ss) r.2.1):=by
 intro r;have C:=(n.now q).2;obtain c|c:=iL d
 .have d_:(cJ mk ss).sync d=({cJ mk ss with ai:=(cJ mk ss).next},d.sync.1,0):=by unfold aq.sync;rw[if_pos c.1]
  have o:r=({cJ mk ss with ai:=(cJ mk ss).next},d.sync.1.removeAll<|us.map ar):=by grind[aq.dX]
  have t:d.sync.1.ai=d.now:=by grind
  have E:∀m∈us.map ar,∃u,m=ar u/\u∉starts mk (chunks ss):=λm f=>by
   obtain⟨u,j,rfl⟩:=zzq.1 f;exact⟨u,rfl,((a.2 u).1 j).2⟩
  have J:(us.map ar).Nodup:=by
   unfold List.Nodup;rw[List.pairwise_map];exact List.Pairwise.imp (λv e=>v<|eR e) a.1
  rcases AW (us.map ar) [] t c.2.2.2.1 (by rw[c.2.2.1];rfl) c.2.2.2.2 J (λs R=>by
   obtain⟨u,j,rfl⟩:=zzq.1 R;rw[c.2.2.1];exact((a.2 u).1 j).1)with⟨i,b,g,y,D⟩|⟨i,b,g⟩
  .left;have p:d.now.Cg (us.map ar) (d.sync.1.removeAll<|us.map ar).1.ai:=by grind[rY]
   have⟨B,z⟩:=h.Cg a p;have O:=k.some_ p;rw[o];exact⟨i,b,⟨B,z,O.begun,by simp[cJ],by simp[cJ],rfl,by simp[cJ],sE,by intro r w;simp at w,by simpa using h.tz,.rest rfl g y rfl rfl⟩,O⟩
  .right;rw[o];refine⟨i,b,g.mono λF x=>.inr ?_⟩;have⟨G,A,l⟩:=x;exact⟨h.some_ (λm f=>E m<|by simpa using A m f) l,k.some_ l⟩
 .right;have o:r=(cJ mk ss,d.sync.1,d.sync.2):=by grind[aq.dX,aq.sync]
  rw[o];exact⟨c.1,c.2.2.2.2,(n.same q c.2.1 c.2.2.2.1 c.2.2.1).mono λF h=>.inl h⟩
end Go.Proofs.YtdcafjmdfpjcbaaGreatDoor
