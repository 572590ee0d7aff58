import Derived.Test.YtdcafjmdfpjcbaaGreatDoorC12
set_option maxHeartbeats 4000000
set_option maxRecDepth 100000
namespace Go.Proofs.YtdcafjmdfpjcbaaGreatDoor
open Go.RowKit Go.Maps Tryz Sc
variable{C segs:List Nat}{xs:List Value}{B D E N b bN f h k low m n p t:Nat}{e:TypeId}{j r s v:Value}{w w':World}{d d':ah}{l:aq}
theorem foldl_push(l:List UInt8)(a:ByteArray):(l.foldl (λr n=>r.push n) a).data.toList=a.data.toList++l:=by
 induction l generalizing a with
 |nil=>simp
 |cons x l ih=>simp_all
theorem ln(s:ByteArray):str (bytesOf s)=s:=by
 have h:str (bytesOf s)=s.data.toList.foldl (λr n=>r.push n) yA:=by
  unfold str bytesOf;rw[List.map_map,List.foldl_map];congr 1;funext r n;simp
 have b:=foldl_push s.data.toList yA;rw[<-h]at b;have a:(str<|bytesOf s).data=s.data:=by simp_all
 cases c:str<|bytesOf s
 cases s;rw[c]at a;simp at a;rw[a]
def aq.append(l:aq)(d:ah)(kind:Nat)(s:ByteArray):aq × ah × Nat × Nat :=
 if 255<s.size then (l,d,0,1)
 else if (l.wr d (l.put d (ax l.next kind (bytesOf s)))).2.2=0 then
  ({ (l.wr d (l.put d (ax l.next kind (bytesOf s)))).1 with filled:=(l.wr d (l.put d (ax l.next kind (bytesOf s)))).1.filled+(15+s.size),recs:=(l.wr d (l.put d (ax l.next kind (bytesOf s)))).1.recs++[⟨(l.wr d (l.put d (ax l.next kind (bytesOf s)))).1.next,kind,bytesOf s⟩],next:=(l.wr d (l.put d (ax l.next kind (bytesOf s)))).1.next+1 },
   (l.wr d (l.put d (ax l.next kind (bytesOf s)))).2.1,(l.wr d (l.put d (ax l.next kind (bytesOf s)))).1.next,0)
 else ((l.wr d (l.put d (ax l.next kind (bytesOf s)))).1,(l.wr d (l.put d (ax l.next kind (bytesOf s)))).2.1,0,(l.wr d (l.put d (ax l.next kind (bytesOf s)))).2.2)
theorem I3(h:(l.put d C).2.2=0):(l.put d C).1.filled<600:=by grind[aq.put,aq.room]
theorem Nb(h:(l.wr d<|l.put d C).2.2=0):(l.wr d<|l.put d C).1.filled<600:=by grind[aq.wr,I3]
def DM(B l p b bN n:Nat)(r:aq × ah × Nat × Nat)(w:World)(e:Ending)(w':World):Prop :=
 e=.returned (.tuple #[.int .u64 (r.2.2.1:Int),cj r.2.2.2])/\(∃v s a D N,aD w' B l p b bN v s a r.1 r.2.1 n D N)/\kI l p w w'
theorem aD.new(a:aD w B b p h bN v s r l d n D N)(f:Fr [] w w'):aD w' B b p h bN v s r l d n D N:=
 a.turned (a.bE.new f) f sE (zzc _)
theorem aD.yL(a:aD w B b p h bN v s r l d n D N)(f:Fr [] w w'):kI b p w w':=
 a.BG (a.new f) f sE (.inl rfl) (bn.refl _ _) (bn.refl _ _) (bn.refl _ _)
theorem I4(B b p g bN n D N kind:Nat)(v c r:Value)(l:aq)(d:ah)(s:ByteArray)(w:World)(h:aD w B b p g bN v c r l d n D N)(f:255<s.size)(hn:n+1<1000000000):
  Calls prog 71 #[rM b,.int .u8 (kind:Int),.string s] w (DM B b p g bN (n+2) (l.append d kind s) w):=by
 have e:l.append d kind s=(l,d,0,1):=by unfold aq.append;rw[if_pos f]
 rw[e];have j:=(zza.1 h.blk).1;have c4:=aa h.blk 4;simp at c4;have k:∀o,(w.alloc o).cell? (d8 b 4)=some (.int .u64 (l.next:Int)):=λo=>(zze<|zzf w o b j).trans c4
 have I:=ae h;clear h e;go_enter func71,ntmps71;go_wp2_with fail;apply(IL (l.next:Int) (kind:Int) s _ f).mono;rintro e i ⟨rfl,gw⟩;have F:Fr [] w i:=((lE w).alloc _).trans<|Fr.bw gw [];clear gw;go_wp2;go_ret2;have A:Fr [] w (i.alloc<|.cells #[.slice none 0 0] 179):=F.alloc _;exact⟨rfl,⟨v,c,r,D,N,((I.out.new A).more oE).more oE⟩,I.out.yL A⟩
def eL(segs:List Nat)(low:Nat):Nat->Nat->Nat
 |0,k=>k
 |f+1,k=>match segs[k+1]? with
  |none=>k
  |some s=>if s<=low then eL segs low f (k+1) else k
def bU(segs:List Nat)(low:Nat):Nat:=eL segs low segs.length 0
theorem tM(h:segs.length<=k+1):eL segs low f k=k:=by
 cases f with
 |zero=>rfl
 |succ f=>grind[eL]
theorem tN{s:Nat}(h:segs[k+1]?=some s)(a:s<=low):eL segs low (f+1) k=eL segs low f (k+1):=by grind[eL]
theorem tP{s:Nat}(h:segs[k+1]?=some s)(a:¬s<=low):eL segs low f k=k:=by
 cases f with
 |zero=>rfl
 |succ f=>grind[eL]
theorem zP(B c p z bN n D x low g cs:Nat)(u v:Value)(l:aq)(d:ah)(w:World)(h:aD w B c p z bN u (.slice (some<|dH g) l.segs.length cs) v l d n D x):
  Calls prog 117 #[rM c,.int .u64 (low:Int)] w λe w'=>e=.returned (.int .i64 (bU l.segs low:Nat))/\∃q,w'=w.drewN q:=by
 have c1:=aa h.blk 1;simp at c1;have N:=h.dL.1;have hn:=h.bE.hn;have I:=ae h;have⟨S,j⟩:=xY l.segs.length;rw[<-j]at c1 N;have H:=ae j.symm;clear h j;go_enter func117,ntmps117;go_wp2;go_loopw [5] (λi wr=>∃k f:Nat,(k<=S)/\i=.int .i64 k/\k+f=S/\bU l.segs low=eL l.segs low f k/\∃q,wr=w.drewN q) (λi _=>S-(intOf i).toNat);case atStart=>exact⟨0,S,zzs _,rfl,oE,by unfold bU;rw[H.out],0,rfl⟩
 case round=>
  obtain⟨k,f,L,rfl,E,m,q,a⟩:=hrel;have Q:=ae a;have K:wr.cell? (d8 c 1)=some (.slice (some (dH g)) S cs):=by rw[a,World.cell?_drewN];exact c1
  have y:=ae m;clear a m;have M:wrap64 ((k:Int)+1)=(k:Int)+1:=by unfold wrap64;omega
  have F:IntKind.i64.wrap ((k:Int)+1)=(k:Int)+1:=iS;have G:(0:Int)<=k+1:=oE;by_cases P:k+1<S
  .obtain⟨s,hs⟩:∃s,l.segs[k+1]?=some s:=⟨_,zzg<|by rw[H.out];exact P⟩;have o:=ma I.out.segs (k+1) s hs;have C:wr.cell? (d8 g (k+1))=some (.int .u64 (s:Int)):=by rw[Q.out,World.cell?_drewN];exact o
   have A:(k:Int)+1<(S:Int):=oE;have J:((k:Int)+1).toNat=k+1:=oE;have r:=ae hs;clear hs o;by_cases t:s<=low
   .have j5:(s:Int)<=low:=oE;obtain⟨b,rfl⟩:∃b,f=b + 1:=⟨f-1,oE⟩;go_wp2;refine⟨⟨k+1,b,oE,rfl,oE,?_,q,Q.out⟩,iG⟩;rw[y.out,tN r.out t]
   .have j5:¬(s:Int)<=low:=oE;go_wp2;go_ret;exact⟨by rw[y.out,tP r.out t];rfl,q,Q.out⟩
  .have A:¬(k:Int)+1<(S:Int):=oE;go_wp2;go_ret;exact⟨by rw[y.out,tM<|by rw[H.out];omega];rfl,q,Q.out⟩
theorem aD.Wz{n':Nat}{i:Value}(a:aD w B b p h bN i v r l d n D N)(m:aB w' B p h bN j d' n' t E)(f:pM p w w')(hn:n<=n'):aD w' B b p h bN j v r l d' n' t E/\kI b p w w':=by
 have g:w'.heap[b]?=w.heap[b]?:=f.block b (zza.1 a.blk).1 (a.bE.iU a.blk dN dN);refine⟨{bE:=m,blk:=g.trans a.blk,base:=a.base,segs:=f.row a.bE a.segs dN dN,recs:=f.row a.bE a.recs dN dN,dL:=⟨by have:=a.dL.1;omega,a.dL.2⟩,fV:=by have:=a.fV;omega,jv:=a.jv,gy:=by have:=a.gy;omega,lS:=a.lS},?_⟩;refine⟨f.os,f.tape,f.output,f.size,λk c hn=>f.block k c λo=>hn ?_,λk c o=>?_⟩
 .rcases o with e|e
  .exact .inr<|.inl e
  .exact .inr<|.inr<|.inr e
 .rcases o with e|e|e|e
  .exact .inl e
  .exact .inr<|.inl e
  .rw[g]at e;exact .inr<|.inr<|.inl e
  .rcases f.stay k c (.inr e)with e|e
   .exact .inr<|.inl e
   .exact .inr<|.inr<|.inr e
theorem pM.keep{q:Nat}{c:Array Value}{t:TypeId}(f:pM p w w')(e:aB w B p h bN v d n D N)(a:w.heap[q]?=some (.cells c t (0,0)))(b:t≠58)(g:t≠162):w'.heap[q]?=some (.cells c t (0,0)):=
 (f.block q (zza.1 a).1<|e.iU a b g).trans a
theorem QD(B a p D bN n g N b f first:Nat)(i v r:Value)(l:aq)(d:ah)(w:World)(h:aD w B a p D bN i v r l d n g N)(hn:n+2<=1000000000)(m:first<2^64)
  (W:w.heap[b]?=some (.cells #[rM a] 59)) (P:w.heap[f]?=some (.cells #[.int .u64 (first:Int)] 34)) :
  Calls prog 118 #[rM b,rM f] w λe w'=>e=.returned (cj (d.bh first).2)/\(∃k t E,aD w' B a p D bN k v r l (d.bh first).1 (n+2) t E)/\kI a p w w':=by
 have x:=aa W 0;have y:=aa P 0;have j:=aa h.blk 0;simp at x y j;have I:=ae h;have T:=ae W;have F:=ae P;clear h W P;go_enter func118,ntmps118;go_wp2;go_region_held3 (λw'=>w'.cell? (dH b)=some (.pointer<|some (dH a))/\w'.cell? (dH a)=some (fo p)/\w'.cell? (dH f)=some (.int .u64 (first:Int)))
  (simp[*])
  (first|(go_at_call 119;apply(FU B p D bN n g N first i d w.drew (I.out.bE.new (lE w).drew) hn m).mono;rintro e c ⟨rfl,⟨kr,lT,lN,mF⟩,bF⟩;have q:=(I.out.new (lE w).drew).Wz mF bF oE;have o:c.cell? (dH b)=some (.pointer<|some (dH a)):=(aa (bF.keep (I.out.bE.new (lE w).drew) (show w.drew.heap[b]?=_ from T.out) dN dN) 0).trans sE;have c1:c.cell? (dH a)=some (fo p):=(aa q.1.blk 0).trans sE;have s:c.cell? (dH f)=some (.int .u64 (first:Int)):=(aa (bF.keep (I.out.bE.new (lE w).drew) (show w.drew.heap[f]?=_ from F.out) dN dN) 0).trans sE;have Q:Hid (aD c B a p D bN kr v r l (d.bh first).1 (n+2) lT lN/\kI a p w c):=⟨q.1,(I.out.yL (lE w).drew).trans q.2⟩;clear q mF bF))
 all_goals go_wp2
 all_goals go_ret
 all_goals exact⟨rfl,⟨kr,lT,lN,Q.1⟩,Q.2⟩
theorem dI(h:w.ownsRow B e k v n xs)(hn:0<n):∃g p,v=.slice (some<|dH g) n p:=by
 rcases h.2 with⟨_,a⟩|⟨g,p,r,rfl,_⟩
 .omega
 .grind
theorem Jh{g cs:Nat}{l:List Nat}(h:w.ownsRow B 34 1 (.slice (some<|dH g) n cs) n<|dh l)(b:∀s∈l,s<2^64)(k x:Nat)(c:(l.take m)[k]?=some x):w.cell? (d8 g<|0+k)=some (.int .u64 (x:Int))/\x<2^64:=by
 have a:l[k]?=some x:=by grind
 rw[Nat.zero_add];exact⟨ma h k x a,b x<|zzh a⟩
theorem QE(B a p D bN n m N b g gone s cs:Nat)(o v:Value)(l:aq)(d:ah)(w:World)(h:aD w B a p D bN o (.slice (some<|dH s) l.segs.length cs) v l d n m N)(hg:gone<=l.segs.length)(C:0<gone)(hn:n+gone<=1000000000)(hB:2<=B)(A:dw w)
  (W:w.heap[b]?=some (.cells #[rM a] 59)) (j:w.heap[g]?=some (.cells #[.int .i64 (gone:Int)] 3)) :
  Calls prog 120 #[rM b,rM g] w λe w'=>e=.returned (cj (d.removeAll<|(l.segs.take gone).map ar).2)/\(∃R V O,aD w' B a p D bN R (.slice (some<|dH s) l.segs.length cs) v l (d.removeAll<|(l.segs.take gone).map ar).1 (n+gone) V O)/\kI a p w w':=by
 have t:=aa W 0;have z:=aa j 0;have r:=aa h.blk 0;have c1:=aa h.blk 1;simp at t z r c1;have oq:l.segs.length<=cs/\cs<=maxLen:=by
  rcases h.segs.2 with⟨e,_⟩|⟨g',fW,a1,e,_,_,M,H,_⟩
  .cases e
  .cases e;exact⟨M,H⟩
 have P:b<w.heap.size/\g<w.heap.size/\a<w.heap.size/\s<w.heap.size/\1<w.heap.size:=⟨(zza.1 W).1,(zza.1 j).1,(zza.1 h.blk).1,(h.segs.lt s rfl).2,by have:=h.bE.base.2.2.2;omega⟩;have X:=h.dL;have jD:=h.bE.hn;have i0:(0:Int)<=gone:=oE
 have i1:(gone:Int)<=cs:=oE;have I:=ae h;have Y:=ae W;have K:=ae j;have J:=ae X;have F:(l.segs.take gone).length=gone:=by rw[zzm];omega
 have S:Hid (∀x∈(l.segs.take gone).map ar,x.size<=maxLen):=by
  intro x U;obtain⟨y,L,rfl⟩:=zzq.1 U;have:=gS y<|X.2 y<|List.mem_of_mem_take L;unfold maxLen;omega
 clear h W j X;go_enter func120,ntmps120;go_wp2;go_region_held3 (λw'=>w'.cell? (dH b)=some (.pointer<|some (dH a))/\w'.cell? (dH a)=some (fo p)/\w'.cell? (d8 a 1)=some (.slice (some (dH s)) l.segs.length cs)/\w'.cell? (dH g)=some (.int .i64 (gone:Int)))
  (simp[*])
  (first|(go_at_call 121;apply(ve s 0 gone cs (l.segs.take gone) w.drew F oE (Jh I.out.segs J.2) P.2.2.2.1 (show dw w.drew from A) P.2.2.2.2).mono;rintro e i ⟨v1,rfl,uJ,nh⟩;have⟨u,k,G⟩:=dI uJ C;subst G;have c:Below w.heap.size w i:=⟨nh.os,nh.tape,nh.output,nh.size,nh.block⟩;have Z:=(c.cell P.1).trans t;have y1:=(c.cell P.2.1).trans z;have d0:=(c.cell P.2.2.1).trans r;have d1:=(c.cell P.2.2.1).trans c1;have f:Hid (Below w.heap.size w i):=c;have T:Hid (i.ownsRow w.drew.heap.size 9 1 (.slice (some (dH u)) gone k) gone<|fu<|(l.segs.take gone).map ar):=uJ;clear c nh uJ)|(go_at_call 98;apply(qC B p D bN n m N u gone k _ o d ((l.segs.take gone).map ar) i (I.out.bE.new<|Fr.bw f.out []) (by rw[zzn];exact F) hn T.out S.out).mono;rintro e w2 ⟨rfl,⟨ya,CF,BP,ow⟩,cA⟩;have E:=I.out.new<|Fr.bw f.out [];have q:=E.Wz ow cA oE;have x2:w2.cell? (dH b)=some (.pointer<|some (dH a)):=(aa (cA.keep E.bE ((f.out.block b P.1).trans Y.out) dN dN) 0).trans sE;have y2:w2.cell? (dH g)=some (.int .i64 (gone:Int)):=(aa (cA.keep E.bE ((f.out.block g P.2.1).trans K.out) dN dN) 0).trans sE;have e0:w2.cell? (dH a)=some (fo p):=(aa q.1.blk 0).trans sE;have e1:w2.cell? (d8 a 1)=some (.slice (some (dH s)) l.segs.length cs):=(aa q.1.blk 1).trans sE;have Q:Hid (aD w2 B a p D bN ya (.slice (some (dH s)) l.segs.length cs) v l (d.removeAll<|(l.segs.take gone).map ar).1 (n+gone) CF BP/\kI a p w w2):=⟨q.1,(I.out.yL<|Fr.bw f.out []).trans q.2⟩;clear q E ow cA))
 all_goals go_wp2
 all_goals go_ret
 all_goals exact⟨by rw[List.map_take];rfl,⟨ya,CF,BP,Q.1⟩,Q.2⟩
theorem Q5(u:Nat):(⟨(Lib.trimPrefix (ar u).data.toList [115,101,103,109,101,110,116,45]).toArray⟩:ByteArray)=⟨(Lib.decDigits u).toArray⟩:=by
 have e:(ar u).data.toList=[115,101,103,109,101,110,116,45]++Lib.decDigits u:=by unfold ar;rw[ByteArray.data_append];simp
 rw[e];unfold Lib.trimPrefix Lib.hasPrefix;rw[if_pos<|by simp[List.isPrefixOf]];simp
theorem YH(p:Option Addr)(n c:Nat)(w:World):(Builtin.len_ #[138] 3 #[.slice p n c]).run prog w=.ok (.int .i64 n) w:=by simp[Builtin.len_,run_underlying underlying138,goInt]
theorem Gq(w:World)(s:ByteArray):Below w.heap.size w (Lib.bytesWorld w 5 s):=
 ⟨rfl,rfl,rfl,by rw[Lib.bytesWorld_size];omega,λk h=>Lib.bytesWorld_at_old w _ s k h⟩
theorem oB(h:w.ownsRow B e k v n xs)(b:Below w.heap.size w w'):w'.ownsRow B e k v n xs:=by
 refine h.kept (row:=none) ⟨b.os,b.tape,b.output,b.size,λj a _=>b.block j a⟩ ?_
 cases c:v.ownBlock with
 |none=>grind
 |some q=>grind
/-! One bit of the aaa can be taken back. -/
/-! A record that is whole,behind it whatever. -/
theorem qL(a b:List Nat)(n:Nat)(h:a.length=n):(a++b).take n=a:=by grind
theorem oC(a b:List Nat)(n:Nat)(h:a.length=n):(a++b).drop n=b:=by grind
theorem YI(x k:Nat)(l r:List Nat):(dO x k l++r).take 2=be 2 l.length:=by grind[dO,qL,eY]
theorem xk(x k:Nat)(l r:List Nat)(h:l.length<=255):fU (dO x k l++r)=l.length:=by grind[fU,YI,qj]
theorem NT(x k:Nat)(l r:List Nat)(h:l.length<=255)(a:k<256)(b:k9 l):fN (ax x k l++r)=true:=by
 have e:ax x k l++r=dO x k l++(be 4 (EX<|dO x k l)++r):=by grind[ax]
 have hlen:(dO x k l++(be 4 (EX<|dO x k l)++r)).length=15+l.length+r.length:=by simp[nA,eY];omega
 rw[e];have f:=xk x k l (be 4 (EX<|dO x k l)++r) h;apply x_ (Fl oE oE oE);unfold IP;rw[f,qL _ _ _<|nA x k l,oC _ _ _<|nA x k l,qL _ _ _<|eY _ _,qj 4 _<|Px _<|qw x k l a b];simp
theorem NU(x k:Nat)(l r:List Nat)(b:l.length<=255)(h:x<2^64):pL (ax x k l++r)=⟨x,k,l⟩:=by
 have e:ax x k l++r=dO x k l++(be 4 (EX<|dO x k l)++r):=by grind[ax]
 have f:=xk x k l (be 4 (EX<|dO x k l)++r) b;rw[e];unfold pL;rw[f];unfold dO;generalize be 4 _++r=q;have a:(be 2 l.length++be 8 x++[k]++l++q).drop 2=be 8 x++([k]++(l++q)):=by grind[oC,eY]
 have z:(be 2 l.length++be 8 x++[k]++l++q).drop 11=l++q:=by grind[be,oC,eY]
 have j:(be 2 l.length++be 8 x++[k]++l++q).drop 10=k::(l++q):=by grind[be,oC,eY]
 have K:at_ (be 2 l.length++be 8 x++[k]++l++q) 10=k:=by grind[DG,be,at_]
 rw[a,z,K,qL _ _ _<|eY _ _,qL _ _ _ rfl,qj 8 _ h]
theorem CQ(x k:Nat)(l r:List Nat)(h:l.length<=255):fU (ax x k l++r)=l.length:=by grind[ax,dO,be,EX,xk]
theorem NV(x k:Nat)(l:List Nat)(h:l.length<=255)(p:Nat)(hp:p<15+l.length):fN ((ax x k l).take p)=false:=by
 have hlen:=fj x k l;by_cases o:p<15
 .grind [iP,o6]
 .refine iP<|Fm ?_
  have f:fU ((ax x k l).take p)=l.length:=by
   unfold fU;rw[List.take_take,show min 2 p=2 by omega];have:=CQ x k l [] h;rw[List.append_nil]at this;exact this
  rw[f,zzm];omega
def rb(S:Nat->ByteArray)(j:Nat):List Nat:=ax j j (bytesOf (S j))
def recs(S:Nat->ByteArray)(j:Nat):List Rec:=(List.range j).map λq=>⟨q,q,bytesOf (S q)⟩
def LP(l:List Nat)(w:World)(e:Ending)(w':World):Prop :=
 ∃k v,e=.returned (.tuple #[v,.int .i64 ((st k l).2:Nat)])/\sS l k/\w'.ownsRow w.heap.size 82 3 v k (cG (st k l).1)/\(k=0->v=.slice none 0 0)/\Below w.heap.size w w'
theorem NN(w:World):Calls prog 198 #[.slice none 0 0] w (LP [] w):=by
 have T:∀(x:Bool) (w:World),(Op.unary .not<|.bool x).run prog w=.ok (.bool<|!x) w:=λ_ _=>rfl
 go_enter func198,ntmps198;go_wp2;apply wp_loop_rounds 1;rw[rounds_succ];go_wp2_with fail;apply(kH _ _ _ _ oE).mono;rintro e a ⟨rfl,rfl⟩;go_wp2;go_ret2;exact⟨0,_,rfl,M8,zzu _ _ _ _,λ_=>rfl,(zzD _ _).alloc (zzc _) _⟩
theorem Q4(v:Value)(l:List Nat)(w:World)(s:Src w v l)(h:k9 l)(a:l.length<=4398046511103):Calls prog 198 #[v] w (LP l w):=by
 rcases s with⟨rfl,rfl⟩|⟨b,f,p,rfl,C,P,c,lI⟩
 .exact NN w
 .exact IY b f p l w h a C P c lI
theorem zY:∀(rs:List Rec) (i:Nat) (h:i<rs.length),(cG rs)[i*3]?=some (.int .u64 (rs[i].cQ:Int))/\(cG rs)[i*3+1]?=some (.int .u8 (rs[i].kind:Int))/\(cG rs)[i*3+2]?=some (.string<|str rs[i].pay)
 |[],i,h=>absurd h<|Nat.not_lt_zero _
 |r::rs,0,_=>⟨rfl,rfl,rfl⟩
 |r::rs,i+1,h=>by
  have ih:=zY rs i<|by simpa using h
  have e:∀j,(cG (r::rs))[(i+1)*3+j]?=(cG rs)[i*3+j]?:=λj=>by
   show(dE r++cG rs)[(i+1)*3+j]?=_;rw[List.getElem?_append_right<|by simp[dE];omega];congr 1;simp[dE];omega
  exact⟨(e 0).trans ih.1,(e 1).trans ih.2.1,(e 2).trans ih.2.2⟩
def YF(w:World)(v:Value)(rs:List Rec):Prop :=
 ∃o p,v=.slice o rs.length p/\∀i (h:i<rs.length),∃g,o=some (dH g)/\w.cell? (d8 g (i*3))=some (.int .u64 (rs[i].cQ:Int))/\w.cell? (d8 g (i*3+1))=some (.int .u8 (rs[i].kind:Int))/\w.cell? (d8 g (i*3+2))=some (.string (str rs[i].pay))
theorem JF{base:Nat}{rs:List Rec}(h:w.ownsRow base 82 3 v n<|cG rs):YF w v rs:=by
 have l:rs.length=n:=by have:=h.1;rw[rC]at this;omega
 rcases h.2 with⟨rfl,b⟩|⟨g,p,r,rfl,o,m,rest⟩
 .exact⟨none,0,by rw[l,b],λi a=>oE⟩
 .refine⟨_,p,by rw[l],λi a=>⟨g,rfl,?_⟩⟩
  have c:∀j u,(cG rs)[j]?=some u->w.cell? (d8 g j)=some u:=λj u k=>by
   have:=h.cells rfl j u k;simpa [Addr.add_lit]using this
  have⟨d,f,e⟩:=zY rs i a;exact⟨c _ _ d,c _ _ f,c _ _ e⟩
theorem oD(l:List Nat):(str l).data=(l.map λx=>UInt8.ofNat x).toArray:=by
 have a:∀(l:List Nat) (r:ByteArray),((l.map λx:Nat=>(x:Int)).foldl (λr n=>r.push<|UInt8.ofNat n.toNat) r).data=r.data++(l.map λx=>UInt8.ofNat x).toArray:=by
  intro l;induction l with
  |nil=>grind
  |cons x l ih=>simp_all
 unfold str;rw[a];simp
theorem qM{l:List Nat}(h:k9 l):bytesOf (str l)=l:=by
 unfold bytesOf;rw[oD];simp only[List.map_map];have:∀(m:List Nat),k9 m->m.map (UInt8.toNat∘λx=>UInt8.ofNat x)=m:=by
  intro m;induction m with
  |nil=>grind
  |cons x m ih=>
   intro b;have c:x<256:=b x sE;rw[List.map_cons,ih λy a=>b y<|by simp[a]];congr 1;simp;omega
 exact this l h
def dt(rs:List Rec):List Nat:=rs.flatMap λr=>ax r.cQ r.kind r.pay
theorem rO(rs:List Rec)(r:Rec):dt (rs++[r])=dt rs++ax r.cQ r.kind r.pay:=by simp[dt]
theorem List.B6{α:Type}{motive:List α->Prop}(l:List α)(h:motive [])(b:∀l x,motive l->motive (l++[x])):motive l:=by
 have:∀n (l:List α),l.length=n->motive l:=by
  intro n;induction n with
  |zero=>grind
  |succ n ih=>
   intro l c;obtain e|⟨a,x,e⟩:=List.eq_nil_or_concat l
   .grind
   .grind
 exact this _ l rfl
theorem LV(p:Nat)(w:World):(nilAhead 564 54 (rM p) "Read").run prog w=.ok (some false) w:=k6
theorem UJ(B a p D bN n b N Q:Nat)(v s r:Value)(l:aq)(d:ah)(w:World)(h:aD w B a p D bN v s r l d n b N)(hn:n<=1000000000)
  (m:w.heap[Q]?=some (.cells #[.func (.func 96) #[rM a] #[]] 122)) :
  Calls prog 95 #[.slice (some<|dH Q) 1 1] w (kK B a p D bN n [] (l.sync d) w):=by
 have z:=aa m 0;simp at z;have I:Hid (aD w B a p D bN v s r l d n b N):=h;clear h;go_enter func95,ntmps95;go_wp2;apply wp_loop_rounds 2;rw[rounds_succ];go_wp2_with fail;apply(rF B a p D bN n b N v s r l d w I.out hn).mono;rintro e f ⟨rfl,fE,fe⟩;have H:Hid (kK B a p D bN n [] (l.sync d) w (.returned<|cj (l.sync d).2.2) f):=⟨rfl,fE,fe.x⟩;clear fE fe;by_cases c:(l.sync d).2.2=0
 .rw[c,bQ]at H ⊢;go_wp2;rw[rounds_succ];go_wp2;go_ret;exact H.out
 .rw[aG c]at H ⊢;go_wp2;go_ret;exact H.out
theorem QF(B b p m bN n D j Q:Nat)(g v r:Value)(l:aq)(d:ah)(w:World)(h:aD w B b p m bN g v r l d n D j)(hn:n<=1000000000)
  (s:w.heap[Q]?=some (.cells #[.func (.func 96) #[rM b] #[]] 122)) :
  Calls prog 112 #[rM b,.slice (some<|dH Q) 1 1] w (kK B b p m bN n [] (l.wr d<|l.sync d) w):=by
 have u:=aa h.blk 0;have i:=aa h.blk 6;simp at u i;have I:=ae h;have z:=Lv p;by_cases f:l.failed=0
 .rw[f,bQ]at i;have e:l.wr d (l.sync d)=({(l.sync d).1 with failed:=(l.sync d).2.2},(l.sync d).2.1,(l.sync d).2.2):=by unfold aq.wr;rw[if_pos f]
  rw[e];clear e;go_enter func112,ntmps112;go_wp2_with fail;apply(UJ B b p m bN n D j Q g v r l d w I.out hn s).mono;rintro e x ⟨rfl,⟨kr,sB,qz,lT,lN,fE⟩,fe⟩;have H:=ae fE;have O:=ae fe;have t:=aa fE.blk 6;have y:=au fE.blk 6;simp at t;clear fE fe s h;by_cases o:(l.sync d).2.2=0
  .rw[o,bQ];go_wp2;go_ret;obtain⟨N,A⟩:=H.out.fail (c:=0) rfl;unfold kK;simp only;rw[o];exact⟨rfl,⟨kr,sB,qz,lT,lN,N⟩,O.out.trans<|H.out.XX N A (by intro k a _;simp at a;simp[a]) (bn.refl _ _) (bn.refl _ _)<|bn.refl _ _⟩
  .have he:=aG o;obtain⟨N,A⟩:=H.out.fail (c:=(l.sync d).2.2) rfl;rw[he]at N A ⊢;have q:=ae N;clear N;go_wp2;go_ret;exact⟨by simp only;rw[he];rfl,⟨kr,sB,qz,lT,lN,q.out⟩,O.out.trans<|H.out.XX q.out A (by intro k a _;simp at a;simp[a]) (bn.refl _ _) (bn.refl _ _)<|bn.refl _ _⟩
 .rw[aG f]at i;have e:l.wr d (l.sync d)=(l,d,l.failed):=by unfold aq.wr;rw[if_neg f]
  rw[e];go_enter func112,ntmps112;go_wp2;go_ret;exact⟨by simp only;rw[aG f];rfl,⟨g,v,r,D,j,I.out⟩,(kI.refl _ _ _).x⟩
theorem Tx.BG{l:Nat}(h:Tx [] l p w w'):kI l p w w':=⟨h.os,h.tape,h.output,h.size,λk a hn=>h.block k a hn sE,h.stay⟩
def aq.force(l:aq)(d:ah):aq × ah × Nat:=if l.ai=l.next then (l,d,0) else l.wr d (l.sync d)
def jE(B l p b bN n:Nat)(r:aq × ah × Nat)(w:World)(e:Ending)(w':World):Prop :=
 e=.returned (cj r.2.2)/\(∃v s a D N,aD w' B l p b bN v s a r.1 r.2.1 n D N)/\kI l p w w'
theorem Ns(B a p D bN n b N:Nat)(v s r:Value)(l:aq)(d:ah)(w:World)(h:aD w B a p D bN v s r l d n b N)(hn:n<=1000000000):
  Calls prog 72 #[rM a] w (jE B a p D bN n (l.force d) w):=by
 have c4:=aa h.blk 4;have c5:=aa h.blk 5;simp at c4 c5;have I:Hid (aD w B a p D bN v s r l d n b N):=h;clear h;by_cases q:l.ai=l.next
 .have e:l.force d=(l,d,0):=by unfold aq.force;rw[if_pos q]
  rw[e];rw[q]at c5;go_enter func72,ntmps72;go_wp2;go_region;go_wp2;go_ret;have f:Fr [] w w.drew:=(lE w).drew;exact⟨rfl,⟨v,s,r,b,N,I.out.new f⟩,I.out.yL f⟩
 .have e:l.force d=l.wr d (l.sync d):=by unfold aq.force;rw[if_neg q]
  rw[e];have i:¬(l.ai:Int)=(l.next:Int):=oE;have g:((l.ai:Int)==(l.next:Int))=false:=by simpa using i
  go_enter func72,ntmps72;go_wp2;go_region;go_wp2_with fail;have f:Fr [] w (w.drew.alloc<|.cells #[.func (.func 96) #[.pointer<|some (dH a)] #[]] 122):=(lE w).drew.alloc _;apply(QF B a p D bN n b N _ v s r l d _ (I.out.new f) hn<|heap_alloc_new w.drew _).mono;rintro e c ⟨rfl,fE,fe⟩;have H:Hid (jE B a p D bN n (l.wr d<|l.sync d) w (.returned<|cj (l.wr d<|l.sync d).2.2) c):=⟨rfl,fE,(I.out.yL f).trans fe.BG⟩;clear fE fe;go_wp2;go_ret;exact H.out
def nY(x:Nat):aq:=⟨[],600,[],x,0,0⟩
theorem aD.UT{F:Value}(a:aD w B b p h bN F s r l d n D N)(y:aB w' B p h bN j d' n t E)(f:pM p w w'):aD w' B b p h bN j s r l d' n t E/\kI b p w w':=by
 have A:=(zza.1 a.blk).1;have u:∀k,k<w.heap.size->(k=b\/s.ownBlock=some k\/r.ownBlock=some k)->¬lq p w k:=λk _ c o=>by
  have:=a.sep k<|(a.bE.eO k).1 o;obtain e|e|e:=c
  .grind
  .grind
  .grind
 have G:w'.heap[b]?=some (nc p s r l):=(f.block b A<|u b A<|.inl rfl).trans a.blk;have C:∀(e:TypeId) (k m:Nat) (v:Value) (xs:List Value),(∀g,v.ownBlock=some g->g=b\/s.ownBlock=some g\/r.ownBlock=some g)->w.ownsRow B e k v m xs->w'.ownsRow B e k v m xs:=λe k m v xs z x=>by
  refine⟨x.1,?_⟩;obtain H|⟨g,cap,cur,rfl,h2,h3,h4⟩:=x.2
  .grind
  .exact .inr ⟨g,cap,cur,rfl,h2,(f.block g (zza.1 h3).1<|u g (zza.1 h3).1<|z g rfl).trans h3,h4⟩
 have q:aD w' B b p h bN j s r l d' n t E:={bE:=y,blk:=G,base:=a.base,segs:=C _ _ _ _ _ (λg i=>.inr<|.inl i) a.segs,recs:=C _ _ _ _ _ (λg i=>.inr<|.inr i) a.recs,dL:=a.dL,fV:=a.fV,jv:=a.jv,gy:=a.gy,lS:=a.lS};refine⟨q,f.os,f.tape,f.output,f.size,λk c hn=>f.block k c λo=>hn ?_,λk c o=>?_⟩
 .rw[a.own];have:=(a.bE.eO k).1 o;simp at this;obtain e|e|e|e:=this<;>simp[e]
 .rw[a.own];obtain e|e|e|e|e|e|e:=(q.own k).1 o
  .grind
  .grind
  .grind
  .grind
  .have:=(a.bE.eO k).1 (f.stay k c<|(y.eO k).2<|by simp[e]);simp at this;obtain e|e|e|e:=this<;>simp[e]
  .grind
  .grind
def aq.gU(l:aq)(d:ah)(gone first:Nat):aq × ah × Nat :=
 if (l.sync d).2.2=0 then
  if ((l.sync d).2.1.bh first).2=0 then
   ((l.sync d).1,((l.sync d).2.1.bh first).1.removeAll ((l.segs.take gone).map ar))
  else ((l.sync d).1,(l.sync d).2.1.bh first)
 else l.sync d
def aq.pZ(l:aq)(d:ah)(gone first:Nat):Nat:=if (l.sync d).2.2=0 then (if ((l.sync d).2.1.bh first).2=0 then gone else 0) else 0
theorem DX(l:aq)(d:ah)(gone first:Nat):l.pZ d gone first<=gone:=by grind[aq.pZ]
theorem aD.fK{c:Nat}(a:aD w B c p h bN v s r l d n D N)(b:n<=m)(U:m<=1000000000):aD w B c p h bN v s r l d m D N where
 bE:=a.bE.fK b U
 blk:=a.blk;base:=a.base;segs:=a.segs;recs:=a.recs;dL:=⟨zzk a.dL.1 b,a.dL.2⟩;fV:=zzk a.fV b;jv:=a.jv;gy:=by have:=a.gy;omega
 lS:=a.lS
theorem rK(l:aq)(d:ah):(l.sync d).1.segs=l.segs:=by grind[aq.sync]
theorem Nt(l:aq)(d:ah):(l.sync d).1.recs=l.recs:=by grind[aq.sync]
theorem UK(B a p D bN n F M Q i j m first gone:Nat)(J C E:Value)(l:aq)(d:ah)(w:World)(h:aD w B a p D bN J C E l d n F M)(hn:n+2+gone<=1000000000)(hB:2<=B)(dF:dw w)(hx:first<2^64)(hg:gone<=l.segs.length)(qb:0<gone)
  (r:w.heap[Q]?=some (.cells #[.func (.func 96) #[rM a] #[],.func (.func 118) #[] #[rM i,rM j],.func (.func 120) #[] #[rM i,rM m]] 122))
  (W:w.heap[i]?=some (.cells #[rM a] 59)) (P:w.heap[j]?=some (.cells #[.int .u64 (first:Int)] 34)) (V:¬Own a p w j) (S:w.heap[m]?=some (.cells #[.int .i64 (gone:Int)] 3)) :
  Calls prog 95 #[.slice (some<|dH Q) 3 3] w (kK B a p D bN (n+2+l.pZ d gone first) [] (l.gU d gone first) w):=by
 have U:Hid (n+2+l.pZ d gone first<=1000000000):=by have:=DX l d gone first;show n+2+l.pZ d gone first<=1000000000;omega
 have G:=aa r 0;simp at G;have v:=ae h;have M4:1<w.heap.size:=by have:=h.bE.base.2.2.2;omega
 go_enter func95,ntmps95;go_wp2;apply wp_loop_rounds 4;rw[rounds_succ];go_wp2_with fail;apply(rF B a p D bN n F M J C E l d w v.out oE).mono;rintro e f ⟨rfl,⟨kr,sB,qz,lT,lN,fE⟩,fe⟩;have I:∀{q:Nat} {c:Array Value} {t:TypeId},w.heap[q]?=some (.cells c t (0,0))->t≠58->t≠162->t≠137->t≠34->t≠82->f.heap[q]?=some (.cells c t (0,0)):=λ{q c t} b z s y u x=>
  (fe.block q (zza.1 b).1<|v.out.free b z s y u x).trans b
 have R:=I r dN dN dN dN dN;have O:=I W dN dN dN dN dN;have Y:=I S dN dN dN dN dN;have L:=(fe.block j (zza.1 P).1 V).trans P;have K:dw f:=dF.cF (fe.block 1 M4 λA=>by have:=v.out.ge A;omega);have X:=aa R 1;simp at X;have a1:1<f.heap.size:=by have:=fe.size;omega
 have k:=ae fE;have HO:=ae fe;have M_:=ae R;have Ty:=ae O;have ab:=ae L;have a8:=ae Y;clear h fE fe R O L Y r W P S I G V;by_cases g:(l.sync d).2.2=0
 .rw[g,bQ];go_wp2;rw[rounds_succ];go_wp2_with fail;apply(QD B a p D bN n lT lN i j first kr sB qz (l.sync d).1 (l.sync d).2.1 f k.out oE hx Ty.out ab.out).mono;rintro e w2 ⟨rfl,⟨ya,CF,BP,eN⟩,iH⟩;have I:∀{q:Nat} {c:Array Value} {t:TypeId},f.heap[q]?=some (.cells c t (0,0))->t≠58->t≠162->t≠137->t≠34->t≠82->w2.heap[q]?=some (.cells c t (0,0)):=λ{q c t} b z s y u x=>
   (iH.block q (zza.1 b).1<|k.out.free b z s y u x).trans b
  have qy:=I M_.out dN dN dN dN dN;have N:=I Ty.out dN dN dN dN dN;have T:=I a8.out dN dN dN dN dN;have a':dw w2:=K.cF (iH.block 1 a1 λA=>by have:=k.out.ge A;omega);have z2:=aa qy 2;simp at z2;have o:=ae eN;have Z:=ae<|HO.out.trans iH;have X6:=ae N;have a7:=ae T;clear eN iH qy N T I X K;by_cases lI:((l.sync d).2.1.bh first).2=0
  .obtain⟨nm,lM⟩:∃nm,nm=(l.segs.take gone).map ar:=⟨_,rfl⟩;have e:l.gU d gone first=((l.sync d).1,((l.sync d).2.1.bh first).1.removeAll nm):=by unfold aq.gU;rw[if_pos g,if_pos lI,lM]
   have HE:=ae e;have a6:=ae lM;clear e lM;have⟨gs,cs,H_⟩:=dI o.out.segs (by rw[rK];omega);subst H_;rw[lI,bQ];go_wp2;rw[rounds_succ];go_wp2_with fail;apply(QE B a p D bN (n+2) CF BP i m gone gs cs ya qz (l.sync d).1 ((l.sync d).2.1.bh first).1 w2 o.out (by rw[rK];exact hg) qb hn hB a' X6.out a7.out).mono;rintro e w3 ⟨rfl,⟨Nj,Ph,Nk,sT⟩,wO⟩;rw[rK]at sT ⊢;rw[<-a6.out]at sT ⊢;have H:Hid (kK B a p D bN (n+2+l.pZ d gone first) [] (l.gU d gone first) w (.returned<|cj (((l.sync d).2.1.bh first).1.removeAll nm).2) w3):=by
    show kK _ _ _ _ _ _ _ _ _ _ _;have eg:l.pZ d gone first=gone:=by unfold aq.pZ;rw[if_pos g,if_pos lI]
    rw[HE.out,eg];exact⟨rfl,⟨Nj,_,qz,Ph,Nk,sT⟩,(Z.out.trans wO).x⟩
   clear sT wO;by_cases oX:(((l.sync d).2.1.bh first).1.removeAll nm).2=0
   .rw[oX,bQ]at H ⊢;go_wp2;rw[rounds_succ];go_wp2;go_ret;exact H.out
   .rw[aG oX]at H ⊢;go_wp2;go_ret;exact H.out
  .have H:Hid (kK B a p D bN (n+2+l.pZ d gone first) [] (l.gU d gone first) w (.returned<|cj ((l.sync d).2.1.bh first).2) w2):=by
    show kK _ _ _ _ _ _ _ _ _ _ _;have e:l.gU d gone first=((l.sync d).1,(l.sync d).2.1.bh first):=by unfold aq.gU;rw[if_pos g,if_neg lI]
    rw[e];exact⟨rfl,⟨ya,sB,qz,CF,BP,o.out.fK oE U.out⟩,Z.out.x⟩
   rw[aG lI]at H ⊢;go_wp2;go_ret;exact H.out
 .have H:Hid (kK B a p D bN (n+2+l.pZ d gone first) [] (l.gU d gone first) w (.returned<|cj (l.sync d).2.2) f):=by
   show kK _ _ _ _ _ _ _ _ _ _ _;have e:l.gU d gone first=l.sync d:=by unfold aq.gU;rw[if_neg g]
   rw[e];exact⟨rfl,⟨kr,sB,qz,lT,lN,k.out.fK oE U.out⟩,HO.out.x⟩
  rw[aG g]at H ⊢;go_wp2;go_ret;exact H.out
end Go.Proofs.YtdcafjmdfpjcbaaGreatDoor
