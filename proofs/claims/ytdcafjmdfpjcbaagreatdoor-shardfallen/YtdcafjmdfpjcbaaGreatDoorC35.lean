import Derived.Test.YtdcafjmdfpjcbaaGreatDoorC34
set_option maxHeartbeats 8000000
set_option maxRecDepth 100000
namespace Go.Proofs.YtdcafjmdfpjcbaaGreatDoor
open Go.RowKit Go.Maps Tryz Sc
variable{c g j k rp:Nat}{α:Type}{u v v2:Value}{w w2:World}{R:aK}{x:a_}
theorem Ap{p:α->Bool}:∀{xs:List α} {k:Nat},(∀(j:Nat) (x:α),j<k->xs[j]?=some x->p x=true)->k<=xs.length->(∀x,xs[k]?=some x->p x=false)->xs.takeWhile p=xs.take k/\xs.dropWhile p=xs.drop k
 |[],k,_,_,_=>sE
 |y::ys,0,_,_,h3=>by
  have:=h3 y rfl;simp[this]
 |y::ys,k+1,h1,h2,h3=>by
  have c:=h1 0 y oE rfl;obtain⟨a,b⟩:=Ap (k:=k) (λj x d h=>h1 (j+1) x (by omega)<|by simpa using h) (by simp at h2;omega) (λx h=>h3 x<|by simpa using h);simp[c,a,b]
abbrev yv(t:Nat):a_:=⟨t,1,0,0,[]⟩
abbrev py(t:Nat):a_ × Value:=(yv t,.slice none 0 0)
structure CY [Inhabited Bs](w w':World)(rp t k:Nat)(tv:Value)(ps:List (a_ × Value))(R:aK):Prop where
 rs:∃CX,cX w' rp tv CX (ps.take k++py t :: ps.drop k) ⟨R.table,ins R.af (yv t)⟩
 fr:Fr [rp] w w'
 at_:(ins R.af (yv t))[k]?=some (yv t)
theorem Aq [Inhabited Bs]{t:Nat}{c l:Value}{s:List (a_×Value)}(h:cX w rp c l s R)(f:Fr [] w w2)(n:k<=s.length)(M:∀(j:Nat) (p:a_×Value),j<k->s[j]?=some p->p.1.id<t)(C:∀p,s[k]?=some p->¬p.1.id<t)(r:w2.ownsRow B0 92 5 v2 (k+1+(s.length-k))<|cT (s.take k)++jZ (py t)++cT (s.drop k))(T:eB w v2):
  CY w (w2.setCell (d8 rp 1) v2) rp t k c s R:=by
 have d:=Ap (p:=λy:a_=>decide (y.id<(yv t).id)) (xs:=R.af) (k:=k) (λj x o a=>by
  obtain⟨v,hp⟩:=h.at a
  simpa using M j _ o hp) (by rw[<-h.len];exact n) (λx a=>by
  have⟨v,hp⟩:=h.at a;simpa using C _ hp)
 have e:(s.take k++py t::s.drop k).map (·.1)=ins R.af (yv t):=by
  unfold ins;rw[d.1,d.2,List.map_append,List.map_cons,List.map_take,List.map_drop,h.rs]
 have N:(s.take k++py t::s.drop k).length=k+1+(s.length-k):=by grind
 have Z:∀p∈s.take k++py t::s.drop k,p=py t\/p∈s:=λp hp=>by
  obtain hp|hp:=zzo.1 hp
  .grind
  .grind
 refine⟨⟨v2,h.ld f ?_ (λp hp=>?_) ?_ e T λp hp=>(Z p hp).elim (λe=>.inl<|by rw[e];rfl) λhp=>.inr ⟨p,hp,rfl⟩⟩,(f.mono sE).trans<|Fr.cH sE _ _,?_⟩
 .rw[N,kW];show w2.ownsRow _ _ _ _ _ (cT (s.take k)++(jZ (py t)++cT (s.drop k)));rw[<-zzx];exact r
 .rcases Z p hp with rfl|hp
  .exact zzu _ _ _ _
  .exact av (h.nj p hp) f sE
 .have ha:=h.apart;rw[<-List.take_append_drop k s]at ha;have⟨m,i,z⟩:=List.pairwise_append.1 ha;refine List.pairwise_append.2 ⟨m,zzA.2 ⟨λq _=>.inl rfl,i⟩,λp hp q b=>?_⟩;obtain rfl|b:=zzj.1 b
  .cases u:p.2.ownBlock with
   |none=>grind
   |some g=>exact .inr<|by simp[Value.ownBlock]
  .grind
 .grind
theorem JU [Inhabited Bs](rp t:Nat)(x xv:Value)(s:List<|a_×Value)(R:aK)(w:World)(h:cX w rp x xv s R)(hn:s.length<=1048576):
  Calls prog 181 #[rM rp,.int .u64 (t:Int)] w λe w'=>∃k:Nat,k<=s.length/\e=.returned (.int .i64 (k:Int))/\CY w w' rp t k x s R:=by
 have⟨B,M,K,G,I⟩:=info_parts vJ;have c1:=aa h.blk 1;have f1:=au h.blk 1;simp at c1;have HI:=ae h;have aC:=h.tk;have tR:=h.one;have N5:rp<w.heap.size:=(zza.1 h.blk).1;have⟨ao,c,z,H⟩:=h.slice;have ab:Hid (∀i p,s[i]?=some p->∃g,ao=some (dH g)/\w.cell? (d8 g (i*5))=some (.int .u64 (p.1.id:Int))):=λi p hp=>by have⟨g,e,a,_⟩:=H i p hp;exact⟨g,e,a⟩
 have a7:Hid ((ao=none/\s.length=0/\c=0)\/∃g,ao=some (dH g)/\s.length<=c):=by
  rcases h.tk.2 with⟨e1,h0⟩|⟨g,aA,an,e1,_,hg,oq,ay,_⟩
  .rw[e1]at z;simp only[Value.slice.injEq]at z;exact .inl ⟨z.1.symm,h0,z.2.2.symm⟩
  .rw[e1]at z;simp only[Value.slice.injEq]at z;exact .inr ⟨g,z.1.symm,by rw[<-z.2.2];exact oq⟩
 rw[z]at c1 aC;have⟨n,jD⟩:=xY s.length;rw[<-jD]at hn c1 aC a7 ⊢;have N:=ae jD.symm;clear jD h H z;go_enter func181,ntmps181;go_wp2;go_loopw [5] (λi wr=>∃k:Nat,k<=n/\i=.int .i64 k/\Hid (∀(j:Nat) (p:a_×Value),j<k->s[j]?=some p->p.1.id<t)/\∃q,wr=w.drewN q) (λi _=>n-(intOf i).toNat);case atStart=>exact⟨0,zzs _,rfl,λj p hj=>oE,0,rfl⟩
 case round=>
  obtain⟨k,hk,rfl,dM,q,rfl⟩:=hrel;by_cases a8:∃p,s[k]?=some p/\p.1.id<t
  .obtain⟨p,hp,ad⟩:=a8;have bP:k<n:=by rw[<-N.out];exact(zzd.1 hp).1
   obtain⟨g,rfl,x0⟩:=ab.out k p hp;have B:(0:Int)<=k:=oE;have i1:(k:Int)<n:=oE;have i2:(p.1.id:Int)<(t:Int):=oE;have HP:=ae hp;clear hp;go_wp2;go_roundw;case rel=>exact⟨k+1,oE,nF,λj p' hj yP=>by
    by_cases e:j=k
    .subst e;rw[HP.out]at yP;cases yP;exact ad
    .exact dM.out j p' oE yP,_,rfl⟩
   case measure=>simp[intOf];omega
  .have CZ:Hid (∀p,s[k]?=some p->¬p.1.id<t):=λp hp ad=>a8 ⟨p,hp,ad⟩
   clear a8;have⟨W,hW⟩:=xY <|w.drewN q;have o7:Fr [] w W:=by rw[hW];exact(lE w).aR q
   have Z:W.cell? (d8 rp 1)=some (.slice ao n c):=by rw[hW];simpa using c1
   have a1:=zzl N5 o7.size;have y:Hid (cX W rp x xv s R/\Fr [] w W/\∀w',CY W w' rp t k x s R->CY w w' rp t k x s R):=⟨HI.out.fr o7,o7,λw' hB=>⟨hB.rs,(o7.mono sE).trans hB.fr,hB.at_⟩⟩;have L:=y.1.low;have GW:∀p,s[k]?=some p->∃g,ao=some (dH g)/\W.cell? (d8 g (k*5))=some (.int .u64 (p.1.id:Int)):=λp hp=>by have⟨g,e,a⟩:=ab.out k p hp;exact⟨g,e,by rw[hW];simpa using a⟩
   have Q:=av aC o7 sE;rw[<-hW];clear hW o7 c1 f1 N5 aC ab HI;rcases a7.out with⟨rfl,h0,rfl⟩|⟨g,rfl,oq⟩
   .have GB:k=0:=oE;subst GB;subst h0;have zL:=ae<|List.eq_nil_of_length_eq_zero N.out;clear GW a7
    go_wp2_with (at_builtin;first
     |(apply b5 rfl _ _ 45 rfl B0 92 B _ 5 56 underlying45 M K G I rfl dN (.slice none 0 0) 0 [] rfl (zzu _ _ _ _) 1 (jZ<|py t) (.inl ⟨dH W.heap.size,1,rfl,cD _ (jZ<|py t).toArray _⟩) rfl (by intro u b;simp at b;obtain rfl|rfl|rfl|rfl|rfl:=b<;>rfl) mE oE (zzk L sE);intro l v E f D;have O:=f.cell ((zze<|zzf W _ rp a1).trans Z) (by simp[Value.ownBlock]);have F:Fr [] W v:=Fr.dV ((lE W).alloc _) (eB.nil W) f;clear Z f)
     |(apply b5 rfl _ _ 45 rfl B0 92 B _ 5 56 underlying45 M K G I rfl dN l _ _ rfl E 0 [] (.inr ⟨rfl,rfl,rfl⟩) rfl sE mE oE (zzk L F.size);intro v2 w2 C Y V;obtain⟨o2,c2,rfl⟩:=bZ C;have A:Fr [] W w2:=Fr.dV F (eB.next (eB.nil W) sE D) Y;have cU:w2.heap[rp]?=some (vI x xv):=(A.block rp a1 sE).trans y.1.blk;have d2:=aa cU 1;have f2:=au cU 1;have Yt:=ae (show eB W (.slice o2 (0+1+0) c2)from eB.next (eB.next (eB.nil W) sE D) (by have:=F.size;omega) V);have H2:=ae (show Fr [] W w2/\w2.ownsRow B0 92 5 (.slice o2 (0+1+0) c2) (0+1+0) ([]++jZ (py t)++[])from ⟨A,C⟩);clear A cU C Y V D E O Q))
    go_ret;refine⟨0,zzc _,rfl,y.2.2 _<|Aq y.1 H2.1 (zzs _) dM.out CZ.out ?_ Yt.out⟩;rw[zL.out];exact H2.2
   .clear a7;have j0:(0:Int)<=k:=oE;have j1:(k:Int)<=c:=oE;have j2:(k:Int)<=n:=oE;have al:k=n\/∃d:Nat,k<n/\W.cell? (d8 g (k*5))=some (.int .u64 (d:Int))/\¬(d:Int)<t:=by
     by_cases e:k=n
     .exact .inl e
     .obtain⟨p,hp⟩:∃p,s[k]?=some p:=⟨_,zzg<|by rw[N.out];omega⟩;have⟨g2,e2,a⟩:=GW p hp
      cases e2;exact .inr ⟨p.1.id,oE,a,by have:=CZ.out p hp;omega⟩
    clear GW;have ic:(s.take k).length=k:=by rw[zzm,N.out];omega
    have ak:(cT<|s.take k).length=k*5:=by rw[mo,ic]
    have DR:Hid (∀j u,(cT<|s.take k)[j]?=some u->(cT s)[0+j]?=some u):=λj u b=>by rw[Nat.zero_add];exact CW b
    have qx:Hid (∀u∈cT (s.take k),u.oneCell'=true):=qQ λp hp=>tR p<|List.mem_of_mem_take hp
    clear ic;obtain rfl|⟨d,bP,x0,x1⟩:=al
    .have j3:¬(k:Int)<k:=oE;go_wp2_with (at_builtin;first
      |(apply b5 rfl _ _ 45 rfl B0 92 B _ 5 56 underlying45 M K G I rfl dN (.slice none 0 0) 0 [] rfl (zzu _ _ _ _) k (cT<|s.take k) (my Q 0 k c _ DR.out) ak qx.out mE oE L;intro l v E f D;have F:Fr [] W v:=Fr.dV (lE W) (eB.nil W) f;have O:=f.cell Z (by simp[Value.ownBlock]);have J:eB W l:=eB.next (eB.nil W) (zzc _) D;have d_:rp<v.heap.size:=zzl a1 F.size;clear f D Z)
      |(apply b5 rfl _ _ 45 rfl B0 92 B _ 5 56 underlying45 M K G I rfl dN l _ _ rfl (E.alloc _) 1 (jZ<|py t) (.inl ⟨dH v.heap.size,1,rfl,cD _ (jZ<|py t).toArray _⟩) rfl (by intro u b;simp at b;obtain rfl|rfl|rfl|rfl|rfl:=b<;>rfl) mE oE (zzk (zzk L F.size) sE);intro l2 w2 C Y V;have A:Fr [] W w2:=Fr.dV (F.alloc _) J Y;have YT:B0<=w2.heap.size:=zzk L A.size;have X:eB W l2:=eB.next J (by have:=F.size;simp;omega) V;have d2:=Y.cell ((zze<|zzf v _ rp d_).trans O) (λe=>by have:=J rp e.symm;omega);have lQ:=av Q A sE;clear Y V O E F J d_ Q)
      |(refine b5 rfl _ _ 45 rfl B0 92 B _ 5 56 underlying45 M K G I rfl dN l2 _ _ rfl C (k-k) (cT (s.drop k)) ?_ ?_ ?_ ?_ ?_ ?_ ?_))
     all_goals first
      |exact my lQ (k*5) _ _ _ (λj u b=>xr (by rw[N.out];omega) b)
      |exact Am _ _ _ oE (by rw[List.drop_eq_nil_of_le<|by rw[N.out];omega];rfl)
      |exact qQ λp hp=>tR p<|List.mem_of_mem_drop hp
      |(rw[mo,zzz,N.out];done)
      |(rw[List.drop_eq_nil_of_le<|by rw[N.out];omega];rfl)
      |(unfold maxLen;omega;done)
      |(omega;done)
      |skip
     all_goals
      intro v3 U P ko a6;obtain⟨r,c3,rfl⟩:=bZ P;have T:=Fr.dV A X ko;have a':∀q,r.map (λa=>a.block)=some q->W.heap.size<=q:=λq o=>eB.next X A.size a6 q<|by cases r with|none=>cases o|some a=>exact o
      have S:U.heap[rp]?=some (vI x xv):=(T.block rp a1 sE).trans y.1.blk;have d3:=aa S 1;have f3:=au S 1;have e3:∀m,m=k+1+(k-k)->(U.ownsRow B0 92 5 (.slice r m c3) m<|cT (s.take k)++jZ (py t)++cT (s.drop k))->CY W (U.setCell (d8 rp 1)<|.slice r m c3) rp t k x s R:=λm hm ho=>Aq y.1 T (by rw[N.out];exact hk) dM.out CZ.out (by rw[N.out,<-hm];exact ho) λq o=>a' q<|by cases r with|none=>cases o|some a=>exact o
      have H3:=ae (e3 (k+1) oE<|by simpa using P);clear e3 T S P ko a6 lQ C A X d2;go_wp2;go_ret;exact⟨k,hk,rfl,y.2.2 _ H3.out⟩
    .have j3:(k:Int)<n:=oE;go_wp2_with (at_builtin;first
      |(apply b5 rfl _ _ 45 rfl B0 92 B _ 5 56 underlying45 M K G I rfl dN (.slice none 0 0) 0 [] rfl (zzu _ _ _ _) k (cT<|s.take k) (my Q 0 k c _ DR.out) ak qx.out mE oE L;intro l v E f D;have F:Fr [] W v:=Fr.dV (lE W) (eB.nil W) f;have O:=f.cell Z (by simp[Value.ownBlock]);have J:eB W l:=eB.next (eB.nil W) (zzc _) D;have d_:rp<v.heap.size:=zzl a1 F.size;clear f D Z)
      |(apply b5 rfl _ _ 45 rfl B0 92 B _ 5 56 underlying45 M K G I rfl dN l _ _ rfl (E.alloc _) 1 (jZ<|py t) (.inl ⟨dH v.heap.size,1,rfl,cD _ (jZ<|py t).toArray _⟩) rfl (by intro u b;simp at b;obtain rfl|rfl|rfl|rfl|rfl:=b<;>rfl) mE oE (zzk (zzk L F.size) sE);intro l2 w2 C Y V;have A:Fr [] W w2:=Fr.dV (F.alloc _) J Y;have YT:B0<=w2.heap.size:=zzk L A.size;have X:eB W l2:=eB.next J (by have:=F.size;simp;omega) V;have d2:=Y.cell ((zze<|zzf v _ rp d_).trans O) (λe=>by have:=J rp e.symm;omega);have lQ:=av Q A sE;clear Y V O E F J d_ Q)
      |(refine b5 rfl _ _ 45 rfl B0 92 B _ 5 56 underlying45 M K G I rfl dN l2 _ _ rfl C (n-k) (cT (s.drop k)) ?_ ?_ ?_ ?_ ?_ ?_ ?_))
     all_goals first
      |exact my lQ (k*5) _ _ _ (λj u b=>xr (by rw[N.out];omega) b)
      |exact Am _ _ _ oE (by rw[List.drop_eq_nil_of_le<|by rw[N.out];omega];rfl)
      |exact qQ λp hp=>tR p<|List.mem_of_mem_drop hp
      |(rw[mo,zzz,N.out];done)
      |(rw[List.drop_eq_nil_of_le<|by rw[N.out];omega];rfl)
      |(unfold maxLen;omega;done)
      |(omega;done)
      |skip
     all_goals
      intro v3 U P ko a6;obtain⟨r,c3,rfl⟩:=bZ P;have T:=Fr.dV A X ko;have a':∀q,r.map (λa=>a.block)=some q->W.heap.size<=q:=λq o=>eB.next X A.size a6 q<|by cases r with|none=>cases o|some a=>exact o
      have S:U.heap[rp]?=some (vI x xv):=(T.block rp a1 sE).trans y.1.blk;have d3:=aa S 1;have f3:=au S 1;have e3:∀m,m=k+1+(n-k)->(U.ownsRow B0 92 5 (.slice r m c3) m<|cT (s.take k)++jZ (py t)++cT (s.drop k))->CY W (U.setCell (d8 rp 1)<|.slice r m c3) rp t k x s R:=λm hm ho=>Aq y.1 T (by rw[N.out];exact hk) dM.out CZ.out (by rw[N.out,<-hm];exact ho) λq o=>a' q<|by cases r with|none=>cases o|some a=>exact o
      have H3:=ae (e3 (k+1+(n-k)) rfl<|by simpa using P);clear e3 T S P ko a6 lQ C A X d2;go_wp2;go_ret;exact⟨k,hk,rfl,y.2.2 _ H3.out⟩
theorem qR{base:Nat}{e:TypeId}{size n:Nat}{xs:List Value}(h:w.ownsRow base e size (.slice (some<|dH g) n c) n xs):(w.setCell (d8 g j) u).ownsRow base e size (.slice (some<|dH g) n c) n (xs.set j u):=by
 rcases h.2 with⟨a,_⟩|⟨m,W,r,a,d,l,b,f,k,i⟩
 .simp at a
 .simp only[Value.slice.injEq,Option.some.injEq,Addr.mk.injEq,and_true,true_and]at a;obtain⟨rfl,rfl⟩:=a;refine⟨by rw[List.length_set];exact h.1,.inr ⟨g,c,r.setIfInBounds j u,rfl,d,?_,b,f,by simpa using k,?_⟩⟩
  .grind [aH]
  .rw[<-i];simp only[Array.toList_setIfInBounds];rw[List.take_set]
theorem vK{f:α->List Value}(a:∀x,(f x).length=k):∀(l:List α) (i j:Nat) (x y:α) (u:Value),l[i]?=some x->j<k->f y=(f x).set j u->(l.set i y).flatMap f=(l.flatMap f).set (i*k+j) u
 |[],i,j,x,y,u,h,_,_=>by simp at h
 |z::l,0,j,x,y,u,h,hj,hf=>by
  simp at h;subst h;rw[List.set_cons_zero,List.flatMap_cons,List.flatMap_cons,Nat.zero_mul,Nat.zero_add,List.set_append_left _ _<|by rw[a];exact hj,hf]
 |z::l,i+1,j,x,y,u,h,hj,hf=>by
  simp at h;have e:(i+1)*k+j=(f z).length+(i*k+j):=by rw[a,Nat.add_mul,Nat.one_mul];omega
  rw[List.set_cons_succ,List.flatMap_cons,List.flatMap_cons,e,List.set_append_right _ _ oE,Nat.add_sub_cancel_left,vK a l i j x y u h hj hf]
section
variable{w:World}{rp:Nat}{J I:Value}{E:List (a_ × Value)}{R:aK}
theorem cX.aa3 [Inhabited Bs](h:cX w rp J I E R){i j g c:Nat}{x x':a_}{v u:Value}(l:I=.slice (some<|dH g) E.length c)(hp:E[i]?=some (x,v))(q:j<5)(o:jZ (x',v)=(jZ (x,v)).set j u)(s:x'.ak=x.ak):
  cX (w.setCell (d8 g<|i*5+j) u) rp J I (E.set i (x',v)) ⟨R.table,R.af.set i x'⟩/\lK w g:=by
 have y:i<E.length:=(zzd.1 hp).1;have B:=h.tk;rw[l]at B;have⟨t,d⟩:=aF B rfl;refine⟨{base:=h.base,blk:=?_,tab:=b_ h.tab d dN,tk:=?_,nj:=λp n=>?_,apart:=?_,rs:=?_,mine:=h.Ej sE (λk r=>h.Ao hp r)},⟨(B.lt g rfl).1,h.mine g<|.inr<|.inl<|by rw[l];rfl⟩,_,_,d,.inr<|.inl rfl⟩
 .refine(Below.heap_setCell _ _ _ rp ?_).trans h.blk;intro e;simp only[]at e;have:=h.blk;rw[e,d]at this;cases this
 .rw[List.length_set,l];have:=qR (j:=i*5+j) (u:=u) B;have e:=vK (f:=jZ) (k:=5) (λ_=>rfl) E i j (x,v) (x',v) u hp q o;unfold cT at this ⊢;rw[e];exact this
 .rcases List.mem_or_eq_of_mem_set n with n|rfl
  .exact b_ (h.nj p n) d dN
  .have:=b_ (u:=u) (i:=i*5+j) (h.nj (x,v)<|zzh hp) d dN;simp only[s];exact this
 .have h2:(E.map (·.2)).Pairwise λa b=>a.ownBlock=none\/a.ownBlock≠b.ownBlock:=by rw[List.pairwise_map];exact h.apart
  have e:(E.set i (x',v)).map (·.2)=E.map (·.2):=by
   rw[List.map_set];apply List.ext_getElem?;intro m;rw[List.getElem?_set];split
   .grind
   .rfl
  rw[<-e,List.pairwise_map]at h2;exact h2
 .rw[List.map_set,h.rs]
end
def RS [Inhabited Bs](w:World)(rp:Nat)(R:aK):Prop:=∃J I E,cX w rp J I E R
theorem RS.fr [Inhabited Bs]{w':World}(h:RS w rp R)(f:Fr [] w w'):RS w' rp R:=by
 have⟨J,I,E,h⟩:=h;exact⟨J,I,E,h.fr f⟩
def aK.abort(R:aK)(t:Nat):aK × Nat:=if t=0 then (R,7) else (⟨R.table,del R.af t⟩,0)
theorem JV [Inhabited Bs](rp t:Nat)(R:aK)(w:World)(h:RS w rp R)(hn:R.af.length<=1048576)(f:jg R.af):
  Calls prog 57 #[rM rp,.int .u64 (t:Int)] w λe w'=>e=.returned (.int .i64 ((R.abort t).2:Int))/\RS w' rp (R.abort t).1/\iE w w':=by
 have⟨J,I,E,h⟩:=h;have n:=oI rp t J I E R w h (by rw[h.len];omega);have r:=λi (a:i<E.length) (W:World) (l:cX W rp J I E R)=>xt rp i J I E R W l a<|by rw[h.len];exact hn
 have H:=ae<|zzb h f;clear h f
 go_enter func57,ntmps57;go_wp2_with fail;apply n.mono;rintro e s ⟨rfl,q,rfl⟩;clear n;have N:=ae<|(lE w).aR q;by_cases c:t=0
 .have e1:R.abort t=(R,7):=if_pos c;subst c;go_wp2;go_ret;rw[e1];exact⟨rfl,⟨_,_,_,H.1.fr N.out⟩,iE.dJ N.out sE⟩
 .have e1:R.abort t=(⟨R.table,del R.af t⟩,0):=if_neg c;have z:¬((t:Int)=0):=oE;cases d:p8 R.af t with
  |none=>
   have b:ze none=-1:=rfl;rw[b];go_wp2;go_ret;rw[e1,Gx<|mg d];exact⟨rfl,⟨_,_,_,H.1.fr N.out⟩,iE.dJ N.out sE⟩
  |some i=>
   have⟨x,a,o,m⟩:=kR d;have b:ze (some i)=(i:Int):=rfl;have S:i<E.length:=by rw[H.1.len];exact(zzd.1 a).1
   have u:(0:Int)<=i:=oE;have j:=r i S (w.drewN q)<|H.1.fr N.out;have X:Hid (R.af.take i++R.af.drop (i+1)=del R.af t):=by have:=H.2.erase a;rw[o]at this;exact this
   rw[b];clear r d a m;go_wp2_with fail;apply j.mono;rintro e w2 ⟨rfl,⟨CX,hr⟩,hf⟩;have p:Hid (RS w2 rp ⟨R.table,del R.af t⟩/\iE w w2):=⟨by rw[<-X.out];exact⟨_,_,_,hr⟩,(iE.dJ N.out sE).trans (iE.dJ hf λk g=>by simp at g;subst g;exact(H.1.fr N.out).ref)⟩;clear j hr hf;go_wp2;go_ret;rw[e1];exact⟨rfl,p.out⟩
theorem Ek [Inhabited Bs](rp t:Nat)(R:aK)(w:World)(h:RS w rp R)(hn:R.af.length<=1048576)(J:jg R.af)(hl:∀x∈R.af,x.ak.length<=1048576):
  Calls prog 52 #[rM rp,.int .u64 (t:Int)] w λe w'=>e=.returned (.tuple #[.int .i64 ((R.aO t).2.1:Int),.int .i64 ((R.aO t).2.2:Int)])/\RS w' rp (R.aO t).1/\iE w w':=by
 have⟨E,y,s,h⟩:=h;have b:=oI rp t E y s R w h (by rw[h.len];omega);have I:Hid (cX w rp E y s R/\jg R.af):=⟨h,J⟩;have K:Hid (∀i,i<s.length->∀W,cX W rp E y s R->_):=λi (f:i<s.length) (W:World) (hW:cX W rp E y s R)=>xt rp i E y s R W hW f<|by rw[h.len];exact hn
 have c1:=aa h.blk 1;simp at c1;by_cases A:t=0
 .have d:R.aO t=(R,0,7):=if_pos A;subst A;clear b K h;go_enter func52,ntmps52;go_wp2;go_ret2;rw[d];exact⟨rfl,⟨_,_,_,I.1⟩,iE.refl w⟩
 have z1:¬((t:Int)=0):=oE;cases z:p8 R.af t with
 |none=>
  have d:R.aO t=(R,3,0):=by unfold aK.aO;rw[if_neg A,mg z]
  rw[z]at b;have X:ze none=-1:=rfl;rw[X]at b;clear K h z;go_enter func52,ntmps52;go_wp2_with fail;apply b.mono;rintro e Z ⟨rfl,q,rfl⟩;have N:Hid (Fr [] w<|w.drewN q):=(lE w).aR q;clear b;go_wp2;go_ret2;rw[d];exact⟨rfl,⟨_,_,_,I.1.fr N.out⟩,iE.dJ N.out sE⟩
 |some i=>
  have⟨x,f,a6,gJ⟩:=kR z;rw[z]at b;have X:ze (some i)=(i:Int):=rfl;rw[X]at b;have⟨v,hp⟩:=h.at f;have T:i<s.length:=(zzd.1 hp).1;have⟨ao,c,G,H⟩:=h.slice;have⟨g,O,x0,Q,x2,x3,x4⟩:=H i _ hp;simp only[]at x0 Q x2 x3 x4;have V:=h.nj _<|zzh hp;simp only[]at V;have JN:=hl x<|zzh f;have⟨la,lc,e4,HL⟩:=mR V;rw[G,O]at c1;rw[e4]at x4;have GL:Hid (∀i l,x.ak[i]?=some l->∃g,la=some ⟨g,0,none⟩/\w.cell? ⟨g,i*4+1,none⟩=some (.bool l.wr)):=λi l f=>by have⟨g,e,_,a,_⟩:=HL i l f;exact⟨g,e,a⟩
  have HX:Hid (R.af.take i++R.af.drop (i+1)=del R.af t):=by have:=J.erase f;rw[a6]at this;exact this
  have HU:Hid (R.af.set i x.ready=fH R.af x.ready):=J.set f rfl;have P:Hid (s[i]?=some (x,v)/\y=.slice (some ⟨g,0,none⟩) s.length c/\aU R.af t=some x):=⟨hp,by rw[G,O],gJ⟩;obtain⟨a7,hg⟩:=aF h.tk (g:=g) (by rw[G,O];rfl);have f1:=au hg<|i*5+1;have⟨n,U⟩:=xY s.length;rw[<-U]at c1 T;have⟨r,Y⟩:=xY x.ak.length;have wD:Hid (x.ak.length=r):=Y.symm;rw[<-Y]at x4 JN;have HN:Hid (s.length=n):=U.symm;have oa:x.st=3\/x.st=2\/(x.st≠3/\x.st≠2):=oE
  have i0:(0:Int)<=i:=oE;have i1:(i:Int)<n:=oE;have i2:¬(i:Int)<0:=oE;clear h z f hp H HL G O e4 U Y V hg hl J gJ;obtain L|h2|⟨L,h2⟩:=oa
  .have d:R.aO t=(R,2,0):=by unfold aK.aO;rw[if_neg A,P.2.2];simp[L]
   rw[L]at Q;go_enter func52,ntmps52;go_wp2_with fail;apply b.mono;rintro e Z ⟨rfl,q,rfl⟩;have N:Hid (Fr [] w<|w.drewN q):=(lE w).aR q;clear b;go_wp2;go_ret2;rw[d];exact⟨rfl,⟨_,_,_,I.1.fr N.out⟩,iE.dJ N.out sE⟩
  .have d:R.aO t=(⟨R.table,del R.af t⟩,3,0):=by unfold aK.aO;rw[if_neg A,P.2.2];simp[h2]
   rw[h2]at Q;go_enter func52,ntmps52;go_wp2_with fail;apply b.mono;rintro e Z ⟨rfl,q,rfl⟩;have N:Hid (Fr [] w<|w.drewN q):=(lE w).aR q;clear b;have C:=K.out i (by rw[HN.out];exact T) (w.drewN q)<|I.1.fr N.out;go_wp2_with fail;apply C.mono;rintro e w2 ⟨rfl,⟨CX,hr⟩,hf⟩;have B:Hid (RS w2 rp ⟨R.table,del R.af t⟩/\iE w w2):=⟨by rw[<-HX.out];exact⟨_,_,_,hr⟩,(iE.dJ N.out sE).trans (iE.dJ hf λk o=>by simp at o;subst o;exact(I.1.fr N.out).ref)⟩;clear C hr hf;go_wp2;go_ret2;rw[d];exact⟨rfl,B.out⟩
  .have b3:((x.st:Int)==3)=false:=sC;have b2:((x.st:Int)==2)=false:=sC;have z3:¬((x.st:Int)=3):=oE;have z2:¬((x.st:Int)=2):=oE;have HE:Hid (R.aO t=if x.ak.any (·.wr)=true then (⟨R.table,fH R.af x.ready⟩,2,0)else (⟨R.table,del R.af t⟩,4,0)):=by
    show _=_;unfold aK.aO;rw[if_neg A,P.2.2];simp only[];rw[if_neg L,if_neg h2]
   go_enter func52,ntmps52;go_wp2_with fail;apply b.mono;rintro e Z ⟨rfl,q,rfl⟩;clear b;go_wp2
   go_loopw [7] (λi wr=>∃m:Nat,m<=r/\i=.int .i64 m/\Hid (∀j l,j<m->x.ak[j]?=some l->l.wr=false)/\∃q,wr=w.drewN q) (λi _=>r-(intOf i).toNat)
   case atStart=>exact⟨0,zzs _,rfl,λj p M=>oE,q,rfl⟩
   case round=>
    obtain⟨m,hm,rfl,dM,D,rfl⟩:=hrel;have N:Hid (Fr [] w<|w.drewN D):=(lE w).aR D;by_cases bP:m<r
    .obtain⟨l,hlm⟩:∃l,x.ak[m]?=some l:=⟨_,zzg<|by rw[wD.out];exact bP⟩;obtain⟨g2,rfl,y1⟩:=GL.out m l hlm;have j0:(0:Int)<=m:=oE
     have j1:(m:Int)<r:=oE;have a1:Hid (x.ak[m]?=some l):=hlm;clear hlm
     cases F:l.wr with
     |true=>
      rw[F]at y1;have d:R.aO t=(⟨R.table,fH R.af x.ready⟩,2,0):=by rw[HE.out,if_pos<|any_true a1.out F]
      obtain⟨k1,k2⟩:=(I.1.fr N.out).aa3 (j:=1) (u:=.int .i64 3) (x':=x.ready) P.2.1 P.1 (by decide) rfl rfl;rw[HU.out]at k1;have B:Hid (RS ((w.drewN D).setCell ⟨g,i*5+1,none⟩<|.int .i64 3) rp ⟨R.table,fH R.af x.ready⟩/\iE w ((w.drewN D).setCell ⟨g,i*5+1,none⟩<|.int .i64 3)):=⟨⟨_,_,_,k1⟩,(iE.dJ N.out sE).trans (iE.dJ (Fr.cH (S:=[g]) (by simp) _ _) λk o=>by simp at o;subst o;exact k2)⟩;clear k1 k2;go_wp2;go_ret2;rw[d];exact⟨rfl,B.out⟩
     |false=>
      rw[F]at y1;go_wp2;go_roundw;case rel=>exact⟨m+1,oE,nF,λj p' M yP=>by
       by_cases e:j=m
       .subst e;rw[a1.out]at yP;cases yP;exact F
       .exact dM.out j p' oE yP,_,rfl⟩
      case measure=>simp[intOf];omega
    .have d:R.aO t=(⟨R.table,del R.af t⟩,4,0):=by
      rw[HE.out,if_neg];rw[any_false λj l M=>dM.out j l (by have:=(zzd.1 M).1;rw[wD.out]at this;omega) M];simp
     have C:=K.out i (by rw[HN.out];exact T) (w.drewN D)<|I.1.fr N.out;go_wp2_with fail;apply C.mono;rintro e w2 ⟨rfl,⟨CX,hr⟩,hf⟩;have B:Hid (RS w2 rp ⟨R.table,del R.af t⟩/\iE w w2):=⟨by rw[<-HX.out];exact⟨_,_,_,hr⟩,(iE.dJ N.out sE).trans (iE.dJ hf λk o=>by simp at o;subst o;exact(I.1.fr N.out).ref)⟩;clear C hr hf;go_wp2;go_ret2;rw[d];exact⟨rfl,B.out⟩
def jF(xs:List a_):List Nat:=(xs.filter λx=>decide (x.st=3)).map (·.id)
theorem El{xs:List a_}(h:xs[k]?=some x):jF (xs.take<|k+1)=jF (xs.take k)++(if x.st=3 then [x.id]else []):=by
 unfold jF;rw[List.take_add_one,h,List.filter_append,List.map_append];congr 1;by_cases e:x.st=3<;>simp[e]
theorem GC(xs:List a_)(k:Nat):(jF<|xs.take k).length<=k:=by grind[jF]
theorem Em [Inhabited Bs](rp:Nat)(R:aK)(w:World)(h:RS w rp R)(hn:R.af.length<=1048576):
  Calls prog 40 #[rM rp] w λe w'=>∃v,e=.returned v/\w'.ownsRow w.heap.size 34 1 v R.waiting.length (dh R.waiting)/\Fr [] w w':=by
 have⟨tv,X,s,h⟩:=h;have⟨y,F,K,A,J⟩:=info_parts nB;have I:=ae h;have⟨n,D⟩:=xY s.length;have N:=ae D.symm;rw[<-h.len,<-D]at hn;clear h D;go_enter func40,ntmps40;go_wp2;go_loopw [3,4] (λo i wr=>∃k:Nat,k<=n/\i=.int .i64 k/\Hid (wr.ownsRow w.heap.size 34 1 o (jF<|R.af.take k).length (dh<|jF<|R.af.take k)/\Fr [] w wr)) (λ_ i _=>n-(intOf i).toNat);case atStart=>exact⟨0,zzs _,rfl,zzu _ _ _ _,lE w⟩
 case round=>
  obtain⟨k,l,rfl,r⟩:=hrel;have⟨m,a⟩:=xY <|(jF<|R.af.take k).length;have Y:m<=k:=by rw[a];exact GC _ _
  have W:=I.out.fr r.2;have c1:=aa W.blk 1;simp at c1;have⟨V,c,B,H⟩:=W.slice;rw[B,N.out]at c1;by_cases P:k<n
  .obtain⟨p,hp⟩:∃p,s[k]?=some p:=⟨_,zzg<|by rw[N.out];exact P⟩;obtain⟨g,rfl,Z,x,_⟩:=H k p hp;have S:=ae<|El<|I.out.back hp;have Q:(0:Int)<=k:=oE
   have L:(k:Int)<n:=oE;have C:=r.1;have O:=r.2.size;rw[<-a]at C;have M:=ae<|zzb a r.2;clear H hp W a r;by_cases d:p.1.st=3
   .rw[d]at x;have T:Hid (∀k,_->_):=λk l=>(C.lt k l).1
    go_wp2_with (at_builtin;apply b5 rfl _ _ 49 rfl w.heap.size 34 y _ 1 8 underlying49 F K A J rfl dN _ m _ rfl (C.alloc _) 1 [.int .u64 (p.1.id:Int)] (.inl ⟨dH wr.heap.size,1,rfl,cD _ #[.int .u64 (p.1.id:Int)] _⟩) rfl (by intro u t;simp at t;subst t;rfl) mE oE sC;intro E j q f z;have b:Hid (j.ownsRow w.heap.size 34 1 E (jF<|R.af.take<|k+1).length (dh<|jF<|R.af.take<|k+1)/\Fr [] w j):=(by refine⟨?_,Fr.dV (M.2.alloc _) T.out f⟩;rw[S.out,if_pos d,l_,zzi,<-M.1];exact q);clear q f z);go_roundw;case rel=>exact⟨k+1,oE,nF,b.out⟩
    case measure=>simp[intOf];omega
   .have b3:((p.1.st:Int)==3)=false:=sC;have U:¬((p.1.st:Int)=3):=oE;have b:Hid (wr.ownsRow w.heap.size 34 1 u3 (jF<|R.af.take<|k+1).length (dh<|jF<|R.af.take<|k+1)/\Fr [] w wr):=by
     refine⟨?_,M.2⟩;rw[S.out,if_neg d,List.append_nil,<-M.1];exact C
    go_wp2;go_roundw;case rel=>exact⟨k+1,oE,nF,b.out⟩
    case measure=>simp[intOf];omega
  .have Hz:k=n:=oE;have G:Hid (R.af.take k=R.af):=zzt (by rw[Hz,<-N.out,I.out.len];omega);clear H W;go_wp2;go_ret;refine⟨_,rfl,?_,r.2⟩;have:=r.1;rw[G.out]at this;exact this
def eH(p:a_ × Value):Option (a_ × Value):=p.1.eF.map λx=>(x,p.2)
theorem JX(s:List<|a_×Value):(s.filterMap eH).map (·.1)=(s.map (·.1)).filterMap a_.eF:=by
 rw[List.map_filterMap,List.filterMap_map];congr 1;funext p;unfold eH;cases h:p.1.eF<;>simp[h]
theorem GF{s:List (a_×Value)}{p:a_×Value}(h:s[k]?=some p):(s.take<|k+1).filterMap eH=(s.take k).filterMap eH++(eH p).toList:=by
 rw[List.take_add_one,h,List.filterMap_append];congr 1
theorem Ar{s:List (a_×Value)}{q:a_×Value}(h:q∈s.filterMap eH):∃p∈s,q.2=p.2/\q.1.ak=p.1.ak:=by grind[eH,a_.eF]
theorem JY(s:List<|a_×Value)(k:Nat):((s.take k).filterMap eH).length<=k:=zzk (List.length_filterMap_le _ _)<|by rw[zzm];omega
theorem cX.Jn [Inhabited Bs]{m:Value}{s:List (a_×Value)}(h:cX w rp v m s R)(f:Fr [] w w2)(o:w2.ownsRow B0 92 5 v2 (s.filterMap eH).length<|cT<|s.filterMap eH)(T:eB w v2):cX (w2.setCell (d8 rp 1) v2) rp v v2 (s.filterMap eH) R.tick:=by
 refine h.ld f o (λq d=>?_) ?_ (by rw[JX,h.rs]) T λq d=>by have⟨p,hp,e,_⟩:=Ar d;exact .inr ⟨p,hp,by rw[e]⟩
 .obtain⟨p,hp,e,c⟩:=Ar d;rw[e,c];exact av (h.nj p hp) f sE
 .rw[List.pairwise_filterMap];apply h.apart.imp;intro a b Y g j k l;have e:g.2=a.2:=by
   unfold eH at j;cases i:a.1.eF with
   |none=>grind
   |some x=>grind
  have c:k.2=b.2:=by
   unfold eH at l;cases i:b.1.eF with
   |none=>grind
   |some x=>grind
  rw[e,c];exact Y
theorem Au(w:World)(o:Obj)(cs:Array Value)(t:TypeId):∀j u,cs.toList[j]?=some u->((w.alloc o).alloc<|.cells cs t).cell? (((dH<|w.heap.size+1):Addr).add j)=some u:=by
 have:=cD (w.alloc o) cs t;rwa [zzv]at this
theorem N7 [Inhabited Bs](rp:Nat)(R:aK)(w:World)(h:RS w rp R)(hn:R.af.length<=1048576)(J:∀x∈R.af,x.jY<1048576):
  Calls prog 50 #[rM rp] w λe w'=>e=.returned (.tuple #[])/\RS w' rp R.tick/\iE w w':=by
 have⟨tv,xv,s,h⟩:=h;have⟨K,P,U,L,Q⟩:=info_parts vJ;have I:=ae<|zzb h J;have⟨n,D⟩:=xY s.length;have G:=ae D.symm;rw[<-h.len,<-D]at hn;clear h D J
 go_enter func50,ntmps50;go_wp2;go_loopw [2,3] (λo i wr=>∃k:Nat,k<=n/\i=.int .i64 k/\Hid (wr.ownsRow w.heap.size 92 5 o ((s.take k).filterMap eH).length (cT<|(s.take k).filterMap eH)/\Fr [] w wr)) (λ_ i _=>n-(intOf i).toNat)
 case atStart=>exact⟨0,zzs _,rfl,zzu _ _ _ _,lE w⟩
 case round=>
  obtain⟨k,d,rfl,r⟩:=hrel;have⟨m,z⟩:=xY <|((s.take k).filterMap eH).length;have UW:m<=k:=by rw[z];exact JY _ _
  have W:=I.1.fr r.2;have c1:=aa W.blk 1;have f1:=au W.blk 1;simp at c1;have⟨ao,c,e0,H⟩:=W.slice;rw[e0,G.out]at c1;by_cases bP:k<n
  .obtain⟨p,hp⟩:∃p,s[k]?=some p:=⟨_,zzg<|by rw[G.out];exact bP⟩;obtain⟨g,rfl,x0,X,x2,Y,x4⟩:=H k p hp;have F:=ae<|GF hp;have a8:=I.2 p.1<|zzh<|I.1.back hp;have tR:=row_one<|I.1.nj p<|zzh hp;have i1:(0:Int)<=k:=oE
   have i2:(k:Int)<n:=oE;have C:=r.1;have a6:=r.2.size;rw[<-z]at C;have M:=ae<|zzb z r.2
   have⟨a,v,l⟩:∃a v b,p.2=.slice a v b:=by
    rcases (I.1.nj p<|zzh hp).2 with⟨e,_⟩|⟨gg,a7,a1,e,_⟩
    .exact⟨_,_,_,e⟩
    .exact⟨_,_,_,e⟩
   have⟨b,l⟩:=l;rw[l]at x4;clear H hp W z r f1;have T:Hid (eB w u2):=λk d=>(C.lt k d).1
   by_cases t:p.1.st=3
   .rw[t]at X;have O:Hid (eH p=some (p.1,p.2)/\jZ (p.1,p.2)=[.int .u64 (p.1.id:Int),.int .i64 3,.int .i64 (p.1.ops:Int),.int .i64 (p.1.jY:Int),.slice a v b]):=by
     refine⟨?_,?_⟩
     .unfold eH a_.eF;rw[if_pos t];rfl
     .simp[t,l]
    go_wp2_with (at_builtin;apply b5 rfl _ _ 45 rfl w.heap.size 92 K _ 5 56 underlying45 P U L Q rfl dN _ m _ rfl ((C.alloc _).alloc _) 1 [.int .u64 (p.1.id:Int),.int .i64 3,.int .i64 (p.1.ops:Int),.int .i64 (p.1.jY:Int),.slice a v b] (.inl ⟨dH (wr.heap.size+1),1,rfl,Au _ _ #[.int .u64 (p.1.id:Int),.int .i64 3,.int .i64 (p.1.ops:Int),.int .i64 (p.1.jY:Int),.slice a v b] _⟩) rfl (by intro u y;simp at y;obtain rfl|rfl|rfl|rfl|rfl:=y<;>rfl) mE oE sC;intro B j q N A;have f:Hid (j.ownsRow w.heap.size 92 5 B ((s.take<|k+1).filterMap eH).length (cT<|(s.take<|k+1).filterMap eH)/\Fr [] w j):=(by refine⟨?_,Fr.dV ((M.2.alloc _).alloc _) T.out N⟩;rw[F.out,O.1,kW,zzi,<-M.1];have E:cT (some (p.1,p.2)).toList=jZ (p.1,p.2):=rfl;rw[E,O.2];exact q);clear q N A);go_roundw;case rel=>exact⟨k+1,oE,nF,f.out⟩
    case measure=>simp[intOf];omega
   .have b3:((p.1.st:Int) != 3)=true:=sC;have z3:¬((p.1.st:Int)=3):=oE;by_cases V:p.1.jY+1=16
    .have e15:p.1.jY=15:=oE;rw[e15]at Y;have O:Hid (eH p=none):=by show _=_;unfold eH a_.eF;rw[if_neg t,if_pos V];rfl
     have f:∀o:Obj,Hid ((wr.alloc o).ownsRow w.heap.size 92 5 u2 ((s.take<|k+1).filterMap eH).length (cT<|(s.take<|k+1).filterMap eH)/\Fr [] w (wr.alloc o)):=λo=>by
      refine⟨?_,M.2.alloc _⟩;rw[F.out,O.out,Option.toList_none,List.append_nil,<-M.1];exact C.alloc _
     go_wp2;go_roundw;case rel=>exact⟨k+1,oE,nF,f _⟩
     case measure=>simp[intOf];omega
    .have z16:¬((p.1.jY:Int)+1=16):=oE;have O:Hid (eH p=some (⟨p.1.id,p.1.st,p.1.ops,p.1.jY+1,p.1.ak⟩,p.2)):=by show _=_;unfold eH a_.eF;rw[if_neg t,if_neg V];rfl
     have E:Hid (cT (some ((⟨p.1.id,p.1.st,p.1.ops,p.1.jY+1,p.1.ak⟩:a_),p.2)).toList=[.int .u64 (p.1.id:Int),.int .i64 (p.1.st:Int),.int .i64 (p.1.ops:Int),.int .i64<|(p.1.jY:Int)+1,.slice a v b]):=by show _=_;rw[l];rfl
     go_wp2_with (at_builtin;apply b5 rfl _ _ 45 rfl w.heap.size 92 K _ 5 56 underlying45 P U L Q rfl dN _ m _ rfl ((C.alloc _).alloc _) 1 [.int .u64 (p.1.id:Int),.int .i64 (p.1.st:Int),.int .i64 (p.1.ops:Int),.int .i64<|(p.1.jY:Int)+1,.slice a v b] (.inl ⟨dH (wr.heap.size+1),1,rfl,Au _ _ #[.int .u64 (p.1.id:Int),.int .i64 (p.1.st:Int),.int .i64 (p.1.ops:Int),.int .i64<|(p.1.jY:Int)+1,.slice a v b] _⟩) rfl (by intro u y;simp at y;obtain rfl|rfl|rfl|rfl|rfl:=y<;>rfl) mE oE sC;intro B j q N A;have f:Hid (j.ownsRow w.heap.size 92 5 B ((s.take<|k+1).filterMap eH).length (cT<|(s.take<|k+1).filterMap eH)/\Fr [] w j):=(by refine⟨?_,Fr.dV ((M.2.alloc _).alloc _) T.out N⟩;rw[F.out,O.out,kW,zzi,<-M.1,E.out];exact q);clear q N A)
     go_roundw;case rel=>exact⟨k+1,oE,nF,f.out⟩
     case measure=>simp[intOf];omega
  .have Hz:k=n:=oE;have HE:Hid (s.take k=s):=zzt (by rw[Hz,<-G.out];omega);clear H;have C:=r.1;rw[HE.out]at C;have⟨o2,c2,Z⟩:=bZ C;have HT:Hid (RS (wr.setCell (d8 rp 1) u2) rp R.tick/\iE w (wr.setCell (d8 rp 1) u2)):=⟨⟨_,_,_,I.1.Jn r.2 (ownsRow_base_a C I.1.low) λk d=>(C.lt k d).1⟩,(iE.dJ r.2 sE).trans (iE.dJ (Fr.cH (S:=[rp]) (by simp) _ _) λk d=>by simp at d;subst d;exact W.ref)⟩;subst Z;clear C W r;go_wp2;go_end0;exact⟨rfl,HT.out⟩
end Go.Proofs.YtdcafjmdfpjcbaaGreatDoor
