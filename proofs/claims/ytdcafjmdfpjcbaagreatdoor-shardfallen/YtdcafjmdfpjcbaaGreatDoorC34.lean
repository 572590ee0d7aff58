import Derived.Test.YtdcafjmdfpjcbaaGreatDoorC33
set_option maxHeartbeats 4000000
set_option maxRecDepth 100000
namespace Go.Proofs.YtdcafjmdfpjcbaaGreatDoor
open Go.RowKit Go.Maps Tryz Sc
variable{S:List Nat}{xs:List Value}{base c g i j k m n rp size:Nat}{α:Type}{e:TypeId}{u v x:Value}{a w w' w2:World}{R:aK}
theorem vH{f:α->List Value}(a:∀x,(f x).length=k):∀(l:List α) (i:Nat) (x:α),l[i]?=some x->∀j,j<k->(l.flatMap f)[i*k+j]?=(f x)[j]?
 |[],i,x,h,_,_=>by simp at h
 |y::l,0,x,h,j,hj=>by
  simp at h;subst h;rw[List.flatMap_cons,Nat.zero_mul,Nat.zero_add,List.getElem?_append_left<|by rw[a];exact hj]
 |y::l,i+1,x,h,j,hj=>by
  simp at h;have e:(i+1)*k+j=k+(i*k+j):=by rw[Nat.add_mul,Nat.one_mul];omega
  rw[List.flatMap_cons,e,List.getElem?_append_right<|by rw[a];omega,a,Nat.add_sub_cancel_left];exact vH a l i x h j hj
theorem Ai{f:α->List Value}(h:∀x,(f x).length=k)(l:List α):(l.flatMap f).length=l.length*k:=by
 induction l with
 |nil=>simp
 |cons x l ih=>grind
abbrev yu(l:aJ):List Value:=[.string l.key,.bool l.wr,.bool l.gone,.string l.val]
def dW(s:List aJ):List Value:=s.flatMap yu
abbrev jZ(p:a_ × Value):List Value:=[.int .u64 (p.1.id:Int),.int .i64 (p.1.st:Int),.int .i64 (p.1.ops:Int),.int .i64 (p.1.jY:Int),p.2]
def cT(ps:List (a_ × Value)):List Value:=ps.flatMap jZ
abbrev vI(tv xv:Value):Obj:=.cells #[tv,xv] 47
theorem fh(h:w.ownsRow base e size v n xs)(a:v=.slice (some<|dH g) m c)(b:xs[j]?=some u):w.cell? (d8 g j)=some u:=by
 have:=h.cells (by rw[a];rfl) j u b;have e:((dH g):Addr).add j=(d8 g j):=by unfold Addr.add;split<;>simp_all
 rw[e]at this;exact this
structure Bs where
 b:Nat
 ok:Nat->Prop:=λ_=>True
abbrev B0 [Inhabited Bs]:Nat:=(default:Bs).b
abbrev Ok0 [Inhabited Bs](k:Nat):Prop:=(default:Bs).ok k
structure cX [Inhabited Bs](w:World)(rp:Nat)(tv xv:Value)(ps:List (a_ × Value))(R:aK):Prop where
 base:B0<=rp
 blk:w.heap[rp]?=some (vI tv xv)
 tab:w.ownsRow B0 102 2 tv R.table.length (eA R.table)
 tk:w.ownsRow B0 92 5 xv ps.length (cT ps)
 nj:∀p∈ps,w.ownsRow B0 134 4 p.2 p.1.ak.length (dW p.1.ak)
 apart:ps.Pairwise λp q=>p.2.ownBlock=none\/p.2.ownBlock≠q.2.ownBlock
 rs:ps.map (·.1)=R.af
 mine:∀k,(k=rp\/xv.ownBlock=some k\/(∃p∈ps,p.2.ownBlock=some k)\/w.heap.size<=k)->Ok0 k
section
variable{w w':World}{rp:Nat}{tv xv:Value}{ps:List (a_ × Value)}{R:aK}
theorem cX.fr [Inhabited Bs](h:cX w rp tv xv ps R)(f:Fr [] w w'):cX w' rp tv xv ps R where
 base:=h.base
 blk:=(f.block rp (zza.1 h.blk).1 sE).trans h.blk;tab:=av h.tab f sE;tk:=av h.tk f sE;nj:=λp hp=>av (h.nj p hp) f sE
 apart:=h.apart;rs:=h.rs;mine:=λk a=>h.mine k<|by obtain e|e|e|e:=a;exact .inl e;exact .inr<|.inl e;exact .inr<|.inr<|.inl e;exact .inr<|.inr<|.inr<|zzk f.size e
theorem cX.low [Inhabited Bs](h:cX w rp tv xv ps R):B0<=w.heap.size:=zzk h.base<|Nat.le_of_lt (zza.1 h.blk).1
theorem cX.len [Inhabited Bs](h:cX w rp tv xv ps R):ps.length=R.af.length:=by rw[<-h.rs,zzn]
theorem cX.at [Inhabited Bs](h:cX w rp tv xv ps R){i:Nat}{x:a_}(a:R.af[i]?=some x):∃v,ps[i]?=some (x,v):=by
 rw[<-h.rs,zzy]at a;cases hp:ps[i]? with
 |none=>grind
 |some p=>grind
theorem cX.back [Inhabited Bs](h:cX w rp tv xv ps R){i:Nat}{p:a_×Value}(a:ps[i]?=some p):R.af[i]?=some p.1:=by rw[<-h.rs,zzy,a];rfl
theorem cX.slice [Inhabited Bs](h:cX w rp tv xv ps R):∃o c,xv=.slice o ps.length c/\(∀i p,ps[i]?=some p->∃g,o=some (dH g)/\w.cell? (d8 g<|i*5)=some (.int .u64 (p.1.id:Int))/\w.cell? (d8 g<|i*5+1)=some (.int .i64 (p.1.st:Int))/\w.cell? (d8 g<|i*5+2)=some (.int .i64 (p.1.ops:Int))/\w.cell? (d8 g<|i*5+3)=some (.int .i64 (p.1.jY:Int))/\w.cell? (d8 g<|i*5+4)=some p.2):=by
 rcases h.tk.2 with⟨e,d⟩|⟨g,b,r,e,rest⟩
 .grind
 .refine⟨some ⟨g,0,none⟩,b,e,λi p hp=>⟨g,rfl,?_⟩⟩;have y:=λj a=>vH (f:=jZ) (k:=5) (λ_=>rfl) ps i p hp j a
  exact⟨fh h.tk e<|y 0 dN,fh h.tk e<|y 1 dN,fh h.tk e<|y 2 dN,fh h.tk e<|y 3 dN,fh h.tk e<|y 4 dN⟩
theorem cX.table [Inhabited Bs](h:cX w rp tv xv ps R):∃o c,tv=.slice o R.table.length c/\(∀i p,R.table[i]?=some p->∃g,o=some (dH g)/\w.cell? (d8 g<|i*2)=some (.string p.1)/\w.cell? (d8 g<|i*2+1)=some (.string p.2)):=by
 rcases h.tab.2 with⟨e,d⟩|⟨g,b,r,e,rest⟩
 .grind
 .refine⟨some ⟨g,0,none⟩,b,e,λi p hp=>⟨g,rfl,?_⟩⟩;have y:=λj a=>vH (f:=Gz) (k:=2) (λ_=>rfl) R.table i p hp j a
  exact⟨fh h.tab e<|y 0 dN,fh h.tab e<|y 1 dN⟩
end
theorem mR [Inhabited Bs]{s:List aJ}(h:w.ownsRow B0 134 4 v s.length<|dW s):∃o c,v=.slice o s.length c/\(∀i l,s[i]?=some l->∃g,o=some (dH g)/\w.cell? (d8 g<|i*4)=some (.string l.key)/\w.cell? (d8 g<|i*4+1)=some (.bool l.wr)/\w.cell? (d8 g<|i*4+2)=some (.bool l.gone)/\w.cell? (d8 g<|i*4+3)=some (.string l.val)):=by
 rcases h.2 with⟨e,d⟩|⟨g,b,r,e,rest⟩
 .grind
 .refine⟨some ⟨g,0,none⟩,b,e,λi p hp=>⟨g,rfl,?_⟩⟩;have y:=λj a=>vH (f:=yu) (k:=4) (λ_=>rfl) s i p hp j a
  exact⟨fh h e<|y 0 dN,fh h e<|y 1 dN,fh h e<|y 2 dN,fh h e<|y 3 dN⟩
def ze(o:Option Nat):Int:=(o.map λn:Nat=>(n:Int)).getD (-1)
theorem L9{p:α->Bool}{xs:List α}(h:∀(i:Nat) (x:α),xs[i]?=some x->p x=false):xs.findIdx? p=none:=by
 rw[List.findIdx?_eq_none_iff];intro x b;have⟨i,a⟩:=zzB.1 b;exact h i x a
theorem Eh{p:α->Bool}{xs:List α}{x:α}(c:xs[k]?=some x)(b:p x=true)(h:∀(i:Nat) (y:α),i<k->xs[i]?=some y->p y=false):xs.findIdx? p=some k:=by
 rw[List.findIdx?_eq_some_iff_getElem];have⟨l,e⟩:=zzd.1 c;refine⟨l,by rw[e];exact b,λj a=>?_⟩;have:=h j xs[j] a<|zzg _;simp[this]
theorem oI [Inhabited Bs](rp t:Nat)(tv xv:Value)(ps:List<|a_×Value)(R:aK)(w:World)(h:cX w rp tv xv ps R)(hn:ps.length<=4398046511103):
  Calls prog 77 #[rM rp,.int .u64 (t:Int)] w λe w'=>e=.returned (.int .i64<|ze<|p8 R.af t)/\∃q,w'=w.drewN q:=by
 have c1:=aa h.blk 1;simp at c1;obtain⟨u,c,rfl,H⟩:=h.slice;have G:Hid (∀i p,ps[i]?=some p->∃g,u=some (dH g)/\w.cell? (d8 g (i*5))=some (.int .u64 (p.1.id:Int))):=λi p hp=>by have⟨g,e,a,_⟩:=H i p hp;exact⟨g,e,a⟩
 have W:=ae h.rs;have⟨n,D⟩:=xY ps.length;rw[<-D]at hn c1;have N:=ae D.symm;clear D h H;go_enter func77,ntmps77;go_wp2;go_loopw [5] (λi wr=>∃k:Nat,k<=n/\i=.int .i64 k/\Hid (∀j p,j<k->ps[j]?=some p->p.1.id≠t)/\∃q,wr=w.drewN q) (λi _=>n-(intOf i).toNat);case atStart=>exact⟨0,zzs _,rfl,λj p C=>oE,0,rfl⟩
 case round=>
  obtain⟨k,I,rfl,M,q,rfl⟩:=hrel;by_cases A:k<n
  .obtain⟨p,hp⟩:∃p,ps[k]?=some p:=⟨_,zzg<|by rw[N.out];exact A⟩;obtain⟨g,rfl,B⟩:=G.out k p hp;have E:(0:Int)<=k:=oE
   have F:(k:Int)<n:=oE;have r:=ae hp;have⟨d,m⟩:=xY p.1.id;have o:=ae m;rw[<-m]at B;clear hp m;by_cases l:d=t
   .have be:((d:Int)==t)=true:=by simp[l]
    go_wp2;go_ret;refine⟨?_,_,rfl⟩;have:p8 R.af t=some k:=Eh (by rw[<-W.out,zzy,r.out];rfl) (by simp[<-o.out,l]) λi y v b=>by
     rw[<-W.out,zzy]at b;cases f:ps[i]? with
     |none=>rw[f]at b;cases b
     |some z=>rw[f]at b;cases b;simpa using M.out i z v f
    rw[this];rfl
   .have be:((d:Int)==t)=false:=sC;go_wp2;go_roundw;case rel=>exact⟨k+1,oE,nF,λj s C P=>by
     by_cases e:j=k
     .subst e;rw[r.out]at P;cases P;rw[<-o.out];exact l
     .exact M.out j s oE P,_,rfl⟩
    case measure=>simp[intOf];omega
  .go_wp2;go_ret;refine⟨?_,q,rfl⟩;have:p8 R.af t=none:=L9 λi y b=>by
    rw[<-W.out,zzy]at b;cases f:ps[i]? with
    |none=>rw[f]at b;cases b
    |some z=>rw[f]at b;cases b;simpa using M.out i z (by have:=(zzd.1 f).1;rw[N.out]at this;omega) f
   rw[this];rfl
theorem JR [Inhabited Bs](rp t:Nat)(l j:Value)(s:List<|a_×Value)(R:aK)(w:World)(h:cX w rp l j s R)(hn:s.length<=4398046511103):
  Calls prog 44 #[rM rp,.int .u64 (t:Int)] w λe w'=>e=.returned (.int .i64 (R.state t:Int))/\∃q,w'=w.drewN q:=by
 have f:=oI rp t l j s R w h hn;have c1:=aa h.blk 1;simp at c1;have I:=ae h;clear h;go_enter func44,ntmps44;go_wp2_with fail;apply f.mono;rintro e z ⟨rfl,q,rfl⟩;clear f;cases d:p8 R.af t with
 |none=>
  have a:R.state t=0:=by unfold aK.state;rw[mg d];rfl
  have b:ze none=-1:=rfl;rw[b];go_wp2;go_ret;exact⟨by rw[a];rfl,_,rfl⟩
 |some i=>
  have⟨x,k,p,J⟩:=kR d;have a:R.state t=x.st:=by unfold aK.state;rw[J];rfl
  have⟨v,hp⟩:=I.out.at k;obtain⟨y,c,rfl,H⟩:=I.out.slice;obtain⟨g,rfl,A,o,_⟩:=H i _ hp;have S:i<s.length:=(zzd.1 hp).1;have b:ze (some i)=(i:Int):=rfl;rw[b];have⟨n,D⟩:=xY s.length;rw[<-D]at hn c1 S;clear D H hp k d I;have r:(0:Int)<=i:=oE;have u:(i:Int)<n:=oE;have m:¬((i:Int)<0):=oE;go_wp2;go_ret;exact⟨by rw[a];rfl,_,rfl⟩
theorem mj [Inhabited Bs](g i:Nat)(v:Value)(k:ByteArray)(s:List aJ)(w:World)(x:w.cell? (d8 g<|i+4)=some v)(h:w.ownsRow B0 134 4 v s.length<|dW s)(hn:s.length<=4398046511103):
  Calls prog 180 #[.pointer<|some<|d8 g i,.string k] w λe w'=>e=.returned (.int .i64<|ze<|lJ s k)/\∃q,w'=w.drewN q:=by
 obtain⟨r,c,rfl,H⟩:=mR h;have G:Hid (∀i l,s[i]?=some l->∃g,r=some (dH g)/\w.cell? (d8 g (i*4))=some (.string l.key)):=λi p hp=>by have⟨g,e,a,_⟩:=H i p hp;exact⟨g,e,a⟩
 have⟨n,D⟩:=xY s.length;rw[<-D]at hn x;have N:=ae D.symm;clear D h H;go_enter func180,ntmps180;go_wp2;go_loopw [5] (λi wr=>∃m:Nat,m<=n/\i=.int .i64 m/\Hid (∀j l,j<m->s[j]?=some l->l.key≠k)/\∃q,wr=w.drewN q) (λi _=>n-(intOf i).toNat);case atStart=>exact⟨0,zzs _,rfl,λj p z=>oE,0,rfl⟩
 case round=>
  obtain⟨m,F,rfl,M,q,rfl⟩:=hrel;by_cases u:m<n
  .obtain⟨l,hp⟩:∃l,s[m]?=some l:=⟨_,zzg<|by rw[N.out];exact u⟩;obtain⟨C,rfl,E⟩:=G.out m l hp;have A:(0:Int)<=m:=oE
   have B:(m:Int)<n:=oE;have f:=ae hp;clear hp;by_cases b:l.key=k
   .have be:(l.key.toList==k.toList)=true:=by simp[b]
    go_wp2;go_ret;refine⟨?_,_,rfl⟩;have:lJ s k=some m:=Eh f.out (by simp[b]) λi y t d=>by simpa using M.out i y t d
    rw[this];rfl
   .have be:(l.key.toList==k.toList)=false:=by
     rw[beq_eq_false_iff_ne];intro e;exact b<|l7<|by simpa [Lib.toList_data]using e
    go_wp2;go_roundw;case rel=>exact⟨m+1,oE,nF,λj o z P=>by
     by_cases e:j=m
     .subst e;rw[f.out]at P;cases P;exact b
     .exact M.out j o oE P,_,rfl⟩
    case measure=>simp[intOf];omega
  .go_wp2;go_ret;refine⟨?_,q,rfl⟩;have:lJ s k=none:=L9 λi y d=>by simpa using M.out i y (by have:=(zzd.1 d).1;rw[N.out]at this;omega) d
   rw[this];rfl
theorem JT [Inhabited Bs](rp:Nat)(k:ByteArray)(I A:Value)(v:List<|a_×Value)(R:aK)(w:World)(h:cX w rp I A v R)(hn:R.table.length<=4398046511103):
  Calls prog 128 #[rM rp,.string k] w λe w'=>e=.returned (.tuple #[.string<|(aj R.table k).getD yA,.bool (aj R.table k).isSome])/\∃q,w'=w.drewN q:=by
 have c1:=aa h.blk 0;simp at c1;obtain⟨L,c,rfl,H⟩:=h.table;have G:=ae H;have⟨T,o⟩:=xY R.table;rw[<-o]at G hn c1 ⊢;have⟨n,D⟩:=xY T.length;rw[<-D]at hn c1;have N:=ae D.symm;clear D h H o;go_enter func128,ntmps128;go_wp2;go_loopw [6] (λi wr=>∃m:Nat,m<=n/\i=.int .i64 m/\Hid (∀j l,j<m->T[j]?=some l->l.1≠k)/\∃q,wr=w.drewN q) (λi _=>n-(intOf i).toNat);case atStart=>exact⟨0,zzs _,rfl,λj p F=>oE,0,rfl⟩
 case round=>
  obtain⟨m,Q,rfl,M,q,rfl⟩:=hrel;by_cases C:m<n
  .obtain⟨l,hp⟩:∃l,T[m]?=some l:=⟨_,zzg<|by rw[N.out];exact C⟩;obtain⟨O,rfl,E,x⟩:=G.out m l hp;have J:(0:Int)<=m:=oE
   have K:(m:Int)<n:=oE;have g:=ae hp;clear hp;have⟨d,s⟩:=l;simp only[]at E x;by_cases a:d=k
   .have be:(d.toList==k.toList)=true:=by simp[a]
    have f:aj T k=some s:=by
     have e:=Eh (p:=λp:ByteArray×ByteArray=>decide<|p.1=k) g.out (by simp[a]) λi y b B=>by simpa using M.out i y b B
     have⟨z,r,S,u⟩:=(rQ _ T).1 m e;rw[g.out]at r;cases r;unfold aj;rw[u];rfl
    go_wp2;go_ret2;exact⟨by rw[f];rfl,_,rfl⟩
   .have be:(d.toList==k.toList)=false:=by
     rw[beq_eq_false_iff_ne];intro e;exact a<|l7<|by simpa [Lib.toList_data]using e
    go_wp2;go_roundw;case rel=>exact⟨m+1,oE,nF,λj t F P=>by
     by_cases e:j=m
     .subst e;rw[g.out]at P;cases P;exact a
     .exact M.out j t oE P,_,rfl⟩
    case measure=>simp[intOf];omega
  .have f:aj T k=none:=by
    rw[gO];intro p hp;have⟨i,b⟩:=zzB.1 hp;exact M.out i p (by have:=(zzd.1 b).1;rw[N.out]at this;omega) b
   go_wp2;go_ret2;exact⟨by rw[f];rfl,_,rfl⟩
theorem any_false{p:α->Bool}{xs:List α}(h:∀(i:Nat) (x:α),xs[i]?=some x->p x=false):xs.any p=false:=by
 rw[List.any_eq_false];intro x b;have⟨i,a⟩:=zzB.1 b;simp[h i x a]
theorem any_true{p:α->Bool}{xs:List α}{x:α}(a:xs[k]?=some x)(h:p x=true):xs.any p=true:=by grind
theorem Fr.aR(h:Fr S a w):∀k,Fr S a<|w.drewN k
 |0=>h
 |k+1=>by
  have b:=Fr.aR h k;exact⟨b.os,b.tape,b.output,b.size,b.block⟩
theorem ub [Inhabited Bs](rp t:Nat)(k:ByteArray)(wr:Bool)(tv xv:Value)(s:List<|a_×Value)(R:aK)(w:World)(h:cX w rp tv xv s R)(hn:s.length<=4398046511103)(O:∀p∈s,p.1.ak.length<=4398046511103):
  Calls prog 182 #[rM rp,.int .u64 (t:Int),.string k,.bool wr] w λe w'=>e=.returned (.bool<|meets R.af t k wr)/\∃q,w'=w.drewN q:=by
 have c1:=aa h.blk 1;simp at c1;have⟨ao,c,Q,H⟩:=h.slice;rw[Q]at c1;have a1:Hid (∀i p,s[i]?=some p->∃g,ao=some (dH g)/\w.cell? (d8 g (i*5))=some (.int .u64 (p.1.id:Int))/\w.cell? (d8 g (i*5+4))=some p.2):=λi p hp=>by have⟨g,e,a,_,_,_,b⟩:=H i p hp;exact⟨g,e,a,b⟩
 have LK:Hid (∀p∈s,w.ownsRow B0 134 4 p.2 p.1.ak.length (dW p.1.ak)/\p.1.ak.length<=4398046511103):=λp hp=>⟨h.nj p hp,O p hp⟩
 have W:=ae h.rs;have⟨n,D⟩:=xY s.length;rw[<-D]at hn c1;have V:=ae D.symm;clear D h H O Q;go_enter func182,ntmps182;go_wp2;go_loopw [9] (λi a6=>∃m:Nat,m<=n/\i=.int .i64 m/\Hid (∀j p,j<m->s[j]?=some p->iz t k wr p.1=false)/\∃q,a6=w.drewN q) (λi _=>n-(intOf i).toNat);case atStart=>exact⟨0,zzs _,rfl,λj p r=>oE,0,rfl⟩
 case round=>
  obtain⟨m,hm,rfl,U,q,rfl⟩:=hrel;by_cases bP:m<n
  .obtain⟨p,hp⟩:∃p,s[m]?=some p:=⟨_,zzg<|by rw[V.out];exact bP⟩;obtain⟨g,rfl,x0,J⟩:=a1.out m p hp;have⟨L,Y⟩:=LK.out p<|zzh hp;have Z:=mj g (m*5) p.2 k p.1.ak (w.drewN q) (by simpa using J) (av L ((lE w).aR q) sE) Y;have⟨la,lc,N,T⟩:=mR L;rw[N]at J;have i0:(0:Int)<=m:=oE
   have i1:(m:Int)<n:=oE;have HP:=ae hp;have GL:Hid (∀i l,p.1.ak[i]?=some l->∃g,la=some (dH g)/\w.cell? (d8 g (i*4+1))=some (.bool l.wr)):=λi l hi=>by have⟨g,e,_,a,_⟩:=T i l hi;exact⟨g,e,a⟩
   have⟨d,K⟩:=xY p.1.id;have X:=ae K;rw[<-K]at x0;have G:Hid (iz t k wr p.1=false->∀j A,j<m+1->s[j]?=some A->iz t k wr A.1=false):=λo j A r P=>by
    by_cases e:j=m
    .subst e;rw[hp]at P;cases P;exact o
    .exact U.out j A oE P
   clear hp K L N T;have⟨u,E⟩:=xY p.1.ak.length;have wD:=ae E.symm;rw[<-E]at J Y;clear E;go_wp2_with fail;apply Z.mono;rintro e w1 ⟨rfl,q1,rfl⟩;clear Z;by_cases C:d=t
   .have be:((d:Int) != (t:Int))=false:=by simp[C]
    have o:iz t k wr p.1=false:=by unfold iz;rw[<-X.out,C];simp
    go_wp2;go_roundw;case rel=>exact⟨m+1,oE,nF,G.out o,_,rfl⟩
    case measure=>simp[intOf];omega
   .have be:((d:Int) != (t:Int))=true:=sC;cases I:lJ p.1.ak k with
    |none=>
     have o:iz t k wr p.1=false:=by unfold iz;rw[nI I];simp
     have F:ze none=-1:=rfl;rw[F];go_wp2;go_roundw;case rel=>exact⟨m+1,oE,nF,G.out o,_,rfl⟩
     case measure=>simp[intOf];omega
    |some j=>
     have⟨l,r,hk,M⟩:=qP I;obtain⟨g2,rfl,y1⟩:=GL.out j l r;have CB:j<u:=by rw[<-wD.out];exact(zzd.1 r).1
     have j0:(0:Int)<=j:=oE;have j1:(j:Int)<u:=oE;have F:ze (some j)=(j:Int):=rfl;rw[F];have B:Hid (iz t k wr p.1=(wr||l.wr)):=by
      show _=_;unfold iz;rw[M,<-X.out];simp[C]
     clear I r M;have⟨lw,S⟩:=xY l.wr;rw[<-S]at B y1;clear S;cases wr with
     |true=>
      go_wp2;go_ret;refine⟨?_,_,rfl⟩;have:meets R.af t k true=true:=any_true (by rw[<-W.out,zzy,HP.out];rfl) (by rw[B.out];rfl);rw[this];rfl
     |false=>
      cases lw with
      |true=>
       go_wp2;go_ret;refine⟨?_,_,rfl⟩;have:meets R.af t k false=true:=any_true (by rw[<-W.out,zzy,HP.out];rfl) (by rw[B.out];rfl);rw[this];rfl
      |false=>
       go_wp2;go_roundw;case rel=>exact⟨m+1,oE,nF,G.out<|by rw[B.out];rfl,_,rfl⟩
       case measure=>simp[intOf];omega
  .go_wp2;go_ret;refine⟨?_,q,rfl⟩;have:meets R.af t k wr=false:=any_false λi y f=>by
    rw[<-W.out,zzy]at f;cases v:s[i]? with
    |none=>rw[v]at f;cases f
    |some z=>rw[v]at f;cases f;exact U.out i z (by have:=(zzd.1 v).1;rw[V.out]at this;omega) v
   rw[this];rfl
def Ei(w:World)(x:Value)(m:Nat)(news:List Value):Prop :=
 (∃d c,x=.slice (some d) m c/\∀j u,news[j]?=some u->w.cell? (d.add j)=some u)\/(x=.slice none 0 0/\m=0/\news=[])
theorem b5{P:Program}{ops:Array Oper}{rest:List Oper}{o:Oper}{a:Act}{Q:Exit->Act->World->Prop}(Y:o.guard=none)(s x:Operand)(t:TypeId)
  (k:o.op=.call {callee:=.builtin .append,args:=#[s,x],argTypes:=#[t,t]})
  (base:Nat) (e:TypeId) (i:TypeInfo) (z:Value) (size bytes:Nat) (l:P.underlying t=some (.slice e)) (g:P.info? e=some i) (y:i.zero=some z)
  (A:i.size=size) (M:i.bytes=bytes) (F:z.cells.size=size) (q:0<size)
  (v:Value) (n:Nat) (xs:List Value) (j:a.eval s=v) (N:w.ownsRow base e size v n xs)
  (m:Nat) (news:List Value) (f:Ei w (a.eval x) m news) (r:news.length=m*size) (D:∀u∈news,u.oneCell'=true)
  (p:n+m<=maxLen) (I:(n+m)*bytes<=140737488355328) (C:base<=w.heap.size)
  (h:∀d w',w'.ownsRow base e size d (n+m) (xs++news)->w.grownBy w' v.ownBlock->(d.ownBlock=v.ownBlock\/d.ownBlock=some w.heap.size)->wpList P ops Q rest (a.put o.dst d) w') :
  wpList P ops Q (o::rest) a w:=by
 rcases f with⟨E,c,f,B⟩|⟨f,rfl,rfl⟩
 .exact wpList_append_own_at (P:=P) (w:=w) Y s x t k base e i z size bytes l g y A M F q v n xs j N E m c news f r B D p I C λd w' a b _ c=>h d w' a b c
 .exact wpList_append_own_none Y s x t k base e i size l g v n xs j N f<|h v w (by simpa using N) ⟨rfl,rfl,rfl,zzc _,λ_ _ _=>rfl⟩<|.inl rfl
theorem vJ:(Tryz.prog.info? 92).map (λi=>(i.zero,i.size,i.bytes))=some (some<|.agg #[.int .u64 0,.int .i64 0,.int .i64 0,.int .i64 0,.slice none 0 0],5,56):=k6
theorem rS:(Tryz.prog.info? 134).map (λi=>(i.zero,i.size,i.bytes))=some (some<|.agg #[.string yA,.bool false,.bool false,.string yA],4,40):=k6
theorem mo(s:List<|a_×Value):(cT s).length=s.length*5:=Ai (f:=jZ) (k:=5) (λ_=>rfl) s
theorem Aj(s:List aJ):(dW s).length=s.length*4:=Ai (f:=yu) (k:=4) (λ_=>rfl) s
theorem Ak(l:oU):(eA l).length=l.length*2:=Ai (f:=Gz) (k:=2) (λ_=>rfl) l
theorem kW(a b:List<|a_×Value):cT (a++b)=cT a++cT b:=by simp[cT]
theorem Al(a b:List aJ):dW (a++b)=dW a++dW b:=by simp[dW]
def aa0(s:List (a_ × Value)):Prop:=∀p∈s,p.2.oneCell'=true
theorem qQ{s:List (a_×Value)}(h:aa0 s):∀u∈cT s,u.oneCell'=true:=by
 intro u a;have⟨p,hp,q⟩:=List.mem_flatMap.1 a;simp at q;obtain rfl|rfl|rfl|rfl|rfl:=q
 .rfl
 .rfl
 .rfl
 .rfl
 .exact h p hp
theorem row_one(h:w.ownsRow base e size v n xs):v.oneCell'=true:=by
 rcases h.2 with⟨rfl,_⟩|⟨g,p,r,rfl,_⟩<;>rfl
theorem cX.one [Inhabited Bs]{s:List (a_×Value)}(h:cX w rp v x s R):aa0 s:=λp hp=>row_one<|h.nj p hp
theorem my{N:Nat}(h:w.ownsRow base e size (.slice (some<|dH g) N c) n xs)(o m a:Nat)(news:List Value)(hn:∀j u,news[j]?=some u->xs[o+j]?=some u):Ei w (.slice (some<|d8 g o) m a) m news:=by
 refine .inl ⟨_,_,rfl,λj u b=>?_⟩;have:=fh h rfl<|hn j u b;have e:((d8 g o):Addr).add j=(d8 g (o+j)):=by unfold Addr.add;split<;>simp_all
 rw[e];exact this
theorem Am(w:World)(d:Addr)(c:Nat){news:List Value}(_hm:m=0)(hn:news=[]):Ei w (.slice (some d) m c) m news:=.inl ⟨_,_,rfl,λj u h=>by rw[hn]at h;simp at h⟩
def lK [Inhabited Bs](w:World)(k:Nat):Prop:=(B0<=k/\Ok0 k)/\∃c t,w.heap[k]?=some (.cells c t (0,0))/\(t=47\/t=92\/t=134)
structure iE [Inhabited Bs](w w':World):Prop where
 os:w'.os=w.os
 tape:w'.tape=w.tape
 output:w'.output=w.output
 size:w.heap.size<=w'.heap.size
 block:∀k,k<w.heap.size->¬lK w k->w'.heap[k]?=w.heap[k]?
 kind:∀k,k<w.heap.size->lK w' k->lK w k
theorem iE.refl [Inhabited Bs](w:World):iE w w:=⟨rfl,rfl,rfl,zzc _,λ_ _ _=>rfl,λ_ _ h=>h⟩
theorem iE.trans [Inhabited Bs]{b c:World}(h:iE a b)(k:iE b c):iE a c:=
 ⟨k.os.trans h.os,k.tape.trans h.tape,k.output.trans h.output,zzk h.size k.size,
  λi d hn=>(k.block i (zzl d h.size) λo=>hn<|h.kind i d o).trans<|h.block i d hn,
  λi d o=>h.kind i d (k.kind i (zzl d h.size) o)⟩
theorem iE.dJ [Inhabited Bs](f:Fr S w w')(a:∀k∈S,lK w k):iE w w':=
 ⟨f.os,f.tape,f.output,f.size,λk h hn=>f.block k h λm=>hn (a k m),λk h o=>by
  by_cases m:k∈S
  .grind
  .obtain⟨hb,c,t,h1,h2⟩:=o;exact⟨hb,c,t,by rw[<-f.block k h m];exact h1,h2⟩⟩
theorem cX.ref [Inhabited Bs]{s:List (a_×Value)}(h:cX w rp v x s R):lK w rp:=⟨⟨h.base,h.mine _<|.inl rfl⟩,_,_,h.blk,.inl rfl⟩
theorem cX.Ej [Inhabited Bs]{t:Value}{s:List (a_×Value)}{q:a_×Value}(h:cX w rp t v s R)(z:w.heap.size<=w2.heap.size)(b:∀k,q.2.ownBlock=some k->Ok0 k):∀k,(k=rp\/v.ownBlock=some k\/(∃p∈s.set i q,p.2.ownBlock=some k)\/w2.heap.size<=k)->Ok0 k:=λk a=>by
 obtain e|e|⟨p,hp,e⟩|e:=a
 .exact h.mine k<|.inl e
 .exact h.mine k<|.inr<|.inl e
 .rcases List.mem_or_eq_of_mem_set hp with hp|rfl
  .exact h.mine k<|.inr<|.inr<|.inl ⟨p,hp,e⟩
  .grind
 .exact h.mine k<|.inr<|.inr<|.inr oE
theorem cX.Ao [Inhabited Bs]{s:List (a_×Value)}{q:a_×Value}(h:cX w rp v x s R)(hp:s[i]?=some q)(a:q.2.ownBlock=some k):Ok0 k:=h.mine k<|.inr<|.inr<|.inl ⟨q,zzh hp,a⟩
theorem Fr.Rk(h:w.grownBy w' v.ownBlock)(a:∀k,v.ownBlock=some k->k∈S):Fr S w w':=
 ⟨h.os,h.tape,h.output,h.size,λk b hn=>h.block k b λe=>hn<|a k e.symm⟩
theorem bZ(h:w.ownsRow base e size v n xs):∃o c,v=.slice o n c:=by
 rcases h.2 with⟨rfl,rfl⟩|⟨g,p,r,rfl,_⟩
 .grind
 .grind
def eB(w:World)(v:Value):Prop:=∀k,v.ownBlock=some k->w.heap.size<=k
theorem eB.nil(w:World):eB w (.slice none 0 0):=λk h=>by cases h
theorem eB.next{a:Value}{z:Nat}(h:eB w v)(d:w.heap.size<=z)(b:a.ownBlock=v.ownBlock\/a.ownBlock=some z):eB w a:=λk c=>by
 obtain e|e:=b
 .exact h k<|e▸c
 .grind
theorem Fr.dV(f:Fr S w a)(b:eB w v)(g:a.grownBy w2 v.ownBlock):Fr S w w2:=
 ⟨g.os.trans f.os,g.tape.trans f.tape,g.output.trans f.output,zzk f.size g.size,λk h hn=>(g.block k (zzl h f.size) λe=>by have:=b k e.symm;omega).trans<|f.block k h hn⟩
theorem b_{a:TypeId}{c:Array Value}{fr:Nat×Nat}(h:w.ownsRow base e size v n xs)(q:w.heap[rp]?=some (.cells c a fr))(d:e≠a):(w.setCell (d8 rp i) u).ownsRow base e size v n xs:=by
 refine av h (Fr.cH (S:=[rp]) (by simp) i u) λg f=>?_
 simp;intro j;have⟨c2,b⟩:=aF h f;rw[j,q]at b;cases b;exact d rfl
theorem cX.ld [Inhabited Bs]{v2:Value}{s a:List (a_×Value)}{xs:List a_}(h:cX w rp v x s R)(f:Fr [] w w2)(o:w2.ownsRow B0 92 5 v2 a.length<|cT a)
  (l:∀p∈a,w2.ownsRow B0 134 4 p.2 p.1.ak.length<|dW p.1.ak) (g:a.Pairwise λp q=>p.2.ownBlock=none\/p.2.ownBlock≠q.2.ownBlock) (r:a.map (·.1)=xs) (d:eB w v2) (L:∀p∈a,p.2.ownBlock=none\/∃q∈s,q.2.ownBlock=p.2.ownBlock):cX (w2.setCell (d8 rp 1) v2) rp v v2 a ⟨R.table,xs⟩:=by
 have b:=h.fr f;refine {base:=h.base,blk:=?_,tab:=b_ b.tab b.blk dN,tk:=b_ o b.blk dN,nj:=λp hp=>b_ (l p hp) b.blk dN,apart:=g,rs:=r,mine:=λk i=>?_}
 .have:=aH b.blk 1 v2;simpa using this
 .have hsz:=f.size;obtain e|e|⟨p,hp,e⟩|e:=i
  .exact h.mine k<|.inl e
  .exact h.mine k<|.inr<|.inr<|.inr<|d k e
  .rcases L p hp with c|⟨q,hq,c⟩
   .grind
   .exact h.mine k<|.inr<|.inr<|.inl ⟨q,hq,c.trans e⟩
  .rw[World.size_setCell]at e;exact h.mine k<|.inr<|.inr<|.inr oE
theorem tq(l:List α)(i:Nat):(l.take i++l.drop (i+1)).Sublist l:=by
 have h:(l.drop<|i+1).Sublist (l.drop i):=List.drop_sublist_drop_left l oE;have:=List.Sublist.append (List.Sublist.refl<|l.take i) h;rwa [List.take_append_drop]at this
theorem CW{s:List (a_×Value)}(h:(cT<|s.take i)[j]?=some u):(cT s)[j]?=some u:=by
 have e:cT s=cT (s.take i)++cT (s.drop i):=by rw[<-kW,List.take_append_drop]
 rw[e,List.getElem?_append_left (zzd.1 h).1];exact h
theorem xr{s:List (a_×Value)}(a:i<=s.length)(h:(cT<|s.drop i)[j]?=some u):(cT s)[i*5+j]?=some u:=by
 have e:cT s=cT (s.take i)++cT (s.drop i):=by rw[<-kW,List.take_append_drop]
 have l:(cT<|s.take i).length=i*5:=by grind[mo]
 rw[e,List.getElem?_append_right oE,l,Nat.add_sub_cancel_left];exact h
theorem xt [Inhabited Bs](rp i:Nat)(v x:Value)(s:List<|a_×Value)(R:aK)(w:World)(h:cX w rp v x s R)(M:i<s.length)(hn:s.length<=1048576):
  Calls prog 88 #[rM rp,.int .i64 (i:Int)] w λe w'=>e=.returned (.tuple #[])/\(∃X,cX w' rp v X (s.take i++s.drop (i+1)) ⟨R.table,R.af.take i++R.af.drop (i+1)⟩)/\Fr [rp] w w':=by
 have⟨m,t,E,r,z⟩:=info_parts vJ;have c1:=aa h.blk 1;have J:=au h.blk 1;simp at c1 J;rcases h.tk.2 with⟨c,h0⟩|⟨g,k,T,c,_,P,Q,a1,_⟩
 .omega
 rw[c]at c1;have I:=ae h;have o:=h.low;have C:=h.tk;rw[c]at C;have F:=h.one;have⟨n,D⟩:=xY s.length;rw[<-D]at hn c1 Q M C;have H:=ae D.symm;have y:rp<w.heap.size:=(zza.1 h.blk).1;clear D h c;have j0:(0:Int)<=i:=oE;have j1:(i:Int)<=k:=oE;have j2:(0:Int)<=i+1:=oE;have j3:(i:Int)+1<=(n:Int):=oE;go_enter func88,ntmps88;go_wp2_with (at_builtin;first
  |(apply b5 rfl _ _ 45 rfl B0 92 m _ 5 56 underlying45 t E r z rfl dN (.slice none 0 0) 0 [] rfl (zzu _ _ _ _) i (cT<|s.take i) (my C 0 i k _ λj u d=>by rw[Nat.zero_add];exact CW d) (by rw[mo,zzm,H.out];congr 1;omega) (qQ λp hp=>F p<|List.mem_of_mem_take hp) mE oE o;intro l L B N b;have Z:B0<=L.heap.size:=zzk o N.size;have G:=N.cell c1<|by simp[Value.ownBlock])
  |(refine b5 rfl _ _ 45 rfl B0 92 m _ 5 56 underlying45 t E r z rfl dN l _ _ rfl B (n-(i+1)) (cT (s.drop (i+1))) ?_ ?_ ?_ ?_ ?_ ?_ ?_))
 all_goals first
  |exact my (av C (Fr.Rk (S:=[]) N<|by simp[Value.ownBlock]) sE) ((i+1)*5) _ _ _ (λj u d=>xr (by rw[H.out];omega) d)
  |exact Am _ _ _ oE (by rw[List.drop_eq_nil_of_le<|by rw[H.out];omega];rfl)
  |exact qQ λp hp=>F p<|List.mem_of_mem_drop hp
  |(rw[mo,zzz,H.out];done)
  |(unfold maxLen;omega;done)
  |(omega;done)
  |skip
 all_goals
  intro v2 w2 f Y V;obtain⟨o2,c2,rfl⟩:=bZ f;have q:some rp≠l.ownBlock:=by obtain e|e:=b<;>rw[e]<;>simp[Value.ownBlock];omega
  have W:=Y.cell G q;have U:w2.heap[rp]?=some (vI v x):=(Y.block rp (zzl y N.size) q).trans ((N.block rp y<|by simp[Value.ownBlock]).trans I.out.blk);have f2:=au U 1;have A:Fr [] w w2:=Fr.dV (Fr.Rk N<|by simp[Value.ownBlock]) (eB.next (eB.nil w) (zzc _) b) Y;have O:=ae<|show eB w (.slice o2 (i+(n-(i+1))) c2)from eB.next (eB.next (eB.nil w) (zzc _) b) N.size V;have a:=ae<|show Fr [] w w2/\w2.heap[rp]?=some (vI v x)/\w2.ownsRow B0 92 5 (.slice o2 (i+(n-(i+1))) c2) (i+(n-(i+1))) (cT (s.take i)++cT (s.drop<|i+1))from ⟨A,U,f⟩;clear A U f Y V N b B G c1 J C P;go_wp2;go_end0;have K:i+(n-(i+1))=(s.take i++s.drop (i+1)).length:=by rw[zzi,zzm,zzz,H.out];omega
  refine⟨rfl,⟨_,I.out.ld a.1 (by rw[kW,<-K];exact a.2.2) (λp hp=>av (I.out.nj p ?_) a.1 sE) ?_ ?_ O.out λp hp=>.inr ⟨p,(tq s i).subset hp,rfl⟩⟩,(a.1.mono sE).trans<|Fr.cH sE _ _⟩
  .rcases zzo.1 hp with hp|hp
   .exact List.mem_of_mem_take hp
   .exact List.mem_of_mem_drop hp
  .exact I.out.apart.sublist<|tq s i
  .rw[List.map_append,List.map_take,List.map_drop,I.out.rs]
end Go.Proofs.YtdcafjmdfpjcbaaGreatDoor
