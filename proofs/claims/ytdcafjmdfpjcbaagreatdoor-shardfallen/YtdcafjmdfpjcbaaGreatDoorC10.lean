import Derived.Test.YtdcafjmdfpjcbaaGreatDoorC09
import Derived.RangeFuncRecord
set_option maxHeartbeats 4000000
set_option maxRecDepth 100000
namespace Go.Proofs.YtdcafjmdfpjcbaaGreatDoor
open Go.RowKit Go.Maps Tryz Sc
variable{B a c e f g i n p q r:Nat}{w:World}
abbrev e_(x y:Nat):Bool:=decide (x<y)
theorem Y1:Go.Sort.SWO e_ where
 irrefl:=λx=>by simp[e_]
 trans:=λx y z h a=>by simp[e_]at *;omega
 ntrans:=λx y z h a=>by simp[e_]at *;omega
structure SU(w wr:World)(B g n cap:Nat)(d:Array Nat):Prop where
 sz:d.size=n
 row:wr.ownsRow B 34 1 (.slice (some (dH g)) n cap) n (dh d.toList)
 fr:Fr [g] w wr
theorem pA{d:Array Nat}(h:i<d.size):d[i]! = d[i]:=by simp[h]
theorem Rq(d:Array Nat)(i j:Nat):((dh d.toList).set i<|.int .u64 (d[j]!:Nat)).set j (.int .u64 (d[i]!:Nat))=dh (Go.Sort.swp d i j).toList:=by
 unfold dh Go.Sort.swp;simp[List.map_set]
theorem Oa(d:Array Nat)(i j:Nat):(Go.Sort.swp d i j).size=d.size:=by simp[Go.Sort.swp]
section
variable{w wr:World}{B g n cap:Nat}{d:Array Nat}
theorem SU.on(h:SU w wr B g n cap d){q:World}(f:Fr [] wr q):SU w q B g n cap d:=⟨h.sz,av h.row f λ_ _=>sE,h.fr.trans<|f.mono sE⟩
theorem SU.drewN(h:SU w wr B g n cap d)(k:Nat):SU w (wr.drewN k) B g n cap d:=h.on<|fR (lE wr) k
theorem SU.drew(h:SU w wr B g n cap d):SU w wr.drew B g n cap d:=h.on (lE wr).drew
theorem SU.at(h:SU w wr B g n cap d){k:Nat}(a:k<n):wr.cell? (d8 g k)=some (.int .u64 ((d[k]!:Nat):Int)):=
 ma h.row k _ (by rw[pA<|by rw[h.sz];exact a];simp[h.sz,a])
theorem SU.free(h:SU w wr B g n cap d)(k:Nat):wr.frozen? (d8 g k)=false:=by
 rcases h.row.2 with⟨a,_⟩|⟨e,W,r,a,c,b,_⟩
 .simp at a
 .grind [au]
theorem SU.swp(h:SU w wr B g n cap d)(i j:Nat):
  SU w ((wr.setCell (d8 g i)<|.int .u64 (d[j]!:Nat)).setCell (d8 g j)<|.int .u64 (d[i]!:Nat)) B g n cap (Go.Sort.swp d i j) where
 sz:=by rw[Oa];exact h.sz
 row:=by
  have a:=((h.row.stored i<|.int .u64 (d[j]!:Nat)).1.stored j<|.int .u64 (d[i]!:Nat)).1;rwa [Rq]at a
 fr:=(h.fr.setCell (.inl sE) _).setCell (.inl sE) _
end
theorem ac'(B g n cap a b:Nat)(d:Array Nat)(w0 w:World)(h:SU w0 w B g n cap d)(t:a<b)(l:b<=n)(hn:n<=1000000000):
  Calls prog 273 #[.slice (some<|dH g) n cap,.int .i64 (a:Int),.int .i64 (b:Int)] w λe w'=>e=.returned (.tuple #[])/\SU w0 w' B g n cap (Go.Sort.reverseRange d a b):=by
 have H:=ae h;have q:IntKind.i64.wrap ((b:Int)-1)=((b-1:Nat):Int):=iS;clear h;go_enter func273,ntmps273;go_wp2;go_loopw [6,7] (λi j wr=>∃x y:Nat,i=.int .i64 x/\j=.int .i64 y/\a<=x/\y<b/\x<=y+1/\∃d',SU w0 wr B g n cap d'/\Go.Sort.reverseLoop x y d'=Go.Sort.reverseRange d a b) (λi j _=>(intOf j).toNat+1-(intOf i).toNat);case atStart=>exact⟨a,b-1,rfl,rfl,oE,oE,oE,d,H.out,rfl⟩
 case round=>
  obtain⟨x,y,rfl,rfl,r,o,v,u,c,Y⟩:=hrel;have S:=ae c;have E:=ae Y;clear c Y;by_cases P:x<y
  .have j1:(x:Int)<y:=oE;have c1:=S.out.at (k:=x) (by omega);have c2:=S.out.at (k:=y) (by omega);have z:wr.frozen? (d8 g x)=false:=S.out.free _;have s:wr.frozen? (d8 g y)=false:=S.out.free _;have m:IntKind.i64.wrap ((x:Int)+1)=((x+1:Nat):Int):=iS
   have A:IntKind.i64.wrap ((y:Int)-1)=((y-1:Nat):Int):=iS;have f:(x:Int)<n:=oE;have p:(y:Int)<n:=oE;go_wp2
   go_region;all_goals go_wp2
   refine⟨⟨x+1,y-1,sE,rfl,oE,oE,oE,_,(S.out.swp x y).drew,?_⟩,iG⟩;rw[<-E.out]
   conv=>rhs;rw[Go.Sort.reverseLoop,if_pos P]
  .have j1:¬(x:Int)<y:=oE;go_wp2;go_end0;refine⟨rfl,?_⟩;rw[<-E.out,Go.Sort.reverseLoop,if_neg P];exact S.out
structure xx(w0 w:World)(B g n cap:Nat)(d:Array Nat)(sp s:Nat):Prop where
 su:SU w0 w B g n cap d
 ne:sp≠g
 new:w0.heap.size<=sp
 blk:w.heap[sp]?=some (.cells #[.int .i64 (s:Int)] 3 (0,0))
section
variable{w0 w:World}{B g n cap sp s:Nat}{d:Array Nat}
theorem xx.drewN(h:xx w0 w B g n cap d sp s)(k:Nat):xx w0 (w.drewN k) B g n cap d sp s:=⟨h.su.drewN k,h.ne,h.new,by rw[(fR (lE w) k).block sp (by have:=h.blk;exact(zza.mp this).1) sE];exact h.blk⟩
theorem xx.count(h:xx w0 w B g n cap d sp s):xx w0 (w.setCell (dH sp)<|.int .i64<|(s:Int)+1) B g n cap d sp (s+1) where
 su:=⟨h.su.sz,av h.su.row (Fr.cH (S:=[sp]) (by simp) 0 _) λq a=>by simp[Value.ownBlock]at a;subst a;simp;exact λe=>h.ne e.symm,h.su.fr.setCell (.inr h.new) _⟩
 ne:=h.ne;new:=h.new;blk:=by rw[aH h.blk];simp
end
theorem Es(B g n cap a b sp s:Nat)(d:Array Nat)(w0 w:World)(h:xx w0 w B g n cap d sp s)(i:a<n)(j:b<n)(m:s<=1000):
  Calls prog 312 #[.slice (some<|dH g) n cap,.int .i64 (a:Int),.int .i64 (b:Int),rM sp] w λe w'=>∃x y t:Nat,e=.returned (.tuple #[.int .i64 (x:Int),.int .i64 (y:Int)])/\(x=a/\y=b\/x=b/\y=a)/\t<=s+1/\xx w0 w' B g n cap d sp t:=by
 have H:=ae h;have c1:=h.su.at i;have c2:=h.su.at j;have r:w.frozen? (d8 g a)=false:=h.su.free _;have q:w.frozen? (d8 g b)=false:=h.su.free _;have c3:w.cell? (dH sp)=some (.int .i64 (s:Int)):=aa h.blk 0;have k:w.frozen? (dH sp)=false:=au h.blk 0;have l:(a:Int)<n:=oE;have p:(b:Int)<n:=oE;have o:IntKind.i64.wrap ((s:Int)+1)=(s:Int)+1:=iS;have⟨x,f⟩:=xY <|d[a]!;have⟨y,c⟩:=xY <|d[b]!;rw[<-f]at c1;rw[<-c]at c2;clear h f c;go_enter func312,ntmps312;by_cases v:(y:Int)<x
 .have hd:decide ((y:Int)<x)=true:=by simp[v]
  go_wp2;go_quiet (first|(go_at_call 202;refine Calls.quiet_of_same<|eW _ _ _))
  go_wp2;go_ret2;refine⟨b,a,s+1,rfl,.inr ⟨rfl,rfl⟩,oE,(H.out.drewN nq).count⟩
 .have hd:decide ((y:Int)<x)=false:=by simp[v]
  go_wp2;go_quiet (first|(go_at_call 202;refine Calls.quiet_of_same<|eW _ _ _))
  go_wp2;go_ret2;refine⟨a,b,s,rfl,.inl ⟨rfl,rfl⟩,oE,H.out.drewN nq⟩
theorem Et(B g n cap a b c sp s:Nat)(d:Array Nat)(w0 w:World)(h:xx w0 w B g n cap d sp s)(i:a<n)(k:b<n)(m:c<n)(q:s<=900):
  Calls prog 300 #[.slice (some<|dH g) n cap,.int .i64 (a:Int),.int .i64 (b:Int),.int .i64 (c:Int),rM sp] w λe w'=>∃x t:Nat,e=.returned (.int .i64 (x:Int))/\(x=a\/x=b\/x=c)/\t<=s+3/\xx w0 w' B g n cap d sp t:=by
 have l:=ae h;clear h;go_enter func300,ntmps300;go_wp2_with fail;apply(Es B g n cap a b sp s d w0 w l.out i k oE).mono;rintro e o ⟨x1,y1,t1,rfl,h1,DR,sw⟩;have j:=ae sw;clear sw;go_wp2_with fail;apply(Es B g n cap y1 c sp t1 d w0 o j.out oE m oE).mono;rintro e w2 ⟨x2,y2,t2,rfl,h2,DS,sQ⟩;have f:=ae sQ;clear sQ;go_wp2_with fail;apply(Es B g n cap x1 x2 sp t2 d w0 w2 f.out oE oE oE).mono;rintro e p ⟨x3,y3,t3,rfl,h3,UD,YZ⟩;have H:=ae YZ;clear YZ;go_wp2;go_ret;exact⟨y3,t3,rfl,oE,oE,H.out⟩
theorem Eu(B g n cap a sp s:Nat)(d:Array Nat)(w0 w:World)(h:xx w0 w B g n cap d sp s)(u:1<=a)(b:a+1<n)(hn:n<=1000000000)(c:s<=900):
  Calls prog 299 #[.slice (some<|dH g) n cap,.int .i64 (a:Int),rM sp] w λe w'=>∃x t:Nat,e=.returned (.int .i64 (x:Int))/\(x=a-1\/x=a\/x=a+1)/\t<=s+3/\xx w0 w' B g n cap d sp t:=by
 have f:=ae h;have j:IntKind.i64.wrap ((a:Int)-1)=((a-1:Nat):Int):=iS;have i:IntKind.i64.wrap ((a:Int)+1)=((a+1:Nat):Int):=iS;clear h;go_enter func299,ntmps299;go_wp2_with fail;apply(Et B g n cap (a-1) a (a+1) sp s d w0 w f.out oE oE b c).mono;rintro e k ⟨x1,t1,rfl,h1,DR,sw⟩;have H:=ae sw;clear sw;go_wp2;go_ret;exact⟨x1,t1,rfl,h1,DR,H.out⟩
theorem SU.lt{wr:World}{d:Array Nat}(h:SU w wr B g n p d):g<wr.heap.size:=by
 rcases h.row.2 with⟨a,_⟩|⟨e,W,r,a,c,b,_⟩
 .simp at a
 .grind
theorem SU.count{a:World}{d:Array Nat}(h:SU a w B g n p d):xx a (w.alloc<|.cells #[.int .i64 0] 3) B g n p d w.heap.size 0 where
 su:=h.on<|(lE w).alloc _
 ne:=λe=>by have:=h.lt;omega
 new:=h.fr.size;blk:=World.alloc_heap_new w _
theorem Vi(B g n f a b:Nat)(d:Array Nat)(i w:World)(h:SU i w B g n f d)(Y:a+12<b)(A:b<=n)(hn:n<=1000000000):
  Calls prog 272 #[.slice (some<|dH g) n f,.int .i64 (a:Int),.int .i64 (b:Int)] w λe w'=>∃p t:Nat,e=.returned (.tuple #[.int .i64 (p:Int),.int .i64 (t:Int)])/\a<=p/\p<b/\t<=2/\SU i w' B g n f d:=by
 have l:=ae h.count;have F:IntKind.i64.wrap ((b:Int)-a)=((b-a:Nat):Int):=iS;clear h;go_enter func272,ntmps272;have⟨x,K⟩:=xY <|a+(b-a)/4;have⟨y,G⟩:=xY <|a+(b-a)/4*2;have⟨z,I⟩:=xY <|a+(b-a)/4*3;have o:Hid ((a:Int)+((b-a:Nat):Int)/4=(x:Int)):=show _=_ by omega
 have m:Hid ((a:Int)+((b-a:Nat):Int)/4*2=(y:Int)):=show _=_ by omega
 have q:Hid ((a:Int)+((b-a:Nat):Int)/4*3=(z:Int)):=show _=_ by omega
 have v:(8:Int)<=((b-a:Nat):Int):=oE;by_cases E:b-a<50
 .have l2:((b-a:Nat):Int)<50:=oE;go_wp2_with fail;rw[o.out,m.out,q.out];apply(Et B g n f x y z _ 0 d i _ l.out oE oE oE oE).mono;rintro e W ⟨x1,c,rfl,h1,DR,sw⟩;have H:=ae sw;have c1:=aa sw.blk 0;clear sw;by_cases j:c=0
  .subst j;go_wp2;go_ret2;exact⟨x1,1,rfl,oE,oE,oE,H.out.su⟩
  .have k0:¬(c:Int)=0:=oE;by_cases k:c=12
   .subst k;go_wp2;go_ret2;exact⟨x1,2,rfl,oE,oE,oE,H.out.su⟩
   .have k1:¬(c:Int)=12:=oE;go_wp2;go_ret2;exact⟨x1,0,rfl,oE,oE,oE,H.out.su⟩
 .have l2:¬((b-a:Nat):Int)<50:=oE;go_wp2_with fail;rw[o.out];apply(Eu B g n f x _ 0 d i _ l.out oE oE hn oE).mono;rintro e D ⟨x2,t2,rfl,h2,DS,sQ⟩;have s:=ae sQ;clear sQ;go_wp2_with fail;rw[m.out];apply(Eu B g n f y _ t2 d i _ s.out oE oE hn oE).mono;rintro e C ⟨x3,t3,rfl,h3,UD,YZ⟩;have r:=ae YZ;clear YZ;go_wp2_with fail;rw[q.out];apply(Eu B g n f z _ t3 d i _ r.out oE oE hn oE).mono;rintro e J ⟨x4,t4,rfl,h4,ht4,hw4⟩;have u:=ae hw4;clear hw4;go_wp2_with fail;apply(Et B g n f x2 x3 x4 _ t4 d i _ u.out oE oE oE oE).mono;rintro e W ⟨x1,c,rfl,h1,DR,sw⟩;have H:=ae sw;have c1:=aa sw.blk 0;clear sw;by_cases j:c=0
  .subst j;go_wp2;go_ret2;exact⟨x1,1,rfl,oE,oE,oE,H.out.su⟩
  .have k0:¬(c:Int)=0:=oE;by_cases k:c=12
   .subst k;go_wp2;go_ret2;exact⟨x1,2,rfl,oE,oE,oE,H.out.su⟩
   .have k1:¬(c:Int)=12:=oE;go_wp2;go_ret2;exact⟨x1,0,rfl,oE,oE,oE,H.out.su⟩
theorem Ev(x y:Int)(h:0<=x)(c:0<=y)(F:x<2^64)(Q:y<2^64):∃u:Nat,u<2^64/\bits .xor .u64 x y=(u:Int):=by
 obtain⟨a,rfl⟩:=Int.eq_ofNat_of_zero_le h;obtain⟨b,rfl⟩:=Int.eq_ofNat_of_zero_le c;exact⟨a^^^b,Nat.xor_lt_two_pow oE oE,bits_xor_u64_nat a b oE oE⟩
theorem vM(x:Int):0<=IntKind.u64.wrap x/\IntKind.u64.wrap x<2^64:=by rw[IntKind.wrap_u64];omega
theorem aa_(rp:Nat)(v:Nat)(t:TypeId)(w:World)(h:w.heap[rp]?=some (.cells #[.int .u64 (v:Int)] t (0,0)))(E:v<2^64):
  Calls prog 298 #[rM rp] w λe w'=>∃u:Nat,u<2^64/\e=.returned (.int .u64 (u:Int))/\w'.heap[rp]?=some (.cells #[.int .u64 (u:Int)] t (0,0))/\Fr [rp] w w':=by
 have c1:=aa h 0;have C:=au h 0;have r:=ae h;clear h;go_enter func298,ntmps298;go_wp2;go_region;all_goals go_wp2
 have⟨c,F,n⟩:=Ev (v:Int) (IntKind.u64.wrap<|(v:Int)*8192) oE (vM _).1 oE (vM _).2;rw[n];have⟨g,j⟩:∃W,W=(w.setCell ⟨rp,0,none⟩<|.int .u64 (c:Int)).drew:=⟨_,rfl⟩;have b:g.heap[rp]?=some (.cells #[.int .u64 (c:Int)] t (0,0)):=by rw[j];exact(aH r.out 0 _)
 have z:Hid (Fr [rp] w g):=by rw[j];exact(Fr.cH sE 0 _).drew
 rw[<-j];have c2:=aa b 0;have A:=au b 0;have x:=ae b;clear j b c1 C n;go_region;all_goals go_wp2
 have⟨f,D,m⟩:=Ev (c:Int) ((c:Int)/128) oE oE oE oE;rw[m];have⟨i,Y⟩:∃W,W=(g.setCell ⟨rp,0,none⟩<|.int .u64 (f:Int)).drew:=⟨_,rfl⟩;have a:i.heap[rp]?=some (.cells #[.int .u64 (f:Int)] t (0,0)):=by rw[Y];exact(aH x.out 0 _)
 have y:Hid (Fr [rp] w i):=by rw[Y];exact(z.out.setCell (.inl sE) _).drew
 rw[<-Y];have c3:=aa a 0;have s:=au a 0;have q:=ae a;clear Y a c2 A m;go_region;all_goals go_wp2
 have⟨k,p,o⟩:=Ev (f:Int) (IntKind.u64.wrap<|(f:Int)*131072) oE (vM _).1 oE (vM _).2;rw[o];have⟨l,X⟩:∃W,W=(i.setCell ⟨rp,0,none⟩<|.int .u64 (k:Int)).drew:=⟨_,rfl⟩;have d:l.heap[rp]?=some (.cells #[.int .u64 (k:Int)] t (0,0)):=by rw[X];exact(aH q.out 0 _)
 have B:Hid (Fr [rp] w l):=by rw[X];exact(y.out.setCell (.inl sE) _).drew
 rw[<-X];have c4:=aa d 0;have G:=au d 0;have H:=ae d;clear X d c3 s o;go_wp2;go_ret;exact⟨k,p,rfl,H.out,B.out⟩
theorem ue:∀f x:Nat,2^(Lib.bitLenAux f x)<=(if x=0 then 1 else 2*x)/\Lib.bitLenAux f x<=f
 |0,x=>by simp[Lib.bitLenAux];split<;>omega
 |f+1,x=>by
  have h:=ue f<|x/2;unfold Lib.bitLenAux;by_cases a:x=0
  .simp[a]
  .rw[if_neg a,if_neg a,Nat.pow_add];refine⟨?_,oE⟩;have b:=h.1;by_cases c:x/2=0
   .rw[if_pos c]at b;omega
   .rw[if_neg c]at b;omega
theorem ada(l:Nat)(w:World)(f:l<1000000001)(h:1<=l):
  Calls prog 297 #[.int .i64 (l:Int)] w λe w'=>∃m:Nat,1<=m/\m<=2*l/\e=.returned (.int .u64 (m:Int))/\w'=w:=by
 go_enter func297,ntmps297;go_wp2_with fail;apply(Tryz.bits_Len l w oE oE).mono;rintro e g ⟨rfl,rfl⟩;go_wp2;go_ret;have b:=ue 64 l;refine⟨2^Lib.bitLen l,Nat.one_le_two_pow,?_,?_,rfl⟩
 .show 2^Lib.bitLenAux 64 l<=_;have h:=b.1;split at h<;>omega
 .have h:=b.1;have d:min (Lib.bitLen l) 64=Lib.bitLen l:=Nat.min_eq_left b.2;have a:2^Lib.bitLen l<18446744073709551616:=by
   show 2^Lib.bitLenAux 64 l<_;split at h<;>omega
  have c:IntKind.u64.wrap (2^Lib.bitLen l)=((2^Lib.bitLen l:Nat):Int):=by
   rw[IntKind.wrap_u64,show(2:Int)^Lib.bitLen l=((2^Lib.bitLen l:Nat):Int) by simp];generalize 2^Lib.bitLen l=q at a;omega
  simp[d,c]
structure Ew(w0 w:World)(B g n cap:Nat)(d:Array Nat)(rp v:Nat):Prop where
 su:SU w0 w B g n cap d
 ne:rp≠g
 new:w0.heap.size<=rp
 blk:w.heap[rp]?=some (.cells #[.int .u64 (v:Int)] 401 (0,0))
 lt:v<2^64
section
variable{w0 w w':World}{B g n cap rp v u:Nat}{d:Array Nat}
theorem Ew.next(h:Ew w0 w B g n cap d rp v)(i:u<2^64)(c:w'.heap[rp]?=some (.cells #[.int .u64 (u:Int)] 401 (0,0)))(f:Fr [rp] w w'):Ew w0 w' B g n cap d rp u where
 su:=⟨h.su.sz,av h.su.row f λq b=>by simp[Value.ownBlock]at b;subst b;simp;exact λe=>h.ne e.symm,h.su.fr.andThen f λj a l=>by simp at a;subst a;have:=h.new;omega⟩
 ne:=h.ne;new:=h.new;blk:=c;lt:=i
theorem Ew.swp(h:Ew w0 w B g n cap d rp v)(i j:Nat):Ew w0 ((w.setCell (d8 g i)<|.int .u64 (d[j]!:Nat)).setCell (d8 g j)<|.int .u64 (d[i]!:Nat)).drew B g n cap (Go.Sort.swp d i j) rp v where
 su:=(h.su.swp i j).drew
 ne:=h.ne;new:=h.new;blk:=by
  have l:rp<w.heap.size:=(zza.mp h.blk).1;rw[(((Fr.refl [g] w).setCell (.inl sE)<|.int .u64 (d[j]!:Nat)).setCell (.inl sE)<|.int .u64 (d[i]!:Nat)).drew.block rp l<|by simp;exact h.ne];exact h.blk
 lt:=h.lt
end
theorem SU.draws{w0:World}{cap:Nat}{d:Array Nat}(h:SU w0 w B g n cap d)(v:Nat)(a:v<2^64):Ew w0 (w.alloc<|.cells #[.int .u64 (v:Int)] 401) B g n cap d w.heap.size v where
 su:=h.on<|(lE w).alloc _
 ne:=λe=>by have:=h.lt;omega
 new:=h.fr.size;blk:=World.alloc_heap_new w _;lt:=a
theorem Y3(B g n cap a b:Nat)(d:Array Nat)(w0 w:World)(h:SU w0 w B g n cap d)(Y:a+12<b)(f:b<=n)(hn:n<=1000000000):
  Calls prog 271 #[.slice (some<|dH g) n cap,.int .i64 (a:Int),.int .i64 (b:Int)] w λe w'=>e=.returned (.tuple #[])/\∃d',SU w0 w' B g n cap d'/\Go.Sort.PermIn a b d d':=by
 have H:Hid (Ew w0 (w.alloc<|.cells #[.int .u64 ((b-a:Nat):Int)] 401) B g n cap d w.heap.size<|b-a):=h.draws _ oE;have HZ:=ae h.sz;have K:IntKind.i64.wrap ((b:Int)-a)=((b-a:Nat):Int):=iS
 have D:(8:Int)<=((b-a:Nat):Int):=oE;clear h;go_enter func271,ntmps271;go_wp2_with fail;apply(ada (b-a) _ oE oE).mono;rintro e I ⟨m,IA,nU,rfl,rfl⟩;have L:IntKind.u64.wrap ((m:Int)-1)=((m-1:Nat):Int):=by rw[IntKind.wrap_u64];omega
 go_wp2;go_loopw [9] (λi wr=>∃k:Nat,i=.int .i64 k/\a+(b-a)/4*2-1<=k/\k<=a+(b-a)/4*2+2/\∃d' v,Ew w0 wr B g n cap d' w.heap.size v/\Go.Sort.PermIn a b d d') (λi _=>n+5-(intOf i).toNat);case atStart=>
  refine⟨a+(b-a)/4*2-1,?_,oE,oE,d,_,H.out,Go.Sort.permIn_refl d a b⟩;congr 1;omega
 case round=>
  obtain⟨k,rfl,Q,C,x,v,p,T⟩:=hrel;have R:=ae p;have P:=ae T;clear p T;by_cases N:k<=a+(b-a)/4*2+1
  .have adb:(k:Int)<=a+((b-a:Nat):Int)/4*2+1:=oE;go_wp2_with fail;apply(aa_ _ v _ wr R.out.blk R.out.lt).mono;rintro e w2 ⟨u,hu,rfl,cU,cA⟩;have M:=ae<|R.out.next hu cU cA;clear cU cA;have⟨o,l⟩:∃o:Nat,o=u&&&(m-1):=⟨_,rfl⟩;have G:o<=m-1:=by rw[l];exact Nat.and_le_right
   have E:bits .and .u64 (u:Int) ((m-1:Nat):Int)=(o:Int):=by rw[bits_and_u64_nat _ _ hu oE,l]
   have O:IntKind.i64.wrap (o:Int)=o:=iS;clear l;by_cases F:o<b-a
   .have ade:(o:Int)<((b-a:Nat):Int):=oE;have⟨q,j⟩:∃q:Nat,q=o:=⟨_,rfl⟩;have s:q<b-a:=oE;subst j;have y:(a:Int)+q<(n:Int):=oE;have c2:=M.out.su.at (k:=a+q) (by omega);have z:w2.frozen? ⟨g,a+q,none⟩=false:=M.out.su.free _;by_cases c:k=a+q
    .subst c;go_wp2
     go_region;all_goals go_wp2
     refine⟨⟨(a+q)+1,sE,oE,oE,_,u,M.out.swp (a+q)<|a+q,Go.Sort.permIn_trans _ _ _ _ _ P.out<|Go.Sort.swp_permIn _ _ _ _ _ oE oE oE oE<|by rw[M.out.su.sz];exact f⟩,iG⟩
    .have c1:=M.out.su.at (k:=k) (by omega);have A:w2.frozen? ⟨g,k,none⟩=false:=M.out.su.free _;have r:(k:Int)<n:=oE
     have t:¬a+q=k:=λe=>c e.symm
     go_wp2
     go_region;all_goals go_wp2
     refine⟨⟨k+1,sE,oE,oE,_,u,M.out.swp k<|a+q,Go.Sort.permIn_trans _ _ _ _ _ P.out<|Go.Sort.swp_permIn _ _ _ _ _ oE oE oE oE<|by rw[M.out.su.sz];exact f⟩,iG⟩
   .have ade:¬(o:Int)<((b-a:Nat):Int):=oE;have⟨q,j⟩:∃q:Nat,q=o-(b-a):=⟨_,rfl⟩;have s:q<b-a:=oE;have J:IntKind.i64.wrap ((o:Int)-((b-a:Nat):Int))=(q:Int):=iS;clear j;have y:(a:Int)+q<(n:Int):=oE;have c2:=M.out.su.at (k:=a+q) (by omega);have z:w2.frozen? ⟨g,a+q,none⟩=false:=M.out.su.free _;by_cases c:k=a+q
    .subst c;go_wp2
     go_region;all_goals go_wp2
     refine⟨⟨(a+q)+1,sE,oE,oE,_,u,M.out.swp (a+q)<|a+q,Go.Sort.permIn_trans _ _ _ _ _ P.out<|Go.Sort.swp_permIn _ _ _ _ _ oE oE oE oE<|by rw[M.out.su.sz];exact f⟩,iG⟩
    .have c1:=M.out.su.at (k:=k) (by omega);have A:w2.frozen? ⟨g,k,none⟩=false:=M.out.su.free _;have r:(k:Int)<n:=oE
     have t:¬a+q=k:=λe=>c e.symm
     go_wp2
     go_region;all_goals go_wp2
     refine⟨⟨k+1,sE,oE,oE,_,u,M.out.swp k<|a+q,Go.Sort.permIn_trans _ _ _ _ _ P.out<|Go.Sort.swp_permIn _ _ _ _ _ oE oE oE oE<|by rw[M.out.su.sz];exact f⟩,iG⟩
  .have adb:¬(k:Int)<=a+((b-a:Nat):Int)/4*2+1:=oE;go_wp2;go_end0;exact⟨rfl,x,R.out.su,P.out⟩
theorem adg(B g n p a b:Nat)(d:Array Nat)(f w:World)(h:SU f w B g n p d)(A:b<=n)(K:a<=n)(hn:n<=1000000000):
  Calls prog 269 #[.slice (some<|dH g) n p,.int .i64 (a:Int),.int .i64 (b:Int)] w λe w'=>e=.returned (.tuple #[])/\SU f w' B g n p (Go.Sort.insertionSort e_ d a b):=by
 have t:=ae h;have N:IntKind.i64.wrap ((a:Int)+1)=((a+1:Nat):Int):=iS;clear h;go_enter func269,ntmps269;go_wp2;go_loopw [6] (λi wr=>∃k:Nat,i=.int .i64 k/\a+1<=k/\(k<=b\/k=a+1)/\∃d',SU f wr B g n p d'/\Go.Sort.insOuter e_ a b k d'=Go.Sort.insertionSort e_ d a b) (λi _=>n+5-(intOf i).toNat);case atStart=>exact⟨a+1,sE,oE,.inr rfl,d,t.out,rfl⟩
 case round=>
  obtain⟨k,rfl,M,R,s,o,r⟩:=hrel;have Y:=ae o;have H:=ae r;clear o r;by_cases P:k<b
  .have j1:(k:Int)<b:=oE;have E:IntKind.i64.wrap ((k:Int)+1)=(k:Int)+1:=iS;have x:Hid (Go.Sort.insOuter e_ a b (k+1) (Go.Sort.insInner e_ a k s)=Go.Sort.insertionSort e_ d a b):=by
    have:=H.out;rw[Go.Sort.insOuter,if_pos P]at this;exact this
   clear H;go_wp2;go_loopw [7] (λi u=>∃j:Nat,i=.int .i64 j/\j<=k/\∃d',SU f u B g n p d'/\Go.Sort.insOuter e_ a b (k+1) (Go.Sort.insInner e_ a j d')=Go.Sort.insertionSort e_ d a b) (λi _=>(intOf i).toNat);case atStart=>exact⟨k,rfl,oE,s,Y.out,x.out⟩
   case round=>
    obtain⟨j,rfl,W,c,C,m⟩:=hrel;have J:=ae C;have l:=ae m;clear C m;by_cases D:a<j
    .obtain⟨i,hi⟩:∃i,j=i+1:=⟨j-1,oE⟩;have c1:=J.out.at (k:=j) (by omega);have c2:=J.out.at (k:=i) (by omega);have S:wr.frozen? (d8 g j)=false:=J.out.free _;have O:wr.frozen? (d8 g i)=false:=J.out.free _;have y:(a:Int)<j:=oE
     have G:IntKind.i64.wrap ((j:Int)-1)=(i:Int):=iS;have z:(j:Int)<n:=oE;have L:(i:Int)<n:=oE;have Z:i≠j:=oE;have I:=ae hi;clear hi;by_cases v:((c[j]!:Nat):Int)<((c[i]!:Nat):Int)
     .have hd:decide (((c[j]!:Nat):Int)<((c[i]!:Nat):Int))=true:=by simp only[v,decide_true]
      have Q:Hid (c[j]! < c[i]!):=by show _<_;omega
      have F:Hid (Go.Sort.insInner e_ a j c=Go.Sort.insInner e_ a i (Go.Sort.swp c j i)):=by
       show _=_;have q:=Q.out;rw[I.out]at q ⊢;rw[Go.Sort.insInner,if_pos<|by have:=I.out;simp[e_,q];omega]
      go_wp2
      go_quiet (first|(go_at_call 202;refine Calls.quiet_of_same<|eW _ _ _))
      go_wp2;go_region;all_goals go_wp2
      refine⟨⟨i,rfl,by have:=I.out;omega,_,((J.out.drewN nq).swp j i).drew,?_⟩,by have:=I.out;simp[intOf];omega⟩;rw[<-l.out,F.out]
     .have hd:decide (((c[j]!:Nat):Int)<((c[i]!:Nat):Int))=false:=by simp only[v,decide_false]
      have F:Hid (Go.Sort.insInner e_ a j c=c):=by
       show _=_;rw[I.out]at v ⊢;rw[Go.Sort.insInner,if_neg<|by simp[e_];omega]
      go_wp2
      go_quiet (first|(go_at_call 202;refine Calls.quiet_of_same<|eW _ _ _))
      go_wp2;refine⟨⟨k+1,sE,oE,.inl oE,c,J.out.drewN _,?_⟩,iG⟩;rw[<-l.out,F.out]
    .have y:¬(a:Int)<j:=oE;have F:Hid (Go.Sort.insInner e_ a j c=c):=by
      show _=_;cases j with
      |zero=>rfl
      |succ i=>rw[Go.Sort.insInner,if_neg sC]
     go_wp2;go_quiet (first|(go_at_call 202;refine Calls.quiet_of_same<|eW _ _ _))
     go_wp2;refine⟨⟨k+1,sE,oE,.inl oE,c,J.out.drewN _,?_⟩,iG⟩;rw[<-l.out,F.out]
  .have j1:¬(k:Int)<b:=oE;go_wp2;go_end0;refine⟨rfl,?_⟩;rw[<-H.out,Go.Sort.insOuter,if_neg P];exact Y.out
theorem Rs{d:Array Nat}(h:i<=2*r+1):Go.Sort.siftDown e_ i f r d=d:=by
 rw[Go.Sort.siftDown,dif_pos oE]
theorem Y4{d:Array Nat}(k:c=2*r+1)(h:e=c+1)(hp:p=f+c)(T:a=p+1)(g:q=f+r)(b:e<i)(j:d[p]! < d[a]!):
  Go.Sort.siftDown e_ i f r d=if d[q]! < d[a]! then Go.Sort.siftDown e_ i f e (Go.Sort.swp d q a)else d:=by
 subst k h hp T g;rw[Go.Sort.siftDown,dif_neg oE,if_pos<|by simp[e_];exact⟨b,j⟩];simp only[show f+(2*r+2)=f+(2*r+1)+1 by omega];by_cases l:d[f+r]! < d[f+(2*r+1)+1]!
 .grind
 .grind
theorem Rt{d:Array Nat}(l:c=2*r+1)(g:e=c+1)(hp:p=f+c)(T:a=p+1)(j:q=f+r)(m:c<i)(k:¬(e<i/\d[p]! < d[a]!)):
  Go.Sort.siftDown e_ i f r d=if d[q]! < d[p]! then Go.Sort.siftDown e_ i f c (Go.Sort.swp d q p)else d:=by
 subst l g hp T j;rw[Go.Sort.siftDown,dif_neg oE,if_neg<|by simp[e_];intro h;have:=λb=>k ⟨h,b⟩;omega];by_cases n:d[f+r]! < d[f+(2*r+1)]!
 .grind
 .grind
theorem Ru(B g n o v j f:Nat)(d:Array Nat)(t w:World)(h:SU t w B g n o d)(V:v<=j)(hb:f+j<=n)(hn:n<=1000000000):
  Calls prog 296 #[.slice (some<|dH g) n o,.int .i64 (v:Int),.int .i64 (j:Int),.int .i64 (f:Int)] w λe w'=>e=.returned (.tuple #[])/\SU t w' B g n o (Go.Sort.siftDown e_ j f v d):=by
 have U:=ae h;clear h;go_enter func296,ntmps296;go_wp2;go_loopw [8] (λi wr=>∃r:Nat,i=.int .i64 r/\r<=j/\∃d',SU t wr B g n o d'/\Go.Sort.siftDown e_ j f r d'=Go.Sort.siftDown e_ j f v d) (λi _=>n+5-(intOf i).toNat);case atStart=>exact⟨v,rfl,V,d,U.out,rfl⟩
 case round=>
  obtain⟨r,rfl,hr,a,K,N⟩:=hrel;have S:=ae K;have E:=ae N;clear K N;have⟨c,H⟩:=xY <|2*r+1;have ak:IntKind.i64.wrap (2*(r:Int))=2*(r:Int):=iS;have al:IntKind.i64.wrap (2*(r:Int)+1)=(c:Int):=iS;have an:r<c:=oE;have C:=ae H;clear H;by_cases P:c<j
  .have j1:(c:Int)<j:=oE;have⟨e,y⟩:=xY <|c+1;have⟨p,hp⟩:=xY <|f+c;have⟨b,T⟩:=xY <|p+1;have⟨q,A⟩:=xY <|f+r;have Z:IntKind.i64.wrap ((c:Int)+1)=(e:Int):=iS;have jp:IntKind.i64.wrap ((f:Int)+c)=(p:Int):=iS;have ab:IntKind.i64.wrap ((p:Int)+1)=(b:Int):=iS;have a7:IntKind.i64.wrap ((f:Int)+e)=(b:Int):=iS;have jq:IntKind.i64.wrap ((f:Int)+r)=(q:Int):=iS;have Q:=ae<|zzb y<|zzb hp<|zzb T A;have G:=S.out.at (k:=q) (by omega);have D:=S.out.at (k:=p) (by omega);have u:wr.frozen? ⟨g,q,none⟩=false:=S.out.free _;have s:wr.frozen? ⟨g,p,none⟩=false:=S.out.free _;have bq:(q:Int)<n:=oE
   have bp:(p:Int)<n:=oE;have a8:q≠p:=oE;have a1:p≠q:=oE;by_cases X:e<j
   .have j2:(e:Int)<j:=oE;have L:=S.out.at (k:=b) (by omega);have R:wr.frozen? ⟨g,b,none⟩=false:=S.out.free _;have ad:(b:Int)<n:=oE
    have a6:q≠b:=oE;have a':b≠q:=oE;clear y hp T A;by_cases I:((a[p]!:Nat):Int)<((a[b]!:Nat):Int)
    .have hd:decide (((a[p]!:Nat):Int)<((a[b]!:Nat):Int))=true:=by simp only[I,decide_true]
     have F:Hid (Go.Sort.siftDown e_ j f r a=if a[q]! < a[b]! then Go.Sort.siftDown e_ j f e (Go.Sort.swp a q b)else a):=Y4 C.out Q.1 Q.2.1 Q.2.2.1 Q.2.2.2 X oE;go_wp2
     go_quiet (first|(go_at_call 202;refine Calls.quiet_of_same<|eW _ _ _))
     obtain⟨l,m⟩:∃W,W=wr.drewN nq:=⟨_,rfl⟩;rw[<-m];have Y:Hid (SU t l B g n o a):=by rw[m];exact S.out.drewN nq
     clear m G D u s L R;have J:=Y.out.at (k:=q) (by omega);have M:=Y.out.at (k:=b) (by omega);have u:l.frozen? ⟨g,q,none⟩=false:=Y.out.free _;have s:l.frozen? ⟨g,b,none⟩=false:=Y.out.free _;by_cases z:((a[q]!:Nat):Int)<((a[b]!:Nat):Int)
     .have hzd:decide (((a[q]!:Nat):Int)<((a[b]!:Nat):Int))=true:=by simp only[z,decide_true]
      go_wp2
      go_quiet (first|(go_at_call 202;refine Calls.quiet_of_same<|eW _ _ _))
      go_wp2
      go_region
      all_goals go_wp2
      have O:=Q.out;refine⟨⟨e,rfl,oE,_,((Y.out.drewN nq).swp q b).drew,?_⟩,iG⟩;rw[<-E.out,F.out,if_pos oE]
     .have hzd:decide (((a[q]!:Nat):Int)<((a[b]!:Nat):Int))=false:=by simp only[z,decide_false]
      go_wp2
      go_quiet (first|(go_at_call 202;refine Calls.quiet_of_same<|eW _ _ _))
      go_wp2
      .refine bodyPost_ret (results_none rfl _ _ _) rfl ?_;refine⟨rfl,?_⟩;rw[<-E.out,F.out,if_neg oE];exact Y.out.drewN _
      .exfalso;have x:(!decide (a[q]! < a[b]!))=false:=pE;simp at x;omega
    .have hd:decide (((a[p]!:Nat):Int)<((a[b]!:Nat):Int))=false:=by simp only[I,decide_false]
     have F:Hid (Go.Sort.siftDown e_ j f r a=if a[q]! < a[p]! then Go.Sort.siftDown e_ j f c (Go.Sort.swp a q p)else a):=Rt C.out Q.1 Q.2.1 Q.2.2.1 Q.2.2.2 P oE;go_wp2
     go_quiet (first|(go_at_call 202;refine Calls.quiet_of_same<|eW _ _ _))
     obtain⟨l,m⟩:∃W,W=wr.drewN nq:=⟨_,rfl⟩;rw[<-m];have Y:Hid (SU t l B g n o a):=by rw[m];exact S.out.drewN nq
     clear m G D u s L R;have J:=Y.out.at (k:=q) (by omega);have M:=Y.out.at (k:=p) (by omega);have u:l.frozen? ⟨g,q,none⟩=false:=Y.out.free _;have s:l.frozen? ⟨g,p,none⟩=false:=Y.out.free _;by_cases z:((a[q]!:Nat):Int)<((a[p]!:Nat):Int)
     .have hzd:decide (((a[q]!:Nat):Int)<((a[p]!:Nat):Int))=true:=by simp only[z,decide_true]
      go_wp2
      go_quiet (first|(go_at_call 202;refine Calls.quiet_of_same<|eW _ _ _))
      go_wp2;go_region;all_goals go_wp2
      have O:=Q.out;refine⟨⟨c,rfl,oE,_,((Y.out.drewN nq).swp q p).drew,?_⟩,iG⟩;rw[<-E.out,F.out,if_pos oE]
     .have hzd:decide (((a[q]!:Nat):Int)<((a[p]!:Nat):Int))=false:=by simp only[z,decide_false]
      go_wp2
      go_quiet (first|(go_at_call 202;refine Calls.quiet_of_same<|eW _ _ _))
      go_wp2
      .refine bodyPost_ret (results_none rfl _ _ _) rfl ?_;refine⟨rfl,?_⟩;rw[<-E.out,F.out,if_neg oE];exact Y.out.drewN _
      .exfalso;have x:(!decide (a[q]! < a[p]!))=false:=pE;simp at x;omega
   .have j2:¬(e:Int)<j:=oE;clear y hp T A;have F:Hid (Go.Sort.siftDown e_ j f r a=if a[q]! < a[p]! then Go.Sort.siftDown e_ j f c (Go.Sort.swp a q p)else a):=Rt C.out Q.1 Q.2.1 Q.2.2.1 Q.2.2.2 P oE;go_wp2;go_quiet (first|(go_at_call 202;refine Calls.quiet_of_same<|eW _ _ _))
    have⟨l,m⟩:∃W,W=wr.drewN nq:=⟨_,rfl⟩;rw[<-m];have Y:Hid (SU t l B g n o a):=by rw[m];exact S.out.drewN nq
    clear m G D u s;have J:=Y.out.at (k:=q) (by omega);have M:=Y.out.at (k:=p) oE;have u:l.frozen? ⟨g,q,none⟩=false:=Y.out.free _;have s:l.frozen? ⟨g,p,none⟩=false:=Y.out.free _;by_cases z:((a[q]!:Nat):Int)<((a[p]!:Nat):Int)
    .have hzd:decide (((a[q]!:Nat):Int)<((a[p]!:Nat):Int))=true:=by simp only[z,decide_true]
     go_wp2;go_quiet (first|(go_at_call 202;refine Calls.quiet_of_same<|eW _ _ _))
     go_wp2;go_region;all_goals go_wp2
     have O:=Q.out;refine⟨⟨c,rfl,oE,_,((Y.out.drewN nq).swp q p).drew,?_⟩,iG⟩;rw[<-E.out,F.out,if_pos oE]
    .have hzd:decide (((a[q]!:Nat):Int)<((a[p]!:Nat):Int))=false:=by simp only[z,decide_false]
     go_wp2;go_quiet (first|(go_at_call 202;refine Calls.quiet_of_same<|eW _ _ _))
     go_wp2
     .refine bodyPost_ret (results_none rfl _ _ _) rfl ?_;refine⟨rfl,?_⟩;rw[<-E.out,F.out,if_neg oE];exact Y.out.drewN _
     .exfalso;have x:(!decide (a[q]! < a[p]!))=false:=pE;simp at x;omega
  .have j1:¬(c:Int)<j:=oE;go_wp2;go_end0;refine⟨rfl,?_⟩;have H:=C.out;rw[<-E.out,Rs oE];exact S.out
theorem aa'(B g n c a b:Nat)(d:Array Nat)(f w:World)(h:SU f w B g n c d)(lY:a<b)(Q:b<=n)(hn:n<=1000000000):
  Calls prog 270 #[.slice (some<|dH g) n c,.int .i64 (a:Int),.int .i64 (b:Int)] w λe w'=>e=.returned (.tuple #[])/\SU f w' B g n c (Go.Sort.heapSort e_ d a b):=by
 have D:=ae h;have⟨m,q⟩:=xY <|b-a;have U:IntKind.i64.wrap ((b:Int)-a)=(m:Int):=iS;have M:=ae q;have V:1<=m:=oE;have L:a+m<=n:=oE;clear h q;go_enter func270,ntmps270;go_wp2;go_loopw [9] (λi wr=>∃k:Nat,i=.int .i64 ((k:Int)-1)/\k<=(m-1)/2+1/\∃d',SU f wr B g n c d'/\Go.Sort.heapBuild e_ m a k d'=Go.Sort.heapBuild e_ m a ((m-1)/2+1) d) (λi _=>(intOf i+1).toNat);case atStart=>
  refine⟨(m-1)/2+1,?_,oE,d,D.out,rfl⟩;congr 1;omega
 case round=>
  obtain⟨k,rfl,Z,x,u,Y⟩:=hrel;have S:=ae u;have v:=ae Y;clear u Y;cases k with
  |zero=>
   rw[show(((0:Nat):Int)-1)=-1 by omega];go_wp2
   go_loopw [10] (λi wr=>∃k:Nat,i=.int .i64 ((k:Int)-1)/\k<=m/\∃d',SU f wr B g n c d'/\Go.Sort.heapPop e_ a k d'=Go.Sort.heapSort e_ d a b) (λi _=>(intOf i+1).toNat);case atStart=>
    refine⟨m,by first|rfl|(congr 1;omega),oE,x,S.out,?_⟩
    .have he:=v.out;have q:=M.out;rw[Go.Sort.heapBuild]at he;rw[Go.Sort.heapSort,<-q,he]
   case round=>
    obtain⟨k,rfl,T,j,C,s⟩:=hrel;have J:=ae C;have H:=ae s;clear C s;cases k with
    |zero=>
     go_wp2;go_end0;refine⟨rfl,?_⟩;rw[<-H.out];exact J.out
    |succ i=>
     have r:(((i+1:Nat):Int)-1)=(i:Int):=oE;rw[r];have I:(0:Int)<=i:=oE;by_cases G:i=0
     .subst G;have c1:=J.out.at (k:=a) (by omega);have N:wr.frozen? ⟨g,a,none⟩=false:=J.out.free _;have y:(a:Int)<n:=oE
      have K:IntKind.i64.wrap (a:Int)=a:=iS;have F:=ae H.out;go_wp2
      go_region;all_goals go_wp2_with fail
      all_goals
       have⟨o,l⟩:∃W,W=((wr.setCell ⟨g,a,none⟩<|.int .u64 (j[a]!:Nat)).setCell ⟨g,a,none⟩<|.int .u64 (j[a]!:Nat)).drew:=⟨_,rfl⟩;rw[<-l];have A:SU f o B g n c (Go.Sort.swp j a a):=by rw[l];exact(J.out.swp a a).drew
       apply(Ru B g n c 0 0 a _ f o A (zzs _) oE hn).mono;rintro e t ⟨rfl,wF⟩;have E:=ae wF;clear A wF l;go_wp2;refine⟨⟨0,sE,oE,_,E.out,F.out⟩,by simp[intOf]⟩
     .obtain⟨p,hp⟩:∃p,p=a+i:=⟨_,rfl⟩;have K:IntKind.i64.wrap ((a:Int)+i)=(p:Int):=iS;have z:IntKind.i64.wrap ((i:Int)-1)=(i:Int)-1:=iS;have c1:=J.out.at (k:=a) (by omega);have c2:=J.out.at (k:=p) (by omega);have N:wr.frozen? (d8 g a)=false:=J.out.free _;have f2:wr.frozen? (d8 g p)=false:=J.out.free _;have y:(a:Int)<n:=oE
      have O:(p:Int)<n:=oE;have F:Hid (Go.Sort.heapPop e_ a i (Go.Sort.siftDown e_ i a 0<|Go.Sort.swp j a p)=Go.Sort.heapSort e_ d a b):=by rw[hp];exact H.out
      have P:a+i<=n:=oE;have R:a≠p:=oE;have X:p≠a:=oE;clear hp;go_wp2
      go_region;all_goals go_wp2_with fail
      all_goals
       have⟨o,l⟩:∃W,W=((wr.setCell ⟨g,a,none⟩<|.int .u64 (j[p]!:Nat)).setCell ⟨g,p,none⟩<|.int .u64 (j[a]!:Nat)).drew:=⟨_,rfl⟩;rw[<-l];have A:SU f o B g n c (Go.Sort.swp j a p):=by rw[l];exact(J.out.swp a p).drew
       apply(Ru B g n c 0 i a _ f o A (zzs _) P hn).mono;rintro e t ⟨rfl,wF⟩;have E:=ae wF;clear A wF l;go_wp2;refine⟨⟨i,sE,oE,_,E.out,F.out⟩,by simp[intOf]⟩
  |succ i=>
   have I:(0:Int)<=i:=oE;have r:(((i+1:Nat):Int)-1)=(i:Int):=oE;rw[r];have z:IntKind.i64.wrap ((i:Int)-1)=(i:Int)-1:=iS;have F:=ae v.out;go_wp2_with fail;apply(Ru B g n c i m a x f wr S.out oE L hn).mono;rintro e t ⟨rfl,wF⟩;have E:=ae wF;clear wF;go_wp2;go_roundw;case rel=>exact⟨i,sE,oE,_,E.out,F.out⟩
   case measure=>simp[intOf]
end Go.Proofs.YtdcafjmdfpjcbaaGreatDoor
