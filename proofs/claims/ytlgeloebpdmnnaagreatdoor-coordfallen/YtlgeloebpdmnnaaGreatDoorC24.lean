import Derived.Test.YtlgeloebpdmnnaaGreatDoorC20
set_option maxHeartbeats 4000000
set_option maxRecDepth 100000
namespace Go.Proofs.YtlgeloebpdmnnaaGreatDoor
open Go.RowKit Go.Maps Tryz Sc
section
open Go.Shelf
variable{l:List Rec}{b e:Nat}{x:Rec}
def pO(b e:Nat)(l:List Rec):List Rec:=l.filter (counts b e)
theorem AK(h:counts b e x=true):pO b e (l++[x])=pO b e l++[x]:=by grind[pO]
theorem FP(h:counts b e x=false):pO b e (l++[x])=pO b e l:=by grind[pO]
theorem AL{m:List Rec}(h:l<+:m):pO b e l<+:pO b e m:=h.filter _
theorem LW{k:Nat}(h:k<256):bits .andNot .u8 (k:Int) 128=((k%128:Nat):Int):=by
 have:=u8_andNot_nat k 128 dp dp;rw[show((128:Nat):Int)=128 from rfl]at this;rw[this];congr 1;have:k&&&(2^7-1)=k%2^7:=Nat.and_two_pow_sub_one_eq_mod k 7;simpa using this
theorem LX(n:Nat)(hn:7<=n)(m l q g d:Nat)(t:Value)(rs:List Rec)(hlen:rs.length<=1000000000)(UK:∀r∈rs,r.kind<256)(W:nL)(J:List Rec->nL->Prop)
  (D:∀s A B,J s A->Below W.heap.size A B->J s B)
  (K:∀a x i,J a i->W.heap.size<=i.heap.size->a++[x] <+: counted rs->YieldAt Fence.wide m prog l #[.int .u8 ((x.kind%128:Nat):Int),.string (str x.pay)] i λe I =>
   e=.returned (.bool true)/\J (a++[x]) I/\oy W.heap.size (rowsOf t) i I)
  (O:W.cell? (gi q)=some (gx g)) (hg:W.cell? (gi g)=some (gx d)) (hL:lQ W d t rs) (h0:J [] W) :
  CallsIn Fence.wide n prog 264 #[.func (.yield l) #[] #[],gx q] W λe I=>(∃v,e=.returned v)/\J (counted rs) I:=by
 have a7:Fence.wide.round=none:=rfl;have h1:1<=n:=dp;have cY:Fence.wide.fn 207:=trivial;have bH:Fence.wide.fn 97:=trivial;have fu:Fence.wide.fn 154:=trivial;have a8:q<W.heap.size:=zzF W ⟨q,0,none⟩ O;have nA:g<W.heap.size:=zzF W ⟨g,0,none⟩ hg;obtain⟨i,P⟩:∃i,i=W.alloc (.cells #[.func (.yield l) #[] #[]] 349):=⟨_,rfl⟩;have G:Below W.heap.size W i:=by rw[P];exact(zzD _ W).alloc (zzc _) _
 have bY:Boxed i W.heap.size 349 (.func (.yield l) #[] #[]):=by rw[P];exact Boxed.new W _ _
 have dT:i.heap.size=W.heap.size+1:=by rw[P];simp
 have c0:i.cell? ⟨q,0,none⟩=some (.pointer (some ⟨g,0,none⟩)):=(G.cell (p:=⟨q,0,none⟩) a8).trans O;have cg:i.cell? ⟨g,0,none⟩=some (.pointer (some ⟨d,0,none⟩)):=(G.cell (p:=⟨g,0,none⟩) nA).trans hg;have jY:=Ei (n-1) dp g d t rs hlen i cg (hL.below G);have T:Hid (counted rs=pO (h_ rs).2.1 (h_ rs).2.2 rs):=rfl;obtain⟨b,LS⟩:∃b,b=(h_ rs).2.1:=⟨_,rfl⟩;obtain⟨c,ag⟩:∃c,c=(h_ rs).2.2:=⟨_,rfl⟩;rw[<-LS,<-ag] at jY T;clear LS ag;rw[P] at c0;refine callsIn_of_wp_marks func264 rfl trivial ?_ a7;simp only[ntmps264,ji,zzr,jn,Nat.reduceAdd,Nat.reduceSub,mK,jo,j7,j8,kV,lC]
 gi_wp2_with fail
 rw[<-P];refine jY.mono ?_;clear jY c0 P;rintro e w2 ⟨rfl,dy⟩;have Rm:Below W.heap.size W w2:=G.trans (dy.mono dp);have aa:Boxed w2 W.heap.size 349 (.func (.yield l) #[] #[]):=(dy.block W.heap.size dp).trans bY;obtain⟨h,u⟩:∃h,h=(w2.alloc (.cells #[.int .u64 (b:Int)] 34)).alloc (.cells #[.int .u64 (c:Int)] 34):=⟨_,rfl⟩;have eP:=dy.size;have q9:h.heap.size=w2.heap.size+2:=by rw[u];simp
 have R:Below W.heap.size W h:=by rw[u];exact(Rm.alloc dp _).alloc ef _
 have c4:h.cell? ⟨q,0,none⟩=some (.pointer (some ⟨g,0,none⟩)):=(R.cell (p:=⟨q,0,none⟩) a8).trans O;have d4:h.cell? ⟨g,0,none⟩=some (.pointer (some ⟨d,0,none⟩)):=(R.cell (p:=⟨g,0,none⟩) nA).trans hg;have ab:Boxed h W.heap.size 349 (.func (.yield l) #[] #[]):=by rw[u];exact(aa.alloc _).alloc _
 have e3:Boxed h w2.heap.size 34 (.int .u64 (b:Int)):=by rw[u];exact(Boxed.new w2 _ _).alloc _
 have e4:Boxed h (w2.heap.size+1) 34 (.int .u64 (c:Int)):=by
  have:=Boxed.new (w2.alloc (.cells #[.int .u64 (b:Int)] 34)) 34 (.int .u64 (c:Int));rw[zzv,<-u] at this;exact this
 rw[u] at c4 d4
 gi_wp2_with (gi_at_call 97;refine(Lb Fence.wide (n-1) bH a7 _ _).mono ?_;rintro e w' ⟨rfl,rfl⟩)
 rw[<-u]
 have bA:Boxed (h.alloc (.cells #[.pointer (some ⟨d,0,none⟩)] 66)) (w2.heap.size+1+1) 66 (.pointer (some ⟨d,0,none⟩)):=by
  have:=Boxed.new h 66 (.pointer (some ⟨d,0,none⟩))
  rwa [q9] at this
 have ad:=ab.alloc (.cells #[.pointer (some ⟨d,0,none⟩)] 66);have f3:=e3.alloc (.cells #[.pointer (some ⟨d,0,none⟩)] 66);have f4:=e4.alloc (.cells #[.pointer (some ⟨d,0,none⟩)] 66);have U:Below W.heap.size W (h.alloc (.cells #[.pointer (some ⟨d,0,none⟩)] 66)):=R.alloc dp _;have rW:(h.alloc (.cells #[.pointer (some ⟨d,0,none⟩)] 66)).heap.size=w2.heap.size+3:=by rw[zzv,q9]
 obtain⟨X,gZ⟩:∃X,X=h.alloc (.cells #[.pointer (some ⟨d,0,none⟩)] 66):=⟨_,rfl⟩;rw[<-gZ] at bA ad f3 f4 U rW ⊢;clear u gZ bY aa ab e3 e4 c4 d4 R G Rm cg;have ae:=hL.below U
 refine rI a7 h1 (gf:=154) (lb:=#[.pointer (some ⟨w2.heap.size+1+1,0,none⟩)]) rfl fu (enters_of func154 eu rfl)
  (encs:=λx:Rec=>#[Hy x]) (rs:=rs) (S:=rowsOf t) (λ_=>rfl) ae.rows
  (λWx z _=>acJ (n-1) dp _ (w2.heap.size+1+1) d t rs hlen Wx ((z.cell (p:=⟨w2.heap.size+1+1,0,none⟩) (by show w2.heap.size+1+1<_;omega)).trans bA.cell) (ae.below z))
  (λa A=>(Boxed A W.heap.size 349 (.func (.yield l) #[] #[])/\Boxed A w2.heap.size 34 (.int .u64 (b:Int))/\Boxed A (w2.heap.size+1) 34 (.int .u64 (c:Int)))/\J (pO b c a) A)
  (λWx z=>⟨⟨(z.block _ dp).trans ad,(z.block _ dp).trans f3,(z.block _ dp).trans f4⟩,D _ _ _ h0 (U.trans (z.mono dp))⟩)
  (λs A B o hb=>⟨⟨(hb.block _ dp).trans o.1.1,(hb.block _ dp).trans o.1.2.1,(hb.block _ dp).trans o.1.2.2⟩,D _ _ _ o.2 (hb.mono dp)⟩)
  (λs A r o=>⟨⟨(qY dp).trans o.1.1,(qY dp).trans o.1.2.1,(qY dp).trans o.1.2.2⟩,D _ _ _ o.2 ⟨rfl,rfl,rfl,by rw[cJ];exact zzc _,λk hk=>qY dp⟩⟩)
  (λx Z A=>∃C,X.heap.size+2<=C/\A.heap[C]?=some (.cells #[.int .u64 (x.cW:Int),.int .u8 (x.kind:Int),.string (str x.pay)] 89 (0,0))/\Z={ tmps:=#[.func (.yield l) #[] #[],.pointer (some ⟨q,0,none⟩),.pointer (some ⟨W.heap.size,0,none⟩),.pointer (some ⟨w2.heap.size,0,none⟩),.pointer (some ⟨w2.heap.size+1,0,none⟩),.pointer (some ⟨C,0,none⟩),undef,undef,.tuple #[.int .u64 (b:Int),.int .u64 (c:Int)],.pointer (some ⟨g,0,none⟩),.tuple #[.int .u64 (b:Int),.int .u64 (c:Int)],.int .u64 (b:Int),.int .u64 (c:Int),.pointer (some ⟨g,0,none⟩),.pointer (some ⟨g,0,none⟩),.pointer (some ⟨g,0,none⟩),.pointer (some ⟨d,0,none⟩),.func (.func 154) #[] #[.pointer (some ⟨w2.heap.size+1+1,0,none⟩)],Hy x,undef,undef,undef,undef,undef,undef,undef,undef,undef,undef,undef,undef,undef,undef,undef,undef,undef,undef,undef,undef,undef,undef,undef,undef,undef,undef,undef,undef,undef,undef,undef,undef,undef],defers:=[] })
  (λx Z A r o=>by obtain⟨C,g1,g2,g3⟩:=o;exact⟨C,g1,(qY dp).trans g2,g3⟩)
  ?assign ?body ?done
 case assign =>
  have pV:=@Bg;rintro a x A al ⟨⟨y1,y2,y3⟩,hj⟩ ym eN hK
  gi_wp2
  exact hK _ _ ⟨⟨y1.alloc _,y2.alloc _,y3.alloc _⟩,D _ _ _ hj ((zzD _ A).alloc dp _)⟩ (oy.alloc _ _ _ _) ⟨A.heap.size,ym,Cy A _,rfl⟩
 case body =>
  have pV:=@Bg;rintro a x Z A ⟨⟨y1,y2,y3⟩,hj⟩ ym ⟨C,hBx,bX,rfl⟩ eN;have x0:=bj bX 0;have x1:=bj bX 1;have x2:=bj bX 2;simp at x0 x1 x2;have v1:=y1.cell;have v2:=y2.cell;have v3:=y3.cell;have hk:=UK x (eN.subset dv);have k4:=LW hk;obtain⟨kd,Q⟩:∃kd,kd=x.kind%128:=⟨_,rfl⟩;rw[<-Q] at k4;have h3:1<=n-1-1:=dp
  by_cases a1:x.kind<128
  .by_cases a2:c<x.cW
   .by_cases a3:b<x.cW
    .have uF:counts b c x=true:=by simp[counts];omega
     have w:(x.kind:Int)<128:=dp;have L:(c:Int)<(x.cW:Int):=dp;have y:(b:Int)<(x.cW:Int):=dp;have M:¬(x.cW:Int)<(c:Int):=dp;have V:pO b c (a++[x])=pO b c a++[x]:=AK uF;have Y:=K _ x A hj dp (by rw[<-V,T.out];exact AL eN);rw[<-Q] at Y;obtain⟨fn,tmps,assign,body,hy,E⟩:=oB (m':=n-1-1-1) Y;clear Y Q;have H:Hid (pO b c (a++[x])=pO b c a++[x]):=V;clear V uF
     gi_wp2
     refine E.mono ?_;rintro e j ⟨rfl,yc,F⟩;have N:Hid (J (pO b c (a++[x])) j/\oy W.heap.size (rowsOf t) A j):=⟨by rw[H.out];exact yc,F⟩;clear yc F
     gi_wp2
     have F:=N.2;refine⟨⟨⟨(F.high _ dp dp).trans y1,(F.high _ dp dp).trans y2,(F.high _ dp dp).trans y3⟩,N.1⟩,F.mono dp⟩
    .have uF:counts b c x=true:=by simp[counts];omega
     have w:(x.kind:Int)<128:=dp;have L:(c:Int)<(x.cW:Int):=dp;have y:¬(b:Int)<(x.cW:Int):=dp;have V:pO b c (a++[x])=pO b c a++[x]:=AK uF;have Y:=K _ x A hj dp (by rw[<-V,T.out];exact AL eN);rw[<-Q] at Y;obtain⟨fn,tmps,assign,body,hy,E⟩:=oB (m':=n-1-1-1) Y;clear Y Q;have H:Hid (pO b c (a++[x])=pO b c a++[x]):=V;clear V uF
     gi_wp2
     refine E.mono ?_;rintro e j ⟨rfl,yc,F⟩;have N:Hid (J (pO b c (a++[x])) j/\oy W.heap.size (rowsOf t) A j):=⟨by rw[H.out];exact yc,F⟩;clear yc F
     gi_wp2
     have F:=N.2;refine⟨⟨⟨(F.high _ dp dp).trans y1,(F.high _ dp dp).trans y2,(F.high _ dp dp).trans y3⟩,N.1⟩,F.mono dp⟩
   .by_cases a3:b<x.cW
    .by_cases a4:x.cW<c
     .have uF:counts b c x=true:=by simp[counts];omega
      have w:(x.kind:Int)<128:=dp;have L:¬(c:Int)<(x.cW:Int):=dp;have y:(b:Int)<(x.cW:Int):=dp;have M:(x.cW:Int)<(c:Int):=dp;have V:pO b c (a++[x])=pO b c a++[x]:=AK uF;have Y:=K _ x A hj dp (by rw[<-V,T.out];exact AL eN);rw[<-Q] at Y;obtain⟨fn,tmps,assign,body,hy,E⟩:=oB (m':=n-1-1-1) Y;clear Y Q;have H:Hid (pO b c (a++[x])=pO b c a++[x]):=V;clear V uF
      gi_wp2
      refine E.mono ?_;rintro e j ⟨rfl,yc,F⟩;have N:Hid (J (pO b c (a++[x])) j/\oy W.heap.size (rowsOf t) A j):=⟨by rw[H.out];exact yc,F⟩;clear yc F
      gi_wp2
      have F:=N.2;refine⟨⟨⟨(F.high _ dp dp).trans y1,(F.high _ dp dp).trans y2,(F.high _ dp dp).trans y3⟩,N.1⟩,F.mono dp⟩
     .have uF:counts b c x=false:=by simp[counts];omega
      have w:(x.kind:Int)<128:=dp;have L:¬(c:Int)<(x.cW:Int):=dp;have y:(b:Int)<(x.cW:Int):=dp;have M:¬(x.cW:Int)<(c:Int):=dp;have V:pO b c (a++[x])=pO b c a:=FP uF;have H:Hid (J (pO b c (a++[x])) A):=by show J _ _;rw[V];exact hj
      clear V uF Q
      gi_wp2
      refine⟨λf hf=>(by cases hf),?_⟩
      gi_wp2
      exact⟨H.out,oy.refl _ _ _⟩
    .have uF:counts b c x=false:=by simp[counts];omega
     have w:(x.kind:Int)<128:=dp;have L:¬(c:Int)<(x.cW:Int):=dp;have y:¬(b:Int)<(x.cW:Int):=dp;have V:pO b c (a++[x])=pO b c a:=FP uF;have H:Hid (J (pO b c (a++[x])) A):=by show J _ _;rw[V];exact hj
     clear V uF Q
     gi_wp2
     refine⟨λf hf=>(by cases hf),?_⟩
     gi_wp2
     exact⟨H.out,oy.refl _ _ _⟩
  .by_cases a3:b<x.cW
   .by_cases a4:x.cW<c
    .have uF:counts b c x=true:=by simp[counts];omega
     have w:¬(x.kind:Int)<128:=dp;have y:(b:Int)<(x.cW:Int):=dp;have M:(x.cW:Int)<(c:Int):=dp;have V:pO b c (a++[x])=pO b c a++[x]:=AK uF;have Y:=K _ x A hj dp (by rw[<-V,T.out];exact AL eN);rw[<-Q] at Y;obtain⟨fn,tmps,assign,body,hy,E⟩:=oB (m':=n-1-1-1) Y;clear Y Q;have H:Hid (pO b c (a++[x])=pO b c a++[x]):=V;clear V uF
     gi_wp2
     refine E.mono ?_;rintro e j ⟨rfl,yc,F⟩;have N:Hid (J (pO b c (a++[x])) j/\oy W.heap.size (rowsOf t) A j):=⟨by rw[H.out];exact yc,F⟩;clear yc F
     gi_wp2
     have F:=N.2;refine⟨⟨⟨(F.high _ dp dp).trans y1,(F.high _ dp dp).trans y2,(F.high _ dp dp).trans y3⟩,N.1⟩,F.mono dp⟩
    .have uF:counts b c x=false:=by simp[counts];omega
     have w:¬(x.kind:Int)<128:=dp;have y:(b:Int)<(x.cW:Int):=dp;have M:¬(x.cW:Int)<(c:Int):=dp;have V:pO b c (a++[x])=pO b c a:=FP uF;have H:Hid (J (pO b c (a++[x])) A):=by show J _ _;rw[V];exact hj
     clear V uF Q
     gi_wp2
     refine⟨λf hf=>(by cases hf),?_⟩
     gi_wp2
     exact⟨H.out,oy.refl _ _ _⟩
   .have uF:counts b c x=false:=by simp[counts];omega
    have w:¬(x.kind:Int)<128:=dp;have y:¬(b:Int)<(x.cW:Int):=dp;have V:pO b c (a++[x])=pO b c a:=FP uF;have H:Hid (J (pO b c (a++[x])) A):=by show J _ _;rw[V];exact hj
    clear V uF Q
    gi_wp2
    refine⟨λf hf=>(by cases hf),?_⟩
    gi_wp2
    exact⟨H.out,oy.refl _ _ _⟩
 case done =>
  rintro A ⟨⟨y1,y2,y3⟩,hj⟩ ym hK
  gi_wp2
  refine⟨dv,.inl ⟨_,_,rfl,DK hK,?_⟩⟩;exact⟨_,xw rfl _ _ _,⟨_,rfl⟩,D _ A _ (by rw[T.out];exact hj) ⟨rfl,rfl,rfl,by rw[cJ];exact zzc _,λk hk=>qY dp⟩⟩
theorem UL(n:Nat)(hn:7<=n)(l B p a:Nat)(v:Value)(rs:List Rec)(hlen:rs.length<=1000000000)(K:∀r∈rs,r.kind<256)(W:nL)(T:W.cell? (gi B)=some (gx p))(g:W.cell? (gi p)=some (gx a))(L:lQ W a v rs):
  aaQ Fence.wide n prog 264 #[gx B] (λx:Rec=>#[.int .u8 ((x.kind%128:Nat):Int),.string<|str x.pay]) (counted rs) (rowsOf v) l W:=λJ b Y h=>
 LX n hn (n-1) l B p a v rs hlen K W J b Y T g L h
end
def au.notes(l:au)(d:aj):List (Nat × nS)->au × aj × Nat
 |[]=>(l,d,0)
 |e :: r=>if (l.note d e.1 e.2).2.2=0 then ((l.note d e.1 e.2).1).notes (l.note d e.1 e.2).2.1 r else l.note d e.1 e.2
def au.eV(l:au)(d:aj)(es:List (Nat × nS)):au × aj × Nat :=
 if (l.notes d ((254,gW) :: es++[(255,gW)])).2.2=0 then ((l.notes d ((254,gW) :: es++[(255,gW)])).1).cut (l.notes d ((254,gW) :: es++[(255,gW)])).2.1 l.next
 else l.notes d ((254,gW) :: es++[(255,gW)])
theorem pX:∀(a b:List<|Nat×nS) (l:au) (d:aj),l.notes d (a++b)=if (l.notes d a).2.2=0 then ((l.notes d a).1).notes (l.notes d a).2.1 b else l.notes d a
 |[],b,l,d=>by
  have e:l.notes d []=(l,d,0):=rfl;rw[e];simp
 |e::r,b,l,d=>by
  show(if (l.note d e.1 e.2).2.2=0 then ((l.note d e.1 e.2).1).notes (l.note d e.1 e.2).2.1 (r++b)else l.note d e.1 e.2)=_;by_cases h:(l.note d e.1 e.2).2.2=0
  .have er:l.notes d (e::r)=((l.note d e.1 e.2).1).notes (l.note d e.1 e.2).2.1 r:=by show(if _ then _ else _)=_;rw[oo h]
   rw[oo h,er,pX r b]
  .have er:l.notes d (e::r)=l.note d e.1 e.2:=by show(if _ then _ else _)=_;rw[mE h]
   rw[mE h,er,mE h]
end Go.Proofs.YtlgeloebpdmnnaaGreatDoor
