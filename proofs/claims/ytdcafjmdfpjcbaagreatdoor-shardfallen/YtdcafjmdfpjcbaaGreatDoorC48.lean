import Derived.Test.YtdcafjmdfpjcbaaGreatDoorC47
import Derived.Test.YtdcafjmdfpjcbaaGreatDoorC44
set_option maxHeartbeats 8000000
set_option maxRecDepth 100000
namespace Go.Proofs.YtdcafjmdfpjcbaaGreatDoor
open Go.RowKit Go.Maps Tryz Sc
variable{b:ByteArray}{T base c k rp:Nat}{α:Type}{v:Value}{w:World}{R:aK}{s:ag}
theorem Dp(xs:List a_)(k:Nat)(x:a_)(h:xs[k]?=some x):((xs.take<|k+1).filter λx=>decide<|x.st=3)=if x.st=3 then ((xs.take k).filter λx=>decide<|x.st=3)++[x]else (xs.take k).filter λx=>decide (x.st=3):=by
 rw[List.take_add_one,h,List.filter_append];by_cases a:x.st=3
 .simp[a]
 .simp[a]
theorem OI [Inhabited Bs](rp:Nat)(R:aK)(w:World)(h:RS w rp R)(hn:R.af.length<=1048576)(hl:∀x∈R.af,x.ak.length<=1000)(xu:R.table.length<=1048576):
  Calls prog 46 #[rM rp] w λe w'=>∃b,e=.returned (rM b)/\w.heap.size<=b/\RSn w w' b R.rest/\Fr [] w w':=by
 have⟨tv,xv,ps,h⟩:=h;have⟨i0,jc,a8,a6,a7⟩:=info_parts vG;have⟨j0,ad,ak,an,ay⟩:=info_parts vJ;have⟨l0,J3,YW,YX,YY⟩:=info_parts rS;have c0:=aa h.blk 0;have c1:=aa h.blk 1;simp at c0 c1;have N5:rp<w.heap.size:=(zza.1 h.blk).1;have yO:=zf h.tab;have I:=ae h;clear h;go_enter func46,ntmps46;go_wp2_with (at_builtin;refine b5 rfl _ _ 44 rfl w.heap.size 102 i0 _ 2 32 underlying44 jc a8 a6 a7 rfl dN (.slice none 0 0) 0 [] rfl (zzu _ _ _ _) R.table.length (eA R.table) yO (Ak _) (C1 _) mE oE (zzc _) ?_;intro t1 w1 fe iN uH;obtain⟨o1,t,rfl⟩:=bZ fe;have N:Fr [] w w1:=Fr.dV (lE w) (eB.nil w) iN;clear iN uH);have⟨b,J⟩:=xY w1.heap.size;have⟨j,L⟩:=xY <|w1.alloc (.cells #[.slice o1 R.table.length t,.slice none 0 0] 47);have o7:Fr [] w j:=by rw[L];exact N.alloc _
 have a1:cX j b (.slice o1 R.table.length t) (.slice none 0 0) [] ⟨R.table,[]⟩:=by
  refine {base:=zzk I.out.low<|by rw[J];exact N.size,blk:=?_,tab:=?_,tk:=zzu _ _ _ _,nj:=sE,apart:=sE,rs:=rfl,mine:=λk hk=>I.out.mine k (.inr<|.inr<|.inr ?mn)}
  case mn=>
   have a':=N.size;obtain e|e|⟨p,hp,_⟩|e:=hk
   .omega
   .cases e
   .cases hp
   .have:=o7.size;omega
  .rw[L,J];exact heap_alloc_new w1 _
  .rw[L];have:=ownsRow_base_a fe I.out.low;simpa using this.alloc _
 have Hw:w.heap.size<=b:=by rw[J];exact N.size
 have K:b<j.heap.size:=(zza.1 a1.blk).1;rw[<-L];rw[<-J];have Q:=ae<|show cX j b (.slice o1 R.table.length t) (.slice none 0 0) [] ⟨R.table,[]⟩/\Fr [] w j/\w.heap.size<=b/\b<j.heap.size from ⟨a1,o7,Hw,K⟩;clear L J a1 o7 fe N yO c0 c1 jc a8 a6 a7 Hw K;have⟨n,jD⟩:=xY ps.length;have HN:=ae jD.symm;rw[<-I.out.len,<-jD]at hn;clear jD;have HL:=ae hl;clear hl
 go_loopw [4] (λi wr=>∃(k:Nat) (X:Value) (s:List<|a_×Value) (m:Nat),k<=n/\m<=k/\i=.int .i64 k/\Hid (cX wr b (.slice o1 R.table.length t) X s ⟨R.table,(R.af.take k).filter λx=>decide<|x.st=3⟩/\Fr [] w wr/\s.length=m/\eB w X/\j.heap.size<=wr.heap.size/\∀p∈s,eB w p.2)) (λi _=>n-(intOf i).toNat);case atStart=>exact⟨0,.slice none 0 0,[],0,zzs _,zzc _,rfl,Q.1,Q.2.1,rfl,eB.nil _,zzc _,sE⟩
 case round=>
  obtain⟨k,X,s,m,hk,UW,rfl,d⟩:=hrel;have O:=I.out.fr d.2.1;have c1:=aa O.blk 1;simp at c1;obtain⟨ao,c,e0,H⟩:=O.slice;rw[e0,HN.out]at c1;have a':=d.2.1.size;have Rn:=zzk I.out.low a';have K:=zzl Q.2.2.2 d.2.2.2.2.1;by_cases bP:k<n
  .obtain⟨p,hp⟩:∃p,ps[k]?=some p:=⟨_,zzg<|by rw[HN.out];exact bP⟩;obtain⟨g,rfl,x0,x1,x2,x3,x4⟩:=H k p hp;have D:=O.nj p<|zzh hp;obtain⟨pa,pc,ep⟩:=bZ D;have JN:=HL.out p.1<|zzh<|I.out.back hp;obtain⟨l,Z⟩:∃l,l=p.1.ak.length:=⟨_,rfl⟩;rw[ep]at x4 D;rw[<-Z]at x4 D JN;have T:=aa d.1.blk 1;simp at T;have i1:(0:Int)<=k:=oE
   have i2:(k:Int)<n:=oE;have al:=I.out.back hp;by_cases cm:p.1.st=3
   rotate_left
   .have ab:¬(p.1.st:Int)=3:=oE;have HR:Hid (cX wr b (.slice o1 R.table.length t) X s ⟨R.table,(R.af.take<|k+1).filter λx=>decide<|x.st=3⟩/\Fr [] w wr/\s.length=m/\eB w X/\j.heap.size<=wr.heap.size/\∀p∈s,eB w p.2):=by
     have:=d.out;rw[Dp _ k p.1 al,if_neg cm];exact this
    clear H hp O Z ep D T d;go_wp2
    go_roundw
    case rel=>exact⟨k+1,_,_,m,oE,oE,nF,HR.out⟩
    case measure=>simp[intOf];omega
   have ab:(p.1.st:Int)=3:=oE;have M_:=ae cm;have HP:=ae<|zzb hp Z;have TI:=zf<|D.alloc<|.cells #[.int .u64 (p.1.id:Int),.int .i64 3,.int .i64 (p.1.ops:Int),.int .i64 (p.1.jY:Int),.slice pa l pc] 92;clear H hp O Z ep D
   go_wp2_with (at_builtin;refine b5 rfl _ _ 90 rfl wr.heap.size 134 l0 _ 4 40 underlying90 J3 YW YX YY rfl dN (.slice none 0 0) 0 [] rfl (zzu _ _ _ _) l (dW p.1.ak) TI (by rw[Aj,<-HP.2]) (C2 _) mE oE sE ?_;intro lv w2 iH Y wV;obtain⟨o2,f,rfl⟩:=bZ iH;have U:=(Y.block wr.heap.size sE<|by simp[Value.ownBlock]).trans<|heap_alloc_new wr _;have q0:=aa U 0;have q1:=aa U 1;have q2:=aa U 2;have q3:=aa U 3;have q4:=aa U 4;have qf:=au U 4;have lI:=Y.cell ((zze (a:=⟨b,1,none⟩)<|zzf wr _ b K).trans T) (by simp[Value.ownBlock]);simp at q0 q1 q2 q3 q4)
   have F:Fr [] wr (w2.setCell ⟨wr.heap.size,4,none⟩<|.slice o2 l f):=(Fr.dV ((lE wr).alloc _) (eB.nil wr) Y).setCell (.inr<|zzc _) _;have sT:(w2.setCell ⟨wr.heap.size,4,none⟩<|.slice o2 l f).ownsRow wr.heap.size 134 4 (.slice o2 l f) l (dW p.1.ak):=b_ (by simpa using iH) U dN;have V:=aH U 4<|.slice o2 l f;obtain⟨W,YZ⟩:∃W,W=w2.setCell ⟨wr.heap.size,4,none⟩ (.slice o2 l f):=⟨_,rfl⟩;rw[<-YZ]at F sT V ⊢;clear YZ q0 q1 q2 q3 q4 qf lI Y wV iH U T TI;have b0:=aa V 0;have b1:=aa V 1;have b2:=aa V 2;have b3:=aa V 3;have b4:=aa V 4;simp at b0 b1 b2 b3 b4;have B:=d.1.fr F;have p2:=aa B.blk 1;have g2:=au B.blk 1;simp at p2;have oX:=zzl K F.size;have yG:∀A,(W.alloc A).frozen? ⟨b,1,none⟩=false:=λA=>(zzw (a:=⟨b,1,none⟩)<|zzf W A b oX).trans g2
   have O9:∀A,(W.alloc A).cell? ⟨b,1,none⟩=some X:=λA=>(zze (a:=⟨b,1,none⟩)<|zzf W A b oX).trans p2
   have M:=B.tk;rw[d.2.2.1]at M;obtain⟨y,z,ex⟩:=bZ M;subst ex;have HB:Hid (W.heap[b]?=some (vI (.slice o1 R.table.length t)<|.slice y m z)/\some b≠(Value.slice y m z).ownBlock):=⟨B.blk,λe=>bG M B.blk dN e.symm⟩;have Uh:=zzk Rn F.size;have v:=ae<|show Fr [] wr W/\W.ownsRow wr.heap.size 134 4 (.slice o2 l f) l (dW p.1.ak)/\W.ownsRow B0 92 5 (.slice y m z) m (cT s)from ⟨F,sT,M⟩;clear F sT V B M
   go_region_law (first|(rw[if_pos<|by rfl];refine fT _ _ 45 rfl B0 92 j0 _ 5 56 underlying45 ad ak an ay rfl dN _ m (cT s) rfl (v.2.2.alloc _) ⟨W.heap.size,0,none⟩ 1 1 [.int .u64 (p.1.id:Int),.int .i64 3,.int .i64 (p.1.ops:Int),.int .i64 (p.1.jY:Int),.slice o2 l f] rfl rfl (cD _ #[.int .u64 (p.1.id:Int),.int .i64 3,.int .i64 (p.1.ops:Int),.int .i64 (p.1.jY:Int),.slice o2 l f] _) (by intro u hu;simp at hu;obtain rfl|rfl|rfl|rfl|rfl:=hu<;>rfl) mE oE (zzk Uh sE) ?_;intro v4 E lh iX jH;obtain⟨P,c4,rfl⟩:=bZ lh;have tH:E.heap[b]?=some (vI (.slice o1 R.table.length t)<|.slice y m z):=(iX.block b sC HB.2).trans<|(zzf W _ b oX).trans HB.1;have t2:=aa tH 1;have tf:=au tH 1;simp at t2))
   all_goals
    have S:Fr (Value.slice y m z).ownBlock.toList wr E:=(v.1.mono sE).trans<|(((Fr.refl _ W).alloc _).drew).trans<|Fr.dc (r:=(Value.slice y m z).ownBlock) iX
    have HR:Hid (cX (E.setCell ⟨b,1,none⟩<|.slice P (m+1) c4) b (.slice o1 R.table.length t) (.slice P (m+1) c4) (s++[(p.1,.slice o2 l f)]) ⟨R.table,(R.af.take<|k+1).filter λx=>decide<|x.st=3⟩/\Fr [] w (E.setCell ⟨b,1,none⟩<|.slice P (m+1) c4)/\(s++[(p.1,(.slice o2 l f:Value))]).length=m+1/\eB w (.slice P (m+1) c4)/\j.heap.size<=(E.setCell ⟨b,1,none⟩<|.slice P (m+1) c4).heap.size/\∀q∈s++[(p.1,(.slice o2 l f:Value))],eB w q.2):=by
     have Tz:E.ownsRow B0 134 4 (.slice o2 l f) p.1.ak.length (dW p.1.ak):=by
      have h1:=av (ownsRow_base_a v.2.1 Rn) (((lE W).alloc<|.cells #[.int .u64 (p.1.id:Int),.int .i64 3,.int .i64 (p.1.ops:Int),.int .i64 (p.1.jY:Int),.slice o2 l f] 92).drew) sE;have h2:=av v.2.2 (((lE W).alloc<|.cells #[.int .u64 (p.1.id:Int),.int .i64 3,.int .i64 (p.1.ops:Int),.int .i64 (p.1.jY:Int),.slice o2 l f] 92).drew) sE;rw[<-HP.2];refine av h1 (Fr.dc (r:=(Value.slice y m z).ownBlock) iX) λg G o=>?_
      have nU:(Value.slice y m z).ownBlock=some g:=by simpa using o
      have⟨ca,ea⟩:=aF h1 G;have⟨cb,eb⟩:=aF h2 nU;rw[ea]at eb;cases eb
     have e1:((R.af.take<|k+1).filter λx=>decide<|x.st=3)=((R.af.take k).filter λx=>decide<|x.st=3)++[p.1]:=by rw[Dp _ k p.1<|I.out.back HP.1,if_pos M_.out]
     have C:=d.2.2.1;have e9:jZ (p.1,(.slice o2 l f:Value))=[.int .u64 (p.1.id:Int),.int .i64 3,.int .i64 (p.1.ops:Int),.int .i64 (p.1.jY:Int),.slice o2 l f]:=by
      show [_,Value.int .i64 (p.1.st:Int),_,_,_]=_;rw[M_.out];rfl
     refine⟨?_,?_,by simp[C],?_,?_,?_⟩
     .rw[e1];exact d.1.Rm S (by rw[C,e9];exact lh) Tz (λg G=>(v.2.1.lt g G).1) λq C=>jH.elim (λe=>.inl<|e▸C) λe=>.inr<|by rw[e]at C;cases C;have:=v.1.size;simp;omega
     .have hx:=(d.2.1).C3 S d.2.2.2.1;exact hx.setCell (.inr Q.2.2.1) _
     .exact eB.next d.2.2.2.1 (by have:=v.1.size;simp;omega) jH
     .have h1:=S.size;have h2:=d.2.2.2.2.1;simp[World.setCell];omega
     .intro q o;obtain o|o:=zzo.1 o
      .exact d.2.2.2.2.2 q o
      .simp at o;subst o;exact λg G=>zzk d.2.1.size (v.2.1.lt g G).1
    clear S iX lh jH tH;go_wp2;go_roundw;case rel=>exact⟨k+1,_,_,m+1,oE,oE,nF,HR.out⟩
    case measure=>simp[intOf];omega
  .have Hz:k=n:=oE;have HT:Hid (R.af.take k=R.af):=zzt (by rw[Hz,<-HN.out,I.out.len];omega);clear H;go_wp2;go_ret;refine⟨b,rfl,Q.2.2.1,?_,d.2.1⟩;have:=d.1;rw[HT.out]at this;exact⟨_,_,_,this,d.2.2.2.1,d.2.2.2.2.2⟩
abbrev sO(b:Nat)(P:Nat->Prop):Inhabited Bs:=⟨{ b:=b,ok:=P }⟩
abbrev oP(b:Nat):Inhabited Bs:=sO b λ_=>True
def MA(rp:Nat)(E:Value)(I:List (a_ × Value)):List Nat:=rp :: (E.ownBlock.toList++I.flatMap λp=>p.2.ownBlock.toList)
theorem ig{E:Value}{I:List (a_×Value)}:k∈MA rp E I↔k=rp\/E.ownBlock=some k\/∃p∈I,p.2.ownBlock=some k:=by grind[MA]
def lC(b:Nat)(w:World)(rp:Nat)(R:aK)(S:List Nat):Prop:=∃J E I,@cX (oP b) w rp J E I R/\S=MA rp E I
section
variable{b rp:Nat}{w w':World}{J E:Value}{I:List (a_ × Value)}{R O:aK}{S S':List Nat}
theorem abQ{P a:Nat->Prop}(h:@cX (sO b P) w rp J E I R)(g:∀k,(k∈MA rp E I\/w.heap.size<=k)->a k):@cX (sO b a) w rp J E I R:=by
 obtain⟨f,i,n,c,j,d,l,_⟩:=h
 exact @cX.mk (sO b a) w rp J E I R f i n c j d l (λk m=>g k (by
  obtain e|e|e|e:=m
  .grind [ig]
  .grind [ig]
  .grind [ig]
  .exact .inr e))
theorem lC.rs(h:lC b w rp R S):@RS (oP b) w rp R:=by
 have⟨J,E,I,h,_⟩:=h;exact⟨J,E,I,h⟩
theorem RS.ad8(h:@RS (oP b) w rp R):∃S,lC b w rp R S:=by
 have⟨J,E,I,h⟩:=h;exact⟨_,J,E,I,h,rfl⟩
theorem lC.open_(h:lC b w rp R S):@RS (sO b λk=>k∈S\/w.heap.size<=k) w rp R:=by
 obtain⟨J,E,I,h,rfl⟩:=h;exact⟨J,E,I,abQ h λk a=>a⟩
theorem lC.back{n:Nat}(h:@RS (sO b λk=>k∈S\/n<=k) w' rp O):∃S',lC b w' rp O S'/\∀k∈S',k∈S\/n<=k:=by
 have⟨J,E,I,h⟩:=h;refine⟨_,⟨J,E,I,abQ h λ_ _=>trivial,rfl⟩,λk a=>?_⟩;obtain⟨_,_,_,_,_,_,_,c⟩:=h;have:=c k (by obtain e|e|e:=ig.1 a;exact .inl e;exact .inr<|.inl e;exact .inr<|.inr<|.inl e);exact this
theorem abR(h:@iE (sO b λk=>k∈S\/w.heap.size<=k) w w'):Fr S w w':=by
 obtain⟨c,d,i,a,f,_⟩:=h;refine⟨c,d,i,a,λk g hn=>f k g λr=>?_⟩;have⟨⟨_,r⟩,_⟩:=r;obtain e|e:=r
 .exact hn e
 .omega
theorem lC.cells(h:lC b w rp R S){k:Nat}(f:k∈S):b<=k/\∃c t,w.heap[k]?=some (.cells c t (0,0))/\(t=47\/t=92\/t=134):=by
 obtain⟨J,E,I,⟨i,j,m,a,d,g,l,_⟩,rfl⟩:=h;obtain rfl|e|⟨p,hp,e⟩:=ig.1 f
 .grind
 .obtain⟨c,hc⟩:=aF a e;exact⟨(a.lt k e).1,_,_,hc,.inr<|.inl rfl⟩
 .obtain⟨c,hc⟩:=aF (d p hp) e;exact⟨((d p hp).lt k e).1,_,_,hc,.inr<|.inr rfl⟩
theorem lC.lt(h:lC b w rp R S){k:Nat}(d:k∈S):k<w.heap.size:=by
 have⟨_,c,t,a,_⟩:=h.cells d;exact(zza.1 a).1
theorem lC.mem(h:lC b w rp R S):rp∈S:=by
 obtain⟨J,E,I,h,rfl⟩:=h;exact ig.2<|.inl rfl
theorem lC.v_{T:List Nat}(h:lC b w rp R S)(f:Fr T w w')(i:∀k∈S,k∉T)(l:∀k∈T,∀c t,w.heap[k]?=some (.cells c t (0,0))->t≠102):lC b w' rp R S:=by
 obtain⟨J,E,I,⟨e,a,n,j,m,d,g,_⟩,rfl⟩:=h;refine⟨J,E,I,@cX.mk (oP b) w' rp J E I R e ?_ ?_ ?_ ?_ d g λ_ _=>trivial,rfl⟩
 .exact(f.block rp (zza.1 a).1<|i rp<|ig.2<|.inl rfl).trans a
 .grind [av,aF]
 .grind [av,ig]
 .grind [av,ig]
theorem lC.kinds(h:lC b w rp R S):∀k∈S,∀c t,w.heap[k]?=some (.cells c t (0,0))->t≠102:=λk e c t d=>by
 have⟨_,c2,g,a,f⟩:=h.cells e;rw[d]at a;cases a;obtain rfl|rfl|rfl:=f<;>decide
theorem lC.apart{w:World}{q:Nat}{Q:aK}{T:List Nat}(h:lC b w q Q T)(hn:∀k∈S,w.heap.size<=k):∀k∈T,k∉S:=λk a m=>by
 have c:=h.lt a;have d:=hn k m;omega
end
def pS(b rp:Nat)(S:List Nat)(w w':World)(E:aK):Prop:=∃S',lC b w' rp E S'/\Fr S w w'/\∀k∈S',k∈S\/w.heap.size<=k
section
variable{b rp t:Nat}{w w':World}{R E:aK}{S:List Nat}{seq:Int}{k:ByteArray}
theorem Bp(h:@RS (sO b λk=>k∈S\/w.heap.size<=k) w' rp E)(d:@iE (sO b λk=>k∈S\/w.heap.size<=k) w w'):pS b rp S w w' E:=by
 have⟨S',c,a⟩:=lC.back h;exact⟨S',c,abR d,a⟩
theorem Kz(t:Nat)(h:lC b w rp R S)(hn:R.af.length<=1048576)(a:jg R.af):
  Calls prog 57 #[rM rp,.int .u64 (t:Int)] w λe w'=>e=.returned (.int .i64 ((R.abort t).2:Int))/\pS b rp S w w' (R.abort t).1:=by
 apply(@JV (sO b λk=>k∈S\/w.heap.size<=k) rp t R w h.open_ hn a).mono;rintro e w' ⟨he,h1,h2⟩;exact⟨he,Bp h1 h2⟩
theorem EM(t:Nat)(h:lC b w rp R S)(hn:R.af.length<=1048576)(a:jg R.af)(l:∀x∈R.af,x.ak.length<=1048576):
  Calls prog 52 #[rM rp,.int .u64 (t:Int)] w λe w'=>e=.returned (.tuple #[.int .i64 ((R.aO t).2.1:Int),.int .i64 ((R.aO t).2.2:Int)])/\pS b rp S w w' (R.aO t).1:=by
 apply(@Ek (sO b λk=>k∈S\/w.heap.size<=k) rp t R w h.open_ hn a l).mono;rintro e w' ⟨he,h1,h2⟩;exact⟨he,Bp h1 h2⟩
theorem OJ(h:lC b w rp R S)(hn:R.af.length<=1048576)(a:∀x∈R.af,x.jY<1048576):
  Calls prog 50 #[rM rp] w λe w'=>e=.returned (.tuple #[])/\pS b rp S w w' R.tick:=by
 apply(@N7 (sO b λk=>k∈S\/w.heap.size<=k) rp R w h.open_ hn a).mono;rintro e w' ⟨he,h1,h2⟩;exact⟨he,Bp h1 h2⟩
theorem Hg(t:Nat)(h:lC b w rp R S)(hn:R.af.length<=1048576)(a:jg R.af)(l:∀x∈R.af,x.ak.length<=1000)(u:R.table.length<=500000):
  Calls prog 55 #[rM rp,.int .u64 (t:Int)] w λe w'=>e=.returned (.int .i64 ((R.cR t).2:Int))/\pS b rp S w w' (R.cR t).1:=by
 apply(@GG (sO b λk=>k∈S\/w.heap.size<=k) rp t R w h.open_ hn a l u).mono;rintro e w' ⟨he,h1,h2,_⟩;exact⟨he,Bp h1 h2⟩
theorem SZ(v:ByteArray)(h:lC b w rp R S)(a:jg R.af)(hn:R.af.length<=12)(l:∀x∈R.af,x.ak.length<=4)(u:∀x∈R.af,x.ops<4611686018427387904)(z:iy (R.tx t).ak):
  Calls prog 82 #[rM rp,.int .u64 (t:Int),.int .i64 seq,.string k,.string v] w λe w'=>e=.returned (.int .i64 ((R.put t seq k v).2:Int))/\pS b rp S w w' (R.put t seq k v).1:=by
 letI:=sO b λk=>k∈S\/w.heap.size<=k
 apply(SW rp t seq k R w v h.open_ a hn l u z).mono;rintro e w' ⟨he,h1,h2⟩;exact⟨he,Bp h1 h2⟩
theorem Hh(h:lC b w rp R S)(a:jg R.af)(hn:R.af.length<=12)(l:∀x∈R.af,x.ak.length<=4)(u:∀x∈R.af,x.ops<4611686018427387904)(z:iy (R.tx t).ak):
  Calls prog 84 #[rM rp,.int .u64 (t:Int),.int .i64 seq,.string k] w λe w'=>e=.returned (.int .i64 ((R.delete t seq k).2:Int))/\pS b rp S w w' (R.delete t seq k).1:=by
 letI:=sO b λk=>k∈S\/w.heap.size<=k
 apply(Hd rp t seq k R w h.open_ a hn l u z).mono;rintro e w' ⟨he,h1,h2⟩;exact⟨he,Bp h1 h2⟩
theorem S3(h:lC b w rp R S)(a:jg R.af)(hn:R.af.length<=12)(l:∀x∈R.af,x.ak.length<=4)(c:∀x∈R.af,x.ops<4611686018427387904)(z:iy (R.tx t).ak)(u:R.table.length<=1048576):
  Calls prog 80 #[rM rp,.int .u64 (t:Int),.int .i64 seq,.string k] w λe w'=>e=.returned (.tuple #[.string (R.get t seq k).2.1,.bool (R.get t seq k).2.2.1,.int .i64 ((R.get t seq k).2.2.2:Int)])/\pS b rp S w w' (R.get t seq k).1:=by
 letI:=sO b λk=>k∈S\/w.heap.size<=k
 apply(SX rp t seq k R w h.open_ a hn l c z u).mono;rintro e w' ⟨he,h1,h2⟩;exact⟨he,Bp h1 h2⟩
def MB(b:Nat)(w:World)(e:Ending)(w':World)(E:aK):Prop:=∃p S',e=.returned (rM p)/\lC b w' p E S'/\Fr [] w w'/\∀k∈S',w.heap.size<=k
theorem Xm{e:Ending}{c:Nat}(a:e=.returned (rM c))(i:w.heap.size<=c)(h:@RSn (oP b) w w' c E)(f:Fr [] w w'):MB b w e w' E:=by
 have⟨v,x,s,d,g,l⟩:=h;refine⟨c,_,a,⟨v,x,s,d,rfl⟩,f,λk j=>?_⟩;obtain rfl|e|⟨p,hp,e⟩:=ig.1 j
 .exact i
 .exact g k e
 .exact l p hp k e
theorem ik(h:lC b w rp R S)(hn:R.af.length<=1048576)(l:∀x∈R.af,x.ak.length<=1000)(u:R.table.length<=1048576):
  Calls prog 15 #[rM rp] w λe w'=>MB b w e w' R:=by
 apply(@N9 (oP b) rp R w h.rs hn l u).mono;rintro e w' ⟨cp,h1,h2,h3,h4⟩;exact Xm h1 h2 h3 h4
theorem OK(h:lC b w rp R S)(hn:R.af.length<=1048576)(l:∀x∈R.af,x.ak.length<=1000)(u:R.table.length<=1048576):
  Calls prog 46 #[rM rp] w λe w'=>MB b w e w' R.rest:=by
 apply(@OI (oP b) rp R w h.rs hn l u).mono;rintro e w' ⟨cp,h1,h2,h3,h4⟩;exact Xm h1 h2 h3 h4
end
theorem xJ{xs:List Nat}(h:w.ownsRow base 34 1 v xs.length<|dh xs):∃o c,v=.slice o xs.length c/\(∀(i x:Nat),xs[i]?=some x->∃g,o=some (dH g)/\w.cell? (d8 g i)=some (.int .u64 (x:Int))):=by
 rcases h.2 with⟨e,a⟩|⟨g,p,r,e,rest⟩
 .grind
 .grind [fh,dh]
theorem Bo{T:oU}(h:w.ownsRow base 102 2 v T.length<|eA T):∃o c,v=.slice o T.length c/\(∀i p,T[i]?=some p->∃g,o=some (dH g)/\w.cell? (d8 g<|i*2)=some (.string p.1)/\w.cell? (d8 g<|i*2+1)=some (.string p.2)):=by
 rcases h.2 with⟨e,d⟩|⟨g,b,r,e,rest⟩
 .grind
 .refine⟨some ⟨g,0,none⟩,b,e,λi p hp=>⟨g,rfl,?_⟩⟩;have y:=λj a=>vH (f:=Gz) (k:=2) (λ_=>rfl) T i p hp j a
  exact⟨fh h e<|y 0 dN,fh h e<|y 1 dN⟩
theorem SP(c:Int)(n:Nat)(w:World)(om:-2^63<=c)(lI:c<=9223372036854775807)(hn:0<n)(D:n<=4398046511103):
  Calls prog 48 #[.int .i64 c,.int .i64 (n:Int)] w λe w'=>e=.returned (.int .i64 (pk c n:Int))/\w'=w:=by
 have R:¬(n:Int)=0:=oE;by_cases h:c<0
 .go_enter func48,ntmps48;go_wp2;go_ret;have e:-(c+1).tmod (n:Int)=(-(c+1))%(n:Int):=by
   rw[<-Int.neg_tmod,Int.tmod_eq_emod_of_nonneg oE]
  have a:=Int.emod_nonneg (-(c+1)) R;refine⟨GH ?_,rfl⟩;unfold pk;rw[e,if_pos h];omega
 .go_enter func48,ntmps48;go_wp2;go_ret;have a:=Int.emod_nonneg c R;refine⟨GH ?_,rfl⟩;unfold pk;rw[if_neg oE];omega
theorem RS.table [Inhabited Bs](h:RS w rp R):∃o c,w.cell? (dH rp)=some (.slice o R.table.length c)/\w.ownsRow B0 102 2 (.slice o R.table.length c) R.table.length (eA R.table)/\(∀i p,R.table[i]?=some p->∃g,o=some (dH g)/\w.cell? (d8 g<|i*2)=some (.string p.1)/\w.cell? (d8 g<|i*2+1)=some (.string p.2)):=by
 have⟨v,x,s,h⟩:=h;have a:=aa h.blk 0;simp at a;have⟨o,c,e,H⟩:=h.table;have t:=h.tab;rw[e]at a t;exact⟨o,c,a,t,H⟩
theorem RS.state [Inhabited Bs]{w:World}{rp t:Nat}{R:aK}(h:RS w rp R)(hn:R.af.length<=1048576):Calls prog 44 #[rM rp,.int .u64 (t:Int)] w λe w'=>e=.returned (.int .i64 (R.state t:Int))/\∃q,w'=w.drewN q:=by
 have⟨v,x,s,h⟩:=h;exact JR rp t v x s R w h<|by rw[h.len];omega
abbrev abM:ByteArray:=⟨#[97,32,107,101,121,32,97,98,111,118,101,32,105,116,115,32,98,111,117,110,100]⟩
theorem Gd.look(h:Gd c T s R)(v:aV s.aS)(k:ByteArray):aj s.aS k=aj R.table k:=by rw[h.rel.table,kT v]
theorem Gd.Zz(h:Gd c T s R)(v:aV s.aS){i:Nat}{q:ByteArray×ByteArray}(a:R.table[i]?=some q):aj s.aS q.1=some q.2:=by
 rw[h.look v];exact bS (by rw[h.rel.table];exact(mi v).once)<|zzh a
theorem Gd.far(h:Gd c T s R)(v:aV s.aS):aj s.aS abM=none:=by
 rw[h.look v,gO];intro q a e;have:=h.keys q a;rw[e]at this;exact absurd this dN
theorem Dm{xs s:List α}{x:α}(h:xs.take k=s.take k)(b:xs[k]?=some x)(a:s[k]?=some x):xs.take (k+1)=s.take (k+1):=by
 rw[List.take_add_one,List.take_add_one,h,b,a]
theorem Dn{xs s:List α}{x y:α}(a:xs[k]?=some x)(h:s[k]?=some y)(e:x≠y):¬xs=s:=by grind
theorem toList_eq{a:ByteArray}(h:a.toList=b.toList):a=b:=by grind[En]
theorem VT{s c t:ByteArray}(h:¬(s=b/\c=t))(w:World):(binOp .neq 102 (.agg #[.string s,.string c])<|.agg #[.string b,.string t]).run prog w=.ok (.bool true) w:=by
 by_cases a:s.toList=b.toList
 .by_cases d:c.toList=t.toList
  .exact absurd ⟨toList_eq a,toList_eq d⟩ h
  .simp[go_sem,binOp,Op.equal,Op.maxDepth,a,d]
 .simp[go_sem,binOp,Op.equal,Op.maxDepth,a]
theorem He(f g:Nat)(c v2:Value)(xs s:List Nat)(w:World)(d:w.ownsRow f 34 1 c xs.length<|dh xs)(b:w.ownsRow g 34 1 v2 s.length<|dh s)(hn:xs.length<=4398046511103)  :
  Calls prog 42 #[c,v2] w λe w'=>e=.returned (.bool<|decide<|xs=s)/\∃q,w'=w.drewN q:=by
 obtain⟨r,c1,rfl,a⟩:=xJ d;obtain⟨m,c2,rfl,H⟩:=xJ b;have G:=ae a;have j:=ae H;clear a H d b;have⟨n,D⟩:=xY xs.length;rw[<-D]at hn ⊢;have N:=ae D.symm;clear D;by_cases l:s.length=n
 .rw[l];have M:=ae l;clear l;go_enter func42,ntmps42;go_wp2;go_loopw [5] (λi wr=>∃k:Nat,k<=n/\i=.int .i64 k/\Hid (xs.take k=s.take k)/\∃q,wr=w.drewN q) (λi _=>n-(intOf i).toNat);case atStart=>exact⟨0,zzs _,rfl,by show _=_;simp,0,rfl⟩
  case round=>
   obtain⟨k,A,rfl,T,q,rfl⟩:=hrel;by_cases P:k<n
   .obtain⟨x,hx⟩:∃x,xs[k]?=some x:=⟨_,zzg<|by rw[N.out];exact P⟩;have⟨y,h⟩:∃y,s[k]?=some y:=⟨_,zzg<|by rw[M.out];exact P⟩;obtain⟨C,rfl,u⟩:=G.out k x hx;obtain⟨t,rfl,B⟩:=j.out k y h;have o:(0:Int)<=k:=oE
    have p:(k:Int)<n:=oE;by_cases v:x=y
    .subst v;have R:=ae<|Dm T.out hx h;clear hx h;go_wp2
     go_quiet (fail)
     go_wp2;go_roundw;case rel=>exact⟨k+1,oE,nF,R,_,rfl⟩
     case measure=>simp[intOf];omega
    .have HD:=ae<|Dn hx h v;have z:¬(x:Int)=y:=oE
     clear hx h;go_wp2;go_quiet (fail)
     go_wp2;go_ret;exact⟨by rw[decide_eq_false HD.out];rfl,q+nq,by unfold World.drewN;simp[Nat.add_assoc]⟩
   .go_wp2;go_ret;have e:xs=s:=by
     have:=T.out;rwa [zzt<|by rw[N.out];omega,zzt<|by rw[M.out];omega]at this
    exact⟨by rw[decide_eq_true e];rfl,q,rfl⟩
 .have HD:Hid (¬xs=s):=λe=>l<|by rw[<-e];exact N.out
  have z:¬(n:Int)=(s.length:Int):=oE;go_enter func42,ntmps42;go_wp2;go_ret;exact⟨by rw[decide_eq_false HD.out];rfl,0,rfl⟩
theorem Cl(g m:Nat)(c v2:Value)(S T:oU)(w:World)(f:w.ownsRow g 102 2 c S.length<|eA S)(b:w.ownsRow m 102 2 v2 T.length<|eA T)(hn:S.length<=4398046511103)  :
  Calls prog 41 #[c,v2] w λe w'=>e=.returned (.bool<|decide<|S=T)/\∃q,w'=w.drewN q:=by
 obtain⟨E,c1,rfl,a⟩:=Bo f;obtain⟨z,c2,rfl,H⟩:=Bo b;have G:=ae a;have s:=ae H;clear a H f b;have⟨n,D⟩:=xY S.length;rw[<-D]at hn ⊢;have N:=ae D.symm;clear D;by_cases l:T.length=n
 .rw[l];have M:=ae l;clear l;go_enter func41,ntmps41;go_wp2;go_loopw [5] (λi wr=>∃k:Nat,k<=n/\i=.int .i64 k/\Hid (S.take k=T.take k)/\∃q,wr=w.drewN q) (λi _=>n-(intOf i).toNat);case atStart=>exact⟨0,zzs _,rfl,by show _=_;simp,0,rfl⟩
  case round=>
   obtain⟨k,J,rfl,d,q,rfl⟩:=hrel;by_cases P:k<n
   .obtain⟨⟨s1,s2⟩,hx⟩:∃x,S[k]?=some x:=⟨_,zzg<|by rw[N.out];exact P⟩;have⟨⟨o,t⟩,h⟩:∃y,T[k]?=some y:=⟨_,zzg<|by rw[M.out];exact P⟩;obtain⟨K,rfl,p,j⟩:=G.out k _ hx;obtain⟨I,rfl,r,u⟩:=s.out k _ h;have A:(0:Int)<=k:=oE
    have B:(k:Int)<n:=oE;simp only[]at p j r u;by_cases v:s1=o/\s2=t
    .obtain⟨rfl,rfl⟩:=v;have R:=ae<|Dm d.out hx h;clear hx h;go_wp2
     go_quiet (fail)
     go_wp2;go_roundw;case rel=>exact⟨k+1,oE,nF,R,_,rfl⟩
     case measure=>simp[intOf];omega
    .have HD:Hid (¬S=T):=Dn hx h (λe=>v<|by cases e;exact⟨rfl,rfl⟩);have C:=VT v;clear hx h;go_wp2;go_quiet (fail)
     go_wp2;go_ret;exact⟨by rw[decide_eq_false HD.out];rfl,q+nq,by unfold World.drewN;simp[Nat.add_assoc]⟩
   .go_wp2;go_ret;have e:S=T:=by
     have:=d.out;rwa [zzt<|by rw[N.out];omega,zzt<|by rw[M.out];omega]at this
    exact⟨by rw[decide_eq_true e];rfl,q,rfl⟩
 .have HD:Hid (¬S=T):=λe=>l<|by rw[<-e];exact N.out
  have F:¬(n:Int)=(T.length:Int):=oE;go_enter func41,ntmps41;go_wp2;go_ret;exact⟨by rw[decide_eq_false HD.out];rfl,0,rfl⟩
structure KL [Inhabited Bs](w:World)(hp p sp gp bV bT bH lp bD bN m n:Nat)(s:ag)(l:aq)(d:ah)(kp mp:Nat)(Q:aK):Prop where
 host:kz w B0 hp p sp gp bV bT bH lp bD bN m n s l d
 kb:∃c t,w.heap[kp]?=some (.cells c t (0,0))/\c[0]?=some (rM hp)
 ref:RS w mp Q
section
variable [Inhabited Bs]{w w':World}{hp p sp gp bV bT bH lp bD bN m n kp mp:Nat}{s:ag}{l:aq}{d:ah}{Q:aK}
theorem KL.new(h:KL w hp p sp gp bV bT bH lp bD bN m n s l d kp mp Q)(f:Fr [] w w'):KL w' hp p sp gp bV bT bH lp bD bN m n s l d kp mp Q:=by
 have⟨e,⟨c,t,a,g⟩,b⟩:=h;exact⟨(e.new f).1,⟨c,t,(f.block kp (zza.1 a).1 sE).trans a,g⟩,b.fr f⟩
theorem KL.cell(h:KL w hp p sp gp bV bT bH lp bD bN m n s l d kp mp Q):w.cell? (dH kp)=some (rM hp):=by
 have⟨c,t,b,a⟩:=h.kb;exact(aP b 0).trans a
end
section
variable [Inhabited Bs](hp p sp gp bV bT bH lp bD bN m n kp mp c T:Nat)(s:ag)(l:aq)(d:ah)(R Q:aK)(w:World)
theorem SY(h:KL w hp p sp gp bV bT bH lp bD bN m n s l d kp mp Q)(z:Gd c T s R)(hc:c<=100000)(hm:m<=1000000000)(a':Q.af.length<=12)(b:R.table=Q.table->R.waiting=Q.waiting->∀t,R.state t=Q.state t):
  Calls prog 16 #[rM kp,rM mp] w λe w'=>e=.returned (.bool<|decide<|R.table=Q.table/\R.waiting=Q.waiting)/\Fr [] w w':=by
 have hv:aV s.aS:=by have⟨_,_,_,f,_⟩:=h.host.2.1.sh.aS;exact f
 have k0:=h.cell;have O:=St B0 hp p sp gp bV bT bH lp bD bN m n s l d w h.host hm;rw[<-z.rel.table]at O;have H:=ae<|zzb h<|zzb z hv;have a8:=ae b;have hT:R.table.length<=400000:=by have:=z.table;omega
 have⟨a,BD⟩:=xY R.table.length;have A:=ae BD.symm;rw[<-BD]at O hT;clear h z hv BD b;go_enter func16,ntmps16;go_wp2_with fail;apply O.mono;rintro e w1 ⟨v,rfl,kn,bF⟩;obtain⟨po,pc,rfl⟩:=bZ kn;have J:=H.1.new bF;have k1:=J.cell;have a6:=Kn B0 hp p sp gp bV bT bH lp bD bN m n s l d w1 J.host H.2.1.len;have L:=ae<|zzb J<|zzb kn bF;clear O kn bF J k0;go_wp2_with fail;apply a6.mono;rintro e w2 ⟨v2,ss,rfl,h1,P,f,h4,cA⟩;rw[H.2.1.rel.waiting h1 P]at f h4;obtain⟨X,wc,rfl⟩:=bZ f;have K2:=L.1.new cA;have Zo:=Em mp Q w2 K2.ref oE;have u:=ae (zzb K2<|zzb (av L.2.1 cA sE)<|zzb f<|L.2.2.trans cA);have H4:=ae h4;clear a6 h1 P f h4 cA K2 k1 L;go_wp2_with fail;apply Zo.mono;rintro e x ⟨v3,rfl,h5,dD⟩;have S:=u.1.new dD;have⟨ao,tc,t0,y,r⟩:=S.ref.table;have⟨N,M⟩:=xY Q.table.length;have a7:=ae M.symm;rw[<-M]at t0 y;clear M;have uK:=Cl w.heap.size B0 (.slice po a pc) (.slice ao N tc) R.table Q.table x (by rw[A.out];exact av u.2.1 dD sE) (by rw[a7.out];exact y) (by rw[A.out];omega);have B:=ae (zzb S<|zzb (av u.2.2.1 dD sE)<|zzb h5<|u.2.2.2.trans dD);clear Zo h5 dD S y r u;go_wp2_with fail;apply uK.mono;rintro e w4 ⟨rfl,q4,rfl⟩
 have yS:R.waiting.length<=12:=by
  have h1:=H.2.1.rel.len;have P:R.waiting.length<=R.af.length:=by unfold aK.waiting;rw[zzn];exact List.length_filter_le _ _
  omega
 have a1:=He w1.heap.size w2.heap.size (.slice X R.waiting.length wc) v3 R.waiting Q.waiting (x.drewN q4) (av B.2.1 ((lE x).aR q4) sE) (av B.2.2.1 ((lE x).aR q4) sE) oE;have⟨o,U⟩:=xY R.waiting.length;have HW:Hid (o=0->X=none):=λI=>by
  have h9:=H4.2 (List.eq_nil_of_length_eq_zero<|by rw[<-U];exact I);simp only[Value.slice.injEq]at h9;exact h9.1
 rw[<-U]at a1 yS ⊢;clear uK t0 U H4;go_wp2_with fail;apply a1.mono;rintro e w5 ⟨rfl,q5,rfl⟩;have D:=ae<|(B.2.2.2.aR q4).aR q5;generalize (x.drewN q4).drewN q5=W at D ⊢;clear a1 B;by_cases V:R.table=Q.table/\R.waiting=Q.waiting
 rotate_left
 .have Pf:=decide_eq_false V;by_cases Z:R.table=Q.table
  .have cU:decide (R.waiting=Q.waiting)=false:=decide_eq_false λe=>V ⟨Z,e⟩;rw[cU,decide_eq_true Z];go_wp2;go_ret;exact⟨by rw[Pf];rfl,D.out⟩
  .have cU:=decide_eq_false Z;rw[cU];go_wp2;go_ret;exact⟨by rw[Pf];rfl,D.out⟩
 rw[decide_eq_true V.1,decide_eq_true V.2];have E:=ae V;clear V;have ZB:Q.af.length<=1048576:=oE;have mQ:(o=0/\X=none)\/¬((o:Int)=0):=by
  by_cases I:o=0
  .exact .inl ⟨I,HW.out I⟩
  .exact .inr oE
 clear HW;rcases mQ with⟨rfl,rfl⟩|zn
 all_goals go_wp2
 all_goals
  go_loopw [11] (λt wr=>∃k:Nat,k<=16/\t=.int .u64 k/\Hid (Fr [] w wr)) (λt _=>16-(intOf t).toNat);case atStart=>exact⟨0,oE,rfl,D⟩
  case round=>
   obtain⟨k,hk,rfl,hf⟩:=hrel;have K:=H.1.new hf.out;have k0:=K.cell;by_cases bP:k<16
   .have i0:(k:Int)<16:=oE;have b:=Ss B0 hp p sp gp bV bT bH lp bD bN m n k s l d wr K.host oE;rw[H.2.1.rel.state,a8.out E.1 E.2]at b;have sW:=K.ref.state (t:=k) ZB;clear K;go_wp2_with fail;apply b.mono;rintro e w6 ⟨rfl,rfl⟩;clear b;go_wp2_with fail;apply sW.mono;rintro e w7 ⟨rfl,q,rfl⟩;clear sW;have F:=ae<|hf.out.aR q;go_wp2
    go_roundw;case rel=>exact⟨k+1,oE,nF,F⟩
    case measure=>simp[intOf];omega
   .have VU:k=16:=oE;subst VU;clear K;go_wp2;go_loopw [14] (λi w8=>∃j:Nat,j<=a/\i=.int .i64 j/\Hid (Fr [] w w8)) (λi _=>a-(intOf i).toNat);case atStart=>exact⟨0,zzs _,rfl,hf⟩
    case round=>
     obtain⟨j,hj,rfl,C⟩:=hrel;have K:=H.1.new C.out;have k8:=K.cell;have⟨ad,ab,t8,y,r⟩:=K.ref.table;rw[<-E.1,A.out]at t8;by_cases tJ:j<a
     .obtain⟨q,hq⟩:∃q,R.table[j]?=some q:=⟨_,zzg<|by rw[A.out];exact tJ⟩;obtain⟨g,rfl,x0,x1⟩:=r j q (by rw[<-E.1];exact hq);have UH:=H.2.1.keys q<|zzh hq;have G:=λY=>G8 B0 hp p sp gp bV bT bH lp bD bN m n q.1 s l d _ (H.1.new<|C.out.aR Y).host mE
      rw[H.2.1.Zz H.2.2 hq]at G;simp only[Option.getD_some,Option.isSome_some]at G;have j0:(0:Int)<=j:=oE;have j1:(j:Int)<a:=oE;have⟨q1,q2⟩:=q;simp only[]at x0 x1 G;clear K y r hq UH;go_wp2;go_quiet (first|(go_at_call 45;refine Calls.quiet_of<|G _))
      have F:=ae<|C.out.aR nq;clear G;go_wp2
      go_roundw;case rel=>exact⟨j+1,oE,nF,F⟩
      case measure=>simp[intOf];omega
     .have G:=G8 B0 hp p sp gp bV bT bH lp bD bN m n abM s l d _ K.host (by unfold maxLen;decide);rw[H.2.1.far H.2.2]at G;simp only[Option.getD_none,Option.isSome_none]at G;clear K y r;go_wp2_with fail;apply G.mono;rintro e w9 ⟨rfl,Y,rfl⟩;clear G;have F:=ae<|C.out.aR Y;go_wp2;go_ret;exact⟨by rw[decide_eq_true E.out];rfl,F.out⟩
end
end Go.Proofs.YtdcafjmdfpjcbaaGreatDoor
