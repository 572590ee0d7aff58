import Derived.Test.YtdcafjmdfpjcbaaGreatDoorC18
set_option maxHeartbeats 8000000
set_option maxRecDepth 100000
namespace Go.Proofs.YtdcafjmdfpjcbaaGreatDoor
open Go.RowKit Go.Maps Tryz Sc
theorem zd{x:Int}{r:Nat}(h:x=(r:Int)):(Ending.returned<|.int .i64 x)=.returned (.int .i64 (r:Int)):=by rw[h]
theorem CR(c:Int)(n:Nat)(w:World)(om:-2^63<=c)(lI:c<=9223372036854775807)(hn:0<n)(D:n<=4398046511103):
  Calls prog 102 #[.int .i64 c,.int .i64 n] w λe w'=>∃r:Nat,r<n/\e=.returned (.int .i64 r)/\w'=w:=by
 have R:¬(n:Int)=0:=oE;by_cases h:c<0
 .go_enter func102,ntmps102;go_wp2;go_ret;have e:-(c+1).tmod (n:Int)=(-(c+1))%(n:Int):=by
   rw[<-Int.neg_tmod,Int.tmod_eq_emod_of_nonneg oE]
  have a:=Int.emod_nonneg (-(c+1)) R;have b:=Int.emod_lt_of_pos (-(c+1)) (show(0:Int)<n by omega);refine⟨((-(c+1))%(n:Int)).toNat,oE,zd ?_,rfl⟩;rw[e];omega
 .go_enter func102,ntmps102;go_wp2;go_ret;have a:=Int.emod_nonneg c R;have b:=Int.emod_lt_of_pos c (show(0:Int)<n by omega);exact⟨(c%(n:Int)).toNat,oE,zd oE,rfl⟩
/-! ### the map of what is cut off -/
def pj(v:Value):Option (DataW Unit × List MemPlace) :=
 match v with
 |.int k n=>some (.lit (.int k n),[])
 |_=>none
theorem yq{v:Value}{k:IntKind}{n:Int}{s:List MemPlace}(h:pj v=some (.lit<|.int k n,s)):v=.int k n:=by
 unfold pj at h;split at h
 .grind
 .cases h
theorem U_(w:World):(zeroValue 3).run prog w=.ok (.int .i64 0) w:=k6
def fw(w:World)(b n:Nat)(c:jK):Prop :=
 ∃D:DataW Unit,w.ownsMap prog 9 pj b n D/\∀k:ByteArray,
  (c k=false->Maps.has D (gK k)=false)/\(c k=true->Maps.has D (gK k)=true/\∀z,D.atKey (gK k) z=.lit (.int .i64 1))
theorem fw.lt{w:World}{b n:Nat}{c:jK}(h:fw w b n c):b<w.heap.size:=by
 have⟨D,h,_⟩:=h;exact h.lt
theorem fw.isMap{w:World}{b n:Nat}{m:jK}(h:fw w b n m):∃es c,w.heap[b]?=some (.map es c):=by
 have⟨D,⟨es,c,h,_⟩,_⟩:=h;exact⟨es,c,h⟩
theorem fw.mono{w:World}{b n n':Nat}{m:jK}(h:fw w b n m)(hn:n<=n'):fw w b n' m:=by
 have⟨D,h,a⟩:=h;exact⟨D,h.mono hn,a⟩
theorem fw.blk{w w':World}{b n:Nat}{m:jK}(h:fw w b n m)(e:w'.heap[b]?=w.heap[b]?):fw w' b n m:=by
 have⟨D,⟨es,c,d,f,i,a⟩,g⟩:=h;exact⟨D,⟨es,c,e.trans d,f,i,a⟩,g⟩
theorem fw.made(w:World):fw (w.alloc<|.map #[] 0) w.heap.size 0 (λ_=>false):=
 ⟨.map [],World.ownsMap_made _ _ _ _,λk=>⟨λ_=>rfl,λh=>by cases h⟩⟩
theorem fw.look{w:World}{b n:Nat}{c:jK}(h:fw w b n c)(k:ByteArray)(i:k.size<=maxLen):
  (Instr.lookup 160 (.map<|some b) (.string k) false).run prog w=.ok (.int .i64<|if c k=true then 1 else 0) w:=by
 have⟨D,e,f⟩:=h;have⟨v,s,r,a⟩:=e.lookup uP underlying160 (U_ w) (show pj (.int .i64 0)=some (.lit<|.int .i64 0,[])from rfl)<|Go.WideMaps.keyOf_string_mk underlying9 i
 cases g:c k with
 |false=>
  have d:=(f k).1 g;have Q:=d;rw[Maps.atKey_of_not_has Q]at a;obtain rfl:=yq a;simpa using r
 |true=>grind[yq]
theorem fw.put{w w':World}{b n:Nat}{m:jK}{D:DataW Unit}(d:∀k:ByteArray,(m k=false->Maps.has D (gK k)=false)/\(m k=true->Maps.has D (gK k)=true/\∀z,D.atKey (gK k) z=.lit (.int .i64 1)))
  (j:w.ownsMap prog 9 pj b n D) (k:ByteArray)
  (o:w'.ownsMap prog 9 pj b (n+1)<|D.put (gK k)<|.lit<|.int .i64 1):fw w' b (n+1) (m.set k):=by
 have i:=j.isMap;have B:WideAt.IsKeyLit (gK k):=trivial;refine⟨_,o,λx=>?_⟩;by_cases c:x=k
 .subst c;have e:m.set x x=true:=by simp[jK.set]
  rw[e];exact⟨λh=>(by cases h),λ_=>⟨Maps.has_put_same i B _,λz=>Maps.atKey_put_same i B _ z⟩⟩
 .have e:m.set k x=m x:=by simp[jK.set,c]
  rw[e];have a:gK x≠gK k:=λe=>c<|qm e
  refine⟨λh=>by rw[Maps.has_put_other a];exact(d x).1 h,λh=>?_⟩;have⟨f,g⟩:=(d x).2 h;exact⟨by rw[Maps.has_put_other a];exact f,λz=>by rw[Maps.atKey_put_other a];exact g z⟩
theorem qO{w:World}{ops:Array Oper}{rest:List Oper}{o:Oper}{a:Act}{Q:Exit->Act->World->Prop}(g:o.guard=none)(m x v:Operand)(B:o.op=Op.mapUpdate 160 m x v)
  (b n:Nat) (F:jK) (e:a.eval m=.map (some b)) (i:fw w b n F) (hn:n<maxLen) (k:ByteArray) (p:k.size<=maxLen) (d:a.eval x=.string k) (c:a.eval v=.int .i64 1)
  (K:∀w',fw w' b (n+1) (F.set k)->w.grownBy w' (some b)->wpList prog ops Q rest (a.put o.dst undef) w'):wpList prog ops Q (o::rest) a w:=by
 have⟨D,h,f⟩:=i;apply wpList_mapUpdate_own w g m x v _ B 9 3 uP underlying160 pj b n D e h hn _ _ (gK k) d c (Go.WideMaps.keyOf_string_mk underlying9 p) _ [] rfl;intro w' l j;exact K w' (fw.put f h k l) j
theorem vA(b a:Nat->Bool)(torn q c:Nat):∀(os:List iD) (i:Nat) (s:jK×az),(∀j,i<=j->j<i+os.length->b j=a j)->(i<=torn->torn<i+os.length->q=c)->gW b torn q i os s=gW a torn c i os s
 |[],_,_,_,_=>rfl
 |o::os,i,s,h1,h2=>by
  show gW b torn q (i+1) os (bM (b i) (decide<|i=torn) q o s)=gW a torn c (i+1) os (bM (a i) (decide<|i=torn) c o s);have d:b i=a i:=h1 i (zzc _) sE;have e:bM (b i) (decide<|i=torn) q o s=bM (a i) (decide<|i=torn) c o s:=by
   rw[d];by_cases t:i=torn
   .rw[h2 oE sC]
   .have hd:=decide_eq_false t;rw[hd];unfold bM;simp
  rw[e];exact vA b a torn q c os (i+1) _ (λj h l=>h1 j oE sC) λh l=>h2 oE sC
def TH(torn:Nat)(F:az)(ops:List iD)(s:jK × az):Prop:=∃b q,s=gW b torn q 0 ops (λ_=>false,F)
theorem TH.first(torn:Nat)(F:az):TH torn F [] (λ_=>false,F):=⟨λ_=>false,0,rfl⟩
theorem TH.step{torn:Nat}{F:az}{ops:List iD}{s:jK×az}(h:TH torn F ops s)(c:Bool)(a:Nat)(o:iD):TH torn F (ops++[o]) (bM c (decide<|ops.length=torn) a o s):=by
 obtain⟨b,q,rfl⟩:=h;refine⟨λj=>if j=ops.length then c else b j,if torn=ops.length then a else q,?_⟩;rw[qN];have e:=vA b (λj=>if j=ops.length then c else b j) torn q (if torn=ops.length then a else q) ops 0 (λ_=>false,F) (λj _ d=>by rw[if_neg oE]) (λ_ d=>by rw[if_neg oE]);rw[<-e];simp only[Nat.zero_add,if_true];by_cases t:ops.length=torn
 .grind
 .grind [bM]
theorem TH.left{torn:Nat}{F:az}{ops:List iD}{s:jK×az}(h:TH torn F ops s):Left F ops s.2:=by
 obtain⟨b,q,rfl⟩:=h;exact⟨b,torn,q,rfl⟩
theorem Ok.cut{o:iD}{c:Nat}(h:o.Ok c)(q:Nat):iD.Ok {o with data:=o.data.extract 0 q} c:=
 ⟨h.kind,h.name,h.to,by have:=h.data;simp[ByteArray.size_extract];omega⟩
theorem pn{b t:Bool}{q c d:Nat}{o:iD}{s:jK×az}(h:s.2.Le d)(e:o.Ok c):(bM b t q o s).2.Le (d+c):=by
 have m:s.2.Le (d+c):=λk t a=>zzk (h k t a)<|Nat.le_add_right _ _
 unfold bM;split
 .exact m
 .grind [yV,Ok.cut]
theorem LY{p:Prop}(h:p):Hid p:=h
structure YM(w1 wr:World)(bD bc nD torn:Nat)(d:ah)(i:Nat)(s:jK × az):Prop where
 YN:TH torn d.ai (d.pending.take i) s
 j8:FileMap wr bD (nD+i) s.2
 cut:fw wr bc i s.1
 fr:Fr [bD,bc] w1 wr
 le:s.2.Le ((nD+i)*4096)
theorem CS(B p D bN n l nN:Nat)(pv:Value)(d:ah)(kept part:Int)(w:World)(h:aB w B p D bN pv d n l nN)(pT:-2^63<=part)(Ia:part<=9223372036854775807):
  Calls prog 65 #[rM p,.int .i64 kept,.int .i64 part] w λe w'=>e=.returned (.tuple #[])/\∃F' ng qt,Left d.ai d.pending F'/\aB w' B p D ng (.slice none 0 0) ⟨F',F',[],-1,-1,false⟩ n qt qt/\w.heap.size<=ng/\Fr [p,D] w w':=by
 have bq:=@run_makeMap prog;have hn:=h.hn;have iu:=h.base;have hD:=h.hD;have⟨len,hlen⟩:=xY d.pending.length;obtain⟨pa,pc,rfl⟩:∃a c,pv=.slice a len c:=by
  have:=h.pen;rw[<-hlen]at this;rcases this.2 with⟨e,h0⟩|⟨g,ba,bb,e,_⟩
  .rw[h0];exact⟨_,_,e⟩
  .exact⟨_,_,e⟩
 have wy:p<w.heap.size:=(zza.1 h.blk).1;have bu:=h.j8.lt;have c2:=aa h.blk 2;simp at c2;have bl:∀(ty:TypeId) (W:World),(Builtin.len_ #[56] ty #[.slice pa len pc]).run prog W=.ok (.int .i64 len) W:=λty W=>by simp[go_sem]
 have⟨W,P⟩:=xY <|w.alloc (.map #[] 0);have o7:Fr [] w W:=by rw[P];exact(lE w).alloc _
 have a':=h.new o7;have b2:=aa a'.blk 2;simp at b2;have H:Hid (aB W B p D bN (.slice pa len pc) d n l nN/\Fr [] w W/\fw W w.heap.size 0 (λ_=>false)/\len=d.pending.length/\W.heap.size=w.heap.size+1):=⟨a',o7,by rw[P];exact fw.made w,hlen,by rw[P];simp⟩;have jl:IntKind.i64.wrap ((len:Int)+1)=((len+1:Nat):Int):=iS
 have bf:len<=n:=oE;clear o7 a' hlen;go_enter func65,ntmps65;go_wp2_with fail;apply(CR part (len+1) w pT Ia oE oE).mono;rintro e u ⟨torn,htn,rfl,rfl⟩;go_wp2;rw[<-P];clear P;go_loopw [24] (λi wr=>∃k:Nat,k<=len/\i=.int .i64 k/\∃s,Hid<|YM W wr D u.heap.size l torn d k s) (λi _=>len-(intOf i).toNat);case atStart=>exact⟨0,zzs _,rfl,_,⟨TH.first torn d.ai,H.1.j8,H.2.2.1,Fr.refl _ _,H.1.MN⟩⟩
 case round=>
  obtain⟨k,hk,rfl,s,R⟩:=hrel;by_cases bP:k<len
  .have mB:k<d.pending.length:=by rw[<-H.2.2.2.1];exact bP
   have⟨o,ho⟩:∃o,d.pending[k]?=some o:=⟨_,zzg mB⟩;have dz:o.Ok 4096:=H.1.ops o<|zzh ho;have Z:=H.1.pen;rw[<-H.2.2.2.1]at Z;have⟨g,ba,TA⟩:=dI Z oE;simp only[Value.slice.injEq,true_and]at TA;obtain⟨rfl,rfl⟩:=TA;have b1:=R.out.cut.lt;have an:W.heap.size<=wr.heap.size:=R.out.fr.size;have V:p≠D/\p≠u.heap.size:=⟨λe=>H.1.j8.cL H.1.blk e.symm,oE⟩
   have ay:g≠D/\g≠u.heap.size:=by
    have⟨c,hc⟩:=aF Z rfl;refine⟨λe=>H.1.j8.cL hc e.symm,λe=>?_⟩;have⟨es,c',z⟩:=H.2.2.1.isMap;rw[<-e,hc]at z;cases z
   have aC:wr.ownsRow B 162 4 (.slice (some (dH g)) len pc) len (opsV d.pending):=av Z R.out.fr (λq T=>by
    simp[Value.ownBlock]at T;subst T;simp;exact ay)
   have⟨c0,c1,ao,c3⟩:=zA aC k o ho;have U:=(R.out.fr.block p (zzl wy H.2.1.size)<|by simp;exact V).trans H.1.blk;have p0:=aa U 0;simp at p0;have Z3:p<wr.heap.size:=zzF wr (dH p) p0;have O:Hid (o.Ok 4096/\d.pending[k]?=some o/\(d.pending.take k).length=k):=⟨dz,ho,by rw[zzm];omega⟩;have S:Hid (d.pending.take (k+1)=d.pending.take k++[o]):=by show _=_;rw[List.take_add_one,ho];rfl
   have bp:l+k<n:=oE;have Lb:Hid (s.2.Le 4200000000000):=λx t y=>by
    have z:=R.out.le x t y;have h6:(l+k)*4096<=n*4096:=Nat.mul_le_mul_right _ oE;omega
   clear dz ho aC Z ay V;have i0:(0:Int)<=k:=oE;have i1:(k:Int)<len:=oE;have⟨kd,nm,tt,f⟩:=o;simp only at c0 c1 ao c3;go_upto_region 5 with fail;go_cut [34]from 25 to 79 (λaI F=>(∃c:Bool,aI=.bool c)/\F=wr.alloc (.cells #[.int .i64 (kd:Int),.string nm,.string tt,.string f] 162));case first=>
    go_wp2;go_meet;exact⟨⟨_,rfl⟩,rfl⟩
   case rest=>
    obtain⟨⟨c,rfl⟩,a6⟩:=hcut;have⟨A,FV⟩:=xY wr.heap.size;have I:wc.heap[A]?=some (.cells #[.int .i64 (kd:Int),.string nm,.string tt,.string f] 162 (0,0)):=by rw[a6,FV];exact heap_alloc_new wr _
    have Hw:wc.heap.size=wr.heap.size+1:=by rw[a6];simp
    have Ut:Fr [] wr wc:=by rw[a6];exact(lE wr).alloc _
    have al:wc.cell? (dH p)=some (.map<|some D):=(zze<|Ut.block p Z3 sE).trans p0;have C:Hid (YM W wc D u.heap.size l torn d k s):=⟨R.out.YN,R.out.j8.fr Ut sE sE,R.out.cut.blk<|Ut.block _ b1 sE,R.out.fr.trans<|Ut.mono sE,R.out.le⟩;have q0:=aa I 0;have q1:=aa I 1;have q2:=aa I 2;have q3:=aa I 3;have r3:=au I 3;simp at q0 q1 q2 q3;have J:=ae<|zzb FV<|zzb I Hw;have YO:u.heap.size<wc.heap.size:=oE
    have WS:A≠u.heap.size:=oE;have bc:=R.out.j8.lt;have b0:A≠D:=oE;rw[<-FV];clear a6 R I Hw Ut p0 c0 c1 ao c3 FV;cases c with
    |true=>
     by_cases gT:kd=2
     .subst gT;go_wp2_with (first|(at_mapUpdate;apply qO rfl _ _ _ rfl u.heap.size k s.1 rfl C.out.cut mE nm O.1.name rfl rfl;intro w2 lI Y)|fail);have m:YM W w2 D u.heap.size l torn d (k+1) (bM false (decide<|(d.pending.take k).length=torn) 0 ⟨2,nm,tt,f⟩ s):=by
       refine⟨by rw[S.out];exact C.out.YN.step false 0 _,?_,?_,C.out.fr.trans<|(Fr.bK Y).mono<|by intro j _ v;simp at v;simp[v],?_⟩
       .unfold bM;simp only[if_true];refine(C.out.j8.fr (Fr.bK Y) sC ?_).mono oE;intro q T t y;simp at T;subst T;have⟨es,c',z⟩:=C.out.cut.isMap;rw[z]at y;cases y
       .unfold bM;simp only[if_true];exact lI
       .have:=pn (b:=false) (t:=decide<|(d.pending.take k).length=torn) (q:=0) C.out.le O.1;rw[show(l+(k+1))*4096=(l+k)*4096+4096 by omega];exact this
      have X:=ae m;clear m lI Y;go_roundw;case rel=>exact⟨k+1,oE,sE,_,X.out⟩
      case measure=>simp[intOf];omega
     .have k2:¬(kd:Int)=2:=oE;have m:YM W wc D u.heap.size l torn d (k+1) (bM false (decide<|(d.pending.take k).length=torn) 0 ⟨kd,nm,tt,f⟩ s):=by
       have es:bM false (decide<|(d.pending.take k).length=torn) 0 ⟨kd,nm,tt,f⟩ s=s:=by unfold bM;simp only[if_true];rw[if_neg gT]
       have E:=C.out.YN.step false 0 ⟨kd,nm,tt,f⟩;rw[es]at E ⊢;exact⟨by rw[S.out];exact E,C.out.j8.mono oE,C.out.cut.mono oE,C.out.fr,λx t y=>zzk (C.out.le x t y)<|Nat.mul_le_mul_right _ oE⟩
      have X:=ae m;clear m;go_wp2;go_roundw;case rel=>exact⟨k+1,oE,sE,_,X.out⟩
      case measure=>simp[intOf];omega
    |false=>
     have ic:=C.out.cut.look nm O.1.name;by_cases N:kd=2/\s.1 nm=true
     .obtain⟨rfl,om⟩:=N;rw[if_pos om]at ic;have m:YM W wc D u.heap.size l torn d (k+1) (bM true (decide<|(d.pending.take k).length=torn) 0 ⟨2,nm,tt,f⟩ s):=by
       have es:bM true (decide<|(d.pending.take k).length=torn) 0 ⟨2,nm,tt,f⟩ s=s:=by unfold bM;rw[if_neg sE,if_pos ⟨rfl,om⟩]
       have E:=C.out.YN.step true 0 ⟨2,nm,tt,f⟩;rw[es]at E ⊢;exact⟨by rw[S.out];exact E,C.out.j8.mono oE,C.out.cut.mono oE,C.out.fr,λx t y=>zzk (C.out.le x t y)<|Nat.mul_le_mul_right _ oE⟩
      have X:=ae m;clear m;go_wp2;go_roundw;case rel=>exact⟨k+1,oE,sE,_,X.out⟩
      case measure=>simp[intOf];omega
     .go_upto_region 8 with fail;go_cut [50]from 25 to 79 (λb7 F=>b7=.bool false/\F=wc);case first=>
       by_cases gT:kd=2
       .subst gT;have om:¬s.1 nm=true:=λe=>N ⟨rfl,e⟩
        rw[if_neg om]at ic;go_wp2;go_meet;exact⟨rfl,rfl⟩
       .have k2:¬(kd:Int)=2:=oE;go_wp2;go_meet;exact⟨rfl,rfl⟩
      case rest=>
       obtain⟨rfl,a8⟩:=hcut;subst a8;clear ic;go_upto_region 9 with fail;go_cut [58]from 25 to 79 (λb' F=>b'=.bool (decide<|k=torn/\kd<3)/\F=wc);case first=>
        by_cases z:k=torn
        .subst z;by_cases h2:kd<3
         .have h2i:(kd:Int)<3:=oE;go_wp2;go_meet;exact⟨by simp[h2],rfl⟩
         .have h2i:¬(kd:Int)<3:=oE;go_wp2;go_meet;exact⟨by simp[h2],rfl⟩
        .have h1i:¬(k:Int)=torn:=oE;go_wp2;go_meet;exact⟨by simp[z],rfl⟩
       case rest=>
        obtain⟨rfl,a8⟩:=hcut;subst a8;by_cases K:k=torn/\kd<3
        .rw[decide_eq_true K];have YP:=ae K;clear K;have jd:IntKind.i64.wrap ((f.size:Int)+1)=((f.size+1:Nat):Int):=by have:=O.1.data;simp only at this;rw[IntKind.wrap_i64];omega
         go_upto_region 10 with fail;go_cut [70]from 25 to 79 (λ_ F=>∃q,F.heap[A]?=some (.cells #[.int .i64 (kd:Int),.string nm,.string tt,.string<|f.extract 0 q] 162 (0,0))/\Fr [A] wc F);case first=>
          have U5:f.size<=4096:=O.1.data;have WG:∀W',Calls prog 102 #[.int .i64<|IntKind.i64.wrap<|part.tdiv 7,.int .i64<|(f.size:Int)+1] W' λe w'=>∃r:Nat,r<=f.size/\e=.returned (.int .i64 r)/\w'=W':=λW'=>by
           have z:=CR (IntKind.i64.wrap<|part.tdiv 7) (f.size+1) W' iS iS oE oE;have e1:((f.size+1:Nat):Int)=(f.size:Int)+1:=oE
           rw[e1]at z;apply z.mono;rintro e w' ⟨r,h2,h3,h4⟩;exact⟨r,oE,h3,h4⟩
          go_region_with (first|(go_at_call 102;apply(WG _).mono;rintro e w3 ⟨r,hr,rfl,rfl⟩;have EZ:(r:Int)<=(f.size:Int):=oE));all_goals go_wp2
          all_goals go_meet
          all_goals exact⟨r,by have:=aH J.2.1 3<|.string<|f.extract 0 r;simp at this;exact this,((Fr.refl [A] wc).setCell (.inl sE) _).drew⟩
         case rest=>
          have⟨q,ab,M⟩:=hcut;have ow:FileMap wc D (l+k) s.2:=C.out.j8.fr M (by simp;exact λe=>b0 e.symm) (by intro x m t y;simp at m;subst m;rw[J.2.1]at y;cases y);have lI:fw wc u.heap.size k s.1:=C.out.cut.blk (M.block _ YO<|by simp;exact λe=>WS e.symm);have bt:u.heap.size<wc.heap.size:=zzl YO M.size;have TC:p≠A:=by have:=J.1;omega
          have aX:p≠u.heap.size:=oE;have MO:wc.cell? (dH p)=some (.map<|some D):=(zze<|M.block p (by have:=J.2.2;omega)<|by simpa using TC).trans al;have t1:=aa ab 1;simp at t1;have Q:Hid (TH torn d.ai (d.pending.take k) s/\Fr [D,u.heap.size] W wc/\FileMap wc D (l+k) s.2/\fw wc u.heap.size k s.1/\wc.heap[A]?=some (.cells #[.int .i64 (kd:Int),.string nm,.string tt,.string<|f.extract 0 q] 162 (0,0))/\s.2.Le ((l+k)*4096)):=by
           refine⟨C.out.YN,C.out.fr.andThen M λj v CB=>?_,ow,lI,ab,C.out.le⟩;simp at v;have:=J.1;have:=C.out.fr.size;have:=J.2.2;have h9:=an;omega
          clear ow lI ab M C q0 q1 q2 q3 r3 al;go_wp2_with (first|(at_mapUpdate;apply qO rfl _ _ _ rfl u.heap.size k s.1 rfl Q.2.2.2.1 mE nm O.1.name rfl rfl;intro w2 oX ko)|fail);have L:Fr [u.heap.size] wc w2:=Fr.bK ko;have bg:wc.heap.size<=w2.heap.size:=L.size;have b8:A<wc.heap.size:=(zza.1 Q.2.2.2.2.1).1;have Vb:=(L.block A b8<|by simpa using WS).trans Q.2.2.2.2.1;have p3:w2.cell? (dH p)=some (.map<|some D):=(zze<|L.block p oE<|by simpa using aX).trans MO;have y0:=aa Vb 0;have y1:=aa Vb 1;have y2:=aa Vb 2;have y3:=aa Vb 3;simp at y0 y1 y2 y3;have b6:Hid (FileMap w2 D (l+k) s.2):=Q.2.2.1.fr L sC (by
           intro x m t y;simp at m;subst m;have⟨es,c',z⟩:=Q.2.2.2.1.isMap;rw[z]at y;cases y)
          have ak:=ae<|zzb oX L
          have ad:Hid (bM true (decide<|(d.pending.take k).length=torn) q ⟨kd,nm,tt,f⟩ s=(s.1.set nm,cV s.2 ⟨kd,nm,tt,f.extract 0 q⟩)):=by
           show _=_;unfold bM;rw[if_neg sE,if_neg λe=>N ⟨e.1,e.2⟩,if_pos ⟨by rw[O.2.2];exact decide_eq_true YP.1,YP.2⟩]
          have M_:=LY<|Q.1.step true q ⟨kd,nm,tt,f⟩;have a7:=LY<|pn (b:=true) (t:=decide<|(d.pending.take k).length=torn) (q:=q) Q.2.2.2.2.2 O.1;clear oX ko L Vb MO t1 N
          go_region_with (first|(go_at_call 103;apply(oW D (l+k) 4096 _ ⟨kd,nm,tt,f.extract 0 q⟩ _ (b6.out.fr (lE w2).drew sE sE) mE (Ok.cut O.1 q) oE Lb.out).mono;rintro e w4 ⟨rfl,hF4,iX⟩))
          all_goals (
           have m:YM W w4 D u.heap.size l torn d (k+1) (s.1.set nm,cV s.2 ⟨kd,nm,tt,f.extract 0 q⟩):=by
            have aA:Fr [D] w2 w4:=(Fr.refl [D] w2).drew.trans<|Fr.bK iX;have E:=M_.out;have JN:=a7.out;rw[ad.out]at E JN;refine⟨by rw[S.out];exact E,hF4,ak.1.blk<|aA.block _ oE sC,(Q.2.1.trans<|ak.2.mono<|by intro j _ v;simp at v;simp[v]).trans<|aA.mono<|by intro j _ v;simp at v;simp[v],?_⟩;rw[show(l+(k+1))*4096=(l+k)*4096+4096 by omega];exact JN
           have X:=ae m;clear m hF4 iX;go_wp2;go_roundw;case rel=>exact⟨k+1,oE,sE,_,X.out⟩
           case measure=>simp[intOf];omega)
        .rw[decide_eq_false K];have JO:bM true (decide<|(d.pending.take k).length=torn) 0 ⟨kd,nm,tt,f⟩ s=(s.1,cV s.2 ⟨kd,nm,tt,f⟩):=by
          unfold bM;rw[if_neg sE,if_neg λe=>N ⟨e.1,e.2⟩,if_neg λe=>K ⟨by have:=of_decide_eq_true e.1;rw[O.2.2]at this;exact this,e.2⟩]
         have ad:=ae JO;have M_:=LY<|C.out.YN.step true 0 ⟨kd,nm,tt,f⟩;have a7:=LY<|pn (b:=true) (t:=decide<|(d.pending.take k).length=torn) (q:=0) C.out.le O.1;clear JO N K;go_wp2
         go_region_with (first|(go_at_call 103;apply(oW D (l+k) 4096 _ ⟨kd,nm,tt,f⟩ _ (C.out.j8.fr (lE wc).drew sE sE) mE O.1 oE Lb.out).mono;rintro e w2 ⟨rfl,uS,Y⟩))
         all_goals (
          have m:YM W w2 D u.heap.size l torn d (k+1) (s.1,cV s.2 ⟨kd,nm,tt,f⟩):=by
           have sF:Fr [D] wc w2:=(Fr.refl [D] wc).drew.trans<|Fr.bK Y;have E:=M_.out;have JN:=a7.out;rw[ad.out]at E JN;refine⟨by rw[S.out];exact E,uS,(C.out.cut.blk<|sF.block _ YO sC).mono oE,C.out.fr.trans<|sF.mono<|by intro j _ v;simp at v;simp[v],?_⟩;rw[show(l+(k+1))*4096=(l+k)*4096+4096 by omega];exact JN
          have X:=ae m;clear m uS Y;go_wp2;go_roundw;case rel=>exact⟨k+1,oE,sE,_,X.out⟩
          case measure=>simp[intOf];omega)
  .obtain rfl:k=len:=oE;have V:p≠D/\p≠u.heap.size:=⟨λe=>H.1.j8.cL H.1.blk e.symm,oE⟩;have an:W.heap.size<=wr.heap.size:=R.out.fr.size;have U:=(R.out.fr.block p (zzl wy H.2.1.size)<|by simp;exact V).trans H.1.blk;have b3:=aa U 3;have b4:=aa U 4;have f3:=au U 3;have f4:=au U 4;simp at b3 b4;have⟨G,iY⟩:∃G,G=(wr.setCell ⟨p,3,none⟩<|.int .i64<|-1).setCell ⟨p,4,none⟩ (.int .i64<|-1):=⟨_,rfl⟩;have cA:Fr [p] wr G:=by rw[iY];exact(Fr.cH sE _ _).trans<|Fr.cH sE _ _
   have cU:G.heap[p]?=some (.cells #[.map<|some D,.map<|some bN,.slice pa k pc,.int .i64<|-1,.int .i64<|-1,.bool d.down] 58):=by
    have:=aH (aH U 3<|.int .i64<|-1) 4<|.int .i64<|-1;simp at this;rw[iY];exact this
   have aE:FileMap G D (l+k) s.2:=R.out.j8.fr cA (by simp;exact λe=>V.1 e.symm) (by
    intro x m t y;simp at m;subst m;rw[U]at y;cases y)
   have Pn:=QQ B p D n (l+k) (.slice pa k pc) (.map<|some bN) ⟨s.2,d.now,d.pending,-1,-1,d.down⟩ G cU ⟨iu.1,iu.2.1,by have:=cA.size;have:=H.2.1.size;omega⟩ aE (by rw[H.2.2.2.1];exact hD) hn R.out.le;have y:d.pending.take k=d.pending:=zzt (by rw[H.2.2.2.1];exact zzc _);have Tz:=R.out.YN.left;rw[y]at Tz
   have JP:Fr [p,D] u G:=by
    have a1:Fr [p,D] u W:=H.2.1.mono sE;have a2:Fr [p,D] u wr:=a1.andThen R.out.fr (λj v CB=>by
     simp at v;obtain e|e:=v
     .simp[e]
     .omega)
    exact a2.trans<|cA.mono<|by intro j _ v;simp at v;simp[v]
   have HF:=ae<|zzb JP<|zzb Tz JP.size;clear JP Tz aE cU cA U y R;go_wp2_with fail;rw[<-iY];apply Pn.mono;clear Pn;rintro e w3 ⟨rfl,Nl,dD⟩;have H3:=ae<|zzb Nl dD;clear Nl dD;go_wp2;go_end0;exact⟨rfl,s.2,G.heap.size,l+k,HF.2.1,H3.1,HF.2.2,HF.1.trans<|H3.2.mono<|by intro j _ v;simp at v;simp[v]⟩
def eI(F:az):ah:=⟨F,F,[],-1,-1,false⟩
section
variable{K V:Type}[DecidableEq K]
def aj(l:List (K × V))(k:K):Option V:=(l.find? λp=>decide (p.1=k)).map (·.2)
def cO(l:List (K × V))(k:K):List (K × V):=l.filter λp=>!decide (p.1=k)
def dm(l:List (K × V))(k:K)(v:V):List (K × V):=(k,v) :: cO l k
def aV(l:List (K × V)):Prop:=l.Pairwise λp q=>p.1≠q.1
omit [DecidableEq K] in
theorem aV.same{l:List (K×V)}(h:aV l){p q:K×V}(hp:p∈l)(a:q∈l)(e:p.1=q.1):p=q:=by
 induction l with
 |nil=>cases hp
 |cons x r ih=>
  have⟨c,b⟩:=zzA.1 h;obtain T|T:=zzj.1 hp
  .grind
  .rcases zzj.1 a with W|W
   .grind
   .exact ih b T W
theorem bJ{l:List (K×V)}{k:K}{v:V}(h:aj l k=some v):(k,v)∈l:=by
 unfold aj at h;cases f:l.find? (λp=>decide<|p.1=k)with
 |none=>grind
 |some p=>grind
theorem gO{l:List (K×V)}{k:K}:aj l k=none↔∀p∈l,p.1≠k:=by
 unfold aj;simp[List.find?_eq_none]
theorem bS{l:List (K×V)}(h:aV l){k:K}{v:V}(m:(k,v)∈l):aj l k=some v:=by
 cases a:aj l k with
 |none=>grind[gO]
 |some u=>have:=h.same m (bJ a) rfl;simp at this;rw[this]
theorem aV.del{l:List (K×V)}(h:aV l)(k:K):aV (cO l k):=List.Pairwise.filter _ h
theorem aV.put{l:List (K×V)}(h:aV l)(k:K)(v:V):aV (dm l k v):=
 zzA.2 ⟨λq a e=>by have:=(zzp.1 a).2;simp at this;exact this e.symm,h.del k⟩
end
structure jI(P:Program)(K:Type)(kt:TypeId) where
 kv:K->Value
 kl:K->Lit
 ok:K->Prop
 law:Keyed P kt
 key:∀k,ok k->keyOf P kt (kv k)=some (kl k)
 inj:∀a b,kv a=kv b->a=b
structure nC(V:Type) where
 R:Value->Option (DataW Unit × List MemPlace)
 ev:V->Value
 el:V->DataW Unit
 ok:V->Prop
 made:∀v,ok v->R (ev v)=some (el v,[])
 inv:∀x v ps,ok v->R x=some (el v,ps)->x=ev v
section
variable{P:Program}{K V:Type}[DecidableEq K]{kt:TypeId}(KR:jI P K kt)(ER:nC V)
omit [DecidableEq K] in
theorem jI.Ux{a b:K}(d:KR.ok a)(c:KR.ok b)(h:KR.kl a=KR.kl b):a=b:=
 KR.inj a b (KR.law.inj (KR.key a d)<|by rw[h];exact KR.key b c)
theorem jI.same{a b:K}(c:KR.ok a)(d:KR.ok b):(KR.kl a).sameKey (KR.kl b)=decide (a=b):=by
 by_cases e:a=b
 .subst e;rw[WideAt.sameKey_self<|KR.law.key<|KR.key a c];simp
 .rw[Maps.sameKey_ne λh=>e<|KR.Ux c d h];simp[e]
def mH(p:K × V):Lit × DataW Unit:=(KR.kl p.1,ER.el p.2)
def bB(w:World)(b n:Nat)(l:List (K × V)):Prop :=
 ∃es,w.ownsMap P kt ER.R b n (.map es)/\es.Perm (l.map (mH KR ER))/\aV l/\∀p∈l,KR.ok p.1/\ER.ok p.2
variable{KR ER}{w w':World}{b n:Nat}{l:List (K × V)}{es:List (Lit × DataW Unit)}
theorem zI(hp:es.Perm<|l.map<|mH KR ER)(z:∀p∈l,KR.ok p.1/\ER.ok p.2){k:K}(h:KR.ok k):Maps.has (.map es) (KR.kl k)=(aj l k).isSome:=by
 rw[Maps.has_eq,hp.any_eq,List.any_map];cases a:aj l k with
 |none=>
  rw[Option.isSome_none,List.any_eq_false];intro p m;have:=gO.1 a p m;simp only[Function.comp,mH];rw[KR.same (z p m).1 h];simp[this]
 |some v=>
  rw[Option.isSome_some,List.any_eq_true];refine⟨(k,v),bJ a,?_⟩;simp only[Function.comp,mH];rw[KR.same h h];simp
theorem uY(hp:es.Perm<|l.map<|mH KR ER)(c:aV l)(e:∀p∈l,KR.ok p.1/\ER.ok p.2){k:K}(h:KR.ok k){v:V}(a:aj l k=some v)(z:DataW Unit):(DataW.map es).atKey (KR.kl k) z=ER.el v:=by
 have m:mH KR ER (k,v)∈es:=hp.mem_iff.2<|zzq.2 ⟨(k,v),bJ a,rfl⟩;simp only[DataW.atKey]
 cases f:es.find? (λp=>p.1.sameKey<|KR.kl k)with
 |none=>
  have:=List.find?_eq_none.1 f _ m;simp only[mH]at this;rw[KR.same h h]at this;simp at this
 |some q=>
  have g:=hp.mem_iff.1<|List.mem_of_find?_eq_some f;have b:=List.find?_some f;obtain⟨p,T,rfl⟩:=zzq.1 g;simp only[mH]at b ⊢;rw[KR.same (e p T).1 h]at b;have d:p.1=k:=by grind
  have:=c.same T (bJ a) d;rw[this]
omit [DecidableEq K] in
theorem bB.made(w:World):bB KR ER (w.alloc<|.map #[] 0) w.heap.size 0 []:=
 ⟨[],World.ownsMap_made _ _ _ _,List.Perm.refl _,List.Pairwise.nil,sE⟩
omit [DecidableEq K] in
theorem bB.lt(h:bB KR ER w b n l):b<w.heap.size:=by have⟨es,h,_⟩:=h;exact h.lt
omit [DecidableEq K] in
theorem bB.isMap(h:bB KR ER w b n l):∃es c,w.heap[b]?=some (.map es c):=by have⟨_,⟨es,c,h,_⟩,_⟩:=h;exact⟨es,c,h⟩
omit [DecidableEq K] in
theorem bB.mono(h:bB KR ER w b n l){n':Nat}(hn:n<=n'):bB KR ER w b n' l:=by have⟨es,h,r⟩:=h;exact⟨es,h.mono hn,r⟩
omit [DecidableEq K] in
theorem bB.fr{S:List Nat}(h:bB KR ER w b n l)(f:Fr S w w')(d:b∉S):bB KR ER w' b n l:=by
 have P:=h.lt;have⟨es,⟨e,c,a,g⟩,r⟩:=h;exact⟨es,⟨e,c,(f.block b P d).trans a,g⟩,r⟩
omit [DecidableEq K] in
theorem bB.len(h:bB KR ER w b n l):l.length<=n:=by
 have⟨es,h,hp,_⟩:=h;have:=h.size_le;rw[Maps.size_eq,hp.length_eq,zzn]at this;exact this
theorem wT(hp:es.Perm (l.map (mH KR ER)))(z:∀p∈l,KR.ok p.1/\ER.ok p.2){k:K}(h:KR.ok k):(es.filter (ChangeMaps.notKey (KR.kl k))).Perm ((cO l k).map (mH KR ER)):=by
 refine(hp.filter _).trans ?_;rw[List.filter_map];unfold cO;rw[List.filter_congr (q:=λp=>!decide (p.1=k)) λp m=>?_];simp only[Function.comp,mH,ChangeMaps.notKey];rw[KR.same (z p m).1 h]
theorem bB.Ws{k:K}{v:V}(hp:es.Perm<|l.map<|mH KR ER)(h:aV l)(z:∀p∈l,KR.ok p.1/\ER.ok p.2)(a:KR.ok k)(c:ER.ok v)(o:w'.ownsMap P kt ER.R b n<|(DataW.map es).put (KR.kl k)<|ER.el v):bB KR ER w' b n (dm l k v):=by
 rw[DataW.put_eq]at o;refine⟨_,o,?_,h.put k v,λp m=>?_⟩
 .unfold ChangeMaps.putKey;exact(WideShapes.insert_perm _ _).trans<|(wT hp z a).cons _
 .rcases zzj.1 m with rfl|m
  .grind
  .exact z p (zzp.1 m).1
theorem bB.aar{k:K}(hp:es.Perm<|l.map<|mH KR ER)(h:aV l)(z:∀p∈l,KR.ok p.1/\ER.ok p.2)(a:KR.ok k)(o:w'.ownsMap P kt ER.R b n<|(DataW.map es).del<|KR.kl k):bB KR ER w' b n (cO l k):=by
 rw[DataW.del_eq]at o;exact⟨_,o,wT hp z a,h.del k,λp m=>z p (zzp.1 m).1⟩
theorem bB.DT{t e:TypeId}(h:bB KR ER w b n l)(m:P.underlying t=some (.map kt e)){z:V}(j:(zeroValue e).run P w=.ok (ER.ev z) w)(g:ER.ok z){k:K}(f:KR.ok k):
  (Instr.lookup t (.map<|some b) (KR.kv k) true).run P w=.ok (.tuple #[ER.ev<|(aj l k).getD z,.bool (aj l k).isSome]) w:=by
 have⟨es,o,hp,i,d⟩:=h;have⟨v,s,r,a⟩:=o.look_ok KR.law m j (ER.made z g)<|KR.key k f;rw[zI hp d f]at r
 cases c:aj l k with
 |none=>
  rw[c]at r;have B:Maps.has (.map es) (KR.kl k)=false:=by grind[zI]
  rw[Maps.atKey_of_not_has B]at a;rw[ER.inv v z s g a]at r;exact r
 |some u=>
  rw[c]at r;rw[uY hp i d f c]at a;rw[ER.inv v u s (d _<|bJ c).2 a]at r;exact r
theorem bB.look{t e:TypeId}(h:bB KR ER w b n l)(m:P.underlying t=some (.map kt e)){z:V}(j:(zeroValue e).run P w=.ok (ER.ev z) w)(d:ER.ok z){k:K}(g:KR.ok k):
  (Instr.lookup t (.map<|some b) (KR.kv k) false).run P w=.ok (ER.ev<|(aj l k).getD z) w:=by
 have⟨es,o,hp,i,f⟩:=h;have⟨v,s,r,a⟩:=o.lookup KR.law m j (ER.made z d)<|KR.key k g
 cases c:aj l k with
 |none=>
  have B:Maps.has (.map es) (KR.kl k)=false:=by grind[zI]
  rw[Maps.atKey_of_not_has B]at a;rw[ER.inv v z s d a]at r;exact r
 |some u=>
  rw[uY hp i f g c]at a;rw[ER.inv v u s (f _<|bJ c).2 a]at r;exact r
omit [DecidableEq K] in
theorem bB.I6{t e:TypeId}(h:bB KR ER w b n l)(a:P.underlying t=some (.map kt e))(y:TypeId):(Builtin.len_ #[t] y #[.map<|some b]).run P w=.ok (.int .i64 (l.length:Int)) w:=by
 have⟨es,o,hp,_⟩:=h;have:=o.len a y;rwa [Maps.size_eq,hp.length_eq,zzn]at this
end
section
variable{P:Program}{K V:Type}[DecidableEq K]{kt:TypeId}{KR:jI P K kt}{ER:nC V}{w:World}{ops:Array Oper}{rest:List Oper}{o:Oper}{a:Act}{Q:Exit->Act->World->Prop}
theorem zJ(p:o.guard=none)(m x v:Operand)(t e:TypeId)(B:o.op=Op.mapUpdate t m x v)(y:P.underlying t=some (.map kt e))(b n:Nat)(l:List<|K×V)(i:a.eval m=.map (some b))(M:bB KR ER w b n l)(hn:n<maxLen)
  (k:K) (h:KR.ok k) (g:a.eval x=KR.kv k) (u:V) (c:ER.ok u) (d:a.eval v=ER.ev u)
  (r:∀w',bB KR ER w' b (n+1) (dm l k u)->w.grownBy w' (some b)->wpList P ops Q rest (a.put o.dst undef) w'):wpList P ops Q (o::rest) a w:=by
 have⟨es,s,hp,f,z⟩:=M;apply wpList_mapUpdate_own w p m x v t B kt e KR.law y ER.R b n _ i s hn _ _ (KR.kl k) g d (KR.key k h) _ [] (ER.made u c);intro w' q j;exact r w' (bB.Ws hp f z h c q) j
theorem qA(i:o.guard=none)(m x:Operand)(t e:TypeId)(B:o.op=Op.call {callee:=Callee.builtin Builtin.delete,args:=#[m,x],argTypes:=#[t,kt]})(c:P.underlying t=some (.map kt e))(b n:Nat)(l:List<|K×V)(g:a.eval m=.map (some b))(M:bB KR ER w b n l)
  (k:K) (h:KR.ok k) (f:a.eval x=KR.kv k)
  (p:∀w',bB KR ER w' b n (cO l k)->w.grownBy w' (some b)->wpList P ops Q rest (a.put o.dst<|.tuple #[]) w'):wpList P ops Q (o::rest) a w:=by
 have⟨es,j,hp,d,z⟩:=M;apply wpList_delete_own w i m x _ _ B e KR.law c ER.R b n _ g j _ (KR.kl k) f (KR.key k h);intro w' u y;exact p w' (bB.aar hp d z h u) y.grown
end
end Go.Proofs.YtdcafjmdfpjcbaaGreatDoor
