import Derived.Test.YtdcafjmdfpjcbaaGreatDoorC02
import Derived.BigQuiet
set_option maxHeartbeats 1600000
set_option maxRecDepth 100000
namespace Go.Proofs.YtdcafjmdfpjcbaaGreatDoor
open Go.RowKit Go.Maps Tryz Sc
def tE(b f k p:Nat):Option Addr:=if p=k then some (d8 b f) else some (d8 b (f+k))
theorem j_{b f k p:Nat}(h:k<p):tE b f k p=some (d8 b<|f+k):=by grind[tE]
theorem oo(b f k:Nat):tE b f k k=some (d8 b f):=by grind[tE]
theorem ry(xs:List Nat)(k n j:Nat):bs (xs++(List.range<|j+1).map (digit k n))=bs (xs++(List.range j).map (digit k n))++[.int .u8 ((digit k n j:Nat):Int)]:=by
 rw[List.range_succ,List.map_append,<-zzx,Iq];rfl
theorem Cw(w:World):Calls prog 215 #[] w λe w'=>e=.returned (.int .i64 2)/\w'=w:=by
 have G:IntKind.u16.signed=false:=rfl;have b:bits .xor .u16 IntKind.u16.max 0=65535:=by decide +kernel
 go_enter func215,ntmps215;go_wp2;go_ret;refine⟨?_,rfl⟩;kernel_rfl
theorem TX(base g k p:Nat)(xs:List Nat)(n:Nat)(w:World)(N:w.ownsRow base 5 1 (.slice (some<|dH g) k p) k<|bs xs)(r:k+2<=p)(hn:n<65536):
  Calls prog 164 #[.slice (some<|dH g) k p,.int .u16 n] w λe w'=>e=.returned (.slice (some<|dH g) (k+2) p)/\w'.ownsRow base 5 1 (.slice (some<|dH g) (k+2) p) (k+2) (bs<|xs++be 2 n)/\w.grownBy w' (some g):=by
 have⟨d,l,q,f,m⟩:=info_parts uO;have H:=ae hn;skip;go_enter func164,ntmps164;go_wp2_with (go_at_call 215;apply(Cw _).mono;rintro e w' ⟨rfl,hw⟩;have Q:=hw.symm;subst Q;clear hw);go_loopw [0,5] (λv i wr=>∃j:Nat,j<=2/\i=.int .i64 ((2:Int)-1-j)/\v=.slice (some ⟨g,0,none⟩) (k+j) p/\wr.ownsRow base 5 1 (.slice (some ⟨g,0,none⟩) (k+j) p) (k+j) (bs<|xs++(List.range j).map (digit 2 n))/\w.grownBy wr (some g)) (λ_ i _=>(intOf i+1).toNat);case atStart=>exact⟨0,zzs _,nF,rfl,by simpa using N,eh _ _⟩
 case round=>
  obtain⟨j,o,rfl,rfl,G,a⟩:=hrel;by_cases P:j<2
  .have HD:=ae<|ru n 2 j
   skip;skip;go_wp2_with (at_builtin;apply wpList_append_fits _ rfl _ _ 179 rfl base 5 d 1 underlying179 l f g (k+j) p _ rfl (G.alloc _) ⟨wr.heap.size,0,none⟩ 1 1 [.int .u8<|(n:Int)/2^(8*(1-j))%256] rfl rfl ?c1 ?c2 ?c3);case c1=>
    intro c u h;match c,h with
    |0,h=>simp at h;subst h;simp[Addr.add]
   case c2=>intro u b;simp at b;subst b;rfl
   case c3=>omega
   .intro w1 eP eK;have Y:=aW a<|aW (di _ _ _) eK
    have E:w1.ownsRow base 5 1 (.slice (some ⟨g,0,none⟩) (k+(j+1)) p) (k+(j+1)) (bs<|xs++(List.range<|j+1).map (digit 2 n)):=by
     rw[HD.out]at eP;rw[ry,<-Nat.add_assoc];exact eP
    clear eP eK G a;go_wp2;go_roundw;case rel=>exact⟨j+1,oE,int_eq oE,rfl,E,Y⟩
    case measure=>simp[intOf]<;>omega
  .have ek:j=2:=oE;subst ek;go_wp2;go_ret;exact⟨rfl,G,a⟩
theorem TZ(C A:Nat)(b:C<72057594037927936)(a:A<256):bits .or .u64 ((C:Int)*256) (A:Int)=((C*256+A:Nat):Int):=by
 have h:=u64_or_nat (C*256) A (by omega) (by omega);rw[show((C:Int)*256)=((C*256:Nat):Int) by omega,h];congr 1;rw[show C*256=C<<<8 from(Nat.shiftLeft_eq C 8).symm,<-Nat.shiftLeft_add_eq_or_of_lt (show A<2^8 from a)]
theorem Fb(b o n p:Nat)(l:List Nat)(w:World)(h:k9 l)(hn:l.length=n)(a:2<=n)(u:n<=p)(D:p<=maxLen)(f:cZ w b o l):
  Calls prog 259 #[.slice (some<|d8 b o) n p] w λe w'=>e=.returned (.tuple #[.int .u16 (val (l.take 2):Nat),.slice (tE b o 2 p) (n-2)<|p-2])/\∃q,w'=w.drewN q:=by
 have N:=ae hn;clear hn;unfold maxLen at D;have t:(2:Int)<=p:=oE;have s:(2:Int)<=n:=oE;go_enter func259,ntmps259;go_wp2_with (go_at_call 215;apply(Cw _).mono;rintro e w' ⟨rfl,a⟩;have Q:=a.symm;subst Q;clear a);go_loop [5,13] (λc i=>∃k:Nat,k<=2/\i=.int .i64 k/\c=.int .u64 (val (l.take k):Nat)) (λ_ i=>2-(intOf i).toNat);case atStart=>exact⟨0,zzs _,rfl,rfl⟩
 case round=>
  obtain⟨k,v,rfl,rfl⟩:=hrel;by_cases P:k<2
  .have MR:=f k (by rw[N.out];omega);have I:=ae f;clear f;have r:=Cq h k;have B:val (l.take k)<72057594037927936:=by
    have g:=oV (l.take k)<|h.pJ k;have d:(l.take k).length<=7:=by rw[zzm,N.out];omega
    have x:256^(l.take k).length<=256^7:=Nat.pow_le_pow_right oE d;omega
   have⟨C,j⟩:=xY <|val (l.take k);rw[<-j]at B ⊢;have m:Hid (val (l.take<|k+1)=C*256+at_ l k):=by
    show _=_;rw[rh l k<|by rw[N.out];omega,qi,j]
   clear j;have y:=TZ C (at_ l k) B r;go_wp2;go_round;case rel=>exact⟨k+1,oE,nF,by rw[m.out];exact int_eq oE⟩
   case measure=>simp[intOf];omega
  .have ek:k=2:=oE;subst ek;have B:val (l.take 2)<65536:=by
    have g:=oV (l.take 2)<|h.pJ 2;have d:(l.take 2).length=2:=by rw[zzm,N.out];omega
    rw[d]at g;exact g
   by_cases H:p=2
   .subst H;obtain rfl:n=2:=oE;skip;go_wp2;go_quiet (fail)
    go_wp2;go_ret2;refine⟨?_,_,rfl⟩;rw[oo];rfl
   .skip;go_wp2;go_quiet (fail)
    go_wp2;go_ret2;refine⟨?_,_,rfl⟩;rw[j_ oE];rfl
theorem rz(w:World):Calls prog 216 #[] w λe w'=>e=.returned (.int .i64 8)/\w'=w:=by
 have G:IntKind.u64.signed=false:=rfl;have b:bits .xor .u64 IntKind.u64.max 0=18446744073709551615:=by decide +kernel
 go_enter func216,ntmps216;go_wp2;go_ret;refine⟨?_,rfl⟩;kernel_rfl
theorem T5(base g k p:Nat)(xs:List Nat)(n:Nat)(w:World)(N:w.ownsRow base 5 1 (.slice (some<|dH g) k p) k<|bs xs)(r:k+8<=p)(hn:n<2^64):
  Calls prog 165 #[.slice (some<|dH g) k p,.int .u64 n] w λe w'=>e=.returned (.slice (some<|dH g) (k+8) p)/\w'.ownsRow base 5 1 (.slice (some<|dH g) (k+8) p) (k+8) (bs<|xs++be 8 n)/\w.grownBy w' (some g):=by
 have⟨d,l,q,f,m⟩:=info_parts uO;have H:=ae hn;clear hn;go_enter func165,ntmps165;go_wp2_with (go_at_call 216;apply(rz _).mono;rintro e w' ⟨rfl,hw⟩;have Q:=hw.symm;subst Q;clear hw);go_loopw [0,5] (λv i wr=>∃j:Nat,j<=8/\i=.int .i64 ((8:Int)-1-j)/\v=.slice (some ⟨g,0,none⟩) (k+j) p/\wr.ownsRow base 5 1 (.slice (some ⟨g,0,none⟩) (k+j) p) (k+j) (bs<|xs++(List.range j).map (digit 8 n))/\w.grownBy wr (some g)) (λ_ i _=>(intOf i+1).toNat);case atStart=>exact⟨0,zzs _,nF,rfl,by simpa using N,eh _ _⟩
 case round=>
  obtain⟨j,o,rfl,rfl,G,a⟩:=hrel;by_cases P:j<8
  .have HD:=ae<|ru n 8 j
   skip;skip;go_wp2_with (at_builtin;apply wpList_append_fits _ rfl _ _ 179 rfl base 5 d 1 underlying179 l f g (k+j) p _ rfl (G.alloc _) ⟨wr.heap.size,0,none⟩ 1 1 [.int .u8<|(n:Int)/2^(8*(7-j))%256] rfl rfl ?c1 ?c2 ?c3);case c1=>
    intro c u h;match c,h with
    |0,h=>simp at h;subst h;simp[Addr.add]
   case c2=>intro u b;simp at b;subst b;rfl
   case c3=>omega
   .intro w1 eP eK;have Y:=aW a<|aW (di _ _ _) eK
    have E:w1.ownsRow base 5 1 (.slice (some ⟨g,0,none⟩) (k+(j+1)) p) (k+(j+1)) (bs<|xs++(List.range<|j+1).map (digit 8 n)):=by
     rw[HD.out]at eP;rw[ry,<-Nat.add_assoc];exact eP
    clear eP eK G a;go_wp2;go_roundw;case rel=>exact⟨j+1,oE,int_eq oE,rfl,E,Y⟩
    case measure=>simp[intOf]<;>omega
  .have ek:j=8:=oE;subst ek;go_wp2;go_ret;exact⟨rfl,G,a⟩
theorem T6(C A:Nat)(b:C<72057594037927936)(a:A<256):bits .or .u64 ((C:Int)*256) (A:Int)=((C*256+A:Nat):Int):=by
 have h:=u64_or_nat (C*256) A (by omega) (by omega);rw[show((C:Int)*256)=((C*256:Nat):Int) by omega,h];congr 1;rw[show C*256=C<<<8 from(Nat.shiftLeft_eq C 8).symm,<-Nat.shiftLeft_add_eq_or_of_lt (show A<2^8 from a)]
theorem Fc(b o n p:Nat)(l:List Nat)(w:World)(h:k9 l)(hn:l.length=n)(a:8<=n)(u:n<=p)(D:p<=maxLen)(f:cZ w b o l):
  Calls prog 242 #[.slice (some<|d8 b o) n p] w λe w'=>e=.returned (.tuple #[.int .u64 (val (l.take 8):Nat),.slice (tE b o 8 p) (n-8)<|p-8])/\∃q,w'=w.drewN q:=by
 have N:=ae hn;clear hn;unfold maxLen at D;have t:(8:Int)<=p:=oE;have s:(8:Int)<=n:=oE;go_enter func242,ntmps242;go_wp2_with (go_at_call 216;apply(rz _).mono;rintro e w' ⟨rfl,a⟩;have Q:=a.symm;subst Q;clear a);go_loop [5,13] (λc i=>∃k:Nat,k<=8/\i=.int .i64 k/\c=.int .u64 (val (l.take k):Nat)) (λ_ i=>8-(intOf i).toNat);case atStart=>exact⟨0,zzs _,rfl,rfl⟩
 case round=>
  obtain⟨k,v,rfl,rfl⟩:=hrel;by_cases P:k<8
  .have MR:=f k (by rw[N.out];omega);have I:=ae f;clear f;have r:=Cq h k;have B:val (l.take k)<72057594037927936:=by
    have g:=oV (l.take k)<|h.pJ k;have d:(l.take k).length<=7:=by rw[zzm,N.out];omega
    have x:256^(l.take k).length<=256^7:=Nat.pow_le_pow_right oE d;omega
   have⟨C,j⟩:=xY <|val (l.take k);rw[<-j]at B ⊢;have m:Hid (val (l.take<|k+1)=C*256+at_ l k):=by
    show _=_;rw[rh l k<|by rw[N.out];omega,qi,j]
   clear j;have y:=T6 C (at_ l k) B r;go_wp2;go_round;case rel=>exact⟨k+1,oE,nF,by rw[m.out];exact int_eq oE⟩
   case measure=>simp[intOf];omega
  .have ek:k=8:=oE;subst ek;have B:val (l.take 8)<18446744073709551616:=by
    have g:=oV (l.take 8)<|h.pJ 8;have d:(l.take 8).length=8:=by rw[zzm,N.out];omega
    rw[d]at g;exact g
   by_cases H:p=8
   .subst H;obtain rfl:n=8:=oE;clear B;go_wp2;go_quiet (fail)
    go_wp2;go_ret2;refine⟨?_,_,rfl⟩;rw[oo];rfl
   .clear B;go_wp2;go_quiet (fail)
    go_wp2;go_ret2;refine⟨?_,_,rfl⟩;rw[j_ oE];rfl
theorem uV(w:World):Calls prog 217 #[] w λe w'=>e=.returned (.int .i64 1)/\w'=w:=by
 have G:IntKind.u8.signed=false:=rfl;have b:bits .xor .u8 IntKind.u8.max 0=255:=by decide +kernel
 go_enter func217,ntmps217;go_wp2;go_ret;refine⟨?_,rfl⟩;kernel_rfl
theorem XJ(base g k p:Nat)(xs:List Nat)(n:Nat)(w:World)(N:w.ownsRow base 5 1 (.slice (some<|dH g) k p) k<|bs xs)(r:k+1<=p)(hn:n<256):
  Calls prog 166 #[.slice (some<|dH g) k p,.int .u8 n] w λe w'=>e=.returned (.slice (some<|dH g) (k+1) p)/\w'.ownsRow base 5 1 (.slice (some<|dH g) (k+1) p) (k+1) (bs<|xs++be 1 n)/\w.grownBy w' (some g):=by
 have⟨d,l,q,f,m⟩:=info_parts uO;have H:=ae hn;skip;go_enter func166,ntmps166;go_wp2_with (go_at_call 217;apply(uV _).mono;rintro e w' ⟨rfl,hw⟩;have Q:=hw.symm;subst Q;clear hw);go_loopw [0,5] (λv i wr=>∃j:Nat,j<=1/\i=.int .i64 ((1:Int)-1-j)/\v=.slice (some ⟨g,0,none⟩) (k+j) p/\wr.ownsRow base 5 1 (.slice (some ⟨g,0,none⟩) (k+j) p) (k+j) (bs<|xs++(List.range j).map (digit 1 n))/\w.grownBy wr (some g)) (λ_ i _=>(intOf i+1).toNat);case atStart=>exact⟨0,zzs _,nF,rfl,by simpa using N,eh _ _⟩
 case round=>
  obtain⟨j,o,rfl,rfl,G,a⟩:=hrel;by_cases P:j<1
  .have HD:Hid ((n:Int)=((digit 1 n 0:Nat):Int)):=by show _=_;unfold digit;simp;omega
   obtain rfl:j=0:=oE;rw[Nat.add_zero]at G;go_wp2_with (at_builtin;apply wpList_append_fits _ rfl _ _ 179 rfl base 5 d 1 underlying179 l f g k p _ rfl (G.alloc _) ⟨wr.heap.size,0,none⟩ 1 1 [.int .u8 (n:Int)] rfl rfl ?c1 ?c2 ?c3);case c1=>
    intro c u h;match c,h with
    |0,h=>simp at h;subst h;simp[Addr.add]
   case c2=>intro u b;simp at b;subst b;rfl
   case c3=>omega
   .intro w1 eP eK;have Y:=aW a<|aW (di _ _ _) eK
    have E:w1.ownsRow base 5 1 (.slice (some ⟨g,0,none⟩) (k+(0+1)) p) (k+(0+1)) (bs<|xs++(List.range<|0+1).map (digit 1 n)):=by
     have e:=HD.out;rw[ry,<-e];simpa using eP
    clear eP eK G a;go_wp2;go_roundw;case rel=>exact⟨0+1,oE,int_eq oE,rfl,E,Y⟩
    case measure=>simp[intOf]<;>omega
  .have ek:j=1:=oE;subst ek;go_wp2;go_ret;exact⟨rfl,G,a⟩
theorem XK(C A:Nat)(b:C<72057594037927936)(a:A<256):bits .or .u64 ((C:Int)*256) (A:Int)=((C*256+A:Nat):Int):=by
 have h:=u64_or_nat (C*256) A (by omega) (by omega);rw[show((C:Int)*256)=((C*256:Nat):Int) by omega,h];congr 1;rw[show C*256=C<<<8 from(Nat.shiftLeft_eq C 8).symm,<-Nat.shiftLeft_add_eq_or_of_lt (show A<2^8 from a)]
theorem Lf(b o n p:Nat)(l:List Nat)(w:World)(h:k9 l)(hn:l.length=n)(a:1<=n)(u:n<=p)(D:p<=maxLen)(f:cZ w b o l):
  Calls prog 244 #[.slice (some<|d8 b o) n p] w λe w'=>e=.returned (.tuple #[.int .u8 (val (l.take 1):Nat),.slice (tE b o 1 p) (n-1)<|p-1])/\∃q,w'=w.drewN q:=by
 have N:=ae hn;clear hn;unfold maxLen at D;have t:(1:Int)<=p:=oE;have s:(1:Int)<=n:=oE;go_enter func244,ntmps244;go_wp2_with (go_at_call 217;apply(uV _).mono;rintro e w' ⟨rfl,a⟩;have Q:=a.symm;subst Q;clear a);go_loop [5,13] (λc i=>∃k:Nat,k<=1/\i=.int .i64 k/\c=.int .u64 (val (l.take k):Nat)) (λ_ i=>1-(intOf i).toNat);case atStart=>exact⟨0,zzs _,rfl,rfl⟩
 case round=>
  obtain⟨k,v,rfl,rfl⟩:=hrel;by_cases P:k<1
  .have MR:=f k (by rw[N.out];omega);have I:=ae f;clear f;have r:=Cq h k;have B:val (l.take k)<72057594037927936:=by
    have g:=oV (l.take k)<|h.pJ k;have d:(l.take k).length<=7:=by rw[zzm,N.out];omega
    have x:256^(l.take k).length<=256^7:=Nat.pow_le_pow_right oE d;omega
   have⟨C,j⟩:=xY <|val (l.take k);rw[<-j]at B ⊢;have m:Hid (val (l.take<|k+1)=C*256+at_ l k):=by
    show _=_;rw[rh l k<|by rw[N.out];omega,qi,j]
   clear j;have y:=XK C (at_ l k) B r;go_wp2;go_round;case rel=>exact⟨k+1,oE,nF,by rw[m.out];exact int_eq oE⟩
   case measure=>simp[intOf];omega
  .have ek:k=1:=oE;subst ek;have B:val (l.take 1)<256:=by
    have g:=oV (l.take 1)<|h.pJ 1;have d:(l.take 1).length=1:=by rw[zzm,N.out];omega
    rw[d]at g;exact g
   by_cases H:p=1
   .subst H;obtain rfl:n=1:=oE;skip;go_wp2;go_quiet (fail)
    go_wp2;go_ret2;refine⟨?_,_,rfl⟩;rw[oo];rfl
   .skip;go_wp2;go_quiet (fail)
    go_wp2;go_ret2;refine⟨?_,_,rfl⟩;rw[j_ oE];rfl
theorem Cx(w:World):Calls prog 246 #[] w λe w'=>e=.returned (.int .i64 4)/\w'=w:=by
 have G:IntKind.u32.signed=false:=rfl;have b:bits .xor .u32 IntKind.u32.max 0=4294967295:=by decide +kernel
 go_enter func246,ntmps246;go_wp2;go_ret;refine⟨?_,rfl⟩;kernel_rfl
theorem T7(base g k p:Nat)(xs:List Nat)(n:Nat)(w:World)(N:w.ownsRow base 5 1 (.slice (some<|dH g) k p) k<|bs xs)(r:k+4<=p)(hn:n<4294967296):
  Calls prog 218 #[.slice (some<|dH g) k p,.int .u32 n] w λe w'=>e=.returned (.slice (some<|dH g) (k+4) p)/\w'.ownsRow base 5 1 (.slice (some<|dH g) (k+4) p) (k+4) (bs<|xs++be 4 n)/\w.grownBy w' (some g):=by
 have⟨d,l,q,f,m⟩:=info_parts uO;have H:=ae hn;skip;go_enter func218,ntmps218;go_wp2_with (go_at_call 246;apply(Cx _).mono;rintro e w' ⟨rfl,hw⟩;have Q:=hw.symm;subst Q;clear hw);go_loopw [0,5] (λv i wr=>∃j:Nat,j<=4/\i=.int .i64 ((4:Int)-1-j)/\v=.slice (some ⟨g,0,none⟩) (k+j) p/\wr.ownsRow base 5 1 (.slice (some ⟨g,0,none⟩) (k+j) p) (k+j) (bs<|xs++(List.range j).map (digit 4 n))/\w.grownBy wr (some g)) (λ_ i _=>(intOf i+1).toNat);case atStart=>exact⟨0,zzs _,nF,rfl,by simpa using N,eh _ _⟩
 case round=>
  obtain⟨j,o,rfl,rfl,G,a⟩:=hrel;by_cases P:j<4
  .have HD:=ae<|ru n 4 j
   skip;skip;go_wp2_with (at_builtin;apply wpList_append_fits _ rfl _ _ 179 rfl base 5 d 1 underlying179 l f g (k+j) p _ rfl (G.alloc _) ⟨wr.heap.size,0,none⟩ 1 1 [.int .u8<|(n:Int)/2^(8*(3-j))%256] rfl rfl ?c1 ?c2 ?c3);case c1=>
    intro c u h;match c,h with
    |0,h=>simp at h;subst h;simp[Addr.add]
   case c2=>intro u b;simp at b;subst b;rfl
   case c3=>omega
   .intro w1 eP eK;have Y:=aW a<|aW (di _ _ _) eK
    have E:w1.ownsRow base 5 1 (.slice (some ⟨g,0,none⟩) (k+(j+1)) p) (k+(j+1)) (bs<|xs++(List.range<|j+1).map (digit 4 n)):=by
     rw[HD.out]at eP;rw[ry,<-Nat.add_assoc];exact eP
    clear eP eK G a;go_wp2;go_roundw;case rel=>exact⟨j+1,oE,int_eq oE,rfl,E,Y⟩
    case measure=>simp[intOf]<;>omega
  .have ek:j=4:=oE;subst ek;go_wp2;go_ret;exact⟨rfl,G,a⟩
theorem T8(C A:Nat)(b:C<72057594037927936)(a:A<256):bits .or .u64 ((C:Int)*256) (A:Int)=((C*256+A:Nat):Int):=by
 have h:=u64_or_nat (C*256) A (by omega) (by omega);rw[show((C:Int)*256)=((C*256:Nat):Int) by omega,h];congr 1;rw[show C*256=C<<<8 from(Nat.shiftLeft_eq C 8).symm,<-Nat.shiftLeft_add_eq_or_of_lt (show A<2^8 from a)]
theorem PF(b o n p:Nat)(l:List Nat)(w:World)(h:k9 l)(hn:l.length=n)(a:4<=n)(u:n<=p)(D:p<=maxLen)(f:cZ w b o l):
  Calls prog 261 #[.slice (some<|d8 b o) n p] w λe w'=>e=.returned (.tuple #[.int .u32 (val (l.take 4):Nat),.slice (tE b o 4 p) (n-4)<|p-4])/\∃q,w'=w.drewN q:=by
 have N:=ae hn;clear hn;unfold maxLen at D;have t:(4:Int)<=p:=oE;have s:(4:Int)<=n:=oE;go_enter func261,ntmps261;go_wp2_with (go_at_call 246;apply(Cx _).mono;rintro e w' ⟨rfl,a⟩;have Q:=a.symm;subst Q;clear a);go_loop [5,13] (λc i=>∃k:Nat,k<=4/\i=.int .i64 k/\c=.int .u64 (val (l.take k):Nat)) (λ_ i=>4-(intOf i).toNat);case atStart=>exact⟨0,zzs _,rfl,rfl⟩
 case round=>
  obtain⟨k,v,rfl,rfl⟩:=hrel;by_cases P:k<4
  .have MR:=f k (by rw[N.out];omega);have I:=ae f;clear f;have r:=Cq h k;have B:val (l.take k)<72057594037927936:=by
    have g:=oV (l.take k)<|h.pJ k;have d:(l.take k).length<=7:=by rw[zzm,N.out];omega
    have x:256^(l.take k).length<=256^7:=Nat.pow_le_pow_right oE d;omega
   have⟨C,j⟩:=xY <|val (l.take k);rw[<-j]at B ⊢;have m:Hid (val (l.take<|k+1)=C*256+at_ l k):=by
    show _=_;rw[rh l k<|by rw[N.out];omega,qi,j]
   clear j;have y:=T8 C (at_ l k) B r;go_wp2;go_round;case rel=>exact⟨k+1,oE,nF,by rw[m.out];exact int_eq oE⟩
   case measure=>simp[intOf];omega
  .have ek:k=4:=oE;subst ek;have B:val (l.take 4)<4294967296:=by
    have g:=oV (l.take 4)<|h.pJ 4;have d:(l.take 4).length=4:=by rw[zzm,N.out];omega
    rw[d]at g;exact g
   by_cases H:p=4
   .subst H;obtain rfl:n=4:=oE;skip;go_wp2;go_quiet (fail)
    go_wp2;go_ret2;refine⟨?_,_,rfl⟩;rw[oo];rfl
   .skip;go_wp2;go_quiet (fail)
    go_wp2;go_ret2;refine⟨?_,_,rfl⟩;rw[j_ oE];rfl
theorem disable(w:World):(callFunc 319 #[]).run prog w=.ok (.value<|.tuple #[]) w:=run_call_mark0 func319 k6 k6 k6 .disable k6 w
theorem enable(w:World):(callFunc 321 #[]).run prog w=.ok (.value<|.tuple #[]) w:=run_call_mark0 func321 k6 k6 k6 .enable k6 w
theorem acquire(a:Addr)(w:World):(callFunc 322 #[.pointer<|some a]).run prog w=.ok (.value<|.tuple #[]) w:=run_call_marked func322 k6 k6 k6 .acquire k6 a w
theorem releaseMerge(a:Addr)(w:World):(callFunc 324 #[.pointer<|some a]).run prog w=.ok (.value<|.tuple #[]) w:=run_call_marked func324 k6 k6 k6 .releaseMerge k6 a w
theorem zx(a:Addr)(x:Value)(u:FrameMode)(w:World)(d:w.cell? a=some x)(z:w.frozen? a=false):
  CallsD prog 304 #[.pointer<|some a,.bool true] u w λe b w'=>b=u/\(e=.returned (.tuple #[])/\w'=w.drew.setCell a (.int .u32 1)):=by
 have c:w.drew.cell? a=some x:=by go_simp
 have h:w.drew.frozen? a=false:=by go_simp
 have m:=run_call_store (P:=prog) func315 k6 k6 k6 k6 (k:=.u32) (y:=1) c h;go_enter_d func304,ntmps304;go_wp2;go_region_calls;all_goals (go_end0;exact⟨rfl,rfl⟩)
theorem yH(a:Addr)(u:FrameMode)(w:World)(c:w.cell? a=some (.int .i32 1))(z:w.frozen? a=false):
  CallsD prog 303 #[.pointer<|some a] u w λe b w'=>b=u/\(e=.returned (.tuple #[])/\w'=w.setCell a (.int .i32 0)):=by
 have f:=disable;have h:=enable;have r:=releaseMerge;have d:=run_call_add (P:=prog) func325 k6 k6 k6 .i32 k6 (y:=-1) (s:=0) c z (by simp[go_sem];rfl);have v:=run_convert_to_unsafe underlying425 underlying164 k6 c;go_enter_d func303,ntmps303;go_wp2;go_end0;go_wp2;go_end0;exact⟨rfl,rfl⟩
theorem MS(a:Addr)(w:World)(c:w.cell? a=some (.int .i32 0))(z:w.frozen? a=false):
  Calls prog 302 #[.pointer<|some a] w λe w'=>e=.returned (.tuple #[])/\w'=w.setCell a (.int .i32 1):=by
 have g:=disable;have h:=enable;have f:=acquire;have d:=run_call_cas_hit (P:=prog) func320 k6 k6 k6 .i32 k6 (y:=1) c z;have b:(w.setCell a<|.int .i32 1).cell? a=some (.int .i32 1):=World.cell?_setCell_same w a _ c;have v:=run_convert_to_unsafe underlying425 underlying164 k6 b;go_enter func302,ntmps302;go_wp2;first|go_end0|(simp only[Exit.inBlock,Exit.then];apply bodyPost_ret (results_none rfl _ _ _) rfl)|apply bodyPost_ret (results_none rfl _ _ _) rfl
 go_wp2;go_end0;exact⟨rfl,rfl⟩
theorem Ix(C:Nat)(w:World)(a:C<4294967296):
  Calls prog 249 #[.int .u32 C] w λe w'=>e=.returned (.int .u32 (ee 8 C:Nat))/\w'=w:=by
 go_enter func249,ntmps249;go_wp2;go_loop [0,4] (λc j=>∃q:Nat,q<=8/\j=.int .i64 q/\c=.int .u32 (ee q C:Nat)) (λ_ j=>8-(intOf j).toNat);case atStart=>exact⟨0,zzs _,rfl,rfl⟩
 case round=>
  obtain⟨q,f,rfl,rfl⟩:=hrel;have h:=q_ q C a;have H:Hid (ee (q+1) C=half (ee q C)):=rfl;by_cases g:q<8
  .generalize ee q C=X at h H;have b:=acg X h;have F:X/2<4294967296:=oE;have d:bits .xor .u32 ((X:Int)/2) 3988292384=((X/2^^^3988292384:Nat):Int):=by rw[show((X:Int)/2)=((X/2:Nat):Int) by omega];exact ach (X/2) F
   by_cases o:X%2=1
   .have HO:Hid (half X=X/2^^^3988292384):=PD X o;go_wp2;go_round;case rel=>exact⟨q+1,oE,nF,by rw[H.out,HO.out]⟩
    case measure=>simp[intOf];omega
   .have HO:Hid (half X=X/2):=MQ X o;go_wp2;go_round;case rel=>exact⟨q+1,oE,nF,by rw[H.out,HO.out];exact int_eq oE⟩
    case measure=>simp[intOf];omega
  .have e8:q=8:=oE;subst e8;go_wp2;go_ret;exact⟨rfl,rfl⟩
structure gq(w:World)(b:Nat)(done:Bool):Prop where
 c0:w.cell? (dH b)=some (.int .u32 (if done then 1 else 0))
 c1:w.cell? (d8 b 1)=some (.int .i32 0)
 tab:done=true->∀i,i<256->w.cell? (d8 b (3+i))=some (.int .u32 (ee 8 i:Nat))
 any:∀i,i<256->∃v,w.cell? (d8 b (3+i))=some v
 free:∀i,w.frozen? (d8 b i)=false
theorem Iy(c:Int)(C:Nat)(w:World)(h:c=C)(a:C<4294967296):
  Calls prog 249 #[.int .u32 c] w λe w'=>e=.returned (.int .u32 (ee 8 C:Nat))/\w'=w:=by grind[Ix]
theorem PG(b:Nat)(l:Addr)(U:¬l.block=b)(w:World)(hp:w.cell? l=some (rM b))
  (f:∀i,i<256->∃v,w.cell? (d8 b<|3+i)=some v) (s:∀i,w.frozen? (d8 b i)=false) :
  Calls prog 248 #[.pointer<|some l] w λe w'=>e=.returned (.tuple #[])/\w.grownBy w' (some b) /\
   (∀i,i<3->w'.cell? (d8 b i)=w.cell? (d8 b i))/\(∀i,w'.frozen? (d8 b i)=false)/\(∀i,i<256->w'.cell? (d8 b<|3+i)=some (.int .u32 (ee 8 i:Nat))):=by
 go_enter func248,ntmps248;go_wp2
 go_loopw [2] (λi wr=>∃k:Nat,k<=256/\i=.int .i64 k/\w.grownBy wr (some b)/\(∀i,i<3->wr.cell? ⟨b,i,none⟩=w.cell? ⟨b,i,none⟩)/\(∀i,wr.frozen? ⟨b,i,none⟩=false)/\(∀i,i<k->wr.cell? ⟨b,3+i,none⟩=some (.int .u32 (ee 8 i:Nat)))/\(∀i,i<256->∃v,wr.cell? ⟨b,3+i,none⟩=some v))
  (λi _=>256-(intOf i).toNat)
 case atStart=>exact⟨0,zzs _,rfl,eh _ _,λ_ _=>rfl,s,λi a=>absurd a<|Nat.not_lt_zero i,f⟩
 case round=>
  obtain⟨k,t,rfl,j,c,ie,d,n⟩:=hrel;have r:wr.cell? l=some (.pointer<|some ⟨b,0,none⟩):=(mz j U<|zzF w l hp).trans hp;by_cases P:k<256
  .obtain⟨old,hold⟩:=n k P;have q:=ie<|3+k;have o:¬b=l.block:=λh=>U h.symm
   have p:(0:Int)<=k:=oE;have m:(k:Int)<256:=oE;have G:=ae j;have g:=ae c;have F:=ae ie;have T:=ae d;have A:=ae n;clear j c ie d n f s hp;go_wp2
   go_region_held3 (λw'=>w'.cell? l=some (.pointer<|some ⟨b,0,none⟩))
    (go_keep)
    (first|(go_at_call 249;refine(Iy _ k _ ?_ oE).mono ?_;(rw[IntKind.wrap_u32'];omega);rintro e w' ⟨rfl,rfl⟩))
   go_wp2;go_roundw;case rel=>
    refine⟨k+1,oE,nF,cw<|aW G.out<|ri _ _ _ _,λi a=>?_,λi=>?_,λi a=>?_,λi a=>?_⟩
    .rw[World.cell?_drew,World.cell?_setCell_other _ _ _ _<|by simp<;>omega];exact g.out i a
    .rw[World.frozen?_drew,World.frozen?_setCell];exact F.out i
    .rw[World.cell?_drew];by_cases e:i=k
     .subst e;exact World.cell?_setCell_same _ _ _ hold
     .rw[World.cell?_setCell_other _ _ _ _<|by simp<;>omega];exact T.out i oE
    .rw[World.cell?_drew];by_cases e:i=k
     .subst e;exact⟨_,World.cell?_setCell_same _ _ _ hold⟩
     .rw[World.cell?_setCell_other _ _ _ _<|by simp<;>omega];exact A.out i a
   case measure=>simp[intOf];omega
  .have ek:k=256:=oE;subst ek;go_wp2;go_end0;exact⟨rfl,j,c,ie,d⟩
theorem Iz(w:World)(b:Nat)(k:w.cell? (dH b)=some (.int .u32 0))(c:w.cell? (d8 b 1)=some (.int .i32 1))(f:∀i,w.frozen? (d8 b i)=false)
  (a:∀i,i<256->w.cell? (d8 b<|3+i)=some (.int .u32 (ee 8 i:Nat))):gq ((w.drew.setCell (dH b)<|.int .u32 1).setCell (d8 b 1)<|.int .i32 0) b true:=by
 have t:∀i,i<256->((w.drew.setCell ⟨b,0,none⟩<|.int .u32 1).setCell ⟨b,1,none⟩<|.int .i32 0).cell? ⟨b,3+i,none⟩=some (.int .u32 (ee 8 i:Nat)):=λi h=>by
  rw[World.cell?_setCell_other _ _ _ _<|by simp<;>omega,World.cell?_setCell_other _ _ _ _<|by simp<;>omega,World.cell?_drew];exact a i h
 refine⟨?_,?_,λ_=>t,λi h=>⟨_,t i h⟩,λi=>?_⟩
 .rw[World.cell?_setCell_other _ _ _ _ sE];exact World.cell?_setCell_same _ _ _<|(World.cell?_drew _ _).trans k
 .refine World.cell?_setCell_same (u:=.int .i32 1) _ _ _ ?_;rw[World.cell?_setCell_other _ _ _ _ sE,World.cell?_drew];exact c
 .simp_all
theorem PH(b:Nat)(l:Addr)(U:¬l.block=b)(w:World)(hp:w.cell? l=some (rM b))(m:gq w b false):
  Calls prog 279 #[rM b,.func (.func 248) #[] #[.pointer<|some l]] w λe w'=>e=.returned (.tuple #[])/\gq w' b true/\w.grownBy w' (some b):=by
 have g:=m.c0;have o:=m.c1;have r:=m.free 0;have y:=m.free 1;have M:=ae m;clear m;have s:=run_call_load (P:=prog) func301 k6 k6 k6 .u32 k6 (w:=w.setCell ⟨b,1,none⟩<|.int .i32 1) (a:=⟨b,0,none⟩) (x:=0) ((World.cell?_setCell_other _ ⟨b,1,none⟩ ⟨b,0,none⟩ _ sE).trans g);have T:Hid ((w.setCell ⟨b,1,none⟩<|.int .i32 1).cell? l=some (.pointer<|some ⟨b,0,none⟩)):=(World.cell?_setCell_other _ ⟨b,1,none⟩ l _ λh=>U<|by rw[<-h]).trans hp;have t:∀(x:Bool) (w:World),(Op.unary .not<|.bool x).run prog w=.ok (.bool<|!x) w:=λ_ _=>rfl
 go_enter_defers func279,ntmps279;go_wp2_with (first|(go_at_call 302;apply(MS ⟨b,1,none⟩ _ (by go_simp)<|by go_simp).mono;rintro e w' ⟨rfl,rfl⟩)|(go_at_call 278;go_in))
 refine(PG b l U _ T.out (λi n=>?_) λi=>?_).mono ?_
 .obtain⟨v,hv⟩:=M.out.any i n;exact⟨v,(World.cell?_setCell_other _ ⟨b,1,none⟩ ⟨b,3+i,none⟩ _<|by simp<;>omega).trans hv⟩
 .rw[World.frozen?_setCell];exact M.out.free i
 rintro e c ⟨rfl,j9,lj,ie,htab⟩;have k:c.cell? ⟨b,0,none⟩=some (.int .u32 0):=(lj 0 oE).trans ((World.cell?_setCell_other _ ⟨b,1,none⟩ ⟨b,0,none⟩ _ sE).trans g);have d:c.cell? ⟨b,1,none⟩=some (.int .i32 1):=(lj 1 oE).trans<|World.cell?_setCell_same _ _ _ o;have j:=ie 0;have q:=ie 1;have G:=ae j9;have F:=ae ie;have H:=ae htab;clear j9 lj ie htab;go_wp2;apply leaves_cons (f:=304) (args:=#[.pointer<|some ⟨b,0,none⟩,.bool true]) sE (by simp[go_sem]);apply(zx ⟨b,0,none⟩ (.int .u32 0) .returning _ k j).mono;rintro e u p ⟨rfl,rfl,rfl⟩;apply leaves_cons (f:=303) (args:=#[.pointer<|some ⟨b,1,none⟩]) (by simp[settle]) (by simp[go_sem]);refine(yH ⟨b,1,none⟩ _ _ ?_<|by simp[q]).mono ?_
 .refine(World.cell?_setCell_other _ ⟨b,0,none⟩ ⟨b,1,none⟩ _ sE).trans ?_;rw[World.cell?_drew];exact d
 rintro e u p ⟨rfl,rfl,rfl⟩;simp only[Leaves,settle];refine⟨.tuple #[],by simp[results,results279],rfl,?_,?_⟩
 .exact Iz c b k d F.out H.out
 .exact aW (ri _ _ _ _)<|aW (aW (cw G.out)<|ri _ _ _ _)<|ri _ _ _ _
theorem PJ(b:Nat)(l:Addr)(U:¬l.block=b)(w:World)(hp:w.cell? l=some (rM b))(m:gq w b false):
  Calls prog 247 #[rM b,.func (.func 248) #[] #[.pointer<|some l]] w λe w'=>e=.returned (.tuple #[])/\gq w' b true/\w.grownBy w' (some b):=by
 have h:=m.c0;have a:=run_call_load (P:=prog) func301 k6 k6 k6 .u32 k6 h;have T:∀(x:Bool) (w:World),(Op.unary .not<|.bool x).run prog w=.ok (.bool<|!x) w:=λ_ _=>rfl
 go_enter func247,ntmps247;go_wp2_with (first|(go_at_call 279;apply(PH b l U _ hp m).mono;rintro e w' ⟨rfl,hm',j9⟩)|(go_at_call 278;go_in));go_end0;exact⟨rfl,pE,pE⟩
theorem T_(b:Nat)(v:Value)(w:World)(m:gq w b true):
  Calls prog 247 #[rM b,v] w λe w'=>e=.returned (.tuple #[])/\w'=w:=by
 have h:=m.c0;have l:=run_call_load (P:=prog) func301 k6 k6 k6 .u32 k6 h;have T:∀(x:Bool) (w:World),(Op.unary .not<|.bool x).run prog w=.ok (.bool<|!x) w:=λ_ _=>rfl
 go_enter func247,ntmps247;go_wp2;go_end0;exact⟨rfl,rfl⟩
end Go.Proofs.YtdcafjmdfpjcbaaGreatDoor
