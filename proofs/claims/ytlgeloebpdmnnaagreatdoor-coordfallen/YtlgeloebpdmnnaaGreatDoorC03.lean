import Derived.Test.YtlgeloebpdmnnaaGreatDoorC01
import Derived.Shelf.Small.Bits
import Derived.Shelf.Small.Wraps
import Derived.Shelf.Strconv.Itoa3
import Derived.Shelf.Strconv.Clone
import Derived.Shelf.Pu.ParseUintPublic10
import Derived.Shelf.Sort.Plain
import Derived.Shelf.Slices.In.SortNone2
import Derived.Shelf.SlicesE.Clone
set_option maxHeartbeats 4000000
set_option maxRecDepth 100000
namespace Go.Proofs.YtlgeloebpdmnnaaGreatDoor
open Go.RowKit Go.Maps Tryz Sc
def vp(b f k p:Nat):Option Addr:=if p=k then some (hP b f) else some (hP b (f+k))
theorem lK{b f k p:Nat}(h:k<p):vp b f k p=some (hP b<|f+k):=by grind[vp]
theorem pP(b f k:Nat):vp b f k k=some (hP b f):=by grind[vp]
theorem tK(xs:List Nat)(k n j:Nat):bs (xs++(List.range<|j+1).map (digit k n))=bs (xs++(List.range j).map (digit k n))++[.int .u8 ((digit k n j:Nat):Int)]:=by
 rw[List.range_succ,BB,<-zzx,RR];rfl
theorem DC(w:nL):Calls prog 271 #[] w λe w'=>e=.returned (.int .i64 2)/\w'=w:=by
 have M:IntKind.u16.signed=false:=rfl;have hb:bits .xor .u16 IntKind.u16.max 0=65535:=by decide +kernel
 go_enter func271,ntmps271;go_wp2;go_ret;refine⟨?_,rfl⟩;kernel_rfl
theorem WE(base g k p:Nat)(xs:List Nat)(n:Nat)(w:nL)(M:w.ownsRow base 5 1 (.slice (some<|gi g) k p) k<|bs xs)(r:k+2<=p)(hn:n<65536):
  Calls prog 219 #[.slice (some<|gi g) k p,.int .u16 n] w λe w'=>e=.returned (.slice (some<|gi g) (k+2) p)/\w'.ownsRow base 5 1 (.slice (some<|gi g) (k+2) p) (k+2) (bs<|xs++be 2 n)/\w.grownBy w' (some g):=by
 have⟨c,a,m,b,o⟩:=tO zd;have N:=ah hn;go_enter func219,ntmps219;go_wp2_with (go_at_call 271;apply(DC _).mono;rintro e w' ⟨rfl,hw⟩;have I:=hw.symm;subst I;clear hw);go_loopw [0,5] (λv i wr=>∃j:Nat,j<=2/\i=.int .i64 ((2:Int)-1-j)/\v=.slice (some (gi g)) (k+j) p/\wr.ownsRow base 5 1 (.slice (some (gi g)) (k+j) p) (k+j) (bs<|xs++(List.range j).map (digit 2 n))/\w.grownBy wr (some g)) (λ_ i _=>(intOf i+1).toNat);case atStart=>exact⟨0,zzs _,eR,rfl,by simpa using M,jg _ _⟩
 case round=>
  obtain⟨j,l,rfl,rfl,W,z⟩:=hrel;by_cases f:j<2
  .have HD:=ah<|tJ n 2 j
   go_wp2_with (at_builtin;apply wpList_append_fits _ rfl _ _ 217 rfl base 5 c 1 underlying217 a b g (k+j) p _ rfl (W.alloc _) ⟨nF wr,0,none⟩ 1 1 [.int .u8<|(n:Int)/2^(8*(1-j))%256] rfl rfl ?c1 ?c2 ?c3);case c1=>
    intro d u K;match d,K with
    |0,K=>simp at K;subst K;simp[Addr.add]
   case c2=>intro u h;simp at h;subst h;rfl
   case c3=>omega
   .intro w1 bF bK;have V:=cI z<|cI (iV _ _ _) bK
    have R:w1.ownsRow base 5 1 (.slice (some (gi g)) (k+(j+1)) p) (k+(j+1)) (bs<|xs++(List.range<|j+1).map (digit 2 n)):=by
     rw[HD.out]at bF;rw[tK,<-Nat.add_assoc];exact bF
    clear bF bK W z;go_wp2;go_roundw;case rel=>exact⟨j+1,dp,int_eq dp,rfl,R,V⟩
    case measure=>simp[intOf]<;>omega
  .have ek:j=2:=dp;subst ek;go_wp2;go_ret;exact⟨rfl,W,z⟩
theorem WG(C A:Nat)(b:C<72057594037927936)(a:A<256):bits .or .u64 ((C:Int)*256) (A:Int)=((C*256+A:Nat):Int):=by
 have h:=u64_or_nat (C*256) A dp dp;rw[show((C:Int)*256)=((C*256:Nat):Int) by omega,h];congr 1;rw[show C*256=C<<<8 from(Nat.shiftLeft_eq C 8).symm,<-Nat.shiftLeft_add_eq_or_of_lt (show A<2^8 from a)]
theorem G3(b o n p:Nat)(l:List Nat)(w:nL)(g:mG l)(hn:l.length=n)(j:2<=n)(A:n<=p)(u:p<=maxLen)(f:cX w b o l):
  Calls prog 315 #[.slice (some<|hP b o) n p] w λe w'=>e=.returned (.tuple #[.int .u16 (val (l.take 2):Nat),.slice (vp b o 2 p) (n-2)<|p-2])/\∃q,w'=w.drewN q:=by
 have N:=ah hn;clear hn;unfold maxLen at u;have x:(2:Int)<=p:=dp;have y:(2:Int)<=n:=dp;go_enter func315,ntmps315;go_wp2_with (go_at_call 271;apply(DC _).mono;rintro e w' ⟨rfl,j⟩;have I:=j.symm;subst I;clear j);go_loop [5,13] (λc i=>∃k:Nat,k<=2/\i=.int .i64 k/\c=.int .u64 (val (l.take k):Nat)) (λ_ i=>2-(intOf i).toNat);case atStart=>exact⟨0,zzs _,rfl,rfl⟩
 case round=>
  obtain⟨k,t,rfl,rfl⟩:=hrel;by_cases W:k<2
  .have Kq:=f k (by rw[N.out];omega);have r:=ah f;clear f;have m:=Dx g k;have B:val (l.take k)<72057594037927936:=by
    have h:=qF (l.take k)<|g.rB k;have a:(l.take k).length<=7:=by rw[zzm,N.out];omega
    have s:256^(l.take k).length<=256^7:=Nat.pow_le_pow_right (by omega) a;omega
   have⟨C,d⟩:=gb <|val (l.take k);rw[<-d]at B ⊢;have H:Hid (val (l.take<|k+1)=C*256+at_ l k):=by
    show _=_;rw[tH l k<|by rw[N.out];omega,rZ,d]
   clear d;have v:=WG C (at_ l k) B m;go_wp2;go_round;case rel=>exact⟨k+1,dp,eR,by rw[H.out];exact int_eq dp⟩
   case measure=>simp[intOf];omega
  .have ek:k=2:=dp;subst ek;have B:val (l.take 2)<65536:=by
    have h:=qF (l.take 2)<|g.rB 2;have a:(l.take 2).length=2:=by rw[zzm,N.out];omega
    rw[a]at h;exact h
   by_cases z:p=2
   .subst z;obtain rfl:n=2:=dp;go_wp2;go_quiet (fail)
    go_wp2;go_ret2;refine⟨?_,_,rfl⟩;rw[pP];rfl
   .go_wp2;go_quiet (fail)
    go_wp2;go_ret2;refine⟨?_,_,rfl⟩;rw[lK dp];rfl
theorem tL(w:nL):Calls prog 272 #[] w λe w'=>e=.returned (.int .i64 8)/\w'=w:=by
 have M:IntKind.u64.signed=false:=rfl;have hb:bits .xor .u64 IntKind.u64.max 0=18446744073709551615:=by decide +kernel
 go_enter func272,ntmps272;go_wp2;go_ret;refine⟨?_,rfl⟩;kernel_rfl
theorem WH(base g k p:Nat)(xs:List Nat)(n:Nat)(w:nL)(M:w.ownsRow base 5 1 (.slice (some<|gi g) k p) k<|bs xs)(r:k+8<=p)(hn:n<2^64):
  Calls prog 220 #[.slice (some<|gi g) k p,.int .u64 n] w λe w'=>e=.returned (.slice (some<|gi g) (k+8) p)/\w'.ownsRow base 5 1 (.slice (some<|gi g) (k+8) p) (k+8) (bs<|xs++be 8 n)/\w.grownBy w' (some g):=by
 have⟨c,a,m,b,o⟩:=tO zd;have N:=ah hn;clear hn;go_enter func220,ntmps220;go_wp2_with (go_at_call 272;apply(tL _).mono;rintro e w' ⟨rfl,hw⟩;have I:=hw.symm;subst I;clear hw);go_loopw [0,5] (λv i wr=>∃j:Nat,j<=8/\i=.int .i64 ((8:Int)-1-j)/\v=.slice (some (gi g)) (k+j) p/\wr.ownsRow base 5 1 (.slice (some (gi g)) (k+j) p) (k+j) (bs<|xs++(List.range j).map (digit 8 n))/\w.grownBy wr (some g)) (λ_ i _=>(intOf i+1).toNat);case atStart=>exact⟨0,zzs _,eR,rfl,by simpa using M,jg _ _⟩
 case round=>
  obtain⟨j,l,rfl,rfl,W,z⟩:=hrel;by_cases f:j<8
  .have HD:=ah<|tJ n 8 j
   go_wp2_with (at_builtin;apply wpList_append_fits _ rfl _ _ 217 rfl base 5 c 1 underlying217 a b g (k+j) p _ rfl (W.alloc _) ⟨nF wr,0,none⟩ 1 1 [.int .u8<|(n:Int)/2^(8*(7-j))%256] rfl rfl ?c1 ?c2 ?c3);case c1=>
    intro d u K;match d,K with
    |0,K=>simp at K;subst K;simp[Addr.add]
   case c2=>intro u h;simp at h;subst h;rfl
   case c3=>omega
   .intro w1 bF bK;have V:=cI z<|cI (iV _ _ _) bK
    have R:w1.ownsRow base 5 1 (.slice (some (gi g)) (k+(j+1)) p) (k+(j+1)) (bs<|xs++(List.range<|j+1).map (digit 8 n)):=by
     rw[HD.out]at bF;rw[tK,<-Nat.add_assoc];exact bF
    clear bF bK W z;go_wp2;go_roundw;case rel=>exact⟨j+1,dp,int_eq dp,rfl,R,V⟩
    case measure=>simp[intOf]<;>omega
  .have ek:j=8:=dp;subst ek;go_wp2;go_ret;exact⟨rfl,W,z⟩
theorem WI(C A:Nat)(b:C<72057594037927936)(a:A<256):bits .or .u64 ((C:Int)*256) (A:Int)=((C*256+A:Nat):Int):=by
 have h:=u64_or_nat (C*256) A dp dp;rw[show((C:Int)*256)=((C*256:Nat):Int) by omega,h];congr 1;rw[show C*256=C<<<8 from(Nat.shiftLeft_eq C 8).symm,<-Nat.shiftLeft_add_eq_or_of_lt (show A<2^8 from a)]
theorem G4(b o n p:Nat)(l:List Nat)(w:nL)(g:mG l)(hn:l.length=n)(j:8<=n)(A:n<=p)(u:p<=maxLen)(f:cX w b o l):
  Calls prog 298 #[.slice (some<|hP b o) n p] w λe w'=>e=.returned (.tuple #[.int .u64 (val (l.take 8):Nat),.slice (vp b o 8 p) (n-8)<|p-8])/\∃q,w'=w.drewN q:=by
 have N:=ah hn;clear hn;unfold maxLen at u;have x:(8:Int)<=p:=dp;have y:(8:Int)<=n:=dp;go_enter func298,ntmps298;go_wp2_with (go_at_call 272;apply(tL _).mono;rintro e w' ⟨rfl,j⟩;have I:=j.symm;subst I;clear j);go_loop [5,13] (λc i=>∃k:Nat,k<=8/\i=.int .i64 k/\c=.int .u64 (val (l.take k):Nat)) (λ_ i=>8-(intOf i).toNat);case atStart=>exact⟨0,zzs _,rfl,rfl⟩
 case round=>
  obtain⟨k,t,rfl,rfl⟩:=hrel;by_cases W:k<8
  .have Kq:=f k (by rw[N.out];omega);have r:=ah f;clear f;have m:=Dx g k;have B:val (l.take k)<72057594037927936:=by
    have h:=qF (l.take k)<|g.rB k;have a:(l.take k).length<=7:=by rw[zzm,N.out];omega
    have s:256^(l.take k).length<=256^7:=Nat.pow_le_pow_right (by omega) a;omega
   have⟨C,d⟩:=gb <|val (l.take k);rw[<-d]at B ⊢;have H:Hid (val (l.take<|k+1)=C*256+at_ l k):=by
    show _=_;rw[tH l k<|by rw[N.out];omega,rZ,d]
   clear d;have v:=WI C (at_ l k) B m;go_wp2;go_round;case rel=>exact⟨k+1,dp,eR,by rw[H.out];exact int_eq dp⟩
   case measure=>simp[intOf];omega
  .have ek:k=8:=dp;subst ek;have B:val (l.take 8)<18446744073709551616:=by
    have h:=qF (l.take 8)<|g.rB 8;have a:(l.take 8).length=8:=by rw[zzm,N.out];omega
    rw[a]at h;exact h
   by_cases z:p=8
   .subst z;obtain rfl:n=8:=dp;clear B;go_wp2;go_quiet (fail)
    go_wp2;go_ret2;refine⟨?_,_,rfl⟩;rw[pP];rfl
   .clear B;go_wp2;go_quiet (fail)
    go_wp2;go_ret2;refine⟨?_,_,rfl⟩;rw[lK dp];rfl
theorem wJ(w:nL):Calls prog 273 #[] w λe w'=>e=.returned (.int .i64 1)/\w'=w:=by
 have M:IntKind.u8.signed=false:=rfl;have hb:bits .xor .u8 IntKind.u8.max 0=255:=by decide +kernel
 go_enter func273,ntmps273;go_wp2;go_ret;refine⟨?_,rfl⟩;kernel_rfl
theorem aam(base g k p:Nat)(xs:List Nat)(n:Nat)(w:nL)(M:w.ownsRow base 5 1 (.slice (some<|gi g) k p) k<|bs xs)(r:k+1<=p)(hn:n<256):
  Calls prog 221 #[.slice (some<|gi g) k p,.int .u8 n] w λe w'=>e=.returned (.slice (some<|gi g) (k+1) p)/\w'.ownsRow base 5 1 (.slice (some<|gi g) (k+1) p) (k+1) (bs<|xs++be 1 n)/\w.grownBy w' (some g):=by
 have⟨c,a,m,b,o⟩:=tO zd;have N:=ah hn;go_enter func221,ntmps221;go_wp2_with (go_at_call 273;apply(wJ _).mono;rintro e w' ⟨rfl,hw⟩;have I:=hw.symm;subst I;clear hw);go_loopw [0,5] (λv i wr=>∃j:Nat,j<=1/\i=.int .i64 ((1:Int)-1-j)/\v=.slice (some (gi g)) (k+j) p/\wr.ownsRow base 5 1 (.slice (some (gi g)) (k+j) p) (k+j) (bs<|xs++(List.range j).map (digit 1 n))/\w.grownBy wr (some g)) (λ_ i _=>(intOf i+1).toNat);case atStart=>exact⟨0,zzs _,eR,rfl,by simpa using M,jg _ _⟩
 case round=>
  obtain⟨j,l,rfl,rfl,W,z⟩:=hrel;by_cases f:j<1
  .have HD:Hid ((n:Int)=((digit 1 n 0:Nat):Int)):=by show _=_;unfold digit;simp;omega
   obtain rfl:j=0:=dp;rw[Nat.add_zero]at W;go_wp2_with (at_builtin;apply wpList_append_fits _ rfl _ _ 217 rfl base 5 c 1 underlying217 a b g k p _ rfl (W.alloc _) ⟨nF wr,0,none⟩ 1 1 [.int .u8 (n:Int)] rfl rfl ?c1 ?c2 ?c3);case c1=>
    intro d u K;match d,K with
    |0,K=>simp at K;subst K;simp[Addr.add]
   case c2=>intro u h;simp at h;subst h;rfl
   case c3=>omega
   .intro w1 bF bK;have V:=cI z<|cI (iV _ _ _) bK
    have R:w1.ownsRow base 5 1 (.slice (some (gi g)) (k+(0+1)) p) (k+(0+1)) (bs<|xs++(List.range<|0+1).map (digit 1 n)):=by
     have e:=HD.out;rw[tK,<-e];simpa using bF
    clear bF bK W z;go_wp2;go_roundw;case rel=>exact⟨0+1,dp,int_eq dp,rfl,R,V⟩
    case measure=>simp[intOf]<;>omega
  .have ek:j=1:=dp;subst ek;go_wp2;go_ret;exact⟨rfl,W,z⟩
theorem aan(C A:Nat)(b:C<72057594037927936)(a:A<256):bits .or .u64 ((C:Int)*256) (A:Int)=((C*256+A:Nat):Int):=by
 have h:=u64_or_nat (C*256) A dp dp;rw[show((C:Int)*256)=((C*256:Nat):Int) by omega,h];congr 1;rw[show C*256=C<<<8 from(Nat.shiftLeft_eq C 8).symm,<-Nat.shiftLeft_add_eq_or_of_lt (show A<2^8 from a)]
theorem MR(b o n p:Nat)(l:List Nat)(w:nL)(g:mG l)(hn:l.length=n)(j:1<=n)(A:n<=p)(u:p<=maxLen)(f:cX w b o l):
  Calls prog 300 #[.slice (some<|hP b o) n p] w λe w'=>e=.returned (.tuple #[.int .u8 (val (l.take 1):Nat),.slice (vp b o 1 p) (n-1)<|p-1])/\∃q,w'=w.drewN q:=by
 have N:=ah hn;clear hn;unfold maxLen at u;have x:(1:Int)<=p:=dp;have y:(1:Int)<=n:=dp;go_enter func300,ntmps300;go_wp2_with (go_at_call 273;apply(wJ _).mono;rintro e w' ⟨rfl,j⟩;have I:=j.symm;subst I;clear j);go_loop [5,13] (λc i=>∃k:Nat,k<=1/\i=.int .i64 k/\c=.int .u64 (val (l.take k):Nat)) (λ_ i=>1-(intOf i).toNat);case atStart=>exact⟨0,zzs _,rfl,rfl⟩
 case round=>
  obtain⟨k,t,rfl,rfl⟩:=hrel;by_cases W:k<1
  .have Kq:=f k (by rw[N.out];omega);have r:=ah f;clear f;have m:=Dx g k;have B:val (l.take k)<72057594037927936:=by
    have h:=qF (l.take k)<|g.rB k;have a:(l.take k).length<=7:=by rw[zzm,N.out];omega
    have s:256^(l.take k).length<=256^7:=Nat.pow_le_pow_right (by omega) a;omega
   have⟨C,d⟩:=gb <|val (l.take k);rw[<-d]at B ⊢;have H:Hid (val (l.take<|k+1)=C*256+at_ l k):=by
    show _=_;rw[tH l k<|by rw[N.out];omega,rZ,d]
   clear d;have v:=aan C (at_ l k) B m;go_wp2;go_round;case rel=>exact⟨k+1,dp,eR,by rw[H.out];exact int_eq dp⟩
   case measure=>simp[intOf];omega
  .have ek:k=1:=dp;subst ek;have B:val (l.take 1)<256:=by
    have h:=qF (l.take 1)<|g.rB 1;have a:(l.take 1).length=1:=by rw[zzm,N.out];omega
    rw[a]at h;exact h
   by_cases z:p=1
   .subst z;obtain rfl:n=1:=dp;go_wp2;go_quiet (fail)
    go_wp2;go_ret2;refine⟨?_,_,rfl⟩;rw[pP];rfl
   .go_wp2;go_quiet (fail)
    go_wp2;go_ret2;refine⟨?_,_,rfl⟩;rw[lK dp];rfl
theorem DD(w:nL):Calls prog 302 #[] w λe w'=>e=.returned (.int .i64 4)/\w'=w:=by
 have M:IntKind.u32.signed=false:=rfl;have hb:bits .xor .u32 IntKind.u32.max 0=4294967295:=by decide +kernel
 go_enter func302,ntmps302;go_wp2;go_ret;refine⟨?_,rfl⟩;kernel_rfl
theorem WJ(base g k p:Nat)(xs:List Nat)(n:Nat)(w:nL)(M:w.ownsRow base 5 1 (.slice (some<|gi g) k p) k<|bs xs)(r:k+4<=p)(hn:n<4294967296):
  Calls prog 274 #[.slice (some<|gi g) k p,.int .u32 n] w λe w'=>e=.returned (.slice (some<|gi g) (k+4) p)/\w'.ownsRow base 5 1 (.slice (some<|gi g) (k+4) p) (k+4) (bs<|xs++be 4 n)/\w.grownBy w' (some g):=by
 have⟨c,a,m,b,o⟩:=tO zd;have N:=ah hn;go_enter func274,ntmps274;go_wp2_with (go_at_call 302;apply(DD _).mono;rintro e w' ⟨rfl,hw⟩;have I:=hw.symm;subst I;clear hw);go_loopw [0,5] (λv i wr=>∃j:Nat,j<=4/\i=.int .i64 ((4:Int)-1-j)/\v=.slice (some (gi g)) (k+j) p/\wr.ownsRow base 5 1 (.slice (some (gi g)) (k+j) p) (k+j) (bs<|xs++(List.range j).map (digit 4 n))/\w.grownBy wr (some g)) (λ_ i _=>(intOf i+1).toNat);case atStart=>exact⟨0,zzs _,eR,rfl,by simpa using M,jg _ _⟩
 case round=>
  obtain⟨j,l,rfl,rfl,W,z⟩:=hrel;by_cases f:j<4
  .have HD:=ah<|tJ n 4 j
   go_wp2_with (at_builtin;apply wpList_append_fits _ rfl _ _ 217 rfl base 5 c 1 underlying217 a b g (k+j) p _ rfl (W.alloc _) ⟨nF wr,0,none⟩ 1 1 [.int .u8<|(n:Int)/2^(8*(3-j))%256] rfl rfl ?c1 ?c2 ?c3);case c1=>
    intro d u K;match d,K with
    |0,K=>simp at K;subst K;simp[Addr.add]
   case c2=>intro u h;simp at h;subst h;rfl
   case c3=>omega
   .intro w1 bF bK;have V:=cI z<|cI (iV _ _ _) bK
    have R:w1.ownsRow base 5 1 (.slice (some (gi g)) (k+(j+1)) p) (k+(j+1)) (bs<|xs++(List.range<|j+1).map (digit 4 n)):=by
     rw[HD.out]at bF;rw[tK,<-Nat.add_assoc];exact bF
    clear bF bK W z;go_wp2;go_roundw;case rel=>exact⟨j+1,dp,int_eq dp,rfl,R,V⟩
    case measure=>simp[intOf]<;>omega
  .have ek:j=4:=dp;subst ek;go_wp2;go_ret;exact⟨rfl,W,z⟩
theorem WK(C A:Nat)(b:C<72057594037927936)(a:A<256):bits .or .u64 ((C:Int)*256) (A:Int)=((C*256+A:Nat):Int):=by
 have h:=u64_or_nat (C*256) A dp dp;rw[show((C:Int)*256)=((C*256:Nat):Int) by omega,h];congr 1;rw[show C*256=C<<<8 from(Nat.shiftLeft_eq C 8).symm,<-Nat.shiftLeft_add_eq_or_of_lt (show A<2^8 from a)]
theorem R5(b o n p:Nat)(l:List Nat)(w:nL)(g:mG l)(hn:l.length=n)(j:4<=n)(A:n<=p)(u:p<=maxLen)(f:cX w b o l):
  Calls prog 317 #[.slice (some<|hP b o) n p] w λe w'=>e=.returned (.tuple #[.int .u32 (val (l.take 4):Nat),.slice (vp b o 4 p) (n-4)<|p-4])/\∃q,w'=w.drewN q:=by
 have N:=ah hn;clear hn;unfold maxLen at u;have x:(4:Int)<=p:=dp;have y:(4:Int)<=n:=dp;go_enter func317,ntmps317;go_wp2_with (go_at_call 302;apply(DD _).mono;rintro e w' ⟨rfl,j⟩;have I:=j.symm;subst I;clear j);go_loop [5,13] (λc i=>∃k:Nat,k<=4/\i=.int .i64 k/\c=.int .u64 (val (l.take k):Nat)) (λ_ i=>4-(intOf i).toNat);case atStart=>exact⟨0,zzs _,rfl,rfl⟩
 case round=>
  obtain⟨k,t,rfl,rfl⟩:=hrel;by_cases W:k<4
  .have Kq:=f k (by rw[N.out];omega);have r:=ah f;clear f;have m:=Dx g k;have B:val (l.take k)<72057594037927936:=by
    have h:=qF (l.take k)<|g.rB k;have a:(l.take k).length<=7:=by rw[zzm,N.out];omega
    have s:256^(l.take k).length<=256^7:=Nat.pow_le_pow_right (by omega) a;omega
   have⟨C,d⟩:=gb <|val (l.take k);rw[<-d]at B ⊢;have H:Hid (val (l.take<|k+1)=C*256+at_ l k):=by
    show _=_;rw[tH l k<|by rw[N.out];omega,rZ,d]
   clear d;have v:=WK C (at_ l k) B m;go_wp2;go_round;case rel=>exact⟨k+1,dp,eR,by rw[H.out];exact int_eq dp⟩
   case measure=>simp[intOf];omega
  .have ek:k=4:=dp;subst ek;have B:val (l.take 4)<4294967296:=by
    have h:=qF (l.take 4)<|g.rB 4;have a:(l.take 4).length=4:=by rw[zzm,N.out];omega
    rw[a]at h;exact h
   by_cases z:p=4
   .subst z;obtain rfl:n=4:=dp;go_wp2;go_quiet (fail)
    go_wp2;go_ret2;refine⟨?_,_,rfl⟩;rw[pP];rfl
   .go_wp2;go_quiet (fail)
    go_wp2;go_ret2;refine⟨?_,_,rfl⟩;rw[lK dp];rfl
section
open Go.Extern Go.Extern.Stop Go.Stop
variable{w:nL}
def Met(w:nL):Prop:=w.cell? (gi 0)=some (.iface 283 (.agg #[.pointer (some (hP 6 74))]))
theorem Met.lt(h:Met w):0<w.heap.size:=zzF w (gi 0) h
theorem Met.below{w':nL}{B:Nat}(h:Met w)(hb:Below B w w')(a:0<B):Met w':=(hb.cell a).trans h
theorem aar(n:Int)(t:Addr)(d:Value)(w:nL)(g:Met w)(V:w.cell? t=some d)(I:w.frozen? t=false):
  Calls prog 94 #[.iface 27 (.int .i64 n),.iface 141 (.pointer (some t))] w λv w'=>v=.returned (.bool true)/\w'=((((w.alloc (.cells #[.pointer (some t)] 141)).alloc (.cells #[.pointer (some (hP 6 141)),gx w.heap.size,.int .u64 150] 205)).alloc (.cells #[.pointer (some (hP 6 141)),gx w.heap.size,.int .u64 150] 205)).alloc (.cells #[.int .i64 n] 27)).setCell t (.int .i64 n):=by
 have m:=@run_callFunc_extern prog 148 _ (λargs=>ReflectliteValue.unpack (args.getD 0 (.tuple #[]))) func148 eu eu eu eu;have o:=@run_callFunc_extern prog 149 _ (ReflectliteValue.methodAny (ReflectliteValue.valueError "reflectlite.Value.Type" 0) (λt _ _ _=>ReflectliteType.toType t)) func149 eu eu eu eu;have p:=@run_callFunc_extern prog 150 _ (ReflectliteValue.method (ReflectliteValue.valueError "reflectlite.Value.IsNil" 0) ReflectliteValue.isNil) func150 eu eu eu eu;have c:=@run_callFunc_extern prog 404 _ (ReflectliteType.abiMethod λt=>do pure (.int .u8 (<-Rtype.kind t))) func404 eu eu eu eu;have j:=@run_callFunc_extern prog 427 _ (ReflectliteType.method ReflectliteType.elem) func427 eu eu eu eu;have k:=@run_callFunc_extern prog 428 _ (ReflectliteType.relation "Implements" ReflectliteType.implements_) func428 eu eu eu eu;have G:=@run_callFunc_extern prog 152 _ ReflectliteType.typeOf func152 eu eu eu eu;have i:=@run_callFunc_extern prog 425 _ (ReflectliteType.relation "AssignableTo" ReflectliteType.assignableTo) func425 eu eu eu eu
 have r:=@run_callFunc_extern prog 217 _ (ReflectliteValue.method (ReflectliteValue.valueError "reflectlite.Value.Elem" 0) ReflectliteValue.elem) func217 eu eu eu eu;have s:=@run_callFunc_extern prog 218 _ ReflectliteValue.set func218 eu eu eu eu;have O:=MU;have A:=vq;have a:=G7;have B:=Si;have f:=Sf;have b:=ab';have K:=Kw;have E:=Ky;have y:=xX;have x:=aca;have u:=acb;have e:=acd;have q:=G6;have z:=aao ⟨w.heap.size,0,none⟩ t ((w.alloc (.cells #[.pointer (some t)] 141)).alloc (.cells #[.pointer (some ⟨6,141,none⟩),.pointer (some ⟨w.heap.size,0,none⟩),.int .u64 150] 205)) dv;have W:=g.lt;unfold Met at g
 have T:((w.alloc (.cells #[.pointer (some t)] 141)).alloc (.cells #[.pointer (some ⟨6,141,none⟩),.pointer (some ⟨w.heap.size,0,none⟩),.int .u64 150] 205)).cell? ⟨0,0,none⟩=some (.iface 283 (.agg #[.pointer (some ⟨6,74,none⟩)])):=by
  rw[sR _ _ ⟨0,0,none⟩ dv,sR _ _ ⟨0,0,none⟩ W];exact g
 have h:t.block<w.heap.size:=zzF w t V;have l:=aap ⟨w.heap.size,0,none⟩ t (((w.alloc (.cells #[.pointer (some t)] 141)).alloc (.cells #[.pointer (some ⟨6,141,none⟩),.pointer (some ⟨w.heap.size,0,none⟩),.int .u64 150] 205)).alloc (.cells #[.pointer (some ⟨6,141,none⟩),.pointer (some ⟨w.heap.size,0,none⟩),.int .u64 150] 205)) (by rw[sR _ _ ⟨w.heap.size,0,none⟩ ef];simp)
 have st:=ae0 t ⟨w.heap.size+1+1+1,0,none⟩ n d ((((w.alloc (.cells #[.pointer (some t)] 141)).alloc (.cells #[.pointer (some ⟨6,141,none⟩),.pointer (some ⟨w.heap.size,0,none⟩),.int .u64 150] 205)).alloc (.cells #[.pointer (some ⟨6,141,none⟩),.pointer (some ⟨w.heap.size,0,none⟩),.int .u64 150] 205)).alloc (.cells #[.int .i64 n] 27))
  (by rw[World.cell?_alloc_at _ _ _ _ dv];rfl)
  (by rw[sR _ _ t ef,sR _ _ t ef,sR _ _ t ef,sR _ _ t h];exact V)
  (by rw[World.frozen?_alloc_old _ _ t ef,World.frozen?_alloc_old _ _ t ef,World.frozen?_alloc_old _ _ t ef,World.frozen?_alloc_old _ _ t (Nat.ne_of_lt h)];exact I)
 go_enter func94,ntmps94
 go_wp2;refine Bn 1 ?_;rw[wk];go_wp2;go_ret;exact⟨rfl,rfl⟩
theorem CW(w:nL)(d:Nat)(a b:Int):
  (Op.equalIn (d+2) 74 (.iface 27<|.int .i64 a)<|.iface 27<|.int .i64 b).run prog w=.ok (a==b) w:=by
 have c:(Tryz.prog.info? 27).map (·.comparable)=some true:=eu;have⟨i,h,e⟩:=Option.map_eq_some_iff.1 c;simp[Op.equalIn,run_underlying underlying74,run_underlying underlying27,typeInfo,h,e]
theorem OB(w:nL)(a b:Int):
  (binOp .eql 74 (.iface 27<|.int .i64 a)<|.iface 27<|.int .i64 b).run prog w=.ok (.bool<|a==b) w:=by
 simp only[binOp];simp[Op.equal,Op.maxDepth,CW w 9998 a b]
theorem MV(n:Int)(w:nL):
  Calls prog 95 #[.iface 27<|.int .i64 n,.iface 27<|.int .i64 n] w λv w'=>v=.returned (.bool true)/\w'=w:=by
 have G:=@run_callFunc_extern prog 152 _ ReflectliteType.typeOf func152 eu eu eu eu;have O:=MU;have mC:=xY;have E:=G8;have e:∀w,(binOp .eql 74 (.iface 27<|.int .i64 n)<|.iface 27<|.int .i64 n).run prog w=.ok (.bool true) w:=λw=>by rw[OB];simp
 go_enter func95,ntmps95;go_wp2;apply Bn 1;rw[wk];go_wp2;go_ret;exact⟨rfl,rfl⟩
end
structure gO(w:nL)(b:Nat)(done:Bool):Prop where
 c0:w.cell? (gi b)=some (.int .u32 (if done then 1 else 0))
 c1:w.cell? (hP b 1)=some (.int .i32 0)
 tab:done=true->∀i,i<256->w.cell? (hP b (3+i))=some (.int .u32 (eh 8 i:Nat))
 any:∀i,i<256->∃v,w.cell? (hP b (3+i))=some v
 free:∀i,w.frozen? (hP b i)=false
theorem Ks(c:Int)(C:Nat)(w:nL)(a:c=C)(h:C<4294967296):
  Calls prog 305 #[.int .u32 c] w λe w'=>e=.returned (.int .u32 (eh 8 C:Nat))/\w'=w:=by grind[Kr]
theorem R6(b:Nat)(l:Addr)(I:¬l.block=b)(w:nL)(hp:w.cell? l=some (gx b))
  (S:∀i,i<256->∃v,w.cell? (hP b<|3+i)=some v) (U:∀i,w.frozen? (hP b i)=false) :
  Calls prog 304 #[.pointer<|some l] w λe w'=>e=.returned (.tuple #[])/\w.grownBy w' (some b) /\
   (∀i,i<3->w'.cell? (hP b i)=w.cell? (hP b i))/\(∀i,w'.frozen? (hP b i)=false)/\(∀i,i<256->w'.cell? (hP b<|3+i)=some (.int .u32 (eh 8 i:Nat))):=by
 go_enter func304,ntmps304;go_wp2;go_loopw [2] (λi wr=>∃k:Nat,k<=256/\i=.int .i64 k/\w.grownBy wr (some b)/\(∀i,i<3->wr.cell? (hP b i)=w.cell? (hP b i))/\(∀i,wr.frozen? (hP b i)=false)/\(∀i,i<k->wr.cell? (hP b (3+i))=some (.int .u32 (eh 8 i:Nat)))/\(∀i,i<256->∃v,wr.cell? (hP b (3+i))=some v))
  (λi _=>256-(intOf i).toNat)
 case atStart=>exact⟨0,zzs _,rfl,jg _ _,λ_ _=>rfl,U,λi a=>absurd a<|Nat.not_lt_zero i,S⟩
 case round=>
  obtain⟨k,g,rfl,z,L,kO,c,P⟩:=hrel;have y:wr.cell? l=some (.pointer<|some ⟨b,0,none⟩):=(ot z I<|zzF w l hp).trans hp;by_cases W:k<256
  .obtain⟨old,hold⟩:=P k W;have f:=kO<|3+k;have d:¬b=l.block:=λh=>I h.symm
   have j:(0:Int)<=k:=dp;have m:(k:Int)<256:=dp;have G:=ah z;have Z:=ah L;have F:=ah kO;have T:=ah c;have A:=ah P;clear z L kO c P S U hp;go_wp2;go_region_held3 (λw'=>w'.cell? l=some (.pointer<|some (gi b)))
    (go_keep)
    (first|(go_at_call 305;refine(Ks _ k _ ?_ dp).mono ?_;(rw[IntKind.wrap_u32'];omega);rintro e w' ⟨rfl,rfl⟩))
   go_wp2;go_roundw;case rel=>
    refine⟨k+1,dp,eR,mQ<|cI G.out<|tI _ _ _ _,λi a=>?_,λi=>?_,λi a=>?_,λi a=>?_⟩
    .rw[World.cell?_drew,FN _ _ _ _<|by simp<;>omega];exact Z.out i a
    .rw[World.frozen?_drew,World.frozen?_setCell];exact F.out i
    .rw[World.cell?_drew];by_cases e:i=k
     .subst e;exact World.cell?_setCell_same _ _ _ hold
     .rw[FN _ _ _ _<|by simp<;>omega];exact T.out i dp
    .rw[World.cell?_drew];by_cases e:i=k
     .subst e;exact⟨_,World.cell?_setCell_same _ _ _ hold⟩
     .rw[FN _ _ _ _<|by simp<;>omega];exact A.out i a
   case measure=>simp[intOf];omega
  .have ek:k=256:=dp;subst ek;go_wp2;go_end0;exact⟨rfl,z,L,kO,c⟩
theorem Kt(w:nL)(b:Nat)(k:w.cell? (gi b)=some (.int .u32 0))(c:w.cell? (hP b 1)=some (.int .i32 1))(hf:∀i,w.frozen? (hP b i)=false)
  (a:∀i,i<256->w.cell? (hP b<|3+i)=some (.int .u32 (eh 8 i:Nat))):gO ((w.drew.setCell (gi b)<|.int .u32 1).setCell (hP b 1)<|.int .i32 0) b true:=by
 have t:∀i,i<256->((w.drew.setCell (gi b)<|.int .u32 1).setCell (hP b 1)<|.int .i32 0).cell? (hP b (3+i))=some (.int .u32 (eh 8 i:Nat)):=λi h=>by
  rw[FN _ _ _ _<|by simp<;>omega,FN _ _ _ _<|by simp<;>omega,World.cell?_drew];exact a i h
 refine⟨?_,?_,λ_=>t,λi h=>⟨_,t i h⟩,λi=>?_⟩
 .rw[FN _ _ _ _ dv];exact World.cell?_setCell_same _ _ _<|(World.cell?_drew _ _).trans k
 .refine World.cell?_setCell_same (u:=.int .i32 1) _ _ _ ?_;rw[FN _ _ _ _ dv,World.cell?_drew];exact c
 .simp_all
theorem R7(b:Nat)(l:Addr)(I:¬l.block=b)(w:nL)(hp:w.cell? l=some (gx b))(m:gO w b false):
  Calls prog 335 #[gx b,.func (.func 304) #[] #[.pointer<|some l]] w λe w'=>e=.returned (.tuple #[])/\gO w' b true/\w.grownBy w' (some b):=by
 have d:=m.c0;have o:=m.c1;have r:=m.free 0;have s:=m.free 1;have M:=ah m;clear m;have t:=run_call_load (P:=prog) func357 eu eu eu .u32 eu (w:=w.setCell ⟨b,1,none⟩<|.int .i32 1) (a:=⟨b,0,none⟩) (x:=0) ((FN _ ⟨b,1,none⟩ ⟨b,0,none⟩ _ dv).trans d);have J:Hid ((w.setCell ⟨b,1,none⟩<|.int .i32 1).cell? l=some (.pointer<|some ⟨b,0,none⟩)):=(FN _ ⟨b,1,none⟩ l _ λh=>I<|by rw[<-h]).trans hp;have V:∀(x:Bool) (w:nL),(Op.unary .not<|.bool x).run prog w=.ok (.bool<|!x) w:=λ_ _=>rfl
 go_enter_defers func335,ntmps335;go_wp2_with (first|(go_at_call 358;apply(OA ⟨b,1,none⟩ _ (by go_simp)<|by go_simp).mono;rintro e w' ⟨rfl,rfl⟩)|(go_at_call 334;go_in))
 refine(R6 b l I _ J.out (λi p=>?_) λi=>?_).mono ?_
 .obtain⟨v,hv⟩:=M.out.any i p;exact⟨v,(FN _ ⟨b,1,none⟩ ⟨b,3+i,none⟩ _<|by simp<;>omega).trans hv⟩
 .rw[World.frozen?_setCell];exact M.out.free i
 rintro e c ⟨rfl,nz,lL,kO,htab⟩;have k:=(lL 0 dp).trans ((FN _ ⟨b,1,none⟩ ⟨b,0,none⟩ _ dv).trans d);have g:=(lL 1 dp).trans<|World.cell?_setCell_same _ _ _ o;have j:=kO 0;have n:=kO 1;have G:=ah nz;have F:=ah kO;have T:=ah htab;clear nz lL kO htab;go_wp2;apply leaves_cons (f:=360) (args:=#[.pointer<|some ⟨b,0,none⟩,.bool true]) dv (by simp[go_sem]);apply(Ba ⟨b,0,none⟩ (.int .u32 0) .returning _ k j).mono;rintro e u q ⟨rfl,rfl,rfl⟩;apply leaves_cons (f:=359) (args:=#[.pointer<|some ⟨b,1,none⟩]) (by simp[settle]) (by simp[go_sem]);refine(zP ⟨b,1,none⟩ _ _ ?_<|by simp[n]).mono ?_
 .refine(FN _ ⟨b,0,none⟩ ⟨b,1,none⟩ _ dv).trans ?_;rw[World.cell?_drew];exact g
 rintro e u q ⟨rfl,rfl,rfl⟩;simp only[Leaves,settle];refine⟨.tuple #[],by simp[results,results335],rfl,?_,?_⟩
 .exact Kt c b k g F.out T.out
 .exact cI (tI _ _ _ _)<|cI (cI (mQ G.out)<|tI _ _ _ _)<|tI _ _ _ _
theorem R8(b:Nat)(l:Addr)(I:¬l.block=b)(w:nL)(hp:w.cell? l=some (gx b))(m:gO w b false):
  Calls prog 303 #[gx b,.func (.func 304) #[] #[.pointer<|some l]] w λe w'=>e=.returned (.tuple #[])/\gO w' b true/\w.grownBy w' (some b):=by
 have h:=m.c0;have a:=run_call_load func357 eu eu eu .u32 eu h;have V:∀(x:Bool) (w:nL),(Op.unary .not<|.bool x).run prog w=.ok (.bool<|!x) w:=λ_ _=>rfl
 go_enter func303,ntmps303;go_wp2_with (first|(go_at_call 335;apply(R7 b l I _ hp m).mono;rintro e w' ⟨rfl,Rg,nz⟩)|(go_at_call 334;go_in));go_end0;exact⟨rfl,eS,eS⟩
theorem WL(b:Nat)(v:Value)(w:nL)(m:gO w b true):
  Calls prog 303 #[gx b,v] w λe w'=>e=.returned (.tuple #[])/\w'=w:=by
 have h:=m.c0;have l:=run_call_load func357 eu eu eu .u32 eu h;have V:∀(x:Bool) (w:nL),(Op.unary .not<|.bool x).run prog w=.ok (.bool<|!x) w:=λ_ _=>rfl
 go_enter func303,ntmps303;go_wp2;go_end0;exact⟨rfl,rfl⟩
end Go.Proofs.YtlgeloebpdmnnaaGreatDoor
namespace Go.Proofs
open Go.Shelf
def Tryz.lays125_ren:Go.Shelf.Ren:=⟨fun | 125=>296 | 128=>333 | 129=>301 | n=>n,fun | 46=>361 | 3=>3 | 51=>304 | 53=>34 | 4=>4 | 5=>5 | 9=>9 | n=>n,fun | n=>n⟩
theorem Tryz.lays125:Go.Proofs.Lays.n125 Tryz.prog Tryz.lays125_ren:=by constructor <;> intros <;> kernel_rfl
theorem Tryz.bits_Len (x:Int) (w:World) (h0:0≤x) (h1:x≤18446744073709551615) :
  Calls Tryz.prog 296 #[.int .u64 x] w fun e w'=>e=.returned (.int .i64 (Lib.bitLen x.toNat))∧w'=w:=Any.bits_Len Tryz.lays125 x w h0 h1
def Tryz.lays103_ren:Go.Shelf.Ren:=⟨fun | 103=>258 | 210=>292 | 206=>318 | n=>n,fun | 9=>9 | 4=>4 | 24=>106 | 3=>3 | n=>n,fun | n=>n⟩
theorem Tryz.lays103:Go.Proofs.Lays.n103 Tryz.prog Tryz.lays103_ren:=by constructor <;> intros <;> kernel_rfl
open Go.RowKit in
theorem Tryz.strings_CutPrefix (s p:ByteArray) (w:World) :
  Calls Tryz.prog 258 #[.string s,.string p] w fun e w'=>e=.returned (.tuple #[.string ⟨(Lib.trimPrefix s.data.toList p.data.toList).toArray⟩,.bool (Lib.hasPrefix s.data.toList p.data.toList)])∧w'=w:=Any.strings_CutPrefix Tryz.lays103 s p w
def Tryz.lays283_ren:Go.Shelf.Ren:=⟨fun | 283=>306 | n=>n,fun | 3=>3 | 9=>9 | 4=>4 | n=>n,fun | n=>n⟩
theorem Tryz.lays283:Go.Proofs.Lays.n283 Tryz.prog Tryz.lays283_ren:=by constructor <;> intros <;> kernel_rfl
open Go.Lib in
theorem Tryz.internal_strconv_small (i:Nat) (h:i<100) (w:World) :
  Calls Tryz.prog 306 #[.int .i64 i] w fun e w'=>e=.returned (.string ⟨(Lib.decDigits i).toArray⟩)∧w'=w:=Any.internal_strconv_small Tryz.lays283 i h w
def Tryz.laysM284_ren:Go.Shelf.Ren:=⟨fun | 284=>307 | 129=>301 | 317=>336 | 318=>337 | n=>n,fun | 53=>34 | 3=>3 | 212=>433 | 0=>0 | 4=>4 | 46=>361 | 5=>5 | 9=>9 | n=>n,fun | 17=>1 | n=>n⟩
theorem Tryz.laysM284:Go.Proofs.LaysM.n284 Tryz.prog Tryz.laysM284_ren:=by constructor <;> intros <;> first | kernel_rfl | (constructor <;> intros <;> kernel_rfl)
open Go.Lib in
theorem Tryz.internal_strconv_numDigits (u:Nat) (h1:1≤u) (h2:u<18446744073709551616) (w:World) (htab:Lib.TabIs Tryz.prog w "internal/strconv.uint64pow10" .u64 Lib.pow10Tab) :
  Calls Tryz.prog 307 #[.int .u64 u] w fun e w'=>e=.returned (.int .i64 (Lib.nDigits u))∧w'=w:=Any.internal_strconv_numDigits Tryz.laysM284 u h1 h2 w htab
def Tryz.lays285_ren:Go.Shelf.Ren:=⟨fun | 285=>308 | n=>n,fun | 37=>217 | 53=>34 | 3=>3 | 4=>4 | 51=>304 | 9=>9 | 5=>5 | 0=>0 | n=>n,fun | n=>n⟩
theorem Tryz.lays285:Go.Proofs.Lays.n285 Tryz.prog Tryz.lays285_ren:=by constructor <;> intros <;> kernel_rfl
open Go.RowKit Go.Sort Go.Lib in
theorem Tryz.internal_strconv_formatBase10 (blk off cap:Nat) (u:Nat) (d:Array UInt8) (w:World) (hH:Holds (fun (b:UInt8)=>Value.int .u8 (b.toNat:Int)) w blk off d) (hu:u<10 ^ d.size) (hu64:u<18446744073709551616) (hsz:d.size<4611686018427387904) :
  Calls Tryz.prog 308 #[.slice (some ⟨blk,off,none⟩) d.size cap,.int .u64 u] w fun e w' =>
   e=.returned (.tuple #[])∧∃ (n v':Nat) (dk:Array UInt8),w'=(putRow (fun (b:UInt8)=>Value.int .u8 (b.toNat:Int)) w blk off dk).drewN n∧FmtInv d.size u 0 v' dk:=Any.internal_strconv_formatBase10 Tryz.lays285 blk off cap u d w hH hu hu64 hsz
def Tryz.laysM316_ren:Go.Shelf.Ren:=⟨fun | 316=>224 | n=>n,fun | 9=>9 | 3=>3 | 4=>4 | 37=>217 | 0=>0 | 127=>375 | 5=>5 | n=>n,fun | n=>n⟩
theorem Tryz.laysM316:Go.Proofs.LaysM.n316 Tryz.prog Tryz.laysM316_ren:=by constructor <;> intros <;> first | kernel_rfl | (constructor <;> intros <;> kernel_rfl)
open Go.RowKit in
theorem Tryz.stringslite_Clone (s:ByteArray) (w:World) (hlim:s.size≤281474976710656) :
  Calls Tryz.prog 224 #[.string s] w fun e w'=>e=.returned (.string s)∧Below w.heap.size w w':=Any.stringslite_Clone Tryz.laysM316 s w hlim
def Tryz.laysPu14_ren:Go.Shelf.Ren:=⟨fun | 14=>259 | 16=>293 | 17=>294 | 19=>319 | 20=>320 | 21=>321 | 22=>322 | 23=>323 | 24=>324 | 25=>224 | 27=>351 | 26=>350 | 28=>367 | 29=>374 | 30=>306 | 31=>307 | 32=>308 | 33=>309 | 35=>301 | 34=>336 | 36=>337 | 37=>338 | 38=>339 | 39=>361 | 40=>362 | n=>n,fun | 9=>9 | 3=>3 | 22=>34 | 24=>74 | 25=>145 | 4=>4 | 34=>417 | 5=>5 | 36=>361 | 37=>217 | 0=>0 | 39=>419 | 21=>21 | 44=>441 | 47=>375 | 50=>455 | 48=>453 | 2=>2 | 52=>400 | 55=>402 | 59=>433 | 60=>304 | 20=>20 | 61=>434 | 65=>462 | 66=>463 | 67=>369 | n=>n,fun | 0=>2 | 1=>3 | 2=>1 | 3=>4 | 4=>5 | n=>n⟩
theorem Tryz.laysPu14:Go.Proofs.LaysPu.n14 Tryz.prog Tryz.laysPu14_ren:=by constructor <;> intros <;> kernel_rfl
open Go.RowKit in
theorem Tryz.strconv_ParseUint_10_at64_ok (s:ByteArray) (hmax:s.size≤9223372036854775806) (u:Nat) (h:Lib.parseUintB 64 s.data.toList=.ok u) (w:World) :
  Calls Tryz.prog 259 #[.string s,.int .i64 10,.int .i64 64] w fun e w'=>e=.returned (.tuple #[.int .u64 u,.nilIface])∧(w'=w∨w'=Lib.bytesWorld w 5 s):=Any.strconv_ParseUint_10_at64_ok Tryz.laysPu14 s hmax u h w
open Go.RowKit in
theorem Tryz.strconv_ParseUint_10_at64_syntax (s:ByteArray) (hlim:s.size≤281474976710656) (h:Lib.parseUintB 64 s.data.toList=.«syntax») (ev:Value) (w:World) (hv:w.cell? ⟨2,0,none⟩=some ev) (hev:ev=.nilIface∨∃ te pe,ev=.iface te pe) :
  Calls Tryz.prog 259 #[.string s,.int .i64 10,.int .i64 64] w fun e w'=>∃ N,e=.returned (.tuple #[.int .u64 0,.iface 419 (.pointer (some ⟨N,0,none⟩))])∧w.heap.size≤N∧w'.heap[N]?=some (.cells #[.string ⟨#[80,97,114,115,101,85,105,110,116]⟩,.string s,ev] 441 (0,0))∧Below w.heap.size w w':=Any.strconv_ParseUint_10_at64_syntax Tryz.laysPu14 s hlim h ev w hv hev
def Tryz.lays192_ren:Go.Shelf.Ren:=⟨fun | 192=>417 | 190=>278 | 125=>296 | 258=>311 | 128=>333 | 129=>301 | 302=>340 | 303=>341 | 304=>342 | 305=>343 | 306=>344 | 307=>345 | 308=>346 | 309=>347 | 310=>348 | 333=>363 | 329=>353 | 330=>354 | 334=>364 | 335=>365 | 336=>366 | 344=>373 | n=>n,fun | 31=>178 | 0=>0 | 9=>9 | 3=>3 | 46=>361 | 51=>304 | 53=>34 | 4=>4 | 183=>424 | 182=>423 | 131=>266 | 5=>5 | 218=>442 | 222=>445 | 228=>456 | 229=>457 | n=>n,fun | n=>n⟩
theorem Tryz.lays192:Go.Proofs.Lays.n192 Tryz.prog Tryz.lays192_ren:=by constructor <;> intros <;> kernel_rfl
open Go.Sort Go.RowKit in
theorem Tryz.sort_Strings (blk off cap:Nat) (ss:List (List UInt8)) (w:World) (hH:Holds encStr w blk off ss.toArray) (hblk:blk<w.heap.size) (hsz:ss.length<4611686018427387904) :
  Calls Tryz.prog 417 #[.slice (some ⟨blk,off,none⟩) ss.length cap] w fun e w' =>
   e=.returned (.tuple #[])∧∃ n os,w'=grow (putRow encStr (Sort.ahead w n) blk off (ss.mergeSort fun x y=>decide (x≤y)).toArray) os:=Any.sort_Strings Tryz.lays192 blk off cap ss w hH hblk hsz
open Go.RowKit Go.Sort in
theorem Tryz.sort_Strings_none (p:Option Addr) (cap:Nat) (w:World) :
  Calls Tryz.prog 417 #[.slice p 0 cap] w fun e w'=>e=.returned (.tuple #[])∧w'=w:=Any.sort_Strings_none Tryz.lays192 p cap w
def Tryz.laysSlE041_f167_ren:Go.Shelf.Ren:=⟨fun | 41=>167 | n=>n,fun | 22=>49 | 23=>34 | 4=>4 | n=>n,fun | n=>n⟩
theorem Tryz.laysSlE041_f167:Go.Proofs.SlLaysE0.n41 Tryz.prog Tryz.laysSlE041_f167_ren:=by constructor <;> intros <;> first | kernel_rfl | exact ⟨Tryz.f167.name,by decide,Tryz.func167.trans (congrArg some (by kernel_rfl))⟩
open Go.RowKit Go.Lib in
theorem Tryz.slices_Clone (i0:TypeInfo) (z:Value) (size bytes:Nat) (hi:Tryz.prog.info? 34=some i0) (hz0:i0.zero=some z) (hz1:i0.size=size) (hz2:i0.bytes=bytes) (hzs:z.cells.size=size) (hsz:0<size) (z23:∀ w,(Go.sizeOf 34).run Tryz.prog w=.ok size w) (b off n c:Nat) (news:List Value) (w:World) (hl:news.length=n*size) (hn:n≤maxLen) (hbig:n*bytes≤140737488355328) (hc:∀ j u,news[j]?=some u→w.cell? ⟨b,off+j,none⟩=some u) (h1:∀ u∈news,u.oneCell'=true) :
  Calls Tryz.prog 167 #[.slice (some ⟨b,off,none⟩) n c] w fun e w'=>∃ v',e=.returned v'∧w'.ownsRow w.heap.size 34 size v' n news∧v'≠.slice none 0 0∧Below w.heap.size w w':=AnyE.slices_Clone Tryz.laysSlE041_f167 i0 z size bytes hi hz0 hz1 hz2 hzs hsz z23 b off n c news w hl hn hbig hc h1
def Tryz.laysSlE041_f166_ren:Go.Shelf.Ren:=⟨fun | 41=>166 | n=>n,fun | 22=>35 | 23=>89 | 4=>4 | n=>n,fun | n=>n⟩
theorem Tryz.laysSlE041_f166:Go.Proofs.SlLaysE0.n41 Tryz.prog Tryz.laysSlE041_f166_ren:=by constructor <;> intros <;> first | kernel_rfl | exact ⟨Tryz.f166.name,by decide,Tryz.func166.trans (congrArg some (by kernel_rfl))⟩
open Go.RowKit Go.Lib in
theorem Tryz.slices_CloneR (i0:TypeInfo) (z:Value) (size bytes:Nat) (hi:Tryz.prog.info? 89=some i0) (hz0:i0.zero=some z) (hz1:i0.size=size) (hz2:i0.bytes=bytes) (hzs:z.cells.size=size) (hsz:0<size) (z23:∀ w,(Go.sizeOf 89).run Tryz.prog w=.ok size w) (b off n c:Nat) (news:List Value) (w:World) (hl:news.length=n*size) (hn:n≤maxLen) (hbig:n*bytes≤140737488355328) (hc:∀ j u,news[j]?=some u→w.cell? ⟨b,off+j,none⟩=some u) (h1:∀ u∈news,u.oneCell'=true) :
  Calls Tryz.prog 166 #[.slice (some ⟨b,off,none⟩) n c] w fun e w'=>∃ v',e=.returned v'∧w'.ownsRow w.heap.size 89 size v' n news∧v'≠.slice none 0 0∧Below w.heap.size w w':=AnyE.slices_Clone Tryz.laysSlE041_f166 i0 z size bytes hi hz0 hz1 hz2 hzs hsz z23 b off n c news w hl hn hbig hc h1
end Go.Proofs
namespace Go.Proofs.YtlgeloebpdmnnaaGreatDoor
open Go.RowKit Go.Maps Tryz Sc
section
open Go.Lib Go.Sort
def dJ(w:nL):Prop:=Lib.TabIs prog w "internal/strconv.uint64pow10" .u64 Lib.pow10Tab
theorem aas(w:nL)(T:TypeId)(d:Nat)(s:d<=24):Holds (λ(b:UInt8)=>Value.int .u8 (b.toNat:Int)) (w.alloc<|.cells zeros24 T) w.heap.size 0 (Array.replicate d (0:UInt8)):=λj h=>by
 have a:j<d:=by grind
 refine⟨?_,World.frozen?_alloc_new _ _ _ _⟩;rw[World.cell?_alloc_new,zeros24_at _ dp,getElem!_pos _ j h];simp
theorem wK{B:Nat}{a w:nL}(h:Below B a w):∀k,Below B a<|w.drewN k
 |0=>h
 |k+1=>by
  exact (wK h k).drew
theorem OH(w:nL)(o:Obj)(d:Array UInt8)(k:Nat):Below w.heap.size w ((putRow (λ(b:UInt8)=>Value.int .u8 (b.toNat:Int)) (w.alloc o) w.heap.size 0 d).drewN k):=by
 have h:Below (nF w) w (putRow (λ(b:UInt8)=>Value.int .u8 (b.toNat:Int)) (w.alloc o) (nF w) 0 d):=by
  refine⟨rfl,rfl,rfl,dv,λi a=>?_⟩;simp only[putRow,mapBlock,Array.getElem?_modify];rw[mE dp];exact zzf _ _ _ a
 exact wK h k
theorem Sr(u:Nat)(w:nL)(d:u<2^64)(i:dJ w):
  Calls prog 276 #[.int .u64 (u:Int),.int .i64 10] w λe w'=>e=.returned (.string ⟨(Lib.decDigits u).toArray⟩)/\Below w.heap.size w w':=by
 by_cases s:u<100
 .have h1:(u:Int)<100:=dp;go_enter func276,ntmps276;go_wp2_with (first|(go_at_call 306;apply(Tryz.internal_strconv_small u s _).mono;rintro e w' ⟨rfl,rfl⟩));go_ret;exact⟨rfl,zzD _ _⟩
 .have h1:¬(u:Int)<100:=dp;have f:1<=u:=dp;have l:Lib.nDigits u<=20:=by have:=Lib.numDigits_eq u f d;split at this<;>omega
  have t:Tryz.prog.arrayLen 400=24:=by simp[Program.arrayLen,underlying400]
  have G:∀W,(Instr.sliceAt 400 (.pointer<|some ⟨nF w,0,none⟩) none (some<|.int .i64 (Lib.nDigits u:Int)) none).run prog W=.ok (.slice (some ⟨nF w,0,none⟩) (Lib.nDigits u) 24) W:=λW=>by
   rw[run_sliceAt_array_h W 400 ⟨nF w,0,none⟩ (by simp[Program.arrayLen,Program.elem,underlying400]) .i64 (Lib.nDigits u:Int) dp<|by rw[t];omega];go_simp
  have a:=aas w 400 (Lib.nDigits u) dp;have g:=Tryz.internal_strconv_formatBase10 (nF w) 0 24 u (Array.replicate (Lib.nDigits u) 0) (w.alloc<|.cells Lib.zeros24 400) a (by rw[Array.size_replicate];exact Lib.lt_pow_nDigits u) d (by rw[Array.size_replicate];omega);rw[Array.size_replicate]at g;have H:=Lib.hid a;clear a t;go_enter func276,ntmps276;go_wp2_with (first|(go_at_call 307;apply(Tryz.internal_strconv_numDigits u f d _<|Lib.tabIs_alloc i _).mono;rintro e w' ⟨rfl,rfl⟩));go_at_call 308;apply g.mono;rintro e w' ⟨rfl,k,v',dk,rfl,hF⟩;have v:(convert 217 9<|.slice (some ⟨nF w,0,none⟩) (Lib.nDigits u) 24).run prog ((putRow (λ(b:UInt8)=>Value.int .u8 (b.toNat:Int)) (w.alloc<|.cells Lib.zeros24 400) (nF w) 0 dk).drewN k)=.ok (.string ⟨(Lib.decDigits u).toArray⟩) ((putRow (λ(b:UInt8)=>Value.int .u8 (b.toNat:Int)) (w.alloc<|.cells Lib.zeros24 400) (nF w) 0 dk).drewN k):=by
   have h:=run_convert_bytes_back ((putRow (λ(b:UInt8)=>Value.int .u8 (b.toNat:Int)) (w.alloc (.cells Lib.zeros24 400)) (nF w) 0 dk).drewN k) 217 9 5 ⟨nF w,0,none⟩ 24 (Lib.decDigits u) underlying217 underlying5 underlying9 (λj c=>by
    rw[Lib.row_is_numeral hF j c,Lib.add_plain,World.cell?_drewN];exact cell?_putRow (λ(b:UInt8)=>Value.int .u8 (b.toNat:Int)) _ (nF w) 0 _ dk H.out (by rw[hF.size,Array.size_replicate]) j (by rw[hF.size];rw[Lib.decDigits_length]at c;exact c))
   rw[Lib.decDigits_length]at h;exact h
  go_wp2;go_ret;exact⟨rfl,OH w _ dk k⟩
theorem OI(u:Nat)(w:nL)(h:u<2^64)(b:dJ w):
  Calls prog 223 #[.int .u64 (u:Int),.int .i64 10] w λe w'=>e=.returned (.string ⟨(Lib.decDigits u).toArray⟩)/\Below w.heap.size w w':=by
 go_enter func223,ntmps223;go_wp2_with fail;apply(Sr u w h b).mono;rintro e a ⟨rfl,hb⟩;go_wp2;go_ret;exact⟨rfl,hb⟩
def aw(u:Nat):nS:=⟨#[115,101,103,109,101,110,116,45]⟩++⟨(Lib.decDigits u).toArray⟩
theorem jr(u:Nat)(a:u<2^64):(aw u).size<=28:=by
 have f:(Lib.decDigits u).length<=20:=by
  rw[Lib.decDigits_length];by_cases h:1<=u
  .have:=Lib.numDigits_eq u h a;split at this<;>omega
  .obtain rfl:u=0:=dp;rw[Lib.nDigits_small dp];omega
 unfold aw;rw[ByteArray.size_append];show 8+(Lib.decDigits u).toArray.size<=28;simp;omega
theorem gS(u:Nat)(w:nL)(h:u<2^64)(b:dJ w):
  Calls prog 159 #[.int .u64 (u:Int)] w λe w'=>e=.returned (.string<|aw u)/\Below w.heap.size w w':=by
 go_enter func159,ntmps159;go_wp2_with fail;apply(OI u w h b).mono;rintro e a ⟨rfl,hb⟩;have z:=jr u h;unfold aw at z;rw[ByteArray.size_append]at z;have j:¬9223372036854775807<(⟨#[115,101,103,109,101,110,116,45]⟩:nS).size+(⟨(Lib.decDigits u).toArray⟩:nS).size:=dp;go_wp2;all_goals first
  |(go_ret;exact⟨rfl,hb⟩)
  |(exfalso;rename_i hh;exact j hh)
end
end Go.Proofs.YtlgeloebpdmnnaaGreatDoor
