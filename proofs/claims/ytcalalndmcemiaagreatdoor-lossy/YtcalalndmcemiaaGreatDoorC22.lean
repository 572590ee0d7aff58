import Derived.Test.YtcalalndmcemiaaGreatDoorC05
namespace Go.Proofs.YtcalalndmcemiaaGreatDoor
open Go.RowKit Go.Maps Tryz Sc
theorem TF(c a b:Nat)(h:c^^^a=c^^^b):a=b:=by
 have d:c^^^(c^^^a)=c^^^(c^^^b):=by rw[h]
 rw[<-Nat.xor_assoc,<-Nat.xor_assoc,Nat.xor_self,Nat.zero_xor,Nat.zero_xor]at d;exact d
theorem abc(c a b:Nat)(h:a^^^c=b^^^c):a=b:=TF c a b<|by rw[Nat.xor_comm c a,h,Nat.xor_comm]
/-! One bit of the Zu can be taken back. -/
theorem P6(a b:Nat)(f:a<4294967296)(hb:b<4294967296)(h:half a=half b):a=b:=by
 have p:∀x:Nat,x<2147483648->(x^^^3988292384).testBit 31=true:=λx c=>by
  rw[Nat.testBit_xor,Nat.testBit_lt_two_pow<|show x<2^31 from c];decide
 have low:∀x:Nat,x<2147483648->x.testBit 31=false:=λx c=>Nat.testBit_lt_two_pow<|show x<2^31 from c
 unfold half at h;obtain d|d:=Nat.mod_two_eq_zero_or_one a<;>obtain e|e:=Nat.mod_two_eq_zero_or_one b
 .rw[if_neg bL,if_neg bL]at h;omega
 .rw[if_neg bL,if_pos bL]at h;have:=low (a/2) bL;rw[h,p (b/2) bL]at this;cases this
 .rw[if_pos bL,if_neg bL]at h;have:=low (b/2) bL;rw[<-h,p (a/2) bL]at this;cases this
 .rw[if_pos bL,if_pos bL]at h;have:=abc _ _ _ h;omega
theorem yY(k a b:Nat)(c:a<4294967296)(hb:b<4294967296)(h:dt k a=dt k b):a=b:=by
 induction k with
 |zero=>exact h
 |succ k ih=>exact ih<|P6 _ _ (gZ k a c) (gZ k b hb) h
theorem P7(l:List Nat)(e:kE l):∀(c d:Nat),c<4294967296->d<4294967296->ko c l=ko d l->c=d:=by
 induction l with
 |nil=>intro c d _ _ h;exact h
 |cons y l ih=>
  intro c d a b h;have j:=e y bR;have f:=ih (λx i=>e x<|by simp[i]) _ _ (gZ 8 _<|iW c y a bL) (gZ 8 _<|iW d y b bL) h;have g:=yY 8 _ _ (iW c y a bL) (iW d y b bL) f;exact abc _ _ _ g
theorem Fo(c:Nat)(a b:List Nat):ko c (a++b)=ko (ko c a) b:=by simp[ko]
theorem P8(a z:List Nat)(y b:Nat)(f:kE a)(g:kE z)(i:y<256)(G:b < 256)(h:zP (a++y::z)=zP (a++b::z)):y=b:=by
 unfold zP at h;have d:=TF _ _ _ h;rw[Fo,Fo]at d;have c:ko 4294967295 a<4294967296:=w_ _ _ (by decide) f;have e:=P7 z g _ _ (gZ 8 _<|iW _ _ c bL) (gZ 8 _<|iW _ _ c bL) d;exact TF _ _ _<|yY 8 _ _ (iW _ _ c bL) (iW _ _ c bL) e
theorem TG(a b:List Nat):val (a++b)=val a*256^b.length+val b:=by
 have x:∀(l:List Nat) (n:Nat),l.foldl (λn b=>n*256+b) n=n*256^l.length+l.foldl (λn b=>n*256+b) 0:=by
  intro l;induction l with
  |nil=>intro n;simp
  |cons y l ih=>
   intro n;rw[List.foldl_cons,ih,List.foldl_cons,ih<|0*256+y,zzr,Nat.pow_succ,Nat.add_mul,Nat.zero_mul,Nat.zero_add,Nat.mul_comm (256^l.length) 256,<-Nat.mul_assoc];omega
 unfold val;rw[List.foldl_append,x]
theorem P9(a z:List Nat)(y b:Nat)(h:val (a++y::z)=val (a++b::z)):y=b:=by
 have e:∀y,val (a++y::z)=(val a*256+y)*256^z.length+val z:=λy=>by
  rw[show a++y::z=(a++[y])++z by simp,TG,nL]
 rw[e,e]at h;have c:(val a*256+y)*256^z.length=(val a*256+b)*256^z.length:=bL;have d:=Nat.eq_of_mul_eq_mul_right (Nat.pow_pos bL) c;omega
theorem vC(l:List Nat)(i y:Nat)(h:i<l.length):l.set i y=l.take i++y::l.drop (i+1):=by
 rw[List.set_eq_take_append_cons_drop,if_pos h]
theorem yZ(l:List Nat)(i:Nat)(h:i<l.length):l=l.take i++at_ l i::l.drop (i+1):=by
 conv=>lhs;rw[<-List.take_append_drop i l]
 rw[List.drop_eq_getElem_cons h];simp[at_,h]
theorem TH(l:List Nat)(i y:Nat)(b:i<l.length)(a:kE l)(c:y<256)(h:zP (l.set i y)=zP l):y=at_ l i:=by
 rw[vC l i y b]at h;conv at h=>rhs;rw[yZ l i b]
 exact P8 _ _ _ _ (a.take i) (a.drop<|i+1) c (pU a i) h
theorem TI(l:List Nat)(i y:Nat)(a:i<l.length)(h:val (l.set i y)=val l):y=at_ l i:=by
 rw[vC l i y a]at h;conv at h=>rhs;rw[yZ l i a]
 exact P9 _ _ _ _ h
theorem CY(r:Nat)(h:r<8):2^r<256:=by
 have:2^r<=2^7:=Nat.pow_le_pow_right bL bL;omega
theorem TJ(Y r:Nat)(f:Y<256)(h:r<8):bits .xor .u8 (Y:Int) (IntKind.u8.wrap<|2^min (IntKind.u64.wrap (r:Int)).toNat 8)=((Y^^^2^r:Nat):Int):=by
 have a:IntKind.u64.wrap (r:Int)=r:=by rw[IntKind.wrap_u64];omega
 have b:min ((r:Int)).toNat 8=r:=bL;have c:IntKind.u8.wrap (2^r)=((2^r:Nat):Int):=by
  have d:=CY r h;have e:(2:Int)^r=((2^r:Nat):Int):=bR;rw[e,IntKind.wrap_u8];generalize (2:Nat)^r=p at d;omega
 rw[a,b,c];exact u8_xor_nat Y (2^r) f<|CY r h
/-! A record that is whole,behind it whatever. -/
def rb(S:Nat->ByteArray)(j:Nat):List Nat:=bF j j (bytesOf (S j))
def recs(S:Nat->ByteArray)(j:Nat):List Rec:=(List.range j).map λq=>⟨q,q,bytesOf (S q)⟩
end Go.Proofs.YtcalalndmcemiaaGreatDoor
