import Derived.Test.YtdcafjmdfpjcbaaGreatDoorC03
import Derived.Stop.Asserts
import Derived.RowKitTokens
import Derived.Laws.AppendOwnNone
set_option maxHeartbeats 4000000
set_option maxRecDepth 100000
namespace Go.Proofs.YtdcafjmdfpjcbaaGreatDoor
open Go.RowKit Go.Maps Tryz Sc
variable{d:Bool}{l:List Nat}{B b f g n:Nat}{w:World}
theorem gq.alloc(h:gq w b d)(o:Obj):gq (w.alloc o) b d:=by
 have c:b<w.heap.size:=zzF w (dH b) h.c0;have e:∀i,(w.alloc o).cell? (d8 b i)=w.cell? (d8 b i):=λi=>World.cell?_alloc_lt _ _ (d8 b i) c
 refine⟨by rw[e];exact h.c0,by rw[e];exact h.c1,λf i a=>by rw[e];exact h.tab f i a,λi a=>?_,λi=>?_⟩
 .rw[e];exact h.any i a
 .rw[World.frozen?_alloc_old _ _ (d8 b i)<|Nat.ne_of_lt c];exact h.free i
theorem gq.lt(h:gq w b d):b<w.heap.size:=zzF w (dH b) h.c0
theorem gq.cF{w':World}(h:gq w b d)(f:w'.heap[b]?=w.heap[b]?):gq w' b d:=by
 have e:∀i,w'.cell? (d8 b i)=w.cell? (d8 b i):=λi=>zze f
 refine⟨by rw[e];exact h.c0,by rw[e];exact h.c1,λg i c=>by rw[e];exact h.tab g i c,λi c=>?_,λi=>?_⟩
 .rw[e];exact h.any i c
 .rw[zzw f];exact h.free i
theorem Ua(b g f n p:Nat)(l:List Nat)(w:World)(m:gq w b true)(hn:l.length=n)(j:k9 l)(D:n<=4398046511103)(a:cZ w g f l):
  Calls prog 219 #[rM b,.slice (some<|d8 g f) n p] w λe w'=>e=.returned (.int .u32 (EX l:Nat))/\gq w' b true/\w.grownBy w' (some b):=by
 have N:=ae hn;have v:∀(q:Fn) (first p:Array Value) (w:World),(Instr.makeFunc q first p).run prog w=.ok (.func q first p) w:=λ_ _ _ _=>rfl
 have W:=m.lt;have A:gq (w.alloc<|.cells #[.pointer<|some (dH b)] 330) b true:=m.alloc _;have o:cZ (w.alloc<|.cells #[.pointer<|some (dH b)] 330) g f l:=by
  by_cases u:0<l.length
  .exact(qk<|a.lt u).2 a
  .intro i hi;omega
 clear hn a m;go_enter func219,ntmps219;go_wp2_with (go_at_call 247;apply(T_ b _ _ A).mono;rintro e w' ⟨rfl,rfl⟩);have M:=ae A;have R:=ae o;clear A o;go_loop [5,15] (λc i=>∃k:Nat,k<=n/\i=.int .i64 k/\c=.int .u32 (uM 4294967295 (l.take k):Nat)) (λ_ i=>n-(intOf i).toNat);case atStart=>exact⟨0,zzs _,rfl,rfl⟩
 case round=>
  obtain⟨k,E,rfl,rfl⟩:=hrel;have B:uM 4294967295 (l.take k)<4294967296:=DE _ _ dN<|j.pJ k;by_cases P:k<n
  .have MR:=R.out k (by rw[N.out];exact P);have r:=Cq j k;have⟨C,d⟩:=xY <|uM 4294967295 (l.take k);rw[<-d]at B ⊢;have H:Hid (uM 4294967295 (l.take<|k+1)=E_ C (at_ l k)):=by
    show _=_;rw[rh l k<|by rw[N.out];exact P,Cp,d,E']
   clear d;have x:bits .xor .u8 ((C:Int)%256) (at_ l k:Int)=((C%256^^^at_ l k:Nat):Int):=by
    rw[show((C:Int)%256)=((C%256:Nat):Int) by omega];exact u8_xor_nat _ _ oE r
   have t:C%256^^^at_ l k<256:=K_ _ _ oE r;have⟨T,h⟩:=xY <|C%256^^^at_ l k;rw[<-h]at x t;have S:Hid (E_ C (at_ l k)=ee 8 T^^^C/256):=by show _=_;rw[h];rfl
   clear h;have y:=M.out.tab rfl T t;have s:=q_ 8 T oE;have F:bits .xor .u32 ((ee 8 T:Nat):Int) ((C:Int)/256)=((ee 8 T^^^C/256:Nat):Int):=by
    rw[show((C:Int)/256)=((C/256:Nat):Int) by omega];exact u32_xor_nat _ _ s oE
   have Y:(0:Int)<=T:=oE;have z:(T:Int)<256:=oE;go_wp2;go_round;case rel=>exact⟨k+1,oE,nF,by rw[H.out,S.out]⟩
   case measure=>simp[intOf];omega
  .have ek:k=n:=oE;subst ek;have I:bits .xor .u32 IntKind.u32.max (uM 4294967295 (l.take k):Int)=((4294967295^^^uM 4294967295 (l.take k):Nat):Int):=aac _ B;have G:IntKind.u32.signed=false:=rfl;go_wp2;go_ret;refine⟨Lc ?_,M.out,di _ _ _⟩;rw[zzt<|by rw[N.out];omega];rfl
theorem PK(b g f n p:Nat)(l:List Nat)(w:World)(m:gq w b false)(L:g≠b)(hn:l.length=n)(q:k9 l)(J:n<=4398046511103)(d:cZ w g f l):
  Calls prog 219 #[rM b,.slice (some<|d8 g f) n p] w λe w'=>e=.returned (.int .u32 (EX l:Nat))/\gq w' b true/\w.grownBy w' (some b):=by
 have N:=ae hn;have z:∀(r:Fn) (first p:Array Value) (w:World),(Instr.makeFunc r first p).run prog w=.ok (.func r first p) w:=λ_ _ _ _=>rfl
 have W:=m.lt;have A:gq (w.alloc<|.cells #[.pointer<|some (dH b)] 330) b false:=m.alloc _;have o:cZ (w.alloc<|.cells #[.pointer<|some (dH b)] 330) g f l:=by
  by_cases x:0<l.length
  .exact(qk<|d.lt x).2 d
  .intro i hi;omega
 clear hn d m;go_enter func219,ntmps219;go_wp2_with fail;apply(PJ b (dH w.heap.size) sC _ sE A).mono;rintro e v ⟨rfl,nU,j9⟩;have K:v.cell? (dH w.heap.size)=some (.pointer<|some (dH b)):=by
  rw[mz j9 sC sE];simp
 have M:=ae nU;have R:=ae<|Cr o j9 L;have G:=ae<|aW (di _ _ _) j9;clear A o nU j9;go_wp2
 go_loop [5,15] (λc i=>∃k:Nat,k<=n/\i=.int .i64 k/\c=.int .u32 (uM 4294967295 (l.take k):Nat)) (λ_ i=>n-(intOf i).toNat);case atStart=>exact⟨0,zzs _,rfl,rfl⟩
 case round=>
  obtain⟨k,O,rfl,rfl⟩:=hrel;have B:uM 4294967295 (l.take k)<4294967296:=DE _ _ dN<|q.pJ k;by_cases P:k<n
  .have MR:=R.out k (by rw[N.out];exact P);have s:=Cq q k;have⟨C,j⟩:=xY <|uM 4294967295 (l.take k);rw[<-j]at B ⊢;have H:Hid (uM 4294967295 (l.take<|k+1)=E_ C (at_ l k)):=by
    show _=_;rw[rh l k<|by rw[N.out];exact P,Cp,j,E']
   clear j;have y:bits .xor .u8 ((C:Int)%256) (at_ l k:Int)=((C%256^^^at_ l k:Nat):Int):=by
    rw[show((C:Int)%256)=((C%256:Nat):Int) by omega];exact u8_xor_nat _ _ oE s
   have t:C%256^^^at_ l k<256:=K_ _ _ oE s;have⟨T,h⟩:=xY <|C%256^^^at_ l k;rw[<-h]at y t;have S:Hid (E_ C (at_ l k)=ee 8 T^^^C/256):=by show _=_;rw[h];rfl
   clear h;have E:=M.out.tab rfl T t;have u:=q_ 8 T oE;have F:bits .xor .u32 ((ee 8 T:Nat):Int) ((C:Int)/256)=((ee 8 T^^^C/256:Nat):Int):=by
    rw[show((C:Int)/256)=((C/256:Nat):Int) by omega];exact u32_xor_nat _ _ u oE
   have Y:(0:Int)<=T:=oE;have I:(T:Int)<256:=oE;go_wp2;go_round;case rel=>exact⟨k+1,oE,nF,by rw[H.out,S.out]⟩
   case measure=>simp[intOf];omega
  .have ek:k=n:=oE;subst ek;have Q:bits .xor .u32 IntKind.u32.max (uM 4294967295 (l.take k):Int)=((4294967295^^^uM 4294967295 (l.take k):Nat):Int):=aac _ B;have D:IntKind.u32.signed=false:=rfl;go_wp2;go_ret;refine⟨Lc ?_,M.out,G.out⟩;rw[zzt<|by rw[N.out];omega];rfl
theorem PL(b g f n p:Nat)(d:Bool)(l:List Nat)(w:World)(m:gq w b d)(L:g≠b)(hn:l.length=n)(h:k9 l)(s:n<=4398046511103)(C:cZ w g f l):
  Calls prog 219 #[rM b,.slice (some<|d8 g f) n p] w λe w'=>e=.returned (.int .u32 (EX l:Nat))/\gq w' b true/\w.grownBy w' (some b):=by
 cases d with
 |true=>grind[Ua]
 |false=>grind[PK]
theorem wK(b f n p k:Nat)(w:World)(h:k<=n)(hn:n<=p)(o:p<=maxLen):
  Calls prog 260 #[.slice (some<|d8 b f) n p,.int .i64 k] w λe w'=>e=.returned (.tuple #[.slice (some<|d8 b f) k k,.slice (tE b f k p) (n-k)<|p-k])/\∃q,w'=w.drewN q:=by
 unfold maxLen at o;have a:(0:Int)<=k:=oE;have c:(k:Int)<=p:=oE;have i:(k:Int)<=n:=oE;by_cases u:p=k
 .subst u;obtain rfl:n=p:=oE;go_enter func260,ntmps260;go_wp2;go_quiet (fail)
  go_wp2;go_ret2;refine⟨?_,_,rfl⟩;rw[oo,Nat.sub_self];rfl
 .go_enter func260,ntmps260;go_wp2;go_quiet (fail)
  go_wp2;go_ret2;refine⟨?_,_,rfl⟩;rw[j_ oE];rfl
theorem PM(base b g k p:Nat)(d:Bool)(xs:List Nat)(w:World)(m:gq w b d)(h:g≠b)(N:w.ownsRow base 5 1 (.slice (some<|dH g) k p) k<|bs xs)(a:k9 xs)(i:k<=4398046511103)(r:k+4<=p):
  Calls prog 167 #[rM b,.slice (some<|dH g) k p] w λe w'=>e=.returned (.slice (some<|dH g) (k+4) p) /\
   w'.ownsRow base 5 1 (.slice (some<|dH g) (k+4) p) (k+4) (bs<|xs++be 4 (EX xs))/\(∀B,B<=b->B<=g->Below B w w'):=by
 have hlen:=TP N;have P:=m.lt;have U:=Px xs a;have L:=ae hlen;clear hlen;go_enter func167,ntmps167;go_wp2_with fail;apply(PL b g 0 k p d xs _ m h L.out a i<|uN N).mono;rintro e l ⟨rfl,IA,iN⟩;have j:=N.kept iN (Or.inr<|by simp[Value.ownBlock,h]);go_wp2_with fail;apply(T7 base g k p xs (EX xs) _ j r U).mono;rintro e w2 ⟨rfl,iH,dY⟩;go_wp2;go_ret;exact⟨rfl,iH,λB c f=>MH iN dY c f oE⟩
theorem heap_drewN(w:World)(q:Nat):(w.drewN q).heap=w.heap:=sE
theorem qp(w:World)(q:Nat)(r:Option Nat):w.grownBy (w.drewN q) r:=⟨rfl,rfl,rfl,sE,λk _ _=>sE⟩
def nV(l:List Nat):Bool:=EX (l.take (l.length-4))==val (l.drop (l.length-4))
def PN(g f n:Nat)(l:List Nat):Value:=if nV l=true then .slice (some (d8 g f)) (n-4) (n-4) else .slice none 0 0
theorem Fe(h:nV l=true):PN g f n l=.slice (some<|d8 g f) (n-4) (n-4):=by grind[PN]
theorem Lg(h:nV l=false):PN g f n l=.slice none 0 0:=by grind[PN]
theorem IB(b g f n p:Nat)(d:Bool)(l:List Nat)(w:World)(m:gq w b d)(q:g≠b)(j:l.length=n)(c:k9 l)(hn:5<=n)(z:n<=4398046511103)(u:n<=p)(D:p<=maxLen)(C:cZ w g f l):
  Calls prog 234 #[rM b,.slice (some<|d8 g f) n p] w λe w'=>
   e=.returned (.tuple #[PN g f n l,.bool<|nV l])/\gq w' b true/\w.grownBy w' (some b):=by
 have L:=ae j;have M:=ae m;have R:=ae C;have O:=D;unfold maxLen at O;clear j m C;go_enter func234,ntmps234;go_wp2_with fail;rw[show((n:Int)-4)=((n-4:Nat):Int) by omega];apply(wK g f n p (n-4) _ oE u D).mono;rintro e r ⟨rfl,q1,MU⟩;have Q:=ae MU;clear MU;have Wj:tE g f (n-4) p=some (d8 g (f+(n-4))):=j_ oE;rw[Wj];have t:n-(n-4)=4:=oE
 rw[t];go_wp2_with fail;have k:cZ r g (f+(n-4)) (l.drop<|n-4):=by
  have h:=(R.out.drewN q1).sub (n-4) 4 (by rw[L.out];omega);rw[zzt<|by rw[zzz,L.out];omega]at h;rw[Q.out];exact h
 apply(PF g (f+(n-4)) 4 (p-(n-4)) (l.drop<|n-4) _ (λx v=>c x<|List.mem_of_mem_drop v) (by rw[zzz,L.out];omega) oE oE mE k).mono;rintro e w2 ⟨rfl,q2,MV⟩;have o:=ae MV;clear MV;rw[zzt<|by rw[zzz,L.out];omega];go_wp2_with fail;have J:w2.heap=w.heap:=by rw[o.out,Q.out,heap_drewN,heap_drewN]
 have Y:w.grownBy w2 (some b):=by rw[o.out,Q.out];exact aW (qp _ _ _)<|qp _ _ _
 clear k Wj;refine(PL b g f (n-4) (n-4) d (l.take<|n-4) _ (M.out.cF<|by rw[J]) q (by rw[zzm,L.out];omega) (c.pJ _) oE ?_).mono ?_
 .intro i hi;rw[zzm,L.out]at hi;have h:=R.out i (by rw[L.out];omega);rw[show at_ (l.take<|n-4) i=at_ l i by simp[at_,show i<n-4 by omega]];rw[zze (w:=w) (w':=w2) (a:=⟨g,f+i,none⟩)<|by rw[J]];exact h
 rintro e A ⟨rfl,MW,ko⟩;have Z:=ae MW;have H:=ae<|aW Y ko;clear MW ko Y J;by_cases s:EX (l.take<|n-4)=val (l.drop<|n-4)
 .have Ff:nV l=true:=by unfold nV;rw[L.out,s];simp
  have y:((val (l.drop<|n-4):Int) != (EX (l.take<|n-4):Int))=false:=by rw[s];simp
  have S:=ae Ff;clear s Ff;go_wp2;go_ret2;exact⟨by rw[Fe S.out,S.out];rfl,Z.out,H.out⟩
 .have Ff:nV l=false:=by unfold nV;rw[L.out];simp[s]
  have y:((val (l.drop<|n-4):Int) != (EX (l.take<|n-4):Int))=true:=sC
  have S:=ae Ff;clear s Ff;go_wp2;go_ret2;exact⟨by rw[Lg S.out,S.out];rfl,Z.out,H.out⟩
theorem Lh(l:List Nat)(n i:Nat)(h:i<n):at_ (l.take n) i=at_ l i:=by simp[at_,h]
theorem DG(l:List Nat)(n i:Nat):at_ (l.drop n) i=at_ l (n+i):=by grind[at_]
theorem k9.take(h:k9 l)(n:Nat):k9 (l.take n):=λx a=>h x<|List.mem_of_mem_take a
theorem k9.drop(h:k9 l)(n:Nat):k9 (l.drop n):=λx a=>h x<|List.mem_of_mem_drop a
theorem val_one(l:List Nat)(h:0<l.length):val (l.take 1)=at_ l 0:=by
 cases l with
 |nil=>simp at h
 |cons a l=>simp[val,at_]
theorem cZ.drop(h:cZ w b f l)(o:Nat)(c:o<=l.length):cZ w b (f+o) (l.drop o):=λi a=>by
 rw[zzz]at a;have:=h (o+i) oE;rw[show f+o+i=f+(o+i) by omega,this,DG]
theorem below_drewN{a:World}(h:Below B a w)(q:Nat):Below B a (w.drewN q):=⟨h.os,h.tape,h.output,h.size,h.block⟩
theorem Cy(w:World):gq (w.alloc<|.cells zeroCells271 271) w.heap.size false:=by
 have e:∀i,(w.alloc<|.cells zeroCells271 271).cell? (d8 w.heap.size i)=zeroCells271[i]?:=λi=>World.cell?_alloc_new w _ _ i
 have s:Tryz.zeroCells271.size=259:=k6;refine⟨?_,?_,λh=>absurd h dN,λi a=>?_,λi=>?_⟩
 .rw[e];kernel_rfl
 .rw[e];kernel_rfl
 .rw[e];exact⟨_,Array.getElem?_eq_getElem<|by rw[s];omega⟩
 .exact World.frozen?_alloc_new w _ _ i
theorem rA{b:World}{r:Option Nat}(h:w.grownBy b r)(d:B<w.heap.size)(c:r≠some B)(i:Nat):b.cell? (d8 B i)=w.cell? (d8 B i):=
 zze (h.block B d λe=>c e.symm)
section
open Go.Extern Go.Extern.Stop Go.Stop
variable{w:World}
/-! closed facts on the model's entries for internal/reflectlite at *api.Errno and api.Errno -/
theorem PR(t:Addr)(w:World):(ReflectliteValue.unpack<|.iface 115<|.pointer<|some t).run prog w
  = .ok (.agg #[.pointer<|some<|d8 6 115,rM w.heap.size,.int .u64 150]) (w.alloc<|.cells #[.pointer<|some t] 115):=k6
theorem aad(a:Addr)(w:World):(ReflectliteValue.methodAny (ReflectliteValue.valueError "reflectlite.Value.Type" 0) (λt _ _ _=>ReflectliteType.toType t) #[.agg #[.pointer (some (d8 6 115)),.pointer (some a),.int .u64 150]]).run prog w
  = .ok (.iface 239<|.agg #[.pointer<|some<|d8 6 115]) w:=k6
theorem IC(h:Value)(w:World):(Go.method 564 239 (.agg #[h]) "Kind").run prog w=.ok (348,h) w:=k6
theorem aae(w:World):((ReflectliteType.abiMethod λt=>(λa:Nat=>Value.int IntKind.u8 (a:Int)) <$> Rtype.kind t) #[.pointer<|some<|d8 6 115]).run prog w=.ok (.int .u8 22) w:=k6
theorem aaf(w:World):((ReflectliteType.abiMethod λt=>(λa:Nat=>Value.int IntKind.u8 (a:Int)) <$> Rtype.kind t) #[.pointer<|some<|d8 6 27]).run prog w=.ok (.int .u8 2) w:=k6
theorem PT(a:Addr)(w:World):(ReflectliteValue.parts<|.agg #[.pointer<|some<|d8 6 115,.pointer<|some a,.int .u64 150]).run prog w=.ok (some (115,a,150)) w:=k6
theorem XM(a p:Addr)(W:World)(h:W.cell? a=some (.pointer<|some p)):
  (ReflectliteValue.method (ReflectliteValue.valueError "reflectlite.Value.IsNil" 0) ReflectliteValue.isNil #[.agg #[.pointer (some (d8 6 115)),.pointer (some a),.int .u64 150]]).run prog W=.ok (.bool false) W:=by
 change Sem.run prog (bind (ReflectliteValue.parts<|.agg #[.pointer<|some ⟨6,115,none⟩,.pointer<|some a,.int .u64 150]) _) W=_;simp only[Sem.run_bind,PT,Result.andThen];simp[ReflectliteValue.isNil,loadVar,isAgg,underlying,underlying115,h,Result.andThen]
theorem ID(h:Value)(w:World):(Go.method 564 239 (.agg #[h]) "Elem").run prog w=.ok (372,.agg #[h]) w:=k6
theorem wL(h:Value)(w:World):(Go.method 564 239 (.agg #[h]) "Implements").run prog w=.ok (373,.agg #[h]) w:=k6
theorem tF(h:Value)(w:World):(Go.method 564 239 (.agg #[h]) "AssignableTo").run prog w=.ok (370,.agg #[h]) w:=k6
theorem wM(h:Value)(w:World):(Go.method 564 239 (.agg #[h]) "Comparable").run prog w=.ok (371,.agg #[h]) w:=k6
theorem aag(w:World):(ReflectliteType.method ReflectliteType.elem #[.agg #[.pointer<|some<|d8 6 115]]).run prog w=.ok (.iface 239<|.agg #[.pointer<|some<|d8 6 27]) w:=k6
theorem Fg(w:World):(ReflectliteType.relation "Implements" ReflectliteType.implements_ #[.agg #[.pointer (some (d8 6 27))],.iface 239 (.agg #[.pointer (some (d8 6 67))])]).run prog w=.ok (.bool true) w:=k6
theorem Li(v:Value)(w:World):(ReflectliteType.typeOf #[.iface 27 v]).run prog w=.ok (.iface 239<|.agg #[.pointer<|some<|d8 6 27]) w:=k6
theorem Fh(w:World):(ReflectliteType.relation "AssignableTo" ReflectliteType.assignableTo #[.agg #[.pointer (some (d8 6 27))],.iface 239 (.agg #[.pointer (some (d8 6 27))])]).run prog w=.ok (.bool true) w:=k6
theorem PU(n:Int)(w:World):(ReflectliteValue.unpack<|.iface 27<|.int .i64 n).run prog w
  = .ok (.agg #[.pointer<|some<|d8 6 27,rM w.heap.size,.int .u64 130]) (w.alloc<|.cells #[.int .i64 n] 27):=k6
theorem Ub(w:World):(Rtype.elem? 115).run prog w=.ok (some 27) w:=k6
theorem mkE(p:Addr)(w:World):(ReflectliteValue.mk 27 p ReflectliteValue.flagAddr).run prog w=.ok (.agg #[.pointer<|some<|d8 6 27,.pointer<|some p,.int .u64 386]) w:=k6
theorem XN(a p:Addr)(W:World)(h:W.cell? a=some (.pointer<|some p)):
  (ReflectliteValue.method (ReflectliteValue.valueError "reflectlite.Value.Elem" 0) ReflectliteValue.elem #[.agg #[.pointer (some (d8 6 115)),.pointer (some a),.int .u64 150]]).run prog W
   = .ok (.agg #[.pointer<|some<|d8 6 27,.pointer<|some p,.int .u64 386]) W:=by
 change Sem.run prog (bind (ReflectliteValue.parts<|.agg #[.pointer<|some ⟨6,115,none⟩,.pointer<|some a,.int .u64 150]) _) W=_;simp only[Sem.run_bind,PT,Result.andThen];simp[ReflectliteValue.elem,loadVar,isAgg,underlying,underlying115,h,Result.andThen,Ub,mkE]
theorem Uc(a:Addr)(w:World):(ReflectliteValue.parts<|.agg #[.pointer<|some<|d8 6 27,.pointer<|some a,.int .u64 386]).run prog w=.ok (some (27,a,386)) w:=k6
theorem XO(a:Addr)(w:World):(ReflectliteValue.parts<|.agg #[.pointer<|some<|d8 6 27,.pointer<|some a,.int .u64 130]).run prog w=.ok (some (27,a,130)) w:=k6
theorem Ud(w:World):(Rtype.directlyAssignable 27 27).run prog w=.ok true w:=k6
theorem ack(a b:Addr)(n:Int)(d:Value)(W:World)(h:W.cell? b=some (.int .i64 n))(t:W.cell? a=some d)(f:W.frozen? a=false):
  (ReflectliteValue.set #[.agg #[.pointer<|some<|d8 6 27,.pointer<|some a,.int .u64 386],.agg #[.pointer<|some<|d8 6 27,.pointer<|some b,.int .u64 130]]).run prog W
   = .ok (.tuple #[]) (W.setCell a<|.int .i64 n):=by
 change Sem.run prog (bind (ReflectliteValue.parts<|.agg #[.pointer<|some ⟨6,27,none⟩,.pointer<|some a,.int .u64 386]) λ_=>bind (ReflectliteValue.parts<|.agg #[.pointer<|some ⟨6,27,none⟩,.pointer<|some b,.int .u64 130]) _) W=_;simp only[Sem.run_bind,Uc,XO,Result.andThen];simp[ReflectliteValue.flagAddr,loadVar,isAgg,underlying,underlying27,h,Result.andThen,Ud,storeVar,Value.cells,storeCells,Addr.add];rw[run_store prog W a _ _<|by rfl];simp[t,f]
theorem Fi(w:World):(callFunc 371 #[.agg #[.pointer<|some<|d8 6 27]]).run prog w=.ok (.value<|.bool true) w:=k6
def Met(w:World):Prop:=w.cell? (dH 0)=some (.iface 239 (.agg #[.pointer (some (d8 6 67))]))
theorem Met.lt(h:Met w):0<w.heap.size:=zzF w ⟨0,0,none⟩ h
theorem Met.below{w':World}{B:Nat}(h:Met w)(b:Below B w w')(a:0<B):Met w':=(b.cell (p:=⟨0,0,none⟩) a).trans h
theorem XP(n:Int)(t:Addr)(d:Value)(w:World)(g:Met w)(h:w.cell? t=some d)(U:w.frozen? t=false):
  Calls prog 66 #[.iface 27 (.int .i64 n),.iface 115 (.pointer (some t))] w λv w'=>v=.returned (.bool true)/\w'=((((w.alloc (.cells #[.pointer (some t)] 115)).alloc (.cells #[.pointer (some (d8 6 115)),rM w.heap.size,.int .u64 150] 167)).alloc (.cells #[.pointer (some (d8 6 115)),rM w.heap.size,.int .u64 150] 167)).alloc (.cells #[.int .i64 n] 27)).setCell t (.int .i64 n):=by
 have f:=@run_callFunc_extern prog 104 _ (λargs=>ReflectliteValue.unpack (args.getD 0 (.tuple #[]))) func104 (by kernel_rfl) (by kernel_rfl) (by kernel_rfl) (by kernel_rfl);have m:=@run_callFunc_extern prog 105 _ (ReflectliteValue.methodAny (ReflectliteValue.valueError "reflectlite.Value.Type" 0) (λt _ _ _=>ReflectliteType.toType t)) func105 (by kernel_rfl) (by kernel_rfl) (by kernel_rfl) (by kernel_rfl);have b:=@run_callFunc_extern prog 106 _ (ReflectliteValue.method (ReflectliteValue.valueError "reflectlite.Value.IsNil" 0) ReflectliteValue.isNil) func106 (by kernel_rfl) (by kernel_rfl) (by kernel_rfl) (by kernel_rfl);have i:=@run_callFunc_extern prog 348 _ (ReflectliteType.abiMethod λt=>do pure (.int .u8 (<-Rtype.kind t))) func348 (by kernel_rfl) (by kernel_rfl) (by kernel_rfl) (by kernel_rfl);have a:=@run_callFunc_extern prog 372 _ (ReflectliteType.method ReflectliteType.elem) func372 (by kernel_rfl) (by kernel_rfl) (by kernel_rfl) (by kernel_rfl);have q:=@run_callFunc_extern prog 373 _ (ReflectliteType.relation "Implements" ReflectliteType.implements_) func373 (by kernel_rfl) (by kernel_rfl) (by kernel_rfl) (by kernel_rfl);have j:=@run_callFunc_extern prog 108 _ ReflectliteType.typeOf func108 (by kernel_rfl) (by kernel_rfl) (by kernel_rfl) (by kernel_rfl);have c:=@run_callFunc_extern prog 370 _ (ReflectliteType.relation "AssignableTo" ReflectliteType.assignableTo) func370 (by kernel_rfl) (by kernel_rfl) (by kernel_rfl) (by kernel_rfl)
 have z:=@run_callFunc_extern prog 162 _ (ReflectliteValue.method (ReflectliteValue.valueError "reflectlite.Value.Elem" 0) ReflectliteValue.elem) func162 (by kernel_rfl) (by kernel_rfl) (by kernel_rfl) (by kernel_rfl);have H:=@run_callFunc_extern prog 163 _ ReflectliteValue.set func163 (by kernel_rfl) (by kernel_rfl) (by kernel_rfl) (by kernel_rfl);have O:=Li;have A:=tF;have x:=Fh;have s:=PU;have r:=PR;have k:=aad;have mK:=IC;have E:=ID;have I:=wL;have y:=aae;have o:=aaf;have u:=aag;have p:=Fg;have e:=XM ⟨w.heap.size,0,none⟩ t ((w.alloc (.cells #[.pointer (some t)] 115)).alloc (.cells #[.pointer (some ⟨6,115,none⟩),.pointer (some ⟨w.heap.size,0,none⟩),.int .u64 150] 167)) (by simp);have P:=g.lt;unfold Met at g
 have Y:((w.alloc (.cells #[.pointer (some t)] 115)).alloc (.cells #[.pointer (some ⟨6,115,none⟩),.pointer (some ⟨w.heap.size,0,none⟩),.int .u64 150] 167)).cell? ⟨0,0,none⟩=some (.iface 239 (.agg #[.pointer (some ⟨6,67,none⟩)])):=by
  rw[World.cell?_alloc_lt _ _ ⟨0,0,none⟩ (by simp),World.cell?_alloc_lt _ _ ⟨0,0,none⟩ P];exact g
 have F:t.block<w.heap.size:=zzF w t h;have l:=XN ⟨w.heap.size,0,none⟩ t (((w.alloc (.cells #[.pointer (some t)] 115)).alloc (.cells #[.pointer (some ⟨6,115,none⟩),.pointer (some ⟨w.heap.size,0,none⟩),.int .u64 150] 167)).alloc (.cells #[.pointer (some ⟨6,115,none⟩),.pointer (some ⟨w.heap.size,0,none⟩),.int .u64 150] 167)) (by rw[World.cell?_alloc_lt _ _ ⟨w.heap.size,0,none⟩ (by simp;omega)];simp)
 have st:=ack t ⟨w.heap.size+1+1+1,0,none⟩ n d ((((w.alloc (.cells #[.pointer (some t)] 115)).alloc (.cells #[.pointer (some ⟨6,115,none⟩),.pointer (some ⟨w.heap.size,0,none⟩),.int .u64 150] 167)).alloc (.cells #[.pointer (some ⟨6,115,none⟩),.pointer (some ⟨w.heap.size,0,none⟩),.int .u64 150] 167)).alloc (.cells #[.int .i64 n] 27))
  (by rw[World.cell?_alloc_at _ _ _ _ (by simp)];rfl)
  (by rw[World.cell?_alloc_lt _ _ t (by simp;omega),World.cell?_alloc_lt _ _ t (by simp;omega),World.cell?_alloc_lt _ _ t (by simp;omega),World.cell?_alloc_lt _ _ t F];exact h)
  (by rw[World.frozen?_alloc_old _ _ t (by simp;omega),World.frozen?_alloc_old _ _ t (by simp;omega),World.frozen?_alloc_old _ _ t (by simp;omega),World.frozen?_alloc_old _ _ t (Nat.ne_of_lt F)];exact U)
 go_enter func66,ntmps66
 go_wp2;refine wp_loop_rounds 1 ?_;rw[rounds_succ];go_wp2;go_ret;exact⟨rfl,rfl⟩
theorem BK(w:World)(d:Nat)(a b:Int):
  (Op.equalIn (d+2) 67 (.iface 27 (.int .i64 a)) (.iface 27 (.int .i64 b))).run prog w=.ok (a==b) w:=by
 have e:(Tryz.prog.info? 27).map (·.comparable)=some true:=by kernel_rfl
 obtain⟨i,c,h⟩:=Option.map_eq_some_iff.1 e;simp[Op.equalIn,run_underlying underlying67,run_underlying underlying27,typeInfo,c,h]
theorem MX(w:World)(a b:Int):
  (binOp .eql 67 (.iface 27 (.int .i64 a)) (.iface 27 (.int .i64 b))).run prog w=.ok (.bool (a==b)) w:=by
 simp only[binOp];simp[Op.equal,Op.maxDepth,BK w 9998 a b]
theorem Lk(n:Int)(w:World):
  Calls prog 67 #[.iface 27 (.int .i64 n),.iface 27 (.int .i64 n)] w λv w'=>v=.returned (.bool true)/\w'=w:=by
 have j:=@run_callFunc_extern prog 108 _ ReflectliteType.typeOf func108 (by kernel_rfl) (by kernel_rfl) (by kernel_rfl) (by kernel_rfl);have O:=Li;have C:=wM;have E:=Fi;have e:∀w,(binOp .eql 67 (.iface 27 (.int .i64 n)) (.iface 27 (.int .i64 n))).run prog w=.ok (.bool true) w:=λw=>by rw[MX];simp
 go_enter func67,ntmps67
 go_wp2;refine wp_loop_rounds 1 ?_;rw[rounds_succ];go_wp2;go_ret;exact⟨rfl,rfl⟩
theorem PV(w:World):
  Calls prog 28 #[.nilIface] w λe w'=>e=.returned (.int .i64 0)/\Below w.heap.size w w':=by
 go_enter func28,ntmps28;go_wp2;go_ret;exact⟨rfl,(zzD _ _).alloc (zzc _) _⟩
theorem PW(n:Int)(w:World)(g:Met w):
  Calls prog 28 #[.iface 27<|.int .i64 n] w λe w'=>e=.returned (.int .i64 n)/\Below w.heap.size w w':=by
 have P:=g.lt;have G:Hid (Met<|w.alloc<|.cells #[.int .i64 0] 27):=by
  show Met _;unfold Met;rw[World.cell?_alloc_lt _ _ (dH 0) P];exact g
 clear g;go_enter func28,ntmps28;go_wp2_with fail;apply(XP n (dH w.heap.size) (.int .i64 0) _ G.out sE sE).mono;rintro e a ⟨rfl,sw⟩;have t:Below w.heap.size w a:=by
  rw[sw];exact((((((zzD _ _).alloc (zzc _) _).alloc sE _).alloc sC _).alloc sC _).alloc sC _).setCell (zzc _) _
 have om:a.cell? (dH w.heap.size)=some (.int .i64 n):=by
  rw[sw];refine World.cell?_setCell_same (u:=.int .i64 0) _ _ _ ?_;rw[World.cell?_alloc_lt _ _ (dH w.heap.size) sC,World.cell?_alloc_lt _ _ (dH w.heap.size) sC,World.cell?_alloc_lt _ _ (dH w.heap.size) sC,World.cell?_alloc_lt _ _ (dH w.heap.size) sE];simp
 clear sw;go_wp2_with (go_at_call 67;apply(Lk n _).mono;rintro e w' ⟨rfl,rfl⟩);go_ret;exact⟨rfl,t⟩
end
def Src(w:World)(v:Value)(l:List Nat):Prop :=
 (v=.slice none 0 0/\l=[])\/∃b f p,v=.slice (some (d8 b f)) l.length p/\cZ w b f l/\b<w.heap.size/\l.length<=p/\p<=maxLen
theorem zy{w w':World}(h:Below w.heap.size w w')(r:Option Nat):w.grownBy w' r:=⟨h.os,h.tape,h.output,h.size,λk a _=>h.block k a⟩
def bytesOf(s:ByteArray):List Nat:=s.data.toList.map UInt8.toNat
theorem dC(s:ByteArray):(bytesOf s).length=s.size:=by unfold bytesOf;rw[zzn,Array.length_toList];rfl
theorem jN(s:ByteArray):k9 (bytesOf s):=by
 intro x h;unfold bytesOf at h;obtain⟨y,_,rfl⟩:=zzq.1 h;exact y.toNat_lt
def MY(s:ByteArray)(c:Nat):Obj:=.cells (bytesRow s c) 5 ((bytesRow s c).size,(bytesRow s c).size+1)
theorem CA(w:World)(s:ByteArray):(convert 9 179<|.string s).run prog w=.ok (.slice (some<|dH w.heap.size) s.size<|grownCap w s.size 0 5) (w.drew.alloc<|MY s<|grownCap w s.size 0 5):=
 run_bytes_of_string w _ _ _ s underlying9 underlying179 underlying5
theorem Ll(w:World)(s:ByteArray)(c:Nat):cZ (w.drew.alloc<|MY s c) w.heap.size 0 (bytesOf s):=λi a=>by
 have b:(w.drew.alloc<|MY s c).cell? (d8 w.heap.size (0+i))=(bytesRow s c)[0+i]?:=by
  exact cell_of_row (w.drew.alloc<|MY s c) w.heap.size (0+i) (bytesRow s c) 5 ((bytesRow s c).size,(bytesRow s c).size+1)<|heap_alloc_new w.drew _
 rw[dC]at a;have h:=a;rw[b,Nat.zero_add,bytesRow_at s c i h];simp[at_,bytesOf,Array.getElem?_eq_getElem h]
theorem Ue(w:World)(s:ByteArray)(h:s.size<=maxLen):Src (w.drew.alloc<|MY s<|grownCap w s.size 0 5) (.slice (some<|dH w.heap.size) s.size<|grownCap w s.size 0 5) (bytesOf s):=
 Or.inr ⟨w.heap.size,0,_,by rw[dC],Ll w s _,sE,by rw[dC];exact grownCap_ge _ _ _ _,grownCap_le_maxLen _ _ _ _ h⟩
def str(l:List Nat):ByteArray:=(l.map λx:Nat=>(x:Int)).foldl (λr n=>r.push (UInt8.ofNat n.toNat)) yA
theorem oY(w:World)(g f n p:Nat)(l:List Nat)(b:l.length=n)(C:cZ w g f l):(convert 179 9<|.slice (some<|d8 g f) n p).run prog w=.ok (.string<|str l) w:=by
 rw[run_convert_bytes_string w _ _ _ _ _ _ underlying179 underlying5 underlying9];refine run_bytesToString w _ _ _ _ ?_;have h:=run_loadCells_list (P:=prog) w (d8 g f) (bs l) λj v a=>?_
 .rw[Ip,b]at h;rw[h];simp[bs]
 .have CB:j<l.length:=by
   have:=(zzd.1 a).1;rwa [Ip]at this
  rw[We l j CB]at a;cases a;simpa [Addr.add_lit]using C j CB
def ah.read(d:ah)(nm:ByteArray):Option ByteArray × Nat :=
 if d.down=true then (none,10) else match d.now nm with|none=>(none,8)|some t=>(some t,0)
def Got(t:Option ByteArray)(v:Value)(w':World):Prop :=
 match t with
 |none=>v=.slice none 0 0
 |some t=>Src w' v (bytesOf t)
def Qx(d:ah)(nm:ByteArray)(w:World)(e:Ending)(w':World):Prop :=
 ∃v,e=.returned (.tuple #[v,cj (d.read nm).2])/\Got (d.read nm).1 v w'/\Below w.heap.size w w'
theorem vd(B p i bN n f N:Nat)(v:Value)(d:ah)(nm:ByteArray)(w:World)(h:aB w B p i bN v d n f N)(M:nm.size<=maxLen):
  Calls prog 355 #[rM p,.string nm] w (Qx d nm w):=by
 have g:=aa h.blk 1;have b:=aa h.blk 5;simp at g b;have I:=ae h;clear h;cases a:d.down with
 |true=>
  rw[a]at b;have D:=ae a;clear a;go_enter func355,ntmps355;go_wp2;go_ret2;have e:d.read nm=(none,10):=by unfold ah.read;rw[if_pos D.out]
  refine⟨.slice none 0 0,by rw[e];rfl,by rw[e];rfl,zzD _ _⟩
 |false=>
  rw[a]at b;have D:=ae a;clear a;rcases I.out.now.look nm M with⟨hN,l⟩|⟨t,q,hN,c,l⟩
  .have HN:=ae hN;clear hN;go_enter func355,ntmps355;go_wp2;go_ret2;have e:d.read nm=(none,8):=by unfold ah.read;rw[if_neg<|by rw[D.out];decide,HN.out]
   refine⟨.slice none 0 0,by rw[e];rfl,by rw[e];rfl,zzD _ _⟩
  .have HN:=ae hN;have m:=Cs c;have z:t.size<=maxLen:=by
    have r:=I.out.Hv nm t hN;have j:=I.out.hN;have o:=I.out.hn;unfold maxLen;omega
   have k:=CA w t;clear hN c;go_enter func355,ntmps355;go_wp2;go_ret2;have e:d.read nm=(some t,0):=by unfold ah.read;rw[if_neg<|by rw[D.out];decide,HN.out]
   refine⟨_,by rw[e];rfl,by rw[e];exact Ue w t z,?_⟩;exact(zzD _ _).drew.alloc (zzc _) _
end Go.Proofs.YtdcafjmdfpjcbaaGreatDoor
