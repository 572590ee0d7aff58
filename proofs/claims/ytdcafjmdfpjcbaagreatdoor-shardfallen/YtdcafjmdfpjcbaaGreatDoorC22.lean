import Derived.Test.YtdcafjmdfpjcbaaGreatDoorC21
set_option maxHeartbeats 8000000
set_option maxRecDepth 100000
namespace Go.Proofs.YtdcafjmdfpjcbaaGreatDoor
open Go.RowKit Go.Maps Tryz Sc
variable{t:Nat}{s:ag}
theorem Ga(p q V T H n t:Nat)(k:ByteArray)(g:aQ)(s:ag)(w:World)(h:bC w p q V T H n s)(E:t<2^64)(L:k.size<=maxLen)(hn:n<maxLen):
  Calls prog 210 #[rM p,.int .u64 (t:Int),.string k,.agg #[.int .u8 (g.way:Int),.string g.val]] w λe w'=>e=.returned (.tuple #[])/\bC w' p q V T H (n+1) (s.take t k g)/\Fr [H] w w':=by
 have uK:=h.oT;have⟨W,m⟩:=xY <|(w.alloc<|.cells #[.int .u8 (g.way:Int),.string g.val] 287).alloc (.cells #[.int .u64 (t:Int),.string k] 289);have M:Fr [] w W:=by rw[m];exact((lE w).alloc _).alloc _
 have a6:W.heap.size=w.heap.size+2:=by rw[m];simp
 have N:W.heap[w.heap.size]?=some (.cells #[.int .u8 (g.way:Int),.string g.val] 287):=by
  rw[m];exact(zzf _ _ _ sE).trans<|heap_alloc_new w _
 have Q:W.heap[w.heap.size+1]?=some (.cells #[.int .u64 (t:Int),.string k] 289):=by
  rw[m];have:=heap_alloc_new (w.alloc<|.cells #[.int .u8 (g.way:Int),.string g.val] 287)<|.cells #[.int .u64 (t:Int),.string k] 289;rwa [zzv]at this
 have Y:Hid (bC W p q V T H n s):=h.fr M sE sE sE sE;have U:=ae M;have j:Hid (∀d,Fr [] W d->d.cell? ⟨w.heap.size,0,none⟩=some (.int .u8 (g.way:Int))/\d.cell? ⟨w.heap.size,1,none⟩=some (.string g.val)/\d.cell? ⟨w.heap.size+1,0,none⟩=some (.int .u64 (t:Int))/\d.cell? ⟨w.heap.size+1,1,none⟩=some (.string k)/\d.cell? ⟨p,3,none⟩=some (.map<|some H)/\(Instr.lookup 145 (.map<|some H) (.agg #[.int .u64 (t:Int),.string k]) false).run prog d=.ok (.agg #[.int .u8 ((s.dx t k).way:Int),.string (s.dx t k).val]) d):=λd I=>by
  have e1:=(I.block _ oE sE).trans N;have R:=(I.block _ oE sE).trans Q;have hi:=Y.out.fr I sE sE sE sE;have x0:=aa e1 0;have O:=aa e1 1;have y0:=aa R 0;have y1:=aa R 1;have A:=aa hi.blk 3;simp at x0 O y0 y1 A;exact⟨x0,O,y0,y1,A,hi.WC E L⟩
 clear h N Q M;go_enter func210,ntmps210;go_wp2;rw[<-m];clear m;refine wp_region_held_drew (S:=(λw'=>w'.cell? ⟨w.heap.size,0,none⟩=some (.int .u8 (g.way:Int))/\w'.cell? ⟨w.heap.size,1,none⟩=some (.string g.val)/\w'.cell? ⟨w.heap.size+1,0,none⟩=some (.int .u64 (t:Int))/\w'.cell? ⟨w.heap.size+1,1,none⟩=some (.string k)/\w'.cell? ⟨p,3,none⟩=some (.map<|some H)/\(Instr.lookup 145 (.map<|some H) (.agg #[.int .u64 (t:Int),.string k]) false).run prog w'=.ok (.agg #[.int .u8 ((s.dx t k).way:Int),.string (s.dx t k).val]) w')) k6 (j.out _ (lE W).drew) (λl=>?_);refine wpAnyH_take (i:=0) (oi:={dst:=some 12,op:=_,type:=_,pos:=_,after:=_,guard:=_}) (v:=.agg #[.int .u8 (g.way:Int),.string g.val]) rfl k6 k6 k6 (λ_ _ _ h=>h) (Or.inl ⟨by rfl,?_⟩) pE ?_
 .intro w' hSw;(try dsimp only at hSw);go_simp
 (try simp only[Act.put,mA,mC,mI]);cases x:g.writes with
 |false=>
  have r:=vq g W.drew;rw[x]at r;refine wpAnyH_ready (rs:=[1]) k6 (by simp) ?_;refine AllReadyH.cons (o:={dst:=some 13,op:=_,type:=_,pos:=_,after:=_,guard:=_}) rfl (λK b=>?_) AllReadyH.nil;go_simp;refine(r).mono ?_;rintro e w1 ⟨rfl,rfl⟩;go_wp2_with fail;refine b.out _ _ (j.out _<|(lE W).drew.alloc _) λl=>?_;clear b K
  (try simp only[Act.put,mA,mC,mI])
  refine wpAnyH_take (i:=2) (oi:={dst:=some 14,op:=_,type:=_,pos:=_,after:=_,guard:=_}) (v:=.bool false) rfl k6 k6 k6 (λ_ _ _ h=>h) (Or.inl ⟨by rfl,?_⟩) pE ?_
  .intro w' hSw;(try dsimp only at hSw);go_simp
  (try simp only[Act.put,mA,mC,mI])
  refine wpAnyH_take (i:=3) (oi:={dst:=some 15,op:=_,type:=_,pos:=_,after:=_,guard:=_}) (v:=.pointer<|some ⟨p,0,none⟩) rfl k6 k6 k6 (λ_ _ _ h=>h) (Or.inl ⟨by rfl,?_⟩) pE ?_
  .intro w' hSw;(try dsimp only at hSw);go_simp
  (try simp only[Act.put,mA,mC,mI])
  refine wpAnyH_take (i:=4) (oi:={dst:=some 16,op:=_,type:=_,pos:=_,after:=_,guard:=_}) (v:=.pointer<|some ⟨p,0,none⟩) rfl k6 k6 k6 (λ_ _ _ h=>h) (Or.inl ⟨by rfl,?_⟩) pE ?_
  .intro w' hSw;(try dsimp only at hSw);go_simp
  (try simp only[Act.put,mA,mC,mI]);refine wpAnyH_take (i:=5) (oi:={dst:=some 17,op:=_,type:=_,pos:=_,after:=_,guard:=_}) (v:=.pointer<|some ⟨p,3,none⟩) rfl k6 k6 k6 (λ_ _ _ h=>h) (Or.inl ⟨by rfl,?_⟩) pE ?_
  .intro w' hSw;(try dsimp only at hSw);go_simp
  (try simp only[Act.put,mA,mC,mI]);refine wpAnyH_take (i:=6) (oi:={dst:=some 18,op:=_,type:=_,pos:=_,after:=_,guard:=_}) (v:=.map<|some H) rfl k6 k6 k6 (λ_ _ _ h=>h) (Or.inl ⟨by rfl,?_⟩) pE ?_
  .intro w' hSw;(try dsimp only at hSw);go_simp
  (try simp only[Act.put,mA,mC,mI]);refine wpAnyH_take (i:=7) (oi:={dst:=some 19,op:=_,type:=_,pos:=_,after:=_,guard:=_}) (v:=.agg #[.int .u64 (t:Int),.string k]) rfl k6 k6 k6 (λ_ _ _ h=>h) (Or.inl ⟨by rfl,?_⟩) pE ?_
  .intro w' hSw;(try dsimp only at hSw);go_simp
  (try simp only[Act.put,mA,mC,mI]);refine wpAnyH_take (i:=8) (oi:={dst:=some 20,op:=_,type:=_,pos:=_,after:=_,guard:=_}) (v:=.agg #[.int .u8 ((s.dx t k).way:Int),.string (s.dx t k).val]) rfl k6 k6 k6 (λ_ _ _ h=>h) (Or.inl ⟨by rfl,?_⟩) pE ?_
  .intro w' hSw;(try dsimp only at hSw);go_simp
  (try simp only[Act.put,mA,mC,mI]);have Z:=vq (s.dx t k)<|W.drew.alloc<|.cells #[.int .u8 (g.way:Int),.string g.val] 287
  cases B:(s.dx t k).writes with
  |true=>
   rw[B]at Z;refine wpAnyH_ready (rs:=[9]) k6 sE ?_;refine AllReadyH.cons (o:={dst:=some 21,op:=_,type:=_,pos:=_,after:=_,guard:=_}) rfl (λK b=>?_) AllReadyH.nil;go_simp;refine(Z).mono ?_;rintro e w2 ⟨rfl,rfl⟩;go_wp2_with fail;refine b.out _ _ (j.out _<|((lE W).drew.alloc _).alloc _) λl=>?_;clear b K
   (try simp only[Act.put,mA,mC,mI]);refine wpAnyH_take (i:=10) (oi:={dst:=some 22,op:=_,type:=_,pos:=_,after:=_,guard:=_}) (v:=.bool false) rfl k6 k6 k6 (λ_ _ _ h=>h) (Or.inl ⟨by rfl,?_⟩) pE ?_
   .intro w' hSw;(try dsimp only at hSw);go_simp
   (try simp only[Act.put,mA,mC,mI]);refine wpAnyH_take (i:=11) (oi:={dst:=some 23,op:=_,type:=_,pos:=_,after:=_,guard:=_}) (v:=.bool false) rfl k6 k6 k6 (λ_ _ _ h=>h) (Or.inl ⟨by rfl,?_⟩) pE ?_
   .intro w' hSw;(try dsimp only at hSw);go_simp
   (try simp only[Act.put,mA,mC,mI]);refine wpAnyH_done k6 ?_ _;have y:Hid (s.take t k g=s):=by show _=_;unfold ag.take;rw[if_neg<|by simp[x,B]]
   clear l;go_wp2;go_end0;rw[y.out];refine⟨rfl,(Y.out.fr (((lE W).drew.alloc _).alloc _) sE sE sE sE).mono oE,?_⟩;exact(U.out.trans<|((lE W).drew.alloc _).alloc _).mono sE
  |false=>
   rw[B]at Z;refine wpAnyH_ready (rs:=[9]) k6 sE ?_;refine AllReadyH.cons (o:={dst:=some 21,op:=_,type:=_,pos:=_,after:=_,guard:=_}) rfl (λK b=>?_) AllReadyH.nil;go_simp;refine(Z).mono ?_;rintro e w2 ⟨rfl,rfl⟩;go_wp2_with fail;refine b.out _ _ (j.out _<|((lE W).drew.alloc _).alloc _) λl=>?_;clear b K
   (try simp only[Act.put,mA,mC,mI]);refine wpAnyH_take (i:=10) (oi:={dst:=some 22,op:=_,type:=_,pos:=_,after:=_,guard:=_}) (v:=.bool true) rfl k6 k6 k6 (λ_ _ _ h=>h) (Or.inl ⟨by rfl,?_⟩) pE ?_
   .intro w' hSw;(try dsimp only at hSw);go_simp
   (try simp only[Act.put,mA,mC,mI]);refine wpAnyH_take (i:=11) (oi:={dst:=some 23,op:=_,type:=_,pos:=_,after:=_,guard:=_}) (v:=.bool true) rfl k6 k6 k6 (λ_ _ _ h=>h) (Or.inl ⟨by rfl,?_⟩) pE ?_
   .intro w' hSw;(try dsimp only at hSw);go_simp
   (try simp only[Act.put,mA,mC,mI]);refine wpAnyH_done k6 ?_ _;have y:Hid (s.take t k g={s with holds:=dm s.holds (t,k) g}):=by show _=_;unfold ag.take;rw[if_pos<|by simp[x,B]]
   have⟨a,X⟩:=xY <|((W.alloc<|.cells #[.int .u8 (g.way:Int),.string g.val] 287).alloc<|.cells #[.int .u8 ((s.dx t k).way:Int),.string (s.dx t k).val] 287).drew;have D:Fr [] W a:=by rw[X];exact(((lE W).alloc _).alloc _).drew
   have⟨z0,z1,z2,A,z4,C⟩:=j.out a D;have f:=Y.out.fr D sE sE sE sE;have F:=ae D;rw[<-X];clear X D l C;have⟨c,J,u,z⟩:=(f.holds.fr (lE a).drew sE).tS underlying145 hn (k:=(t,k)) ⟨E,L⟩ (v:=g) trivial;have a1:(Instr.mapUpdate 145 (.map<|some H) (.agg #[.int .u64 (t:Int),.string k])<|.agg #[.int .u8 (g.way:Int),.string g.val]).run prog a.drew=.ok () c:=J;have P:Fr [H] a c:=((Fr.refl [H] a).drew).trans<|Fr.bK z;have G:Hid (bC c p q V T H (n+1) {s with holds:=dm s.holds (t,k) g}/\Fr [H] w c):=⟨f.vt P u oE,((U.out.mono sE).trans<|F.out.mono sE).trans P⟩;clear J u z P f;go_wp2
   go_region;go_end0;rw[y.out];exact⟨rfl,G.out⟩
 |true=>
  have r:=vq g W.drew;rw[x]at r;refine wpAnyH_ready (rs:=[1]) k6 (by simp) ?_;refine AllReadyH.cons (o:={dst:=some 13,op:=_,type:=_,pos:=_,after:=_,guard:=_}) rfl (λK b=>?_) AllReadyH.nil;go_simp;refine(r).mono ?_;rintro e w1 ⟨rfl,rfl⟩;go_wp2_with fail;refine b.out _ _ (j.out _<|(lE W).drew.alloc _) λl=>?_;clear b K
  (try simp only[Act.put,mA,mC,mI]);refine wpAnyH_take (i:=2) (oi:={dst:=some 14,op:=_,type:=_,pos:=_,after:=_,guard:=_}) (v:=.bool true) rfl k6 k6 k6 (λ_ _ _ h=>h) (Or.inl ⟨by rfl,?_⟩) pE ?_
  .intro w' hSw;(try dsimp only at hSw);go_simp
  (try simp only[Act.put,mA,mC,mI]);refine wpAnyH_take (i:=3) (oi:={dst:=some 15,op:=_,type:=_,pos:=_,after:=_,guard:=_}) (v:=undef) rfl k6 k6 k6 (λ_ _ _ h=>h) (Or.inr ⟨by rfl,rfl⟩) pE ?_;(try simp only[Act.put,mA,mC,mI]);refine wpAnyH_take (i:=4) (oi:={dst:=some 16,op:=_,type:=_,pos:=_,after:=_,guard:=_}) (v:=undef) rfl k6 k6 k6 (λ_ _ _ h=>h) (Or.inr ⟨by rfl,rfl⟩) pE ?_;(try simp only[Act.put,mA,mC,mI]);refine wpAnyH_take (i:=5) (oi:={dst:=some 17,op:=_,type:=_,pos:=_,after:=_,guard:=_}) (v:=undef) rfl k6 k6 k6 (λ_ _ _ h=>h) (Or.inr ⟨by rfl,rfl⟩) pE ?_;(try simp only[Act.put,mA,mC,mI]);refine wpAnyH_take (i:=6) (oi:={dst:=some 18,op:=_,type:=_,pos:=_,after:=_,guard:=_}) (v:=undef) rfl k6 k6 k6 (λ_ _ _ h=>h) (Or.inr ⟨by rfl,rfl⟩) pE ?_;(try simp only[Act.put,mA,mC,mI]);refine wpAnyH_take (i:=7) (oi:={dst:=some 19,op:=_,type:=_,pos:=_,after:=_,guard:=_}) (v:=undef) rfl k6 k6 k6 (λ_ _ _ h=>h) (Or.inr ⟨by rfl,rfl⟩) pE ?_;(try simp only[Act.put,mA,mC,mI]);refine wpAnyH_take (i:=8) (oi:={dst:=some 20,op:=_,type:=_,pos:=_,after:=_,guard:=_}) (v:=undef) rfl k6 k6 k6 (λ_ _ _ h=>h) (Or.inr ⟨by rfl,rfl⟩) pE ?_;(try simp only[Act.put,mA,mC,mI]);refine wpAnyH_take (i:=9) (oi:={dst:=some 21,op:=_,type:=_,pos:=_,after:=_,guard:=_}) (v:=undef) rfl k6 k6 k6 (λ_ _ _ h=>h) (Or.inr ⟨by rfl,rfl⟩) pE ?_;(try simp only[Act.put,mA,mC,mI]);refine wpAnyH_take (i:=10) (oi:={dst:=some 22,op:=_,type:=_,pos:=_,after:=_,guard:=_}) (v:=undef) rfl k6 k6 k6 (λ_ _ _ h=>h) (Or.inr ⟨by rfl,rfl⟩) pE ?_;(try simp only[Act.put,mA,mC,mI]);refine wpAnyH_take (i:=11) (oi:={dst:=some 23,op:=_,type:=_,pos:=_,after:=_,guard:=_}) (v:=.bool true) rfl k6 k6 k6 (λ_ _ _ h=>h) (Or.inl ⟨by rfl,?_⟩) pE ?_
  .intro w' hSw;(try dsimp only at hSw);go_simp
  (try simp only[Act.put,mA,mC,mI]);refine wpAnyH_done k6 ?_ _;have y:Hid (s.take t k g={s with holds:=dm s.holds (t,k) g}):=by show _=_;unfold ag.take;rw[if_pos<|by simp[x]]
  have⟨a,X⟩:=xY <|(W.alloc<|.cells #[.int .u8 (g.way:Int),.string g.val] 287).drew;have D:Fr [] W a:=by rw[X];exact((lE W).alloc _).drew
  have⟨z0,z1,z2,A,z4,C⟩:=j.out a D;have f:=Y.out.fr D sE sE sE sE;have F:=ae D;rw[<-X];clear X D l C;have⟨c,J,u,z⟩:=(f.holds.fr (lE a).drew sE).tS underlying145 hn (k:=(t,k)) ⟨E,L⟩ (v:=g) trivial;have a1:(Instr.mapUpdate 145 (.map<|some H) (.agg #[.int .u64 (t:Int),.string k])<|.agg #[.int .u8 (g.way:Int),.string g.val]).run prog a.drew=.ok () c:=J;have P:Fr [H] a c:=((Fr.refl [H] a).drew).trans<|Fr.bK z;have G:Hid (bC c p q V T H (n+1) {s with holds:=dm s.holds (t,k) g}/\Fr [H] w c):=⟨f.vt P u oE,((U.out.mono sE).trans<|F.out.mono sE).trans P⟩;clear J u z P f;go_wp2
  go_region;go_end0;rw[y.out];exact⟨rfl,G.out⟩
theorem bC.aaK{w:World}{p g V T H n:Nat}(h:bC w p g V T H n s)(y:TypeId):(Builtin.len_ #[144] y #[.map<|some T]).run prog w=.ok (.int .i64 (s.af.length:Int)) w:=
 h.af.I6 underlying144 y
def ag.fO(s:ag)(t:Nat)(seq:Int)(k v:ByteArray):Nat :=
 if t=0 then 7 else if k.size<1\/16<k.size\/32<v.size then 1 else if (s.aM t).state=3\/seq≠((s.aM t).done:Int) then 4 else if (s.aM t).state=2 then 3 else if (s.aM t).state=0/\12<=s.af.length then 5 else 0
theorem D4(p a V T H n:Nat)(seq:Int)(k:ByteArray)(g:aQ)(s:ag)(w:World)(h:bC w p a V T H n s)(q:1<=a:=by first|assumption|omega):
  Calls prog 226 #[rM p,.int .u64 0,.int .i64 seq,.string k,.agg #[.int .u8 (g.way:Int),.string g.val]] w λe w'=>e=.returned (cj 7)/\Fr [] w w':=by
 have l:∀W,Fr [] w W->(Instr.lookup 144 (.map<|some T) (.int .u64 0) false).run prog W=.ok (.agg #[.int .i64 ((s.aM 0).state:Int),.int .i64 ((s.aM 0).done:Int),.int .u64 ((s.aM 0).last:Int)]) W:=λW b=>(h.fr b sE sE sE sE).zR dN
 have d:=l _<|(lE w).alloc<|.cells #[.int .u8 (g.way:Int),.string g.val] 287;have c:=aa h.blk 0;have c2:=aa h.blk 2;simp at c c2;rw[iw q]at c;clear q;have K:=h.oT.1;have z:¬p=w.heap.size:=oE
 clear h l;go_enter func226,ntmps226;go_wp2;go_ret;exact⟨by rw[aG dN];rfl,((lE w).alloc _).alloc _⟩
theorem B3(p o V T H n t:Nat)(seq:Int)(k:ByteArray)(g:aQ)(s:ag)(w:World)(h:bC w p o V T H n s)(I:t<2^64)(z:t≠0)(x:s.fO t seq k g.val≠5)(r:s.fO t seq k g.val≠0)(J:1<=o:=by first|assumption|omega):
  Calls prog 226 #[rM p,.int .u64 (t:Int),.int .i64 seq,.string k,.agg #[.int .u8 (g.way:Int),.string g.val]] w λe w'=>e=.returned (cj<|s.fO t seq k g.val)/\Fr [] w w':=by
 have u:∀W,Fr [] w W->(Instr.lookup 144 (.map<|some T) (.int .u64 (t:Int)) false).run prog W=.ok (.agg #[.int .i64 ((s.aM t).state:Int),.int .i64 ((s.aM t).done:Int),.int .u64 ((s.aM t).last:Int)]) W:=λW A=>(h.fr A sE sE sE sE).zR I
 have L:=u _<|(lE w).alloc<|.cells #[.int .u8 (g.way:Int),.string g.val] 287;have y:=aa h.blk 0;have c2:=aa h.blk 2;simp at y c2;rw[iw J]at y;clear J;have N:=h.oT.1;have O:¬p=w.heap.size:=oE
 have M:¬(t:Int)=0:=oE;clear h u;have G:=ae x;clear x;unfold ag.fO at r ⊢;rw[if_neg z]at r ⊢;by_cases m:k.size<1
 .rw[if_pos<|.inl m];have C:(k.size:Int)<1:=oE
  clear r;go_enter func226,ntmps226;go_wp2;go_ret;exact⟨by rw[aG dN];rfl,((lE w).alloc _).alloc _⟩
 .have C:¬(k.size:Int)<1:=oE;by_cases q:16<k.size
  .rw[if_pos<|.inr<|.inl q];have D:(16:Int)<(k.size:Int):=oE
   clear r;go_enter func226,ntmps226;go_wp2;go_ret;exact⟨by rw[aG dN];rfl,((lE w).alloc _).alloc _⟩
  .have D:¬(16:Int)<(k.size:Int):=oE;by_cases v:32<g.val.size
   .rw[if_pos<|.inr<|.inr v];have K:(32:Int)<(g.val.size:Int):=oE
    clear r;go_enter func226,ntmps226;go_wp2;go_ret;exact⟨by rw[aG dN];rfl,((lE w).alloc _).alloc _⟩
   .have K:¬(32:Int)<(g.val.size:Int):=oE;have l:¬(k.size<1\/16<k.size\/32<g.val.size):=oE;rw[if_neg l]at r ⊢;have E:Hid ((s.aM t).state≠3->seq=((s.aM t).done:Int)->(s.aM t).state≠2->((s.aM t).state=0/\12<=s.af.length)->False):=λa b c d=>G.out<|by unfold ag.fO;rw[if_neg z,if_neg l,if_neg oE,if_neg c,if_pos d]
    clear m q v l;by_cases f:(s.aM t).state=3
    .rw[if_pos<|.inl f];have F:((s.aM t).state:Int)=3:=oE
     clear r f;go_enter func226,ntmps226;go_wp2;go_ret;exact⟨by rw[aG dN];rfl,((lE w).alloc _).alloc _⟩
    .have F:¬((s.aM t).state:Int)=3:=oE;by_cases i:seq=((s.aM t).done:Int)
     .rw[if_neg oE]at r ⊢;by_cases j:(s.aM t).state=2
      .rw[if_pos j];have B:((s.aM t).state:Int)=2:=oE;clear r f j;go_enter func226,ntmps226;go_wp2;go_ret;exact⟨by rw[aG dN];rfl,((lE w).alloc _).alloc _⟩
      .rw[if_neg j]at r ⊢;rw[if_neg<|E.out f i j]at r;exact absurd rfl r
     .rw[if_pos<|.inr i];have B:(seq != ((s.aM t).done:Int))=true:=by simp[i]
      clear r f i;go_enter func226,ntmps226;go_wp2;go_ret;exact⟨by rw[aG dN];rfl,((lE w).alloc _).alloc _⟩
theorem D5(p l V T r n t:Nat)(seq:Int)(k:ByteArray)(g:aQ)(s:ag)(w:World)(h:bC w p l V T r n s)(u:t<2^64)(C:t≠0)(f:¬(k.size<1\/16<k.size\/32<g.val.size))(o:(s.aM t).state=0)(m:seq=((s.aM t).done:Int))(H:12<=s.af.length)(q:1<=l:=by first|assumption|omega):
  Calls prog 226 #[rM p,.int .u64 (t:Int),.int .i64 seq,.string k,.agg #[.int .u8 (g.way:Int),.string g.val]] w λe w'=>e=.returned (cj 5)/\Fr [] w w':=by
 have b:∀W,Fr [] w W->(Instr.lookup 144 (.map<|some T) (.int .u64 (t:Int)) false).run prog W=.ok (.agg #[.int .i64 ((s.aM t).state:Int),.int .i64 ((s.aM t).done:Int),.int .u64 ((s.aM t).last:Int)]) W:=λW a=>(h.fr a sE sE sE sE).zR u
 have d:=b _<|(lE w).alloc<|.cells #[.int .u8 (g.way:Int),.string g.val] 287;have hn:∀W,Fr [] w W->∀y,(Builtin.len_ #[144] y #[.map<|some T]).run prog W=.ok (.int .i64 (s.af.length:Int)) W:=λW a y=>(h.fr a sE sE sE sE).aaK y
 have i:=hn _<|((lE w).alloc<|.cells #[.int .u8 (g.way:Int),.string g.val] 287).alloc<|.cells #[.int .i64 ((s.aM t).state:Int),.int .i64 ((s.aM t).done:Int),.int .u64 ((s.aM t).last:Int)] 195;have c:=aa h.blk 0;have c2:=aa h.blk 2;simp at c c2;rw[iw q]at c;clear q;have K:=h.oT.1;have B:¬p=w.heap.size:=oE
 have v:¬(t:Int)=0:=oE;have x:¬(k.size:Int)<1:=oE;have z:¬(16:Int)<(k.size:Int):=oE;have D:¬(32:Int)<(g.val.size:Int):=oE;have j:((s.aM t).state:Int)=0:=oE;have A:(12:Int)<=(s.af.length:Int):=oE;rw[j]at d i;subst m;clear h b hn f o H j;go_enter func226,ntmps226;go_wp2;go_ret;exact⟨by rw[aG dN];rfl,((lE w).alloc _).alloc _⟩
def ag.count(s:ag)(t:Nat):Nat:=(s.holds.filter λp=>decide (p.1.1=t)).length
theorem xe{K V:Type}[DecidableEq K]{l:List (K×V)}(h:aV l):(l.map (·.1)).Nodup:=by
 unfold List.Nodup;rw[List.pairwise_map];exact h
theorem ag.jx{L:List (ByteArray×aQ)}(g:aV s.holds)(c:aV L)(h:∀k,aj L k=aj s.holds (t,k)):L.length=s.count t:=by
 have j:=xe c;have n:((s.holds.filter λp=>decide<|p.1.1=t).map (·.1.2)).Nodup:=by
  unfold List.Nodup;rw[List.pairwise_map];apply(g.filter _).imp_of_mem;intro a b f i d e;have V:=(zzp.1 f).2;have U:=(zzp.1 i).2;simp at V U;exact d<|Prod.ext (V.trans U.symm) e
 have hp:(L.map (·.1)).Perm ((s.holds.filter λp=>decide<|p.1.1=t).map (·.1.2)):=by
  rw[List.perm_ext_iff_of_nodup j n];intro k;constructor
  .intro hk;obtain⟨p,hp,rfl⟩:=zzq.1 hk;have:=bS c (k:=p.1) (v:=p.2) hp;rw[h]at this;exact zzq.2 ⟨_,zzp.2 ⟨bJ this,sE⟩,rfl⟩
  .grind [aj,bS,bJ]
 have:=hp.length_eq;simpa [ag.count]using this
def ag.gV(s:ag)(t:Nat)(k:ByteArray):Nat:=if (aj s.holds (t,k)).isSome=false/\4<=s.count t then 5 else 0
theorem D7(p v V T I n t:Nat)(seq:Int)(k:ByteArray)(g:aQ)(s:ag)(w:World)(h:bC w p v V T I n s)(J:t<2^64)(h0:t≠0)(x:¬(k.size<1\/16<k.size\/32<g.val.size))(m:(s.aM t).state=0\/(s.aM t).state=1)(P:seq=((s.aM t).done:Int))(H:(s.aM t).state=0->s.af.length<12)(hn:n<maxLen)(K:1<=v:=by first|assumption|omega):
  Calls prog 226 #[rM p,.int .u64 (t:Int),.int .i64 seq,.string k,.agg #[.int .u8 (g.way:Int),.string g.val]] w λe w'=>e=.returned (cj<|s.gV t k)/\Fr [] w w':=by
 have D:k.size<=maxLen:=mE;have⟨W,d⟩:=xY <|(w.alloc<|.cells #[.int .u8 (g.way:Int),.string g.val] 287).alloc (.cells #[.int .i64 ((s.aM t).state:Int),.int .i64 ((s.aM t).done:Int),.int .u64 ((s.aM t).last:Int)] 195);have A:Fr [] w W:=by rw[d];exact((lE w).alloc _).alloc _
 have B:=h.fr A sE sE sE sE;have E:∀W,Fr [] w W->(Instr.lookup 144 (.map<|some T) (.int .u64 (t:Int)) false).run prog W=.ok (.agg #[.int .i64 ((s.aM t).state:Int),.int .i64 ((s.aM t).done:Int),.int .u64 ((s.aM t).last:Int)]) W:=λW d=>(h.fr d sE sE sE sE).zR J
 have o:=E _<|(lE w).alloc<|.cells #[.int .u8 (g.way:Int),.string g.val] 287;have l:=B.aaK;have U:=nG p v V T I n t s W B J hn;have N:Hid (aV s.holds):=by have⟨_,_,_,j,_⟩:=h.holds;exact j
 rw[d]at l U;have r:Hid (Fr [] w<|(w.alloc<|.cells #[.int .u8 (g.way:Int),.string g.val] 287).alloc<|.cells #[.int .i64 ((s.aM t).state:Int),.int .i64 ((s.aM t).done:Int),.int .u64 ((s.aM t).last:Int)] 195):=by rw[<-d];exact A
 have u:=aa h.blk 0;have c2:=aa h.blk 2;simp at u c2;rw[iw K]at u;clear K;have X:=h.oT.1;have z1:¬p=w.heap.size:=oE;have S:¬(t:Int)=0:=oE;have Y:¬(k.size:Int)<1:=oE;have Z:¬(16:Int)<(k.size:Int):=oE;have j3:¬(32:Int)<(g.val.size:Int):=oE;subst P;clear h E x B A d;obtain m|m:=m
 .have j4:((s.aM t).state:Int)=0:=oE;have j6:¬(12:Int)<=(s.af.length:Int):=by have:=H m;omega
  rw[j4]at o l U r;clear m H j4;go_enter func226,ntmps226;go_wp2_with fail;apply U.mono;clear U;rintro e a ⟨b,L,rfl,x,hL,ic,bF⟩;have C:Hid (L.length=s.count t):=ag.jx N.out (by have⟨_,_,_,j,_⟩:=hL;exact j) ic;have q:=hL.DT underlying303 (qB a) trivial (k:=k) D;rw[ic k]at q;have F:=ae<|r.out.trans bF;have M:=ae hL;have⟨G,i⟩:∃G,G=(aj s.holds (t,k)).getD ⟨0,ByteArray.empty⟩:=⟨_,rfl⟩;rw[<-i]at q;have f:(Instr.lookup 303 (.map<|some b) (.string k) true).run prog a=.ok (.tuple #[.agg #[.int .u8 (G.way:Int),.string G.val],.bool (aj s.holds (t,k)).isSome]) a:=q
  have Q:∀y,(Builtin.len_ #[303] y #[.map<|some b]).run prog (a.alloc<|.cells #[.int .u8 (G.way:Int),.string G.val] 287)=.ok (.int .i64 (s.count t:Int)) (a.alloc<|.cells #[.int .u8 (G.way:Int),.string G.val] 287):=λy=>by
   rw[<-C.out];exact(M.out.fr ((lE a).alloc _) sE).I6 underlying303 y
  clear hL ic bF q i o l u c2;cases O:(aj s.holds (t,k)).isSome with
  |true=>
   rw[O]at f;have R:Hid (s.gV t k=0):=by show _=_;unfold ag.gV;rw[if_neg<|by simp[O]]
   clear O;go_wp2;go_ret;rw[R.out];exact⟨rfl,F.out.alloc _⟩
  |false=>
   rw[O]at f;by_cases c:4<=s.count t
   .have R:Hid (s.gV t k=5):=by show _=_;unfold ag.gV;rw[if_pos ⟨O,c⟩]
    have z:(4:Int)<=(s.count t:Int):=oE;clear O c;go_wp2;go_ret;rw[R.out];exact⟨by rw[aG dN];rfl,F.out.alloc _⟩
   .have R:Hid (s.gV t k=0):=by show _=_;unfold ag.gV;rw[if_neg oE]
    have z:¬(4:Int)<=(s.count t:Int):=oE;clear O c;go_wp2;go_ret;rw[R.out];exact⟨rfl,F.out.alloc _⟩
 .have j4:((s.aM t).state:Int)=1:=oE;rw[j4]at o l U r;clear m H j4;go_enter func226,ntmps226;go_wp2_with fail;apply U.mono;clear U;rintro e a ⟨b,L,rfl,x,hL,ic,bF⟩;have C:Hid (L.length=s.count t):=ag.jx N.out (by have⟨_,_,_,j,_⟩:=hL;exact j) ic;have q:=hL.DT underlying303 (qB a) trivial (k:=k) D;rw[ic k]at q;have F:=ae<|r.out.trans bF;have M:=ae hL;have⟨G,i⟩:∃G,G=(aj s.holds (t,k)).getD ⟨0,ByteArray.empty⟩:=⟨_,rfl⟩;rw[<-i]at q;have f:(Instr.lookup 303 (.map<|some b) (.string k) true).run prog a=.ok (.tuple #[.agg #[.int .u8 (G.way:Int),.string G.val],.bool (aj s.holds (t,k)).isSome]) a:=q
  have Q:∀y,(Builtin.len_ #[303] y #[.map<|some b]).run prog (a.alloc<|.cells #[.int .u8 (G.way:Int),.string G.val] 287)=.ok (.int .i64 (s.count t:Int)) (a.alloc<|.cells #[.int .u8 (G.way:Int),.string G.val] 287):=λy=>by
   rw[<-C.out];exact(M.out.fr ((lE a).alloc _) sE).I6 underlying303 y
  clear hL ic bF q i o l u c2;cases O:(aj s.holds (t,k)).isSome with
  |true=>
   rw[O]at f;have R:Hid (s.gV t k=0):=by show _=_;unfold ag.gV;rw[if_neg<|by simp[O]]
   clear O;go_wp2;go_ret;rw[R.out];exact⟨rfl,F.out.alloc _⟩
  |false=>
   rw[O]at f;by_cases c:4<=s.count t
   .have R:Hid (s.gV t k=5):=by show _=_;unfold ag.gV;rw[if_pos ⟨O,c⟩]
    have z:(4:Int)<=(s.count t:Int):=oE;clear O c;go_wp2;go_ret;rw[R.out];exact⟨by rw[aG dN];rfl,F.out.alloc _⟩
   .have R:Hid (s.gV t k=0):=by show _=_;unfold ag.gV;rw[if_neg oE]
    have z:¬(4:Int)<=(s.count t:Int):=oE;clear O c;go_wp2;go_ret;rw[R.out];exact⟨rfl,F.out.alloc _⟩
def ag.refuse(s:ag)(t:Nat)(seq:Int)(k v:ByteArray):Nat:=if s.fO t seq k v=0 then s.gV t k else s.fO t seq k v
theorem sZ(s:ag)(t:Nat)(seq:Int)(k v:ByteArray)(h:t≠0):
  (s.fO t seq k v≠0/\s.fO t seq k v≠5)\/(s.fO t seq k v=5/\¬(k.size<1\/16<k.size\/32<v.size)/\seq=((s.aM t).done:Int)/\(s.aM t).state=0/\12<=s.af.length) \/
  (s.fO t seq k v=0/\¬(k.size<1\/16<k.size\/32<v.size)/\seq=((s.aM t).done:Int)/\(s.aM t).state≠3/\(s.aM t).state≠2/\¬((s.aM t).state=0/\12<=s.af.length)):=by
 unfold ag.fO;rw[if_neg h];by_cases b:k.size<1\/16<k.size\/32<v.size
 .grind
 .grind
theorem Gb(p l V T H n t:Nat)(seq:Int)(k:ByteArray)(g:aQ)(s:ag)(w:World)(h:bC w p l V T H n s)(f:t<2^64)(hn:n<maxLen)(m:(s.aM t).state<=3)(J:1<=l:=by first|assumption|omega):
  Calls prog 226 #[rM p,.int .u64 (t:Int),.int .i64 seq,.string k,.agg #[.int .u8 (g.way:Int),.string g.val]] w λe w'=>e=.returned (cj<|s.refuse t seq k g.val)/\Fr [] w w':=by
 unfold ag.refuse;by_cases a:t=0
 .grind [ag.fO,D4]
 .rcases sZ s t seq k g.val a with⟨j,i⟩|⟨e,c,q,b,d⟩|⟨e,c,q,b,d,o⟩
  .grind [B3]
  .grind [D5]
  .grind [D7]
def ag.aY(s:ag)(t:Nat)(seq:Int)(k:ByteArray)(g:aQ):ag × Nat :=
 if s.refuse t seq k g.val=0 then
  if s.pP t k g.writes=true then ({ s with af:=dm s.af t ⟨2,(s.aM t).done,s.aL⟩ },3)
  else (({ s with af:=dm s.af t ⟨1,(s.aM t).done+1,s.aL⟩ }:ag).take t k g,0)
 else (s,s.refuse t seq k g.val)
theorem D8{seq:Int}{k v:ByteArray}(h:s.refuse t seq k v=0):t≠0/\k.size<=16/\v.size<=32:=by grind[ag.refuse,ag.fO,sZ]
theorem qF(h m V T H n t:Nat)(seq:Int)(k:ByteArray)(g:aQ)(s:ag)(w:World)(a':bC w h m V T H n s)(K:t<2^64)(hn:n+2<maxLen)(cm:(s.aM t).state<=3)(jM:(s.aM t).done<4611686018427387904)(Jq:1<=m:=by first|assumption|omega):
  Calls prog 178 #[rM h,.int .u64 (t:Int),.int .i64 seq,.string k,.agg #[.int .u8 (g.way:Int),.string g.val]] w λe w'=>e=.returned (cj (s.aY t seq k g).2)/\bC w' h m V T H (n+2) (s.aY t seq k g).1/\Fr [T,H] w w':=by
 obtain⟨D,X⟩:∃D,D=w.alloc (.cells #[.int .u8 (g.way:Int),.string g.val] 287):=⟨_,rfl⟩;have eU:Fr [] w D:=by rw[X];exact(lE w).alloc _
 have nh:D.heap[w.heap.size]?=some (.cells #[.int .u8 (g.way:Int),.string g.val] 287):=by rw[X];exact heap_alloc_new w _
 have a8:=a'.fr eU sE sE sE sE;have Jr:=Gb h m V T H n t seq k g s D a8 K oE cm;rw[X]at Jr;have A:=ae<|zzb eU<|zzb nh a8;have HW:=ae X;have uK:=a'.oT;clear a' eU nh a8 X
 go_enter func178,ntmps178;go_wp2_with fail;apply Jr.mono;clear Jr;rintro e c ⟨rfl,bF⟩;rw[<-HW.out]at bF;have Z:=A.2.2.fr bF sE sE sE sE;have gw:=(bF.block _ (zza.1 A.2.1).1 sE).trans A.2.1;have fE:=(zza.1 gw).1;have M:=ae<|A.1.trans bF;have c2:=aa Z.blk 2;have c4:=aa Z.blk 4;have l1:=Z.zR K;simp at c2 c4;have o:=ae<|zzb Z gw;clear bF Z gw A HW;by_cases l:s.refuse t seq k g.val=0
 .rw[l,bQ];have⟨_,UH,Pg⟩:=D8 l;have g0:=aa o.2 0;have g1:=aa o.2 1;simp at g0 g1;have sw:=M.out.size;have z0:=o.1.oT;have z1:¬h=c.heap.size:=oE;have z2:¬w.heap.size=c.heap.size:=oE;have z3:¬c.heap.size=w.heap.size:=oE;have WA:k.size<=maxLen:=mE;go_wp2_with fail;apply(FX h m V T H n t k g s _ (o.1.fr ((lE c).alloc _) sE sE sE sE) WA).mono;rintro e q ⟨rfl,kN⟩;have ad:=(o.1.fr ((lE c).alloc<|.cells #[.int .i64 ((s.aM t).state:Int),.int .i64 ((s.aM t).done:Int),.int .u64 (s.aL:Int)] 195) sE sE sE sE).fr kN sE sE sE sE;have iX:q.heap[w.heap.size]?=some (.cells #[.int .u8 (g.way:Int),.string g.val] 287):=(kN.block _ sC sE).trans<|(zzf _ _ _ fE).trans o.2;have a7:q.heap[c.heap.size]?=some (.cells #[.int .i64 ((s.aM t).state:Int),.int .i64 ((s.aM t).done:Int),.int .u64 (s.aL:Int)] 195):=(kN.block _ sE sE).trans<|heap_alloc_new c _;have al:=ae<|(M.out.alloc _).trans kN;have wF:c.heap.size<q.heap.size:=(zza.1 a7).1;have f:=ae<|zzb ad<|zzb iX a7;clear ad iX a7 kN g0 g1 c2 c4 l1 o z0 z1 z2 z3
  have a1:Hid (∀(a b:Nat) (W:World),Fr [c.heap.size] q W->W.heap[c.heap.size]?=some (.cells #[.int .i64 (a:Int),.int .i64 (b:Int),.int .u64 (s.aL:Int)] 195)->∃w',(Instr.mapUpdate 144 (.map<|some T) (.int .u64 (t:Int))<|.agg #[.int .i64 (a:Int),.int .i64 (b:Int),.int .u64 (s.aL:Int)]).run prog W.drew=.ok () w'/\bC w' h m V T H (n+1) {s with af:=dm s.af t ⟨a,b,s.aL⟩}/\Fr [T] W w'/\Fr [T,H] w w'/\w'.heap[w.heap.size]?=some (.cells #[.int .u8 (g.way:Int),.string g.val] 287)/\W.cell? ⟨h,2,none⟩=some (.map<|some T)):=by
   intro a b W Q hb;have hl:=f.1.oT;have ay:=M.out.size;have hw:=fE;have NB:=f.1.fr Q sC sC sC sC;have⟨w5,Jp,Yu,wz⟩:=(NB.af.fr (lE W).drew sE).tS underlying144 oE (k:=t) K (v:=(⟨a,b,s.aL⟩:fX)) trivial;have P:=((Fr.refl [T] W).drew).trans<|Fr.bK wz;have y:=aa NB.blk 2;simp at y;refine⟨w5,Jp,NB.ld P Yu oE,P,?_,?_,y⟩
   .have h1:Fr [T,H] w W:=(al.out.mono sE).andThen Q (λj x bP=>by simp at x;omega);exact h1.trans<|P.mono<|by intro k _ hk;simp at hk ⊢;exact .inl hk
   .exact(P.block _ (by have:=Q.size;omega) sC).trans<|(Q.block _ oE sC).trans f.2.1
  have t0:=aa f.2.2 0;have t1:=aa f.2.2 1;have t2:=aa f.2.2 2;have f0:=au f.2.2 0;have f1:=au f.2.2 1;simp at t0 t1 t2;cases I:s.pP t k g.writes with
  |true=>
   have O:Hid (s.aY t seq k g=({s with af:=dm s.af t ⟨2,(s.aM t).done,s.aL⟩},3)):=by show _=_;unfold ag.aY;rw[if_pos l,if_pos I]
   have⟨d,G⟩:∃d,d=q.setCell ⟨c.heap.size,0,none⟩ (.int .i64 2):=⟨_,rfl⟩;have P:Fr [c.heap.size] q d:=by rw[G];exact Fr.cH sE _ _
   have r:d.heap[c.heap.size]?=some (.cells #[.int .i64 ((2:Nat):Int),.int .i64 ((s.aM t).done:Int),.int .u64 (s.aL:Int)] 195):=by rw[G];simpa using aH f.2.2 0<|.int .i64 2
   have⟨w6,U,C,_,z,_,y⟩:=a1.out 2 (s.aM t).done d P r;have u0:=aa r 0;have N:=aa r 1;have E:=aa r 2;simp at u0 N E U;have u:=ae<|zzb C z;clear C z r P a1 l I;go_wp2;rw[<-G];clear G t0 t1 t2 f0 f1
   go_region;go_wp2;go_ret;rw[O.out];exact⟨by show _=Ending.returned (cj 3);rw[aG dN];rfl,u.1.mono oE,u.2⟩
  |false=>
   have O:Hid (s.aY t seq k g=(({s with af:=dm s.af t ⟨1,(s.aM t).done+1,s.aL⟩}:ag).take t k g,0)):=by show _=_;unfold ag.aY;rw[if_pos l,if_neg<|by rw[I];decide]
   have⟨d,G⟩:∃d,d=(q.setCell ⟨c.heap.size,0,none⟩<|.int .i64 1).setCell ⟨c.heap.size,1,none⟩ (.int .i64 ((s.aM t).done+1:Int)):=⟨_,rfl⟩;have P:Fr [c.heap.size] q d:=by rw[G];exact(Fr.cH sE _ _).trans<|Fr.cH sE _ _
   have r:d.heap[c.heap.size]?=some (.cells #[.int .i64 ((1:Nat):Int),.int .i64 (((s.aM t).done+1:Nat):Int),.int .u64 (s.aL:Int)] 195):=by rw[G];simpa using aH (aH f.2.2 0<|.int .i64 1) 1<|.int .i64 ((s.aM t).done+1:Int)
   have⟨w6,U,C,ak,z,Y,y⟩:=a1.out 1 ((s.aM t).done+1) d P r;have u0:=aa r 0;have N:=aa r 1;have E:=aa r 2;have v0:=aa Y 0;have v1:=aa Y 1;have vf:=au Y 1;simp at u0 N E U v0 v1;have j1:IntKind.i64.wrap (((s.aM t).done:Int)+1)=((s.aM t).done:Int)+1:=iS;have ao:=(zza.1 Y).1;have u:=ae<|zzb C<|zzb z Y;clear C z r P a1 l I Y ak;go_wp2;rw[<-G];clear G t0 t1 t2 f0 f1
   go_region;clear u0 N E U y j1;go_wp2_with fail;apply(DN g.val w6 oE).mono;rintro e w7 ⟨rfl,sX⟩;have J:=Fr.bw sX [];have B:=(J.block _ ao sE).trans u.2.2;have x0:=aa B 0;have x1:=aa B 1;have xf:=au B 1;simp at x0 x1;have⟨i,a6⟩:∃i,i=w7.setCell ⟨w.heap.size,1,none⟩ (.string g.val):=⟨_,rfl⟩;have NC:Fr [w.heap.size] w7 i:=by rw[a6];exact Fr.cH sE _ _
   have S:i.heap[w.heap.size]?=some (.cells #[.int .u8 (g.way:Int),.string g.val] 287):=by rw[a6];have:=aH B 1<|.string g.val;simpa using this
   have Js:=(u.1.fr J sE sE sE sE).fr NC sC sC sC sC;have ab:Fr [T,H] w i:=(u.2.1.trans<|J.mono sE).andThen NC (λj x hl=>by simp at x;omega);have y0:=aa S 0;have y1:=aa S 1;simp at y0 y1;have R:=(zza.1 S).1;have H8:=ae<|zzb Js ab;clear Js ab S NC B J sX;go_wp2;rw[<-a6];clear a6 v0 v1 vf x0 x1 xf
   go_region_held3 (λw'=>w'.cell? ⟨w.heap.size,0,none⟩=some (.int .u8 (g.way:Int))/\w'.cell? ⟨w.heap.size,1,none⟩=some (.string g.val))
    (simp[*])
    (first
     |(go_at_call 116;apply(DN k i.drew oE).mono;rintro e w9 ⟨rfl,BQ⟩;have U1:Below i.heap.size i w9:=⟨BQ.os,BQ.tape,BQ.output,BQ.size,BQ.block⟩;have p0:=(U1.cell (p:=⟨w.heap.size,0,none⟩) R).trans y0;have p1:=(U1.cell (p:=⟨w.heap.size,1,none⟩) R).trans y1;have F:Hid (Fr [] i w9):=Fr.bw U1 [];clear BQ U1)
     |(go_at_call 210;apply(Ga h m V T H (n+1) t k g _ w9 (H8.1.fr F.out sE sE sE sE) K WA oE).mono;rintro e L ⟨rfl,WI,ND⟩;have an:Hid (bC L h m V T H (n+1+1) (({s with af:=dm s.af t ⟨1,(s.aM t).done+1,s.aL⟩}:ag).take t k g)/\Fr [T,H] w L):=⟨WI,(H8.2.trans (F.out.mono sE)).trans (ND.mono (by intro j _ x;simp at x ⊢;exact .inr x))⟩;have q0:L.cell? ⟨w.heap.size,0,none⟩=some (.int .u8 (g.way:Int)):=(zze (a:=⟨w.heap.size,0,none⟩) (ND.block w.heap.size (zzl R F.out.size) sC)).trans p0;have q1:L.cell? ⟨w.heap.size,1,none⟩=some (.string g.val):=(zze (a:=⟨w.heap.size,1,none⟩) (ND.block w.heap.size (zzl R F.out.size) sC)).trans p1;clear WI ND))
   all_goals go_wp2
   all_goals go_ret
   all_goals rw[O.out]
   all_goals exact⟨rfl,an.out⟩
 .have O:Hid (s.aY t seq k g=(s,s.refuse t seq k g.val)):=by show _=_;unfold ag.aY;rw[if_neg l]
  rw[aG l];go_wp2;go_ret;rw[O.out];exact⟨by rw[aG l];rfl,o.1.mono oE,M.out.mono sE⟩
end Go.Proofs.YtdcafjmdfpjcbaaGreatDoor
