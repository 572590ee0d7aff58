import Derived.Test.YtcalalndmcemiaaGreatDoorC15
set_option maxHeartbeats 8000000
set_option maxRecDepth 100000
namespace Go.Proofs.YtcalalndmcemiaaGreatDoor
open Go.RowKit Go.Maps Tryz Sc
variable{t:Nat}{s:ag}
theorem a_.Lv{w:World}{p lg V T H n:Nat}(h:a_ w p lg V T H n s)(ty:TypeId):(Builtin.len_ #[136] ty #[.map<|some T]).run prog w=.ok (.int .i64 (s.ai.length:Int)) w:=
 h.ai.Ci underlying136 ty
def ag.eD(s:ag)(t:Nat)(seq:Int)(k v:ByteArray):Nat :=
 if t=0 then 7 else if k.size<1\/16<k.size\/32<v.size then 1 else if (s.aP t).state=3\/seq≠((s.aP t).done:Int) then 4 else if (s.aP t).state=2 then 3 else if (s.aP t).state=0/\12<=s.ai.length then 5 else 0
theorem Cz(p lg V T H n:Nat)(seq:Int)(k:ByteArray)(g:aK)(s:ag)(w:World)(h:a_ w p lg V T H n s)(F:1<=lg:=by first|assumption|omega):
  Calls prog 107 #[.pointer<|some ⟨p,0,none⟩,.int .u64 0,.int .i64 seq,.string k,.agg #[.int .u8 (g.way:Int),.string g.val]] w λe w'=>e=.returned (cf 7)/\Fr [] w w':=by
 have l:∀W,Fr [] w W->(Instr.lookup 136 (.map<|some T) (.int .u64 0) false).run prog W=.ok (.agg #[.int .i64 ((s.aP 0).state:Int),.int .i64 ((s.aP 0).done:Int),.int .u64 ((s.aP 0).last:Int)]) W:=λW a=>(h.fr a bR bR bR bR).f_ bM
 have b:=l _<|(lT w).alloc<|.cells #[.int .u8 (g.way:Int),.string g.val] 134;have c:=ae h.blk 0;have c2:=ae h.blk 2;simp at c c2;rw[dE F]at c;clear F;have o:=h.eY.1;have z:¬p=w.heap.size:=bL
 clear h l;go_enter func107,ntmps107;go_wp2;go_ret;exact⟨by rw[aG bM];rfl,((lT w).alloc _).alloc _⟩
theorem Aj(p lg V T z n t:Nat)(seq:Int)(k:ByteArray)(g:aK)(s:ag)(w:World)(h:a_ w p lg V T z n s)(B:t<18446744073709551616)(v:t≠0)(x:s.eD t seq k g.val≠5)(r:s.eD t seq k g.val≠0)(F:1<=lg:=by first|assumption|omega):
  Calls prog 107 #[.pointer<|some ⟨p,0,none⟩,.int .u64 (t:Int),.int .i64 seq,.string k,.agg #[.int .u8 (g.way:Int),.string g.val]] w λe w'=>e=.returned (cf<|s.eD t seq k g.val)/\Fr [] w w':=by
 have y:∀W,Fr [] w W->(Instr.lookup 136 (.map<|some T) (.int .u64 (t:Int)) false).run prog W=.ok (.agg #[.int .i64 ((s.aP t).state:Int),.int .i64 ((s.aP t).done:Int),.int .u64 ((s.aP t).last:Int)]) W:=λW A=>(h.fr A bR bR bR bR).f_ B
 have L:=y _<|(lT w).alloc<|.cells #[.int .u8 (g.way:Int),.string g.val] 134;have u:=ae h.blk 0;have c2:=ae h.blk 2;simp at u c2;rw[dE F]at u;clear F;have M:=h.eY.1;have N:¬p=w.heap.size:=bL
 have K:¬(t:Int)=0:=bL;clear h y;have H:=af x;clear x;unfold ag.eD at r ⊢;rw[if_neg v]at r ⊢;by_cases m:k.size<1
 .rw[if_pos<|.inl m];have C:(k.size:Int)<1:=bL
  clear r;go_enter func107,ntmps107;go_wp2;go_ret;exact⟨by rw[aG bM];rfl,((lT w).alloc _).alloc _⟩
 .have C:¬(k.size:Int)<1:=bL;by_cases o:16<k.size
  .rw[if_pos<|.inr<|.inl o];have D:(16:Int)<(k.size:Int):=bL
   clear r;go_enter func107,ntmps107;go_wp2;go_ret;exact⟨by rw[aG bM];rfl,((lT w).alloc _).alloc _⟩
  .have D:¬(16:Int)<(k.size:Int):=bL;by_cases q:32<g.val.size
   .rw[if_pos<|.inr<|.inr q];have G:(32:Int)<(g.val.size:Int):=bL
    clear r;go_enter func107,ntmps107;go_wp2;go_ret;exact⟨by rw[aG bM];rfl,((lT w).alloc _).alloc _⟩
   .have G:¬(32:Int)<(g.val.size:Int):=bL;have l:¬(k.size<1\/16<k.size\/32<g.val.size):=bL;rw[if_neg l]at r ⊢;have E:Hid ((s.aP t).state≠3->seq=((s.aP t).done:Int)->(s.aP t).state≠2->((s.aP t).state=0/\12<=s.ai.length)->False):=λa b c d=>H.out<|by unfold ag.eD;rw[if_neg v,if_neg l,if_neg bL,if_neg c,if_pos d]
    clear m o q l;by_cases f:(s.aP t).state=3
    .rw[if_pos<|.inl f];have I:((s.aP t).state:Int)=3:=bL
     clear r f;go_enter func107,ntmps107;go_wp2;go_ret;exact⟨by rw[aG bM];rfl,((lT w).alloc _).alloc _⟩
    .have I:¬((s.aP t).state:Int)=3:=bL;by_cases i:seq=((s.aP t).done:Int)
     .rw[if_neg bL]at r ⊢;by_cases j:(s.aP t).state=2
      .rw[if_pos j];have J:((s.aP t).state:Int)=2:=bL;clear r f j;go_enter func107,ntmps107;go_wp2;go_ret;exact⟨by rw[aG bM];rfl,((lT w).alloc _).alloc _⟩
      .rw[if_neg j]at r ⊢;rw[if_neg<|E.out f i j]at r;exact absurd rfl r
     .rw[if_pos<|.inr i];have J:(seq != ((s.aP t).done:Int))=true:=by simp[i]
      clear r f i;go_enter func107,ntmps107;go_wp2;go_ret;exact⟨by rw[aG bM];rfl,((lT w).alloc _).alloc _⟩
theorem EI(p lg V T H n t:Nat)(k:ByteArray)(g:aK)(s:ag)(w:World)(h:a_ w p lg V T H n s)(F:t<18446744073709551616)(E:k.size<=maxLen)(hn:n<maxLen):
  Calls prog 110 #[.pointer<|some ⟨p,0,none⟩,.int .u64 (t:Int),.string k,.agg #[.int .u8 (g.way:Int),.string g.val]] w λe w'=>e=.returned (.tuple #[])/\a_ w' p lg V T H (n+1) (s.take t k g)/\Fr [H] w w':=by
 have xo:=h.eY;have⟨W,l⟩:=gb <|(w.alloc<|.cells #[.int .u8 (g.way:Int),.string g.val] 134).alloc (.cells #[.int .u64 (t:Int),.string k] 141);have G:Fr [] w W:=by rw[l];exact((lT w).alloc _).alloc _
 have Sm:W.heap.size=w.heap.size+2:=by rw[l];simp
 have L:W.heap[w.heap.size]?=some (.cells #[.int .u8 (g.way:Int),.string g.val] 134):=by
  rw[l];exact(zzf _ _ _ bR).trans<|heap_alloc_new w _
 have M:W.heap[w.heap.size+1]?=some (.cells #[.int .u64 (t:Int),.string k] 141):=by
  rw[l];have:=heap_alloc_new (w.alloc<|.cells #[.int .u8 (g.way:Int),.string g.val] 134)<|.cells #[.int .u64 (t:Int),.string k] 141;rwa [zzv]at this
 have q:Hid (a_ W p lg V T H n s):=h.fr G bR bR bR bR;have D:=af G;have f:Hid (∀c,Fr [] W c->c.cell? ⟨w.heap.size,0,none⟩=some (.int .u8 (g.way:Int))/\c.cell? ⟨w.heap.size,1,none⟩=some (.string g.val)/\c.cell? ⟨w.heap.size+1,0,none⟩=some (.int .u64 (t:Int))/\c.cell? ⟨w.heap.size+1,1,none⟩=some (.string k)/\c.cell? ⟨p,3,none⟩=some (.map<|some H)/\(Instr.lookup 137 (.map<|some H) (.agg #[.int .u64 (t:Int),.string k]) false).run prog c=.ok (.agg #[.int .u8 ((s.ke t k).way:Int),.string (s.ke t k).val]) c):=λc hf=>by
  have N:=(hf.block _ bL bR).trans L;have P:=(hf.block _ bL bR).trans M;have Q:=q.out.fr hf bR bR bR bR;have R:=ae N 0;have Y:=ae N 1;have Z:=ae P 0;have y1:=ae P 1;have x:=ae Q.blk 3;simp at R Y Z y1 x;exact⟨R,Y,Z,y1,x,Q.U2 F E⟩
 clear h L M G;go_enter func110,ntmps110;go_wp2;rw[<-l];clear l;refine wp_region_held_drew (S:=(λw'=>w'.cell? ⟨w.heap.size,0,none⟩=some (.int .u8 (g.way:Int))/\w'.cell? ⟨w.heap.size,1,none⟩=some (.string g.val)/\w'.cell? ⟨w.heap.size+1,0,none⟩=some (.int .u64 (t:Int))/\w'.cell? ⟨w.heap.size+1,1,none⟩=some (.string k)/\w'.cell? ⟨p,3,none⟩=some (.map<|some H)/\(Instr.lookup 137 (.map<|some H) (.agg #[.int .u64 (t:Int),.string k]) false).run prog w'=.ok (.agg #[.int .u8 ((s.ke t k).way:Int),.string (s.ke t k).val]) w')) dJ (f.out _ (lT W).drew) (λi=>?_);refine tkV 0 (.agg #[.int .u8 (g.way:Int),.string g.val]) ?_
 (try simp only[Act.put,mA,mC,mI]);cases m:g.writes with
 |false=>
  have A:=tW g W.drew;rw[m]at A;refine wpAnyH_ready (rs:=[1]) dJ (by simp) ?_;refine ryC (λK b=>?_) AllReadyH.nil;go_simp;refine(A).mono ?_;rintro e w1 ⟨rfl,rfl⟩;go_wp2_with fail;refine b.out _ _ (f.out _<|(lT W).drew.alloc _) λi=>?_;clear b K
  (try simp only[Act.put,mA,mC,mI]);refine tkV 2 (.bool false) ?_;refine tkV 3 (.pointer<|some ⟨p,0,none⟩) ?_;refine tkV 4 (.pointer<|some ⟨p,0,none⟩) ?_;refine tkV 5 (.pointer<|some ⟨p,3,none⟩) ?_;refine tkV 6 (.map<|some H) ?_;refine tkV 7 (.agg #[.int .u64 (t:Int),.string k]) ?_;refine tkV 8 (.agg #[.int .u8 ((s.ke t k).way:Int),.string (s.ke t k).val]) ?_;(try simp only[Act.put,mA,mC,mI]);have r:=tW (s.ke t k)<|W.drew.alloc<|.cells #[.int .u8 (g.way:Int),.string g.val] 134
  cases u:(s.ke t k).writes with
  |true=>
   rw[u]at r;refine wpAnyH_ready (rs:=[9]) dJ (by simp) ?_;refine ryC (λK b=>?_) AllReadyH.nil;go_simp;refine(r).mono ?_;rintro e w2 ⟨rfl,rfl⟩;go_wp2_with fail;refine b.out _ _ (f.out _<|((lT W).drew.alloc _).alloc _) λi=>?_;clear b K
   (try simp only[Act.put,mA,mC,mI]);refine tkV 10 (.bool false) ?_;refine tkV 11 (.bool false) ?_
   (try simp only[Act.put,mA,mC,mI])
   refine wpAnyH_done dJ ?_ _;have X:Hid (s.take t k g=s):=by show _=_;unfold ag.take;rw[if_neg<|by simp[m,u]]
   clear i;go_wp2;go_end0;rw[X.out];refine⟨rfl,(q.out.fr (((lT W).drew.alloc _).alloc _) bR bR bR bR).mono bL,?_⟩;exact(D.out.trans<|((lT W).drew.alloc _).alloc _).mono bR
  |false=>
   rw[u]at r;refine wpAnyH_ready (rs:=[9]) dJ (by simp) ?_;refine ryC (λK b=>?_) AllReadyH.nil;go_simp;refine(r).mono ?_;rintro e w2 ⟨rfl,rfl⟩;go_wp2_with fail;refine b.out _ _ (f.out _<|((lT W).drew.alloc _).alloc _) λi=>?_;clear b K
   (try simp only[Act.put,mA,mC,mI]);refine tkV 10 (.bool true) ?_;refine tkV 11 (.bool true) ?_;(try simp only[Act.put,mA,mC,mI]);refine wpAnyH_done dJ ?_ _;have X:Hid (s.take t k g={s with holds:=aV s.holds (t,k) g}):=by show _=_;unfold ag.take;rw[if_pos<|by simp[m,u]]
   have⟨a,I⟩:=gb <|((W.alloc<|.cells #[.int .u8 (g.way:Int),.string g.val] 134).alloc<|.cells #[.int .u8 ((s.ke t k).way:Int),.string (s.ke t k).val] 134).drew;have z:Fr [] W a:=by rw[I];exact(((lT W).alloc _).alloc _).drew
   have⟨z0,z1,z2,x,z4,J⟩:=f.out a z;have j:=q.out.fr z bR bR bR bR;have C:=af z;rw[<-I];clear I z i J;obtain⟨d,U,o,B⟩:=(j.holds.fr (lT a).drew bR).fA underlying137 hn (k:=(t,k)) ⟨F,E⟩ (v:=g) trivial;have a1:(Instr.mapUpdate 137 (.map<|some H) (.agg #[.int .u64 (t:Int),.string k])<|.agg #[.int .u8 (g.way:Int),.string g.val]).run prog a.drew=.ok () d:=U;have O:Fr [H] a d:=((Fr.refl [H] a).drew).trans<|Fr.aF B;have y:Hid (a_ d p lg V T H (n+1) {s with holds:=aV s.holds (t,k) g}/\Fr [H] w d):=⟨j.tX O o bL,((D.out.mono bR).trans<|C.out.mono bR).trans O⟩;clear U o B O j;go_wp2
   go_region
   go_end0;rw[X.out];exact⟨rfl,y.out⟩
 |true=>
  have A:=tW g W.drew;rw[m]at A;refine wpAnyH_ready (rs:=[1]) dJ (by simp) ?_;refine ryC (λK b=>?_) AllReadyH.nil;go_simp;refine(A).mono ?_;rintro e w1 ⟨rfl,rfl⟩;go_wp2_with fail;refine b.out _ _ (f.out _<|(lT W).drew.alloc _) λi=>?_;clear b K
  (try simp only[Act.put,mA,mC,mI]);refine tkV 2 (.bool true) ?_;refine tkU 3 ?_;refine tkU 4 ?_;refine tkU 5 ?_;refine tkU 6 ?_;refine tkU 7 ?_;refine tkU 8 ?_;refine tkU 9 ?_;refine tkU 10 ?_;refine tkV 11 (.bool true) ?_;(try simp only[Act.put,mA,mC,mI]);refine wpAnyH_done dJ ?_ _;have X:Hid (s.take t k g={s with holds:=aV s.holds (t,k) g}):=by show _=_;unfold ag.take;rw[if_pos<|by simp[m]]
  have⟨a,I⟩:=gb <|(W.alloc<|.cells #[.int .u8 (g.way:Int),.string g.val] 134).drew;have z:Fr [] W a:=by rw[I];exact((lT W).alloc _).drew
  have⟨z0,z1,z2,x,z4,J⟩:=f.out a z;have j:=q.out.fr z bR bR bR bR;have C:=af z;rw[<-I];clear I z i J;have⟨d,U,o,B⟩:=(j.holds.fr (lT a).drew bR).fA underlying137 hn (k:=(t,k)) ⟨F,E⟩ (v:=g) trivial;have a1:(Instr.mapUpdate 137 (.map<|some H) (.agg #[.int .u64 (t:Int),.string k])<|.agg #[.int .u8 (g.way:Int),.string g.val]).run prog a.drew=.ok () d:=U;have O:Fr [H] a d:=((Fr.refl [H] a).drew).trans<|Fr.aF B;have y:Hid (a_ d p lg V T H (n+1) {s with holds:=aV s.holds (t,k) g}/\Fr [H] w d):=⟨j.tX O o bL,((D.out.mono bR).trans<|C.out.mono bR).trans O⟩;clear U o B O j;go_wp2
  go_region;go_end0;rw[X.out];exact⟨rfl,y.out⟩
theorem CA(p lg V T H n t:Nat)(seq:Int)(k:ByteArray)(g:aK)(s:ag)(w:World)(h:a_ w p lg V T H n s)(b:t<18446744073709551616)(i:t≠0)(hb:¬(k.size<1\/16<k.size\/32<g.val.size))(G:(s.aP t).state=0)(u:seq=((s.aP t).done:Int))(P:12<=s.ai.length)(F:1<=lg:=by first|assumption|omega):
  Calls prog 107 #[.pointer<|some ⟨p,0,none⟩,.int .u64 (t:Int),.int .i64 seq,.string k,.agg #[.int .u8 (g.way:Int),.string g.val]] w λe w'=>e=.returned (cf 5)/\Fr [] w w':=by
 have l:∀W,Fr [] w W->(Instr.lookup 136 (.map<|some T) (.int .u64 (t:Int)) false).run prog W=.ok (.agg #[.int .i64 ((s.aP t).state:Int),.int .i64 ((s.aP t).done:Int),.int .u64 ((s.aP t).last:Int)]) W:=λW a=>(h.fr a bR bR bR bR).f_ b
 have d:=l _<|(lT w).alloc<|.cells #[.int .u8 (g.way:Int),.string g.val] 134;have hn:∀W,Fr [] w W->∀ty,(Builtin.len_ #[136] ty #[.map<|some T]).run prog W=.ok (.int .i64 (s.ai.length:Int)) W:=λW a ty=>(h.fr a bR bR bR bR).Lv ty
 have f:=hn _<|((lT w).alloc<|.cells #[.int .u8 (g.way:Int),.string g.val] 134).alloc<|.cells #[.int .i64 ((s.aP t).state:Int),.int .i64 ((s.aP t).done:Int),.int .u64 ((s.aP t).last:Int)] 199;have c:=ae h.blk 0;have c2:=ae h.blk 2;simp at c c2;rw[dE F]at c;clear F;have x:=h.eY.1;have z:¬p=w.heap.size:=bL
 have m:¬(t:Int)=0:=bL;have o:¬(k.size:Int)<1:=bL;have q:¬(16:Int)<(k.size:Int):=bL;have r:¬(32:Int)<(g.val.size:Int):=bL;have j:((s.aP t).state:Int)=0:=bL;have v:(12:Int)<=(s.ai.length:Int):=bL;rw[j]at d f;subst u;clear h l hn hb G P j;go_enter func107,ntmps107;go_wp2;go_ret;exact⟨by rw[aG bM];rfl,((lT w).alloc _).alloc _⟩
def ag.count(s:ag)(t:Nat):Nat:=(s.holds.filter λp=>decide (p.1.1=t)).length
theorem vq{K V:Type}[DecidableEq K]{l:List (K×V)}(h:b_ l):(l.map (·.1)).Nodup:=by
 unfold List.Nodup;rw[List.pairwise_map];exact h
theorem ag.nT{L:List (ByteArray×aK)}(hs:b_ s.holds)(d:b_ L)(h:∀k,ak L k=ak s.holds (t,k)):L.length=s.count t:=by
 have n:=vq d;have i:((s.holds.filter λp=>decide<|p.1.1=t).map (·.1.2)).Nodup:=by
  unfold List.Nodup;rw[List.pairwise_map];apply(hs.filter _).imp_of_mem;intro a b f hb g e;have H:=(zzp.1 f).2;have Z:=(zzp.1 hb).2;simp at H Z;exact g<|Prod.ext (H.trans Z.symm) e
 have c:(L.map (·.1)).Perm ((s.holds.filter λp=>decide<|p.1.1=t).map (·.1.2)):=by
  rw[List.perm_ext_iff_of_nodup n i];intro k;constructor
  .intro hk;obtain⟨p,c,rfl⟩:=zzq.1 hk;have:=cP d c;rw[h]at this;exact zzq.2 ⟨_,zzp.2 ⟨bZ this,bR⟩,rfl⟩
  .intro hk;obtain⟨p,c,rfl⟩:=zzq.1 hk;have⟨r,P⟩:=zzp.1 c;simp at P;have:ak s.holds (t,p.1.2)=some p.2:=cP hs (by rw[<-P];exact r);rw[<-h]at this;exact zzq.2 ⟨_,bZ this,rfl⟩
 have:=c.length_eq;simpa [ag.count]using this
def ag.eZ(s:ag)(t:Nat)(k:ByteArray):Nat:=if (ak s.holds (t,k)).isSome=false/\4<=s.count t then 5 else 0
theorem CB(r lg V T z n t:Nat)(seq:Int)(k:ByteArray)(g:aK)(s:ag)(w:World)(h:a_ w r lg V T z n s)(B:t<18446744073709551616)(J:t≠0)(hb:¬(k.size<1\/16<k.size\/32<g.val.size))(d:(s.aP t).state=0\/(s.aP t).state=1)(I:seq=((s.aP t).done:Int))(P:(s.aP t).state=0->s.ai.length<12)(hn:n<maxLen)(D:1<=lg:=by first|assumption|omega):
  Calls prog 107 #[.pointer<|some ⟨r,0,none⟩,.int .u64 (t:Int),.int .i64 seq,.string k,.agg #[.int .u8 (g.way:Int),.string g.val]] w λe w'=>e=.returned (cf<|s.eZ t k)/\Fr [] w w':=by
 have Z:k.size<=maxLen:=eA;have⟨W,f⟩:=gb <|(w.alloc<|.cells #[.int .u8 (g.way:Int),.string g.val] 134).alloc (.cells #[.int .i64 ((s.aP t).state:Int),.int .i64 ((s.aP t).done:Int),.int .u64 ((s.aP t).last:Int)] 199);have u:Fr [] w W:=by rw[f];exact((lT w).alloc _).alloc _
 have H:=h.fr u bR bR bR bR;have A:∀W,Fr [] w W->(Instr.lookup 136 (.map<|some T) (.int .u64 (t:Int)) false).run prog W=.ok (.agg #[.int .i64 ((s.aP t).state:Int),.int .i64 ((s.aP t).done:Int),.int .u64 ((s.aP t).last:Int)]) W:=λW f=>(h.fr f bR bR bR bR).f_ B
 have p:=A _<|(lT w).alloc<|.cells #[.int .u8 (g.way:Int),.string g.val] 134;have l:=H.Lv;have x:=mU r lg V T z n t s W H B hn;have y:Hid (b_ s.holds):=by have⟨_,_,_,i,_⟩:=h.holds;exact i
 rw[f]at l x;have S:Hid (Fr [] w<|(w.alloc<|.cells #[.int .u8 (g.way:Int),.string g.val] 134).alloc<|.cells #[.int .i64 ((s.aP t).state:Int),.int .i64 ((s.aP t).done:Int),.int .u64 ((s.aP t).last:Int)] 199):=by rw[<-f];exact u
 have o:=ae h.blk 0;have c2:=ae h.blk 2;simp at o c2;rw[dE D]at o;clear D;have Y:=h.eY.1;have z1:¬r=w.heap.size:=bL;have K:¬(t:Int)=0:=bL;have N:¬(k.size:Int)<1:=bL;have Q:¬(16:Int)<(k.size:Int):=bL;have U:¬(32:Int)<(g.val.size:Int):=bL;subst I;clear h A hb H u f;obtain d|d:=d
 .have j4:((s.aP t).state:Int)=0:=bL;have X:¬(12:Int)<=(s.ai.length:Int):=by have:=P d;omega
  rw[j4]at p l x S;clear d P j4;go_enter func107,ntmps107;go_wp2_with fail;apply x.mono;clear x;rintro e a ⟨b,L,rfl,hb,hL,my,bh⟩;have C:Hid (L.length=s.count t):=ag.nT y.out (by have⟨_,_,_,i,_⟩:=hL;exact i) my;have q:=hL.Ch underlying262 (qe a) trivial Z;rw[my k]at q;have F:=af<|S.out.trans bh;have M:=af hL;have⟨G,j⟩:∃G,G=(ak s.holds (t,k)).getD ⟨0,yA⟩:=⟨_,rfl⟩;rw[<-j]at q;have m:(Instr.lookup 262 (.map<|some b) (.string k) true).run prog a=.ok (.tuple #[.agg #[.int .u8 (G.way:Int),.string G.val],.bool (ak s.holds (t,k)).isSome]) a:=q
  have E:∀ty,(Builtin.len_ #[262] ty #[.map<|some b]).run prog (a.alloc<|.cells #[.int .u8 (G.way:Int),.string G.val] 134)=.ok (.int .i64 (s.count t:Int)) (a.alloc<|.cells #[.int .u8 (G.way:Int),.string G.val] 134):=λty=>by
   rw[<-C.out];exact(M.out.fr ((lT a).alloc _) bR).Ci underlying262 ty
  clear hL my bh q j p l o c2
  cases O:(ak s.holds (t,k)).isSome with
  |true=>
   rw[O]at m;have R:Hid (s.eZ t k=0):=by show _=_;unfold ag.eZ;rw[if_neg<|by simp[O]]
   clear O;go_wp2;go_ret;rw[R.out];exact⟨rfl,F.out.alloc _⟩
  |false=>
   rw[O]at m;by_cases c:4<=s.count t
   .have R:Hid (s.eZ t k=5):=by show _=_;unfold ag.eZ;rw[if_pos ⟨O,c⟩]
    have v:(4:Int)<=(s.count t:Int):=bL;clear O c;go_wp2;go_ret;rw[R.out];exact⟨by rw[aG bM];rfl,F.out.alloc _⟩
   .have R:Hid (s.eZ t k=0):=by show _=_;unfold ag.eZ;rw[if_neg bL]
    have v:¬(4:Int)<=(s.count t:Int):=bL;clear O c;go_wp2;go_ret;rw[R.out];exact⟨rfl,F.out.alloc _⟩
 .have j4:((s.aP t).state:Int)=1:=bL;rw[j4]at p l x S;clear d P j4;go_enter func107,ntmps107;go_wp2_with fail;apply x.mono;clear x;rintro e a ⟨b,L,rfl,hb,hL,my,bh⟩;have C:Hid (L.length=s.count t):=ag.nT y.out (by have⟨_,_,_,i,_⟩:=hL;exact i) my;have q:=hL.Ch underlying262 (qe a) trivial Z;rw[my k]at q;have F:=af<|S.out.trans bh;have M:=af hL;have⟨G,j⟩:∃G,G=(ak s.holds (t,k)).getD ⟨0,yA⟩:=⟨_,rfl⟩;rw[<-j]at q;have m:(Instr.lookup 262 (.map<|some b) (.string k) true).run prog a=.ok (.tuple #[.agg #[.int .u8 (G.way:Int),.string G.val],.bool (ak s.holds (t,k)).isSome]) a:=q
  have E:∀ty,(Builtin.len_ #[262] ty #[.map<|some b]).run prog (a.alloc<|.cells #[.int .u8 (G.way:Int),.string G.val] 134)=.ok (.int .i64 (s.count t:Int)) (a.alloc<|.cells #[.int .u8 (G.way:Int),.string G.val] 134):=λty=>by
   rw[<-C.out];exact(M.out.fr ((lT a).alloc _) bR).Ci underlying262 ty
  clear hL my bh q j p l o c2
  cases O:(ak s.holds (t,k)).isSome with
  |true=>
   rw[O]at m;have R:Hid (s.eZ t k=0):=by show _=_;unfold ag.eZ;rw[if_neg<|by simp[O]]
   clear O;go_wp2;go_ret;rw[R.out];exact⟨rfl,F.out.alloc _⟩
  |false=>
   rw[O]at m;by_cases c:4<=s.count t
   .have R:Hid (s.eZ t k=5):=by show _=_;unfold ag.eZ;rw[if_pos ⟨O,c⟩]
    have v:(4:Int)<=(s.count t:Int):=bL;clear O c;go_wp2;go_ret;rw[R.out];exact⟨by rw[aG bM];rfl,F.out.alloc _⟩
   .have R:Hid (s.eZ t k=0):=by show _=_;unfold ag.eZ;rw[if_neg bL]
    have v:¬(4:Int)<=(s.count t:Int):=bL;clear O c;go_wp2;go_ret;rw[R.out];exact⟨rfl,F.out.alloc _⟩
def ag.refuse(s:ag)(t:Nat)(seq:Int)(k v:ByteArray):Nat:=if s.eD t seq k v=0 then s.eZ t k else s.eD t seq k v
theorem nh(s:ag)(t:Nat)(seq:Int)(k v:ByteArray)(b:t≠0):
  (s.eD t seq k v≠0/\s.eD t seq k v≠5)\/(s.eD t seq k v=5/\¬(k.size<1\/16<k.size\/32<v.size)/\seq=((s.aP t).done:Int)/\(s.aP t).state=0/\12<=s.ai.length) \/
  (s.eD t seq k v=0/\¬(k.size<1\/16<k.size\/32<v.size)/\seq=((s.aP t).done:Int)/\(s.aP t).state≠3/\(s.aP t).state≠2/\¬((s.aP t).state=0/\12<=s.ai.length)):=by
 unfold ag.eD;rw[if_neg b];by_cases hb:k.size<1\/16<k.size\/32<v.size
 .rw[if_pos hb];exact .inl ⟨bM,bM⟩
 .rw[if_neg hb];by_cases d:(s.aP t).state=3\/seq≠((s.aP t).done:Int)
  .rw[if_pos d];exact .inl ⟨bM,bM⟩
  .rw[if_neg d];by_cases a:(s.aP t).state=2
   .rw[if_pos a];exact .inl ⟨bM,bM⟩
   .rw[if_neg a];by_cases h:(s.aP t).state=0/\12<=s.ai.length
    .rw[if_pos h];exact .inr<|.inl ⟨rfl,hb,bL,h.1,h.2⟩
    .rw[if_neg h];exact .inr<|.inr ⟨rfl,hb,bL,bL,a,h⟩
theorem EJ(p lg V T H n t:Nat)(seq:Int)(k:ByteArray)(g:aK)(s:ag)(w:World)(h:a_ w p lg V T H n s)(b:t<18446744073709551616)(hn:n<maxLen)(G:(s.aP t).state<=3)(F:1<=lg:=by first|assumption|omega):
  Calls prog 107 #[.pointer<|some ⟨p,0,none⟩,.int .u64 (t:Int),.int .i64 seq,.string k,.agg #[.int .u8 (g.way:Int),.string g.val]] w λe w'=>e=.returned (cf<|s.refuse t seq k g.val)/\Fr [] w w':=by
 unfold ag.refuse;by_cases a:t=0
 .subst a;have e:s.eD 0 seq k g.val=7:=by unfold ag.eD;rw[if_pos rfl]
  rw[e,if_neg bM];exact Cz p lg V T H n seq k g s w h
 .rcases nh s t seq k g.val a with⟨c,i⟩|⟨e,hb,q,d,f⟩|⟨e,hb,q,d,f,j⟩
  .rw[if_neg c];exact Aj p lg V T H n t seq k g s w h b a i c
  .rw[e,if_neg bM];exact CA p lg V T H n t seq k g s w h b a hb d q f
  .rw[e,if_pos rfl];exact CB p lg V T H n t seq k g s w h b a hb bL q bL hn
def ag.aJ(s:ag)(t:Nat)(seq:Int)(k:ByteArray)(g:aK):ag × Nat :=
 if s.refuse t seq k g.val=0 then
  if s.rS t k g.writes=true then ({ s with ai:=aV s.ai t ⟨2,(s.aP t).done,s.aC⟩ },3)
  else (({ s with ai:=aV s.ai t ⟨1,(s.aP t).done+1,s.aC⟩ }:ag).take t k g,0)
 else (s,s.refuse t seq k g.val)
theorem tY{seq:Int}{k v:ByteArray}(h:s.refuse t seq k v=0):t≠0/\k.size<=16/\v.size<=32:=by
 unfold ag.refuse at h;by_cases a:t=0
 .subst a;have e:s.eD 0 seq k v=7:=by unfold ag.eD;rw[if_pos rfl]
  rw[e,if_neg bM]at h;exact absurd h bM
 .rcases nh s t seq k v a with⟨b,c⟩|⟨e,_⟩|⟨e,hb,_⟩
  .rw[if_neg b]at h;exact absurd h b
  .rw[e,if_neg bM]at h;exact absurd h bM
  .exact⟨a,bL,bL⟩
theorem qo(i lg V T H n t:Nat)(seq:Int)(k:ByteArray)(g:aK)(s:ag)(w:World)(a6:a_ w i lg V T H n s)(Q:t<18446744073709551616)(hn:n+2<maxLen)(bG:(s.aP t).state<=3)(ox:(s.aP t).done<4611686018427387904)(uF:1<=lg:=by first|assumption|omega):
  Calls prog 62 #[.pointer<|some ⟨i,0,none⟩,.int .u64 (t:Int),.int .i64 seq,.string k,.agg #[.int .u8 (g.way:Int),.string g.val]] w λe w'=>e=.returned (cf (s.aJ t seq k g).2)/\a_ w' i lg V T H (n+2) (s.aJ t seq k g).1/\Fr [T,H] w w':=by
 have⟨A,F⟩:=gb <|w.alloc (.cells #[.int .u8 (g.way:Int),.string g.val] 134);have cu:Fr [] w A:=by rw[F];exact(lT w).alloc _
 have jH:A.heap[w.heap.size]?=some (.cells #[.int .u8 (g.way:Int),.string g.val] 134):=by rw[F];exact heap_alloc_new w _
 have Xj:=a6.fr cu bR bR bR bR;have a7:=EJ i lg V T H n t seq k g s A Xj Q bL bG;rw[F]at a7;have y:=af<|zzb cu<|zzb jH Xj;have HW:=af F;have xo:=a6.eY;clear a6 cu jH Xj F
 go_enter func62,ntmps62;go_wp2_with fail;apply a7.mono;clear a7;rintro e c ⟨rfl,bh⟩;rw[<-HW.out]at bh;have J:=y.2.2.fr bh bR bR bR bR;have cG:=(bh.block _ (zza.1 y.2.1).1 bR).trans y.2.1;have dY:=(zza.1 cG).1;have R:=af<|y.1.trans bh;have c2:=ae J.blk 2;have c4:=ae J.blk 4;have l1:=J.f_ Q;simp at c2 c4;have o:=af<|zzb J cG;clear bh J cG y HW;by_cases r:s.refuse t seq k g.val=0
 .rw[r,bK];have⟨_,M1,GX⟩:=tY r;have g0:=ae o.2 0;have g1:=ae o.2 1;simp at g0 g1;have mY:=R.out.size;have z0:=o.1.eY;have z1:¬i=c.heap.size:=bL;have z2:¬w.heap.size=c.heap.size:=bL;have z3:¬c.heap.size=w.heap.size:=bL;have Zh:k.size<=maxLen:=eA;go_wp2_with fail;apply(Ez i lg V T H n t k g s _ (o.1.fr ((lT c).alloc _) bR bR bR bR) Zh).mono;rintro e q ⟨rfl,fo⟩;have a':=(o.1.fr ((lT c).alloc<|.cells #[.int .i64 ((s.aP t).state:Int),.int .i64 ((s.aP t).done:Int),.int .u64 (s.aC:Int)] 199) bR bR bR bR).fr fo bR bR bR bR;have j8:=(fo.block _ cE bR).trans<|(zzf _ _ _ dY).trans o.2;have a8:=(fo.block _ bR bR).trans<|heap_alloc_new c _;have ad:=af<|(R.out.alloc _).trans fo;have zF:=(zza.1 a8).1;have f:=af<|zzb a'<|zzb j8 a8;clear a' j8 a8 fo g0 g1 c2 c4 l1 o z0 z1 z2 z3
  have G:Hid (∀(a b:Nat) (W:World),Fr [c.heap.size] q W->W.heap[c.heap.size]?=some (.cells #[.int .i64 (a:Int),.int .i64 (b:Int),.int .u64 (s.aC:Int)] 199)->∃w',(Instr.mapUpdate 136 (.map<|some T) (.int .u64 (t:Int))<|.agg #[.int .i64 (a:Int),.int .i64 (b:Int),.int .u64 (s.aC:Int)]).run prog W.drew=.ok () w'/\a_ w' i lg V T H (n+1) {s with ai:=aV s.ai t ⟨a,b,s.aC⟩}/\Fr [T] W w'/\Fr [T,H] w w'/\w'.heap[w.heap.size]?=some (.cells #[.int .u8 (g.way:Int),.string g.val] 134)/\W.cell? (hO i 2)=some (.map<|some T)):=by
   intro a b W hf hb;have hl:=f.1.eY;have Cv:=R.out.size;have hw:=dY;have Hp:=f.1.fr hf cE cE cE cE;obtain⟨w5,rU,zH,pB⟩:=(Hp.ai.fr (lT W).drew bR).fA underlying136 bL Q (v:=(⟨a,b,s.aC⟩:ft)) trivial;have O:=((Fr.refl [T] W).drew).trans<|Fr.aF pB;have B:=ae Hp.blk 2;simp at B;refine⟨w5,rU,Hp.fS O zH bL,O,?_,?_,B⟩
   .have h1:Fr [T,H] w W:=(ad.out.mono bR).andThen hf (λj x bU=>by simp at x;omega);exact h1.trans<|O.mono<|by intro k _ hk;simp at hk ⊢;exact .inl hk
   .exact(O.block _ (by have:=hf.size;omega) cE).trans<|(hf.block _ bL cE).trans f.2.1
  have t0:=ae f.2.2 0;have t1:=ae f.2.2 1;have t2:=ae f.2.2 2;have f0:=aj f.2.2 0;have f1:=aj f.2.2 1;simp at t0 t1 t2;cases M:s.rS t k g.writes with
  |true=>
   have z:Hid (s.aJ t seq k g=({s with ai:=aV s.ai t ⟨2,(s.aP t).done,s.aC⟩},3)):=by show _=_;unfold ag.aJ;rw[if_pos r,if_pos M]
   have⟨d,m⟩:∃d,d=q.setCell ⟨c.heap.size,0,none⟩ (.int .i64 2):=⟨_,rfl⟩;have O:Fr [c.heap.size] q d:=by rw[m];exact Fr.cD bR _ _
   have h:d.heap[c.heap.size]?=some (.cells #[.int .i64 ((2:Nat):Int),.int .i64 ((s.aP t).done:Int),.int .u64 (s.aC:Int)] 199):=by rw[m];simpa using ar f.2.2 0<|.int .i64 2
   have⟨w6,X,P,_,C,_,B⟩:=G.out 2 (s.aP t).done d O h;have S:=ae h 0;have Z:=ae h 1;have u2:=ae h 2;simp at S Z u2 X;have u:=af<|zzb P C;clear P C h O G r M;go_wp2;rw[<-m];clear m t0 t1 t2 f0 f1
   go_region;go_wp2;go_ret;rw[z.out];exact⟨by show _=Ending.returned (cf 3);rw[aG bM];rfl,u.1.mono bL,u.2⟩
  |false=>
   have z:Hid (s.aJ t seq k g=(({s with ai:=aV s.ai t ⟨1,(s.aP t).done+1,s.aC⟩}:ag).take t k g,0)):=by show _=_;unfold ag.aJ;rw[if_pos r,if_neg<|by rw[M];decide]
   have⟨d,m⟩:∃d,d=(q.setCell ⟨c.heap.size,0,none⟩<|.int .i64 1).setCell ⟨c.heap.size,1,none⟩ (.int .i64 ((s.aP t).done+1:Int)):=⟨_,rfl⟩;have O:Fr [c.heap.size] q d:=by rw[m];exact(Fr.cD bR _ _).trans<|Fr.cD bR _ _
   have h:d.heap[c.heap.size]?=some (.cells #[.int .i64 ((1:Nat):Int),.int .i64 (((s.aP t).done+1:Nat):Int),.int .u64 (s.aC:Int)] 199):=by rw[m];simpa using ar (ar f.2.2 0<|.int .i64 1) 1<|.int .i64 ((s.aP t).done+1:Int)
   have⟨w6,X,P,Hq,C,U,B⟩:=G.out 1 ((s.aP t).done+1) d O h;have S:=ae h 0;have Z:=ae h 1;have u2:=ae h 2;have v0:=ae U 0;have v1:=ae U 1;have vf:=aj U 1;simp at S Z u2 X v0 v1;have j1:IntKind.i64.wrap (((s.aP t).done:Int)+1)=((s.aP t).done:Int)+1:=dL;have al:=(zza.1 U).1;have u:=af<|zzb P<|zzb C U;clear P C h O G r M U Hq;go_wp2;rw[<-m];clear m t0 t1 t2 f0 f1
   go_region;clear S Z u2 X B j1;go_wp2_with fail;apply(Cc g.val w6 bL).mono;rintro e w7 ⟨rfl,nJ⟩;have L:=Fr.aX nJ [];have D:=(L.block _ al bR).trans u.2.2;have x0:=ae D 0;have x1:=ae D 1;have xf:=aj D 1;simp at x0 x1;have⟨l,I⟩:∃l,l=w7.setCell ⟨w.heap.size,1,none⟩ (.string g.val):=⟨_,rfl⟩;have JY:Fr [w.heap.size] w7 l:=by rw[I];exact Fr.cD bR _ _
   have K:l.heap[w.heap.size]?=some (.cells #[.int .u8 (g.way:Int),.string g.val] 134):=by rw[I];simpa using ar D 1<|.string g.val
   have ni:=(u.1.fr L bR bR bR bR).fr JY cE cE cE cE;have aa:Fr [T,H] w l:=(u.2.1.trans<|L.mono bR).andThen JY (λj x hl=>by simp at x;omega);have y0:=ae K 0;have y1:=ae K 1;simp at y0 y1;have N:=(zza.1 K).1;have H8:=af<|zzb ni aa;clear ni aa K JY D L nJ;go_wp2;rw[<-I];clear I v0 v1 vf x0 x1 xf
   go_region_held3 (λw'=>w'.cell? (gz w.heap.size)=some (.int .u8 (g.way:Int))/\w'.cell? (hO w.heap.size 1)=some (.string g.val))
    (simp[*])
    (first
     |(go_at_call 109;apply(Cc k l.drew bL).mono;rintro e w9 ⟨rfl,wI⟩;have Y:Below l.heap.size l w9:=⟨wI.os,wI.tape,wI.output,wI.size,wI.block⟩;have p0:=(Y.cell N).trans y0;have p1:=(Y.cell N).trans y1;have E:Hid (Fr [] l w9):=Fr.aX Y [];clear wI Y)
     |(go_at_call 110;apply(EI i lg V T H (n+1) t k g _ w9 (H8.1.fr E.out bR bR bR bR) Q Zh bL).mono;rintro e a1 ⟨rfl,U8,SZ⟩;have ab:Hid (a_ a1 i lg V T H (n+1+1) (({s with ai:=aV s.ai t ⟨1,(s.aP t).done+1,s.aC⟩}:ag).take t k g)/\Fr [T,H] w a1):=⟨U8,(H8.2.trans (E.out.mono bR)).trans (SZ.mono (by intro j _ x;simp at x ⊢;exact .inr x))⟩;have q0:=(zze (SZ.block w.heap.size (zzl N E.out.size) cE)).trans p0;have q1:=(zze (SZ.block w.heap.size (zzl N E.out.size) cE)).trans p1;clear U8 SZ))
   all_goals go_wp2
   all_goals go_ret
   all_goals rw[z.out]
   all_goals exact⟨rfl,ab.out⟩
 .have z:Hid (s.aJ t seq k g=(s,s.refuse t seq k g.val)):=by show _=_;unfold ag.aJ;rw[if_neg r]
  rw[aG r];go_wp2;go_ret;rw[z.out];exact⟨by rw[aG r];rfl,o.1.mono bL,R.out.mono bR⟩
section
variable(I lg J G E n t:Nat)(seq:Int)(k:ByteArray)(s:ag)(w:World)
theorem Xl(v:ByteArray)(h:a_ w I lg J G E n s)(a:t<18446744073709551616)(hn:n+2<maxLen)(b:(s.aP t).state<=3)(x:(s.aP t).done<4611686018427387904)(F:1<=lg:=by first|assumption|omega):
  Calls prog 32 #[.pointer<|some ⟨I,0,none⟩,.int .u64 (t:Int),.int .i64 seq,.string k,.string v] w λe w'=>e=.returned (cf (s.aJ t seq k ⟨1,v⟩).2)/\a_ w' I lg J G E (n+2) (s.aJ t seq k ⟨1,v⟩).1/\Fr [G,E] w w':=by
 have o:=qo I lg J G E n t seq k ⟨1,v⟩ s w h a hn b x;clear h;go_enter func32,ntmps32;go_wp2_with fail;apply o.mono;clear o;rintro e c ⟨rfl,h1⟩;have H:=af h1;clear h1;go_wp2;go_ret;exact⟨rfl,H.out⟩
theorem Ly(h:a_ w I lg J G E n s)(a:t<18446744073709551616)(hn:n+2<maxLen)(b:(s.aP t).state<=3)(x:(s.aP t).done<4611686018427387904)(F:1<=lg:=by first|assumption|omega):
  Calls prog 147 #[.pointer<|some ⟨I,0,none⟩,.int .u64 (t:Int),.int .i64 seq,.string k] w λe w'=>e=.returned (cf (s.aJ t seq k ⟨2,ByteArray.empty⟩).2)/\a_ w' I lg J G E (n+2) (s.aJ t seq k ⟨2,ByteArray.empty⟩).1/\Fr [G,E] w w':=by
 have o:=qo I lg J G E n t seq k ⟨2,yA⟩ s w h a hn b x;clear h;go_enter func147,ntmps147;go_wp2_with fail;apply o.mono;clear o;rintro e c ⟨rfl,h1⟩;have H:=af h1;clear h1;go_wp2;go_ret;exact⟨rfl,H.out⟩
end
def ag.get(s:ag)(t:Nat)(seq:Int)(k:ByteArray):ag × ByteArray × Bool × Nat :=
 if (s.aJ t seq k ⟨0,ByteArray.empty⟩).2=0 then
  if ((s.aJ t seq k ⟨0,ByteArray.empty⟩).1.ke t k).writes=true then ((s.aJ t seq k ⟨0,ByteArray.empty⟩).1,((s.aJ t seq k ⟨0,ByteArray.empty⟩).1.ke t k).val,decide (((s.aJ t seq k ⟨0,ByteArray.empty⟩).1.ke t k).way=1),0)
  else ((s.aJ t seq k ⟨0,ByteArray.empty⟩).1,(ak (s.aJ t seq k ⟨0,ByteArray.empty⟩).1.aM k).getD ByteArray.empty,(ak (s.aJ t seq k ⟨0,ByteArray.empty⟩).1.aM k).isSome,0)
 else ((s.aJ t seq k ⟨0,ByteArray.empty⟩).1,ByteArray.empty,false,(s.aJ t seq k ⟨0,ByteArray.empty⟩).2)
theorem Xm(I lg J G E n t:Nat)(seq:Int)(k:ByteArray)(s:ag)(w:World)(h:a_ w I lg J G E n s)(m:t<18446744073709551616)(l:k.size<=maxLen)(hn:n+2<maxLen)(r:(s.aP t).state<=3)(x:(s.aP t).done<4611686018427387904)(F:1<=lg:=by first|assumption|omega):
  Calls prog 31 #[.pointer<|some ⟨I,0,none⟩,.int .u64 (t:Int),.int .i64 seq,.string k] w λe w'=>e=.returned (.tuple #[.string (s.get t seq k).2.1,.bool (s.get t seq k).2.2.1,cf (s.get t seq k).2.2.2])/\a_ w' I lg J G E (n+2) (s.get t seq k).1/\Fr [G,E] w w':=by
 have o:=qo I lg J G E n t seq k ⟨0,yA⟩ s w h m hn r x;clear h;have H:Hid (s.get t seq k=if (s.aJ t seq k ⟨0,yA⟩).2=0 then
  if ((s.aJ t seq k ⟨0,yA⟩).1.ke t k).writes=true then ((s.aJ t seq k ⟨0,yA⟩).1,((s.aJ t seq k ⟨0,yA⟩).1.ke t k).val,decide<|((s.aJ t seq k ⟨0,yA⟩).1.ke t k).way=1,0)
  else ((s.aJ t seq k ⟨0,yA⟩).1,(ak (s.aJ t seq k ⟨0,yA⟩).1.aM k).getD yA,(ak (s.aJ t seq k ⟨0,yA⟩).1.aM k).isSome,0)
 else ((s.aJ t seq k ⟨0,yA⟩).1,yA,false,(s.aJ t seq k ⟨0,yA⟩).2)):=rfl
 have⟨R,j⟩:∃R,R=s.aJ t seq k ⟨0,yA⟩:=⟨_,rfl⟩;rw[<-j]at o H;clear j;go_enter func31,ntmps31;go_wp2_with fail;apply o.mono;clear o;rintro e f ⟨rfl,cJ,bh⟩;have d:=af<|zzb cJ bh;have c3:=ae cJ.blk 3;simp at c3;have u:=cJ.U2 m l;have⟨a,i⟩:=gb <|R.1.ke t k;rw[<-i]at u H;clear i cJ bh;by_cases c:R.2=0
 .rw[c,bK];cases b:a.writes with
  |true=>
   have U:Hid (s.get t seq k=(R.1,a.val,decide<|a.way=1,0)):=by show _=_;rw[H.out,if_pos c,if_pos b]
   have g:=tW a<|f.alloc<|.cells #[.int .u8 (a.way:Int),.string a.val] 134;rw[b]at g;have W:=af b;clear H b c;go_wp2_with fail;apply g.mono;clear g;rintro e v ⟨rfl,rfl⟩;go_wp2
   go_quiet (fail)
   go_wp2;go_ret3;rw[U.out];have hb:((a.way:Int)==1)=decide (a.way=1):=by
    by_cases e:a.way=1
    .simp[e]
    .have:¬(a.way:Int)=1:=bL;simp[e,this]
   refine⟨by rw[<-hb];rfl,d.1.fr ((cw (((lT f).alloc _).alloc _) _)) bR bR bR bR,d.2.trans<|(cw (((lT f).alloc _).alloc _) _).mono bR⟩
  |false=>
   have U:Hid (s.get t seq k=(R.1,(ak R.1.aM k).getD yA,(ak R.1.aM k).isSome,0)):=by show _=_;rw[H.out,if_pos c,if_neg<|by rw[b];decide]
   have g:=tW a<|f.alloc<|.cells #[.int .u8 (a.way:Int),.string a.val] 134;rw[b]at g;clear H b c;go_wp2_with fail;apply g.mono;clear g;rintro e v ⟨rfl,rfl⟩;have B:=(((lT f).alloc<|.cells #[.int .u8 (a.way:Int),.string a.val] 134).alloc<|.cells #[.int .u8 (a.way:Int),.string a.val] 134);have p:=A_ I lg J G E (n+2) k R.1 _ (d.1.fr B bR bR bR bR) l;have A:=af B;clear B;go_wp2_with fail;apply p.mono;clear p;rintro e y ⟨rfl,q,rfl⟩;go_wp2;go_ret3;rw[U.out];exact⟨rfl,d.1.fr (cw A.out q) bR bR bR bR,d.2.trans<|(cw A.out q).mono bR⟩
 .have U:Hid (s.get t seq k=(R.1,yA,false,R.2)):=by show _=_;rw[H.out,if_neg c]
  clear H;rw[aG c];go_wp2;go_ret3;rw[U.out];exact⟨by rw[aG c];rfl,d.out⟩
theorem Ei(B p f N n m:Nat)(q:Value)(d:ah)(w:World)(h:ax w B p f N q d n m 0)(o:d.down=false):
  Calls prog 381 #[.pointer<|some ⟨p,0,none⟩] w λe w'=>e=.returned (.tuple #[.slice none 0 0,.nilIface])/\Below w.heap.size w w':=by
 have c1:=ae h.blk 1;have c5:=ae h.blk 5;simp at c1 c5;rw[o]at c5;have⟨D,A,_⟩:=h.now;have r:=A.size_le;have t:=Tryz.sort_Strings_none;clear h;go_enter func381,ntmps381;go_wp2_with (first
  |(at_range;apply wpList_range_own _ rfl _ 93 rfl 9 165 wB underlying93 di N 0 D rfl A;intro b j z C)
  |go_in)
 go_frame;have T:Below w.heap.size w b:=⟨z.os,z.tape,z.output,z.size,λk a=>z.block k a bR⟩;apply wp_loop_rounds 1;rw[rounds_succ]
 go_wp2_with (first
  |(at_next;refine wpList_next_ranges _ rfl _ rfl 9 wB di encStr Value.pointer (λs l a=>by have⟨x,i,_⟩:=Maps.keyOf_str underlying9 a;exact⟨x,i⟩) (λv y g=>rK g) N w.heap.size 0 _ _ _ rfl j ?_ ?_)
  |go_in)
 .intro _ _;go_wp2_with fail;apply(t none 0 b).mono;rintro e u ⟨rfl,rfl⟩;go_wp2;go_ret2;exact⟨rfl,T⟩
 .intro x c l yd yp w2 aak _ _ _ _ _ bU;omega
theorem insert_nil(w:World):Calls prog 294 #[.slice none 0 0,.int .i64 0,.int .i64 0] w λe w'=>e=.returned (.tuple #[])/\w'=w:=by
 go_enter func294,ntmps294;go_wp2;apply wp_loop_rounds 1;rw[rounds_succ];go_wp2;go_end0;exact⟨rfl,rfl⟩
theorem Sz(k:Int)(w:World):Calls prog 261 #[.slice none 0 0,.int .i64 0,.int .i64 0,.int .i64 k] w λe w'=>e=.returned (.tuple #[])/\w'=w:=by
 go_enter func261,ntmps261;go_wp2;apply wp_loop_rounds 1;rw[rounds_succ];go_wp2_with fail;apply(insert_nil w).mono;rintro e a ⟨rfl,rfl⟩;go_wp2;apply bodyPost_ret (results_none rfl _ _ _) rfl;exact⟨rfl,rfl⟩
theorem AZ(w:World):Calls prog 213 #[.slice none 0 0] w λe w'=>e=.returned (.tuple #[])/\w'=w:=by
 go_enter func213,ntmps213;go_wp2_with fail;apply(Tryz.bits_Len 0 w bL bL).mono;rintro e a ⟨rfl,rfl⟩;go_wp2_with fail;apply(Sz _ a).mono;rintro e a ⟨rfl,rfl⟩;go_wp2;go_end0;exact⟨rfl,rfl⟩
theorem K_(w:World):Calls prog 162 #[.slice none 0 0] w λe w'=>e=.returned (.slice none 0 0)/\w'=w:=by
 go_enter func162,ntmps162;go_wp2;apply wp_loop_rounds 1;rw[rounds_succ];go_wp2_with fail;apply(AZ w).mono;rintro e a ⟨rfl,rfl⟩;go_wp2;go_ret;exact⟨rfl,rfl⟩
theorem G3(x:Int)(w:World):Calls prog 163 #[.slice none 0 0,.int .u64 x] w λe w'=>e=.returned (.tuple #[.int .i64 0,.bool false])/\w'=w:=by
 go_enter func163,ntmps163;go_wp2;apply wp_loop_rounds 1;rw[rounds_succ];go_wp2;go_ret2;exact⟨rfl,rfl⟩
theorem Aa(B p D N n a b:Nat)(c:Value)(d:ah)(w:World)(h:ax w B p D N c d n a b)(x:d.down=false)(Q:d.now ie=none):
  Calls prog 161 #[dX p] w λe w'=>e=.returned (.tuple #[.int .u64 1,.nilIface])/\Below w.heap.size w w':=by
 have m:=Z7;have r:=OD B p D N n a b c d ie w h bM;have e:d.read ie=(none,8):=by unfold ah.read;rw[if_neg<|by rw[x];decide,Q]
 clear h;go_enter func161,ntmps161;go_wp2_with fail;apply r.mono;clear r;rintro g f ⟨v,rfl,aal,hb⟩;rw[e]at aal ⊢;obtain rfl:v=.slice none 0 0:=aal;rw[aG bM];go_wp2_with fail;apply(Jr 8 f).mono;rintro i j ⟨rfl,rfl⟩;go_wp2;go_ret2;exact⟨rfl,hb⟩
end Go.Proofs.YtcalalndmcemiaaGreatDoor
