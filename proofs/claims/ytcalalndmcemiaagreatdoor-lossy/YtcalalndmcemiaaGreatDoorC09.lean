import Derived.Test.YtcalalndmcemiaaGreatDoorC07
import Derived.Shelf.SlIter.Nil
set_option maxHeartbeats 4000000
set_option maxRecDepth 100000
namespace Go.Proofs.YtcalalndmcemiaaGreatDoor
open Go.RowKit Go.Maps Tryz Sc
variable{B D N h n o p:Nat}{s v:Value}{w:World}{d:ah}{l:au}
theorem xh:(Tryz.prog.info? 43).map (λi=>(i.zero,i.size,i.bytes))=some (some<|.int .u64 0,1,8):=dJ
theorem K0{o:Oper}{a:Act}{K:Act->World->Prop}{Q:Exit->Act->World->Prop}(s x:Operand)
  (d:o.op=.call {callee:=.builtin .append,args:=#[s,x],argTypes:=#[220,220]})
  (base:Nat) (v:Value) (n:Nat) (l:List Nat) (r:Nat) (b:Nat) (hs:a.eval s=v) (A:w.ownsRow base 43 1 v n<|eI l) (e:a.eval x=.slice (some ⟨b,0,none⟩) 1 1)
  (hb:w.cell? ⟨b,0,none⟩=some (.int .u64 (r:Int))) (hn:n<=1073741824) (J:base<=w.heap.size)
  (h:∀c w',w'.ownsRow base 43 1 c (n+1) (eI<|l++[r])->w.grownBy w' v.ownBlock->(c.ownBlock=v.ownBlock\/c.ownBlock=some w.heap.size)->K (a.put o.dst c) w'):o.wp prog a w K Q:=by
 have⟨k,i,f,g,j⟩:=info_parts xh;refine gO s x 220 d base 43 k _ 1 8 underlying220 i f g j rfl bM v n (eI l) hs A (gz b) 1 1 [.int .u64 (r:Int)] e rfl ?_ ?_ eA bL J ?_
 .intro jj u gS;match jj,gS with
  |0,gS=>simp at gS;subst gS;simpa [Addr.add]using hb
 .intro u hu;simp at hu;subst hu;rfl
 .intro c w' s8 AF AG;refine h c w' ?_ AF AG;rw[uR];exact s8
def au.room(l:au)(d:ah):au × ah × Nat :=
 if l.filled<600 then (l,d,0)
 else if (l.sync d).2.2=0 then ({ (l.sync d).1 with segs:=(l.sync d).1.segs++[(l.sync d).1.next],filled:=0 },(l.sync d).2.1,0)
 else l.sync d
theorem aA.more{b c:Nat}{r:Value}(a:aA w B h p D N v s r l d n b c)(hn:n<67108864):aA w B h p D N v s r l d (n+1) b c:=
 {a with bq:=a.bq.more hn,eB:=⟨by have:=a.eB.1;omega,a.eB.2⟩,gJ:=by have:=a.gJ;omega,iC:=by have:=a.iC;omega}
theorem N_{b:World}{m:Nat}{t:Value}{q:Obj}{r:Option Nat}(c:aA w B h p D N t s v l d n m o)(g:(w.alloc q).drew.grownBy b r)(j:r≠some h)(i:Nat):
  b.cell? ⟨h,i,none⟩=w.cell? ⟨h,i,none⟩/\b.frozen? ⟨h,i,none⟩=false/\b.heap[h]?=some (pC p s v l):=by
 have f:=(zza.1 c.blk).1;have k:b.heap[h]?=w.heap[h]?:=by
  rw[g.block h cE λe=>j e.symm];exact zzf w _ h f
 exact⟨zze k,(zzw k).trans<|aj c.blk i,k.trans c.blk⟩
theorem aA.rows{W:World}{r n':Nat}{z y i j:Value}{a:au}{S:List Nat}(b:aA w B h p D N v z y l d n o r)(hf:Fr S w W)(u:∀k∈S,k<w.heap.size->k=h\/z.ownBlock=some k\/y.ownBlock=some k)
  (hb:W.heap[h]?=some (pC p i j a)) (hs:W.ownsRow B 43 1 i a.segs.length<|eI a.segs) (M:W.ownsRow B 110 3 j a.recs.length<|eH a.recs)
  (hn:n<=n') (R:n'<=67108864) (A:a.segs.length<=n'/\∀s∈a.segs,s<18446744073709551616) (C:a.recs.length<=n') (E:a.filled<=4096) (F:a.next<=n' + 1) (G:a.aZ<18446744073709551616):aA W B h p D N v i j a d n' o r:=by
 have f:∀k∈dS p D N v,k<w.heap.size->k∉S:=λk H I J=>by
  have:=b.sep k H;obtain e|e|e:=u k J I
  .exact this.1 e
  .exact this.2.1 e
  .exact this.2.2 e
 have Y:=(zza.1 b.bq.blk).1;have m:ax W B p D N v d n o r:=by
  apply b.bq.fr hf (f p bR Y) (f D bR b.bq.rz.lt) (f N bR b.bq.now.lt) (λg x=>f g (by simp[x]) (b.bq.pen.lt g x).2);intro q K t e;have L:=(zza.1 e).1;obtain c|c|c:=u q K L
  .subst c;rw[b.blk]at e;cases e
  .exact bj b.segs e bM c
  .exact bj b.recs e bM c
 exact {bq:={m with hD:=by have:=m.hD;omega,hN:=by have:=m.hN;omega,hn:=R},blk:=hb,base:=b.base,segs:=hs,recs:=M,eB:=A,gJ:=C,km:=E,iC:=F,mZ:=G}
theorem Oa(B b p D N n E F:Nat)(G J I:Value)(l:au)(d:ah)(w:World)(h:aA w B b p D N G J I l d n E F)(hn:n<67108864):
  Calls prog 130 #[.pointer<|some ⟨b,0,none⟩] w λe w'=>e=.returned (cf (l.room d).2.2)/\JA B b p D N (l.room d).1 (l.room d).2.1 (n+1) w w':=by
 have c2:=ae h.blk 2;simp at c2;have L:=af h;clear h;by_cases hf:l.filled<600
 .have e:l.room d=(l,d,0):=by unfold au.room;rw[if_pos hf]
  rw[e];have V:(l.filled:Int)<600:=by omega
  go_enter func130,ntmps130
  go_wp2;go_ret;exact⟨rfl,⟨G,J,I,E,F,L.out.more hn⟩,ku.refl _ _ _⟩
 .have V:¬(l.filled:Int)<600:=by omega
  have K:=af hf;clear hf
  go_enter func130,ntmps130
  go_wp2_with fail;refine(qW B b p D N n E F G J I l d w L.out (by omega)).mono ?_;rintro e j ⟨rfl,⟨j9,qc,m_,lC,lu,dY⟩,eE⟩;have H:=af dY;have O:=af eE;have A:=ae dY.blk 1;have X:=ae dY.blk 2;have R:=ae dY.blk 4;have f1:=aj dY.blk 1;simp at A X R;have zB:b<j.heap.size:=(zza.1 dY.blk).1;have z:∀o i,(j.alloc o).cell? ⟨b,i,none⟩=j.cell? ⟨b,i,none⟩:=λo i=>zze (a:=⟨b,i,none⟩)<|zzf j o b zB
  have Z8:∀o,(j.alloc o).cell? ⟨b,1,none⟩=some qc:=λo=>(z o 1).trans A
  have a1:∀o,(j.alloc o).cell? ⟨b,4,none⟩=some (.int .u64 ((l.sync d).1.next:Int)):=λo=>(z o 4).trans R
  clear z;clear dY eE c2;by_cases q:(l.sync d).2.2=0
  .rw[q,bK];go_wp2
   go_region_law (first|(rw[if_pos<|by rfl];refine K0 _ _ rfl B qc (l.sync d).1.segs.length (l.sync d).1.segs (l.sync d).1.next j.heap.size rfl ?_ rfl ?_ ?_ ?_ ?_;(exact H.out.segs.alloc _);(simp);(have:=H.out.eB.1;omega);(have:=H.out.bq.base.2.2.2;simp;omega);intro v4 T C P Z;obtain⟨m,s,rfl⟩:=gW C;have⟨q1,q2,v⟩:=N_ H.out P (bj H.out.segs H.out.blk bM) 1;rw[A]at q1;have sr:Hid (bS j.heap.size qc<|.slice (some ⟨m,0,none⟩) ((l.sync d).1.segs.length+1) s):=bS.o_ Z bR;clear Z))
   all_goals (
    have r2:=(ae v 2);have t2:=(aj v 2);simp at r2;have Q:=af v;clear v;go_wp2;go_ret;have e:l.room d=({(l.sync d).1 with segs:=(l.sync d).1.segs++[(l.sync d).1.next],filled:=0},(l.sync d).2.1,0):=by unfold au.room;rw[if_neg K.out,if_pos q]
    rw[e];have⟨W,y⟩:∃W,W=(T.setCell ⟨b,1,none⟩<|.slice (some ⟨m,0,none⟩) ((l.sync d).1.segs.length+1) s).setCell ⟨b,2,none⟩ (.int .i64 0):=⟨_,rfl⟩;rw[<-y];have S:Fr [b] T W:=by rw[y];exact(Fr.cD bR _ _).trans<|Fr.cD bR _ _
    have hf:Fr (b::qc.ownBlock.toList) j W:=((((Fr.refl _ j).alloc _).drew).trans<|(Fr.bz P).mono λk _ f=>List.mem_cons_of_mem _ f).trans<|S.mono<|by intro k _ f;simp at f;simp[f]
    have hb:W.heap[b]?=some (pC p (.slice (some ⟨m,0,none⟩) ((l.sync d).1.segs.length+1) s) m_ {(l.sync d).1 with segs:=(l.sync d).1.segs++[(l.sync d).1.next],filled:=0}):=by
     rw[y];have:=ar (ar Q.out 1<|.slice (some ⟨m,0,none⟩) ((l.sync d).1.segs.length+1) s) 2<|.int .i64 0;simp at this;exact this
    have hs:W.ownsRow B 43 1 (.slice (some ⟨m,0,none⟩) ((l.sync d).1.segs.length+1) s) ((l.sync d).1.segs++[(l.sync d).1.next]).length (eI<|(l.sync d).1.segs++[(l.sync d).1.next]):=by
     have:=aD C S λg t=>by simp;intro e;subst e;exact bj C Q.out bM t
     simpa using this
    have U:W.ownsRow B 110 3 m_ (l.sync d).1.recs.length (eH (l.sync d).1.recs):=aD H.out.recs hf (λg t u=>by
     obtain e|u:=zzj.1 u
     .subst e;exact bj H.out.recs H.out.blk bM t
     .simp at u;have⟨c,Y⟩:=aq H.out.segs u;exact bj H.out.recs Y bM t)
    have zC:=H.out.iC;have M:=H.out.rows (n':=n+1) hf (by intro k f _;obtain e|f:=zzj.1 f;exact .inl e;simp at f;exact .inr<|.inl f) hb hs U bL bL
     ⟨by have:=H.out.eB.1;simp;omega,by intro x r;obtain r|r:=zzo.1 r;exact H.out.eB.2 x r;simp at r;omega⟩ (by have:=H.out.gJ;simp;omega) bR cE H.out.mZ
    exact⟨rfl,⟨j9,_,m_,lC,lu,M⟩,O.out.trans (H.out.zY M hf (by intro k f _;obtain e|f:=zzj.1 f;simp[e];simp at f;simp[f]) (.inl rfl) (bS.refl _ _) sr.out (bS.refl _ _))⟩)
  .have e:l.room d=l.sync d:=by unfold au.room;rw[if_neg K.out,if_neg q]
   rw[aG q];go_wp2;go_ret;rw[e];exact⟨by rw[aG q];rfl,⟨j9,qc,m_,lC,lu,H.out.more hn⟩,O.out⟩
end Go.Proofs.YtcalalndmcemiaaGreatDoor
namespace Go.Proofs
open Go.Shelf
def Tryz.lays190_ren:Go.Shelf.Ren:=⟨fun | 190=>254 | 125=>262 | 258=>285 | 128=>302 | 129=>238 | 302=>316 | 303=>317 | 304=>318 | 305=>319 | 306=>320 | 307=>321 | 308=>322 | 309=>323 | 310=>324 | 333=>339 | 329=>328 | 330=>329 | 334=>340 | 335=>341 | 336=>342 | 344=>353 | n=>n,fun | 31=>35 | 9=>9 | 3=>3 | 46=>175 | 0=>0 | 51=>271 | 53=>43 | 4=>4 | 183=>410 | 182=>409 | 131=>292 | 5=>5 | 218=>436 | 222=>439 | 228=>450 | 229=>451 | n=>n,fun | n=>n⟩
theorem Tryz.lays190:Go.Proofs.Lays.n190 Tryz.prog Tryz.lays190_ren:={
 mixed:=by kernel_rfl
 f125:=Tryz.func262.trans (congrArg some (by kernel_rfl))
 f128:=Tryz.func302.trans (congrArg some (by kernel_rfl))
 f129:=Tryz.func238.trans (congrArg some (by kernel_rfl))
 f190:=Tryz.func254.trans (congrArg some (by kernel_rfl))
 f258:=Tryz.func285.trans (congrArg some (by kernel_rfl))
 f302:=Tryz.func316.trans (congrArg some (by kernel_rfl))
 f303:=Tryz.func317.trans (congrArg some (by kernel_rfl))
 f304:=Tryz.func318.trans (congrArg some (by kernel_rfl))
 f305:=Tryz.func319.trans (congrArg some (by kernel_rfl))
 f306:=Tryz.func320.trans (congrArg some (by kernel_rfl))
 f307:=Tryz.func321.trans (congrArg some (by kernel_rfl))
 f308:=Tryz.func322.trans (congrArg some (by kernel_rfl))
 f309:=Tryz.func323.trans (congrArg some (by kernel_rfl))
 f310:=Tryz.func324.trans (congrArg some (by kernel_rfl))
 f329:=Tryz.func328.trans (congrArg some (by kernel_rfl))
 f330:=Tryz.func329.trans (congrArg some (by kernel_rfl))
 f333:=Tryz.func339.trans (congrArg some (by kernel_rfl))
 f334:=Tryz.func340.trans (congrArg some (by kernel_rfl))
 f335:=Tryz.func341.trans (congrArg some (by kernel_rfl))
 f336:=Tryz.func342.trans (congrArg some (by kernel_rfl))
 f344:=Tryz.func353.trans (congrArg some (by kernel_rfl))
 t0:=Tryz.underlying0
 a0:=Tryz.isAgg0
 z0:=Tryz.sizeOf0
 v0:=Tryz.zeroValue0
 t3:=Tryz.underlying3
 a3:=Tryz.isAgg3
 z3:=Tryz.sizeOf3
 v3:=Tryz.zeroValue3
 t4:=Tryz.underlying4
 a4:=Tryz.isAgg4
 z4:=Tryz.sizeOf4
 v4:=Tryz.zeroValue4
 t5:=Tryz.underlying5
 a5:=Tryz.isAgg5
 z5:=Tryz.sizeOf5
 v5:=Tryz.zeroValue5
 t9:=Tryz.underlying9
 a9:=Tryz.isAgg9
 z9:=Tryz.sizeOf9
 v9:=Tryz.zeroValue9
 t31:=Tryz.underlying35
 a31:=Tryz.isAgg35
 z31:=Tryz.sizeOf35
 v31:=Tryz.zeroValue35
 t46:=Tryz.underlying175
 a46:=Tryz.isAgg175
 z46:=Tryz.sizeOf175
 v46:=Tryz.zeroValue175
 t51:=Tryz.underlying271
 a51:=Tryz.isAgg271
 z51:=Tryz.sizeOf271
 v51:=Tryz.zeroValue271
 t53:=Tryz.underlying43
 a53:=Tryz.isAgg43
 z53:=Tryz.sizeOf43
 v53:=Tryz.zeroValue43
 t131:=Tryz.underlying292
 a131:=Tryz.isAgg292
 z131:=Tryz.sizeOf292
 v131:=Tryz.zeroValue292
 t182:=Tryz.underlying409
 a182:=Tryz.isAgg409
 z182:=Tryz.sizeOf409
 v182:=Tryz.zeroValue409
 t183:=Tryz.underlying410
 a183:=Tryz.isAgg410
 z183:=Tryz.sizeOf410
 v183:=Tryz.zeroValue410
 t218:=Tryz.underlying436
 a218:=Tryz.isAgg436
 z218:=Tryz.sizeOf436
 v218:=Tryz.zeroValue436
 t222:=Tryz.underlying439
 a222:=Tryz.isAgg439
 z222:=Tryz.sizeOf439
 v222:=Tryz.zeroValue439
 t228:=Tryz.underlying450
 a228:=Tryz.isAgg450
 z228:=Tryz.sizeOf450
 v228:=Tryz.zeroValue450
 t229:=Tryz.underlying451
 a229:=Tryz.isAgg451
 z229:=Tryz.sizeOf451
 v229:=Tryz.zeroValue451 }
open Go.Sort Go.RowKit in
theorem Tryz.slices_Sort_string (blk off cap:Nat) (ss:List (List UInt8)) (w:World) (hH:Holds encStr w blk off ss.toArray) (hblk:blk<w.heap.size) (hsz:ss.length<4611686018427387904) :
  Calls Tryz.prog 254 #[.slice (some ⟨blk,off,none⟩) ss.length cap] w fun e w' =>
   e=.returned (.tuple #[])∧∃ n os,w'=grow (putRow encStr (Sort.ahead w n) blk off (ss.mergeSort fun x y=>decide (x≤y)).toArray) os:=Any.slices_Sort_string Tryz.lays190 blk off cap ss w hH hblk hsz
open Go.RowKit Go.Sort in
theorem Tryz.slices_Sort_string_none (p:Option Addr) (cap:Nat) (w:World) :
  Calls Tryz.prog 254 #[.slice p 0 cap] w fun e w'=>e=.returned (.tuple #[])∧w'=w:=Any.slices_Sort_string_none Tryz.lays190 p cap w
def Tryz.keysG_ren:Go.Shelf.Ren:=⟨fun | 7=>273 | 10=>308 | n=>n,fun | 23=>262 | 26=>9 | 3=>134 | 28=>334 | 0=>0 | 27=>333 | 33=>381 | 4=>4 | n=>n,fun | n=>n⟩
theorem Tryz.keysG:Go.Proofs.SlLaysZ.n7 Tryz.prog Tryz.keysG_ren:={
 mixed:=by kernel_rfl
 f7:=⟨Tryz.f273.name,by decide,Tryz.func273.trans (congrArg some (by kernel_rfl))⟩
 f10:=⟨Tryz.f308.name,by decide,Tryz.func308.trans (congrArg some (by kernel_rfl))⟩
 t0:=Tryz.underlying0
 a0:=Tryz.isAgg0
 z0:=Tryz.sizeOf0
 v0:=Tryz.zeroValue0
 t4:=Tryz.underlying4
 a4:=Tryz.isAgg4
 z4:=Tryz.sizeOf4
 v4:=Tryz.zeroValue4
 t23:=Tryz.underlying262
 a23:=Tryz.isAgg262
 z23:=Tryz.sizeOf262
 v23:=Tryz.zeroValue262
 t26:=Tryz.underlying9
 a26:=Tryz.isAgg9
 z26:=Tryz.sizeOf9
 v26:=Tryz.zeroValue9
 t27:=Tryz.underlying333
 a27:=Tryz.isAgg333
 z27:=Tryz.sizeOf333
 v27:=Tryz.zeroValue333
 t28:=Tryz.underlying334
 a28:=Tryz.isAgg334
 z28:=Tryz.sizeOf334
 v28:=Tryz.zeroValue334
 t33:=Tryz.underlying381
 a33:=Tryz.isAgg381
 z33:=Tryz.sizeOf381
 v33:=Tryz.zeroValue381 }
def Tryz.keysV_ren:Go.Shelf.Ren:=⟨fun | 7=>209 | 10=>255 | n=>n,fun | 23=>135 | 26=>9 | 3=>9 | 28=>334 | 0=>0 | 27=>333 | 33=>381 | 4=>4 | n=>n,fun | n=>n⟩
theorem Tryz.keysV:Go.Proofs.SlLaysZ.n7 Tryz.prog Tryz.keysV_ren:={
 mixed:=by kernel_rfl
 f7:=⟨Tryz.f209.name,by decide,Tryz.func209.trans (congrArg some (by kernel_rfl))⟩
 f10:=⟨Tryz.f255.name,by decide,Tryz.func255.trans (congrArg some (by kernel_rfl))⟩
 t0:=Tryz.underlying0
 a0:=Tryz.isAgg0
 z0:=Tryz.sizeOf0
 v0:=Tryz.zeroValue0
 t4:=Tryz.underlying4
 a4:=Tryz.isAgg4
 z4:=Tryz.sizeOf4
 v4:=Tryz.zeroValue4
 t23:=Tryz.underlying135
 a23:=Tryz.isAgg135
 z23:=Tryz.sizeOf135
 v23:=Tryz.zeroValue135
 t26:=Tryz.underlying9
 a26:=Tryz.isAgg9
 z26:=Tryz.sizeOf9
 v26:=Tryz.zeroValue9
 t27:=Tryz.underlying333
 a27:=Tryz.isAgg333
 z27:=Tryz.sizeOf333
 v27:=Tryz.zeroValue333
 t28:=Tryz.underlying334
 a28:=Tryz.isAgg334
 z28:=Tryz.sizeOf334
 v28:=Tryz.zeroValue334
 t33:=Tryz.underlying381
 a33:=Tryz.isAgg381
 z33:=Tryz.sizeOf381
 v33:=Tryz.zeroValue381 }
def Tryz.sortedS_ren:Go.Shelf.Ren:=⟨fun | 6=>208 | 8=>253 | 9=>254 | 11=>284 | 13=>262 | 12=>285 | 23=>302 | 24=>238 | 14=>316 | 15=>317 | 16=>318 | 17=>319 | 18=>320 | 19=>321 | 20=>322 | 21=>323 | 22=>324 | 25=>339 | 26=>328 | 27=>329 | 28=>340 | 29=>341 | 30=>342 | 31=>353 | n=>n,fun | 26=>9 | 28=>334 | 24=>35 | 0=>0 | 3=>3 | 37=>175 | 48=>271 | 50=>43 | 4=>4 | 40=>410 | 39=>409 | 45=>292 | 5=>5 | 9=>9 | 51=>436 | 55=>439 | 57=>450 | 58=>451 | 33=>381 | n=>n,fun | n=>n⟩
theorem Tryz.sortedS:Go.Proofs.SlLaysZ.n6 Tryz.prog Tryz.sortedS_ren:={
 mixed:=by kernel_rfl
 f6:=⟨Tryz.f208.name,by decide,Tryz.func208.trans (congrArg some (by kernel_rfl))⟩
 f8:=⟨Tryz.f253.name,by decide,Tryz.func253.trans (congrArg some (by kernel_rfl))⟩
 f11:=⟨Tryz.f284.name,by decide,Tryz.func284.trans (congrArg some (by kernel_rfl))⟩
 t0:=Tryz.underlying0
 a0:=Tryz.isAgg0
 z0:=Tryz.sizeOf0
 v0:=Tryz.zeroValue0
 t24:=Tryz.underlying35
 a24:=Tryz.isAgg35
 z24:=Tryz.sizeOf35
 v24:=Tryz.zeroValue35
 t26:=Tryz.underlying9
 a26:=Tryz.isAgg9
 z26:=Tryz.sizeOf9
 v26:=Tryz.zeroValue9
 t28:=Tryz.underlying334
 a28:=Tryz.isAgg334
 z28:=Tryz.sizeOf334
 v28:=Tryz.zeroValue334
 i26:=by kernel_rfl }
end Go.Proofs
namespace Go.Proofs.YtcalalndmcemiaaGreatDoor
open Go.RowKit Go.Maps Tryz Sc
variable{c:Array Value}{S X:List Nat}{xs:List Value}{B D N b g h k lp m n p q:Nat}{t:TypeId}{r s v:Value}{a w w':World}{d:ah}{l:au}
theorem D7{i:Nat}{fr:Nat×Nat}(h:ax w B p D N v d n g i)(a:w.heap[q]?=some (.cells c t fr))(b:t≠96)(f:t≠182):q∉dS p D N v:=by
 intro m;obtain e|m:=zzj.1 m
 .rw[e,h.blk]at a;cases a;exact b rfl
 obtain e|m:=zzj.1 m
 .exact h.rz.cH a e.symm
 obtain e|m:=zzj.1 m
 .exact h.now.cH a e.symm
 .simp at m;exact bj h.pen a (λe=>f e.symm) m
theorem nO{o s len:Nat}{fr:Nat×Nat}(h:ax w B p D N v d n o s)(r:w.ownsRow k 5 1 (.slice (some ⟨g,0,none⟩) len b) len xs)(a:w.heap[q]?=some (.cells c t fr))(f:t≠96)(i:t≠182)(j:t≠5):q∉g::dS p D N v:=by
 intro m;obtain e|m:=zzj.1 m
 .subst e;have⟨c',l⟩:=aq r rfl;rw[l]at a;cases a;exact j rfl
 .exact D7 h a f i m
def Ob(B a p D N n b g:Nat)(v s r:Value)(l:au)(d:ah)(o:mG)(w:World)(e:Ending)(w':World):Prop :=
 e=.returned (cf (d.tell o).2)/\(∃m z,aA w' B a p D N m s r l (d.tell o).1 (n+1) b z/\bS w.heap.size v m)/\Fr (g :: dS p D N v) w w'
theorem nP{l:List Nat}(h:w.ownsRow B 43 1 (.slice (some ⟨g,0,none⟩) n p) n<|eI l)(k x:Nat)(b:l[k]?=some x):w.cell? ⟨g,k,none⟩=some (.int .u64 (x:Int)):=by
 have a:(eI l)[k]?=some (.int .u64 (x:Int)):=by simp[eI,b]
 have:=h.cells rfl k _ a;simpa [Addr.add_lit]using this
theorem Oc(B b p D N n y E i f g m u base s x last:Nat)(v z:Value)(l:au)(d:ah)(t:List Nat)(w:World)(h:aA w B b p D N v (.slice (some ⟨s,0,none⟩) l.segs.length x) z l d n y E)(hn:n<67108864)
  (M:l.segs[l.segs.length-1]?=some last) (q:w.heap[i]?=some (.cells #[.pointer<|some ⟨b,0,none⟩] 74)) (Q:w.heap[f]?=some (.cells #[.slice (some ⟨g,0,none⟩) m u] 88))
  (hm:t.length=m) (r:w.ownsRow base 5 1 (.slice (some ⟨g,0,none⟩) m u) m<|bs t) (wE:m<=4096) (W:bI w) (K:last<18446744073709551616) :
  Calls prog 131 #[.pointer<|some ⟨i,0,none⟩,.pointer<|some ⟨f,0,none⟩] w (Ob B b p D N n y g v (.slice (some ⟨s,0,none⟩) l.segs.length x) z l d ⟨2,aN last,ByteArray.empty,str t⟩ w):=by
 subst hm
 have hL:0<l.segs.length:=by
  have:=(zzd.1 M).1;omega
 have L:=ae q 0;have O:=ae Q 0;have J:=ae h.blk 0;have c1:=ae h.blk 1;have F:=nP h.segs _ _ M;simp at L O J c1;have a1:=h.segs;obtain⟨S,C⟩:∃S,S+1=l.segs.length:=⟨l.segs.length-1,bL⟩;have a7:S<67108864:=by have:=h.eB.1;omega
 have i0:(0:Int)<=S:=bL;have i1:(S:Int)<S+1:=bL;have i2:wrap64 (S:Int)=S:=by unfold wrap64;omega
 have i3:IntKind.i64.wrap (S:Int)=S:=dL;have I:=af h;have HX:=af q;have HY:=af Q;have R:=af r;have a8:=Sg;rw[<-C]at c1 F;simp only[Nat.add_sub_cancel]at F;have HS:=af C.symm;have U:i<w.heap.size/\f<w.heap.size/\b<w.heap.size/\s<w.heap.size:=⟨(zza.1 q).1,(zza.1 Q).1,(zza.1 h.blk).1,(h.segs.lt s rfl).2⟩
 have T:i∉g::dS p D N v/\f∉g::dS p D N v/\b∉g::dS p D N v/\s∉g::dS p D N v:=by
  obtain⟨cg,V⟩:=aq h.segs (g:=s) rfl;exact⟨nO h.bq r q bM bM bM,nO h.bq r Q bM bM bM,nO h.bq r h.blk (by decide) (by decide) (by decide),nO h.bq r V (by decide) (by decide) (by decide)⟩
 clear h q Q r a1 C
 go_enter func131,ntmps131
 go_wp2
 go_region_held3 (λw'=>w'.cell? ⟨i,0,none⟩=some (.pointer<|some ⟨b,0,none⟩)/\w'.cell? ⟨f,0,none⟩=some (.slice (some ⟨g,0,none⟩) t.length u)/\w'.cell? ⟨b,0,none⟩=some (dX p)/\w'.cell? ⟨b,1,none⟩=some (.slice (some ⟨s,0,none⟩) (S+1) x)/\w'.cell? ⟨s,S,none⟩=some (.int .u64 (last:Int)))
  (simp[*])
  (first|(go_at_call 380;refine(GF B p D N n y E g u base v d (aN last) t _ (I.out.bq.new<|Fr.aX j.out []) hn (by have:=oC last K;unfold maxLen;omega) (aD R.out (Fr.aX j.out []) bR) wE).mono ?_;rintro e w2 ⟨rfl,zD,aQ⟩;have x2:=(zze (a:=⟨i,0,none⟩)<|aQ.block i (zzl U.1 j.out.size) T.1).trans x1;have y2:=(zze (a:=⟨f,0,none⟩)<|aQ.block f (zzl U.2.1 j.out.size) T.2.1).trans y1;have e0:=(zze (a:=⟨b,0,none⟩)<|aQ.block b (zzl U.2.2.1 j.out.size) T.2.2.1).trans X;have e1:=(zze (a:=⟨b,1,none⟩)<|aQ.block b (zzl U.2.2.1 j.out.size) T.2.2.1).trans Y;have s2:=(zze (a:=⟨s,S,none⟩)<|aQ.block s (zzl U.2.2.2 j.out.size) T.2.2.2).trans s1)|(go_at_call 132;refine(pj last w.drew K<|show bI w.drew from W).mono ?_;rintro e H ⟨rfl,jH⟩;have G:Below w.heap.size w H:=⟨jH.os,jH.tape,jH.output,jH.size,jH.block⟩;have x1:=(G.cell (p:=⟨i,0,none⟩) U.1).trans L;have y1:=(G.cell (p:=⟨f,0,none⟩) U.2.1).trans O;have X:=(G.cell (p:=⟨b,0,none⟩) U.2.2.1).trans J;have Y:=(G.cell (p:=⟨b,1,none⟩) U.2.2.1).trans c1;have s1:=(G.cell (p:=⟨s,S,none⟩) U.2.2.2).trans F;have j:Hid (Below w.heap.size w H):=G;clear G jH))
 go_wp2;go_ret;have⟨zE,zZ,hd,a6⟩:=zD;have A:=Fr.aX j.out [];have Z:aA H B b p D N v (.slice (some ⟨s,0,none⟩) l.segs.length x) z l d n y E:=I.out.turned (I.out.bq.new A) A bR<|zzc _
 have P:∀k∈g::dS p D N v,z.ownBlock≠some k:=by
  intro k o e;have⟨c,hc⟩:=aq I.out.recs e;exact nO I.out.bq R.out hc bM bM bM o
 have eh:=Z.turned hd aQ (λk o _=>⟨λe=>T.2.2.1<|e▸o,λe=>T.2.2.2<|by cases e;exact o,P k o⟩) bL;refine⟨rfl,⟨zE,zZ,eh,λk o=>?_⟩,(A.mono bR).trans aQ⟩;obtain e|e:=a6 k o
 .exact .inl e
 .right;have:=j.out.size;omega
structure Rv(X:List Nat)(lp p:Nat)(w w':World):Prop where
 os:w'.os=w.os
 tape:w'.tape=w.tape
 output:w'.output=w.output
 size:w.heap.size<=w'.heap.size
 block:∀k,k<w.heap.size->¬Own lp p w k->k∉X->w'.heap[k]?=w.heap[k]?
 stay:∀k,k<w.heap.size->Own lp p w' k->Own lp p w k
theorem ku.x(h:ku lp p w w'):Rv X lp p w w':=⟨h.os,h.tape,h.output,h.size,λk a hn _=>h.block k a hn,h.stay⟩
theorem Rv.trans{b c:World}(h:Rv X lp p a b)(k:Rv X lp p b c):Rv X lp p a c:=
 ⟨k.os.trans h.os,k.tape.trans h.tape,k.output.trans h.output,zzk h.size k.size,
  λi d hn x=>(k.block i (zzl d h.size) (λo=>hn<|h.stay i d o) x).trans<|h.block i d hn x,
  λi d o=>h.stay i d (k.stay i (zzl d h.size) o)⟩
section
variable{w w':World}{B lp p E G n U Z n' s u:Nat}{I O J j f h:Value}{l o:au}{d m:ah}
theorem aA.Wn{X S:List Nat}(b:aA w B lp p E G I O J l d n U Z)(c:aA w' B lp p E G j f h o m n' s u)(hf:Fr S w w')
  (r:∀k∈S,k<w.heap.size->k∈X\/k=lp\/k=p\/k=E\/k=G\/I.ownBlock=some k\/O.ownBlock=some k\/J.ownBlock=some k)
  (g:bS w.heap.size I j) (i:bS w.heap.size O f) (q:bS w.heap.size J h):Rv X lp p w w':=by
 refine⟨hf.os,hf.tape,hf.output,hf.size,λk a hn x=>hf.block k a λt=>?_,λk a v=>?_⟩
 .rcases r k t a with e|e
  .exact x e
  .exact hn<|(b.own k).2 e
 rw[b.own];obtain e|e|e|e|e|e|e:=(c.own k).1 v
 .exact .inl e
 .exact .inr<|.inl e
 .exact .inr<|.inr<|.inl e
 .exact .inr<|.inr<|.inr<|.inl e
 .rcases g k e with e|e
  .exact .inr<|.inr<|.inr<|.inr<|.inl e
  .omega
 .rcases i k e with e|e
  .exact .inr<|.inr<|.inr<|.inr<|.inr<|.inl e
  .omega
 .rcases q k e with e|e
  .exact .inr<|.inr<|.inr<|.inr<|.inr<|.inr e
  .omega
theorem aA.ge(h:aA w B lp p E G I O J l d n U Z){k:Nat}(a:Own lp p w k):B<=k:=by
 obtain e|e|e|e|e|e|e:=(h.own k).1 a
 .rw[e];exact h.base
 .rw[e];exact h.bq.base.1
 .rw[e];exact h.bq.base.2.1
 .rw[e];exact h.bq.base.2.2.1
 .exact(h.bq.pen.lt k e).1
 .exact(h.segs.lt k e).1
 .exact(h.recs.lt k e).1
theorem aA.free(h:aA w B lp p E G I O J l d n U Z){q:Nat}{c:Array Value}{t:TypeId}{fr:Nat×Nat}(a:w.heap[q]?=some (.cells c t fr))(b:t≠96)(f:t≠182)(g:t≠222)(i:t≠43)(j:t≠110):¬Own lp p w q:=by
 intro o;have hn:=D7 h.bq a b f;obtain e|e|e|e|e|e|e:=(h.own q).1 o
 .rw[e,h.blk]at a;cases a;exact g rfl
 .exact hn<|by simp[e]
 .exact hn<|by simp[e]
 .exact hn<|by simp[e]
 .exact hn<|by simp[e]
 .exact bj h.segs a (λe=>i e.symm) e
 .exact bj h.recs a (λe=>j e.symm) e
end
theorem Wo:Tryz.prog.globalNamed "internal/strconv.uint64pow10"=some 1:=dJ
theorem bI.cI(h:bI w)(hb:w'.heap[1]?=w.heap[1]?):bI w':=by
 unfold bI Lib.TabIs World.var? at *;rw[Wo]at *;simp only[Option.bind_some]at *;rw[hb];exact h
def au.put(l:au)(d:ah)(n:List Nat):au × ah × Nat :=
 if (l.room d).2.2=0 then ((l.room d).1,((l.room d).2.1.tell ⟨2,aN ((l.room d).1.segs.getLastD 0),ByteArray.empty,str n⟩).1,((l.room d).2.1.tell ⟨2,aN ((l.room d).1.segs.getLastD 0),ByteArray.empty,str n⟩).2)
 else l.room d
def kb(B lp p E G n:Nat)(X:List Nat)(r:au × ah × Nat)(w:World)(e:Ending)(w':World):Prop :=
 e=.returned (cf r.2.2)/\(∃I O J U Z,aA w' B lp p E G I O J r.1 r.2.1 n U Z)/\Rv X lp p w w'
theorem AW(h:l.filled<600->l.segs≠[])(r:(l.room d).2.2=0):(l.room d).1.segs≠[]:=by
 unfold au.room at *;split
 .rename_i hf;exact h hf
 .rename_i hf;rw[if_neg hf]at r;split at r
  .rename_i hs;rw[if_pos hs];simp
  .rename_i hs;exact absurd r hs
theorem GM{l:List Nat}(h:l≠[]):l[l.length-1]?=some (l.getLastD 0):=by
 rw[List.getLastD_eq_getLast?,<-List.getLast?_eq_getElem?];cases a:l.getLast? with
 |none=>exact absurd (List.getLast?_eq_none_iff.1 a) h
 |some x=>rfl
theorem Sk(B lp p E G n U Z x v g s base uS:Nat)(I O J:Value)(l:au)(d:ah)(j:List Nat)(w:World)(h:aA w B lp p E G I O J l d n U Z)(hn:n+1<67108864)(hB:2<=B)(W:l.filled<600->l.segs≠[])
  (r:w.heap[uS]?=some (.cells #[.func (.func 130) #[.pointer<|some ⟨lp,0,none⟩] #[],.func (.func 131) #[] #[.pointer<|some ⟨x,0,none⟩,.pointer<|some ⟨v,0,none⟩]] 123))
  (T:w.heap[x]?=some (.cells #[.pointer<|some ⟨lp,0,none⟩] 74)) (X:w.heap[v]?=some (.cells #[.slice (some ⟨g,0,none⟩) j.length s] 88))
  (V:w.ownsRow base 5 1 (.slice (some ⟨g,0,none⟩) j.length s) j.length<|bs j) (wE:j.length<=4096) (aH:bI w) :
  Calls prog 120 #[.slice (some ⟨uS,0,none⟩) 2 2] w (kb B lp p E G (n+2) [g] (l.put d j) w):=by
 have z0:=ae r 0;have z1:=ae r 1;simp at z0 z1;have o:=af h;go_enter func120,ntmps120;go_wp2;apply wp_loop_rounds 3;rw[rounds_succ];go_wp2_with fail;apply(Oa B lp p E G n U Z I O J l d w o.out bL).mono;rintro e f ⟨rfl,⟨j9,qc,m_,lC,lu,dY⟩,eE⟩;have C:∀{q:Nat} {c:Array Value} {t:TypeId},w.heap[q]?=some (.cells c t (0,0))->t≠96->t≠182->t≠222->t≠43->t≠110->f.heap[q]?=some (.cells c t (0,0)):=λ{q c t} K F b h3 h4 h5=>
  (eE.block q (zza.1 K).1<|o.out.free K F b h3 h4 h5).trans K
 have Y:=C r bM bM bM bM bM;have xR:=C T bM bM bM bM bM;have M:=C X bM bM bM bM bM;have tE:f.ownsRow base 5 1 (.slice (some (gz g)) j.length s) j.length (bs j):=by
  have⟨F,b⟩:=V;refine⟨F,?_⟩;obtain b|⟨z,R,N,e,b1,b2,b3⟩:=b
  .exact .inl b
  .exact .inr ⟨z,R,N,e,b1,C b2 bM bM bM bM bM,b3⟩
 have xO:1<w.heap.size:=by have:=o.out.bq.base.2.2.2;omega
 have pk:=aH.cI (eE.block 1 xO λho=>by have:=o.out.ge ho;omega);have z2:=ae Y 1;simp at z2;have i:=af dY;have L:=af eE;have Rw:=af xR;have a1:=af M;have Y_:=af tE;have a7:=af W;clear h dY eE Y xR M tE r T X V W C z0 z1;by_cases m:(l.room d).2.2=0
 .have Oe:=AW a7.out m;have⟨last,Q⟩:=gb <|(l.room d).1.segs.getLastD 0;have D:=GM Oe;rw[<-Q]at D;have e:l.put d j=((l.room d).1,((l.room d).2.1.tell ⟨2,aN last,yA,str j⟩).1,((l.room d).2.1.tell ⟨2,aN last,yA,str j⟩).2):=by unfold au.put;rw[if_pos m,<-Q]
  have u:=af e;have bU:=i.out.eB.2 last<|zzh D;have a6:=af D;clear e D Q
  have⟨A,y,GN⟩:∃A y,qc=.slice (some ⟨A,0,none⟩) (l.room d).1.segs.length y:=by
   rcases i.out.segs.2 with⟨_,b⟩|⟨z,R,N,e,_⟩
   .exact absurd (List.length_eq_zero_iff.1 b) Oe
   .exact⟨z,R,e⟩
  subst GN;clear Oe;rw[m,bK];go_wp2;rw[rounds_succ];go_wp2_with fail;apply(Oc B lp p E G (n+1) lC lu x v g j.length s base A y last j9 m_ (l.room d).1 (l.room d).2.1 j f i.out hn a6.out Rw.out a1.out rfl Y_.out wE pk bU).mono;rintro e w2 ⟨rfl,⟨zE,zZ,eh,xS⟩,aQ⟩;have S:Rv [g] lp p f w2:=i.out.Wn eh aQ (by intro k a _;rcases zzj.1 a with e|a;exact .inl (by simp[e]);right;obtain e|a:=zzj.1 a;simp[e];obtain e|a:=zzj.1 a;simp[e];obtain e|a:=zzj.1 a;simp[e];simp at a;simp[a]) xS (bS.refl _ _)<|bS.refl _ _
  have H:Hid (kb B lp p E G (n+2) [g] (l.put d j) w (.returned<|cf ((l.room d).2.1.tell ⟨2,aN last,yA,str j⟩).2) w2):=by
   show kb _ _ _ _ _ _ _ _ _ _ _;rw[u.out];exact⟨rfl,⟨zE,_,m_,lC,zZ,eh⟩,L.out.x.trans S⟩
  clear eh xS aQ S;by_cases P:((l.room d).2.1.tell ⟨2,aN last,yA,str j⟩).2=0
  .rw[P,bK]at H ⊢;go_wp2;rw[rounds_succ];go_wp2;go_ret;exact H.out
  .rw[aG P]at H ⊢;go_wp2;go_ret;exact H.out
 .have e:l.put d j=l.room d:=by unfold au.put;rw[if_neg m]
  have u:=af e;clear e;have H:Hid (kb B lp p E G (n+2) [g] (l.put d j) w (.returned<|cf (l.room d).2.2) f):=by
   show kb _ _ _ _ _ _ _ _ _ _ _;rw[u.out];exact⟨rfl,⟨j9,qc,m_,lC,lu,i.out.more hn⟩,L.out.x⟩
  rw[aG m]at H ⊢;go_wp2;go_ret;exact H.out
def au.wr(l:au)(d:ah)(r:au × ah × Nat):au × ah × Nat :=
 if l.failed=0 then ({ r.1 with failed:=r.2.2 },r.2.1,r.2.2) else (l,d,l.failed)
theorem JC(p:Nat)(w:World):(binOp .eql 167 (dX p) .nilIface).run prog w=.ok (.bool false) w:=by kernel_rfl
theorem aA.fail{e c:Nat}(a:aA w B h p D N v s r l d n b e)(f:w'=w.setCell ⟨h,6,none⟩ (cf c)):aA w' B h p D N v s r { l with failed:=c } d n b e/\Fr [h] w w':=by
 subst f;have hf:Fr [h] w (w.setCell ⟨h,6,none⟩ (cf c)):=Fr.cD (by simp) _ _;refine⟨a.N9 hf ?_ a.eB a.gJ a.km a.iC a.mZ rfl rfl,hf⟩;have:=ar a.blk 6 (cf c);simpa using this
theorem Wp(B b p D N n s t m i g q base S:Nat)(v x u:Value)(l:au)(d:ah)(j:List Nat)(w:World)(h:aA w B b p D N v x u l d n s t)(hn:n+1<67108864)(F:2<=B)(K:l.filled<600->l.segs≠[])
  (G:w.heap[S]?=some (.cells #[.func (.func 130) #[.pointer (some ⟨b,0,none⟩)] #[],.func (.func 131) #[] #[.pointer (some ⟨m,0,none⟩),.pointer (some ⟨i,0,none⟩)]] 123))
  (T:w.heap[m]?=some (.cells #[.pointer (some ⟨b,0,none⟩)] 74)) (A:w.heap[i]?=some (.cells #[.slice (some ⟨g,0,none⟩) j.length q] 88))
  (z:w.ownsRow base 5 1 (.slice (some ⟨g,0,none⟩) j.length q) j.length (bs j)) (L:j.length<=4096) (C:bI w) :
  Calls prog 129 #[.pointer (some ⟨b,0,none⟩),.slice (some ⟨S,0,none⟩) 2 2] w (kb B b p D N (n+2) [g] (l.wr d (l.put d j)) w):=by
 have E:=ae h.blk 0;have o:=ae h.blk 6;simp at E o;have I:=af h;have M:=JC p;by_cases hf:l.failed=0
 .rw[hf,bK] at o;have e:l.wr d (l.put d j)=({ (l.put d j).1 with failed:=(l.put d j).2.2 },(l.put d j).2.1,(l.put d j).2.2):=by unfold au.wr;rw[if_pos hf]
  rw[e];clear e
  go_enter func129,ntmps129
  go_wp2_with fail;refine(Sk B b p D N n s t m i g q base S v x u l d j w I.out hn F K G T A z L C).mono ?_;rintro e R ⟨rfl,⟨j9,qc,m_,lC,lu,dY⟩,eE⟩;have H:=af dY;have O:=af eE;have J:=ae dY.blk 6;have P:=aj dY.blk 6;simp at J;clear dY eE G T A z h;by_cases r:(l.put d j).2.2=0
  .rw[r,bK];go_wp2;go_ret;obtain⟨a,Q⟩:=H.out.fail (c:=0) rfl;unfold kb;simp only;rw[r];exact⟨rfl,⟨j9,qc,m_,lC,lu,a⟩,O.out.trans (H.out.Wn a Q (by intro k f _;simp at f;simp[f]) (bS.refl _ _) (bS.refl _ _) (bS.refl _ _))⟩
  .have he:=aG r;obtain⟨a,Q⟩:=H.out.fail (c:=(l.put d j).2.2) rfl;rw[he] at a Q ⊢;have y:=af a;clear a;go_wp2;go_ret;exact⟨by simp only;rw[he];rfl,⟨j9,qc,m_,lC,lu,y.out⟩,O.out.trans (H.out.Wn y.out Q (by intro k f _;simp at f;simp[f]) (bS.refl _ _) (bS.refl _ _) (bS.refl _ _))⟩
 .rw[aG hf] at o;have e:l.wr d (l.put d j)=(l,d,l.failed):=by unfold au.wr;rw[if_neg hf]
  rw[e]
  go_enter func129,ntmps129
  go_wp2;go_ret;exact⟨by simp only;rw[aG hf];rfl,⟨v,x,u,s,t,(I.out.more (by omega)).more (by omega)⟩,(ku.refl _ _ _).x⟩
def rA(p:Nat)(w:World)(k:Nat):Prop:=k=p\/k∈refs w.heap[p]?
structure uC(p:Nat)(w w':World):Prop where
 os:w'.os=w.os
 tape:w'.tape=w.tape
 output:w'.output=w.output
 size:w.heap.size<=w'.heap.size
 block:∀k,k<w.heap.size->¬rA p w k->w'.heap[k]?=w.heap[k]?
 stay:∀k,k<w.heap.size->rA p w' k->rA p w k
theorem uC.refl(p:Nat)(w:World):uC p w w:=⟨rfl,rfl,rfl,zzc _,λ_ _ _=>rfl,λ_ _ h=>h⟩
theorem uC.trans{b c:World}(h:uC p a b)(k:uC p b c):uC p a c:=
 ⟨k.os.trans h.os,k.tape.trans h.tape,k.output.trans h.output,zzk h.size k.size,
  λi d hn=>(k.block i (zzl d h.size) λo=>hn<|h.stay i d o).trans<|h.block i d hn,
  λi d o=>h.stay i d (k.stay i (zzl d h.size) o)⟩
section
variable{w w':World}{B p E G n J O n' f h:Nat}{I U:Value}{d Z:ah}
theorem ax.l8(h:ax w B p E G I d n J O)(k:Nat):rA p w k↔k∈dS p E G I:=by
 unfold rA;rw[h.blk,Jz<|ct h.pen];simp
theorem ax.Su{S:List Nat}(b:ax w B p E G I d n J O)(c:ax w' B p E G U Z n' f h)(hf:Fr S w w')(g:∀k∈S,k<w.heap.size->k∈dS p E G I)(i:bS w.heap.size I U):uC p w w':=by
 refine⟨hf.os,hf.tape,hf.output,hf.size,λk a hn=>hf.block k a λm=>hn<|(b.l8 k).2<|g k m a,λk a o=>?_⟩;rw[b.l8];have:=(c.l8 k).1 o;obtain e|this:=zzj.1 this
 .simp[e]
 obtain e|this:=zzj.1 this
 .simp[e]
 obtain e|this:=zzj.1 this
 .simp[e]
 .simp at this;obtain e|e:=i k this
  .simp[e]
  .omega
theorem ax.iF(h:ax w B p E G I d n J O){q:Nat}{c:Array Value}{t:TypeId}{fr:Nat×Nat}(a:w.heap[q]?=some (.cells c t fr))(b:t≠96)(f:t≠182):¬rA p w q:=by
 rw[h.l8];intro m;obtain e|m:=zzj.1 m
 .rw[e,h.blk]at a;cases a;exact b rfl
 obtain e|m:=zzj.1 m
 .exact h.rz.cH a e.symm
 obtain e|m:=zzj.1 m
 .exact h.now.cH a e.symm
 .simp at m;exact bj h.pen a (λe=>f e.symm) m
theorem uC.row{e:TypeId}{k m base:Nat}{v:Value}{xs:List Value}(hf:uC p w w')(h:ax w B p E G I d n J O)(r:w.ownsRow base e k v m xs)(a:e≠96)(b:e≠182):w'.ownsRow base e k v m xs:=by
 refine⟨r.1,?_⟩;obtain c|⟨g,cap,cur,rfl,b1,b2,b3⟩:=r.2
 .exact .inl c
 .exact .inr ⟨g,cap,cur,rfl,b1,(hf.block g (zza.1 b2).1<|h.iF b2 a b).trans b2,b3⟩
end
def jO(l:List ByteArray):List Value:=l.map Value.string
theorem G2{l:List ByteArray}(h:w.ownsRow B 9 1 (.slice (some ⟨g,0,none⟩) n p) n<|jO l)(k:Nat)(x:ByteArray)(b:l[k]?=some x):w.cell? ⟨g,k,none⟩=some (.string x):=by
 have a:(jO l)[k]?=some (.string x):=by simp[jO,b]
 have:=h.cells rfl k _ a;simpa [Addr.add_lit]using this
def ah.removeAll(d:ah):List ByteArray->ah × Nat
 |[]=>d.sync
 |nm :: r=>if (d.tell ⟨3,nm,ByteArray.empty,ByteArray.empty⟩).2=0 then (d.tell ⟨3,nm,ByteArray.empty,ByteArray.empty⟩).1.removeAll r else d.tell ⟨3,nm,ByteArray.empty,ByteArray.empty⟩
def mS(B p E G n:Nat)(r:ah × Nat)(w:World)(e:Ending)(w':World):Prop :=
 e=.returned (cf r.2)/\(∃I J O,ax w' B p E G I r.1 n J O)/\uC p w w'
theorem ax.lx{E G J O:Nat}{I:Value}(h:ax w B p E G I d n J O)(b:n<=m)(a:m<=67108864):ax w B p E G I d m J O:=
 {h with hD:=by have:=h.hD;omega,hN:=by have:=h.hN;omega,hn:=a}
theorem ye(B p E G n J O g m v base:Nat)(I:Value)(d:ah)(l:List ByteArray)(w:World)(h:ax w B p E G I d n J O)(z:l.length=m)(hn:n+m<=67108864)(A:w.ownsRow base 9 1 (.slice (some ⟨g,0,none⟩) m v) m<|jO l)(hs:∀x∈l,x.size<=maxLen):
  Calls prog 123 #[dX p,.slice (some ⟨g,0,none⟩) m v] w (mS B p E G (n+m) (d.removeAll l) w):=by
 have u:=af h;have M:=af z;have X:=Sh;have Y:=JB;have R:=af A;clear h z A;go_enter func123,ntmps123;go_wp2;go_loopw [10] (λi wr=>∃k:Nat,k<=m/\i=.int .i64 k/\(∃j r Z b,ax wr B p E G j r (n+k) Z b/\d.removeAll l=r.removeAll (l.drop k))/\uC p w wr) (λi _=>m-(intOf i).toNat);case atStart=>exact⟨0,zzs _,rfl,⟨I,d,J,O,u.out,bR⟩,uC.refl _ _⟩
 case round=>
  obtain⟨k,Q,rfl,⟨j,r,Z,b,y,a⟩,gF⟩:=hrel;have D:=af y;have F:=af gF;have o:=gF.row u.out R.out bM bM;clear y gF;by_cases U:k<m
  .obtain⟨x,hx⟩:∃x,l[k]?=some x:=⟨_,zzg<|by rw[M.out];exact U⟩;have L:=G2 o k x hx;have S:=hs x<|zzh hx
   have t:l.drop k=x::l.drop (k+1):=by
    rw[List.drop_eq_getElem_cons<|by rw[M.out];exact U];have:=zzd.1 hx;have⟨P,K⟩:=this;rw[K]
   rw[t]at a;have N:=af a;have T:(0:Int)<=k:=bL;have W:(k:Int)<m:=bL;clear a t hx o;go_wp2_with fail;apply(GG B p E G (n+k) Z b j r x wr D.out bL S).mono;rintro e s ⟨rfl,⟨j9,lu,j_,lZ⟩,bh⟩;have H:=af j_;have V:Hid (uC p w s):=F.out.trans<|D.out.Su j_ bh (λq f _=>f) lZ;clear j_ lZ bh;by_cases c:(r.tell ⟨3,x,yA,yA⟩).2=0
   .rw[c,bK];go_wp2;go_roundw;case rel=>
     refine⟨k+1,bL,eR,⟨j9,_,Z,lu,H.out,?_⟩,V.out⟩;rw[N.out];show(if _ then _ else _)=_;rw[if_pos c]
    case measure=>simp[intOf];omega
   .rw[aG c];go_wp2;go_ret;have e:d.removeAll l=r.tell ⟨3,x,yA,yA⟩:=by
     rw[N.out];show(if _ then _ else _)=_;rw[if_neg c]
    rw[e];exact⟨by rw[aG c];rfl,⟨j9,Z,lu,H.out.lx bL hn⟩,V.out⟩
  .obtain rfl:k=m:=bL;have e:d.removeAll l=r.sync:=by
    rw[a,List.drop_of_length_le<|by rw[M.out];exact zzc _];rfl
   have N:=af e;clear a e o;go_wp2_with fail;apply(qa B p E G (n+k) Z b j r wr D.out).mono;rintro e s ⟨rfl,⟨j9,lC,j_,lZ⟩,bh⟩;have C:Hid (mS B p E G (n+k) (d.removeAll l) w (.returned<|cf r.sync.2) s):=by
    show mS _ _ _ _ _ _ _ _ _;rw[N.out];exact⟨rfl,⟨j9,lC,b,j_⟩,F.out.trans<|D.out.Su j_ bh (λq f _=>by simp at f;obtain e|e:=f<;>simp[e]) lZ⟩
   clear j_ lZ bh;go_wp2;go_ret;exact C.out
theorem foldl_push(l:List UInt8)(a:ByteArray):(l.foldl (λr n=>r.push n) a).data.toList=a.data.toList++l:=by
 induction l generalizing a with
 |nil=>simp
 |cons x l ih=>rw[List.foldl_cons,ih];simp[ByteArray.push]
theorem kI(s:ByteArray):str (bytesOf s)=s:=by
 have h:str (bytesOf s)=s.data.toList.foldl (λr n=>r.push n) yA:=by
  unfold str bytesOf;rw[List.map_map,List.foldl_map];congr 1;funext r n;simp
 have b:=foldl_push s.data.toList yA;rw[<-h]at b;have a:(str<|bytesOf s).data=s.data:=by
  apply Array.toList_inj.1;rw[b];simp
 cases hs:str<|bytesOf s
 cases s;rw[hs]at a;simp at a;rw[a]
def au.append(l:au)(d:ah)(kind:Nat)(s:ByteArray):au × ah × Nat × Nat :=
 if 255<s.size then (l,d,0,1)
 else if (l.wr d (l.put d (bF l.next kind (bytesOf s)))).2.2=0 then
  ({ (l.wr d (l.put d (bF l.next kind (bytesOf s)))).1 with filled:=(l.wr d (l.put d (bF l.next kind (bytesOf s)))).1.filled+(15+s.size),recs:=(l.wr d (l.put d (bF l.next kind (bytesOf s)))).1.recs++[⟨(l.wr d (l.put d (bF l.next kind (bytesOf s)))).1.next,kind,bytesOf s⟩],next:=(l.wr d (l.put d (bF l.next kind (bytesOf s)))).1.next+1 },
   (l.wr d (l.put d (bF l.next kind (bytesOf s)))).2.1,(l.wr d (l.put d (bF l.next kind (bytesOf s)))).1.next,0)
 else ((l.wr d (l.put d (bF l.next kind (bytesOf s)))).1,(l.wr d (l.put d (bF l.next kind (bytesOf s)))).2.1,0,(l.wr d (l.put d (bF l.next kind (bytesOf s)))).2.2)
theorem GQ{n:List Nat}(h:(l.put d n).2.2=0):(l.put d n).1.filled<600:=by
 unfold au.put at *;by_cases r:(l.room d).2.2=0
 .rw[if_pos r];show(l.room d).1.filled<600;unfold au.room at *;by_cases hf:l.filled<600
  .rw[if_pos hf];exact hf
  .rw[if_neg hf]at r ⊢;by_cases hs:(l.sync d).2.2=0
   .rw[if_pos hs];show 0<600;omega
   .rw[if_neg hs]at r;exact absurd r hs
 .rw[if_neg r]at h;exact absurd h r
theorem K1{n:List Nat}(h:(l.wr d<|l.put d n).2.2=0):(l.wr d<|l.put d n).1.filled<600:=by
 unfold au.wr at *;by_cases hf:l.failed=0
 .rw[if_pos hf]at h ⊢;exact GQ h
 .rw[if_neg hf]at h;exact absurd h hf
def Cb(B l p D N n:Nat)(r:au × ah × Nat × Nat)(w:World)(e:Ending)(w':World):Prop :=
 e=.returned (.tuple #[.int .u64 (r.2.2.1:Int),cf r.2.2.2])/\(∃v s c a b,aA w' B l p D N v s c r.1 r.2.1 n a b)/\ku l p w w'
theorem aA.new{c:Nat}(a:aA w B h p D N v s r l d n b c)(hf:Fr [] w w'):aA w' B h p D N v s r l d n b c:=
 a.turned (a.bq.new hf) hf bR (zzc _)
theorem aA.uT{c:Nat}(a:aA w B h p D N v s r l d n b c)(hf:Fr [] w w'):ku h p w w':=
 a.zY (a.new hf) hf bR (.inl rfl) (bS.refl _ _) (bS.refl _ _) (bS.refl _ _)
theorem GR(B b p D N n c f kind:Nat)(v g r:Value)(l:au)(d:ah)(s:ByteArray)(w:World)(h:aA w B b p D N v g r l d n c f)(hs:255<s.size)(hn:n+1<67108864):
  Calls prog 88 #[.pointer<|some ⟨b,0,none⟩,.int .u8 (kind:Int),.string s] w (Cb B b p D N (n+2) (l.append d kind s) w):=by
 have e:l.append d kind s=(l,d,0,1):=by unfold au.append;rw[if_pos hs]
 rw[e];have z:=(zza.1 h.blk).1;have c4:=ae h.blk 4;simp at c4;have k:∀o,(w.alloc o).cell? ⟨b,4,none⟩=some (.int .u64 (l.next:Int)):=λo=>(zze<|zzf w o b z).trans c4
 have I:=af h;clear h e;go_enter func88,ntmps88;go_wp2_with fail;apply(GJ (l.next:Int) (kind:Int) s _ hs).mono;rintro e i ⟨rfl,cG⟩;have j:Fr [] w i:=((lT w).alloc _).trans<|Fr.aX cG [];clear cG;go_wp2;go_ret2;have Q:Fr [] w (i.alloc<|.cells #[.slice none 0 0] 88):=j.alloc _;exact⟨rfl,⟨v,g,r,c,f,((I.out.new Q).more bL).more bL⟩,I.out.uT Q⟩
end Go.Proofs.YtcalalndmcemiaaGreatDoor
