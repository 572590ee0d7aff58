import Derived.Test.YtcalalndmcemiaaGreatDoorC18
import Derived.Test.YtcalalndmcemiaaGreatDoorC20
set_option maxHeartbeats 4000000
set_option maxRecDepth 100000
namespace Go.Proofs.YtcalalndmcemiaaGreatDoor
open Go.RowKit Go.Maps Tryz Sc
section
open Go.Shelf
variable{rs:List Rec}{h:Nat}{v:Value}{w:World}
def oI(rs:List Rec):Prop:=∀r∈rs,r.kind<128/\1<=r.oq
structure ji(w:World)(lp:Nat)(rv:Value)(rs:List Rec):Prop where
 lt:lp<w.heap.size
 cell:w.cell? ⟨lp,3,none⟩=some rv
 recs:ve w.heap.size w rv rs
theorem ji.below{w':World}(a:ji w h v rs)(hb:Below w.heap.size w w'):ji w' h v rs:=
 ⟨zzl a.lt hb.size,(hb.cell a.lt).trans a.cell,by
  obtain e|⟨g,cap,e,hg,hr⟩:=a.recs.below hb
  .exact .inl e
  .exact .inr ⟨g,cap,e,zzl hg hb.size,hr⟩⟩
theorem ji.rows(b:ji w h v rs):∀k∈rowsOf v,k<w.heap.size:=by
 intro k a;rcases b.recs with⟨rfl,_⟩|⟨g,p,rfl,c,_⟩
 .simp[rowsOf,Value.ownBlock]at a
 .simp[rowsOf,Value.ownBlock]at a;omega
theorem vg(n:Nat)(hn:4<=n)(g b:Nat)(J:Value)(rs:List Rec)(hlen:rs.length<=67108864)(V:oI rs)(w:World)(f:w.cell? ⟨g,0,none⟩=some (.pointer (some ⟨b,0,none⟩)))(P:ji w b J rs):
  CallsIn Fence.wide n prog 165 #[.pointer (some ⟨g,0,none⟩)] w λe w'=>e=.returned (.tuple #[.int .u64 0,.int .u64 0])/\Below w.heap.size w w':=by
 have r:Fence.wide.round=none:=rfl;have m:1<=n:=bL;have Q:Fence.wide.fn 85:=trivial;have K:Fence.wide.fn 127:=trivial;have nG:g<w.heap.size:=zzF w ⟨g,0,none⟩ f;obtain⟨a,I⟩:∃a,a=((w.alloc (.cells #[.int .u64 0] 43)).alloc (.cells #[.int .u64 0] 43)).alloc (.cells #[.int .u64 0] 43):=⟨_,rfl⟩;have G:Below w.heap.size w a:=by rw[I];exact(((zzD _ w).alloc (zzc _) _).alloc bR _).alloc cE _
 have E:a.cell? ⟨g,0,none⟩=some (.pointer (some ⟨b,0,none⟩)):=(G.cell (p:=⟨g,0,none⟩) nG).trans f;rw[I] at E;refine callsIn_of_wp_marks func165 rfl trivial ?_ r;simp only[ntmps165,mB,zzr,mH,Nat.reduceAdd,Nat.reduceSub,mK,mL,nb,nU,n5,qC]
 gi_wp2_with (gi_at_call 85;refine(Hg Fence.wide (n-1) Q r _ _).mono ?_;rintro e w' ⟨rfl,rfl⟩)
 have A:=Boxed.new a 74 (.pointer (some ⟨b,0,none⟩));have s:a.heap.size=w.heap.size+3:=by rw[I];simp
 have z:Boxed a (w.heap.size+1+1) 43 (.int .u64 0):=by
  have:=Boxed.new ((w.alloc (.cells #[.int .u64 0] 43)).alloc (.cells #[.int .u64 0] 43)) 43 (.int .u64 0);rw[zzv,zzv,<-I] at this;exact this
 have y:Boxed a (w.heap.size+1) 43 (.int .u64 0):=by
  have:=(Boxed.new (w.alloc (.cells #[.int .u64 0] 43)) 43 (.int .u64 0)).alloc (.cells #[.int .u64 0] 43);rw[zzv,<-I] at this;exact this
 have v:Boxed a w.heap.size 43 (.int .u64 0):=by
  have:=((Boxed.new w 43 (.int .u64 0)).alloc (.cells #[.int .u64 0] 43)).alloc (.cells #[.int .u64 0] 43);rw[<-I] at this;exact this
 rw[<-I];clear I E;have T:=v.alloc (.cells #[.pointer (some ⟨b,0,none⟩)] 74);have u:=y.alloc (.cells #[.pointer (some ⟨b,0,none⟩)] 74);have C:=z.alloc (.cells #[.pointer (some ⟨b,0,none⟩)] 74);have O:Below w.heap.size w (a.alloc (.cells #[.pointer (some ⟨b,0,none⟩)] 74)):=G.alloc G.size _;have zF:(a.alloc (.cells #[.pointer (some ⟨b,0,none⟩)] 74)).heap.size=w.heap.size+4:=by rw[zzv,s]
 have U:=P.below O;rw[s] at A;obtain⟨i,F⟩:∃i,i=a.alloc (.cells #[.pointer (some ⟨b,0,none⟩)] 74):=⟨_,rfl⟩;rw[<-F] at A T u C O zF U ⊢;clear F v y z G s
 refine wpIn_rangeFunc_ownH r m (gf:=127) (lb:=#[.pointer (some ⟨w.heap.size+1+1+1,0,none⟩)]) rfl K (enters_of func127 dJ rfl)
  (yo (n-1) bL (w.heap.size+1+1+1) b J rs i hlen bL U.lt A.cell U.cell U.recs) (λh k=>h.trans k) (oH.book U.rows) (zzD _ _) (λ_=>rfl)
  (λt W=>((Boxed W w.heap.size 43 (.int .u64 0)/\Boxed W (w.heap.size+1) 43 (.int .u64 0))/\Boxed W (w.heap.size+1+1) 43 (.int .u64 0))/\Below w.heap.size w W)
  (λ_ _ _=>False)
  (OwnFrom.and (OwnFrom.and (OwnFrom.and (Own.from (boxed_own _ _ _) _) (Own.from (boxed_own _ _ _) _)) (Own.from (boxed_own _ _ _) _)) (ownFrom_below (zzc _) bL))
  (λ_ _ _ _ _ hs _ _=>hs)
  ⟨⟨⟨T,u⟩,C⟩,O⟩
  (λx j W=>∃B,w.heap.size+1+1<B/\W.heap[B]?=some (.cells #[.int .u64 (x.1.oq:Int),.int .u8 (x.1.kind:Int),.string (str x.1.nH)] 110 (0,0))/\j={ tmps:=#[.pointer (some ⟨g,0,none⟩),undef,.pointer (some ⟨w.heap.size,0,none⟩),.pointer (some ⟨w.heap.size+1,0,none⟩),.pointer (some ⟨w.heap.size+1+1,0,none⟩),.pointer (some ⟨B,0,none⟩),.pointer (some ⟨g,0,none⟩),.pointer (some ⟨g,0,none⟩),.pointer (some ⟨g,0,none⟩),.pointer (some ⟨b,0,none⟩),.func (.func 127) #[] #[.pointer (some ⟨w.heap.size+1+1+1,0,none⟩)],Es x.1,undef,undef,undef,undef,undef,undef,undef,undef,undef,undef,undef,undef,undef,undef,undef,undef,undef,undef,undef],defers:=[] })
  (λx j _ X a6 row hs f S=>by
   obtain⟨B,m,q,L⟩:=hs
   exact⟨B,m,(f.block B (zza.1 q).1 (λe=>by obtain⟨_,o,H,R⟩:=S B e.symm;rw[q] at H;cases H;cases R)).trans q,L⟩)
  ?assign ?body ?done ?stop
 case assign =>
  have Y:=@Oper.semAt_some;rintro l t x W a1 ⟨⟨⟨ot,Ln⟩,hv4⟩,nE⟩ hK
  gi_wp2
  exact hK _ _ ((KeepsOthers.alloc _ _).from _) (oH.alloc _ _) ⟨⟨⟨ot.alloc _,Ln.alloc _⟩,hv4.alloc _⟩,nE.alloc nE.size _⟩ ⟨W.heap.size,hv4.lt,World.alloc_heap_new W _,rfl⟩
 case body =>
  have Y:=@Oper.semAt_some;rintro l t x j W eh _ ⟨⟨⟨ot,Ln⟩,hv4⟩,hB⟩ ⟨B,hBx,bX,rfl⟩ bU;have x1:=ay bX 1;simp at x1;have hk:=(V x.1 x.2).1;have k1:¬(x.1.kind:Int)=254:=bL;have k2:¬(x.1.kind:Int)=255:=bL;gi_wp2
  exact⟨KeepsFrom.refl _ _,oH.refl _,⟨⟨ot,Ln⟩,hv4⟩,hB⟩
 case done =>
  rintro D ys W hD G5 ⟨⟨⟨ot,Ln⟩,hv4⟩,hB⟩ hK;have c2:=ot.cell;have c3:=Ln.cell;have f2:=ot.frozen;have f3:=Ln.frozen
  gi_wp2
  gi_region
  gi_wp2
  obtain⟨d,Z⟩:∃d,d=((W.setCell ⟨w.heap.size,0,none⟩ (.int .u64 0)).setCell ⟨w.heap.size+1,0,none⟩ (.int .u64 0)).drew:=⟨_,rfl⟩;rw[<-Z];have v2:Boxed d w.heap.size 43 (.int .u64 0):=by rw[Z];exact(ot.set _).other bL _
  have v3:Boxed d (w.heap.size+1) 43 (.int .u64 0):=by rw[Z];exact(Ln.other bL _).set _
  have N:Below w.heap.size w d:=by rw[Z];exact((hB.setCell (p:=⟨w.heap.size,0,none⟩) (zzc _) _).setCell (p:=⟨w.heap.size+1,0,none⟩) (by show w.heap.size<=w.heap.size+1;omega) _).drew
  have M:d.heap[D]?=some (.deferred (some [])):=by
   rw[Z];exact(Below.heap_setCell _ _ _ D (by show D≠w.heap.size+1;omega)).trans ((Below.heap_setCell _ _ _ D (by show D≠w.heap.size;omega)).trans hK)
  clear Z;refine⟨bR,.inl ⟨_,_,rfl,run_takeDeferred M,?_⟩⟩;have q2:=(v2.kept (grownBy_putObj' d D (.deferred none)) cE).cell;have q3:=(v3.kept (grownBy_putObj' d D (.deferred none)) cE).cell;refine⟨.tuple #[.int .u64 0,.int .u64 0],?_,rfl,N.trans (belowK_b (w:=w) (zzc _) d D _ _ bL M rfl rfl)⟩;simp only[results,f165];simp[go_sem,q2,q3]
 case stop =>
  rintro D c t W _ _ h _;exact h.elim
end
variable{a b c:Nat}{d:ah}
theorem uC.ofO{w W w':World}{B h p D N n s t n' u z r X Z:Nat}{v m b c:Value}{l q:au}{f g:ah}(i:ax w B p D N v g r X Z)(j:aA W B h p D N v (.slice none 0 0) (.slice none 0 0) l d n s t)(hf:Fr [] w W)(x:w.heap.size<=h)(o:ku h p W w')(G:aA w' B h p D N m b c q f n' u z):uC p w w':=by
 have y:∀k,k<w.heap.size->Own h p W k->rA p w k:=λk a O=>by
  rw[i.l8];obtain e|e|e|e|e|e|e:=(j.own k).1 O
  .omega
  .simp[e]
  .simp[e]
  .simp[e]
  .simp[e]
  .cases e
  .cases e
 refine⟨o.os.trans hf.os,o.tape.trans hf.tape,o.output.trans hf.output,zzk hf.size o.size,λk a hn=>?_,λk a hD=>?_⟩
 .exact(o.block k (zzl a hf.size) λO=>hn<|y k a O).trans<|hf.block k a bR
 .refine y k a<|o.stay k (zzl a hf.size) ?_;have:=(G.bq.l8 k).1 hD;rw[G.own];simp at this;obtain e|e|e|e:=this<;>simp[e]
def mg(B p D N n:Nat)(r:au × ah × Nat)(w:World)(e:Ending)(w':World):Prop :=
 ∃l,e=.returned (.tuple #[.pointer (some ⟨l,0,none⟩),.nilIface])/\w.heap.size<=l/\(∃v s c a b,aA w' B l p D N v s c r.1 r.2.1 n a b)/\uC p w w'
theorem vV(B p D N n c:Nat)(v:Value)(d:ah)(w:World)(h:ax w B p D N v d n c 0)(y:d.down=false)(x:d.now ie=none)(t:((fI 1).opens d).2.2=0):
  Calls prog 78 #[dX p] w (mg B p D N n ((fI 1).opens d) w):=by
 have hn:=h.hn;have z:=h.base;obtain⟨W,f⟩:∃W,W=(w.alloc<|.cells #[dX p] 167).alloc (pC p (.slice none 0 0) (.slice none 0 0)<|fI 0):=⟨_,rfl⟩;have u:Fr [] w W:=by rw[f];exact((lT w).alloc _).alloc _
 have i:W.heap[w.heap.size]?=some (.cells #[dX p] 167):=by rw[f,zzf _ _ w.heap.size bR];exact heap_alloc_new w _
 have E:W.heap[w.heap.size+1]?=some (pC p (.slice none 0 0) (.slice none 0 0)<|fI 0):=by rw[f];have:=heap_alloc_new (w.alloc<|.cells #[dX p] 167)<|pC p (.slice none 0 0) (.slice none 0 0)<|fI 0;rw[zzv]at this;exact this
 have C:aA W B (w.heap.size+1) p D N v (.slice none 0 0) (.slice none 0 0) (fI 0) d n c 0:={bq:=h.new u,blk:=E,base:=bL,segs:=zzu _ _ _ _,recs:=zzu _ _ _ _,eB:=⟨by simp[fI],by simp[fI]⟩,gJ:=by simp[fI],km:=by simp[fI],iC:=by simp[fI],mZ:=by simp[fI]};have j:Hid (ax w B p D N v d n c 0/\Fr [] w W):=⟨h,u⟩;have H:Hid (aA W B (w.heap.size+1) p D N v (.slice none 0 0) (.slice none 0 0) (fI 0) d n c 0):=C;have g:Hid (W.heap[w.heap.size]?=some (.cells #[dX p] 167)):=i;have M:=JC p;clear h u i E C
 go_enter func78,ntmps78;go_wp2_with fail;have O:W=(w.alloc<|.cells #[dX p] 167).alloc (.cells #[dX p,.slice none 0 0,.int .i64 600,.slice none 0 0,.int .u64 0,.int .u64 0,.nilIface] 222):=f;rw[<-O];clear f O;apply(Hl B (w.heap.size+1) p D N n c v d W H.out y x).mono;rintro e a ⟨rfl,dY,eE⟩;have X:=(eE.block w.heap.size (zza.1 g.out).1<|H.out.free g.out bM bM bM bM bM).trans g.out;have⟨b,O⟩:∃b,b=(a.alloc<|.cells #[.slice none 0 0] 35).alloc (.cells #[.func (.func 121) #[.pointer<|some ⟨w.heap.size+1,0,none⟩] #[],.func (.func 122) #[] #[.pointer<|some ⟨w.heap.size,0,none⟩,.pointer<|some ⟨a.heap.size,0,none⟩]] 123):=⟨_,rfl⟩;have Q:Fr [] a b:=by rw[O];exact((lT a).alloc _).alloc _
 have l:b.heap[a.heap.size]?=some (.cells #[.slice none 0 0] 35):=by rw[O,zzf _ _ a.heap.size bR];exact heap_alloc_new a _
 have L:b.heap[a.heap.size+1]?=some (.cells #[.func (.func 121) #[.pointer<|some ⟨w.heap.size+1,0,none⟩] #[],.func (.func 122) #[] #[.pointer<|some ⟨w.heap.size,0,none⟩,.pointer<|some ⟨a.heap.size,0,none⟩]] 123):=by
  rw[O];have:=heap_alloc_new (a.alloc<|.cells #[.slice none 0 0] 35)<|.cells #[.func (.func 121) #[.pointer<|some ⟨w.heap.size+1,0,none⟩] #[],.func (.func 122) #[] #[.pointer<|some ⟨w.heap.size,0,none⟩,.pointer<|some ⟨a.heap.size,0,none⟩]] 123;rw[zzv]at this;exact this
 have k:=(Q.block w.heap.size (zza.1 X).1 bR).trans X;have q:Hid (Calls prog 120 #[.slice (some ⟨a.heap.size+1,0,none⟩) 2 2] b (kb B (w.heap.size+1) p D N n [] ((fI 1).opens d) b)):=SU B (w.heap.size+1) p D N n c 0 (a.heap.size+1) w.heap.size a.heap.size v (.slice none 0 0) (.slice none 0 0) (fI 1) d b (dY.new Q) hn L k l;have s:Hid (ku (w.heap.size+1) p W b):=eE.trans<|dY.uT Q;clear dY eE X Q l L k;go_wp2_with fail;rw[<-O];clear O;refine q.out.mono ?_;rintro e m ⟨rfl,⟨UR,sv3,rv3,US,Sx,qg⟩,pN⟩;have o:Hid (aA m B (w.heap.size+1) p D N UR sv3 rv3 ((fI 1).opens d).1 ((fI 1).opens d).2.1 n US Sx):=qg;have r:Hid (uC p w m):=uC.ofO j.1 H.out j.2 bL (s.out.trans pN.zY) qg;clear qg pN;rw[t,bK];go_wp2;go_ret2;exact⟨w.heap.size+1,rfl,bL,⟨UR,sv3,rv3,US,Sx,o.out⟩,r.out⟩
abbrev gi(a b c d:Int):Obj:=.cells #[.int .i64 a,.int .i64 b,.int .i64 c,.int .i64 d] 40
theorem Po(u:Nat):Lib.decDigits u≠[]:=by
 rw[Lib.decDigits];split<;>simp
theorem J2(d:a<10)(hb:b<10)(h:UInt8.ofNat (48+a)=UInt8.ofNat (48+b)):a=b:=by
 have c:=congrArg UInt8.toNat h;simp at c;omega
theorem S5:∀(n a b:Nat),a<n->Lib.decDigits a=Lib.decDigits b->a=b:=by
 intro n
 induction n with
 |zero=>intro a b h;omega
 |succ n ih=>
  intro a b hn h;rw[Lib.decDigits,Lib.decDigits.eq_def b]at h;split at h
  .split at h
   .rename_i ha hb;simp only[List.cons.injEq,and_true]at h;exact J2 ha hb h
   .have:=congrArg List.length h;have d:0<(Lib.decDigits<|b/10).length:=zzE.2<|Po _;rw[zzi]at this;simp only[zzr,List.length_nil]at this;omega
  .split at h
   .have:=congrArg List.length h;have d:0<(Lib.decDigits<|a/10).length:=zzE.2<|Po _;rw[zzi]at this;simp only[zzr,List.length_nil]at this;omega
   .rename_i ha hb;have⟨e,c⟩:=List.append_inj' h rfl;simp only[List.cons.injEq,and_true]at c;have d:=J2 bL bL c;have f:=ih (a/10) (b/10) bL e;omega
theorem oO(u:Nat):(aN u).data.toList=[115,101,103,109,101,110,116,45]++Lib.decDigits u:=by
 unfold aN;rw[ByteArray.data_append];simp
theorem EW(h:aN a=aN b):a=b:=by
 have c:=congrArg (λx:ByteArray=>x.data.toList) h;simp only[oO]at c;exact S5 (a+1) a b bL<|List.append_cancel_left c
theorem CE(u:Nat):aN u≠ie/\aN u≠dm:=by
 constructor
 .intro h;have a:=congrArg (λx:ByteArray=>x.data.toList) h;simp only[oO]at a;simp[ie]at a
 .intro h;have a:=congrArg (λx:ByteArray=>x.data.toList) h;simp only[oO]at a;simp[dm]at a
structure ah.ij(d:ah)(c:Nat):Prop where
 up:d.down=false
 left:-1-(c:Int)<=d.left/\d.left<0
 full:-1-(c:Int)<=d.full/\d.full<0
theorem ah.ij.mono{c':Nat}(h:d.ij c)(a:c<=c'):d.ij c':=
 ⟨h.up,⟨by have:=h.left.1;omega,h.left.2⟩,⟨by have:=h.full.1;omega,h.full.2⟩⟩
theorem J3(h:d.ij c)(i:c<1099511627776):d.writes.2=0/\d.writes.1.ij (c+1)/\d.writes.1.now=d.now/\d.writes.1.pending=d.pending:=by
 have f:=h.left;have g:=h.full;have e:=Nt (by rw[h.up];simp;omega) bL;have a:wrap64 (d.left-1)=d.left-1:=by unfold wrap64;omega
 have b:wrap64 (d.full-1)=d.full-1:=by unfold wrap64;omega
 rw[a,b]at e;rw[e];exact⟨rfl,⟨h.up,cE,cE⟩,rfl,rfl⟩
theorem vY(h:d.ij c)(f:c<1099511627776):d.sync.2=0/\d.sync.1.ij (c+1)/\d.sync.1.now=d.now:=by
 have⟨b,a,e,g⟩:=J3 h f;rw[B_ b];exact⟨rfl,⟨a.up,a.left,a.full⟩,e⟩
theorem EY{o:mG}(h:d.ij c)(j:c<1099511627776)(g:2<o.kind->d.now o.name≠none)(i:¬(o.kind=4/\o.name=o.to)):
  (d.tell o).2=0/\(d.tell o).1.ij (c+1)/\(d.tell o).1.now=fW d.now o:=by
 have⟨f,a,b,k⟩:=J3 h j;have e:d.tell o=({d.writes.1 with now:=fW d.writes.1.now o,pending:=d.writes.1.pending++[o]},0):=by
  unfold ah.tell;simp only;rw[f,if_neg bL,if_neg bL,if_neg<|by rw[b];rintro⟨x,y⟩;exact g y x,if_neg i]
 rw[e];refine⟨rfl,⟨a.up,a.left,a.full⟩,?_⟩;simp only;rw[b]
theorem Hv:∀(l:List Nat) {d:ah} {c:Nat},d.ij c->c+l.length<1099511627776->l.Nodup->(∀s∈l,d.now (aN s)≠none) ->
  (d.removeAll<|l.map aN).2=0/\(d.removeAll<|l.map aN).1.ij (c+l.length+1)/\∀s,s∉l->(d.removeAll<|l.map aN).1.now (aN s)=d.now (aN s):=by
 intro l;induction l with
 |nil=>
  intro d c h g _ _;have⟨a,b,f⟩:=vY h (by simpa using g);exact⟨a,b,λs _=>by show d.sync.1.now _=_;rw[f]⟩
 |cons x l ih=>
  intro d c h g G hf;simp only[zzr]at g;obtain⟨a,b,f⟩:=EY (o:=⟨3,aN x,ByteArray.empty,ByteArray.empty⟩) h bL (λ_=>hf x bR) (by simp);have e:d.removeAll ((x::l).map aN)=(d.tell ⟨3,aN x,yA,yA⟩).1.removeAll (l.map aN):=by
   rw[List.map_cons,ah.removeAll,if_pos a]
  have hn:=List.nodup_cons.1 G;have Z:∀s,s≠x->(d.tell ⟨3,aN x,yA,yA⟩).1.now (aN s)=d.now (aN s):=λs hs=>by
   rw[f];show(d.now.set (aN x) none) (aN s)=_;exact cC.lL _ _ λe=>hs<|EW e
  have⟨j,i,k⟩:=ih b bL hn.2 (λs hs=>by rw[Z s λe=>hn.1<|e▸hs];exact hf s<|by simp[hs]);rw[e];refine⟨j,?_,λs hs=>?_⟩
  .have:c+1+l.length+1=c+(x::l).length+1:=cE;rw[this]at i;exact i
  .simp at hs;rw[k s hs.2,Z s hs.1]
theorem Pp(first:Nat)(h:d.ij c)(r:c+4<1099511627776):
  (d.cL first).2=0/\(d.cL first).1.ij (c+4)/\∀s,(d.cL first).1.now (aN s)=d.now (aN s):=by
 obtain⟨g,i,b⟩:=EY (o:=⟨1,dm,ByteArray.empty,str<|bF first 0 []⟩) h bL (by simp) (by simp);have⟨j,k,f⟩:=vY i bL;have m:(d.tell ⟨1,dm,yA,str<|bF first 0 []⟩).1.sync.1.now dm≠none:=by
  rw[f,b];show(d.now.set dm<|some _) dm≠none;rw[cC.tu];exact Option.some_ne_none _
 obtain⟨c1,c2,c3⟩:=EY (o:=⟨4,dm,ie,ByteArray.empty⟩) k bL (λ_=>m) λh=>JM.2 h.2;have⟨l,n,p⟩:=vY c2 bL
 have e:d.cL first=((d.tell ⟨1,dm,yA,str<|bF first 0 []⟩).1.sync.1.tell ⟨4,dm,ie,yA⟩).1.sync:=by
  unfold ah.cL;simp only;rw[if_pos g,if_pos j,if_pos c1]
 rw[e];refine⟨l,n,λs=>?_⟩;have a:=CE s;rw[p,c3];show fW _ ⟨4,dm,ie,yA⟩ (aN s)=_;have⟨t,q⟩:∃t,(d.tell ⟨1,dm,yA,str<|bF first 0 []⟩).1.sync.1.now dm=some t:=Option.ne_none_iff_exists'.1 m;unfold fW;simp only[show ¬(4=1) by omega,show ¬(4=2) by omega,show ¬(4=3) by omega,if_false,if_true,q];rw[cC.lL _ _ a.2,cC.lL _ _ a.1,f,b];show(d.now.set dm _) (aN s)=_;exact cC.lL _ _ a.2
/-! ### the segments -/
def starts:Nat->List (List Rec)->List Nat
 |_,[]=>[]
 |n,c :: cs=>n :: starts (n+c.length) cs
theorem sK:∀(s:List<|List Rec) (n:Nat),(starts n s).length=s.length
 |[],_=>rfl
 |c::s,n=>by simp[starts,sK s]
theorem vv:∀(s:List<|List Rec) (n k:Nat),k<s.length->(starts n s)[k]?=some (n+(s.take k).flatten.length)
 |[],_,_,h=>absurd h bR
 |c::s,n,0,_=>by simp[starts]
 |c::s,n,k+1,h=>by
  have:=vv s (n+c.length) k (by simpa using h);simp only[starts,List.getElem?_cons_succ,this];simp;omega
theorem jy:∀(s:List<|List Rec) (n:Nat) (c:List Rec),starts n (s++[c])=starts n s++[n+s.flatten.length]
 |[],_,_=>by simp[starts]
 |b::s,n,c=>by
  simp only[List.cons_append,starts,jy s];simp;omega
theorem vZ:∀(s:List<|List Rec) (n k:Nat),(starts n s).drop k=starts (n+(s.take k).flatten.length) (s.drop k)
 |[],_,k=>by simp[starts]
 |c::s,n,0=>bR
 |c::s,n,k+1=>by
  simp only[starts,List.drop_succ_cons,vZ s];simp[Nat.add_assoc]
theorem Hw:∀(s:List<|List Rec) (n:Nat) (a b:List Rec),starts n (s++[a])=starts n (s++[b]):=by
 intro s n a b;rw[jy,jy]
theorem yB:∀(a:List<|List Rec) (n:Nat),(∀c∈a,c≠[])->(starts n a).Pairwise (· < ·)/\∀s∈starts n a,n<=s
 |[],_,_=>by simp[starts]
 |c::a,n,h=>by
  have⟨f,b⟩:=yB a (n+c.length) (λd g=>h d<|by simp[g]);have i:=zzE.2 (h c bR);refine⟨?_,?_⟩
  .simp only[starts,zzA];exact⟨λs hs=>by have:=b s hs;omega,f⟩
  .intro s hs;simp only[starts,zzj]at hs;obtain e|hs:=hs
   .omega
   .have:=b s hs;omega
theorem yC{segs:List Nat}{low:Nat}:∀(f k:Nat),(ez segs low f k=k\/∃x,segs[ez segs low f k]?=some x/\x<=low)/\(segs.length<=k+f->∀x,segs[ez segs low f k+1]?=some x->low<x):=by
 intro f;induction f with
 |zero=>
  intro k;refine⟨.inl rfl,λh x a=>?_⟩;rw[List.getElem?_eq_none<|by simpa [ez]using by omega]at a
  cases a
 |succ f ih=>
  intro k;by_cases d:k+1<segs.length
  .obtain⟨s,hs⟩:∃s,segs[k+1]?=some s:=⟨_,zzg d⟩;by_cases l:s<=low
   .rw[sD hs l];have⟨b,c⟩:=ih<|k+1;refine⟨.inr ?_,λh=>c bL⟩;obtain e|b:=b
    .rw[e];exact⟨s,hs,l⟩
    .exact b
   .rw[sF hs l];refine⟨.inl rfl,λ_ x a=>?_⟩;rw[hs]at a;cases a;omega
  .rw[sB bL];refine⟨.inl rfl,λ_ x a=>?_⟩;rw[List.getElem?_eq_none bL]at a;cases a
theorem yD(segs:List Nat)(low:Nat):(cb segs low=0\/∃x,segs[cb segs low]?=some x/\x<=low)/\∀x,segs[cb segs low+1]?=some x->low<x:=by
 obtain⟨h,a⟩:=yC (low:=low) segs.length 0;exact⟨h,a bL⟩
def lj:List Rec->Nat
 |[]=>0
 |r :: l=>15+r.nH.length+lj l
theorem yE(a b:List Rec):lj (a++b)=lj a+lj b:=by
 induction a with
 |nil=>simp[lj]
 |cons r a ih=>simp[lj,ih];omega
section
open Go.Shelf
theorem O3(p x:Nat)(w:World)(h:w.cell? ⟨p,4,none⟩=some (.int .u64 (x:Int))):Calls prog 84 #[.pointer<|some ⟨p,0,none⟩] w λe w'=>e=.returned (.int .u64 (x:Int))/\w'=w:=by
 go_enter func84,ntmps84;go_wp2;go_ret;exact⟨rfl,rfl⟩
def jS(rs:List Rec)(x:Nat):Nat:=match rs with|[]=>x|r :: _=>r.oq
theorem Hj{a b:List Rec}{n:Nat}(e:a≠[])(h:a<+:b):jS b n=jS a 0:=by
 obtain⟨t,rfl⟩:=h;cases a with
 |nil=>exact absurd rfl e
 |cons x r=>rfl
theorem yu(n:Nat)(hn:4<=n)(b f:Nat)(C:Value)(rs:List Rec)(hlen:rs.length<=67108864)(w:World)(L:ji w b C rs)(zC:w.cell? ⟨b,4,none⟩=some (.int .u64 (f:Int))):
  CallsIn Fence.wide n prog 166 #[.pointer (some ⟨b,0,none⟩)] w λe w'=>e=.returned (.int .u64 (jS rs f:Int))/\Below w.heap.size w w':=by
 have s:Fence.wide.round=none:=rfl;have j:1<=n:=bL;have Q:Fence.wide.fn 85:=trivial;have E:Fence.wide.fn 127:=trivial;have fo:Fence.wide.fn 84:=trivial;refine callsIn_of_wp_marks func166 rfl trivial ?_ s;simp only[ntmps166,mB,zzr,mH,Nat.reduceAdd,Nat.reduceSub,mK,mL,nb,nU,n5,qC]
 gi_wp2_with (gi_at_call 85;refine(Hg Fence.wide (n-1) Q s _ _).mono ?_;rintro e w' ⟨rfl,rfl⟩)
 have R:=Boxed.new w 43 (.int .u64 0);have A:=Boxed.new (w.alloc (.cells #[.int .u64 0] 43)) 74 (.pointer (some ⟨b,0,none⟩));rw[zzv] at A;have y:=R.alloc (.cells #[.pointer (some ⟨b,0,none⟩)] 74);have u:Below w.heap.size w ((w.alloc (.cells #[.int .u64 0] 43)).alloc (.cells #[.pointer (some ⟨b,0,none⟩)] 74)):=((zzD _ w).alloc (zzc _) _).alloc bR _;have T:((w.alloc (.cells #[.int .u64 0] 43)).alloc (.cells #[.pointer (some ⟨b,0,none⟩)] 74)).heap.size=w.heap.size+2:=bR
 obtain⟨g,F⟩:∃g,g=(w.alloc (.cells #[.int .u64 0] 43)).alloc (.cells #[.pointer (some ⟨b,0,none⟩)] 74):=⟨_,rfl⟩;rw[<-F] at A y u T ⊢;clear F R;have q:=L.below u;have Y:=L.lt
 refine wpIn_rangeFunc_ownH s j (gf:=127) (lb:=#[.pointer (some ⟨w.heap.size+1,0,none⟩)]) rfl E (enters_of func127 dJ rfl)
  (yo (n-1) bL (w.heap.size+1) b C rs g hlen bL q.lt A.cell q.cell q.recs) (λh k=>h.trans k) (oH.book q.rows) (zzD _ _) (λ_=>rfl)
  (λd W=>(Boxed W w.heap.size 43 (.int .u64 0)/\d=[])/\Below w.heap.size w W)
  (λc d W=>(Boxed W w.heap.size 43 (.int .u64 (jS (d.map (·.1)) 0:Int))/\(c=.ret/\d≠[]))/\Below w.heap.size w W)
  (OwnFrom.and (OwnFrom.and (Own.from (boxed_own _ _ _) _) (ownFrom_pure _ _)) (ownFrom_below (zzc _) bL))
  (λc=>OwnFrom.and (OwnFrom.and (Own.from (boxed_own _ _ _) _) (ownFrom_pure _ _)) (ownFrom_below (zzc _) bL))
  ⟨⟨y,rfl⟩,u⟩
  (λx i W=>∃B,w.heap.size<B/\W.heap[B]?=some (.cells #[.int .u64 (x.1.oq:Int),.int .u8 (x.1.kind:Int),.string (str x.1.nH)] 110 (0,0))/\i={ tmps:=#[.pointer (some ⟨b,0,none⟩),undef,.pointer (some ⟨w.heap.size,0,none⟩),.pointer (some ⟨B,0,none⟩),.pointer (some ⟨b,0,none⟩),.func (.func 127) #[] #[.pointer (some ⟨w.heap.size+1,0,none⟩)],Es x.1,undef,undef,undef,undef],defers:=[] })
  (λx i _ X a6 row hs P S=>by
   obtain⟨B,j,m,I⟩:=hs
   exact⟨B,j,(P.block B (zza.1 m).1 (λe=>by obtain⟨_,o,z,J⟩:=S B e.symm;rw[m] at z;cases z;cases J)).trans m,I⟩)
  ?assign ?body ?done ?stop
 case assign =>
  have U:=@Oper.semAt_some;rintro l d x W a1 ⟨⟨ot,hp⟩,nE⟩ hK
  gi_wp2
  exact hK _ _ ((KeepsOthers.alloc _ _).from _) (oH.alloc _ _) ⟨⟨ot.alloc _,hp⟩,nE.alloc nE.size _⟩ ⟨W.heap.size,ot.lt,World.alloc_heap_new W _,rfl⟩
 case body =>
  have U:=@Oper.semAt_some;rintro l d x i W eh _ ⟨⟨ot,rfl⟩,hB⟩ ⟨B,hBx,bX,rfl⟩ bU;have V:=ay bX 0;simp at V;have c2:=ot.cell;have H:=ot.frozen
  gi_wp2
  refine⟨((KeepsOthers.setCell W _ _).from _),⟨ot.set _,rfl,bR⟩,hB.setCell (p:=⟨w.heap.size,0,none⟩) (zzc _) _⟩
 case done =>
  rintro D ys W hD G ⟨⟨ot,rfl⟩,hB⟩ hK;have O:rs=[]:=by rw[<-G];rfl
  have c2:=ot.cell;have H:=ot.frozen;have c4:=(hB.cell (p:=⟨b,4,none⟩) Y).trans zC
  gi_wp2_with (gi_at_call 84;refine((callsIn_wide (n:=n-1)).2 (O3 b f W c4)).mono ?_;rintro e w' ⟨rfl,rfl⟩)
  obtain⟨a,Z⟩:∃a,a=w'.setCell ⟨w.heap.size,0,none⟩ (.int .u64 (f:Int)):=⟨_,rfl⟩;rw[<-Z];have v:Boxed a w.heap.size 43 (.int .u64 (f:Int)):=by rw[Z];exact ot.set _
  have r:Below w.heap.size w a:=by rw[Z];exact hB.setCell (p:=⟨w.heap.size,0,none⟩) (zzc _) _
  have M:a.heap[D]?=some (.deferred (some [])):=by rw[Z];exact(Below.heap_setCell _ _ _ D (by show D≠w.heap.size;omega)).trans hK
  clear Z;refine⟨bR,.inl ⟨_,_,rfl,run_takeDeferred M,?_⟩⟩;have t:=(v.kept (grownBy_putObj' a D (.deferred none)) cE).cell;refine⟨.int .u64 (f:Int),?_,by rw[O];rfl,r.trans (belowK_b (w:=w) (zzc _) a D _ _ bL M rfl rfl)⟩;simp only[results,f166];simp[go_sem,t]
 case stop =>
  rintro D c d W hD N ⟨⟨ot,rfl,hne⟩,hB⟩ hK;have K:jS rs f=jS (d.map (·.1)) 0:=Hj (λe=>hne (List.map_eq_nil_iff.1 e)) N
  gi_wp2
  obtain⟨a,Z⟩:∃a,a=W:=⟨_,rfl⟩;rw[<-Z];have v:Boxed a w.heap.size 43 (.int .u64 (jS (d.map (·.1)) 0:Int)):=by rw[Z];exact ot
  have r:Below w.heap.size w a:=by rw[Z];exact hB
  have M:a.heap[D]?=some (.deferred (some [])):=by rw[Z];exact hK
  clear Z;refine⟨bR,.inl ⟨_,_,rfl,run_takeDeferred M,?_⟩⟩;have t:=(v.kept (grownBy_putObj' a D (.deferred none)) cE).cell;refine⟨.int .u64 (jS (d.map (·.1)) 0:Int),?_,by rw[K],r.trans (belowK_b (w:=w) (zzc _) a D _ _ bL M rfl rfl)⟩;simp only[results,f166];simp[go_sem,t]
end
variable{t:ByteArray}{k:Nat}{m:cC}
structure eT(l:au)(d:ah)(fst:Nat)(cs:List (List Rec)):Prop where
 fail:l.failed=0
 segs:l.segs=starts (fst+1) cs
 recs:l.recs=cs.flatten
 next:l.next=fst+cs.flatten.length+1
 fB:∀(k:Nat) (r:Rec),cs.flatten[k]?=some r->r.oq=fst+1+k
 ne:∀c∈cs,c≠[]
 size:∀c∈cs,lj c<870
 none:cs=[]->l.filled=600
 fill:∀ds c,cs=ds++[c]->l.filled=lj c
 files:∀s∈l.segs,d.now (aN s)≠Option.none
section
variable{l:au}{d:ah}{fst c:Nat}{cs:List (List Rec)}
theorem yF(k:Nat)(cs:List<|List Rec):cs.flatten=(cs.take k).flatten++(cs.drop k).flatten:=by
 rw[<-List.flatten_append,List.take_append_drop]
theorem eT.inside(h:eT l d fst cs){k:Nat}(f:k<cs.length):(cs.take k).flatten.length<cs.flatten.length:=by
 have a:=yF k cs;have b:cs.drop k=cs[k]::cs.drop (k+1):=bR;have e:0<cs[k].length:=zzE.2 (h.ne _ (by simp));have c:=congrArg List.length a;rw[zzi,b,List.flatten_cons,zzi]at c;omega
theorem eT.hinv(h:eT l d fst cs)(k s:Nat)(a:l.segs[k]?=some s):∃r rs,l.recs=r::rs/\r.oq<=s/\s-r.oq<l.recs.length:=by
 rw[h.segs]at a;have E:k<cs.length:=by
  have:=(zzd.1 a).1;rw[sK]at this;exact this
 rw[vv cs (fst+1) k E]at a;have i:=h.inside E;have hs:s=fst+1+(cs.take k).flatten.length:=by simpa using a.symm
 rw[h.recs];cases hf:cs.flatten with
 |nil=>rw[hf]at i;simp at i
 |cons r rs=>
  have:=h.fB 0 r (by rw[hf];rfl);refine⟨r,rs,rfl,bL,?_⟩;rw[hf]at i;omega
theorem eT.Pq(_h:eT l d fst cs)(w:d.ij c)(h:c<1099511627776):l.sync d=({l with aZ:=l.next},d.sync.1,0):=by
 unfold au.sync;rw[if_pos (vY w h).1]
theorem eT.synced(h:eT l d fst cs)(w:d.ij c)(a:c<1099511627776)(u:Nat):eT {l with aZ:=u} d.sync.1 fst cs where
 fail:=h.fail
 segs:=h.segs;recs:=h.recs;next:=h.next;fB:=h.fB;ne:=h.ne;size:=h.size;none:=h.none;fill:=h.fill;files:=λs hs=>by rw[(vY w a).2.2];exact h.files s hs
theorem eT.wrS(h:eT l d fst cs)(w:d.ij c)(a:c<1099511627776):l.wr d (l.sync d)=({l with aZ:=l.next},d.sync.1,0):=by
 unfold au.wr;rw[if_pos h.fail,h.Pq w a];simp only[h.fail.symm]
theorem eT.force(h:eT l d fst cs)(w:d.ij c)(a:c<1099511627776):
  (l.force d).2.2=0/\eT (l.force d).1 (l.force d).2.1 fst cs/\(l.force d).2.1.ij (c+1)/\(l.force d).1.segs=l.segs/\(l.force d).1.filled=l.filled/\(l.force d).1.next=l.next:=by
 unfold au.force;by_cases q:l.aZ=l.next
 .rw[if_pos q];exact⟨rfl,h,w.mono bL,rfl,rfl,rfl⟩
 .rw[if_neg q,h.wrS w a];exact⟨rfl,h.synced w a _,(vY w a).2.1,rfl,rfl,rfl⟩
theorem eT.last(h:eT l d fst cs)(hf:l.filled<600):∃ds c,cs=ds++[c]:=by
 obtain e|⟨ds,c,e⟩:=List.eq_nil_or_concat cs
 .have:=h.none e;omega
 .exact⟨ds,c,by simpa using e⟩
theorem eT.Xr(h:eT l d fst cs)(hf:l.filled<600):l.segs≠[]:=by
 obtain⟨ds,c,rfl⟩:=h.last hf;rw[h.segs,jy];simp
theorem fO(cs:List<|List Rec)(a:List Rec):(cs++[a]).flatten=cs.flatten++a:=bR
theorem Bd{L:List Rec}{f:Nat}(h:∀(k:Nat) (r:Rec),L[k]?=some r->r.oq=f+k)(x:Rec)(b:x.oq=f+L.length):∀(k:Nat) (r:Rec),(L++[x])[k]?=some r->r.oq=f+k:=by
 intro k r a;rw[List.getElem?_append]at a;split at a
 .exact h k r a
 .rename_i hk;have:k-L.length=0:=by
   have:=(zzd.1 a).1;simp at this;omega
  rw[this]at a;simp at a;subst a;omega
theorem EZ{m:cC}{n t:ByteArray}{s:Nat}(h:m (aN s)≠none):fW m ⟨2,n,ByteArray.empty,t⟩ (aN s)≠none:=by
 show(m.set n<|some _) (aN s)≠none;unfold cC.set;split
 .simp
 .exact h
theorem Pr{m:cC}{t:ByteArray}{s:Nat}:fW m ⟨2,aN s,ByteArray.empty,t⟩ (aN s)≠none:=by
 show(m.set (aN s)<|some _) (aN s)≠none;rw[cC.tu];simp
structure aaJ(l:au)(d:ah)(fst:Nat)(cs:List (List Rec))(c:Nat)(x:Rec)(r:au × ah × Nat × Nat):Prop where
 ret:r.2.2.1=l.next/\r.2.2.2=0
 log:∃cs',eT r.1 r.2.1 fst cs'/\cs'.flatten=cs.flatten++[x]
 well:r.2.1.ij (c+2)
 two:∀s,r.1.segs[1]?=some s->l.segs[1]?=some s\/s=l.next
 sum:600*r.1.segs.length+r.1.filled<=600*l.segs.length+l.filled+(15+x.nH.length)
theorem eT.append(h:eT l d fst cs)(w:d.ij c)(p:c+2<1099511627776)(kind:Nat)(s:ByteArray)(hs:s.size<=255):
  aaJ l d fst cs c ⟨l.next,kind,bytesOf s⟩ (l.append d kind s):=by
 have⟨n,J⟩:∃b,b=bF l.next kind (bytesOf s):=⟨_,rfl⟩;have hlen:=dy s;by_cases hf:l.filled<600
 .obtain⟨ds,cl,rfl⟩:=h.last hf;have O:l.segs=starts (fst+1) ds++[fst+1+ds.flatten.length]:=by rw[h.segs,jy]
  have Q:l.segs.getLastD 0=fst+1+ds.flatten.length:=by rw[O];simp
  obtain⟨f,g,i⟩:=EY (o:=⟨2,aN<|l.segs.getLastD 0,ByteArray.empty,str n⟩) w bL (by simp) (by simp);have P:l.room d=(l,d,0):=by unfold au.room;rw[if_pos hf]
  have j:l.put d n=(l,(d.tell ⟨2,aN<|l.segs.getLastD 0,ByteArray.empty,str n⟩).1,0):=by
   unfold au.put;rw[P];simp only[if_true];rw[f]
  have L:l.wr d (l.put d n)=(l,(d.tell ⟨2,aN<|l.segs.getLastD 0,ByteArray.empty,str n⟩).1,0):=by
   unfold au.wr;rw[if_pos h.fail,j];simp only[h.fail.symm]
  have X:l.append d kind s=({l with filled:=l.filled+(15+s.size),recs:=l.recs++[⟨l.next,kind,bytesOf s⟩],next:=l.next+1},(d.tell ⟨2,aN<|l.segs.getLastD 0,ByteArray.empty,str n⟩).1,l.next,0):=by
   unfold au.append;rw[if_neg bL,<-J,L];simp
  rw[X];have K:=h.fill ds cl rfl;refine {ret:=⟨rfl,rfl⟩,log:=⟨ds++[cl++[⟨l.next,kind,bytesOf s⟩]],?_,by rw[fO,fO,zzx]⟩,well:=g.mono bL,two:=λs hs=>.inl hs,sum:=cE};refine {fail:=h.fail,segs:=?_,recs:=?_,next:=?_,fB:=?_,ne:=?_,size:=?_,none:=bR,fill:=?_,files:=?_}
  .show l.segs=_;rw[h.segs,Hw]
  .show l.recs++_=_;rw[h.recs,fO,fO,zzx]
  .show l.next+1=_;rw[h.next,fO,fO];simp;omega
  .rw[fO,<-zzx,<-fO];exact Bd h.fB _<|by show l.next=_;rw[h.next];omega
  .intro b hb;obtain hb|hb:=zzo.1 hb
   .exact h.ne b<|by simp[hb]
   .simp at hb;subst hb;simp
  .intro b hb;obtain hb|hb:=zzo.1 hb
   .exact h.size b<|by simp[hb]
   .simp at hb;subst hb;rw[yE];simp[lj];omega
  .intro es b he;have⟨_,e⟩:=List.append_inj' he rfl;simp only[List.cons.injEq,and_true]at e;subst e;show l.filled+_=_;rw[yE,K];simp[lj];omega
  .intro x a;show(d.tell _).1.now _≠_;rw[i];exact EZ<|h.files x a
 .have df:=h.Pq w bL;have⟨q,k,m⟩:=vY w bL;obtain⟨f,g,i⟩:=EY (o:=⟨2,aN l.next,ByteArray.empty,str n⟩) k bL (by simp) (by simp);have P:l.room d=({l with aZ:=l.next,segs:=l.segs++[l.next],filled:=0},d.sync.1,0):=by
   unfold au.room;rw[if_neg hf,df];simp
  have j:l.put d n=({l with aZ:=l.next,segs:=l.segs++[l.next],filled:=0},(d.sync.1.tell ⟨2,aN l.next,ByteArray.empty,str n⟩).1,0):=by
   unfold au.put;rw[P];simp only[if_true];rw[show(l.segs++[l.next]).getLastD 0=l.next by simp,f]
  have L:l.wr d (l.put d n)=({l with aZ:=l.next,segs:=l.segs++[l.next],filled:=0},(d.sync.1.tell ⟨2,aN l.next,ByteArray.empty,str n⟩).1,0):=by
   unfold au.wr;rw[if_pos h.fail,j];simp only[h.fail.symm]
  have X:l.append d kind s=({l with aZ:=l.next,segs:=l.segs++[l.next],filled:=0+(15+s.size),recs:=l.recs++[⟨l.next,kind,bytesOf s⟩],next:=l.next+1},(d.sync.1.tell ⟨2,aN l.next,ByteArray.empty,str n⟩).1,l.next,0):=by
   unfold au.append;rw[if_neg bL,<-J,L];simp
  rw[X];refine {ret:=⟨rfl,rfl⟩,log:=⟨cs++[[⟨l.next,kind,bytesOf s⟩]],?_,by rw[fO]⟩,well:=g,two:=λx a=>?_,sum:=cE}
  .refine {fail:=h.fail,segs:=?_,recs:=?_,next:=?_,fB:=?_,ne:=?_,size:=?_,none:=bR,fill:=?_,files:=?_}
   .show l.segs++[l.next]=_;rw[h.segs,jy,h.next];congr 2;omega
   .show l.recs++_=_;rw[h.recs,fO]
   .show l.next+1=_;rw[h.next,fO];simp;omega
   .rw[fO];exact Bd h.fB _<|by show l.next=_;rw[h.next];omega
   .intro b hb;obtain hb|hb:=zzo.1 hb
    .exact h.ne b hb
    .simp at hb;subst hb;simp
   .intro b hb;obtain hb|hb:=zzo.1 hb
    .exact h.size b hb
    .simp at hb;subst hb;simp[lj];omega
   .intro es b he;have⟨_,e⟩:=List.append_inj' he rfl;simp only[List.cons.injEq,and_true]at e;subst e;show 0+_=_;simp[lj];omega
   .intro x a;show(d.sync.1.tell _).1.now _≠_;rw[i];obtain a|a:=zzo.1 a
    .exact EZ<|by rw[m];exact h.files x a
    .simp at a;subst a;exact Pr
  .change (l.segs++[l.next])[1]?=some x at a;rw[List.getElem?_append]at a;split at a
   .exact .inl a
   .right;have:=zzh a;simpa using this
structure aaL(l:au)(d:ah)(fst:Nat)(cs:List (List Rec))(c low:Nat)(r:au × ah × Nat):Prop where
 ret:r.2.2=0
 log:∃E0 cs',eT r.1 r.2.1 E0 cs'/\fst<=E0/\cs'.flatten=cs.flatten.drop (E0 - fst)/\(E0=fst\/E0 + 1<=low)/\E0 + cs'.flatten.length=fst+cs.flatten.length
 well:r.2.1.ij (c+6+l.segs.length)
 two:∀x,r.1.segs[1]?=some x->low<x/\∃y,l.segs[1]?=some y/\y<=x
 sum:600*r.1.segs.length+r.1.filled<=600*l.segs.length+l.filled
theorem eT.cut(h:eT l d fst cs)(w:d.ij c)(S:c+6+l.segs.length<1099511627776)(low:Nat):aaL l d fst cs c low (l.cut d low):=by
 have⟨q,p⟩:=yD l.segs low;have⟨T,u,v⟩:=vY w bL;by_cases i:cb l.segs low=0
 .have e:l.cut d low=({l with aZ:=l.next},d.sync.1,0):=by unfold au.cut;rw[if_pos i,h.wrS w bL]
  rw[e];rw[i]at p;refine {ret:=rfl,log:=⟨fst,cs,h.synced w bL _,zzc _,bR,.inl rfl,rfl⟩,well:=u.mono bL,two:=λx f=>⟨p x f,x,f,zzc _⟩,sum:=bR}
 .have bU:=oF i;have⟨g,U⟩:=gb <|cb l.segs low;rw[<-U]at q p bU i;have G:g<cs.length:=by rw[h.segs,sK]at bU;exact bU
  have W:l.segs[g]?=some (fst+1+(cs.take g).flatten.length):=by rw[h.segs];exact vv cs (fst+1) g G
  have I:l.segs.getD g 0=fst+1+(cs.take g).flatten.length:=by rw[List.getD_eq_getElem?_getD,W];rfl
  have P:fst+1+(cs.take g).flatten.length<=low:=by
   obtain e|⟨x,f,hl⟩:=q
   .exact absurd e i
   .rw[W]at f;cases f;exact hl
  have⟨t,_⟩:=yB cs (fst+1) h.ne;rw[<-h.segs]at t;obtain⟨B,C,n⟩:=Pp (l.segs.getD g 0) u bL;have y:(l.segs.take g).Nodup:=(t.imp λ{a b} (H:a<b)=>Nat.ne_of_lt H).sublist<|List.take_sublist _ _;have K:(l.segs.take g).length=g:=by rw[zzm];omega
  have⟨D,E,F⟩:=Hv (l.segs.take g) C bL y λs hs=>by rw[n,v];exact h.files s<|List.mem_of_mem_take hs
  have M:l.lD d g (l.segs.getD g 0)=({l with aZ:=l.next},((d.sync.1.cL<|l.segs.getD g 0).1.removeAll<|(l.segs.take g).map aN).1,0):=by
   unfold au.lD;rw[h.Pq w bL];simp only[if_true];rw[if_pos B];exact Prod.ext rfl<|Prod.ext rfl D
  have L:l.wr d (l.lD d g<|l.segs.getD g 0)=({l with aZ:=l.next},((d.sync.1.cL<|l.segs.getD g 0).1.removeAll<|(l.segs.take g).map aN).1,0):=by
   unfold au.wr;rw[if_pos h.fail,M];simp only[h.fail.symm]
  have N:(l.recs.headD ⟨0,0,[]⟩).oq=fst+1:=by
   have m:=h.inside G;rw[h.recs];cases hf:cs.flatten with
   |nil=>rw[hf]at m;simp at m
   |cons r rs=>simpa using h.fB 0 r (by rw[hf];rfl)
  have e:l.cut d low=({l with aZ:=l.next,recs:=l.recs.drop (cs.take g).flatten.length,segs:=l.segs.drop g},((d.sync.1.cL<|l.segs.getD g 0).1.removeAll<|(l.segs.take g).map aN).1,0):=by
   unfold au.cut;rw[<-U,if_neg i];simp only;rw[L];simp only[if_true];rw[N,I,show fst+1+(cs.take g).flatten.length-(fst+1)=(cs.take g).flatten.length by omega]
  rw[e];have o:=yF g cs;have j:cs.flatten.drop (cs.take g).flatten.length=(cs.drop g).flatten:=by
   rw[o,List.drop_left' bR]
  have J:=congrArg List.length o;rw[zzi]at J;refine {ret:=rfl,log:=⟨fst+(cs.take g).flatten.length,cs.drop g,?_,bL,?_,.inr bL,bL⟩,well:=E.mono bL,two:=λx f=>?_,sum:=?_}
  .refine {fail:=h.fail,segs:=?_,recs:=?_,next:=?_,fB:=?_,ne:=λb hb=>h.ne b<|List.mem_of_mem_drop hb,size:=λb hb=>h.size b<|List.mem_of_mem_drop hb,none:=?_,fill:=?_,files:=?_}
   .show l.segs.drop g=_;rw[h.segs,vZ];congr 1;omega
   .show l.recs.drop _=_;rw[h.recs,j]
   .show l.next=_;rw[h.next];omega
   .intro k r hr;have:=h.fB ((cs.take g).flatten.length+k) r (by rw[o,List.getElem?_append_right bL];rw[<-hr];congr 1;omega);omega
   .intro he;have:=congrArg List.length he;rw[zzz]at this;simp at this;omega
   .intro ds b he;apply h.fill (cs.take g++ds) b;rw[zzx,<-he,List.take_append_drop]
   .intro s hs;have O:s∉l.segs.take g:=λA=>by
     have:=t;rw[<-List.take_append_drop g l.segs,List.pairwise_append]at this;exact Nat.lt_irrefl _<|this.2.2 s A s hs
    show(ah.removeAll _ _).1.now _≠_;rw[F s O,n,v];exact h.files s<|List.mem_of_mem_drop hs
  .rw[show fst+(cs.take g).flatten.length-fst=(cs.take g).flatten.length by omega,j]
  .change (l.segs.drop g)[1]?=some x at f;rw[List.getElem?_drop]at f;refine⟨p x f,?_⟩;have z:=(zzd.1 f).1;refine⟨l.segs[1],by rw[zzg],?_⟩;rw[List.pairwise_iff_getElem]at t;have Q:=t 1 (g+1) bL z bL;have R:=(zzd.1 f).2;omega
  .show 600*(l.segs.drop g).length+l.filled<=_;rw[zzz];omega
end
section
variable{w w':World}{B p E G n I J:Nat}{O:Value}{d:ah}
theorem ax.geD(h:ax w B p E G O d n I J){k:Nat}(a:rA p w k):B<=k:=by
 have:=(h.l8 k).1 a;simp at this;rcases this with e|e|e|e
 .rw[e];exact h.base.1
 .rw[e];exact h.base.2.1
 .rw[e];exact h.base.2.2.1
 .exact(h.pen.lt k e).1
end
theorem aA.other{w w':World}{B h p E G n I J q:Nat}{O s v:Value}{l:au}{d:ah}{c:Array Value}{t:TypeId}(a:aA w B h p E G O s v l d n I J)(hf:Fr [q] w w')(b:w.heap[q]?=some (.cells c t (0,0)))(f:t≠96)(i:t≠182)(j:t≠222)(k:t≠43)(m:t≠110)(u:t≠9):aA w' B h p E G O s v l d n I J:=by
 have o:=a.free b f i j k m;rw[a.own] at o;simp only[not_or] at o;refine a.turned (a.bq.fr hf ?_ ?_ ?_ ?_ ?_) hf ?_ (zzc _)
 .simpa using λe=>o.2.1 e.symm
 .simpa using λe=>o.2.2.1 e.symm
 .simpa using λe=>o.2.2.2.1 e.symm
 .intro g hg;simp;intro e;subst e;exact o.2.2.2.2.1 hg
 .intro r hr x;simp at hr;subst hr;rw[b];intro e;cases e;exact u rfl
 .intro r hr _;simp at hr;subst hr;exact⟨o.1,o.2.2.2.2.2.1,o.2.2.2.2.2.2⟩
section
open Go.Shelf
structure ql(n:Nat)(S:List Nat)(A B:World):Prop where
 size:A.heap.size<=B.heap.size
 high:∀k,n<=k->k<A.heap.size->B.heap[k]?=A.heap[k]?
 same:∀k∈S,k<A.heap.size->B.heap[k]?=A.heap[k]?
theorem ql.mono{n m:Nat}{S:List Nat}{A B:World}(h:ql n S A B)(b:n<=m):ql m S A B:=⟨h.size,λk a=>h.high k<|zzk b a,h.same⟩
theorem ql.alloc(n:Nat)(S:List Nat)(A:World)(o:Obj):ql n S A (A.alloc o):=⟨bR,λk _ l=>zzf _ _ k l,λk _ l=>zzf _ _ k l⟩
theorem cj(W:World)(l:Nat)(o:Obj):(W.putObj l o).heap.size=W.heap.size:=bR
def WU{α:Type}(F:Fence)(n:Nat)(P:Program)(gf:Nat)(lb:Array Value)(encs:α->Array Value)(rs:List α)(S:List Nat)(l:Nat)(W:World):Prop :=
 ∀J:List α->World->Prop,(∀s A B,J s A->Below W.heap.size A B->J s B) ->
  (∀p x b,J p b->W.heap.size<=b.heap.size->p++[x] <+: rs->YieldAt F (n-1) P l (encs x) b λe a=>e=.returned (.bool true)/\J (p++[x]) a/\ql W.heap.size S b a) ->
  J [] W->CallsIn F n P gf (#[.func (.yield l) #[] #[]]++lb) W λe a=>(∃v,e=.returned v)/\J rs a
section
variable{F:Fence}{n:Nat}{P:Program}
theorem ld{α:Type}{g:Operand}{ps:Array Tmp}{assign body:Code}{Q:Exit->Act->World->Prop}{a:Act}{w:World}
  (hro:F.round=none) (h1:1<=n) {gf:Nat} {lb:Array Value} (hg:a.eval g=.func (.func gf) #[] lb) (Lf:F.fn gf) (eg:∀args w,(callFunc gf args).run P w=.ok (.enter gf args) w)
  {encs:α->Array Value} {rs:List α} {S:List Nat} (az:∀x,(encs x).size=ps.size) (hS:∀k∈S,k<w.heap.size)
  (nc:∀W1,Below w.heap.size w W1->W1.heap.size=w.heap.size+2->WU F (n-1) P gf lb encs rs S (w.heap.size+1) W1)
  (I:List α->World->Prop) (WV:∀W1,Below w.heap.size w W1->I [] W1) (uD:∀s A B,I s A->Below (w.heap.size+2) A B->I s B) (WW:∀s A r,I s A->I s (A.putObj (w.heap.size+1)<|.loop r))
  (Ax:α->Act->World->Prop) (WX:∀x a' A r,Ax x a' A->Ax x a' (A.putObj (w.heap.size+1)<|.loop r))
  (oJ:∀(pre:List α) (x:α) (W:World) (K:Act->World->Prop),I pre W->w.heap.size+2<=W.heap.size->pre++[x]<+:rs->(∀a' W',I pre W'->ql w.heap.size S W W'->Ax x a' W'->K a' W') ->
   assign.wpIn (F.inRound (w.heap.size+1)) (n-1-1) P (Exit.then K (λ_ _ _=>False)) {tmps:=(ps.zip (encs x)).foldl (λt (p,v)=>t.setIfInBounds p v) a.tmps,defers:=[]} W)
  (yq:∀(pre:List α) (x:α) (a':Act) (W:World),I pre W->w.heap.size+2<=W.heap.size->Ax x a' W->pre++[x]<+:rs->body.wpIn (F.inRound<|w.heap.size+1) (n-1-1) P (λe _ W'=>e=.normal/\I (pre++[x]) W'/\ql w.heap.size S W W') a' W)
  (yr:∀(W:World),I rs W->w.heap.size+2<=W.heap.size->W.heap[w.heap.size]?=some (.deferred<|some [])->Q .normal {a with defers:={target:=.collected w.heap.size,args:=#[]}::a.defers} W) :
  (Code.rangeFunc g ps assign body).wpIn F n P Q a w:=by
 refine wpIn_rangeFunc λfn xn=>?_
 rw[hro];have⟨L,hL⟩:∃L:LoopState->Loop,L=λst=>{state:=st,pending:=none,fn,tmps:=a.tmps,params:=ps,assign,body,defers:=w.heap.size}:=⟨_,rfl⟩
 have⟨W1,iG⟩:=gb <|(w.alloc<|.deferred<|some []).alloc (.loop<|L .ready);have cG:Below w.heap.size w W1:=by rw[iG];exact((zzD _ w).alloc (zzc _) _).alloc bR _
 have df:W1.heap.size=w.heap.size+2:=by rw[iG];simp
 have dY:W1.heap[w.heap.size+1]?=some (.loop<|L .ready):=by
  rw[iG];have:=World.alloc_heap_new (w.alloc<|.deferred<|some [])<|.loop<|L .ready;rwa [zzv]at this
 have j_:W1.heap[w.heap.size]?=some (.deferred<|some []):=by
  rw[iG];exact(zzf _ _ _ bR).trans<|World.alloc_heap_new w _
 refine⟨w.heap.size+1,[{target:=.collected w.heap.size,args:=#[]}],W1,{target:=.fn (.func gf) lb,args:=#[.func (.yield<|w.heap.size+1) #[] #[]]},W1,gf,#[.func (.yield<|w.heap.size+1) #[] #[]]++lb,W1,?_,?_,?_,?_,λ_=>h1,?_⟩
 .rw[iG,hL];exact run_enterLoop_outer _ _ _ _ _
 .simp only[resolve,hg];simp[go_sem]
 .intro f' pF;simp[Target.leads]at pF;subst pF;exact Lf
 .simp[invoke,go_sem,eg]
 refine(nc W1 cG df (λs A=>I s A/\A.heap[w.heap.size+1]?=some (.loop<|L .ready)/\A.heap[w.heap.size]?=some (.deferred<|some [])/\w.heap.size+2<=A.heap.size) ?_ ?_ ⟨WV W1 cG,dY,j_,bL⟩).mono ?_
 .rintro s A B ⟨i1,i2,i3,i4⟩ hb;rw[df]at hb;exact⟨uD s A B i1 hb,(hb.block _ bL).trans i2,(hb.block _ bL).trans i3,zzk i4 hb.size⟩
 .rintro pre x W ⟨i1,i2,i3,i4⟩ _ dN;have hy:=run_yield (P:=P) (args:=encs x) i2 (by rw[hL];exact az x);rw[hL]at hy;refine⟨fn,_,assign,body,hy,roundIn_of_wpIn xn<|oJ pre x W _ i1 i4 dN λa' Wa ia ka xa=>?_⟩;have la:=(ka.high _ bL bL).trans i2;have da:=(ka.high _ bL bL).trans i3;have WY:=(zza.1 la).1;obtain⟨Wb,qm⟩:∃Wb,Wb=Wa.putObj (w.heap.size+1) (.loop<|L .busy):=⟨_,rfl⟩;have U0:Wb.heap[w.heap.size+1]?=some (.loop<|L .busy):=by rw[qm];exact World.putObj_heap_same WY
  have db:Wb.heap[w.heap.size]?=some (.deferred<|some []):=by rw[qm];exact(World.putObj_heap_other bL).trans da
  have sb:Wb.heap.size=Wa.heap.size:=by rw[qm];simp
  refine⟨Wb,by rw[qm];have:=run_beginRound (P:=P) la (by rw[hL]);rw[hL]at this ⊢;exact this,?_⟩;apply wpIn_mono (yq pre x a' Wb (by rw[qm];exact WW _ _ _ ia) (by rw[sb];omega) (by rw[qm];exact WX _ _ _ _ xa) dN);rintro e a3 W3 ⟨rfl,SN,k3⟩;have l3:=(k3.high _ bL bL).trans U0;have d3:=(k3.high _ bL bL).trans db;have RB:=(zza.1 l3).1;have ma:=run_endRound (P:=P) none l3;refine⟨_,_,ma,rfl,⟨WW _ _ _ SN,?_,(World.putObj_heap_other bL).trans d3,by rw[cj];omega⟩,?_,?_,?_⟩
  .rw[World.putObj_heap_same RB,hL];rfl
  .rw[cj];have:=ka.size;have:=k3.size;omega
  .intro k hk bU;rw[df]at hk;rw[World.putObj_heap_other bL,k3.high k bL<|by have:=ka.size;omega,qm,World.putObj_heap_other bL,ka.high k bL bU]
  .intro k hk bU;have hkw:=hS k hk;rw[World.putObj_heap_other bL,k3.same k hk<|by have:=ka.size;omega,qm,World.putObj_heap_other bL,ka.same k hk bU]
 .rintro e W2 ⟨⟨v,rfl⟩,i1,i2,i3,i4⟩;have ma:=run_endLoop (P:=P) i2 (by rw[hL];simp);have hp:(L .ready).pending=none:=by rw[hL]
  rw[hp]at ma;refine⟨none,_,ma,?_⟩;exact yr _ (WW _ _ _ i1) (by rw[cj];exact i4)<|(World.putObj_heap_other bL).trans i3
end
end
variable{S:List Nat}
section
variable{w w':World}{B lp p bD bN n J O:Nat}{E I G:Value}{l:au}{d:ah}
theorem aA.mT(h:aA w B lp p bD bN E I G l d n J O){b:Nat}(hb:∃s c,w.heap[b]?=some (.map s c))(a:b≠bD)(f:b≠bN):¬Own lp p w b:=by
 have⟨s,c,hb⟩:=hb;rw[h.own];rintro (e|e|e|e|e|e|e)
 .subst e;rw[h.blk]at hb;cases hb
 .subst e;rw[h.bq.blk]at hb;cases hb
 .exact a e
 .exact f e
 .obtain⟨c,hc⟩:=aq h.bq.pen e;rw[hc]at hb;cases hb
 .obtain⟨c,hc⟩:=aq h.segs e;rw[hc]at hb;cases hb
 .obtain⟨c,hc⟩:=aq h.recs e;rw[hc]at hb;cases hb
theorem aA.apart{S:List Nat}(h:aA w B lp p bD bN E I G l d n J O)(hf:Fr S w w')(c:∀k∈S,k<w.heap.size->¬Own lp p w k/\∀t,w.heap[k]?≠some (dV t)):aA w' B lp p bD bN E I G l d n J O:=by
 have y:∀k,k<w.heap.size->Own lp p w k->k∉S:=λk a o m=>(c k m a).1 o
 have lt:∀k,Own lp p w k->k<w.heap.size:=λk o=>by
  obtain e|e|e|e|e|e|e:=(h.own k).1 o
  .rw[e];exact(zza.1 h.blk).1
  .rw[e];exact(zza.1 h.bq.blk).1
  .rw[e];exact h.bq.rz.lt
  .rw[e];exact h.bq.now.lt
  .exact(h.bq.pen.lt k e).2
  .exact(h.segs.lt k e).2
  .exact(h.recs.lt k e).2
 have r:∀k,Own lp p w k->k∉S:=λk o=>y k (lt k o) o
 have j:∀{k},(k=lp\/k=p\/k=bD\/k=bN\/E.ownBlock=some k\/I.ownBlock=some k\/G.ownBlock=some k)->k∉S:=λ{k} a=>r k<|(h.own k).2 a
 refine h.turned (h.bq.fr hf (j bR) (j bR) (j bR) (λg f=>j<|by simp[f]) λq i t=>?_) hf (λk a b=>?_)<|zzc _
 .by_cases b:q<w.heap.size
  .exact(c q i b).2 t
  .intro e;exact b (zza.1 e).1
 .have:=(c k a b).1;rw[h.own]at this;simp only[not_or]at this;exact⟨this.1,this.2.2.2.2.2.1,this.2.2.2.2.2.2⟩
end
structure Bb(w:World)(sp gp bV bT bH bD bN lp:Nat):Prop where
 ju:w.heap[gp]?=some (rB lp)
 ne:bV≠bD/\bV≠bN/\bT≠bD/\bT≠bN/\bH≠bD/\bH≠bN
section
variable{w w':World}{B sp gp bV bT bH m lp p bD bN n J O:Nat}{E I G:Value}{l:au}{d:ah}{s:ag}
theorem a_.free(hs:a_ w sp gp bV bT bH m s)(h:aA w B lp p bD bN E I G l d n J O)(x:Bb w sp gp bV bT bH bD bN lp):∀k∈[sp,gp,bV,bT,bH],¬Own lp p w k/\∀t,w.heap[k]?≠some (dV t):=by
 intro k f;simp at f;obtain rfl|rfl|rfl|rfl|rfl:=f
 .exact⟨h.free hs.blk bM bM bM bM bM,λt e=>by rw[hs.blk]at e;cases e⟩
 .exact⟨h.free x.ju bM bM bM bM bM,λt e=>by rw[x.ju]at e;cases e⟩
 .exact⟨h.mT hs.aM.isMap x.ne.1 x.ne.2.1,λt e=>by have⟨b,c,a⟩:=hs.aM.isMap;rw[a]at e;cases e⟩
 .exact⟨h.mT hs.ai.isMap x.ne.2.2.1 x.ne.2.2.2.1,λt e=>by have⟨b,c,a⟩:=hs.ai.isMap;rw[a]at e;cases e⟩
 .exact⟨h.mT hs.holds.isMap x.ne.2.2.2.2.1 x.ne.2.2.2.2.2,λt e=>by have⟨b,c,a⟩:=hs.holds.isMap;rw[a]at e;cases e⟩
theorem a_.zY(hs:a_ w sp gp bV bT bH m s)(h:aA w B lp p bD bN E I G l d n J O)(x:Bb w sp gp bV bT bH bD bN lp)(hf:ku lp p w w'):a_ w' sp gp bV bT bH m s/\Bb w' sp gp bV bT bH bD bN lp:=by
 have i:=hs.free h x;have v:∀{K V:Type} [DecidableEq K] {t:TypeId} {KR:iD prog K t} {ER:kK V} {b k:Nat} {L:List (K×V)},aO KR ER w b k L->b∈[sp,gp,bV,bT,bH]->aO KR ER w' b k L:=by
  intro K V _ t KR ER b k L M hb;have U:=M.lt;have⟨e,⟨a,c,f,g⟩,r⟩:=M;exact⟨e,⟨a,c,(hf.block b U (i b hb).1).trans f,g⟩,r⟩
 exact⟨{blk:=(hf.block sp hs.eY.1 (i sp bR).1).trans hs.blk,aM:=v hs.aM bR,ai:=v hs.ai bR,holds:=v hs.holds bR,ne:=hs.ne,aC:=hs.aC},
  {ju:=(hf.block gp (zza.1 x.ju).1 (i gp bR).1).trans x.ju,ne:=x.ne}⟩
theorem aA.jg{S:List Nat}(h:aA w B lp p bD bN E I G l d n J O)(hs:a_ w sp gp bV bT bH m s)(x:Bb w sp gp bV bT bH bD bN lp)(hf:Fr S w w')(b:∀k∈S,k∈[sp,bV,bT,bH]):aA w' B lp p bD bN E I G l d n J O/\Bb w' sp gp bV bT bH bD bN lp:=by
 have i:=hs.free h x;have sub:∀k∈S,k∈[sp,gp,bV,bT,bH]:=λk a=>by have:=b k a;simp at this ⊢;obtain e|e|e|e:=this<;>simp[e]
 refine⟨h.apart hf λk a _=>i k<|sub k a,{ju:=(hf.block gp (zza.1 x.ju).1 λf=>?_).trans x.ju,ne:=x.ne}⟩;have:=b gp f;simp at this;have v:=x.ju;obtain e|e|e|e:=this
 .rw[e,hs.blk]at v;simp at v
 .obtain⟨es,c,e2⟩:=hs.aM.isMap;rw[e,e2]at v;cases v
 .obtain⟨es,c,e2⟩:=hs.ai.isMap;rw[e,e2]at v;cases v
 .obtain⟨es,c,e2⟩:=hs.holds.isMap;rw[e,e2]at v;cases v
end
section
open Go.Shelf
theorem sI{m m' l:Nat}{P:Program}{args:Array Value}{W:World}{R:Ending->World->Prop}(h:YieldAt Fence.wide m P l args W R):YieldAt Fence.wide m' P l args W R:=by
 have⟨n,tmps,assign,body,y,a,b⟩:=h;exact⟨n,tmps,assign,body,y,a,λc s _=>b c s<|by intro d e;cases e⟩
theorem Hk(n:Nat)(hn:1<=n)(l f o g w:Nat)(rs:List Rec)(hlen:rs.length<=67108864)(J:List Rec->World->Prop)(W:World)
  (C:∀s A B,J s A->Below W.heap.size A B->J s B)
  (Y:∀p x d,J p d->W.heap.size<=d.heap.size->p++[x]<+:rs->YieldAt Fence.wide (n-1) prog l #[Es x] d λe c=>e=.returned (.bool true)/\J (p++[x]) c/\ql W.heap.size [g] d c)
  (G:g<W.heap.size) (L:W.cell? ⟨f,0,none⟩=some (.pointer<|some ⟨o,0,none⟩)) (z:W.cell? ⟨o,3,none⟩=some (.slice (some ⟨g,0,none⟩) rs.length w)) (R:vd W g rs) (y:J [] W) :
  CallsIn Fence.wide n prog 127 #[.func (.yield l) #[] #[],.pointer<|some ⟨f,0,none⟩] W λe c=>(∃v,e=.returned v)/\J rs c:=by
 have⟨m,h⟩:=gb rs.length;rw[<-h]at z hlen;have H:=af h;have D:Fence.wide.round=none:=rfl;clear h;refine callsIn_of_wp func127 rfl trivial ?_ D;simp only[ntmps127,mB,zzr,mH,Nat.reduceAdd,Nat.reduceSub,mK,mL,nb,nU,n5,qC];gi_wp2;gi_loopw [10] (λi wr=>∃k:Nat,k<=m/\i=.int .i64 k/\Hid (J (rs.take k) wr/\oH [g] W wr))
  (λi _=>m-(intOf i).toNat)
 case atStart=>exact⟨0,zzs _,rfl,by simpa using y,oH.refl _⟩
 case round=>
  obtain⟨k,I,rfl,Q⟩:=hrel;by_cases U:k<m
  .obtain⟨r,hr⟩:∃r,rs[k]?=some r:=⟨_,zzg<|by have:=H.out;omega⟩;have M:=Q.2.same g bR G;have⟨q,t,u⟩:=R k r hr;have T:=(zze M).trans q;have V:=(zze M).trans t;have X:=(zze M).trans u;have⟨b,O⟩:=gb <|wr.alloc (.cells #[.int .u64 (r.oq:Int),.int .u8 (r.kind:Int),.string<|str r.nH] 110);have Z:Below W.heap.size wr b:=by rw[O];exact(zzD _ wr).alloc Q.2.size _
   have S:=C _ _ _ Q.1 Z;have P:=Q.2.trans (oH.below Z cE);have⟨F,tmps,assign,body,K,E⟩:=Y _ r b S (zzk Q.2.size Z.size) (by rw[<-lF hr];exact List.take_prefix _ _);subst O;clear q t u M;gi_wp2;apply E.mono;rintro e j ⟨rfl,rP,kW⟩;have N:Hid (J (rs.take<|k+1) j/\oH [g] W j):=⟨by rw[lF hr];exact rP,P.trans ⟨kW.size,kW.same⟩⟩;clear rP kW
   gi_wp2;go_roundw;case rel=>exact⟨k+1,bL,bR,N.out⟩
   case measure=>simp[intOf];omega
  .obtain rfl:k=m:=bL;gi_wp2;go_end0;refine⟨⟨_,rfl⟩,?_⟩;have:=Q.1;rwa [H.out,List.take_length]at this
theorem aaw(n:Nat)(hn:1<=n)(l B p:Nat)(v:Value)(rs:List Rec)(hlen:rs.length<=67108864)(W:World)(c:W.cell? ⟨B,0,none⟩=some (.pointer<|some ⟨p,0,none⟩))(L:ji W p v rs):
  WU Fence.wide n prog 127 #[.pointer<|some ⟨B,0,none⟩] (λx:Rec=>#[Es x]) rs (rowsOf v) l W:=λJ d Y h=>by
 have a:=L.cell;rcases L.recs with⟨rfl,rfl⟩|⟨g,b,rfl,e,r⟩
 .exact Et Fence.wide n trivial rfl l B p J W c a h
 .exact Hk n hn l B p g b rs hlen J W d Y e c a r h
theorem Lo{k:Nat}(h:k<128):bits .andNot .u8 (k:Int) 128=(k:Int):=by
 have:=u8_andNot_nat k 128 bL bL;rw[show((128:Nat):Int)=128 from rfl]at this;rw[this];congr 1;have:k&&&(2^7-1)=k%2^7:=Nat.and_two_pow_sub_one_eq_mod k 7;simpa [Nat.mod_eq_of_lt h]using this
theorem A8(n:Nat)(p:Nat)(w:World):
  CallsIn Fence.wide n prog 167 #[.pointer<|some ⟨p,0,none⟩] w λe w'=>e=.returned (.func (.func 217) #[] #[.pointer<|some ⟨w.heap.size,0,none⟩])/\w'=w.alloc (.cells #[.pointer<|some ⟨p,0,none⟩] 117):=by
 refine callsIn_of_wp func167 rfl trivial ?_ rfl;simp only[ntmps167,mB,zzr,mH,Nat.reduceAdd,Nat.reduceSub,mK,mL,nb,nU,n5,qC];gi_wp2;go_ret;exact⟨rfl,rfl⟩
theorem Lp(n:Nat)(hn:7<=n)(m l d g a:Nat)(q:Value)(rs:List Rec)(hlen:rs.length<=67108864)(il:oI rs)(W:World)(J:List Rec->World->Prop)
  (o:∀s A B,J s A->Below W.heap.size A B->J s B)
  (hY:∀f x c,J f c->W.heap.size<=c.heap.size->f++[x] <+: rs->YieldAt Fence.wide m prog l #[.int .u8 (x.kind:Int),.string (str x.nH)] c λe t =>
   e=.returned (.bool true)/\J (f++[x]) t/\ql W.heap.size (rowsOf q) c t)
  (M:W.cell? ⟨d,0,none⟩=some (.pointer (some ⟨g,0,none⟩))) (C:W.cell? ⟨g,0,none⟩=some (.pointer (some ⟨a,0,none⟩))) (hL:ji W a q rs) (h0:J [] W) :
  CallsIn Fence.wide n prog 217 #[.func (.yield l) #[] #[],.pointer (some ⟨d,0,none⟩)] W λe t=>(∃v,e=.returned v)/\J rs t:=by
 have F:Fence.wide.round=none:=rfl;have h1:1<=n:=bL;have bh:Fence.wide.fn 165:=trivial;have aQ:Fence.wide.fn 85:=trivial;have dz:Fence.wide.fn 127:=trivial;have K:d<W.heap.size:=zzF W ⟨d,0,none⟩ M;have nG:g<W.heap.size:=zzF W ⟨g,0,none⟩ C;obtain⟨c,G⟩:∃c,c=W.alloc (.cells #[.func (.yield l) #[] #[]] 318):=⟨_,rfl⟩;have E:Below W.heap.size W c:=by rw[G];exact(zzD _ W).alloc (zzc _) _
 have Y:Boxed c W.heap.size 318 (.func (.yield l) #[] #[]):=by rw[G];exact Boxed.new W _ _
 have df:c.heap.size=W.heap.size+1:=by rw[G];simp
 have V:c.cell? ⟨d,0,none⟩=some (.pointer (some ⟨g,0,none⟩)):=(E.cell (p:=⟨d,0,none⟩) K).trans M;have X:c.cell? ⟨g,0,none⟩=some (.pointer (some ⟨a,0,none⟩)):=(E.cell (p:=⟨g,0,none⟩) nG).trans C;have vU:=vg (n-1) bL g a q rs hlen il c X (hL.below E);rw[G] at V;refine callsIn_of_wp_marks func217 rfl trivial ?_ F;simp only[ntmps217,mB,zzr,mH,Nat.reduceAdd,Nat.reduceSub,mK,mL,nb,nU,n5,qC]
 gi_wp2_with fail
 rw[<-G];refine vU.mono ?_;clear vU V G;rintro e w ⟨rfl,cZ⟩;have T:Below W.heap.size W w:=E.trans (cZ.mono bL);have P:Boxed w W.heap.size 318 (.func (.yield l) #[] #[]):=(cZ.block W.heap.size bL).trans Y;obtain⟨b,i⟩:∃b,b=(w.alloc (.cells #[.int .u64 0] 43)).alloc (.cells #[.int .u64 0] 43):=⟨_,rfl⟩;have dT:=cZ.size;have zF:b.heap.size=w.heap.size+2:=by rw[i];simp
 have O:Below W.heap.size W b:=by rw[i];exact(T.alloc bL _).alloc cE _
 have c4:b.cell? ⟨d,0,none⟩=some (.pointer (some ⟨g,0,none⟩)):=(O.cell (p:=⟨d,0,none⟩) K).trans M;have Z:b.cell? ⟨g,0,none⟩=some (.pointer (some ⟨a,0,none⟩)):=(O.cell (p:=⟨g,0,none⟩) nG).trans C;have R:Boxed b W.heap.size 318 (.func (.yield l) #[] #[]):=by rw[i];exact(P.alloc _).alloc _
 have e3:Boxed b w.heap.size 43 (.int .u64 0):=by rw[i];exact(Boxed.new w _ _).alloc _
 have e4:Boxed b (w.heap.size+1) 43 (.int .u64 0):=by
  have:=Boxed.new (w.alloc (.cells #[.int .u64 0] 43)) 43 (.int .u64 0);rw[zzv,<-i] at this;exact this
 rw[i] at c4 Z
 gi_wp2_with (gi_at_call 85;refine(Hg Fence.wide (n-1) aQ F _ _).mono ?_;rintro e w' ⟨rfl,rfl⟩)
 rw[<-i]
 have L:Boxed (b.alloc (.cells #[.pointer (some ⟨a,0,none⟩)] 74)) (w.heap.size+1+1) 74 (.pointer (some ⟨a,0,none⟩)):=by
  have:=Boxed.new b 74 (.pointer (some ⟨a,0,none⟩))
  rwa [zF] at this
 have U:=R.alloc (.cells #[.pointer (some ⟨a,0,none⟩)] 74);have f3:=e3.alloc (.cells #[.pointer (some ⟨a,0,none⟩)] 74);have f4:=e4.alloc (.cells #[.pointer (some ⟨a,0,none⟩)] 74);have z:Below W.heap.size W (b.alloc (.cells #[.pointer (some ⟨a,0,none⟩)] 74)):=O.alloc bL _;have iz:(b.alloc (.cells #[.pointer (some ⟨a,0,none⟩)] 74)).heap.size=w.heap.size+3:=by rw[zzv,zF]
 obtain⟨u,eF⟩:∃u,u=b.alloc (.cells #[.pointer (some ⟨a,0,none⟩)] 74):=⟨_,rfl⟩;rw[<-eF] at L U f3 f4 z iz ⊢;clear i eF Y P R e3 e4 c4 Z O E T X;have H:=hL.below z
 refine ld F h1 (gf:=127) (lb:=#[.pointer (some ⟨w.heap.size+1+1,0,none⟩)]) rfl dz (enters_of func127 dJ rfl)
  (encs:=λx:Rec=>#[Es x]) (rs:=rs) (S:=rowsOf q) (λ_=>rfl) H.rows
  (λI Q _=>aaw (n-1) bL _ (w.heap.size+1+1) a q rs hlen I ((Q.cell (p:=⟨w.heap.size+1+1,0,none⟩) (by show w.heap.size+1+1<_;omega)).trans L.cell) (H.below Q))
  (λf A=>(Boxed A W.heap.size 318 (.func (.yield l) #[] #[])/\Boxed A w.heap.size 43 (.int .u64 0)/\Boxed A (w.heap.size+1) 43 (.int .u64 0))/\J f A)
  (λI Q=>⟨⟨(Q.block _ bL).trans U,(Q.block _ bL).trans f3,(Q.block _ bL).trans f4⟩,o _ _ _ h0 (z.trans (Q.mono bL))⟩)
  (λs A B hs hb=>⟨⟨(hb.block _ bL).trans hs.1.1,(hb.block _ bL).trans hs.1.2.1,(hb.block _ bL).trans hs.1.2.2⟩,o _ _ _ hs.2 (hb.mono bL)⟩)
  (λs A r hs=>⟨⟨(World.putObj_heap_other bL).trans hs.1.1,(World.putObj_heap_other bL).trans hs.1.2.1,(World.putObj_heap_other bL).trans hs.1.2.2⟩,o _ _ _ hs.2 ⟨rfl,rfl,rfl,by rw[cj];exact zzc _,λk D=>World.putObj_heap_other bL⟩⟩)
  (λx y A=>∃j,u.heap.size+2<=j/\A.heap[j]?=some (.cells #[.int .u64 (x.oq:Int),.int .u8 (x.kind:Int),.string (str x.nH)] 110 (0,0))/\y={ tmps:=#[.func (.yield l) #[] #[],.pointer (some ⟨d,0,none⟩),.pointer (some ⟨W.heap.size,0,none⟩),.pointer (some ⟨w.heap.size,0,none⟩),.pointer (some ⟨w.heap.size+1,0,none⟩),.pointer (some ⟨j,0,none⟩),undef,undef,.tuple #[.int .u64 0,.int .u64 0],.pointer (some ⟨g,0,none⟩),.tuple #[.int .u64 0,.int .u64 0],.int .u64 0,.int .u64 0,.pointer (some ⟨g,0,none⟩),.pointer (some ⟨g,0,none⟩),.pointer (some ⟨g,0,none⟩),.pointer (some ⟨a,0,none⟩),.func (.func 127) #[] #[.pointer (some ⟨w.heap.size+1+1,0,none⟩)],Es x,undef,undef,undef,undef,undef,undef,undef,undef,undef,undef,undef,undef,undef,undef,undef,undef,undef,undef,undef,undef,undef,undef,undef,undef,undef,undef,undef,undef,undef,undef,undef,undef,undef],defers:=[] })
  (λx y A r hs=>by obtain⟨j,g1,g2,g3⟩:=hs;exact⟨j,g1,(World.putObj_heap_other bL).trans g2,g3⟩)
  ?assign ?body ?done
 case assign =>
  have jE:=@Oper.semAt_some;rintro f x A a1 ⟨⟨y1,y2,y3⟩,hj⟩ rh dN hK
  gi_wp2
  exact hK _ _ ⟨⟨y1.alloc _,y2.alloc _,y3.alloc _⟩,o _ _ _ hj ((zzD _ A).alloc bL _)⟩ (ql.alloc _ _ _ _) ⟨A.heap.size,rh,World.alloc_heap_new A _,rfl⟩
 case body =>
  have jE:=@Oper.semAt_some;rintro f x y A ⟨⟨y1,y2,y3⟩,hj⟩ rh ⟨j,hBx,bX,rfl⟩ dN;have x0:=ay bX 0;have x1:=ay bX 1;have x2:=ay bX 2;simp at x0 x1 x2;have v1:=y1.cell;have v2:=y2.cell;have v3:=y3.cell;obtain⟨D,dY⟩:=il x (dN.subset bR);have k1:(x.kind:Int)<128:=bL
  have k2:(0:Int)<(x.oq:Int):=bL;have k3:¬(x.oq:Int)<0:=bL;have k4:=Lo D;have h3:1<=n-1-1:=bL;obtain⟨fn,tmps,assign,body,hy,xj⟩:=sI (m':=n-1-1-1) (hY f x A hj bL dN)
  gi_wp2
  refine xj.mono ?_;rintro e W3 ⟨rfl,rP,h⟩;have N:=af (zzb rP h);clear rP h
  gi_wp2
  have h:=N.2;refine⟨⟨⟨(h.high _ bL bL).trans y1,(h.high _ bL bL).trans y2,(h.high _ bL bL).trans y3⟩,N.1⟩,h.mono bL⟩
 case done =>
  rintro A ⟨⟨y1,y2,y3⟩,hj⟩ rh hK
  gi_wp2
  refine⟨bR,.inl ⟨_,_,rfl,run_takeDeferred hK,?_⟩⟩;exact⟨_,results_none rfl _ _ _,⟨_,rfl⟩,o _ _ _ hj ⟨rfl,rfl,rfl,by rw[cj];exact zzc _,λk D=>World.putObj_heap_other bL⟩⟩
theorem JU(n:Nat)(hn:7<=n)(l B p a:Nat)(v:Value)(rs:List Rec)(hlen:rs.length<=67108864)(i:oI rs)(W:World)(M:W.cell? ⟨B,0,none⟩=some (.pointer<|some ⟨p,0,none⟩))(g:W.cell? ⟨p,0,none⟩=some (.pointer<|some ⟨a,0,none⟩))(L:ji W a v rs):
  WU Fence.wide n prog 217 #[.pointer<|some ⟨B,0,none⟩] (λx:Rec=>#[.int .u8 (x.kind:Int),.string<|str x.nH]) rs (rowsOf v) l W:=λJ b Y h=>
 Lp n hn (n-1) l B p a v rs hlen i W J b Y M g L h
end
variable{bH bT bV lp p sp:Nat}{a b:World}
structure pO(sp bV bT bH lp p:Nat)(w w':World):Prop where
 os:w'.os=w.os
 tape:w'.tape=w.tape
 output:w'.output=w.output
 size:w.heap.size<=w'.heap.size
 block:∀k,k<w.heap.size->¬Own lp p w k->k∉[sp,bV,bT,bH]->w'.heap[k]?=w.heap[k]?
 stay:∀k,k<w.heap.size->Own lp p w' k->Own lp p w k
theorem pO.trans{c:World}(h:pO sp bV bT bH lp p a b)(k:pO sp bV bT bH lp p b c):pO sp bV bT bH lp p a c:=
 ⟨k.os.trans h.os,k.tape.trans h.tape,k.output.trans h.output,zzk h.size k.size,
  λi d hn m=>(k.block i (zzl d h.size) (λo=>hn<|h.stay i d o) m).trans<|h.block i d hn m,
  λi d o=>h.stay i d (k.stay i (zzl d h.size) o)⟩
theorem ku.s(h:ku lp p a b):pO sp bV bT bH lp p a b:=⟨h.os,h.tape,h.output,h.size,λi c hn _=>h.block i c hn,h.stay⟩
structure SL(w:World)(B sp gp bV bT bH m lp p bD bN n:Nat)(s:ag)(l:au)(d:ah):Prop where
 sh:a_ w sp gp bV bT bH m s
 lg:∃pv sv rv nD nN,aA w B lp p bD bN pv sv rv l d n nD nN
 ap:Bb w sp gp bV bT bH bD bN lp
 oN:1<=gp
section
variable{w w':World}{B sp gp bV bT bH m m' lp p bD bN n n':Nat}{s s':ag}{l G:au}{d E:ah}
theorem SL.ic{S:List Nat}(h:SL w B sp gp bV bT bH m lp p bD bN n s l d)(hs:a_ w' sp gp bV bT bH m' s')(hf:Fr S w w')(b:∀k∈S,k∈[sp,bV,bT,bH]):SL w' B sp gp bV bT bH m' lp p bD bN n s' l d/\pO sp bV bT bH lp p w w':=by
 have⟨v,i,r,D,N,c⟩:=h.lg;have⟨a,e⟩:=c.jg h.sh h.ap hf b;refine⟨⟨hs,⟨v,i,r,D,N,a⟩,e,h.oN⟩,hf.os,hf.tape,hf.output,hf.size,λk f _ g=>hf.block k f λx=>g<|b k x,λk _ o=>?_⟩;rw[c.own];exact(a.own k).1 o
theorem SL.new(h:SL w B sp gp bV bT bH m lp p bD bN n s l d)(hf:Fr [] w w'):SL w' B sp gp bV bT bH m lp p bD bN n s l d/\pO sp bV bT bH lp p w w':=
 h.ic (h.sh.fr hf bR bR bR bR) hf bR
theorem SL.log(h:SL w B sp gp bV bT bH m lp p bD bN n s l d)(hf:ku lp p w w')(f:∃v c r D N,aA w' B lp p bD bN v c r G E n' D N):SL w' B sp gp bV bT bH m lp p bD bN n' s G E/\pO sp bV bT bH lp p w w':=by
 have⟨v,c,r,D,N,e⟩:=h.lg;have⟨a,b⟩:=h.sh.zY e h.ap hf;exact⟨⟨a,f,b,h.oN⟩,hf.s⟩
theorem SL.lh(h:SL w B sp gp bV bT bH m lp p bD bN n s l d)(hf:pO sp bV bT bH lp p w w')(c:2<=B)(hs:B<=sp/\B<=bV/\B<=bT/\B<=bH)(b:bI w):bI w':=by
 have⟨v,e,r,D,N,a⟩:=h.lg;exact b.cI<|hf.block 1 (by have:=a.bq.base.2.2.2;omega) (λo=>by have:=a.ge o;omega) cE
end
theorem kQ(sp lg bV bT bH n t:Nat)(s:ag)(w:World)(h:a_ w sp lg bV bT bH n s)(b:t<18446744073709551616):
  Calls prog 219 #[.pointer<|some ⟨sp,0,none⟩,.int .u64 (t:Int)] w λe w'=>e=.returned (.int .i64 ((s.aP t).state:Int))/\w'=w:=by
 have c2:=ae h.blk 2;simp at c2;have l:=h.f_ b;have u:=JV;have⟨T,a⟩:=gb <|s.aP t;rw[<-a]at l ⊢;clear h a;go_enter func219,ntmps219;go_wp2;go_ret;exact⟨rfl,rfl⟩
theorem EK(sp gp bV bT bH m t:Nat)(s:ag)(w:World)(h:a_ w sp gp bV bT bH m s)(b:t<18446744073709551616)(G:t=0\/(s.aP t).state≠3):
  Calls prog 248 #[.pointer<|some ⟨sp,0,none⟩,.int .u64 (t:Int)] w λe w'=>e=.returned (cf<|if t=0 then 7 else if (s.aP t).state=0 then 0 else 4)/\w'=w:=by
 have B:=kQ sp gp bV bT bH m t s w h b;clear h;by_cases a:t=0
 .rw[if_pos a];subst a;clear G B;go_enter func248,ntmps248;go_wp2;go_ret;exact⟨by rw[aG bM];rfl,rfl⟩
 .rw[if_neg a];have i:¬(t:Int)=0:=bL;by_cases z:(s.aP t).state=0
  .rw[if_pos z];rw[z]at B;clear G;go_enter func248,ntmps248;go_wp2_with fail;apply B.mono;clear B;rintro e c ⟨rfl,rfl⟩;go_wp2;go_ret;exact⟨rfl,rfl⟩
  .rw[if_neg z];have j:¬((s.aP t).state:Int)=0:=bL;have d:(((s.aP t).state:Int) != 3)=true:=cE;clear G;go_enter func248,ntmps248;go_wp2_with fail;apply B.mono;rintro e c ⟨rfl,rfl⟩;go_wp2_with fail;apply B.mono;rintro e f ⟨rfl,rfl⟩;clear B;go_wp2;go_ret;exact⟨by rw[aG bM];rfl,rfl⟩
def lS(s s':ag)(t:Nat):Prop:=∃v,s'=ag.forget { s with aM:=v } t/\∀k,ak v k=im (ak s.holds (t,k)) (ak s.aM k)
section
variable(B sp gp bV bT bH m lp p bD bN n t c:Nat)(s:ag)(l:au)(d:ah)(w:World)
theorem Hr(h:SL w B sp gp bV bT bH m lp p bD bN n s l d)(v:t<18446744073709551616)(h0:t≠0)(M:(s.aP t).state=3)(hn:n+3<67108864)(Q:2<=B)(N:l.filled<600->l.segs≠[])(J:bI w)(W:m+c<maxLen)(E:s.count t<=c)(F:∀p∈s.holds,p.2.val.size<=maxLen):
  Calls prog 248 #[.pointer<|some ⟨sp,0,none⟩,.int .u64 (t:Int)] w λe w'=>e=.returned (cf (l.keep d 2<|str<|be 8 t).2.2)/\(∃s',SL w' B sp gp bV bT bH (m+c) lp p bD bN (n+3) s' (l.keep d 2<|str<|be 8 t).1 (l.keep d 2<|str<|be 8 t).2.1/\(if (l.keep d 2<|str<|be 8 t).2.2=0 then lS s s' t else s'=s))/\pO sp bV bT bH lp p w w':=by
 have j:=kQ sp gp bV bT bH m t s w h.sh v;rw[M]at j;have i0:¬(t:Int)=0:=bL;have r:=ae h.sh.blk 0;simp at r;rw[dE h.oN]at r;have xo:=h.sh.eY.1;have S:=vR t w.drew v;have O:Hid (b_ s.holds):=by obtain⟨_,_,_,P,_⟩:=h.sh.holds;exact P
 have K:Hid (∀f,Fr [] w f->Calls prog 97 #[.pointer<|some ⟨gp,0,none⟩,.int .u8 2,.string<|str<|be 8 t] f λe b=>e=.returned (cf (l.keep d 2<|str<|be 8 t).2.2)/\SL b B sp gp bV bT bH m lp p bD bN (n+3) s (l.keep d 2<|str<|be 8 t).1 (l.keep d 2<|str<|be 8 t).2.1/\pO sp bV bT bH lp p w b):=λf y=>by
  obtain⟨g,df⟩:=h.new y;obtain⟨pv,sv,rv,Y,Z,V⟩:=g.lg;have X:bI f:=J.cI (y.block 1 (by obtain⟨_,_,_,_,_,i⟩:=h.lg;have:=i.bq.base.2.2.2;omega) bR);refine(tR B gp lp p bD bN n Y Z 2 pv sv rv l d (str<|be 8 t) f g.ap.ju V (by omega) hn Q N X).mono ?_;rintro e b ⟨he,eh,gH⟩;obtain⟨i,T⟩:=g.log gH eh;exact⟨he,i,df.trans T⟩
 have HH:=af h;have C:=af<|zzb E F;clear h E F N;obtain⟨R,D⟩:∃R,R=l.keep d 2 (str<|be 8 t):=⟨_,rfl⟩;rw[<-D]at K ⊢;clear D
 go_enter func248,ntmps248
 go_wp2_with fail;refine j.mono ?_;rintro e f ⟨rfl,rfl⟩;go_wp2_with fail;refine j.mono ?_;rintro e b ⟨rfl,rfl⟩;clear j;go_wp2
 go_region_held3 (λw'=>w'.cell? ⟨sp,0,none⟩=some (.pointer<|some ⟨gp,0,none⟩))
  (simp[*])
  (first
   |(go_at_call 277;refine S.mono ?_;rintro e o ⟨rfl,ja⟩;have z:Fr [] b o:=⟨ja.os,ja.tape,ja.output,ja.size,λk U _=>ja.block k U⟩;have p0:o.cell? ⟨sp,0,none⟩=some (.pointer<|some ⟨gp,0,none⟩):=(zze (a:=⟨sp,0,none⟩)<|z.block sp xo bR).trans r;have G:Hid (Fr [] b o):=z;clear ja z)
   |(go_at_call 97;refine(K.out o G.out).mono ?_;rintro e q ⟨rfl,h4,zF⟩;have q0:q.cell? ⟨sp,0,none⟩=some (.pointer (some ⟨gp,0,none⟩)):=(ae h4.sh.blk 0).trans (by simp[dE h4.oN]);have H:Hid (SL q B sp gp bV bT bH m lp p bD bN (n+3) s R.1 R.2.1/\pO sp bV bT bH lp p b q):=⟨h4,zF⟩;clear h4 zF))
 by_cases u:R.2.2=0
 .rw[u,bK];go_wp2_with fail;refine(Bc sp gp bV bT bH m t c s q H.1.sh v W (λL g i=>by rw[ag.nT O.out g i];exact C.1) C.2).mono ?_;rintro e w5 ⟨rfl,vs,iz,my,cO⟩;have⟨A,I⟩:=H.1.ic iz cO bR;have x:=af<|zzb A<|H.2.trans I;clear iz cO A I;go_wp2;go_ret;exact⟨rfl,⟨_,x.1,⟨vs,rfl,my⟩⟩,x.2⟩
 .rw[aG u];go_wp2;go_ret;exact⟨by rw[aG u];rfl,⟨H.1.sh.mono<|Nat.le_add_right _ _,H.1.lg,H.1.ap,H.1.oN⟩,H.2⟩
theorem Hs(h:a_ w sp gp bV bT bH m s)(b:t<18446744073709551616)(G:t=0\/(s.aP t).state≠3):
  Calls prog 249 #[.pointer<|some ⟨sp,0,none⟩,.int .u64 (t:Int)] w λe w'=>e=.returned (cf<|if t=0 then 7 else 0)/\a_ w' sp gp bV bT bH m (if t=0 then s else s.forget t)/\Fr [bT,bH] w w':=by
 have B:=kQ sp gp bV bT bH m t s w h b;by_cases a:t=0
 .rw[if_pos a,if_pos a];subst a;have I:=af h;clear G B h;go_enter func249,ntmps249;go_wp2;go_ret;exact⟨by rw[aG bM];rfl,I.out,Fr.refl _ _⟩
 .rw[if_neg a,if_neg a];have i:¬(t:Int)=0:=bL;have j:¬((s.aP t).state:Int)=3:=bL;have z:=kz sp gp bV bT bH m t s w h b;clear G h;go_enter func249,ntmps249;go_wp2_with fail;apply B.mono;rintro e c ⟨rfl,rfl⟩;go_wp2_with fail;apply z.mono;clear B z;rintro e d ⟨rfl,h2,aQ⟩;have H:=af<|zzb h2 aQ;clear h2 aQ;go_wp2;go_ret;exact⟨rfl,H.out⟩
theorem Lz(h:SL w B sp gp bV bT bH m lp p bD bN n s l d)(q:t<18446744073709551616)(W:t≠0)(G:(s.aP t).state=3)(hn:n+3<67108864)(E:2<=B)(N:l.filled<600->l.segs≠[])(D:bI w):
  Calls prog 249 #[.pointer<|some ⟨sp,0,none⟩,.int .u64 (t:Int)] w λe w'=>e=.returned (cf (l.note d 3<|str<|be 8 t).2.2)/\SL w' B sp gp bV bT bH m lp p bD bN (n+3) (if (l.note d 3<|str<|be 8 t).2.2=0 then s.forget t else s) (l.note d 3<|str<|be 8 t).1 (l.note d 3<|str<|be 8 t).2.1/\pO sp bV bT bH lp p w w':=by
 have u:=kQ sp gp bV bT bH m t s w h.sh q;rw[G]at u;have X:¬(t:Int)=0:=bL;have i:=ae h.sh.blk 0;simp at i;rw[dE h.oN]at i;have V:=h.sh.eY.1;have F:=vR t w.drew q
 have K:Hid (∀c,Fr [] w c->Calls prog 148 #[.pointer<|some ⟨gp,0,none⟩,.int .u8 3,.string<|str<|be 8 t] c λe b=>e=.returned (cf (l.note d 3<|str<|be 8 t).2.2)/\SL b B sp gp bV bT bH m lp p bD bN (n+3) s (l.note d 3<|str<|be 8 t).1 (l.note d 3<|str<|be 8 t).2.1/\pO sp bV bT bH lp p w b):=λc x=>by
  obtain⟨j,df⟩:=h.new x;obtain⟨Q,U,S,O,P,L⟩:=j.lg;have M:bI c:=D.cI (x.block 1 (by obtain⟨_,_,_,_,_,o⟩:=h.lg;have:=o.bq.base.2.2.2;omega) bR);refine(qi B gp lp p bD bN n O P 3 Q U S l d (str<|be 8 t) c j.ap.ju L (by omega) hn E N M).mono ?_;rintro e b ⟨he,eh,gH⟩;obtain⟨o,T⟩:=j.log gH eh;exact⟨he,o,df.trans T⟩
 clear h N;obtain⟨R,A⟩:∃R,R=l.note d 3 (str<|be 8 t):=⟨_,rfl⟩;rw[<-A]at K ⊢;clear A
 go_enter func249,ntmps249
 go_wp2_with fail;refine u.mono ?_;rintro e b ⟨rfl,rfl⟩;clear u;go_wp2
 go_region_held3 (λw'=>w'.cell? ⟨sp,0,none⟩=some (.pointer<|some ⟨gp,0,none⟩))
  (simp[*])
  (first
   |(go_at_call 277;refine F.mono ?_;rintro e f ⟨rfl,ja⟩;have z:Fr [] b f:=⟨ja.os,ja.tape,ja.output,ja.size,λk J _=>ja.block k J⟩;have Y:f.cell? ⟨sp,0,none⟩=some (.pointer<|some ⟨gp,0,none⟩):=(zze (a:=⟨sp,0,none⟩)<|z.block sp V bR).trans i;have C:Hid (Fr [] b f):=z;clear ja z)
   |(go_at_call 148;refine(K.out f C.out).mono ?_;rintro e g ⟨rfl,h4,zF⟩;have Z:g.cell? ⟨sp,0,none⟩=some (.pointer (some ⟨gp,0,none⟩)):=(ae h4.sh.blk 0).trans (by simp[dE h4.oN]);have H:Hid (SL g B sp gp bV bT bH m lp p bD bN (n+3) s R.1 R.2.1/\pO sp bV bT bH lp p b g):=⟨h4,zF⟩;clear h4 zF))
 by_cases r:R.2.2=0
 .rw[r,bK];go_wp2_with fail;refine(kz sp gp bV bT bH m t s g H.1.sh q).mono ?_;rintro e w5 ⟨rfl,iz,cO⟩;have⟨y,I⟩:=H.1.ic iz cO bR;have v:=af<|zzb y<|H.2.trans I;clear iz cO y I;go_wp2;go_ret;exact⟨rfl,v.1,v.2⟩
 .rw[aG r];go_wp2;go_ret;exact⟨by rw[aG r];rfl,H.1,H.2⟩
end
theorem yG{w:World}{base n:Nat}{v:Value}{rs:List Rec}(h:w.ownsRow base 110 3 v n (eH rs)):ve w.heap.size w v rs:=by
 have l:rs.length=n:=by have:=h.1;rw[uQ] at this;omega
 have U:=h.lt;obtain⟨o,p,e,H⟩:=Hu h;rcases h.2 with⟨a,q⟩|⟨g,R,j,a,hb,s,rest⟩
 .left;exact⟨a,List.eq_nil_of_length_eq_zero (by omega)⟩
 .right;refine⟨g,R,by rw[a,l],(U g (by rw[a];rfl)).2,λk r i=>?_⟩;obtain⟨F,P⟩:=zzd.1 i;obtain⟨m,f,b,c,d⟩:=H k F;rw[a] at e
  cases e
  cases f;rw[P] at b c d;exact⟨b,c,d⟩
theorem vr{L:List (ByteArray×aK)}(b:b_ L){x:ByteArray×aK}(a:x∈dG L):x∈L:=by
 unfold dG at a;obtain⟨k,c,rfl⟩:=zzq.1 a;have⟨v,h⟩:=qX.1 c;rw[cP b h];exact h
theorem EL{hs:List ((Nat×ByteArray)×aK)}(h:b_ hs)(t:Nat):∃L:List<|ByteArray×aK,b_ L/\∀k,ak L k=ak hs (t,k):=by
 refine⟨(hs.filter λp=>decide<|p.1.1=t).map λp=>(p.1.2,p.2),?_,λk=>?_⟩
 .unfold b_;rw[List.pairwise_map];apply(List.Pairwise.filter _ h).imp_of_mem;intro a b f hb g e;have c:=(zzp.1 f).2;have d:=(zzp.1 hb).2;simp at c d;exact g<|Prod.ext (c.trans d.symm) e
 .unfold ak;rw[List.find?_map,List.find?_filter,Option.map_map];have i:∀(p q:(Nat×ByteArray)×aK->Bool),(∀a,p a=q a)->hs.find? p=hs.find? q:=λp q e=>by rw[funext e]
  rw[i _ (λp=>decide<|p.1=(t,k)) λa=>by have⟨⟨j,l⟩,m⟩:=a;simp[Prod.ext_iff]];rfl
def ag.Small(s:ag):Prop:=∀p∈s.holds,gP (p.1.2,p.2)
def ag.pJ(s:ag)(l:au)(d:ah)(t:Nat)(L:List (ByteArray × aK)):ag × au × ah × Nat × Nat :=
 if Cx L=true then
  if (l.keep d 1 (str (be 8 t++cF (dG L)))).2.2=0 then ({ s with ai:=aV s.ai t ⟨3,0,0⟩ },(l.keep d 1 (str (be 8 t++cF (dG L)))).1,(l.keep d 1 (str (be 8 t++cF (dG L)))).2.1,2,0)
  else (s,(l.keep d 1 (str (be 8 t++cF (dG L)))).1,(l.keep d 1 (str (be 8 t++cF (dG L)))).2.1,0,(l.keep d 1 (str (be 8 t++cF (dG L)))).2.2)
 else (s.forget t,l,d,4,0)
section
variable(B E G O J I m h p U Z n t:Nat)(s:ag)(l:au)(d:ah)(w:World)
theorem Pd(K:SL w B E G O J I m h p U Z n s l d)(M:t<18446744073709551616)(hn:n+3<67108864)(hB:2<=B)(lN:l.filled<600->l.segs≠[])(aH:bI w)(hm:m<67108864)(hc:s.count t<=16)(hv:s.Small):
  Calls prog 276 #[.pointer<|some ⟨E,0,none⟩,.int .u64 (t:Int)] w λe w'=>∃L,b_ L/\(∀k,ak L k=ak s.holds (t,k))/\e=.returned (.tuple #[.int .i64 ((s.pJ l d t L).2.2.2.1:Int),cf (s.pJ l d t L).2.2.2.2])/\SL w' B E G O J I (m+1) h p U Z (n+3) (s.pJ l d t L).1 (s.pJ l d t L).2.1 (s.pJ l d t L).2.2.1/\pO E O J I h p w w':=by
 have Lx:=mU E G O J I m t s w K.sh M eA;have o:=af<|zzb K<|zzb aH<|zzb hc<|zzb hv lN;have xo:=K.sh.eY.1;clear K hc hv lN aH
 go_enter func276,ntmps276;go_wp2_with fail;refine Lx.mono ?_;clear Lx;rintro e j ⟨b,L,rfl,hb,hL,my,C⟩;have uH:=Ah b m L j hL;have i:=af<|zzb hL<|zzb my C;have q:Hid (b_ L):=by have⟨_,_,_,y,_⟩:=hL;exact y
 have gT:=hL.lt;clear hL my C;go_wp2_with fail;refine uH.mono ?_;clear uH;rintro e c ⟨rfl,aQ⟩;have pM:=af<|i.2.2.trans aQ;have ig:Hid (aO KS EG c b m L):=i.1.fr aQ bR;have⟨u,T⟩:=o.1.new pM.out;have f:=af<|zzb u T;clear aQ u T
 cases N:Cx L with
 |false=>
  have P:Hid (s.pJ l d t L=(s.forget t,l,d,4,0)):=by show _=_;unfold ag.pJ;rw[if_neg<|by rw[N];decide]
  clear N;go_wp2_with fail;refine(kz E G O J I m t s c f.1.sh M).mono ?_;rintro e F ⟨rfl,k_,z⟩;obtain⟨y,po⟩:=f.1.ic k_ z bR;have g:=af<|zzb y<|f.2.trans po;clear k_ z y po;go_wp2;go_ret2;obtain⟨pv,sv,rv,nD,nN,Y⟩:=g.1.lg;refine⟨L,q.out,i.2.1,?_,?_,g.2⟩
  .rw[P.out];rfl
  .rw[P.out];exact⟨g.1.sh.mono bL,⟨pv,sv,rv,nD,nN,Y.lx bL bL⟩,g.1.ap,g.1.oN⟩
 |true=>
  have Pe:∀x∈dG L,gP x:=λx hx=>by
   have r:=cP q.out<|vr q.out hx;rw[i.2.1]at r;exact o.2.2.2.1 _<|bZ r
  have hlen:L.length<=16:=by
   have th:b_ s.holds:=by obtain⟨_,_,_,y,_⟩:=f.1.sh.holds;exact y
   rw[ag.nT th q.out i.2.1];exact o.2.2.1
  have U_:=tT t b m L bL c.drew (ig.out.fr (lT c).drew bR) M Pe hlen;obtain⟨X,W⟩:∃X,X=str (be 8 t++cF (dG L)):=⟨_,rfl⟩;rw[<-W]at U_
  have HK:Hid (∀j,Fr [] c j->Calls prog 97 #[.pointer<|some ⟨G,0,none⟩,.int .u8 1,.string X] j λe c=>e=.returned (cf (l.keep d 1 X).2.2)/\SL c B E G O J I m h p U Z (n+3) s (l.keep d 1 X).1 (l.keep d 1 X).2.1/\pO E O J I h p w c):=λj C=>by
   obtain⟨r,df⟩:=f.1.new C;obtain⟨pv,sv,rv,nD,nN,Y⟩:=r.lg;have lr:bI j:=o.2.1.cI ((pM.out.trans C).block 1 (by obtain⟨_,_,_,_,_,u⟩:=o.1.lg;have:=u.bq.base.2.2.2;omega) bR);refine(tR B G h p U Z n nD nN 1 pv sv rv l d X j r.ap.ju Y bL hn hB o.2.2.2.2 lr).mono ?_;rintro e c ⟨he,eh,gH⟩;obtain⟨u,T⟩:=r.log gH eh;exact⟨he,u,f.2.trans<|df.trans T⟩
  obtain⟨R,V⟩:∃R,R=l.keep d 1 X:=⟨_,rfl⟩;have P:Hid (s.pJ l d t L=if R.2.2=0 then ({s with ai:=aV s.ai t ⟨3,0,0⟩},R.1,R.2.1,2,0)else (s,R.1,R.2.1,0,R.2.2)):=by show _=_;unfold ag.pJ;rw[if_pos N,<-W,<-V]
  rw[<-V]at HK;clear V W N Pe hlen;have Q:=ae f.1.sh.blk 0;simp at Q;rw[dE f.1.oN]at Q;have a1:=f.1.sh.eY.1;go_wp2
  go_region_held3 (λw'=>w'.cell? ⟨E,0,none⟩=some (.pointer<|some ⟨G,0,none⟩))
   (simp[*])
   (first
    |(go_at_call 190;refine U_.mono ?_;rintro e F ⟨rfl,ja⟩;have z:Fr [] c F:=⟨ja.os,ja.tape,ja.output,ja.size,λk hk _=>ja.block k hk⟩;have p0:F.cell? ⟨E,0,none⟩=some (.pointer<|some ⟨G,0,none⟩):=(zze (a:=⟨E,0,none⟩)<|z.block E a1 bR).trans Q;have g:Hid (Fr [] c F):=z;clear ja z)
    |(go_at_call 97;refine(HK.out F g.out).mono ?_;rintro e w4 ⟨rfl,h4,zF⟩;have q0:w4.cell? ⟨E,0,none⟩=some (.pointer (some ⟨G,0,none⟩)):=(ae h4.sh.blk 0).trans (by simp[dE h4.oN]);have H:Hid (SL w4 B E G O J I m h p U Z (n+3) s R.1 R.2.1/\pO E O J I h p w w4):=⟨h4,zF⟩;clear h4 zF))
  by_cases A:R.2.2=0
  .rw[A,bK];have D:Hid (s.pJ l d t L=({s with ai:=aV s.ai t ⟨3,0,0⟩},R.1,R.2.1,2,0)):=by show _=_;rw[P.out,if_pos A]
   have c2:=ae H.1.sh.blk 2;simp at c2;have⟨w5,rU,zH,pB⟩:=H.1.sh.ai.fA underlying136 eA (k:=t) M (v:=(⟨3,0,0⟩:ft)) trivial;change (Instr.mapUpdate _ _ (.int .u64 (t:Int))<|.agg #[.int .i64 3,.int .i64 0,.int .u64 0]).run _ _=_ at rU;have S:=Fr.aF pB;have⟨h5,pI⟩:=H.1.ic (H.1.sh.fS S zH bL) S bR;have H5:=af<|zzb h5<|H.2.trans pI;clear A P zH pB S h5 pI;go_wp2;go_ret2;refine⟨L,q.out,i.2.1,?_,?_,H5.2⟩
   .rw[D.out];rfl
   .rw[D.out];exact H5.1
  .have D:Hid (s.pJ l d t L=(s,R.1,R.2.1,0,R.2.2)):=by show _=_;rw[P.out,if_neg A]
   rw[aG A];go_wp2;go_ret2;refine⟨L,q.out,i.2.1,?_,?_,H.2⟩
   .rw[D.out,aG A];rfl
   .rw[D.out];exact⟨H.1.sh.mono bL,H.1.lg,H.1.ap,H.1.oN⟩
def ag.gQ(s:ag)(l:au)(d:ah)(t:Nat)(L:List (ByteArray × aK)):ag × au × ah × Nat × Nat :=
 if t=0 then (s,l,d,0,7) else if (s.aP t).state=3 then (s,l,d,2,0) else if (s.aP t).state=1 then s.pJ l d t L else (s.forget t,l,d,3,0)
theorem EM(c:SL w B E G O J I m h p U Z n s l d)(u:t<18446744073709551616)(hn:n+3<67108864)(R:2<=B)(N:l.filled<600->l.segs≠[])(v:bI w)(V:m<67108864)(y:s.count t<=16)(D:s.Small):
  Calls prog 247 #[.pointer<|some ⟨E,0,none⟩,.int .u64 (t:Int)] w λe w'=>∃L,b_ L/\(∀k,ak L k=ak s.holds (t,k))/\e=.returned (.tuple #[.int .i64 ((s.gQ l d t L).2.2.2.1:Int),cf (s.gQ l d t L).2.2.2.2])/\SL w' B E G O J I (m+1) h p U Z (n+3) (s.gQ l d t L).1 (s.gQ l d t L).2.1 (s.gQ l d t L).2.2.1/\pO E O J I h p w w':=by
 have M:b_ s.holds:=by have⟨_,_,_,a,_⟩:=c.sh.holds;exact a
 have⟨q,C,K⟩:∃L,b_ L/\∀k,ak L k=ak s.holds (t,k):=EL M t;have f:=af<|zzb C K
 have r:Hid (∀{w':World} {s':ag},SL w' B E G O J I m h p U Z n s' l d->SL w' B E G O J I (m+1) h p U Z (n+3) s' l d):=λ{w' s'} j=>by
  have⟨pv,sv,rv,X,Y,T⟩:=j.lg;exact⟨j.sh.mono bL,⟨pv,sv,rv,X,Y,T.lx bL bL⟩,j.ap,j.oN⟩
 have o:=af c;have S:=af<|(c.new<|lT w).2;have b:=kQ E G O J I m t s w c.sh u;have A:=Pd B E G O J I m h p U Z n t s l d w c u hn R N v V y D;have z:=kz E G O J I m t s w c.sh u;clear C K M c N v y D;by_cases g:t=0
 .have P:Hid (∀L,s.gQ l d t L=(s,l,d,0,7)):=λL=>by unfold ag.gQ;rw[if_pos g]
  subst g;clear b A z;go_enter func247,ntmps247;go_wp2;go_ret2;refine⟨q,f.1,f.2,?_,?_,S.out⟩
  .rw[P.out];show _=Ending.returned (.tuple #[.int .i64 0,cf 7]);rw[aG bM];rfl
  .rw[P.out];exact r.out o.out
 have i0:¬(t:Int)=0:=bL;by_cases a:(s.aP t).state=3
 .have P:Hid (∀L,s.gQ l d t L=(s,l,d,2,0)):=λL=>by unfold ag.gQ;rw[if_neg g,if_pos a]
  rw[a]at b;clear A z a;go_enter func247,ntmps247;go_wp2_with fail;apply b.mono;clear b;rintro e Q ⟨rfl,rfl⟩;go_wp2;go_ret2;refine⟨q,f.1,f.2,?_,?_,S.out⟩
  .rw[P.out];rfl
  .rw[P.out];exact r.out o.out
 have W:¬((s.aP t).state:Int)=3:=bL;by_cases i:(s.aP t).state=1
 .have P:Hid (∀L,s.gQ l d t L=s.pJ l d t L):=λL=>by unfold ag.gQ;rw[if_neg g,if_neg a,if_pos i]
  rw[i]at b;clear z i a W;go_enter func247,ntmps247;go_wp2_with fail;apply b.mono;clear b;rintro e Q ⟨rfl,rfl⟩;go_wp2_with fail;apply A.mono;clear A;rintro e w2 ⟨L,a1,a2,rfl,a3,a4⟩;have H:=af<|zzb a1<|zzb a2<|zzb a3 a4;clear a1 a2 a3 a4;go_wp2;go_ret2;refine⟨L,H.1,H.2.1,?_,?_,H.2.2.2⟩
  .rw[P.out];rfl
  .rw[P.out];exact H.2.2.1
 .have i1:¬((s.aP t).state:Int)=1:=bL;have P:Hid (∀L,s.gQ l d t L=(s.forget t,l,d,3,0)):=λL=>by unfold ag.gQ;rw[if_neg g,if_neg a,if_neg i]
  clear A i a;go_enter func247,ntmps247;go_wp2_with fail;apply b.mono;clear b;rintro e Q ⟨rfl,rfl⟩;go_wp2_with fail;apply z.mono;clear z;rintro e w2 ⟨rfl,dT,aQ⟩;have⟨x,F⟩:=o.out.ic dT aQ bR;have H:=af<|zzb x F;clear dT aQ x F;go_wp2;go_ret2;refine⟨q,f.1,f.2,?_,?_,H.2⟩
  .rw[P.out];rfl
  .rw[P.out];exact r.out H.1
end
section
open Go.Shelf
variable{ps:List Nat}{k:Nat}
def aav{α:Type}(F:Fence)(n:Nat)(P:Program)(gf:Nat)(lb:Array Value)(encs:α->Array Value)(rs:List α)(S:List Nat)(l:Nat)(W:World):Prop :=
 ∀J:List α->World->Prop,
  (∀p x b,J p b->W.heap.size<=b.heap.size->p++[x] <+: rs->YieldAt F (n-1) P l (encs x) b λe a=>e=.returned (.bool true)/\J (p++[x]) a/\oH S b a) ->
  J [] W->CallsIn F n P gf (#[.func (.yield l) #[] #[]]++lb) W λe a=>(∃v,e=.returned v)/\J rs a
section
variable{F:Fence}{n:Nat}{P:Program}
theorem tV{α:Type}{g:Operand}{ps:Array Tmp}{assign body:Code}{Q:Exit->Act->World->Prop}{a:Act}{w:World}
  (hro:F.round=none) (h1:1<=n) {gf:Nat} {lb:Array Value} (hg:a.eval g=.func (.func gf) #[] lb) (Lf:F.fn gf) (eg:∀args w,(callFunc gf args).run P w=.ok (.enter gf args) w)
  {encs:α->Array Value} {rs:List α} {S:List Nat} (az:∀x,(encs x).size=ps.size) (hS:∀k∈S,k<w.heap.size)
  (nc:∀W1,Below w.heap.size w W1->W1.heap.size=w.heap.size+2->aav F (n-1) P gf lb encs rs S (w.heap.size+1) W1)
  (I:List α->World->Prop) (WV:∀W1,Below w.heap.size w W1->I [] W1) (WW:∀s A r,I s A->w.heap.size+2<=A.heap.size->(∃r0,A.heap[w.heap.size+1]?=some (.loop r0))->I s (A.putObj (w.heap.size+1)<|.loop r))
  (Ax:α->Act->World->Prop) (WX:∀x a' A r,Ax x a' A->Ax x a' (A.putObj (w.heap.size+1)<|.loop r))
  (oJ:∀(pre:List α) (x:α) (W:World) (K:Act->World->Prop),I pre W->w.heap.size+2<=W.heap.size->pre++[x]<+:rs->(∀a' W',I pre W'->oH (w.heap.size::(w.heap.size+1)::S) W W'->Ax x a' W'->K a' W') ->
   assign.wpIn (F.inRound (w.heap.size+1)) (n-1-1) P (Exit.then K (λ_ _ _=>False)) {tmps:=(ps.zip (encs x)).foldl (λt (p,v)=>t.setIfInBounds p v) a.tmps,defers:=[]} W)
  (yq:∀(pre:List α) (x:α) (a':Act) (W:World),I pre W->w.heap.size+2<=W.heap.size->Ax x a' W->pre++[x]<+:rs->W.heap[w.heap.size]?=some (.deferred<|some [])->(∃r,W.heap[w.heap.size+1]?=some (.loop r))->body.wpIn (F.inRound<|w.heap.size+1) (n-1-1) P (λe _ W'=>e=.normal/\I (pre++[x]) W'/\oH (w.heap.size::(w.heap.size+1)::S) W W') a' W)
  (yr:∀(W:World),I rs W->w.heap.size+2<=W.heap.size->W.heap[w.heap.size]?=some (.deferred<|some [])->Q .normal {a with defers:={target:=.collected w.heap.size,args:=#[]}::a.defers} W) :
  (Code.rangeFunc g ps assign body).wpIn F n P Q a w:=by
 refine wpIn_rangeFunc λfn xn=>?_
 rw[hro];have⟨L,hL⟩:∃L:LoopState->Loop,L=λst=>{state:=st,pending:=none,fn,tmps:=a.tmps,params:=ps,assign,body,defers:=w.heap.size}:=⟨_,rfl⟩
 have⟨W1,iG⟩:=gb <|(w.alloc<|.deferred<|some []).alloc (.loop<|L .ready);have cG:Below w.heap.size w W1:=by rw[iG];exact((zzD _ w).alloc (zzc _) _).alloc bR _
 have df:W1.heap.size=w.heap.size+2:=by rw[iG];simp
 have dY:W1.heap[w.heap.size+1]?=some (.loop<|L .ready):=by
  rw[iG];have:=World.alloc_heap_new (w.alloc<|.deferred<|some [])<|.loop<|L .ready;rwa [zzv]at this
 have j_:W1.heap[w.heap.size]?=some (.deferred<|some []):=by
  rw[iG];exact(zzf _ _ _ bR).trans<|World.alloc_heap_new w _
 refine⟨w.heap.size+1,[{target:=.collected w.heap.size,args:=#[]}],W1,{target:=.fn (.func gf) lb,args:=#[.func (.yield<|w.heap.size+1) #[] #[]]},W1,gf,#[.func (.yield<|w.heap.size+1) #[] #[]]++lb,W1,?_,?_,?_,?_,λ_=>h1,?_⟩
 .rw[iG,hL];exact run_enterLoop_outer _ _ _ _ _
 .simp only[resolve,hg];simp[go_sem]
 .intro f' pF;simp[Target.leads]at pF;subst pF;exact Lf
 .simp[invoke,go_sem,eg]
 refine(nc W1 cG df (λs A=>I s A/\A.heap[w.heap.size+1]?=some (.loop<|L .ready)/\A.heap[w.heap.size]?=some (.deferred<|some [])/\w.heap.size+2<=A.heap.size) ?_ ⟨WV W1 cG,dY,j_,bL⟩).mono ?_
 .rintro pre x W ⟨i1,i2,i3,i4⟩ _ dN;have hy:=run_yield (P:=P) (args:=encs x) i2 (by rw[hL];exact az x);rw[hL]at hy;refine⟨fn,_,assign,body,hy,roundIn_of_wpIn xn<|oJ pre x W _ i1 i4 dN λa' Wa ia ka xa=>?_⟩;have la:=(ka.same _ bR bL).trans i2;have da:=(ka.same _ bR bL).trans i3;have WY:=(zza.1 la).1;obtain⟨Wb,qm⟩:∃Wb,Wb=Wa.putObj (w.heap.size+1) (.loop<|L .busy):=⟨_,rfl⟩;have U0:Wb.heap[w.heap.size+1]?=some (.loop<|L .busy):=by rw[qm];exact World.putObj_heap_same WY
  have db:Wb.heap[w.heap.size]?=some (.deferred<|some []):=by rw[qm];exact(World.putObj_heap_other bL).trans da
  have sb:Wb.heap.size=Wa.heap.size:=by rw[qm];simp
  refine⟨Wb,by rw[qm];have:=run_beginRound (P:=P) la (by rw[hL]);rw[hL]at this ⊢;exact this,?_⟩;apply wpIn_mono (yq pre x a' Wb (by rw[qm];exact WW _ _ _ ia (by have:=ka.size;omega) ⟨_,la⟩) (by rw[sb];omega) (by rw[qm];exact WX _ _ _ _ xa) dN db ⟨_,U0⟩);rintro e a3 W3 ⟨rfl,SN,k3⟩;have l3:=(k3.same _ bR bL).trans U0;have d3:=(k3.same _ bR bL).trans db;have RB:=(zza.1 l3).1;have ma:=run_endRound (P:=P) none l3;refine⟨_,_,ma,rfl,⟨WW _ _ _ SN (by have:=k3.size;have:=ka.size;omega) ⟨_,l3⟩,?_,(World.putObj_heap_other bL).trans d3,by rw[cj];omega⟩,?_,?_⟩
  .rw[World.putObj_heap_same RB,hL];rfl
  .rw[cj];have:=ka.size;have:=k3.size;omega
  .intro k hk bU;have hkw:=hS k hk;rw[World.putObj_heap_other bL,k3.same k (by simp[hk])<|by have:=ka.size;omega,qm,World.putObj_heap_other bL,ka.same k (by simp[hk]) bU]
 .rintro e W2 ⟨⟨v,rfl⟩,i1,i2,i3,i4⟩;have ma:=run_endLoop (P:=P) i2 (by rw[hL];simp);have hp:(L .ready).pending=none:=by rw[hL]
  rw[hp]at ma;refine⟨none,_,ma,?_⟩;exact yr _ (WW _ _ _ i1 i4 ⟨_,i2⟩) (by rw[cj];exact i4)<|(World.putObj_heap_other bL).trans i3
end
def iN(q:Nat->Bool)(ps:List Nat)(k:Nat):List Nat:=(List.range k).filter λj=>q (ps.getD j 0)
abbrev dK(q:Nat->Bool)(ps:List Nat):List Nat:=iN q ps 9
theorem Eu{q:Nat->Bool}(h:q (ps.getD k 0)=true):iN q ps (k+1)=iN q ps k++[k]:=by
 unfold iN;rw[List.range_succ,List.filter_append];simp only[List.filter_cons,h,if_true,List.filter_nil]
theorem Hh{q:Nat->Bool}(h:q (ps.getD k 0)=false):iN q ps (k+1)=iN q ps k:=by
 unfold iN;rw[List.range_succ,List.filter_append];simp only[List.filter_cons,h,List.filter_nil];simp
theorem Ev{q:Nat->Bool}:∀{k:Nat},k<=9->iN q ps k<+:dK q ps:=by
 intro k h;have:List.range k<+:List.range 9:=by
  rw[List.prefix_iff_eq_take];rw[List.take_range];simp[Nat.min_eq_left h]
 exact this.filter _
theorem SP(l:ps.length=9)(a:∀p∈ps,p<256)(h:k<9):ps.getD k 0<256:=by
 have e:ps.getD k 0=ps[k]' bL:=by simp[l,h]
 rw[e];exact a _<|List.getElem_mem _
theorem A7(n f:Nat)(t:fe)(h:t.Ok)(w:World):
  CallsIn Fence.wide n prog 111 #[kO t,Ct f] w λe w'=>e=.returned (.func (.func 154) #[] #[.pointer<|some ⟨w.heap.size,0,none⟩,.pointer<|some ⟨w.heap.size+1,0,none⟩])/\w'=(w.alloc<|.cells (G_ t).toArray 128).alloc (.cells #[Ct f] 146):=by
 have⟨s,ps,z⟩:=t;obtain⟨p,a,b,c,d,g,i,j,k,rfl⟩:=nine h.1;rw[bE];refine callsIn_of_wp func111 rfl trivial ?_ rfl;simp only[ntmps111,mB,zzr,mH,Nat.reduceAdd,Nat.reduceSub,mK,mL,nb,nU,n5,qC];gi_wp2;go_ret;exact⟨rfl,rfl⟩
theorem Hi(n:Nat)(hn:2<=n)(l g b m:Nat)(q:Nat->Bool)(hm:rR m q)(T:Enters m)(t:fe)(d:t.Ok)(W:World)(h:W.heap[g]?=some (.cells (G_ t).toArray 128 (0,0)))(u:W.heap[b]?=some (.cells #[Ct m] 146 (0,0)))
  (J:List Nat->World->Prop)
  (L:∀pre (x:Nat) W1,J pre W1->W.heap.size<=W1.heap.size->pre++[x]<+:dK q t.parts->YieldAt Fence.wide (n-1) prog l #[.int .i64 (x:Int)] W1 λe a=>e=.returned (.bool true)/\J (pre++[x]) a/\oH [g,b] W1 a) (h0:J [] W) :
  CallsIn Fence.wide n prog 154 #[.func (.yield l) #[] #[],.pointer<|some ⟨g,0,none⟩,.pointer<|some ⟨b,0,none⟩] W λe a=>(∃v,e=.returned v)/\J (dK q t.parts) a:=by
 have a6:Fence.wide.round=none:=rfl;have hg:1<=n:=bL;have a7:Fence.wide.fn m:=trivial;have cZ:b<W.heap.size:=(zza.1 u).1;have N:∀k:Nat,k<9->∀w,(Instr.index 126 (UW t.parts)<|.int .i64 (k:Int)).run prog w=.ok (.int .u8 ((t.parts.getD k 0:Nat):Int)) w:=λk o w=>WL d.1 o w
 have D:=N;have Y:Hid (∀pre (x:Nat) W1,J pre W1->W.heap.size<=W1.heap.size->pre++[x]<+:dK q t.parts->YieldAt Fence.wide (n-1) prog l #[.int .i64 (x:Int)] W1 λe a=>e=.returned (.bool true)/\J (pre++[x]) a/\oH [g,b] W1 a):=L;have y:Hid (∀k,k<9->t.parts.getD k 0<256):=λk o=>SP d.1 d.2 o
 have a1:Hid (W.heap[b]?=some (.cells #[Ct m] 146 (0,0))):=u;clear N L u;have⟨s,ps,z⟩:=t;have⟨S,r⟩:=gb ps;have⟨V,hV⟩:=gb <|UW ps;have c1:=ae h 1;have c2:=ae h 2;have c3:=ae h 3;have c4:=ae h 4;have c5:=ae h 5;have E:=ae h 6;have F:=ae h 7;have G:=ae h 8;have I:=ae h 9;have⟨X,p1,p2,p3,p4,p5,p6,p7,p8,U⟩:=nine d.1;rw[<-r]at D Y y ⊢;change Hid (∀k:Nat,k<9->∀w,(Instr.index 126 (UW S)<|.int .i64 (k:Int)).run prog w=.ok (.int .u8 ((S.getD k 0:Nat):Int)) w)at D;have O:ps=[X,p1,p2,p3,p4,p5,p6,p7,p8]:=U;have K:UW S=.agg #[.int .u8 (X:Int),.int .u8 (p1:Int),.int .u8 (p2:Int),.int .u8 (p3:Int),.int .u8 (p4:Int),.int .u8 (p5:Int),.int .u8 (p6:Int),.int .u8 (p7:Int),.int .u8 (p8:Int)]:=by rw[r,O];rfl
 rw[K]at D;subst O;simp[G_]at c1 c2 c3 c4 c5 E F G I;clear r hV K h d U;refine callsIn_of_wp func154 rfl trivial ?_ a6;simp only[ntmps154,mB,zzr,mH,Nat.reduceAdd,Nat.reduceSub,mK,mL,nb,nU,n5,qC];gi_wp2;clear c1 c2 c3 c4 c5 E F G I;gi_loopw [8] (λi wr=>∃k:Nat,k<=9/\i=.int .i64 k/\Hid (J (iN q S k) wr/\oH [b] W wr)) (λi _=>9-(intOf i).toNat);case atStart=>exact⟨0,zzs _,rfl,h0,oH.refl _⟩
 case round=>
  obtain⟨k,o,rfl,Q⟩:=hrel;by_cases C:k<9
  .have i9:(k:Int)<9:=bL;have SQ:=D.out k C;have Z:=(callsIn_wide (n:=n-1)).2<|hm (S.getD k 0) wr<|y.out k C;have M:=(Q.2.same b bR cZ).trans a1.out;have d2:=ae M 0;simp at d2;have⟨P,c⟩:=gb <|S.getD k 0;rw[<-c]at SQ Z
   cases p:q P with
   |true=>
    have A:=Eu (q:=q) (ps:=S) (k:=k) (by rw[<-c];exact p);obtain⟨fn,tmps,assign,body,hy,xj⟩:=Y.out _ k wr Q.1 Q.2.size (by rw[<-A];exact Ev bL);rw[p]at Z;have H:Hid (iN q S (k+1)=iN q S k++[k]):=A;clear c A M;unfold Enters at T;gi_wp2_with fail;apply Z.mono;rintro e w2 ⟨rfl,rfl⟩;gi_wp2;apply xj.mono;rintro e B ⟨rfl,rP,kW⟩;have HN:Hid (J (iN q S<|k+1) B/\oH [b] W B):=⟨by rw[H.out];exact rP,Q.2.trans ⟨kW.size,λj R=>kW.same j<|by simp at R ⊢;exact .inr R⟩⟩;clear rP kW
    gi_wp2;go_roundw;case rel=>exact⟨k+1,bL,bR,HN.out⟩
    case measure=>simp[intOf];omega
   |false=>
    have H:Hid (iN q S (k+1)=iN q S k):=Hh (by rw[<-c];exact p);rw[p]at Z;clear c M;unfold Enters at T;have jE:=@Oper.semAt_some;gi_wp2_with fail;apply Z.mono;rintro e w2 ⟨rfl,rfl⟩;gi_wp2;refine⟨λf hf=>(by cases hf),?_⟩
    gi_wp2;go_roundw;case rel=>exact⟨k+1,bL,bR,by rw[H.out];exact Q.1,Q.2⟩
    case measure=>simp[intOf];omega
  .obtain rfl:k=9:=bL;gi_wp2;go_end0;exact⟨⟨_,rfl⟩,Q.1⟩
theorem Ew(n:Nat)(hn:2<=n)(l b a f:Nat)(q:Nat->Bool)(m:rR f q)(U:Enters f)(t:fe)(e:t.Ok)(W:World)(c:W.heap[b]?=some (.cells (G_ t).toArray 128 (0,0)))(d:W.heap[a]?=some (.cells #[Ct f] 146 (0,0))):
  aav Fence.wide n prog 154 #[.pointer<|some ⟨b,0,none⟩,.pointer<|some ⟨a,0,none⟩] (λx:Nat=>#[.int .i64 (x:Int)]) (dK q t.parts) [b,a] l W:=λJ Y h=>
 Hi n hn l b a f q m U t e W c d J Y h
end
variable{S T:List Nat}{k m:Nat}{t:TypeId}{a b w w':World}
def Fa:Option Obj->List Nat
 |some (.cells c _ _)=>(c.getD 5 .nilIface).ownBlock.toList++(c.getD 6 .nilIface).ownBlock.toList
 |_=>[]
def rd(cp:Nat)(w:World):List Nat:=Fa w.heap[cp]?
structure gm(cp:Nat)(S:List Nat)(w w':World):Prop where
 fr:Fr (S++rd cp w) w w'
 stay:∀k,k<w.heap.size->k∈rd cp w'->k∈rd cp w
section
variable{cp:Nat}
theorem gm.trans{S:List Nat}{a b c:World}(h:gm cp S a b)(k:gm cp S b c):gm cp S a c:=
 ⟨h.fr.andThen k.fr (λj d l=>by
  obtain e|e:=zzo.1 d
  .exact List.mem_append_left _ e
  .exact List.mem_append_right _ (h.stay j l e)),λj d m=>h.stay j d (k.stay j (zzl d h.fr.size) m)⟩
theorem gm.mono{S T:List Nat}{a b:World}(h:gm cp S a b)(hs:∀k∈S,k∈T):gm cp T a b:=⟨h.fr.mono (λk _ d=>by
 obtain c|c:=zzo.1 d
 .exact List.mem_append_left _<|hs k c
 .exact List.mem_append_right _ c),h.stay⟩
theorem ri{w w':World}(h:w'.heap[cp]?=w.heap[cp]?):rd cp w'=rd cp w:=by unfold rd;rw[h]
theorem Fr.r{S T:List Nat}{w w':World}(h:Fr S w w')(l:cp<w.heap.size)(hn:cp∉S)(hs:∀k∈S,k∈T):gm cp T w w':=
 ⟨h.mono λk _ a=>List.mem_append_left _<|hs k a,λk _ m=>by rw[ri<|h.block cp l hn]at m;exact m⟩
theorem gm.block{S:List Nat}{w w':World}(h:gm cp S w w'){k:Nat}(b:k<w.heap.size)(a:k∉S)(r:k∉rd cp w):w'.heap[k]?=w.heap[k]? :=
 h.fr.block k b (by rw[zzo];exact λe=>e.elim a r)
end
structure aU where
 ai:List (Nat × fe)
 next:Nat
 aW:Nat
 aC:Nat
 res:List (Nat × Nat)
 out:List (Nat × Nat × Nat)
abbrev Tg(x:Nat × Nat):List Value:=[.int .u64 (x.1:Int),.int .i64 (x.2:Int)]
abbrev Th(x:Nat × Nat × Nat):List Value:=[.int .u64 (x.1:Int),.int .i64 (x.2.1:Int),.int .i64 (x.2.2:Int)]
def oQ(l:List (Nat × Nat)):List Value:=l.flatMap Tg
def oR(l:List (Nat × Nat × Nat)):List Value:=l.flatMap Th
theorem PL(a b:List<|Nat×Nat):oQ (a++b)=oQ a++oQ b:=by simp[oQ]
theorem PM(a b:List<|Nat×Nat×Nat):oR (a++b)=oR a++oR b:=by simp[oR]
def aU.tx(c:aU)(t:Nat):fe:=(ak c.ai t).getD A0
abbrev qt(lg bT:Nat)(c:aU)(r v:Value):Obj:=.cells #[.pointer (lgP lg),.map (some bT),.int .u64 (c.next:Int),.int .u64 (c.aW:Int),.int .u64 (c.aC:Int),r,v] 122
def Ao(v:Value)(k n:Nat):Prop:=k<=n/\(k=0->v=.slice none 0 0)
theorem Ao.mono{v:Value}{n:Nat}(h:Ao v k n)(a:n<=m):Ao v k m:=⟨zzk h.1 a,h.2⟩
theorem Ao.nil(n:Nat):Ao (.slice none 0 0) 0 n:=⟨zzs _,λ_=>rfl⟩
structure bm(w:World)(B cp lg bT n:Nat)(c:aU):Prop where
 ex:∃rv ov,w.heap[cp]?=some (qt lg bT c rv ov)/\w.ownsRow B 157 2 rv c.res.length (oQ c.res)/\w.ownsRow B 207 3 ov c.out.length (oR c.out)/\Ao rv c.res.length n/\Ao ov c.out.length n
 ai:aO KU EX w bT n c.ai
 low:B<=cp/\B<=bT/\B<=w.heap.size
 fB:c.next<18446744073709551616/\c.aW<18446744073709551616/\c.aC<18446744073709551616
section
variable{w w':World}{B cp lg bT n:Nat}{c:aU}
theorem bm.yN(h:bm w B cp lg bT n c):∃s,w.heap[cp]?=some (.cells s 122 (0,0)):=by have⟨r,v,a,_⟩:=h.ex;exact⟨_,a⟩
theorem bm.eY(h:bm w B cp lg bT n c):cp<w.heap.size/\bT<w.heap.size/\cp≠bT:=by
 have⟨s,a⟩:=h.yN;refine⟨(zza.1 a).1,h.ai.lt,λe=>?_⟩;have⟨d,c2,b⟩:=h.ai.isMap;rw[e,b]at a;cases a
theorem bm.mono(h:bm w B cp lg bT n c){m:Nat}(a:n<=m):bm w B cp lg bT m c:=by
 have⟨r,v,b,d,e,f,g⟩:=h.ex;exact⟨⟨r,v,b,d,e,f.mono a,g.mono a⟩,h.ai.mono a,h.low,h.fB⟩
theorem bm.fr{S:List Nat}(h:bm w B cp lg bT n c)(hf:Fr S w w')(a:∀k∈S,k≠cp/\k≠bT/\k∉rd cp w):bm w' B cp lg bT n c:=by
 have⟨r,v,b,d,f,i,j⟩:=h.ex;refine⟨⟨r,v,(hf.block cp h.eY.1 λe=>(a _ e).1 rfl).trans b,aD d hf ?_,aD f hf ?_,i,j⟩,h.ai.fr hf λe=>(a _ e).2.1 rfl,⟨h.low.1,h.low.2.1,zzk h.low.2.2 hf.size⟩,h.fB⟩
 .intro g hg e;exact(a g e).2.2<|by unfold rd Fa;rw[b];simp[hg]
 .intro g hg e;exact(a g e).2.2<|by unfold rd Fa;rw[b];simp[hg]
theorem bm.Ti(h:bm w B cp lg bT n c){k:Nat}(a:k∈rd cp w):B<=k/\∃b t,w.heap[k]?=some (.cells b t (0,0))/\(t=157\/t=207):=by
 have⟨r,v,f,d,e,g,i⟩:=h.ex;unfold rd Fa at a;rw[f]at a;simp at a;obtain a|a:=a
 .obtain⟨b,hc⟩:=aq d a;exact⟨(d.lt k a).1,b,_,hc,.inl rfl⟩
 .obtain⟨b,hc⟩:=aq e a;exact⟨(e.lt k a).1,b,_,hc,.inr rfl⟩
theorem bm.rd_not(h:bm w B cp lg bT n c){k:Nat}{b:Array Value}{t:TypeId}{fr:Nat×Nat}(g:w.heap[k]?=some (.cells b t fr))(d:t≠157)(f:t≠207):k∉rd cp w:=λm=>by
 have⟨_,c2,i,e,a⟩:=h.Ti m;rw[g]at e;cases e;obtain a|a:=a
 .exact d a
 .exact f a
theorem gm.cells{S:List Nat}(hf:gm cp S w w')(h:bm w B cp lg bT n c){k:Nat}{b:Array Value}{t:TypeId}{fr:Nat×Nat}(a:w.heap[k]?=some (.cells b t fr))(f:k∉S)(d:t≠157)(e:t≠207):w'.heap[k]?=some (.cells b t fr):=
 (hf.block (zza.1 a).1 f<|h.rd_not a d e).trans a
theorem bm.new(h:bm w B cp lg bT n c)(hf:Fr [] w w'):bm w' B cp lg bT n c:=h.fr hf bR
theorem bm.f_(h:bm w B cp lg bT n c){t:Nat}(a:t<18446744073709551616):
  (Instr.lookup 118 (.map<|some bT) (.int .u64 (t:Int)) false).run prog w=.ok (kO<|c.tx t) w:=
 h.ai.look underlying118 (OL w) G' a
theorem bm.J8(h:bm w B cp lg bT n c)(t:Nat):(c.tx t).Ok:=by
 unfold aU.tx;cases l:ak c.ai t with
 |none=>exact G'
 |some u=>have⟨_,_,_,_,k⟩:=h.ai;exact(k _<|bZ l).2
theorem bm.fS{s:List (Nat×fe)}{m:Nat}(h:bm w B cp lg bT n c)(hf:Fr [bT] w w')(b:aO KU EX w' bT m s)(hn:n<=m):bm w' B cp lg bT m {c with ai:=s}:=by
 have⟨u,t,j,f,i,l,p⟩:=h.ex;have⟨y,c2,d⟩:=h.ai.isMap;have o:∀{g:Nat} {e:TypeId} {k m:Nat} {v:Value} {xs:List Value},w.ownsRow B e k v m xs->v.ownBlock=some g->g∉[bT]:=λr a b=>by
  simp at b;subst b;have⟨x,q⟩:=aq r a;rw[q]at d;cases d
 exact⟨⟨u,t,(hf.block cp h.eY.1<|by simpa using h.eY.2.2).trans j,aD f hf λg a=>o f a,aD i hf λg a=>o i a,l.mono hn,p.mono hn⟩,b,⟨h.low.1,h.low.2.1,zzk h.low.2.2 hf.size⟩,h.fB⟩
end
theorem jq(B cp lg bT n t:Nat)(c:aU)(w:World)(h:bm w B cp lg bT n c)(d:t<18446744073709551616):
  Calls prog 64 #[.pointer<|some ⟨cp,0,none⟩,.int .u64 (t:Int)] w λe w'=>e=.returned (.int .i64 ((c.tx t).state:Int))/\w'=w:=by
 have⟨r,v,a,_⟩:=h.ex;have c1:=ae a 1;simp at c1;have l:=h.f_ d;have u:=SB (c.tx t)<|h.J8 t;have⟨T,b⟩:=gb <|c.tx t;rw[<-b]at l u ⊢;clear h b a
 go_enter func64,ntmps64;go_wp2;go_ret;exact⟨rfl,rfl⟩
def kS(state:Nat):Nat:=if state=0 then 6 else if state=6 then 5 else 0
theorem Ih(B cp lg bT n t:Nat)(c:aU)(w:World)(h:bm w B cp lg bT n c)(d:t<18446744073709551616):
  Calls prog 252 #[.pointer<|some ⟨cp,0,none⟩,.int .u64 (t:Int)] w λe w'=>e=.returned (.int .i64 (kS (c.tx t).state:Int))/\w'=w:=by
 have hs:=jq B cp lg bT n t c w h d;have⟨s,S⟩:=gb <|(c.tx t).state;rw[<-S]at hs ⊢;clear h S;go_enter func252,ntmps252;go_wp2_with fail;apply hs.mono;rintro e j ⟨rfl,rfl⟩;by_cases a:s=0
 .subst a;go_wp2;go_ret;exact⟨rfl,rfl⟩
 .by_cases b:s=6
  .subst b;go_wp2;go_ret;exact⟨rfl,rfl⟩
  .have i0:¬(s:Int)=0:=bL;have i:¬(s:Int)=6:=bL;have f:=beq_eq_false_iff_ne.2 i0;have g:=beq_eq_false_iff_ne.2 i;go_wp2;go_ret;exact⟨by unfold kS;rw[if_neg a,if_neg b];rfl,rfl⟩
def CD(k v:ByteArray):List Nat:=k.size :: bytesOf k++(v.size :: bytesOf v)
section
open Go.Shelf
variable{n p:Nat}{w:World}
structure rD(p:Nat)(S:List Nat)(w w':World):Prop where
 os:w'.os=w.os
 tape:w'.tape=w.tape
 output:w'.output=w.output
 size:w.heap.size<=w'.heap.size
 block:∀k,k<w.heap.size->¬rA p w k->k∉S->w'.heap[k]?=w.heap[k]?
theorem ax.ub{B D N g i k:Nat}{v:Value}{d:ah}(h:ax w B p D N v d n g i)(m:∃s c,w.heap[k]?=some (.map s c))(b:k≠D)(f:k≠N):¬rA p w k:=by
 have⟨s,c,a⟩:=m;intro o;have:=(h.l8 k).1 o;simp at this;obtain e|e|e|e:=this
 .rw[e,h.blk]at a;cases a
 .exact b e
 .exact f e
 .obtain⟨c2,hc⟩:=aq h.pen e;rw[hc]at a;cases a
theorem a_.blocks{w':World}{lg a T H:Nat}{s:ag}(h:a_ w p lg a T H n s)(hb:∀k∈[p,a,T,H],w'.heap[k]?=w.heap[k]?):a_ w' p lg a T H n s:=by
 have v:∀{K V:Type} [DecidableEq K] {t:TypeId} {KR:iD prog K t} {ER:kK V} {b k:Nat} {L:List (K×V)},aO KR ER w b k L->b∈[p,a,T,H]->aO KR ER w' b k L:=by
  intro K V _ t KR ER b k L M A;have⟨e,⟨d,c,f,g⟩,r⟩:=M;exact⟨e,⟨d,c,(hb b A).trans f,g⟩,r⟩
 exact {blk:=(hb p bR).trans h.blk,aM:=v h.aM bR,ai:=v h.ai bR,holds:=v h.holds bR,ne:=h.ne,aC:=h.aC}
theorem led0_in(N:Nat)(hN:14<=N)(B p bD bN n:Nat)(G X:Nat)(R:au × ah × Nat)(hR:R.1.recs=[])(w:World)(hd:∃T d L M,ax w B p bD bN T d n L M)
  (hJ:∀W,Fr [] w W->Calls prog 78 #[dX p] W (mg B p bD bN n R W)) (Xu:jS R.1.recs R.1.next=1) :
  CallsIn Fence.wide N prog 124 #[dX p,.func (.func G) #[.pointer (some ⟨X,0,none⟩)] #[]] w λe w'=>∃gp l,e=.returned (.tuple #[.pointer (some ⟨gp,0,none⟩),.nilIface])/\(∃T sv v L M,aA w' B l p bD bN T sv v R.1 R.2.1 n L M)/\w'.heap[gp]?=some (rB l)/\w.heap.size<=gp/\rD p [] w w':=by
 have il:oI R.1.recs:=by rw[hR];exact nofun
 have a7:Fence.wide.round=none:=rfl;have h1:1<=N:=bL;have bh:Fence.wide.fn 78:=trivial;have aQ:Fence.wide.fn 165:=trivial;have dz:Fence.wide.fn 166:=trivial;have fo:Fence.wide.fn 167:=trivial;have cO:Fence.wide.fn 217:=trivial;have m:Fence.wide.fn 168:=trivial;obtain⟨f,o⟩:∃f,f=((w.alloc (.cells #[.func (.func G) #[.pointer (some ⟨X,0,none⟩)] #[]] 229)).alloc (.cells #[.pointer none] 117)).alloc (.cells #[.nilIface] 82):=⟨_,rfl⟩;have H:Fr [] w f:=by rw[o];exact(((lT w).alloc _).alloc _).alloc _
 have xk:f.heap.size=w.heap.size+3:=by rw[o];simp
 have r0:f.heap[w.heap.size]?=some (.cells #[.func (.func G) #[.pointer (some ⟨X,0,none⟩)] #[]] 229 (0,0)):=by rw[o,zzf _ _ w.heap.size cE,zzf _ _ w.heap.size bR];exact heap_alloc_new w _
 have r1:f.heap[w.heap.size+1]?=some (.cells #[.pointer none] 117 (0,0)):=by
  rw[o,zzf _ _ (w.heap.size+1) bR];have:=heap_alloc_new (w.alloc (.cells #[.func (.func G) #[.pointer (some ⟨X,0,none⟩)] #[]] 229)) (.cells #[.pointer none] 117)
  rwa [zzv] at this
 have r2:f.heap[w.heap.size+2]?=some (.cells #[.nilIface] 82 (0,0)):=by
  rw[o];have:=heap_alloc_new ((w.alloc (.cells #[.func (.func G) #[.pointer (some ⟨X,0,none⟩)] #[]] 229)).alloc (.cells #[.pointer none] 117)) (.cells #[.nilIface] 82)
  rwa [zzv,zzv] at this
 have a6:=(callsIn_wide (n:=N-1)).2 (hJ f H);obtain⟨Hx,d0,aE,aH,lG⟩:=hd;have E:=lG.new H;refine callsIn_of_wp_marks func124 rfl trivial ?_ a7;simp only[ntmps124,mB,zzr,mH,Nat.reduceAdd,Nat.reduceSub,mK,mL,nb,nU,n5,qC]
 gi_wp2_with fail
 rw[<-o];refine a6.mono ?_;clear a6 o;rintro e a ⟨l,rfl,zB,⟨T,sv,v,L,M,dY⟩,kR⟩
 have fD:∀k∈[w.heap.size,w.heap.size+1,w.heap.size+2],a.heap[k]?=f.heap[k]?:=by
  intro k h;simp at h;rcases h with rfl|rfl|rfl
  .exact kR.block _ bL (E.iF r0 bM bM)
  .exact kR.block _ bL (E.iF r1 bM bM)
  .exact kR.block _ bL (E.iF r2 bM bM)
 have q0:=(fD w.heap.size bR).trans r0;have U:=(fD (w.heap.size+1) bR).trans r1;have V:=(fD (w.heap.size+2) bR).trans r2;have ao:=kR.size
 have K:rD p [] w a:=⟨kR.os.trans H.os,kR.tape.trans H.tape,kR.output.trans H.output,bL,λk h I _=>(kR.block k bL (λs8=>I (by
  have:=(E.l8 k).1 s8
  exact(lG.l8 k).2 this))).trans (H.block k h bR)⟩
 clear kR fD r0 r1 r2 H E lG;obtain⟨b,D⟩:∃b,b=a.alloc (rB l):=⟨_,rfl⟩;have F:Fr [] a b:=by rw[D];exact(lT a).alloc _
 have av:b.heap.size=a.heap.size+1:=by rw[D];simp
 have g2:b.heap[a.heap.size]?=some (rB l):=by rw[D];exact heap_alloc_new a _
 have u:=dY.new F;have P:ji b l v R.1.recs:=⟨(zza.1 u.blk).1,by have:=ae u.blk 3;simpa using this,yG u.recs⟩;have aa:b.cell? ⟨l,4,none⟩=some (.int .u64 (R.1.next:Int)):=by have:=ae u.blk 4;simpa using this
 have a1:b.cell? ⟨a.heap.size,0,none⟩=some (.pointer (some ⟨l,0,none⟩)):=by have:=ae g2 0;simpa using this
 have hlen:R.1.recs.length<=67108864:=by rw[hR];decide
 have vU:=vg (N-1) bL a.heap.size l v R.1.recs hlen il b a1 P;have b0:=(F.block w.heap.size bL bR).trans q0;have b1:=(F.block (w.heap.size+1) bL bR).trans U;have b2:=(F.block (w.heap.size+2) bL bR).trans V;clear q0 U V
 gi_wp2_with fail
 have Ae:=D;rw[<-Ae];refine vU.mono ?_;clear vU D Ae;rintro e w3 ⟨rfl,ja⟩;have UI:=ja.size;have zG:=yu (N-1) bL l R.1.next v R.1.recs hlen w3 (P.below ja) ((ja.cell (p:=⟨l,4,none⟩) P.lt).trans aa);rw[Xu] at zG
 gi_wp2_with fail
 refine zG.mono ?_;clear zG;rintro e i ⟨rfl,p_⟩;have aw:=p_.size;have lB:=A8 (N-1) a.heap.size i
 gi_wp2_with fail
 refine lB.mono ?_;clear lB;rintro e c ⟨rfl,wP⟩;have Dz:Below b.heap.size b c:=by rw[wP];exact(ja.trans (p_.mono UI)).alloc bL _
 have az:c.heap.size=i.heap.size+1:=by rw[wP];simp
 have a5:c.heap[i.heap.size]?=some (.cells #[.pointer (some ⟨a.heap.size,0,none⟩)] 117 (0,0)):=by rw[wP];exact heap_alloc_new i _
 have O:=Fr.aX Dz [];have Ga:=u.new O;have a8:=P.below Dz;have g5:=(O.block a.heap.size bL bR).trans g2;have c0:=(O.block w.heap.size bL bR).trans b0;have c1:=(O.block (w.heap.size+1) bL bR).trans b1;have c2:=(O.block (w.heap.size+2) bL bR).trans b2;have Y:rD p [] w c:=⟨O.os.trans (F.os.trans K.os),O.tape.trans (F.tape.trans K.tape),O.output.trans (F.output.trans K.output),bL,λk h I g=>(O.block k bL bR).trans ((F.block k bL bR).trans (K.block k h I g))⟩;clear wP Dz O u P g2 b0 b1 b2 K ja p_ aa a1 dY F
 gi_wp2
 have z4:c.cell? ⟨i.heap.size,0,none⟩=some (.pointer (some ⟨a.heap.size,0,none⟩)):=by have:=ae a5 0;simpa using this
 have z5:c.cell? ⟨a.heap.size,0,none⟩=some (.pointer (some ⟨l,0,none⟩)):=by have:=ae g5 0;simpa using this
 refine ld a7 h1 (gf:=217) (lb:=#[.pointer (some ⟨i.heap.size,0,none⟩)]) rfl cO (enters_of func217 dJ rfl)
  (encs:=λx:Rec=>#[.int .u8 (x.kind:Int),.string (str x.nH)]) (rs:=R.1.recs) (S:=rowsOf v) (λ_=>rfl) a8.rows
  (λWx Q _=>JU (N-1) bL _ i.heap.size a.heap.size l v R.1.recs hlen il Wx ((Q.cell (p:=⟨i.heap.size,0,none⟩) (by show i.heap.size<_;omega)).trans z4) ((Q.cell (p:=⟨a.heap.size,0,none⟩) (by show a.heap.size<_;omega)).trans z5) (a8.below Q))
  (λ_ A=>Fr [] c A) (λWx Q=>Fr.aX Q _)
  (λs A B hs hb=>⟨hb.os.trans hs.os,hb.tape.trans hs.tape,hb.output.trans hs.output,zzk hs.size hb.size,λk h g=>(hb.block k bL).trans (hs.block k h g)⟩)
  (λs A r hs=>⟨hs.os,hs.tape,hs.output,by rw[cj];exact hs.size,λk h g=>(World.putObj_heap_other bL).trans (hs.block k h g)⟩)
  (λ_ _ _=>True) (λ_ _ _ _ ab=>ab)
  ?assign ?body ?done
 case assign=>intro ad x A an _ _ C;rw[hR] at C;simp at C
 case body=>intro ad x a' A _ _ _ C;rw[hR] at C;simp at C
 case done =>
  intro W gG Sm hK;have t1:=(gG.block (w.heap.size+1) bL bR).trans c1;have t2:=(gG.block (w.heap.size+2) bL bR).trans c2;have u1:=ae t1 0;have u2:=ae t2 0;have f1:=aj t1 0;have f2:=aj t2 0;simp at u1 u2 f1 f2;obtain⟨j,Z⟩:∃j,j=(W.setCell ⟨w.heap.size+1,0,none⟩ (.pointer (some ⟨a.heap.size,0,none⟩))).setCell ⟨w.heap.size+1+1,0,none⟩ .nilIface:=⟨_,rfl⟩;have m:Fr [w.heap.size+1,w.heap.size+2] W j:=by rw[Z];exact(Fr.cD bR _ _).trans (Fr.cD bR _ _)
  have s1:j.heap[w.heap.size+1]?=some (.cells #[.pointer (some ⟨a.heap.size,0,none⟩)] 117 (0,0)):=by
   rw[Z];have:=ar t1 0 (.pointer (some ⟨a.heap.size,0,none⟩));rw[Below.heap_setCell _ _ _ _ (by show w.heap.size+1≠w.heap.size+1+1;omega)]
   simpa using this
  have s2:j.heap[w.heap.size+1+1]?=some (.cells #[.nilIface] 82 (0,0)):=by
   rw[Z];have al:(W.setCell ⟨w.heap.size+1,0,none⟩ (.pointer (some ⟨a.heap.size,0,none⟩))).heap[w.heap.size+1+1]?=some (.cells #[.nilIface] 82 (0,0)):=(Below.heap_setCell _ _ _ _ (by show w.heap.size+1+1≠w.heap.size+1;omega)).trans t2;have:=ar al 0 .nilIface
   simpa using this
  have M5:j.heap[c.heap.size]?=some (.deferred (some [])):=(m.block _ bL cE).trans hK;have y:=af gG;clear gG
  gi_wp2
  rw[<-Z];clear Z;refine⟨bR,.inl ⟨_,_,rfl,run_takeDeferred M5,?_⟩⟩;obtain⟨z,q⟩:∃z,z=j.putObj c.heap.size (.deferred none):=⟨_,rfl⟩;have CG:∀k,k≠c.heap.size->z.heap[k]?=j.heap[k]?:=λk h=>by rw[q];exact World.putObj_heap_other h
  have J:Fr [w.heap.size+1,w.heap.size+2] c z:=by
   refine⟨?_,?_,?_,?_,λk h g=>?_⟩
   .rw[q];exact m.os.trans y.out.os
   .rw[q];exact m.tape.trans y.out.tape
   .rw[q];exact m.output.trans y.out.output
   .rw[q,cj];have:=m.size;have:=y.out.size;omega
   .simp at g;rw[CG k bL,m.block k bL cE,y.out.block k h bR]
  have S8:=Ga.apart J (λk h _=>by
   simp at h;rcases h with rfl|rfl
   .exact⟨Ga.free c1 bM bM bM bM bM,λt e=>by rw[c1] at e;cases e⟩
   .exact⟨Ga.free c2 bM bM bM bM bM,λt e=>by rw[c2] at e;cases e⟩)
  have U:=ae ((CG (w.heap.size+1) bL).trans s1) 0;have V:=ae ((CG (w.heap.size+1+1) bL).trans s2) 0;simp at U V;have g7:=(J.block a.heap.size bL cE).trans g5;have Xv:rD p [] w z:=⟨J.os.trans Y.os,J.tape.trans Y.tape,J.output.trans Y.output,by have:=J.size;omega,λk h I g=>(J.block k bL cE).trans (Y.block k h I g)⟩;rw[<-q];refine⟨.tuple #[.pointer (some ⟨a.heap.size,0,none⟩),.nilIface],?_,a.heap.size,l,rfl,⟨T,sv,v,L,M,S8⟩,g7,bL,Xv⟩;simp only[results,f124];simp[go_sem,U,V]
theorem led0(B p D N n:Nat)(c s:Nat)(R:au×ah×Nat)(h:R.1.recs=[])(w:World)(f:∃v d a b,ax w B p D N v d n a b)
  (J:∀W,Fr [] w W->Calls prog 78 #[dX p] W (mg B p D N n R W)) (u:jS R.1.recs R.1.next=1) :
  Calls prog 124 #[dX p,.func (.func c) #[.pointer<|some ⟨s,0,none⟩] #[]] w λe w'=>∃g l,e=.returned (.tuple #[.pointer<|some ⟨g,0,none⟩,.nilIface])/\(∃v i r a b,aA w' B l p D N v i r R.1 R.2.1 n a b)/\w'.heap[g]?=some (rB l)/\w.heap.size<=g/\rD p [] w w':=
 (callsIn_wide).1 (led0_in 14 (zzc _) B p D N n c s R h w f J u)
end
structure rY where
 key:ByteArray
 wr:Bool
 gone:Bool
 val:ByteArray
structure sM where
 id:Nat
 st:Nat
 ops:Nat
 Zp:Nat
 pq:List rY
structure Fb where
 table:List (ByteArray × ByteArray)
 ai:List sM
def rY.ke(l:rY):aK:=⟨if l.wr=true then (if l.gone=true then 2 else 1) else 0,l.val⟩
def PN(s:List rY)(k:ByteArray):Option rY:=s.find? λl=>decide (l.key=k)
def PO(xs:List sM)(t:Nat):Option sM:=xs.find? λx=>decide (x.id=t)
def upd(xs:List sM)(x:sM):List sM:=xs.map λy=>if y.id=x.id then x else y
def del(xs:List sM)(t:Nat):List sM:=xs.filter λy=>!decide (y.id=t)
def ins(xs:List sM)(x:sM):List sM:=(xs.takeWhile λy=>decide (y.id<x.id))++x :: (xs.dropWhile λy=>decide (y.id<x.id))
def aaZ(s:List rY):Prop:=s.Pairwise λa b=>a.key≠b.key
structure sM.Ok(aC:Nat)(x:sM):Prop where
 id0:x.id≠0
 idb:x.id<18446744073709551616
 st:x.st=1\/x.st=2\/x.st=3
 Zp:x.st≠3->x.Zp<=aC/\x.Zp<16
 once:aaZ x.pq
 four:x.pq.length<=4
 small:∀l∈x.pq,1<=l.key.size/\l.key.size<=16/\l.val.size<=32
 read:∀l∈x.pq,l.wr=false->l.val=ByteArray.empty
section
variable{s:ag}{R:Fb}
def Fb.state(R:Fb)(t:Nat):Nat:=((PO R.ai t).map (·.st)).getD 0
def Fb.refuse(R:Fb)(t:Nat)(seq:Int)(k:ByteArray):Nat :=
 if t=0 then 7 else if k.size<1\/16<k.size then 1 else
 match PO R.ai t with
 |some x=>if x.st=3 then 4 else if seq≠(x.ops:Int) then 4 else if x.st=2 then 3 else if (PN x.pq k).isSome=false/\x.pq.length=4 then 5 else 0
 |none=>if seq≠0 then 4 else if R.ai.length=12 then 5 else 0
def Tj(t:Nat)(k:ByteArray)(wr:Bool)(x:sM):Bool:=!decide (x.id=t)&&((PN x.pq k).map λl=>wr||l.wr).getD false
def meets(xs:List sM)(t:Nat)(k:ByteArray)(wr:Bool):Bool:=xs.any (Tj t k wr)
def Fb.tx(R:Fb)(t:Nat):sM:=(PO R.ai t).getD ⟨t,1,0,0,[]⟩
def began(xs:List sM)(t:Nat):List sM:=if (PO xs t).isSome=true then xs else ins xs ⟨t,1,0,0,[]⟩
def sM.XE(x:sM):sM:=⟨x.id,2,x.ops,0,x.pq⟩
def sM.worked(x:sM)(f:List rY->List rY):sM:=⟨x.id,x.st,x.ops+1,0,f x.pq⟩
def Fb.op(R:Fb)(t:Nat)(seq:Int)(k:ByteArray)(wr:Bool)(f:List rY->List rY):Fb × Nat :=
 if R.refuse t seq k=0 then
  if meets (began R.ai t) t k wr=true then (⟨R.table,upd (began R.ai t) (R.tx t).XE⟩,3)
  else (⟨R.table,upd (began R.ai t) ((R.tx t).worked f)⟩,0)
 else (R,R.refuse t seq k)
end
end Go.Proofs.YtcalalndmcemiaaGreatDoor
