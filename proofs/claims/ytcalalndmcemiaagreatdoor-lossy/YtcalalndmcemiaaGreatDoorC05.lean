import Derived.Test.YtcalalndmcemiaaGreatDoorC02
import Derived.Test.YtcalalndmcemiaaGreatDoorC03
import Derived.Test.YtcalalndmcemiaaGreatDoorC04
import Derived.Laws.AppendOwnNone
import Derived.Room.AppendFits
set_option maxHeartbeats 16000000
set_option maxRecDepth 100000
namespace Go.Proofs.YtcalalndmcemiaaGreatDoor
open Go.RowKit Go.Maps Tryz
variable{B D N c e f j n p q:Nat}{m v:Value}{a b w:World}{d:ah}{o:mG}
def dw(d:ah)(o:mG)(B p D N n a:Nat)(v:Value)(w:World)(e:Ending)(w':World):Prop :=
 e=.returned (cf (d.tell o).2)/\(∃m z,ax w' B p D N m (d.tell o).1 (n+1) a z/\bS w.heap.size v m)/\Fr (dS p D N v) w w'
theorem qN(h:d.writes.2=10):d.tell o=({d.writes.1 with pending:=d.writes.1.pending++[o]},10):=by unfold ah.tell;simp[h]
theorem qO(h:d.writes.2=9):d.tell o=(d.writes.1,9):=by unfold ah.tell;simp[h]
theorem AH(h:d.writes.2=0)(a:d.writes.1.now o.name=none/\2<o.kind):d.tell o=(d.writes.1,8):=by unfold ah.tell;simp[h,a]
theorem qP(h:d.writes.2=0)(a:¬(d.writes.1.now o.name=none/\2<o.kind))(b:¬(o.kind=4/\o.name=o.to)):d.tell o=({d.writes.1 with now:=fW d.writes.1.now o,pending:=d.writes.1.pending++[o]},0):=by unfold ah.tell;rw[if_neg<|by rw[h];decide,if_neg<|by rw[h];decide,if_neg a,if_neg b]
theorem iK(d:ah):d.writes.2=10\/d.writes.2=9\/d.writes.2=0:=by
 unfold ah.writes;split
 .simp
 .split<;>simp
theorem ax.UG{f l:World}{r s:Nat}{j:Value}(h:ax w B p D N v d n r s)(I:o.Ok 4096)
  (u:w.grownBy f v.ownBlock) (z:f.ownsRow B 182 4 j (d.pending.length+1)<|opsV<|d.pending++[o]) (A:l=f.setCell ⟨p,2,none⟩ j) :
  (∀n',r+(d.pending++[o]).length<=n'->s<=n'->n'<=67108864->ax l B p D N j {d with pending:=d.pending++[o]} n' r s)/\Fr (p::v.ownBlock.toList) w l:=by
 have C:=(u.block p (zza.1 h.blk).1 λe=>bj h.pen h.blk bM e.symm).trans h.blk;have F:=Fr.bz u;have Q:Fr (p::v.ownBlock.toList) w l:=by
  rw[A];exact(F.mono λk _ H=>List.mem_cons_of_mem _ H).setCell (Or.inl bR) _
 have R:∀q∈p::v.ownBlock.toList,∀t,w.heap[q]?≠some (dV t):=by
  intro q i t e;obtain rfl|i:=zzj.1 i
  .rw[h.blk]at e;cases e
  .simp at i;exact bj h.pen e bM i
 have E:∀(b k:Nat) (m:cC),FileMap w b k m->b∉p::v.ownBlock.toList:=by
  intro b k m y hb;obtain rfl|hb:=zzj.1 hb
  .exact y.cH h.blk rfl
  .simp at hb;have⟨c,G⟩:=aq h.pen hb;exact y.cH G rfl
 refine⟨λn' L O M=>?_,Q⟩;subst A
 have J:∀g,j.ownBlock=some g->g≠p:=by
  intro g K e;subst e;exact bj z C bM K
 refine {blk:=?_,base:=⟨h.base.1,h.base.2.1,h.base.2.2.1,zzk h.base.2.2.2 Q.size⟩,ne:=h.ne,rz:=h.rz.fr Q (E _ _ _ h.rz) R,now:=h.now.fr Q (E _ _ _ h.now) R,pen:=?_,hD:=L,hN:=O,hn:=M,MR:=h.MR,F6:=h.F6,ops:=?_}
 .have:=ar C 2 j;simpa using this
 .have:=aD z (S:=[p]) (Fr.cD (w:=f) (p:=p) (by simp) 2 j) λg K=>by simp;exact J g K
  simpa using this
 .intro x a;obtain a|a:=zzo.1 a
  .exact h.ops x a
  .simp at a;subst a;exact I
theorem ax.RT(h:ax w B p D N v d n c e)(hn:n<67108864)(f:o.Ok 4096)
  (g:w.grownBy a v.ownBlock) (r:a.ownsRow B 182 4 m (d.pending.length+1)<|opsV<|d.pending++[o]) (i:b=a.setCell ⟨p,2,none⟩ m) :
  ax b B p D N m {d with pending:=d.pending++[o]} (n+1) c e/\Fr (p::v.ownBlock.toList) w b:=by
 have⟨q,j⟩:=ax.UG h f g r i;exact⟨q (n+1) (by have:=h.hD;simp;omega) (by have:=h.hN;omega) bL,j⟩
theorem ax.AJ{N:cC}(h:ax w B p c e v {d with now:=N} (n+1) D<|f+1)(i:o.Ok 4096)
  (g:w.grownBy a v.ownBlock) (r:a.ownsRow B 182 4 m (d.pending.length+1)<|opsV<|d.pending++[o]) (k:b=a.setCell ⟨p,2,none⟩ m) (hD:D+d.pending.length<=n) :
  ax b B p c e m {d with now:=N,pending:=d.pending++[o]} (n+1) D (f+1)/\Fr (p::v.ownBlock.toList) w b:=by
 have⟨q,j⟩:=ax.UG h i g r k;exact⟨q (n+1) cE h.hN h.hn,j⟩
theorem gW{e:TypeId}{k:Nat}{xs:List Value}(h:w.ownsRow B e k v (n+1) xs):∃g p,v=.slice (some ⟨g,0,none⟩) (n+1) p:=by
 rcases h.2 with⟨_,a⟩|⟨g,p,r,rfl,_⟩
 .omega
 .exact⟨g,p,rfl⟩
theorem rM{m:Nat}(h:ax a B p D N v d n j m)(b:a.heap[q]?=some (sZ o))(g:(a.alloc<|sZ o).drew.grownBy w v.ownBlock)(f:v.ownBlock≠some q):
  w.cell? ⟨p,2,none⟩=some v/\w.frozen? ⟨p,2,none⟩=false/\w.cell? ⟨q,0,none⟩=some (.int .i64 o.kind)/\w.cell? ⟨q,1,none⟩=some (.string o.name)/\w.cell? ⟨q,2,none⟩=some (.string o.to)/\w.cell? ⟨q,3,none⟩=some (.string o.data):=by
 have i:=(zza.1 h.blk).1;have l:=(zza.1 b).1;have c:w.heap[p]?=some (gv D N v d.left d.full d.down):=by
  rw[g.block p cE λe=>bj h.pen h.blk bM e.symm];exact(zzf a _ p i).trans h.blk
 have k:w.heap[q]?=some (sZ o):=by
  rw[g.block q cE λe=>f e.symm];exact(zzf a _ q l).trans b
 refine⟨(ae c 2).trans bR,aj c 2,(ae k 0).trans bR,(ae k 1).trans bR,(ae k 2).trans bR,(ae k 3).trans bR⟩
theorem ax.done(h:ax w B p D N v d n j f)(b:w.heap[q]?=some (sZ o))(F:FileMap a N (f+1)<|fW d.now o)(m:w.grownBy a<|some N)(hn:n<67108864)(s:o.Ok 4096):
  ax a B p D N v {d with now:=fW d.now o} (n+1) j (f+1)/\a.heap[q]?=some (sZ o)/\Fr [N] w a:=by
 have hf:=Fr.aF m;have T:∀r∈[N],∀t,w.heap[r]?≠some (dV t):=by
  intro r i t e;simp at i;subst i;exact h.now.cH e rfl
 refine⟨?_,(hf.block q (zza.1 b).1<|by simp;exact λe=>h.now.cH b e.symm).trans b,hf⟩;refine {blk:=(hf.block p (zza.1 h.blk).1<|by simp;exact λe=>h.now.cH h.blk e.symm).trans h.blk,base:=⟨h.base.1,h.base.2.1,h.base.2.2.1,zzk h.base.2.2.2 hf.size⟩,ne:=h.ne,rz:=h.rz.fr hf (by simp;exact h.ne) T,now:=F,pen:=aD h.pen hf λg K=>by simp;intro e;subst e;have⟨c,l⟩:=aq h.pen K;exact h.now.cH l rfl,hD:=by have:=h.hD;simp;omega,hN:=by have:=h.hN;omega,hn:=bL,MR:=h.MR,F6:=?_,ops:=h.ops}
 .have:=Jk h.F6 s;intro k t u;have:=this k t u;omega
theorem RU(w:World):(binOp .eql 82 (.iface 44<|.int .i64 10)<|.iface 44<|.int .i64 10).run prog w=.ok (.bool true) w:=dJ
theorem RV(w:World):(binOp .eql 82 (.iface 44<|.int .i64 9)<|.iface 44<|.int .i64 10).run prog w=.ok (.bool false) w:=dJ
section
open Sc
variable{o p:Obj}{a w:World}
theorem jt{b:World}{r:Option Nat}(h:w.grownBy b r){B:Nat}(c:B<w.heap.size)(d:r≠some B)(i:Nat):b.cell? ⟨B,i,none⟩=w.cell? ⟨B,i,none⟩ :=
 zze (a:=⟨B,i,none⟩) (h.block B c (λe=>d e.symm))
theorem KP{r:Option Nat}(h:((w.alloc o).alloc p).grownBy a r)(b:r≠some w.heap.size)(i:Nat):a.cell? ⟨w.heap.size,i,none⟩=(w.alloc o).cell? ⟨w.heap.size,i,none⟩:=by
 rw[jt h (B:=w.heap.size) (by simp;omega) b i,World.cell?_alloc_lt _ _ ⟨w.heap.size,i,none⟩ (by simp)]
theorem V8{base n c:Nat}{xs:List Value}(h:a.ownsRow base 5 1 (.slice (some ⟨((w.alloc o).alloc p).heap.size,0,none⟩) n c) n xs):a.ownsRow base 5 1 (.slice (some ⟨w.heap.size+1+1,0,none⟩) n c) n xs:=by
 rw[zzv,zzv] at h;exact h
end
theorem tell_all(B p D N n u r k:Nat)(g:Value)(d:ah)(m o j:ByteArray)(w:World)(h:ax w B p D N g d n u r)(hn:n<67108864)(ho:mG.Ok ⟨k,m,o,j⟩ 4096)(K:k=4->(m.toList==o.toList)=false/\m≠o):
  Calls prog 389 #[.pointer (some ⟨p,0,none⟩),Rt ⟨k,m,o,j⟩] w (dw d ⟨k,m,o,j⟩ B p D N n u g w):=by
 have il:=(zza.1 h.blk).1;have I:=af h;have HE:Hid (¬(k=4/\m=o)):=λh=>(K h.1).2 h.2
 have HT:Hid (k=4->(m.toList==o.toList)=false):=λh=>(K h).1
 clear h K;have O:=af ho;clear ho
 go_enter func389,ntmps389
 go_wp2_with fail;refine(lM B p D N n u r g d _ (I.out.new ((Fr.refl [] w).alloc _))).mono ?_;rintro e c ⟨rfl,nC,bh⟩;have J:=af nC;have Q:c.heap[w.heap.size]?=some (sZ ⟨k,m,o,j⟩):=(bh.block w.heap.size (by simp) (by simp;omega)).trans (heap_alloc_new _ _);have V:Hid (Fr (dS p D N g) w c):=(((Fr.refl _ w).alloc _).mono (λk _ b=>b)).trans (bh.mono (T:=dS p D N g) (by intro k _ b;simp at b;subst b;simp));have a1:w.heap.size<c.heap.size:=(zza.1 Q).1;have W:=af Q;have b0:=ae Q 0;have b1:=ae Q 1;have b2:=ae Q 2;have b3:=ae Q 3;have p2:=ae nC.blk 2;have g2:=aj nC.blk 2;simp at b0 b1 b2 b3 p2;clear nC bh Q;have e1:=RU;have e2:=RV;have lB:∀f,(c.alloc f).frozen? ⟨p,2,none⟩=false:=λf=>(zzw (a:=⟨p,2,none⟩) (zzf c f p (by omega))).trans g2
 have pL:∀f,(c.alloc f).cell? ⟨p,2,none⟩=some g:=λf=>(zze (a:=⟨p,2,none⟩) (zzf c f p (by omega))).trans p2
 have Nw:Hid (d.writes.1.now.Le 549755813888):=λk t ht=>by have H:=J.out.F6 k t ht;have A:=J.out.hN;have h3:=J.out.hn;omega
 rcases iK d with l|l|l
 .rw[l,aG (by decide)];go_wp2
  go_region_law (first|(rw[if_pos (by rfl)];refine iY _ _ rfl B g d.writes.1.pending.length d.writes.1.pending ⟨k,m,o,j⟩ c.heap.size rfl ?_ rfl ?_ ?_ ?_ ?_;(exact J.out.pen.alloc _);(exact heap_alloc_new c (sZ ⟨k,m,o,j⟩));(have h8:u+d.writes.1.pending.length<=n:=J.out.hD;have:=J.out.hn;omega);(have:=J.out.base.2.2.2;simp;omega);intro v4 w4 z y x;obtain⟨G,L,rfl⟩:=gW z;have S:Hid (bS w.heap.size g (.slice (some ⟨G,0,none⟩) (d.writes.1.pending.length+1) L)):=bS.o_ x (by simp;omega);clear x;obtain⟨Nx,MS,KJ,RX,MT,MU⟩:=rM J.out W.out y (λe=>by have h9:=(I.out.pen.lt _ e).2;omega)))
  all_goals go_wp2
  all_goals go_ret
  all_goals unfold dw
  all_goals rw[qN l]
  all_goals obtain⟨P,R⟩:=J.out.RT hn O.out (aR (cm (cV c _ _)) y) z rfl
  all_goals exact⟨rfl,⟨_,r,P,S.out⟩,V.out.trans (R.mono (by intro k _ b;rcases zzj.1 b with rfl|b;simp;simp at b;simp[b]))⟩
 .rw[l,aG (by decide)];go_wp2;go_ret;unfold dw;rw[qO l];exact⟨rfl,⟨g,r,J.out.more hn,bS.refl _ _⟩,V.out⟩
 .rw[l,bK];have p1:=ae J.out.blk 1;simp at p1;have M:=FileMap.look (w:=c.drew) J.out.now m O.out.name;by_cases s:d.writes.1.now m=none/\2<k
  .have C:(2:Int)<(k:Int):=by omega
   rcases M with⟨-,hl⟩|⟨t,q,hN,-⟩
   .have HN:=af s;clear s;go_wp2
    go_region
    go_wp2;go_ret;unfold dw;rw[AH l HN.out];exact⟨rfl,⟨g,r,(J.out.new (Fr.refl [] c).drew).more hn,bS.refl _ _⟩,V.out.drew⟩
   .rw[s.1] at hN;cases hN
  .have HN:=af s
   have b:(¬(2:Int)<(k:Int)/\((k:Int)==4)=false)\/(((k:Int)==4)=false/\(2:Int)<(k:Int))\/((k:Int)==4)=true/\(m.toList==o.toList)=false/\(2:Int)<(k:Int):=by
    by_cases e:k=4
    .exact .inr (.inr ⟨by simp[e],HT.out e,by omega⟩)
    .have e':((k:Int)==4)=false:=by simp;omega
     by_cases e2:2<k
     .exact .inr (.inl ⟨e',by omega⟩)
     .exact .inl ⟨by omega,e'⟩
   have hD:(∃q v,(Instr.lookup 93 (.map (some N)) (.string m) true).run prog c.drew=.ok (.tuple #[q,.bool v]) c.drew/\(v=false->¬(2:Int)<(k:Int))):=by
    rcases M with⟨H,A⟩|⟨t,q,H,-,A⟩
    .exact⟨_,_,A,λ_ e=>s ⟨H,by omega⟩⟩
    .exact⟨_,_,A,nofun⟩
   obtain⟨q,v,hl,hv⟩:=hD;clear s M;rcases b with⟨C,k4⟩|⟨k4,C⟩|⟨k4,zT,C⟩
   all_goals
    cases v
    all_goals first|exact absurd C (hv rfl)|skip
    all_goals clear hv
    all_goals go_wp2
    all_goals go_region
    all_goals go_wp2
    all_goals go_region_with (first|(go_at_call 100;refine(sk N r 4096 d.writes.1.now ⟨k,m,o,j⟩ _ (J.out.now.new (Fr.refl [] c).drew.drew) (by have:=J.out.hN;have:=J.out.hn;unfold maxLen;omega) O.out (by omega) Nw.out).mono ?_;rintro e i ⟨rfl,zQ,fc⟩))
    all_goals have U:c.grownBy i (some N):=aR (cm (cm (dI c _))) fc
    all_goals obtain⟨E,Z,X⟩:=J.out.done W.out zQ U hn O.out
    all_goals have F:Hid (ax i B p D N g { d.writes.1 with now:=fW d.writes.1.now ⟨k,m,o,j⟩ } (n+1) u (r+1)):=E
    all_goals have wC:Hid (i.heap[w.heap.size]?=some (sZ ⟨k,m,o,j⟩)):=Z
    all_goals have pM:Hid (Fr (dS p D N g) w i):=V.out.trans (X.mono (by intro k _ b;simp at b;subst b;simp))
    all_goals have a6:c.heap.size<=i.heap.size:=U.size
    all_goals have c0:=ae Z 0
    all_goals have c1:=ae Z 1
    all_goals have c2:=ae Z 2
    all_goals have c3:=ae Z 3
    all_goals have Y:=ae E.blk 2
    all_goals have MV:=aj E.blk 2
    all_goals simp at c0 c1 c2 c3 Y
    all_goals have MW:∀f,(i.alloc f).frozen? ⟨p,2,none⟩=false:=λf=>(zzw (a:=⟨p,2,none⟩) (zzf i f p (by omega))).trans MV
    all_goals have su:∀f,(i.alloc f).cell? ⟨p,2,none⟩=some g:=λf=>(zze (a:=⟨p,2,none⟩) (zzf i f p (by omega))).trans Y
    all_goals clear E Z X zQ fc U
    all_goals go_wp2
    all_goals go_region_law (first|(rw[if_pos (by rfl)];refine iY _ _ rfl B g d.writes.1.pending.length d.writes.1.pending ⟨k,m,o,j⟩ i.heap.size rfl ?_ rfl ?_ ?_ ?_ ?_;(exact F.out.pen.alloc _);(exact heap_alloc_new i (sZ ⟨k,m,o,j⟩));(have h8:u+d.writes.1.pending.length<=n:=J.out.hD;have:=J.out.hn;omega);(have:=F.out.base.2.2.2;simp;omega);intro v4 w4 z y x;obtain⟨G,L,rfl⟩:=gW z;have S:Hid (bS w.heap.size g (.slice (some ⟨G,0,none⟩) (d.writes.1.pending.length+1) L)):=bS.o_ x (by simp;omega);clear x;obtain⟨Nx,MS,KJ,RX,MT,MU⟩:=rM F.out wC.out y (λe=>by have h9:=(I.out.pen.lt _ e).2;omega)))
    all_goals go_wp2
    all_goals go_ret
    all_goals unfold dw
    all_goals rw[qP l HN.out HE.out]
    all_goals obtain⟨P,R⟩:=F.out.AJ O.out (aR (cm (cV i _ _)) y) z rfl J.out.hD
    all_goals exact⟨rfl,⟨_,r+1,P,S.out⟩,pM.out.trans (R.mono (by intro k _ b;rcases zzj.1 b with rfl|b;simp;simp at b;simp[b]))⟩
theorem xG(B p D N n a b:Nat)(v:Value)(d:ah)(o:mG)(w:World)(h:ax w B p D N v d n a b)(hn:n<67108864)(c:o.Ok 4096)(e:o.kind=4->(o.name.toList==o.to.toList)=false/\o.name≠o.to):
  Calls prog 389 #[.pointer (some ⟨p,0,none⟩),Rt o] w (dw d o B p D N n a v w):=tell_all B p D N n a b o.kind v d o.name o.to o.data w h hn c e
section
open Sc
variable{l:List Nat}{xs:List Value}{B D N b base f g i k len n p:Nat}{v:Value}{w w':World}{d:ah}
theorem rO(base g n p:Nat)(xs:List Value)(w:World)(A:w.ownsRow base 5 1 (.slice (some ⟨g,0,none⟩) n p) n xs)(hn:n<=1099511627776):
  Calls prog 70 #[.slice (some ⟨g,0,none⟩) n p] w λe w'=>e=.returned (.tuple #[])/\w.grownBy w' (some g):=by
 go_enter func70,ntmps70
 go_wp2
 go_loopw [5] (λi wr=>∃k:Nat,k<=n/\i=.int .i64 k/\(∃s,wr.ownsRow base 5 1 (.slice (some ⟨g,0,none⟩) n p) n s)/\w.grownBy wr (some g)) (λi _=>n-(intOf i).toNat)
 case atStart=>exact⟨0,zzs _,rfl,⟨xs,A⟩,dI _ _⟩
 case round =>
  obtain⟨k,h,rfl,⟨s,y⟩,a⟩:=hrel;by_cases U:k<n
  .have Ru:=y.cellAt k (by omega);have hlen:k<s.length:=by have:=y.1;omega
   rw[zzg hlen] at Ru;have x:=y.frozenAt k;obtain⟨P,c⟩:=y.stored k (.int .u8 33);have Y:=af P;have G:=af (aR a c);clear y P c a;go_wp2
   go_roundw
   case rel=>exact⟨k+1,by omega,by go_num,⟨_,Y.out⟩,G.out⟩
   case measure=>simp[intOf];omega
  .go_wp2;go_end0;exact⟨rfl,a⟩
theorem B7(w:World):Calls prog 70 #[.slice none 0 0] w λe w'=>e=.returned (.tuple #[])/\w'=w:=by
 go_enter func70,ntmps70
 go_wp2;refine wp_loop_rounds 1 ?_;rw[rounds_succ];go_wp2;go_end0;exact⟨rfl,rfl⟩
def ph(l:List Nat):Bool:=(l.length==15)&&js l
def zW(l:List Nat):Value:=if ph l=true then R6 (at_ l 0) (at_ l 1) (at_ l 2) (oA l) else R6 0 0 0 0
def Sa(l:List Nat):Int:=if ph l=true then 0 else 2
theorem AQ(h:l.length≠15):ph l=false:=by unfold ph;simp[h]
theorem p9(h:l.length=15):ph l=js l:=by unfold ph;simp[h]
theorem B8(h:l.length=15):zW l=xI l:=by unfold zW xI;rw[p9 h]
theorem NQ(h:l.length≠15):zW l=.agg #[.int .i64 0,.int .i64 0,.int .i64 0,.int .u64 0]:=by unfold zW;rw[AQ h];rfl
theorem GA(base n:Nat)(v:Value)(l:List Nat)(w:World)(A:w.ownsRow base 5 1 v n (bs l))(hb:kE l):
  Calls prog 158 #[v] w λe w'=>e=.returned (.tuple #[zW l,Gv (ph l)])/\Below w.heap.size w w':=by
 have hlen:=Ji A;by_cases Y:n=15
 .obtain⟨g,p,rfl,_,_,hc,ef,aI⟩:=KB A (by omega);subst Y;rw[B8 hlen,p9 hlen];exact uM g 0 p l w hlen hb hc ef aI
 .rw[NQ (by omega),AQ (by omega),tG];have h:=A.2;rcases h with⟨rfl,rfl⟩|⟨g,p,r,rfl,a,_⟩
  .exact xK none 0 0 w (by omega)
  .exact xK _ n p w Y
theorem AR(l:List Nat):∃k f t x:Int,zW l=.agg #[.int .i64 k,.int .i64 f,.int .i64 t,.int .u64 x]:=by
 unfold zW;split
 .exact⟨_,_,_,_,rfl⟩
 .exact⟨_,_,_,_,rfl⟩
theorem NR(base n:Nat)(v:Value)(l:List Nat)(w:World)(A:w.ownsRow base 5 1 v n (bs l))(hb:kE l):
  Calls prog 115 #[v] w λe w'=>e=.returned (.tuple #[zW l,Gv (ph l)])/\Below w.heap.size w w':=by
 obtain⟨k,f,t,x,V⟩:=AR l;rw[V];have O:=A.alloc (fk 0 0 0 0);have H:=af O;have b:=af V;clear O V A
 go_enter func115,ntmps115
 go_wp2_with fail;refine(GA base n v l _ H.out hb).mono ?_;rintro e a ⟨rfl,cG⟩;rw[b.out];have Y:Below (w.heap.size+1) (w.alloc (fk 0 0 0 0)) a:=by rw[zzv] at cG;exact cG
 have X:∀i,a.cell? ⟨w.heap.size,i,none⟩=(w.alloc (fk 0 0 0 0)).cell? ⟨w.heap.size,i,none⟩:=λi=>Y.cell (p:=⟨w.heap.size,i,none⟩) (by simp)
 have h:∀i,a.frozen? ⟨w.heap.size,i,none⟩=false:=λi=>by rw[Y.frozen (p:=⟨w.heap.size,i,none⟩) (by simp)];simp
 have j:Hid (Below w.heap.size w a):=((zzD _ _).alloc (zzc _) _).trans (Y.mono (by omega));clear cG Y;go_wp2;exact bodyPost_ret (v:=.tuple #[.agg #[.int .i64 k,.int .i64 f,.int .i64 t,.int .u64 x],Gv (ph l)]) (by simp[results,results115,go_sem,X]) rfl ⟨rfl,(((j.out.setCell (zzc _) _).setCell (zzc _) _).setCell (zzc _) _).setCell (zzc _) _⟩
def NS(b:Bool):Int:=if b=true then 0 else 2
theorem KT(l:List Nat):Sa l=NS (ph l):=rfl
theorem ZX(b:Bool)(w:World)(g:Met w):Calls prog 30 #[Gv b] w λe w'=>e=.returned (.int .i64 (NS b))/\Below w.heap.size w w':=by
 cases b with
 |true=>rw[xL];exact DW w
 |false=>rw[tG];exact DX 2 w g
def Src(w:World)(v:Value)(l:List Nat):Prop :=
 (v=.slice none 0 0/\l=[])\/∃b f p,v=.slice (some ⟨b,f,none⟩) l.length p/\cW w b f l/\b<w.heap.size/\l.length<=p/\p<=maxLen
theorem Src.alloc(h:Src w v l)(o:Obj):Src (w.alloc o) v l:=by
 rcases h with h|⟨b,off,cap,h1,h2,h3,h4⟩
 .exact Or.inl h
 .exact Or.inr ⟨b,off,cap,h1,(jr h3).2 h2,by simp;omega,h4⟩
theorem GB{ops:Array Oper}{rest:List Oper}{o:Oper}{a:Act}{Q:Exit->Act->World->Prop}(U:o.guard=none)(x:Operand)
  (d:o.op=.call { callee:=.builtin .append,args:=#[.const (.slice none 0 0),x],argTypes:=#[88,88] })
  (v:Value) (l:List Nat) (e:a.eval x=v) (hs:Src w v l) (t:l.length<=1099511627776)
  (h:∀c w',w'.ownsRow w.heap.size 5 1 c l.length (bs l)->Below w.heap.size w w'->wpList prog ops Q rest (a.put o.dst c) w'):wpList prog ops Q (o :: rest) a w:=by
 obtain⟨f,i,k,m,n⟩:=info_parts pV;rcases hs with⟨rfl,rfl⟩|⟨b,r,p,rfl,I,s,_,_⟩
 .exact wpList_append_own_none U _ x 88 d w.heap.size 5 f 1 underlying88 i (.slice none 0 0) 0 [] rfl (zzu _ _ _ _) e
   (h _ _ (zzu _ _ _ _) (zzD _ _))
 .refine wpList_append_own w U _ x 88 d w.heap.size 5 f (.int .u8 0) 1 1 underlying88 i k m n rfl (by decide) (.slice none 0 0) 0 [] rfl (zzu _ _ _ _) ⟨b,r,none⟩ l.length p (bs l) e (by rw[xD];omega) ?_ ?_ (by unfold maxLen;omega) (by omega) (zzc _) ?_
  .intro j u hj
   have M:j<l.length:=by
    have:=(zzd.1 hj).1;rwa [xD] at this
   rw[Jh l j M] at hj
   cases hj;have:=I j M
   simpa [Addr.add_lit] using this
  .intro u hu;unfold bs at hu;obtain⟨y,_,rfl⟩:=zzq.1 hu;rfl
  .intro c w' cA g_ _;refine h c w' (by simpa using cA) ((zzD _ _).grown g_ (zzc _) (λq g=>by simp[Value.ownBlock] at g))
theorem xM(h:Below w.heap.size w w')(r:Option Nat):w.grownBy w' r:=⟨h.os,h.tape,h.output,h.size,λk a _=>h.block k a⟩
theorem KV(h:w.ownsRow base 5 1 v n xs)(hb:Below w.heap.size w w'):w'.ownsRow base 5 1 v n xs:=
 h.kept (xM hb none) (by cases v.ownBlock<;>simp)
theorem zX(base n:Nat)(v:Value)(xs:List Value)(w:World)(A:w.ownsRow base 5 1 v n xs)(hn:n<=1099511627776):
  Calls prog 70 #[v] w λe w'=>e=.returned (.tuple #[])/\w.grownBy w' v.ownBlock:=by
 have h:=A.2;rcases h with⟨rfl,rfl⟩|⟨g,p,r,rfl,a,_⟩
 .refine(B7 w).mono ?_;rintro e w' ⟨rfl,rfl⟩;exact⟨rfl,dI _ _⟩
 .refine(rO base g n p xs w A hn).mono ?_;rintro e w' ⟨rfl,g_⟩;exact⟨rfl,g_⟩
def GC(w:World)(B:Nat)(k f t x:Int):Prop:=w.cell? ⟨B,0,none⟩=some (.int .i64 k)/\w.cell? ⟨B,1,none⟩=some (.int .i64 f)/\w.cell? ⟨B,2,none⟩=some (.int .i64 t)/\w.cell? ⟨B,3,none⟩=some (.int .u64 x)
def NT(w:World)(B:Nat):Prop:=∀i,w.frozen? ⟨B,i,none⟩=false
theorem GC.cI{k f t x:Int}(h:GC w B k f t x)(hb:w'.heap[B]?=w.heap[B]?):GC w' B k f t x:=by
 have e:∀i,w'.cell? (hO B i)=w.cell? (hO B i):=λi=>zze hb
 exact⟨(e 0).trans h.1,(e 1).trans h.2.1,(e 2).trans h.2.2.1,(e 3).trans h.2.2.2⟩
theorem NT.cI(h:NT w B)(hb:w'.heap[B]?=w.heap[B]?):NT w' B:=λi=>(zzw hb).trans<|h i
theorem acw(v:Value)(l:List Nat)(w:World)(hs:Src w v l)(hb:kE l)(o:l.length<=1099511627776)(j:Met w):
  Calls prog 71 #[v] w λe w'=>e=.returned (.tuple #[zW l,.int .i64<|Sa l])/\Below w.heap.size w w':=by
 obtain⟨k,f,t,x,V⟩:=AR l;have u:Hid (zW l=.agg #[.int .i64 k,.int .i64 f,.int .i64 t,.int .u64 x]):=V;rw[V];have r:Hid (Met w):=j;have L:=j.lt;have S:Hid (Src (w.alloc<|fk 0 0 0 0) v l):=hs.alloc _;clear V hs j
 go_enter func71,ntmps71
 go_wp2_with (at_builtin;refine GB rfl _ rfl v l rfl S.out o ?_;intro d g E n)
 have G:g.ownsRow (w.heap.size+1) 5 1 d l.length (bs l):=by
  have h:=E
  rwa [zzv]at h
 have Y:Below (w.heap.size+1) (w.alloc<|fk 0 0 0 0) g:=by
  have h:=n
  rwa [zzv]at h
 clear E n;have N:w.heap.size+1<=g.heap.size:=by have:=Y.size;simp at this;omega
 refine(NR (w.heap.size+1) l.length d l _ G hb).mono ?_;rintro e a ⟨rfl,cZ⟩;rw[u.out];have H:=KV G cZ;have a6:g.heap.size<=a.heap.size:=cZ.size;have Z:Below (w.heap.size+1) (w.alloc<|fk 0 0 0 0) a:=Y.trans<|cZ.mono N;have W:Hid (a.ownsRow (w.heap.size+1) 5 1 d l.length<|bs l):=H;have z:Hid (g.ownsRow (w.heap.size+1) 5 1 d l.length<|bs l):=G;have C:Hid (Below (w.heap.size+1) (w.alloc<|fk 0 0 0 0) a):=Z;clear H Z G Y cZ;go_wp2_with fail;refine(zX (w.heap.size+1) l.length d (bs l) _ (W.out.alloc _) o).mono ?_;rintro e b ⟨rfl,hU⟩;have s:∀q,d.ownBlock=some q->w.heap.size+1<=q/\q<g.heap.size:=λq m=>z.out.lt q m
 have M:b.heap[a.heap.size]?=(a.alloc<|fk k f t x).heap[a.heap.size]?:=hU.block _ (by simp) λe=>by have:=(s _ e.symm).2;omega
 have R:b.heap[w.heap.size]?=(w.alloc<|fk 0 0 0 0).heap[w.heap.size]?:=by
  rw[hU.block _ cE λe=>by have:=(s _ e.symm).1;omega,zzf _ _ _ bL,C.out.block _ bL]
 have D:Below w.heap.size w b:=(((((zzD _ _).alloc (zzc _) _).trans<|C.out.mono bL).alloc bL _)).grown hU cE (λq m=>by have:=(s _ m).1;omega);have K:GC b a.heap.size k f t x:=GC.cI (w:=a.alloc<|fk k f t x) ⟨by simp,by simp,by simp,bR⟩ M;have r4:GC b w.heap.size 0 0 0 0:=GC.cI (w:=w.alloc<|fk 0 0 0 0) ⟨by simp,by simp,bR,bR⟩ R;have F:NT b w.heap.size:=NT.cI (w:=w.alloc<|fk 0 0 0 0) (λi=>bR) R;have I:a.heap.size<b.heap.size:=by have:=hU.size;simp at this;omega
 have B:Hid (Below w.heap.size w b):=D;have A:Hid (Met b):=r.out.below D L;clear hU M R D s;have⟨J,c1,c2,c3⟩:=K;have⟨U,X,r2,r3⟩:=r4;have O:=F 0;have P:=F 1;have Q:=F 2;have T:=F 3;clear F;have c:w.heap.size<b.heap.size:=bL;have a1:¬w.heap.size=a.heap.size:=bL;go_wp2;go_region_held3 (λw'=>w'.cell? ⟨a.heap.size,0,none⟩=some (.int .i64 k)/\w'.cell? ⟨a.heap.size,1,none⟩=some (.int .i64 f)/\w'.cell? ⟨a.heap.size,2,none⟩=some (.int .i64 t)/\w'.cell? ⟨a.heap.size,3,none⟩=some (.int .u64 x)) (go_keep)
  (first|(go_at_call 30;refine(ZX _ _ ?_).mono ?_;exact A.out;rintro e w4 ⟨rfl,p_⟩;have m0:=(p_.cell (p:=⟨a.heap.size,0,none⟩) I).trans J;have s0:=(p_.cell (p:=⟨w.heap.size,0,none⟩) c).trans U;have p0:=(p_.frozen (p:=⟨w.heap.size,0,none⟩) c).trans O;have m1:=(p_.cell (p:=⟨a.heap.size,1,none⟩) I).trans c1;have s1:=(p_.cell (p:=⟨w.heap.size,1,none⟩) c).trans X;have p1:=(p_.frozen (p:=⟨w.heap.size,1,none⟩) c).trans P;have m2:=(p_.cell (p:=⟨a.heap.size,2,none⟩) I).trans c2;have s2:=(p_.cell (p:=⟨w.heap.size,2,none⟩) c).trans r2;have p2:=(p_.frozen (p:=⟨w.heap.size,2,none⟩) c).trans Q;have m3:=(p_.cell (p:=⟨a.heap.size,3,none⟩) I).trans c3;have s3:=(p_.cell (p:=⟨w.heap.size,3,none⟩) c).trans r3;have p3:=(p_.frozen (p:=⟨w.heap.size,3,none⟩) c).trans T))
 have y:Hid (Below w.heap.size w w4):=B.out.drew.trans (p_.mono<|by show w.heap.size<=b.heap.size;omega);clear p_;go_wp2;rw[KT];refine bodyPost_ret (v:=.tuple #[.agg #[.int .i64 k,.int .i64 f,.int .i64 t,.int .u64 x],.int .i64<|NS<|ph l]) (by simp[results,results71,go_sem,s0,s1,s2,s3]) rfl ⟨rfl,?_⟩;exact(((y.out.setCell (zzc _) _).setCell (zzc _) _).setCell (zzc _) _).setCell (zzc _) _
def bytesOf(s:ByteArray):List Nat:=s.data.toList.map UInt8.toNat
theorem dy(s:ByteArray):(bytesOf s).length=s.size:=by unfold bytesOf;rw[zzn,Array.length_toList];rfl
theorem DZ(s:ByteArray):kE (bytesOf s):=by
 intro x h;unfold bytesOf at h;obtain⟨y,_,rfl⟩:=zzq.1 h;exact y.toNat_lt
def oB(s:ByteArray)(c:Nat):Obj:=.cells (bytesRow s c) 5 ((bytesRow s c).size,(bytesRow s c).size+1)
theorem lO(w:World)(s:ByteArray):(convert 9 88 (.string s)).run prog w=.ok (.slice (some ⟨w.heap.size,0,none⟩) s.size (grownCap w s.size 0 5)) (w.drew.alloc (oB s (grownCap w s.size 0 5))) :=
 run_bytes_of_string w _ _ _ s underlying9 underlying88 underlying5
theorem tH(w:World)(s:ByteArray)(c:Nat):cW (w.drew.alloc (oB s c)) w.heap.size 0 (bytesOf s):=λi h=>by
 have a:(w.drew.alloc (oB s c)).cell? ⟨w.heap.size,0+i,none⟩=(bytesRow s c)[0+i]?:=by
  have:=cell_of_row (w.drew.alloc (oB s c)) w.heap.size (0+i) (bytesRow s c) 5 ((bytesRow s c).size,(bytesRow s c).size+1) (heap_alloc_new w.drew _);exact this
 rw[dy] at h;have V:=h;rw[a,Nat.zero_add,bytesRow_at s c i V];simp[at_,bytesOf,Array.getElem?_eq_getElem V]
theorem Jt(w:World)(s:ByteArray)(hs:s.size<=maxLen):Src (w.drew.alloc (oB s (grownCap w s.size 0 5))) (.slice (some ⟨w.heap.size,0,none⟩) s.size (grownCap w s.size 0 5)) (bytesOf s) :=
 Or.inr ⟨w.heap.size,0,_,by rw[dy],tH w s _,by simp,by rw[dy];exact grownCap_ge _ _ _ _,grownCap_le_maxLen _ _ _ _ hs⟩
def str(l:List Nat):ByteArray:=(l.map λx:Nat=>(x:Int)).foldl (λr n=>r.push (UInt8.ofNat n.toNat)) ByteArray.empty
theorem jN(w:World)(g f n p:Nat)(l:List Nat)(b:l.length=n)(I:cW w g f l):(convert 88 9 (.slice (some ⟨g,f,none⟩) n p)).run prog w=.ok (.string (str l)) w:=by
 rw[run_convert_bytes_string w _ _ _ _ _ _ underlying88 underlying5 underlying9];refine run_bytesToString w _ _ _ _ ?_;have h:=run_loadCells_list (P:=prog) w ⟨g,f,none⟩ (bs l) (λj v a=>?_)
 .rw[xD,b] at h;rw[h];simp[bs]
 .have nM:j<l.length:=by
   have:=(zzd.1 a).1;rwa [xD] at this
  rw[Jh l j nM] at a
  cases a
  simpa [Addr.add_lit] using I j nM
def kF(x k:Nat)(l:List Nat):List Nat:=be 2 l.length++be 8 x++[k]++l
def bF(x k:Nat)(l:List Nat):List Nat:=kF x k l++be 4 (zP (kF x k l))
theorem D3(x k:Nat)(l:List Nat):(kF x k l).length=11+l.length:=by simp[kF,dH];omega
theorem tK(x k:Nat)(l:List Nat):(bF x k l).length=15+l.length:=by simp[bF,D3,dH];omega
theorem D4(x k:Nat)(l:List Nat)(h:k<256)(a:kE l):kE (kF x k l):=by
 intro b hb;simp only[kF,zzo,List.mem_singleton] at hb;rcases hb with ((hb|hb)|rfl)|hb
 .exact Jg _ _ _ hb
 .exact Jg _ _ _ hb
 .exact h
 .exact a _ hb
theorem D5(s:ByteArray):Lib.strCells s=bs (bytesOf s):=by simp[Lib.strCells,bs,bytesOf]
abbrev Sd(x k:Int)(s:ByteArray):Obj:=.cells #[.int .u64 x,.int .u8 k,.string s] 110
theorem cR(l:List Nat):(str l).size=l.length:=by
 have h:∀(m:List Int) (a:ByteArray),(m.foldl (λr n=>r.push<|UInt8.ofNat n.toNat) a).size=a.size+m.length:=by
  intro m;induction m with
  |nil=>intro a;simp
  |cons x m ih=>intro a;rw[List.foldl_cons,ih];simp[ByteArray.size_push];omega
 unfold str;rw[h];simp
def B9(d:ah)(o:mG)(B p D N n a g:Nat)(v:Value)(w:World)(e:Ending)(w':World):Prop :=
 e=.returned (cf (d.tell o).2)/\(∃m z,ax w' B p D N m (d.tell o).1 (n+1) a z/\bS w.heap.size v m)/\Fr (g :: dS p D N v) w w'
theorem ax.bytes(h:ax w B p D N v d n b f)(r:w.ownsRow k 5 1 (.slice (some ⟨g,0,none⟩) len i) len xs)(hf:Fr [g] w w'):ax w' B p D N v d n b f:=by
 have⟨c,a⟩:=aq r rfl;refine h.fr hf ?_ ?_ ?_ ?_ ?_
 .simp;intro e;subst e;rw[h.blk]at a;cases a
 .simp;exact h.rz.cH a
 .simp;exact h.now.cH a
 .intro q hq;simp;intro e;subst e;exact bj h.pen a bM hq
 .intro q hq t;simp at hq;subst hq;rw[a];intro e;cases e
theorem NU(h:ax w B p D N v d n f i)(r:w.ownsRow k 5 1 (.slice (some ⟨g,0,none⟩) len b) len xs):g∉dS p D N v:=by
 have⟨c,a⟩:=aq r rfl;intro m;obtain e|m:=zzj.1 m
 .subst e;rw[h.blk]at a;cases a
 obtain e|m:=zzj.1 m
 .exact h.rz.cH a e.symm
 obtain e|m:=zzj.1 m
 .exact h.now.cH a e.symm
 .simp at m;exact bj h.pen a bM m
theorem NV{wr:World}{s:List Value}(y:wr.ownsRow base 5 1 (.slice (some ⟨g,0,none⟩) n p) n s)(a:w.grownBy wr<|some g):(wr.setCell ⟨g,k,none⟩<|.int .u8 33).ownsRow base 5 1 (.slice (some ⟨g,0,none⟩) n p) n (s.set k<|.int .u8 33)/\w.grownBy (wr.setCell ⟨g,k,none⟩<|.int .u8 33) (some g):=by
 have⟨h,b⟩:=y.stored k<|.int .u8 33;exact⟨h,aR a b⟩
theorem Ju(B p D N n o z kd g c base:Nat)(v:Value)(d:ah)(b:ByteArray)(l:List Nat)(w:World)(h:ax w B p D N v d n o z)(hn:n<67108864)(u:kd=1\/kd=2)(Q:b.size<=maxLen)
  (r:w.ownsRow base 5 1 (.slice (some ⟨g,0,none⟩) l.length c) l.length<|bs l) (x:l.length<=4096) :
  Calls prog 387 #[.pointer<|some ⟨p,0,none⟩,.int .i64 (kd:Int),.string b,.slice (some ⟨g,0,none⟩) l.length c] w (B9 d ⟨kd,b,ByteArray.empty,str l⟩ B p D N n o g v w):=by
 have I:=af h;have R:=af r;have O:=jN w g 0 l.length c l rfl<|lA r;have G:=af<|NU h r;have nG:=(kp r).2;clear h r;have⟨m,j⟩:=gb l.length;rw[<-j]at O R x ⊢;have L:=af j.symm;clear j
 go_enter func387,ntmps387;go_wp2_with fail;apply(xG B p D N n o z v d ⟨kd,b,yA,str l⟩ w I.out hn ⟨by obtain h|h:=u<;>simp[h],Q,bR,by rw[cR,L.out];exact x⟩<|by obtain h|h:=u<;>(intro M;simp only at M;omega)).mono;rintro e C ⟨rfl,⟨j9,lu,nC,lZ⟩,bh⟩;have J:=af lZ;clear lZ;have K:=af nC;have V:=af bh;have A:=aD R.out bh (λq a=>by cases a;exact G.out);have Z:=bh.size;clear nC bh;generalize E:cf (d.tell ⟨kd,b,yA,str l⟩).2=ev;have H:=af E;clear E;go_wp2;go_loopw [20] (λi wr=>∃k:Nat,k<=m/\i=.int .i64 k/\(∃s,wr.ownsRow base 5 1 (.slice (some (gz g)) m c) m s)/\C.grownBy wr (some g)) (λi _=>m-(intOf i).toNat)
 case atStart=>exact⟨0,zzs _,rfl,⟨_,A⟩,dI _ _⟩
 case round=>
  obtain⟨k,X,rfl,⟨s,y⟩,f⟩:=hrel;by_cases U:k<m
  .have Ru:=y.cellAt k bL;have hlen:k<s.length:=by have:=y.1;omega
   rw[zzg hlen]at Ru;have S:=y.frozenAt k;obtain⟨P,t⟩:=NV (k:=k) y f;have Y:=af P;have F:=af t;clear y P t f;go_wp2;go_roundw;case rel=>exact⟨k+1,bL,eR,⟨_,Y.out⟩,F.out⟩
   case measure=>simp[intOf];omega
  .go_wp2;go_ret;have W:=Fr.aF f;exact⟨by rw[H.out];rfl,⟨j9,lu,K.out.bytes A W,J.out⟩,(V.out.mono λq _ a=>List.mem_cons_of_mem _ a).trans<|W.mono λq _ a=>by simp at a;subst a;simp⟩
end
end Go.Proofs.YtcalalndmcemiaaGreatDoor
