import Derived.Test.YtlgeloebpdmnnaaGreatDoorC01
set_option maxHeartbeats 16000000
set_option maxRecDepth 100000
namespace Go.Proofs.YtlgeloebpdmnnaaGreatDoor
open Go.RowKit Go.Maps Tryz
theorem RX(B p D N n m i k:Nat)(pv:Value)(d:aj)(nm to f:nS)(w:nL)(h:aC w B p D N pv d n m i)(hn:n<1000000000)(S:km.Ok ⟨k,nm,to,f⟩ 4096)(E:k=4->(nm.toList==to.toList)=false/\nm≠to):
  Calls prog 418 #[gx p,opV ⟨k,nm,to,f⟩] w (m_ d ⟨k,nm,to,f⟩ B p D N n m pv w):=by
 have qI:=(zza.1 h.blk).1;have I:=ah h;have HE:Hid (¬(k=4/\nm=to)):=λh=>(E h.1).2 h.2
 have HT:Hid (k=4->(nm.toList==to.toList)=false):=λh=>(E h).1
 clear h E;have O:=ah S;clear S
 go_enter func418,ntmps418
 go_wp2_with fail;refine(xV B p D N n m i pv d _ (I.out.new ((Fr.refl [] w).alloc _))).mono ?_;rintro e c ⟨rfl,J6,cY⟩;have C:=ah J6;have j:c.heap[w.heap.size]?=some (MP ⟨k,nm,to,f⟩):=(cY.block w.heap.size (by simp) (by simp;omega)).trans (oz _ _);have L:Hid (Fr (dS p D N pv) w c):=(((Fr.refl _ w).alloc _).mono (λk _ b=>b)).trans (cY.mono (T:=dS p D N pv) (by intro k _ b;simp at b;subst b;simp));have al:w.heap.size<c.heap.size:=(zza.1 j).1;have P:=ah j;have b0:=af j 0;have b1:=af j 1;have b2:=af j 2;have b3:=af j 3;have Z:=af J6.blk 2;have g2:=aq J6.blk 2;simp at b0 b1 b2 b3 Z;clear J6 cY j;have e1:=aeV;have e2:=aeW;have gI:∀o,(c.alloc o).frozen? ⟨p,2,none⟩=false:=λo=>(zzw (a:=⟨p,2,none⟩) (zzf c o p (by omega))).trans g2
 have GZ:∀o,(c.alloc o).cell? ⟨p,2,none⟩=some pv:=λo=>(zze (a:=⟨p,2,none⟩) (zzf c o p (by omega))).trans Z
 have a1:Hid (d.writes.1.now.Le 4200000000000):=λk t ht=>by have z:=C.out.Ov k t ht;have s:=C.out.hN;have h3:=C.out.hn;omega
 rcases qH d with g|g|g
 .rw[g,aV (by decide)];go_wp2
  go_region_law (first|(rw[oo (by rfl)];refine GY _ _ rfl B pv d.writes.1.pending.length d.writes.1.pending ⟨k,nm,to,f⟩ c.heap.size rfl ?_ rfl ?_ ?_ ?_ ?_;(exact C.out.pen.alloc _);(exact oz c (MP ⟨k,nm,to,f⟩));(have h8:m+d.writes.1.pending.length<=n:=C.out.hD;have:=C.out.hn;omega);(have:=C.out.base.2.2.2;simp;omega);intro v4 w4 X Y r;obtain⟨x,A,rfl⟩:=wF X;have G:Hid (bU w.heap.size pv (.slice (some ⟨x,0,none⟩) (d.writes.1.pending.length+1) A)):=bU.zg r (by simp;omega);clear r;obtain⟨ae,ad,a7,a8,a',aa⟩:=Zo C.out P.out Y (λe=>by have h9:=(I.out.pen.lt _ e).2;omega)))
  all_goals go_wp2
  all_goals go_ret
  all_goals unfold m_
  all_goals rw[Ow g]
  all_goals obtain⟨K,M⟩:=C.out.WD hn O.out (cI (mQ (iV c _ _)) Y) X rfl
  all_goals exact⟨rfl,⟨_,i,K,G.out⟩,L.out.trans (M.mono (by intro k _ b;rcases zzj.1 b with rfl|b;simp;simp at b;simp[b]))⟩
 .rw[g,aV (by decide)];go_wp2;go_ret;unfold m_;rw[Ox g];exact⟨rfl,⟨pv,i,C.out.more hn,bU.refl _ _⟩,L.out⟩
 .rw[g,aT];have p1:=af C.out.blk 1;simp at p1;have J:=FileMap.look (w:=c.drew) C.out.now nm O.out.name;by_cases l:d.writes.1.now nm=none/\2<k
  .have u:(2:Int)<(k:Int):=by omega
   rcases J with⟨-,hl⟩|⟨t,q,hN,-⟩
   .have HN:=ah l;clear l;go_wp2
    go_region
    go_wp2;go_ret;unfold m_;rw[Oy g HN.out];exact⟨rfl,⟨pv,i,(C.out.new (Fr.refl [] c).drew).more hn,bU.refl _ _⟩,L.out.drew⟩
   .rw[l.1] at hN;cases hN
  .have HN:=ah l
   have b:(¬(2:Int)<(k:Int)/\((k:Int)==4)=false)\/(((k:Int)==4)=false/\(2:Int)<(k:Int))\/((k:Int)==4)=true/\(nm.toList==to.toList)=false/\(2:Int)<(k:Int):=by
    by_cases e:k=4
    .exact .inr (.inr ⟨by simp[e],HT.out e,by omega⟩)
    .have e':((k:Int)==4)=false:=by simp;omega
     by_cases e2:2<k
     .exact .inr (.inl ⟨e',by omega⟩)
     .exact .inl ⟨by omega,e'⟩
   have hD:(∃q v,(Instr.lookup 62 (.map (some N)) (.string nm) true).run prog c.drew=.ok (.tuple #[q,.bool v]) c.drew/\(v=false->¬(2:Int)<(k:Int))):=by
    rcases J with⟨z,s⟩|⟨t,q,z,-,s⟩
    .exact⟨_,_,s,λ_ e=>l ⟨z,by omega⟩⟩
    .exact⟨_,_,s,nofun⟩
   obtain⟨q,v,hl,U⟩:=hD;clear l J;rcases b with⟨u,V⟩|⟨V,u⟩|⟨V,CU,u⟩
   all_goals
    cases v
    all_goals first|exact absurd u (U rfl)|skip
    all_goals clear U
    all_goals go_wp2
    all_goals go_region
    all_goals go_wp2
    all_goals go_region_with (first|(go_at_call 147;refine(EU N i 4096 d.writes.1.now ⟨k,nm,to,f⟩ _ (C.out.now.new (Fr.refl [] c).drew.drew) (by have:=C.out.hN;have:=C.out.hn;unfold maxLen;omega) O.out (by omega) a1.out).mono ?_;rintro e w2 ⟨rfl,CT,fT⟩))
    all_goals have F:c.grownBy w2 (some N):=cI (mQ (mQ (jg c _))) fT
    all_goals obtain⟨W,y,Q⟩:=C.out.done P.out CT F hn O.out
    all_goals have H:Hid (aC w2 B p D N pv { d.writes.1 with now:=dD d.writes.1.now ⟨k,nm,to,f⟩ } (n+1) m (i+1)):=W
    all_goals have xQ:Hid (w2.heap[w.heap.size]?=some (MP ⟨k,nm,to,f⟩)):=y
    all_goals have RY:Hid (Fr (dS p D N pv) w w2):=L.out.trans (Q.mono (by intro k _ b;simp at b;subst b;simp))
    all_goals have an:c.heap.size<=w2.heap.size:=F.size
    all_goals have c0:=af y 0
    all_goals have c1:=af y 1
    all_goals have c2:=af y 2
    all_goals have c3:=af y 3
    all_goals have R:=af W.blk 2
    all_goals have ab:=aq W.blk 2
    all_goals simp at c0 c1 c2 c3 R
    all_goals have ag:∀o,(w2.alloc o).frozen? ⟨p,2,none⟩=false:=λo=>(zzw (a:=⟨p,2,none⟩) (zzf w2 o p (by omega))).trans ab
    all_goals have wI:∀o,(w2.alloc o).cell? ⟨p,2,none⟩=some pv:=λo=>(zze (a:=⟨p,2,none⟩) (zzf w2 o p (by omega))).trans R
    all_goals clear W y Q CT fT F
    all_goals go_wp2
    all_goals go_region_law (first|(rw[oo (by rfl)];refine GY _ _ rfl B pv d.writes.1.pending.length d.writes.1.pending ⟨k,nm,to,f⟩ w2.heap.size rfl ?_ rfl ?_ ?_ ?_ ?_;(exact H.out.pen.alloc _);(exact oz w2 (MP ⟨k,nm,to,f⟩));(have h8:m+d.writes.1.pending.length<=n:=C.out.hD;have:=C.out.hn;omega);(have:=H.out.base.2.2.2;simp;omega);intro v4 w4 X Y r;obtain⟨x,A,rfl⟩:=wF X;have G:Hid (bU w.heap.size pv (.slice (some ⟨x,0,none⟩) (d.writes.1.pending.length+1) A)):=bU.zg r (by simp;omega);clear r;obtain⟨ae,ad,a7,a8,a',aa⟩:=Zo H.out xQ.out Y (λe=>by have h9:=(I.out.pen.lt _ e).2;omega)))
    all_goals go_wp2
    all_goals go_ret
    all_goals unfold m_
    all_goals rw[WC g HN.out HE.out]
    all_goals obtain⟨K,M⟩:=H.out.ab6 O.out (cI (mQ (iV w2 _ _)) Y) X rfl C.out.hD
    all_goals exact⟨rfl,⟨_,i+1,K,G.out⟩,RY.out.trans (M.mono (by intro k _ b;rcases zzj.1 b with rfl|b;simp;simp at b;simp[b]))⟩
theorem A_(B p D N n a b:Nat)(pv:Value)(d:aj)(o:km)(w:nL)(h:aC w B p D N pv d n a b)(hn:n<1000000000)(c:o.Ok 4096)(e:o.kind=4->(o.name.toList==o.to.toList)=false/\o.name≠o.to):
  Calls prog 418 #[gx p,opV o] w (m_ d o B p D N n a pv w):=RX B p D N n a b o.kind pv d o.name o.to o.data w h hn c e
section
open Sc
variable{l:List Nat}{k:Nat}
theorem MT(l:List Nat)(n i:Nat)(h:i<n):at_ (l.take n) i=at_ l i:=by simp[at_,h]
theorem E1(l:List Nat)(n i:Nat):at_ (l.drop n) i=at_ l (n+i):=by grind[at_]
theorem mG.take(h:mG l)(n:Nat):mG (l.take n):=λx hx=>h x<|FQ hx
theorem mG.drop(h:mG l)(n:Nat):mG (l.drop n):=λx hx=>h x<|List.mem_of_mem_drop hx
def gX(l:List Nat):Nat:=val (l.take 2)
def pA(l:List Nat):Bool:=decide (15<=l.length)&&(decide (gX l<=255)&&decide (15+gX l<=l.length))
def KG(l:List Nat):Bool:=Gs (l.take (11+gX l))==val ((l.drop (11+gX l)).take 4)
def gK(l:List Nat):Bool:=pA l&&KG l
structure Rec where
 cW:Nat
 kind:Nat
 pay:List Nat
def rD(l:List Nat):Rec:=⟨val ((l.drop 2).take 8),at_ l 10,(l.drop 11).take (gX l)⟩
def st:Nat->List Nat->List Rec × Nat
 |0,_=>([],0)
 |k+1,l=>((st k l).1++[rD (l.drop (st k l).2)],(st k l).2+15+gX (l.drop (st k l).2))
def Good(l:List Nat)(k:Nat):Prop:=∀j,j<k->gK (l.drop (st j l).2)=true
def uN(l:List Nat)(k:Nat):Prop:=Good l k/\gK (l.drop (st k l).2)=false
theorem qK{m:Nat}(h:uN l k)(g:uN l m):k=m:=by
 obtain W|heq|hgt:=Nat.lt_trichotomy k m
 .have:=g.1 k W;rw[h.2]at this;cases this
 .exact heq
 .have:=h.1 m hgt;rw[g.2]at this;cases this
theorem tP(l:List Nat):Good l 0:=λj h=>absurd h<|Nat.not_lt_zero j
theorem DJ(h:Good l k)(g:gK (l.drop (st k l).2)=true):Good l (k+1):=λj a=>by
 obtain W|WU:=Nat.lt_or_ge j k
 .exact h j W
 .grind
theorem KH(h:gK l=true):15<=l.length/\gX l<=255/\15+gX l<=l.length:=by grind[gK,pA]
theorem Zu:∀{k:Nat},Good l k->(st k l).2<=l.length
 |0,_=>zzs _
 |k+1,h=>by
  have b:=Zu (k:=k) (λj c=>h j dp);have a:=(KH<|h k dp).2.2;rw[zzz]at a;show(st k l).2+15+gX (l.drop (st k l).2)<=_;omega
theorem Zv(l:List Nat):∀k:Nat,15*k<=(st k l).2
 |0=>zzs _
 |k+1=>by
  have h:=Zv l k;show _<=(st k l).2+15+gX (l.drop (st k l).2);omega
theorem Hc(h:15<=l.length)(a:gX l<=255)(b:15+gX l<=l.length):pA l=true:=by grind[pA]
theorem qL(h:¬15<=l.length):pA l=false:=by grind[pA]
theorem Ss(h:¬gX l<=255):pA l=false:=by grind[pA]
theorem Hd(h:¬15+gX l<=l.length):pA l=false:=by grind[pA]
theorem ko(h:pA l=false):gK l=false:=by grind[gK]
theorem CX(h:KG l=false):gK l=false:=by grind[gK]
theorem zk(h:pA l=true)(g:KG l=true):gK l=true:=by grind[gK]
theorem WV(h:mG l):gX l<65536:=by
 have b:=qF (l.take 2) λx hx=>h x<|FQ hx;have a:(l.take 2).length<=2:=by grind
 have c:256^(l.take 2).length<=256^2:=Nat.pow_le_pow_right (by omega) a;unfold gX;omega
end
end Go.Proofs.YtlgeloebpdmnnaaGreatDoor
