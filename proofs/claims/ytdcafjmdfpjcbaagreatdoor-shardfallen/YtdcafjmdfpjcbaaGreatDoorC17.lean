import Derived.Test.YtdcafjmdfpjcbaaGreatDoorC16
set_option maxHeartbeats 4000000
set_option maxRecDepth 100000
namespace Go.Proofs.YtdcafjmdfpjcbaaGreatDoor
open Go.RowKit Go.Maps Tryz Sc
variable{b l:List Nat}{k u:Nat}{v:Value}
noncomputable def gv(F:az)(mk:Nat)(ss:List Sg):List Nat:=if F (ar (aw mk ss))=none then [] else [aw mk ss]
noncomputable def ki(F:az)(mk:Nat)(ss:List Sg):List Nat:=starts mk (chunks ss)++gv F mk ss
theorem oJ{F:az}{mk:Nat}{ss:List Sg}:u∈gv F mk ss↔u=aw mk ss/\F (ar<|aw mk ss)≠none:=by
 unfold gv;split
 .grind
 .grind
theorem Vn{a b:Nm}(h:Vl a=Vl b):a=b:=by
 have m:dP≠cf:=dN;obtain u|z:=a<;>obtain v|y:=b
 .exact congrArg _<|eR h
 .exfalso;cases y
  .exact(bm u).1 h
  .exact(bm u).2 h
 .exfalso;cases z
  .exact(bm v).1 h.symm
  .exact(bm v).2 h.symm
 .cases z<;>cases y
  .rfl
  .exact absurd h m
  .exact absurd h.symm m
  .rfl
theorem GM:∀(ns:List ByteArray),(∀k∈ns,∃o,k=Vl o)->∃l:List Nm,ns=l.map Vl
 |[],_=>⟨[],rfl⟩
 |k::ns,h=>by
  have⟨o,a⟩:=h k sE;have⟨l,c⟩:=GM ns (λx b=>h x<|by simp[b]);exact⟨o::l,by rw[List.map_cons,<-a,<-c]⟩
theorem AM{l:List Nm}:u∈gY l↔(.inl u:Nm)∈l:=by grind[gY]
theorem AO:∀{l:List Nm},l.Nodup->(gY l).Nodup
 |[],_=>by simp[gY]
 |o::l,h=>by
  have a:=List.nodup_cons.1 h;have ih:=AO a.2;obtain u|z:=o
  .have e:gY ((.inl u:Nm)::l)=u::gY l:=by simp[gY]
   rw[e,List.nodup_cons];exact⟨λm=>a.1<|AM.1 m,ih⟩
  .have e:gY ((.inr z:Nm)::l)=gY l:=by simp[gY]
   rw[e];exact ih
theorem C6{l:List Nm}(h:(l.map Vl).Nodup):l.Nodup:=by
 unfold List.Nodup at *;rw[List.pairwise_map]at h;exact h.imp λ{a b} Y e=>Y<|by rw[e]
section
variable{F:az}{mk:Nat}{ss:List Sg}
theorem br.names(h:br F mk ss){ns:List ByteArray}(hn:Eb F ns):∃l:List Nm,ns=l.map Vl/\(gY l).Nodup/\∀u,u∈gY l↔F (ar u)≠none:=by
 have⟨l,c⟩:=GM ns (λk a=>by
  rcases h.other k ((hn.2 k).1 a)with e|e|⟨u,e,_⟩
  .exact⟨.inr false,e⟩
  .exact⟨.inr true,e⟩
  .exact⟨.inl u,e⟩)
 refine⟨l,c,AO<|C6<|by rw[<-c];exact hn.1,λu=>?_⟩;rw[AM,<-hn.2 (ar u),c,zzq];constructor
 .intro hm;exact⟨_,hm,rfl⟩
 .rintro⟨o,ho,he⟩;have:o=.inl u:=Vn he;rw[this]at ho;exact ho
theorem br.start(h:br F mk ss){u:Nat}(a:u∈starts mk (chunks ss)):F (ar u)≠none/\mk<=u/\u<aw mk ss:=by
 refine⟨?_,(mO _ mk h.ne').2 u a,xl _ mk h.ne' u a⟩;have⟨k,b⟩:=zzB.1 a;have B:=(zzd.1 b).1;rw[ei]at B;have c:=jO (chunks ss) mk k B;rw[b]at c;have l:k<ss.length:=by grind
 have d:=h.files k ss[k]<|zzg l;have e:u=aw mk (ss.take k):=by grind[aw,eG]
 rw[e,d];simp
theorem br.GN(h:br F mk ss)(u:Nat):u∈ki F mk ss↔F (ar u)≠none/\mk<=u:=by
 unfold ki;rw[zzo,oJ];constructor
 .rintro (hu|⟨rfl,hu⟩)
  .exact⟨(h.start hu).1,(h.start hu).2.1⟩
  .exact⟨hu,Nat.le_add_right _ _⟩
 .rintro⟨h1,h2⟩;obtain e|e|⟨v,e,_,h3⟩:=h.other _ h1
  .grind [bm]
  .grind [bm]
  .grind [eR]
theorem br.RD(h:br F mk ss):(ki F mk ss).Pairwise (· < ·):=by
 unfold ki;rw[List.pairwise_append];refine⟨(mO _ mk h.ne').1,?_,λa d b c=>?_⟩
 .unfold gv;split<;>simp
 .obtain⟨rfl,_⟩:=oJ.1 c;exact(h.start d).2.2
theorem RE{l:List Nat}(h:l.Pairwise (· < ·))(k:Nat):(l.drop k).Pairwise (· < ·):=by grind
theorem uh{l:List Nat}(h:l.Pairwise (· < ·)):l.Nodup:=h.imp λ{a b} (Y:a<b)=>Nat.ne_of_lt Y
theorem RF{a b:List Nat}(c:a.Pairwise (· < ·))(d:b.Pairwise (· < ·))(h:∀u,u∈a↔u∈b):a=b:=by
 have hp:=(List.perm_ext_iff_of_nodup (uh c)<|uh d).2 h;exact List.Perm.eq_of_pairwise (λ_ _ _ _ e f=>Nat.le_antisymm e f) (c.imp λh=>Nat.le_of_lt h) (d.imp λh=>Nat.le_of_lt h) hp
theorem br.parted(h:br F mk ss){l:List Nat}(c:l.Pairwise (· < ·))(m:∀u,u∈l↔F (ar u)≠none){k:Nat}(b:∀(j u:Nat),l[j]?=some u->(j<k->u<mk)/\(k<=j->mk<=u)):l.drop k=ki F mk ss:=by
 refine RF (RE c k) h.RD λu=>?_;rw[h.GN,<-m];constructor
 .intro hu;have⟨j,a⟩:=zzB.1 hu;rw[List.getElem?_drop]at a;exact⟨zzh a,(b _ u a).2 oE⟩
 .rintro⟨h1,h2⟩;have⟨j,a⟩:=zzB.1 h1;obtain v|v:=Nat.lt_or_ge j k
  .grind
  .refine zzB.2 ⟨j-k,?_⟩;rw[List.getElem?_drop,show k+(j-k)=j by omega];exact a
def jG(F:az)(mk:Nat)(ss:List Sg)(us:List Nat):Prop:=us.Nodup/\∀u,u∈us↔F (ar u)≠none/\u∉starts mk (chunks ss)
theorem br.Vo(h:br F mk ss){l:List Nat}(g:l.Pairwise (· < ·))(m:∀u,u∈l↔F (ar u)≠none){k:Nat}(i:∀(j u:Nat),l[j]?=some u->(j<k->u<mk)/\(k<=j->mk<=u)):jG F mk ss (l.take k++gv F mk ss):=by
 have hp:=h.parted g m i;have f:∀u∈l.take k,u<mk/\u∈l:=λu d=>by
  have⟨j,e⟩:=zzB.1 d;have B:=(zzd.1 e).1;rw[zzm]at B;rw[List.getElem?_take,if_pos oE]at e;exact⟨(i j u e).1 oE,zzh e⟩
 constructor
 .rw[List.nodup_append];refine⟨(uh g).sublist<|List.take_sublist _ _,by unfold gv;split<;>simp,λa n b o=>?_⟩;obtain⟨rfl,_⟩:=oJ.1 o;have:=(f a n).1;have p:mk<=aw mk ss:=Nat.le_add_right _ _;omega
 .intro u;rw[zzo,oJ];constructor
  .rintro (d|⟨rfl,d⟩)
   .refine⟨(m u).1 (f u d).2,λs=>?_⟩;have:=(h.start s).2.1;have:=(f u d).1;omega
   .exact⟨d,λs=>by have:=(h.start s).2.2;omega⟩
  .rintro⟨h1,p⟩;have c:=(m u).2 h1;rw[<-List.take_append_drop k l,hp,zzo]at c;obtain c|c:=c
   .grind
   .unfold ki at c;rw[zzo,oJ]at c;obtain c|c:=c
    .grind
    .grind
theorem tail_at(mk:Nat)(ss:List Sg){k:Nat}(h:k<ss.length):(ki F mk ss)[k]?=some (aw mk<|ss.take k):=by
 unfold ki;rw[List.getElem?_append_left<|by rw[ei];simpa using h,jO _ _ _<|by simpa using h];unfold aw;rw[eG]
theorem GQ(mk:Nat)(ss:List Sg):(ki F mk ss).length=ss.length+(gv F mk ss).length:=by
 unfold ki;rw[zzi,ei];simp
theorem AP(F:az)(mk:Nat)(ss:List Sg):(gv F mk ss=[]/\F (ar<|aw mk ss)=none)\/(gv F mk ss=[aw mk ss]/\F (ar<|aw mk ss)≠none):=by
 unfold gv;split
 .grind
 .grind
end
theorem RI(f B p I bN n D N:Nat)(A:Value)(d:ah)(rs:List Rec)(t:List Nat)(w:World)(a':aB w B p I bN A d n D N)(jM:d.down=false)(W:th rs)(Q:∀(k:Nat) (r:Rec),rs[k]?=some r->r.cQ=f+k)(hf:f+rs.length<2^64)(U:rs≠[])(F:ug t)(T:d.now (ar f)=some (str<|AJ (rs,t)))(dF:dw w)(hlen:rs.length<=1000000000)(MM:(dt rs).length<=4096):
  Calls prog 204 #[fo p,.int .u64 (f:Int)] w λe w'=>∃v,e=.returned (.tuple #[v,.int .i64 (ly (rs,t):Int),.nilIface])/\w'.ownsRow w.heap.size 82 3 v rs.length (cG rs)/\Below w.heap.size w w':=by
 have hm:=Lt;have ak:=LV p;have Y:Hid (aB w B p I bN A d n D N/\d.read (ar f)=(some<|str<|AJ (rs,t),0)):=⟨a',by unfold ah.read;rw[if_neg<|by rw[jM];decide,T]⟩;have H:Hid ((th rs/\∀(k:Nat) (r:Rec),rs[k]?=some r->r.cQ=f+k)/\k9 (AJ (rs,t))/\sS (AJ (rs,t)) rs.length/\(st rs.length<|AJ (rs,t)).1=rs/\(st rs.length<|AJ (rs,t)).2=(dt rs).length):=⟨⟨W,Q⟩,Rx W F⟩;have J:Hid ((AJ (rs,t)).length=(dt rs).length+t.length):=by show _=_;simp[AJ]
 have ad:(AJ (rs,t)).length<=5000:=by rw[J.out];have:=F.le;omega
 have an:=F.le;clear a' T W Q F;go_enter func204,ntmps204;go_wp2;go_region_held3 (λ_=>True)
  (trivial)
  (first
   |(go_at_call 115;apply(fP f w.drew oE<|show dw w.drew from dF).mono;rintro e V ⟨rfl,nh⟩;have z:Hid (Below w.heap.size w V):=⟨nh.os,nh.tape,nh.output,nh.size,nh.block⟩;clear nh)
   |(go_at_call 355;apply(vd B p I bN n D N A d (ar f) V (Y.1.new (Fr.bw z.out [])) (by have:=gS f oE;unfold maxLen;omega)).mono;rintro e w2 ⟨v2,rfl,dY,cU⟩))
 all_goals clear hm ak
 all_goals rw[Y.2]at dY ⊢
 all_goals rw[bQ]
 all_goals
  have O:Src w2 v2 (AJ (rs,t)):=by
   have:Src w2 v2 (bytesOf<|str<|AJ (rs,t)):=dY;rwa [qM H.2.1]at this
  have Jc:0<(dt rs).length:=by
   cases j:rs with
   |nil=>exact absurd j U
   |cons r l=>simp[dt,fj];omega
  have a6:=zzE.2 U;have a8:=Q4 v2 (AJ (rs,t)) w2 O H.2.1 oE;have C:=ae<|z.out.trans<|cU.mono z.out.size
  obtain⟨M,o2,c2,rfl⟩:∃M o2 c2,v2=.slice (some ⟨M,o2,none⟩) (AJ (rs,t)).length c2:=by
   rcases O with⟨_,e⟩|⟨b,al,ab,e,_⟩
   .have uX:=J.out;rw[e]at uX;simp at uX;omega
   .exact⟨b,al,ab,e⟩
  clear dY cU O;go_wp2_with fail;apply a8.mono;clear a8;rintro e o ⟨k,v3,rfl,hE,aC,_,eV⟩;have⟨z1,z2,S⟩:=H.2.2;obtain rfl:=o0 hE z1;rw[z2]at aC;rw[S];obtain⟨a,c3,rfl⟩:=dI aC a6;have Hx:=ae<|C.out.trans<|eV.mono C.out.size;have K:=ae aC;have E:=(aC.lt a rfl).2
  have HC:Hid (∀(k:Nat) (r:Rec),rs[k]?=some r->o.cell? (d8 a (k*3))=some (.int .u64 (r.cQ:Int))/\o.cell? (d8 a (k*3+1))=some (.int .u8 (r.kind:Int))/\o.cell? (d8 a (k*3+2))=some (.string<|str r.pay)):=λk r Z=>by
   obtain⟨kD,rfl⟩:=zzd.1 Z;have⟨a1,a2,a3⟩:=zY rs k kD;have q:=aC.cells rfl _ _ a1;have x:=aC.cells rfl _ _ a2;have h:=aC.cells rfl _ _ a3;simp only[Addr.add_lit,Nat.zero_add]at q x h;exact⟨q,x,h⟩
  clear hE z1 z2 S aC eV;have⟨m,L⟩:=xY rs.length;have HM:=ae L;rw[<-L]at K hlen a6 hf ⊢;clear L;have⟨c,y⟩:=xY <|(dt rs).length;have⟨u,P⟩:=xY <|(AJ (rs,t)).length;rw[<-y]at MM Jc J ⊢;rw[<-P]at J ad ⊢;have G:=ae<|zzb y J.out;have ao:c<=u:=by have:=J.out;omega
  clear y J P;go_wp2;go_loopw [33] (λi wr=>∃k:Nat,k<=m/\i=.int .i64 k/\Hid (Below o.heap.size o wr)) (λi _=>m-(intOf i).toNat);case atStart=>exact⟨0,zzs _,rfl,zzD _ _⟩
  case round=>
   obtain⟨k,Z,rfl,R⟩:=hrel;by_cases bP:k<m
   .obtain⟨r,j⟩:∃r,rs[k]?=some r:=⟨_,zzg<|by have:=HM.out;omega⟩;have⟨q,x,h⟩:=HC.out k r j;have y1:=H.1.2 k r j;rw[y1]at q;have r1:=(R.out.cell E).trans q;have r2:=(R.out.cell E).trans x;have r3:=(R.out.cell E).trans h;have j1:IntKind.u64.wrap (k:Int)=k:=by rw[IntKind.wrap_u64];omega
    have j2:IntKind.u64.wrap ((f:Int)+k)=(f:Int)+k:=by rw[IntKind.wrap_u64];omega
    have W:=R.out.size;clear q x h y1 j;go_wp2;go_roundw;case rel=>exact⟨k+1,oE,sE,R.out.alloc W _⟩
    case measure=>simp[intOf];omega
   .obtain rfl:k=m:=oE;have a7:wr.ownsRow w.heap.size 82 3 (.slice (some (dH a)) k c3) rs.length (cG rs):=by
     rw[<-HM.out];exact oB (rH K.out C.out.size) R.out
    have X:=ae<|zzb a7<|Hx.out.trans<|R.out.mono Hx.out.size;clear a7;by_cases F:t=[]
    .have hq:c=u:=by rw[G.2,F];rfl
     subst hq;have hd:decide ((c:Int)<c)=false:=sE;go_wp2;go_ret3;exact⟨.slice (some (dH a)) k c3,by unfold ly;rw[if_pos F,<-tX,<-G.1];rfl,X.out⟩
    .have hq:(c:Int)<u:=by have:=G.2;have:0<t.length:=zzE.2 F;omega
     go_wp2;go_ret3;exact⟨.slice (some (dH a)) k c3,by unfold ly;rw[if_neg F];rfl,X.out⟩
theorem Vr(B b p K bN n O S:Nat)(L q z:Value)(l:aq)(d:ah)(rs:List Rec)(t:List Nat)(w:World)(h:aD w B b p K bN L q z l d n O S)(jM:d.down=false)(sW:th rs)(iB:∀(k:Nat) (r:Rec),rs[k]?=some r->r.cQ=l.next+k)(a6:rs≠[])(BF:ug t)(yI:d.now (ar l.next)=some (str<|AJ (rs,t)))(dF:dw w)(hlen:l.recs.length+rs.length<=n)(RJ:l.segs.length+1<=n)(kJ:l.next+rs.length<=n+1)(MM:(dt rs).length<=4096):
  Calls prog 151 #[rM b,.int .u64 (l.next:Int)] w λe w'=>e=.returned (.tuple #[.bool true,.nilIface])/\(∃Lq Lr,aD w' B b p K bN L Lq Lr ⟨l.segs++[l.next],ly (rs,t),l.recs++rs,l.next+rs.length,l.ai,l.failed⟩ d n O S/\bn w.heap.size q Lq/\bn w.heap.size z Lr)/\Fr (b::(q.ownBlock.toList++z.ownBlock.toList)) w w':=by
 have hn:=h.bE.hn;have ao:=h.bE.base.2.2.2;have c0:=aa h.blk 0;have c4:=aa h.blk 4;simp at c0 c4;have aI:b<w.heap.size:=(zza.1 h.blk).1;have hS:=RI l.next B p K bN n O S L d rs t w h.bE jM sW iB oE a6 BF yI dF oE MM
 have IJ:ly (rs,t)<=4096:=by unfold ly;split;rw[<-tX];exact MM;omega
 have HI:=ae h;obtain⟨i0,hi,ad,ab,a8⟩:=info_parts nB;obtain⟨j0,F,an,uH,wV⟩:=info_parts yZ;have a':=zzE.2 a6;clear h sW a6 yI iB BF
 go_enter func151,ntmps151
 go_wp2_with fail;refine hS.mono ?_;clear hS;rintro e o ⟨vr,rfl,aC,gw⟩;obtain⟨f,k1,rfl⟩:=dI aC a';have P:=Fr.bw gw [];have E:=HI.out.new P;have fe:=HI.out.yL P;have PQ:=Ey P;have H:=ae<|zzb E<|zzb fe aC;have d1:=aa E.blk 1;have d2:=aa E.blk 2;have d3:=aa E.blk 3;have d4:=aa E.blk 4;have e1:=au E.blk 1;have e2:=au E.blk 2;have e3:=au E.blk 3;have e4:=au E.blk 4;simp at d1 d2 d3 d4;have sw:=gw.size;have iN:=aC.lt f rfl;have Uv:¬((rs.length:Int)=0):=oE
 have⟨m,LD⟩:=xY rs.length;have⟨T,a7⟩:=xY <|ly (rs,t);have Y:=ae<|zzb LD a7;rw[<-LD]at H a' Uv hlen kJ ⊢;rw[<-a7]at IJ ⊢;have⟨i,X⟩:=xY l.next;have M:=ae X;rw[<-X]at kJ c4 d4 ⊢;have TY:=aF aC rfl
 have HC:Hid (∀(j:Nat) (u:Value),(cG rs)[j]?=some u->o.cell? ⟨f,j,none⟩=some u):=λj u F=>by
  have:=H.2.2.cells (g:=f) rfl j u F;simpa [Addr.add_lit]using this
 have HG:Hid (¬f=b/\q.ownBlock≠some f/\z.ownBlock≠some f):=by
  have⟨c,yK⟩:=TY;refine⟨oE,bG E.segs yK dN,λe=>?_⟩;have:=(HI.out.recs.lt f e).2;omega
 clear aC gw P E fe c0 LD a7 X TY;have ak:b<o.heap.size:=oE;have ay:¬b=o.heap.size:=oE;have aE:¬o.heap.size=b:=oE;have aX:IntKind.u64.wrap (m:Int)=m:=by rw[IntKind.wrap_u64];omega
 have aA:IntKind.u64.wrap ((i:Int)+m)=(i:Int)+m:=by rw[IntKind.wrap_u64];omega
 go_wp2_with (first
  |(at_builtin;refine wpList_append_own_at _ rfl _ _ 49 rfl B 34 i0 _ 1 8 underlying49 hi ad ab a8 rfl dN _ l.segs.length (dh l.segs) rfl (H.1.segs.alloc _) ⟨o.heap.size,0,none⟩ 1 1 [.int .u64 (i:Int)] rfl rfl (cD _ #[.int .u64 (i:Int)] _) (by intro u hu;simp at hu;subst hu;rfl) mE oE sC ?_;intro v2 w2 RK RL _ Y7;obtain⟨N,cs,rfl⟩:=dI RK oE;have J:Fr q.ownBlock.toList o w2:=((Fr.refl _ o).alloc _).trans<|Fr.dc RL;have y:=Ey (H.1.YK (v:=.slice (some ⟨N,0,none⟩) (l.segs.length+1) cs) (ss:=l.segs++[i]) J (by rw[l_,zzi];exact RK) (bn.lL Y7 sE) ⟨by simpa using RJ,by intro x G;rcases zzo.1 G with G|G;exact H.1.dL.2 x G;simp at G;omega⟩);have a8:=J.size;have U:=(J.block b ak<|by simp;exact bG H.1.segs H.1.blk dN).trans H.1.blk;have q1:=aa U 1;have q2:=aa U 2;have q3:=aa U 3;have q4:=aa U 4;have p1:=au U 1;have p2:=au U 2;have p3:=au U 3;have p4:=au U 4;simp at q1 q2 q3 q4;rw[<-M.out]at q4;have nT:=Ey J;have LU:=Ey (bn.lL (s:=w.heap.size) Y7 sC);clear RK RL Y7 J U d1 d2 d3 d4 e1 e2 e3 e4)
  |(at_builtin;refine wpList_append_own_at _ rfl _ _ 35 rfl B 82 j0 _ 3 32 underlying35 F an uH wV rfl dN _ l.recs.length (cG l.recs) rfl y.1.recs ⟨f,0,none⟩ m k1 (cG rs) rfl (by rw[rC,Y.1]) (λj u F=>by rw[show((⟨f,0,none⟩:Addr).add j)=⟨f,j,none⟩from by simp[Addr.add];exact λh=>h.symm];exact(zze (a:=⟨f,j,none⟩) ((Below.heap_setCell _ _ _ f (λe=>HG.1 (by simpa using e))).trans (nT.out.block f iN.2 (by simp;exact HG.2.1)))).trans (HC.out j u F)) (NW rs) mE oE y.1.bE.base.2.2.2 ?_;intro v3 w3 RM RN _ Y8;obtain⟨C,I,rfl⟩:=dI RM oE;have R:=Fr.dc RN;have H3:=Ey (y.1.YL (v:=.slice (some ⟨C,0,none⟩) (l.recs.length+m) I) (rs:=l.recs++rs) R (by rw[NZ,zzi,<-Y.1];exact RM) (bn.lL Y8 (zzc _)) (by rw[zzi,<-Y.1];exact hlen));have V:=(R.block b (zza.1 y.1.blk).1 (by simp;exact bG y.1.recs y.1.blk dN)).trans y.1.blk;have t2:=aa V 2;have t3:=aa V 3;have t4:=aa V 4;have u2:=au V 2;have u3:=au V 3;have u4:=au V 4;simp at t2 t3 t4;rw[<-M.out]at t4;have F8:=Ey R;have Z7:=Ey (bn.lL (s:=w.heap.size) Y8 sC);clear RM RN Y8 R V q1 q2 q3 q4 p1 p2 p3 p4))
 go_ret2;have⟨Q,qG⟩:∃Q,Q=w3.setCell ⟨b,3,none⟩ (.slice (some ⟨C,0,none⟩) (l.recs.length+m) I):=⟨_,rfl⟩;have h5:=H3.out;rw[<-qG]at h5 ⊢;have⟨W,Z⟩:∃W,W=(Q.setCell ⟨b,4,none⟩<|.int .u64<|(i:Int)+m).setCell ⟨b,2,none⟩ (.int .i64 (T:Int)):=⟨_,rfl⟩;rw[<-Z];have oz:Fr [b] Q W:=by rw[Z];exact(Fr.cH sE _ _).trans<|Fr.cH sE _ _
 have M4:W.heap[b]?=some (nc p (.slice (some ⟨N,0,none⟩) (l.segs.length+1) cs) (.slice (some ⟨C,0,none⟩) (l.recs.length+m) I) ⟨l.segs++[l.next],ly (rs,t),l.recs++rs,l.next+rs.length,l.ai,l.failed⟩):=by
  have:=aH (aH h5.1.blk 4<|.int .u64<|(i:Int)+m) 2<|.int .i64 (T:Int);rw[Z];simp[<-Y.1,<-Y.2,<-M.out]at this ⊢;exact this
 have al:aD W B b p K bN L (.slice (some ⟨N,0,none⟩) (l.segs.length+1) cs) (.slice (some ⟨C,0,none⟩) (l.recs.length+m) I) ⟨l.segs++[l.next],ly (rs,t),l.recs++rs,l.next+rs.length,l.ai,l.failed⟩ d n O S:=by
  have D:=h5.1;rw[M.out]at D;exact D.I0 oz M4 D.dL D.fV (by show ly (rs,t)<=4096;rw[<-Y.2];exact IJ) (by show l.next+rs.length<=n+1;rw[<-Y.1,<-M.out];exact kJ) D.lS rfl rfl
 refine⟨rfl,⟨_,_,al,LU.out,Z7.out⟩,?_⟩;have a1:Fr (b::(q.ownBlock.toList++z.ownBlock.toList)) w o:=PQ.out.mono sE;have a2:Fr (b::(q.ownBlock.toList++z.ownBlock.toList)) w w2:=a1.trans<|nT.out.mono λk _ A=>List.mem_cons_of_mem _<|List.mem_append_left _ A;have a3:=(a2.setCell (p:=⟨b,1,none⟩) (.inl sE)<|.slice (some ⟨N,0,none⟩) (l.segs.length+1) cs).trans<|F8.out.mono λk _ A=>List.mem_cons_of_mem _<|List.mem_append_right _ A;have a4:=a3.setCell (p:=⟨b,3,none⟩) (.inl (by simp))<|.slice (some ⟨C,0,none⟩) (l.recs.length+m) I;rw[<-qG]at a4;exact a4.trans<|oz.mono λk _ A=>by simp at A;simp[A]
theorem Ka(h:ug b):sS b 0:=⟨rB _,h.no⟩
theorem RO(f B p g bN n D N:Nat)(v:Value)(d:ah)(b:List Nat)(w:World)(h:aB w B p g bN v d n D N)(M:d.down=false)(q:f<2^64)(c:ug b)(I:d.now (ar f)=some (str b))(y:dw w):
  Calls prog 204 #[fo p,.int .u64 (f:Int)] w λe w'=>∃x,e=.returned (.tuple #[.slice none 0 0,x,.nilIface])/\Below w.heap.size w w':=by
 have z:=Lt;have A:=LV p;have H:Hid (aB w B p g bN v d n D N/\d.read (ar f)=(some<|str b,0)):=⟨h,by unfold ah.read;rw[if_neg<|by rw[M];decide,I]⟩;have F:=ae c;have E:=c.le;clear h I c
 go_enter func204,ntmps204;go_wp2;go_region_held3 (λ_=>True)
  (trivial)
  (first
   |(go_at_call 115;apply(fP f w.drew q<|show dw w.drew from y).mono;rintro e o ⟨rfl,nh⟩;have l:Hid (Below w.heap.size w o):=⟨nh.os,nh.tape,nh.output,nh.size,nh.block⟩;clear nh)
   |(go_at_call 355;apply(vd B p g bN n D N v d (ar f) o (H.1.new (Fr.bw l.out [])) (by have:=gS f q;unfold maxLen;omega)).mono;rintro e w2 ⟨v2,rfl,dY,cU⟩))
 all_goals clear z A
 all_goals rw[H.2]at dY ⊢
 all_goals rw[bQ]
 all_goals
  have O:Src w2 v2 b:=by
   have:Src w2 v2 (bytesOf<|str b):=dY;rwa [qM F.out.byt]at this
  have t:=Q4 v2 b w2 O F.out.byt oE;have u:=ae<|l.out.trans<|cU.mono l.out.size
  obtain⟨j,a,c2,rfl⟩:∃j a c2,v2=.slice j a c2:=by
   rcases O with⟨e,_⟩|⟨b,J,G,e,_⟩
   .exact⟨_,_,_,e⟩
   .exact⟨_,_,_,e⟩
  clear dY cU O;go_wp2_with fail;apply t.mono;clear t;rintro e r ⟨k,v3,rfl,hE,_,yM,eV⟩;obtain rfl:=o0 hE<|Ka F.out;obtain rfl:=yM rfl;have s:=ae<|u.out.trans<|eV.mono u.out.size;have m:(st 0 b).2=0:=rfl;rw[m];clear hE eV yM m;go_wp2
  go_loopw [33] (λi wr=>i=.int .i64 0/\Hid (wr=r)) (λ_ _=>0);case atStart=>exact⟨rfl,rfl⟩
  case round=>
   obtain⟨rfl,W⟩:=hrel;obtain rfl:wr=r:=W.out;by_cases C:0<a
   .have l1:(0:Int)<a:=oE;go_wp2;go_ret3;exact⟨⟨_,rfl⟩,s.out⟩
   .obtain rfl:a=0:=oE;go_wp2;go_ret3;exact⟨⟨_,rfl⟩,s.out⟩
theorem Vu(B g p a bN n D N:Nat)(v s r:Value)(l:aq)(d:ah)(b:List Nat)(w:World)(h:aD w B g p a bN v s r l d n D N)(M:d.down=false)(c:ug b)(I:d.now (ar l.next)=some (str b))(F:dw w):
  Calls prog 151 #[rM g,.int .u64 (l.next:Int)] w λe w'=>e=.returned (.tuple #[.bool false,.nilIface])/\Below w.heap.size w w':=by
 have hn:=h.bE.hn;have i:=aa h.blk 0;have c4:=aa h.blk 4;simp at i c4;have S:=RO l.next B p a bN n D N v d b w h.bE M (by have:=h.gy;omega) c I F;have⟨f,t⟩:=xY l.next;rw[<-t]at S c4 ⊢;clear h I c t;go_enter func151,ntmps151;go_wp2_with fail;apply S.mono;clear S;rintro e j ⟨x,rfl,gw⟩;have H:=Ey gw;clear gw;go_wp2;go_ret2;exact⟨rfl,H.out⟩
abbrev iV(a b c d:Int):Obj:=.cells #[.int .i64 a,.int .i64 b,.int .i64 c,.int .i64 d] 30
def ah.up(d:ah):ah:={ d with now:=d.ai,pending:=[],down:=false }
theorem QQ(B p b n f:Nat)(I Q:Value)(d:ah)(w:World)(h:w.heap[p]?=some (.cells #[.map<|some b,Q,I,.int .i64 d.left,.int .i64 d.full,.bool d.down] 58))(K:B<=p/\B<=b/\B<=w.heap.size)(F:FileMap w b f d.ai)(hn:f<=n)(tD:n<=1000000000)(a6:d.ai.Le<|f*4096):
  Calls prog 19 #[rM p] w λe w'=>e=.returned (.tuple #[])/\aB w' B p b w.heap.size (.slice none 0 0) d.up n f f/\Fr [p] w w':=by
 have aA:=@run_makeMap prog;have c0:=aa h 0;have c1:=aa h 1;have c2:=aa h 2;have c5:=aa h 5;have f1:=au h 1;have f2:=au h 2;have f5:=au h 5;simp at c0 c1 c2 c5;have G:p<w.heap.size:=(zza.1 h).1;have jW:=F.lt;have a7:b≠p:=F.cL h;have⟨D,N,o⟩:=F;have H5:=ae o;clear o;have ay:=N.size_le;have HB:=ae h;clear h;have al:(w.alloc<|.map #[] 0).cell? ⟨p,1,none⟩=some Q:=(zze (a:=⟨p,1,none⟩)<|zzf w _ p G).trans c1;have an:(w.alloc<|.map #[] 0).frozen? ⟨p,1,none⟩=false:=(zzw (a:=⟨p,1,none⟩)<|zzf w _ p G).trans f1;have⟨g,l⟩:∃g,g=(w.setCell ⟨p,1,none⟩<|.map<|some w.heap.size).alloc (.map #[] 0):=⟨_,rfl⟩;have V:(w.setCell ⟨p,1,none⟩<|.map<|some w.heap.size).heap.size=w.heap.size:=sE
 have L:g.heap[p]?=some (.cells #[.map<|some b,.map<|some w.heap.size,I,.int .i64 d.left,.int .i64 d.full,.bool d.down] 58):=by
  have:=aH HB.out 1<|.map<|some w.heap.size;rw[l,zzf _ _ p<|by rw[V];exact G];simpa using this
 have lu:Fr [p] w g:=by rw[l];exact((Fr.refl [p] w).setCell (Or.inl sE) _).alloc _
 have d_:g.heap.size=w.heap.size+1:=by rw[l];simp
 have ad:g.ownsMap prog 9 cY b f D:=by rw[l];exact(N.setCell a7 _).alloc _
 have a':g.ownsMap (H:=Unit) prog 9 cY w.heap.size 0 (.map []):=by
  have:=World.ownsMap_made (H:=Unit) (w.setCell ⟨p,1,none⟩<|.map<|some w.heap.size) prog 9 cY;rw[V]at this;rw[l];exact this
 have d0:=aa L 0;simp at d0;go_enter func19,ntmps19;go_wp2_with (first
  |(at_range;rw[<-l];apply wpList_range_own _ rfl _ 55 rfl 9 109 uP underlying55 cY b f D rfl ad;intro w0 S X ja)
  |go_in)
 go_frame;clear l;have ll:=ae L;clear L;rw[d_]at S ja ⊢;go_loopw [2] (λ_ wr=>∃(left:Lit->Bool) (u:Nat) (Z:DataW Unit),wr.ranges prog 9 cY b (w.heap.size+1) f D left u/\u<=Maps.size D /\
   wr.ownsMap prog 9 cY w.heap.size (Maps.size D-u) Z/\Agree Z D left/\Fr [w.heap.size,w.heap.size+1] g wr)
  (λ_ wr=>wr.rangeLeft b<|w.heap.size+1)
 case atStart=>
  exact⟨_,_,.map [],S,zzc _,(a'.kept X sE).mono<|zzs _,agree_start D,(Fr.dc X).mono sE⟩
 case round=>
  have⟨left,u,Z,C,aE,U,P,J⟩:=hrel;have T:=ae J;have ak:=J.size;have i:wr.heap[p]?=some (.cells #[.map<|some b,.map<|some w.heap.size,I,.int .i64 d.left,.int .i64 d.full,.bool d.down] 58):=(J.block p oE sC).trans ll.out;have TD:=ae i;have r1:=aa i 1;have r2:=aa i 2;have r5:=aa i 5;have q2:=au i 2;have q5:=au i 5;simp at r1 r2 r5;clear J i;go_wp2_with (first
   |(at_next;refine wpList_next_ranges _ rfl _ rfl 9 uP cY encStr Value.pointer (λao kl m=>by have⟨x,hx,_⟩:=Maps.keyOf_str underlying9 m;exact⟨x,hx⟩) (λv y E=>sP E) b (w.heap.size+1) f _ _ _ rfl C ?_ ?_)
   |go_in)
  .intro sj hl0;go_wp2;go_end0;subst sj;have hD:=agree_end P hl0 (U.canon uP)<|N.canon uP;subst hD;have⟨W,Y⟩:∃W,W=(wr.setCell ⟨p,2,none⟩<|.slice none 0 0).setCell ⟨p,5,none⟩ (.bool false):=⟨_,rfl⟩;rw[<-Y];have M:Fr [p] wr W:=by rw[Y];exact(Fr.cH sE _ _).trans<|Fr.cH sE _ _
   have O:Fr [p] w W:=(lu.andThen T.out<|by intro j hj hl;simp at hj;omega).trans M;have cU:W.heap[p]?=some (kF b w.heap.size (.slice none 0 0) d.left d.full false):=by
    have:=aH (aH TD.out 2<|.slice none 0 0) 5<|.bool false;rw[Y];simpa using this
   have BI:∀(q:Nat) (t:ByteArray),w.heap[q]?=some (fS t)->W.heap[q]?=some (fS t):=λq t A=>by
    rw[O.block q (zza.1 A).1<|by simp;intro e;subst e;rw[HB.out]at A;cases A];exact A
   have fe:W.ownsMap prog 9 cY b f Z:=by
    have⟨es,c,s,r⟩:=C.owns;exact⟨es,c,(M.block b oE sC).trans s,r⟩
   have iH:W.ownsMap prog 9 cY w.heap.size f Z:=by
    have⟨es,c,s,r⟩:=U.mono (n':=f) oE;exact⟨es,c,(M.block w.heap.size oE sC).trans s,r⟩
   have o:∀k:ByteArray,(d.ai k=none->Maps.has Z (gK k)=false)/\(∀t,d.ai k=some t->Maps.has Z (gK k)=true/\k.size<=maxLen/\∃q:Nat,(∀z,Z.atKey (gK k) z=.lit (.int .i64 (q:Int)))/\W.heap[q]?=some (fS t)):=λk=>by
    have⟨s,r⟩:=H5.out k;refine⟨s,λt ht=>?_⟩;have⟨b1,b2,q,b3,b4⟩:=r t ht;exact⟨b1,b2,q,b3,BI q t b4⟩
   refine⟨rfl,?_,O⟩;exact {blk:=cU,base:=⟨K.1,K.2.1,K.2.2,by have:=O.size;omega⟩,ne:=oE,j8:=⟨_,fe,o⟩,now:=⟨_,iH,o⟩,pen:=zzu _ _ _ _,hD:=by simpa [ah.up]using hn,hN:=hn,hn:=tD,MN:=a6,Hv:=a6,ops:=by simp[ah.up]}
  .intro x c kl yd yp w2 Ny Fy ic E gJ pW bP dY cC uI;obtain⟨x',ex,rfl,aC⟩:=Maps.keyOf_str underlying9 Fy;obtain rfl:x=x':=encStr_inj ex;have a8:=U.kept dY sE;have s1:w2.cell? ⟨p,1,none⟩=some (.map<|some w.heap.size):=(mz dY (a:=⟨p,1,none⟩) sC sC).trans r1;clear cC;go_wp2_with (first
    |(at_mapUpdate;refine wpList_mapUpdate_own _ rfl _ _ _ 55 rfl 9 109 uP underlying55 cY w.heap.size _ _ rfl a8 mE _ _ _ rfl rfl Fy _ _ E ?_;intro w3 ab R;go_frame)
    |go_in)
   have QR:=pW.kept R (λe=>by have:=Option.some.inj e;omega) λe=>by have:=Option.some.inj e;omega
   go_roundw;case rel=>
    exact⟨_,Ny,_,QR,oE,ab.mono oE,agree_step P U.isMap trivial gJ,(T.out.trans<|(Fr.bK dY).mono<|by intro k _ m;simp at m;simp[m]).trans<|(Fr.bK R).mono<|by intro k _ m;simp at m;simp[m]⟩
   case measure=>rw[QR.left_eq,C.left_eq];exact bP
section
variable{w w':World}{B p h bN n E I:Nat}{J:Value}{d:ah}
theorem aB.geD(a:aB w B p h bN J d n E I){k:Nat}(b:lq p w k):B<=k:=by
 have:=(a.eO k).1 b;simp at this;obtain e|e|e|e:=this
 .rw[e];exact a.base.1
 .rw[e];exact a.base.2.1
 .rw[e];exact a.base.2.2.1
 .exact(a.pen.lt k e).1
theorem pM.below(f:pM p w w')(a:aB w B p h bN J d n E I):Below B w w':=
 ⟨f.os,f.tape,f.output,f.size,λk b=>f.block k (zzl b a.base.2.2.2) λo=>by have:=a.geD o;omega⟩
end
theorem aD.other{w w':World}{B b p h bN n E I q:Nat}{J r:Value}{l:aq}{d:ah}{c:Array Value}{t:TypeId}(a:aD w B b p h bN J v r l d n E I)(f:Fr [q] w w')(i:w.heap[q]?=some (.cells c t (0,0)))(g:t≠58)(j:t≠162)(m:t≠137)(e:t≠34)(k:t≠82)(s:t≠9):aD w' B b p h bN J v r l d n E I:=by
 have o:=a.free i g j m e k;rw[a.own]at o;simp only[not_or]at o;refine a.turned (a.bE.fr f ?_ ?_ ?_ ?_ ?_) f ?_<|zzc _
 .grind
 .grind
 .grind
 .grind
 .grind
 .grind
theorem abj(p:Option Addr)(n c:Nat)(w:World):(Builtin.len_ #[49] 3 #[.slice p n c]).run prog w=.ok (.int .i64 n) w:=by simp[Builtin.len_,run_underlying underlying49,goInt]
def vR(s:Nat)(v:Value):Prop:=∀k,v.ownBlock=some k->s<=k
theorem vR.abk{s b:Nat}{a:Value}(h:vR s v)(hn:bn b v a)(d:s<=b):vR s a:=λk c=>by
 obtain e|e:=hn k c
 .exact h k e
 .omega
structure Cb(w wr:World)(B lp p bD bN:Nat)(pv:Value)(l:aq)(d:ah)(n nD nN:Nat):Prop where
 fr:Fr [lp] w wr
 log:∃sv rv,aD wr B lp p bD bN pv sv rv l d n nD nN/\vR w.heap.size sv/\vR w.heap.size rv
section
variable{w wr E:World}{B lp p bD bN n nD nN:Nat}{pv:Value}{l l':aq}{d:ah}
theorem Cb.new(h:Cb w wr B lp p bD bN pv l d n nD nN)(f:Fr [] wr E):Cb w E B lp p bD bN pv l d n nD nN:=by
 have⟨v,r,a,b,c⟩:=h.log;exact⟨h.fr.trans<|f.mono sE,v,r,a.new f,b,c⟩
theorem Cb.texts{v:Value}{base m:Nat}{xs:List Value}(G:aB w B p bD bN pv d n nD nN)(C:lp<w.heap.size)(F:w.heap[lp]?≠none/\∀c fr,w.heap[lp]?≠some (.cells c 9 fr))(V:p≠lp/\bD≠lp/\bN≠lp/\pv.ownBlock≠some lp)(h:Cb w wr B lp p bD bN pv l d n nD nN)(s:wr.ownsRow base 9 1 v m xs)(r:vR w.heap.size v)(f:wr.grownBy E v.ownBlock):Cb w E B lp p bD bN pv l d n nD nN:=by
 have k:=Fr.dc f;have N:Fr [lp] w E:=h.fr.andThen k (λj u J=>by
  simp at u;have:=r j u;omega)
 have⟨x,y,b,A,D⟩:=h.log;have I:aB E B p bD bN pv d n nD nN:=G.fr N (by simpa using V.1) (by simpa using V.2.1) (by simpa using V.2.2.1) (λg f a=>by simp at a;subst a;exact V.2.2.2 f) (λq i t H=>by simp at i;subst i;exact F.2 _ _ H);have z:∀q,v.ownBlock=some q->q≠lp:=λq i e=>by have:=r q i;omega
 refine⟨N,x,y,⟨I,(k.block lp (zzl C h.fr.size) λa=>by simp at a;exact z lp a rfl).trans b.blk,b.base,?_,?_,b.dL,b.fV,b.jv,b.gy,b.lS⟩,A,D⟩
 .refine av b.segs k λg f a=>?_;simp at a;have⟨c,o⟩:=aF s a;exact bG b.segs o dN f
 .refine av b.recs k λg f a=>?_;simp at a;have⟨c,o⟩:=aF s a;exact bG b.recs o dN f
end
end Go.Proofs.YtdcafjmdfpjcbaaGreatDoor
