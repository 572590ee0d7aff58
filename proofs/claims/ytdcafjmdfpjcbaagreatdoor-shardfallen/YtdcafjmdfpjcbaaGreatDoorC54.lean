import Derived.Test.YtdcafjmdfpjcbaaGreatDoorC52
import Derived.Test.YtdcafjmdfpjcbaaGreatDoorC53
import Derived.Stop.LaidErr
import Derived.Test.YtdcafjmdfpjcbaaGreatDoorTie
import Derived.Test.YtdcafjmdfpjcbaaGreatDoorCards
set_option maxRecDepth 100000
namespace Go.Proofs.YtdcafjmdfpjcbaaGreatDoor
open Go.ChangeShapes Go.WideShapes Go.RowKit
theorem Tryz.own:ownKnob Tryz.prog.godebug=none:=k6
theorem laidOut:laidOutB Tryz.prog=true:=k6
theorem Tryz.et:Tryz.prog.globalNamed "errors.errorType"=some 0:=k6
theorem rt:(Tryz.prog.cutTypes.find? (·.1 == "internal/reflectlite.rtype")).map (·.2)=some 239:=k6
theorem ZT:((List.range 464).filter λt=>Tryz.prog.rowNamed t [101,114,114,111,114])=[67]:=k6
theorem Tryz.size:Tryz.prog.types.size=464:=k6
def yE:List (String × DataW Unit):=[("math/bits.deBruijn32tab",Rows.laid_math_bits_deBruijn32tab),("math/bits.deBruijn64tab",Rows.laid_math_bits_deBruijn64tab),("internal/strconv.uint64pow10",Rows.laid_internal_strconv_uint64pow10),("errors.errorType",Rows.laid_errors_errorType),("strconv.ErrRange",Rows.laid_strconv_ErrRange),("strconv.ErrSyntax",Rows.laid_strconv_ErrSyntax)]
def XA:List (String × DataW Unit):=[("math/bits.deBruijn32tab",Rows.laid_math_bits_deBruijn32tab),("math/bits.deBruijn64tab",Rows.laid_math_bits_deBruijn64tab),("internal/strconv.uint64pow10",Rows.laid_internal_strconv_uint64pow10),("strconv.ErrRange",Rows.laid_strconv_ErrRange),("strconv.ErrSyntax",Rows.laid_strconv_ErrSyntax)]
theorem uA{W:World}(h:laidMetH Tryz.prog yE W):laidMet Tryz.prog XA W/\handlesMet Tryz.prog [("errors.errorType",Rows.laid_errors_errorType)] W:=h
theorem Ht{W:World}(h:laidMetH Tryz.prog yE W):Met W:=by
 have a:=uA h;have⟨name,u,y,g,b,c,f,e⟩:=a.2 _<|List.mem_singleton.2 rfl;have n:=(Option.some.inj g).symm;subst n;obtain rfl:=Option.some.inj<|rt.symm.trans b;have m:y∈(List.range 464).filter λt=>Tryz.prog.rowNamed t [101,114,114,111,114]:=zzp.2 ⟨List.mem_range.2<|by rw[<-Tryz.size];exact c,f⟩
 rw[ZT]at m;obtain rfl:=List.mem_singleton.1 m;have d:typeHandle Tryz.prog 67=.pointer (some (d8 6 67)):=k6;rw[d]at e;have:=World.var?_cell Tryz.et e 0;unfold Met;simpa using this
theorem ab8:(Tryz.prog.globals[1]?).map (·.type)=some 392:=k6
theorem EU{W:World}(h:laidMetH Tryz.prog yE W):dw W/\2<=W.heap.size:=by
 obtain⟨s,⟨x,m,l,y,i,z,_,_,_,_,⟨u,j,o,v,f,w,_,_,_,_,⟨g,t,cs,fuel,p,q,a,b,r,d,_,_⟩,_⟩,_⟩,_⟩:=(uA h).1;obtain rfl:=Option.some.inj<|XY.symm.trans a;obtain rfl:=Option.some.inj<|ab8.symm.trans b;have e:(Rows.laid_internal_strconv_uint64pow10:DataW Unit)=Lib.tabData .u64 Lib.pow10Tab:=by kernel_rfl
 rw[e]at d
 have hp:dw W:=by
  unfold dw Lib.TabIs;rw[r,<-Lib.cells_of_tab (n:=20) k6 Tryz.underlying34 k6 k6 d]
 refine⟨hp,?_⟩;have c:=Lib.TabIs.cell hp XY 0 dN;exact zzF W _ c
def sM(cs:Array Value):Obj->Obj
 |.cells _ t frozen=>.cells cs t frozen
 |o=>o
def ab9:List Int:=[0,1,28,2,29,14,24,3,30,22,20,15,25,17,4,8,31,27,13,23,21,19,16,7,26,12,18,6,11,5,10,9]
def ab_:List Int:=[0,1,56,2,57,49,28,3,61,58,42,50,38,29,17,4,62,47,59,36,45,43,51,22,53,39,33,30,24,18,12,5,63,55,48,27,60,41,37,16,46,35,44,21,52,32,23,11,54,26,40,15,34,20,31,10,25,14,19,9,13,8,7,6]
def ZU:ByteArray:=⟨#[118,97,108,117,101,32,111,117,116,32,111,102,32,114,97,110,103,101]⟩
def V_:ByteArray:=⟨#[105,110,118,97,108,105,100,32,115,121,110,116,97,120]⟩
noncomputable def Dz(os:Os):World :=
 let w0:=World.holding Tryz.prog os ⟨#[],#[],[]⟩
 { w0 with heap:=((((((((w0.heap.modify 0 (sM #[.iface 239 (.agg #[.pointer (some ⟨6,67,none⟩)])])).modify 1 (sM (Lib.pow10Tab.map λz=>Value.int .u64 z).toArray)).modify 2 (sM #[.iface 412 (.pointer (some ⟨6+5,0,none⟩))])).modify 3 (sM #[.iface 412 (.pointer (some ⟨6+6,0,none⟩))])).modify 4 (sM (ab9.map λz=>Value.int .u8 z).toArray)).modify 5 (sM (ab_.map λz=>Value.int .u8 z).toArray)).push (.cells #[.string V_] 414)).push (.cells #[.string ZU] 414)) }
theorem Co(os:Os)(args:Array Value):laidMetH Tryz.prog yE ((Dz os).forCall (λ_ _=>0) ⟨#[],args,[]⟩).memory:=
 laidMetH_of_parts (laidMet_of_run' 8 k6 k6) k6
end Go.Proofs.YtdcafjmdfpjcbaaGreatDoor
set_option maxHeartbeats 1000000
set_option maxRecDepth 100000
namespace Go.Proofs.YtdcafjmdfpjcbaaGreatDoor
open Go.ChangeShapes Go.WideShapes Go.RowKit Go.Joins Go.Proofs.Tryz
open Go.ChangeMaps (setBlock shut_map_nil open_string shut_string keptBut_setBlock frozen?_setBlock heap_setBlock_same)
open Sc
theorem DA:Tryz.prog.cellsOf 40=11:=k6
theorem O4:Tryz.prog.cellsOf 30=4:=k6
theorem uB:Tryz.prog.cellsOf 3=1:=k6
theorem O5:Tryz.prog.cellsOf 34=1:=k6
theorem DB:Tryz.prog.cellsOf 9=1:=k6
theorem O6:Tryz.prog.cellsOf 38=1:=k6
theorem O7:Tryz.prog.bytesOf 40=120:=k6
theorem ZV:Tryz.prog.bytesOf 3=8:=k6
theorem DC{cs:List Value}(h:cs.length=11):∃a b c d e f g i j k l,cs=[a,b,c,d,e,f,g,i,j,k,l]:=by
 match cs,h with
 |[a,b,c,d,e,f,g,i,j,k,l],_=>grind
section
variable{H:Type}{enc:TypeId × Value->H}{P:Program}{w:World}{base:Nat}{E:Nat->Bool}{I:Bool}
theorem EV{t:TypeId}{a j i b e c g d:Field}{fuel:Nat}{cs:List Value}{x:DataW H×List MemPlace}(s:P.underlying t=some (.struct #[a,j,i,b,e,c,g,d]))(h:DataW.trod enc P w base E I fuel t cs=some x):
  ∃q r m y k l o p n,x.1=.agg [q.1,r.1,m.1,y.1,k.1,l.1,o.1,p.1]/\DataW.trod enc P w base E I n a.type ((cs.drop a.offset).take<|P.cellsOf a.type)=some q /\
   DataW.trod enc P w base E I n j.type ((cs.drop j.offset).take<|P.cellsOf j.type)=some r/\DataW.trod enc P w base E I n i.type ((cs.drop i.offset).take<|P.cellsOf i.type)=some m /\
   DataW.trod enc P w base E I n b.type ((cs.drop b.offset).take<|P.cellsOf b.type)=some y/\DataW.trod enc P w base E I n e.type ((cs.drop e.offset).take<|P.cellsOf e.type)=some k /\
   DataW.trod enc P w base E I n c.type ((cs.drop c.offset).take<|P.cellsOf c.type)=some l/\DataW.trod enc P w base E I n g.type ((cs.drop g.offset).take<|P.cellsOf g.type)=some o /\
   DataW.trod enc P w base E I n d.type ((cs.drop d.offset).take<|P.cellsOf d.type)=some p:=by
 obtain⟨xs,n,_,rfl,u,hlen,f⟩:=DataW.trod_struct s h;match xs,hlen with
 |[q,r,m,y,k,l,o,p],_=>exact⟨q,r,m,y,k,l,o,p,n,sE,by simpa using f 0 a rfl,by simpa using f 1 j rfl,by simpa using f 2 i rfl,by simpa using f 3 b rfl,by simpa using f 4 e rfl,by simpa using f 5 c rfl,by simpa using f 6 g rfl,by simpa using f 7 d rfl⟩
theorem q7{e:TypeId}{d:DataW H}{k:Nat}:∀{l:List (DataW H)},d∈l->k∈d.weights P e->k∈DataW.weightsAll P e l
 |x::l,h,hk=>by
  obtain rfl|h:=zzj.1 h
  .simp[DataW.weightsAll,hk]
  .simp[DataW.weightsAll,q7 h hk]
end
theorem O8{H:Type}{enc:TypeId×Value->H}{W:World}{v:Value}{d:DataW H}{p:List MemPlace}(h:DataW.Trod enc prog W 0 (λ_=>true) true 22 v d p)(hv:∃a len ba,v=.slice a len ba)(hz:(DataW.weightsEach prog [22] [d]).all (·<=reachBytes)=true):∃L,zo W v L/\∀(i:Nat) (a:kj),L[i]?=some a->InS a:=by
 obtain⟨a0,u,aI,rfl⟩:=hv;have⟨fuel,hf⟩:=h;rcases Deep.open_slice underlying22 hf with⟨r,_⟩|⟨F,bo,fW,m,n,D,Pl,r,_,hl,_,hm,hd,hx⟩
 .simp[Value.cells]at r;obtain⟨rfl,rfl,rfl⟩:=r;exact⟨[],⟨sE,none,0,rfl,sE⟩,sE⟩
 .simp[Value.cells]at r;obtain⟨rfl,rfl,rfl⟩:=r;simp only[if_true]at hm;have mF:d=.slice ((List.range u).map D) ((List.range<|m-u).map λj=>D<|u+j):=congrArg Prod.fst hd;have na:=List.all_eq_true.1 hz;have bt:reachBytes<=140737488355328:=by have:=reachBytes_lt;omega
  have ao:∀i,i<u->∀k∈(D i).weights prog 40,k<=140737488355328:=λi c k T=>by
   have:=na k (by
    rw[mF];simp only[DataW.weightsEach,DataW.weights,underlying22,List.append_nil];exact List.mem_cons_of_mem _ (List.mem_append_left _ (q7 (zzq.2 ⟨i,List.mem_range.2 c,rfl⟩) T)))
   simp at this;omega
  have hlen:u<=281474976710656:=by
   have:=sized_slice (j:=0) hz rfl (by rw[mF];rfl) underlying22;rw[O7]at this;simp at this;omega
  have aC:∀i,∃s:kj,i<u->(∃b o,(some F:Option Addr)=some (d8 b o)/\b<W.heap.size/\oO W b (o+i*11) s)/\s.key.size<=281474976710656/\s.s.size<=281474976710656/\s.sx<=281474976710656/\InS s:=λi=>by
   by_cases c:i<u
   .obtain⟨cs',h1,h2⟩:=hx i oE;rw[DA]at h1;have⟨_,pU,l⟩:=World.cells?_some h1;have⟨G,O,J,Q,C,R,M,N,n',hy,g0,g1,g2,g3,g4,g5,g6,g7⟩:=EV underlying40 h2;obtain⟨v0,v1,v2,v3,v4,v5,v6,X,v8,v9,Y,rfl⟩:=DC pU;have aX:DataW.trod enc prog W 0 (λ_=>true) true n' 3 [v0]=some G:=by grind[uB]
    have ad:DataW.trod enc prog W 0 (λ_=>true) true n' 34 [v1]=some O:=by grind[O5]
    have O_:DataW.trod enc prog W 0 (λ_=>true) true n' 3 [v2]=some J:=by grind[uB]
    have bb:DataW.trod enc prog W 0 (λ_=>true) true n' 3 [v3]=some Q:=by grind[uB]
    have ak:DataW.trod enc prog W 0 (λ_=>true) true n' 9 [v4]=some C:=by grind[DB]
    have a7:DataW.trod enc prog W 0 (λ_=>true) true n' 9 [v5]=some R:=by grind[DB]
    have aA:DataW.trod enc prog W 0 (λ_=>true) true n' 38 [v6]=some M:=by grind[O6]
    have b1:DataW.trod enc prog W 0 (λ_=>true) true n' 30 [X,v8,v9,Y]=some N:=by grind[O4]
    have⟨q0,q1,q2,q3,z,_,_,r0,r1,r2,r3⟩:=trod_struct4 underlying30 b1;have b6:DataW.trod enc prog W 0 (λ_=>true) true z 3 [X]=some q0:=by grind[uB]
    have b':DataW.trod enc prog W 0 (λ_=>true) true z 3 [v8]=some q1:=by grind[uB]
    have b4:DataW.trod enc prog W 0 (λ_=>true) true z 3 [v9]=some q2:=by grind[uB]
    have bf:DataW.trod enc prog W 0 (λ_=>true) true z 3 [Y]=some q3:=by grind[uB]
    have⟨x0,e0,_,_⟩:=DataW.trod_int underlying3 aX;have⟨x1,e1,_,ay⟩:=DataW.trod_int underlying34 ad;have⟨x2,e2,_,_⟩:=DataW.trod_int underlying3 O_;have⟨K,e3,_,a8⟩:=DataW.trod_int underlying3 bb;have⟨P,e4,bl,_⟩:=DataW.trod_string underlying9 ak;have⟨V,e5,al,_⟩:=DataW.trod_string underlying9 a7;have⟨x7,e7,_,b0⟩:=DataW.trod_int underlying3 b6;have⟨x8,e8,_,bg⟩:=DataW.trod_int underlying3 b';have⟨x9,e9,_,_⟩:=DataW.trod_int underlying3 b4;have⟨I,a1,_,bc⟩:=DataW.trod_int underlying3 bf;simp at e0 e1 e2 e3 e4 e5 e7 e8 e9 a1;subst e0 e1 e2 e3 e4 e5 e7 e8 e9 a1;have bx:=bounds_u64 ay;have b3:=bounds_i64 a8;have b7:=bounds_i64 b0;have b8:=bounds_i64 bg;have bq:=bounds_i64 bc;obtain⟨X1,rfl⟩:=Int.eq_ofNat_of_zero_le bx.1;have U:∀k∈DataW.weightsEach prog [3,34,3,3,9,9,38,30] [G.1,O.1,J.1,Q.1,C.1,R.1,M.1,N.1],k<=140737488355328:=λk T=>ao i c k (by
     have b2:D i=.agg [G.1,O.1,J.1,Q.1,C.1,R.1,M.1,N.1]:=hy;rw[b2];simpa [DataW.weights,underlying40]using T)
    have s4:P.size<=281474976710656:=by
     have:=U P.data.toList.length (DataW.weights_mem_each (j:=4) rfl rfl _<|by rw[bl];simp[DataW.weights]);simp at this;omega
    have s5:V.size<=281474976710656:=by
     have:=U V.data.toList.length (DataW.weights_mem_each (j:=5) rfl rfl _<|by rw[al];simp[DataW.weights]);simp at this;omega
    have⟨S,B,E,ab,s6⟩:∃S B E,v6=.slice S B E/\B<=281474976710656:=by
     rcases Deep.open_slice underlying38 aA with⟨q,_⟩|⟨a6,Z,bp,m6,n6,D6,P6,q,_,_,_,_,aE,_⟩
     .simp at q;exact⟨none,0,0,q,oE⟩
     .simp at q;refine⟨_,_,_,q,?_⟩;have:=U (((List.range Z).map D6).length+((List.range (m6-Z)).map λj=>D6 (Z+j)).length |>.mul 8) (DataW.weights_mem_each (j:=6) rfl rfl _ (by
       rw[aE];simp[DataW.weights,underlying38,ZV]))
      simp at this;omega
    subst ab;have⟨b,o,spot⟩:=F;have g:=l 0 oE;have c1:=l 1 oE;have c2:=l 2 oE;have c3:=l 3 oE;have c4:=l 4 oE;have c5:=l 5 oE;have x:=l 6 oE;have w:=l 7 oE;have A:=l 8 oE;have t:=l 9 oE;have y:=l 10 oE;rw[Deep.add_add]at g c1 c2 c3 c4 c5 x w A t y;have an:spot=none:=by
     have⟨bz,z1,_⟩:=hx 0 oE;rw[DA]at z1;have⟨_,zl,zc⟩:=World.cells?_some z1;obtain⟨u0,u1,u2,u3,u4,u5,u6,u7,u8,u9,bu,rfl⟩:=DC zl;have z0:=zc 0 oE;rw[Deep.add_add]at z0;simpa [Addr.add]using World.cell?_spot z0
    subst an;have ea:∀j,(((d8 b o):Addr).add j)=(d8 b (o+j)):=λj=>by
     unfold Addr.add;split
     .simp_all
     .rfl
    rw[ea]at g c1 c2 c3 c4 c5 x w A t y;simp only[Nat.add_zero]at g;simp only[<-Nat.add_assoc]at c1 c2 c3 c4 c5 x w A t y;exact⟨⟨x0,X1,x2,K,P,V,S,B,E,x7,x8,x9,I⟩,λ_=>⟨⟨b,o,rfl,zzF W _ g,g,c1,c2,c3,c4,c5,x,w,A,t,y⟩,s4,s5,s6,by show X1<_;omega,by show _<=K;omega,by show K<=_;omega,by show _<=x7;omega,by show _<=x8;omega,by show _<=I;omega,by show I<=_;omega⟩⟩
   .exact⟨⟨0,0,0,0,yA,yA,none,0,0,0,0,0,0⟩,λh=>absurd h c⟩
  have⟨f,WB⟩:=Classical.skolem.1 aC;have gJ:∀(i:Nat) (s:kj),((List.range u).map f)[i]?=some s->i<u/\s=f i:=λi s e=>by
   rw[zzy]at e;have c:i<u:=by grind
   rw[List.getElem?_range c]at e;simp at e;exact⟨c,e.symm⟩
  refine⟨(List.range u).map f,⟨by simpa using hlen,some F,aI,sE,λi s e=>?_⟩,λi s e=>?_⟩
  .grind
  .grind
theorem gES:Tryz.prog.globalNamed "strconv.ErrSyntax"=some 2:=k6
theorem V':(Tryz.prog.globals[2]?).map (·.type)=some 67:=k6
theorem Wc:Tryz.prog.cellsOf 414=1:=k6
theorem Ts:Tryz.prog.cellsOf 9=1:=k6
theorem Tt: "*"++ "errors.errorString"= "*errors.errorString":=dN
theorem aca(u:TypeId)(h:Tryz.prog.typeName? 3 u=some "*errors.errorString"):u=412:=
 typeName_ptr_named (by rw[Tt];kernel_rfl) k6 dN u (by rw[Tt];exact h)
theorem EW{W:World}(h:laidMetH prog yE W):mP W/\3<=W.heap.size:=by
 have a:=(uA h).1.tail.tail.tail.tail;obtain⟨d,s,b,-,-,-⟩:=laid_sentinel a gES V' underlying67 aca underlying412 underlying414 rfl rfl underlying9 Wc Ts;have c:=World.var?_cell gES b 0;simp at c;exact⟨⟨_,c,.inr ⟨_,_,rfl⟩⟩,zzF W _ c⟩
theorem yU(v:Value)(L:List kj)(w:World)(h:zo w v L)(c:∀(i:Nat) (a:kj),L[i]?=some a->InS a)(H:Met w)(F:dw w)(K:mP w)(B:3<=w.heap.size):
  Calls prog 4 #[v] w λe w'=>e=.returned (.bool true)/\Below w.heap.size w w':=by
 have C:=ae<|Hs v L w h c H F K B;obtain⟨_,o,p,rfl,_⟩:=h
 go_enter func4,ntmps4;go_wp2_with fail;apply C.out.mono;rintro e b ⟨rfl,hb⟩;go_wp2;go_ret;exact⟨rfl,hb⟩
end Go.Proofs.YtdcafjmdfpjcbaaGreatDoor
set_option maxRecDepth 100000
namespace Go.Proofs.YtdcafjmdfpjcbaaGreatDoor
open Go.ChangeShapes Go.WideShapes Go.RowKit Go.Joins Go.Proofs.Tryz
open Go.ChangeMaps (setBlock shut_map_nil open_string shut_string keptBut_setBlock frozen?_setBlock heap_setBlock_same)
open Sc
theorem uC(os:Os)(started:os.Started)(H:Type)(enc:TypeId×Value->H):
  ReturnsInHanded {} checked os 4 .any (λw args=>(Rows.shardFallenSpec.pre enc prog f4 [] false w args/\laidMetH prog yE w)/\sizedMet enc prog f4 (OpenSpec.ofChange Rows.shardFallenSpec) false w args)
   (Rows.shardFallenSpec.post enc prog f4 false true false false):=by
 refine returnsInHanded_of_change_and (λ_ _ _ u h=>h.of_heap u) Tryz.own started (by as_aux_lemma=>kernel_rfl) func4
  (ChangeSpec.witness_at (enc:=enc) (C:=checked) (os:=os) (X:=λw _=>laidMetH prog yE w) false (Dz os) #[.slice none 0 0] 8 rfl (by as_aux_lemma=>kernel_rfl) (by as_aux_lemma=>kernel_rfl) (by as_aux_lemma=>kernel_rfl) (by as_aux_lemma=>kernel_rfl) (by as_aux_lemma=>kernel_rfl) (Co os _)) ?_
 intro W base args O s before t f _ G b _;have l:=t;have a:=f;obtain⟨p,q,m,n,rfl,N,P⟩:=f;have A:=m;have V:=n;rw[params4]at A l;obtain⟨v,d,rfl,rfl,j⟩:=trodAll_one A;have I:=j;obtain⟨rfl,rfl⟩:s=[]/\q=[]:=by
  cases s with
  |nil=>exact⟨rfl,V⟩
  |cons g r=>exact absurd V<|by intro h;cases h
 have z:=okWide_slice underlying22<|l 0 22 v rfl rfl;have o:=G;have⟨L,B,Z⟩:=O8 j z o;simp only[List.append_nil]at a;have y:∀x∈p,x.block<W.heap.size:=λx J=>a.lt x J
 have E:=Ht b;have⟨F,_⟩:=EU b;have⟨K,D⟩:=EW b;have c:Rows.shardFallenSpec.fn H ([d]++[])={results:=[.lit<|.bool true],args:=[d]}:=by simp[Rows.shardFallenSpec]
 refine(yU v L W B Z E F K D).mono λe M ⟨k,i⟩=>?_
 subst k;refine⟨_,rfl,_,_,_,[],p,[],(by simpa using a),?_,?_,?_,i.frame _,λh=>by cases h⟩
 .rw[c];exact trodAll_mk1<|shut_bool underlying4 true
 .rw[c];exact trodAll_mk1<|Below.trod laidOut (by as_aux_lemma=>kernel_rfl) (of_decide_eq_true<|by as_aux_lemma=>kernel_rfl) I i y
 .rw[c];rfl
theorem uD:joinedFacts prog 4 f4 Rows.shardFallenSpec Rows.shardFallenRow=true:=by
 unfold joinedFacts;exact fM (fM (fM (fM (fM (fM (fM (fM (fM (fM (fM (fM (fM (fM (fM (fM (fM (fM (fM (fM (fM (fM (fM (fM (fM (fM (fM (fM (fM (fM (fM aeu aev) aew) aex) aey) aez) aeA) aeB) aeC) ND) aeW) aeX) aeY) aeD) aeE) aeF) aeG) aeH) aeI) aeJ) aeK) aeL) aeM) aeN) aeO) aeP) aeQ) aeR) aeS) aeT) aeU) aeV
theorem wj:Tryz.pinned.checked.prog.funcNamed Rows.shardFallenRow.func=some 4:=k6
theorem xT:Tryz.f4.isInstance Tryz.pinned.checked.prog Rows.shardFallenRow.origin Rows.shardFallenRow.targs:=of_decide_eq_true k6
theorem xU:Tryz.f4.isWrapper Tryz.pinned.checked.prog Rows.shardFallenRow.wrapper Rows.shardFallenRow.mainSum:=by
 unfold Func.isWrapper;rw[if_neg<|of_decide_eq_false k6];exact⟨rfl,rfl⟩
theorem wk:Rows.ShardFallenSaid:=
 OpenClaim.holds_of_wide 4 f4 rfl rfl rfl rfl rfl rfl rfl ⟨rfl,rfl,rfl,rfl,rfl⟩ rfl rfl rfl rfl rfl wj func4 uD xT xU
  (λos started H enc _=>uC os started H enc)
end Go.Proofs.YtdcafjmdfpjcbaaGreatDoor
namespace Go.Proofs.YtdcafjmdfpjcbaaGreatDoor
open Go Go.Proofs.Tryz
set_option maxRecDepth 100000
theorem om:Rows.shardFallenRow.wfByText (OpenSpec.ofChange Rows.shardFallenSpec)=true:=k6
theorem lI:Tryz.pinned.checked.prog.mainIs=some (true, "e64403293544d1bc375edc6784de39c66faebc447660fa644f03dd33e8312733".toList):=k6
theorem oX:Tryz.prog.funcNamed "shardcommit/shardcommitlaw.ShardFallen"=some 4:=k6
theorem Wj:true=Tryz.pinned.checked.prog.looks []:=k6
theorem hc5:Tryz.prog.wantsStandIn 22=false:=k6
theorem hc6:false=Rows.shardFallenRow.goesBy Tryz.pinned.checked.prog:=k6
theorem shardFallen_card_holds:Rows.ShardFallenCardSaid:=
 Claim7.holds_tied_plain_at .later [] [.data,.data,.data,.handle,.sentinel,.sentinel] true (true, "e64403293544d1bc375edc6784de39c66faebc447660fa644f03dd33e8312733") true
  wk (λ_ h=>by cases h) om (λ_ h=>by cases h) shardFallen_row_tie rfl ⟨rfl,rfl⟩ lI rfl
  (λf n b R=>by
   obtain rfl:f=4:=Option.some.inj (oX.symm.trans b) |>.symm;obtain rfl:n=f4:=(Option.some.inj<|Tryz.func4.symm.trans R).symm
   exact⟨Wj,λj t a=>by
    rw[params4]at a;obtain _|j:=j
    .obtain rfl:t=22:=by simpa using a.symm
     exact hc5
    .simp at a⟩)
  hc6
#print axioms shardFallen_card_holds
end Go.Proofs.YtdcafjmdfpjcbaaGreatDoor
