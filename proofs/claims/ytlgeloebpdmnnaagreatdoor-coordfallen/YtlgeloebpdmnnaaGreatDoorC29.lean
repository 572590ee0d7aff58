import Derived.Test.YtlgeloebpdmnnaaGreatDoorRows
import Derived.Test.YtlgeloebpdmnnaaGreatDoorC07
import Derived.LaidHandle
import Derived.Stop.Joined
import Derived.Lib.SmallJoins
set_option maxRecDepth 100000
namespace Go.Proofs.YtlgeloebpdmnnaaGreatDoor
open Go.ChangeShapes Go.WideShapes Go.RowKit
theorem Tryz.own:ownKnob Tryz.prog.godebug=none:=eu
theorem laidOut:laidOutB Tryz.prog=true:=eu
theorem Tryz.et:Tryz.prog.globalNamed "errors.errorType"=some 0:=eu
theorem rt:(Tryz.prog.cutTypes.find? (·.1 == "internal/reflectlite.rtype")).map (·.2)=some 283:=eu
theorem ab0:((List.range 504).filter λt=>Tryz.prog.rowNamed t [101,114,114,111,114])=[74]:=eu
theorem Tryz.size:Tryz.prog.types.size=504:=eu
def zN:List (String × DataW Unit):=[("math/bits.deBruijn32tab",Rows.laid_math_bits_deBruijn32tab),("math/bits.deBruijn64tab",Rows.laid_math_bits_deBruijn64tab),("internal/strconv.uint64pow10",Rows.laid_internal_strconv_uint64pow10),("errors.errorType",Rows.laid_errors_errorType),("strconv.ErrRange",Rows.laid_strconv_ErrRange),("strconv.ErrSyntax",Rows.laid_strconv_ErrSyntax)]
def aah:List (String × DataW Unit):=[("math/bits.deBruijn32tab",Rows.laid_math_bits_deBruijn32tab),("math/bits.deBruijn64tab",Rows.laid_math_bits_deBruijn64tab),("internal/strconv.uint64pow10",Rows.laid_internal_strconv_uint64pow10),("strconv.ErrRange",Rows.laid_strconv_ErrRange),("strconv.ErrSyntax",Rows.laid_strconv_ErrSyntax)]
theorem vZ{W:nL}(h:laidMetH Tryz.prog zN W):laidMet Tryz.prog aah W/\handlesMet Tryz.prog [("errors.errorType",Rows.laid_errors_errorType)] W:=h
theorem JY{W:nL}(h:laidMetH Tryz.prog zN W):Met W:=by
 have f:=vZ h;have⟨name,u,y,a,b,c,d,e⟩:=f.2 _<|List.mem_singleton.2 rfl;have n:=(Option.some.inj a).symm;subst n;obtain rfl:=Option.some.inj<|rt.symm.trans b;have m:y∈(List.range 504).filter λt=>Tryz.prog.rowNamed t [101,114,114,111,114]:=zzp.2 ⟨List.mem_range.2<|by rw[<-Tryz.size];exact c,d⟩
 rw[ab0]at m;obtain rfl:=List.mem_singleton.1 m;have g:typeHandle Tryz.prog 74=.pointer (some (hP 6 74)):=eu;rw[g]at e;have:=World.var?_cell Tryz.et e 0;unfold Met;simpa using this
theorem aeO:(Tryz.prog.globals[1]?).map (·.type)=some 433:=eu
theorem Gp{W:nL}(h:laidMetH Tryz.prog zN W):dJ W/\2<=W.heap.size:=by
 obtain⟨ps,⟨m,x,j,f,r,v,_,_,_,_,⟨o,y,l,i,s,w,_,_,_,_,⟨g,t,cs,fuel,p,q,a,b,u,d,_,_⟩,_⟩,_⟩,_⟩:=(vZ h).1;obtain rfl:=Option.some.inj<|aay.symm.trans a;obtain rfl:=Option.some.inj<|aeO.symm.trans b;have e:(Rows.laid_internal_strconv_uint64pow10:DataW Unit)=Lib.tabData .u64 Lib.pow10Tab:=by kernel_rfl
 rw[e]at d
 have hp:dJ W:=by
  unfold dJ Lib.TabIs;rw[u,<-Lib.cells_of_tab (n:=20) eu Tryz.underlying34 eu eu d]
 refine⟨hp,?_⟩;have c:=Lib.TabIs.cell hp aay 0 du;exact zzF W _ c
def uH(cs:Array Value):Obj->Obj
 |.cells _ t frozen=>.cells cs t frozen
 |o=>o
def aeP:List Int:=[0,1,28,2,29,14,24,3,30,22,20,15,25,17,4,8,31,27,13,23,21,19,16,7,26,12,18,6,11,5,10,9]
def aeQ:List Int:=[0,1,56,2,57,49,28,3,61,58,42,50,38,29,17,4,62,47,59,36,45,43,51,22,53,39,33,30,24,18,12,5,63,55,48,27,60,41,37,16,46,35,44,21,52,32,23,11,54,26,40,15,34,20,31,10,25,14,19,9,13,8,7,6]
def ab1:nS:=⟨#[118,97,108,117,101,32,111,117,116,32,111,102,32,114,97,110,103,101]⟩
def Zg:nS:=⟨#[105,110,118,97,108,105,100,32,115,121,110,116,97,120]⟩
noncomputable def EM(os:Os):nL :=
 let w0:=World.holding Tryz.prog os ⟨#[],#[],[]⟩
 { w0 with heap:=((((((((w0.heap.modify 0 (uH #[.iface 283 (.agg #[.pointer (some ⟨6,74,none⟩)])])).modify 1 (uH (Lib.pow10Tab.map λz=>Value.int .u64 z).toArray)).modify 2 (uH #[.iface 453 (.pointer (some ⟨6+5,0,none⟩))])).modify 3 (uH #[.iface 453 (.pointer (some ⟨6+6,0,none⟩))])).modify 4 (uH (aeP.map λz=>Value.int .u8 z).toArray)).modify 5 (uH (aeQ.map λz=>Value.int .u8 z).toArray)).push (.cells #[.string Zg] 455)).push (.cells #[.string ab1] 455)) }
theorem Dv(os:Os)(args:Array Value):laidMetH Tryz.prog zN ((EM os).forCall (λ_ _=>0) ⟨#[],args,[]⟩).memory:=
 laidMetH_of_parts (laidMet_of_run' 8 eu eu) eu
end Go.Proofs.YtlgeloebpdmnnaaGreatDoor
