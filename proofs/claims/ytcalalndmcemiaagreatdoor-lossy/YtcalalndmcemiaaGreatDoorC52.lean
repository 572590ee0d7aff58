import Derived.Test.YtcalalndmcemiaaGreatDoorRows
import Derived.Test.YtcalalndmcemiaaGreatDoorC09
import Derived.LaidHandle
import Derived.Stop.Joined
import Derived.Lib.SmallJoins
set_option maxRecDepth 100000
namespace Go.Proofs.YtcalalndmcemiaaGreatDoor
open Go.ChangeShapes Go.WideShapes Go.RowKit
theorem cd:ownKnob Tryz.prog.godebug=none:=dJ
theorem laidOut:laidOutB Tryz.prog=true:=dJ
theorem et:Tryz.prog.globalNamed "errors.errorType"=some 0:=dJ
theorem rt:(Tryz.prog.cutTypes.find? (·.1 == "internal/reflectlite.rtype")).map (·.2)=some 248:=dJ
theorem XC:((List.range 493).filter λt=>Tryz.prog.rowNamed t [101,114,114,111,114])=[82]:=dJ
theorem cn:Tryz.prog.types.size=493:=dJ
def yL:List (String × DataW Unit):=[("math/bits.deBruijn32tab",Rows.laid_math_bits_deBruijn32tab),("math/bits.deBruijn64tab",Rows.laid_math_bits_deBruijn64tab),("internal/strconv.uint64pow10",Rows.laid_internal_strconv_uint64pow10),("errors.errorType",Rows.laid_errors_errorType),("strconv.ErrRange",Rows.laid_strconv_ErrRange),("strconv.ErrSyntax",Rows.laid_strconv_ErrSyntax)]
def Vg:List (String × DataW Unit):=[("math/bits.deBruijn32tab",Rows.laid_math_bits_deBruijn32tab),("math/bits.deBruijn64tab",Rows.laid_math_bits_deBruijn64tab),("internal/strconv.uint64pow10",Rows.laid_internal_strconv_uint64pow10),("strconv.ErrRange",Rows.laid_strconv_ErrRange),("strconv.ErrSyntax",Rows.laid_strconv_ErrSyntax)]
theorem yM{W:World}(h:laidMetH Tryz.prog yL W):laidMet Tryz.prog Vg W/\handlesMet Tryz.prog [("errors.errorType",Rows.laid_errors_errorType)] W:=h
theorem E'{W:World}(h:laidMetH Tryz.prog yL W):Met W:=by
 have d:=yM h;have⟨name,u,ty,e,a,b,c,e5⟩:=d.2 _<|List.mem_singleton.2 rfl;have n:=(Option.some.inj e).symm;subst n;obtain rfl:=Option.some.inj<|rt.symm.trans a;have m:ty∈(List.range 493).filter λt=>Tryz.prog.rowNamed t [101,114,114,111,114]:=zzp.2 ⟨List.mem_range.2<|by rw[<-cn];exact b,c⟩
 rw[XC]at m;obtain rfl:=List.mem_singleton.1 m;have f:typeHandle Tryz.prog 82=.pointer (some (hO 6 82)):=dJ;rw[f]at e5;have:=World.var?_cell et e5 0;unfold Met;simpa using this
theorem aaW:(Tryz.prog.globals[1]?).map (·.type)=some 418:=dJ
theorem CO{W:World}(h:laidMetH Tryz.prog yL W):bI W/\2<=W.heap.size:=by
 obtain⟨ps,⟨m,x,j,U,r,v,_,_,_,_,⟨o,y,l,V,u,w,_,_,_,_,⟨g,t,s,fuel,p,q,f,i,b,d,_,_⟩,_⟩,_⟩,_⟩:=(yM h).1;obtain rfl:=Option.some.inj<|Wo.symm.trans f;obtain rfl:=Option.some.inj<|aaW.symm.trans i;have e:(Rows.laid_internal_strconv_uint64pow10:DataW Unit)=Lib.tabData .u64 Lib.pow10Tab:=by kernel_rfl
 rw[e]at d
 have a:bI W:=by
  unfold bI Lib.TabIs;rw[b,<-Lib.cells_of_tab (n:=20) dJ Tryz.underlying43 dJ dJ d]
 refine⟨a,?_⟩;have c:=Lib.TabIs.cell a Wo 0 bM;exact zzF W _ c
def LN(s:Array Value):Obj->Obj
 |.cells _ t frozen=>.cells s t frozen
 |o=>o
def aaX:List Int:=[0,1,28,2,29,14,24,3,30,22,20,15,25,17,4,8,31,27,13,23,21,19,16,7,26,12,18,6,11,5,10,9]
def aaY:List Int:=[0,1,56,2,57,49,28,3,61,58,42,50,38,29,17,4,62,47,59,36,45,43,51,22,53,39,33,30,24,18,12,5,63,55,48,27,60,41,37,16,46,35,44,21,52,32,23,11,54,26,40,15,34,20,31,10,25,14,19,9,13,8,7,6]
def XD:ByteArray:=⟨#[118,97,108,117,101,32,111,117,116,32,111,102,32,114,97,110,103,101]⟩
def Tf:ByteArray:=⟨#[105,110,118,97,108,105,100,32,115,121,110,116,97,120]⟩
noncomputable def Bj(os:Os):World :=
 let w0:=World.holding Tryz.prog os ⟨#[],#[],[]⟩
 { w0 with heap:=((((((((w0.heap.modify 0 (LN #[.iface 248 (.agg #[.pointer (some ⟨6,82,none⟩)])])).modify 1 (LN (Lib.pow10Tab.map λz=>Value.int .u64 z).toArray)).modify 2 (LN #[.iface 447 (.pointer (some ⟨6+5,0,none⟩))])).modify 3 (LN #[.iface 447 (.pointer (some ⟨6+6,0,none⟩))])).modify 4 (LN (aaX.map λz=>Value.int .u8 z).toArray)).modify 5 (LN (aaY.map λz=>Value.int .u8 z).toArray)).push (.cells #[.string Tf] 449)).push (.cells #[.string XD] 449)) }
theorem Am(os:Os)(args:Array Value):laidMetH Tryz.prog yL ((Bj os).forCall (λ_ _=>0) ⟨#[],args,[]⟩).memory:=
 laidMetH_of_parts (laidMet_of_run' 8 dJ dJ) dJ
end Go.Proofs.YtcalalndmcemiaaGreatDoor
