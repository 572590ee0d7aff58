import Derived.Test.YtejiankgafjppaaGreatDoorC41
import Derived.Test.YtejiankgafjppaaGreatDoorC47
import Derived.Test.YtejiankgafjppaaGreatDoorC48
import Derived.Test.YtejiankgafjppaaGreatDoorC49
namespace Go.Proofs.YtejiankgafjppaaGreatDoor
open Go.ChangeShapes Go.WideShapes Go.RowKit Go.Joins
open Go.ChangeMaps (setBlock shut_map_nil open_string shut_string keptBut_setBlock frozen?_setBlock heap_setBlock_same)
open Sc
set_option maxRecDepth 100000 in
theorem coordinated_lifted (os:Os) (started:os.Started) (H:Type) (enc:TypeId × Value→H) :
  ReturnsInHanded {} Tryz.checked os 7 .any (fun w args=>(Rows.coordinatedSpec.pre enc Tryz.prog Tryz.f7 [] false w args∧laidMetH Tryz.prog laidL w)∧sizedMet enc Tryz.prog Tryz.f7 (OpenSpec.ofChange Rows.coordinatedSpec) false w args)
   (Rows.coordinatedSpec.post enc Tryz.prog Tryz.f7 false true false false):=by
 refine returnsInHanded_of_change_and (C:=Tryz.checked) (X:=fun w _=>laidMetH Tryz.prog laidL w) (fun _ _ _ hh h=>h.of_heap hh) Tryz.own started (by as_aux_lemma=>kernel_rfl) Tryz.func7
  (ChangeSpec.witness_at (enc:=enc) (C:=Tryz.checked) (os:=os) (X:=fun w _=>laidMetH Tryz.prog laidL w) false (laidWorld os) #[.slice none 0 0] 8 rfl (by as_aux_lemma=>kernel_rfl) (by as_aux_lemma=>kernel_rfl) (by as_aux_lemma=>kernel_rfl) (by as_aux_lemma=>kernel_rfl) (by as_aux_lemma=>kernel_rfl) (laidWorld_met os _)) ?_
 intro W base args ds gs before hval0 hW _ hz hL _
 have hval:∀ (j:Nat) t v,Tryz.f7.params[j]?=some t→args[j]?=some v→Value.okWide Tryz.prog W .any base t v:=hval0
 have hW':=hW
 obtain ⟨p,q,hA0,hV0,rfl,hfz,hnd⟩:=hW
 have hA:DataW.TrodAll enc Tryz.prog W 0 (fun _=>true) true Tryz.f7.params.toList args.toList ds p:=hA0
 have hV:DataW.TrodVars enc Tryz.prog W (fun _=>true) [] gs q:=hV0
 rw [Tryz.params7] at hA hval
 obtain ⟨v0,d0,rfl,rfl,h0⟩:=trodAll_one hA
 have h0k:=h0
 obtain ⟨rfl,rfl⟩:gs=[]∧q=[]:=by
  cases gs with
  | nil=>exact ⟨rfl,hV⟩
  | cons g r=>exact absurd hV (by intro h;cases h)
 have hv:=okWide_slice Tryz.underlying22 (hval 0 22 v0 rfl rfl)
 have hz':(DataW.weightsEach Tryz.prog [22] [d0]).all (·≤reachBytes)=true:=hz
 obtain ⟨L,hst,hbnd⟩:=steps_ofC h0 hv hz'
 simp only [List.append_nil] at hW'
 have hlt0:∀ x∈p,x.block<W.heap.size:=fun x hx=>hW'.lt x hx
 have hg:=met_of_laid hL
 obtain ⟨hpow,hB⟩:=pows_of_laid hL
 have e1:Rows.coordinatedSpec.fn H ([d0]++[])={ results:=[.lit (.bool true)],args:=[d0] }:=by simp [Rows.coordinatedSpec]
 refine (coordinated_any v0 L W hst hbnd hg hpow hB).mono fun e W' ⟨he,hb⟩=>?_
 subst he
 refine ⟨_,rfl,_,_,_,[],p,[],(by simpa using hW'),?_,?_,?_,hb.frame _,fun h=>by cases h⟩
 ·rw [e1];exact trodAll_mk1 (shut_bool Tryz.underlying4 true)
 ·rw [e1]
  exact trodAll_mk1 (Below.trod Tryz.laidOut (by as_aux_lemma=>kernel_rfl) (of_decide_eq_true (by as_aux_lemma=>kernel_rfl)) h0k hb hlt0)
 ·rw [e1];rfl
set_option maxRecDepth 100000 in
theorem coordinated_closed:joinedFacts Tryz.prog 7 Tryz.f7 Rows.coordinatedSpec Rows.coordinatedRow=true:=by
 unfold joinedFacts
 exact wband (wband (wband (wband (wband (wband (wband (wband (wband (wband (wband (wband (wband (wband (wband (wband (wband (wband (wband (wband (wband (wband (wband (wband (wband (wband (wband (wband (wband (wband (wband wf01 wf02) wf03) wf04) wf05) wf06) wf07) wf08) wf09) wf10) wf11) wf12) wf13) wf14) wf15) wf16) wf17) wf18) wf19) wf20) wf21) wf22) wf23) wf24) wf25) wf26) wf27) wf28) wf29) wf30) wf31) wf32
set_option maxRecDepth 100000 in
theorem coordinated_named:Tryz.pinned.checked.prog.funcNamed Rows.coordinatedRow.func=some 7:=by kernel_rfl
set_option maxRecDepth 100000 in
theorem coordinated_inst:Tryz.f7.isInstance Tryz.pinned.checked.prog Rows.coordinatedRow.origin Rows.coordinatedRow.targs:=of_decide_eq_true (by kernel_rfl)
set_option maxRecDepth 100000 in
theorem coordinated_wrap:Tryz.f7.isWrapper Tryz.pinned.checked.prog Rows.coordinatedRow.wrapper Rows.coordinatedRow.mainSum:=by
 unfold Func.isWrapper;rw [if_neg (of_decide_eq_false (by kernel_rfl))];exact ⟨rfl,rfl⟩
set_option maxRecDepth 100000 in
theorem coordinated_holds:Rows.CoordinatedSaid :=
 OpenClaim.holds_of_wide 7 Tryz.f7 rfl rfl rfl rfl rfl rfl rfl ⟨rfl,rfl,rfl,rfl,rfl⟩ rfl rfl rfl rfl rfl coordinated_named Tryz.func7 coordinated_closed coordinated_inst coordinated_wrap
  (fun os started H enc _=>coordinated_lifted os started H enc)
end Go.Proofs.YtejiankgafjppaaGreatDoor
