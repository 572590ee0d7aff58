import Derived.Test.YtlgeloebpdmnnaaGreatDoorC45
set_option maxRecDepth 100000
namespace Go.Proofs.YtlgeloebpdmnnaaGreatDoor
open Go.ChangeShapes Go.WideShapes Go.RowKit Go.Joins Go.Proofs.Tryz
open Go.ChangeMaps (setBlock shut_map_nil open_string shut_string keptBut_setBlock frozen?_setBlock heap_setBlock_same)
open Sc
theorem v_(os:Os)(started:os.Started)(H:Type)(enc:TypeId×Value->H):
  ReturnsInHanded {} checked os 5 .any (λw args=>(Rows.coordFallenSpec.pre enc prog f5 [] false w args/\laidMetH prog zN w)/\sizedMet enc prog f5 (OpenSpec.ofChange Rows.coordFallenSpec) false w args)
   (Rows.coordFallenSpec.post enc prog f5 false true false false):=by
 refine returnsInHanded_of_change_and (λ_ _ _ F h=>h.of_heap F) Tryz.own started (by as_aux_lemma=>kernel_rfl) func5
  (ChangeSpec.witness_at (enc:=enc) (C:=checked) (os:=os) (X:=λw _=>laidMetH prog zN w) false (EM os) #[.slice none 0 0] 8 rfl (by as_aux_lemma=>kernel_rfl) (by as_aux_lemma=>kernel_rfl) (by as_aux_lemma=>kernel_rfl) (by as_aux_lemma=>kernel_rfl) (by as_aux_lemma=>kernel_rfl) (Dv os _)) ?_
 intro W base args ds s before S i _ I b _;have l:=S;have A:=i;obtain⟨p,q,y,z,rfl,N,O⟩:=i;have f:=y;have V:=z;rw[params5]at f l;obtain⟨k,d,rfl,rfl,c⟩:=trodAll_one f;have u:=c;obtain⟨rfl,rfl⟩:s=[]/\q=[]:=by
  cases s with
  |nil=>exact⟨rfl,V⟩
  |cons g r=>exact absurd V<|by intro h;cases h
 have G:=okWide_slice underlying22<|l 0 22 k rfl rfl;have J:=I;have⟨L,o,m⟩:=Rf c G J;simp only[wo]at A;have n:∀x∈p,x.block<(nF W):=λx hx=>A.lt x hx
 have E:=JY b;have⟨K,_⟩:=Gp b;have⟨P,B⟩:=Gr b;have a:Rows.coordFallenSpec.fn H ([d]++[])={results:=[.lit<|.bool true],args:=[d]}:=by simp[Rows.coordFallenSpec]
 refine(Ag k L W o m ⟨E,K,P⟩ B).mono λe M ⟨D,hb⟩=>?_
 subst D;refine⟨_,rfl,_,_,_,[],p,[],(by simpa using A),?_,?_,?_,hb.frame _,λh=>by cases h⟩
 .rw[a];exact trodAll_mk1<|shut_bool underlying4 true
 .rw[a];exact trodAll_mk1<|Below.trod laidOut (by as_aux_lemma=>kernel_rfl) (of_decide_eq_true<|by as_aux_lemma=>kernel_rfl) u hb n
 .rw[a];rfl
theorem wa:joinedFacts prog 5 f5 Rows.coordFallenSpec Rows.coordFallenRow=true:=by
 unfold joinedFacts;exact gJ (gJ (gJ (gJ (gJ (gJ (gJ (gJ (gJ (gJ (gJ (gJ (gJ (gJ (gJ (gJ (gJ (gJ (gJ (gJ (gJ (gJ (gJ (gJ (gJ (gJ (gJ (gJ (gJ (gJ (gJ agx agy) agz) agA) agB) agC) agD) agE) agF) agZ) ag0) ag1) ag2) agG) agH) agI) agJ) agK) agL) agM) agN) agO) agP) agQ) agR) agS) agT) agU) agV) agW) agX) agY
theorem xO:Tryz.pinned.checked.prog.funcNamed Rows.coordFallenRow.func=some 5:=eu
theorem yZ:Tryz.f5.isInstance Tryz.pinned.checked.prog Rows.coordFallenRow.origin Rows.coordFallenRow.targs:=of_decide_eq_true eu
theorem y_:Tryz.f5.isWrapper Tryz.pinned.checked.prog Rows.coordFallenRow.wrapper Rows.coordFallenRow.mainSum:=by
 unfold Func.isWrapper;rw[mE<|of_decide_eq_false eu];exact⟨rfl,rfl⟩
theorem xP:Rows.CoordFallenSaid:=
 OpenClaim.holds_of_wide 5 f5 rfl rfl rfl rfl rfl rfl rfl ⟨rfl,rfl,rfl,rfl,rfl⟩ rfl rfl rfl rfl rfl xO func5 wa yZ y_
  (λos started H enc _=>v_ os started H enc)
end Go.Proofs.YtlgeloebpdmnnaaGreatDoor
