import Derived.Test.YtlgeloebpdmnnaaGreatDoorC03
namespace Go.Proofs.YtlgeloebpdmnnaaGreatDoor
open Go.RowKit Go.Maps Tryz Sc
theorem SB(s:nS)(w:nL)(h:s.size<=281474976710656):
  Calls prog 160 #[.string s] w λe w'=>e=.returned (.string s)/\Below w.heap.size w w':=by
 go_enter func160,ntmps160;go_wp2_with fail;apply(Tryz.stringslite_Clone s w h).mono;rintro e a ⟨rfl,hb⟩;go_wp2;go_ret;exact⟨rfl,hb⟩
section
open Go
variable{a:Act}{ops:Array Oper}{Q:Exit->Act->nL->Prop}{fuel:Nat}{oi:Oper}{P:Program}{w:nL}
theorem b_(i:Nat){d:Region.Mode}{S:nL->Prop}{v:Value}{listed:Array Bool}(h:wpAnyH P d ops Q S fuel (listed.setIfInBounds i true) (a.put oi.dst v) w)(j:ops[i]?=some oi:=by (try simp only[List.getElem?_toArray,List.getElem?_cons_succ,List.getElem?_cons_zero]);rfl)
  (y:∀w,S w->(execOp a.eval oi).run P w=.ok (.value v) w:=by intro w f;(try dsimp only at f);(try simp only[Act.put,List.setIfInBounds_toArray,List.set_cons_zero,List.set_cons_succ]);go_simp;(try with_reducible rfl))
  (s:Region.noSelect ops=true:=by kernel_rfl) (hf:Region.free d ops listed i=true:=by kernel_rfl) (r:(Region.ready d ops listed).contains i=true:=by kernel_rfl) (g:Region.wanted oi (yielded ops a.tmps)=true:=by (try simp only[Act.put,List.setIfInBounds_toArray,List.set_cons_zero,List.set_cons_succ]);rfl) (b:∀c a w,Q (.panic c) (a.put oi.dst v) w->Q (.panic c) a w:=by exact λ_ _ _ h=>h) (e:S w:=by assumption):wpAnyH P d ops Q S (fuel+1) listed a w:=
 wpAnyH_take j s hf r b (Or.inl ⟨g,y⟩) e h
theorem Ka(i:Nat){d:Region.Mode}{S:nL->Prop}{listed:Array Bool}(h:wpAnyH P d ops Q S fuel (listed.setIfInBounds i true) (a.put oi.dst undef) w)(f:ops[i]?=some oi:=by (try simp only[List.getElem?_toArray,List.getElem?_cons_succ,List.getElem?_cons_zero]);rfl)
  (s:Region.noSelect ops=true:=by kernel_rfl) (hf:Region.free d ops listed i=true:=by kernel_rfl) (r:(Region.ready d ops listed).contains i=true:=by kernel_rfl) (g:Region.wanted oi (yielded ops a.tmps)=false:=by (try simp only[Act.put,List.setIfInBounds_toArray,List.set_cons_zero,List.set_cons_succ]);rfl) (b:∀c a w,Q (.panic c) (a.put oi.dst undef) w->Q (.panic c) a w:=by exact λ_ _ _ h=>h) (e:S w:=by assumption):wpAnyH P d ops Q S (fuel+1) listed a w:=
 wpAnyH_take f s hf r b (Or.inr ⟨g,rfl⟩) e h
theorem yg{d:Region.Mode}{S:nL->Prop}{listed:Array Bool}{i:Nat}{o:Oper}{rs:List Nat}(h:∀K:Act->nL->Prop,Shut (∀a w,S w->(S w->wpAnyH P d ops Q S fuel (listed.setIfInBounds i true) a w)->K a w)->if Region.wanted o (yielded ops a.tmps)=true then Oper.wp P o a w K Q else K (a.put o.dst undef) w)
  (s:AllReadyH P d ops Q S fuel listed a w rs) (b:ops[i]?=some o:=by (try simp only[List.getElem?_toArray,List.getElem?_cons_succ,List.getElem?_cons_zero]);rfl):AllReadyH P d ops Q S fuel listed a w (i::rs):=Jc b h s
end
end Go.Proofs.YtlgeloebpdmnnaaGreatDoor
