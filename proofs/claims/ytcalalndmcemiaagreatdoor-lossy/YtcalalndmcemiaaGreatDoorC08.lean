import Derived.Test.YtcalalndmcemiaaGreatDoorC06
import Derived.DeepKeys5
set_option maxHeartbeats 4000000
set_option maxRecDepth 100000
namespace Go.Proofs.YtcalalndmcemiaaGreatDoor
open Go.RowKit Go.Maps Tryz Sc
noncomputable def KS:iD prog ByteArray 9 where
 kv:=.string
 kl:=kY
 ok:=λk=>k.size<=maxLen
 law:=wB
 key:=λ_ hk=>Go.WideMaps.keyOf_string_mk underlying9 hk
 inj:=λ_ _ h=>by simpa using h
theorem wfU{x:Nat}(h:x<18446744073709551616):(Lit.int .u64 (x:Int)).wf=true:=by
 have a:IntKind.u64.min=0:=rfl;have b:IntKind.u64.max=18446744073709551615:=rfl;simp[Lit.wf,a,b];omega
noncomputable def KU:iD prog Nat 43 where
 kv:=λx=>.int .u64 (x:Int)
 kl:=λx=>.int .u64 (x:Int)
 ok:=λx=>x<18446744073709551616
 law:=Go.Maps.int_keyed underlying43
 key:=λ_ hk=>Go.Maps.keyOf_int_mk underlying43 (wfU hk)
 inj:=λa b h=>by simp at h;omega
theorem aac:laidOutB prog=true:=dJ
theorem aad:(141:TypeId)<Tryz.prog.types.size:=of_decide_eq_true dJ
theorem aae:(match Tryz.prog.underlying 141 with|some (.array _ _)|some (.struct _)=>true|_=>false)=true:=dJ
theorem acG:Keyed prog 141:=Keyed.of_law<|deep_law_laid aac (m:=3) (by omega) aad dJ aae
theorem Ot:Tryz.prog.keyType 141=true:=dJ
theorem Ou:Tryz.prog.cellsOf 141=2:=dJ
theorem Wy:Tryz.prog.cellsOf 43=1:=dJ
theorem Wz:Tryz.prog.cellsOf 9=1:=dJ
abbrev AY(k:Nat × ByteArray):Value:=.agg #[.int .u64 (k.1:Int),.string k.2]
theorem acH{k:Nat×ByteArray}(c:k.1<18446744073709551616)(f:k.2.size<=maxLen):∃l,keyOf prog 141 (AY k)=some l:=by
 have W:∀d,∃l,(if Tryz.prog.keyType 141&&(AY k).formed prog 141 then (Tryz.prog.keyLits (d+1+1) 141 (AY k).cells.toList).map λs=>Lit.string (keyBytes s)else none)=some l:=λd=>by
  have a:=wfU c;have b:(AY k).formed prog 141=true:=by simp[Value.formed,underlying141,Ou]
  rw[Ot,b];simp only[Program.keyLits,underlying141];simp[Value.cells,Ou,Wy,Wz,a,f]
 have⟨d,g⟩:∃d,Tryz.prog.types.size+1=d+1+1:=by
  have h:=Nat.lt_of_le_of_lt (zzs _) aad;exact⟨Tryz.prog.types.size-1,by rw[Nat.sub_add_cancel h]⟩
 have e:=underlying141;unfold keyOf;rw[g];split
 .exact W d
 .exact W d
 .rename_i h3 h4;exact absurd e<|h4 _
noncomputable def KH:iD prog (Nat × ByteArray) 141 where
 kv:=AY
 kl:=λk=>(keyOf prog 141 (AY k)).getD (.bool false)
 ok:=λk=>k.1<18446744073709551616/\k.2.size<=maxLen
 law:=acG
 key:=λk hk=>by obtain⟨l,hl⟩:=acH hk.1 hk.2;rw[hl];rfl
 inj:=λa b h=>by
  obtain⟨a1,a2⟩:=a;obtain⟨b1,b2⟩:=b;simp at h;obtain⟨h3,h4⟩:=h;have h5:a1=b1:=by omega
  rw[h5,h4]
noncomputable def ES:kK ByteArray where
 R:=plainElem prog 9
 ev:=.string
 el:=λs=>.lit (.string s.data.toList)
 ok:=λs=>s.size<=maxLen
 made:=λ_ h=>plainElem_string underlying9 h
 inv:=λx v ps _ h=>by
  obtain⟨s,rfl,h2,_⟩:=plainElem_string_inv underlying9 h;simp only[Prod.mk.injEq,DataW.lit.injEq] at h2;rw[tv h2.1]
structure ft where
 state:Nat
 done:Nat
 last:Nat
abbrev acI(t:ft):Value:=.agg #[.int .i64 (t.state:Int),.int .i64 (t.done:Int),.int .u64 (t.last:Int)]
def WA:Value->Option (DataW Unit × List MemPlace)
 |.agg cs=>match cs.toList with
  |[.int .i64 a,.int .i64 b,.int .u64 c]=>some (.agg [.lit (.int .i64 a),.lit (.int .i64 b),.lit (.int .u64 c)],[])
  |_=>none
 |_=>none
noncomputable def ET:kK ft where
 R:=WA
 ev:=acI
 el:=λt=>.agg [.lit (.int .i64 (t.state:Int)),.lit (.int .i64 (t.done:Int)),.lit (.int .u64 (t.last:Int))]
 ok:=λ_=>True
 made:=λ_ _=>by simp[WA]
 inv:=λx v ps _ h=>by
  unfold WA at h;split at h
  .rename_i cs;split at h
   .rename_i a b c hc;simp at h;obtain⟨⟨rfl,rfl,rfl⟩,_⟩:=h;show Value.agg cs=Value.agg _;congr 1;exact Array.toList_inj.1 (by rw[hc])
   .cases h
  .cases h
structure aK where
 way:Nat
 val:ByteArray
abbrev aaf(g:aK):Value:=.agg #[.int .u8 (g.way:Int),.string g.val]
def Ov:Value->Option (DataW Unit × List MemPlace)
 |.agg cs=>match cs.toList with
  |[.int .u8 a,.string s]=>some (.agg [.lit (.int .u8 a),.lit (.string s.data.toList)],[])
  |_=>none
 |_=>none
noncomputable def EG:kK aK where
 R:=Ov
 ev:=aaf
 el:=λg=>.agg [.lit (.int .u8 (g.way:Int)),.lit (.string g.val.data.toList)]
 ok:=λ_=>True
 made:=λ_ _=>by simp[Ov]
 inv:=λx v ps _ h=>by
  unfold Ov at h;split at h
  .rename_i cs;split at h
   .rename_i a s hc;simp only[Option.some.injEq,Prod.mk.injEq,DataW.agg.injEq,List.cons.injEq,DataW.lit.injEq,Lit.int.injEq,true_and,and_true] at h;obtain⟨⟨rfl,h2⟩,_⟩:=h;rw[tv h2] at hc;show Value.agg cs=Value.agg _;congr 1;exact Array.toList_inj.1 (by rw[hc])
   .cases h
  .cases h
theorem JG(w:World):(zeroValue 199).run prog w=.ok (ET.ev ⟨0,0,0⟩) w:=dJ
theorem qe(w:World):(zeroValue 134).run prog w=.ok (EG.ev ⟨0,ByteArray.empty⟩) w:=dJ
theorem JH(w:World):(zeroValue 9).run prog w=.ok (ES.ev ByteArray.empty) w:=dJ
section
open Go
variable{a:Act}{fuel:Nat}{oi:Oper}{P:Program}{w:World}
theorem tkH(i:Nat){ops:Array Oper}{Q:Exit->Act->World->Prop}{d:Region.Mode}{S:World->Prop}{v:Value}{listed:Array Bool}(h:wpAnyH P d ops Q S fuel (listed.setIfInBounds i true) (a.put oi.dst v) w)(j:ops[i]?=some oi:=by (try simp only[List.getElem?_toArray,List.getElem?_cons_succ,List.getElem?_cons_zero]);rfl)
  (y:∀w,S w->(execOp a.eval oi).run P w=.ok (.value v) w:=by intro w f;(try dsimp only at f);(try simp only[Act.put,List.setIfInBounds_toArray,List.set_cons_zero,List.set_cons_succ]);go_simp;(try with_reducible rfl))
  (hs:Region.noSelect ops=true:=by kernel_rfl) (hf:Region.free d ops listed i=true:=by kernel_rfl) (r:(Region.ready d ops listed).contains i=true:=by kernel_rfl) (g:Region.wanted oi (yielded ops a.tmps)=true:=by (try simp only[Act.put,List.setIfInBounds_toArray,List.set_cons_zero,List.set_cons_succ]);rfl) (b:∀c a w,Q (.panic c) (a.put oi.dst v) w->Q (.panic c) a w:=by exact λ_ _ _ h=>h) (e:S w:=by assumption):wpAnyH P d ops Q S (fuel+1) listed a w:=
 wpAnyH_take j hs hf r b (Or.inl ⟨g,y⟩) e h
theorem tkV(i:Nat)(v:Value){ops:Array Oper}{Q:Exit->Act->World->Prop}{d:Region.Mode}{S:World->Prop}{listed:Array Bool}(h:wpAnyH P d ops Q S fuel (listed.setIfInBounds i true) (a.put oi.dst v) w)(j:ops[i]?=some oi:=by (try simp only[List.getElem?_toArray,List.getElem?_cons_succ,List.getElem?_cons_zero]);rfl)
  (y:∀w,S w->(execOp a.eval oi).run P w=.ok (.value v) w:=by intro w f;(try dsimp only at f);(try simp only[Act.put,List.setIfInBounds_toArray,List.set_cons_zero,List.set_cons_succ]);go_simp)
  (hs:Region.noSelect ops=true:=by kernel_rfl) (hf:Region.free d ops listed i=true:=by kernel_rfl) (r:(Region.ready d ops listed).contains i=true:=by kernel_rfl) (g:Region.wanted oi (yielded ops a.tmps)=true:=by (try simp only[Act.put,List.setIfInBounds_toArray,List.set_cons_zero,List.set_cons_succ]);rfl) (b:∀c a w,Q (.panic c) (a.put oi.dst v) w->Q (.panic c) a w:=by exact λ_ _ _ h=>h) (e:S w:=by assumption):wpAnyH P d ops Q S (fuel+1) listed a w:=
 wpAnyH_take j hs hf r b (Or.inl ⟨g,y⟩) e h
theorem tkU(i:Nat){ops:Array Oper}{Q:Exit->Act->World->Prop}{d:Region.Mode}{S:World->Prop}{listed:Array Bool}(h:wpAnyH P d ops Q S fuel (listed.setIfInBounds i true) (a.put oi.dst undef) w)(f:ops[i]?=some oi:=by (try simp only[List.getElem?_toArray,List.getElem?_cons_succ,List.getElem?_cons_zero]);rfl)
  (hs:Region.noSelect ops=true:=by kernel_rfl) (hf:Region.free d ops listed i=true:=by kernel_rfl) (r:(Region.ready d ops listed).contains i=true:=by kernel_rfl) (g:Region.wanted oi (yielded ops a.tmps)=false:=by (try simp only[Act.put,List.setIfInBounds_toArray,List.set_cons_zero,List.set_cons_succ]);rfl) (b:∀c a w,Q (.panic c) (a.put oi.dst undef) w->Q (.panic c) a w:=by exact λ_ _ _ h=>h) (e:S w:=by assumption):wpAnyH P d ops Q S (fuel+1) listed a w:=
 wpAnyH_take f hs hf r b (Or.inr ⟨g,rfl⟩) e h
theorem ryC{ops:Array Oper}{Q:Exit->Act->World->Prop}{d:Region.Mode}{S:World->Prop}{listed:Array Bool}{i:Nat}{o:Oper}{rs:List Nat}(h:∀K:Act->World->Prop,Shut (∀a w,S w->(S w->wpAnyH P d ops Q S fuel (listed.setIfInBounds i true) a w)->K a w)->if Region.wanted o (yielded ops a.tmps)=true then Oper.wp P o a w K Q else K (a.put o.dst undef) w)
  (hs:AllReadyH P d ops Q S fuel listed a w rs) (b:ops[i]?=some o:=by (try simp only[List.getElem?_toArray,List.getElem?_cons_succ,List.getElem?_cons_zero]);rfl):AllReadyH P d ops Q S fuel listed a w (i::rs):=AllReadyH.cons b h hs
end
variable{k:ByteArray}{H T V lg m n p t:Nat}{w w':World}
structure ag where
 aM:List (ByteArray × ByteArray)
 ai:List (Nat × ft)
 holds:List ((Nat × ByteArray) × aK)
 aC:Nat
def ag.aP(s:ag)(t:Nat):ft:=(ak s.ai t).getD ⟨0,0,0⟩
def ag.ke(s:ag)(t:Nat)(k:ByteArray):aK:=(ak s.holds (t,k)).getD ⟨0,ByteArray.empty⟩
def lgP(lg:Nat):Option Addr:=if lg=0 then none else some ⟨lg,0,none⟩
theorem dE(h:1<=lg):lgP lg=some ⟨lg,0,none⟩:=if_neg (by omega)
abbrev Zk(lg bV bT bH:Nat)(aC:Nat):Obj:=.cells #[.pointer (lgP lg),.map (some bV),.map (some bT),.map (some bH),.int .u64 (aC:Int)] 139
structure a_(w:World)(sp lg bV bT bH n:Nat)(s:ag):Prop where
 blk:w.heap[sp]?=some (Zk lg bV bT bH s.aC)
 aM:aO KS ES w bV n s.aM
 ai:aO KU ET w bT n s.ai
 holds:aO KH EG w bH n s.holds
 ne:bV≠bT/\bV≠bH/\bT≠bH
 aC:s.aC<18446744073709551616
theorem a_.fr{sp bV bT bH:Nat}{s:ag}{S:List Nat}(h:a_ w sp lg bV bT bH n s)(hf:Fr S w w')(a:sp∉S)(b:bV∉S)(c:bT∉S)(d:bH∉S):a_ w' sp lg bV bT bH n s where
 blk:=(hf.block sp (zza.1 h.blk).1 a).trans h.blk
 aM:=h.aM.fr hf b
 ai:=h.ai.fr hf c
 holds:=h.holds.fr hf d
 ne:=h.ne
 aC:=h.aC
section
variable{w:World}{sp lg bV bT bH n:Nat}{s:ag}
theorem a_.f_(h:a_ w sp lg bV bT bH n s){t:Nat}(a:t<18446744073709551616):
  (Instr.lookup 136 (.map (some bT)) (.int .u64 (t:Int)) false).run prog w=.ok (.agg #[.int .i64 ((s.aP t).state:Int),.int .i64 ((s.aP t).done:Int),.int .u64 ((s.aP t).last:Int)]) w :=
 h.ai.look underlying136 (JG w) trivial (k:=t) a
theorem a_.aay(h:a_ w sp lg bV bT bH n s){k:ByteArray}(a:k.size<=maxLen):
  (Instr.lookup 135 (.map (some bV)) (.string k) true).run prog w=.ok (.tuple #[.string ((ak s.aM k).getD ByteArray.empty),.bool (ak s.aM k).isSome]) w :=
 h.aM.Ch underlying135 (JH w) (by show(0:Nat)<=maxLen;omega) (k:=k) a
theorem a_.U2(h:a_ w sp lg bV bT bH n s){t:Nat}{k:ByteArray}(b:t<18446744073709551616)(a:k.size<=maxLen):
  (Instr.lookup 137 (.map (some bH)) (.agg #[.int .u64 (t:Int),.string k]) false).run prog w=.ok (.agg #[.int .u8 ((s.ke t k).way:Int),.string (s.ke t k).val]) w :=
 h.holds.look underlying137 (qe w) trivial (k:=(t,k)) ⟨b,a⟩
theorem a_.SR(h:a_ w sp lg bV bT bH n s){t:Nat}{k:ByteArray}(b:t<18446744073709551616)(a:k.size<=maxLen):
  (Instr.lookup 137 (.map (some bH)) (.agg #[.int .u64 (t:Int),.string k]) true).run prog w=.ok (.tuple #[.agg #[.int .u8 ((s.ke t k).way:Int),.string (s.ke t k).val],.bool (ak s.holds (t,k)).isSome]) w :=
 h.holds.Ch underlying137 (qe w) trivial (k:=(t,k)) ⟨b,a⟩
end
theorem JV(a b c:Int)(w:World):(Instr.field 199 (.agg #[.int .i64 a,.int .i64 b,.int .u64 c]) 0).run prog w=.ok (.int .i64 a) w:=by kernel_rfl
theorem Lq(sp lg bV bT bH n t:Nat)(s:ag)(w:World)(h:a_ w sp lg bV bT bH n s)(b:t<18446744073709551616):
  Calls prog 219 #[.pointer (some ⟨sp,0,none⟩),.int .u64 (t:Int)] w λe w'=>e=.returned (.int .i64 ((s.aP t).state:Int))/\∃q,w'=w.drewN q:=by
 have c2:=ae h.blk 2;simp at c2;have l:=h.f_ b;have u:=JV;obtain⟨T,a⟩:∃T,T=s.aP t:=⟨_,rfl⟩;rw[<-a] at l ⊢;clear h a
 go_enter func219,ntmps219
 go_wp2;go_ret;exact⟨rfl,0,rfl⟩
theorem A_(sp lg bV bT bH n:Nat)(k:ByteArray)(s:ag)(w:World)(h:a_ w sp lg bV bT bH n s)(c:k.size<=maxLen):
  Calls prog 57 #[.pointer (some ⟨sp,0,none⟩),.string k] w λe w'=>e=.returned (.tuple #[.string ((ak s.aM k).getD ByteArray.empty),.bool (ak s.aM k).isSome])/\∃q,w'=w.drewN q:=by
 have c1:=ae h.blk 1;simp at c1;have l:=h.aay c;obtain⟨V,b⟩:∃V,V=(ak s.aM k).getD ByteArray.empty:=⟨_,rfl⟩;obtain⟨O,a⟩:∃O,O=(ak s.aM k).isSome:=⟨_,rfl⟩;rw[<-b,<-a] at l ⊢;clear h b a
 go_enter func57,ntmps57
 go_wp2;go_ret2;exact⟨rfl,0,rfl⟩
def aK.writes(g:aK):Bool:=!decide (g.way=0)
theorem tW(g:aK)(w:World):Calls prog 63 #[.agg #[.int .u8 (g.way:Int),.string g.val]] w λe w'=>e=.returned (.bool g.writes)/\w'=w.alloc (.cells #[.int .u8 (g.way:Int),.string g.val] 134):=by
 go_enter func63,ntmps63;go_wp2;go_ret;refine⟨?_,rfl⟩;congr 2;unfold aK.writes;by_cases h:g.way=0
 .simp[h]
 .simp[h]
def oL(s:ag)(t:Nat)(k:ByteArray)(wr:Bool)(o:Nat):Bool :=
 (ak s.holds (o,k)).isSome&&(!decide (o=t)&&((s.ke o k).writes||wr))
def ag.rS(s:ag)(t:Nat)(k:ByteArray)(wr:Bool):Bool:=s.ai.any λp=>oL s t k wr p.1
theorem Ez(m lg V T J n t:Nat)(k:ByteArray)(g:aK)(s:ag)(w:World)(h:a_ w m lg V T J n s)(hk:k.size<=maxLen):
  Calls prog 108 #[.pointer<|some ⟨m,0,none⟩,.int .u64 (t:Int),.string k,.agg #[.int .u8 (g.way:Int),.string g.val]] w λe w'=>e=.returned (.bool<|s.rS t k g.writes)/\Fr [] w w':=by
 have I:Hid (a_ w m lg V T J n s):=h;have c2:=ae h.blk 2;simp at c2;have xo:m<w.heap.size:=(zza.1 h.blk).1;clear h
 go_enter func108,ntmps108
 go_wp2_with (first
  |(at_range;refine fq (KR:=KU) (ER:=ET) rfl _ 136 199 rfl underlying136 T n s.ai rfl (I.out.ai.fr ((Fr.refl [] w).alloc _) (by simp)) ?_;intro f D z S)
  |go_in)
 have C:(w.alloc<|.cells #[.int .u8 (g.way:Int),.string g.val] 134).heap.size=w.heap.size+1:=by simp
 rw[C]at D S ⊢;clear C;go_frame;have K:Fr [] w f:=((lT w).alloc _).trans<|Fr.bz z
 have F:f.heap[w.heap.size]?=some (.cells #[.int .u8 (g.way:Int),.string g.val] 134):=by
  rw[z.block w.heap.size bR bR];exact heap_alloc_new _ _
 have Gx:Hid (aY KU ET f T (w.heap.size+1) n s.ai s.ai):=D;have a7:f.heap.size=w.heap.size+2:=bL;have O5:Hid (Fr [] w f):=K;have a1:Hid (f.heap[w.heap.size]?=some (.cells #[.int .u8 (g.way:Int),.string g.val] 134)):=F;clear D z S K F;go_loopw [9] (λ_ wr=>∃rem,Hid<|aY KU ET wr T (w.heap.size+1) n s.ai rem/\(∀p∈s.ai,p∉rem->oL s t k g.writes p.1=false)/\Fr [] w wr/\wr.heap[w.heap.size]?=some (.cells #[.int .u8 (g.way:Int),.string g.val] 134)/\w.heap.size+2<=wr.heap.size) (λ_ wr=>wr.rangeLeft T<|w.heap.size+1);case atStart=>exact⟨s.ai,Gx.out,λp h1 h2=>absurd h1 h2,O5.out,a1.out,bL⟩
 case round=>
  have⟨rem,X⟩:=hrel;have Z:=X.1;go_wp2_with (first
   |(at_next;refine fN (KR:=KU) (ER:=ET) rfl _ rfl T (w.heap.size+1) n s.ai rem rfl Z ?_ ?_)
   |go_in)
  .intro dM;go_wp2;go_ret;refine⟨?_,X.2.2.1⟩;have lQ:s.rS t k g.writes=false:=by
    unfold ag.rS;rw[List.any_eq_false];intro p y;rw[X.2.1 p y<|by rw[dM];simp];simp
   rw[lQ];rfl
  .intro o x w2 hm kZ bU fc dT iU;have B:(o,x)∈s.ai:=by
    have⟨_,_,_,_,_,_,_,_,h6,_⟩:=Z;exact h6 _ hm
   have ho:o<18446744073709551616:=by
    have⟨_,_,_,_,bB⟩:=Z.owns;exact(bB _ B).1
   have Q:Fr [] w w2:=X.2.2.1.andThen (Fr.aF fc) (λj hj P=>by simp at hj;omega);have u:=I.out.fr Q bR bR bR bR;have E:w2.heap[w.heap.size]?=some (.cells #[.int .u8 (g.way:Int),.string g.val] 134):=by
    rw[fc.block w.heap.size (by have:=X.2.2.2.2;omega) bR];exact X.2.2.2.1
   have c3:=ae u.blk 3;simp at c3;have P:=u.SR ho hk;have H:Hid (oL s t k g.writes o=((ak s.holds (o,k)).isSome&&(!decide (o=t)&&((s.ke o k).writes||g.writes)))):=rfl;have⟨G,L⟩:=gb <|s.ke o k;have⟨O,N⟩:=gb <|(ak s.holds (o,k)).isSome;rw[<-L,<-N]at P H;clear L N;have Y:Hid (aY KU ET w2 T (w.heap.size+1) n s.ai<|aT rem o):=kZ;have M:Hid (Fr [] w w2):=Q;have r:Hid (w2.heap[w.heap.size]?=some (.cells #[.int .u8 (g.way:Int),.string g.val] 134)):=E;have l0:w.heap.size+2<=w2.heap.size:=by have:=X.2.2.2.2;omega
   have O6:(Instr.entry<|.pointer<|some ⟨w.heap.size+1,0,none⟩).run prog w2=.ok (.tuple #[.int .u64 (o:Int),.agg #[.int .i64 (x.state:Int),.int .i64 (x.done:Int),.int .u64 (x.last:Int)]]) w2:=iU;have HM:Hid ((o,x)∈rem/\(o,x)∈s.ai):=⟨hm,B⟩;have RE:Hid (w2.rangeLeft T (w.heap.size+1)<wr.rangeLeft T (w.heap.size+1)):=bU;clear Z kZ Q u E hm B iU fc dT bU;have a:Hid (oL s t k g.writes o=false->∀W,Fr [] w2 W->(∃rem,Hid<|aY KU ET W T (w.heap.size+1) n s.ai rem/\(∀p∈s.ai,p∉rem->oL s t k g.writes p.1=false)/\Fr [] w W/\W.heap[w.heap.size]?=some (.cells #[.int .u8 (g.way:Int),.string g.val] 134)/\w.heap.size+2<=W.heap.size)/\W.rangeLeft T (w.heap.size+1)<wr.rangeLeft T (w.heap.size+1)):=λv W l=>by
    obtain⟨r1,r2⟩:=Y.out.fr l bR bR;refine⟨⟨aT rem o,r1,λp y hn=>?_,M.out.trans l,(l.block _ bL bR).trans r.out,zzk l0 l.size⟩,by rw[r2];exact RE.out⟩;by_cases R:p∈rem
    .have Lr:p.1=o:=Decidable.byContradiction λa6=>hn<|zzp.2 ⟨R,by simp[a6]⟩
     rw[Lr];exact v
    .exact X.2.1 p y R
   have b:Hid (oL s t k g.writes o=true->s.rS t k g.writes=true):=λv=>by
    unfold ag.rS;rw[List.any_eq_true];exact⟨_,HM.2,v⟩
   cases O with
   |false=>
    have i:Hid _:=a.out (by rw[H.out];rfl);clear a b;go_wp2;exact i.out _<|(lT w2).alloc _
   |true=>
    have q0:=ae r.out 0;have q1:=ae r.out 1;simp at q0 q1;have z1:w.heap.size<w2.heap.size:=bL;have z2:¬w.heap.size=w2.heap.size:=bL;have z3:¬w.heap.size=w2.heap.size+1:=bL;by_cases U:o=t
    .have i:Hid _:=a.out (by rw[H.out];simp[U]);have hb:((o:Int) != (t:Int))=false:=by simp[U]
     clear a b U;go_wp2;exact i.out _<|(lT w2).alloc _
    .have hb:((o:Int) != (t:Int))=true:=cE;by_cases c:G.way=0
     .have cG:((G.way:Int) != 0)=false:=by simp[c]
      have d:G.writes=false:=by simp[aK.writes,c]
      by_cases z:g.way=0
      .have cZ:((g.way:Int) != 0)=false:=by simp[z]
       have A:g.writes=false:=by simp[aK.writes,z]
       have i:Hid _:=a.out (by rw[H.out,d,A];simp);clear a b U c z d A;go_wp2;exact i.out _<|(((lT w2).alloc _).alloc _).alloc _
      .have cZ:((g.way:Int) != 0)=true:=by simp[z]
       have A:g.writes=true:=by simp[aK.writes,z]
       have q:Hid _:=b.out (by rw[H.out,d,A];simp[U]);clear a b U c z d A;go_wp2;go_ret;exact⟨by rw[q.out];rfl,M.out.trans<|(((lT w2).alloc _).alloc _).alloc _⟩
     .have cG:((G.way:Int) != 0)=true:=by simp[c]
      have d:G.writes=true:=by simp[aK.writes,c]
      have q:Hid _:=b.out (by rw[H.out,d];simp[U]);clear a b U c d;go_wp2;go_ret;exact⟨by rw[q.out];rfl,M.out.trans<|((lT w2).alloc _).alloc _⟩
theorem a_.mono{s:ag}(h:a_ w p lg V T H n s)(hn:n<=m):a_ w p lg V T H m s :=
 { h with aM:=h.aM.mono hn,ai:=h.ai.mono hn,holds:=h.holds.mono hn }
theorem a_.eY{s:ag}(h:a_ w p lg V T H n s):p<w.heap.size/\V<w.heap.size/\T<w.heap.size/\H<w.heap.size/\p≠V/\p≠T/\p≠H:=by
 refine⟨(zza.1 h.blk).1,h.aM.lt,h.ai.lt,h.holds.lt,?_,?_,?_⟩
 .rintro rfl;obtain⟨a,c,e⟩:=h.aM.isMap;rw[h.blk] at e;cases e
 .rintro rfl;obtain⟨a,c,e⟩:=h.ai.isMap;rw[h.blk] at e;cases e
 .rintro rfl;obtain⟨a,c,e⟩:=h.holds.isMap;rw[h.blk] at e;cases e
theorem a_.tX{s:ag}{hs:List ((Nat × ByteArray) × aK)}(h:a_ w p lg V T H n s)(hf:Fr [H] w w')(a:aO KH EG w' H m hs)(hn:n<=m):a_ w' p lg V T H m { s with holds:=hs } :=
 {blk:=(hf.block p h.eY.1 (by simp;exact h.eY.2.2.2.2.2.2)).trans h.blk
  aM:=(h.aM.fr hf (by simp;exact h.ne.2.1)).mono hn
  ai:=(h.ai.fr hf (by simp;exact h.ne.2.2)).mono hn
  holds:=a
  ne:=h.ne
  aC:=h.aC }
def ag.take(s:ag)(t:Nat)(k:ByteArray)(g:aK):ag:=if (g.writes||!(s.ke t k).writes)=true then { s with holds:=aV s.holds (t,k) g } else s
end Go.Proofs.YtcalalndmcemiaaGreatDoor
