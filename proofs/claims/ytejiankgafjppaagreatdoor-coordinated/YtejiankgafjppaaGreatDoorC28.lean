import Derived.Test.YtejiankgafjppaaGreatDoorC27
import Derived.Test.YtejiankgafjppaaGreatDoorC23
namespace Go.Proofs.YtejiankgafjppaaGreatDoor
open Go.RowKit Go.Shelf Go.Maps
open Sc
set_option maxRecDepth 100000 in
set_option maxHeartbeats 4000000 in
theorem done_nz (B cp lg bT n t:Nat) (k:Int) (c:ACo) (w:World) (h:CoIn w B cp lg bT n c) (ht:t<18446744073709551616) (hst:(c.tx t).state=6) (hpt:partAt (c.tx t) k≠2) :
  Calls Tryz.prog 168 #[.pointer (some ⟨cp,0,none⟩),.int .u64 (t:Int),.int .i64 k] w fun e w'=>e=.returned .nilIface∧Fr [] w w':=by
 have hok:=h.okT t
 have hla:=h.lookT ht
 obtain ⟨rv,ov,g1,_⟩:=h.ex
 have c1:=blk_cell g1 1
 simp at c1
 obtain ⟨T,hT⟩:∃ T,T=c.tx t:=⟨_,rfl⟩
 rw [← hT] at hok hst hpt hla
 clear hT
 obtain ⟨P,hP⟩:∃ P,P=partAt T k:=⟨_,rfl⟩
 have hat0:=fun W=>at_z T hok k W
 rw [← hP] at hpt hat0
 clear hP
 have i1:¬ (P:Int)=2:=by omega
 have j1:((P:Int) == 2)=false:=beq_eq_false_iff_ne.2 i1
 obtain ⟨s,ps,z⟩:=T
 obtain ⟨p0,p1,p2,p3,p4,p5,p6,p7,p8,hps⟩:=nine hok.1
 change ps=_ at hps
 subst hps
 change s=6 at hst
 subst hst
 rw [txV_lit] at hla
 simp only [txV_lit] at hat0
 obtain ⟨W0,hW0⟩:∃ W0,W0=w.alloc (.cells #[.int .i64 6,.int .u8 (p0:Int),.int .u8 (p1:Int),.int .u8 (p2:Int),.int .u8 (p3:Int),.int .u8 (p4:Int),.int .u8 (p5:Int),.int .u8 (p6:Int),.int .u8 (p7:Int),.int .u8 (p8:Int),.int .u64 (z:Int),.nilIface] 297):=⟨_,rfl⟩
 have hf0:Fr [] w W0:=by rw [hW0];exact (Fr.refl [] w).alloc _
 have hat:=hat0 W0
 have H0:=toHid hf0
 clear h g1 hat0 hf0
 go_enter Tryz.func168,Tryz.ntmps168
 go_wp2_with fail
 rw [← hW0]
 clear hW0
 refine hat.mono ?_
 clear hat
 rintro e w2 ⟨rfl,hf2⟩
 have H2:=toHid (H0.out.trans hf2)
 clear hf2
 go_wp2
 go_ret
 exact ⟨rfl,H2.out⟩
set_option maxRecDepth 100000 in
set_option maxHeartbeats 4000000 in
theorem done_st (B cp lg bT n t:Nat) (k:Int) (c:ACo) (w:World) (h:CoIn w B cp lg bT n c) (ht:t<18446744073709551616) (hst:(c.tx t).state≠6) :
  Calls Tryz.prog 168 #[.pointer (some ⟨cp,0,none⟩),.int .u64 (t:Int),.int .i64 k] w fun e w'=>e=.returned .nilIface∧Fr [] w w':=by
 have hok:=h.okT t
 have hla:=h.lookT ht
 obtain ⟨rv,ov,g1,_⟩:=h.ex
 have c1:=blk_cell g1 1
 simp at c1
 obtain ⟨T,hT⟩:∃ T,T=c.tx t:=⟨_,rfl⟩
 rw [← hT] at hok hst hla
 clear hT
 obtain ⟨s,ps,z⟩:=T
 obtain ⟨p0,p1,p2,p3,p4,p5,p6,p7,p8,hps⟩:=nine hok.1
 change ps=_ at hps
 subst hps
 change s≠6 at hst
 have i1:¬ (s:Int)=6:=by omega
 have j1:((s:Int) == 6)=false:=beq_eq_false_iff_ne.2 i1
 rw [txV_lit] at hla
 clear h g1
 go_enter Tryz.func168,Tryz.ntmps168
 go_wp2
 go_ret
 exact ⟨rfl,(Fr.refl [] w).alloc _⟩
set_option maxRecDepth 100000 in
set_option maxHeartbeats 4000000 in
theorem results_any (B cp lg bT n:Nat) (c:ACo) (w:World) (h:CoIn w B cp lg bT n c) :
  Calls Tryz.prog 218 #[.pointer (some ⟨cp,0,none⟩)] w fun e w'=>∃ v,e=.returned v∧w'.ownsRow B 216 2 v c.res.length (resV c.res)∧(c.res.length=0→v=.slice none 0 0)∧(∀ g,v.ownBlock=some g→g∈rd cp w)∧CoIn w' B cp lg bT n { c with res:=[] }∧(∀ g,v.ownBlock=some g→g∉rd cp w')∧Fr [cp] w w'∧RFr cp [cp] w w':=by
 obtain ⟨rv,ov,h1,h2,h3,h4,h5⟩:=h.ex
 have c5:=blk_cell h1 5
 have f5:=blk_free h1 5
 simp at c5
 have hcl:=h.lts
 obtain ⟨W,hW⟩:∃ W,W=w.setCell ⟨cp,5,none⟩ (.slice none 0 0):=⟨_,rfl⟩
 have hf:Fr [cp] w W:=by rw [hW];exact Fr.set1 (by simp) _ _
 have hb:W.heap[cp]?=some (coO lg bT c (.slice none 0 0) ov):=by
  rw [hW]
  have:=blk_set h1 5 (.slice none 0 0)
  simpa using this
 have n2:∀ g,rv.ownBlock=some g→g∉[cp]:=fun g hg hm=>by simp at hm;subst hm;exact own_ne h2 h1 (by decide) hg
 have n3:∀ g,ov.ownBlock=some g→g∉[cp]:=fun g hg hm=>by simp at hm;subst hm;exact own_ne h3 h1 (by decide) hg
 have k2:=ownsRow_fr h2 hf n2
 have k3:=ownsRow_fr h3 hf n3
 have hin:CoIn W B cp lg bT n { c with res:=[] }:=⟨⟨Value.slice none 0 0,ov,hb,World.ownsRow_nil _ _ _ _,k3,Brd.nil _,h5⟩,h.txns.fr hf (by simpa using fun e=>hcl.2.2 e.symm),⟨h.low.1,h.low.2.1,Nat.le_trans h.low.2.2 hf.size⟩,h.nums⟩
 have hr0:rd cp w=rv.ownBlock.toList++ov.ownBlock.toList:=by unfold rd rdO;rw [h1];rfl
 have hr1:rd cp W=ov.ownBlock.toList:=by unfold rd rdO;rw [hb];rfl
 have hne:∀ g,rv.ownBlock=some g→g∉rd cp W:=fun g hg hm=>by
  rw [hr1] at hm
  simp at hm
  obtain ⟨a1,e1⟩:=own_cells h2 hg
  obtain ⟨a2,e2⟩:=own_cells h3 hm
  rw [e1] at e2;cases e2
 have HN:=toHid (show W.ownsRow B 216 2 rv c.res.length (resV c.res)∧(c.res.length=0→rv=.slice none 0 0)∧(∀ g,rv.ownBlock=some g→g∈rd cp w)∧CoIn W B cp lg bT n { c with res:=[] }∧(∀ g,rv.ownBlock=some g→g∉rd cp W)∧Fr [cp] w W∧RFr cp [cp] w W from ⟨k2,h4.2,fun g hg=>by rw [hr0];simp [hg],hin,hne,hf,⟨hf.mono (fun k _ hk=>List.mem_append_left _ hk),fun k _ hk=>by rw [hr1] at hk;rw [hr0];simp at hk ⊢;simp [hk]⟩⟩)
 obtain ⟨av,mv,cv,hsl⟩:=own_sl h2
 rw [hsl] at c5 HN
 clear h h1 h2 h3 h4 h5 hf hb n2 n3 k2 k3 hin hr0 hr1 hne
 go_enter Tryz.func218,Tryz.ntmps218
 go_wp2
 rw [← hW]
 go_ret
 exact ⟨_,rfl,HN.out⟩
set_option maxRecDepth 100000 in
set_option maxHeartbeats 4000000 in
theorem out_any (B cp lg bT n:Nat) (c:ACo) (w:World) (h:CoIn w B cp lg bT n c) :
  Calls Tryz.prog 219 #[.pointer (some ⟨cp,0,none⟩)] w fun e w'=>∃ v,e=.returned v∧w'.ownsRow B 212 3 v c.out.length (dueV c.out)∧(c.out.length=0→v=.slice none 0 0)∧(∀ g,v.ownBlock=some g→g∈rd cp w)∧CoIn w' B cp lg bT n { c with out:=[] }∧(∀ g,v.ownBlock=some g→g∉rd cp w')∧Fr [cp] w w'∧RFr cp [cp] w w':=by
 obtain ⟨rv,ov,h1,h2,h3,h4,h5⟩:=h.ex
 have c5:=blk_cell h1 6
 have f5:=blk_free h1 6
 simp at c5
 have hcl:=h.lts
 obtain ⟨W,hW⟩:∃ W,W=w.setCell ⟨cp,6,none⟩ (.slice none 0 0):=⟨_,rfl⟩
 have hf:Fr [cp] w W:=by rw [hW];exact Fr.set1 (by simp) _ _
 have hb:W.heap[cp]?=some (coO lg bT c rv (.slice none 0 0)):=by
  rw [hW]
  have:=blk_set h1 6 (.slice none 0 0)
  simpa using this
 have n2:∀ g,rv.ownBlock=some g→g∉[cp]:=fun g hg hm=>by simp at hm;subst hm;exact own_ne h2 h1 (by decide) hg
 have n3:∀ g,ov.ownBlock=some g→g∉[cp]:=fun g hg hm=>by simp at hm;subst hm;exact own_ne h3 h1 (by decide) hg
 have k2:=ownsRow_fr h2 hf n2
 have k3:=ownsRow_fr h3 hf n3
 have hin:CoIn W B cp lg bT n { c with out:=[] }:=⟨⟨rv,Value.slice none 0 0,hb,k2,World.ownsRow_nil _ _ _ _,h4,Brd.nil _⟩,h.txns.fr hf (by simpa using fun e=>hcl.2.2 e.symm),⟨h.low.1,h.low.2.1,Nat.le_trans h.low.2.2 hf.size⟩,h.nums⟩
 have hr0:rd cp w=rv.ownBlock.toList++ov.ownBlock.toList:=by unfold rd rdO;rw [h1];rfl
 have hr1:rd cp W=rv.ownBlock.toList:=by unfold rd rdO;rw [hb];exact List.append_nil _
 have hne:∀ g,ov.ownBlock=some g→g∉rd cp W:=fun g hg hm=>by
  rw [hr1] at hm
  simp at hm
  obtain ⟨a1,e1⟩:=own_cells h2 hm
  obtain ⟨a2,e2⟩:=own_cells h3 hg
  rw [e1] at e2;cases e2
 have HN:=toHid (show W.ownsRow B 212 3 ov c.out.length (dueV c.out)∧(c.out.length=0→ov=.slice none 0 0)∧(∀ g,ov.ownBlock=some g→g∈rd cp w)∧CoIn W B cp lg bT n { c with out:=[] }∧(∀ g,ov.ownBlock=some g→g∉rd cp W)∧Fr [cp] w W∧RFr cp [cp] w W from ⟨k3,h5.2,fun g hg=>by rw [hr0];simp [hg],hin,hne,hf,⟨hf.mono (fun k _ hk=>List.mem_append_left _ hk),fun k _ hk=>by rw [hr1] at hk;rw [hr0];simp at hk ⊢;simp [hk]⟩⟩)
 obtain ⟨av,mv,cv,hsl⟩:=own_sl h3
 rw [hsl] at c5 HN
 clear h h1 h2 h3 h4 h5 hf hb n2 n3 k2 k3 hin hr0 hr1 hne
 go_enter Tryz.func219,Tryz.ntmps219
 go_wp2
 rw [← hW]
 go_ret
 exact ⟨_,rfl,HN.out⟩
end Go.Proofs.YtejiankgafjppaaGreatDoor
namespace Go.Proofs.YtejiankgafjppaaGreatDoor
open Go.RowKit Go.Maps
open Sc
def kb (rp:Nat) (xv rv ov:Value) (ps:List (RDeal × Value)):List Nat:=rp :: (xv.ownBlock.toList++(rv.ownBlock.toList++(ov.ownBlock.toList++ps.flatMap fun p=>p.2.ownBlock.toList)))
theorem mem_kb {rp:Nat} {xv rv ov:Value} {ps:List (RDeal × Value)} {k:Nat}:k∈kb rp xv rv ov ps↔k=rp∨xv.ownBlock=some k∨rv.ownBlock=some k∨ov.ownBlock=some k∨∃ p∈ps,p.2.ownBlock=some k:=by
 unfold kb
 simp
structure KFr (S S':List Nat) (w w':World):Prop where
 fr:Fr S w w'
 stay:∀ k∈S',k<w.heap.size→k∈S
theorem KFr.trans {S T U:List Nat} {a b c:World} (h:KFr S T a b) (k:KFr T U b c):KFr S U a c :=
 ⟨h.fr.andThen k.fr (fun j hj hl=>h.stay j hj hl),fun j hj hl=>h.stay j (k.stay j hj (Nat.lt_of_lt_of_le hl h.fr.size)) hl⟩
theorem KFr.of {S:List Nat} {w w':World} (h:Fr [] w w'):KFr S S w w':=⟨h.mono (by simp),fun _ h _=>h⟩
def RkN [Inhabited Bs] (w:World) (rp:Nat) (S:List Nat) (R:RCo):Prop:=∃ xv rv ov ps,RkIn w rp xv rv ov ps R∧S=kb rp xv rv ov ps
theorem Tryz.infoDeal:(Tryz.prog.info? 144).map (fun i=>(i.zero,i.size,i.bytes))=some (some (.agg #[.int .u64 0,.int .i64 0,.int .i64 0,.slice none 0 0,.bool false]),5,56):=by kernel_rfl
theorem Tryz.infoPart:(Tryz.prog.info? 204).map (fun i=>(i.zero,i.size,i.bytes))=some (some (.agg #[.int .i64 0,.int .i64 0,.bool false]),3,24):=by kernel_rfl
theorem dealsV_len (ps:List (RDeal × Value)):(dealsV ps).length=ps.length*5:=flat_len (f:=dealC) (k:=5) (fun _=>rfl) ps
theorem dealsV_app (a b:List (RDeal × Value)):dealsV (a++b)=dealsV a++dealsV b:=by simp [dealsV]
theorem prtsV_len (ps:List RPart):(prtsV ps).length=ps.length*3:=flat_len (f:=partC) (k:=3) (fun _=>rfl) ps
theorem prtsV_app (a b:List RPart):prtsV (a++b)=prtsV a++prtsV b:=by simp [prtsV]
theorem deals_one {ps:List (RDeal × Value)} (h:∀ p∈ps,p.2.oneCell'=true):∀ u∈dealsV ps,u.oneCell'=true:=by
 intro u hu
 unfold dealsV at hu
 obtain ⟨p,hp,hq⟩:=List.mem_flatMap.1 hu
 simp at hq
 rcases hq with rfl | rfl | rfl | rfl | rfl
 ·rfl
 ·rfl
 ·rfl
 ·exact h p hp
 ·rfl
theorem prts_one (ps:List RPart):∀ u∈prtsV ps,u.oneCell'=true:=by
 intro u hu
 unfold prtsV at hu
 obtain ⟨p,hp,hq⟩:=List.mem_flatMap.1 hu
 simp at hq
 rcases hq with rfl | rfl | rfl <;> rfl
theorem RkIn.one [Inhabited Bs] {w:World} {rp:Nat} {xv rv ov:Value} {ps:List (RDeal × Value)} {R:RCo} (h:RkIn w rp xv rv ov ps R):∀ p∈ps,p.2.oneCell'=true:=fun p hp=>row_one (h.prt p hp)
theorem RkIn.setDeals [Inhabited Bs] {w w2:World} {rp:Nat} {xv rv ov v2:Value} {ps ps':List (RDeal × Value)} {R:RCo} {xs:List RDeal} (h:RkIn w rp xv rv ov ps R) (hf:Fr [] w w2) (ho:w2.ownsRow B0 144 5 v2 ps'.length (dealsV ps'))
  (hl:∀ p∈ps',w2.ownsRow B0 204 3 p.2 p.1.parts.length (prtsV p.1.parts)) (ha:ps'.Pairwise fun p q=>p.2.ownBlock=none∨p.2.ownBlock≠q.2.ownBlock) (hr:ps'.map (·.1)=xs):RkIn (w2.setCell ⟨rp,0,none⟩ v2) rp v2 rv ov ps' { R with deals:=xs }:=by
 have h2:=h.fr hf
 refine { base:=h.base,blk:=?_,dls:=ownsRow_set ho h2.blk (by decide),prt:=fun p hp=>ownsRow_set (hl p hp) h2.blk (by decide),apart:=ha,res:=ownsRow_set h2.res h2.blk (by decide),out:=ownsRow_set h2.out h2.blk (by decide),rs:=hr }
 have:=blk_set h2.blk 0 v2
 simpa using this
theorem ktake_look {ps:List (RDeal × Value)} {i j:Nat} {u:Value} (hu:(dealsV (ps.take i))[j]?=some u):(dealsV ps)[j]?=some u:=by
 have e:dealsV ps=dealsV (ps.take i)++dealsV (ps.drop i):=by rw [← dealsV_app,List.take_append_drop]
 rw [e,List.getElem?_append_left (List.getElem?_eq_some_iff.1 hu).1]
 exact hu
theorem kdrop_look {ps:List (RDeal × Value)} {i j:Nat} {u:Value} (hi:i≤ps.length) (hu:(dealsV (ps.drop i))[j]?=some u):(dealsV ps)[i*5+j]?=some u:=by
 have e:dealsV ps=dealsV (ps.take i)++dealsV (ps.drop i):=by rw [← dealsV_app,List.take_append_drop]
 have hl:(dealsV (ps.take i)).length=i*5:=by rw [dealsV_len,List.length_take,Nat.min_eq_left hi]
 rw [e,List.getElem?_append_right (by omega),hl,Nat.add_sub_cancel_left]
 exact hu
set_option maxRecDepth 100000 in
set_option maxHeartbeats 4000000 in
theorem kdrop_any [Inhabited Bs] (rp i:Nat) (xv rv ov:Value) (ps:List (RDeal × Value)) (R:RCo) (w:World) (h:RkIn w rp xv rv ov ps R) (hi:i<ps.length) (hn:ps.length≤1048576) :
  Calls Tryz.prog 167 #[.pointer (some ⟨rp,0,none⟩),.int .i64 (i:Int)] w fun e w'=>e=.returned (.tuple #[])∧(∃ xv',RkIn w' rp xv' rv ov (ps.take i++ps.drop (i+1)) { R with deals:=R.deals.take i++R.deals.drop (i+1) }∧NewV w xv')∧Fr [rp] w w':=by
 obtain ⟨i0,hin,hz0,hz1,hz2⟩:=info_parts Tryz.infoDeal
 have c1:=blk_cell h.blk 0
 have f1:=blk_free h.blk 0
 simp at c1 f1
 rcases h.dls.2 with ⟨e0,h0⟩ | ⟨g,cap,cur,e0,_,hg,hcap,hmax,_⟩
 ·omega
 rw [e0] at c1
 have HI:Hid (RkIn w rp xv rv ov ps R):=h
 have hB0:=h.low
 have hrow:=h.dls
 rw [e0] at hrow
 have hone:=h.one
 obtain ⟨n,hnn⟩:∃ n,n=ps.length:=⟨_,rfl⟩
 rw [← hnn] at hn c1 hcap hi hrow
 have HN:Hid (ps.length=n):=hnn.symm
 have hrpl:rp<w.heap.size:=(Array.getElem?_eq_some_iff.1 h.blk).1
 clear hnn h e0
 have j0:(0:Int)≤(i:Int):=by omega
 have j1:(i:Int)≤(cap:Int):=by omega
 have j2:(0:Int)≤(i:Int)+1:=by omega
 have j3:(i:Int)+1≤(n:Int):=by omega
 go_enter Tryz.func167,Tryz.ntmps167
 go_wp2_with (at_builtin;first
  | (refine wpList_app rfl _ _ 137 rfl B0 144 i0 _ 5 56 Tryz.underlying137 hin hz0 hz1 hz2 rfl (by decide) (.slice none 0 0) 0 [] rfl (World.ownsRow_nil _ _ _ _) i (dealsV (ps.take i)) (src_piece hrow 0 i cap _ (fun j u hu=>by rw [Nat.zero_add];exact ktake_look hu)) (by rw [dealsV_len,List.length_take,HN.out];congr 1;omega) (deals_one fun p hp=>hone p (List.mem_of_mem_take hp)) (by unfold maxLen;omega) (by omega) hB0 ?_;intro l w1 ho1 hg1 ha1;have hB1:B0≤w1.heap.size:=Nat.le_trans hB0 hg1.size;have d1:=hg1.cell c1 (by simp [Value.ownBlock]))
  | (refine wpList_app rfl _ _ 137 rfl B0 144 i0 _ 5 56 Tryz.underlying137 hin hz0 hz1 hz2 rfl (by decide) l _ _ rfl ho1 (n - (i+1)) (dealsV (ps.drop (i+1))) ?_ ?_ ?_ ?_ ?_ ?_ ?_))
 all_goals first
  | exact src_piece (ownsRow_fr hrow (Fr.of_own (S:=[]) hg1 (by simp [Value.ownBlock])) (by simp)) ((i+1)*5) _ _ _ (fun j u hu=>kdrop_look (by rw [HN.out];omega) hu)
  | exact src_zero _ _ _ (by omega) (by rw [List.drop_eq_nil_of_le (by rw [HN.out];omega)];rfl)
  | exact deals_one fun p hp=>hone p (List.mem_of_mem_drop hp)
  | (rw [dealsV_len,List.length_drop,HN.out];done)
  | (unfold maxLen;omega;done)
  | (omega;done)
  | skip
 all_goals
  intro v2 w2 ho2 hg2 ha2
  obtain ⟨o2,c2,rfl⟩:=own_slice ho2
  have hne:some rp≠l.ownBlock:=by rcases ha1 with e | e <;> rw [e] <;> simp [Value.ownBlock];omega
  have d2:=hg2.cell d1 hne
  have hb2:w2.heap[rp]?=some (rcoO xv rv ov R.next):=(hg2.block rp (Nat.lt_of_lt_of_le hrpl hg1.size) hne).trans ((hg1.block rp hrpl (by simp [Value.ownBlock])).trans HI.out.blk)
  have f2:=blk_free hb2 0
  have hf2:Fr [] w w2:=Fr.new_grown (Fr.of_own (S:=[]) hg1 (by simp [Value.ownBlock])) (NewV.next (NewV.nil w) (Nat.le_refl _) ha1) hg2
  have H2:=toHid (show NewV w (.slice o2 (i+(n - (i+1))) c2)∧Fr [] w w2∧w2.heap[rp]?=some (rcoO xv rv ov R.next)∧w2.ownsRow B0 144 5 (.slice o2 (i+(n - (i+1))) c2) (i+(n - (i+1))) (dealsV (ps.take i)++dealsV (ps.drop (i+1))) from ⟨NewV.next (NewV.next (NewV.nil w) (Nat.le_refl _) ha1) hg1.size ha2,hf2,hb2,ho2⟩)
  clear hf2 hb2 ho2 hg2 ha2 hg1 ha1 ho1 d1 c1 f1 hrow hg
  go_wp2
  go_end0
  have hl2:i+(n - (i+1))=(ps.take i++ps.drop (i+1)).length:=by rw [List.length_append,List.length_take,List.length_drop,HN.out];omega
  refine ⟨rfl,⟨_,HI.out.setDeals H2.out.2.1 (by rw [dealsV_app,← hl2];exact H2.out.2.2.2) (fun p hp=>ownsRow_fr (HI.out.prt p ?_) H2.out.2.1 (by simp)) ?_ ?_,H2.out.1⟩,(H2.out.2.1.mono (by simp)).trans (Fr.set1 (by simp) _ _)⟩
  ·rcases List.mem_append.1 hp with hp | hp
   ·exact List.mem_of_mem_take hp
   ·exact List.mem_of_mem_drop hp
  ·exact HI.out.apart.sublist (take_drop_sub ps i)
  ·rw [List.map_append,List.map_take,List.map_drop,HI.out.rs]
section
variable [Inhabited Bs] {w w':World} {rp:Nat} {xv rv ov:Value} {ps:List (RDeal × Value)} {R:RCo}
theorem RkIn.ne (h:RkIn w rp xv rv ov ps R):xv.ownBlock≠some rp∧rv.ownBlock≠some rp∧ov.ownBlock≠some rp∧∀ p∈ps,p.2.ownBlock≠some rp :=
 ⟨own_ne h.dls h.blk (by decide),own_ne h.res h.blk (by decide),own_ne h.out h.blk (by decide),fun p hp=>own_ne (h.prt p hp) h.blk (by decide)⟩
omit [Inhabited Bs] in
theorem own_apart {w:World} {B B' k k' n n':Nat} {e e':TypeId} {v v':Value} {xs xs':List Value} (h:w.ownsRow B e k v n xs) (h':w.ownsRow B' e' k' v' n' xs') (hne:e≠e') {g:Nat} (hg:v.ownBlock=some g):v'.ownBlock≠some g:=fun hg'=>by
 obtain ⟨c,h1⟩:=own_cells h hg
 obtain ⟨c',h2⟩:=own_cells h' hg'
 rw [h1] at h2
 cases h2
 exact hne rfl
end
set_option maxRecDepth 100000 in
set_option maxHeartbeats 4000000 in
theorem kbegin_many [Inhabited Bs] (rp:Nat) (S:List Nat) (R:RCo) (w:World) (h:RkN w rp S R) (hl:R.deals.length=12) :
  Calls Tryz.prog 162 #[.pointer (some ⟨rp,0,none⟩)] w fun e w'=>e=.returned (.tuple #[.int .u64 0,.int .i64 5])∧∃ q,w'=w.drewN q:=by
 obtain ⟨xv,rv,ov,ps,h,_⟩:=h
 have c0:=blk_cell h.blk 0
 simp at c0
 obtain ⟨ao,c,rfl,_⟩:=h.slice
 rw [h.len,hl] at c0
 clear h
 go_enter Tryz.func162,Tryz.ntmps162
 go_wp2
 go_ret2
 exact ⟨rfl,0,rfl⟩
set_option maxRecDepth 100000 in
set_option maxHeartbeats 4000000 in
theorem kbegin_any [Inhabited Bs] (rp:Nat) (S:List Nat) (R:RCo) (w:World) (h:RkN w rp S R) (hl:R.deals.length<12) (hnx:R.next+1<18446744073709551616) :
  Calls Tryz.prog 162 #[.pointer (some ⟨rp,0,none⟩)] w fun e w'=>e=.returned (.tuple #[.int .u64 (R.next:Int),.int .i64 0])∧∃ S',RkN w' rp S' { R with deals:=R.deals++[⟨R.next,4,0,[]⟩],next:=R.next+1 }∧KFr S S' w w':=by
 obtain ⟨i0,hin,hz0,hz1,hz2⟩:=info_parts Tryz.infoDeal
 obtain ⟨xv,rv,ov,ps,h,rfl⟩:=h
 have c0:=blk_cell h.blk 0
 have c1:=blk_cell h.blk 1
 have f1:=blk_free h.blk 1
 simp at c0 c1
 have hps:=h.len
 have hrow:=h.dls
 obtain ⟨xo,xc,hxv⟩:=own_slice hrow
 rw [hxv] at c0
 have hll:¬ (ps.length:Int)=12:=by omega
 have hlb:((ps.length:Int) == 12)=false:=beq_eq_false_iff_ne.2 hll
 obtain ⟨M,hM⟩:∃ M,M=R.next+1:=⟨_,rfl⟩
 have iM:(R.next:Int)+1=(M:Int):=by omega
 have jM:IntKind.u64.wrap (M:Int)=(M:Int):=by rw [IntKind.wrap_u64];omega
 rw [← hM]
 have HM:=toHid hM
 obtain ⟨W1,hW1⟩:∃ W1,W1=w.setCell ⟨rp,1,none⟩ (.int .u64 (M:Int)):=⟨_,rfl⟩
 have hf1:Fr [rp] w W1:=by rw [hW1];exact Fr.set1 (by simp) _ _
 have hb1:W1.heap[rp]?=some (rcoO xv rv ov M):=by
  rw [hW1]
  have:=blk_set h.blk 1 (.int .u64 (M:Int))
  simpa [rcoO] using this
 have hne:=h.ne
 have nor:∀ {v:Value},v.ownBlock≠some rp→∀ g,v.ownBlock=some g→g∉[rp]:=fun hv g hg hm=>by simp at hm;subst hm;exact hv hg
 have hk1:RkIn W1 rp xv rv ov ps { R with next:=M }:=⟨h.base,hb1,ownsRow_fr h.dls hf1 (nor hne.1),fun p hp=>ownsRow_fr (h.prt p hp) hf1 (nor (hne.2.2.2 p hp)),h.apart,ownsRow_fr h.res hf1 (nor hne.2.1),ownsRow_fr h.out hf1 (nor hne.2.2.1),h.rs⟩
 have hrow1:=hk1.dls
 rw [hxv] at hrow1
 have d0:=blk_cell hb1 0
 simp at d0
 rw [hxv] at d0
 have hlow:=hk1.low
 have H1:=toHid (show RkIn W1 rp xv rv ov ps { R with next:=M }∧Fr [rp] w W1 from ⟨hk1,hf1⟩)
 obtain ⟨n,hnn⟩:∃ n,n=ps.length:=⟨_,rfl⟩
 have HXV:=toHid (show xv=.slice xo n xc from by rw [hnn];exact hxv)
 have HN:=toHid hnn
 rw [← hnn] at c0 d0 hll hlb hps hrow1
 have hrl:rp<W1.heap.size:=(Array.getElem?_eq_some_iff.1 hb1).1
 have hn12:n<12:=by omega
 have HRL:=toHid hrl
 have HLOW:=toHid hlow
 clear hps hl hrl hlow hnx
 clear hM h hk1 hf1 hb1 hne nor hrow hnn
 rw [hW1] at d0 hrow1
 have HW1:=toHid hW1
 clear hW1
 go_enter Tryz.func162,Tryz.ntmps162
 go_wp2_with (at_builtin;refine wpList_app rfl _ _ 137 rfl B0 144 i0 _ 5 56 Tryz.underlying137 hin hz0 hz1 hz2 rfl (by decide) (.slice xo n xc) n (dealsV ps) rfl (hrow1.alloc _) 1 (dealC (⟨R.next,4,0,[]⟩,.slice none 0 0)) (.inl ⟨⟨w.heap.size,0,none⟩,1,rfl,fun j u hu=>by have h9:=cells_new (w.setCell ⟨rp,1,none⟩ (.int .u64 (M:Int))) #[.int .u64 (R.next:Int),.int .i64 4,.int .i64 0,.slice none 0 0,.bool false] 144 j u hu;rw [show (w.setCell ⟨rp,1,none⟩ (.int .u64 (M:Int))).heap.size=w.heap.size from by simp] at h9;exact h9⟩) rfl (by intro u hu;simp at hu;rcases hu with rfl | rfl | rfl | rfl | rfl <;> rfl) (by unfold maxLen;omega) (by omega) (by have:=HLOW.out;rw [HW1.out] at this;simp at this ⊢;omega) ?_)
 intro v2 w2 ho2 hg2 ha2
 rw [← HW1.out] at hg2
 obtain ⟨o2,c2,rfl⟩:=own_slice ho2
 have hfa:Fr [] W1 (W1.alloc (.cells #[.int .u64 (R.next:Int),.int .i64 4,.int .i64 0,.slice none 0 0,.bool false] 144)):=(Fr.refl [] W1).alloc _
 have hneX:=H1.out.1.ne
 have hfr2:Fr xv.ownBlock.toList W1 w2:=(hfa.mono (by simp)).trans (Fr.of_grown (by rw [HXV.out];exact hg2))
 have hb2:w2.heap[rp]?=some (rcoO xv rv ov M):=(hfr2.block rp HRL.out (by simp;exact hneX.1)).trans H1.out.1.blk
 have d0':=blk_cell hb2 0
 have f0':=blk_free hb2 0
 simp at d0'
 rw [HXV.out] at d0'
 have HN2:=toHid (show ∃ S',RkN (w2.setCell ⟨rp,0,none⟩ (.slice o2 (n+1) c2)) rp S' { R with deals:=R.deals++[⟨R.next,4,0,[]⟩],next:=M }∧KFr (kb rp xv rv ov ps) S' w (w2.setCell ⟨rp,0,none⟩ (.slice o2 (n+1) c2)) from by
  have apt:∀ {B' k' n':Nat} {e':TypeId} {v':Value} {xs':List Value},W1.ownsRow B' e' k' v' n' xs'→144≠e'→w2.ownsRow B' e' k' v' n' xs':=fun h' hne=>ownsRow_fr h' hfr2 (fun g hg hm=>by
   simp at hm
   exact own_apart H1.out.1.dls h' hne hm hg)
  have hin2:RkIn (w2.setCell ⟨rp,0,none⟩ (.slice o2 (n+1) c2)) rp (.slice o2 (n+1) c2) rv ov (ps++[(⟨R.next,4,0,[]⟩,.slice none 0 0)]) { R with deals:=R.deals++[⟨R.next,4,0,[]⟩],next:=M }:=by
   refine { base:=H1.out.1.base,blk:=?_,dls:=ownsRow_set (by rw [dealsV_app,List.length_append,← HN.out];exact ho2) hb2 (by decide),prt:=fun p hp=>?_,apart:=?_,res:=ownsRow_set (apt H1.out.1.res (by decide)) hb2 (by decide),out:=ownsRow_set (apt H1.out.1.out (by decide)) hb2 (by decide),rs:=by rw [List.map_append,H1.out.1.rs];rfl }
   ·have:=blk_set hb2 0 (.slice o2 (n+1) c2)
    simpa using this
   ·rcases List.mem_append.1 hp with hp | hp
    ·exact ownsRow_set (apt (H1.out.1.prt p hp) (by decide)) hb2 (by decide)
    ·simp at hp
     subst hp
     exact World.ownsRow_nil _ _ _ _
   ·refine List.pairwise_append.2 ⟨H1.out.1.apart,by simp,fun p hp q hq=>?_⟩
    simp at hq
    subst hq
    cases hb:p.2.ownBlock with
    | none=>exact .inl rfl
    | some g=>exact .inr (by simp [Value.ownBlock])
  refine ⟨_,⟨_,_,_,_,hin2,rfl⟩,⟨?_,fun k hk hl=>?_⟩⟩
  ·have hset:Fr [rp] w2 (w2.setCell ⟨rp,0,none⟩ (.slice o2 (n+1) c2)):=Fr.set1 (by simp) _ _
   have m1:∀ k,k=rp∨xv.ownBlock=some k→k∈kb rp xv rv ov ps:=fun k hk=>mem_kb.2 (hk.elim .inl (fun e=>.inr (.inl e)))
   exact ((H1.out.2.mono (fun k _ hk=>m1 k (.inl (by simpa using hk)))).trans (hfr2.mono (fun k _ hk=>m1 k (.inr (by simpa using hk))))).trans (hset.mono (fun k _ hk=>m1 k (.inl (by simpa using hk))))
  ·rw [mem_kb] at hk ⊢
   rcases hk with e | e | e | e | ⟨q,hq,e⟩
   ·exact .inl e
   ·rcases ha2 with e2 | e2
    ·exact .inr (.inl (by rw [HXV.out,← e2];exact e))
    ·rw [e2] at e
     cases e
     omega
   ·exact .inr (.inr (.inl e))
   ·exact .inr (.inr (.inr (.inl e)))
   ·rcases List.mem_append.1 hq with hq | hq
    ·exact .inr (.inr (.inr (.inr ⟨q,hq,e⟩)))
    ·simp at hq
     subst hq
     cases e)
 clear ho2 hg2 ha2 hfa hfr2 hb2 hneX
 go_wp2
 go_ret2
 exact ⟨rfl,HN2.out⟩
set_option maxRecDepth 100000 in
set_option maxHeartbeats 4000000 in
theorem kresults_any [Inhabited Bs] (rp:Nat) (S:List Nat) (R:RCo) (w:World) (h:RkN w rp S R) :
  Calls Tryz.prog 156 #[.pointer (some ⟨rp,0,none⟩)] w fun e w'=>∃ v S',e=.returned v∧w'.ownsRow B0 216 2 v R.res.length (resV R.res)∧RkN w' rp S' { R with res:=[] }∧(∀ g,v.ownBlock=some g→g∈S∧g∉S')∧Fr [rp] w w'∧KFr S S' w w':=by
 obtain ⟨xv,rv,ov,ps,h,rfl⟩:=h
 have c5:=blk_cell h.blk 2
 have f5:=blk_free h.blk 2
 simp at c5
 have hne:=h.ne
 obtain ⟨W,hW⟩:∃ W,W=w.setCell ⟨rp,2,none⟩ (.slice none 0 0):=⟨_,rfl⟩
 have hf:Fr [rp] w W:=by rw [hW];exact Fr.set1 (by simp) _ _
 have hb:W.heap[rp]?=some (rcoO xv (.slice none 0 0) ov R.next):=by
  rw [hW]
  have:=blk_set h.blk 2 (.slice none 0 0)
  simpa using this
 have nor:∀ {v:Value},v.ownBlock≠some rp→∀ g,v.ownBlock=some g→g∉[rp]:=fun hv g hg hm=>by simp at hm;subst hm;exact hv hg
 have k2:=ownsRow_fr h.res hf (nor hne.2.1)
 have k3:=ownsRow_fr h.out hf (nor hne.2.2.1)
 have hin:RkIn W rp xv (.slice none 0 0) ov ps { R with res:=[] }:={ base:=h.base,blk:=hb,dls:=ownsRow_fr h.dls hf (nor hne.1),prt:=fun p hp=>ownsRow_fr (h.prt p hp) hf (nor (hne.2.2.2 p hp)),apart:=h.apart,res:=World.ownsRow_nil _ _ _ _,out:=k3,rs:=h.rs }
 have HN:=toHid (show W.ownsRow B0 216 2 rv R.res.length (resV R.res)∧RkN W rp (kb rp xv (.slice none 0 0) ov ps) { R with res:=[] }∧(∀ g,rv.ownBlock=some g→g∈kb rp xv rv ov ps∧g∉kb rp xv (.slice none 0 0) ov ps)∧Fr [rp] w W∧KFr (kb rp xv rv ov ps) (kb rp xv (.slice none 0 0) ov ps) w W from by
  refine ⟨k2,⟨_,_,_,_,hin,rfl⟩,fun g hg=>⟨mem_kb.2 (.inr (.inr (.inl hg))),fun hm=>?_⟩,hf,⟨hf.mono (fun k _ hk=>mem_kb.2 (.inl (by simpa using hk))),fun k hk _=>?_⟩⟩
  ·rcases mem_kb.1 hm with e | e | e | e | ⟨q,hq,e⟩
   ·subst e;exact hne.2.1 hg
   ·exact own_apart h.res h.dls (by decide) hg e
   ·cases e
   ·exact own_apart h.res h.out (by decide) hg e
   ·exact own_apart h.res (h.prt q hq) (by decide) hg e
  ·rw [mem_kb] at hk ⊢
   rcases hk with e | e | e | e | e
   ·exact .inl e
   ·exact .inr (.inl e)
   ·cases e
   ·exact .inr (.inr (.inr (.inl e)))
   ·exact .inr (.inr (.inr (.inr e))))
 obtain ⟨av,mv,cv,hsl⟩:=own_sl h.res
 rw [hsl] at c5 HN ⊢
 clear h hf hb nor k2 k3 hin hne
 go_enter Tryz.func156,Tryz.ntmps156
 go_wp2
 rw [← hW]
 go_ret
 exact ⟨_,_,rfl,HN.out⟩
set_option maxRecDepth 100000 in
set_option maxHeartbeats 4000000 in
theorem kout_any [Inhabited Bs] (rp:Nat) (S:List Nat) (R:RCo) (w:World) (h:RkN w rp S R) :
  Calls Tryz.prog 158 #[.pointer (some ⟨rp,0,none⟩)] w fun e w'=>∃ v S',e=.returned v∧w'.ownsRow B0 212 3 v R.out.length (dueV R.out)∧RkN w' rp S' { R with out:=[] }∧(∀ g,v.ownBlock=some g→g∈S∧g∉S')∧Fr [rp] w w'∧KFr S S' w w':=by
 obtain ⟨xv,rv,ov,ps,h,rfl⟩:=h
 have c5:=blk_cell h.blk 3
 have f5:=blk_free h.blk 3
 simp at c5
 have hne:=h.ne
 obtain ⟨W,hW⟩:∃ W,W=w.setCell ⟨rp,3,none⟩ (.slice none 0 0):=⟨_,rfl⟩
 have hf:Fr [rp] w W:=by rw [hW];exact Fr.set1 (by simp) _ _
 have hb:W.heap[rp]?=some (rcoO xv rv (.slice none 0 0) R.next):=by
  rw [hW]
  have:=blk_set h.blk 3 (.slice none 0 0)
  simpa using this
 have nor:∀ {v:Value},v.ownBlock≠some rp→∀ g,v.ownBlock=some g→g∉[rp]:=fun hv g hg hm=>by simp at hm;subst hm;exact hv hg
 have k2:=ownsRow_fr h.res hf (nor hne.2.1)
 have k3:=ownsRow_fr h.out hf (nor hne.2.2.1)
 have hin:RkIn W rp xv rv (.slice none 0 0) ps { R with out:=[] }:={ base:=h.base,blk:=hb,dls:=ownsRow_fr h.dls hf (nor hne.1),prt:=fun p hp=>ownsRow_fr (h.prt p hp) hf (nor (hne.2.2.2 p hp)),apart:=h.apart,res:=k2,out:=World.ownsRow_nil _ _ _ _,rs:=h.rs }
 have HN:=toHid (show W.ownsRow B0 212 3 ov R.out.length (dueV R.out)∧RkN W rp (kb rp xv rv (.slice none 0 0) ps) { R with out:=[] }∧(∀ g,ov.ownBlock=some g→g∈kb rp xv rv ov ps∧g∉kb rp xv rv (.slice none 0 0) ps)∧Fr [rp] w W∧KFr (kb rp xv rv ov ps) (kb rp xv rv (.slice none 0 0) ps) w W from by
  refine ⟨k3,⟨_,_,_,_,hin,rfl⟩,fun g hg=>⟨mem_kb.2 (.inr (.inr (.inr (.inl hg)))),fun hm=>?_⟩,hf,⟨hf.mono (fun k _ hk=>mem_kb.2 (.inl (by simpa using hk))),fun k hk _=>?_⟩⟩
  ·rcases mem_kb.1 hm with e | e | e | e | ⟨q,hq,e⟩
   ·subst e;exact hne.2.2.1 hg
   ·exact own_apart h.out h.dls (by decide) hg e
   ·exact own_apart h.out h.res (by decide) hg e
   ·cases e
   ·exact own_apart h.out (h.prt q hq) (by decide) hg e
  ·rw [mem_kb] at hk ⊢
   rcases hk with e | e | e | e | e
   ·exact .inl e
   ·exact .inr (.inl e)
   ·exact .inr (.inr (.inl e))
   ·cases e
   ·exact .inr (.inr (.inr (.inr e))))
 obtain ⟨av,mv,cv,hsl⟩:=own_sl h.out
 rw [hsl] at c5 HN ⊢
 clear h hf hb nor k2 k3 hin hne
 go_enter Tryz.func158,Tryz.ntmps158
 go_wp2
 rw [← hW]
 go_ret
 exact ⟨_,_,rfl,HN.out⟩
section
variable [Inhabited Bs] {w W0 w1:World} {rp:Nat} {xv rv ov v':Value} {ps:List (RDeal × Value)} {R:RCo}
theorem RkIn.addOut (h:RkIn w rp xv rv ov ps R) (hf0:Fr [] w W0) (hg:W0.grownBy w1 ov.ownBlock) (x:Nat × Nat × Nat) (ho:w1.ownsRow B0 212 3 v' (R.out.length+1) (dueV R.out++dueC x)) (hat:v'.ownBlock=ov.ownBlock∨v'.ownBlock=some W0.heap.size) :
  RkIn (w1.setCell ⟨rp,3,none⟩ v') rp xv rv v' ps { R with out:=R.out++[x] }∧KFr (kb rp xv rv ov ps) (kb rp xv rv v' ps) w (w1.setCell ⟨rp,3,none⟩ v')∧Fr (rp :: ov.ownBlock.toList) w (w1.setCell ⟨rp,3,none⟩ v'):=by
 have hne:=h.ne
 have hrl:=(Array.getElem?_eq_some_iff.1 h.blk).1
 have hf1:Fr ov.ownBlock.toList w w1:=(hf0.mono (by simp)).trans (Fr.of_grown hg)
 have hb1:w1.heap[rp]?=some (rcoO xv rv ov R.next):=(hf1.block rp hrl (by simp;exact hne.2.2.1)).trans h.blk
 have apt:∀ {B' k' n':Nat} {e':TypeId} {u:Value} {xs':List Value},w.ownsRow B' e' k' u n' xs'→212≠e'→w1.ownsRow B' e' k' u n' xs':=fun h' hne=>ownsRow_fr h' hf1 (fun g hg hm=>by
  simp at hm
  exact own_apart h.out h' hne hm hg)
 have hset:Fr [rp] w1 (w1.setCell ⟨rp,3,none⟩ v'):=Fr.set1 (by simp) _ _
 refine ⟨{ base:=h.base,blk:=?_,dls:=ownsRow_set (apt h.dls (by decide)) hb1 (by decide),prt:=fun p hp=>ownsRow_set (apt (h.prt p hp) (by decide)) hb1 (by decide),apart:=h.apart,res:=ownsRow_set (apt h.res (by decide)) hb1 (by decide),out:=ownsRow_set (by rw [List.length_append,dueV_app];exact ho) hb1 (by decide),rs:=h.rs },⟨?_,fun k hk hl=>?_⟩,(hf1.mono (fun k _ hk=>by simp at hk;simp [hk])).trans (hset.mono (fun k _ hk=>by simp at hk;simp [hk]))⟩
 ·have:=blk_set hb1 3 v'
  simpa using this
 ·exact (hf1.mono (fun k _ hk=>mem_kb.2 (.inr (.inr (.inr (.inl (by simpa using hk))))))).trans (hset.mono (fun k _ hk=>mem_kb.2 (.inl (by simpa using hk))))
 ·rw [mem_kb] at hk ⊢
  rcases hk with e | e | e | e | e
  ·exact .inl e
  ·exact .inr (.inl e)
  ·exact .inr (.inr (.inl e))
  ·rcases hat with e2 | e2
   ·exact .inr (.inr (.inr (.inl (e2▸e))))
   ·rw [e2] at e;cases e;have:=hf0.size;omega
  ·exact .inr (.inr (.inr (.inr e)))
theorem RkIn.addRes (h:RkIn w rp xv rv ov ps R) (hf0:Fr [] w W0) (hg:W0.grownBy w1 rv.ownBlock) (x:Nat × Nat) (ho:w1.ownsRow B0 216 2 v' (R.res.length+1) (resV R.res++resC x)) (hat:v'.ownBlock=rv.ownBlock∨v'.ownBlock=some W0.heap.size) :
  RkIn (w1.setCell ⟨rp,2,none⟩ v') rp xv v' ov ps { R with res:=R.res++[x] }∧KFr (kb rp xv rv ov ps) (kb rp xv v' ov ps) w (w1.setCell ⟨rp,2,none⟩ v')∧Fr (rp :: rv.ownBlock.toList) w (w1.setCell ⟨rp,2,none⟩ v'):=by
 have hne:=h.ne
 have hrl:=(Array.getElem?_eq_some_iff.1 h.blk).1
 have hf1:Fr rv.ownBlock.toList w w1:=(hf0.mono (by simp)).trans (Fr.of_grown hg)
 have hb1:w1.heap[rp]?=some (rcoO xv rv ov R.next):=(hf1.block rp hrl (by simp;exact hne.2.1)).trans h.blk
 have apt:∀ {B' k' n':Nat} {e':TypeId} {u:Value} {xs':List Value},w.ownsRow B' e' k' u n' xs'→216≠e'→w1.ownsRow B' e' k' u n' xs':=fun h' hne=>ownsRow_fr h' hf1 (fun g hg hm=>by
  simp at hm
  exact own_apart h.res h' hne hm hg)
 have hset:Fr [rp] w1 (w1.setCell ⟨rp,2,none⟩ v'):=Fr.set1 (by simp) _ _
 refine ⟨{ base:=h.base,blk:=?_,dls:=ownsRow_set (apt h.dls (by decide)) hb1 (by decide),prt:=fun p hp=>ownsRow_set (apt (h.prt p hp) (by decide)) hb1 (by decide),apart:=h.apart,res:=ownsRow_set (by rw [List.length_append,resV_app];exact ho) hb1 (by decide),out:=ownsRow_set (apt h.out (by decide)) hb1 (by decide),rs:=h.rs },⟨?_,fun k hk hl=>?_⟩,(hf1.mono (fun k _ hk=>by simp at hk;simp [hk])).trans (hset.mono (fun k _ hk=>by simp at hk;simp [hk]))⟩
 ·have:=blk_set hb1 2 v'
  simpa using this
 ·exact (hf1.mono (fun k _ hk=>mem_kb.2 (.inr (.inr (.inl (by simpa using hk)))))).trans (hset.mono (fun k _ hk=>mem_kb.2 (.inl (by simpa using hk))))
 ·rw [mem_kb] at hk ⊢
  rcases hk with e | e | e | e | e
  ·exact .inl e
  ·exact .inr (.inl e)
  ·rcases hat with e2 | e2
   ·exact .inr (.inr (.inl (e2▸e)))
   ·rw [e2] at e;cases e;have:=hf0.size;omega
  ·exact .inr (.inr (.inr (.inl e)))
  ·exact .inr (.inr (.inr (.inr e)))
end
end Go.Proofs.YtejiankgafjppaaGreatDoor
