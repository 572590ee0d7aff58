import Derived.Test.YtejiankgafjppaaGreatDoorC37
import Derived.Test.YtejiankgafjppaaGreatDoorC35
namespace Go.Proofs.YtejiankgafjppaaGreatDoor
open Go.RowKit Go.Maps Go.Shelf
open Sc
def riseTo (zs:List Int) (k:Nat):Prop:=∀ (j:Nat) (z:Int),j<k→zs[j]?=some z→1≤z∧z≤8∧∀ y:Int,0<j→zs[j - 1]?=some y→y<z
theorem riseTo_zero (zs:List Int):riseTo zs 0:=fun j _ hj=>by omega
theorem riseTo_next {zs:List Int} {k:Nat} {z:Int} (h:riseTo zs k) (hz:zs[k]?=some z) (h1:1≤z) (h8:z≤8) (hp:∀ y,0<k→zs[k - 1]?=some y→y<z):riseTo zs (k+1):=fun j u hj hu=>by
 by_cases e:j=k
 ·subst e;rw [hz] at hu;cases hu;exact ⟨h1,h8,hp⟩
 ·exact h j u (by omega) hu
theorem rise_of:∀ (zs:List Int) (l:Int),(∀ z,zs[0]?=some z→l<z)→(zs=[]→0<l)→riseTo zs zs.length→riseB l zs=true:=by
 intro zs
 induction zs with
 | nil=>intro l _ h _;simpa [riseB] using h rfl
 | cons x r ih =>
  intro l h0 _ h
  have hx:=h 0 x (by simp) rfl
  have hl:=h0 x rfl
  unfold riseB
  rw [if_neg (by omega)]
  refine ih x (fun z hz=>?_) (fun _=>by omega) fun j z hj hz=>?_
  ·have hlt:0<r.length:=(List.getElem?_eq_some_iff.1 hz).1
   exact (h 1 z (by simp;omega) hz).2.2 x (by decide) rfl
  ·have:=h (j+1) z (by simp;omega) hz
   refine ⟨this.1,this.2.1,fun y hy hyz=>this.2.2 y (by omega) ?_⟩
   have e:j+1 - 1=(j - 1)+1:=by omega
   rw [e]
   exact hyz
theorem rise_all {zs:List Int} {k:Nat} (hk:zs.length=k) (h:riseTo zs k) (h0:0<k):riseB 0 zs=true:=by
 subst hk
 exact rise_of zs 0 (fun z hz=>by have:=(h 0 z h0 hz).1;omega) (fun e=>by rw [e] at h0;simp at h0) h
theorem Rising.to {xs:List Nat} (h:Rising xs) {k x:Nat} (hx:xs[k]?=some x):1≤x∧x≤8∧∀ y,0<k→xs[k - 1]?=some y→y<x:=by
 refine ⟨(h.b x (List.mem_of_getElem? hx)).1,(h.b x (List.mem_of_getElem? hx)).2,fun y hk hy=>?_⟩
 obtain ⟨h1,h2⟩:=List.getElem?_eq_some_iff.1 hx
 obtain ⟨h3,h4⟩:=List.getElem?_eq_some_iff.1 hy
 have:=List.pairwise_iff_getElem.1 h.up (k - 1) k h3 h1 (by omega)
 rw [h2,h4] at this
 exact this
structure Jd (k:Nat) (c:ACo) (R:RCo):Prop where
 rel:CRel c R
 lim:c.next≤c.limit∧c.limit≤c.next+16
 nxt:1≤R.next∧R.next≤k+1
 tks:c.ticks≤21*k
 out:R.out.length≤8*k
 res:R.res.length≤k
theorem PsUp.len {ps:List RPart} (h:PsUp ps):ps.length≤8:=by
 by_cases e:ps=[]
 ·subst e;simp
 ·have:Rising (ps.map (·.shard)):=⟨by simpa using e,by rw [List.pairwise_map];exact h.up,fun x hx=>by obtain ⟨p,hp,rfl⟩:=List.mem_map.1 hx;exact h.b p hp⟩
  simpa using this.len
section
variable {L:Nat→Nat} {k:Nat} {c:ACo} {R:RCo}
theorem CRelL.parts (h:CRelL L c R):∀ x∈R.deals,x.parts.length≤8:=fun x hx=>(h.ok x hx).1.up.len
theorem undoL_len (t:Nat) (ps:List RPart):(undoL t ps).length≤ps.length:=by unfold undoL;rw [List.length_map];exact List.length_filter_le _ _
theorem toPs_len (f:RPart→Bool) (t x:Nat) (ps:List RPart):(toPs f t x ps).length≤ps.length:=by unfold toPs;rw [List.length_map];exact List.length_filter_le _ _
theorem abort_len (hp:∀ x∈R.deals,x.parts.length≤8) (t:Nat):(R.abort t).out.length≤R.out.length+8∧(R.abort t).res.length≤R.res.length+1∧(R.abort t).next=R.next:=by
 unfold RCo.abort
 split
 ·exact ⟨by omega,by omega,rfl⟩
 ·split
  ·exact ⟨by omega,by omega,rfl⟩
  ·rename_i i _ _ x hx
   split
   ·exact ⟨by omega,by omega,rfl⟩
   ·have h1:=hp x (List.mem_of_getElem? hx)
    have h2:=undoL_len x.id x.parts
    refine ⟨?_,by simp,rfl⟩
    simp only [List.length_append]
    omega
theorem vote_len (hp:∀ x∈R.deals,x.parts.length≤8) (t:Nat) (z v:Int):(R.vote t z v).out.length≤R.out.length+8∧(R.vote t z v).res.length≤R.res.length+1∧(R.vote t z v).next=R.next:=by
 unfold RCo.vote
 split
 ·exact ⟨by omega,by omega,rfl⟩
 ·split
  ·exact ⟨by omega,by omega,rfl⟩
  ·rename_i i _ _ x hx
   have h1:=hp x (List.mem_of_getElem? hx)
   split
   ·unfold RCo.voted
    simp only
    split
    ·exact ⟨by omega,by omega,rfl⟩
    ·split
     ·have h2:=undoL_len x.id (x.parts.map (voteP z v.toNat))
      rw [List.length_map] at h2
      refine ⟨?_,by simp [RCo.undone,RCo.setAt],rfl⟩
      simp only [RCo.undone,RCo.setAt,List.length_append]
      omega
     ·split
      ·exact ⟨by simp [RCo.setAt],by simp [RCo.setAt],rfl⟩
      ·split
       ·exact ⟨by simp,by simp,rfl⟩
       ·have h2:=toPs_len isY t 5 (x.parts.map (voteP z v.toNat))
        rw [List.length_map] at h2
        refine ⟨?_,by simp,rfl⟩
        simp only [List.length_append]
        omega
   ·exact ⟨by omega,by omega,rfl⟩
theorem done_len (t:Nat) (z:Int):(R.done t z).out=R.out∧(R.done t z).res=R.res∧(R.done t z).next=R.next:=by
 unfold RCo.done
 split
 ·exact ⟨rfl,rfl,rfl⟩
 ·split
  ·exact ⟨rfl,rfl,rfl⟩
  ·split
   ·split <;> exact ⟨rfl,rfl,rfl⟩
   ·exact ⟨rfl,rfl,rfl⟩
theorem commit_len (t:Nat) {xs:List Nat} (hx:xs.length≤8):(R.commit t xs).out.length≤R.out.length+8∧(R.commit t xs).res=R.res∧(R.commit t xs).next=R.next:=by
 unfold RCo.commit
 split
 ·exact ⟨by omega,rfl,rfl⟩
 ·split
  ·exact ⟨by omega,rfl,rfl⟩
  ·split
   ·refine ⟨?_,rfl,rfl⟩
    simp only [List.length_append,List.length_map]
    omega
   ·exact ⟨by omega,rfl,rfl⟩
theorem tickOne_len (hp:∀ x∈R.deals,x.parts.length≤8) (t:Nat):(R.tickOne t).out.length≤R.out.length+8∧(R.tickOne t).res.length≤R.res.length+1∧(R.tickOne t).next=R.next∧∀ x∈(R.tickOne t).deals,x.parts.length≤8:=by
 unfold RCo.tickOne
 split
 ·exact ⟨by omega,by omega,rfl,hp⟩
 ·split
  ·exact ⟨by omega,by omega,rfl,hp⟩
  ·rename_i i _ _ x hx
   have h1:=hp x (List.mem_of_getElem? hx)
   have hset:∀ y:RDeal,y.parts=x.parts→∀ u∈R.deals.set i y,u.parts.length≤8:=fun y hy u hu=>by
    rcases List.mem_or_eq_of_mem_set hu with hu | rfl
    ·exact hp u hu
    ·rw [hy];exact h1
   split
   ·split
    ·have h2:=undoL_len x.id x.parts
     refine ⟨?_,by simp [RCo.undone,RCo.setAt],rfl,fun u hu=>?_⟩
     ·simp only [RCo.undone,RCo.setAt,List.length_append];omega
     ·simp only [RCo.undone,RCo.setAt] at hu
      exact hset { x with age:=x.age+1 } rfl u ((drop_sub _ _).subset hu)
    ·have h2:=toPs_len isZ x.id 1 x.parts
     refine ⟨?_,by simp,rfl,hset _ rfl⟩
     simp only [List.length_append];omega
   ·split
    ·have h2:=toPs_len (·.left) x.id 5 x.parts
     refine ⟨?_,by simp,rfl,hp⟩
     simp only [List.length_append];omega
    ·exact ⟨by omega,by omega,rfl,hp⟩
theorem ticks_len:∀ (ids:List Nat) (R:RCo),(∀ x∈R.deals,x.parts.length≤8)→(ids.foldl RCo.tickOne R).out.length≤R.out.length+8*ids.length∧(ids.foldl RCo.tickOne R).res.length≤R.res.length+ids.length∧(ids.foldl RCo.tickOne R).next=R.next:=by
 intro ids
 induction ids with
 | nil=>intro R _;exact ⟨by simp,by simp,rfl⟩
 | cons t r ih =>
  intro R hp
  obtain ⟨h1,h2,h3,h4⟩:=tickOne_len hp t
  obtain ⟨g1,g2,g3⟩:=ih (R.tickOne t) h4
  rw [List.foldl_cons]
  refine ⟨?_,?_,g3.trans h3⟩
  ·simp only [List.length_cons];omega
  ·simp only [List.length_cons];omega
theorem Jd.mono (h:Jd k c R) {j:Nat} (hj:k≤j):Jd j c R:=⟨h.rel,h.lim,⟨h.nxt.1,by have:=h.nxt.2;omega⟩,by have:=h.tks;omega,by have:=h.out;omega,by have:=h.res;omega⟩
theorem Jd.first:Jd 0 ⟨[],1,1,0,[],[]⟩ ⟨[],1,[],[]⟩ :=
 ⟨⟨List.Pairwise.nil,by simp,fun _ _=>rfl,by simp,by simp,List.Pairwise.nil,by simp,rfl,rfl,rfl⟩,⟨by simp,by simp⟩,⟨by simp,by simp⟩,by simp,by simp,by simp⟩
theorem Jd.step (h:Jd k c R) {c':ACo} {R':RCo} (hr:CRel c' R') (h1:c'.next=c.next) (h2:c'.limit=c.limit) (h3:c'.ticks=c.ticks) (h4:R'.next=R.next) (h5:R'.out.length≤R.out.length+8) (h6:R'.res.length≤R.res.length+1):Jd (k+1) c' R' :=
 ⟨hr,by rw [h1,h2];exact h.lim,by rw [h4];have:=h.nxt;omega,by rw [h3];have:=h.tks;omega,by have:=h.out;omega,by have:=h.res;omega⟩
theorem Jd.begin (h:Jd k c R) (hl:R.deals.length<12) (hx:c.next=c.limit):Jd (k+1) { c with limit:=c.limit+16,next:=c.limit+1,txns:=alPut c.txns c.limit ⟨4,[0,0,0,0,0,0,0,0,0],0⟩ } { R with deals:=R.deals++[⟨R.next,4,0,[]⟩],next:=R.next+1 }:=by
 have:=h.rel.begin hl (c.limit+16)
 rw [hx] at this
 exact ⟨this,⟨by simp only;omega,by simp only;omega⟩,by have:=h.nxt;simp only;omega,by have:=h.tks;simp only;omega,by have:=h.out;simp only;omega,by have:=h.res;simp only;omega⟩
theorem Jd.beginIn (h:Jd k c R) (hl:R.deals.length<12) (hx:c.next≠c.limit):Jd (k+1) { c with next:=c.next+1,txns:=alPut c.txns c.next ⟨4,[0,0,0,0,0,0,0,0,0],0⟩ } { R with deals:=R.deals++[⟨R.next,4,0,[]⟩],next:=R.next+1 } :=
 ⟨h.rel.begin hl c.limit,by have:=h.lim;simp only;omega,by have:=h.nxt;simp only;omega,by have:=h.tks;simp only;omega,by have:=h.out;simp only;omega,by have:=h.res;simp only;omega⟩
theorem Jd.asked (h:Jd k c R):Jd k { c with res:=[],out:=[] } { R with res:=[],out:=[] } :=
 ⟨⟨h.rel.asc,h.rel.som,h.rel.non,h.rel.ok,h.rel.len,h.rel.o1,h.rel.sin,h.rel.next,rfl,rfl⟩,h.lim,h.nxt,h.tks,by simp,by simp⟩
end
end Go.Proofs.YtejiankgafjppaaGreatDoor
namespace Go.Proofs.YtejiankgafjppaaGreatDoor
open Go.RowKit Go.Maps
open Sc
set_option maxRecDepth 100000 in
set_option maxHeartbeats 1000000 in
theorem newHost_c (w:World) (n:Nat) (hn:n≤67108864) :
  Calls Tryz.prog 15 #[.int .i64 3,.int .i64 0] w fun e w'=>∃ hp p bD bN,e=.returned (.pointer (some ⟨hp,0,none⟩))∧w'.heap[hp]?=some (hostC p false (.pointer none))∧DiskIn w' w.heap.size p bD bN (.slice none 0 0) ⟨fun _=>none,fun _=>none,[],-1,-1,false⟩ n 0 0∧w.heap.size≤hp∧Below w.heap.size w w':=by
 have hmm:=@run_makeMap Tryz.prog
 go_enter Tryz.func15,Tryz.ntmps15
 go_wp2_with fail
 obtain ⟨W,hW⟩:∃ W,W=((w.alloc (.map #[] 0)).alloc (.cells #[.map (some w.heap.size),.map none,.slice none 0 0,.int .i64 (-1),.int .i64 (-1),.bool false] 88)).alloc (hostC (w.heap.size+1) false (.pointer none)):=⟨_,rfl⟩
 have hW2:W=((w.alloc (.map #[] 0)).alloc (.cells #[.map (some w.heap.size),.map none,.slice none 0 0,.int .i64 (-1),.int .i64 (-1),.bool false] 88)).alloc (.cells #[.int .i64 3,.int .i64 0,.pointer (some ⟨w.heap.size+1,0,none⟩),.bool false,.pointer none,.pointer none,.pointer none,.pointer none] 94):=hW
 rw [← hW2]
 clear hW2
 have hsz:W.heap.size=w.heap.size+3:=by rw [hW];simp
 have hb0:Below w.heap.size w W:=by rw [hW];exact (((Below.refl _ w).alloc (Nat.le_refl _) _).alloc (by simp) _).alloc (by simp;omega) _
 have hfm:FileMap W w.heap.size 0 (fun _=>none):=by rw [hW];exact ((FileMap.made w).alloc _).alloc _
 have hdb:W.heap[w.heap.size+1]?=some (.cells #[.map (some w.heap.size),.map none,.slice none 0 0,.int .i64 (-1),.int .i64 (-1),.bool false] 88):=by
  rw [hW,Below.heap_alloc _ _ (w.heap.size+1) (by simp)];have:=heap_alloc_new (w.alloc (.map #[] 0)) (.cells #[.map (some w.heap.size),.map none,.slice none 0 0,.int .i64 (-1),.int .i64 (-1),.bool false] 88);rw [World.size_alloc] at this;exact this
 have hhb:W.heap[w.heap.size+2]?=some (hostC (w.heap.size+1) false (.pointer none)):=by
  rw [hW];have:=heap_alloc_new ((w.alloc (.map #[] 0)).alloc (.cells #[.map (some w.heap.size),.map none,.slice none 0 0,.int .i64 (-1),.int .i64 (-1),.bool false] 88)) (hostC (w.heap.size+1) false (.pointer none));rw [World.size_alloc,World.size_alloc] at this;exact this
 clear hW
 have HH:Hid (W.heap[w.heap.size+2]?=some (hostC (w.heap.size+1) false (.pointer none))):=hhb
 refine (up_any w.heap.size (w.heap.size+1) w.heap.size n 0 (.slice none 0 0) (.map none) ⟨fun _=>none,fun _=>none,[],-1,-1,false⟩ W hdb ⟨by omega,by omega,by omega⟩ hfm (by omega) hn (by intro k t ht;cases ht)).mono ?_
 rintro e w1 ⟨rfl,hd1,hf1⟩
 have hh1:w1.heap[w.heap.size+1+1]?=some (hostC (w.heap.size+1) false (.pointer none)):=(hf1.block (w.heap.size+2) (by omega) (by simp)).trans HH.out
 have hb1:Below w.heap.size w w1:=hb0.trans (hf1.below (by omega) (by intro k hk;simp at hk;omega))
 have H1:Hid (DiskIn w1 w.heap.size (w.heap.size+1) w.heap.size W.heap.size (.slice none 0 0) ⟨fun _=>none,fun _=>none,[],-1,-1,false⟩ n 0 0∧Below w.heap.size w w1∧w1.heap[w.heap.size+1+1]?=some (hostC (w.heap.size+1) false (.pointer none))):=⟨hd1,hb1,hh1⟩
 clear hd1 hf1 hh1 hb1 hdb hhb hfm hb0
 go_wp2
 go_ret
 exact ⟨w.heap.size+1+1,w.heap.size+1,w.heap.size,W.heap.size,rfl,H1.out.2.2,H1.out.1,by omega,H1.out.2.1⟩
set_option maxRecDepth 100000 in
set_option maxHeartbeats 4000000 in
theorem hOpen_c (B hp p bD bN n nD nN:Nat) (pv:Value) (d:ADisk) (a b c k:Int) (ys:List Nat) (R:ALog × ADisk × Nat) (w:World) (hh:w.heap[hp]?=some (hostC p false (.pointer none))) (h:DiskIn w B p bD bN pv d n nD nN) (hB:2≤B) (hhp:B≤hp) (hmet:Met w)
  (hpre:∀ W,DiskIn W B p bD bN pv (d.knob a b) n nD nN→Below B w W→CoPre ys B p bD bN n R W) (hdn2:R.2.1.down=false) :
  Calls Tryz.prog 17 #[.pointer (some ⟨hp,0,none⟩),fallV a b c k] w fun e w'=>e=.returned (.int .i64 0)∧HCt w' B hp R.1.recs.length n { cst ys R.1.recs.length with next:=(cst ys R.1.recs.length).limit } R.1 (R.2.1.knob (-1) (-1))∧IFr B w w':=by
 obtain ⟨W,hW⟩:∃ W,W=w.alloc (fallO a b c k):=⟨_,rfl⟩
 have hf0:Fr [] w W:=by rw [hW];exact (Fr.refl [] w).alloc _
 have hd0:=h.new hf0
 have hpl:=(Array.getElem?_eq_some_iff.1 hh).1
 have hh0:W.heap[hp]?=some (hostC p false (.pointer none)):=(hf0.block hp hpl (by simp)).trans hh
 have hx0:W.heap[w.heap.size]?=some (fallO a b c k):=by rw [hW];exact heap_alloc_new w _
 have hb0:IFr B w W:=IFr.new hf0 h.base.2.2.2
 have x0:=blk_cell hx0 0
 have x1:=blk_cell hx0 1
 have x2:=blk_cell hx0 2
 have x3:=blk_cell hx0 3
 simp at x0 x1 x2 x3
 rw [hW] at x0 x1 x2 x3
 have hmet0:Met W:=hb0.met hB hmet
 have HH:Hid (W.heap[hp]?=some (hostC p false (.pointer none))∧W.heap[w.heap.size]?=some (fallO a b c k)∧DiskIn W B p bD bN pv d n nD nN∧IFr B w W):=⟨hh0,hx0,hd0,hb0⟩
 clear hh hf0 hd0 hh0 hx0 hb0 h hmet
 go_enter Tryz.func17,Tryz.ntmps17
 go_wp2_with fail
 rw [← hW]
 clear hW x0 x1 x2 x3
 refine (before_c hp p bD bN pv _ false d.down d.left d.full a b c k W HH.out.1 HH.out.2.2.1.blk).mono ?_
 rintro e w1 ⟨rfl,hb1,hf1⟩
 have hd1:DiskIn w1 B p bD bN pv (d.knob a b) n nD nN:=HH.out.2.2.1.turn hf1 a b d.down hb1
 have hne:hp≠p:=by intro e;have:=HH.out.1;rw [e,HH.out.2.2.1.blk] at this;cases this
 have hh1:w1.heap[hp]?=some (hostC p false (.pointer none)):=(hf1.block hp (Array.getElem?_eq_some_iff.1 HH.out.1).1 (by simpa using hne)).trans HH.out.1
 have fal1:∀ (q:Nat) (x y z u:Int),W.heap[q]?=some (fallO x y z u)→w1.heap[q]?=some (fallO x y z u):=fun q x y z u hq=>(hf1.block q (Array.getElem?_eq_some_iff.1 hq).1 (by simp;intro e;rw [e,HH.out.2.2.1.blk] at hq;cases hq)).trans hq
 have int1:∀ (q:Nat) (cc:Array Value),W.heap[q]?=some (.cells cc 3 (0,0))→w1.heap[q]?=some (.cells cc 3 (0,0)):=fun q cc hq=>(hf1.block q (Array.getElem?_eq_some_iff.1 hq).1 (by simp;intro e;rw [e,HH.out.2.2.1.blk] at hq;cases hq)).trans hq
 have hx1:=fal1 _ _ _ _ _ HH.out.2.1
 have hr1:IFr B W w1:=⟨hf1.below HH.out.2.2.1.base.2.2.2 (by intro j hj;simp at hj;rw [hj];exact HH.out.2.2.1.base.1),fal1,int1⟩
 have H1:Hid (w1.heap[hp]?=some (hostC p false (.pointer none))∧w1.heap[w.heap.size]?=some (fallO a b c k)∧DiskIn w1 B p bD bN pv (d.knob a b) n nD nN∧IFr B w w1):=⟨hh1,hx1,hd1,HH.out.2.2.2.trans hr1⟩
 have hmet1:Met w1:=hr1.met hB hmet0
 clear hb1 hf1 hd1 hh1 hx1 hr1 fal1 int1
 go_wp2_with fail
 refine (close_c hp p false _ ⟨_,rfl⟩ w1 H1.out.1).mono ?_
 rintro e w2 ⟨rfl,hh2,hf2⟩
 have hd2:DiskIn w2 B p bD bN pv (d.knob a b) n nD nN:=by
  refine H1.out.2.2.1.fr hf2 (by simpa using fun e=>hne e.symm) ?_ ?_ ?_ ?_
  ·simp;exact H1.out.2.2.1.dur.ne_cells H1.out.1
  ·simp;exact H1.out.2.2.1.now.ne_cells H1.out.1
  ·intro g hg;simp;intro e;subst e;exact own_ne H1.out.2.2.1.pen H1.out.1 (by decide) hg
  ·intro q hq t;simp at hq;subst hq;rw [H1.out.1];intro e;cases e
 have fal2:∀ (q:Nat) (x y z u:Int),w1.heap[q]?=some (fallO x y z u)→w2.heap[q]?=some (fallO x y z u):=fun q x y z u hq=>(hf2.block q (Array.getElem?_eq_some_iff.1 hq).1 (by simp;intro e;rw [e,H1.out.1] at hq;cases hq)).trans hq
 have int2:∀ (q:Nat) (cc:Array Value),w1.heap[q]?=some (.cells cc 3 (0,0))→w2.heap[q]?=some (.cells cc 3 (0,0)):=fun q cc hq=>(hf2.block q (Array.getElem?_eq_some_iff.1 hq).1 (by simp;intro e;rw [e,H1.out.1] at hq;cases hq)).trans hq
 have hx2:=fal2 _ _ _ _ _ H1.out.2.1
 have hr2:IFr B w1 w2:=⟨hf2.below H1.out.2.2.1.base.2.2.2 (by intro j hj;simp at hj;omega),fal2,int2⟩
 have hc0:=blk_cell hh2 0
 have hc2:=blk_cell hh2 2
 simp at hc0 hc2
 have hop:=openCo_any ys B p bD bN n R w2 (hpre w2 hd2 (H1.out.2.2.2.below.trans hr2.below))
 have H2:Hid (w2.heap[hp]?=some (hostC p false (.pointer none))∧w2.heap[w.heap.size]?=some (fallO a b c k)∧DiskIn w2 B p bD bN pv (d.knob a b) n nD nN∧IFr B w w2):=⟨hh2,hx2,hd2,H1.out.2.2.2.trans hr2⟩
 have hmet2:Met w2:=hr2.met hB hmet1
 clear hh2 hf2 hd2 hx2 hr2 fal2 int2 hpre
 go_wp2_with fail
 refine hop.mono ?_
 clear hop
 rintro e w3 ⟨sp,gp,bT,lp,rfl,hs3,hlow,hx3⟩
 have cel3:∀ {q:Nat} {c:Array Value} {t:TypeId},w2.heap[q]?=some (.cells c t (0,0))→t≠88→t≠175→w3.heap[q]?=some (.cells c t (0,0)):=fun {q c t} hq t1 t2=>(hx3.block q (Array.getElem?_eq_some_iff.1 hq).1 (H2.out.2.2.1.freeD hq t1 t2) (by simp)).trans hq
 have hh3:=cel3 H2.out.1 (by decide) (by decide)
 have hfa3:=cel3 H2.out.2.1 (by decide) (by decide)
 have hr3:IFr B w2 w3:=⟨⟨hx3.os,hx3.tape,hx3.output,hx3.size,fun q hq=>hx3.block q (Nat.lt_of_lt_of_le hq H2.out.2.2.1.base.2.2.2) (fun ho=>by have:=H2.out.2.2.1.geD ho;omega) (by simp)⟩,fun q x y z u hq=>cel3 hq (by decide) (by decide),fun q cc hq=>cel3 hq (by decide) (by decide)⟩
 have hBw:=H2.out.2.2.1.base.2.2.2
 have hmet3:Met w3:=hr3.met hB hmet2
 obtain ⟨W4,hW4⟩:∃ W4,W4=(w3.setCell ⟨hp,6,none⟩ (.pointer (some ⟨sp,0,none⟩))).setCell ⟨hp,3,none⟩ (.bool true):=⟨_,rfl⟩
 have hh4:W4.heap[hp]?=some (hostC p true (.pointer (some ⟨sp,0,none⟩))):=by
  have:=blk_set (blk_set hh3 6 (.pointer (some ⟨sp,0,none⟩))) 3 (.bool true)
  simp at this
  rw [hW4];exact this
 have hf4:Fr [hp] w3 W4:=by rw [hW4];exact (Fr.set1 (by simp) _ _).trans (Fr.set1 (by simp) _ _)
 have hs4:=hs3.other hf4 hh3 (by decide) (by decide) (by decide) (by decide) (by decide) (by decide) (by decide) (by decide) (by decide) (by decide)
 have hxh:w.heap.size≠hp:=by omega
 have fal4:∀ (q:Nat) (x y z u:Int),w3.heap[q]?=some (fallO x y z u)→W4.heap[q]?=some (fallO x y z u):=fun q x y z u hq=>(hf4.block q (Array.getElem?_eq_some_iff.1 hq).1 (by simp;intro e;rw [e,hh3] at hq;cases hq)).trans hq
 have int4:∀ (q:Nat) (cc:Array Value),w3.heap[q]?=some (.cells cc 3 (0,0))→W4.heap[q]?=some (.cells cc 3 (0,0)):=fun q cc hq=>(hf4.block q (Array.getElem?_eq_some_iff.1 hq).1 (by simp;intro e;rw [e,hh3] at hq;cases hq)).trans hq
 have hx4:=fal4 _ _ _ _ _ hfa3
 have hr4:IFr B w3 W4:=⟨hf4.below (by have:=hr3.below.size;omega) (by intro j hj;simp at hj;omega),fal4,int4⟩
 have hmet4:Met W4:=hr4.met hB hmet3
 have y0:=blk_cell hx4 0
 have y1:=blk_cell hx4 1
 have y2:=blk_cell hx4 2
 have y3:=blk_cell hx4 3
 simp at y0 y1 y2 y3
 rw [hW4] at y0 y1 y2 y3
 obtain ⟨pv4,hd4⟩:∃ pv,W4.heap[p]?=some (dskO bD bN pv R.2.1.left R.2.1.full R.2.1.down):=by obtain ⟨pv,sv,rv,nD,nN,hl⟩:=hs4.lg;exact ⟨pv,hl.disk.blk⟩
 have H4:Hid (W4.heap[hp]?=some (hostC p true (.pointer (some ⟨sp,0,none⟩)))∧CL W4 B sp gp bT R.1.recs.length lp p bD bN n { cst ys R.1.recs.length with next:=(cst ys R.1.recs.length).limit } R.1 R.2.1∧IFr B w W4∧W4.heap[p]?=some (dskO bD bN pv4 R.2.1.left R.2.1.full R.2.1.down)):=⟨hh4,hs4,(H2.out.2.2.2.trans hr3).trans hr4,hd4⟩
 have c3:=blk_cell hh3 3
 have c6:=blk_cell hh3 6
 have f3:=blk_free hh3 3
 have f6:=blk_free hh3 6
 have c2:=blk_cell hh3 2
 simp at c3 c6 c2
 clear hc0 hc2 hh3 hfa3 hr3 hs3 hx3 cel3 hh4 hf4 hx4 hs4 hr4 fal4 int4 hd4
 go_wp2_with fail
 rw [← hW4]
 clear hW4 y0 y1 y2 y3 c3 c6 f3 f6 c2
 have hbd:=H4.out.2.2.2
 rw [hdn2] at hbd
 refine (after_c hp p bD bN pv4 _ true R.2.1.left R.2.1.full a b c k W4 H4.out.1 hbd).mono ?_
 clear hbd
 rintro e w5 ⟨rfl,hb5,hf5⟩
 rw [← hdn2] at hb5
 obtain ⟨hs5,hx5⟩:=H4.out.2.1.knob (-1) (-1) hf5 hb5 H4.out.2.2.2
 have hh5:=hx5.cells H4.out.2.1 H4.out.1 (by decide) (by decide) (by decide) (by decide) (by decide) (by decide) (by decide) (by decide)
 have hr5:=hx5.hfr H4.out.2.1
 have hmet5:Met w5:=hr5.met hB hmet4
 have H5:Hid (w5.heap[hp]?=some (hostC p true (.pointer (some ⟨sp,0,none⟩)))∧CL w5 B sp gp bT R.1.recs.length lp p bD bN n { cst ys R.1.recs.length with next:=(cst ys R.1.recs.length).limit } R.1 (R.2.1.knob (-1) (-1))∧IFr B w w5):=⟨hh5,hs5,H4.out.2.2.1.trans hr5⟩
 clear hb5 hf5 hs5 hx5 hh5 hr5
 go_wp2_with fail
 refine (told_any 0 w5 hmet5).mono ?_
 rintro e w6 ⟨rfl,hf6⟩
 obtain ⟨hs6,hx6⟩:=H5.out.2.1.new hf6
 have H6:Hid (HCt w6 B hp R.1.recs.length n { cst ys R.1.recs.length with next:=(cst ys R.1.recs.length).limit } R.1 (R.2.1.knob (-1) (-1))∧IFr B w w6):=⟨⟨p,sp,gp,bT,lp,bD,bN,hx6.cells H5.out.2.1 H5.out.1 (by decide) (by decide) (by decide) (by decide) (by decide) (by decide) (by decide) (by decide),hs6⟩,H5.out.2.2.trans (hx6.hfr H5.out.2.1)⟩
 clear hs6 hx6 hf6
 go_wp2
 go_ret
 exact ⟨rfl,H6.out⟩
end Go.Proofs.YtejiankgafjppaaGreatDoor
namespace Go.Proofs.YtejiankgafjppaaGreatDoor
open Go.RowKit Go.Shelf Go.Maps
open Sc
def zsV (zs:List Int):List Value:=zs.map fun z:Int=>.int .i64 z
theorem zsV_one (l:List Int):∀ u∈zsV l,u.oneCell'=true:=by
 intro u hu
 unfold zsV at hu
 obtain ⟨x,_,rfl⟩:=List.mem_map.1 hu
 rfl
theorem zsV_len (l:List Int):(zsV l).length=l.length:=by simp [zsV]
theorem zs_at {w:World} {B cap:Nat} {ao:Option Addr} {l:List Int} (h:w.ownsRow B 3 1 (.slice ao l.length cap) l.length (zsV l)) (hz:∀ z∈l,InI z):ZsAt w ao l:=fun k z hk=>by
 refine ⟨hz z (List.mem_of_getElem? hk),?_⟩
 have hkl:k<l.length:=(List.getElem?_eq_some_iff.1 hk).1
 rcases h.2 with ⟨_,h3⟩ | ⟨g,cap',cur,e,hb,hg,_,_,hsz,htk⟩
 ·omega
 ·cases e
  refine ⟨g,rfl,?_⟩
  have:(cur.toList.take (l.length*1))[k]?=some (.int .i64 z):=by rw [htk];unfold zsV;rw [List.getElem?_map,hk];rfl
  rw [List.getElem?_take_of_lt (by omega)] at this
  rw [blk_cell hg k]
  simpa using this
set_option maxRecDepth 100000 in
set_option maxHeartbeats 8000000 in
theorem hCommit_x (B hp p cp gp bT lp bD bN m n t:Nat) (v:Value) (zs:List Int) (s:ACo) (l:ALog) (d:ADisk) (a b c k:Int) (w:World) (Q:Nat→ACo→Nat→Prop) (h:HCx w B hp p cp gp bT lp bD bN m n s l d) (hB:2≤B) (hmet:Met w) (hdn:d.down=false) (hlen:zs.length≤16384) (hz:∀ z∈zs,InI z)
  (hsrc:∀ W,CFr cp bT lp p w W→AppSrc W v zs.length (zsV zs))
  (hX:∀ w2 ao cap,CoIn w2 B cp gp bT m s→ZsAt w2 ao zs→Calls Tryz.prog 164 #[.pointer (some ⟨cp,0,none⟩),.int .u64 (t:Int),.slice ao zs.length cap] w2 fun e w3=>∃ x s' m',Q x s' m'∧e=.returned (errN x)∧CoIn w3 B cp gp bT m' s'∧RFr cp [cp,bT] w2 w3) :
  Calls Tryz.prog 96 #[.pointer (some ⟨hp,0,none⟩),.int .u64 (t:Int),v,fallV a b c k] w fun e w'=>∃ x s' m',Q x s' m'∧e=.returned (.int .i64 (x:Int))∧HCx w' B hp p cp gp bT lp bD bN m' n s' l (d.knob (-1) (-1))∧CFr cp bT lp p w w':=by
 obtain ⟨hh,hs⟩:=h
 obtain ⟨ii,hi,hz0,hz1,hz2⟩:=info_parts Tryz.infoIn
 obtain ⟨W,hW⟩:∃ W,W=w.alloc (fallO a b c k):=⟨_,rfl⟩
 have hf0:Fr [] w W:=by rw [hW];exact (Fr.refl [] w).alloc _
 obtain ⟨hs0,hx0⟩:=hs.new hf0
 have hh0:=hx0.cells hs hh (by decide) (by decide) (by decide) (by decide) (by decide) (by decide) (by decide) (by decide)
 have hfa0:W.heap[w.heap.size]?=some (fallO a b c k):=by rw [hW];exact heap_alloc_new w _
 have c6:=blk_cell hh0 6
 have x0:=blk_cell hfa0 0
 have x1:=blk_cell hfa0 1
 have x2:=blk_cell hfa0 2
 have x3:=blk_cell hfa0 3
 simp at c6 x0 x1 x2 x3
 rw [hW] at c6 x0 x1 x2 x3
 obtain ⟨pv0,hd0⟩:∃ pv,W.heap[p]?=some (dskO bD bN pv d.left d.full d.down):=by obtain ⟨pv,sv,rv,nD,nN,hl⟩:=hs0.lg;exact ⟨pv,hl.disk.blk⟩
 have H0:=toHid (show CL W B cp gp bT m lp p bD bN n s l d∧W.heap[hp]?=some (hostC p true (.pointer (some ⟨cp,0,none⟩)))∧W.heap[w.heap.size]?=some (fallO a b c k)∧CFr cp bT lp p w W∧W.heap[p]?=some (dskO bD bN pv0 d.left d.full d.down) from ⟨hs0,hh0,hfa0,hx0,hd0⟩)
 have HR:=toHid (show (∀ W,CFr cp bT lp p w W→AppSrc W v zs.length (zsV zs))∧CL w B cp gp bT m lp p bD bN n s l d from ⟨hsrc,hs⟩)
 have HX:=toHid hX
 have HZ:=toHid hz
 obtain ⟨vo,vn,vc,rfl⟩:∃ vo vn vc,v=.slice vo vn vc:=by
  rcases hsrc w (hs.new (Fr.refl [] w)).2 with ⟨ad,c,e,_⟩ | ⟨e,_⟩
  ·exact ⟨_,_,_,e⟩
  ·exact ⟨_,_,_,e⟩
 clear hs hh hf0 hs0 hx0 hh0 hfa0 hd0 hsrc hX hz
 go_enter Tryz.func96,Tryz.ntmps96
 go_wp2_with fail
 rw [← hW]
 clear hW c6 x0 x1 x2 x3
 refine (before_c hp p bD bN pv0 _ true d.down d.left d.full a b c k W H0.out.2.1 H0.out.2.2.2.2).mono ?_
 rintro e w1 ⟨rfl,hb1,hf1⟩
 obtain ⟨hs1,hx1⟩:=H0.out.1.knob a b hf1 hb1 H0.out.2.2.2.2
 have hh1:=hx1.cells H0.out.1 H0.out.2.1 (by decide) (by decide) (by decide) (by decide) (by decide) (by decide) (by decide) (by decide)
 have hfa1:=hx1.cells H0.out.1 H0.out.2.2.1 (by decide) (by decide) (by decide) (by decide) (by decide) (by decide) (by decide) (by decide)
 have hcf1:=H0.out.2.2.2.1.trans hx1
 have hia:=HR.out.1 w1 hcf1
 have H1:=toHid (show CL w1 B cp gp bT m lp p bD bN n s l (d.knob a b)∧w1.heap[hp]?=some (hostC p true (.pointer (some ⟨cp,0,none⟩)))∧w1.heap[w.heap.size]?=some (fallO a b c k)∧CFr cp bT lp p w w1 from ⟨hs1,hh1,hfa1,hcf1⟩)
 clear hs1 hx1 hh1 hfa1 hb1 hf1 H0 hcf1
 go_wp2_with (at_builtin;refine wpList_app rfl _ _ 26 rfl w1.heap.size 3 ii (.int .i64 0) 1 8 Tryz.underlying26 hi hz0 hz1 hz2 rfl (by decide) (.slice none 0 0) 0 [] rfl (World.ownsRow_nil _ _ _ _) zs.length (zsV zs) hia (by rw [zsV_len];omega) (zsV_one zs) (by unfold maxLen;omega) (by omega) (Nat.le_refl _) ?_)
 intro v' w2 hown' hgrow _
 obtain ⟨ao,c2,rfl⟩:=own_form0 hown'
 have hf2:Fr [] w1 w2:=Fr.of_grown hgrow
 obtain ⟨hs2,hx2⟩:=H1.out.1.new hf2
 have hh2:=hx2.cells H1.out.1 H1.out.2.1 (by decide) (by decide) (by decide) (by decide) (by decide) (by decide) (by decide) (by decide)
 have hfa2:=hx2.cells H1.out.1 H1.out.2.2.1 (by decide) (by decide) (by decide) (by decide) (by decide) (by decide) (by decide) (by decide)
 have hcm:=HX.out w2 ao c2 hs2.co (zs_at hown' HZ.out)
 obtain ⟨N,hN⟩:∃ N,N=zs.length:=⟨_,rfl⟩
 rw [← hN] at hcm hown' hlen ⊢
 have HOG:=toHid (show 0<N→∃ g2 cc2,ao=some ⟨g2,0,none⟩∧w2.heap[g2]?=some (.cells cc2 3 (0,0))∧N≤cc2.size∧w.heap.size≤g2 from fun hpos=>by
  obtain ⟨g2,c3,e⟩:=own_pos hown' hpos
  cases e
  obtain ⟨cc2,hg2⟩:=own_cells hown' (g:=g2) rfl
  have hgl:w1.heap.size≤g2:=(hown'.lt g2 rfl).1
  refine ⟨g2,cc2,rfl,hg2,?_,Nat.le_trans H1.out.2.2.2.size hgl⟩
  rcases hown'.2 with ⟨e,_⟩ | ⟨g',cap',cur,e,_,e2,e3,_,e4,_⟩
  ·cases e
  ·cases e
   rw [hg2] at e2
   cases e2
   omega)
 have k6:=blk_cell hh2 6
 simp at k6
 have H2:=toHid (show CL w2 B cp gp bT m lp p bD bN n s l (d.knob a b)∧w2.heap[hp]?=some (hostC p true (.pointer (some ⟨cp,0,none⟩)))∧w2.heap[w.heap.size]?=some (fallO a b c k)∧CFr cp bT lp p w w2 from ⟨hs2,hh2,hfa2,H1.out.2.2.2.trans hx2⟩)
 clear hown' hgrow hf2 hs2 hx2 hh2 hfa2 H1 hia hN
 go_wp2_with fail
 refine hcm.mono ?_
 clear hcm k6
 rintro e w3 ⟨xx,s',m',hQ,rfl,hc3,hf3⟩
 obtain ⟨hs3,hx3⟩:=H2.out.1.turn hc3 hf3
 have hh3:=hx3.cells H2.out.1 H2.out.2.1 (by decide) (by decide) (by decide) (by decide) (by decide) (by decide) (by decide) (by decide)
 have hfa3:=hx3.cells H2.out.1 H2.out.2.2.1 (by decide) (by decide) (by decide) (by decide) (by decide) (by decide) (by decide) (by decide)
 have HQ:=toHid hQ
 have HOG3:=toHid (show 0<N→∃ g2 cc2,ao=some ⟨g2,0,none⟩∧w3.heap[g2]?=some (.cells cc2 3 (0,0))∧N≤cc2.size∧w.heap.size≤g2 from fun hpos=>by
  obtain ⟨g2,cc2,e,e2,e3,e4⟩:=HOG.out hpos
  exact ⟨g2,cc2,e,hx3.cells H2.out.1 e2 (by decide) (by decide) (by decide) (by decide) (by decide) (by decide) (by decide) (by decide),e3,e4⟩)
 have H3:=toHid (show CL w3 B cp gp bT m' lp p bD bN n s' l (d.knob a b)∧w3.heap[hp]?=some (hostC p true (.pointer (some ⟨cp,0,none⟩)))∧w3.heap[w.heap.size]?=some (fallO a b c k)∧CFr cp bT lp p w w3 from ⟨hs3,hh3,hfa3,H2.out.2.2.2.trans hx3⟩)
 clear hc3 hf3 hs3 hx3 hh3 hfa3 H2 hQ HOG
 go_wp2
 by_cases hN0:N=0
 ·subst hN0
  go_loopw [31] (fun i wr=>i=.int .i64 0∧wr=w3) (fun _ _=>0)
  case atStart=>exact ⟨rfl,rfl⟩
  case round =>
   obtain ⟨rfl,rfl⟩:=hrel
   have hs4:=H3.out.1
   have hh4:=H3.out.2.1
   have hfa4:=H3.out.2.2.1
   have hx4:=H3.out.2.2.2
   have y0:=blk_cell hfa4 0
   have y1:=blk_cell hfa4 1
   have y2:=blk_cell hfa4 2
   have y3:=blk_cell hfa4 3
   simp at y0 y1 y2 y3
   obtain ⟨pv4,hd4⟩:∃ pv,wr.heap[p]?=some (dskO bD bN pv (d.knob a b).left (d.knob a b).full (d.knob a b).down):=by obtain ⟨pv,sv,rv,nD,nN,hl⟩:=hs4.lg;exact ⟨pv,hl.disk.blk⟩
   have hdn4:(d.knob a b).down=false:=hdn
   have H4:=toHid (show CL wr B cp gp bT m' lp p bD bN n s' l (d.knob a b)∧wr.heap[hp]?=some (hostC p true (.pointer (some ⟨cp,0,none⟩)))∧CFr cp bT lp p w wr∧wr.heap[p]?=some (dskO bD bN pv4 (d.knob a b).left (d.knob a b).full (d.knob a b).down) from ⟨hs4,hh4,hx4,hd4⟩)
   clear hs4 hx4 hh4 hfa4 hd4 H3
   go_wp2_with fail
   have hbd:=H4.out.2.2.2
   rw [hdn4] at hbd
   refine (after_c hp p bD bN pv4 _ true _ _ a b c k wr H4.out.2.1 hbd).mono ?_
   clear hbd y0 y1 y2 y3
   rintro e w5 ⟨rfl,hb5,hf5⟩
   rw [← hdn4] at hb5
   obtain ⟨hs5,hx5⟩:=H4.out.1.knob (-1) (-1) hf5 hb5 H4.out.2.2.2
   have hh5:=hx5.cells H4.out.1 H4.out.2.1 (by decide) (by decide) (by decide) (by decide) (by decide) (by decide) (by decide) (by decide)
   have hcf5:=H4.out.2.2.1.trans hx5
   have hr5:=hcf5.hfr HR.out.2
   have hmet5:Met w5:=hr5.met hB hmet
   have H5:=toHid (show CL w5 B cp gp bT m' lp p bD bN n s' l (d.knob (-1) (-1))∧w5.heap[hp]?=some (hostC p true (.pointer (some ⟨cp,0,none⟩)))∧CFr cp bT lp p w w5 from ⟨hs5,hh5,hcf5⟩)
   clear hs5 hx5 hh5 hr5 hb5 hf5 H4 hcf5
   go_wp2_with fail
   refine (told_any xx w5 hmet5).mono ?_
   rintro e w6 ⟨rfl,hf6⟩
   obtain ⟨hs6,hx6⟩:=H5.out.1.new hf6
   have hh6:=hx6.cells H5.out.1 H5.out.2.1 (by decide) (by decide) (by decide) (by decide) (by decide) (by decide) (by decide) (by decide)
   have H6:=toHid (show HCx w6 B hp p cp gp bT lp bD bN m' n s' l (d.knob (-1) (-1))∧CFr cp bT lp p w w6 from ⟨⟨hh6,hs6⟩,H5.out.2.2.trans hx6⟩)
   clear hs6 hx6 hh6 hf6
   go_wp2
   go_ret
   exact ⟨xx,s',m',HQ.out,rfl,H6.out⟩
 ·obtain ⟨g2,cc2,rfl,hg2,hcs,hgl⟩:=HOG3.out (by omega)
  have HG2:=toHid (And.intro hg2 hgl)
  clear hg2 HOG3
  go_loopw [31] (fun i wr=>∃ q:Nat,q≤N∧i=.int .i64 q∧Hid ((∃ cc,wr.heap[g2]?=some (.cells cc 3 (0,0))∧N≤cc.size)∧Fr [g2] w3 wr)) (fun i _=>N - (intOf i).toNat)
  case atStart=>exact ⟨0,Nat.zero_le _,rfl,⟨cc2,HG2.out.1,hcs⟩,Fr.refl _ _⟩
  case round =>
   obtain ⟨q,hq,rfl,HX⟩:=hrel
   by_cases hlt:q<N
   ·obtain ⟨cc,hgq,hcq⟩:=HX.out.1
    have i3:(q:Int)<(N:Int):=by omega
    have d0:=blk_cell hgq q
    have f0:=blk_free hgq q
    obtain ⟨u,hu⟩:∃ u,cc[q]?=some u:=⟨_,Array.getElem?_eq_getElem (by omega)⟩
    rw [hu] at d0
    have HQ2:=toHid (show (∃ cc,(wr.setCell ⟨g2,q,none⟩ (.int .i64 7)).heap[g2]?=some (.cells cc 3 (0,0))∧N≤cc.size)∧Fr [g2] w3 (wr.setCell ⟨g2,q,none⟩ (.int .i64 7)) from ⟨⟨_,blk_set hgq q (.int .i64 7),by simpa using hcq⟩,HX.out.2.trans (Fr.set1 (by simp) _ _)⟩)
    clear hgq hu
    go_wp2
    go_roundw
    case rel=>exact ⟨q+1,by omega,by simp,HQ2.out⟩
    case measure=>simp [intOf];omega
   ·obtain rfl:q=N:=by omega
    have i3:¬ (q:Int)<(q:Int):=by omega
    obtain ⟨hs4,ho4⟩:=H3.out.1.otherF HX.out.2 HG2.out.1 (by decide) (by decide) (by decide) (by decide) (by decide) (by decide) (by decide) (by decide) (by decide) (by decide)
    have ncp:cp∉[g2]:=by
     simp;intro e
     obtain ⟨cs,hcs⟩:=H3.out.1.co.isCo
     rw [e,HG2.out.1] at hcs;cases hcs
    have hx4:=H3.out.2.2.2.young HX.out.2 HG2.out.2 ho4 (HX.out.2.block cp H3.out.1.co.lts.1 ncp)
    have nh:hp∉[g2]:=by
     simp;intro e
     have:=H3.out.2.1
     rw [e,HG2.out.1] at this;cases this
    have nf:w.heap.size∉[g2]:=by
     simp;intro e
     have:=H3.out.2.2.1
     rw [e,HG2.out.1] at this;cases this
    have hh4:=(HX.out.2.block hp (Array.getElem?_eq_some_iff.1 H3.out.2.1).1 nh).trans H3.out.2.1
    have hfa4:=(HX.out.2.block w.heap.size (Array.getElem?_eq_some_iff.1 H3.out.2.2.1).1 nf).trans H3.out.2.2.1
    clear ho4 nh nf ncp HX
    have y0:=blk_cell hfa4 0
    have y1:=blk_cell hfa4 1
    have y2:=blk_cell hfa4 2
    have y3:=blk_cell hfa4 3
    simp at y0 y1 y2 y3
    obtain ⟨pv4,hd4⟩:∃ pv,wr.heap[p]?=some (dskO bD bN pv (d.knob a b).left (d.knob a b).full (d.knob a b).down):=by obtain ⟨pv,sv,rv,nD,nN,hl⟩:=hs4.lg;exact ⟨pv,hl.disk.blk⟩
    have hdn4:(d.knob a b).down=false:=hdn
    have H4:=toHid (show CL wr B cp gp bT m' lp p bD bN n s' l (d.knob a b)∧wr.heap[hp]?=some (hostC p true (.pointer (some ⟨cp,0,none⟩)))∧CFr cp bT lp p w wr∧wr.heap[p]?=some (dskO bD bN pv4 (d.knob a b).left (d.knob a b).full (d.knob a b).down) from ⟨hs4,hh4,hx4,hd4⟩)
    clear hs4 hx4 hh4 hfa4 hd4 H3
    go_wp2_with fail
    have hbd:=H4.out.2.2.2
    rw [hdn4] at hbd
    refine (after_c hp p bD bN pv4 _ true _ _ a b c k wr H4.out.2.1 hbd).mono ?_
    clear hbd y0 y1 y2 y3
    rintro e w5 ⟨rfl,hb5,hf5⟩
    rw [← hdn4] at hb5
    obtain ⟨hs5,hx5⟩:=H4.out.1.knob (-1) (-1) hf5 hb5 H4.out.2.2.2
    have hh5:=hx5.cells H4.out.1 H4.out.2.1 (by decide) (by decide) (by decide) (by decide) (by decide) (by decide) (by decide) (by decide)
    have hcf5:=H4.out.2.2.1.trans hx5
    have hr5:=hcf5.hfr HR.out.2
    have hmet5:Met w5:=hr5.met hB hmet
    have H5:=toHid (show CL w5 B cp gp bT m' lp p bD bN n s' l (d.knob (-1) (-1))∧w5.heap[hp]?=some (hostC p true (.pointer (some ⟨cp,0,none⟩)))∧CFr cp bT lp p w w5 from ⟨hs5,hh5,hcf5⟩)
    clear hs5 hx5 hh5 hr5 hb5 hf5 H4 hcf5
    go_wp2_with fail
    refine (told_any xx w5 hmet5).mono ?_
    rintro e w6 ⟨rfl,hf6⟩
    obtain ⟨hs6,hx6⟩:=H5.out.1.new hf6
    have hh6:=hx6.cells H5.out.1 H5.out.2.1 (by decide) (by decide) (by decide) (by decide) (by decide) (by decide) (by decide) (by decide)
    have H6:=toHid (show HCx w6 B hp p cp gp bT lp bD bN m' n s' l (d.knob (-1) (-1))∧CFr cp bT lp p w w6 from ⟨⟨hh6,hs6⟩,H5.out.2.2.trans hx6⟩)
    clear hs6 hx6 hh6 hf6
    go_wp2
    go_ret
    exact ⟨xx,s',m',HQ.out,rfl,H6.out⟩
end Go.Proofs.YtejiankgafjppaaGreatDoor
