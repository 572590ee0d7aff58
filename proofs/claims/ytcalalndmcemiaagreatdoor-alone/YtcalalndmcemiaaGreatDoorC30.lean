import Derived.Test.YtcalalndmcemiaaGreatDoorC29
set_option maxRecDepth 100000
set_option maxHeartbeats 16000000
namespace Go.Proofs.YtcalalndmcemiaaGreatDoor
open Go.RowKit Go.Maps
open Sc
theorem jG3 (s:ByteArray) (c:Nat):strO s c=.cells (bytesRow s c) 5 ((bytesRow s c).size,(bytesRow s c).size+1):=rfl
theorem jF3 (s:ByteArray) (c:Nat):s.size≤(bytesRow s c).size:=by
 unfold bytesRow
 simp
theorem jG7 (c:Array Value) (fr:Nat × Nat) (t:ByteArray):(some (.cells c 5 fr):Option Obj)≠some (jBc t):=by
 intro e
 cases e
theorem jN6 (c:Array Value) (fr:Nat × Nat) (a b x y:Int):(some (.cells c 5 fr):Option Obj)≠some (jDj a b x y):=by
 intro e
 cases e
def jC2 (i:Nat) (s:AShard) (out:List Msg) (x:Msg):AShard × List Msg :=
 if x.kind=1 then ((s.vote x.txn).1,out++[⟨(s.vote x.txn).2,i,x.src,x.txn⟩]) else if x.kind=5 then (s.commS x.txn,out++[⟨7,i,x.src,x.txn⟩]) else (s.forget x.txn,out)
def jCk (c:ACo) (out:List Msg) (x:Msg):ACo × List Msg :=
 if x.kind=7 then (c.doneS x.txn x.src,out) else (c.voted x.txn x.src x.kind,out)
theorem jPz (i:Nat) (s:AShard) (out:List Msg) (x:Msg):(jC2 i s out x).2.length≤out.length+1:=by
 unfold jC2
 split
 ·simp
 ·split <;> simp
theorem jPu (c:ACo) (out:List Msg) (x:Msg):(jCk c out x).2.length≤out.length+1:=by
 unfold jCk
 split <;> simp
theorem NFr.young {L L':List Nat} {w' w2:World} (hf:NFr L L' w' w2) {n:Nat} (hL:∀ k∈L,k<n):∀ k,n≤k→k<w'.heap.size→w2.heap[k]?=w'.heap[k]?:=λk hk hl=>hf.fr.block k hl (λhm=>by have:=hL k hm;omega)
theorem jUy (B i hp nd p sp gp bV bT bH lp bD bN m n K:Nat) (s:AShard) (l:ALog) (d:ADisk) (ov:Value) (out:List Msg) (w:World) (x:Msg) (hx:x.Ok) (hk:x.kind=1∨x.kind=5∨x.kind=6) (he:x.kind=5→s.commE x.txn=0) (h:ShP w B i hp nd p sp gp bV bT bH lp bD bN m n s l (d.knob (-1) (-1)) ov out) (hw:LgW l d) (hg:SGood K s) (hm:m≤60000000) (hn:n≤60000000) (ho:out.length≤60000000) (hB:2≤B) (hpow:Pows w) :
  ∃ f,jA3 jP5 x.kind=some (some f)∧jBs f∧Calls Tryz.prog f #[.pointer (some ⟨nd,0,none⟩),.agg #[.int .i64 (x.kind:Int),.int .i64 (x.src:Int),.int .i64 (x.dst:Int),.int .u64 (x.txn:Int)]] w λe w'=>e=.returned .nilIface∧jH2 B i hp nd p sp gp bV bT bH lp bD bN m n (jC2 i s out x).1 (jC2 i s out x).2 w w':=by
 have h0:=hx.small.2.2.2
 unfold jC2
 rcases hk with e | e | e
 ·rw [if_pos e]
  exact ⟨_,by rw [e];rfl,jW6,dPrep B i hp nd p sp gp bV bT bH lp bD bN m n K x.kind x.src x.dst x.txn s l d ov out w h hw hg h0 hm hn ho hB hpow hx.id⟩
 ·rw [if_neg oE,if_pos e]
  exact ⟨_,by rw [e];rfl,jWq,dComm B i hp nd p sp gp bV bT bH lp bD bN m n K x.kind x.src x.dst x.txn s l d ov out w h hw hg h0 (he e) hm hn ho hB hpow hx.id⟩
 ·rw [if_neg oE,if_neg oE]
  exact ⟨_,by rw [e];rfl,jWp,dAbrt B i hp nd p sp gp bV bT bH lp bD bN m n x.kind x.src x.dst x.txn s l d ov out w h hw h0 hm hn ho hB hpow hx.id⟩
theorem jY9 (B i hp K:Nat) (s:AShard) (out:List Msg) (L:List Nat) (w:World) (x:Msg) (hx:x.Ok) (hdst:x.dst=i) (hk:x.kind=1∨x.kind=5∨x.kind=6) (he:x.kind=5→s.commE x.txn=0) (h:ShNode w B i hp s out K L) (hg:SGood K s) (hB:2≤B) (hmet:Met w) (hpow:Pows w) (hK:K≤290000) :
  Calls Tryz.prog 72 #[.pointer (some ⟨hp,0,none⟩),.string (str x.bytes),jD1 (-1) (-1) 0 0] w λe w'=>e=.returned (.int .i64 0)∧∃ L',ShNode w' B i hp (jC2 i s out x).1 (jC2 i s out x).2 (K+1) L'∧NFr L L' w w':=by
 obtain ⟨nd,p,sp,gp,bV,bT,bH,lp,bD,bN,m,n,l,d,ov,hP,hw,hm,rfl⟩:=h
 obtain ⟨W,hW⟩:∃ W,W=w.alloc (jDj (-1) (-1) 0 0):=⟨_,rfl⟩
 have hf0:Fr [] w W:=by rw [hW];exact (Fr.refl [] w).alloc _
 obtain ⟨hP0,hN0⟩:=hP.new hf0
 have hfa0:W.heap[w.heap.size]?=some (jDj (-1) (-1) 0 0):=by rw [hW];exact heap_alloc_new w _
 have c7:=jA0 hP0.hh 7
 have x0:=jA0 hfa0 0
 have x1:=jA0 hfa0 1
 have x2:=jA0 hfa0 2
 have x3:=jA0 hfa0 3
 simp at c7 x0 x1 x2 x3
 rw [hW] at c7 x0 x1 x2 x3
 obtain ⟨pv0,hd0⟩:∃ pv,W.heap[p]?=some (dskO bD bN pv d.left d.full d.down):=by obtain ⟨pv,sv,rv,nD,nN,hl⟩:=hP0.sl.lg;exact ⟨pv,hl.disk.blk⟩
 have H0:=jA1 (And.intro hP0 (And.intro hN0 (And.intro hfa0 (And.intro hd0 (And.intro hP (And.intro hw hm))))))
 have HG:=jA1 (And.intro hx hg)
 have HK:=jA1 hK
 have HM:=jA1 hmet
 clear hP0 hN0 hfa0 hd0 hP hw hm hf0 hx hg hK
 go_enter Tryz.func72,Tryz.ntmps72
 go_wp2_with fail
 rw [← hW]
 clear hW c7 x0 x1 x2 x3
 refine (jEa hp p bD bN i pv0 _ _ _ true d.down d.left d.full (-1) (-1) 0 0 W H0.out.1.hh H0.out.2.2.2.1).mono ?_
 rintro e w1 ⟨rfl,hb1,hf1⟩
 obtain ⟨hs1,hx1⟩:=H0.out.1.sl.knob (-1) (-1) hf1 hb1 H0.out.2.2.2.1
 obtain ⟨hP1,hN1⟩:=H0.out.1.sfr hx1 hs1
 have hfa1:=hx1.cells H0.out.1.sl H0.out.2.2.1 dN dN dN dN dN dN
 have H1:=jA1 (And.intro hP1 (And.intro (H0.out.2.1.trans hN1) hfa1))
 have d7:=jA0 hP1.hh 7
 simp at d7
 have hmet1:=((H0.out.2.2.2.2.1.keeps (H0.out.2.1.trans hN1) hB).1 hmet)
 have hpow1:=((H0.out.2.2.2.2.1.keeps (H0.out.2.1.trans hN1) hB).2 hpow)
 clear hb1 hf1 hs1 hx1 hP1 hN1 hfa1 hmet hpow
 have hrb:=jE3
 have hsz:(str x.bytes).size=15:=by rw [jB1];exact x.bytes_len
 obtain ⟨ca,hca⟩:∃ ca,ca=grownCap w1 15 0 5:=⟨_,rfl⟩
 obtain ⟨W2,hW2⟩:∃ W2,W2=(w1.alloc (strO (str x.bytes) ca)).drew:=⟨_,rfl⟩
 have hf2:Fr [] w1 W2:=by rw [hW2];exact ((Fr.refl [] w1).alloc _).drew
 obtain ⟨hP2,hN2⟩:=H1.out.1.new hf2
 have hfa2:=(hf2.block _ (Array.getElem?_eq_some_iff.1 H1.out.2.2).1 sE).trans H1.out.2.2
 have hrow2:RowAt W2 w1.heap.size 0 x.bytes:=by
  have:=jIk w1 (str x.bytes) ca
  rw [jCt HG.out.1.byt] at this
  rw [hW2]
  exact this
 have hob2:W2.heap[w1.heap.size]?=some (strO (str x.bytes) ca):=by rw [hW2];exact heap_alloc_new w1 (strO (str x.bytes) ca)
 have hcap:15≤ca∧ca≤maxLen:=by rw [hca];exact ⟨grownCap_ge _ _ _ _,grownCap_le_maxLen _ _ _ _ (by unfold maxLen;decide)⟩
 have e7:∀ ob,(w1.alloc ob).cell? ⟨hp,7,none⟩=some (.pointer (some ⟨nd,0,none⟩)):=λob=>(World.cell?_of_block (a:=⟨hp,7,none⟩) (Below.heap_alloc w1 ob hp (Array.getElem?_eq_some_iff.1 H1.out.1.hh).1)).trans d7
 have hlt2:∀ k∈ownL hp nd p lp sp gp W2,k<W2.heap.size:=λk hk=>(hP2.obj k hk).2.lt
 obtain ⟨f,hfn,hen,-⟩:=jUy B i hp nd p sp gp bV bT bH lp bD bN m n K s l d ov out W2 x HG.out.1 hk he hP2 H0.out.2.2.2.2.2.1 HG.out.2 (by have h1:=H0.out.2.2.2.2.2.2;have h2:=HK.out;omega) (by have h1:=H0.out.2.2.2.2.2.2;have h2:=HK.out;omega) (by have h1:=H0.out.2.2.2.2.2.2;have h2:=HK.out;omega) hB ((H1.out.1.keeps hN2 hB).2 hpow1)
 have hrc:=jNc nd i w1.heap.size ca f none (some ⟨sp,0,none⟩) ov x HG.out.1 hdst hfn hen (.inl ⟨rfl,_,rfl⟩) W2 hP2.hnd hrow2 hcap (λw3=>jH2 B i hp nd p sp gp bV bT bH lp bD bN m n (jC2 i s out x).1 (jC2 i s out x).2 W2 w3∧∀ k,k<W2.heap.size→k∉ownL hp nd p lp sp gp W2→w3.heap[k]?=W2.heap[k]?) (λw' hw'=>by
  obtain ⟨hP',hN'⟩:=hP2.new hw'
  obtain ⟨f',hfn',-,hcl⟩:=jUy B i hp nd p sp gp bV bT bH lp bD bN m n K s l d ov out w' x HG.out.1 hk he hP' H0.out.2.2.2.2.2.1 HG.out.2 (by have h1:=H0.out.2.2.2.2.2.2;have h2:=HK.out;omega) (by have h1:=H0.out.2.2.2.2.2.2;have h2:=HK.out;omega) (by have h1:=H0.out.2.2.2.2.2.2;have h2:=HK.out;omega) hB ((hP2.keeps hN' hB).2 ((H1.out.1.keeps hN2 hB).2 hpow1))
  rw [hfn] at hfn'
  cases hfn'
  refine hcl.mono ?_
  rintro e w3 ⟨rfl,l',d',m',n',ov',q1,q2,q3,q4,q5⟩
  refine ⟨rfl,⟨⟨l',d',m',n',ov',q1,q2,q3,q4,hN'.trans q5⟩,λk hk hn=>(hN'.trans q5).fr.block k hk hn⟩,q5.young (λk hk=>?_)⟩
  rw [hP2.ownNew hw'] at hk
  exact hlt2 k hk)
 have hnL:∀ k,k<W2.heap.size→(∃ c t fr,W2.heap[k]?=some (.cells c t fr)∧¬ jAd t)→k∉ownL hp nd p lp sp gp W2:=λk _ ⟨c,t,fr,e,ht⟩ hm=>ht (by have:=(hP2.obj k hm).2;rw [e] at this;exact this.not)
 have HP2:=jA1 (And.intro hP2 (And.intro hN2 (And.intro hfa2 (And.intro hob2 hnL))))
 have HRC:=jA1 hrc
 clear hfn hen hP2 hN2 hfa2 hob2 hrow2 hcap hlt2 hf2 hnL hrc
 go_wp2_with fail
 rw [← hca,← hW2]
 clear hW2 hca e7 d7 hrb
 refine HRC.out.mono ?_
 rintro e w3 ⟨rfl,⟨l',d',m',n',ov',hP3,hw3,hm3,hn3,hN3⟩,hst3⟩
 have hob3:=(hst3 _ (Array.getElem?_eq_some_iff.1 HP2.out.2.2.2.1).1 (HP2.out.2.2.2.2 _ (Array.getElem?_eq_some_iff.1 HP2.out.2.2.2.1).1 ⟨_,_,_,HP2.out.2.2.2.1,by simp [jAd]⟩)).trans HP2.out.2.2.2.1
 have hfa3:=(hst3 _ (Array.getElem?_eq_some_iff.1 HP2.out.2.2.1).1 (HP2.out.2.2.2.2 _ (Array.getElem?_eq_some_iff.1 HP2.out.2.2.1).1 ⟨_,_,_,HP2.out.2.2.1,by simp [jAd]⟩)).trans HP2.out.2.2.1
 have H3:=jA1 (And.intro hP3 (And.intro hw3 (And.intro hm3 (And.intro hn3 (And.intro ((H1.out.2.1.trans HP2.out.2.1).trans hN3) hfa3)))))
 have hgw:w.heap.size≤w1.heap.size:=H1.out.2.1.fr.size
 have hsc:=jFs w1.heap.size 15 ca (bytesRow (str x.bytes) ca) w3 hob3 (by have:=jF3 (str x.bytes) ca;omega) dN
 have HO:Hid (w3.heap[w1.heap.size]?=some (strO (str x.bytes) ca)):=hob3
 clear hob3 hfa3 hP3 hw3 hm3 hn3 hN3 hst3 HRC HP2 hmet1 hpow1
 go_wp2_with fail
 refine hsc.mono ?_
 rintro e w4 ⟨rfl,hf4⟩
 have hr3:=HO.out
 have hne3:w1.heap.size∉ownL hp nd p lp sp gp w3:=λhm=>by have:=(H3.out.1.obj _ hm).2;rw [hr3] at this;have:=this.not;simp [jAd] at this
 obtain ⟨hP4,hL4⟩:=H3.out.1.apart hf4 (by intro k hk _;simp at hk;subst hk;exact ⟨hne3,λt e=>by rw [hr3,jG3] at e;exact jG7 _ _ _ e⟩)
 have hN4:=H3.out.2.2.2.2.1.young1 hf4 (by intro k hk;simp at hk;omega)
 rw [← hL4] at hN4
 have hfa4:=(hf4.block _ (Array.getElem?_eq_some_iff.1 H3.out.2.2.2.2.2).1 (by simp;intro e;have h1:=H3.out.2.2.2.2.2;rw [e,hr3,jG3] at h1;exact jN6 _ _ _ _ _ _ h1)).trans H3.out.2.2.2.2.2
 have y0:=jA0 hfa4 0
 have y1:=jA0 hfa4 1
 have y2:=jA0 hfa4 2
 have y3:=jA0 hfa4 3
 simp at y0 y1 y2 y3
 have hdn:=H3.out.2.1.2
 obtain ⟨pv4,hd4⟩:∃ pv,w4.heap[p]?=some (dskO bD bN pv d'.left d'.full d'.down):=by obtain ⟨pv,sv,rv,nD,nN,hl⟩:=hP4.sl.lg;exact ⟨pv,hl.disk.blk⟩
 have H4:=jA1 (And.intro hP4 (And.intro hN4 hd4))
 clear hP4 hL4 hN4 hfa4 hd4 hf4 hsc hr3 hne3
 go_wp2_with fail
 have hbd:=H4.out.2.2
 rw [hdn] at hbd
 refine (jFc hp p bD bN i pv4 _ _ _ true d'.left d'.full (-1) (-1) 0 0 w4 H4.out.1.hh hbd).mono ?_
 clear hbd y0 y1 y2 y3
 rintro e w5 ⟨rfl,hb5,hf5⟩
 rw [← hdn] at hb5
 obtain ⟨hs5,hx5⟩:=H4.out.1.sl.knob (-1) (-1) hf5 hb5 H4.out.2.2
 obtain ⟨hP5,hN5⟩:=H4.out.1.sfr hx5 hs5
 have hmet5:=(H0.out.2.2.2.2.1.keeps (H4.out.2.1.trans hN5) hB).1 HM.out
 have H5:=jA1 (And.intro hP5 (H4.out.2.1.trans hN5))
 clear hb5 hf5 hs5 hx5 hP5 hN5
 go_wp2_with fail
 refine (jD4 0 w5 hmet5).mono ?_
 rintro e w6 ⟨rfl,hf6⟩
 obtain ⟨hP6,hN6⟩:=H5.out.1.new hf6
 have H6:=jA1 (show ShNode w6 B i hp (jC2 i s out x).1 (jC2 i s out x).2 (K+1) (ownL hp nd p lp sp gp w6)∧NFr (ownL hp nd p lp sp gp w) (ownL hp nd p lp sp gp w6) w w6 from ⟨⟨nd,p,sp,gp,bV,bT,bH,lp,bD,bN,m',n',l',_,ov',hP6,H3.out.2.1.knob _ _,(by have h1:=H0.out.2.2.2.2.2.2;have h2:=H3.out.2.2;have h3:=jPz i s out x;omega),rfl⟩,H5.out.2.trans hN6⟩)
 clear hP6 hN6 hf6
 go_wp2
 go_ret
 exact ⟨rfl,_,H6.out⟩
theorem jUw (B hp nd p cp gp bT lp bD bN m n:Nat) (c:ACo) (l:ALog) (d:ADisk) (ov:Value) (out:List Msg) (w:World) (x:Msg) (hx:x.Ok) (hk:x.kind=2∨x.kind=3∨x.kind=4∨x.kind=7) (h:CoP w B hp nd p cp gp bT lp bD bN m n c l (d.knob (-1) (-1)) ov out) (hw:LgW l d) (hm:m≤60000000) (hn:n≤60000000) (ho:out.length≤60000000) (hB:2≤B) (hpow:Pows w) :
  ∃ f,jA3 jP5 x.kind=some (some f)∧jBs f∧Calls Tryz.prog f #[.pointer (some ⟨nd,0,none⟩),.agg #[.int .i64 (x.kind:Int),.int .i64 (x.src:Int),.int .i64 (x.dst:Int),.int .u64 (x.txn:Int)]] w λe w'=>e=.returned .nilIface∧jMk B hp nd p cp gp bT lp bD bN m n (jCk c out x).1 (jCk c out x).2 w w':=by
 have h1:=hx.small.2.1
 unfold jCk
 by_cases e:x.kind=7
 ·rw [if_pos e]
  exact ⟨_,by rw [e];rfl,jW9,dDone B hp nd p cp gp bT lp bD bN m n x.kind x.src x.dst x.txn c l d ov out w h hw oE hm hn ho hB hpow hx.id⟩
 ·rw [if_neg e]
  have hv:x.kind=2∨x.kind=3∨x.kind=4:=by omega
  refine ⟨_,?_,jWk,dVote B hp nd p cp gp bT lp bD bN m n x.kind x.src x.dst x.txn c l d ov out w h hw oE hv hm hn ho hB hpow hx.id⟩
  rcases hv with e | e | e <;> (rw [e];rfl)
theorem jXw (B hp K:Nat) (c:ACo) (out:List Msg) (L:List Nat) (w:World) (x:Msg) (hx:x.Ok) (hdst:x.dst=0) (hk:x.kind=2∨x.kind=3∨x.kind=4∨x.kind=7) (h:CoNode w B hp c out K L) (hB:2≤B) (hmet:Met w) (hpow:Pows w) (hK:K≤290000) :
  Calls Tryz.prog 72 #[.pointer (some ⟨hp,0,none⟩),.string (str x.bytes),jD1 (-1) (-1) 0 0] w λe w'=>e=.returned (.int .i64 0)∧∃ L',CoNode w' B hp (jCk c out x).1 (jCk c out x).2 (K+1) L'∧NFr L L' w w':=by
 obtain ⟨nd,p,cp,gp,bT,lp,bD,bN,m,n,l,d,ov,hP,hw,hm,rfl⟩:=h
 obtain ⟨W,hW⟩:∃ W,W=w.alloc (jDj (-1) (-1) 0 0):=⟨_,rfl⟩
 have hf0:Fr [] w W:=by rw [hW];exact (Fr.refl [] w).alloc _
 obtain ⟨hP0,hN0⟩:=hP.new hf0
 have hfa0:W.heap[w.heap.size]?=some (jDj (-1) (-1) 0 0):=by rw [hW];exact heap_alloc_new w _
 have c7:=jA0 hP0.hh 7
 have x0:=jA0 hfa0 0
 have x1:=jA0 hfa0 1
 have x2:=jA0 hfa0 2
 have x3:=jA0 hfa0 3
 simp at c7 x0 x1 x2 x3
 rw [hW] at c7 x0 x1 x2 x3
 obtain ⟨pv0,hd0⟩:∃ pv,W.heap[p]?=some (dskO bD bN pv d.left d.full d.down):=by obtain ⟨pv,sv,rv,nD,nN,hl⟩:=hP0.sl.lg;exact ⟨pv,hl.disk.blk⟩
 have H0:=jA1 (And.intro hP0 (And.intro hN0 (And.intro hfa0 (And.intro hd0 (And.intro hP (And.intro hw hm))))))
 have HG:=jA1 (And.intro hx trivial)
 have HK:=jA1 hK
 have HM:=jA1 hmet
 clear hP0 hN0 hfa0 hd0 hP hw hm hf0 hx hK
 go_enter Tryz.func72,Tryz.ntmps72
 go_wp2_with fail
 rw [← hW]
 clear hW c7 x0 x1 x2 x3
 refine (jEa hp p bD bN 0 pv0 _ _ _ true d.down d.left d.full (-1) (-1) 0 0 W H0.out.1.hh H0.out.2.2.2.1).mono ?_
 rintro e w1 ⟨rfl,hb1,hf1⟩
 obtain ⟨hs1,hx1⟩:=H0.out.1.sl.knob (-1) (-1) hf1 hb1 H0.out.2.2.2.1
 obtain ⟨hP1,hN1⟩:=H0.out.1.cfr hx1 hs1
 have hfa1:=hx1.cells H0.out.1.sl H0.out.2.2.1 dN dN dN dN dN dN dN dN
 have H1:=jA1 (And.intro hP1 (And.intro (H0.out.2.1.trans hN1) hfa1))
 have d7:=jA0 hP1.hh 7
 simp at d7
 have hmet1:=((H0.out.2.2.2.2.1.keeps (H0.out.2.1.trans hN1) hB).1 hmet)
 have hpow1:=((H0.out.2.2.2.2.1.keeps (H0.out.2.1.trans hN1) hB).2 hpow)
 clear hb1 hf1 hs1 hx1 hP1 hN1 hfa1 hmet hpow
 have hrb:=jE3
 have hsz:(str x.bytes).size=15:=by rw [jB1];exact x.bytes_len
 obtain ⟨ca,hca⟩:∃ ca,ca=grownCap w1 15 0 5:=⟨_,rfl⟩
 obtain ⟨W2,hW2⟩:∃ W2,W2=(w1.alloc (strO (str x.bytes) ca)).drew:=⟨_,rfl⟩
 have hf2:Fr [] w1 W2:=by rw [hW2];exact ((Fr.refl [] w1).alloc _).drew
 obtain ⟨hP2,hN2⟩:=H1.out.1.new hf2
 have hfa2:=(hf2.block _ (Array.getElem?_eq_some_iff.1 H1.out.2.2).1 sE).trans H1.out.2.2
 have hrow2:RowAt W2 w1.heap.size 0 x.bytes:=by
  have:=jIk w1 (str x.bytes) ca
  rw [jCt HG.out.1.byt] at this
  rw [hW2]
  exact this
 have hob2:W2.heap[w1.heap.size]?=some (strO (str x.bytes) ca):=by rw [hW2];exact heap_alloc_new w1 (strO (str x.bytes) ca)
 have hcap:15≤ca∧ca≤maxLen:=by rw [hca];exact ⟨grownCap_ge _ _ _ _,grownCap_le_maxLen _ _ _ _ (by unfold maxLen;decide)⟩
 have e7:∀ ob,(w1.alloc ob).cell? ⟨hp,7,none⟩=some (.pointer (some ⟨nd,0,none⟩)):=λob=>(World.cell?_of_block (a:=⟨hp,7,none⟩) (Below.heap_alloc w1 ob hp (Array.getElem?_eq_some_iff.1 H1.out.1.hh).1)).trans d7
 have hlt2:∀ k∈ownL hp nd p lp cp gp W2,k<W2.heap.size:=λk hk=>(hP2.obj k hk).2.lt
 obtain ⟨f,hfn,hen,-⟩:=jUw B hp nd p cp gp bT lp bD bN m n c l d ov out W2 x HG.out.1 hk hP2 H0.out.2.2.2.2.2.1 (by have h1:=H0.out.2.2.2.2.2.2;have h2:=HK.out;omega) (by have h1:=H0.out.2.2.2.2.2.2;have h2:=HK.out;omega) (by have h1:=H0.out.2.2.2.2.2.2;have h2:=HK.out;omega) hB ((H1.out.1.keeps hN2 hB).2 hpow1)
 have hrc:=jNc nd 0 w1.heap.size ca f (some ⟨cp,0,none⟩) none ov x HG.out.1 hdst hfn hen (.inr ⟨⟨_,rfl⟩,rfl⟩) W2 hP2.hnd hrow2 hcap (λw3=>jMk B hp nd p cp gp bT lp bD bN m n (jCk c out x).1 (jCk c out x).2 W2 w3∧∀ k,k<W2.heap.size→k∉ownL hp nd p lp cp gp W2→w3.heap[k]?=W2.heap[k]?) (λw' hw'=>by
  obtain ⟨hP',hN'⟩:=hP2.new hw'
  obtain ⟨f',hfn',-,hcl⟩:=jUw B hp nd p cp gp bT lp bD bN m n c l d ov out w' x HG.out.1 hk hP' H0.out.2.2.2.2.2.1 (by have h1:=H0.out.2.2.2.2.2.2;have h2:=HK.out;omega) (by have h1:=H0.out.2.2.2.2.2.2;have h2:=HK.out;omega) (by have h1:=H0.out.2.2.2.2.2.2;have h2:=HK.out;omega) hB ((hP2.keeps hN' hB).2 ((H1.out.1.keeps hN2 hB).2 hpow1))
  rw [hfn] at hfn'
  cases hfn'
  refine hcl.mono ?_
  rintro e w3 ⟨rfl,l',d',m',n',ov',q1,q2,q3,q4,q5⟩
  refine ⟨rfl,⟨⟨l',d',m',n',ov',q1,q2,q3,q4,hN'.trans q5⟩,λk hk hn=>(hN'.trans q5).fr.block k hk hn⟩,q5.young (λk hk=>?_)⟩
  rw [hP2.ownNew hw'] at hk
  exact hlt2 k hk)
 have hnL:∀ k,k<W2.heap.size→(∃ c t fr,W2.heap[k]?=some (.cells c t fr)∧¬ jAd t)→k∉ownL hp nd p lp cp gp W2:=λk _ ⟨c,t,fr,e,ht⟩ hm=>ht (by have:=(hP2.obj k hm).2;rw [e] at this;exact this.not)
 have HP2:=jA1 (And.intro hP2 (And.intro hN2 (And.intro hfa2 (And.intro hob2 hnL))))
 have HRC:=jA1 hrc
 clear hfn hen hP2 hN2 hfa2 hob2 hrow2 hcap hlt2 hf2 hnL hrc
 go_wp2_with fail
 rw [← hca,← hW2]
 clear hW2 hca e7 d7 hrb
 refine HRC.out.mono ?_
 rintro e w3 ⟨rfl,⟨l',d',m',n',ov',hP3,hw3,hm3,hn3,hN3⟩,hst3⟩
 have hob3:=(hst3 _ (Array.getElem?_eq_some_iff.1 HP2.out.2.2.2.1).1 (HP2.out.2.2.2.2 _ (Array.getElem?_eq_some_iff.1 HP2.out.2.2.2.1).1 ⟨_,_,_,HP2.out.2.2.2.1,by simp [jAd]⟩)).trans HP2.out.2.2.2.1
 have hfa3:=(hst3 _ (Array.getElem?_eq_some_iff.1 HP2.out.2.2.1).1 (HP2.out.2.2.2.2 _ (Array.getElem?_eq_some_iff.1 HP2.out.2.2.1).1 ⟨_,_,_,HP2.out.2.2.1,by simp [jAd]⟩)).trans HP2.out.2.2.1
 have H3:=jA1 (And.intro hP3 (And.intro hw3 (And.intro hm3 (And.intro hn3 (And.intro ((H1.out.2.1.trans HP2.out.2.1).trans hN3) hfa3)))))
 have hgw:w.heap.size≤w1.heap.size:=H1.out.2.1.fr.size
 have hsc:=jFs w1.heap.size 15 ca (bytesRow (str x.bytes) ca) w3 hob3 (by have:=jF3 (str x.bytes) ca;omega) dN
 have HO:Hid (w3.heap[w1.heap.size]?=some (strO (str x.bytes) ca)):=hob3
 clear hob3 hfa3 hP3 hw3 hm3 hn3 hN3 hst3 HRC HP2 hmet1 hpow1
 go_wp2_with fail
 refine hsc.mono ?_
 rintro e w4 ⟨rfl,hf4⟩
 have hr3:=HO.out
 have hne3:w1.heap.size∉ownL hp nd p lp cp gp w3:=λhm=>by have:=(H3.out.1.obj _ hm).2;rw [hr3] at this;have:=this.not;simp [jAd] at this
 obtain ⟨hP4,hL4⟩:=H3.out.1.apart hf4 (by intro k hk _;simp at hk;subst hk;exact ⟨hne3,λt e=>by rw [hr3,jG3] at e;exact jG7 _ _ _ e⟩)
 have hN4:=H3.out.2.2.2.2.1.young1 hf4 (by intro k hk;simp at hk;omega)
 rw [← hL4] at hN4
 have hfa4:=(hf4.block _ (Array.getElem?_eq_some_iff.1 H3.out.2.2.2.2.2).1 (by simp;intro e;have h1:=H3.out.2.2.2.2.2;rw [e,hr3,jG3] at h1;exact jN6 _ _ _ _ _ _ h1)).trans H3.out.2.2.2.2.2
 have y0:=jA0 hfa4 0
 have y1:=jA0 hfa4 1
 have y2:=jA0 hfa4 2
 have y3:=jA0 hfa4 3
 simp at y0 y1 y2 y3
 have hdn:=H3.out.2.1.2
 obtain ⟨pv4,hd4⟩:∃ pv,w4.heap[p]?=some (dskO bD bN pv d'.left d'.full d'.down):=by obtain ⟨pv,sv,rv,nD,nN,hl⟩:=hP4.sl.lg;exact ⟨pv,hl.disk.blk⟩
 have H4:=jA1 (And.intro hP4 (And.intro hN4 hd4))
 clear hP4 hL4 hN4 hfa4 hd4 hf4 hsc hr3 hne3
 go_wp2_with fail
 have hbd:=H4.out.2.2
 rw [hdn] at hbd
 refine (jFc hp p bD bN 0 pv4 _ _ _ true d'.left d'.full (-1) (-1) 0 0 w4 H4.out.1.hh hbd).mono ?_
 clear hbd y0 y1 y2 y3
 rintro e w5 ⟨rfl,hb5,hf5⟩
 rw [← hdn] at hb5
 obtain ⟨hs5,hx5⟩:=H4.out.1.sl.knob (-1) (-1) hf5 hb5 H4.out.2.2
 obtain ⟨hP5,hN5⟩:=H4.out.1.cfr hx5 hs5
 have hmet5:=(H0.out.2.2.2.2.1.keeps (H4.out.2.1.trans hN5) hB).1 HM.out
 have H5:=jA1 (And.intro hP5 (H4.out.2.1.trans hN5))
 clear hb5 hf5 hs5 hx5 hP5 hN5
 go_wp2_with fail
 refine (jD4 0 w5 hmet5).mono ?_
 rintro e w6 ⟨rfl,hf6⟩
 obtain ⟨hP6,hN6⟩:=H5.out.1.new hf6
 have H6:=jA1 (show CoNode w6 B hp (jCk c out x).1 (jCk c out x).2 (K+1) (ownL hp nd p lp cp gp w6)∧NFr (ownL hp nd p lp cp gp w) (ownL hp nd p lp cp gp w6) w w6 from ⟨⟨nd,p,cp,gp,bT,lp,bD,bN,m',n',l',_,ov',hP6,H3.out.2.1.knob _ _,(by have h1:=H0.out.2.2.2.2.2.2;have h2:=H3.out.2.2;have h3:=jPu c out x;omega),rfl⟩,H5.out.2.trans hN6⟩)
 clear hP6 hN6 hf6
 go_wp2
 go_ret
 exact ⟨rfl,_,H6.out⟩
theorem jHo (k f t x:Nat) (w:World) (hs:jEq k f t x=true) (hk:k≤8) (hf:f≤8) (ht:t≤8) (hx:x<18446744073709551616) :
  Calls Tryz.prog 114 #[.agg #[.int .i64 k,.int .i64 f,.int .i64 t,.int .u64 x]] w λe w'=>∃ g,e=.returned (.tuple #[.slice (some ⟨g,0,none⟩) 15 15,.nilIface])∧w'.ownsRow w.heap.size 5 1 (.slice (some ⟨g,0,none⟩) 15 15) 15 (bs (jD6 k f t x))∧Below w.heap.size w w':=by
 have HX:Hid (x<18446744073709551616):=hx
 clear hx
 obtain ⟨i0,hi,hz0,hz1,hz2⟩:=info_parts Tryz.info5
 have hnot:∀ (x:Bool) (w:World),(Op.unary .not (.bool x)).run Tryz.prog w=.ok (.bool (!x)) w:=λ_ _=>rfl
 go_enter Tryz.func114,Tryz.ntmps114
 go_wp2_with (first | (go_at_call 155;refine (jEl _ _ _ _ _).mono ?_;rintro e w' ⟨rfl,rfl⟩) | (at_make;refine wpList_make_own _ rfl _ _ 88 rfl (w.heap.size+1+1) 5 i0 (.int .u8 0) 1 Tryz.underlying88 hi hz0 hz1 .i64 .i64 _ 15 rfl rfl rfl (by rw [hz2];decide) (by decide) (by simp) ?_;intro w1 ho1 hg1;have hc1:=jSg hg1 (by simp);have ho1':=jXx ho1;clear ho1))
 have HX2:=HX
 have hg1':((w.alloc (msgO k f t x)).alloc (msgO k f t x)).grownBy w1 none:=by assumption
 have hz1':w.heap.size+1+1<w1.heap.size:=(jDp (xs:=[]) ho1').2
 have HB1:Hid (Below w.heap.size w w1):=(((Below.refl _ _).alloc (Nat.le_refl _) _).alloc sE _).grown hg1' (by simp;omega) (λq hq=>by cases hq)
 clear hg1 hg1'
 refine (jNa (w.heap.size+1+1) _ 0 15 [] k _ ho1' oE oE).mono ?_
 rintro e w2 ⟨rfl,ho2,hg2⟩
 have hc2:∀ i,w2.cell? ⟨w.heap.size,i,none⟩=(w.alloc (msgO k f t x)).cell? ⟨w.heap.size,i,none⟩:=λi=>(jCh hg2 oE (by simp;omega) i).trans (hc1 i)
 have HB2:Hid (Below w.heap.size w w2):=HB1.out.grown hg2 oE (λq hq=>by cases hq;omega)
 have hz2':w.heap.size+1+1<w2.heap.size:=(jDp ho2).2
 clear hc1 ho1' hg2
 go_wp2_with fail
 refine (jNa (w.heap.size+1+1) _ 1 15 _ f _ ho2 oE oE).mono ?_
 rintro e w3 ⟨rfl,ho3,hg3⟩
 have hc3:∀ i,w3.cell? ⟨w.heap.size,i,none⟩=(w.alloc (msgO k f t x)).cell? ⟨w.heap.size,i,none⟩:=λi=>(jCh hg3 oE (by simp;omega) i).trans (hc2 i)
 have HB3:Hid (Below w.heap.size w w3):=HB2.out.grown hg3 oE (λq hq=>by cases hq;omega)
 have hz3':w.heap.size+1+1<w3.heap.size:=(jDp ho3).2
 clear hc2 ho2 hg3
 go_wp2_with fail
 refine (jNa (w.heap.size+1+1) _ 2 15 _ t _ ho3 oE oE).mono ?_
 rintro e w4 ⟨rfl,ho4,hg4⟩
 have hc4:∀ i,w4.cell? ⟨w.heap.size,i,none⟩=(w.alloc (msgO k f t x)).cell? ⟨w.heap.size,i,none⟩:=λi=>(jCh hg4 oE (by simp;omega) i).trans (hc3 i)
 have HB4:Hid (Below w.heap.size w w4):=HB3.out.grown hg4 oE (λq hq=>by cases hq;omega)
 have hz4':w.heap.size+1+1<w4.heap.size:=(jDp ho4).2
 clear hc3 ho3 hg4
 go_wp2_with fail
 refine (jQ8 (w.heap.size+1+1) _ 3 15 _ x _ ho4 oE HX.out).mono ?_
 rintro e w5 ⟨rfl,ho5,hg5⟩
 have HB5:Hid (Below w.heap.size w w5):=HB4.out.grown hg5 oE (λq hq=>by cases hq;omega)
 have hz5':w.heap.size+1+1<w5.heap.size:=(jDp ho5).2
 have ho5':w5.ownsRow (w.heap.size+1+1) 5 1 (.slice (some ⟨w.heap.size+1+1,0,none⟩) 11 15) 11 (bs (jCd k f t x)):=by
  have e:((([]++be 1 k)++be 1 f)++be 1 t)++be 8 x=jCd k f t x:=by
   unfold jCd;simp [be,digit,List.range_succ];omega
  rw [e] at ho5;exact ho5
 clear hc4 ho4 hg5 ho5
 go_wp2_with fail
 refine (jN3 (w.heap.size+1+1) w5.heap.size (w.heap.size+1+1) 11 15 false (jCd k f t x) _ (jGn w5) oE (ho5'.alloc _) (jEe k f t x oE oE oE) oE oE).mono ?_
 rintro e w6 ⟨rfl,ho6,hb6⟩
 have HB6:Hid (Below w.heap.size w w6):=(HB5.out.alloc oE _).trans (hb6 w.heap.size oE oE)
 have HO:Hid (w6.ownsRow w.heap.size 5 1 (.slice (some ⟨w.heap.size+1+1,0,none⟩) 15 15) 15 (bs (jD6 k f t x))):=jBa ho6 oE
 clear ho6 hb6 ho5'
 go_wp2
 go_ret2
 exact ⟨w.heap.size+1+1,rfl,HO.out,HB6.out⟩
end Go.Proofs.YtcalalndmcemiaaGreatDoor
