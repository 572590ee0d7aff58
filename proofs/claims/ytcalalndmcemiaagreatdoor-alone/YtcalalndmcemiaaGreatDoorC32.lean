import Derived.Test.YtcalalndmcemiaaGreatDoorC31
set_option maxRecDepth 100000
set_option maxHeartbeats 16000000
namespace Go.Proofs.YtcalalndmcemiaaGreatDoor
open Go.RowKit Go.Maps Go.Shelf
open Sc
def zsV (zs:List Int):List Value:=zs.map λz:Int=>.int .i64 z
theorem jWu (l:List Int):∀ u∈zsV l,u.oneCell'=true:=by
 intro u hu
 unfold zsV at hu
 obtain ⟨x,_,rfl⟩:=List.mem_map.1 hu
 rfl
theorem jW0 (l:List Int):(zsV l).length=l.length:=by simp [zsV]
theorem zs_at {w:World} {B cap:Nat} {ao:Option Addr} {l:List Int} (h:w.ownsRow B 3 1 (.slice ao l.length cap) l.length (zsV l)) (hz:∀ z∈l,InI z):ZsAt w ao l:=λk z hk=>by
 refine ⟨hz z (List.mem_of_getElem? hk),?_⟩
 have hkl:k<l.length:=(List.getElem?_eq_some_iff.1 hk).1
 rcases h.2 with ⟨_,h3⟩ | ⟨g,cap',cur,e,hb,hg,_,_,hsz,htk⟩
 ·omega
 ·cases e
  refine ⟨g,rfl,?_⟩
  have:(cur.toList.take (l.length*1))[k]?=some (.int .i64 z):=by rw [htk];unfold zsV;rw [List.getElem?_map,hk];rfl
  rw [List.getElem?_take_of_lt oE] at this
  rw [jA0 hg k]
  simpa using this
theorem Tryz.infoIn:(Tryz.prog.info? 3).map (λi=>(i.zero,i.size,i.bytes))=some (some (.int .i64 0),1,8):=by kernel_rfl
section
variable (B hp K t:Nat) (c:ACo) (out:List Msg) (L:List Nat) (w:World)
theorem jX4 (h:CoNode w B hp c out K L) (hg:CGood K c) (hB:2≤B) (hmet:Met w) (hpow:Pows w) (hK:K≤290000) :
  Calls Tryz.prog 11 #[.pointer (some ⟨hp,0,none⟩),jD1 (-1) (-1) 0 0] w λe w'=>e=.returned (.tuple #[.int .u64 (c.begun.2.1:Int),.int .i64 (c.begun.2.2:Int)])∧∃ L',CoNode w' B hp c.begun.1 out (K+1) L'∧NFr L L' w w':=by
 obtain ⟨nd,p,cp,gp,bT,lp,bD,bN,m,n,l,d,ov,hP,hw,hm,rfl⟩:=h
 obtain ⟨W,hW⟩:∃ W,W=w.alloc (jDj (-1) (-1) 0 0):=⟨_,rfl⟩
 have hf0:Fr [] w W:=by rw [hW];exact (Fr.refl [] w).alloc _
 obtain ⟨hP0,hN0⟩:=hP.new hf0
 have hfa0:W.heap[w.heap.size]?=some (jDj (-1) (-1) 0 0):=by rw [hW];exact heap_alloc_new w _
 have c6:=jA0 hP0.hh 6
 have x0:=jA0 hfa0 0
 have x1:=jA0 hfa0 1
 have x2:=jA0 hfa0 2
 have x3:=jA0 hfa0 3
 simp at c6 x0 x1 x2 x3
 rw [hW] at c6 x0 x1 x2 x3
 obtain ⟨pv0,hd0⟩:∃ pv,W.heap[p]?=some (dskO bD bN pv d.left d.full d.down):=by obtain ⟨pv,sv,rv,nD,nN,hl⟩:=hP0.sl.lg;exact ⟨pv,hl.disk.blk⟩
 have H0:=jA1 (And.intro hP0 (And.intro hN0 (And.intro hfa0 (And.intro hd0 (And.intro hP (And.intro hw hm))))))
 have HM:=jA1 (And.intro hmet (And.intro hpow hK))
 have HG:=jA1 hg
 clear hg
 clear hP0 hN0 hfa0 hd0 hP hw hm hf0 hmet hpow hK
 go_enter Tryz.func11,Tryz.ntmps11
 go_wp2_with fail
 rw [← hW]
 clear hW c6 x0 x1 x2 x3
 refine (jEa hp p bD bN 0 pv0 _ _ _ true d.down d.left d.full (-1) (-1) 0 0 W H0.out.1.hh H0.out.2.2.2.1).mono ?_
 rintro e w1 ⟨rfl,hb1,hf1⟩
 obtain ⟨hs1,hx1⟩:=H0.out.1.sl.knob (-1) (-1) hf1 hb1 H0.out.2.2.2.1
 obtain ⟨hP1,hN1⟩:=H0.out.1.cfr hx1 hs1
 have hfa1:=hx1.cells H0.out.1.sl H0.out.2.2.1 dN dN dN dN dN dN dN dN
 have H1:=jA1 (And.intro hP1 (And.intro (H0.out.2.1.trans hN1) hfa1))
 have d6:=jA0 H1.out.1.hh 6
 simp at d6
 have hbd:m≤60000000∧n≤60000000:=by have h1:=H0.out.2.2.2.2.2.2;have h2:=HM.out.2.2;omega
 clear hb1 hf1 hs1 hx1 hP1 hN1 hfa1
 have hc:=jTf B cp gp bT m lp p bD bN n K c l d w1 H1.out.1.sl H0.out.2.2.2.2.2.1 HG.out (by have:=HM.out.2.2;omega) hbd.1 hbd.2 hB ((H0.out.2.2.2.2.1.keeps H1.out.2.1 hB).2 HM.out.2.1)
 clear hbd
 go_wp2_with fail
 refine hc.mono ?_
 clear hc d6
 rintro e w3 ⟨rfl,l',d',m',n',hs3,hx3,hw3,hm3,hn3⟩
 obtain ⟨hP3,hN3'⟩:=H1.out.1.cfr hx3 hs3
 have hN3:=H1.out.2.1.trans hN3'
 have hfa3:=hx3.cells H1.out.1.sl H1.out.2.2 dN dN dN dN dN dN dN dN
 clear hs3 hx3 hN3'
 have hdn:=hw3.2
 have y0:=jA0 hfa3 0
 have y1:=jA0 hfa3 1
 have y2:=jA0 hfa3 2
 have y3:=jA0 hfa3 3
 simp at y0 y1 y2 y3
 obtain ⟨pv4,hd4⟩:∃ pv,w3.heap[p]?=some (dskO bD bN pv d'.left d'.full d'.down):=by obtain ⟨pv,sv,rv,nD,nN,hl⟩:=hP3.sl.lg;exact ⟨pv,hl.disk.blk⟩
 have H4:=jA1 (And.intro hP3 (And.intro hN3 (And.intro hd4 (And.intro hw3 (And.intro hm3 hn3)))))
 clear hP3 hN3 hfa3 hd4 hw3 hm3 hn3
 go_wp2_with fail
 have hbd:=H4.out.2.2.1
 rw [hdn] at hbd
 refine (jFc hp p bD bN 0 pv4 _ _ _ true d'.left d'.full (-1) (-1) 0 0 w3 H4.out.1.hh hbd).mono ?_
 clear hbd y0 y1 y2 y3
 rintro e w5 ⟨rfl,hb5,hf5⟩
 rw [← hdn] at hb5
 obtain ⟨hs5,hx5⟩:=H4.out.1.sl.knob (-1) (-1) hf5 hb5 H4.out.2.2.1
 obtain ⟨hP5,hN5⟩:=H4.out.1.cfr hx5 hs5
 have hmet5:=(H0.out.2.2.2.2.1.keeps (H4.out.2.1.trans hN5) hB).1 HM.out.1
 have H5:=jA1 (And.intro hP5 (H4.out.2.1.trans hN5))
 clear hb5 hf5 hs5 hx5 hP5 hN5
 go_wp2_with fail
 refine (jD4 c.begun.2.2 w5 hmet5).mono ?_
 rintro e w6 ⟨rfl,hf6⟩
 obtain ⟨hP6,hN6⟩:=H5.out.1.new hf6
 have H6:=jA1 (show CoNode w6 B hp c.begun.1 out (K+1) (ownL hp nd p lp cp gp w6)∧NFr (ownL hp nd p lp cp gp w) (ownL hp nd p lp cp gp w6) w w6 from ⟨⟨nd,p,cp,gp,bT,lp,bD,bN,m',n',l',_,ov,hP6,H4.out.2.2.2.1.knob _ _,(by have h1:=H0.out.2.2.2.2.2.2;have h2:=H4.out.2.2.2.2;omega),rfl⟩,H5.out.2.trans hN6⟩)
 clear hP6 hN6 hf6
 go_wp2
 go_ret2
 exact ⟨rfl,_,H6.out⟩
theorem jVy (v:Value) (zs:List Int) (h:CoNode w B hp c out K L) (ht:t<18446744073709551616) (hB:2≤B) (hmet:Met w) (hpow:Pows w) (hK:K≤290000) (hlen:zs.length≤100) (hpos:0<zs.length) (hz:∀ z∈zs,InI z) (hsrc:∃ b0,w.ownsRow b0 3 1 v zs.length (zsV zs)) :
  Calls Tryz.prog 16 #[.pointer (some ⟨hp,0,none⟩),.int .u64 (t:Int),v,jD1 (-1) (-1) 0 0] w λe w'=>e=.returned (.int .i64 (c.commE t zs:Int))∧∃ L',CoNode w' B hp (c.commS t zs) out (K+1) L'∧NFr L L' w w':=by
 obtain ⟨b0,hsrc⟩:=hsrc
 obtain ⟨vo,vc,rfl⟩:=jCx hsrc
 obtain ⟨ii,hi,hz0,hz1,hz2⟩:=info_parts Tryz.infoIn
 have HZ:=jA1 (And.intro hz hsrc)
 clear hz hsrc
 obtain ⟨nd,p,cp,gp,bT,lp,bD,bN,m,n,l,d,ov,hP,hw,hm,rfl⟩:=h
 obtain ⟨W,hW⟩:∃ W,W=w.alloc (jDj (-1) (-1) 0 0):=⟨_,rfl⟩
 have hf0:Fr [] w W:=by rw [hW];exact (Fr.refl [] w).alloc _
 obtain ⟨hP0,hN0⟩:=hP.new hf0
 have hfa0:W.heap[w.heap.size]?=some (jDj (-1) (-1) 0 0):=by rw [hW];exact heap_alloc_new w _
 have c6:=jA0 hP0.hh 6
 have x0:=jA0 hfa0 0
 have x1:=jA0 hfa0 1
 have x2:=jA0 hfa0 2
 have x3:=jA0 hfa0 3
 simp at c6 x0 x1 x2 x3
 rw [hW] at c6 x0 x1 x2 x3
 obtain ⟨pv0,hd0⟩:∃ pv,W.heap[p]?=some (dskO bD bN pv d.left d.full d.down):=by obtain ⟨pv,sv,rv,nD,nN,hl⟩:=hP0.sl.lg;exact ⟨pv,hl.disk.blk⟩
 have H0:=jA1 (And.intro hP0 (And.intro hN0 (And.intro hfa0 (And.intro hd0 (And.intro hP (And.intro hw hm))))))
 have HM:=jA1 (And.intro hmet (And.intro hpow hK))
 skip
 clear hP0 hN0 hfa0 hd0 hP hw hm hf0 hmet hpow hK
 go_enter Tryz.func16,Tryz.ntmps16
 go_wp2_with fail
 rw [← hW]
 clear hW c6 x0 x1 x2 x3
 refine (jEa hp p bD bN 0 pv0 _ _ _ true d.down d.left d.full (-1) (-1) 0 0 W H0.out.1.hh H0.out.2.2.2.1).mono ?_
 rintro e w1 ⟨rfl,hb1,hf1⟩
 obtain ⟨hs1,hx1⟩:=H0.out.1.sl.knob (-1) (-1) hf1 hb1 H0.out.2.2.2.1
 obtain ⟨hP1,hN1⟩:=H0.out.1.cfr hx1 hs1
 have hfa1:=hx1.cells H0.out.1.sl H0.out.2.2.1 dN dN dN dN dN dN dN dN
 have H1:=jA1 (And.intro hP1 (And.intro (H0.out.2.1.trans hN1) hfa1))
 have hbd:m≤60000000∧n≤60000000:=by have h1:=H0.out.2.2.2.2.2.2;have h2:=HM.out.2.2;omega
 clear hb1 hf1 hs1 hx1 hP1 hN1 hfa1
 have hrow1:w1.ownsRow b0 3 1 (.slice vo zs.length vc) zs.length (zsV zs):=jAf HZ.out.2 (λg hg=>by
  obtain ⟨cc,hc⟩:=jA4 HZ.out.2 hg
  exact H1.out.2.1.fr.block g (Array.getElem?_eq_some_iff.1 hc).1 (λhm=>by have:=(H0.out.2.2.2.2.1.obj g hm).2;rw [hc] at this;have:=this.not;simp [jAd] at this))
 have hia:jUr w1 (.slice vo zs.length vc) zs.length (zsV zs):=by
  rcases hrow1.2 with ⟨e,h0⟩ | ⟨g,cap',cur,e,-⟩
  ·omega
  ·exact .inl ⟨⟨g,0,none⟩,cap',e,λj u hj=>by have:=hrow1.cells (g:=g) (by rw [e];rfl) j u hj;simpa [Addr.add] using this⟩
 clear hrow1
 go_wp2_with (at_builtin;refine jBr rfl _ _ 53 rfl w1.heap.size 3 ii (.int .i64 0) 1 8 Tryz.underlying53 hi hz0 hz1 hz2 rfl (by decide) (.slice none 0 0) 0 [] rfl (World.ownsRow_nil _ _ _ _) zs.length (zsV zs) hia (by rw [jW0];omega) (jWu zs) (by unfold maxLen;omega) (by omega) (Nat.le_refl _) ?_)
 intro v' w2 hown' hgrow _
 obtain ⟨g2,c2,rfl⟩:=jF0 hown' hpos
 have hf2:Fr [] w1 w2:=Fr.of_grown hgrow
 obtain ⟨hP2,hN2⟩:=H1.out.1.new hf2
 have hfa2:=(hf2.block _ (Array.getElem?_eq_some_iff.1 H1.out.2.2).1 sE).trans H1.out.2.2
 obtain ⟨cc2,hg2⟩:=jA4 hown' (g:=g2) rfl
 have hgl:w.heap.size≤g2:=Nat.le_trans H1.out.2.1.fr.size (hown'.lt g2 rfl).1
 have hcs:zs.length≤cc2.size:=by
  rcases hown'.2 with ⟨e,_⟩ | ⟨g',cap',cur,e,_,e2,e3,_,e4,_⟩
  ·cases e
  ·cases e
   rw [hg2] at e2
   cases e2
   omega
 have hcm:=jS8 B cp gp bT m lp p bD bN n t c l d w2 c2 (some ⟨g2,0,none⟩) zs hlen (zs_at hown' HZ.out.1) hP2.sl H0.out.2.2.2.2.2.1 hbd.1 ht
 have k6:=jA0 hP2.hh 6
 simp at k6
 have H2:=jA1 (And.intro hP2 (And.intro (H1.out.2.1.trans hN2) (And.intro hfa2 hg2)))
 obtain ⟨N,hN⟩:∃ N,N=zs.length:=⟨_,rfl⟩
 rw [← hN] at hcm hcs hlen hpos
 rw [← hN]
 clear hown' hgrow hf2 hP2 hN2 hfa2 hg2 hN hia
 go_wp2_with fail
 refine hcm.mono ?_
 clear hcm k6
 rintro e w3 ⟨rfl,l',d',m',n',hs3,hx3,hw3,hm3,hn3⟩
 obtain ⟨hP3,hN3⟩:=H2.out.1.cfr hx3 hs3
 have hfa3:=hx3.cells H2.out.1.sl H2.out.2.2.1 dN dN dN dN dN dN dN dN
 have hg3:=hx3.cells H2.out.1.sl H2.out.2.2.2 dN dN dN dN dN dN dN dN
 have H3:=jA1 (And.intro hP3 (And.intro (H2.out.2.1.trans hN3) (And.intro hfa3 (And.intro hg3 (And.intro hw3 (And.intro hm3 hn3))))))
 clear hs3 hx3 hP3 hN3 hfa3 hg3 hw3 hm3 hn3
 go_wp2
 go_loopw [31] (λi wr=>∃ q:Nat,q≤N∧i=.int .i64 q∧Hid ((∃ cc,wr.heap[g2]?=some (.cells cc 3 (0,0))∧N≤cc.size)∧Fr [g2] w3 wr)) (λi _=>N - (intOf i).toNat)
 case atStart=>exact ⟨0,Nat.zero_le _,rfl,⟨cc2,H3.out.2.2.2.1,hcs⟩,Fr.refl _ _⟩
 case round =>
  obtain ⟨q,hq,rfl,HX⟩:=hrel
  by_cases hlt:q<N
  ·obtain ⟨cc,hgq,hcq⟩:=HX.out.1
   have i3:(q:Int)<(N:Int):=by omega
   have d0:=jA0 hgq q
   have f0:=jA2 hgq q
   obtain ⟨u,hu⟩:∃ u,cc[q]?=some u:=⟨_,Array.getElem?_eq_getElem oE⟩
   rw [hu] at d0
   have HQ2:=jA1 (show (∃ cc,(wr.setCell ⟨g2,q,none⟩ (.int .i64 7)).heap[g2]?=some (.cells cc 3 (0,0))∧N≤cc.size)∧Fr [g2] w3 (wr.setCell ⟨g2,q,none⟩ (.int .i64 7)) from ⟨⟨_,jA5 hgq q (.int .i64 7),by simpa using hcq⟩,HX.out.2.trans (Fr.set1 sE _ _)⟩)
   clear hgq hu
   go_wp2
   go_roundw
   case rel=>exact ⟨q+1,by omega,by simp,HQ2.out⟩
   case measure=>simp [intOf];omega
  ·obtain rfl:q=N:=by omega
   have i3:¬ (q:Int)<(q:Int):=by omega
   have hne3:g2∉ownL hp nd p lp cp gp w3:=λhm=>by have:=(H3.out.1.obj _ hm).2;rw [H3.out.2.2.2.1] at this;have:=this.not;simp [jAd] at this
   obtain ⟨hP3,hL4⟩:=H3.out.1.apart HX.out.2 (by intro k hk _;simp at hk;subst hk;exact ⟨hne3,λt e=>by rw [H3.out.2.2.2.1] at e;cases e⟩)
   have hN3:=H3.out.2.1.young1 HX.out.2 (by intro k hk;simp at hk;omega)
   rw [← hL4] at hN3
   have hfa3:=(HX.out.2.block _ (Array.getElem?_eq_some_iff.1 H3.out.2.2.1).1 (by simp;intro e;have h1:=H3.out.2.2.1;rw [e,H3.out.2.2.2.1] at h1;cases h1)).trans H3.out.2.2.1
   have hw3:=H3.out.2.2.2.2.1
   have hm3:=H3.out.2.2.2.2.2.1
   have hn3:=H3.out.2.2.2.2.2.2
   clear hne3 hL4 HX H3 hbd
   have hdn:=hw3.2
   have y0:=jA0 hfa3 0
   have y1:=jA0 hfa3 1
   have y2:=jA0 hfa3 2
   have y3:=jA0 hfa3 3
   simp at y0 y1 y2 y3
   obtain ⟨pv4,hd4⟩:∃ pv,wr.heap[p]?=some (dskO bD bN pv d'.left d'.full d'.down):=by obtain ⟨pv,sv,rv,nD,nN,hl⟩:=hP3.sl.lg;exact ⟨pv,hl.disk.blk⟩
   have H4:=jA1 (And.intro hP3 (And.intro hN3 (And.intro hd4 (And.intro hw3 (And.intro hm3 hn3)))))
   clear hP3 hN3 hfa3 hd4 hw3 hm3 hn3
   go_wp2_with fail
   have hbd:=H4.out.2.2.1
   rw [hdn] at hbd
   refine (jFc hp p bD bN 0 pv4 _ _ _ true d'.left d'.full (-1) (-1) 0 0 wr H4.out.1.hh hbd).mono ?_
   clear hbd y0 y1 y2 y3
   rintro e w5 ⟨rfl,hb5,hf5⟩
   rw [← hdn] at hb5
   obtain ⟨hs5,hx5⟩:=H4.out.1.sl.knob (-1) (-1) hf5 hb5 H4.out.2.2.1
   obtain ⟨hP5,hN5⟩:=H4.out.1.cfr hx5 hs5
   have hmet5:=(H0.out.2.2.2.2.1.keeps (H4.out.2.1.trans hN5) hB).1 HM.out.1
   have H5:=jA1 (And.intro hP5 (H4.out.2.1.trans hN5))
   clear hb5 hf5 hs5 hx5 hP5 hN5
   go_wp2_with fail
   refine (jD4 (c.commE t zs) w5 hmet5).mono ?_
   rintro e w6 ⟨rfl,hf6⟩
   obtain ⟨hP6,hN6⟩:=H5.out.1.new hf6
   have H6:=jA1 (show CoNode w6 B hp (c.commS t zs) out (K+1) (ownL hp nd p lp cp gp w6)∧NFr (ownL hp nd p lp cp gp w) (ownL hp nd p lp cp gp w6) w w6 from ⟨⟨nd,p,cp,gp,bT,lp,bD,bN,m',n',l',_,ov,hP6,H4.out.2.2.2.1.knob _ _,(by have h1:=H0.out.2.2.2.2.2.2;have h2:=H4.out.2.2.2.2;omega),rfl⟩,H5.out.2.trans hN6⟩)
   clear hP6 hN6 hf6
   go_wp2
   go_ret
   exact ⟨rfl,_,H6.out⟩
theorem jVp (h:CoNode w B hp c out K L) (ht:t<18446744073709551616) :
  Calls Tryz.prog 75 #[.pointer (some ⟨hp,0,none⟩),.int .u64 (t:Int)] w λe w'=>e=.returned (.int .i64 ((c.tx t).state:Int))∧w'=w:=by
 obtain ⟨nd,p,cp,gp,bT,lp,bD,bN,m,n,l,d,ov,hP,hw,hm,rfl⟩:=h
 have hpu:=jCr B cp gp bT m t c w hP.sl.co ht
 have c6:=jA0 hP.hh 6
 simp at c6
 clear hP hw hm
 go_enter Tryz.func75,Tryz.ntmps75
 go_wp2_with fail
 refine hpu.mono ?_
 clear hpu
 rintro e w1 ⟨rfl,rfl⟩
 go_wp2
 go_ret
 exact ⟨rfl,rfl⟩
theorem jT1 (h:CoNode w B hp c out K L) :
  Calls Tryz.prog 73 #[.pointer (some ⟨hp,0,none⟩)] w λe w'=>∃ v L',e=.returned v∧w'.ownsRow B 157 2 v c.res.length (resV c.res)∧CoNode w' B hp { c with res:=[] } out K L'∧NFr L L' w w'∧∀ g,v.ownBlock=some g→g∉L':=by
 obtain ⟨nd,p,cp,gp,bT,lp,bD,bN,m,n,l,d,ov,hP,hw,hm,rfl⟩:=h
 have hpu:=jM3 B cp gp bT m c w hP.sl.co
 have c6:=jA0 hP.hh 6
 simp at c6
 have H0:=jA1 (And.intro hP (And.intro hw hm))
 clear hP hw hm
 go_enter Tryz.func73,Tryz.ntmps73
 go_wp2_with fail
 refine hpu.mono ?_
 clear hpu
 rintro e w1 ⟨v,rfl,h1,-,h3,h4,h5,-,h7⟩
 obtain ⟨hs1,hx1⟩:=H0.out.1.sl.turn h4 (h7.mono (by intro k hk;simp at hk;simp [hk]))
 obtain ⟨hP1,hN1⟩:=H0.out.1.cfr hx1 hs1
 have hnot:∀ g,v.ownBlock=some g→g∉ownL hp nd p lp cp gp w1:=λg hg hm=>by
  obtain ⟨cc,hc⟩:=jA4 h1 hg
  obtain ⟨pv,sv,rv,nD,nN,hl⟩:=hP1.sl.lg
  obtain ⟨xv,yv,hcb,q1,q2,-⟩:=hP1.sl.co.ex
  rcases jA8.1 hm with e | e | e | e | e | e | e | e | e | e
  ·rw [e,hP1.hh] at hc;cases hc
  ·rw [e,hP1.hnd] at hc;cases hc
  ·rw [e,hl.disk.blk] at hc;cases hc
  ·rw [e,hl.blk] at hc;cases hc
  ·rw [e,hcb] at hc;cases hc
  ·rw [e,hP1.sl.led] at hc;cases hc
  ·rw [hP1.hnd] at e
   obtain ⟨c2,hc2⟩:=jA4 hP1.hov ((jCo (jAu hP1.hov) g).1 e)
   rw [hc2] at hc;cases hc
  ·exact hl.free hc dN dN dN dN dN (.inr (.inr (.inl e)))
  ·exact hl.free hc dN dN dN dN dN (.inr (.inr (.inr e)))
  ·rw [hcb] at e
   rcases (jHv (jAu q1) (jAu q2)).1 e with e | e
   ·obtain ⟨es,c2,e2⟩:=hP1.sl.co.txns.isMap
    rw [← e,hc] at e2;cases e2
   ·exact h5 g hg ((jMn hcb).2 e)
 have H1:=jA1 (show w1.ownsRow B 157 2 v c.res.length (resV c.res)∧CoNode w1 B hp { c with res:=[] } out K (ownL hp nd p lp cp gp w1)∧NFr (ownL hp nd p lp cp gp w) (ownL hp nd p lp cp gp w1) w w1∧∀ g,v.ownBlock=some g→g∉ownL hp nd p lp cp gp w1 from ⟨h1,⟨nd,p,cp,gp,bT,lp,bD,bN,m,n,l,d,ov,hP1,H0.out.2.1,H0.out.2.2,rfl⟩,hN1,hnot⟩)
 clear h1 h3 h4 h5 h7 hs1 hx1 hP1 hN1 hnot
 go_wp2
 go_ret
 exact ⟨v,_,rfl,H1.out⟩
end
end Go.Proofs.YtcalalndmcemiaaGreatDoor
set_option maxRecDepth 100000
set_option maxHeartbeats 16000000
namespace Go.Proofs.YtcalalndmcemiaaGreatDoor
open Go.RowKit Go.Maps
open Sc
/-! ### few segments,few bytes -/
theorem jFi (a b:List Nat):str (a++b)=str a++str b:=by
 apply ByteArray.ext
 rw [ByteArray.data_append,jG5,jG5,jG5]
 simp
/-! ### records that lie in a file -/
end Go.Proofs.YtcalalndmcemiaaGreatDoor
set_option maxRecDepth 100000
set_option maxHeartbeats 16000000
namespace Go.Proofs.YtcalalndmcemiaaGreatDoor
open Go.RowKit Go.Maps Go.Shelf
open Sc
abbrev ptrV (q:Nat):Value:=.pointer (some ⟨q,0,none⟩)
structure ADeal where
 id:Nat
 seq:List Nat
 writes:List (Nat × ByteArray × ByteArray)
 asked:Bool
 lost:Bool
 what:Nat
abbrev jJk (sv wv:Value) (x:ADeal):Obj:=.cells #[.int .u64 (x.id:Int),sv,wv,.bool x.asked,.bool x.lost,.int .i64 (x.what:Int)] 60
def seqV (l:List Nat):List Value:=l.map λn:Nat=>.int .i64 (n:Int)
abbrev wrC (x:Nat × ByteArray × ByteArray):List Value:=[.int .i64 (x.1:Int),.string x.2.1,.string x.2.2]
def wrsV (l:List (Nat × ByteArray × ByteArray)):List Value:=l.flatMap wrC
abbrev netO (hv dv bv ov:Value) (n:Nat) (fl:Bool):Obj:=.cells #[hv,dv,bv,ov,.int .i64 (n:Int),.bool fl] 37
structure DealAt (w:World) (B:Nat) (p:Nat × Value × Value) (x:ADeal):Prop where
 blk:w.heap[p.1]?=some (jJk p.2.1 p.2.2 x)
 low:B≤p.1
 seq:w.ownsRow B 3 1 p.2.1 x.seq.length (seqV x.seq)
 wrs:w.ownsRow B 57 3 p.2.2 x.writes.length (wrsV x.writes)
def Apt (u v:Value):Prop:=∀ g,u.ownBlock=some g→v.ownBlock≠some g
structure LawM (w:World) (B np:Nat) (hv dv bv ov:Value) (n:Nat) (fl:Bool) (hps:List Nat) (ps:List (Nat × Value × Value)) (ds:List ADeal) (bag:List Msg) (ord:List Nat):Prop where
 net:w.heap[np]?=some (netO hv dv bv ov n fl)
 low:B≤np∧B≤w.heap.size
 hs:w.ownsRow B 46 1 hv hps.length (hps.map ptrV)
 dl:w.ownsRow B 55 1 dv ps.length (ps.map λp=>ptrV p.1)
 bg:w.ownsRow B 9 1 bv bag.length (msgT bag)
 bg0:bag=[]→bv=.slice none 0 0
 od:w.ownsRow B 55 1 ov ord.length (ord.map λj=>ptrV ((ps[j]?.map (·.1)).getD 0))
 odl:∀ j∈ord,j<ps.length
 ap:Apt dv ov
 len:ps.length=ds.length
 each:∀ (j:Nat) (p:Nat × Value × Value) (x:ADeal),ps[j]?=some p→ds[j]?=some x→DealAt w B p x
 dis:ps.Pairwise λa b=>a.1≠b.1∧Apt a.2.1 b.2.1∧Apt a.2.2 b.2.2
section
variable {w w':World} {B np n:Nat} {hv dv bv ov:Value} {fl:Bool} {hps:List Nat} {ps:List (Nat × Value × Value)} {ds:List ADeal} {bag:List Msg} {ord:List Nat}
theorem LawM.keep (h:LawM w B np hv dv bv ov n fl hps ps ds bag ord) (hsz:w.heap.size≤w'.heap.size) (hk:∀ (k:Nat) (c:Array Value) (t:TypeId),w.heap[k]?=some (.cells c t (0,0))→¬ jAd t→w'.heap[k]?=some (.cells c t (0,0))):LawM w' B np hv dv bv ov n fl hps ps ds bag ord:=by
 have row:∀ {b m k:Nat} {e:TypeId} {v:Value} {xs:List Value},w.ownsRow b e k v m xs→¬ jAd e→w'.ownsRow b e k v m xs:=λ{b m k e v xs} hr he=>jAf hr (λg hg=>by obtain ⟨c,hc⟩:=jA4 hr hg;exact (hk g c e hc he).trans hc.symm)
 exact ⟨hk _ _ _ h.net (by simp [jAd]),⟨h.low.1,Nat.le_trans h.low.2 hsz⟩,row h.hs (by simp [jAd]),row h.dl (by simp [jAd]),row h.bg (by simp [jAd]),h.bg0,row h.od (by simp [jAd]),h.odl,h.ap,h.len,λj p x h1 h2=>by
  have hd:=h.each j p x h1 h2
  exact ⟨hk _ _ _ hd.blk (by simp [jAd]),hd.low,row hd.seq (by simp [jAd]),row hd.wrs (by simp [jAd])⟩,h.dis⟩
theorem LawM.nlf (h:LawM w B np hv dv bv ov n fl hps ps ds bag ord) (hf:NLf B w w'):LawM w' B np hv dv bv ov n fl hps ps ds bag ord:=h.keep hf.below.size (λk c t hk ht=>hf.cells k c t _ hk ht)
theorem LawM.new (h:LawM w B np hv dv bv ov n fl hps ps ds bag ord) (hf:Fr [] w w'):LawM w' B np hv dv bv ov n fl hps ps ds bag ord:=h.nlf (NLf.new hf h.low.2)
end
/-! ### pick,Well,digits -/
def pkC (c:Int) (n:Nat):Nat:=((if c<0 then -(c+1) else c) % (n:Int)).toNat
theorem jMy {a b:Int} (h:a=b):Ending.returned (.int .i64 a)=.returned (.int .i64 b):=by rw [h]
theorem jCn (c:Int) (n:Nat) (hn:0<n):pkC c n<n:=by
 unfold pkC
 have h1:=Int.emod_nonneg (if c<0 then -(c+1) else c) (show (n:Int)≠0 by omega)
 have h2:=Int.emod_lt_of_pos (if c<0 then -(c+1) else c) (show (0:Int)<(n:Int) by omega)
 omega
theorem jBk (c:Int) (n:Nat) (w:World) (hc1:-9223372036854775808≤c) (hc2:c≤9223372036854775807) (hn:0<n) (hn2:n≤1099511627776) :
  Calls Tryz.prog 10 #[.int .i64 c,.int .i64 (n:Int)] w λe w'=>e=.returned (.int .i64 (pkC c n:Int))∧w'=w:=by
 have hn0:¬ (n:Int)=0:=by omega
 by_cases h:c<0
 ·go_enter Tryz.func10,Tryz.ntmps10
  go_wp2
  go_ret
  have e:-(c+1).tmod (n:Int)=(-(c+1)) % (n:Int):=by
   rw [← Int.neg_tmod,Int.tmod_eq_emod_of_nonneg oE]
  have h1:=Int.emod_nonneg (-(c+1)) hn0
  refine ⟨jMy ?_,rfl⟩
  unfold pkC
  rw [e,if_pos h];omega
 ·go_enter Tryz.func10,Tryz.ntmps10
  go_wp2
  go_ret
  have h1:=Int.emod_nonneg c hn0
  refine ⟨jMy ?_,rfl⟩
  unfold pkC
  rw [if_neg oE];omega
abbrev jVo:Value:=jD1 (-1) (-1) 0 0
theorem jF8 (w:World):Calls Tryz.prog 12 #[] w λe w'=>e=.returned jVo∧Fr [] w w':=by
 go_enter Tryz.func12,Tryz.ntmps12
 go_wp2
 exact bodyPost_ret (v:=jVo) (by simp [results,Tryz.results12,go_sem]) rfl ⟨rfl,(Fr.refl [] w).alloc _⟩
def dgs (n:Nat):List Nat:=if n<10 then [48+n] else dgs (n / 10)++[48+n % 10]
termination_by n
decreasing_by omega
theorem jIm (n:Nat):(dgs n).length≤n+1:=by
 induction n using Nat.strongRecOn with
 | _ n ih =>
 rw [dgs]
 split
 ·simp
 ·have:=ih (n / 10) oE
  rw [List.length_append]
  simp
  omega
theorem jR3 (w:World) (b:Nat):(convert 88 9 (.slice (some ⟨w.heap.size,0,none⟩) 1 1)).run Tryz.prog (w.alloc (.cells #[.int .u8 (b:Int)] 5))=.ok (.string (str [b])) (w.alloc (.cells #[.int .u8 (b:Int)] 5)) :=
 jDo _ w.heap.size 0 1 1 [b] rfl (λi hi=>by
  obtain rfl:i=0:=by simp at hi;omega
  exact (jA0 (heap_alloc_new w (.cells #[.int .u8 (b:Int)] 5)) 0).trans rfl)
theorem jBi (n:Nat):n≤1099511627776→∀ w,Calls Tryz.prog 14 #[.int .i64 (n:Int)] w λe w'=>e=.returned (.string (str (dgs n)))∧Fr [] w w':=by
 induction n using Nat.strongRecOn with
 | _ n ih =>
 intro hn w
 by_cases h:n<10
 ·have i1:(n:Int)<10:=by omega
  go_enter Tryz.func14,Tryz.ntmps14
  have hcv:=jR3 w (48+n)
  rw [show (((48+n:Nat):Int))=48+(n:Int) by omega] at hcv
  go_wp2
  go_ret
  refine ⟨?_,(Fr.refl [] w).alloc _⟩
  unfold dgs
  rw [if_pos h]
  rfl
 ·have i1:¬ (n:Int)<10:=by omega
  have ih':=ih (n / 10) oE oE
  go_enter Tryz.func14,Tryz.ntmps14
  go_wp2_with fail
  refine (ih' w).mono ?_
  rintro e w1 ⟨rfl,hf1⟩
  have hcv:=jR3 w1 (48+n % 10)
  rw [show (((48+n % 10:Nat):Int))=48+(n:Int) % 10 by omega] at hcv
  have HF:=jA1 hf1
  have hsz:¬ 9223372036854775807<(str (dgs (n / 10))).size+(str [48+n % 10]).size:=by
   rw [jB1,jB1]
   have:=jIm (n / 10)
   simp
   omega
  clear hf1
  go_wp2
  go_ret
  refine ⟨?_,HF.out.alloc _⟩
  have e1:dgs n=dgs (n / 10)++[48+n % 10]:=by rw [dgs,if_neg h]
  rw [e1,jFi]
  rfl
def jD8 (ds:List ADeal) (k what:Nat):List ADeal:=match ds[k]? with | none=>ds | some x=>if x.what=0 then ds.set k { x with what:=what } else ds
def jDw (ds:List ADeal) (ord:List Nat) (k what:Nat):List Nat:=match ds[k]? with | none=>ord | some x=>if x.what=0∧what=5 then ord++[k] else ord
def LawTy (t:TypeId):Prop:=t=37∨t=60∨t=55∨t=57∨t=3
def LawT (w:World) (S:List Nat):Prop:=∀ k∈S,k<w.heap.size→∃ c t fr,w.heap[k]?=some (.cells c t fr)∧LawTy t
theorem LawTy.not {t:TypeId} (h:LawTy t):¬ jAd t∧t≠9:=by
 rcases h with e | e | e | e | e <;> subst e <;> exact ⟨by simp [jAd],by decide⟩
theorem LawT.s {w:World} {S:List Nat} (h:LawT w S):LawS w S:=λk hk hl=>by
 obtain ⟨c,t,fr,e,ht⟩:=h k hk hl
 exact ⟨c,t,fr,e,ht.not.1,λe=>absurd e ht.not.2⟩
structure LwR (B:Nat) (w w':World):Prop where
 fr:∃ S,Fr S w w'∧LawT w S∧∀ k∈S,B≤k
theorem LwR.nds {B K:Nat} {w w':World} {hps:List Nat} {c:ACo} {co:List Msg} {ss:List (AShard × List Msg)} {Ls:List (List Nat)} (h:LwR B w w') (hn:Nds w B hps c co ss K Ls):Nds w' B hps c co ss K Ls:=by
 obtain ⟨S,h1,h2,-⟩:=h.fr
 exact hn.law h1 h2.s
theorem LwR.below {B:Nat} {w w':World} (h:LwR B w w') (hB:B≤w.heap.size):Below B w w':=by
 obtain ⟨S,h1,-,h3⟩:=h.fr
 exact h1.below hB h3
theorem LwR.trans {B:Nat} {a b c:World} (h:LwR B a b) (k:LwR B b c):LwR B a c:=by
 obtain ⟨S,h1,h2,h3⟩:=h.fr
 obtain ⟨T,k1,k2,k3⟩:=k.fr
 refine ⟨S++T,(h1.mono (λq _ hq=>List.mem_append_left _ hq)).trans (k1.mono (λq _ hq=>List.mem_append_right _ hq)),λq hq hl=>?_,λq hq=>(List.mem_append.1 hq).elim (h3 q) (k3 q)⟩
 by_cases hS:q∈S
 ·exact h2 q hS hl
 ·have hT:q∈T:=(List.mem_append.1 hq).elim (λe=>absurd e hS) id
  have:=k2 q hT (Nat.lt_of_lt_of_le hl h1.size)
  rw [h1.block q hl hS] at this
  exact this
theorem LwR.new {B:Nat} {w w':World} (h:Fr [] w w'):LwR B w w':=⟨[],h,λk hk=>(by cases hk),by simp⟩
structure LgF (B:Nat) (w w':World):Prop where
 below:Below B w w'
 cells:∀ (k:Nat) (c:Array Value) (t:TypeId) (fr:Nat × Nat),w.heap[k]?=some (.cells c t fr)→¬ jAd t→¬ LawTy t→w'.heap[k]?=some (.cells c t fr)
theorem LgF.trans {B:Nat} {a b c:World} (h:LgF B a b) (k:LgF B b c):LgF B a c:=⟨h.below.trans k.below,λi x t fr hi ht h2=>k.cells i x t fr (h.cells i x t fr hi ht h2) ht h2⟩
theorem NLf.lg {B:Nat} {w w':World} (h:NLf B w w'):LgF B w w':=⟨h.below,λk c t fr hk ht _=>h.cells k c t fr hk ht⟩
theorem LwR.cells {B:Nat} {w w':World} (h:LwR B w w') (k:Nat) (c:Array Value) (t:TypeId) (fr:Nat × Nat) (hk:w.heap[k]?=some (.cells c t fr)) (ht:¬ LawTy t):w'.heap[k]?=some (.cells c t fr):=by
 obtain ⟨S,h1,h2,-⟩:=h.fr
 have hl:=(Array.getElem?_eq_some_iff.1 hk).1
 refine (h1.block k hl (λhm=>?_)).trans hk
 obtain ⟨c',t',fr',e,ht'⟩:=h2 k hm hl
 rw [hk] at e
 cases e
 exact ht ht'
theorem LwR.lg {B:Nat} {w w':World} (h:LwR B w w') (hB:B≤w.heap.size):LgF B w w':=⟨h.below hB,λk c t fr hk _ ht=>h.cells k c t fr hk ht⟩
theorem LwR.row {B b n k:Nat} {w w':World} {e:TypeId} {v:Value} {xs:List Value} (h:LwR B w w') (hr:w.ownsRow b e k v n xs) (he:¬ LawTy e):w'.ownsRow b e k v n xs :=
 jAf hr (λg hg=>by obtain ⟨c,hc⟩:=jA4 hr hg;exact (h.cells g c e _ hc he).trans hc.symm)
theorem LgF.row {B b n k:Nat} {w w':World} {e:TypeId} {v:Value} {xs:List Value} (h:LgF B w w') (hr:w.ownsRow b e k v n xs) (he:¬ jAd e) (he2:¬ LawTy e):w'.ownsRow b e k v n xs :=
 jAf hr (λg hg=>by obtain ⟨c,hc⟩:=jA4 hr hg;exact (h.cells g c e _ hc he he2).trans hc.symm)
theorem LgF.met {B:Nat} {w w':World} (h:LgF B w w') (hB:2≤B) (hm:Met w):Met w':=hm.below h.below oE
theorem LgF.pows {B:Nat} {w w':World} (h:LgF B w w') (hB:2≤B) (hm:Pows w):Pows w':=hm.of_block (h.below.block 1 oE)
section
variable {w w' W0 w1:World} {B np n:Nat} {hv dv bv ov v':Value} {fl:Bool} {hps:List Nat} {ps:List (Nat × Value × Value)} {ds:List ADeal} {bag:List Msg} {ord:List Nat} {k:Nat} {pp:Nat} {sv wv:Value} {x x':ADeal}
theorem LawM.turnD (h:LawM w B np hv dv bv ov n fl hps ps ds bag ord) (hp:ps[k]?=some (pp,sv,wv)) (hx:ds[k]?=some x) (hf:Fr [pp] w w') (hb:w'.heap[pp]?=some (jJk sv wv x')) (h1:x'.seq=x.seq) (h2:x'.writes=x.writes):LawM w' B np hv dv bv ov n fl hps ps (ds.set k x') bag ord∧LwR B w w':=by
 have hd:=h.each k _ x hp hx
 have hkd:k<ds.length:=(List.getElem?_eq_some_iff.1 hx).1
 have ne:∀ (q:Nat) (c:Array Value) (t:TypeId),w.heap[q]?=some (.cells c t (0,0))→t≠60→q∉[pp]:=λq c t hq ht hm=>by
  simp at hm
  rw [hm,hd.blk] at hq
  cases hq
  exact ht rfl
 have row:∀ {b m j:Nat} {e:TypeId} {v:Value} {xs:List Value},w.ownsRow b e j v m xs→e≠60→w'.ownsRow b e j v m xs:=λ{b m j e v xs} hr he=>jAf hr (λg hg=>by obtain ⟨c,hc⟩:=jA4 hr hg;exact hf.block g (Array.getElem?_eq_some_iff.1 hc).1 (ne g c e hc he))
 refine ⟨⟨(hf.block np (Array.getElem?_eq_some_iff.1 h.net).1 (ne np _ _ h.net dN)).trans h.net,⟨h.low.1,Nat.le_trans h.low.2 hf.size⟩,row h.hs dN,row h.dl dN,row h.bg dN,h.bg0,row h.od dN,h.odl,h.ap,by rw [List.length_set];exact h.len,λj p y hj hy=>?_,h.dis⟩,⟨[pp],hf,λq hq _=>by simp at hq;subst hq;exact ⟨_,_,_,hd.blk,.inr (.inl rfl)⟩,by intro q hq;simp at hq;rw [hq];exact hd.low⟩⟩
 by_cases e:k=j
 ·subst e
  rw [List.getElem?_set_self hkd] at hy
  rw [hp] at hj
  cases hy
  cases hj
  exact ⟨hb,hd.low,by rw [h1];exact row hd.seq dN,by rw [h2];exact row hd.wrs dN⟩
 ·rw [List.getElem?_set_ne e] at hy
  have hj':=h.each j p y hj hy
  have hpl:=(List.getElem?_eq_some_iff.1 hp)
  have hjl:=(List.getElem?_eq_some_iff.1 hj)
  have hne:p.1≠pp:=by
   rcases Nat.lt_or_gt_of_ne e with e | e
   ·have:=(List.pairwise_iff_getElem.1 h.dis k j hpl.1 hjl.1 e).1
    rw [hpl.2,hjl.2] at this
    exact λe2=>this e2.symm
   ·have:=(List.pairwise_iff_getElem.1 h.dis j k hjl.1 hpl.1 e).1
    rw [hpl.2,hjl.2] at this
    exact this
  exact ⟨(hf.block p.1 (Array.getElem?_eq_some_iff.1 hj'.blk).1 (by simpa using hne)).trans hj'.blk,hj'.low,row hj'.seq dN,row hj'.wrs dN⟩
theorem LawM.ordApp (h:LawM w B np hv dv bv ov n fl hps ps ds bag ord) (hp:ps[k]?=some (pp,sv,wv)) (hf0:Fr [] w W0) (hg:W0.grownBy w1 ov.ownBlock) (ho:w1.ownsRow B 55 1 v' (ord.length+1) ((ord.map λj=>ptrV ((ps[j]?.map (·.1)).getD 0))++[ptrV pp])) (hat:∀ g,v'.ownBlock=some g→ov.ownBlock=some g∨w.heap.size≤g) :
  LawM (w1.setCell ⟨np,3,none⟩ v') B np hv dv bv v' n fl hps ps ds bag (ord++[k])∧LwR B w (w1.setCell ⟨np,3,none⟩ v'):=by
 obtain ⟨W,hW⟩:∃ W,W=w1.setCell ⟨np,3,none⟩ v':=⟨_,rfl⟩
 rw [← hW]
 have hnl:=(Array.getElem?_eq_some_iff.1 h.net).1
 have nrow:ov.ownBlock≠some np:=jAe h.od h.net dN
 have hb1:w1.heap[np]?=some (netO hv dv bv ov n fl):=((Fr.of_grown hg).block np (by have:=hf0.size;omega) (by simp;exact nrow)).trans ((hf0.block np hnl sE).trans h.net)
 have hfw:Fr [np] w1 W:=by rw [hW];exact Fr.set1 sE _ _
 have hf:Fr (np :: ov.ownBlock.toList) w W:=((hf0.mono sE).andThen ((Fr.of_grown hg).mono (λk _ hk=>List.mem_cons_of_mem np hk)) (λj hj _=>hj)).andThen (hfw.mono (λk _ hk=>by simp at hk;simp [hk])) (λj hj _=>hj)
 have ne:∀ (q:Nat) (c:Array Value) (t:TypeId),w.heap[q]?=some (.cells c t (0,0))→t≠37→ov.ownBlock≠some q→q∉np :: ov.ownBlock.toList:=λq c t hq ht ho hm=>by
  rcases List.mem_cons.1 hm with e | e
  ·rw [e,h.net] at hq;cases hq;exact ht rfl
  ·simp at e;exact ho e
 have row:∀ {b m j:Nat} {e:TypeId} {v:Value} {xs:List Value},w.ownsRow b e j v m xs→e≠37→(e≠55∨Apt v ov)→W.ownsRow b e j v m xs:=λ{b m j e v xs} hr he hd=>jAf hr (λg hg=>by
  obtain ⟨c,hc⟩:=jA4 hr hg
  refine hf.block g (Array.getElem?_eq_some_iff.1 hc).1 (ne g c e hc he (λe2=>?_))
  rcases hd with hd | hd
  ·obtain ⟨c2,hc2⟩:=jA4 h.od e2
   rw [hc] at hc2
   cases hc2
   exact hd rfl
  ·exact hd g hg e2)
 have cel:∀ (q:Nat) (c:Array Value),w.heap[q]?=some (.cells c 60 (0,0))→W.heap[q]?=some (.cells c 60 (0,0)):=λq c hq=>(hf.block q (Array.getElem?_eq_some_iff.1 hq).1 (ne q c _ hq dN (λe2=>by obtain ⟨c2,hc2⟩:=jA4 h.od e2;rw [hq] at hc2;cases hc2))).trans hq
 have hkp:=(List.getElem?_eq_some_iff.1 hp).1
 refine ⟨⟨by rw [hW];have:=jA5 hb1 3 v';simp at this;exact this,⟨h.low.1,Nat.le_trans h.low.2 hf.size⟩,row h.hs dN (.inl dN),row h.dl dN (.inr h.ap),row h.bg dN (.inl dN),h.bg0,?_,λj hj=>?_,λg hg e=>?_,h.len,λj p y hj hy=>?_,h.dis⟩,⟨_,hf,λq hq hl=>?_,λq hq=>?_⟩⟩
 ·rw [List.length_append,List.map_append,List.map_cons,hp]
  exact jA7 ho hfw (λg hg=>by simp;intro e;subst e;exact jAe ho hb1 dN hg)
 ·rcases List.mem_append.1 hj with e | e
  ·exact h.odl j e
  ·simp at e;omega
 ·rcases hat g e with e2 | e2
  ·exact h.ap g hg e2
  ·have:=(h.dl.lt g hg).2;omega
 ·have hd:=h.each j p y hj hy
  exact ⟨cel _ _ hd.blk,hd.low,row hd.seq dN (.inl dN),row hd.wrs dN (.inl dN)⟩
 ·rcases List.mem_cons.1 hq with e | e
  ·rw [e,h.net];exact ⟨_,_,_,rfl,.inl rfl⟩
  ·simp at e
   obtain ⟨c2,hc2⟩:=jA4 h.od e
   exact ⟨_,_,_,hc2,.inr (.inr (.inl rfl))⟩
 ·rcases List.mem_cons.1 hq with e | e
  ·rw [e];exact h.low.1
  ·simp at e;exact (h.od.lt q e).1
end
section
variable (w:World) (B np n:Nat) (hv dv bv ov:Value) (fl:Bool) (hps:List Nat) (ps:List (Nat × Value × Value)) (ds:List ADeal) (bag:List Msg) (ord:List Nat) (k what:Nat) (p:Nat × Value × Value) (x:ADeal)
theorem Tryz.infoDp:(Tryz.prog.info? 55).map (λi=>(i.zero,i.size,i.bytes))=some (some (.pointer none),1,8):=by kernel_rfl
theorem jN1 (h:LawM w B np hv dv bv ov n fl hps ps ds bag ord) (hp:ps[k]?=some p) (hx:ds[k]?=some x) (hok:x.what=0∨x.what=what) (hw:what=5∨what=6) (hl:ord.length≤60000000) :
  Calls Tryz.prog 74 #[ptrV np,ptrV p.1,.int .i64 (what:Int)] w λe w'=>e=.returned (.bool true)∧∃ ov',LawM w' B np hv dv bv ov' n fl hps ps (jD8 ds k what) bag (jDw ds ord k what)∧LwR B w w':=by
 have hd:=h.each k p x hp hx
 obtain ⟨pp,sv,wv⟩:=p
 have hdb:=hd.blk
 have hlow:=hd.low
 simp only [] at hdb hlow ⊢
 have c5:=jA0 hdb 5
 have f5:=jA2 hdb 5
 simp at c5
 by_cases h0:x.what=0
 ·obtain ⟨W,hW⟩:∃ W,W=w.setCell ⟨pp,5,none⟩ (.int .i64 (what:Int)):=⟨_,rfl⟩
  have hf1:Fr [pp] w W:=by rw [hW];exact Fr.set1 sE _ _
  have hb1:W.heap[pp]?=some (jJk sv wv { x with what:=what }):=by rw [hW];have:=jA5 hdb 5 (.int .i64 (what:Int));simp at this;exact this
  obtain ⟨hL1,hR1⟩:=h.turnD hp hx hf1 hb1 rfl rfl
  have hsD:jD8 ds k what=ds.set k { x with what:=what }:=by unfold jD8;rw [hx];simp [h0]
  rw [hsD]
  rw [h0] at c5
  have d5:=jA0 hb1 5
  simp at d5
  have H1:=jA1 (And.intro hL1 hR1)
  have i0':((0:Nat):Int)=0:=rfl
  rw [i0'] at c5
  rcases hw with hw5 | hw6
  ·have hsO:jDw ds ord k what=ord++[k]:=by unfold jDw;rw [hx];simp [h0,hw5]
   rw [hsO]
   have i5:(what:Int)=5:=by omega
   obtain ⟨i0,hi,hz0,hz1,hz2⟩:=info_parts Tryz.infoDp
   have c3:=jA0 h.net 3
   simp at c3
   have hrow:=hL1.od
   have hBW:=hL1.low.2
   have hnl:np<W.heap.size:=(Array.getElem?_eq_some_iff.1 hL1.net).1
   have hW5:W=w.setCell ⟨pp,5,none⟩ (.int .i64 5):=by rw [hW,i5]
   have hWs:W.heap.size=w.heap.size:=by rw [hW5];simp
   rw [i5] at d5
   have HN:=jA1 hnl
   clear h hd hdb h0 hsD hsO hL1 hR1 hf1 hb1 hok i0' hw5 hW hnl
   rw [hW5] at hrow
   go_enter Tryz.func74,Tryz.ntmps74
   go_wp2_with (at_builtin;refine jBr rfl _ _ 34 rfl B 55 i0 _ 1 8 Tryz.underlying34 hi hz0 hz1 hz2 rfl (by decide) ov ord.length _ rfl (hrow.alloc _) 1 [ptrV pp] (.inl ⟨⟨w.heap.size,0,none⟩,1,rfl,by have:=jBf (w.setCell ⟨pp,5,none⟩ (.int .i64 5)) #[ptrV pp] 55;simpa using this⟩) rfl (by intro u hu;simp at hu;subst hu;rfl) (by unfold maxLen;omega) (by omega) (by rw [World.size_alloc,← hW5];omega) ?_)
   rw [← hW5]
   intro v' w3 hown' hgrow hat0
   obtain ⟨va,vb,vc,rfl⟩:=jAu hown'
   have hfa:Fr [] W (W.alloc (.cells #[ptrV pp] 55)):=(Fr.refl [] W).alloc _
   obtain ⟨hL3,S3,hS3,hS3',hS3b⟩:=H1.out.1.ordApp hp hfa hgrow hown' (λg hg=>hat0.elim (λe=>.inl (e▸hg)) (λe=>.inr (by rw [e] at hg;cases hg;omega)))
   have hn3:w3.heap[np]?=some (netO hv dv bv ov n fl):=((Fr.of_grown hgrow).block np (by have:=HN.out;simp;omega) (by simp;exact jAe H1.out.1.od H1.out.1.net dN)).trans ((hfa.block np HN.out sE).trans H1.out.1.net)
   have g3:=jA0 hn3 3
   have gf3:=jA2 hn3 3
   have hkd:(ds.set k { x with what:=what })[k]?=some { x with what:=what }:=List.getElem?_set_self (List.getElem?_eq_some_iff.1 hx).1
   have e5:=jA0 (hL3.each k _ _ hp hkd).blk 5
   simp at g3 e5
   rw [i5] at e5
   have H3:=jA1 (And.intro hL3 (H1.out.2.trans ⟨S3,hS3,hS3',hS3b⟩))
   clear hown' hgrow hat0 hfa hL3 hS3 hS3' hS3b hn3 hkd hrow hW5 d5 hBW
   go_wp2
   go_ret
   exact ⟨rfl,_,H3.out⟩
  ·have hsO:jDw ds ord k what=ord:=by unfold jDw;rw [hx];simp [hw6]
   rw [hsO]
   have i6:¬ (what:Int)=5:=by omega
   clear h hd hdb h0 hsD hsO hL1 hR1 hf1 hb1 hok i0' hw6
   rw [hW] at d5
   go_enter Tryz.func74,Tryz.ntmps74
   go_wp2
   rw [← hW]
   go_ret
   exact ⟨rfl,ov,H1.out⟩
 ·have e1:x.what=what:=by omega
  have h2:jD8 ds k what=ds∧jDw ds ord k what=ord:=by
   unfold jD8 jDw
   rw [hx]
   simp [h0]
  rw [h2.1,h2.2]
  have i1:¬ ((x.what:Int)=0):=by omega
  have HH:=jA1 h
  rw [e1] at c5 i1
  clear h hd hdb h0 h2 hok
  go_enter Tryz.func74,Tryz.ntmps74
  go_wp2
  go_ret
  exact ⟨rfl,ov,HH.out,LwR.new (Fr.refl [] w)⟩
end
end Go.Proofs.YtcalalndmcemiaaGreatDoor
