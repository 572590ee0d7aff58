import Derived.Test.YtcalalndmcemiaaGreatDoorC30
set_option maxRecDepth 100000
set_option maxHeartbeats 16000000
namespace Go.Proofs.YtcalalndmcemiaaGreatDoor
open Go.RowKit Go.Maps Go.Shelf
open Sc
abbrev slV (g:Nat):Value:=.slice (some ⟨g,0,none⟩) 15 15
theorem Tryz.infoSl:(Tryz.prog.info? 88).map (λi=>(i.zero,i.size,i.bytes))=some (some (.slice none 0 0),1,24):=by kernel_rfl
structure Sent (b:Nat) (w:World) (v:Value) (gs:List Nat) (ms:List Msg):Prop where
 row:w.ownsRow b 88 1 v gs.length (gs.map slV)
 len:gs.length=ms.length
 nod:gs.Nodup
 each:∀ (j g:Nat) (m:Msg),gs[j]?=some g→ms[j]?=some m→w.ownsRow b 5 1 (slV g) 15 (bs m.bytes)
theorem jKb {w:World} {b:Nat} {v:Value} {T:List Msg} (h:w.ownsRow b 151 4 v T.length (jG1 T)):∃ ao c,v=.slice ao T.length c∧(∀ i x,T[i]?=some x→∃ g,ao=some ⟨g,0,none⟩∧w.cell? ⟨g,i*4,none⟩=some (.int .i64 (x.kind:Int))∧w.cell? ⟨g,i*4+1,none⟩=some (.int .i64 (x.src:Int))∧w.cell? ⟨g,i*4+2,none⟩=some (.int .i64 (x.dst:Int))∧w.cell? ⟨g,i*4+3,none⟩=some (.int .u64 (x.txn:Int))):=by
 rcases h.2 with ⟨e,h0⟩ | ⟨g,cap,cur,e,rest⟩
 ·refine ⟨none,0,by rw [e,h0],λi p hp=>?_⟩
  have:=(List.getElem?_eq_some_iff.1 hp).1
  omega
 ·refine ⟨some ⟨g,0,none⟩,cap,e,λi p hp=>⟨g,rfl,?_⟩⟩
  have key:=λj hj=>jFd (f:=msgC) (k:=4) (λ_=>rfl) T i p hp j hj
  exact ⟨jB2 h e (key 0 dN),jB2 h e (key 1 dN),jB2 h e (key 2 dN),jB2 h e (key 3 dN)⟩
theorem Sent.fr {b:Nat} {w w':World} {v:Value} {gs:List Nat} {ms:List Msg} {S:List Nat} (h:Sent b w v gs ms) (hf:Fr S w w') (hS:∀ q∈S,q<b):Sent b w' v gs ms:=by
 have key:∀ {e:TypeId} {u:Value} {m:Nat} {xs:List Value},w.ownsRow b e 1 u m xs→w'.ownsRow b e 1 u m xs:=λ{e u m xs} hr=>jAf hr (λg hg=>hf.block g (hr.lt g hg).2 (λhm=>by have h1:=(hr.lt g hg).1;have h2:=hS g hm;omega))
 exact ⟨key h.row,h.len,h.nod,λj g m h1 h2=>key (h.each j g m h1 h2)⟩
theorem jSa (B nd i:Nat) (ss:Option Addr) (ov:Value) (out:List Msg) (w:World) (hnd:w.heap[nd]?=some (jCi i none ss ov)) (hov:w.ownsRow B 151 4 ov out.length (jG1 out)) (hok:∀ x∈out,x.Ok) (hlen:out.length≤60000000) :
  Calls Tryz.prog 69 #[.pointer (some ⟨nd,0,none⟩)] w λe w'=>∃ v gs,e=.returned v∧Sent w.heap.size w' v gs out∧w'.heap[nd]?=some (jCi i none ss (.slice none 0 0))∧Fr [nd] w w':=by
 obtain ⟨i0,hin,hz0,hz1,hz2⟩:=info_parts Tryz.infoSl
 obtain ⟨ao,ca,eo,hcell⟩:=jKb hov
 subst eo
 have c1:=jA0 hnd 1
 have c3:=jA0 hnd 3
 simp at c1 c3
 obtain ⟨n,hn⟩:∃ n,n=out.length:=⟨_,rfl⟩
 rw [← hn] at c3 hlen
 have H0:=jA1 (And.intro hnd (And.intro hov (And.intro hcell (And.intro hok hn))))
 clear hnd hov hcell hok hn
 go_enter Tryz.func69,Tryz.ntmps69
 go_wp2
 go_loopw [5,39] (λsv i wr=>∃ (k:Nat) (gs:List Nat),k≤n∧i=.int .i64 (k:Int)∧Hid (Sent w.heap.size wr sv gs (out.take k)∧Fr [] w wr)) (λ_ i _=>n - (intOf i).toNat)
 case atStart=>exact ⟨0,[],Nat.zero_le _,rfl,⟨World.ownsRow_nil _ _ _ _,rfl,List.nodup_nil,λj g m h=>by simp at h⟩,Fr.refl _ _⟩
 case round =>
  obtain ⟨k,gs,hk,rfl,HR⟩:=hrel
  by_cases hlt:k<n
  ·obtain ⟨x,hx⟩:∃ x,out[k]?=some x:=⟨_,List.getElem?_eq_getElem (by have:=H0.out.2.2.2.2;omega)⟩
   obtain ⟨g,rfl,y0,y1,y2,y3⟩:=H0.out.2.2.1 k x hx
   have hgl:g<w.heap.size:=(H0.out.2.1.lt g rfl).2
   have keep:∀ j,wr.cell? ⟨g,j,none⟩=w.cell? ⟨g,j,none⟩:=λj=>World.cell?_of_block (a:=⟨g,j,none⟩) (HR.out.2.block g hgl sE)
   rw [← keep] at y0 y1 y2 y3
   have hxok:=H0.out.2.2.2.1 x (List.mem_of_getElem? hx)
   have i0':(0:Int)≤(k:Int):=by omega
   have i1:(k:Int)<(n:Int):=by omega
   have HX:=jA1 (And.intro hx hxok)
   clear keep hx hxok
   have hen:=jHo x.kind x.src x.dst x.txn (wr.alloc (msgO (x.kind:Int) (x.src:Int) (x.dst:Int) (x.txn:Int))) HX.out.2.sound HX.out.2.small.1 HX.out.2.small.2.1 HX.out.2.small.2.2.1 HX.out.2.id
   have hgn:gs.length=k:=by have h1:=HR.out.1.len;rw [List.length_take] at h1;have:=H0.out.2.2.2.2;omega
   have hrowL:=jA1 HR.out.1.row
   go_wp2_with fail
   refine hen.mono ?_
   clear hen
   rintro e w2 ⟨g2,rfl,ho2,hb2⟩
   have hf2:Fr [] wr w2:=((Fr.refl [] wr).alloc _).trans (Fr.of_below hb2 [])
   have hs2:=HR.out.1.fr hf2 sE
   have hsz:w.heap.size≤w2.heap.size:=Nat.le_trans HR.out.2.size hf2.size
   have hrow2:=hs2.row
   have H2:=jA1 (And.intro hs2 (And.intro hf2 ho2))
   rw [hgn] at hrow2
   clear hb2 hf2 hs2 ho2 hrowL
   go_wp2_with (at_builtin;refine jBr rfl _ _ 147 rfl w.heap.size 88 i0 _ 1 24 Tryz.underlying147 hin hz0 hz1 hz2 rfl (by decide) u5 k (gs.map slV) rfl (hrow2.alloc _) 1 [slV g2] (.inl ⟨⟨w2.heap.size,0,none⟩,1,rfl,jBf _ #[slV g2] _⟩) rfl (by intro u hu;simp at hu;subst hu;rfl) (by unfold maxLen;omega) (by omega) (by simp;omega) ?_)
   intro v' w3 hown' hgrow hat0
   have HN:=jA1 (show Sent w.heap.size w3 v' (gs++[g2]) (out.take (k+1))∧Fr [] w w3 from by
    have hfa:Fr [] w2 (w2.alloc (.cells #[slV g2] 88)):=(Fr.refl [] w2).alloc _
    have hf3:Fr u5.ownBlock.toList w2 w3:=(hfa.mono sE).trans (Fr.of_grown hgrow)
    have hnew:∀ q∈u5.ownBlock.toList,w.heap.size≤q:=λq hq=>by simp at hq;exact (hrow2.lt q hq).1
    have keep:∀ {u:Value} {m:Nat} {xs:List Value},w2.ownsRow w.heap.size 5 1 u m xs→w3.ownsRow w.heap.size 5 1 u m xs:=λ{u m xs} hr=>jAf hr (λq hq=>hf3.block q (hr.lt q hq).2 (λhm=>by
     simp at hm
     obtain ⟨c1,e1⟩:=jA4 hr hq
     obtain ⟨c2,e2⟩:=jA4 hrow2 hm
     rw [e1] at e2
     cases e2))
    have hg2:=H2.out.2.2.lt g2 rfl
    have hlenk:(out.take k).length=k:=by rw [List.length_take];have:=H0.out.2.2.2.2;omega
    refine ⟨⟨by rw [List.map_append,List.length_append,hgn];exact hown',by rw [List.length_append,List.length_take,hgn];have:=H0.out.2.2.2.2;simp;omega,?_,?_⟩,(HR.out.2.trans H2.out.2.1).andThen hf3 (λq hq hlt2=>by have:=hnew q hq;omega)⟩
    ·rw [List.nodup_append]
     refine ⟨H2.out.1.nod,by simp,λa ha b hb e=>?_⟩
     simp at hb
     obtain ⟨j,hj,ej⟩:=List.getElem_of_mem ha
     obtain ⟨m,hm⟩:∃ m,(out.take k)[j]?=some m:=⟨_,List.getElem?_eq_getElem oE⟩
     have:=(HR.out.1.each j a m (by rw [List.getElem?_eq_getElem hj,ej]) hm).lt a rfl
     have h3:=hg2.1
     simp at h3
     omega
    ·intro j q m hj hm
     have hb0:w.heap.size≤(wr.alloc (msgO (x.kind:Int) (x.src:Int) (x.dst:Int) (x.txn:Int))).heap.size:=by have:=HR.out.2.size;simp;omega
     by_cases hjk:j<k
     ·rw [List.getElem?_append_left oE] at hj
      rw [List.getElem?_take_of_lt oE] at hm
      exact keep (H2.out.1.each j q m hj (by rw [List.getElem?_take_of_lt hjk];exact hm))
     ·have hjl:j<k+1:=by have:=(List.getElem?_eq_some_iff.1 hm).1;rw [List.length_take] at this;omega
      obtain rfl:j=k:=by omega
      rw [List.getElem?_append_right oE,hgn,Nat.sub_self] at hj
      simp at hj
      subst hj
      rw [List.getElem?_take_of_lt oE,HX.out.1] at hm
      cases hm
      exact keep (jBa H2.out.2.2 hb0))
   clear hown' hgrow hat0 hrow2 H2
   obtain ⟨oa,oc,rfl⟩:=jCx HN.out.1.row
   go_wp2
   go_roundw
   case rel=>exact ⟨k+1,gs++[g2],by omega,by go_num,HN⟩
   case measure=>simp [intOf];omega
  ·obtain rfl:k=n:=by omega
   have hnd':=(HR.out.2.block nd (Array.getElem?_eq_some_iff.1 H0.out.1).1 sE).trans H0.out.1
   have d3:=jA0 hnd' 3
   have f3:=jA2 hnd' 3
   simp at d3
   have HN:=jA1 (show Sent w.heap.size (wr.setCell ⟨nd,3,none⟩ (.slice none 0 0)) u5 gs out∧(wr.setCell ⟨nd,3,none⟩ (.slice none 0 0)).heap[nd]?=some (jCi i none ss (.slice none 0 0))∧Fr [nd] w (wr.setCell ⟨nd,3,none⟩ (.slice none 0 0)) from by
    have h1:=HR.out.1
    rw [List.take_of_length_le (by have:=H0.out.2.2.2.2;omega)] at h1
    have hfs:Fr [nd] wr (wr.setCell ⟨nd,3,none⟩ (.slice none 0 0)):=Fr.set1 sE _ _
    refine ⟨h1.fr hfs (by intro q hq;simp at hq;subst hq;exact (Array.getElem?_eq_some_iff.1 H0.out.1).1),by have:=jA5 hnd' 3 (.slice none 0 0);simp at this;exact this,(HR.out.2.mono sE).trans hfs⟩)
   clear hnd'
   go_wp2
   go_ret
   exact ⟨u5,gs,rfl,HN.out⟩
def jBb (l:List (Nat × Nat × Nat)):List Msg:=l.map λx=>⟨x.2.2,0,x.2.1,x.1⟩
theorem Sent.low {b b':Nat} {w:World} {v:Value} {gs:List Nat} {ms:List Msg} (h:Sent b w v gs ms) (hb:b'≤b):Sent b' w v gs ms:=⟨jBa h.row hb,h.len,h.nod,λj g m h1 h2=>jBa (h.each j g m h1 h2) hb⟩
theorem CoP.not_own {w:World} {B hp nd p cp gp bT lp bD bN m n:Nat} {c:ACo} {l:ALog} {d:ADisk} {ov:Value} {out:List Msg} (hP1:CoP w B hp nd p cp gp bT lp bD bN m n c l d ov out) {g:Nat} {cc:Array Value} {t:TypeId} (hc:w.heap[g]?=some (.cells cc t (0,0))) (ht:t=157∨t=207) (hr:g∉rd cp w):g∉ownL hp nd p lp cp gp w:=λhm=>by
 obtain ⟨pv,sv,rv,nD,nN,hl⟩:=hP1.sl.lg
 obtain ⟨xv,yv,hcb,q1,q2,-⟩:=hP1.sl.co.ex
 rcases jA8.1 hm with e | e | e | e | e | e | e | e | e | e
 ·rw [e,hP1.hh] at hc;rcases ht with rfl | rfl <;> cases hc
 ·rw [e,hP1.hnd] at hc;rcases ht with rfl | rfl <;> cases hc
 ·rw [e,hl.disk.blk] at hc;rcases ht with rfl | rfl <;> cases hc
 ·rw [e,hl.blk] at hc;rcases ht with rfl | rfl <;> cases hc
 ·rw [e,hcb] at hc;rcases ht with rfl | rfl <;> cases hc
 ·rw [e,hP1.sl.led] at hc;rcases ht with rfl | rfl <;> cases hc
 ·rw [hP1.hnd] at e
  obtain ⟨c2,hc2⟩:=jA4 hP1.hov ((jCo (jAu hP1.hov) g).1 e)
  rw [hc2] at hc;rcases ht with rfl | rfl <;> cases hc
 ·rcases ht with rfl | rfl <;> exact hl.free hc dN dN dN dN dN (.inr (.inr (.inl e)))
 ·rcases ht with rfl | rfl <;> exact hl.free hc dN dN dN dN dN (.inr (.inr (.inr e)))
 ·rw [hcb] at e
  rcases (jHv (jAu q1) (jAu q2)).1 e with e | e
  ·obtain ⟨es,c2,e2⟩:=hP1.sl.co.txns.isMap
   rw [← e,hc] at e2;cases e2
  ·exact hr ((jMn hcb).2 e)
theorem jJv {w:World} {b:Nat} {v:Value} {T:List (Nat × Nat × Nat)} (h:w.ownsRow b 207 3 v T.length (dueV T)):∃ ao c,v=.slice ao T.length c∧(∀ i x,T[i]?=some x→∃ g,ao=some ⟨g,0,none⟩∧w.cell? ⟨g,i*3,none⟩=some (.int .u64 (x.1:Int))∧w.cell? ⟨g,i*3+1,none⟩=some (.int .i64 (x.2.1:Int))∧w.cell? ⟨g,i*3+2,none⟩=some (.int .i64 (x.2.2:Int))):=by
 rcases h.2 with ⟨e,h0⟩ | ⟨g,cap,cur,e,rest⟩
 ·refine ⟨none,0,by rw [e,h0],λi p hp=>?_⟩
  have:=(List.getElem?_eq_some_iff.1 hp).1
  omega
 ·refine ⟨some ⟨g,0,none⟩,cap,e,λi p hp=>⟨g,rfl,?_⟩⟩
  have key:=λj hj=>jFd (f:=dueC) (k:=3) (λ_=>rfl) T i p hp j hj
  exact ⟨jB2 h e (key 0 dN),jB2 h e (key 1 dN),jB2 h e (key 2 dN)⟩
theorem jSb (B hp nd p cp gp bT lp bD bN m n':Nat) (c:ACo) (l:ALog) (d:ADisk) (ov:Value) (out:List Msg) (w:World) (h:CoP w B hp nd p cp gp bT lp bD bN m n' c l d ov out) (hok:∀ x∈out++jBb c.out,x.Ok) (hlen:(out++jBb c.out).length≤60000000) :
  Calls Tryz.prog 69 #[.pointer (some ⟨nd,0,none⟩)] w λe w'=>∃ v gs ov',e=.returned v∧Sent w.heap.size w' v gs (out++jBb c.out)∧CoP w' B hp nd p cp gp bT lp bD bN m n' { c with out:=[] } l d ov' []∧NFr (ownL hp nd p lp cp gp w) (ownL hp nd p lp cp gp w') w w':=by
 obtain ⟨i0,hin,hz0,hz1,hz2⟩:=info_parts Tryz.infoSl
 have hout:=jV1 B cp gp bT m c w h.sl.co
 have c1:=jA0 h.hnd 1
 simp at c1
 have H0':=jA1 (And.intro h (And.intro hok hlen))
 clear h hok
 go_enter Tryz.func69,Tryz.ntmps69
 go_wp2_with fail
 refine hout.mono ?_
 clear hout
 rintro e w1 ⟨v,rfl,h1,-,h3,h4,h5,-,h7⟩
 obtain ⟨hs1,hx1⟩:=H0'.out.1.sl.turn h4 (h7.mono (by intro k hk;simp at hk;simp [hk]))
 obtain ⟨hP1,hN1⟩:=H0'.out.1.cfr hx1 hs1
 have hno1:∀ g,v.ownBlock=some g→g∉ownL hp nd p lp cp gp w1:=λg hg=>by
  obtain ⟨cc,hc⟩:=jA4 h1 hg
  exact hP1.not_own hc (.inr rfl) (h5 g hg)
 obtain ⟨do_,dc,ed,hdc⟩:=jJv h1
 subst ed
 obtain ⟨N1,hN1'⟩:∃ N1,N1=c.out.length:=⟨_,rfl⟩
 have hN1b:N1≤60000000:=by rw [hN1'];rw [List.length_append] at hlen;unfold jBb at hlen;rw [List.length_map] at hlen;omega
 have H1:=jA1 (And.intro hP1 (And.intro hN1 (And.intro hno1 (And.intro h1 (And.intro hdc hN1')))))
 rw [← hN1']
 clear h1 h3 h4 h5 h7 hs1 hx1 hP1 hN1 hno1 hdc hN1' c1 hlen
 go_wp2
 go_loopw [21] (λi wr=>∃ k:Nat,k≤N1∧i=.int .i64 (k:Int)∧Hid (∃ ov',CoP wr B hp nd p cp gp bT lp bD bN m n' { c with out:=[] } l d ov' (out++jBb (c.out.take k))∧NFr (ownL hp nd p lp cp gp w) (ownL hp nd p lp cp gp wr) w wr∧wr.ownsRow B 207 3 (.slice do_ c.out.length dc) c.out.length (dueV c.out)∧w1.heap.size≤wr.heap.size)) (λi _=>N1 - (intOf i).toNat)
 case atStart=>exact ⟨0,Nat.zero_le _,rfl,ov,by simpa [jBb] using H1.out.1,H1.out.2.1,H1.out.2.2.2.1,Nat.le_refl _⟩
 case round =>
  obtain ⟨k,hk,rfl,HR⟩:=hrel
  obtain ⟨ov1,hPk,hNk,hdk,hwk⟩:=HR.out
  by_cases hlt:k<N1
  ·obtain ⟨x,hx⟩:∃ x,c.out[k]?=some x:=⟨_,List.getElem?_eq_getElem (by have:=H1.out.2.2.2.2.2;omega)⟩
   obtain ⟨ao',ca',ed',hd'⟩:=jJv hdk
   cases ed'
   obtain ⟨g,rfl,y0,y1,y2⟩:=hd' k x hx
   have i1:(k:Int)<(N1:Int):=by omega
   obtain ⟨tx,sx,wx⟩:=x
   simp only [] at y0 y1 y2
   obtain ⟨W,hW⟩:∃ W,W=wr.alloc (.cells #[.int .u64 (tx:Int),.int .i64 (sx:Int),.int .i64 (wx:Int)] 207):=⟨_,rfl⟩
   have hfW:Fr [] wr W:=by rw [hW];exact (Fr.refl [] wr).alloc _
   obtain ⟨hPW,hNW⟩:=hPk.new hfW
   have hse:=jH0 B nd 0 wx sx tx (some ⟨cp,0,none⟩) none ov1 (out++jBb (c.out.take k)) W hPW.hnd hPW.hov hPW.size (by
    have:=H0'.out.2.2
    have h2:=H1.out.2.2.2.2.2
    rw [List.length_append] at this ⊢
    unfold jBb at this ⊢
    rw [List.length_map] at this ⊢
    rw [List.length_take]
    omega)
   have HK:=jA1 (And.intro hPW (And.intro (hNk.trans hNW) (And.intro hdk (And.intro hx (And.intro hfW hwk)))))
   have HSE:=jA1 hse
   clear hPk hNk hdk hx hd' hPW hNW hfW hse HR hwk
   go_wp2_with fail
   rw [← hW]
   clear hW
   refine HSE.out.mono ?_
   clear HSE
   rintro e w3 ⟨rfl,hs3⟩
   obtain ⟨ov3,hP3,hN3⟩:=HK.out.1.sent hs3
   have hrow3:w3.ownsRow B 207 3 (.slice (some ⟨g,0,none⟩) c.out.length dc) c.out.length (dueV c.out):=by
    obtain ⟨ov9,-,-,hf9,-⟩:=hs3
    refine jAf (jAf HK.out.2.2.1 (λq hq=>HK.out.2.2.2.2.1.block q (HK.out.2.2.1.lt q hq).2 sE)) (λq hq=>hf9.block q (Nat.lt_of_lt_of_le (HK.out.2.2.1.lt q hq).2 HK.out.2.2.2.2.1.size) (λhm=>?_))
    obtain ⟨c5,e5⟩:=jA4 HK.out.2.2.1 hq
    have e6:=(HK.out.2.2.2.2.1.block q (HK.out.2.2.1.lt q hq).2 sE).trans e5
    rcases List.mem_cons.1 hm with e7 | e7
    ·rw [e7,HK.out.1.hnd] at e6;cases e6
    ·simp at e7
     obtain ⟨c8,e8⟩:=jA4 HK.out.1.hov e7
     rw [e8] at e6;cases e6
   have HN:=jA1 (show ∃ ov',CoP w3 B hp nd p cp gp bT lp bD bN m n' { c with out:=[] } l d ov' (out++jBb (c.out.take (k+1)))∧NFr (ownL hp nd p lp cp gp w) (ownL hp nd p lp cp gp w3) w w3∧w3.ownsRow B 207 3 (.slice (some ⟨g,0,none⟩) c.out.length dc) c.out.length (dueV c.out)∧w1.heap.size≤w3.heap.size from ⟨ov3,by
    have e1:out++jBb (c.out.take (k+1))=out++jBb (c.out.take k)++[⟨wx,0,sx,tx⟩]:=by
     unfold jBb
     rw [List.take_add_one,HK.out.2.2.2.1,List.map_append,List.append_assoc]
     rfl
    rw [e1]
    exact hP3,HK.out.2.1.trans hN3,hrow3,Nat.le_trans HK.out.2.2.2.2.2 (Nat.le_trans HK.out.2.2.2.2.1.size hN3.fr.size)⟩)
   clear hs3 hP3 hN3 hrow3 HK
   go_wp2
   go_roundw
   case rel=>exact ⟨k+1,by omega,by go_num,HN⟩
   case measure=>simp [intOf];omega
  ·obtain rfl:k=N1:=by omega
   obtain ⟨w4,hw4⟩:∃ w4,w4=wr:=⟨_,rfl⟩
   obtain ⟨out2,hout2⟩:∃ out2,out2=out++jBb c.out:=⟨_,rfl⟩
   rw [List.take_of_length_le (by have:=H1.out.2.2.2.2.2;omega),← hout2] at hPk
   have hok:=H0'.out.2.1
   have hlen:=H0'.out.2.2
   rw [← hout2] at hok hlen
   rw [← hw4] at hPk hNk ⊢
   have hnd:=hPk.hnd
   have hov:=hPk.hov
   obtain ⟨ao,ca,eo,hcell⟩:=jKb hov
   subst eo
   have c3:=jA0 hnd 3
   simp at c3
   obtain ⟨n,hn⟩:∃ n,n=out2.length:=⟨_,rfl⟩
   rw [← hn] at c3 hlen
   have H0:=jA1 (And.intro hnd (And.intro hov (And.intro hcell (And.intro hok hn))))
   have H4:=jA1 (And.intro hPk (And.intro hNk hout2))
   clear hnd hov hcell hok hn HR hw4 hPk hNk hdk hwk hout2
   go_wp2
   go_loopw [5,39] (λsv i wr=>∃ (k:Nat) (gs:List Nat),k≤n∧i=.int .i64 (k:Int)∧Hid (Sent w4.heap.size wr sv gs (out2.take k)∧Fr [] w4 wr)) (λ_ i _=>n - (intOf i).toNat)
   case atStart=>exact ⟨0,[],Nat.zero_le _,rfl,⟨World.ownsRow_nil _ _ _ _,rfl,List.nodup_nil,λj g m h=>by simp at h⟩,Fr.refl _ _⟩
   case round =>
    obtain ⟨k,gs,hk,rfl,HR⟩:=hrel
    by_cases hlt:k<n
    ·obtain ⟨x,hx⟩:∃ x,out2[k]?=some x:=⟨_,List.getElem?_eq_getElem (by have:=H0.out.2.2.2.2;omega)⟩
     obtain ⟨g,rfl,y0,y1,y2,y3⟩:=H0.out.2.2.1 k x hx
     have hgl:g<w4.heap.size:=(H0.out.2.1.lt g rfl).2
     have keep:∀ j,wr.cell? ⟨g,j,none⟩=w4.cell? ⟨g,j,none⟩:=λj=>World.cell?_of_block (a:=⟨g,j,none⟩) (HR.out.2.block g hgl sE)
     rw [← keep] at y0 y1 y2 y3
     have hxok:=H0.out.2.2.2.1 x (List.mem_of_getElem? hx)
     have i0':(0:Int)≤(k:Int):=by omega
     have i1:(k:Int)<(n:Int):=by omega
     have HX:=jA1 (And.intro hx hxok)
     clear keep hx hxok
     have hen:=jHo x.kind x.src x.dst x.txn (wr.alloc (msgO (x.kind:Int) (x.src:Int) (x.dst:Int) (x.txn:Int))) HX.out.2.sound HX.out.2.small.1 HX.out.2.small.2.1 HX.out.2.small.2.2.1 HX.out.2.id
     have hgn:gs.length=k:=by have h1:=HR.out.1.len;rw [List.length_take] at h1;have:=H0.out.2.2.2.2;omega
     have hrowL:=jA1 HR.out.1.row
     go_wp2_with fail
     refine hen.mono ?_
     clear hen
     rintro e w2 ⟨g2,rfl,ho2,hb2⟩
     have hf2:Fr [] wr w2:=((Fr.refl [] wr).alloc _).trans (Fr.of_below hb2 [])
     have hs2:=HR.out.1.fr hf2 sE
     have hsz:w4.heap.size≤w2.heap.size:=Nat.le_trans HR.out.2.size hf2.size
     have hrow2:=hs2.row
     have H2:=jA1 (And.intro hs2 (And.intro hf2 ho2))
     rw [hgn] at hrow2
     clear hb2 hf2 hs2 ho2 hrowL
     go_wp2_with (at_builtin;refine jBr rfl _ _ 147 rfl w4.heap.size 88 i0 _ 1 24 Tryz.underlying147 hin hz0 hz1 hz2 rfl (by decide) u5 k (gs.map slV) rfl (hrow2.alloc _) 1 [slV g2] (.inl ⟨⟨w2.heap.size,0,none⟩,1,rfl,jBf _ #[slV g2] _⟩) rfl (by intro u hu;simp at hu;subst hu;rfl) (by unfold maxLen;omega) (by omega) (by simp;omega) ?_)
     intro v' w3 hown' hgrow hat0
     have HN:=jA1 (show Sent w4.heap.size w3 v' (gs++[g2]) (out2.take (k+1))∧Fr [] w4 w3 from by
      have hfa:Fr [] w2 (w2.alloc (.cells #[slV g2] 88)):=(Fr.refl [] w2).alloc _
      have hf3:Fr u5.ownBlock.toList w2 w3:=(hfa.mono sE).trans (Fr.of_grown hgrow)
      have hnew:∀ q∈u5.ownBlock.toList,w4.heap.size≤q:=λq hq=>by simp at hq;exact (hrow2.lt q hq).1
      have keep:∀ {u:Value} {m:Nat} {xs:List Value},w2.ownsRow w4.heap.size 5 1 u m xs→w3.ownsRow w4.heap.size 5 1 u m xs:=λ{u m xs} hr=>jAf hr (λq hq=>hf3.block q (hr.lt q hq).2 (λhm=>by
       simp at hm
       obtain ⟨c1,e1⟩:=jA4 hr hq
       obtain ⟨c2,e2⟩:=jA4 hrow2 hm
       rw [e1] at e2
       cases e2))
      have hg2:=H2.out.2.2.lt g2 rfl
      have hlenk:(out2.take k).length=k:=by rw [List.length_take];have:=H0.out.2.2.2.2;omega
      refine ⟨⟨by rw [List.map_append,List.length_append,hgn];exact hown',by rw [List.length_append,List.length_take,hgn];have:=H0.out.2.2.2.2;simp;omega,?_,?_⟩,(HR.out.2.trans H2.out.2.1).andThen hf3 (λq hq hlt2=>by have:=hnew q hq;omega)⟩
      ·rw [List.nodup_append]
       refine ⟨H2.out.1.nod,by simp,λa ha b hb e=>?_⟩
       simp at hb
       obtain ⟨j,hj,ej⟩:=List.getElem_of_mem ha
       obtain ⟨m,hm⟩:∃ m,(out2.take k)[j]?=some m:=⟨_,List.getElem?_eq_getElem oE⟩
       have:=(HR.out.1.each j a m (by rw [List.getElem?_eq_getElem hj,ej]) hm).lt a rfl
       have h3:=hg2.1
       simp at h3
       omega
      ·intro j q m hj hm
       have hb0:w4.heap.size≤(wr.alloc (msgO (x.kind:Int) (x.src:Int) (x.dst:Int) (x.txn:Int))).heap.size:=by have:=HR.out.2.size;simp;omega
       by_cases hjk:j<k
       ·rw [List.getElem?_append_left oE] at hj
        rw [List.getElem?_take_of_lt oE] at hm
        exact keep (H2.out.1.each j q m hj (by rw [List.getElem?_take_of_lt hjk];exact hm))
       ·have hjl:j<k+1:=by have:=(List.getElem?_eq_some_iff.1 hm).1;rw [List.length_take] at this;omega
        obtain rfl:j=k:=by omega
        rw [List.getElem?_append_right oE,hgn,Nat.sub_self] at hj
        simp at hj
        subst hj
        rw [List.getElem?_take_of_lt oE,HX.out.1] at hm
        cases hm
        exact keep (jBa H2.out.2.2 hb0))
     clear hown' hgrow hat0 hrow2 H2
     obtain ⟨oa,oc,rfl⟩:=jCx HN.out.1.row
     go_wp2
     go_roundw
     case rel=>exact ⟨k+1,gs++[g2],by omega,by go_num,HN⟩
     case measure=>simp [intOf];omega
    ·obtain rfl:k=n:=by omega
     have hnd':=(HR.out.2.block nd (Array.getElem?_eq_some_iff.1 H0.out.1).1 sE).trans H0.out.1
     have d3:=jA0 hnd' 3
     have f3:=jA2 hnd' 3
     simp at d3
     have HN:=jA1 (show Sent w4.heap.size (wr.setCell ⟨nd,3,none⟩ (.slice none 0 0)) u5 gs out2∧(wr.setCell ⟨nd,3,none⟩ (.slice none 0 0)).heap[nd]?=some (jCi 0 (some ⟨cp,0,none⟩) none (.slice none 0 0))∧Fr [nd] w4 (wr.setCell ⟨nd,3,none⟩ (.slice none 0 0)) from by
      have h1:=HR.out.1
      rw [List.take_of_length_le (by have:=H0.out.2.2.2.2;omega)] at h1
      have hfs:Fr [nd] wr (wr.setCell ⟨nd,3,none⟩ (.slice none 0 0)):=Fr.set1 sE _ _
      refine ⟨h1.fr hfs (by intro q hq;simp at hq;subst hq;exact (Array.getElem?_eq_some_iff.1 H0.out.1).1),by have:=jA5 hnd' 3 (.slice none 0 0);simp at this;exact this,(HR.out.2.mono sE).trans hfs⟩)
     clear hnd'
     go_wp2
     go_ret
     obtain ⟨hS6,hn6,hf6⟩:=HN.out
     have hse:SentN B nd 0 (some ⟨cp,0,none⟩) none (.slice ao out2.length ca) [] w4 _:=⟨.slice none 0 0,hn6,World.ownsRow_nil _ _ _ _,hf6.mono (by intro q _ hq;simp at hq;simp [hq]),λg hg=>by cases hg⟩
     obtain ⟨ov6,hP6,hN6⟩:=H4.out.1.sent hse
     exact ⟨u5,gs,ov6,rfl,(by rw [← H4.out.2.2];exact hS6.low (Nat.le_trans H4.out.2.1.fr.size (Nat.le_refl _))),hP6,H4.out.2.1.trans hN6⟩
def msgT (l:List Msg):List Value:=l.map λx=>.string (str x.bytes)
theorem jU3 {w:World} {b:Nat} {v:Value} {gs:List Nat} (h:w.ownsRow b 88 1 v gs.length (gs.map slV)):∃ ao c,v=.slice ao gs.length c∧(∀ i x,gs[i]?=some x→∃ g,ao=some ⟨g,0,none⟩∧w.cell? ⟨g,i,none⟩=some (slV x)):=by
 rcases h.2 with ⟨e,h0⟩ | ⟨g,cap,cur,e,rest⟩
 ·refine ⟨none,0,by rw [e,h0],λi p hp=>?_⟩
  have:=(List.getElem?_eq_some_iff.1 hp).1
  omega
 ·exact ⟨some ⟨g,0,none⟩,cap,e,λi p hp=>⟨g,rfl,jB2 h e (by rw [List.getElem?_map,hp];rfl)⟩⟩
theorem jJb (hp nd p i:Nat) (x1 x2:Option Addr) (ms:List Msg) (Q:World→Prop) (w:World) (hh:w.heap[hp]?=some (jBu i p true x1 x2 (some ⟨nd,0,none⟩))) (hok:∀ x∈ms,x.Ok) (hlen:ms.length≤60000000)
  (hS:Calls Tryz.prog 69 #[.pointer (some ⟨nd,0,none⟩)] w λe w'=>∃ v gs,e=.returned v∧Sent w.heap.size w' v gs ms∧Q w'∧w.heap.size≤w'.heap.size) :
  Calls Tryz.prog 34 #[.pointer (some ⟨hp,0,none⟩)] w λe w'=>∃ v w1 gs,e=.returned v∧w'.ownsRow w.heap.size 9 1 v ms.length (msgT ms)∧(ms=[]→v=.slice none 0 0)∧Q w1∧Fr gs w1 w'∧∀ g∈gs,w.heap.size≤g∧∃ c,w1.heap[g]?=some (.cells c 5 (0,0)):=by
 obtain ⟨i0,hin,hz0,hz1,hz2⟩:=info_parts Tryz.infoStr
 have c7:=jA0 hh 7
 simp at c7
 have H0:=jA1 hok
 clear hok
 go_enter Tryz.func34,Tryz.ntmps34
 go_wp2_with fail
 refine hS.mono ?_
 clear hS
 rintro e w1 ⟨v,gs,rfl,hSe,hQ,hsz⟩
 obtain ⟨ao,ca,ed,hcl⟩:=jU3 hSe.row
 subst ed
 obtain ⟨n,hn⟩:∃ n,n=gs.length:=⟨_,rfl⟩
 have hnb:n≤60000000:=by rw [hn,hSe.len];exact hlen
 have H1:=jA1 (And.intro hSe (And.intro hQ (And.intro hcl hn)))
 rw [← hn]
 clear hSe hQ hcl hn c7 hlen hh
 go_wp2
 go_loopw [3,17] (λlv i wr=>∃ k:Nat,k≤n∧i=.int .i64 (k:Int)∧Hid (wr.ownsRow w1.heap.size 9 1 lv k (msgT (ms.take k))∧(k=0→lv=.slice none 0 0)∧Fr gs w1 wr∧∀ (j g:Nat) (x:Msg),k≤j→gs[j]?=some g→ms[j]?=some x→wr.ownsRow w.heap.size 5 1 (slV g) 15 (bs x.bytes))) (λ_ i _=>n - (intOf i).toNat)
 case atStart=>exact ⟨0,Nat.zero_le _,rfl,World.ownsRow_nil _ _ _ _,λ_=>rfl,Fr.refl _ _,λj g x _ h1 h2=>H1.out.1.each j g x h1 h2⟩
 case round =>
  obtain ⟨k,hk,rfl,HR⟩:=hrel
  have hgl:=H1.out.1.len
  by_cases hlt:k<n
  ·obtain ⟨g,hg⟩:∃ g,gs[k]?=some g:=⟨_,List.getElem?_eq_getElem (by have:=H1.out.2.2.2;omega)⟩
   obtain ⟨x,hx⟩:∃ x,ms[k]?=some x:=⟨_,List.getElem?_eq_getElem (by have:=H1.out.2.2.2;omega)⟩
   obtain ⟨g',rfl,y0⟩:=H1.out.2.2.1 k g hg
   obtain ⟨hrow,h0,hfr,hea⟩:=HR.out
   have hxok:=H0.out x (List.mem_of_getElem? hx)
   have tyg:∀ q∈gs,∃ c,w1.heap[q]?=some (.cells c 5 (0,0))∧w.heap.size≤q:=λq hq=>by
    obtain ⟨j,hj,ej⟩:=List.getElem_of_mem hq
    obtain ⟨m,hm⟩:∃ m,ms[j]?=some m:=⟨_,List.getElem?_eq_getElem oE⟩
    have hr:=H1.out.1.each j q m (by rw [List.getElem?_eq_getElem hj,ej]) hm
    obtain ⟨c,hc⟩:=jA4 hr (g:=q) rfl
    exact ⟨c,hc,(hr.lt q rfl).1⟩
   have y0':wr.cell? ⟨g',k,none⟩=some (slV g):=by
    obtain ⟨c2,e2⟩:=jA4 H1.out.1.row (g:=g') rfl
    exact (World.cell?_of_block (a:=⟨g',k,none⟩) (hfr.block g' (Array.getElem?_eq_some_iff.1 e2).1 (λhm=>by obtain ⟨c3,e3,-⟩:=tyg g' hm;rw [e2] at e3;cases e3))).trans y0
   have hr:=hea k g x (Nat.le_refl _) hg hx
   have hrs:(convert 88 9 (.slice (some ⟨g,0,none⟩) 15 15)).run Tryz.prog wr=.ok (.string (str x.bytes)) wr:=jDo wr g 0 15 15 x.bytes x.bytes_len (jE1 hr)
   have i1:(k:Int)<(n:Int):=by omega
   have hkn:=H1.out.2.2.2
   have HX:=jA1 (And.intro hg (And.intro hx (And.intro tyg (And.intro hr (And.intro hea (And.intro hfr hrow))))))
   have hsz2:w1.heap.size≤wr.heap.size:=hfr.size
   clear hg hx hxok tyg hr hea hfr h0 hkn
   go_wp2_with (at_builtin;refine jBr rfl _ _ 35 rfl w1.heap.size 9 i0 _ 1 16 Tryz.underlying35 hin hz0 hz1 hz2 rfl (by decide) u3 k (msgT (ms.take k)) rfl (hrow.alloc _) 1 [.string (str x.bytes)] (.inl ⟨⟨wr.heap.size,0,none⟩,1,rfl,jBf _ #[.string (str x.bytes)] _⟩) rfl (by intro u hu;simp at hu;subst hu;rfl) (by unfold maxLen;omega) (by omega) (by simp;omega) ?_)
   intro v' w3 hown' hgrow hat0
   have hf3:Fr u3.ownBlock.toList wr w3:=(((Fr.refl [] wr).alloc _).mono sE).trans (Fr.of_grown hgrow)
   have hnew:∀ q∈u3.ownBlock.toList,w1.heap.size≤q:=λq hq=>by simp at hq;exact (hrow.lt q hq).1
   have keep3:∀ {u:Value} {m:Nat} {xs:List Value},wr.ownsRow w.heap.size 5 1 u m xs→w3.ownsRow w.heap.size 5 1 u m xs:=λ{u m xs} hr=>jAf hr (λq hq=>hf3.block q (hr.lt q hq).2 (λhm=>by
    simp at hm
    obtain ⟨c1,e1⟩:=jA4 hr hq
    obtain ⟨c2,e2⟩:=jA4 hrow hm
    rw [e1] at e2
    cases e2))
   have hsc:=jF5 w.heap.size g 15 15 _ w3 (keep3 HX.out.2.2.2.1) dN
   have H3:=jA1 (And.intro hown' (And.intro hf3 (And.intro hnew (And.intro (keep3 HX.out.2.2.2.1) (λ(j q:Nat) (y:Msg) (a:k+1≤j) (b:gs[j]?=some q) (c:ms[j]?=some y)=>keep3 (HX.out.2.2.2.2.1 j q y oE b c))))))
   obtain ⟨va,vb,vc,rfl⟩:=jAu hown'
   clear hown' hgrow hat0 hf3 hnew keep3 hrow hrs y0'
   go_wp2_with fail
   refine hsc.mono ?_
   clear hsc
   rintro e w4 ⟨rfl,hg4⟩
   have hf4:Fr [g] w3 w4:=Fr.of_grown1 hg4
   have hgm:g∈gs:=List.mem_of_getElem? HX.out.1
   have HN:=jA1 (show w4.ownsRow w1.heap.size 9 1 (.slice va vb vc) (k+1) (msgT (ms.take (k+1)))∧(k+1=0→(.slice va vb vc:Value)=.slice none 0 0)∧Fr gs w1 w4∧∀ (j q:Nat) (y:Msg),k+1≤j→gs[j]?=some q→ms[j]?=some y→w4.ownsRow w.heap.size 5 1 (slV q) 15 (bs y.bytes) from by
    refine ⟨?_,λe=>by omega,?_,λj q y hj hq hy=>?_⟩
    ·have e1:msgT (ms.take (k+1))=msgT (ms.take k)++[.string (str x.bytes)]:=by
      unfold msgT
      rw [List.take_add_one,HX.out.2.1,List.map_append]
      rfl
     rw [e1]
     refine jAf H3.out.1 (λq hq=>hf4.block q (H3.out.1.lt q hq).2 (λhm=>?_))
     simp at hm
     subst hm
     obtain ⟨c1,e2⟩:=jA4 H3.out.1 hq
     obtain ⟨c2,e3⟩:=jA4 H3.out.2.2.2.1 (g:=q) rfl
     rw [e2] at e3
     cases e3
    ·exact (HX.out.2.2.2.2.2.1.andThen H3.out.2.1 (λj hj hl=>by have:=H3.out.2.2.1 j hj;omega)).andThen hf4 (λj hj _=>by simp at hj;rw [hj];exact hgm)
    ·refine jAf (H3.out.2.2.2.2 j q y hj hq hy) (λq' hq'=>hf4.block q' ((H3.out.2.2.2.2 j q y hj hq hy).lt q' hq').2 (λhm=>?_))
     simp at hm
     cases hq'
     subst hm
     have h1:=List.getElem?_eq_some_iff.1 hq
     have h2:=List.getElem?_eq_some_iff.1 HX.out.1
     have:=List.pairwise_iff_getElem.1 H1.out.1.nod k j h2.1 h1.1 oE
     rw [h1.2,h2.2] at this
     exact this rfl)
   clear hg4 hf4
   go_wp2
   go_roundw
   case rel=>exact ⟨k+1,by omega,by go_num,HN⟩
   case measure=>simp [intOf];omega
  ·obtain rfl:k=n:=by omega
   have HN:=jA1 (show wr.ownsRow w.heap.size 9 1 u3 ms.length (msgT ms)∧(ms=[]→u3=.slice none 0 0)∧Q w1∧Fr gs w1 wr∧∀ g∈gs,w.heap.size≤g∧∃ c,w1.heap[g]?=some (.cells c 5 (0,0)) from by
    have hkn:=H1.out.2.2.2
    have h1:=HR.out.1
    rw [List.take_of_length_le oE,show k=ms.length by omega] at h1
    refine ⟨jBa h1 hsz,λe=>HR.out.2.1 (by rw [e] at hgl;simp at hgl;rw [hgl] at hkn;simpa using hkn),H1.out.2.1,HR.out.2.2.1,λq hq=>?_⟩
    obtain ⟨j,hj,ej⟩:=List.getElem_of_mem hq
    obtain ⟨m,hm⟩:∃ m,ms[j]?=some m:=⟨_,List.getElem?_eq_getElem oE⟩
    have hr:=H1.out.1.each j q m (by rw [List.getElem?_eq_getElem hj,ej]) hm
    obtain ⟨c,hc⟩:=jA4 hr (g:=q) rfl
    exact ⟨(hr.lt q rfl).1,c,hc⟩)
   go_wp2
   go_ret
   exact ⟨u3,w1,gs,rfl,HN.out⟩
section
variable (B i hp K:Nat) (s:AShard) (c:ACo) (out:List Msg) (L:List Nat) (w:World)
theorem jXz (h:ShNode w B i hp s out K L) (hok:∀ x∈out,x.Ok) (hK:K≤290000) :
  Calls Tryz.prog 34 #[.pointer (some ⟨hp,0,none⟩)] w λe w'=>∃ v L',e=.returned v∧w'.ownsRow w.heap.size 9 1 v out.length (msgT out)∧(out=[]→v=.slice none 0 0)∧ShNode w' B i hp s [] K L'∧NFr L L' w w':=by
 obtain ⟨nd,p,sp,gp,bV,bT,bH,lp,bD,bN,m,n,l,d,ov,hP,hw,hm,rfl⟩:=h
 refine (jJb hp nd p i _ _ out (λw1=>w1.heap[nd]?=some (jCi i none (some ⟨sp,0,none⟩) (.slice none 0 0))∧Fr [nd] w w1) w hP.hh hok oE ?_).mono ?_
 ·refine (jSa B nd i _ ov out w hP.hnd hP.hov hok oE).mono ?_
  rintro e w1 ⟨v,gs,rfl,h1,h2,h3⟩
  exact ⟨v,gs,rfl,h1,⟨h2,h3⟩,h3.size⟩
 ·rintro e w' ⟨v,w1,gs,rfl,h1,h2,⟨h3,h4⟩,h5,h6⟩
  have hse:SentN B nd i none (some ⟨sp,0,none⟩) ov [] w w1:=⟨.slice none 0 0,h3,World.ownsRow_nil _ _ _ _,h4.mono (by intro q _ hq;simp at hq;simp [hq]),λg hg=>by cases hg⟩
  obtain ⟨ov1,hP1,hN1⟩:=hP.sent hse
  obtain ⟨hP2,hL2⟩:=hP1.apart h5 (λk hk _=>by
   obtain ⟨-,c,hc⟩:=h6 k hk
   exact ⟨λhm=>by have:=(hP1.obj k hm).2;rw [hc] at this;have:=this.not;simp [jAd] at this,λt e=>by rw [hc] at e;exact jG7 _ _ _ e⟩)
  have hN2:=hN1.young1 h5 (λk hk=>(h6 k hk).1)
  rw [← hL2] at hN2
  exact ⟨v,_,rfl,h1,h2,⟨nd,p,sp,gp,bV,bT,bH,lp,bD,bN,m,n,l,d,ov1,hP2,hw,⟨hm.1,hm.2.1,Nat.zero_le _⟩,rfl⟩,hN2⟩
theorem jXm (h:CoNode w B hp c out K L) (hok:∀ x∈out++jBb c.out,x.Ok) (hK:K≤140000) :
  Calls Tryz.prog 34 #[.pointer (some ⟨hp,0,none⟩)] w λe w'=>∃ v L',e=.returned v∧w'.ownsRow w.heap.size 9 1 v (out++jBb c.out).length (msgT (out++jBb c.out))∧(out++jBb c.out=[]→v=.slice none 0 0)∧CoNode w' B hp { c with out:=[] } [] K L'∧NFr L L' w w':=by
 obtain ⟨nd,p,cp,gp,bT,lp,bD,bN,m,n,l,d,ov,hP,hw,hm,rfl⟩:=h
 have hlen:(out++jBb c.out).length≤60000000:=by
  obtain ⟨xv,yv,hcb,-,-,-,h5⟩:=hP.sl.co.ex
  have:=h5.1
  rw [List.length_append]
  unfold jBb
  rw [List.length_map]
  omega
 refine (jJb hp nd p 0 _ _ (out++jBb c.out) (λw1=>∃ ov',CoP w1 B hp nd p cp gp bT lp bD bN m n { c with out:=[] } l d ov' []∧NFr (ownL hp nd p lp cp gp w) (ownL hp nd p lp cp gp w1) w w1) w hP.hh hok hlen ?_).mono ?_
 ·refine (jSb B hp nd p cp gp bT lp bD bN m n c l d ov out w hP hok hlen).mono ?_
  rintro e w1 ⟨v,gs,ov',rfl,h1,h2,h3⟩
  exact ⟨v,gs,rfl,h1,⟨ov',h2,h3⟩,h3.fr.size⟩
 ·rintro e w' ⟨v,w1,gs,rfl,h1,h2,⟨ov1,hP1,hN1⟩,h5,h6⟩
  obtain ⟨hP2,hL2⟩:=hP1.apart h5 (λk hk _=>by
   obtain ⟨-,c,hc⟩:=h6 k hk
   exact ⟨λhm=>by have:=(hP1.obj k hm).2;rw [hc] at this;have:=this.not;simp [jAd] at this,λt e=>by rw [hc] at e;exact jG7 _ _ _ e⟩)
  have hN2:=hN1.young1 h5 (λk hk=>(h6 k hk).1)
  rw [← hL2] at hN2
  exact ⟨v,_,rfl,h1,h2,⟨nd,p,cp,gp,bT,lp,bD,bN,m,n,l,d,ov1,hP2,hw,⟨hm.1,hm.2.1,Nat.zero_le _⟩,rfl⟩,hN2⟩
end
end Go.Proofs.YtcalalndmcemiaaGreatDoor
