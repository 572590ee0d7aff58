import Derived.Test.YtcalalndmcemiaaGreatDoorC12
import Derived.Deep.CutRange
import Derived.Lib.SmallJoins
set_option maxRecDepth 100000
set_option maxHeartbeats 16000000
namespace Go.Proofs.YtcalalndmcemiaaGreatDoor
open Go.RowKit
open Sc
theorem jTq {w:World} {o:Oper} {a:Act} {K:Act→World→Prop} {Q:Exit→Act→World→Prop} (s x:Operand)
  (ho:o.op=.call { callee:=.builtin .append,args:=#[s,x],argTypes:=#[64,64] })
  (base:Nat) (v:Value) (n:Nat) (rs:List Rec) (r:Rec) (b:Nat) (hs:a.eval s=v) (hown:w.ownsRow base 110 3 v n (jD2 rs)) (hx:a.eval x=.slice (some ⟨b,0,none⟩) 1 1)
  (hc0:w.cell? ⟨b,0,none⟩=some (.int .u64 (r.lsn:Int))) (hc1:w.cell? ⟨b,1,none⟩=some (.int .u8 (r.kind:Int))) (hc2:w.cell? ⟨b,2,none⟩=some (.string (str r.pay))) (hn:n≤1099511627776) (hbase:base≤w.heap.size)
  (h:∀ v' w',w'.ownsRow base 110 3 v' (n+1) (jD2 (rs++[r]))→w.grownBy w' v.ownBlock→(v'.ownBlock=v.ownBlock∨v'.ownBlock=some w.heap.size)→K (a.put o.dst v') w'):o.wp Tryz.prog a w K Q:=by
 obtain ⟨i0,hi,hz0,hz1,hz2⟩:=info_parts Tryz.infoRec
 refine jBn s x 64 ho base 110 i0 _ 3 32 Tryz.underlying64 hi hz0 hz1 hz2 rfl dN v n (jD2 rs) hs hown ⟨b,0,none⟩ 1 1 (jC6 r) hx rfl ?_ ?_ (by unfold maxLen;omega) oE hbase ?_
 ·intro jj u hjj
  match jj,hjj with
  | 0,hjj=>simp [jC6] at hjj;subst hjj;simpa [Addr.add] using hc0
  | 1,hjj=>simp [jC6] at hjj;subst hjj;simpa [Addr.add] using hc1
  | 2,hjj=>simp [jC6] at hjj;subst hjj;simpa [Addr.add] using hc2
 ·intro u hu;simp [jC6] at hu;rcases hu with rfl | rfl | rfl <;> rfl
 ·intro v' w' ho' hg' hl'
  refine h v' w' ?_ hg' hl'
  rw [jOb];exact ho'
theorem LogIn.recsApp {w w4:World} {B lp p bD bN n nD nN:Nat} {pv sv rv v4:Value} {l:ALog} {d:ADisk} {ob:Obj} {r:Rec} (h:LogIn w B lp p bD bN pv sv rv l d n nD nN) (hn:n<67108864) (hg:(w.alloc ob).drew.grownBy w4 rv.ownBlock) (ho:w4.ownsRow B 110 3 v4 (l.recs.length+1) (jD2 (l.recs++[r]))) (hnr:Near w.heap.size rv v4) :
  LogIn (w4.setCell ⟨lp,3,none⟩ v4) B lp p bD bN pv sv v4 { l with recs:=l.recs++[r] } d (n+1) nD nN∧OFr lp p w (w4.setCell ⟨lp,3,none⟩ v4)∧Fr (lp :: rv.ownBlock.toList) w (w4.setCell ⟨lp,3,none⟩ v4):=by
 have hb4:w4.heap[lp]?=some (logO p sv rv l):=(jVr h hg (jAe h.recs h.blk dN) 0).2.2
 obtain ⟨W,hW⟩:∃ W,W=w4.setCell ⟨lp,3,none⟩ v4:=⟨_,rfl⟩
 rw [← hW]
 have hfw:Fr [lp] w4 W:=by rw [hW];exact Fr.set1 sE _ _
 have hf:Fr (lp :: rv.ownBlock.toList) w W:=((((Fr.refl _ w).alloc _).drew).trans ((Fr.of_grown hg).mono (λk _ hk=>List.mem_cons_of_mem _ hk))).trans (hfw.mono (by intro k _ hk;simp at hk;simp [hk]))
 have hb:W.heap[lp]?=some (logO p sv v4 { l with recs:=l.recs++[r] }):=by
  rw [hW]
  have:=jA5 hb4 3 v4
  simpa using this
 have hr:W.ownsRow B 110 3 v4 (l.recs++[r]).length (jD2 (l.recs++[r])):=by
  have:=jA7 ho hfw (λg hg=>by simp;intro e;subst e;exact jAe ho hb4 dN hg)
  simpa using this
 have hs:W.ownsRow B 43 1 sv l.segs.length (u64s l.segs):=jA7 h.segs hf (λg hg hm=>by
  rcases List.mem_cons.1 hm with e | hm
  ·subst e;exact jAe h.segs h.blk dN hg
  ·simp at hm;obtain ⟨c,hcc⟩:=jA4 h.recs hm;exact jAe h.segs hcc dN hg)
 have hl2:=h.rows (n':=n+1) hf (by intro k hk _;rcases List.mem_cons.1 hk with e | hk;exact .inl e;simp at hk;exact .inr (.inr hk)) hb hs hr oE oE
  ⟨by have:=h.segsN.1;simp;omega,h.segsN.2⟩ (by have:=h.recsN;simp;omega) h.fillN (by have:=h.nextN;simp;omega) h.durN
 exact ⟨hl2,h.ofr hl2 hf (by intro k hk _;rcases List.mem_cons.1 hk with e | hk;simp [e];simp at hk;simp [hk]) (.inl rfl) (Near.refl _ _) (Near.refl _ _) hnr,hf⟩
theorem jM7 (B lp p bD bN n nD nN kind:Nat) (pv sv rv:Value) (l:ALog) (d:ADisk) (s:ByteArray) (w:World) (h:LogIn w B lp p bD bN pv sv rv l d n nD nN) (hs:s.size≤255) (hk:kind<256) (hn:n+2<67108864) (hB:2≤B) (hsg:l.filled<600→l.segs≠[]) (hpow:Pows w) :
  Calls Tryz.prog 88 #[.pointer (some ⟨lp,0,none⟩),.int .u8 (kind:Int),.string s] w (jI6 B lp p bD bN (n+3) (l.append d kind s) w):=by
 have hlp:=(Array.getElem?_eq_some_iff.1 h.blk).1
 have c4:=jA0 h.blk 4
 simp at c4
 have c4':∀ ob,(w.alloc ob).cell? ⟨lp,4,none⟩=some (.int .u64 (l.next:Int)):=λob=>(World.cell?_of_block (a:=⟨lp,4,none⟩) (Below.heap_alloc w ob lp hlp)).trans c4
 have hnx:l.next<18446744073709551616:=by have:=h.nextN;omega
 have HI:Hid (LogIn w B lp p bD bN pv sv rv l d n nD nN):=h
 have hsz:=h.disk.base.2.2.2
 clear h
 go_enter Tryz.func88,Tryz.ntmps88
 go_wp2_with fail
 refine (jL5 l.next kind s _ hs hk hnx).mono ?_
 rintro e w1 ⟨g,rfl,hg,hrow,hb1⟩
 rw [World.size_alloc] at hb1 hg hrow
 have hf1:Fr [] w w1:=((Fr.refl [] w).alloc _).trans (Fr.of_below (by rw [World.size_alloc];exact hb1) [])
 have hbl:w1.heap[w.heap.size]?=some (.cells #[.pointer (some ⟨lp,0,none⟩)] 74):=(hb1.block w.heap.size oE).trans (heap_alloc_new w _)
 have hgl:=(jDp hrow).2
 have hlen:(jAq l.next kind (jA6 s)).length=11+s.size+4:=by rw [jJz,jAz];omega
 have HBL:Hid (w1.heap[w.heap.size]?=some (.cells #[.pointer (some ⟨lp,0,none⟩)] 74)):=hbl
 have HROW:Hid (w1.ownsRow (w.heap.size+1+1) 5 1 (.slice (some ⟨g,0,none⟩) (11+s.size+4) (15+s.size)) (11+s.size+4) (bs (jAq l.next kind (jA6 s)))):=hrow
 have HF1:Hid (Fr [] w w1):=hf1
 have HLEN:Hid ((jAq l.next kind (jA6 s)).length=11+s.size+4):=hlen
 have b0:=jA0 hbl 0
 simp at b0
 have hz1:w.heap.size<w1.heap.size:=(Array.getElem?_eq_some_iff.1 hbl).1
 have b0':∀ ob,(w1.alloc ob).cell? ⟨w.heap.size,0,none⟩=some (.pointer (some ⟨lp,0,none⟩)):=λob=>(World.cell?_of_block (a:=⟨w.heap.size,0,none⟩) (Below.heap_alloc w1 ob _ hz1)).trans b0
 clear hb1 hrow hf1 hbl hlen c4 c4'
 go_wp2_with fail
 obtain ⟨W2,hW2⟩:∃ W2,W2=(w1.alloc (.cells #[.slice (some ⟨g,0,none⟩) (11+s.size+4) (15+s.size)] 88)).alloc (.cells #[.func (.func 130) #[.pointer (some ⟨lp,0,none⟩)] #[],.func (.func 131) #[] #[.pointer (some ⟨w.heap.size,0,none⟩),.pointer (some ⟨w1.heap.size,0,none⟩)]] 123):=⟨_,rfl⟩
 rw [← hW2]
 have hfW:Fr [] w W2:=by rw [hW2];exact (HF1.out.alloc _).alloc _
 have hsW:W2.heap.size=w1.heap.size+1+1:=by rw [hW2];simp
 have hst:W2.heap[w1.heap.size+1]?=some (.cells #[.func (.func 130) #[.pointer (some ⟨lp,0,none⟩)] #[],.func (.func 131) #[] #[.pointer (some ⟨w.heap.size,0,none⟩),.pointer (some ⟨w1.heap.size,0,none⟩)]] 123):=by
  rw [hW2]
  have:=heap_alloc_new (w1.alloc (.cells #[.slice (some ⟨g,0,none⟩) (11+s.size+4) (15+s.size)] 88)) (.cells #[.func (.func 130) #[.pointer (some ⟨lp,0,none⟩)] #[],.func (.func 131) #[] #[.pointer (some ⟨w.heap.size,0,none⟩),.pointer (some ⟨w1.heap.size,0,none⟩)]] 123)
  rw [World.size_alloc] at this;exact this
 have hbb:W2.heap[w1.heap.size]?=some (.cells #[.slice (some ⟨g,0,none⟩) (11+s.size+4) (15+s.size)] 88):=by
  rw [hW2,Below.heap_alloc _ _ _ sE];exact heap_alloc_new _ _
 have hbl:W2.heap[w.heap.size]?=some (.cells #[.pointer (some ⟨lp,0,none⟩)] 74):=by
  rw [hW2,Below.heap_alloc _ _ _ (by simp;omega),Below.heap_alloc _ _ _ hz1];exact HBL.out
 have hrW:W2.ownsRow (w.heap.size+1+1) 5 1 (.slice (some ⟨g,0,none⟩) (11+s.size+4) (15+s.size)) (11+s.size+4) (bs (jAq l.next kind (jA6 s))):=by rw [hW2];exact (HROW.out.alloc _).alloc _
 have hpW:Pows W2:=hpow.of_block (hfW.block 1 oE sE)
 have hc:=jY1 B lp p bD bN n nD nN w.heap.size w1.heap.size g (15+s.size) (w.heap.size+1+1) (w1.heap.size+1) pv sv rv l d (jAq l.next kind (jA6 s)) W2 (HI.out.new hfW) oE hB hsg hst hbl (by rw [HLEN.out];exact hbb) (by rw [HLEN.out];exact hrW) (by rw [HLEN.out];omega) hpW
 refine hc.mono ?_
 clear hc hst hbb hrW hpW hW2
 obtain ⟨R,hR⟩:∃ R,R=l.wr d (l.put d (jAq l.next kind (jA6 s))):=⟨_,rfl⟩
 have HR:Hid (l.wr d (l.put d (jAq l.next kind (jA6 s)))=R):=hR.symm
 rw [← hR]
 clear hR
 rintro e w2 ⟨rfl,⟨pv2,sv2,rv2,nD2,nN2,hl2⟩,ho2⟩
 have HFW:Hid (Fr [] w W2):=hfW
 have ho3:OFr lp p w w2:=by
  have h1:OFx [g] lp p w w2:=(HI.out.newO hfW).x.trans ho2
  exact ⟨h1.os,h1.tape,h1.output,h1.size,λk hk hn=>h1.block k hk hn (by simp;omega),h1.stay⟩
 have HO:Hid (OFr lp p w w2):=ho3
 have H2:Hid (LogIn w2 B lp p bD bN pv2 sv2 rv2 R.1 R.2.1 (n+2) nD2 nN2):=hl2
 have hbl2:w2.heap[w.heap.size]?=some (.cells #[.pointer (some ⟨lp,0,none⟩)] 74):=(ho2.block w.heap.size oE ((HI.out.new hfW).free hbl dN dN dN dN dN) (by simp;omega)).trans hbl
 have HBL2:Hid (w2.heap[w.heap.size]?=some (.cells #[.pointer (some ⟨lp,0,none⟩)] 74)):=hbl2
 have d0:=jA0 hbl2 0
 have k2:=jA0 hl2.blk 2
 have k3:=jA0 hl2.blk 3
 have k4:=jA0 hl2.blk 4
 have g2:=jA2 hl2.blk 2
 have g3:=jA2 hl2.blk 3
 have g4:=jA2 hl2.blk 4
 simp at d0 k2 k3 k4
 have hz2:w1.heap.size+1+1≤w2.heap.size:=by have:=ho2.size;omega
 have hlp2:lp<w2.heap.size:=by omega
 clear ho2 hl2 ho3 hbl2 hbl hfW b0 b0' hsW
 by_cases hc:R.2.2=0
 ·rw [hc,jAt]
  go_wp2
  go_cut [11] from 37 to 44 (λs11 wx=>∃ rb,s11=.pointer (some ⟨rb,0,none⟩)∧w2.heap.size≤rb∧wx.heap[rb]?=some (.cells #[.int .u64 (R.1.next:Int),.int .u8 (kind:Int),.string s] 110)∧Fr [] w2 wx)
  case first =>
   have dA:∀ ob,(w2.alloc ob).cell? ⟨w.heap.size,0,none⟩=some (.pointer (some ⟨lp,0,none⟩)):=λob=>(World.cell?_of_block (a:=⟨w.heap.size,0,none⟩) (Below.heap_alloc w2 ob w.heap.size oE)).trans d0
   have kA:∀ ob,(w2.alloc ob).cell? ⟨lp,4,none⟩=some (.int .u64 (R.1.next:Int)):=λob=>(World.cell?_of_block (a:=⟨lp,4,none⟩) (Below.heap_alloc w2 ob _ hlp2)).trans k4
   have n1:=World.new_ne w2 ⟨w.heap.size,0,none⟩ d0
   have n2:=World.new_ne w2 ⟨lp,4,none⟩ k4
   go_region_held3 (λw'=>w'.cell? ⟨w.heap.size,0,none⟩=some (.pointer (some ⟨lp,0,none⟩))∧w'.cell? ⟨lp,4,none⟩=some (.int .u64 (R.1.next:Int)))
    (go_keep)
    (first | (go_at_call 109;refine (jN2 s (w2.alloc (.cells #[.int .u64 0,.int .u8 0,.string ⟨#[]⟩] 110)).drew (by omega)).mono ?_;rintro e w3 ⟨rfl,hb3⟩;have m0:w3.cell? ⟨w.heap.size,0,none⟩=some (.pointer (some ⟨lp,0,none⟩)):=(hb3.cell (p:=⟨w.heap.size,0,none⟩) (by simp;omega)).trans (dA _);have m4:w3.cell? ⟨lp,4,none⟩=some (.int .u64 (R.1.next:Int)):=(hb3.cell (p:=⟨lp,4,none⟩) (by simp;omega)).trans (kA _);have r0:w3.cell? ⟨w2.heap.size,0,none⟩=some (.int .u64 0):=(hb3.cell (p:=⟨w2.heap.size,0,none⟩) (by simp)).trans (by simp);have r1:w3.cell? ⟨w2.heap.size,1,none⟩=some (.int .u8 0):=(hb3.cell (p:=⟨w2.heap.size,1,none⟩) (by simp)).trans (by simp);have r2:w3.cell? ⟨w2.heap.size,2,none⟩=some (.string ⟨#[]⟩):=(hb3.cell (p:=⟨w2.heap.size,2,none⟩) (by simp)).trans (by simp);have rf:∀ i,w3.frozen? ⟨w2.heap.size,i,none⟩=false:=(λi=>(hb3.frozen (p:=⟨w2.heap.size,i,none⟩) (by simp)).trans (by simp))) | (go_at_call 109;refine (jN2 s w2.drew (by omega)).mono ?_;rintro e w3 ⟨rfl,hb3⟩;have m0:w3.cell? ⟨w.heap.size,0,none⟩=some (.pointer (some ⟨lp,0,none⟩)):=(hb3.cell (p:=⟨w.heap.size,0,none⟩) (by simp;omega)).trans d0;have m4:w3.cell? ⟨lp,4,none⟩=some (.int .u64 (R.1.next:Int)):=(hb3.cell (p:=⟨lp,4,none⟩) (by simp;omega)).trans k4))
   ·go_wp2_with fail
    go_meet
    case rel =>
     have hf3:Fr [] w2 w3:=((Fr.refl [] w2).drew).trans (Fr.of_below hb3 [])
     exact ⟨w3.heap.size,rfl,hf3.size,heap_alloc_new _ _,hf3.alloc _⟩
   ·go_wp2_with fail
    go_meet
    case rel =>
     have hf3:Fr [] w2 w3:=(((Fr.refl [] w2).alloc _).drew).trans (Fr.of_below hb3 [])
     have hz:w3.heap[w2.heap.size]?=some (.cells #[.int .u64 0,.int .u8 0,.string ⟨#[]⟩] 110):=(hb3.block w2.heap.size sE).trans (heap_alloc_new w2 _)
     refine ⟨w2.heap.size,rfl,Nat.le_refl _,?_,((hf3.setCell (Or.inr (Nat.le_refl _)) _).setCell (Or.inr (Nat.le_refl _)) _).setCell (Or.inr (Nat.le_refl _)) _⟩
     have:=jA5 (jA5 (jA5 hz 0 (.int .u64 (R.1.next:Int))) 1 (.int .u8 (kind:Int))) 2 (.string s)
     simpa using this
  case rest =>
   obtain ⟨rb,hs11,hrb1,hrb2,hfc⟩:=hcut
   subst hs11
   have hlc:LogIn wc B lp p bD bN pv2 sv2 rv2 R.1 R.2.1 (n+2) nD2 nN2:=H2.out.new hfc
   have hoc:OFr lp p w wc:=HO.out.trans (H2.out.newO hfc)
   have hblc:wc.heap[w.heap.size]?=some (.cells #[.pointer (some ⟨lp,0,none⟩)] 74):=(hfc.block w.heap.size oE sE).trans HBL2.out
   have HC:Hid (LogIn wc B lp p bD bN pv2 sv2 rv2 R.1 R.2.1 (n+2) nD2 nN2):=hlc
   have HOC:Hid (OFr lp p w wc):=hoc
   have HRB:Hid (wc.heap[rb]?=some (.cells #[.int .u64 (R.1.next:Int),.int .u8 (kind:Int),.string s] 110)):=hrb2
   have HBC:Hid (wc.heap[w.heap.size]?=some (.cells #[.pointer (some ⟨lp,0,none⟩)] 74)):=hblc
   have d0:=jA0 hblc 0
   have k2:=jA0 hlc.blk 2
   have k3:=jA0 hlc.blk 3
   have k4:=jA0 hlc.blk 4
   have g2:=jA2 hlc.blk 2
   have g3:=jA2 hlc.blk 3
   have g4:=jA2 hlc.blk 4
   have r0:=jA0 hrb2 0
   have r1:=jA0 hrb2 1
   have r2:=jA0 hrb2 2
   simp at d0 k2 k3 k4 r0 r1 r2
   have hzc:=hfc.size
   have hlpc:lp<wc.heap.size:=by omega
   have hne1:lp≠w.heap.size:=by omega
   have hne2:lp≠rb:=by omega
   have hne3:w.heap.size≠rb:=by omega
   clear hlc hoc hblc hrb2 hfc
   have hfl:R.1.filled<600:=by have:=HR.out;rw [← this] at hc ⊢;exact jPr hc
   go_wp2
   obtain ⟨l9,hl9⟩:∃ l9,l9=({ R.1 with filled:=R.1.filled+(15+s.size) }:ALog):=⟨_,rfl⟩
   have hF:(R.1.filled:Int)+(11+(s.size:Int)+4)=(l9.filled:Int):=by rw [hl9];simp;omega
   rw [hF]
   obtain ⟨W9,hW9⟩:∃ W9,W9=wc.setCell ⟨lp,2,none⟩ (.int .i64 (l9.filled:Int)):=⟨_,rfl⟩
   rw [← hW9]
   have hf9:Fr [lp] wc W9:=by rw [hW9];exact Fr.set1 sE _ _
   have hb9:W9.heap[lp]?=some (logO p sv2 rv2 l9):=by rw [hW9,hl9];have:=jA5 HC.out.blk 2 (.int .i64 ((R.1.filled+(15+s.size):Nat):Int));simp at this ⊢;exact this
   have hl9':LogIn W9 B lp p bD bN pv2 sv2 rv2 l9 R.2.1 (n+2) nD2 nN2:=HC.out.own1 hf9 hb9 (by rw [hl9];exact HC.out.segsN) (by rw [hl9];exact HC.out.recsN) (by rw [hl9];simp;omega) (by rw [hl9];exact HC.out.nextN) (by rw [hl9];exact HC.out.durN) (by rw [hl9]) (by rw [hl9])
   have H9:Hid (LogIn W9 B lp p bD bN pv2 sv2 rv2 l9 R.2.1 (n+2) nD2 nN2):=hl9'
   have HO9:Hid (OFr lp p w W9):=HOC.out.trans (HC.out.ofr hl9' hf9 (by intro k hk _;simp at hk;simp [hk]) (.inl rfl) (Near.refl _ _) (Near.refl _ _) (Near.refl _ _))
   have hbl9:W9.heap[w.heap.size]?=some (.cells #[.pointer (some ⟨lp,0,none⟩)] 74):=(hf9.block w.heap.size oE (by simp;omega)).trans HBC.out
   have hrl:rb<wc.heap.size:=(Array.getElem?_eq_some_iff.1 HRB.out).1
   have hrb9:W9.heap[rb]?=some (.cells #[.int .u64 (R.1.next:Int),.int .u8 (kind:Int),.string s] 110):=(hf9.block rb hrl (by simp;omega)).trans HRB.out
   have HBL9:Hid (W9.heap[w.heap.size]?=some (.cells #[.pointer (some ⟨lp,0,none⟩)] 74)):=hbl9
   have HRB9:Hid (W9.heap[rb]?=some (.cells #[.int .u64 (R.1.next:Int),.int .u8 (kind:Int),.string s] 110)):=hrb9
   have hz9:wc.heap.size≤W9.heap.size:=hf9.size
   clear d0 k2 k3 k4 g2 g3 g4 r0 r1 r2
   have d0:=jA0 hbl9 0
   have k3:=jA0 hb9 3
   have k4:=jA0 hb9 4
   have g3:=jA2 hb9 3
   have r0:=jA0 hrb9 0
   have r1:=jA0 hrb9 1
   have r2:=jA0 hrb9 2
   have hn9:l9.next=R.1.next:=by rw [hl9]
   simp at d0 k3 k4 r0 r1 r2
   have HN9:Hid (l9.next=R.1.next):=hn9
   have HL9:Hid (l9={ R.1 with filled:=R.1.filled+(15+s.size) }):=hl9
   have al:∀ (b i:Nat) (ob:Obj),b<W9.heap.size→(W9.alloc ob).cell? ⟨b,i,none⟩=W9.cell? ⟨b,i,none⟩:=λb i ob hb=>World.cell?_of_block (a:=⟨b,i,none⟩) (Below.heap_alloc W9 ob b hb)
   have d0':∀ ob,(W9.alloc ob).cell? ⟨w.heap.size,0,none⟩=some (.pointer (some ⟨lp,0,none⟩)):=λob=>(al _ _ ob oE).trans d0
   have k3':∀ ob,(W9.alloc ob).cell? ⟨lp,3,none⟩=some rv2:=λob=>(al _ _ ob oE).trans k3
   clear al hl9' hb9 hf9 hbl9 hrb9 hF hW9 hl9 hn9
   have hstr:str (jA6 s)=s:=jCw s
   have HNR:Hid (rv2.ownBlock≠some rb):=λe=>by have:=(H2.out.recs.lt _ e).2;omega
   have hno:∀ q c t,W9.heap[q]?=some (.cells c t (0,0))→t≠110→rv2.ownBlock≠some q:=λq c t hq ht=>jAe H9.out.recs hq (λe=>ht e.symm)
   go_cut [60] from 53 to 62 (λ_ wx=>∃ rvx,LogIn wx B lp p bD bN pv2 sv2 rvx { l9 with recs:=l9.recs++[⟨R.1.next,kind,jA6 s⟩] } R.2.1 (n+3) nD2 nN2∧OFr lp p w wx∧wx.heap[w.heap.size]?=some (.cells #[.pointer (some ⟨lp,0,none⟩)] 74)∧(rv2.ownBlock≠some rb→wx.heap[rb]?=some (.cells #[.int .u64 (R.1.next:Int),.int .u8 (kind:Int),.string s] 110)))
   case first =>
    go_region_law (first | (rw [if_pos (by rfl)];refine jTq _ _ rfl B rv2 l9.recs.length l9.recs ⟨R.1.next,kind,jA6 s⟩ W9.heap.size rfl ?_ rfl ?_ ?_ ?_ ?_ ?_ ?_;(exact H9.out.recs.alloc _);(simp);(simp);(simp [hstr]);(have:=H9.out.recsN;omega);(have:=H9.out.disk.base.2.2.2;simp;omega);intro v4 w4 ho4 hg4 hl4;obtain ⟨q4,cap4,rfl⟩:=jBy ho4;obtain ⟨q1,q2,q3⟩:=jVr H9.out hg4 (jAe H9.out.recs H9.out.blk (by decide)) 3;rw [k3] at q1;have e0:w4.cell? ⟨w.heap.size,0,none⟩=some (.pointer (some ⟨lp,0,none⟩)):=(World.cell?_of_block (a:=⟨w.heap.size,0,none⟩) (hg4.block w.heap.size (by simp;omega) (λe=>jAe H9.out.recs HBL9.out (by decide) e.symm))).trans (d0' _);have HL4:Hid (Near W9.heap.size rv2 (.slice (some ⟨q4,0,none⟩) (l9.recs.length+1) cap4)):=Near.of_at hl4 (by simp);clear hl4))
    all_goals (
     go_wp2_with fail
     go_meet
     case rel =>
      obtain ⟨t1,t2,t3⟩:=H9.out.recsApp oE hg4 ho4 HL4.out
      exact ⟨_,t1,HO9.out.trans t2,(t3.block w.heap.size oE (by intro hm;rcases List.mem_cons.1 hm with e | hm;omega;simp at hm;exact hno _ _ _ HBL9.out dN hm)).trans HBL9.out,λhx=>(t3.block rb oE (by intro hm;rcases List.mem_cons.1 hm with e | hm;omega;simp at hm;exact hx hm)).trans HRB9.out⟩)
   case rest =>
    obtain ⟨rvx,hlx,hox,hbx,hrx⟩:=hcut
    have hrx':=hrx HNR.out
    have d1:=jA0 hbx 0
    have x4:=jA0 hlx.blk 4
    have y4:=jA2 hlx.blk 4
    have r0':=jA0 hrx' 0
    simp at d1 x4 r0'
    have HX:Hid (LogIn wc B lp p bD bN pv2 sv2 rvx { l9 with recs:=l9.recs++[⟨R.1.next,kind,jA6 s⟩] } R.2.1 (n+3) nD2 nN2):=hlx
    have HOX:Hid (OFr lp p w wc):=hox
    have hnn:l9.next≤n+3:=by have:=H9.out.nextN;omega
    clear hlx hox hbx hrx hrx'
    go_wp2
    go_ret2
    have e:l.append d kind s=({ l9 with recs:=l9.recs++[⟨R.1.next,kind,jA6 s⟩],next:=l9.next+1 },R.2.1,R.1.next,0):=by
     unfold ALog.append
     rw [if_neg oE,HR.out,if_pos hc,HL9.out]
    rw [e]
    obtain ⟨WF,hWF⟩:∃ WF,WF=wc.setCell ⟨lp,4,none⟩ (.int .u64 ((l9.next+1:Nat):Int)):=⟨_,rfl⟩
    have hff:Fr [lp] wc WF:=by rw [hWF];exact Fr.set1 sE _ _
    have hbf:WF.heap[lp]?=some (logO p sv2 rvx { l9 with recs:=l9.recs++[⟨R.1.next,kind,jA6 s⟩],next:=l9.next+1 }):=by
     rw [hWF];have:=jA5 HX.out.blk 4 (.int .u64 ((l9.next+1:Nat):Int));simp at this ⊢;exact this
    have hlf:LogIn WF B lp p bD bN pv2 sv2 rvx { l9 with recs:=l9.recs++[⟨R.1.next,kind,jA6 s⟩],next:=l9.next+1 } R.2.1 (n+3) nD2 nN2:=HX.out.own1 hff hbf HX.out.segsN HX.out.recsN HX.out.fillN (by simp;omega) HX.out.durN rfl rfl
    have hof:OFr lp p w WF:=HOX.out.trans (HX.out.ofr hlf hff (by intro k hk _;simp at hk;simp [hk]) (.inl rfl) (Near.refl _ _) (Near.refl _ _) (Near.refl _ _))
    rw [hWF] at hlf hof
    exact ⟨rfl,⟨pv2,sv2,rvx,nD2,nN2,hlf⟩,hof⟩
 ·rw [jAc hc]
  go_wp2
  go_ret2
  have e:l.append d kind s=(R.1,R.2.1,0,R.2.2):=by unfold ALog.append;rw [if_neg oE,HR.out,if_neg hc]
  rw [e]
  exact ⟨by simp only;rw [jAc hc];rfl,⟨pv2,sv2,rv2,nD2,nN2,H2.out.more oE⟩,HO.out⟩
theorem jB7 (w:World) (a i b j:Nat) (v:Value) (h:b≠a):(w.setCell ⟨a,i,none⟩ v).cell? ⟨b,j,none⟩=w.cell? ⟨b,j,none⟩ :=
 World.cell?_of_block (a:=⟨b,j,none⟩) (by
  by_cases hb:b<w.heap.size
  ·exact (Fr.set1 (w:=w) (p:=a) (S:=[a]) sE i v).block b hb (by simpa using h)
  ·rw [Array.getElem?_eq_none (by simpa using hb),Array.getElem?_eq_none (by simpa using hb)])
abbrev jD1 (a b c d:Int):Value:=.agg #[.int .i64 a,.int .i64 b,.int .i64 c,.int .i64 d]
def ADisk.knob (d:ADisk) (a b:Int):ADisk:={ d with left:=a,full:=b }
section
variable {w w':World} {B hp lp p bD bN n nD nN:Nat} {pv sv rv:Value} {l:ALog} {d:ADisk}
theorem LogIn.knob (h:LogIn w B lp p bD bN pv sv rv l d n nD nN) (a b:Int) (hf:Fr [p] w w') (hb:w'.heap[p]?=some (dskO bD bN pv a b d.down)) :
  LogIn w' B lp p bD bN pv sv rv l (d.knob a b) n nD nN∧OFr lp p w w':=by
 have h1:LogIn w' B lp p bD bN pv sv rv l (d.knob a b) n nD nN:=h.turned (h.disk.turn hf a b d.down hb) hf (λk hk _=>h.sep k (by simp at hk;simp [hk])) (Nat.le_refl _)
 exact ⟨h1,h.ofr h1 hf (λk hk _=>by simp at hk;simp [hk]) (.inl rfl) (Near.refl _ _) (Near.refl _ _) (Near.refl _ _)⟩
end
theorem jD4 (c:Nat) (w:World) (hg:Met w):Calls Tryz.prog 30 #[errN c] w λe w'=>e=.returned (.int .i64 (c:Int))∧Fr [] w w':=by
 by_cases hc:c=0
 ·subst hc
  rw [jAt]
  refine (jNl w).mono ?_
  rintro e w1 ⟨rfl,hb⟩
  exact ⟨rfl,Fr.of_below hb _⟩
 ·rw [jAc hc]
  refine (jNj (c:Int) w hg).mono ?_
  rintro e w1 ⟨rfl,hb⟩
  exact ⟨rfl,Fr.of_below hb _⟩
theorem DFr.ofO {w Wl w':World} {B lp p bD bN n nD nN n' nD' nN' n2 nD2 nN2:Nat} {pv pv' sv' rv':Value} {l l':ALog} {d d' d2:ADisk} (h:DiskIn w B p bD bN pv d2 n2 nD2 nN2) (hl:LogIn Wl B lp p bD bN pv (.slice none 0 0) (.slice none 0 0) l d n nD nN) (hf:Fr [] w Wl) (hlp:w.heap.size≤lp) (ho:OFr lp p Wl w') (hl':LogIn w' B lp p bD bN pv' sv' rv' l' d' n' nD' nN'):DFr p w w':=by
 have key:∀ k,k<w.heap.size→Own lp p Wl k→OwnD p w k:=λk hk hO=>by
  rw [h.ownD]
  rcases (hl.own k).1 hO with e | e | e | e | e | e | e
  ·omega
  ·simp [e]
  ·simp [e]
  ·simp [e]
  ·simp [e]
  ·cases e
  ·cases e
 refine ⟨ho.os.trans hf.os,ho.tape.trans hf.tape,ho.output.trans hf.output,Nat.le_trans hf.size ho.size,λk hk hn=>?_,λk hk hD=>?_⟩
 ·exact (ho.block k (Nat.lt_of_lt_of_le hk hf.size) (λhO=>hn (key k hk hO))).trans (hf.block k hk sE)
 ·refine key k hk (ho.stay k (Nat.lt_of_lt_of_le hk hf.size) ?_)
  have:=(hl'.disk.ownD k).1 hD
  rw [hl'.own]
  simp at this
  rcases this with e | e | e | e <;> simp [e]
def jDl (B p bD bN n:Nat) (r:ALog × ADisk × Nat) (w:World) (e:Ending) (w':World):Prop :=
 ∃ lp,e=.returned (.tuple #[.pointer (some ⟨lp,0,none⟩),.nilIface])∧w.heap.size≤lp∧(∃ pv sv rv nD nN,LogIn w' B lp p bD bN pv sv rv r.1 r.2.1 n nD nN)∧DFr p w w'
theorem jGf (B p bD bN n nD:Nat) (pv:Value) (d:ADisk) (w:World) (h:DiskIn w B p bD bN pv d n nD 0) (hdn:d.down=false) (hno:d.now jKa=none) (hr:((log0 1).opens d).2.2=0) :
  Calls Tryz.prog 78 #[dskV p] w (jDl B p bD bN n ((log0 1).opens d) w):=by
 have hn:=h.hn
 have hb0:=h.base
 obtain ⟨W,hW⟩:∃ W,W=(w.alloc (.cells #[dskV p] 167)).alloc (logO p (.slice none 0 0) (.slice none 0 0) (log0 0)):=⟨_,rfl⟩
 have hf0:Fr [] w W:=by rw [hW];exact ((Fr.refl [] w).alloc _).alloc _
 have hdb:W.heap[w.heap.size]?=some (.cells #[dskV p] 167):=by rw [hW,Below.heap_alloc _ _ w.heap.size sE];exact heap_alloc_new w _
 have hlb:W.heap[w.heap.size+1]?=some (logO p (.slice none 0 0) (.slice none 0 0) (log0 0)):=by rw [hW];have:=heap_alloc_new (w.alloc (.cells #[dskV p] 167)) (logO p (.slice none 0 0) (.slice none 0 0) (log0 0));rw [World.size_alloc] at this;exact this
 have hl0:LogIn W B (w.heap.size+1) p bD bN pv (.slice none 0 0) (.slice none 0 0) (log0 0) d n nD 0:={ disk:=h.new hf0,blk:=hlb,base:=by omega,segs:=World.ownsRow_nil _ _ _ _,recs:=World.ownsRow_nil _ _ _ _,segsN:=⟨by simp [log0],by simp [log0]⟩,recsN:=by simp [log0],fillN:=by simp [log0],nextN:=by simp [log0],durN:=by simp [log0] }
 have HW:Hid (DiskIn w B p bD bN pv d n nD 0∧Fr [] w W):=⟨h,hf0⟩
 have H0:Hid (LogIn W B (w.heap.size+1) p bD bN pv (.slice none 0 0) (.slice none 0 0) (log0 0) d n nD 0):=hl0
 have HDB:Hid (W.heap[w.heap.size]?=some (.cells #[dskV p] 167)):=hdb
 have hnil:=Tryz.eqNil p
 clear h hf0 hdb hlb hl0
 go_enter Tryz.func78,Tryz.ntmps78
 go_wp2_with fail
 have hW2:W=(w.alloc (.cells #[dskV p] 167)).alloc (.cells #[dskV p,.slice none 0 0,.int .i64 600,.slice none 0 0,.int .u64 0,.int .u64 0,.nilIface] 222):=hW
 rw [← hW2]
 clear hW hW2
 refine (jOa B (w.heap.size+1) p bD bN n nD pv d W H0.out hdn hno).mono ?_
 rintro e w1 ⟨rfl,hl1,ho1⟩
 have hdb1:=(ho1.block w.heap.size (Array.getElem?_eq_some_iff.1 HDB.out).1 (H0.out.free HDB.out dN dN dN dN dN)).trans HDB.out
 obtain ⟨W2,hW2⟩:∃ W2,W2=(w1.alloc (.cells #[.slice none 0 0] 35)).alloc (.cells #[.func (.func 121) #[.pointer (some ⟨w.heap.size+1,0,none⟩)] #[],.func (.func 122) #[] #[.pointer (some ⟨w.heap.size,0,none⟩),.pointer (some ⟨w1.heap.size,0,none⟩)]] 123):=⟨_,rfl⟩
 have hf2:Fr [] w1 W2:=by rw [hW2];exact ((Fr.refl [] w1).alloc _).alloc _
 have hu2:W2.heap[w1.heap.size]?=some (.cells #[.slice none 0 0] 35):=by rw [hW2,Below.heap_alloc _ _ w1.heap.size sE];exact heap_alloc_new w1 _
 have hst2:W2.heap[w1.heap.size+1]?=some (.cells #[.func (.func 121) #[.pointer (some ⟨w.heap.size+1,0,none⟩)] #[],.func (.func 122) #[] #[.pointer (some ⟨w.heap.size,0,none⟩),.pointer (some ⟨w1.heap.size,0,none⟩)]] 123):=by
  rw [hW2];have:=heap_alloc_new (w1.alloc (.cells #[.slice none 0 0] 35)) (.cells #[.func (.func 121) #[.pointer (some ⟨w.heap.size+1,0,none⟩)] #[],.func (.func 122) #[] #[.pointer (some ⟨w.heap.size,0,none⟩),.pointer (some ⟨w1.heap.size,0,none⟩)]] 123);rw [World.size_alloc] at this;exact this
 have hdb2:W2.heap[w.heap.size]?=some (.cells #[dskV p] 167):=(hf2.block w.heap.size (Array.getElem?_eq_some_iff.1 hdb1).1 sE).trans hdb1
 have HC:Hid (Calls Tryz.prog 120 #[.slice (some ⟨w1.heap.size+1,0,none⟩) 2 2] W2 (PutL B (w.heap.size+1) p bD bN n [] ((log0 1).opens d) W2)):=jV4 B (w.heap.size+1) p bD bN n nD 0 (w1.heap.size+1) w.heap.size w1.heap.size pv (.slice none 0 0) (.slice none 0 0) (log0 1) d W2 (hl1.new hf2) hn hst2 hdb2 hu2
 have HO:Hid (OFr (w.heap.size+1) p W W2):=ho1.trans (hl1.newO hf2)
 clear hl1 ho1 hdb1 hf2 hu2 hst2 hdb2
 go_wp2_with fail
 rw [← hW2]
 clear hW2
 refine HC.out.mono ?_
 rintro e w3 ⟨rfl,⟨pv3,sv3,rv3,nD3,nN3,hl3⟩,ho3⟩
 have H3:Hid (LogIn w3 B (w.heap.size+1) p bD bN pv3 sv3 rv3 ((log0 1).opens d).1 ((log0 1).opens d).2.1 n nD3 nN3):=hl3
 have HD:Hid (DFr p w w3):=DFr.ofO HW.out.1 H0.out HW.out.2 oE (HO.out.trans ho3.ofr) hl3
 clear hl3 ho3
 rw [hr,jAt]
 go_wp2
 go_ret2
 exact ⟨w.heap.size+1,rfl,by omega,⟨pv3,sv3,rv3,nD3,nN3,H3.out⟩,HD.out⟩
abbrev jDj (a b c d:Int):Obj:=.cells #[.int .i64 a,.int .i64 b,.int .i64 c,.int .i64 d] 40
end Go.Proofs.YtcalalndmcemiaaGreatDoor
set_option maxRecDepth 100000
set_option maxHeartbeats 16000000
namespace Go.Proofs.YtcalalndmcemiaaGreatDoor
open Go.RowKit Go.Maps
def ADisk.up (d:ADisk):ADisk:={ d with now:=d.durable,pending:=[],down:=false }
theorem jY8 (B p bD n nD:Nat) (pv nv:Value) (d:ADisk) (w:World) (hblk:w.heap[p]?=some (.cells #[.map (some bD),nv,pv,.int .i64 d.left,.int .i64 d.full,.bool d.down] 96)) (hB:B≤p∧B≤bD∧B≤w.heap.size) (hdur:FileMap w bD nD d.durable) (hn:nD≤n) (hn2:n≤67108864) (hle:d.durable.Le (nD*4096)) :
  Calls Tryz.prog 37 #[.pointer (some ⟨p,0,none⟩)] w λe w'=>e=.returned (.tuple #[])∧DiskIn w' B p bD w.heap.size (.slice none 0 0) d.up n nD nD∧Fr [p] w w':=by
 have hmm:=@run_makeMap Tryz.prog
 have c0:=jA0 hblk 0
 have c1:=jA0 hblk 1
 have c2:=jA0 hblk 2
 have c5:=jA0 hblk 5
 have f1:=jA2 hblk 1
 have f2:=jA2 hblk 2
 have f5:=jA2 hblk 5
 simp at c0 c1 c2 c5
 have hpl:p<w.heap.size:=(Array.getElem?_eq_some_iff.1 hblk).1
 have hbl:=hdur.lt
 have hpne:bD≠p:=hdur.ne_cells hblk
 obtain ⟨D,hown,h5⟩:=hdur
 have H5:Hid (∀ k:ByteArray,(d.durable k=none→Maps.has D (keyL k)=false)∧(∀ t,d.durable k=some t→Maps.has D (keyL k)=true∧k.size≤maxLen∧∃ q:Nat,(∀ z,D.atKey (keyL k) z=.lit (.int .i64 (q:Int)))∧w.heap[q]?=some (jBc t))):=h5
 clear h5
 have hsz:=hown.size_le
 have HB:Hid (w.heap[p]?=some (.cells #[.map (some bD),nv,pv,.int .i64 d.left,.int .i64 d.full,.bool d.down] 96)):=hblk
 clear hblk
 have hpa1:(w.alloc (.map #[] 0)).cell? ⟨p,1,none⟩=some nv:=(World.cell?_of_block (a:=⟨p,1,none⟩) (Below.heap_alloc w _ p hpl)).trans c1
 have hpa2:(w.alloc (.map #[] 0)).frozen? ⟨p,1,none⟩=false:=(World.frozen?_of_block (a:=⟨p,1,none⟩) (Below.heap_alloc w _ p hpl)).trans f1
 obtain ⟨W1,hW1⟩:∃ W1,W1=(w.setCell ⟨p,1,none⟩ (.map (some w.heap.size))).alloc (.map #[] 0):=⟨_,rfl⟩
 have hss:(w.setCell ⟨p,1,none⟩ (.map (some w.heap.size))).heap.size=w.heap.size:=by simp
 have hblk1:W1.heap[p]?=some (.cells #[.map (some bD),.map (some w.heap.size),pv,.int .i64 d.left,.int .i64 d.full,.bool d.down] 96):=by
  have:=jA5 HB.out 1 (.map (some w.heap.size))
  rw [hW1,Below.heap_alloc _ _ p (by rw [hss];exact hpl)];simpa using this
 have hfr1:Fr [p] w W1:=by rw [hW1];exact ((Fr.refl [p] w).setCell (Or.inl sE) _).alloc _
 have hs1:W1.heap.size=w.heap.size+1:=by rw [hW1];simp
 have hownW:W1.ownsMap Tryz.prog 9 jAy bD nD D:=by rw [hW1];exact (hown.setCell hpne _).alloc _
 have houtW:W1.ownsMap (H:=Unit) Tryz.prog 9 jAy w.heap.size 0 (.map []):=by
  have:=World.ownsMap_made (H:=Unit) (w.setCell ⟨p,1,none⟩ (.map (some w.heap.size))) Tryz.prog 9 jAy
  rw [hss] at this
  rw [hW1];exact this
 have d0:=jA0 hblk1 0
 simp at d0
 go_enter Tryz.func37,Tryz.ntmps37
 go_wp2_with (first
  | (at_range;rw [← hW1];refine wpList_range_own _ rfl _ 93 rfl 9 165 Tryz.lawS Tryz.underlying93 jAy bD nD D rfl hownW ?_;intro w0 hrg0 hg0 hs0)
  | go_in)
 go_frame
 clear hW1
 have HB1:Hid (W1.heap[p]?=some (.cells #[.map (some bD),.map (some w.heap.size),pv,.int .i64 d.left,.int .i64 d.full,.bool d.down] 96)):=hblk1
 clear hblk1
 rw [hs1] at hrg0 hs0 ⊢
 go_loopw [2] (λ_ wr=>∃ (left:Lit→Bool) (cnt:Nat) (Dout:DataW Unit),wr.ranges Tryz.prog 9 jAy bD (w.heap.size+1) nD D left cnt∧cnt≤Maps.size D ∧
   wr.ownsMap Tryz.prog 9 jAy w.heap.size (Maps.size D - cnt) Dout∧Agree Dout D left∧Fr [w.heap.size,w.heap.size+1] W1 wr)
  (λ_ wr=>wr.rangeLeft bD (w.heap.size+1))
 case atStart =>
  exact ⟨_,_,.map [],hrg0,Nat.le_refl _,(houtW.kept hg0 sE).mono (Nat.zero_le _),agree_start D,(Fr.of_grown hg0).mono sE⟩
 case round =>
  obtain ⟨left,cnt,Dout,hrg,hcs,hout,hA,hnx⟩:=hrel
  have HNX:Hid (Fr [w.heap.size,w.heap.size+1] W1 wr):=hnx
  have hzr:=hnx.size
  have hpr:wr.heap[p]?=some (.cells #[.map (some bD),.map (some w.heap.size),pv,.int .i64 d.left,.int .i64 d.full,.bool d.down] 96):=(hnx.block p oE (by simp;omega)).trans HB1.out
  have HPR:Hid (wr.heap[p]?=some (.cells #[.map (some bD),.map (some w.heap.size),pv,.int .i64 d.left,.int .i64 d.full,.bool d.down] 96)):=hpr
  have r1:=jA0 hpr 1
  have r2:=jA0 hpr 2
  have r5:=jA0 hpr 5
  have q2:=jA2 hpr 2
  have q5:=jA2 hpr 5
  simp at r1 r2 r5
  clear hnx hpr
  go_wp2_with (first
   | (at_next;refine wpList_next_ranges _ rfl _ rfl 9 Tryz.lawS jAy encStr Value.pointer (λkey kl hk=>by obtain ⟨x,hx,_⟩:=Maps.keyOf_str Tryz.underlying9 hk;exact ⟨x,hx⟩) (λv y hv=>jEu hv) bD (w.heap.size+1) nD _ _ _ rfl hrg ?_ ?_)
   | go_in)
  ·intro hc0 hl0
   go_wp2
   go_end0
   subst hc0
   have hD:=agree_end hA hl0 (hout.canon Tryz.lawS) (hown.canon Tryz.lawS)
   subst hD
   obtain ⟨W2,hW2⟩:∃ W2,W2=(wr.setCell ⟨p,2,none⟩ (.slice none 0 0)).setCell ⟨p,5,none⟩ (.bool false):=⟨_,rfl⟩
   rw [← hW2]
   have hf2:Fr [p] wr W2:=by rw [hW2];exact (Fr.set1 sE _ _).trans (Fr.set1 sE _ _)
   have hfw:Fr [p] w W2:=(hfr1.andThen HNX.out (by intro j hj hl;simp at hj;omega)).trans hf2
   have hb2:W2.heap[p]?=some (dskO bD w.heap.size (.slice none 0 0) d.left d.full false):=by
    have:=jA5 (jA5 HPR.out 2 (.slice none 0 0)) 5 (.bool false)
    rw [hW2];simpa using this
   have htx:∀ (q:Nat) (t:ByteArray),w.heap[q]?=some (jBc t)→W2.heap[q]?=some (jBc t):=λq t hq=>by
    rw [hfw.block q (Array.getElem?_eq_some_iff.1 hq).1 (by simp;intro e;subst e;rw [HB.out] at hq;cases hq)];exact hq
   have ho1:W2.ownsMap Tryz.prog 9 jAy bD nD Dout:=by
    obtain ⟨es,c,a1,a2⟩:=hrg.owns
    exact ⟨es,c,(hf2.block bD oE (by simp;omega)).trans a1,a2⟩
   have ho2:W2.ownsMap Tryz.prog 9 jAy w.heap.size nD Dout:=by
    obtain ⟨es,c,a1,a2⟩:=hout.mono (n':=nD) oE
    exact ⟨es,c,(hf2.block w.heap.size oE (by simp;omega)).trans a1,a2⟩
   have h5:∀ k:ByteArray,(d.durable k=none→Maps.has Dout (keyL k)=false)∧(∀ t,d.durable k=some t→Maps.has Dout (keyL k)=true∧k.size≤maxLen∧∃ q:Nat,(∀ z,Dout.atKey (keyL k) z=.lit (.int .i64 (q:Int)))∧W2.heap[q]?=some (jBc t)):=λk=>by
    obtain ⟨a1,a2⟩:=H5.out k
    refine ⟨a1,λt ht=>?_⟩
    obtain ⟨b1,b2,q,b3,b4⟩:=a2 t ht
    exact ⟨b1,b2,q,b3,htx q t b4⟩
   refine ⟨rfl,?_,hfw⟩
   exact { blk:=hb2,base:=⟨hB.1,hB.2.1,hB.2.2,by have:=hfw.size;omega⟩,ne:=by omega,dur:=⟨_,ho1,h5⟩,now:=⟨_,ho2,h5⟩,pen:=World.ownsRow_nil _ _ _ _,hD:=by simpa [ADisk.up] using hn,hN:=hn,hn:=hn2,leD:=hle,leN:=hle,ops:=by simp [ADisk.up] }
  ·intro x c kl yd yp w2 cnt2 hkey hlk hv hat hrg2 hlt hg2 hs2 hen
   obtain ⟨x',ex,rfl,hxl⟩:=Maps.keyOf_str Tryz.underlying9 hkey
   obtain rfl:x=x':=encStr_inj ex
   have hout1:=hout.kept hg2 sE
   have s1:w2.cell? ⟨p,1,none⟩=some (.map (some w.heap.size)):=(jDe hg2 (a:=⟨p,1,none⟩) (by simp;omega) (by simp;omega)).trans r1
   clear hs2
   go_wp2_with (first
    | (at_mapUpdate;refine wpList_mapUpdate_own _ rfl _ _ _ 93 rfl 9 165 Tryz.lawS Tryz.underlying93 jAy w.heap.size _ _ rfl hout1 (by unfold maxLen;omega) _ _ _ rfl rfl hkey _ _ hv ?_;intro w3 hout2 hg3;go_frame)
    | go_in)
   have hrg3:=hrg2.kept hg3 (λe=>by have:=Option.some.inj e;omega) (λe=>by have:=Option.some.inj e;omega)
   go_roundw
   case rel =>
    exact ⟨_,cnt2,_,hrg3,by omega,hout2.mono oE,agree_step hA hout.isMap trivial hat,(HNX.out.trans ((Fr.of_grown1 hg2).mono (by intro k _ hk;simp at hk;simp [hk]))).trans ((Fr.of_grown1 hg3).mono (by intro k _ hk;simp at hk;simp [hk]))⟩
   case measure=>rw [hrg3.left_eq,hrg.left_eq];exact hlt
end Go.Proofs.YtcalalndmcemiaaGreatDoor
set_option maxRecDepth 100000
set_option maxHeartbeats 16000000
namespace Go.Proofs.YtcalalndmcemiaaGreatDoor
open Go.RowKit
open Sc
section
variable {w w':World} {B p bD bN n nD nN:Nat} {pv:Value} {d:ADisk}
theorem DiskIn.geD (h:DiskIn w B p bD bN pv d n nD nN) {k:Nat} (hk:OwnD p w k):B≤k:=by
 have:=(h.ownD k).1 hk
 simp at this
 rcases this with e | e | e | e
 ·rw [e];exact h.base.1
 ·rw [e];exact h.base.2.1
 ·rw [e];exact h.base.2.2.1
 ·exact (h.pen.lt k e).1
end
theorem LogIn.other {w w':World} {B lp p bD bN n nD nN q:Nat} {pv sv rv:Value} {l:ALog} {d:ADisk} {c:Array Value} {t:TypeId} (h:LogIn w B lp p bD bN pv sv rv l d n nD nN) (hf:Fr [q] w w') (hq:w.heap[q]?=some (.cells c t (0,0))) (h1:t≠96) (h2:t≠182) (h3:t≠222) (h4:t≠43) (h5:t≠110) (h6:t≠9):LogIn w' B lp p bD bN pv sv rv l d n nD nN:=by
 have ho:=h.free hq h1 h2 h3 h4 h5
 rw [h.own] at ho
 simp only [not_or] at ho
 refine h.turned (h.disk.fr hf ?_ ?_ ?_ ?_ ?_) hf ?_ (Nat.le_refl _)
 ·simpa using λe=>ho.2.1 e.symm
 ·simpa using λe=>ho.2.2.1 e.symm
 ·simpa using λe=>ho.2.2.2.1 e.symm
 ·intro g hg;simp;intro e;subst e;exact ho.2.2.2.2.1 hg
 ·intro r hr x;simp at hr;subst hr;rw [hq];intro e;cases e;exact h6 rfl
 ·intro r hr _;simp at hr;subst hr;exact ⟨ho.1,ho.2.2.2.2.2.1,ho.2.2.2.2.2.2⟩
abbrev ledO (lp:Nat):Obj:=.cells #[.pointer (some ⟨lp,0,none⟩)] 244
theorem OFr.led {w w':World} {B lp p bD bN n nD nN q:Nat} {pv sv rv:Value} {l:ALog} {d:ADisk} (hf:OFr lp p w w') (h:LogIn w B lp p bD bN pv sv rv l d n nD nN) (hh:w.heap[q]?=some (ledO lp)):w'.heap[q]?=some (ledO lp) :=
 (hf.block q (Array.getElem?_eq_some_iff.1 hh).1 (h.free hh dN dN dN dN dN)).trans hh
theorem jMc (B lp p bD bN n nD nN kind:Nat) (pv sv rv:Value) (l:ALog) (d:ADisk) (s:ByteArray) (w:World) (h:LogIn w B lp p bD bN pv sv rv l d n nD nN) (hk:kind<256) (hn:n+3<67108864) (hB:2≤B) (hsg:l.filled<600→l.segs≠[]) (hpow:Pows w) :
  Calls Tryz.prog 88 #[.pointer (some ⟨lp,0,none⟩),.int .u8 (kind:Int),.string s] w (jI6 B lp p bD bN (n+3) (l.append d kind s) w):=by
 by_cases hs:255<s.size
 ·refine (jO5 B lp p bD bN n nD nN kind pv sv rv l d s w h hs oE).mono ?_
  rintro e w2 ⟨he,⟨pv2,sv2,rv2,nD2,nN2,hl2⟩,ho2⟩
  exact ⟨he,⟨pv2,sv2,rv2,nD2,nN2,hl2.mores oE oE⟩,ho2⟩
 ·exact jM7 B lp p bD bN n nD nN kind pv sv rv l d s w h oE hk oE hB hsg hpow
def ALog.note (l:ALog) (d:ADisk) (kind:Nat) (s:ByteArray):ALog × ADisk × Nat:=((l.append d kind s).1,(l.append d kind s).2.1,(l.append d kind s).2.2.2)
theorem jJ2 (B gp lp p bD bN n nD nN kind:Nat) (pv sv rv:Value) (l:ALog) (d:ADisk) (s:ByteArray) (w:World) (hg:w.heap[gp]?=some (ledO lp)) (h:LogIn w B lp p bD bN pv sv rv l d n nD nN) (hk:kind<256) (hn:n+3<67108864) (hB:2≤B) (hsg:l.filled<600→l.segs≠[]) (hpow:Pows w) :
  Calls Tryz.prog 148 #[.pointer (some ⟨gp,0,none⟩),.int .u8 (kind:Int),.string s] w (jGi B lp p bD bN (n+3) (l.note d kind s) w):=by
 have c0:=jA0 hg 0
 simp at c0
 have HC:Hid (Calls Tryz.prog 88 #[.pointer (some ⟨lp,0,none⟩),.int .u8 (kind:Int),.string s] w (jI6 B lp p bD bN (n+3) (l.append d kind s) w)):=jMc B lp p bD bN n nD nN kind pv sv rv l d s w h hk hn hB hsg hpow
 clear h hg
 go_enter Tryz.func148,Tryz.ntmps148
 go_wp2_with fail
 refine HC.out.mono ?_
 rintro e w1 ⟨rfl,hl1,ho1⟩
 have H1:Hid ((∃ pv sv rv nD nN,LogIn w1 B lp p bD bN pv sv rv (l.append d kind s).1 (l.append d kind s).2.1 (n+3) nD nN)∧OFr lp p w w1):=⟨hl1,ho1⟩
 clear hl1 ho1
 go_wp2
 go_ret
 exact ⟨rfl,H1.out.1,H1.out.2⟩
def ALog.keep (l:ALog) (d:ADisk) (kind:Nat) (s:ByteArray):ALog × ADisk × Nat :=
 if (l.note d kind s).2.2=0 then (l.note d kind s).1.force (l.note d kind s).2.1 else l.note d kind s
theorem jG9 (B gp lp p bD bN n nD nN kind:Nat) (pv sv rv:Value) (l:ALog) (d:ADisk) (s:ByteArray) (w:World) (hg:w.heap[gp]?=some (ledO lp)) (h:LogIn w B lp p bD bN pv sv rv l d n nD nN) (hk:kind<256) (hn:n+3<67108864) (hB:2≤B) (hsg:l.filled<600→l.segs≠[]) (hpow:Pows w) :
  Calls Tryz.prog 97 #[.pointer (some ⟨gp,0,none⟩),.int .u8 (kind:Int),.string s] w (jGi B lp p bD bN (n+3) (l.keep d kind s) w):=by
 have HC:Hid (Calls Tryz.prog 148 #[.pointer (some ⟨gp,0,none⟩),.int .u8 (kind:Int),.string s] w (jGi B lp p bD bN (n+3) (l.note d kind s) w)):=jJ2 B gp lp p bD bN n nD nN kind pv sv rv l d s w hg h hk hn hB hsg hpow
 have HG:Hid (w.heap[gp]?=some (ledO lp)∧LogIn w B lp p bD bN pv sv rv l d n nD nN):=⟨hg,h⟩
 clear h hg
 go_enter Tryz.func97,Tryz.ntmps97
 go_wp2_with fail
 refine HC.out.mono ?_
 rintro e w1 ⟨rfl,⟨pv1,sv1,rv1,nD1,nN1,hl1⟩,ho1⟩
 have hg1:=ho1.led HG.out.2 HG.out.1
 have c0:=jA0 hg1 0
 simp at c0
 have H1:Hid (LogIn w1 B lp p bD bN pv1 sv1 rv1 (l.note d kind s).1 (l.note d kind s).2.1 (n+3) nD1 nN1∧OFr lp p w w1):=⟨hl1,ho1⟩
 clear hl1 ho1 hg1
 by_cases hc:(l.note d kind s).2.2=0
 ·have e:l.keep d kind s=(l.note d kind s).1.force (l.note d kind s).2.1:=by unfold ALog.keep;rw [if_pos hc]
  rw [hc,jAt]
  go_wp2_with fail
  refine (jQj B lp p bD bN (n+3) nD1 nN1 pv1 sv1 rv1 _ _ w1 H1.out.1 oE).mono ?_
  rintro e w2 ⟨rfl,hl2,ho2⟩
  have H2:Hid ((∃ pv sv rv nD nN,LogIn w2 B lp p bD bN pv sv rv ((l.note d kind s).1.force (l.note d kind s).2.1).1 ((l.note d kind s).1.force (l.note d kind s).2.1).2.1 (n+3) nD nN)∧OFr lp p w w2):=⟨hl2,H1.out.2.trans ho2⟩
  clear hl2 ho2
  go_wp2
  go_ret
  rw [e]
  exact ⟨rfl,H2.out.1,H2.out.2⟩
 ·have e:l.keep d kind s=l.note d kind s:=by unfold ALog.keep;rw [if_neg hc]
  rw [jAc hc]
  go_wp2
  go_ret
  rw [e]
  exact ⟨by rw [jAc hc];rfl,⟨pv1,sv1,rv1,nD1,nN1,H1.out.1⟩,H1.out.2⟩
end Go.Proofs.YtcalalndmcemiaaGreatDoor
