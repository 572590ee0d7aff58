import Derived.Test.YtcalalndmcemiaaGreatDoorC26
set_option maxRecDepth 100000
set_option maxHeartbeats 16000000
namespace Go.Proofs.YtcalalndmcemiaaGreatDoor
open Go.RowKit Go.Maps
open Sc
abbrev jBu (i:Nat) (p:Nat) (up:Bool) (s c n:Option Addr):Obj:=.cells #[.int .i64 4,.int .i64 (i:Int),.pointer (some ⟨p,0,none⟩),.bool up,.pointer none,.pointer s,.pointer c,.pointer n] 79
abbrev jCi (i:Nat) (c s:Option Addr) (ov:Value):Obj:=.cells #[.int .i64 (i:Int),.pointer c,.pointer s,ov] 210
structure Msg where
 kind:Nat
 src:Nat
 dst:Nat
 txn:Nat
deriving DecidableEq
abbrev msgC (m:Msg):List Value:=[.int .i64 (m.kind:Int),.int .i64 (m.src:Int),.int .i64 (m.dst:Int),.int .u64 (m.txn:Int)]
def jG1 (l:List Msg):List Value:=l.flatMap msgC
theorem jOf (l:List Msg) (x:Msg):jG1 (l++[x])=jG1 l++msgC x:=by simp [jG1]
def jAd (t:TypeId):Prop:=t=79∨t=96∨t=182∨t=222∨t=43∨t=110∨t=139∨t=244∨t=122∨t=157∨t=207∨t=210∨t=151
def NodeObj (o:Option Obj):Prop:=(∃ es c,o=some (.map es c))∨∃ c t,o=some (.cells c t (0,0))∧jAd t
theorem NodeObj.ty {c:Array Value} {t:TypeId} (h:jAd t):NodeObj (some (.cells c t (0,0))):=.inr ⟨c,t,rfl,h⟩
theorem NodeObj.not {c:Array Value} {t:TypeId} {fr:Nat × Nat} (h:NodeObj (some (.cells c t fr))):jAd t:=by
 rcases h with ⟨es,c,e⟩ | ⟨c,t,e,ht⟩
 ·cases e
 ·cases e;exact ht
def ownL (hp nd p lp xp gp:Nat) (w:World):List Nat:=[hp,nd,p,lp,xp,gp]++refs w.heap[nd]?++refs w.heap[lp]?++refs w.heap[p]?++refs w.heap[xp]?
structure NFr (L L':List Nat) (w w':World):Prop where
 fr:Fr L w w'
 stay:∀ k,k<w.heap.size→k∈L'→k∈L
theorem NFr.trans {L M N:List Nat} {a b c:World} (h:NFr L M a b) (k:NFr M N b c):NFr L N a c where
 fr:=⟨k.fr.os.trans h.fr.os,k.fr.tape.trans h.fr.tape,k.fr.output.trans h.fr.output,Nat.le_trans h.fr.size k.fr.size,λi hi hn=>(k.fr.block i (Nat.lt_of_lt_of_le hi h.fr.size) (λhm=>hn (h.stay i hi hm))).trans (h.fr.block i hi hn)⟩
 stay:=λi hi hm=>h.stay i hi (k.stay i (Nat.lt_of_lt_of_le hi h.fr.size) hm)
theorem jA8 {hp nd p lp xp gp k:Nat} {w:World}:k∈ownL hp nd p lp xp gp w↔k=hp∨k=nd∨k=p∨k=lp∨k=xp∨k=gp∨k∈refs w.heap[nd]?∨k∈refs w.heap[lp]?∨k∈refs w.heap[p]?∨k∈refs w.heap[xp]?:=by
 simp [ownL]
theorem jCo {i:Nat} {c s:Option Addr} {ov:Value} (h:∃ a m c,ov=.slice a m c) (k:Nat):k∈refs (some (jCi i c s ov))↔ov.ownBlock=some k:=by
 obtain ⟨a,m,c2,rfl⟩:=h
 cases a <;> simp [refs,Value.ownBlock,eq_comm]
theorem jDu {lg bV bT bH ticks k:Nat}:k∈refs (some (shO lg bV bT bH ticks))↔k=bV∨k=bT∨k=bH:=by
 simp [refs,lgP]
theorem jHv {lg bT k:Nat} {c:ACo} {rv ov:Value} (h1:∃ a m c,rv=.slice a m c) (h2:∃ a m c,ov=.slice a m c):k∈refs (some (coO lg bT c rv ov))↔k=bT∨rv.ownBlock=some k∨ov.ownBlock=some k:=by
 obtain ⟨a,m,c2,rfl⟩:=h1
 obtain ⟨a',m',c2',rfl⟩:=h2
 cases a <;> cases a' <;> simp [refs,Value.ownBlock,lgP,eq_comm]
def LgW (l:ALog) (d:ADisk):Prop:=(∃ fst cs,LogOk l d fst cs)∧d.down=false
variable {w w':World} {B lp p bD bN n nD nN:Nat} {pv sv rv:Value} {l:ALog} {d:ADisk}
theorem LogIn.ownObj (h:LogIn w B lp p bD bN pv sv rv l d n nD nN) {k:Nat} (hk:Own lp p w k):B≤k∧NodeObj w.heap[k]?:=by
 refine ⟨h.ge hk,?_⟩
 rcases (h.own k).1 hk with e | e | e | e | e | e | e
 ·rw [e,h.blk];exact .ty (by simp [jAd])
 ·rw [e,h.disk.blk];exact .ty (by simp [jAd])
 ·rw [e];exact .inl h.disk.dur.isMap
 ·rw [e];exact .inl h.disk.now.isMap
 ·obtain ⟨c,hc⟩:=jA4 h.disk.pen e;rw [hc];exact .ty (by simp [jAd])
 ·obtain ⟨c,hc⟩:=jA4 h.segs e;rw [hc];exact .ty (by simp [jAd])
 ·obtain ⟨c,hc⟩:=jA4 h.recs e;rw [hc];exact .ty (by simp [jAd])
structure ShP (w:World) (B i hp nd p sp gp bV bT bH lp bD bN m n:Nat) (s:AShard) (l:ALog) (d:ADisk) (ov:Value) (out:List Msg):Prop where
 hh:w.heap[hp]?=some (jBu i p true (some ⟨sp,0,none⟩) none (some ⟨nd,0,none⟩))
 hnd:w.heap[nd]?=some (jCi i none (some ⟨sp,0,none⟩) ov)
 hov:w.ownsRow B 151 4 ov out.length (jG1 out)
 sl:SL w B sp gp bV bT bH m lp p bD bN n s l d
 hb:B≤hp∧B≤nd∧B≤gp∧B≤sp∧B≤bV∧B≤bT∧B≤bH
structure CoP (w:World) (B hp nd p cp gp bT lp bD bN m n:Nat) (c:ACo) (l:ALog) (d:ADisk) (ov:Value) (out:List Msg):Prop where
 hh:w.heap[hp]?=some (jBu 0 p true none (some ⟨cp,0,none⟩) (some ⟨nd,0,none⟩))
 hnd:w.heap[nd]?=some (jCi 0 (some ⟨cp,0,none⟩) none ov)
 hov:w.ownsRow B 151 4 ov out.length (jG1 out)
 sl:CL w B cp gp bT m lp p bD bN n c l d
 hb:B≤hp∧B≤nd∧B≤gp
def ShNode (w:World) (B i hp:Nat) (s:AShard) (out:List Msg) (K:Nat) (L:List Nat):Prop :=
 ∃ nd p sp gp bV bT bH lp bD bN m n l d ov,ShP w B i hp nd p sp gp bV bT bH lp bD bN m n s l d ov out∧LgW l d∧(m≤200*K∧n≤100+3*K∧out.length≤200*K)∧L=ownL hp nd p lp sp gp w
def CoNode (w:World) (B hp:Nat) (c:ACo) (out:List Msg) (K:Nat) (L:List Nat):Prop :=
 ∃ nd p cp gp bT lp bD bN m n l d ov,CoP w B hp nd p cp gp bT lp bD bN m n c l d ov out∧LgW l d∧(m≤200*K∧n≤100+3*K∧out.length≤200*K)∧L=ownL hp nd p lp cp gp w
theorem ShP.obj {i hp nd sp gp bV bT bH m:Nat} {s:AShard} {ov:Value} {out:List Msg} (h:ShP w B i hp nd p sp gp bV bT bH lp bD bN m n s l d ov out):∀ k∈ownL hp nd p lp sp gp w,B≤k∧NodeObj w.heap[k]?:=by
 obtain ⟨hh,hnd,hov,hs,hb⟩:=h
 obtain ⟨pv,sv,rv,nD,nN,hl⟩:=hs.lg
 intro k hk
 rcases jA8.1 hk with e | e | e | e | e | e | e | e | e | e
 ·rw [e,hh];exact ⟨hb.1,.ty (by simp [jAd])⟩
 ·rw [e,hnd];exact ⟨hb.2.1,.ty (by simp [jAd])⟩
 ·exact hl.ownObj (.inr (.inl e))
 ·exact hl.ownObj (.inl e)
 ·rw [e,hs.sh.blk];exact ⟨hb.2.2.2.1,.ty (by simp [jAd])⟩
 ·rw [e,hs.ap.led];exact ⟨hb.2.2.1,.ty (by simp [jAd])⟩
 ·rw [hnd] at e
  have e2:=(jCo (jAu hov) k).1 e
  obtain ⟨c,hc⟩:=jA4 hov e2
  rw [hc];exact ⟨(hov.lt k e2).1,.ty (by simp [jAd])⟩
 ·exact hl.ownObj (.inr (.inr (.inl e)))
 ·exact hl.ownObj (.inr (.inr (.inr e)))
 ·rw [hs.sh.blk] at e
  rcases jDu.1 e with e | e | e
  ·rw [e];exact ⟨hb.2.2.2.2.1,.inl hs.sh.vals.isMap⟩
  ·rw [e];exact ⟨hb.2.2.2.2.2.1,.inl hs.sh.txns.isMap⟩
  ·rw [e];exact ⟨hb.2.2.2.2.2.2,.inl hs.sh.holds.isMap⟩
theorem CoP.obj {hp nd cp gp bT m:Nat} {c:ACo} {ov:Value} {out:List Msg} (h:CoP w B hp nd p cp gp bT lp bD bN m n c l d ov out):∀ k∈ownL hp nd p lp cp gp w,B≤k∧NodeObj w.heap[k]?:=by
 obtain ⟨hh,hnd,hov,hs,hb⟩:=h
 obtain ⟨pv,sv,rv,nD,nN,hl⟩:=hs.lg
 obtain ⟨xv,yv,hcb,h1,h2,-⟩:=hs.co.ex
 intro k hk
 rcases jA8.1 hk with e | e | e | e | e | e | e | e | e | e
 ·rw [e,hh];exact ⟨hb.1,.ty (by simp [jAd])⟩
 ·rw [e,hnd];exact ⟨hb.2.1,.ty (by simp [jAd])⟩
 ·exact hl.ownObj (.inr (.inl e))
 ·exact hl.ownObj (.inl e)
 ·rw [e,hcb];exact ⟨hs.co.low.1,.ty (by simp [jAd])⟩
 ·rw [e,hs.led];exact ⟨hb.2.2,.ty (by simp [jAd])⟩
 ·rw [hnd] at e
  have e2:=(jCo (jAu hov) k).1 e
  obtain ⟨c,hc⟩:=jA4 hov e2
  rw [hc];exact ⟨(hov.lt k e2).1,.ty (by simp [jAd])⟩
 ·exact hl.ownObj (.inr (.inr (.inl e)))
 ·exact hl.ownObj (.inr (.inr (.inr e)))
 ·rw [hcb] at e
  rcases (jHv (jAu h1) (jAu h2)).1 e with e | e | e
  ·rw [e];exact ⟨hs.co.low.2.1,.inl hs.co.txns.isMap⟩
  ·obtain ⟨c,hc⟩:=jA4 h1 e
   rw [hc];exact ⟨(h1.lt k e).1,.ty (by simp [jAd])⟩
  ·obtain ⟨c,hc⟩:=jA4 h2 e
   rw [hc];exact ⟨(h2.lt k e).1,.ty (by simp [jAd])⟩
theorem ShNode.obj {i hp K:Nat} {s:AShard} {out:List Msg} {L:List Nat} (h:ShNode w B i hp s out K L):∀ k∈L,B≤k∧NodeObj w.heap[k]?:=by
 obtain ⟨nd,p,sp,gp,bV,bT,bH,lp,bD,bN,m,n,l,d,ov,h,-,-,rfl⟩:=h
 exact h.obj
theorem CoNode.obj {hp K:Nat} {c:ACo} {out:List Msg} {L:List Nat} (h:CoNode w B hp c out K L):∀ k∈L,B≤k∧NodeObj w.heap[k]?:=by
 obtain ⟨nd,p,cp,gp,bT,lp,bD,bN,m,n,l,d,ov,h,-,-,rfl⟩:=h
 exact h.obj
theorem NodeObj.lt {k:Nat} (h:NodeObj w.heap[k]?):k<w.heap.size:=by
 rcases h with ⟨es,c,e⟩ | ⟨c,t,e,-⟩ <;> exact (Array.getElem?_eq_some_iff.1 e).1
theorem NodeObj.text {k:Nat} (h:NodeObj w.heap[k]?) (t:ByteArray):w.heap[k]?≠some (jBc t):=by
 intro e
 rw [e] at h
 have:=h.not
 simp [jAd] at this
theorem Fr.keepsL {S L:List Nat} (hf:Fr S w w') (hd:∀ k∈S,k∉L) (hL:∀ k∈L,k<w.heap.size):∀ k∈L,w'.heap[k]?=w.heap[k]?:=λk hk=>hf.block k (hL k hk) (λhs=>hd k hs hk)
theorem jAf {e:TypeId} {k m:Nat} {v:Value} {xs:List Value} (h:w.ownsRow B e k v m xs) (hk:∀ g,v.ownBlock=some g→w'.heap[g]?=w.heap[g]?):w'.ownsRow B e k v m xs:=by
 refine ⟨h.1,?_⟩
 rcases h.2 with hn | ⟨g,cap,cur,rfl,hb,hg,rest⟩
 ·exact .inl hn
 ·exact .inr ⟨g,cap,cur,rfl,hb,(hk g rfl).trans hg,rest⟩
theorem ShP.apart {S:List Nat} {i hp nd sp gp bV bT bH m:Nat} {s:AShard} {ov:Value} {out:List Msg} (h:ShP w B i hp nd p sp gp bV bT bH lp bD bN m n s l d ov out) (hf:Fr S w w') (hS:∀ k∈S,k<w.heap.size→k∉ownL hp nd p lp sp gp w∧∀ t,w.heap[k]?≠some (jBc t)):ShP w' B i hp nd p sp gp bV bT bH lp bD bN m n s l d ov out∧ownL hp nd p lp sp gp w'=ownL hp nd p lp sp gp w:=by
 have hob:=h.obj
 have hlt:∀ k∈ownL hp nd p lp sp gp w,k<w.heap.size:=λk hk=>(hob k hk).2.lt
 have hk:=hf.keepsL (L:=ownL hp nd p lp sp gp w) (λk hs hl=>(hS k hs (hlt k hl)).1 hl) hlt
 obtain ⟨hh,hnd,hov,hs,hb⟩:=h
 obtain ⟨pv,sv,rv,nD,nN,hl⟩:=hs.lg
 have mem:∀ k,k∈ownL hp nd p lp sp gp w→k∉S:=λk hk hs=>(hS k hs (hlt k hk)).1 hk
 have own:∀ k,Own lp p w k→k∈ownL hp nd p lp sp gp w:=λk ho=>jA8.2 (by rcases ho with e | e | e | e <;> simp [e])
 have msp:∀ k,k=bV∨k=bT∨k=bH→k∈ownL hp nd p lp sp gp w:=λk hk=>jA8.2 (by rw [hs.sh.blk];simp only [jDu.2 hk,or_true])
 have e1:=hk hp (jA8.2 sE)
 have e2:=hk nd (jA8.2 sE)
 have e3:=hk p (jA8.2 sE)
 have e4:=hk lp (jA8.2 sE)
 have e5:=hk sp (jA8.2 sE)
 have e6:=hk gp (jA8.2 sE)
 refine ⟨⟨e1.trans hh,e2.trans hnd,jAf hov (λg hg=>hk g (jA8.2 (by rw [hnd];simp only [(jCo (jAu hov) g).2 hg,true_or,or_true]))),⟨hs.sh.fr hf (mem sp (jA8.2 sE)) (mem bV (msp _ (.inl rfl))) (mem bT (msp _ (.inr (.inl rfl)))) (mem bH (msp _ (.inr (.inr rfl)))),⟨_,_,_,_,_,hl.apart hf (λk hk2 hlt2=>⟨λho=>(hS k hk2 hlt2).1 (own k ho),(hS k hk2 hlt2).2⟩)⟩,⟨e6.trans hs.ap.led,hs.ap.ne⟩,hs.gp1⟩,hb⟩,?_⟩
 unfold ownL
 rw [e2,e3,e4,e5]
theorem CoP.apart {S:List Nat} {hp nd cp gp bT m:Nat} {c:ACo} {ov:Value} {out:List Msg} (h:CoP w B hp nd p cp gp bT lp bD bN m n c l d ov out) (hf:Fr S w w') (hS:∀ k∈S,k<w.heap.size→k∉ownL hp nd p lp cp gp w∧∀ t,w.heap[k]?≠some (jBc t)):CoP w' B hp nd p cp gp bT lp bD bN m n c l d ov out∧ownL hp nd p lp cp gp w'=ownL hp nd p lp cp gp w:=by
 have hob:=h.obj
 have hlt:∀ k∈ownL hp nd p lp cp gp w,k<w.heap.size:=λk hk=>(hob k hk).2.lt
 have hk:=hf.keepsL (L:=ownL hp nd p lp cp gp w) (λk hs hl=>(hS k hs (hlt k hl)).1 hl) hlt
 obtain ⟨hh,hnd,hov,hs,hb⟩:=h
 obtain ⟨pv,sv,rv,nD,nN,hl⟩:=hs.lg
 obtain ⟨xv,yv,hcb,h1,h2,h3⟩:=hs.co.ex
 have mem:∀ k,k∈ownL hp nd p lp cp gp w→k∉S:=λk hk hs=>(hS k hs (hlt k hk)).1 hk
 have own:∀ k,Own lp p w k→k∈ownL hp nd p lp cp gp w:=λk ho=>jA8.2 (by rcases ho with e | e | e | e <;> simp [e])
 have mcp:∀ k,k=bT∨xv.ownBlock=some k∨yv.ownBlock=some k→k∈ownL hp nd p lp cp gp w:=λk hk=>jA8.2 (by rw [hcb];simp only [(jHv (jAu h1) (jAu h2)).2 hk,or_true])
 have e1:=hk hp (jA8.2 sE)
 have e2:=hk nd (jA8.2 sE)
 have e3:=hk p (jA8.2 sE)
 have e4:=hk lp (jA8.2 sE)
 have e5:=hk cp (jA8.2 sE)
 have e6:=hk gp (jA8.2 sE)
 refine ⟨⟨e1.trans hh,e2.trans hnd,jAf hov (λg hg=>hk g (jA8.2 (by rw [hnd];simp only [(jCo (jAu hov) g).2 hg,true_or,or_true]))),⟨⟨⟨xv,yv,e5.trans hcb,jAf h1 (λg hg=>hk g (mcp g (.inr (.inl hg)))),jAf h2 (λg hg=>hk g (mcp g (.inr (.inr hg)))),h3⟩,hs.co.txns.fr hf (mem bT (mcp _ (.inl rfl))),⟨hs.co.low.1,hs.co.low.2.1,Nat.le_trans hs.co.low.2.2 hf.size⟩,hs.co.nums⟩,⟨_,_,_,_,_,hl.apart hf (λk hk2 hlt2=>⟨λho=>(hS k hk2 hlt2).1 (own k ho),(hS k hk2 hlt2).2⟩)⟩,e6.trans hs.led,hs.ne,hs.gp1⟩,hb⟩,?_⟩
 unfold ownL
 rw [e2,e3,e4,e5]
theorem ShNode.apart {S:List Nat} {i hp K:Nat} {s:AShard} {out:List Msg} {L:List Nat} (h:ShNode w B i hp s out K L) (hf:Fr S w w') (hS:∀ k∈S,k<w.heap.size→k∉L∧∀ t,w.heap[k]?≠some (jBc t)):ShNode w' B i hp s out K L:=by
 obtain ⟨nd,p,sp,gp,bV,bT,bH,lp,bD,bN,m,n,l,d,ov,hP,hw,hm,rfl⟩:=h
 obtain ⟨h1,h2⟩:=hP.apart hf hS
 exact ⟨nd,p,sp,gp,bV,bT,bH,lp,bD,bN,m,n,l,d,ov,h1,hw,hm,h2.symm⟩
theorem CoNode.apart {S:List Nat} {hp K:Nat} {c:ACo} {out:List Msg} {L:List Nat} (h:CoNode w B hp c out K L) (hf:Fr S w w') (hS:∀ k∈S,k<w.heap.size→k∉L∧∀ t,w.heap[k]?≠some (jBc t)):CoNode w' B hp c out K L:=by
 obtain ⟨nd,p,cp,gp,bT,lp,bD,bN,m,n,l,d,ov,hP,hw,hm,rfl⟩:=h
 obtain ⟨h1,h2⟩:=hP.apart hf hS
 exact ⟨nd,p,cp,gp,bT,lp,bD,bN,m,n,l,d,ov,h1,hw,hm,h2.symm⟩
theorem NFr.young1 {S L M:List Nat} {w3 w4:World} (h:NFr L M w w3) (hf:Fr S w3 w4) (hS:∀ k∈S,w.heap.size≤k):NFr L M w w4 :=
 ⟨⟨hf.os.trans h.fr.os,hf.tape.trans h.fr.tape,hf.output.trans h.fr.output,Nat.le_trans h.fr.size hf.size,λk hk hn=>(hf.block k (Nat.lt_of_lt_of_le hk h.fr.size) (λhm=>by have:=hS k hm;omega)).trans (h.fr.block k hk hn)⟩,h.stay⟩
theorem SFr.node {i hp nd sp gp bV bT bH m m' n':Nat} {s s':AShard} {l':ALog} {d':ADisk} {ov:Value} (hf:SFr sp bV bT bH lp p w w') (hs:SL w B sp gp bV bT bH m lp p bD bN n s l d) (hs':SL w' B sp gp bV bT bH m' lp p bD bN n' s' l' d') (hnd:w.heap[nd]?=some (jCi i none (some ⟨sp,0,none⟩) ov)) :
  NFr (ownL hp nd p lp sp gp w) (ownL hp nd p lp sp gp w') w w':=by
 have e2:=hf.cells hs hnd dN dN dN dN dN dN
 have own:∀ k,Own lp p w k→k∈ownL hp nd p lp sp gp w:=λk ho=>jA8.2 (by rcases ho with e | e | e | e <;> simp [e])
 refine ⟨⟨hf.os,hf.tape,hf.output,hf.size,λk hk hn=>hf.block k hk (λho=>hn (own k ho)) (λhm=>hn ?_)⟩,λk hk hm=>?_⟩
 ·simp at hm
  rcases hm with e | e
  ·exact jA8.2 (by simp [e])
  ·exact jA8.2 (by rw [hs.sh.blk];simp only [jDu.2 e,or_true])
 ·rcases jA8.1 hm with e | e | e | e | e | e | e | e | e | e
  ·exact jA8.2 (by simp [e])
  ·exact jA8.2 (by simp [e])
  ·exact jA8.2 (by simp [e])
  ·exact jA8.2 (by simp [e])
  ·exact jA8.2 (by simp [e])
  ·exact jA8.2 (by simp [e])
  ·rw [e2,← hnd] at e;exact jA8.2 (by simp only [e,true_or,or_true])
  ·exact own k (hf.stay k hk (.inr (.inr (.inl e))))
  ·exact own k (hf.stay k hk (.inr (.inr (.inr e))))
  ·rw [hs'.sh.blk,jDu] at e
   exact jA8.2 (by rw [hs.sh.blk];simp only [jDu.2 e,or_true])
theorem jMn {cp bT lg k:Nat} {c:ACo} {rv ov:Value} (hcb:w.heap[cp]?=some (coO lg bT c rv ov)):k∈rd cp w↔rv.ownBlock=some k∨ov.ownBlock=some k:=by
 unfold rd
 rw [hcb]
 simp [rdO]
theorem CFr.node {hp nd cp gp bT m m' n':Nat} {c c':ACo} {l':ALog} {d':ADisk} {ov:Value} (hf:CFr cp bT lp p w w') (hs:CL w B cp gp bT m lp p bD bN n c l d) (hs':CL w' B cp gp bT m' lp p bD bN n' c' l' d') (hnd:w.heap[nd]?=some (jCi 0 (some ⟨cp,0,none⟩) none ov)) :
  NFr (ownL hp nd p lp cp gp w) (ownL hp nd p lp cp gp w') w w':=by
 have e2:=hf.cells hs hnd dN dN dN dN dN dN dN dN
 have own:∀ k,Own lp p w k→k∈ownL hp nd p lp cp gp w:=λk ho=>jA8.2 (by rcases ho with e | e | e | e <;> simp [e])
 obtain ⟨xv,yv,hcb,h1,h2,-⟩:=hs.co.ex
 obtain ⟨xv',yv',hcb',h1',h2',-⟩:=hs'.co.ex
 have mc:∀ k,k=bT∨k∈rd cp w→k∈ownL hp nd p lp cp gp w:=λk hk=>jA8.2 (by rw [jMn hcb] at hk;rw [hcb];simp only [(jHv (jAu h1) (jAu h2)).2 hk,or_true])
 refine ⟨⟨hf.os,hf.tape,hf.output,hf.size,λk hk hn=>hf.block k hk (λho=>hn (own k ho)) (λhm=>hn ?_) (λhr=>hn (mc k (.inr hr)))⟩,λk hk hm=>?_⟩
 ·simp at hm
  rcases hm with e | e
  ·exact jA8.2 (by simp [e])
  ·exact mc k (.inl e)
 ·rcases jA8.1 hm with e | e | e | e | e | e | e | e | e | e
  ·exact jA8.2 (by simp [e])
  ·exact jA8.2 (by simp [e])
  ·exact jA8.2 (by simp [e])
  ·exact jA8.2 (by simp [e])
  ·exact jA8.2 (by simp [e])
  ·exact jA8.2 (by simp [e])
  ·rw [e2,← hnd] at e;exact jA8.2 (by simp only [e,true_or,or_true])
  ·exact own k (hf.stay k hk (.inr (.inr (.inl e))))
  ·exact own k (hf.stay k hk (.inr (.inr (.inr e))))
  ·rw [hcb',jHv (jAu h1') (jAu h2'),← jMn hcb'] at e
   exact mc k (e.imp id (hf.own k hk))
end Go.Proofs.YtcalalndmcemiaaGreatDoor
set_option maxRecDepth 100000
set_option maxHeartbeats 16000000
namespace Go.Proofs.YtcalalndmcemiaaGreatDoor
open Go.RowKit Go.Maps
open Sc
theorem jEa (hp p bD bN i:Nat) (pv:Value) (x1 x2 x3:Option Addr) (up dn:Bool) (l f a b c k:Int) (w:World) (hh:w.heap[hp]?=some (jBu i p up x1 x2 x3)) (hd:w.heap[p]?=some (dskO bD bN pv l f dn)) :
  Calls Tryz.prog 27 #[.pointer (some ⟨hp,0,none⟩),jD1 a b c k] w λe w'=>e=.returned (.tuple #[])∧w'.heap[p]?=some (dskO bD bN pv a b dn)∧Fr [p] w w':=by
 have hhl:hp<w.heap.size:=(Array.getElem?_eq_some_iff.1 hh).1
 have hpl:p<w.heap.size:=(Array.getElem?_eq_some_iff.1 hd).1
 have hne:¬ hp=p:=by intro e;subst e;rw [hh] at hd;cases hd
 have hne2:¬ p=hp:=λe=>hne e.symm
 have hz1:¬ p=w.heap.size:=by omega
 have hz2:¬ w.heap.size=p:=by omega
 obtain ⟨W,hW⟩:∃ W,W=w.alloc (.cells #[.int .i64 a,.int .i64 b,.int .i64 c,.int .i64 k] 40):=⟨_,rfl⟩
 have hhW:W.heap[hp]?=some (jBu i p up x1 x2 x3):=by rw [hW,Below.heap_alloc w _ hp hhl];exact hh
 have hdW:W.heap[p]?=some (dskO bD bN pv l f dn):=by rw [hW,Below.heap_alloc w _ p hpl];exact hd
 have hfW:W.heap[w.heap.size]?=some (.cells #[.int .i64 a,.int .i64 b,.int .i64 c,.int .i64 k] 40 (0,0)):=by rw [hW];exact heap_alloc_new w _
 have c2:=jA0 hhW 2
 have c3:=jA0 hdW 3
 have c4:=jA0 hdW 4
 have c5:=jA0 hdW 5
 have f3:=jA2 hdW 3
 have f4:=jA2 hdW 4
 have x0:=jA0 hfW 0
 have x1:=jA0 hfW 1
 simp at c2 c3 c4 c5 x0 x1
 have HD:Hid (W.heap[p]?=some (dskO bD bN pv l f dn)):=hdW
 have HF:Hid (Fr [p] w W):=by rw [hW];exact (Fr.refl [p] w).alloc _
 clear hd hh hhW hdW hfW
 clear c5
 go_enter Tryz.func27,Tryz.ntmps27
 go_wp2
 rw [← hW]
 clear hW
 go_region_held3 (λw'=>w'.cell? ⟨hp,2,none⟩=some (.pointer (some ⟨p,0,none⟩))∧w'.cell? ⟨w.heap.size,0,none⟩=some (.int .i64 a)∧w'.cell? ⟨w.heap.size,1,none⟩=some (.int .i64 b)) (simp [jB7, *]) (fail)
 go_end0
 refine ⟨rfl,?_,HF.out.trans (((Fr.set1 sE _ _).trans (Fr.set1 sE _ _)).drew)⟩
 have:=jA5 (jA5 HD.out 3 (.int .i64 a)) 4 (.int .i64 b)
 simp at this
 exact this
theorem jFc (hp p bD bN i:Nat) (pv:Value) (x1 x2 x3:Option Addr) (up:Bool) (l f a b c k:Int) (w:World) (hh:w.heap[hp]?=some (jBu i p up x1 x2 x3)) (hd:w.heap[p]?=some (dskO bD bN pv l f false)) :
  Calls Tryz.prog 29 #[.pointer (some ⟨hp,0,none⟩),jD1 a b c k] w λe w'=>e=.returned (.tuple #[])∧w'.heap[p]?=some (dskO bD bN pv (-1) (-1) false)∧Fr [p] w w':=by
 have hhl:hp<w.heap.size:=(Array.getElem?_eq_some_iff.1 hh).1
 have hpl:p<w.heap.size:=(Array.getElem?_eq_some_iff.1 hd).1
 have hne:¬ hp=p:=by intro e;subst e;rw [hh] at hd;cases hd
 have hne2:¬ p=hp:=λe=>hne e.symm
 have hz1:¬ p=w.heap.size:=by omega
 have hz2:¬ w.heap.size=p:=by omega
 obtain ⟨W,hW⟩:∃ W,W=w.alloc (.cells #[.int .i64 a,.int .i64 b,.int .i64 c,.int .i64 k] 40):=⟨_,rfl⟩
 have hhW:W.heap[hp]?=some (jBu i p up x1 x2 x3):=by rw [hW,Below.heap_alloc w _ hp hhl];exact hh
 have hdW:W.heap[p]?=some (dskO bD bN pv l f false):=by rw [hW,Below.heap_alloc w _ p hpl];exact hd
 have hfW:W.heap[w.heap.size]?=some (.cells #[.int .i64 a,.int .i64 b,.int .i64 c,.int .i64 k] 40 (0,0)):=by rw [hW];exact heap_alloc_new w _
 have c2:=jA0 hhW 2
 have c3:=jA0 hdW 3
 have c4:=jA0 hdW 4
 have c5:=jA0 hdW 5
 have f3:=jA2 hdW 3
 have f4:=jA2 hdW 4
 have x0:=jA0 hfW 0
 have x1:=jA0 hfW 1
 simp at c2 c3 c4 c5 x0 x1
 have HD:Hid (W.heap[p]?=some (dskO bD bN pv l f false)):=hdW
 have HF:Hid (Fr [p] w W):=by rw [hW];exact (Fr.refl [p] w).alloc _
 clear hd hh hhW hdW hfW
 go_enter Tryz.func29,Tryz.ntmps29
 have d2:=c2
 have d5:=c5
 rw [hW] at d2 d5
 go_wp2
 rw [← hW]
 clear hW d2 d5
 go_region_held3 (λw'=>w'.cell? ⟨hp,2,none⟩=some (.pointer (some ⟨p,0,none⟩))) (simp [jB7, *]) (fail)
 go_end0
 refine ⟨rfl,?_,HF.out.trans (((Fr.set1 sE _ _).trans (Fr.set1 sE _ _)).drew)⟩
 have:=jA5 (jA5 HD.out 3 (.int .i64 (-1))) 4 (.int .i64 (-1))
 simp at this
 exact this
theorem jPv (hp p i:Nat) (up:Bool) (x1 x2 x3:Option Addr) (w:World) (hh:w.heap[hp]?=some (jBu i p up x1 x2 x3)) :
  Calls Tryz.prog 38 #[.pointer (some ⟨hp,0,none⟩)] w λe w'=>e=.returned (.tuple #[])∧w'.heap[hp]?=some (jBu i p false none none none)∧Fr [hp] w w':=by
 have c3:=jA0 hh 3
 have c4:=jA0 hh 4
 have c5:=jA0 hh 5
 have c6:=jA0 hh 6
 have c7:=jA0 hh 7
 have f3:=jA2 hh 3
 have f4:=jA2 hh 4
 have f5:=jA2 hh 5
 have f6:=jA2 hh 6
 have f7:=jA2 hh 7
 simp at c3 c4 c5 c6 c7
 have HH:Hid (w.heap[hp]?=some (jBu i p up x1 x2 x3)):=hh
 clear hh
 go_enter Tryz.func38,Tryz.ntmps38
 go_wp2
 go_end0
 refine ⟨rfl,?_,((((Fr.set1 sE _ _).trans (Fr.set1 sE _ _)).trans (Fr.set1 sE _ _)).trans (Fr.set1 sE _ _)).trans (Fr.set1 sE _ _)⟩
 have:=jA5 (jA5 (jA5 (jA5 (jA5 HH.out 3 (.bool false)) 4 (.pointer none)) 5 (.pointer none)) 6 (.pointer none)) 7 (.pointer none)
 simp at this
 exact this
section
variable {w w':World} {B i hp nd p sp gp bV bT bH lp bD bN m n m' n' cp:Nat} {s s':AShard} {c c':ACo} {l l':ALog} {d d':ADisk} {ov:Value} {out:List Msg}
theorem ShP.sfr (h:ShP w B i hp nd p sp gp bV bT bH lp bD bN m n s l d ov out) (hf:SFr sp bV bT bH lp p w w') (hs:SL w' B sp gp bV bT bH m' lp p bD bN n' s' l' d'):ShP w' B i hp nd p sp gp bV bT bH lp bD bN m' n' s' l' d' ov out∧NFr (ownL hp nd p lp sp gp w) (ownL hp nd p lp sp gp w') w w' :=
 ⟨⟨hf.cells h.sl h.hh dN dN dN dN dN dN,hf.cells h.sl h.hnd dN dN dN dN dN dN,
  jAf h.hov (λg hg=>by obtain ⟨c,hc⟩:=jA4 h.hov hg;exact (hf.cells h.sl hc dN dN dN dN dN dN).trans hc.symm),hs,h.hb⟩,hf.node h.sl hs h.hnd⟩
theorem CoP.cfr (h:CoP w B hp nd p cp gp bT lp bD bN m n c l d ov out) (hf:CFr cp bT lp p w w') (hs:CL w' B cp gp bT m' lp p bD bN n' c' l' d'):CoP w' B hp nd p cp gp bT lp bD bN m' n' c' l' d' ov out∧NFr (ownL hp nd p lp cp gp w) (ownL hp nd p lp cp gp w') w w' :=
 ⟨⟨hf.cells h.sl h.hh dN dN dN dN dN dN dN dN,hf.cells h.sl h.hnd dN dN dN dN dN dN dN dN,
  jAf h.hov (λg hg=>by obtain ⟨c,hc⟩:=jA4 h.hov hg;exact (hf.cells h.sl hc dN dN dN dN dN dN dN dN).trans hc.symm),hs,h.hb⟩,hf.node h.sl hs h.hnd⟩
theorem ShP.new (h:ShP w B i hp nd p sp gp bV bT bH lp bD bN m n s l d ov out) (hf:Fr [] w w'):ShP w' B i hp nd p sp gp bV bT bH lp bD bN m n s l d ov out∧NFr (ownL hp nd p lp sp gp w) (ownL hp nd p lp sp gp w') w w':=h.sfr (h.sl.new hf).2 (h.sl.new hf).1
theorem CoP.new (h:CoP w B hp nd p cp gp bT lp bD bN m n c l d ov out) (hf:Fr [] w w'):CoP w' B hp nd p cp gp bT lp bD bN m n c l d ov out∧NFr (ownL hp nd p lp cp gp w) (ownL hp nd p lp cp gp w') w w':=h.cfr (h.sl.new hf).2 (h.sl.new hf).1
theorem ShP.ownNew (h:ShP w B i hp nd p sp gp bV bT bH lp bD bN m n s l d ov out) (hf:Fr [] w w'):ownL hp nd p lp sp gp w'=ownL hp nd p lp sp gp w:=(h.apart hf sE).2
theorem CoP.ownNew (h:CoP w B hp nd p cp gp bT lp bD bN m n c l d ov out) (hf:Fr [] w w'):ownL hp nd p lp cp gp w'=ownL hp nd p lp cp gp w:=(h.apart hf sE).2
theorem NFr.below {L L':List Nat} (hf:NFr L L' w w') (hB:B≤w.heap.size) (hL:∀ k∈L,B≤k∧NodeObj w.heap[k]?):Below B w w':=hf.fr.below hB (λk hk=>(hL k hk).1)
theorem ShP.size (h:ShP w B i hp nd p sp gp bV bT bH lp bD bN m n s l d ov out):B≤w.heap.size:=by
 have h1:sp<w.heap.size:=(Array.getElem?_eq_some_iff.1 h.sl.sh.blk).1
 have:=h.hb.2.2.2.1
 omega
theorem CoP.size (h:CoP w B hp nd p cp gp bT lp bD bN m n c l d ov out):B≤w.heap.size:=h.sl.co.low.2.2
theorem ShP.keeps (h:ShP w B i hp nd p sp gp bV bT bH lp bD bN m n s l d ov out) {L':List Nat} (hf:NFr (ownL hp nd p lp sp gp w) L' w w') (hB:2≤B):(Met w→Met w')∧(Pows w→Pows w'):=by
 have hb:=hf.below h.size h.obj
 exact ⟨λhm=>hm.below hb oE,λhm=>hm.of_block (hb.block 1 oE)⟩
theorem CoP.keeps (h:CoP w B hp nd p cp gp bT lp bD bN m n c l d ov out) {L':List Nat} (hf:NFr (ownL hp nd p lp cp gp w) L' w w') (hB:2≤B):(Met w→Met w')∧(Pows w→Pows w'):=by
 have hb:=hf.below h.size h.obj
 exact ⟨λhm=>hm.below hb oE,λhm=>hm.of_block (hb.block 1 oE)⟩
end
/-! ### a log that is well -/
theorem LgW.knob {l:ALog} {d:ADisk} (h:LgW l d) (a b:Int):LgW l (d.knob a b):=by
 obtain ⟨⟨fst,cs,h1⟩,h2⟩:=h
 exact ⟨⟨fst,cs,{ h1 with files:=h1.files }⟩,h2⟩
theorem jK5 {d:ADisk} (h:d.down=false):(d.knob (-1) (-1)).Well 0:=by
 constructor <;> simp [ADisk.knob,h]
theorem LgW.note {l:ALog} {d:ADisk} (h:LgW l d) (kind:Nat) (s:ByteArray) (hs:s.size≤255):(l.note (d.knob (-1) (-1)) kind s).2.2=0∧LgW (l.note (d.knob (-1) (-1)) kind s).1 (l.note (d.knob (-1) (-1)) kind s).2.1:=by
 have hw:=jK5 h.2
 obtain ⟨⟨fst,cs,h1⟩,-⟩:=h.knob (-1) (-1)
 have ha:=h1.append hw oE kind s hs
 obtain ⟨cs',h3,-⟩:=ha.log
 exact ⟨ha.ret.2,⟨fst,cs',h3⟩,ha.well.up⟩
theorem LgW.keep {l:ALog} {d:ADisk} (h:LgW l d) (kind:Nat) (s:ByteArray) (hs:s.size≤255):(l.keep (d.knob (-1) (-1)) kind s).2.2=0∧LgW (l.keep (d.knob (-1) (-1)) kind s).1 (l.keep (d.knob (-1) (-1)) kind s).2.1:=by
 have hw:=jK5 h.2
 obtain ⟨⟨fst,cs,h1⟩,-⟩:=h.knob (-1) (-1)
 have ha:=h1.append hw oE kind s hs
 obtain ⟨cs',h3,-⟩:=ha.log
 have he:(l.note (d.knob (-1) (-1)) kind s).2.2=0:=ha.ret.2
 have hf:=LogOk.force h3 ha.well oE
 have hk:l.keep (d.knob (-1) (-1)) kind s=(l.note (d.knob (-1) (-1)) kind s).1.force (l.note (d.knob (-1) (-1)) kind s).2.1:=by unfold ALog.keep;rw [if_pos he]
 rw [hk]
 exact ⟨hf.1,⟨fst,cs',hf.2.1⟩,hf.2.2.1.up⟩
theorem LgW.segs {l:ALog} {d:ADisk} (h:LgW l d) (hf:l.filled<600):l.segs≠[]:=by
 obtain ⟨⟨fst,cs,h1⟩,-⟩:=h
 exact h1.segsNe hf
structure SGood (K:Nat) (s:AShard):Prop where
 once:Once1 s.vals∧Once1 s.txns∧Once1 s.holds
 txs:∀ p∈s.txns,1≤p.2.state∧p.2.state≤3∧p.2.done≤K
 cnt:∀ t,s.count t≤4
 small:s.Small
 ticks:s.ticks≤K
 len:s.txns.length≤12
 alive:∀ p∈s.holds,(s.txn p.1.1).state≠0
theorem SGood.mono {K K':Nat} {s:AShard} (h:SGood K s) (hK:K≤K'):SGood K' s :=
 ⟨h.once,λp hp=>by have:=h.txs p hp;omega,h.cnt,h.small,by have:=h.ticks;omega,h.len,h.alive⟩
theorem jGj {s:AShard} (t:Nat):(jA3 s.txns t=none∧s.txn t=⟨0,0,0⟩)∨∃ x,(t,x)∈s.txns∧s.txn t=x∧jA3 s.txns t=some x:=by
 unfold AShard.txn
 cases h:jA3 s.txns t with
 | none=>exact .inl ⟨rfl,rfl⟩
 | some x=>exact .inr ⟨x,jAh h,rfl,rfl⟩
theorem SGood.st {K:Nat} {s:AShard} (h:SGood K s) (t:Nat):(s.txn t).state≤3:=by
 rcases jGj (s:=s) t with ⟨-,e⟩ | ⟨x,hx,e,-⟩
 ·rw [e];decide
 ·rw [e];exact (h.txs _ hx).2.1
theorem SGood.done {K:Nat} {s:AShard} (h:SGood K s) (t:Nat):(s.txn t).done≤K:=by
 rcases jGj (s:=s) t with ⟨-,e⟩ | ⟨x,hx,e,-⟩
 ·rw [e];exact Nat.zero_le _
 ·rw [e];exact (h.txs _ hx).2.2
theorem jDg {K V:Type} [DecidableEq K] (l:List (K × V)) (k:K):(jAi l k).length≤l.length:=List.length_filter_le _ _
theorem jEf {K V:Type} [DecidableEq K] {l:List (K × V)} {k:K} {v:V} (h:(k,v)∈l):(jAi l k).length+1≤l.length:=by
 induction l with
 | nil=>cases h
 | cons p l ih =>
  by_cases e:p.1=k
  ·have:=jDg l k
   unfold jAi at this ⊢
   rw [List.filter_cons_of_neg (by simp [e])]
   simp;omega
  ·have hm:(k,v)∈l:=by
    rcases List.mem_cons.1 h with e2 | e2
    ·rw [← e2] at e;exact absurd rfl e
    ·exact e2
   have:=ih hm
   unfold jAi at this ⊢
   rw [List.filter_cons_of_pos (by simp [e])]
   simp;omega
theorem jRf (s:AShard) (t u:Nat) (x:ATxn):({ s with txns:=jAb s.txns t x }:AShard).txn u=if u=t then x else s.txn u:=by
 unfold AShard.txn
 simp only [jCq]
 split <;> rfl
theorem SGood.put {K:Nat} {s:AShard} (h:SGood K s) {t:Nat} {x:ATxn} (hx:1≤x.state∧x.state≤3∧x.done≤K) (hl:(s.txn t).state≠0∨s.txns.length<12):SGood K { s with txns:=jAb s.txns t x } where
 once:=⟨h.once.1,h.once.2.1.put t x,h.once.2.2⟩
 txs:=λp hp=>by
  rcases List.mem_cons.1 hp with e | e
  ·rw [e];exact hx
  ·exact h.txs p (List.mem_filter.1 e).1
 cnt:=h.cnt
 small:=h.small
 ticks:=h.ticks
 len:=by
  show (jAi s.txns t).length+1≤12
  rcases hl with hl | hl
  ·rcases jGj (s:=s) t with ⟨-,e⟩ | ⟨y,hy,-,-⟩
   ·rw [e] at hl;exact absurd rfl hl
   ·have:=jEf hy;have:=h.len;omega
  ·have:=jDg s.txns t;omega
 alive:=λp hp=>by
  have h1:=h.alive p hp
  rw [jRf]
  split
  ·omega
  ·exact h1
theorem jJw (s:AShard) (c:(Nat × ByteArray) × AGrip→Bool) (t:Nat):({ s with holds:=s.holds.filter c }:AShard).count t≤s.count t:=by
 unfold AShard.count
 simp only [List.filter_filter]
 exact (List.Sublist.filter _ (List.filter_sublist (p:=c) (l:=s.holds)) |> λh=>by
  rw [List.filter_filter] at h
  exact h.length_le)
theorem SGood.forget {K:Nat} {s:AShard} (h:SGood K s) (t:Nat):SGood K (s.forget t) where
 once:=⟨h.once.1,h.once.2.1.del t,List.Pairwise.filter _ h.once.2.2⟩
 txs:=λp hp=>h.txs p (List.mem_filter.1 hp).1
 cnt:=λu=>Nat.le_trans (jJw s _ u) (h.cnt u)
 small:=λp hp=>h.small p (List.mem_filter.1 hp).1
 ticks:=h.ticks
 len:=Nat.le_trans (jDg _ _) h.len
 alive:=λp hp=>by
  have:=(List.mem_filter.1 hp).2
  unfold jFp at this
  simp at this
  exact this
theorem SGood.vals {K:Nat} {s:AShard} (h:SGood K s) {vs:List (ByteArray × ByteArray)} (hv:Once1 vs):SGood K { s with vals:=vs }:=⟨⟨hv,h.once.2⟩,h.txs,h.cnt,h.small,h.ticks,h.len,h.alive⟩
theorem jQq {s:AShard} (t u:Nat) (k:ByteArray) (g:AGrip):({ s with holds:=jAb s.holds (t,k) g }:AShard).count u≤if (jA3 s.holds (t,k)).isSome=true∨u≠t then s.count u else s.count u+1:=by
 unfold AShard.count jAb
 simp only [List.filter_cons]
 have h1:((jAi s.holds (t,k)).filter λp=>decide (p.1.1=u)).length≤(s.holds.filter λp=>decide (p.1.1=u)).length:=(List.Sublist.filter _ List.filter_sublist).length_le
 by_cases hu:t=u
 ·rw [if_pos (by simpa using hu)]
  by_cases hs:(jA3 s.holds (t,k)).isSome=true
  ·rw [if_pos (.inl hs)]
   obtain ⟨v,hv⟩:=Option.isSome_iff_exists.1 hs
   have hm:((t,k),v)∈s.holds.filter λp=>decide (p.1.1=u):=List.mem_filter.2 ⟨jAh hv,by simpa using hu⟩
   have h2:=jEf hm
   have h3:(jAi (s.holds.filter λp=>decide (p.1.1=u)) (t,k))=(jAi s.holds (t,k)).filter λp=>decide (p.1.1=u):=by
    unfold jAi
    rw [List.filter_filter,List.filter_filter]
    congr 1
    funext p
    rw [Bool.and_comm]
   rw [h3] at h2
   simp only [List.length_cons]
   omega
  ·rw [if_neg (by rintro (h | h);exact hs h;exact h hu.symm)]
   simp only [List.length_cons]
   omega
 ·rw [if_neg (by simpa using hu)]
  split <;> omega
theorem SGood.take {K:Nat} {s:AShard} (h:SGood K s) {t:Nat} {k:ByteArray} {g:AGrip} (hs:jCj (k,g)) (h0:(s.txn t).state≠0) (hr:s.refuse2 t k=0):SGood K (s.take t k g):=by
 unfold AShard.take
 split
 ·refine ⟨⟨h.once.1,h.once.2.1,h.once.2.2.put _ _⟩,h.txs,λu=>?_,λp hp=>?_,h.ticks,h.len,λp hp=>?_⟩
  ·have h1:=jQq (s:=s) t u k g
   have h2:=h.cnt u
   split at h1
   ·omega
   ·rename_i hc
    have hut:u=t:=by
     apply Classical.byContradiction
     intro hne
     exact hc (.inr hne)
    subst hut
    have h3:(jA3 s.holds (u,k)).isSome=false:=by
     cases hh:(jA3 s.holds (u,k)).isSome
     ·rfl
     ·exact absurd (.inl hh) hc
    unfold AShard.refuse2 at hr
    by_cases h4:4≤s.count u
    ·rw [if_pos ⟨h3,h4⟩] at hr;cases hr
    ·omega
  ·rcases List.mem_cons.1 hp with e | e
   ·rw [e];exact hs
   ·exact h.small p (List.mem_filter.1 e).1
  ·rcases List.mem_cons.1 hp with e | e
   ·rw [e];exact h0
   ·exact h.alive p (List.mem_filter.1 e).1
 ·exact h
theorem SGood.operate {K:Nat} {s:AShard} (h:SGood K s) (t:Nat) (seq:Int) (k:ByteArray) (g:AGrip) (hg:g.way<256):SGood (K+1) (s.operate t seq k g).1:=by
 unfold AShard.operate
 split
 ·rename_i hr
  have hsm:=jFr hr
  have hr1:s.refuse1 t seq k g.val=0∧s.refuse2 t k=0:=by
   unfold AShard.refuse at hr
   split at hr
   ·rename_i h1;exact ⟨h1,hr⟩
   ·rename_i h1;exact absurd hr h1
  have hlen:(s.txn t).state≠0∨s.txns.length<12:=by
   by_cases h0:(s.txn t).state=0
   ·right
    have:=jDn s t seq k g.val hsm.1
    rcases this with ⟨a,-⟩ | ⟨a,-⟩ | ⟨-,-,-,-,-,a⟩
    ·exact absurd hr1.1 a
    ·rw [hr1.1] at a;cases a
    ·omega
   ·exact .inl h0
  have hd:=h.done t
  split
  ·exact (h.mono (Nat.le_succ K)).put ⟨by show 1≤2;decide,by show 2≤3;decide,by show (s.txn t).done≤K+1;omega⟩ hlen
  ·have h2:=(h.mono (Nat.le_succ K)).put (t:=t) (x:=⟨1,(s.txn t).done+1,s.ticks⟩) ⟨by show 1≤1;decide,by show 1≤3;decide,by show (s.txn t).done+1≤K+1;omega⟩ hlen
   exact h2.take ⟨hsm.2.1,hsm.2.2,hg⟩ (by rw [jRf,if_pos rfl];show 1≠0;decide) hr1.2
 ·exact h.mono (Nat.le_succ K)
theorem jVx (s:AShard) (t:Nat) (seq:Int) (k:ByteArray):(s.get t seq k).1=(s.operate t seq k ⟨0,ByteArray.empty⟩).1:=by
 unfold AShard.get
 split
 ·split <;> rfl
 ·rfl
theorem SGood.get {K:Nat} {s:AShard} (h:SGood K s) (t:Nat) (seq:Int) (k:ByteArray):SGood (K+1) (s.get t seq k).1:=by
 rw [jVx]
 exact h.operate t seq k _ dN
/-! ### Prepare,Commit,Abort -/
def AShard.wr (s:AShard) (t:Nat):Bool:=s.holds.any λp=>decide (p.1.1=t) && p.2.writes
def AShard.vote (s:AShard) (t:Nat):AShard × Nat :=
 if (s.txn t).state=3 then (s,2) else if (s.txn t).state=1 then (if s.wr t=true then ({ s with txns:=jAb s.txns t ⟨3,0,0⟩ },2) else (s.forget t,4)) else (s.forget t,3)
theorem jX7 {s:AShard} {t:Nat} {L:List (ByteArray × AGrip)} (hs:Once1 s.holds) (hL:Once1 L) (h:∀ k,jA3 L k=jA3 s.holds (t,k)):anyW L=s.wr t:=by
 rw [Bool.eq_iff_iff]
 unfold anyW AShard.wr
 rw [List.any_eq_true,List.any_eq_true]
 constructor
 ·rintro ⟨⟨k,g⟩,hm,hw⟩
  have:=jB6 hL hm
  rw [h] at this
  exact ⟨((t,k),g),jAh this,by simpa using hw⟩
 ·rintro ⟨⟨⟨u,k⟩,g⟩,hm,hw⟩
  simp at hw
  obtain ⟨rfl,hw⟩:=hw
  have:=jB6 hs hm
  rw [← h] at this
  exact ⟨(k,g),jAh this,hw⟩
theorem SGood.vote {K:Nat} {s:AShard} (h:SGood K s) (t:Nat):SGood K (s.vote t).1:=by
 unfold AShard.vote
 split
 ·exact h
 ·split
  ·rename_i h1
   split
   ·exact h.put ⟨by decide,by decide,Nat.zero_le _⟩ (.inl oE)
   ·exact h.forget t
  ·exact h.forget t
def appl (t:Nat) (vs:List (ByteArray × ByteArray)) (p:(Nat × ByteArray) × AGrip):List (ByteArray × ByteArray) :=
 if p.1.1=t then (if p.2.way=1 then jAb vs p.1.2 p.2.val else if p.2.way=2 then jAi vs p.1.2 else vs) else vs
def AShard.comm (s:AShard) (t:Nat):AShard:=AShard.forget { s with vals:=s.holds.foldl (appl t) s.vals } t
theorem jQh {t:Nat} {vs:List (ByteArray × ByteArray)} (h:Once1 vs) (p:(Nat × ByteArray) × AGrip):Once1 (appl t vs p):=by
 unfold appl
 split
 ·split
  ·exact h.put _ _
  ·split
   ·exact h.del _
   ·exact h
 ·exact h
theorem jE6 {t:Nat}:∀ (hs:List ((Nat × ByteArray) × AGrip)) (vs:List (ByteArray × ByteArray)),Once1 vs→Once1 (hs.foldl (appl t) vs)
 | [],_,h=>h
 | p :: hs,_,h=>jE6 hs _ (jQh h p)
theorem jQ1 {t:Nat} {vs:List (ByteArray × ByteArray)} (p:(Nat × ByteArray) × AGrip) (k:ByteArray):jA3 (appl t vs p) k=if p.1=(t,k) then jC9 (some p.2) (jA3 vs k) else jA3 vs k:=by
 obtain ⟨⟨u,j⟩,g⟩:=p
 unfold appl
 by_cases hu:u=t
 ·rw [if_pos hu]
  by_cases hj:j=k
  ·rw [hu,hj]
   rw [if_pos rfl]
   unfold jC9
   by_cases h1:g.way=1
   ·simp only [h1,if_true,jCq]
   ·by_cases h2:g.way=2
    ·simp only [if_neg h1,if_pos h2,jBq,if_true]
    ·simp only [h1,h2,if_false]
  ·rw [if_neg (show ¬ (u,j)=(t,k) from λh=>hj (Prod.mk.inj h).2)]
   have hk:¬ k=j:=λe=>hj e.symm
   by_cases h1:g.way=1
   ·simp only [h1,if_true,jCq,hk,if_false]
   ·by_cases h2:g.way=2
    ·simp only [if_neg h1,if_pos h2,jBq,if_neg hk]
    ·simp only [h1,h2,if_false]
 ·rw [if_neg hu,if_neg (show ¬ (u,j)=(t,k) from λh=>hu (Prod.mk.inj h).1)]
theorem jHm {t:Nat} (k:ByteArray):∀ (hs:List ((Nat × ByteArray) × AGrip)) (vs:List (ByteArray × ByteArray)),Once1 hs→jA3 (hs.foldl (appl t) vs) k=jC9 (jA3 hs (t,k)) (jA3 vs k)
 | [],vs,_=>rfl
 | p :: hs,vs,h=>by
  have h1:=List.pairwise_cons.1 h
  rw [List.foldl_cons,jHm k hs _ h1.2,jQ1]
  by_cases e:p.1=(t,k)
  ·have hn:jA3 hs (t,k)=none:=jCy.2 λq hq e2=>h1.1 q hq (e.trans e2.symm)
   rw [if_pos e,hn]
   have:jA3 (p :: hs) (t,k)=some p.2:=by unfold jA3;rw [List.find?_cons_of_pos (by simpa using e)];rfl
   rw [this]
   rfl
  ·rw [if_neg e]
   have:jA3 (p :: hs) (t,k)=jA3 hs (t,k):=by unfold jA3;rw [List.find?_cons_of_neg (by simpa using e)]
   rw [this]
theorem jHy {K V:Type} [DecidableEq K] {l:List (K × V)} (h:Once1 l):l.Nodup:=h.imp λh e=>h (by rw [e])
theorem jQc {K V:Type} [DecidableEq K] {l m:List (K × V)} (hl:Once1 l) (hm:Once1 m) (h:∀ k,jA3 l k=jA3 m k):l.Perm m :=
 (List.perm_ext_iff_of_nodup (jHy hl) (jHy hm)).2 λ⟨k,v⟩=>⟨λhx=>jAh (by rw [← h];exact jB6 hl hx),λhx=>jAh (by rw [h];exact jB6 hm hx)⟩
theorem MapAs.perm {P:Program} {K V:Type} [DecidableEq K] {kt:TypeId} {KR:KeyRep P K kt} {ER:ElRep V} {w:World} {b n:Nat} {l m:List (K × V)} (h:MapAs KR ER w b n l) (hp:l.Perm m) (hm:Once1 m):MapAs KR ER w b n m:=by
 obtain ⟨es,h1,h2,-,h4⟩:=h
 exact ⟨es,h1,h2.trans (hp.map _),hm,λp hq=>h4 p (hp.mem_iff.2 hq)⟩
theorem jHa {K:Nat} {w:World} {sp lg bV bT bH n t:Nat} {s s':AShard} (hg:SGood K s) (hc:jDi s s' t) (h:ShIn w sp lg bV bT bH n s'):ShIn w sp lg bV bT bH n (s.comm t):=by
 obtain ⟨vs,rfl,hv⟩:=hc
 have hp:MapAs KS ES w bV n (s.holds.foldl (appl t) s.vals):=by
  refine MapAs.perm h.vals (jQc ?_ (jE6 _ _ hg.once.1) λk=>?_) (jE6 _ _ hg.once.1)
  ·obtain ⟨es,-,-,h3,-⟩:=h.vals;exact h3
  ·show jA3 vs k=_
   rw [hv,jHm k _ _ hg.once.2.2]
 exact ⟨h.blk,hp,h.txns,h.holds,h.ne,h.ticks⟩
theorem SGood.comm {K:Nat} {s:AShard} (h:SGood K s) (t:Nat):SGood K (s.comm t):=(h.vals (jE6 _ _ h.once.1)).forget t
theorem SGood.entry {K:Nat} {s:AShard} (h:SGood K s) (t:Nat) {L:List (ByteArray × AGrip)} (h1:Once1 L) (h2:∀ k,jA3 L k=jA3 s.holds (t,k)):(str (be 8 t++jAp (jBt L))).size≤255:=by
 have hle:∀ (xs:List (ByteArray × AGrip)),(∀ x∈xs,jCj x)→(jAp xs).length≤xs.length*51:=by
  intro xs
  induction xs with
  | nil=>intro _;simp [jAp]
  | cons x xs ih =>
   intro hx
   have a:=jKl (hx x sE)
   have b:=ih λy hy=>hx y (by simp [hy])
   unfold jAp at *
   rw [List.flatMap_cons,List.length_append,List.length_cons]
   omega
 rw [jB1,List.length_append,jB3]
 have hc:=AShard.count_of (s:=s) (t:=t) (L:=L) h.once.2.2 h1 h2
 have h4:=h.cnt t
 have hl:(jBt L).length=L.length:=by unfold jBt;rw [List.length_map,jB5]
 have:=hle (jBt L) λx hx=>by
  have hm:=jB6 h1 (k:=x.1) (v:=x.2) (jJn h1 hx)
  rw [h2] at hm
  exact h.small _ (jAh hm)
 omega
end Go.Proofs.YtcalalndmcemiaaGreatDoor
