import Derived.Test.YtejiankgafjppaaGreatDoorC32
import Derived.Test.YtejiankgafjppaaGreatDoorC36
import Derived.Test.YtejiankgafjppaaGreatDoorC38
namespace Go.Proofs.YtejiankgafjppaaGreatDoor
open Go.RowKit
open Sc
def ADisk.Con (d:ADisk):Prop:=d.pending.foldl doOp d.durable=d.now
def ADisk.Set (d:ADisk):Prop:=d.pending=[]∧d.durable=d.now
theorem ADisk.Set.con {d:ADisk} (h:d.Set):d.Con:=by unfold ADisk.Con;rw [h.1,h.2];rfl
theorem syncS {d:ADisk} {c:Nat} (h:d.Well c) (hc:c<1099511627776) (hd:d.Con):d.sync.1.Set:=by
 rw [syncE h hc]
 exact ⟨rfl,hd⟩
theorem tellX {d:ADisk} {c:Nat} {o:AOp} (h:d.Well c) (hc:c<1099511627776) (h1:2<o.kind→d.now o.name≠none) (h2:¬ (o.kind=4∧o.name=o.to)):d.tell o=({ d with left:=d.left - 1,full:=d.full - 1,now:=doOp d.now o,pending:=d.pending++[o] },0):=by
 unfold ADisk.tell
 simp only [writesE h hc]
 rw [if_neg (by omega),if_neg (by omega),if_neg (by rintro ⟨x,y⟩;exact h1 y x),if_neg h2]
theorem tellC {d:ADisk} {c:Nat} {o:AOp} (h:d.Well c) (hc:c<1099511627776) (h1:2<o.kind→d.now o.name≠none) (h2:¬ (o.kind=4∧o.name=o.to)) (hd:d.Con):(d.tell o).1.Con:=by
 rw [tellX h hc h1 h2]
 unfold ADisk.Con at hd ⊢
 simp only [List.foldl_append,List.foldl_cons,List.foldl_nil,hd]
/-! ### the files of a log -/
def segF:Nat→List (List Rec)→Files
 | _,[]=>fun _=>none
 | n,c :: cs=>(segF (n+c.length) cs).set (segName n) (some (str (encR c)))
def filesOf (fst:Nat) (cs:List (List Rec)):Files:=if fst=0 then segF 1 cs else (segF (fst+1) cs).set markNm (some (str (recBytes (fst+1) 0 [])))
theorem segF_none:∀ (cs:List (List Rec)) (n:Nat) (k:ByteArray),(∀ s∈starts n cs,k≠segName s)→segF n cs k=none
 | [],_,_,_=>rfl
 | c :: cs,n,k,h=>by
  rw [segF,Files.set_other _ _ (h n (by simp [starts]))]
  exact segF_none cs _ k (fun s hs=>h s (by simp [starts,hs]))
theorem segF_some:∀ (cs:List (List Rec)) (n s:Nat),s∈starts n cs→segF n cs (segName s)≠none
 | [],_,_,h=>by simp [starts] at h
 | c :: cs,n,s,h=>by
  rw [segF]
  unfold Files.set
  split
  ·simp
  ·rename_i hne
   simp only [starts,List.mem_cons] at h
   rcases h with rfl | h
   ·exact absurd rfl hne
   ·exact segF_some cs _ s h
theorem segF_snoc:∀ (cs:List (List Rec)) (n:Nat) (c:List Rec),(∀ b∈cs,b≠[])→segF n (cs++[c])=(segF n cs).set (segName (n+cs.flatten.length)) (some (str (encR c)))
 | [],n,c,_=>by simp [segF]
 | b :: cs,n,c,h=>by
  have hb:0<b.length:=List.length_pos_iff.2 (h b (by simp))
  rw [List.cons_append,segF,segF_snoc cs _ c (fun x hx=>h x (by simp [hx])),segF]
  funext k
  have hne:segName n≠segName (n+b.length+cs.flatten.length):=fun e=>by have:=segName_inj e;omega
  have he:n+b.length+cs.flatten.length=n+(b :: cs).flatten.length:=by simp;omega
  rw [he] at hne ⊢
  unfold Files.set
  by_cases h1:k=segName n
  ·subst h1;rw [if_pos rfl,if_neg hne,if_pos rfl]
  ·simp [h1]
theorem Files.set_set (m:Files) (k:ByteArray) (a b:Option ByteArray):(m.set k a).set k b=m.set k b:=by
 funext x;unfold Files.set;by_cases h:x=k <;> simp [h]
theorem starts_inj:∀ (a b:List (List Rec)) (n:Nat),starts n a=starts n b→a.flatten=b.flatten→a=b
 | [],[],_,_,_=>rfl
 | [],c :: b,n,h,_=>by simp [starts] at h
 | c :: a,[],n,h,_=>by simp [starts] at h
 | [c],[c'],n,_,h=>by simpa using h
 | [c],c' :: y :: b,n,h,_=>by simp [starts] at h
 | c :: x :: a,[c'],n,h,_=>by simp [starts] at h
 | c :: x :: a,c' :: y :: b,n,h,hf=>by
  simp only [starts,List.cons.injEq,true_and] at h
  have hl:c.length=c'.length:=by omega
  have hf':c++(x :: a).flatten=c'++(y :: b).flatten:=by simpa using hf
  obtain ⟨e1,e2⟩:=List.append_inj hf' hl
  subst e1
  rw [starts_inj (x :: a) (y :: b) (n+c.length) (by simp only [starts,List.cons.injEq,true_and];exact h.2) e2]
/-! ### what Append and Cut come to -/
section
variable {l:ALog} {d:ADisk} {fst c:Nat} {cs:List (List Rec)}
theorem LogOk.app1 (h:LogOk l d fst cs) (hw:d.Well c) (hc:c+2<1099511627776) (kind:Nat) (s:ByteArray) (hs:s.size≤255) (hf:l.filled<600) :
  l.append d kind s=({ l with filled:=l.filled+(15+s.size),recs:=l.recs++[⟨l.next,kind,bytesOf s⟩],next:=l.next+1 },(d.tell ⟨2,segName (l.segs.getLastD 0),ByteArray.empty,str (recBytes l.next kind (bytesOf s))⟩).1,l.next,0):=by
 obtain ⟨by_,hby⟩:∃ b,b=recBytes l.next kind (bytesOf s):=⟨_,rfl⟩
 obtain ⟨a1,a2,a3⟩:=tellW (d:=d) (o:=⟨2,segName (l.segs.getLastD 0),ByteArray.empty,str by_⟩) hw (by omega) (by simp) (by simp)
 have hroom:l.room d=(l,d,0):=by unfold ALog.room;rw [if_pos hf]
 have hput:l.put d by_=(l,(d.tell ⟨2,segName (l.segs.getLastD 0),ByteArray.empty,str by_⟩).1,0):=by
  unfold ALog.put;rw [hroom];simp only [if_true];rw [a1]
 have hwr:l.wr d (l.put d by_)=(l,(d.tell ⟨2,segName (l.segs.getLastD 0),ByteArray.empty,str by_⟩).1,0):=by
  unfold ALog.wr;rw [if_pos h.fail,hput];simp only [h.fail.symm]
 unfold ALog.append;rw [if_neg (by omega),← hby,hwr];simp
theorem LogOk.app2 (h:LogOk l d fst cs) (hw:d.Well c) (hc:c+2<1099511627776) (kind:Nat) (s:ByteArray) (hs:s.size≤255) (hf:¬ l.filled<600) :
  l.append d kind s=({ l with durable:=l.next,segs:=l.segs++[l.next],filled:=0+(15+s.size),recs:=l.recs++[⟨l.next,kind,bytesOf s⟩],next:=l.next+1 },(d.sync.1.tell ⟨2,segName l.next,ByteArray.empty,str (recBytes l.next kind (bytesOf s))⟩).1,l.next,0):=by
 obtain ⟨by_,hby⟩:∃ b,b=recBytes l.next kind (bytesOf s):=⟨_,rfl⟩
 have hs1:=h.syncs hw (by omega)
 obtain ⟨s1,s2,s3⟩:=syncW hw (by omega)
 obtain ⟨a1,a2,a3⟩:=tellW (d:=d.sync.1) (o:=⟨2,segName l.next,ByteArray.empty,str by_⟩) s2 (by omega) (by simp) (by simp)
 have hroom:l.room d=({ l with durable:=l.next,segs:=l.segs++[l.next],filled:=0 },d.sync.1,0):=by
  unfold ALog.room;rw [if_neg hf,hs1];simp
 have hput:l.put d by_=({ l with durable:=l.next,segs:=l.segs++[l.next],filled:=0 },(d.sync.1.tell ⟨2,segName l.next,ByteArray.empty,str by_⟩).1,0):=by
  unfold ALog.put;rw [hroom];simp only [if_true]
  rw [show (l.segs++[l.next]).getLastD 0=l.next by simp,a1]
 have hwr:l.wr d (l.put d by_)=({ l with durable:=l.next,segs:=l.segs++[l.next],filled:=0 },(d.sync.1.tell ⟨2,segName l.next,ByteArray.empty,str by_⟩).1,0):=by
  unfold ALog.wr;rw [if_pos h.fail,hput];simp only [h.fail.symm]
 unfold ALog.append;rw [if_neg (by omega),← hby,hwr];simp
end
structure Mu (l:ALog) (d:ADisk) (fst:Nat) (cs:List (List Rec)):Prop where
 ok:LogOk l d fst cs
 now:d.now=filesOf fst cs
 con:d.Con
 dur:l.durable≤l.next
 fine:∀ r∈cs.flatten,r.kind<256∧r.pay.length≤255∧Byt r.pay
section
variable {l:ALog} {d:ADisk} {fst c:Nat} {cs:List (List Rec)}
theorem filesOf_seg (fst:Nat) (cs:List (List Rec)) (s:Nat):filesOf fst cs (segName s)=segF (fst+1) cs (segName s):=by
 unfold filesOf
 split
 ·rename_i h;rw [h]
 ·exact Files.set_other _ _ (segName_mark s).1
theorem filesOf_set (fst:Nat) (cs cs':List (List Rec)) (s:Nat) (v:Option ByteArray) (h:segF (fst+1) cs'=(segF (fst+1) cs).set (segName s) v):filesOf fst cs'=(filesOf fst cs).set (segName s) v:=by
 unfold filesOf
 split
 ·rename_i e;rw [e] at h;exact h
 ·rw [h]
  funext k
  unfold Files.set
  by_cases h1:k=markNm
  ·simp [h1,(segName_mark s).1.symm]
  ·simp [h1]
theorem Mu.append (h:Mu l d fst cs) (hw:d.Well c) (hc:c+2<1099511627776) (kind:Nat) (s:ByteArray) (hs:s.size≤255) (hk:kind<256) :
  (l.append d kind s).2.2.1=l.next∧(l.append d kind s).2.2.2=0∧(l.append d kind s).2.1.Well (c+2)∧(l.append d kind s).1.next=l.next+1∧(l.append d kind s).1.durable≤l.next ∧
   ∃ cs',Mu (l.append d kind s).1 (l.append d kind s).2.1 fst cs'∧cs'.flatten=cs.flatten++[⟨l.next,kind,bytesOf s⟩]∧cs'.length≤cs.length+1:=by
 have hA:=h.ok.append hw hc kind s hs
 obtain ⟨cs',hL,hfl⟩:=hA.log
 have hfine:∀ r∈cs'.flatten,r.kind<256∧r.pay.length≤255∧Byt r.pay:=by
  intro r hr
  rw [hfl] at hr
  rcases List.mem_append.1 hr with hr | hr
  ·exact h.fine r hr
  ·simp at hr;subst hr;exact ⟨hk,by rw [bytesOf_len];exact hs,bytesOf_byt s⟩
 have hnx:=h.ok.next
 refine ⟨hA.ret.1,hA.ret.2,hA.well,?_,?_,cs',?_,hfl,?_⟩
 ·rw [hL.next,hfl,hnx];simp;omega
 ·by_cases hf:l.filled<600
  ·rw [h.ok.app1 hw hc kind s hs hf];exact h.dur
  ·rw [h.ok.app2 hw hc kind s hs hf];exact Nat.le_refl _
 ·by_cases hf:l.filled<600
  ·have e:=h.ok.app1 hw hc kind s hs hf
   obtain ⟨ds,cl,rfl⟩:=h.ok.last hf
   have hlast:l.segs.getLastD 0=fst+1+ds.flatten.length:=by rw [h.ok.segs,starts_snoc];simp
   have hne:∀ b∈ds,b≠[]:=fun b hb=>h.ok.ne b (by simp [hb])
   have ecs:cs'=ds++[cl++[⟨l.next,kind,bytesOf s⟩]]:=by
    refine starts_inj _ _ (fst+1) ?_ (by rw [hfl,flat_snoc,flat_snoc,List.append_assoc])
    rw [← hL.segs,e,starts_set ds (fst+1) _ cl]
    exact h.ok.segs
   obtain ⟨a1,a2,a3⟩:=tellW (d:=d) (o:=⟨2,segName (l.segs.getLastD 0),ByteArray.empty,str (recBytes l.next kind (bytesOf s))⟩) hw (by omega) (by simp) (by simp)
   refine { ok:=hL,now:=?_,con:=?_,dur:=?_,fine:=hfine }
   ·rw [e]
    show (d.tell _).1.now=_
    rw [a3,doOp_app,hlast]
    rw [ecs]
    obtain ⟨x,hx⟩:∃ x:Rec,x=⟨l.next,kind,bytesOf s⟩:=⟨_,rfl⟩
    rw [← hx]
    have ex:str (recBytes l.next kind (bytesOf s))=str (recBytes x.lsn x.kind x.pay):=by rw [hx]
    rw [filesOf_set fst (ds++[cl]) (ds++[cl++[x]]) (fst+1+ds.flatten.length) (some (str (encR (cl++[x])))) (by
     rw [segF_snoc ds _ _ hne,segF_snoc ds _ _ hne,Files.set_set]),← h.now,ex]
    congr 2
    have:d.now (segName (fst+1+ds.flatten.length))=some (str (encR cl)):=by
     rw [h.now,filesOf_seg,segF_snoc ds _ _ hne,Files.set_same]
    rw [this,encR_snoc,str_app]
    rfl
   ·rw [e]
    exact tellC hw (by omega) (by simp) (by simp) h.con
   ·rw [e];have:=h.dur;simp;omega
  ·have e:=h.ok.app2 hw hc kind s hs hf
   obtain ⟨s1,s2,s3⟩:=syncW hw (by omega)
   have s4:=(syncS hw (by omega) h.con).con
   have hne:=h.ok.ne
   have ecs:cs'=cs++[[⟨l.next,kind,bytesOf s⟩]]:=by
    refine starts_inj _ _ (fst+1) ?_ (by rw [hfl,flat_snoc])
    rw [← hL.segs,e,starts_snoc,← h.ok.segs]
    show l.segs++[l.next]=_
    rw [hnx];congr 2;omega
   obtain ⟨a1,a2,a3⟩:=tellW (d:=d.sync.1) (o:=⟨2,segName l.next,ByteArray.empty,str (recBytes l.next kind (bytesOf s))⟩) s2 (by omega) (by simp) (by simp)
   have hnx':l.next=fst+1+cs.flatten.length:=by omega
   refine { ok:=hL,now:=?_,con:=?_,dur:=?_,fine:=hfine }
   ·rw [e]
    show (d.sync.1.tell _).1.now=_
    rw [a3,doOp_app,s3]
    rw [ecs]
    obtain ⟨x,hx⟩:∃ x:Rec,x=⟨l.next,kind,bytesOf s⟩:=⟨_,rfl⟩
    rw [← hx]
    have ex:str (recBytes l.next kind (bytesOf s))=str (recBytes x.lsn x.kind x.pay):=by rw [hx]
    rw [filesOf_set fst cs (cs++[[x]]) l.next (some (str (encR [x]))) (by
     rw [segF_snoc cs _ _ hne,← hnx']),← h.now,ex]
    congr 2
    have:d.now (segName l.next)=none:=by
     rw [h.now,filesOf_seg]
     refine segF_none cs _ _ (fun x hx e=>?_)
     have e2:=segName_inj e
     subst e2
     rw [hnx'] at hx
     have:∀ (a:List (List Rec)) (n:Nat),(∀ b∈a,b≠[])→∀ x∈starts n a,x<n+a.flatten.length:=by
      intro a
      induction a with
      | nil=>intro n _ x hx;simp [starts] at hx
      | cons b a ih =>
       intro n hb x hx
       have h0:0<b.length:=List.length_pos_iff.2 (hb b (by simp))
       simp only [starts,List.mem_cons] at hx
       rcases hx with rfl | hx
       ·simp;omega
       ·have:=ih (n+b.length) (fun y hy=>hb y (by simp [hy])) x hx
        simp;simp at this;omega
     have:=this cs (fst+1) hne _ hx
     omega
    rw [this]
    simp [encR]
   ·rw [e]
    exact tellC s2 (by omega) (by simp) (by simp) s4
   ·rw [e];simp
 ·have hl2:cs'.length=(l.append d kind s).1.segs.length:=by rw [hL.segs,starts_len]
  have hl1:cs.length=l.segs.length:=by rw [h.ok.segs,starts_len]
  rw [hl2,hl1]
  by_cases hf:l.filled<600
  ·rw [h.ok.app1 hw hc kind s hs hf];exact Nat.le_succ _
  ·rw [h.ok.app2 hw hc kind s hs hf];simp
theorem Mu.note (h:Mu l d fst cs) (hw:d.Well c) (hc:c+2<1099511627776) (kind:Nat) (s:ByteArray) (hs:s.size≤255) (hk:kind<256) :
  (l.note d kind s).2.2=0∧(l.note d kind s).2.1.Well (c+2)∧(l.note d kind s).1.next=l.next+1∧(l.note d kind s).1.durable≤l.next∧∃ cs',Mu (l.note d kind s).1 (l.note d kind s).2.1 fst cs'∧cs'.flatten=cs.flatten++[⟨l.next,kind,bytesOf s⟩]∧cs'.length≤cs.length+1:=by
 obtain ⟨_,a2,a3,a4,a5,a6⟩:=h.append hw hc kind s hs hk
 exact ⟨a2,a3,a4,a5,a6⟩
theorem Mu.syncd (h:Mu l d fst cs) (hw:d.Well c) (hc:c<1099511627776):Mu { l with durable:=l.next } d.sync.1 fst cs∧d.sync.1.Set∧d.sync.1.Well (c+1):=by
 obtain ⟨s1,s2,s3⟩:=syncW hw hc
 have s4:=syncS hw hc h.con
 exact ⟨{ ok:=h.ok.synced hw hc _,now:=by rw [s3];exact h.now,con:=s4.con,dur:=Nat.le_refl _,fine:=h.fine },s4,s2⟩
theorem Mu.keep (h:Mu l d fst cs) (hw:d.Well c) (hc:c+3<1099511627776) (kind:Nat) (s:ByteArray) (hs:s.size≤255) (hk:kind<256) :
  (l.keep d kind s).2.2=0∧(l.keep d kind s).2.1.Well (c+3)∧(l.keep d kind s).2.1.Set∧(l.keep d kind s).1.next=l.next+1∧∃ cs',Mu (l.keep d kind s).1 (l.keep d kind s).2.1 fst cs'∧cs'.flatten=cs.flatten++[⟨l.next,kind,bytesOf s⟩]∧cs'.length≤cs.length+1:=by
 obtain ⟨a1,a2,a3,a4,cs',a5,a6,a7⟩:=h.note hw (by omega) kind s hs hk
 obtain ⟨b1,b2,b3⟩:=a5.syncd a2 (by omega)
 have e:l.keep d kind s=({ (l.note d kind s).1 with durable:=(l.note d kind s).1.next },(l.note d kind s).2.1.sync.1,0):=by
  unfold ALog.keep
  rw [if_pos a1]
  unfold ALog.force
  rw [if_neg (by omega),a5.ok.wrS a2 (by omega)]
 rw [e]
 exact ⟨rfl,b3,b2,a3,cs',b1,a6,a7⟩
end
end Go.Proofs.YtejiankgafjppaaGreatDoor
namespace Go.Proofs.YtejiankgafjppaaGreatDoor
open Go.RowKit Go.Maps Go.Shelf
open Sc
section
variable {l:ALog} {d:ADisk} {fst:Nat} {cs:List (List Rec)}
theorem Mu.jknob (h:Mu l d fst cs) (a b:Int):Mu l (d.knob a b) fst cs where
 ok:={ h.ok with files:=h.ok.files }
 now:=h.now
 con:=h.con
 dur:=h.dur
 fine:=h.fine
theorem jwell_knob (h:d.down=false):(d.knob (-1) (-1)).Well 0:=⟨h,by simp [ADisk.knob],by simp [ADisk.knob]⟩
end
abbrev jwellV:Value:=fallV (-1) (-1) 0 0
structure JWr [Inhabited Bs] (w w':World) (hp p cp gp bT lp bD bN m n jp mp k fst:Nat) (cv:Value) (cs:List Value) (S:List Nat) (R R':RCo):Prop where
 jin:∃ m' n' c' l' d' g',m'≤m+20∧n'≤n+3∧JIn w' hp p cp gp bT lp bD bN m' n' c' l' d' jp mp cv cs S R∧Mu l' d' fst g'∧d'.down=false∧Jd (k+1) c' R'
 fr:JFr w w'
 ref:∀ rp S0 R0,RkN w rp S0 R0→(∀ q∈S0,q∉rd cp w)→RkN w' rp S0 R0∧∀ q∈S0,q∉rd cp w'
section
variable [Inhabited Bs] (hp p cp gp bT lp bD bN m n jp mp k t fst:Nat) (c:ACo) (l:ALog) (d:ADisk) (cv:Value) (cs:List Value) (S:List Nat) (R:RCo) (g:List (List Rec)) (w:World)
abbrev JQ (m n k fst v0 x0:Nat) (R':RCo):Nat→Nat→ACo→ALog→ADisk→Nat→Nat→Prop:=fun v x s' l' d' m' n'=>v=v0∧x=x0∧Jd (k+1) s' R'∧(∃ g',Mu l' d' fst g')∧d'.down=false∧m'≤m+20∧n'≤n+3
theorem jq_ends {w w':World} {hp p cp gp bT lp bD bN m n jp mp k fst:Nat} {c:ACo} {l:ALog} {d:ADisk} {cv:Value} {cs:List Value} {S:List Nat} {R R':RCo} (h:JIn w hp p cp gp bT lp bD bN m n c l d jp mp cv cs S R) {m' n':Nat} {s':ACo} {l':ALog} {d':ADisk} (hJ:Jd (k+1) s' R') (hM:∃ g',Mu l' d' fst g') (hdn:d'.down=false) (hm:m'≤m+20) (hn:n'≤n+3) (hH:HCx w' B0 hp p cp gp bT lp bD bN m' n' s' l' (d'.knob (-1) (-1))) (hF:CFr cp bT lp p w w'):JWr w w' hp p cp gp bT lp bD bN m n jp mp k fst cv cs S R R':=by
 obtain ⟨g',hM⟩:=hM
 exact ⟨⟨m',n',s',l',_,g',hm,hn,h.cfr hH hF,hM.jknob _ _,hdn,hJ⟩,JFr.hostC h.host hF,fun rp S0 R0 hr ha=>hr.cfr h.host ha hF⟩
theorem jAbort (h:JIn w hp p cp gp bT lp bD bN m n c l d jp mp cv cs S R) (hmu:Mu l d fst g) (hdn:d.down=false) (hg:Jd k c R) (hm:m≤60000000) (hB:2≤(B0:Nat)) (hmet:Met w) (ht:t<18446744073709551616) :
  Calls Tryz.prog 98 #[.pointer (some ⟨hp,0,none⟩),.int .u64 (t:Int),jwellV] w fun e w'=>e=.returned (.int .i64 (R.abortE t:Int))∧JWr w w' hp p cp gp bT lp bD bN m n jp mp k fst cv cs S R (R.abort t):=by
 obtain ⟨hh,hs⟩:=h.host
 have hE:=hg.rel.abortE t
 have hlen:=abort_len hg.rel.parts t
 refine (hAbort_x B0 hp cp gp bT m lp p bD bN n t c l d (-1) (-1) 0 0 w (JQ m n k fst 0 (R.abortE t) (R.abort t)) hh hs hB hmet (fun w1 hs1 hf1=>?_)).mono ?_
 ·by_cases h0:(c.tx t).state=0
  ·rw [if_pos h0] at hE
   refine (coAbort_none B0 cp gp bT m t c w1 hs1.co ht h0).mono ?_
   rintro e w2 ⟨rfl,hf2⟩
   obtain ⟨hs2,hx2⟩:=hs1.new hf2
   rw [RCo.abort_no (by omega),hE]
   exact ⟨0,7,c,l,d.knob (-1) (-1),m,n,⟨rfl,rfl,hg.mono (by omega),⟨g,hmu.jknob _ _⟩,hdn,by omega,by omega⟩,rfl,hs2,hdn,hx2⟩
  ·rw [if_neg h0] at hE
   by_cases h6:(c.tx t).state=6
   ·rw [if_pos h6] at hE
    refine (coAbort_comm B0 cp gp bT m t c w1 hs1.co ht h6).mono ?_
    rintro e w2 ⟨rfl,hf2⟩
    obtain ⟨hs2,hx2⟩:=hs1.new hf2
    rw [RCo.abort_no (by omega),hE]
    exact ⟨0,4,c,l,d.knob (-1) (-1),m,n,⟨rfl,rfl,hg.mono (by omega),⟨g,hmu.jknob _ _⟩,hdn,by omega,by omega⟩,rfl,hs2,hdn,hx2⟩
   ·rw [if_neg h6] at hE
    refine (coAbort_yes B0 cp gp bT m t c w1 hs1.co ht h0 h6 (by omega)).mono ?_
    rintro e w2 ⟨rfl,hc2,hf2⟩
    obtain ⟨hs2,hx2⟩:=hs1.turn hc2 hf2
    rw [hE]
    exact ⟨0,0,_,l,d.knob (-1) (-1),m+10,n,⟨rfl,rfl,hg.step (hg.rel.abort hE) rfl rfl rfl hlen.2.2 hlen.1 hlen.2.1,⟨g,hmu.jknob _ _⟩,hdn,by omega,by omega⟩,rfl,hs2,hdn,hx2⟩
 ·rintro e w' ⟨v,x,s',l',d',m',n',⟨rfl,rfl,hJ,hM,hdn',hm',hn'⟩,rfl,hH,hF⟩
  exact ⟨rfl,jq_ends h hJ hM hdn' hm' hn' hH hF⟩
theorem jBegin_many (h:JIn w hp p cp gp bT lp bD bN m n c l d jp mp cv cs S R) (hmu:Mu l d fst g) (hdn:d.down=false) (hg:Jd k c R) (hl:R.deals.length=12) (hB:2≤(B0:Nat)) (hmet:Met w) :
  Calls Tryz.prog 161 #[.pointer (some ⟨hp,0,none⟩),jwellV] w fun e w'=>e=.returned (.tuple #[.int .u64 0,.int .i64 5])∧JWr w w' hp p cp gp bT lp bD bN m n jp mp k fst cv cs S R R:=by
 obtain ⟨hh,hs⟩:=h.host
 have hle:=hg.rel.len_eq
 refine (hBegin_x B0 hp cp gp bT m lp p bD bN n c l d (-1) (-1) 0 0 w (JQ m n k fst 0 5 R) hh hs hB hmet (fun w1 hs1 hf1=>?_)).mono ?_
 ·refine (begin_many B0 cp gp bT m c w1 hs1.co hs1.gp1 (by omega)).mono ?_
  rintro e w2 ⟨rfl,hf2⟩
  obtain ⟨hs2,hx2⟩:=hs1.new hf2
  exact ⟨0,5,c,l,d.knob (-1) (-1),m,n,⟨rfl,rfl,hg.mono (by omega),⟨g,hmu.jknob _ _⟩,hdn,by omega,by omega⟩,rfl,hs2,hdn,hx2⟩
 ·rintro e w' ⟨v,x,s',l',d',m',n',⟨rfl,rfl,hJ,hM,hdn',hm',hn'⟩,rfl,hH,hF⟩
  exact ⟨rfl,jq_ends h hJ hM hdn' hm' hn' hH hF⟩
theorem jBegin (h:JIn w hp p cp gp bT lp bD bN m n c l d jp mp cv cs S R) (hmu:Mu l d fst g) (hdn:d.down=false) (hg:Jd k c R) (hl:R.deals.length<12) (hk:k≤1000000) (hm:m≤60000000) (hn:n≤60000000) (hB:2≤(B0:Nat)) (hmet:Met w) (hpow:Pows w) :
  Calls Tryz.prog 161 #[.pointer (some ⟨hp,0,none⟩),jwellV] w fun e w'=>e=.returned (.tuple #[.int .u64 (R.next:Int),.int .i64 0])∧JWr w w' hp p cp gp bT lp bD bN m n jp mp k fst cv cs S R { R with deals:=R.deals++[⟨R.next,4,0,[]⟩],next:=R.next+1 }:=by
 obtain ⟨hh,hs⟩:=h.host
 have hle:=hg.rel.len_eq
 have hnx:=hg.nxt
 have hli:=hg.lim
 have hnr:=hg.rel.next
 refine (hBegin_x B0 hp cp gp bT m lp p bD bN n c l d (-1) (-1) 0 0 w (JQ m n k fst R.next 0 { R with deals:=R.deals++[⟨R.next,4,0,[]⟩],next:=R.next+1 }) hh hs hB hmet (fun w1 hs1 hf1=>?_)).mono ?_
 ·by_cases hx:c.next=c.limit
  ·obtain ⟨k1,k2,k3,k4,g',k5,k6,k7⟩:=(hmu.jknob (-1) (-1)).keep (jwell_knob hdn) (by omega) 1 (str (be 8 (c.limit+16))) (by rw [str_size,be_len];decide) (by omega)
   refine (begin_any B0 cp gp bT m lp p bD bN n c l _ w1 hs1 (by omega) hx (by omega) (by omega) (by omega) hB hmu.ok.segsNe ((hf1.hfr hs).pows hB hpow) k1).mono ?_
   rintro e w2 ⟨rfl,hs2,hx2⟩
   refine ⟨R.next,0,_,_,_,m+1,n+3,⟨rfl,rfl,hg.begin hl hx,⟨g',k5⟩,k2.up,by omega,by omega⟩,?_,hs2,k2.up,hx2⟩
   rw [← hnr,hx]
   rfl
  ·refine (begin_in B0 cp gp bT m c w1 hs1.co hs1.gp1 (by omega) hx (by omega) (by omega)).mono ?_
   rintro e w2 ⟨rfl,hc2,hf2⟩
   obtain ⟨hs2,hx2⟩:=hs1.turn hc2 hf2
   refine ⟨R.next,0,_,l,d.knob (-1) (-1),m+1,n,⟨rfl,rfl,hg.beginIn hl hx,⟨g,hmu.jknob _ _⟩,hdn,by omega,by omega⟩,?_,hs2,hdn,hx2⟩
   rw [← hnr]
   rfl
 ·rintro e w' ⟨v,x,s',l',d',m',n',⟨rfl,rfl,hJ,hM,hdn',hm',hn'⟩,rfl,hH,hF⟩
  exact ⟨rfl,jq_ends h hJ hM hdn' hm' hn' hH hF⟩
theorem jDone (z:Int) (h:JIn w hp p cp gp bT lp bD bN m n c l d jp mp cv cs S R) (hmu:Mu l d fst g) (hdn:d.down=false) (hg:Jd k c R) (hm:m≤60000000) (hn:n≤60000000) (hB:2≤(B0:Nat)) (hmet:Met w) (hpow:Pows w) (ht:t<18446744073709551616) :
  Calls Tryz.prog 107 #[.pointer (some ⟨hp,0,none⟩),.int .u64 (t:Int),.int .i64 z,jwellV] w fun e w'=>e=.returned (.int .i64 0)∧JWr w w' hp p cp gp bT lp bD bN m n jp mp k fst cv cs S R (R.done t z):=by
 obtain ⟨hh,hs⟩:=h.host
 have hlen:=done_len (R:=R) t z
 refine (hDone_x B0 hp cp gp bT m lp p bD bN n t z c l d (-1) (-1) 0 0 w (JQ m n k fst 0 0 (R.done t z)) hh hs hB hmet (fun w1 hs1 hf1=>?_)).mono ?_
 ·by_cases h6:(c.tx t).state=6
  ·by_cases h2:partAt (c.tx t) z=2
   ·obtain ⟨kk,rfl,hk9,hpt,hmo,hla⟩:=hg.rel.done h6 h2
    cases ha:((c.tx t).parts.set kk 5).any isToC with
    | true =>
     obtain ⟨_,hr⟩:=hmo ha
     refine (done_more B0 cp gp bT m t kk hk9 c w1 hs1.co ht h6 hpt ha (by omega)).mono ?_
     rintro e w2 ⟨rfl,hc2,hf2⟩
     obtain ⟨hs2,hx2⟩:=hs1.turn hc2 hf2
     exact ⟨0,0,_,l,d.knob (-1) (-1),m+1,n,⟨rfl,rfl,hg.step hr rfl rfl rfl hlen.2.2 (by rw [hlen.1];omega) (by rw [hlen.2.1];omega),⟨g,hmu.jknob _ _⟩,hdn,by omega,by omega⟩,rfl,hs2,hdn,hx2⟩
    | false =>
     obtain ⟨_,hr⟩:=hla ha
     obtain ⟨k1,k2,k3,k4,g',k5,k6,k7⟩:=(hmu.jknob (-1) (-1)).note (jwell_knob hdn) (by omega) 3 (str (be 8 t)) (by rw [str_size,be_len];decide) (by omega)
     refine (done_last B0 cp gp bT m lp p bD bN n t kk hk9 c l _ w1 hs1 ht h6 hpt ha (by omega) hB hmu.ok.segsNe ((hf1.hfr hs).pows hB hpow) k1).mono ?_
     rintro e w2 ⟨rfl,hs2,hx2⟩
     exact ⟨0,0,_,_,_,m,n+3,⟨rfl,rfl,hg.step hr rfl rfl rfl hlen.2.2 (by rw [hlen.1];omega) (by rw [hlen.2.1];omega),⟨g',k5⟩,k2.up,by omega,by omega⟩,rfl,hs2,k2.up,hx2⟩
   ·refine (done_nz B0 cp gp bT m t z c w1 hs1.co ht h6 h2).mono ?_
    rintro e w2 ⟨rfl,hf2⟩
    obtain ⟨hs2,hx2⟩:=hs1.new hf2
    rw [(hg.rel.done_nz h6 h2).1]
    exact ⟨0,0,c,l,d.knob (-1) (-1),m,n,⟨rfl,rfl,hg.mono (by omega),⟨g,hmu.jknob _ _⟩,hdn,by omega,by omega⟩,rfl,hs2,hdn,hx2⟩
  ·refine (done_st B0 cp gp bT m t z c w1 hs1.co ht h6).mono ?_
   rintro e w2 ⟨rfl,hf2⟩
   obtain ⟨hs2,hx2⟩:=hs1.new hf2
   rw [(hg.rel.done_st h6).1]
   exact ⟨0,0,c,l,d.knob (-1) (-1),m,n,⟨rfl,rfl,hg.mono (by omega),⟨g,hmu.jknob _ _⟩,hdn,by omega,by omega⟩,rfl,hs2,hdn,hx2⟩
 ·rintro e w' ⟨v,x,s',l',d',m',n',⟨rfl,rfl,hJ,hM,hdn',hm',hn'⟩,rfl,hH,hF⟩
  exact ⟨rfl,jq_ends h hJ hM hdn' hm' hn' hH hF⟩
theorem jVote (z v:Int) (h:JIn w hp p cp gp bT lp bD bN m n c l d jp mp cv cs S R) (hmu:Mu l d fst g) (hdn:d.down=false) (hg:Jd k c R) (hm:m≤60000000) (hn:n≤60000000) (hB:2≤(B0:Nat)) (hmet:Met w) (hpow:Pows w) (ht:t<18446744073709551616) :
  Calls Tryz.prog 102 #[.pointer (some ⟨hp,0,none⟩),.int .u64 (t:Int),.int .i64 z,.int .i64 v,jwellV] w fun e w'=>e=.returned (.int .i64 0)∧JWr w w' hp p cp gp bT lp bD bN m n jp mp k fst cv cs S R (R.vote t z v):=by
 obtain ⟨hh,hs⟩:=h.host
 have hlen:=vote_len hg.rel.parts t z v
 refine (hVote_x B0 hp cp gp bT m lp p bD bN n t z v c l d (-1) (-1) 0 0 w (JQ m n k fst 0 0 (R.vote t z v)) hh hs hB hmet (fun w1 hs1 hf1=>?_)).mono ?_
 ·by_cases hv:v=2∨v=3∨v=4
  ·obtain ⟨vn,rfl⟩:∃ vn:Nat,v=(vn:Int):=⟨v.toNat,by omega⟩
   have hvn:vn=2∨vn=3∨vn=4:=by omega
   by_cases h1:partAt (c.tx t) z=1
   ·obtain ⟨x,hx,h5,kk,q,rfl,hk9,hpf,hq0⟩:=hg.rel.aw_st h1
    obtain ⟨c3,cw,cn,cy⟩:=hg.rel.vote hx h5 hpf hq0 hvn
    have haw:(c.tx t).parts.getD kk 0=1:=by
     unfold partAt at h1
     rw [if_pos (by omega)] at h1
     simpa using h1
    have stp:∀ {c':ACo},CRel c' (R.vote t (kk:Int) (vn:Int))→c'.next=c.next→c'.limit=c.limit→c'.ticks=c.ticks→Jd (k+1) c' (R.vote t (kk:Int) (vn:Int)):=fun hr a1 a2 a3=>hg.step hr a1 a2 a3 hlen.2.2 hlen.1 hlen.2.1
    by_cases h3:vn=3
    ·refine (vote_no B0 cp gp bT m t kk vn h3 hk9 c w1 hs1.co ht haw (by omega)).mono ?_
     rintro e w2 ⟨rfl,hc2,hf2⟩
     obtain ⟨hs2,hx2⟩:=hs1.turn hc2 hf2
     exact ⟨0,0,_,l,d.knob (-1) (-1),m+11,n,⟨rfl,rfl,stp (c3 h3).1 rfl rfl rfl,⟨g,hmu.jknob _ _⟩,hdn,by omega,by omega⟩,rfl,hs2,hdn,hx2⟩
    ·have hv24:vn=2∨vn=4:=by omega
     cases ha:((c.tx t).parts.set kk vn).any isAw with
     | true =>
      refine (vote_wait B0 cp gp bT m t kk vn hv24 hk9 c w1 hs1.co ht haw ha (by omega)).mono ?_
      rintro e w2 ⟨rfl,hc2,hf2⟩
      obtain ⟨hs2,hx2⟩:=hs1.turn hc2 hf2
      exact ⟨0,0,_,l,d.knob (-1) (-1),m+1,n,⟨rfl,rfl,stp (cw h3 ha).1 rfl rfl rfl,⟨g,hmu.jknob _ _⟩,hdn,by omega,by omega⟩,rfl,hs2,hdn,hx2⟩
     | false =>
      have hok:ATx.Ok { c.tx t with parts:=(c.tx t).parts.set kk vn }:=set_ok (hs1.co.okT t) (by omega)
      cases hy:((c.tx t).parts.set kk vn).any hasY with
      | false =>
       refine (vote_last B0 cp gp bT m t kk vn hv24 hk9 c w1 hs1.co ht haw ha (fun w2=>CL w2 B0 cp gp bT (m+10) lp p bD bN n { c with txns:=alDel c.txns t,res:=c.res++[(t,5)] } l (d.knob (-1) (-1))∧CFr cp bT lp p w1 w2) fun W hW=>?_).mono ?_
       ·obtain ⟨hsW,hxW⟩:=hs1.new hW
        refine (ccommit_none B0 cp gp bT m t c _ hok hy W hsW.co ht (by omega)).mono ?_
        rintro e w2 ⟨rfl,hc2,hf2⟩
        obtain ⟨hs2,hx2⟩:=hsW.turn hc2 hf2
        exact ⟨rfl,hs2,hxW.trans hx2⟩
       ·rintro e w2 ⟨rfl,hs2,hx2⟩
        exact ⟨0,0,_,l,d.knob (-1) (-1),m+10,n,⟨rfl,rfl,stp (cn h3 ha hy).1 rfl rfl rfl,⟨g,hmu.jknob _ _⟩,hdn,by omega,by omega⟩,rfl,hs2,hdn,hx2⟩
      | true =>
       obtain ⟨k1,k2,k3,k4,g',k5,k6,k7⟩:=(hmu.jknob (-1) (-1)).keep (jwell_knob hdn) (by omega) 2 (str (be 8 t++meant hasY ((c.tx t).parts.set kk vn))) (by rw [str_size,List.length_append,be_len];have:=meant_len (q:=hasY) (ps:=(c.tx t).parts.set kk vn);omega) (by omega)
       refine (vote_last B0 cp gp bT m t kk vn hv24 hk9 c w1 hs1.co ht haw ha (fun w2=>CL w2 B0 cp gp bT (m+11) lp p bD bN (n+3) (c.comm t { c.tx t with parts:=(c.tx t).parts.set kk vn,state:=6 }) (l.keep (d.knob (-1) (-1)) 2 (str (be 8 t++meant hasY ((c.tx t).parts.set kk vn)))).1 (l.keep (d.knob (-1) (-1)) 2 (str (be 8 t++meant hasY ((c.tx t).parts.set kk vn)))).2.1∧CFr cp bT lp p w1 w2) fun W hW=>?_).mono ?_
       ·obtain ⟨hsW,hxW⟩:=hs1.new hW
        refine (ccommit_yes B0 cp gp bT m lp p bD bN n t c l _ _ hok hy W hsW ht (by omega) (by omega) hB hmu.ok.segsNe ((hxW.hfr hs1).pows hB ((hf1.hfr hs).pows hB hpow)) k1).mono ?_
        rintro e w2 ⟨rfl,hs2,hx2⟩
        exact ⟨rfl,hs2,hxW.trans hx2⟩
       ·rintro e w2 ⟨rfl,hs2,hx2⟩
        exact ⟨0,0,_,_,_,m+11,n+3,⟨rfl,rfl,stp (cy h3 ha hy).1 rfl rfl rfl,⟨g',k5⟩,k2.up,by omega,by omega⟩,rfl,hs2,k2.up,hx2⟩
   ·refine (vote_nz B0 cp gp bT m t vn z hvn c w1 hs1.co ht h1).mono ?_
    rintro e w2 ⟨rfl,hf2⟩
    obtain ⟨hs2,hx2⟩:=hs1.new hf2
    rw [hg.rel.vote_nz h1]
    exact ⟨0,0,c,l,d.knob (-1) (-1),m,n,⟨rfl,rfl,hg.mono (by omega),⟨g,hmu.jknob _ _⟩,hdn,by omega,by omega⟩,rfl,hs2,hdn,hx2⟩
  ·have h2:v≠2:=by omega
   have h3:v≠3:=by omega
   have h4:v≠4:=by omega
   refine (vote_x B0 cp gp bT m t z v h2 h3 h4 c w1 hs1.co ht).mono ?_
   rintro e w2 ⟨rfl,hf2⟩
   obtain ⟨hs2,hx2⟩:=hs1.new hf2
   rw [RCo.vote_x h2 h3 h4]
   exact ⟨0,0,c,l,d.knob (-1) (-1),m,n,⟨rfl,rfl,hg.mono (by omega),⟨g,hmu.jknob _ _⟩,hdn,by omega,by omega⟩,rfl,hs2,hdn,hx2⟩
 ·rintro e w' ⟨v,x,s',l',d',m',n',⟨rfl,rfl,hJ,hM,hdn',hm',hn'⟩,rfl,hH,hF⟩
  exact ⟨rfl,jq_ends h hJ hM hdn' hm' hn' hH hF⟩
def RCo.commits (R:RCo) (t:Nat) (zs:List Int):RCo:=if riseB 0 zs then R.commit t (zs.map Int.toNat) else R
omit [Inhabited Bs] in
theorem toNat_map (xs:List Nat):(xs.map fun x:Nat=>(x:Int)).map Int.toNat=xs:=by rw [List.map_map];exact List.map_id' xs
theorem jCommit (v:Value) (zs:List Int) (h:JIn w hp p cp gp bT lp bD bN m n c l d jp mp cv cs S R) (hmu:Mu l d fst g) (hdn:d.down=false) (hg:Jd k c R) (hm:m≤60000000) (hB:2≤(B0:Nat)) (hmet:Met w) (ht:t<18446744073709551616) (hlen:zs.length≤16384) (hz:∀ z∈zs,InI z) (hsrc:∀ W,CFr cp bT lp p w W→AppSrc W v zs.length (zsV zs)) :
  Calls Tryz.prog 96 #[.pointer (some ⟨hp,0,none⟩),.int .u64 (t:Int),v,jwellV] w fun e w'=>e=.returned (.int .i64 (R.commitE t zs:Int))∧JWr w w' hp p cp gp bT lp bD bN m n jp mp k fst cv cs S R (R.commits t zs):=by
 have hst:=hg.rel.status t
 refine (hCommit_x B0 hp p cp gp bT lp bD bN m n t v zs c l d (-1) (-1) 0 0 w (fun x s' m'=>x=R.commitE t zs∧Jd (k+1) s' (R.commits t zs)∧m'≤m+20) h.host hB hmet hdn hlen hz hsrc (fun w2 ao cap hc hx=>?_)).mono ?_
 ·cases hd:dealAt R.deals t with
  | none =>
   have eE:R.commitE t zs=7:=by unfold RCo.commitE;rw [hd]
   have eR:R.commits t zs=R:=by unfold RCo.commits RCo.commit;rw [dealAt_nix hd];simp
   rw [hd] at hst
   refine (cCommit_none B0 cp gp bT m t _ c w2 hc ht hst).mono ?_
   rintro e w3 ⟨rfl,rfl⟩
   rw [eE,eR]
   exact ⟨7,c,m,⟨rfl,hg.mono (by omega),by omega⟩,rfl,hc,(Fr.refl [] w3).r hc.lts.1 (by simp) (by simp)⟩
  | some x =>
   rw [hd] at hst
   simp only [Option.map_some,Option.getD_some] at hst
   have hok:=(hg.rel.ok x (dealAt_mem hd).1).1
   have eE:R.commitE t zs=if x.st=4 then (if riseB 0 zs then 0 else 6) else 4:=by unfold RCo.commitE;rw [hd]
   by_cases h4:x.st=4
   ·rw [if_pos h4] at eE
    cases hb:riseB 0 zs with
    | false =>
     rw [hb] at eE
     have eR:R.commits t zs=R:=by unfold RCo.commits;rw [hb];rfl
     refine (cCommit_shard B0 cp gp bT m t cap ao zs c w2 hc ht (by omega) hx (by omega) hb).mono ?_
     rintro e w3 ⟨rfl,rfl⟩
     rw [eE,eR]
     exact ⟨6,c,m,⟨rfl,hg.mono (by omega),by omega⟩,rfl,hc,(Fr.refl [] w3).r hc.lts.1 (by simp) (by simp)⟩
    | true =>
     rw [hb] at eE
     obtain ⟨xs,rfl,hr⟩:=riseB_rising hb
     have eR:R.commits t (xs.map fun x:Nat=>(x:Int))=R.commit t xs:=by unfold RCo.commits;rw [hb,toNat_map];rfl
     have hlx:=commit_len (R:=R) t hr.len
     obtain ⟨x0,hx0⟩:∃ x0,xs[0]?=some x0:=⟨_,List.getElem?_eq_getElem (List.length_pos_iff.2 hr.ne)⟩
     have hat:∀ (j y:Nat),xs[j]?=some y→(xs.map fun x:Nat=>(x:Int))[j]?=some (y:Int):=fun j y hy=>by rw [List.getElem?_map,hy];rfl
     obtain ⟨_,gz,rfl,_⟩:=hx 0 (x0:Int) (hat 0 x0 hx0)
     have hia:IntsAt w2 gz xs:=fun j y hy=>by
      obtain ⟨_,g2,e2,hcl⟩:=hx j (y:Int) (hat j y hy)
      simp only [Option.some.injEq,Addr.mk.injEq,and_true] at e2
      rw [e2];exact hcl
     rw [List.length_map]
     refine (cCommit_any B0 cp gp bT m t gz cap xs c w2 hc ht (by omega) hr hia (by omega)).mono ?_
     rintro e w3 ⟨rfl,hc3,hf3⟩
     rw [eE,eR]
     exact ⟨0,_,m+10,⟨rfl,hg.step (hg.rel.commit hd h4 hr) rfl rfl rfl hlx.2.2 hlx.1 (by rw [hlx.2.1];omega),by omega⟩,rfl,hc3,hf3⟩
   ·rw [if_neg h4] at eE
    have eR:R.commits t zs=R:=by
     unfold RCo.commits RCo.commit
     obtain ⟨i,i1,i2,i3⟩:=dealAt_ix hd
     rw [i1]
     simp only
     rw [i2]
     simp only
     rw [if_neg h4]
     simp
    have hs0:=hok.st
    refine (cCommit_state B0 cp gp bT m t _ c w2 hc ht (by omega) (by omega)).mono ?_
    rintro e w3 ⟨rfl,rfl⟩
    rw [eE,eR]
    exact ⟨4,c,m,⟨rfl,hg.mono (by omega),by omega⟩,rfl,hc,(Fr.refl [] w3).r hc.lts.1 (by simp) (by simp)⟩
 ·rintro e w' ⟨x,s',m',⟨rfl,hJ,hm'⟩,rfl,hH,hF⟩
  exact ⟨rfl,jq_ends h hJ ⟨g,hmu⟩ hdn hm' (by omega) hH hF⟩
end
end Go.Proofs.YtejiankgafjppaaGreatDoor
