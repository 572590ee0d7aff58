import Derived.Test.YtcalalndmcemiaaGreatDoorC13
set_option maxHeartbeats 2000000
set_option maxRecDepth 100000
namespace Go.Proofs.YtcalalndmcemiaaGreatDoor
open Go.RowKit Go.Maps Tryz Sc
section
open Go.Shelf
theorem OM(n:Nat)(b:Nat)(w:World):
  CallsIn Fence.wide n prog 228 #[.map<|some b] w λe w'=>e=.returned (.func (.func 270) #[] #[.pointer<|some ⟨w.heap.size,0,none⟩])/\w'=w.alloc (.cells #[.map<|some b] 118):=by
 refine callsIn_of_wp func228 rfl trivial ?_ rfl;simp only[ntmps228,mB,zzr,mH,Nat.reduceAdd,Nat.reduceSub,mK,mL,nb,nU,n5,qC];gi_wp2;go_ret;exact⟨rfl,rfl⟩
theorem OO(n:Nat)(hn:1<=n)(l B b m:Nat)(L:List<|Nat×fe)(W:World)(J d:List Nat->World->Prop)(h:AbidesFrom W.heap.size J)
  (Y:∀p (x:Nat) W1,J p W1->p.length<L.length->YieldAt Fence.wide (n-1) prog l #[.int .u64 (x:Int)] W1 λe a=>
   (e=.returned (.bool true)/\J (p++[x]) a/\KeepsWalks W1 a)\/(e=.returned (.bool false)/\d (p++[x]) a))
  (A:W.cell? ⟨B,0,none⟩=some (.map<|some b)) (f:aO KU EX W b m L) (i:J [] W) :
  CallsIn Fence.wide n prog 270 #[.func (.yield l) #[] #[],.pointer<|some ⟨B,0,none⟩] W λe a=>(∃v,e=.returned v) /\
   ((∃y,y.Perm (L.map (·.1))/\J y a)\/(∃p,True/\d p a)):=by
 have o:Fence.wide.round=none:=rfl;have O:Fence.wide.fn 270:=trivial;have g:=af f;have H:=af h;clear f h;refine callsIn_of_wp func270 rfl O ?_ o;simp only[ntmps270,mB,zzr,mH,Nat.reduceAdd,Nat.reduceSub,mK,mL,nb,nU,n5,qC];gi_wp2_with (first
  |(gi_at_range;apply l7 rfl _ 118 128 rfl underlying118 b m L rfl g.out;intro w D z C)
  |gi_in)
 go_frame;have S:Hid (aY KU EX w b W.heap.size m L L/\J [] w):=⟨D,H.out [] W w none i z λr e=>by cases e⟩;clear D z
 gi_loopw [3] (λ_ wr=>∃rem ss,Hid<|aY KU EX wr b W.heap.size m L rem/\(ss++rem.map (·.1)).Perm (L.map (·.1))/\J ss wr)
  (λ_ wr=>wr.rangeLeft b W.heap.size)
 case atStart=>exact⟨L,[],S.1,bR,S.2⟩
 case round=>
  have⟨rem,ss,X⟩:=hrel;have Z:=X.1;gi_wp2_with (first
   |(gi_at_next;refine mR rfl _ rfl b W.heap.size m L rem rfl Z ?_ ?_)
   |gi_in)
  .intro dM;gi_wp2;go_end0;exact⟨⟨_,rfl⟩,.inl ⟨ss,by have:=X.2.1;rw[dM]at this;simpa using this,X.2.2⟩⟩
  .intro k v w2 hm kZ bU fc dT iU;have s:=H.out ss wr w2 (some W.heap.size) X.2.2 fc λr e=>by cases e;exact⟨zzc _,Z.iter⟩
   have u:(ss++[k]++(aT rem k).map (·.1)).Perm (L.map (·.1)):=by
    refine List.Perm.trans ?_ X.2.1;rw[zzx];exact(((yc Z.once hm).map (·.1)).symm).append_left ss
   have hlen:ss.length<L.length:=by
    have:=u.length_eq;simp at this;omega
   have⟨j,tmps,assign,body,q,R⟩:=Y ss k w2 s hlen;have N:=af<|zzb kZ<|zzb u bU
   change (Instr.entry _).run _ _=.ok (.tuple #[.int .u64 (k:Int),kO v]) _ at iU;clear dT Z kZ u bU hm fc s;gi_wp2;apply R.mono;rintro e c (⟨rfl,rP,kW⟩|⟨rfl,uX⟩)
   .obtain⟨kN,qg⟩:=N.1.walks kW;have t:Hid (aY KU EX c b W.heap.size m L (aT rem k)/\(ss++[k]++(aT rem k).map (·.1)).Perm (L.map (·.1))/\J (ss++[k]) c/\c.rangeLeft b W.heap.size<wr.rangeLeft b W.heap.size):=⟨kN,N.2.1,rP,by rw[qg];exact N.2.2⟩;clear kN qg kW rP
    gi_wp2;go_roundw;case rel=>exact⟨_,_,t.1,t.2.1,t.2.2.1⟩
    case measure=>exact t.2.2.2
   .gi_wp2;apply bodyPost_ret (results_none rfl _ _ _) rfl;exact⟨⟨_,rfl⟩,.inr ⟨_,trivial,uX⟩⟩
theorem Em(n:Nat)(hn:1<=n)(B b m:Nat)(L:List<|Nat×fe)(w:World)(M:B<w.heap.size)(R:w.cell? ⟨B,0,none⟩=some (.map<|some b))(e:aO KU EX w b m L):
  SeqStopsK Fence.wide n prog 270 #[.pointer<|some ⟨B,0,none⟩] (λx:Nat=>#[.int .u64 (x:Int)]) KeepsWalks (λs=>s.Perm<|L.map (·.1)) (λ_=>True) L.length w:=λl J a W h d _ Y c=>
 OO n hn l B b m L W J a d Y ((h.cell M).trans R) (e.fr (S:=[]) ⟨h.os,h.tape,h.output,h.size,λk f _=>h.block k f⟩ (by simp)) c
end
end Go.Proofs.YtcalalndmcemiaaGreatDoor
