import Derived.Test.YtcalalndmcemiaaGreatDoorC14
set_option maxHeartbeats 4000000
set_option maxRecDepth 100000
namespace Go.Proofs.YtcalalndmcemiaaGreatDoor
open Go.RowKit Go.Maps Tryz Sc
variable{segs:List Nat}{f k low s:Nat}
def ez(segs:List Nat)(low:Nat):Nat->Nat->Nat
 |0,k=>k
 |f+1,k=>match segs[k+1]? with
  |none=>k
  |some s=>if s<=low then ez segs low f (k+1) else k
def cb(segs:List Nat)(low:Nat):Nat:=ez segs low segs.length 0
theorem sB(h:segs.length<=k+1):ez segs low f k=k:=by
 cases f with
 |zero=>rfl
 |succ f=>unfold ez;rw[List.getElem?_eq_none h]
theorem sD(h:segs[k+1]?=some s)(hs:s<=low):ez segs low (f+1) k=ez segs low f (k+1):=by
 rw[ez,h];simp[hs]
theorem sF(h:segs[k+1]?=some s)(hs:¬s<=low):ez segs low f k=k:=by
 cases f with
 |zero=>rfl
 |succ f=>rw[ez,h];simp[hs]
theorem yf(B j p D v n z A low g o:Nat)(C E:Value)(l:au)(d:ah)(w:World)(h:aA w B j p D v C (.slice (some ⟨g,0,none⟩) l.segs.length o) E l d n z A):
  Calls prog 133 #[.pointer (some ⟨j,0,none⟩),.int .u64 (low:Int)] w λe w'=>e=.returned (.int .i64 (cb l.segs low:Nat))/\∃q,w'=w.drewN q:=by
 have c1:=ae h.blk 1;simp at c1;have x:=h.eB.1;have hn:=h.bq.hn;have I:=af h;obtain⟨S,b⟩:∃S,S=l.segs.length:=⟨_,rfl⟩;rw[<-b] at c1 x;have H:=af b.symm;clear h b
 go_enter func133,ntmps133
 go_wp2
 go_loopw [5] (λi wr=>∃k f:Nat,(k<=S)/\i=.int .i64 k/\k+f=S/\cb l.segs low=ez l.segs low f k/\∃q,wr=w.drewN q) (λi _=>S-(intOf i).toNat)
 case atStart=>exact⟨0,S,zzs _,rfl,by omega,by unfold cb;rw[H.out],0,rfl⟩
 case round =>
  obtain⟨k,f,G,rfl,J,r,q,c⟩:=hrel;have Q:=af c;have F:wr.cell? ⟨j,1,none⟩=some (.slice (some ⟨g,0,none⟩) S o):=by rw[c,World.cell?_drewN];exact c1
  have N:=af r;clear c r;have K:wrap64 ((k:Int)+1)=(k:Int)+1:=by unfold wrap64;omega
  have L:IntKind.i64.wrap ((k:Int)+1)=(k:Int)+1:=by rw[IntKind.wrap_i64];omega
  have M:(0:Int)<=(k:Int)+1:=by omega
  by_cases U:k+1<S
  .obtain⟨s,hs⟩:∃s,l.segs[k+1]?=some s:=⟨_,zzg (by rw[H.out];exact U)⟩;have u:=nP I.out.segs (k+1) s hs;have P:wr.cell? ⟨g,k+1,none⟩=some (.int .u64 (s:Int)):=by rw[Q.out,World.cell?_drewN];exact u
   have y:(k:Int)+1<(S:Int):=by omega
   have O:((k:Int)+1).toNat=k+1:=by omega
   have m:=af hs;clear hs u;by_cases t:s<=low
   .have j5:(s:Int)<=(low:Int):=by omega
    obtain⟨a,rfl⟩:∃a,f=a + 1:=⟨f-1,by omega⟩;go_wp2;refine⟨⟨k+1,a,by omega,rfl,by omega,?_,q,Q.out⟩,by simp[intOf];omega⟩;rw[N.out,sD m.out t]
   .have j5:¬(s:Int)<=(low:Int):=by omega
    go_wp2;go_ret;exact⟨by rw[N.out,sF m.out t];rfl,q,Q.out⟩
  .have y:¬(k:Int)+1<(S:Int):=by omega
   go_wp2;go_ret;exact⟨by rw[N.out,sB (by rw[H.out];omega)];rfl,q,Q.out⟩
theorem SD(B a p D N n b c S:Nat)(v s r:Value)(l:au)(d:ah)(w:World)(h:aA w B a p D N v s r l d n b c)(hn:n<=67108864)
  (G:w.heap[S]?=some (.cells #[.func (.func 121) #[.pointer<|some ⟨a,0,none⟩] #[]] 123)) :
  Calls prog 120 #[.slice (some ⟨S,0,none⟩) 1 1] w (kb B a p D N n [] (l.sync d) w):=by
 have z:=ae G 0;simp at z;have I:Hid (aA w B a p D N v s r l d n b c):=h;clear h;go_enter func120,ntmps120;go_wp2;apply wp_loop_rounds 2;rw[rounds_succ];go_wp2_with fail;apply(qW B a p D N n b c v s r l d w I.out hn).mono;rintro e g ⟨rfl,dY,eE⟩;have H:Hid (kb B a p D N n [] (l.sync d) w (.returned<|cf (l.sync d).2.2) g):=⟨rfl,dY,eE.x⟩;clear dY eE;by_cases f:(l.sync d).2.2=0
 .rw[f,bK]at H ⊢;go_wp2;rw[rounds_succ];go_wp2;go_ret;exact H.out
 .rw[aG f]at H ⊢;go_wp2;go_ret;exact H.out
theorem OS(B f p D N n j m S:Nat)(v s r:Value)(l:au)(d:ah)(w:World)(h:aA w B f p D N v s r l d n j m)(hn:n<=67108864)
  (G:w.heap[S]?=some (.cells #[.func (.func 121) #[.pointer<|some ⟨f,0,none⟩] #[]] 123)) :
  Calls prog 129 #[.pointer<|some ⟨f,0,none⟩,.slice (some ⟨S,0,none⟩) 1 1] w (kb B f p D N n [] (l.wr d<|l.sync d) w):=by
 have q:=ae h.blk 0;have g:=ae h.blk 6;simp at q g;have I:=af h;have M:=JC p;by_cases hf:l.failed=0
 .rw[hf,bK]at g;have e:l.wr d (l.sync d)=({(l.sync d).1 with failed:=(l.sync d).2.2},(l.sync d).2.1,(l.sync d).2.2):=by unfold au.wr;rw[if_pos hf]
  rw[e];clear e;go_enter func129,ntmps129;go_wp2_with fail;apply(SD B f p D N n j m S v s r l d w I.out hn G).mono;rintro e x ⟨rfl,⟨j9,qc,m_,lC,lu,dY⟩,eE⟩;have H:=af dY;have O:=af eE;have t:=ae dY.blk 6;have u:=aj dY.blk 6;simp at t;clear dY eE G h;by_cases i:(l.sync d).2.2=0
  .rw[i,bK];go_wp2;go_ret;obtain⟨a,Q⟩:=H.out.fail (c:=0) rfl;unfold kb;simp only;rw[i];exact⟨rfl,⟨j9,qc,m_,lC,lu,a⟩,O.out.trans<|H.out.Wn a Q (by intro k b _;simp at b;simp[b]) (bS.refl _ _) (bS.refl _ _)<|bS.refl _ _⟩
  .have he:=aG i;obtain⟨a,Q⟩:=H.out.fail (c:=(l.sync d).2.2) rfl;rw[he]at a Q ⊢;have o:=af a;clear a;go_wp2;go_ret;exact⟨by simp only;rw[he];rfl,⟨j9,qc,m_,lC,lu,o.out⟩,O.out.trans<|H.out.Wn o.out Q (by intro k b _;simp at b;simp[b]) (bS.refl _ _) (bS.refl _ _)<|bS.refl _ _⟩
 .rw[aG hf]at g;have e:l.wr d (l.sync d)=(l,d,l.failed):=by unfold au.wr;rw[if_neg hf]
  rw[e];go_enter func129,ntmps129;go_wp2;go_ret;exact⟨by simp only;rw[aG hf];rfl,⟨v,s,r,j,m,I.out⟩,(ku.refl _ _ _).x⟩
theorem Rv.zY{h p:Nat}{w w':World}(a:Rv [] h p w w'):ku h p w w':=⟨a.os,a.tape,a.output,a.size,λk b hn=>a.block k b hn bR,a.stay⟩
def au.force(l:au)(d:ah):au × ah × Nat:=if l.aZ=l.next then (l,d,0) else l.wr d (l.sync d)
def jQ(B l p D N n:Nat)(r:au × ah × Nat)(w:World)(e:Ending)(w':World):Prop :=
 e=.returned (cf r.2.2)/\(∃v s c a b,aA w' B l p D N v s c r.1 r.2.1 n a b)/\ku l p w w'
theorem Li(B a p D N n b c:Nat)(v s r:Value)(l:au)(d:ah)(w:World)(h:aA w B a p D N v s r l d n b c)(hn:n<=67108864):
  Calls prog 89 #[.pointer<|some ⟨a,0,none⟩] w (jQ B a p D N n (l.force d) w):=by
 have c4:=ae h.blk 4;have c5:=ae h.blk 5;simp at c4 c5;have I:Hid (aA w B a p D N v s r l d n b c):=h;clear h;by_cases q:l.aZ=l.next
 .have e:l.force d=(l,d,0):=by unfold au.force;rw[if_pos q]
  rw[e];rw[q]at c5;go_enter func89,ntmps89;go_wp2;go_region;go_wp2;go_ret;have hf:Fr [] w w.drew:=(lT w).drew;exact⟨rfl,⟨v,s,r,b,c,I.out.new hf⟩,I.out.uT hf⟩
 .have e:l.force d=l.wr d (l.sync d):=by unfold au.force;rw[if_neg q]
  rw[e];have i:¬(l.aZ:Int)=(l.next:Int):=bL;have g:((l.aZ:Int)==(l.next:Int))=false:=by simpa using i
  go_enter func89,ntmps89;go_wp2;go_region
  go_wp2_with fail;have hf:Fr [] w (w.drew.alloc<|.cells #[.func (.func 121) #[.pointer<|some ⟨a,0,none⟩] #[]] 123):=(lT w).drew.alloc _;apply(OS B a p D N n b c _ v s r l d _ (I.out.new hf) hn<|heap_alloc_new w.drew _).mono;rintro e f ⟨rfl,dY,eE⟩;have H:Hid (jQ B a p D N n (l.wr d<|l.sync d) w (.returned<|cf (l.wr d<|l.sync d).2.2) f):=⟨rfl,dY,(I.out.uT hf).trans eE.zY⟩;clear dY eE;go_wp2;go_ret;exact H.out
section
open Go.Shelf
variable{rs:List Rec}{n:Nat}{A B:World}
abbrev Es(r:Rec):Value:=.agg #[.int .u64 (r.oq:Int),.int .u8 (r.kind:Int),.string (str r.nH)]
def vd(W:World)(g:Nat)(rs:List Rec):Prop :=
 ∀k r,rs[k]?=some r->W.cell? ⟨g,k*3,none⟩=some (.int .u64 (r.oq:Int))/\W.cell? ⟨g,k*3+1,none⟩=some (.int .u8 (r.kind:Int))/\W.cell? ⟨g,k*3+2,none⟩=some (.string (str r.nH))
theorem vd.below{g:Nat}(h:Below n A B)(a:g<n)(c:vd A g rs):vd B g rs:=λk r b =>
 ⟨(h.cell (p:=⟨g,k*3,none⟩) a).trans (c k r b).1,(h.cell (p:=⟨g,k*3+1,none⟩) a).trans (c k r b).2.1,(h.cell (p:=⟨g,k*3+2,none⟩) a).trans (c k r b).2.2⟩
theorem lF{k:Nat}{r:Rec}(h:rs[k]?=some r):rs.take (k+1)=rs.take k++[r]:=by
 rw[List.take_add_one,h];rfl
theorem Et(F:Fence)(n:Nat)(b:F.fn 127)(o:F.round=none)(l B p:Nat)(J:List Rec->World->Prop)
  (W:World) (R:W.cell? ⟨B,0,none⟩=some (.pointer (some ⟨p,0,none⟩))) (c:W.cell? ⟨p,3,none⟩=some (.slice none 0 0)) (h:J [] W) :
  CallsIn F n prog 127 #[.func (.yield l) #[] #[],.pointer (some ⟨B,0,none⟩)] W λe a=>(∃v,e=.returned v)/\J [] a:=by
 refine callsIn_of_wp func127 rfl b ?_ o;simp only[ntmps127,List.size_toArray,zzr,List.length_nil,Nat.reduceAdd,Nat.reduceSub,Array.replicate_succ,Array.replicate_zero,List.push_toArray,List.append_toArray,List.nil_append,List.cons_append]
 gi_wp2
 gi_loopw [10] (λi wr=>i=.int .i64 0/\J [] wr) (λ_ _=>0)
 case atStart=>exact⟨rfl,h⟩
 case round =>
  obtain⟨rfl,s⟩:=hrel
  gi_wp2
  go_end0;exact⟨⟨_,rfl⟩,s⟩
theorem Hg(F:Fence)(n:Nat)(h:F.fn 85)(o:F.round=none)(p:Option Addr)(w:World):
  CallsIn F n prog 85 #[.pointer p] w λe w'=>e=.returned (.func (.func 127) #[] #[.pointer (some ⟨w.heap.size,0,none⟩)])/\w'=w.alloc (.cells #[.pointer p] 74):=by
 refine callsIn_of_wp func85 rfl h ?_ o;simp only[ntmps85,List.size_toArray,zzr,List.length_nil,Nat.reduceAdd,Nat.reduceSub,Array.replicate_succ,Array.replicate_zero,List.push_toArray,List.append_toArray,List.nil_append,List.cons_append]
 gi_wp2
 go_ret;exact⟨rfl,rfl⟩
def ve(n:Nat)(W:World)(v:Value)(rs:List Rec):Prop :=
 (v=.slice none 0 0/\rs=[])\/∃g p,v=.slice (some ⟨g,0,none⟩) rs.length p/\g<n/\vd W g rs
theorem ve.below{v:Value}(h:Below n A B)(r:ve n A v rs):ve n B v rs:=by
 rcases r with e|⟨g,cap,e,hg,r⟩
 .exact .inl e
 .exact .inr ⟨g,cap,e,hg,r.below h hg⟩
end
variable{B D N c g h m n p:Nat}{s v:Value}{w w':World}{d:ah}{l:au}
theorem EV:∀(rs:List Rec) (i:Nat) (h:i<rs.length),(eH rs)[i*3]?=some (.int .u64 (rs[i].oq:Int))/\(eH rs)[i*3+1]?=some (.int .u8 (rs[i].kind:Int))/\(eH rs)[i*3+2]?=some (.string (str rs[i].nH))
 |[],i,h=>absurd h (Nat.not_lt_zero _)
 |r :: rs,0,_=>⟨rfl,rfl,rfl⟩
 |r :: rs,i+1,h=>by
  have ih:=EV rs i (by simpa using h)
  have e:∀j,(eH (r :: rs))[(i+1)*3+j]?=(eH rs)[i*3+j]?:=λj=>by
   show(gB r++eH rs)[(i+1)*3+j]?=_;rw[List.getElem?_append_right (by simp[gB];omega)];congr 1;simp[gB];omega
  exact⟨(e 0).trans ih.1,(e 1).trans ih.2.1,(e 2).trans ih.2.2⟩
def Xq(w:World)(v:Value)(rs:List Rec):Prop :=
 ∃o p,v=.slice o rs.length p/\∀i (h:i<rs.length),∃g,o=some ⟨g,0,none⟩/\w.cell? ⟨g,i*3,none⟩=some (.int .u64 (rs[i].oq:Int))/\w.cell? ⟨g,i*3+1,none⟩=some (.int .u8 (rs[i].kind:Int))/\w.cell? ⟨g,i*3+2,none⟩=some (.string (str rs[i].nH))
theorem Hu{base:Nat}{rs:List Rec}(h:w.ownsRow base 110 3 v n (eH rs)):Xq w v rs:=by
 have l:rs.length=n:=by have:=h.1;rw[uQ] at this;omega
 rcases h.2 with⟨rfl,b⟩|⟨g,p,r,rfl,hb,m,rest⟩
 .exact⟨none,0,by rw[l,b],λi a=>by omega⟩
 .refine⟨_,p,by rw[l],λi a=>⟨g,rfl,?_⟩⟩
  have c:∀j u,(eH rs)[j]?=some u->w.cell? ⟨g,j,none⟩=some u:=λj u k=>by
   have:=h.cells (g:=g) rfl j u k
   simpa [Addr.add_lit] using this
  obtain⟨d,e,f⟩:=EV rs i a;exact⟨c _ _ d,c _ _ e,c _ _ f⟩
theorem aA.UX{i n' u z:Nat}{j m:Value}{c:ah}(a:aA w B h p D N j s v l d n g i)(f:ax w' B p D N m c n' u z)(hf:uC p w w')(hn:n<=n'):aA w' B h p D N m s v l c n' u z/\ku h p w w':=by
 have hb:=hf.block h (zza.1 a.blk).1 (a.bq.iF a.blk bM bM);refine⟨{bq:=f,blk:=hb.trans a.blk,base:=a.base,segs:=hf.row a.bq a.segs bM bM,recs:=hf.row a.bq a.recs bM bM,eB:=⟨by have:=a.eB.1;omega,a.eB.2⟩,gJ:=by have:=a.gJ;omega,km:=a.km,iC:=by have:=a.iC;omega,mZ:=a.mZ},?_⟩;refine⟨hf.os,hf.tape,hf.output,hf.size,λk b hn=>hf.block k b λo=>hn ?_,λk b o=>?_⟩
 .rcases o with e|e
  .exact .inr<|.inl e
  .exact .inr<|.inr<|.inr e
 .rcases o with e|e|e|e
  .exact .inl e
  .exact .inr<|.inl e
  .rw[hb]at e;exact .inr<|.inr<|.inl e
  .rcases hf.stay k b (.inr e)with e|e
   .exact .inr<|.inl e
   .exact .inr<|.inr<|.inr e
theorem uC.keep{f q:Nat}{c:Array Value}{t:TypeId}(hf:uC p w w')(h:ax w B p D N v d n f g)(a:w.heap[q]?=some (.cells c t (0,0)))(b:t≠96)(e:t≠182):w'.heap[q]?=some (.cells c t (0,0)):=
 (hf.block q (zza.1 a).1<|h.iF a b e).trans a
theorem OP(B a p D N n g i b f first:Nat)(k s v:Value)(l:au)(d:ah)(w:World)(h:aA w B a p D N k s v l d n g i)(hn:n+2<=67108864)(x:first<18446744073709551616)
  (T:w.heap[b]?=some (.cells #[.pointer<|some ⟨a,0,none⟩] 74)) (j:w.heap[f]?=some (.cells #[.int .u64 (first:Int)] 43)) :
  Calls prog 134 #[.pointer<|some ⟨b,0,none⟩,.pointer<|some ⟨f,0,none⟩] w λe w'=>e=.returned (cf (d.cL first).2)/\(∃o u z,aA w' B a p D N o s v l (d.cL first).1 (n+2) u z)/\ku a p w w':=by
 have r:=ae T 0;have y:=ae j 0;have m:=ae h.blk 0;simp at r y m;have I:=af h;have R:=af T;have F:=af j;clear h T j
 go_enter func134,ntmps134
 go_wp2
 go_region_held3 (λw'=>w'.cell? ⟨b,0,none⟩=some (.pointer<|some ⟨a,0,none⟩)/\w'.cell? ⟨a,0,none⟩=some (dX p)/\w'.cell? ⟨f,0,none⟩=some (.int .u64 (first:Int)))
  (simp[*])
  (first|(go_at_call 135;refine(Eo B p D N n g i first k d w.drew (I.out.bq.new (Fr.refl [] w).drew) hn x).mono ?_;rintro e c ⟨rfl,⟨j9,lC,lu,j_⟩,bh⟩;have q:=(I.out.new (Fr.refl [] w).drew).UX j_ bh bL;have t:c.cell? ⟨b,0,none⟩=some (.pointer<|some ⟨a,0,none⟩):=(ae (bh.keep (I.out.bq.new (lT w).drew) (show w.drew.heap[b]?=_ from R.out) bM bM) 0).trans bR;have c1:c.cell? ⟨a,0,none⟩=some (dX p):=(ae q.1.blk 0).trans bR;have A:c.cell? ⟨f,0,none⟩=some (.int .u64 (first:Int)):=(ae (bh.keep (I.out.bq.new (lT w).drew) (show w.drew.heap[f]?=_ from F.out) bM bM) 0).trans bR;have Q:Hid (aA c B a p D N j9 s v l (d.cL first).1 (n+2) lC lu/\ku a p w c):=⟨q.1,(I.out.uT (lT w).drew).trans q.2⟩;clear q j_ bh))
 all_goals go_wp2
 all_goals go_ret
 all_goals exact⟨rfl,⟨j9,lC,lu,Q.1⟩,Q.2⟩
theorem dZ{e:TypeId}{k:Nat}{xs:List Value}(h:w.ownsRow B e k v n xs)(hn:0<n):∃g p,v=.slice (some ⟨g,0,none⟩) n p:=by
 rcases h.2 with⟨_,a⟩|⟨g,p,r,rfl,_⟩
 .omega
 .exact⟨g,p,rfl⟩
theorem Hc{l:List Nat}(h:w.ownsRow B 43 1 (.slice (some ⟨g,0,none⟩) n c) n<|eI l)(hb:∀s∈l,s<18446744073709551616)(k x:Nat)(a:(l.take m)[k]?=some x):w.cell? ⟨g,0+k,none⟩=some (.int .u64 (x:Int))/\x<18446744073709551616:=by
 have b:l[k]?=some x:=by
  rw[List.getElem?_take]at a;split at a
  .exact a
  .cases a
 rw[Nat.zero_add];exact⟨nP h k x b,hb x<|zzh b⟩
theorem OQ(B a p D N n r t c b gone g s:Nat)(u v:Value)(l:au)(d:ah)(w:World)(h:aA w B a p D N u (.slice (some ⟨g,0,none⟩) l.segs.length s) v l d n r t)(hg:gone<=l.segs.length)(Z:0<gone)(hn:n+gone<=67108864)(hB:2<=B)(J:bI w)
  (T:w.heap[c]?=some (.cells #[.pointer<|some ⟨a,0,none⟩] 74)) (M:w.heap[b]?=some (.cells #[.int .i64 (gone:Int)] 3)) :
  Calls prog 136 #[.pointer<|some ⟨c,0,none⟩,.pointer<|some ⟨b,0,none⟩] w λe w'=>e=.returned (cf (d.removeAll<|(l.segs.take gone).map aN).2)/\(∃X uB uz,aA w' B a p D N X (.slice (some ⟨g,0,none⟩) l.segs.length s) v l (d.removeAll<|(l.segs.take gone).map aN).1 (n+gone) uB uz)/\ku a p w w':=by
 have A:=ae T 0;have C:=ae M 0;have k:=ae h.blk 0;have c1:=ae h.blk 1;simp at A C k c1
 have d_:l.segs.length<=s/\s<=maxLen:=by
  rcases h.segs.2 with⟨e,_⟩|⟨g',fR,a1,e,_,_,K,L,_⟩
  .cases e
  .cases e;exact⟨K,L⟩
 have U:c<w.heap.size/\b<w.heap.size/\a<w.heap.size/\g<w.heap.size/\1<w.heap.size:=⟨(zza.1 T).1,(zza.1 M).1,(zza.1 h.blk).1,(h.segs.lt g rfl).2,by have:=h.bq.base.2.2.2;omega⟩;have z:=h.eB;have Zd:=h.bq.hn;have i0:(0:Int)<=(gone:Int):=by omega
 have i1:(gone:Int)<=(s:Int):=by omega
 have I:=af h;have R:=af T;have H:=af M;have E:=af z;have W:(l.segs.take gone).length=gone:=by rw[zzm];omega
 have S:Hid (∀x∈(l.segs.take gone).map aN,x.size<=maxLen):=by
  intro x P;obtain⟨y,V,rfl⟩:=zzq.1 P;have:=oC y<|z.2 y<|List.mem_of_mem_take V;unfold maxLen;omega
 clear h T M z
 go_enter func136,ntmps136
 go_wp2
 go_region_held3 (λw'=>w'.cell? ⟨c,0,none⟩=some (.pointer<|some ⟨a,0,none⟩)/\w'.cell? ⟨a,0,none⟩=some (dX p)/\w'.cell? ⟨a,1,none⟩=some (.slice (some ⟨g,0,none⟩) l.segs.length s)/\w'.cell? ⟨b,0,none⟩=some (.int .i64 (gone:Int)))
  (simp[*])
  (first|(go_at_call 137;refine(Cl g 0 gone s (l.segs.take gone) w.drew W bL (Hc I.out.segs E.2) U.2.2.2.1 (show bI w.drew from J) U.2.2.2.2).mono ?_;rintro e i ⟨v1,rfl,yg,jH⟩;obtain⟨o,m,O⟩:=dZ yg Z;subst O;have G:Below w.heap.size w i:=⟨jH.os,jH.tape,jH.output,jH.size,jH.block⟩;have x1:=(G.cell (p:=⟨c,0,none⟩) U.1).trans A;have y1:=(G.cell (p:=⟨b,0,none⟩) U.2.1).trans C;have d0:=(G.cell (p:=⟨a,0,none⟩) U.2.2.1).trans k;have d1:=(G.cell (p:=⟨a,1,none⟩) U.2.2.1).trans c1;have j:Hid (Below w.heap.size w i):=G;have F:Hid (i.ownsRow w.drew.heap.size 9 1 (.slice (some ⟨o,0,none⟩) gone m) gone<|jO<|(l.segs.take gone).map aN):=yg;clear G jH yg)|(go_at_call 123;refine(ye B p D N n r t o gone m _ u d ((l.segs.take gone).map aN) i (I.out.bq.new<|Fr.aX j.out []) (by rw[zzn];exact W) hn F.out S.out).mono ?_;rintro e f ⟨rfl,⟨zE,AX,zZ,zD⟩,aQ⟩;have Y:=I.out.new<|Fr.aX j.out [];have q:=Y.UX zD aQ bL;have x2:f.cell? ⟨c,0,none⟩=some (.pointer<|some ⟨a,0,none⟩):=(ae (aQ.keep Y.bq ((j.out.block c U.1).trans R.out) bM bM) 0).trans bR;have y2:f.cell? ⟨b,0,none⟩=some (.int .i64 (gone:Int)):=(ae (aQ.keep Y.bq ((j.out.block b U.2.1).trans H.out) bM bM) 0).trans bR;have e0:f.cell? ⟨a,0,none⟩=some (dX p):=(ae q.1.blk 0).trans bR;have e1:f.cell? ⟨a,1,none⟩=some (.slice (some ⟨g,0,none⟩) l.segs.length s):=(ae q.1.blk 1).trans bR;have Q:Hid (aA f B a p D N zE (.slice (some ⟨g,0,none⟩) l.segs.length s) v l (d.removeAll<|(l.segs.take gone).map aN).1 (n+gone) AX zZ/\ku a p w f):=⟨q.1,(I.out.uT<|Fr.aX j.out []).trans q.2⟩;clear q Y zD aQ))
 all_goals go_wp2
 all_goals go_ret
 all_goals exact⟨by rw[List.map_take];rfl,⟨zE,AX,zZ,Q.1⟩,Q.2⟩
def au.lD(l:au)(d:ah)(gone first:Nat):au × ah × Nat :=
 if (l.sync d).2.2=0 then
  if ((l.sync d).2.1.cL first).2=0 then
   ((l.sync d).1,((l.sync d).2.1.cL first).1.removeAll ((l.segs.take gone).map aN))
  else ((l.sync d).1,(l.sync d).2.1.cL first)
 else l.sync d
def au.tQ(l:au)(d:ah)(gone first:Nat):Nat:=if (l.sync d).2.2=0 then (if ((l.sync d).2.1.cL first).2=0 then gone else 0) else 0
theorem JQ(l:au)(d:ah)(gone first:Nat):l.tQ d gone first<=gone:=by
 unfold au.tQ;split
 .split<;>omega
 .omega
theorem aA.lx{e:Nat}{r:Value}(a:aA w B h p D N v s r l d n c e)(b:n<=m)(E:m<=67108864):aA w B h p D N v s r l d m c e where
 bq:=a.bq.lx b E
 blk:=a.blk;base:=a.base;segs:=a.segs;recs:=a.recs;eB:=⟨zzk a.eB.1 b,a.eB.2⟩;gJ:=zzk a.gJ b;km:=a.km;iC:=by have:=a.iC;omega
 mZ:=a.mZ
theorem nS(l:au)(d:ah):(l.sync d).1.segs=l.segs:=by unfold au.sync;split<;>rfl
theorem Lj(l:au)(d:ah):(l.sync d).1.recs=l.recs:=by unfold au.sync;split<;>rfl
theorem SE(B a p D N n V X uS j i u first gone:Nat)(Z sv rv:Value)(l:au)(d:ah)(w:World)(h:aA w B a p D N Z sv rv l d n V X)(hn:n+2+gone<=67108864)(hB:2<=B)(aH:bI w)(hx:first<18446744073709551616)(hg:gone<=l.segs.length)(mz:0<gone)
  (G:w.heap[uS]?=some (.cells #[.func (.func 121) #[.pointer<|some ⟨a,0,none⟩] #[],.func (.func 134) #[] #[.pointer<|some ⟨j,0,none⟩,.pointer<|some ⟨i,0,none⟩],.func (.func 136) #[] #[.pointer<|some ⟨j,0,none⟩,.pointer<|some ⟨u,0,none⟩]] 123))
  (T:w.heap[j]?=some (.cells #[.pointer<|some ⟨a,0,none⟩] 74)) (O:w.heap[i]?=some (.cells #[.int .u64 (first:Int)] 43)) (S:¬Own a p w i) (Q:w.heap[u]?=some (.cells #[.int .i64 (gone:Int)] 3)) :
  Calls prog 120 #[.slice (some ⟨uS,0,none⟩) 3 3] w (kb B a p D N (n+2+l.tQ d gone first) [] (l.lD d gone first) w):=by
 have L:Hid (n+2+l.tQ d gone first<=67108864):=by have:=JQ l d gone first;show n+2+l.tQ d gone first<=67108864;omega
 have z0:=ae G 0;simp at z0;have I:=af h;have xO:1<w.heap.size:=by have:=h.bq.base.2.2.2;omega
 go_enter func120,ntmps120;go_wp2;apply wp_loop_rounds 4;rw[rounds_succ];go_wp2_with fail;apply(qW B a p D N n V X Z sv rv l d w I.out bL).mono;rintro e g ⟨rfl,⟨j9,qc,m_,lC,lu,dY⟩,eE⟩;have C:∀{q:Nat} {c:Array Value} {t:TypeId},w.heap[q]?=some (.cells c t (0,0))->t≠96->t≠182->t≠222->t≠43->t≠110->g.heap[q]?=some (.cells c t (0,0)):=λ{q c t} b v x y z A=>
  (eE.block q (zza.1 b).1<|I.out.free b v x y z A).trans b
 have F:=C G bM bM bM bM bM;have xR:=C T bM bM bM bM bM;have K:=C Q bM bM bM bM bM;have M:=(eE.block i (zza.1 O).1 S).trans O;have Y:=aH.cI (eE.block 1 xO λE=>by have:=I.out.ge E;omega);have z1:=ae F 1;simp at z1;have aa:1<g.heap.size:=by have:=eE.size;omega
 have o:=af dY;have J:=af eE;have a8:=af F;have R:=af xR;have a1:=af M;have a6:=af K;clear h dY eE F xR M K G T O Q C z0 S;by_cases f:(l.sync d).2.2=0
 .rw[f,bK];go_wp2;rw[rounds_succ];go_wp2_with fail;apply(OP B a p D N n lC lu j i first j9 qc m_ (l.sync d).1 (l.sync d).2.1 g o.out bL hx R.out a1.out).mono;rintro e r ⟨rfl,⟨zE,AX,zZ,eh⟩,gH⟩;have C:∀{q:Nat} {c:Array Value} {t:TypeId},g.heap[q]?=some (.cells c t (0,0))->t≠96->t≠182->t≠222->t≠43->t≠110->r.heap[q]?=some (.cells c t (0,0)):=λ{q c t} b v x y z A=>
   (gH.block q (zza.1 b).1<|o.out.free b v x y z A).trans b
  have wL:=C a8.out bM bM bM bM bM;have sz:=C R.out bM bM bM bM bM;have P:=C a6.out bM bM bM bM bM;have a':=Y.cI (gH.block 1 aa λE=>by have:=o.out.ge E;omega);have z2:=ae wL 2;simp at z2;have s:=af eh;have W:=af<|J.out.trans gH;have Wr:=af sz;have ab:=af P;clear eh gH wL sz P C z1 Y;by_cases k:((l.sync d).2.1.cL first).2=0
  .obtain⟨m,zR⟩:∃m,m=(l.segs.take gone).map aN:=⟨_,rfl⟩;have e:l.lD d gone first=((l.sync d).1,((l.sync d).2.1.cL first).1.removeAll m):=by unfold au.lD;rw[if_pos f,if_pos k,zR]
   have HE:=af e;have a7:=af zR;clear e zR;have⟨gs,cs,GN⟩:=dZ s.out.segs (by rw[nS];omega);subst GN;rw[k,bK];go_wp2;rw[rounds_succ];go_wp2_with fail;apply(OQ B a p D N (n+2) AX zZ j u gone gs cs zE m_ (l.sync d).1 ((l.sync d).2.1.cL first).1 r s.out (by rw[nS];exact hg) mz hn hB a' Wr.out ab.out).mono;rintro e w3 ⟨rfl,⟨UR,US,Sx,qg⟩,pN⟩;rw[nS]at qg ⊢;rw[<-a7.out]at qg ⊢;have H:Hid (kb B a p D N (n+2+l.tQ d gone first) [] (l.lD d gone first) w (.returned<|cf (((l.sync d).2.1.cL first).1.removeAll m).2) w3):=by
    show kb _ _ _ _ _ _ _ _ _ _ _;have eg:l.tQ d gone first=gone:=by unfold au.tQ;rw[if_pos f,if_pos k]
    rw[HE.out,eg];exact⟨rfl,⟨UR,_,m_,US,Sx,qg⟩,(W.out.trans pN).x⟩
   clear qg pN;by_cases U:(((l.sync d).2.1.cL first).1.removeAll m).2=0
   .rw[U,bK]at H ⊢;go_wp2;rw[rounds_succ];go_wp2;go_ret;exact H.out
   .rw[aG U]at H ⊢;go_wp2;go_ret;exact H.out
  .have H:Hid (kb B a p D N (n+2+l.tQ d gone first) [] (l.lD d gone first) w (.returned<|cf ((l.sync d).2.1.cL first).2) r):=by
    show kb _ _ _ _ _ _ _ _ _ _ _;have e:l.lD d gone first=((l.sync d).1,(l.sync d).2.1.cL first):=by unfold au.lD;rw[if_pos f,if_neg k]
    rw[e];exact⟨rfl,⟨zE,qc,m_,AX,zZ,s.out.lx bL L.out⟩,W.out.x⟩
   rw[aG k]at H ⊢;go_wp2;go_ret;exact H.out
 .have H:Hid (kb B a p D N (n+2+l.tQ d gone first) [] (l.lD d gone first) w (.returned<|cf (l.sync d).2.2) g):=by
   show kb _ _ _ _ _ _ _ _ _ _ _;have e:l.lD d gone first=l.sync d:=by unfold au.lD;rw[if_neg f]
   rw[e];exact⟨rfl,⟨j9,qc,m_,lC,lu,o.out.lx bL L.out⟩,J.out.x⟩
  rw[aG f]at H ⊢;go_wp2;go_ret;exact H.out
theorem rQ(B b p D f n g i low:Nat)(v s r:Value)(l:au)(d:ah)(w:World)(h:aA w B b p D f v s r l d n g i):
  Calls prog 133 #[.pointer (some ⟨b,0,none⟩),.int .u64 (low:Int)] w λe w'=>e=.returned (.int .i64 (cb l.segs low:Nat))/\∃q,w'=w.drewN q:=by
 by_cases hs:0<l.segs.length
 .obtain⟨gs,cs,N⟩:=dZ h.segs hs;subst N;exact yf B b p D f n g i low gs cs v r l d w h
 .have dM:l.segs=[]:=List.length_eq_zero_iff.1 (by omega);obtain⟨a,m,c,N⟩:=ct h.segs
  have j:m=0:=by
   subst N;rcases h.segs.2 with⟨e,t⟩|⟨o,R,k,e,_⟩
   .cases e;rfl
   .cases e;rw[dM];rfl
  subst j N;have c1:=ae h.blk 1;simp at c1;have e:cb l.segs low=0:=by rw[dM];rfl
  rw[e];clear h e
  go_enter func133,ntmps133
  go_wp2;refine wp_loop_rounds 1 ?_;rw[rounds_succ];go_wp2;go_ret;exact⟨rfl,0,rfl⟩
end Go.Proofs.YtcalalndmcemiaaGreatDoor
