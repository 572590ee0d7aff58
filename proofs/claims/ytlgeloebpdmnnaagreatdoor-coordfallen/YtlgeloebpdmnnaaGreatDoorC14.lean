import Derived.Test.YtlgeloebpdmnnaaGreatDoorC09
import Derived.Sort.OwnSorted
import Derived.Test.YtlgeloebpdmnnaaGreatDoorC11
set_option maxHeartbeats 2000000
set_option maxRecDepth 100000
namespace Go.Proofs.YtlgeloebpdmnnaaGreatDoor
open Go.RowKit Go.Maps Tryz Sc
section
open Go.Sort
def FA(m:aG)(ns:List nS):Prop:=ns.Nodup/\∀k,k∈ns↔m k≠none
theorem D_(B p bD N n nD m:Nat)(pv:Value)(d:aj)(w:nL)(h:aC w B p bD N pv d n nD m)(mq:d.down=false):
  Calls prog 410 #[gx p] w λe w'=>∃v ns,e=.returned (.tuple #[v,.nilIface])/\FA d.now ns/\w'.ownsRow w.heap.size 9 1 v ns.length (ns.map Value.string)/\Below w.heap.size w w':=by
 have c1:=af h.blk 1;have c5:=af h.blk 5;simp at c1 c5;rw[mq]at c5;have hN:=h.hN;have hn:=h.hn;have⟨D,M,s⟩:=h.now;have ad:=M.size_le;have H5:Hid (∀k:nS,(d.now k=none->Maps.has D (jh k)=false)/\(∀t,d.now k=some t->Maps.has D (jh k)=true)):=λk=>⟨(s k).1,λt ht=>((s k).2 t ht).1⟩
 have HO:=ah M;clear h s;have⟨i0,hi,a7,a8,a'⟩:=tO Ni;go_enter func410,ntmps410;go_wp2_with (first
  |(at_range;apply wpList_range_own _ rfl _ 62 rfl 9 135 xU underlying62 di N m D rfl M;intro w0 I E ni)
  |go_in)
 go_frame;have V:Below w.heap.size w w0:=⟨E.os,E.tape,E.output,E.size,λk f=>E.block k f dv⟩;have S:=ah<|zzb I V;clear I E V M
 go_loopw [4] (λv wr=>∃(left:Lit->Bool) (r:Nat) (ss:List<|List UInt8),Hid<|wr.ranges prog 9 di N w.heap.size m D left r/\ss.length+r<=Maps.size D/\Collected D left ss/\wr.ownsRow (w.heap.size+1) 9 1 v ss.length (ss.map encStr)/\Below w.heap.size w wr/\w.heap.size+1<=wr.heap.size)
  (λ_ wr=>wr.rangeLeft N w.heap.size)
 case atStart=>exact⟨_,_,[],S.1,dv,Collected.start D,zzu _ _ _ _,S.2,by omega⟩
 .have⟨left,r,ss,X⟩:=hrel;have H:=X.1;go_wp2_with (first
   |(at_next;refine wpList_next_ranges _ rfl _ rfl 9 xU di encStr Value.pointer (λae kl f=>by have⟨x,hx,_⟩:=Maps.keyOf_str underlying9 f;exact⟨x,hx⟩) (λv y R=>uK R) N w.heap.size m _ _ _ rfl H ?_ ?_)
   |go_in)
  .intro lx wU;have C:=X.2.2.1;have T:∀ts:List<|List UInt8,ts.Perm ss->FA d.now (ts.map λx=>⟨x.toArray⟩):=λts hp=>by
    refine⟨?_,λk=>?_⟩
    .refine List.Pairwise.map _ (λa b mZ e=>mZ ?_)<|hp.nodup_iff.2 C.1;have:=congrArg (λx:nS=>x.data.toList) e
     simpa using this
    .have e1:k∈(ts.map λx=>(⟨x.toArray⟩:nS))↔k.data.toList∈ss:=by
      rw[<-hp.mem_iff,zzq];constructor
      .rintro⟨x,hx,rfl⟩;simpa using hx
      .intro f;exact⟨_,f,dv⟩
     rw[e1,C.2];have:=H5.out k;cases f:d.now k with
     |none=>rw[show Lit.string k.data.toList=jh k from rfl,this.1 f];simp
     |some t=>rw[show Lit.string k.data.toList=jh k from rfl,this.2 t f];simp[wU]
   have F:=ah T;clear T C;rcases X.2.2.2.1.2 with⟨rfl,hz⟩|⟨i,q,a1,rfl,U,Z,r1,r2,r3,r4⟩
   .have hss:ss=[]:=List.eq_nil_of_length_eq_zero hz;subst hss;go_wp2_with fail;apply(Tryz.sort_Strings_none none 0 wr).mono;rintro e w1 ⟨rfl,rfl⟩;go_wp2;go_ret2;exact⟨.slice none 0 0,[],rfl,F.out []<|List.Perm.refl _,zzu _ _ _ _,X.2.2.2.2.1⟩
   .have hH:Holds encStr wr i 0 ss.toArray:=holds_of_block Z (by simpa using r4);have nA:=(zza.1 Z).1;have hlen:ss.length<4611686018427387904:=by have:=X.2.1;omega
    have G:=ah<|zzb Z<|zzb r1<|zzb r2 r3;clear Z r1 r2 r3 r4;go_wp2_with fail;apply(Tryz.sort_Strings i 0 q ss wr hH nA hlen).mono;rintro e w1 ⟨rfl,nn,os,rfl⟩;have O:=ownsRow_sorted (n:=nn) (os:=os) (ts:=ss.mergeSort λx y=>decide<|x<=y) (by simp) U G.1 G.2.1 G.2.2.1 G.2.2.2;have Y:=grownBy_sorted (w:=wr) (g:=i) (n:=nn) (os:=os) (ss.mergeSort λx y=>decide<|x<=y).toArray;have⟨W,P⟩:=gb <|grow (putRow encStr (Sort.ahead wr nn) i 0 (ss.mergeSort λx y=>decide<|x<=y).toArray) os;rw[<-P]at O Y ⊢;clear P;go_wp2;go_ret2;refine⟨.slice (some ⟨i,0,none⟩) ss.length q,(ss.mergeSort λx y=>decide<|x<=y).map λx=>⟨x.toArray⟩,rfl,F.out _<|List.mergeSort_perm _ _,?_,X.2.2.2.2.1.grown Y dp λj A=>by cases A;omega⟩;rw[List.map_map];have e:(ss.mergeSort λx y=>decide<|x<=y).length=ss.length:=dv
    rw[zzn,e];exact tW O dp
  .intro x c kl yd yp w2 Pt OQ lJ R fE Ho bW fT eP CH;obtain⟨x',ex,rfl,C6⟩:=Maps.keyOf_str underlying9 OQ;obtain rfl:x=x':=encStr_inj ex;have L:w2.ownsRow (w.heap.size+1) 9 1 _ ss.length (ss.map encStr):=X.2.2.2.1.kept fT (by
    rcases X.2.2.2.1.2 with⟨rfl,_⟩|⟨i,q,a1,rfl,U,_⟩
    .exact .inl rfl
    .exact .inr (by simp[Value.ownBlock];omega))
   have K:Hid (w2.ranges prog 9 di N w.heap.size m D (λz=>left z&&!z.sameKey (.string x)) Pt/\ss.length+1+Pt<=Maps.size D/\Collected D (λz=>left z&&!z.sameKey (.string x)) (ss++[x])/\Below w.heap.size w w2/\w.heap.size+1<=w2.heap.size/\w2.rangeLeft N w.heap.size<wr.rangeLeft N w.heap.size):=by
    refine⟨Ho,by have:=X.2.1;omega,X.2.2.1.step lJ fE,X.2.2.2.2.1.grown fT (by have:=X.2.2.2.2.2;omega) λj A=>by cases A;omega,by rw[eP];exact X.2.2.2.2.2,by rw[Ho.left_eq,H.left_eq];exact bW⟩
   have BL:ss.length+1<=1000000000:=by have:=K.2.1;omega
   clear eP H Ho bW;go_wp2_with (first
    |(at_builtin;apply wpList_append_own _ rfl _ _ 178 rfl (w.heap.size+1) 9 i0 _ 1 16 underlying178 hi a7 a8 a' rfl du _ ss.length _ rfl (L.alloc _) ⟨w2.heap.size,0,none⟩ 1 1 [encStr x] rfl rfl (fV _ #[encStr x] _) (by intro u Q;simp at Q;subst Q;rfl) eE dp (by simp;have:=K.2.2.2.2.1;omega);intro v' w3 bF l _)
    |fail)
   have o:∀k,k<w2.heap.size->k<w.heap.size+1->w3.heap[k]?=w2.heap[k]?:=λk f mL=>(l.block k ef λe=>by have:=(L.lt k e.symm).1;omega).trans<|zzf _ _ k f
   have ab:=HO.out.lt;have aa:=K.2.2.2.2.1;have J:w3.ranges prog 9 di N w.heap.size m D (λz=>left z&&!z.sameKey (.string x)) Pt:=by
    have:=K.1;unfold World.ranges at this ⊢;rw[o N dp dp,o w.heap.size dp dp];exact this
   go_roundw;.refine⟨_,Pt,ss++[x],J,by simp;have:=K.2.1;omega,K.2.2.1,by simpa using bF,?_,by have:=l.size;simp at this;omega⟩;exact⟨l.os.trans K.2.2.2.1.os,l.tape.trans K.2.2.2.1.tape,l.output.trans K.2.2.2.1.output,by have:=l.size;simp at this;omega,λk f=>(o k dp dp).trans<|K.2.2.2.1.block k f⟩
   .rw[J.left_eq,<-K.1.left_eq];exact K.2.2.2.2.2
end
theorem T7(u:Nat):(⟨(Lib.trimPrefix (aw u).data.toList [115,101,103,109,101,110,116,45]).toArray⟩:nS)=⟨(Lib.decDigits u).toArray⟩:=by
 have e:(aw u).data.toList=[115,101,103,109,101,110,116,45]++Lib.decDigits u:=by unfold aw;rw[ByteArray.data_append];simp
 rw[e];unfold Lib.trimPrefix Lib.hasPrefix;rw[oo<|by simp[List.isPrefixOf]];simp
theorem aa5(p:Option Addr)(n c:Nat)(w:nL):(Builtin.len_ #[178] 3 #[.slice p n c]).run prog w=.ok (.int .i64 n) w:=by simp[Builtin.len_,run_underlying underlying178,goInt]
theorem IL(w:nL)(s:nS):Below w.heap.size w (Lib.bytesWorld w 5 s):=
 ⟨rfl,rfl,rfl,by rw[Lib.bytesWorld_size];omega,λk h=>Lib.bytesWorld_at_old w _ s k h⟩
theorem qa{w w':nL}{B n:Nat}{e:TypeId}{k:Nat}{v:Value}{xs:List Value}(h:w.ownsRow B e k v n xs)(hb:Below w.heap.size w w'):w'.ownsRow B e k v n xs:=by
 refine h.kept (row:=none) ⟨hb.os,hb.tape,hb.output,hb.size,λj a _=>hb.block j a⟩ ?_
 cases b:v.ownBlock with
 |none=>grind
 |some q=>grind
theorem qe(l:List Nat):(str l).data=(l.map λx=>UInt8.ofNat x).toArray:=by
 have a:∀(l:List Nat) (r:nS),((l.map λx:Nat=>(x:Int)).foldl (λr n=>r.push<|UInt8.ofNat n.toNat) r).data=r.data++(l.map λx=>UInt8.ofNat x).toArray:=by
  intro l;induction l with
  |nil=>grind
  |cons x l ih=>simp_all
 unfold str;rw[a];simp
theorem sV{l:List Nat}(h:mG l):bytesOf (str l)=l:=by
 unfold bytesOf;rw[qe];simp only[List.map_map];have:∀(m:List Nat),mG m->m.map (UInt8.toNat∘λx=>UInt8.ofNat x)=m:=by
  intro m;induction m with
  |nil=>grind
  |cons x m ih=>
   intro hb;have hx:=hb x dv;rw[List.map_cons,ih λy a=>hb y<|by simp[a]];congr 1;simp;omega
 exact this l h
def dF(rs:List Rec):List Nat:=rs.flatMap λr=>aB r.cW r.kind r.pay
theorem ud(rs:List Rec)(r:Rec):dF (rs++[r])=dF rs++aB r.cW r.kind r.pay:=by simp[dF]
theorem List.Da{α:Type}{motive:List α->Prop}(l:List α)(h:motive [])(b:∀l x,motive l->motive (l++[x])):motive l:=by
 have:∀n (l:List α),l.length=n->motive l:=by
  intro n;induction n with
  |zero=>grind
  |succ n ih=>
   intro l c;obtain e|⟨a,x,e⟩:=List.eq_nil_or_concat l<;>grind
 exact this _ l rfl
theorem NC(p:Nat)(w:nL):(nilAhead 604 61 (gx p) "Read").run prog w=.ok (some false) w:=eu
end Go.Proofs.YtlgeloebpdmnnaaGreatDoor
