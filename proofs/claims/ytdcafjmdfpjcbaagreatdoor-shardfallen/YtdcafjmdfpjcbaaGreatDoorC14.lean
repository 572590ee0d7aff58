import Derived.Test.YtdcafjmdfpjcbaaGreatDoorC13
import Derived.Lib.SmallJoins
set_option maxHeartbeats 8000000
set_option maxRecDepth 100000
namespace Go.Proofs.YtdcafjmdfpjcbaaGreatDoor
open Go.RowKit Go.Maps Tryz Sc
variable{B D N b bN h n p:Nat}{j s v:Value}{c w:World}{d:ah}{l:aq}
theorem Yh(B g p D bN n q t n':Nat)(X:List Nat)(s v o:Value)(a:Option Addr)(k c:Nat)(l:aq)(d:ah)(r:aq×ah×Nat)(w:World)(h:aD w B g p D bN s v o l d n q t)(hn:n<=n')(W:n'<=1000000000)
  (T:l.failed=0->Calls prog 95 #[.slice a k c] w (kK B g p D bN n' X r w)) :
  Calls prog 112 #[rM g,.slice a k c] w (kK B g p D bN n' X (l.wr d r) w):=by
 have x:=aa h.blk 0;have i:=aa h.blk 6;simp at x i;have I:=ae h;have Q:=Lv p;by_cases f:l.failed=0
 .rw[f,bQ]at i;have e:l.wr d r=({r.1 with failed:=r.2.2},r.2.1,r.2.2):=by unfold aq.wr;rw[if_pos f]
  rw[e];clear e;replace T:=T f;go_enter func112,ntmps112;go_wp2_with fail;apply T.mono;rintro e y ⟨rfl,⟨kr,sB,qz,lT,lN,fE⟩,fe⟩;have H:=ae fE;have O:=ae fe;have u:=aa fE.blk 6;have z:=au fE.blk 6;simp at u;clear fE fe h;by_cases j:r.2.2=0
  .rw[j,bQ];go_wp2;go_ret;obtain⟨N,A⟩:=H.out.fail (c:=0) rfl;unfold kK;simp only;rw[j];exact⟨rfl,⟨kr,sB,qz,lT,lN,N⟩,O.out.trans<|H.out.XX N A (by intro k b _;simp at b;simp[b]) (bn.refl _ _) (bn.refl _ _)<|bn.refl _ _⟩
  .have he:=aG j;obtain⟨N,A⟩:=H.out.fail (c:=r.2.2) rfl;rw[he]at N A ⊢;have m:=ae N;clear N;go_wp2;go_ret;exact⟨by simp only;rw[he];rfl,⟨kr,sB,qz,lT,lN,m.out⟩,O.out.trans<|H.out.XX m.out A (by intro k b _;simp at b;simp[b]) (bn.refl _ _) (bn.refl _ _)<|bn.refl _ _⟩
 .rw[aG f]at i;have e:l.wr d r=(l,d,l.failed):=by unfold aq.wr;rw[if_neg f]
  rw[e];go_enter func112,ntmps112;go_wp2;go_ret;exact⟨by simp only;rw[aG f];rfl,⟨s,v,o,q,t,I.out.fK hn W⟩,(kI.refl _ _ _).x⟩
theorem sV(B b p f bN n D N low:Nat)(v s r:Value)(l:aq)(d:ah)(w:World)(h:aD w B b p f bN v s r l d n D N):
  Calls prog 117 #[rM b,.int .u64 (low:Int)] w λe w'=>e=.returned (.int .i64 (bU l.segs low:Nat))/\∃q,w'=w.drewN q:=by
 by_cases i:0<l.segs.length
 .obtain⟨gs,cs,H⟩:=dI h.segs i;subst H;exact zP B b p f bN n D N low gs cs v r l d w h
 .have eQ:l.segs=[]:=List.length_eq_zero_iff.1 oE;have⟨a,m,c,H⟩:=wP h.segs;have g:m=0:=by
   subst H;rcases h.segs.2 with⟨e,k⟩|⟨o,W,j,e,_⟩
   .cases e;rfl
   .cases e;rw[eQ];rfl
  subst g H;have c1:=aa h.blk 1;simp at c1;have e:bU l.segs low=0:=by rw[eQ];rfl
  rw[e];clear h e;go_enter func117,ntmps117;go_wp2;apply wp_loop_rounds 1;rw[rounds_succ];go_wp2;go_ret;exact⟨rfl,0,rfl⟩
theorem DN(s:ByteArray)(w:World)(h:s.size<=281474976710656):
  Calls prog 116 #[.string s] w λe w'=>e=.returned (.string s)/\Below w.heap.size w w':=by
 go_enter func116,ntmps116;go_wp2_with fail;apply(Tryz.stringslite_Clone s w h).mono;rintro e a ⟨rfl,hb⟩;go_wp2;go_ret;exact⟨rfl,hb⟩
theorem Qe{o:Oper}{a:Act}{K:Act->World->Prop}{Q:Exit->Act->World->Prop}(s x:Operand)
  (p:o.op=.call {callee:=.builtin .append,args:=#[s,x],argTypes:=#[35,35]})
  (base:Nat) (v:Value) (n:Nat) (rs:List Rec) (r:Rec) (b:Nat) (j:a.eval s=v) (N:w.ownsRow base 82 3 v n<|cG rs) (e:a.eval x=.slice (some<|dH b) 1 1)
  (m:w.cell? (dH b)=some (.int .u64 (r.cQ:Int))) (om:w.cell? (d8 b 1)=some (.int .u8 (r.kind:Int))) (lI:w.cell? (d8 b 2)=some (.string<|str r.pay)) (hn:n<=4398046511103) (l:base<=w.heap.size)
  (h:∀c w',w'.ownsRow base 82 3 c (n+1) (cG<|rs++[r])->w.grownBy w' v.ownBlock->(c.ownBlock=v.ownBlock\/c.ownBlock=some w.heap.size)->K (a.put o.dst c) w'):o.wp prog a w K Q:=by
 have⟨i,d,f,g,k⟩:=info_parts yZ;refine fT s x 35 p base 82 i _ 3 32 underlying35 d f g k rfl dN v n (cG rs) j N ⟨b,0,none⟩ 1 1 (dE r) e rfl ?_ ?_ mE oE l ?_
 .intro jj u h_;match jj,h_ with
  |0,h_=>simp[dE]at h_;subst h_;simpa [Addr.add]using m
  |1,h_=>simp[dE]at h_;subst h_;simpa [Addr.add]using om
  |2,h_=>simp[dE]at h_;subst h_;simpa [Addr.add]using lI
 .intro u hu;simp[dE]at hu;obtain rfl|rfl|rfl:=hu<;>rfl
 .intro c w' wu PC BC;refine h c w' ?_ PC BC;rw[zD];exact wu
theorem aD.Uq{i:World}{f x:Nat}{u m:Value}{G:Obj}{r:Rec}(a:aD w B f p h bN u s m l d n D x)(hn:n<1000000000)(j:(w.alloc G).drew.grownBy i m.ownBlock)(z:i.ownsRow B 82 3 v (l.recs.length+1)<|cG<|l.recs++[r])(F:bn w.heap.size m v):
  aD (i.setCell (d8 f 3) v) B f p h bN u s v {l with recs:=l.recs++[r]} d (n+1) D x/\kI f p w (i.setCell (d8 f 3) v)/\Fr (f::m.ownBlock.toList) w (i.setCell (d8 f 3) v):=by
 have H:i.heap[f]?=some (nc p s m l):=(P8 a j (bG a.recs a.blk dN) 0).2.2;have⟨W,t⟩:∃W,W=i.setCell ⟨f,3,none⟩ v:=⟨_,rfl⟩;rw[<-t];have y:Fr [f] i W:=by rw[t];exact Fr.cH sE _ _
 have q:Fr (f::m.ownBlock.toList) w W:=((((Fr.refl _ w).alloc _).drew).trans<|(Fr.dc j).mono λk _ b=>List.mem_cons_of_mem _ b).trans<|y.mono<|by intro k _ b;simp at b;simp[b]
 have A:W.heap[f]?=some (nc p s v {l with recs:=l.recs++[r]}):=by
  rw[t];have:=aH H 3 v;simpa using this
 have C:W.ownsRow B 82 3 v (l.recs++[r]).length (cG<|l.recs++[r]):=by
  have:=av z y λg j=>by simp;intro e;subst e;exact bG z H dN j
  simpa using this
 have E:W.ownsRow B 34 1 s l.segs.length (dh l.segs):=av a.segs q (λg j o=>by
  obtain e|o:=zzj.1 o
  .subst e;exact bG a.segs a.blk dN j
  .simp at o;have⟨c,K⟩:=aF a.recs o;exact bG a.segs K dN j)
 have N:=a.rows (n':=n+1) q (by intro k b _;obtain e|b:=zzj.1 b;exact .inl e;simp at b;exact .inr<|.inr b) A E C oE oE
  ⟨by have:=a.dL.1;simp;omega,a.dL.2⟩ (by have:=a.fV;simp;omega) a.jv (by have:=a.gy;simp;omega) a.lS
 exact⟨N,a.BG N q (by intro k b _;obtain e|b:=zzj.1 b;simp[e];simp at b;simp[b]) (.inl rfl) (bn.refl _ _) (bn.refl _ _) F,q⟩
theorem Fv(B f p G bN n nD nN kind:Nat)(pv sv rv:Value)(l:aq)(d:ah)(s:ByteArray)(w:World)(h:aD w B f p G bN pv sv rv l d n nD nN)(hs:s.size<=255)(C:kind<256)(hn:n+2<1000000000)(hB:2<=B)(uG:l.filled<600->l.segs≠[])(dF:dw w):
  Calls prog 71 #[rM f,.int .u8 (kind:Int),.string s] w (DM B f p G bN (n+3) (l.append d kind s) w):=by
 have wA:=(zza.1 h.blk).1;have c4:=aa h.blk 4;simp at c4;have bo:∀o,(w.alloc o).cell? ⟨f,4,none⟩=some (.int .u64 (l.next:Int)):=λo=>(zze (a:=⟨f,4,none⟩)<|zzf w o f wA).trans c4
 have kJ:l.next<18446744073709551616:=by have:=h.gy;omega
 have HI:=ae h;have bt:=h.bE.base.2.2.2;clear h
 go_enter func71,ntmps71;go_wp2_with fail;apply(xZ l.next kind s _ hs C kJ).mono;rintro e m ⟨g,rfl,hg,aC,gw⟩;rw[zzv]at gw hg aC;have bF:Fr [] w m:=((lE w).alloc _).trans (Fr.bw (by rw[zzv];exact gw) []);have z:m.heap[w.heap.size]?=some (.cells #[.pointer<|some ⟨f,0,none⟩] 59):=(gw.block w.heap.size oE).trans<|heap_alloc_new w _;have kB:=(ql aC).2;have hlen:(ax l.next kind<|bytesOf s).length=11+s.size+4:=by rw[fj,dC];omega
 have Ty:=ae z;have X0:=ae aC;have lf:=ae bF;have I5:=ae hlen;have b0:=aa z 0;simp at b0;have ao:w.heap.size<m.heap.size:=(zza.1 z).1;have O':∀o,(m.alloc o).cell? ⟨w.heap.size,0,none⟩=some (.pointer<|some ⟨f,0,none⟩):=λo=>(zze (a:=⟨w.heap.size,0,none⟩)<|zzf m o _ ao).trans b0
 clear gw aC bF z hlen c4 bo;go_wp2_with fail;have⟨x,Y⟩:∃x,x=(m.alloc<|.cells #[.slice (some ⟨g,0,none⟩) (11+s.size+4)<|15+s.size] 179).alloc (.cells #[.func (.func 113) #[.pointer<|some ⟨f,0,none⟩] #[],.func (.func 114) #[] #[.pointer<|some ⟨w.heap.size,0,none⟩,.pointer<|some ⟨m.heap.size,0,none⟩]] 122):=⟨_,rfl⟩;rw[<-Y];have K:Fr [] w x:=by rw[Y];exact(lf.out.alloc _).alloc _
 have b7:x.heap.size=m.heap.size+1+1:=by rw[Y];simp
 have cm:x.heap[m.heap.size+1]?=some (.cells #[.func (.func 113) #[.pointer<|some ⟨f,0,none⟩] #[],.func (.func 114) #[] #[.pointer<|some ⟨w.heap.size,0,none⟩,.pointer<|some ⟨m.heap.size,0,none⟩]] 122):=by
  rw[Y];have:=heap_alloc_new (m.alloc<|.cells #[.slice (some ⟨g,0,none⟩) (11+s.size+4)<|15+s.size] 179)<|.cells #[.func (.func 113) #[.pointer<|some ⟨f,0,none⟩] #[],.func (.func 114) #[] #[.pointer<|some ⟨w.heap.size,0,none⟩,.pointer<|some ⟨m.heap.size,0,none⟩]] 122;rw[zzv]at this;exact this
 have ov:x.heap[m.heap.size]?=some (.cells #[.slice (some ⟨g,0,none⟩) (11+s.size+4)<|15+s.size] 179):=by
  rw[Y,zzf _ _ _ sE];exact heap_alloc_new _ _
 have z:x.heap[w.heap.size]?=some (.cells #[.pointer<|some ⟨f,0,none⟩] 59):=by
  rw[Y,zzf _ _ _ sC,zzf _ _ _ ao];exact Ty.out
 have Qf:x.ownsRow (w.heap.size+1+1) 5 1 (.slice (some ⟨g,0,none⟩) (11+s.size+4)<|15+s.size) (11+s.size+4) (bs<|ax l.next kind<|bytesOf s):=by rw[Y];exact(X0.out.alloc _).alloc _
 have an:dw x:=dF.cF (K.block 1 oE sE);have u:=XZ B f p G bN n nD nN w.heap.size m.heap.size g (15+s.size) (w.heap.size+1+1) (m.heap.size+1) pv sv rv l d (ax l.next kind<|bytesOf s) x (HI.out.new K) oE hB uG cm z (by rw[I5.out];exact ov) (by rw[I5.out];exact Qf) (by rw[I5.out];omega) an;apply u.mono;clear u cm ov Qf an Y;have⟨R,hR⟩:=xY <|l.wr d (l.put d<|ax l.next kind<|bytesOf s);have HR:=ae hR.symm;rw[<-hR];clear hR;rintro e w2 ⟨rfl,⟨ya,Qg,Nc,CF,BP,eN⟩,iH⟩;have Ur:=ae K
 have wO:kI f p w w2:=by
  have L:=(HI.out.yL K).x.trans iH;exact⟨L.os,L.tape,L.output,L.size,λk C hn=>L.block k C hn sC,L.stay⟩
 have HO:=ae wO;have H2:=ae eN;have Nd:w2.heap[w.heap.size]?=some (.cells #[.pointer<|some ⟨f,0,none⟩] 59):=(iH.block w.heap.size oE ((HI.out.new K).free z dN dN dN dN dN) sC).trans z;have X6:=ae Nd;have v:=aa Nd 0;have k2:=aa eN.blk 2;have D:=aa eN.blk 3;have A:=aa eN.blk 4;have g2:=au eN.blk 2;have g3:=au eN.blk 3;have g4:=au eN.blk 4;simp at v k2 D A;have bp:m.heap.size+1+1<=w2.heap.size:=by have:=iH.size;omega
 have b6:f<w2.heap.size:=oE;clear iH eN wO Nd z K b0 O' b7;by_cases u:R.2.2=0
 .rw[u,bQ];go_wp2;go_cut [11]from 37 to 44 (λb3 E=>∃rb,b3=.pointer (some ⟨rb,0,none⟩)/\w2.heap.size<=rb/\E.heap[rb]?=some (.cells #[.int .u64 (R.1.next:Int),.int .u8 (kind:Int),.string s] 82)/\Fr [] w2 E);case first=>
   have dA:∀o,(w2.alloc o).cell? ⟨w.heap.size,0,none⟩=some (.pointer<|some ⟨f,0,none⟩):=λo=>(zze (a:=⟨w.heap.size,0,none⟩)<|zzf w2 o w.heap.size oE).trans v
   have kA:∀o,(w2.alloc o).cell? ⟨f,4,none⟩=some (.int .u64 (R.1.next:Int)):=λo=>(zze (a:=⟨f,4,none⟩)<|zzf w2 o _ b6).trans A
   have n1:=World.new_ne w2 ⟨w.heap.size,0,none⟩ v;have n2:=World.new_ne w2 ⟨f,4,none⟩ A
   go_region_held3 (λw'=>w'.cell? ⟨w.heap.size,0,none⟩=some (.pointer<|some ⟨f,0,none⟩)/\w'.cell? ⟨f,4,none⟩=some (.int .u64 (R.1.next:Int)))
    (go_keep)
    (first|(go_at_call 116;apply(DN s (w2.alloc<|.cells #[.int .u64 0,.int .u8 0,.string ⟨#[]⟩] 82).drew oE).mono;rintro e r ⟨rfl,eV⟩;have m0:r.cell? ⟨w.heap.size,0,none⟩=some (.pointer<|some ⟨f,0,none⟩):=(eV.cell (p:=⟨w.heap.size,0,none⟩) sC).trans<|dA _;have m4:r.cell? ⟨f,4,none⟩=some (.int .u64 (R.1.next:Int)):=(eV.cell (p:=⟨f,4,none⟩) sC).trans<|kA _;have Z:r.cell? ⟨w2.heap.size,0,none⟩=some (.int .u64 0):=(eV.cell (p:=⟨w2.heap.size,0,none⟩) sE).trans sE;have T:r.cell? ⟨w2.heap.size,1,none⟩=some (.int .u8 0):=(eV.cell (p:=⟨w2.heap.size,1,none⟩) sE).trans sE;have O:r.cell? ⟨w2.heap.size,2,none⟩=some (.string ⟨#[]⟩):=(eV.cell (p:=⟨w2.heap.size,2,none⟩) sE).trans sE;have rf:∀i,r.frozen? ⟨w2.heap.size,i,none⟩=false:=(λi=>(eV.frozen (p:=⟨w2.heap.size,i,none⟩) sE).trans sE))|(go_at_call 116;apply(DN s w2.drew oE).mono;rintro e r ⟨rfl,eV⟩;have m0:r.cell? ⟨w.heap.size,0,none⟩=some (.pointer<|some ⟨f,0,none⟩):=(eV.cell (p:=⟨w.heap.size,0,none⟩) sC).trans v;have m4:r.cell? ⟨f,4,none⟩=some (.int .u64 (R.1.next:Int)):=(eV.cell (p:=⟨f,4,none⟩) sC).trans A))
   .go_wp2_with fail;go_meet;case rel=>
     have dD:=((lE w2).drew).trans<|Fr.bw eV [];exact⟨r.heap.size,rfl,dD.size,heap_alloc_new _ _,dD.alloc _⟩
   .go_wp2_with fail;go_meet;case rel=>
     have dD:=(((lE w2).alloc _).drew).trans<|Fr.bw eV [];have hz:r.heap[w2.heap.size]?=some (.cells #[.int .u64 0,.int .u8 0,.string ⟨#[]⟩] 82):=(eV.block w2.heap.size sE).trans<|heap_alloc_new w2 _;refine⟨w2.heap.size,rfl,zzc _,?_,((dD.setCell (Or.inr<|zzc _) _).setCell (Or.inr<|zzc _) _).setCell (Or.inr<|zzc _) _⟩;have:=aH (aH (aH hz 0<|.int .u64 (R.1.next:Int)) 1<|.int .u8 (kind:Int)) 2<|.string s
     simpa using this
  case rest=>
   have⟨rb,b1,bq,N,P⟩:=hcut;subst b1;have U:=H2.out.new P;have ak:=HO.out.trans<|H2.out.yL P;have a7:wc.heap[w.heap.size]?=some (.cells #[.pointer<|some ⟨f,0,none⟩] 59):=(P.block w.heap.size oE sE).trans X6.out;have F:=ae U;have bf:=ae ak;have aA:=ae N;have bc:=ae a7;have v:=aa a7 0;have k2:=aa U.blk 2;have D:=aa U.blk 3;have A:=aa U.blk 4;have g2:=au U.blk 2;have g3:=au U.blk 3;have g4:=au U.blk 4;have Z:=aa N 0;have T:=aa N 1;have O:=aa N 2;simp at v k2 D A Z T O;have bL:=P.size;have bA:f<wc.heap.size:=oE
   have sA:f≠w.heap.size:=oE;have Fs:f≠rb:=oE;have bH:w.heap.size≠rb:=oE;clear U ak a7 N P;have k_:R.1.filled<600:=by have:=HR.out;rw[<-this]at u ⊢;exact Nb u
   go_wp2;have⟨j,Q⟩:=xY <|({R.1 with filled:=R.1.filled+(15+s.size)}:aq);have hF:(R.1.filled:Int)+(11+(s.size:Int)+4)=(j.filled:Int):=by rw[Q];simp;omega
   rw[hF];have⟨W,a1⟩:∃W,W=wc.setCell ⟨f,2,none⟩ (.int .i64 (j.filled:Int)):=⟨_,rfl⟩;rw[<-a1];have J:Fr [f] wc W:=by rw[a1];exact Fr.cH sE _ _
   have V:W.heap[f]?=some (nc p Qg Nc j):=by rw[a1,Q];have:=aH F.out.blk 2<|.int .i64 ((R.1.filled+(15+s.size):Nat):Int);simp at this ⊢;exact this
   have a':aD W B f p G bN ya Qg Nc j R.2.1 (n+2) CF BP:=F.out.I0 J V (by rw[Q];exact F.out.dL) (by rw[Q];exact F.out.fV) (by rw[Q];simp;omega) (by rw[Q];exact F.out.gy) (by rw[Q];exact F.out.lS) (by rw[Q]) (by rw[Q]);have H:=ae a';have bl:Hid (kI f p w W):=bf.out.trans (F.out.BG a' J (by intro k C _;simp at C;simp[C]) (.inl rfl) (bn.refl _ _) (bn.refl _ _)<|bn.refl _ _);have a8:W.heap[w.heap.size]?=some (.cells #[.pointer<|some ⟨f,0,none⟩] 59):=(J.block w.heap.size oE sC).trans bc.out;have Uv:rb<wc.heap.size:=(zza.1 aA.out).1;have S:W.heap[rb]?=some (.cells #[.int .u64 (R.1.next:Int),.int .u8 (kind:Int),.string s] 82):=(J.block rb Uv sC).trans aA.out;have X7:=ae a8;have ba:=ae S;have bu:=J.size;clear v k2 D A g2 g3 g4 Z T O;have v:=aa a8 0;have D:=aa V 3;have A:=aa V 4;have g3:=au V 3;have Z:=aa S 0;have T:=aa S 1;have O:=aa S 2;have ay:j.next=R.1.next:=by rw[Q]
   simp at v D A Z T O;have bx:=ae ay;have b8:=ae Q;have al:∀(b i:Nat) (o:Obj),b<W.heap.size->(W.alloc o).cell? ⟨b,i,none⟩=W.cell? ⟨b,i,none⟩:=λb i o hb=>zze (a:=⟨b,i,none⟩)<|zzf W o b hb
   have b2:∀o,(W.alloc o).cell? ⟨w.heap.size,0,none⟩=some (.pointer<|some ⟨f,0,none⟩):=λo=>(al _ _ o oE).trans v
   have bz:∀o,(W.alloc o).cell? ⟨f,3,none⟩=some Nc:=λo=>(al _ _ o oE).trans D
   clear al a' V J a8 S hF a1 Q ay;have bg:=ln s;have b4:Hid (Nc.ownBlock≠some rb):=λe=>by have:=(H2.out.recs.lt _ e).2;omega
   have iB:∀q c t,W.heap[q]?=some (.cells c t (0,0))->t≠82->Nc.ownBlock≠some q:=λq c t hq ht=>bG H.out.recs hq λe=>ht e.symm
   go_cut [60]from 53 to 62 (λ_ E=>∃M,aD E B f p G bN ya Qg M {j with recs:=j.recs++[⟨R.1.next,kind,bytesOf s⟩]} R.2.1 (n+3) CF BP/\kI f p w E/\E.heap[w.heap.size]?=some (.cells #[.pointer<|some ⟨f,0,none⟩] 59)/\(Nc.ownBlock≠some rb->E.heap[rb]?=some (.cells #[.int .u64 (R.1.next:Int),.int .u8 (kind:Int),.string s] 82)))
   case first=>
    go_region_law (first|(rw[if_pos<|by rfl];refine Qe _ _ rfl B Nc j.recs.length j.recs ⟨R.1.next,kind,bytesOf s⟩ W.heap.size rfl ?_ rfl ?_ ?_ ?_ ?_ ?_ ?_;(exact H.out.recs.alloc _);(simp);(simp);(simp[bg]);(have:=H.out.fV;omega);(have:=H.out.bE.base.2.2.2;simp;omega);intro v4 w4 lh iX jH;obtain⟨q4,kG,rfl⟩:=ib lh;have⟨q1,q2,q3⟩:=P8 H.out iX (bG H.out.recs H.out.blk dN) 3;rw[D]at q1;have e0:w4.cell? ⟨w.heap.size,0,none⟩=some (.pointer<|some ⟨f,0,none⟩):=(zze (a:=⟨w.heap.size,0,none⟩)<|iX.block w.heap.size sC λe=>bG H.out.recs X7.out dN e.symm).trans<|b2 _;have sr:Hid (bn W.heap.size Nc<|.slice (some ⟨q4,0,none⟩) (j.recs.length+1) kG):=bn.lL jH sE;clear jH))
    all_goals (
     go_wp2_with fail;go_meet;case rel=>
      have⟨t1,t2,t3⟩:=H.out.Uq oE iX lh sr.out;exact⟨_,t1,bl.out.trans t2,(t3.block w.heap.size oE (by intro y;obtain e|y:=zzj.1 y;omega;simp at y;exact iB _ _ _ X7.out dN y)).trans X7.out,λhx=>(t3.block rb oE (by intro y;obtain e|y:=zzj.1 y;omega;simp at y;exact hx y)).trans ba.out⟩)
   case rest=>
    have⟨M,a6,ad,iA,aI⟩:=hcut;have aE:=aI b4.out;have d1:=aa iA 0;have x4:=aa a6.blk 4;have y4:=au a6.blk 4;have bb:=aa aE 0;simp at d1 x4 bb;have X:=ae a6;have b':=ae ad;have jD:j.next<=n+3:=by have:=H.out.gy;omega
    clear a6 ad iA aI aE;go_wp2;go_ret2;have e:l.append d kind s=({j with recs:=j.recs++[⟨R.1.next,kind,bytesOf s⟩],next:=j.next+1},R.2.1,R.1.next,0):=by
     unfold aq.append;rw[if_neg oE,HR.out,if_pos u,b8.out]
    rw[e];have⟨I,ab⟩:∃I,I=wc.setCell ⟨f,4,none⟩ (.int .u64 ((j.next+1:Nat):Int)):=⟨_,rfl⟩;have Pe:Fr [f] wc I:=by rw[ab];exact Fr.cH sE _ _
    have Pf:I.heap[f]?=some (nc p Qg M {j with recs:=j.recs++[⟨R.1.next,kind,bytesOf s⟩],next:=j.next+1}):=by
     rw[ab];have:=aH X.out.blk 4<|.int .u64 ((j.next+1:Nat):Int);simp at this ⊢;exact this
    have Tz:aD I B f p G bN ya Qg M {j with recs:=j.recs++[⟨R.1.next,kind,bytesOf s⟩],next:=j.next+1} R.2.1 (n+3) CF BP:=X.out.I0 Pe Pf X.out.dL X.out.fV X.out.jv sC X.out.lS rfl rfl;have aX:kI f p w I:=b'.out.trans (X.out.BG Tz Pe (by intro k C _;simp at C;simp[C]) (.inl rfl) (bn.refl _ _) (bn.refl _ _)<|bn.refl _ _);rw[ab]at Tz aX;exact⟨rfl,⟨ya,Qg,M,CF,BP,Tz⟩,aX⟩
 .rw[aG u];go_wp2;go_ret2;have e:l.append d kind s=(R.1,R.2.1,0,R.2.2):=by unfold aq.append;rw[if_neg oE,HR.out,if_neg u]
  rw[e];exact⟨by simp only;rw[aG u];rfl,⟨ya,Qg,Nc,CF,BP,H2.out.more oE⟩,HO.out⟩
theorem Ji:∀(rs:List Rec) (k:Nat),cG (rs.drop k)=(cG rs).drop (k*3):=by
 intro rs;induction rs with
 |nil=>grind[cG]
 |cons r rs ih=>
  intro k;cases k with
  |zero=>simp
  |succ k=>grind[dE,cG]
theorem QG(rs:List Rec):∀u∈cG rs,u.oneCell'=true:=by
 intro u a;simp only[cG,List.mem_flatMap]at a;have⟨r,_,h⟩:=a;simp[dE]at h;obtain rfl|rfl|rfl:=h<;>rfl
theorem Yi(B r m c k:Nat)(rs:List Rec)(w:World)(h:w.ownsRow B 82 3 (.slice (some<|dH r) m c) m<|cG rs)(l:rs.length=m)(n:m<=1000000000):
  Calls prog 122 #[.slice (some<|d8 r<|k*3) (m-k)<|c-k] w λe w'=>∃v,e=.returned v/\w'.ownsRow w.heap.size 82 3 v (rs.drop k).length (cG<|rs.drop k)/\Below w.heap.size w w':=by
 have⟨i,a,b,d,f⟩:=info_parts yZ;have hlen:(rs.drop k).length=m-k:=by simp[l]
 refine(Tryz.slices_CloneR i _ 3 32 a b d f rfl dN sizeOf82 r (k*3) (m-k) (c-k) (cG<|rs.drop k) w (by rw[rC,hlen]) mE oE ?_<|QG _).mono ?_
 .intro j u hu;rw[Ji,List.getElem?_drop]at hu;have:=h.cells rfl _ u hu;simpa [Addr.add_lit]using this
 .grind
theorem QH(B s m cs k:Nat)(l:List Nat)(w:World)(h:w.ownsRow B 34 1 (.slice (some<|dH s) m cs) m<|dh l)(n:l.length=m)(o:m<=1000000000):
  Calls prog 123 #[.slice (some<|d8 s k) (m-k)<|cs-k] w λe w'=>∃v,e=.returned v/\w'.ownsRow w.heap.size 34 1 v (l.drop k).length (dh<|l.drop k)/\Below w.heap.size w w':=by
 have⟨i,b,c,d,f⟩:=info_parts nB;have hlen:(l.drop k).length=m-k:=by simp[n]
 refine(Tryz.slices_Clone i _ 1 8 b c d f rfl dN sizeOf34 s k (m-k) (cs-k) (dh<|l.drop k) w (by rw[P4,hlen];omega) mE oE ?_<|by intro u a;unfold dh at a;obtain⟨x,_,rfl⟩:=zzq.1 a;rfl).mono ?_
 .intro j u a;have J:(dh l)[k+j]?=some u:=by grind[dh]
  have:=h.cells rfl _ u J;simpa [Addr.add_lit]using this
 .grind
theorem bn.QI{s e k:Nat}{a:Value}{xs:List Value}(h:w.ownsRow s e k a n xs):bn s v a:=λq b=>.inr (h.lt q b).1
theorem aD.LI{z:Value}{rs:List Rec}(a:aD w B b p h bN j s z l d n D N)(u:Below w.heap.size w c)(y:c.ownsRow w.heap.size 82 3 v rs.length<|cG rs)(C:rs.length<=n):
  aD (c.setCell (d8 b 3) v) B b p h bN j s v {l with recs:=rs} d n D N/\kI b p w (c.setCell (d8 b 3) v)/\Fr [b] w (c.setCell (d8 b 3) v):=by
 have E:=(zza.1 a.blk).1;have H:=(u.block b E).trans a.blk;have⟨W,o⟩:∃W,W=c.setCell ⟨b,3,none⟩ v:=⟨_,rfl⟩;rw[<-o];have x:Fr [b] c W:=by grind[Fr.cH]
 have i:=(Fr.bw u _).trans x;have A:W.heap[b]?=some (nc p s v {l with recs:=rs}):=by
  rw[o];have:=aH H 3 v;simpa using this
 have t:W.ownsRow w.heap.size 82 3 v rs.length (cG rs):=av y x λg m=>by simp;intro e;subst e;exact bG y H dN m
 have F:W.ownsRow B 34 1 s l.segs.length (dh l.segs):=av a.segs i (λg m q=>by
  simp at q;subst q;exact bG a.segs a.blk dN m)
 have r:aD W B b p h bN j s v {l with recs:=rs} d n D N:=a.rows i (by intro k f _;simp at f;exact .inl f) A F (Joins.ownsRow_le t a.bE.base.2.2.2) (zzc _) a.bE.hn a.dL C a.jv a.gy a.lS;exact⟨r,a.BG r i (by intro k f _;simp at f;simp[f]) (.inl rfl) (bn.refl _ _) (bn.refl _ _)<|bn.QI t,i⟩
theorem aD.LJ{A r:Value}{ss:List Nat}(a:aD w B b p h bN j A r l d n D N)(u:Below w.heap.size w c)(z:c.ownsRow w.heap.size 34 1 v ss.length<|dh ss)(E:ss.length<=n/\∀s∈ss,s<2^64):
  aD (c.setCell (d8 b 1) v) B b p h bN j v r {l with segs:=ss} d n D N/\kI b p w (c.setCell (d8 b 1) v)/\Fr [b] w (c.setCell (d8 b 1) v):=by
 have G:=(zza.1 a.blk).1;have H:=(u.block b G).trans a.blk;have⟨W,o⟩:∃W,W=c.setCell ⟨b,1,none⟩ v:=⟨_,rfl⟩;rw[<-o];have y:Fr [b] c W:=by grind[Fr.cH]
 have i:=(Fr.bw u _).trans y;have C:W.heap[b]?=some (nc p v r {l with segs:=ss}):=by
  rw[o];have:=aH H 1 v;simpa using this
 have x:W.ownsRow w.heap.size 34 1 v ss.length (dh ss):=av z y λg m=>by simp;intro e;subst e;exact bG z H dN m
 have F:W.ownsRow B 82 3 r l.recs.length (cG l.recs):=av a.recs i (λg m q=>by
  simp at q;subst q;exact bG a.recs a.blk dN m)
 have t:aD W B b p h bN j v r {l with segs:=ss} d n D N:=a.rows i (by intro k f _;simp at f;exact .inl f) C (Joins.ownsRow_le x a.bE.base.2.2.2) F (zzc _) a.bE.hn E a.fV a.jv a.gy a.lS;exact⟨t,a.BG t i (by intro k f _;simp at f;simp[f]) (.inl rfl) (bn.refl _ _) (bn.QI x)<|bn.refl _ _,i⟩
end Go.Proofs.YtdcafjmdfpjcbaaGreatDoor
