import Derived.Test.YtcalalndmcemiaaGreatDoorC32
import Derived.Test.YtcalalndmcemiaaGreatDoorC33
set_option maxHeartbeats 8000000
set_option maxRecDepth 100000
namespace Go.Proofs.YtcalalndmcemiaaGreatDoor
open Go.RowKit Go.Maps Tryz Sc
section
open Go.Shelf
variable{out:List bt}{B D N T b c e f g h i j m n p:Nat}{v:Value}{w:World}{d:ah}{l:au}
abbrev eL:ah:=⟨λ_=>none,λ_=>none,[],-1,-1,false⟩
theorem MB(w:World)(i:Nat):
  Calls prog 19 #[.int .i64 4,.int .i64 (i:Int)] w λe w'=>∃b p f g,e=.returned (.pointer<|some ⟨b,0,none⟩)/\w'.heap[b]?=some (fg i p false none none none)/\ax w' w.heap.size p f g (.slice none 0 0) eL 10 0 0/\w.heap.size<=b/\Below w.heap.size w w':=by
 have M:=@run_makeMap prog
 go_enter func19,ntmps19;go_wp2_with fail;have⟨W,h⟩:=gb <|((w.alloc<|.map #[] 0).alloc<|.cells #[.map<|some w.heap.size,.map none,.slice none 0 0,.int .i64<|-1,.int .i64<|-1,.bool false] 96).alloc (fg i (w.heap.size+1) false none none none);have O:=h;rw[<-O];clear O;have z:W.heap.size=w.heap.size+3:=by rw[h];simp
 have j:Below w.heap.size w W:=by rw[h];exact(((zzD _ w).alloc (zzc _) _).alloc bR _).alloc cE _
 have m:FileMap W w.heap.size 0 (λ_=>none):=by rw[h];exact((FileMap.made w).alloc _).alloc _
 have D:W.heap[w.heap.size+1]?=some (.cells #[.map<|some w.heap.size,.map none,.slice none 0 0,.int .i64<|-1,.int .i64<|-1,.bool false] 96):=by
  rw[h,zzf _ _ (w.heap.size+1) bR];have:=heap_alloc_new (w.alloc<|.map #[] 0)<|.cells #[.map<|some w.heap.size,.map none,.slice none 0 0,.int .i64<|-1,.int .i64<|-1,.bool false] 96;rw[zzv]at this;exact this
 have c:W.heap[w.heap.size+2]?=some (fg i (w.heap.size+1) false none none none):=by
  rw[h];have:=heap_alloc_new ((w.alloc<|.map #[] 0).alloc<|.cells #[.map<|some w.heap.size,.map none,.slice none 0 0,.int .i64<|-1,.int .i64<|-1,.bool false] 96)<|fg i (w.heap.size+1) false none none none;rw[zzv,zzv]at this;exact this
 clear h;have d:Hid (W.heap[w.heap.size+2]?=some (fg i (w.heap.size+1) false none none none)):=c;apply(Xd w.heap.size (w.heap.size+1) w.heap.size 10 0 (.slice none 0 0) (.map none) eL W D ⟨bL,bL,bL⟩ m bL bM<|by intro k t n;cases n).mono;rintro e a ⟨rfl,j_,bh⟩;have N:a.heap[w.heap.size+1+1]?=some (fg i (w.heap.size+1) false none none none):=(bh.block (w.heap.size+2) bL bR).trans d.out;have G:=j.trans (bh.below bL<|by intro k l;simp at l;omega);have H:=af<|show ax a w.heap.size (w.heap.size+1) w.heap.size W.heap.size (.slice none 0 0) eL 10 0 0/\Below w.heap.size w a/\a.heap[w.heap.size+1+1]?=some (fg i (w.heap.size+1) false none none none)from ⟨j_,G,N⟩;clear j_ bh N G D c m j;go_wp2;go_ret;exact⟨w.heap.size+1+1,w.heap.size+1,w.heap.size,W.heap.size,rfl,H.2.2,H.1,bL,H.2.1⟩
theorem ax.low{a:Nat}(h:ax w B p D N v d n b c)(e:a<=B):ax w a p D N v d n b c:=
 {h with base:=by have:=h.base;omega,pen:=ep h.pen e}
theorem aA.low{s r:Value}(a:aA w B h p D N v s r l d n e f)(b:c<=B):aA w c h p D N v s r l d n e f:=
 {a with bq:=a.bq.low b,base:=by have:=a.base;omega,segs:=ep a.segs b,recs:=ep a.recs b}
theorem pQ.low{V H:Nat}{s:ag}(a:pQ w B i e f p j g V T H h D N m n s l d v out)(c:b<=B):pQ w b i e f p j g V T H h D N m n s l d v out:=by
 have⟨r,u,t,o,q,k⟩:=a.sl.lg;exact⟨a.hh,a.fG,ep a.jz c,⟨a.sl.sh,⟨r,u,t,o,q,k.low c⟩,a.sl.ap,a.sl.oN⟩,by have:=a.hb;omega⟩
theorem nX.low{c:aU}(a:nX w B i j p f g T h D N m n c l d v out)(b:e<=B):nX w e i j p f g T h D N m n c l d v out:=by
 have⟨x,z,y,t,u,s⟩:=a.sl.lg;have⟨A,C,k,o,q,r⟩:=a.sl.co.ex;exact⟨a.hh,a.fG,ep a.jz b,⟨⟨⟨A,C,k,ep o b,ep q b,r⟩,a.sl.co.ai,by have:=a.sl.co.low;omega,a.sl.co.fB⟩,⟨x,z,y,t,u,s.low b⟩,a.sl.ju,a.sl.ne,a.sl.oN⟩,by have:=a.hb;omega⟩
theorem abN(h:One l d []):mD l d:=by
 rcases h.file with⟨_,g,i,o⟩|⟨ne,_⟩
 .exact⟨⟨0,[],{fail:=h.failed,segs:=by rw[g];rfl,recs:=by rw[h.recs];rfl,next:=by rw[h.next];rfl,fB:=bR,ne:=bR,size:=bR,none:=λ_=>i,fill:=bR,files:=by rw[g];simp}⟩,h.well.up⟩
 .exact absurd rfl ne
theorem VH(h:One l d []):l.segs=[]:=by
 rcases h.file with⟨_,g,-,-⟩|⟨ne,_⟩
 .exact g
 .exact absurd rfl ne
theorem BK:eL.ij 0:=⟨rfl,bM,bM⟩
def OpS(B p D N i:Nat)(w:World)(e:Ending)(w':World):Prop :=
 ∃d s g V T H l,e=.returned (.tuple #[.pointer (some ⟨d,0,none⟩),.nilIface])/\w'.heap[d]?=some (gK i none (some ⟨s,0,none⟩) (.slice none 0 0))/\SL w' B s g V T H 0 l p D N 10 Gb ((fI 1).opens eL).1 ((fI 1).opens eL).2.1/\(w.heap.size<=d/\w.heap.size<=s/\w.heap.size<=V/\w.heap.size<=T/\w.heap.size<=H/\w.heap.size<=g)/\rD p [] w w'
theorem MC(B p D N i:Nat)(w:World)(A:1<=i/\i<=8)(h:ax w B p D N (.slice none 0 0) eL 10 0 0):
  Calls prog 81 #[dX p,.int .i64 (i:Int)] w (OpS B p D N i w):=by
 have⟨W,a⟩:=gb <|w.alloc (gK i none none<|.slice none 0 0);have c:=a;have u:Fr [] w W:=by rw[a];exact(lT w).alloc _
 have M:W.heap[w.heap.size]?=some (gK i none none<|.slice none 0 0):=by rw[a];exact heap_alloc_new w _
 have⟨t,K,m,v,L⟩:=One.first (λ_=>rfl) rfl rfl BK;have j:=shOpen_0 B p D N 10 ((fI 1).opens eL) W m ⟨_,_,_,_,h.new u⟩ (λq c=>vV B p D N 10 0 _ eL q ((h.new u).new c) BK.up rfl t) (by rw[m,v];rfl);have G:¬((i:Int)<0):=bL
 have I:¬(8<(i:Int)):=bL;have J:¬((i:Int)=0):=bL;have H:=af<|zzb (h.new u)<|zzb u M;have S:Hid (W.heap.size=w.heap.size+1):=by rw[a];simp[Hid]
 clear u M h a;go_enter func81,ntmps81;go_wp2_with fail;rw[<-c];clear c;apply j.mono;clear j;rintro e n ⟨sp,gp,bV,bT,bH,lp,rfl,df,ei,eG⟩;have C:=(eG.block _ (zza.1 H.2.2).1 (H.1.iF H.2.2 bM bM) bR).trans H.2.2;have r:=ae C 2;have x:=aj C 2;simp at r;have⟨f,g⟩:∃f,f=n.setCell ⟨w.heap.size,2,none⟩ (.pointer<|some ⟨sp,0,none⟩):=⟨_,rfl⟩;have Q:Fr [w.heap.size] n f:=by rw[g];exact Fr.cD bR _ _
 have E:=af (show OpS B p D N i w (.returned (.tuple #[gx w.heap.size,.nilIface])) f from by
  refine⟨w.heap.size,sp,gp,bV,bT,bH,lp,rfl,by rw[g];have:=ar C 2<|.pointer<|some (gz sp);simp at this;exact this,df.Fm Q λk b _=>by simp at b;rw[b,C];exact⟨_,_,rfl,.inl rfl⟩,by have:=H.2.1.size;omega,?_⟩;refine⟨Q.os.trans<|eG.os.trans H.2.1.os,Q.tape.trans<|eG.tape.trans H.2.1.tape,Q.output.trans<|eG.output.trans H.2.1.output,zzk H.2.1.size<|zzk eG.size Q.size,λk b hn _=>?_⟩;have F:=zzl b H.2.1.size;refine(Q.block k (zzl F eG.size) cE).trans ((eG.block k F (λo=>hn ?_) bR).trans<|H.2.1.block k b bR);unfold rA at o ⊢;obtain e|e:=o
  .exact .inl e
  .right;rw[H.2.1.block p ?_ bR]at e
   .exact e
   .apply Classical.byContradiction;intro z;have y:=(zza.1 H.1.blk).1;have s:p=w.heap.size:=by have:=S.out;omega
    have l:=H.1.blk;rw[s,H.2.2]at l;cases l)
 clear df ei eG C Q;go_wp2;rw[<-g];go_ret2;exact E.out
theorem MD(B p D N i:Nat)(w:World)(a:1<=i/\i<=8)(h:ax w B p D N (.slice none 0 0) eL 10 0 0):
  Calls prog 42 #[dX p,.int .i64 (i:Int)] w (OpS B p D N i w):=by
 have u:=MC B p D N i w a h;clear h;go_enter func42,ntmps42;go_wp2_with fail;apply u.mono;clear u;rintro e b ⟨nd,sp,gp,bV,bT,bH,lp,rfl,h1,h2,h3,h4⟩;have E:=af<|show OpS B p D N i w (.returned<|.tuple #[.pointer<|some (gz nd),.nilIface]) b from ⟨nd,sp,gp,bV,bT,bH,lp,rfl,h1,h2,h3,h4⟩;clear h1 h2 h3 h4;go_wp2;go_ret2;exact E.out
def OpC(B p D N:Nat)(w:World)(e:Ending)(w':World):Prop :=
 ∃d c g T l,e=.returned (.tuple #[.pointer (some ⟨d,0,none⟩),.nilIface])/\w'.heap[d]?=some (gK 0 (some ⟨c,0,none⟩) none (.slice none 0 0))/\CL w' B c g T 0 l p D N 10 ⟨[],1,1,0,[],[]⟩ ((fI 1).opens eL).1 ((fI 1).opens eL).2.1/\(w.heap.size<=d/\w.heap.size<=c/\w.heap.size<=T/\w.heap.size<=g)/\rD p [] w w'
theorem ME(B p D N:Nat)(w:World)(h:ax w B p D N (.slice none 0 0) eL 10 0 0):
  Calls prog 81 #[dX p,.int .i64 0] w (OpC B p D N w):=by
 have⟨W,a⟩:=gb <|w.alloc (gK 0 none none<|.slice none 0 0);have c:W=w.alloc (.cells #[.int .i64 0,.pointer none,.pointer none,.slice none 0 0] 210):=a;have u:Fr [] w W:=by rw[a];exact(lT w).alloc _
 have M:W.heap[w.heap.size]?=some (gK 0 none none<|.slice none 0 0):=by rw[a];exact heap_alloc_new w _
 have⟨s,z,l,t,A⟩:=One.first (λ_=>rfl) rfl rfl BK;have g:=coOpen_0 B p D N 10 ((fI 1).opens eL) W l ⟨_,_,_,_,h.new u⟩ (λn c=>vV B p D N 10 0 _ eL n ((h.new u).new c) BK.up rfl s) (by rw[l,t];rfl);have H:=af<|zzb (h.new u)<|zzb u M;have S:Hid (W.heap.size=w.heap.size+1):=by rw[a];simp[Hid]
 clear u M h a;go_enter func81,ntmps81;go_wp2_with fail;rw[<-c];clear c;apply g.mono;clear g;rintro e m ⟨cp,gp,bT,lp,rfl,df,ei,eG⟩;have C:=(eG.block _ (zza.1 H.2.2).1 (H.1.iF H.2.2 bM bM) bR).trans H.2.2;have q:=ae C 1;have v:=aj C 1;simp at q;have⟨f,i⟩:∃f,f=m.setCell ⟨w.heap.size,1,none⟩ (.pointer<|some ⟨cp,0,none⟩):=⟨_,rfl⟩;have Q:Fr [w.heap.size] m f:=by rw[i];exact Fr.cD bR _ _
 have E:=af (show OpC B p D N w (.returned (.tuple #[gx w.heap.size,.nilIface])) f from by
  refine⟨w.heap.size,cp,gp,bT,lp,rfl,by rw[i];have:=ar C 1<|.pointer<|some (gz cp);simp at this;exact this,df.Fm Q λk b _=>by simp at b;rw[b,C];exact⟨_,_,rfl,.inl rfl⟩,by have:=H.2.1.size;omega,?_⟩;refine⟨Q.os.trans<|eG.os.trans H.2.1.os,Q.tape.trans<|eG.tape.trans H.2.1.tape,Q.output.trans<|eG.output.trans H.2.1.output,zzk H.2.1.size<|zzk eG.size Q.size,λk b hn _=>?_⟩;have F:=zzl b H.2.1.size;refine(Q.block k (zzl F eG.size) cE).trans ((eG.block k F (λo=>hn ?_) bR).trans<|H.2.1.block k b bR);unfold rA at o ⊢;obtain e|e:=o
  .exact .inl e
  .right;rw[H.2.1.block p ?_ bR]at e
   .exact e
   .apply Classical.byContradiction;intro y;have x:=(zza.1 H.1.blk).1;have r:p=w.heap.size:=by have:=S.out;omega
    have j:=H.1.blk;rw[r,H.2.2]at j;cases j)
 clear df ei eG C Q;go_wp2;rw[<-i];go_ret2;exact E.out
theorem MF(B p D N:Nat)(w:World)(h:ax w B p D N (.slice none 0 0) eL 10 0 0):
  Calls prog 42 #[dX p,.int .i64 0] w (OpC B p D N w):=by
 have u:=ME B p D N w h;clear h;go_enter func42,ntmps42;go_wp2_with fail;apply u.mono;clear u;rintro e a ⟨nd,cp,gp,bT,lp,rfl,h1,h2,h3,h4⟩;have E:=af<|show OpC B p D N w (.returned<|.tuple #[.pointer<|some (gz nd),.nilIface]) a from ⟨nd,cp,gp,bT,lp,rfl,h1,h2,h3,h4⟩;clear h1 h2 h3 h4;go_wp2;go_ret2;exact E.out
theorem abO(d:Nat)(s:Option Addr)(w:World)(c2:w.cell? ⟨d,2,none⟩=some (.pointer s)):Calls prog 82 #[.pointer<|some ⟨d,0,none⟩] w λe w'=>e=.returned (.pointer s)/\w'=w:=by
 go_enter func82,ntmps82;go_wp2;go_ret;exact⟨rfl,rfl⟩
theorem abP(d:Nat)(c:Option Addr)(w:World)(c1:w.cell? ⟨d,1,none⟩=some (.pointer c)):Calls prog 83 #[.pointer<|some ⟨d,0,none⟩] w λe w'=>e=.returned (.pointer c)/\w'=w:=by
 go_enter func83,ntmps83;go_wp2;go_ret;exact⟨rfl,rfl⟩
theorem jC(w:World)(b i j:Nat)(v:Value)(h:i≠j):(w.setCell ⟨b,i,none⟩ v).cell? ⟨b,j,none⟩=w.cell? ⟨b,j,none⟩:=by
 simp only[World.setCell,World.cell?,Array.getElem?_modify];cases hb:w.heap[b]? with
 |none=>simp
 |some o=>cases o<;>simp[h]
theorem I2(h d p s i:Nat)(v:Value)(w:World)(D:1<=i)(a:w.heap[h]?=some (fg i p false none none<|some ⟨d,0,none⟩))(hn:w.heap[d]?=some (gK i none (some ⟨s,0,none⟩) v)):
  Calls prog 43 #[.pointer<|some ⟨h,0,none⟩] w λe w'=>e=.returned (.tuple #[])/\w'.heap[h]?=some (fg i p true (some ⟨s,0,none⟩) none<|some ⟨d,0,none⟩)/\Fr [h] w w':=by
 have c3:=ae a 3;have k:=ae a 7;have A:=aj a 3;simp at c3 k;have⟨W,c⟩:∃W,W=w.setCell ⟨h,3,none⟩ (.bool true):=⟨_,rfl⟩;have u:Fr [h] w W:=by rw[c];exact Fr.cD bR _ _
 have R:W.heap[h]?=some (fg i p true none none<|some (gz d)):=by rw[c];have:=ar a 3<|.bool true;simp at this;exact this
 have f:d≠h:=by intro e;rw[e,a]at hn;cases hn
 have P:¬h=d:=λe=>f e.symm
 have G:=(u.block d (zza.1 hn).1<|by simpa using f).trans hn;have l:=ae R 1;have m:=ae R 5;have n:=ae R 6;have o:=ae R 7;have B:=aj R 5;have C:=aj R 6;have q:=ae G 1;have r:=ae G 2;simp at l m n o q r;have I:(0:Int)<i:=bL
 have J:¬((i:Int)=0):=bL;have H:=af<|zzb R u;clear a hn R G u
 go_enter func43,ntmps43;go_wp2;rw[<-c];clear c c3 k A;go_region_held3 (λw'=>w'.cell? (hO h 7)=some (.pointer<|some (gz d))/\w'.cell? (hO d 1)=some (.pointer none)/\w'.cell? (hO d 2)=some (.pointer<|some (gz s))) (simp[dB,jC, *])
  (first|(go_at_call 82;apply(abO d (some (gz s)) _<|by simp[*]).mono;rintro e E ⟨rfl,rfl⟩)|(go_at_call 83;apply(abP d none _<|by simp[*]).mono;rintro e E ⟨rfl,rfl⟩))
 have⟨b,O⟩:∃b,b=((W.setCell ⟨h,5,none⟩<|.pointer<|some ⟨s,0,none⟩).setCell ⟨h,6,none⟩<|.pointer none).drew:=⟨_,rfl⟩;rw[<-O];have Q:Fr [h] W b:=by rw[O];exact((Fr.cD bR _ _).trans<|Fr.cD bR _ _).drew
 have g:b.heap[h]?=some (fg i p true (some (gz s)) none<|some (gz d)):=by
  rw[O];have:=ar (ar H.1 5<|.pointer<|some (gz s)) 6<|.pointer none;simp at this;exact this
 have x:=ae g 1;have y:=ae g 3;have e5:=ae g 5;have z:=ae g 6;have F:=aj g 3;simp at x y e5 z;have j:=af<|zzb g<|H.2.trans Q;have K:0<i:=D;have L:¬i=0:=bL
 clear O Q g H l m n o B C q r f P;go_wp2
 go_region_held3 (λw'=>w'.cell? (hO h 1)=some (.int .i64 (i:Int))/\w'.cell? (hO h 5)=some (.pointer<|some (gz s))/\w'.cell? (hO h 6)=some (.pointer none)) (simp[jC, *]) (fail);go_end0;have t:(!((i:Int)==0))=true:=cE;rw[t];refine⟨rfl,?_,j.2.trans<|(Fr.cD bR _ _).drew⟩;have:=ar j.1 3<|.bool true;simp at this;exact this
theorem I3(h d p c:Nat)(v:Value)(w:World)(a:w.heap[h]?=some (fg 0 p false none none<|some ⟨d,0,none⟩))(hn:w.heap[d]?=some (gK 0 (some ⟨c,0,none⟩) none v)):
  Calls prog 43 #[.pointer<|some ⟨h,0,none⟩] w λe w'=>e=.returned (.tuple #[])/\w'.heap[h]?=some (fg 0 p true none (some ⟨c,0,none⟩)<|some ⟨d,0,none⟩)/\Fr [h] w w':=by
 have c3:=ae a 3;have k:=ae a 7;have y:=aj a 3;simp at c3 k;have⟨W,f⟩:∃W,W=w.setCell ⟨h,3,none⟩ (.bool true):=⟨_,rfl⟩;have u:Fr [h] w W:=by rw[f];exact Fr.cD bR _ _
 have R:W.heap[h]?=some (fg 0 p true none none<|some (gz d)):=by rw[f];have:=ar a 3<|.bool true;simp at this;exact this
 have i:d≠h:=by intro e;rw[e,a]at hn;cases hn
 have P:¬h=d:=λe=>i e.symm
 have G:=(u.block d (zza.1 hn).1<|by simpa using i).trans hn;have l:=ae R 1;have m:=ae R 5;have n:=ae R 6;have o:=ae R 7;have z:=aj R 5;have A:=aj R 6;have q:=ae G 1;have r:=ae G 2;simp at l m n o q r;have H:=af<|zzb R u;clear a hn R G u
 go_enter func43,ntmps43;go_wp2;rw[<-f];clear f c3 k y;go_region_held3 (λw'=>w'.cell? (hO h 7)=some (.pointer<|some (gz d))/\w'.cell? (hO d 1)=some (.pointer<|some (gz c))/\w'.cell? (hO d 2)=some (.pointer none)) (simp[dB,jC, *])
  (first|(go_at_call 82;apply(abO d none _<|by simp[*]).mono;rintro e B ⟨rfl,rfl⟩)|(go_at_call 83;apply(abP d (some (gz c)) _<|by simp[*]).mono;rintro e B ⟨rfl,rfl⟩))
 have⟨b,O⟩:∃b,b=((W.setCell ⟨h,5,none⟩<|.pointer none).setCell ⟨h,6,none⟩<|.pointer<|some ⟨c,0,none⟩).drew:=⟨_,rfl⟩;rw[<-O];have Q:Fr [h] W b:=by rw[O];exact((Fr.cD bR _ _).trans<|Fr.cD bR _ _).drew
 have g:b.heap[h]?=some (fg 0 p true none (some (gz c))<|some (gz d)):=by
  rw[O];have:=ar (ar H.1 5<|.pointer none) 6<|.pointer<|some (gz c);simp at this;exact this
 have s:=ae g 1;have t:=ae g 3;have e5:=ae g 5;have x:=ae g 6;have C:=aj g 3;simp at s t e5 x;have j:=af<|zzb g<|H.2.trans Q;clear O Q g H l m n o z A q r i P;go_wp2
 go_region_held3 (λw'=>w'.cell? (hO h 1)=some (.int .i64 0)/\w'.cell? (hO h 5)=some (.pointer none)/\w'.cell? (hO h 6)=some (.pointer<|some (gz c))) (simp[jC, *]) (fail);go_end0;refine⟨rfl,?_,j.2.trans<|(Fr.cD bR _ _).drew⟩;have:=ar j.1 3<|.bool true;simp at this;exact this
theorem YH(B b a p D N i:Nat)(w:World)(O:w.heap[a]?=some (fg i p false none none none))(h:ax w b p D N (.slice none 0 0) eL 10 0 0)(hB:2<=B)(jH:B<=b)(Qv:b<=a)(hi:1<=i/\i<=8)(bp:Met w):
  Calls prog 20 #[.pointer<|some ⟨a,0,none⟩,fy (-1) (-1) 0 0] w λe w'=>e=.returned (.int .i64 0)/\(∃L,dh w' B i a Gb [] 1 L/\∀k∈L,b<=k)/\Below b w w':=by
 have⟨W,y⟩:=gb <|w.alloc (gi (-1) (-1) 0 0);have C:Fr [] w W:=by rw[y];exact(lT w).alloc _
 have lG:=h.new C;have il:=(zza.1 O).1;have uI:=(C.block a il bR).trans O;have V:W.heap[w.heap.size]?=some (gi (-1) (-1) 0 0):=by rw[y];exact heap_alloc_new w _
 have QN:=C.below h.base.2.2.2 bR;have x0:=ae V 0;have x1:=ae V 1;have x2:=ae V 2;have x3:=ae V 3;simp at x0 x1 x2 x3;rw[y]at x0 x1 x2 x3;have f:=af<|zzb uI<|zzb V<|zzb lG QN;have HM:=af bp;clear O C lG uI V QN h bp
 go_enter func20,ntmps20;go_wp2_with fail;rw[<-y];clear y x0 x1 x2 x3;apply(jh a p D N i (.slice none 0 0) _ _ _ false false (-1) (-1) (-1) (-1) 0 0 W f.1 f.2.2.1.blk).mono;rintro e Z ⟨rfl,cG,bh⟩;have j_:=f.2.2.1.ic bh (-1) (-1) false cG;have a1:a≠p:=by intro e;have:=f.1;rw[e,f.2.2.1.blk]at this;cases this
 have CN:=(bh.block a (zza.1 f.1).1<|by simpa using a1).trans f.1;have eG:=(bh.block _ (zza.1 f.2.1).1<|by simp;intro e;have m:=f.2.1;rw[e,f.2.2.1.blk]at m;cases m).trans f.2.1;have xR:=f.2.2.2.trans (bh.below f.2.2.1.base.2.2.2<|by intro j u;simp at u;rw[u];exact f.2.2.1.base.1);have l:=af<|zzb CN<|zzb eG<|zzb j_ xR;clear cG bh j_ CN eG xR f;go_wp2_with fail;apply(J' a p i false _ _ _ Z l.1).mono;rintro e r ⟨rfl,pg,aQ⟩
 have zD:ax r b p D N (.slice none 0 0) eL 10 0 0:=by
  refine l.2.2.1.fr aQ (by simpa using λe=>a1 e.symm) ?_ ?_ ?_ ?_
  .simp;exact l.2.2.1.rz.cH l.1
  .simp;exact l.2.2.1.now.cH l.1
  .intro g hg;cases hg
  .intro q P t;simp at P;subst P;rw[l.1];intro e;cases e
 have iL:=(aQ.block _ (zza.1 l.2.1).1<|by simp;intro e;have m:=l.2.1;rw[e,l.1]at m;cases m).trans l.2.1;have sz:=l.2.2.2.trans (aQ.below l.2.2.1.base.2.2.2<|by intro j u;simp at u;omega);have gu:∀w',Fr [] r w'->Calls prog 42 #[dX p,.int .i64 (i:Int)] w' (OpS b p D N i w'):=λw' a7=>MD b p D N i w' hi<|zD.new a7
 have c0:=ae pg 0;have c1:=ae pg 1;have c2:=ae pg 2;simp at c0 c1 c2;have o:=af<|zzb pg<|zzb iL<|zzb zD sz;clear pg aQ zD iL sz l;go_wp2
 go_region_held3 (λw'=>w'.cell? (hO a 1)=some (.int .i64 (i:Int))/\w'.cell? (hO a 2)=some (.pointer<|some (gz p))) (simp[jC, *])
  (first|(go_at_call 42;apply(gu _<|by first|exact(lT r).drew|exact lT r).mono;rintro e F ⟨nd,sp,gp,bV,bT,bH,lp,rfl,QO,k_,ei,po⟩;have G:=(po.block a (by simpa using (zza.1 o.1).1) ((o.2.2.1.new<|(lT r).drew).iF o.1 bM bM) bR).trans o.1;have e1:=ae G 1;have e2:=ae G 2;have e7:=ae G 7;have a6:=aj G 7;simp at e1 e2 e7;have H:=af<|zzb QO<|zzb k_<|zzb ei<|zzb po G;clear QO k_ ei po G))
 have⟨v,J⟩:∃v,v=F.setCell ⟨a,7,none⟩ (.pointer<|some ⟨nd,0,none⟩):=⟨_,rfl⟩;rw[<-J];have Ad:=(o.2.2.2.trans<|(zzD b r).drew).trans ⟨H.2.2.2.1.os,H.2.2.2.1.tape,H.2.2.2.1.output,H.2.2.2.1.size,λq P=>H.2.2.2.1.block q (by have:=o.2.2.1.base.2.2.2;simp;omega) (λho=>by have:=(o.2.2.1.new<|(lT r).drew).geD ho;omega) bR⟩;have x:Fr [a] F v:=by rw[J];exact Fr.cD bR _ _
 have R:v.heap[a]?=some (fg i p false none none<|some (gz nd)):=by rw[J];have:=ar H.2.2.2.2 7<|.pointer<|some (gz nd);simp at this;exact this
 have QP:nd≠a:=by intro e;have m:=H.1;rw[e,H.2.2.2.2]at m;cases m
 have K:=(x.block nd (zza.1 H.1).1<|by simpa using QP).trans H.1;have zF:=H.2.1.other x H.2.2.2.2 bM bM bM bM bM bM bM bM;have E:=(H.2.2.2.1.block _ (by simpa using (zza.1 o.2.1).1) ((o.2.2.1.new<|(lT r).drew).iF o.2.1 bM bM) bR).trans o.2.1;have mn:=(x.block _ (zza.1 E).1<|by simp;intro e;have m:=E;rw[e,H.2.2.2.2]at m;cases m).trans E;have zo:=H.2.2.1;have Q:r.drew.heap.size=r.heap.size:=rfl;rw[Q]at zo;have QQ:=o.2.2.1.base.2.2.2;have lQ:=I2 a nd p sp i (.slice none 0 0) v hi.1 R K;have n:=af (zzb K<|zzb zF<|zzb mn<|zzb (Ad.trans<|x.below (zzk QQ<|zzk (Nat.le_of_eq Q.symm) H.2.2.2.1.size)<|by intro j u;simp at u;omega)<|zzb zo R);clear Ad x R K zF E mn zo gu c0 c1 c2 e1 e2 e7 a6 J H Q;go_wp2_with fail;apply lQ.mono;clear lQ;rintro e I ⟨rfl,hh5,cO⟩;have iz:=n.2.1.other cO n.2.2.2.2.2 bM bM bM bM bM bM bM bM;have QR:=(cO.block nd (zza.1 n.1).1<|by simpa using QP).trans n.1;have z:=(cO.block _ (zza.1 n.2.2.1).1<|by simp;intro e;have m:=n.2.2.1;rw[e,n.2.2.2.2.2]at m;cases m).trans n.2.2.1
 have QS:=n.2.2.2.1.trans (cO.below (zzk QQ<|by have:=(zza.1 n.1).1;have h9:=n.2.2.2.2.1;omega)<|by intro j u;simp at u;omega);have QT:=n.2.2.2.2.1;have S:pQ I b i a nd p sp gp bV bT bH lp D N 0 10 Gb ((fI 1).opens eL).1 ((fI 1).opens eL).2.1 (.slice none 0 0) []:=⟨hh5,QR,zzu _ _ _ _,iz,⟨bL,bL,bL,bL,bL,bL,bL⟩⟩;have y0:=ae z 0;have y1:=ae z 1;have y2:=ae z 2;have y3:=ae z 3;simp at y0 y1 y2 y3;have⟨o1,T,o3,o4,o5⟩:=One.first (λ_=>rfl) rfl rfl BK;have⟨a8,Ni⟩:∃X,I.heap[p]?=some (gv D N X ((fI 1).opens eL).2.1.left ((fI 1).opens eL).2.1.full ((fI 1).opens eL).2.1.down):=by have⟨X,sv,rv,nD,nN,hl⟩:=S.sl.lg;exact⟨X,hl.bq.blk⟩
 have s:=af<|zzb S<|zzb QS Ni;clear iz QR z QS QT S hh5 cO n Ni o1 o3 o4;go_wp2_with fail;have U:=s.2.2;rw[T]at U;apply(kG a p D N i a8 _ _ _ true _ _ (-1) (-1) 0 0 I s.1.hh U).mono;clear U y0 y1 y2 y3;rintro e w6 ⟨rfl,xO,dW⟩;rw[<-T]at xO;have⟨M4,Hq⟩:=s.1.sl.bQ (-1) (-1) dW xO s.2.2;have⟨uJ,qD⟩:=s.1.Ip Hq M4;have M:=s.2.1.trans<|qD.below s.1.size s.1.obj;have A:=af<|zzb uJ M;have QU:=HM.out.below M bL;have HO:=af o5;clear xO dW M4 Hq uJ qD M T o5;go_wp2_with fail;apply(gC 0 w6 QU).mono;rintro e w7 ⟨rfl,fJ⟩;have⟨Y,zM⟩:=A.1.new fJ;have H7:=af (show(∃L,dh w7 B i a Gb [] 1 L/\∀k∈L,b<=k)/\Below b w w7 from ⟨⟨_,⟨nd,p,sp,gp,bV,bT,bH,lp,D,N,0,10,_,_,_,Y.low jH,abN HO.out,⟨bM,by rw[VH HO.out];decide,bM⟩,rfl⟩,λk hk=>(Y.obj k hk).1⟩,A.2.trans<|zM.below A.1.size A.1.obj⟩);clear Y zM fJ;go_wp2;go_ret;exact⟨rfl,H7.out⟩
theorem YI(B b a p D N:Nat)(w:World)(O:w.heap[a]?=some (fg 0 p false none none none))(h:ax w b p D N (.slice none 0 0) eL 10 0 0)(hB:2<=B)(jH:B<=b)(Qv:b<=a)(bp:Met w):
  Calls prog 20 #[.pointer<|some ⟨a,0,none⟩,fy (-1) (-1) 0 0] w λe w'=>e=.returned (.int .i64 0)/\(∃L,cT w' B a ⟨[],1,1,0,[],[]⟩ [] 1 L/\∀k∈L,b<=k)/\Below b w w':=by
 have⟨W,x⟩:=gb <|w.alloc (gi (-1) (-1) 0 0);have A:Fr [] w W:=by rw[x];exact(lT w).alloc _
 have lG:=h.new A;have il:=(zza.1 O).1;have uI:=(A.block a il bR).trans O;have V:W.heap[w.heap.size]?=some (gi (-1) (-1) 0 0):=by rw[x];exact heap_alloc_new w _
 have QN:=A.below h.base.2.2.2 bR;have Z:=ae V 0;have x1:=ae V 1;have x2:=ae V 2;have x3:=ae V 3;simp at Z x1 x2 x3;rw[x]at Z x1 x2 x3;have f:=af<|zzb uI<|zzb V<|zzb lG QN;have HM:=af bp;clear O A lG uI V QN h bp
 go_enter func20,ntmps20;go_wp2_with fail;rw[<-x];clear x Z x1 x2 x3;apply(jh a p D N 0 (.slice none 0 0) _ _ _ false false (-1) (-1) (-1) (-1) 0 0 W f.1 f.2.2.1.blk).mono;rintro e Y ⟨rfl,cG,bh⟩;have j_:=f.2.2.1.ic bh (-1) (-1) false cG;have a1:a≠p:=by intro e;have:=f.1;rw[e,f.2.2.1.blk]at this;cases this
 have CN:=(bh.block a (zza.1 f.1).1<|by simpa using a1).trans f.1;have eG:=(bh.block _ (zza.1 f.2.1).1<|by simp;intro e;have l:=f.2.1;rw[e,f.2.2.1.blk]at l;cases l).trans f.2.1;have xR:=f.2.2.2.trans (bh.below f.2.2.1.base.2.2.2<|by intro j s;simp at s;rw[s];exact f.2.2.1.base.1);have i:=af<|zzb CN<|zzb eG<|zzb j_ xR;clear cG bh j_ CN eG xR f;go_wp2_with fail;apply(J' a p 0 false _ _ _ Y i.1).mono;rintro e o ⟨rfl,pg,aQ⟩
 have zD:ax o b p D N (.slice none 0 0) eL 10 0 0:=by
  refine i.2.2.1.fr aQ (by simpa using λe=>a1 e.symm) ?_ ?_ ?_ ?_
  .simp;exact i.2.2.1.rz.cH i.1
  .simp;exact i.2.2.1.now.cH i.1
  .intro g hg;cases hg
  .intro q P t;simp at P;subst P;rw[i.1];intro e;cases e
 have iL:=(aQ.block _ (zza.1 i.2.1).1<|by simp;intro e;have l:=i.2.1;rw[e,i.1]at l;cases l).trans i.2.1;have sz:=i.2.2.2.trans (aQ.below i.2.2.1.base.2.2.2<|by intro j s;simp at s;omega);have gu:∀w',Fr [] o w'->Calls prog 42 #[dX p,.int .i64 0] w' (OpC b p D N w'):=λw' a7=>MF b p D N w'<|zD.new a7
 have c0:=ae pg 0;have c1:=ae pg 1;have c2:=ae pg 2;simp at c0 c1 c2;have n:=af<|zzb pg<|zzb iL<|zzb zD sz;clear pg aQ zD iL sz i;go_wp2
 go_region_held3 (λw'=>w'.cell? (hO a 1)=some (.int .i64 0)/\w'.cell? (hO a 2)=some (.pointer<|some (gz p))) (simp[jC, *])
  (first|(go_at_call 42;apply(gu _<|by first|exact(lT o).drew|exact lT o).mono;rintro e E ⟨nd,cp,gp,bT,lp,rfl,QO,k_,ei,po⟩;have G:=(po.block a (by simpa using (zza.1 n.1).1) ((n.2.2.1.new<|(lT o).drew).iF n.1 bM bM) bR).trans n.1;have e1:=ae G 1;have e2:=ae G 2;have e7:=ae G 7;have a6:=aj G 7;simp at e1 e2 e7;have H:=af<|zzb QO<|zzb k_<|zzb ei<|zzb po G;clear QO k_ ei po G))
 have⟨u,J⟩:∃u,u=E.setCell ⟨a,7,none⟩ (.pointer<|some ⟨nd,0,none⟩):=⟨_,rfl⟩;rw[<-J];have Ad:=(n.2.2.2.trans<|(zzD b o).drew).trans ⟨H.2.2.2.1.os,H.2.2.2.1.tape,H.2.2.2.1.output,H.2.2.2.1.size,λq P=>H.2.2.2.1.block q (by have:=n.2.2.1.base.2.2.2;simp;omega) (λho=>by have:=(n.2.2.1.new<|(lT o).drew).geD ho;omega) bR⟩;have v:Fr [a] E u:=by rw[J];exact Fr.cD bR _ _
 have M:u.heap[a]?=some (fg 0 p false none none<|some (gz nd)):=by rw[J];have:=ar H.2.2.2.2 7<|.pointer<|some (gz nd);simp at this;exact this
 have QP:nd≠a:=by intro e;have l:=H.1;rw[e,H.2.2.2.2]at l;cases l
 have I:=(v.block nd (zza.1 H.1).1<|by simpa using QP).trans H.1;have zF:=H.2.1.other v H.2.2.2.2 bM bM bM bM bM bM bM bM bM bM;have C:=(H.2.2.2.1.block _ (by simpa using (zza.1 n.2.1).1) ((n.2.2.1.new<|(lT o).drew).iF n.2.1 bM bM) bR).trans n.2.1;have mn:=(v.block _ (zza.1 C).1<|by simp;intro e;have l:=C;rw[e,H.2.2.2.2]at l;cases l).trans C;have zo:=H.2.2.1;have Q:o.drew.heap.size=o.heap.size:=rfl;rw[Q]at zo;have QQ:=n.2.2.1.base.2.2.2;have lQ:=I3 a nd p cp (.slice none 0 0) u M I;have m:=af (zzb I<|zzb zF<|zzb mn<|zzb (Ad.trans<|v.below (zzk QQ<|zzk (Nat.le_of_eq Q.symm) H.2.2.2.1.size)<|by intro j s;simp at s;omega)<|zzb zo M);clear Ad v M I zF C mn zo gu c0 c1 c2 e1 e2 e7 a6 J H Q;go_wp2_with fail;apply lQ.mono;clear lQ;rintro e F ⟨rfl,hh5,cO⟩;have iz:=m.2.1.other cO m.2.2.2.2.2 bM bM bM bM bM bM bM bM bM bM;have QR:=(cO.block nd (zza.1 m.1).1<|by simpa using QP).trans m.1;have z:=(cO.block _ (zza.1 m.2.2.1).1<|by simp;intro e;have l:=m.2.2.1;rw[e,m.2.2.2.2.2]at l;cases l).trans m.2.2.1
 have QS:=m.2.2.2.1.trans (cO.below (zzk QQ<|by have:=(zza.1 m.1).1;have h9:=m.2.2.2.2.1;omega)<|by intro j s;simp at s;omega);have QT:=m.2.2.2.2.1;have R:nX F b a nd p cp gp bT lp D N 0 10 ⟨[],1,1,0,[],[]⟩ ((fI 1).opens eL).1 ((fI 1).opens eL).2.1 (.slice none 0 0) []:=⟨hh5,QR,zzu _ _ _ _,iz,⟨bL,bL,bL⟩⟩;have y0:=ae z 0;have y1:=ae z 1;have y2:=ae z 2;have y3:=ae z 3;simp at y0 y1 y2 y3;have⟨o1,S,o3,o4,o5⟩:=One.first (λ_=>rfl) rfl rfl BK;have⟨a8,Ni⟩:∃T,F.heap[p]?=some (gv D N T ((fI 1).opens eL).2.1.left ((fI 1).opens eL).2.1.full ((fI 1).opens eL).2.1.down):=by have⟨T,sv,rv,nD,nN,hl⟩:=R.sl.lg;exact⟨T,hl.bq.blk⟩
 have r:=af<|zzb R<|zzb QS Ni;clear iz QR z QS QT R hh5 cO m Ni o1 o3 o4;go_wp2_with fail;have U:=r.2.2;rw[S]at U;apply(kG a p D N 0 a8 _ _ _ true _ _ (-1) (-1) 0 0 F r.1.hh U).mono;clear U y0 y1 y2 y3;rintro e w6 ⟨rfl,xO,dW⟩;rw[<-S]at xO;have⟨M4,Hq⟩:=r.1.sl.bQ (-1) (-1) dW xO r.2.2;have⟨uJ,qD⟩:=r.1.zJ Hq M4;have K:=r.2.1.trans<|qD.below r.1.size r.1.obj;have y:=af<|zzb uJ K;have QU:=HM.out.below K bL;have HO:=af o5;clear xO dW M4 Hq uJ qD K S o5;go_wp2_with fail;apply(gC 0 w6 QU).mono;rintro e w7 ⟨rfl,fJ⟩;have⟨X,zM⟩:=y.1.new fJ;have H7:=af (show(∃L,cT w7 B a ⟨[],1,1,0,[],[]⟩ [] 1 L/\∀k∈L,b<=k)/\Below b w w7 from ⟨⟨_,⟨nd,p,cp,gp,bT,lp,D,N,0,10,_,_,_,X.low jH,abN HO.out,⟨bM,by rw[VH HO.out];decide,bM⟩,rfl⟩,λk hk=>(X.obj k hk).1⟩,y.2.trans<|zM.below y.1.size y.1.obj⟩);clear X zM fJ;go_wp2;go_ret;exact⟨rfl,H7.out⟩
end
end Go.Proofs.YtcalalndmcemiaaGreatDoor
