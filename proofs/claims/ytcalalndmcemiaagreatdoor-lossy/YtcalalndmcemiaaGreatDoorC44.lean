import Derived.Test.YtcalalndmcemiaaGreatDoorC43
set_option maxHeartbeats 8000000
set_option maxRecDepth 100000
namespace Go.Proofs.YtcalalndmcemiaaGreatDoor
open Go.RowKit Go.Maps Tryz Sc
section
open Go.Shelf
variable{s:List (List Nat)}{out:List bt}{er i j sq:Nat}{A:aB}{x:aS}{s':ag}
def Ul(A:aB)(n:Nat):aB:=if 12<=A.c.ai.length then { A with c:=A.c.begun.1 } else { A with c:=A.c.begun.1,ds:=A.ds++[⟨A.c.next,List.replicate (n+1) 0,[],false,false,0⟩] }
def Nj(A:aB)(j i:Nat)(x:aS)(sq:Nat)(s':ag)(out:List bt)(ws:List (Nat × ByteArray × ByteArray))(er:Nat):aB :=
 if er=0 then { A with ss:=A.ss.set i (s',out),ds:=A.ds.set j { x with writes:=x.writes++ws,seq:=x.seq.set (i+1) (sq+1) } } else { A with ss:=A.ss.set i (s',out),ds:=A.ds.set j { x with lost:=true } }
theorem xB{ws:List (Nat × ByteArray × ByteArray)}(h:er=0):Nj A j i x sq s' out ws er={ A with ss:=A.ss.set i (s',out),ds:=A.ds.set j { x with writes:=x.writes++ws,seq:=x.seq.set (i+1) (sq+1) } }:=if_pos h
theorem Dg{ws:List (Nat × ByteArray × ByteArray)}(h:¬er=0):Nj A j i x sq s' out ws er={ A with ss:=A.ss.set i (s',out),ds:=A.ds.set j { x with lost:=true } }:=if_neg h
abbrev iV(kd a b c:Int):Obj:=.cells #[.int .i64 kd,.int .i64 a,.int .i64 b,.int .i64 c,.int .i64 (-1),.int .i64 (-1),.int .i64 0,.int .i64 0] 42
structure oh(w0 w:World)(B np n K:Nat)(hv dv bv ov:Value)(fl:Bool)(az:List Nat)(ps:List (Nat × Value × Value))(A:aB):Prop where
 law:ee w B np hv dv bv ov n fl az ps A.ds A.bC A.ord
 oZ:∃Ls,jI w B az A.c A.co A.ss K Ls
 bC:∀g,bv.ownBlock=some g->w0.heap.size<=g
 xA:wS B w0 w
section
variable{w0 w w':World}{B np n K E:Nat}{hv dv bv ov:Value}{fl:Bool}{az:List Nat}{ps:List (Nat × Value × Value)}{A A':aB}
theorem bJ.l(h:bJ w0 w B np n K hv az A):∃dv bv ov fl ps,oh w0 w B np n K hv dv bv ov fl az ps A:=by
 obtain⟨dv,bv,ov,fl,ps,s,a,b,c,d⟩:=h;exact⟨dv,bv,ov,fl,ps,a,⟨s,b⟩,c,d⟩
theorem oh.b(h:oh w0 w B np n K hv dv bv ov fl az ps A):bJ w0 w B np n K hv az A:=by
 obtain⟨s,a⟩:=h.oZ;exact⟨dv,bv,ov,fl,ps,s,h.law,a,h.bC,h.xA⟩
theorem oh.new(h:oh w0 w B np n K hv dv bv ov fl az ps A)(hf:Fr [] w w'):oh w0 w' B np n K hv dv bv ov fl az ps A:=by
 obtain⟨s,a⟩:=h.oZ;exact⟨h.law.new hf,⟨s,a.new hf⟩,h.bC,h.xA.trans (xu.new hf h.law.low.2).lg⟩
theorem oh.node{s:List (List Nat)}(h:oh w0 w B np n K hv dv bv ov fl az ps A)(p:zL s B az A'.c A'.co A'.ss E w w')(e:A'.ds=A.ds)(a:A'.ord=A.ord)(b:A'.bC=A.bC):oh w0 w' B np n E hv dv bv ov fl az ps A':=by
 obtain⟨⟨r,hN⟩,hf,-⟩:=p;exact⟨by rw[e,a,b];exact h.law.Vm hf,⟨r,hN⟩,h.bC,h.xA.trans hf.lg⟩
theorem oh.met(h:oh w0 w B np n K hv dv bv ov fl az ps A)(a:2<=B)(m:Met w0)(p:bI w0):Met w/\bI w:=⟨h.xA.met a m,h.xA.lh a p⟩
theorem oh.Dh(h:oh w0 w B np n K hv dv bv ov fl az ps A)(hn:n=A.ss.length):∃a k,hv=.slice (some ⟨a,0,none⟩) (n+1) k/\∀i p,az[i]?=some p->w.cell? ⟨a,i,none⟩=some (cQ p):=by
 obtain⟨s,d⟩:=h.oZ;have o:=d.len.1;obtain⟨q,c,e,N⟩:=fP (f:=id) h.law.hs;obtain⟨u,l⟩:∃x,az[0]?=some x:=⟨_,zzg (by omega)⟩;obtain⟨g,rfl,-⟩:=N 0 u l;refine⟨g,c,by rw[e,o,hn],λi p m=>?_⟩;obtain⟨r,b,j⟩:=N i p m
 cases b;exact j
theorem bJ.up(h:bJ w0 w B np n K hv az A)(e:K<=E):bJ w0 w B np n E hv az A:=by
 obtain⟨dv,bv,ov,fl,ps,s,a,b,c,d⟩:=h;exact⟨dv,bv,ov,fl,ps,s,a,b.mono e,c,d⟩
structure uu(w0 w w':World)(B np n K:Nat)(hv dv bv ov:Value)(fl:Bool)(az:List Nat)(ps:List (Nat × Value × Value))(A:aB):Prop where
 net:oh w0 w' B np n K hv dv bv ov fl az ps A
 own:∀(q:Nat) (c:Array Value) (t:TypeId),w.heap[q]?=some (.cells c t)->¬bo t->w'.heap[q]?=some (.cells c t)
theorem uu.of{W:World}(h:uu w0 w w' B np n K hv dv bv ov fl az ps A)(hf:Fr [] W w):uu w0 W w' B np n K hv dv bv ov fl az ps A :=
 ⟨h.net,λq c t a b=>h.own q c t ((hf.block q (zza.1 a).1 (by simp)).trans a) b⟩
theorem I6:¬bo 42:=by simp[bo]
theorem oh.call{s:List (List Nat)}(h:oh w0 w B np n K hv dv bv ov fl az ps A)(p:zL s B az A'.c A'.co A'.ss E w w')(e:A'.ds=A.ds)(a:A'.ord=A.ord)(b:A'.bC=A.bC):uu w0 w w' B np n E hv dv bv ov fl az ps A' :=
 ⟨h.node p e a b,λq c t d f=>p.2.1.cells q c t _ d f⟩
end
section
variable{w0 w:World}{B np n K:Nat}{hv:Value}{az:List Nat}{A:aB}
theorem o7(a b c:Int)(h:bJ w0 w B np n K hv az A)(hn:n=A.ss.length)(rX:n<=90)(X:∀x∈A.ds,x.id<A.c.next)(zC:A.c.next<1000000000)(M:A.ds.length<=1000000)(hB:2<=B)(bp:Met w0)(aH:bI w0)(hK:K<=290000):
  Calls prog 56 #[cQ np,o0 1 a b c] w λe w'=>e=.returned (.bool true)/\bJ w0 w' B np n (K+1) hv az (Ul A n):=by
 obtain⟨dv,bv,ov,fl,ps,L⟩:=h.l;obtain⟨Q,hc,rfl,-⟩:=L.Dh hn;obtain⟨da,dc,rfl⟩:=L.law.dvS;obtain⟨D,hD⟩:∃D,D=A.ds.length:=⟨_,rfl⟩;rw[<-hD] at L;obtain⟨t,S⟩:∃t,t=A.c.begun.2.1:=⟨_,rfl⟩;obtain⟨v,J⟩:∃v:Int,v=(A.c.begun.2.2:Int):=⟨_,rfl⟩;obtain⟨W,j⟩:∃W,W=w.alloc (iV 1 a b c):=⟨_,rfl⟩;have gG:Fr [] w W:=by rw[j];exact(Fr.refl [] w).alloc _
 have P:W.heap[w.heap.size]?=some (iV 1 a b c):=by rw[j];exact heap_alloc_new w _
 have l:=L.new gG;obtain⟨u,I⟩:∃x,az[0]?=some x:=⟨_,zzg (by have:=h.ln;omega)⟩;obtain⟨g',Dy,eg,eN⟩:=l.Dh hn
 cases eg;have N:=eN 0 u I;have r:=ae l.law.net 0;have s:=ae P 0;have y:=ae P 4;have C:=ae P 5;have E:=ae P 6;have F:=ae P 7;simp at r s y C E F
 have a1:∀w',Fr [] W w'->Calls prog 11 #[.pointer (some ⟨u,0,none⟩),fy (-1) (-1) 0 0] w' λe a8=>e=.returned (.tuple #[.int .u64 (t:Int),.int .i64 v])/\uu w0 W a8 B np n (K+1) (.slice (some ⟨Q,0,none⟩) (n+1) hc) (.slice da D dc) bv ov fl az ps { A with c:=A.c.begun.1 }:=λw' a7=>by
  have q:=l.new a7;obtain⟨Ls,zN⟩:=q.oZ;obtain⟨U,Jw⟩:=q.met hB bp aH;have:=X6 zN I hB U Jw hK;rw[<-J,<-S] at this;refine this.mono ?_;rintro e a8 ⟨rfl,R⟩;exact⟨rfl,(q.call (A':={ A with c:=A.c.begun.1 }) R rfl rfl rfl).of a7⟩
 have HB:=af a1;have H:=af (zzb hn (zzb hD (zzb X (zzb S (zzb I (zzb J zC))))));have HS:=af (zzb P l);have an:D<=1000000:=by omega
 rw[j] at N r s y C E F;clear h L hn hD X S gG P l I a1 eN bp aH zC M J
 go_enter func56,ntmps56
 go_wp2_with fail;rw[<-j];rw[<-j] at N r s y C E F;clear j s
 go_region_held3 (λw'=>w'.cell? ⟨np,0,none⟩=some (.slice (some ⟨Q,0,none⟩) (n+1) hc)/\w'.cell? ⟨Q,0,none⟩=some (cQ u)/\w'.cell? ⟨w.heap.size,4,none⟩=some (.int .i64 (-1))/\w'.cell? ⟨w.heap.size,5,none⟩=some (.int .i64 (-1))/\w'.cell? ⟨w.heap.size,6,none⟩=some (.int .i64 0)/\w'.cell? ⟨w.heap.size,7,none⟩=some (.int .i64 0)) (simp[*])
  (first|(go_at_call 11;refine(HB.out _ (by first|exact cw (Fr.refl [] W) _|exact(Fr.refl [] W).drew|exact Fr.refl [] W)).mono ?_;rintro e w5 ⟨rfl,nt⟩;(obtain⟨g5,c5,aa,a6⟩:=nt.net.Dh H.1);cases aa;have Z:=a6 0 u H.2.2.2.2.1;have Yj:=ae nt.net.law.net 0;(have z:=nt.own _ _ _ HS.1 I6);have Yk:=ae z 4;have Yl:=ae z 5;have Ym:=ae z 6;have Yn:=ae z 7;simp at Z Yj Yk Yl Ym Yn;have d:=af nt.net;clear nt z a6))
 clear N r y C E F Z Yj Yk Yl Ym Yn;by_cases G:12<=A.c.ai.length
 .have k:t=0/\v=5:=by
   have f:=H.2.2.2.1;have g:=H.2.2.2.2.2.1;unfold aU.begun at f g;rw[if_pos G] at f g;exact⟨f,g⟩
  obtain⟨rfl,rfl⟩:=k;have H9:=af d.out.b;go_wp2_with fail;go_ret;exact⟨rfl,by unfold Ul;rw[if_pos G];exact H9.out⟩
 have k:t=A.c.next/\v=0:=by
  have f:=H.2.2.2.1;have g:=H.2.2.2.2.2.1;unfold aU.begun at f g;rw[if_neg G] at f g;exact⟨f,g⟩
 have V:=af k.1;have Wd:t<1000000000:=by rw[k.1];exact H.2.2.2.2.2.2
 have RN:=k.2;clear k;subst RN;have n1:=ae d.out.law.net 1;simp at n1;go_wp2_with fail
 go_loopw [7] (λi wr=>∃m:Nat,m<=D/\i=.int .i64 (m:Int)/\wr=w5) (λi _=>D-(intOf i).toNat)
 case atStart=>exact⟨0,zzs _,rfl,rfl⟩
 case round =>
  obtain⟨m,q,rfl,rfl⟩:=hrel;by_cases U:m<D
  .obtain⟨x,hx⟩:∃x,A.ds[m]?=some x:=⟨_,zzg (by rw[<-H.2.1];exact U)⟩;obtain⟨gd,al,p,ed,R,AU,M⟩:=d.out.law.nz hx;rw[show({ A with c:=A.c.begun.1 }:aB).ds.length=D from H.2.1.symm] at ed
   cases ed;have d0:=ae M.blk 0;simp at d0;have Y:=H.2.2.1 x (zzh hx);rw[<-V.out] at Y;have i0:(0:Int)<=(m:Int):=by omega
   have i1:(m:Int)<(D:Int):=by omega
   have i2:¬(t:Int)<=(x.id:Int):=by omega
   clear hx R M Y;go_wp2_with fail
   go_roundw
   case rel=>exact⟨m+1,by omega,by go_num,by first|rfl|trivial⟩
   case measure=>simp[intOf];omega
  .have i1:¬(m:Int)<(D:Int):=by omega
   have em:m=D:=by omega
   subst em;have n4:=ae d.out.law.net 4;simp at n4;have ab:=λo=>jY n1 o
   have ad:=λo T=>jY (ab o) T
   have av:=λo T o2=>jY (ad o T) o2
   have OZ:=λW:World=>mkI W (n+1) (by omega)
   rw[show(((n+1:Nat):Int))=(n:Int)+1 by omega] at OZ;have ao:IntKind.i64.wrap ((n:Int)+1)=(n:Int)+1:=by rw[IntKind.wrap_i64];omega
   obtain⟨Yo,jG⟩:=d.out.oZ;have a':=af jG;have il:ps.length<=60000000:=by have e1:ps.length=A.ds.length:=d.out.law.len;have:=H.2.1;omega
   clear jG;go_wp2_with fail
   go_region_law (first|(rw[if_pos (by rfl)];refine' Uj (A:={ A with c:=A.c.begun.1 }) (⟨A.c.next,List.replicate (n+1) 0,[],false,false,0⟩) d.out.law a'.out d.out.bC d.out.xA il _ _ rfl rfl rfl _ _ _ _ _ _ _ _ _ _ _ rfl _;rotate_left 6;(repeat (first|with_reducible exact Fr.refl [] _|with_reducible refine Fr.alloc ?_ _|with_reducible refine Fr.drew ?_));(repeat (first|with_reducible exact kX.new _ _ (by simp)|with_reducible refine kX.alloc ?_ _|with_reducible refine kX.drew ?_));(repeat (first|with_reducible exact kX.new _ _ (by simp)|with_reducible refine kX.alloc ?_ _|with_reducible refine kX.drew ?_));(repeat (first|with_reducible exact kX.new _ _ (by simp)|with_reducible refine kX.alloc ?_ _|with_reducible refine kX.drew ?_));(exact Or.inl ⟨rfl,rfl⟩);(simp;try omega);(simp;try omega);(simp[C0]);(simp);omega;(rw[V.out]);intro va vb vc w6 O h6;have c6:=ae O 1;have f6:=aj O 1;simp at c6;have H6:=af h6;clear h6 O;rotate_left 0))
   all_goals (go_wp2_with fail;go_ret;exact⟨rfl,by unfold Ul;rw[if_neg G];exact H6.out.net⟩)
theorem Ay(kd a b c:Int)(u:¬kd=1)(h:bJ w0 w B np n K hv az A)(f:A.ds=[]):
  Calls prog 56 #[cQ np,o0 kd a b c] w λe w'=>e=.returned (.bool true)/\bJ w0 w' B np n (K+1) hv az A:=by
 obtain⟨W,d⟩:∃W,W=w.alloc (iV kd a b c):=⟨_,rfl⟩;have G:Fr [] w W:=by rw[d];exact(Fr.refl [] w).alloc _
 have P:W.heap[w.heap.size]?=some (iV kd a b c):=by rw[d];exact heap_alloc_new w _
 obtain⟨dv,bv,ov,fl,ps,L⟩:=(h.new G).l;obtain⟨i,j,rfl⟩:=L.law.dvS;rw[f] at L;have g:=ae L.law.net 1;have s:=ae P 0;simp at g s;have H:=af ((h.new G).up (zzC K));rw[d] at g s;clear h L G P f
 go_enter func56,ntmps56
 go_wp2_with fail;rw[<-d];go_ret;exact⟨rfl,H.out⟩
end
def eV(c:Nat):ByteArray:=str (107 :: lI c)
theorem mW{c:Nat}(h:c<10):lI c=[48+c]:=by rw[lI,if_pos h]
theorem ry(c:Nat)(h:c<5):1<=(eV c).size/\(eV c).size<=16:=by
 unfold eV;rw[cR,mW (by omega)];simp
end
variable{K:Nat}{c:aU}{s:ag}
theorem Ri{x:bt}(h:x.Ok){p y:Nat}(E:p<15)(b:y<256)(a:y≠at_ x.bytes p):js (x.bytes.set p y)=false:=by
 have l:=x.eP;have B:=h.dec.1;rw[p9 l]at B;unfold js at B ⊢;simp only[Bool.and_eq_true,beq_iff_eq]at B;rw[Bool.and_eq_false_iff];right;rw[beq_eq_false_iff_ne];intro e;apply a;by_cases j:p<11
 .rw[List.take_set,List.drop_set,if_pos j,<-B.2]at e;rw[TH (x.bytes.take 11) p y (by rw[zzm];omega) (h.Ie.take 11) b e];unfold at_;rw[List.getD_eq_getElem?_getD,List.getD_eq_getElem?_getD,List.getElem?_take_of_lt j]
 .rw[List.take_set_of_le bL,List.drop_set,if_neg j,B.2]at e;rw[TI (x.bytes.drop 11) (p-11) y (by rw[zzz];omega) e.symm];unfold at_;rw[List.getD_eq_getElem?_getD,List.getD_eq_getElem?_getD,List.getElem?_drop];congr 2;omega
theorem MK(n g p:Nat)(l:List Nat)(b:l.length=15)(hb:kE l)(H:js l=false)(w:World)(a:cW w g 0 l)(d:15<=p/\p<=maxLen):
  Calls prog 116 #[.pointer<|some ⟨n,0,none⟩,.slice (some ⟨g,0,none⟩) 15 p] w λe w'=>e=.returned (cf 2)/\Fr [] w w':=by
 have I:=uM g 0 p l w b hb d.1 d.2 a;rw[H,tG,xJ H]at I;clear a d b hb;go_enter func116,ntmps116;go_wp2_with fail;apply I.mono;rintro e c ⟨rfl,cG⟩;clear I;have⟨W,h⟩:=gb <|c.alloc (fk 0 0 0 0);have F:Hid (Fr [] w W):=by rw[h];exact(Fr.aX cG []).alloc _
 clear cG;go_wp2_with fail;rw[<-h];go_ret;exact⟨rfl,F.out⟩
theorem BQ(B i E x p D N:Nat)(x1 x2:Option Addr)(v:Value)(lf fu:Int)(l:List Nat)(hl:l.length=15)(hb:kE l)(rH:js l=false)(w:World)(hB:2<=B)(a':B<=p)(Z:Met w)(g:w.heap[E]?=some (fg i p true x1 x2<|some ⟨x,0,none⟩))(m:w.heap[p]?=some (gv D N v lf fu false)):
  Calls prog 72 #[.pointer<|some ⟨E,0,none⟩,.string<|str l,fy (-1) (-1) 0 0] w λe w'=>e=.returned (.int .i64 2)/\w'.heap[p]?=some (gv D N v (-1) (-1) false)/\Fr [p] w w':=by
 obtain⟨W,h⟩:∃W,W=w.alloc (gi (-1) (-1) 0 0):=⟨_,rfl⟩;have u:Fr [] w W:=by rw[h];exact(lT w).alloc _
 have A:W.heap[w.heap.size]?=some (gi (-1) (-1) 0 0):=by rw[h];exact heap_alloc_new w _
 have a7:=(zza.1 g).1;have il:=(zza.1 m).1;have a8:E≠p:=λe=>by rw[e,m]at g;cases g
 have z:=(u.block E a7 bR).trans g;have lG:=(u.block p il bR).trans m;have r:=ae z 7;have J:=ae A 0;have K:=ae A 1;have M:=ae A 2;have Q:=ae A 3;simp at r J K M Q;rw[h]at r J K M Q;have H:=af<|zzb u<|zzb A<|zzb z<|zzb lG Z;have L:=af<|zzb hl<|zzb hb rH;clear u A z lG g m Z hl hb rH
 go_enter func72,ntmps72
 go_wp2_with fail;rw[<-h];clear h r J K M Q;apply(jh E p D N i v _ _ _ true false lf fu (-1) (-1) 0 0 W H.2.2.1 H.2.2.2.1).mono;rintro e b ⟨rfl,cG,bh⟩;have a6:w.heap.size≠p:=bL;have C:=(bh.block E (zza.1 H.2.2.1).1<|by simpa using a8).trans H.2.2.1;have mm:=(bh.block _ (zza.1 H.2.1).1<|by simpa using a6).trans H.2.1;have d:=af (zzb C<|zzb cG<|zzb mm<|(H.1.mono bR).trans bh);have s:=ae C 7;simp at s;clear cG bh C mm;have M0:=lO;have aa:(str l).size=15:=by rw[cR];exact L.1
 have⟨c,G⟩:=gb <|grownCap b 15 0 5;have⟨f,O⟩:=gb <|(b.alloc<|oB (str l) c).drew;have X:Fr [] b f:=by rw[O];exact((lT b).alloc _).drew
 have ir:cW f b.heap.size 0 l:=by
  have:=tH b (str l) c;rw[kU L.2.1]at this;rw[O];exact this
 have S:f.heap[b.heap.size]?=some (oB (str l) c):=by rw[O];exact heap_alloc_new b<|oB (str l) c
 have d_:15<=c/\c<=maxLen:=by rw[G];exact⟨grownCap_ge _ _ _ _,grownCap_le_maxLen _ _ _ _<|by unfold maxLen;decide⟩
 have e7:∀y,(b.alloc y).cell? ⟨E,7,none⟩=some (.pointer<|some ⟨x,0,none⟩):=λy=>(zze<|zzf b y E (zza.1 d.1).1).trans s
 have I:=MK x b.heap.size c l L.1 L.2.1 L.2.2 f ir d_;rw[aG bM]at I;have P:=af<|zzb X S;have U:=af I;clear S ir d_ X I;go_wp2_with fail;rw[<-G,<-O];clear O G e7 s M0;apply U.out.mono;rintro e w3 ⟨rfl,dz⟩;have R:=(dz.block _ (zza.1 P.2).1 bR).trans P.2;have H3:=af<|P.1.trans dz;have a1:=oY b.heap.size 15 c (bytesRow (str l) c) w3 R (by have:=nr (str l) c;omega) bM;clear R dz U P;go_wp2_with fail;refine a1.mono ?_;rintro e w4 ⟨rfl,fo⟩;have j:Fr [] b w4:=((H3.out.mono (T:=[b.heap.size]) bR).trans fo).mono (λk hk hm=>by simp at hm;omega);have V:=(j.block E (zza.1 d.1).1 bR).trans d.1;have uY:=(j.block p (zza.1 d.2.1).1 bR).trans d.2.1;have n:=(j.block _ (zza.1 d.2.2.1).1 bR).trans d.2.2.1;have y0:=ae n 0;have y1:=ae n 1;have y2:=ae n 2;have y3:=ae n 3;simp at y0 y1 y2 y3;have o:=af<|zzb V<|zzb uY j;clear n fo a1 V uY j;go_wp2_with fail;apply(kG E p D N i v _ _ _ true (-1) (-1) (-1) (-1) 0 0 w4 o.1 o.2.1).mono;clear y0 y1 y2 y3;rintro e F ⟨rfl,h_,cO⟩;have Y:Fr [p] w F:=(d.2.2.2.trans<|o.2.2.mono bR).trans cO;have mo:Met F:=H.2.2.2.2.below (Y.below (B:=B) (by omega)<|by intro k hk;simp at hk;omega) (by omega)
 have q:=af<|zzb h_ Y;clear h_ cO Y;have t:=gC 2 F mo;rw[aG bM]at t;go_wp2_with fail;apply t.mono;rintro e w6 ⟨rfl,dW⟩;have H6:=af (show w6.heap[p]?=some (gv D N v (-1) (-1) false)/\Fr [p] w w6 from ⟨(dW.block p (zza.1 q.1).1 bR).trans q.1,q.2.trans<|dW.mono bR⟩);clear dW t;go_wp2;go_ret;exact⟨rfl,H6.out⟩
section
variable{w:World}{B K:Nat}{G:List Nat}{c:aU}{co:List bt}{ss:List (ag × List bt)}{I:List (List Nat)}{E i:Nat}{s:ag}{out:List bt}
theorem adB(l:List Nat)(b:l.length=15)(hb:kE l)(H:js l=false)(h:jI w B G c co ss K I)(R:i<=ss.length)(C:G[i]?=some E)(A:2<=B)(z:Met w):
  Calls prog 72 #[.pointer<|some ⟨E,0,none⟩,.string<|str l,fy (-1) (-1) 0 0] w λe w'=>e=.returned (.int .i64 2)/\zL I B G c co ss K w w':=by
 cases i with
 |zero=>
  have⟨S,L,f,r,V⟩:=h.qA;rw[C]at f;cases f;obtain⟨k,p,M,q,T,x,D,N,m,n,lg,d,y,P,a,u,rfl⟩:=r;have⟨v,g⟩:∃v,w.heap[p]?=some (gv D N v d.left d.full d.down):=by have⟨v,sv,Y,U,W,b⟩:=P.sl.lg;exact⟨v,b.bq.blk⟩
  have t:=(P.obj p<|aL.2 bR).1;have j:=g;rw[a.2]at j;apply(BQ B 0 E k p D N _ _ v _ _ l b hb H w A t z P.hh j).mono;rintro e w' ⟨rfl,iA,pF⟩;rw[<-a.2]at iA;have⟨df,o⟩:=P.sl.bQ (-1) (-1) pF iA g;have⟨O,X⟩:=P.zJ o df;exact⟨rfl,V (zzc K) ⟨k,p,M,q,T,x,D,N,m,n,lg,_,y,O,a.bQ _ _,u,rfl⟩ h.cg X⟩
 |succ i=>
  have⟨S,L,f,r,Q,V⟩:=h.jg<|zzg R;rw[C]at f
  cases f;obtain⟨k,p,Z,q,J,T,F,x,D,N,m,n,lg,d,y,P,a,u,rfl⟩:=r;have⟨v,g⟩:∃v,w.heap[p]?=some (gv D N v d.left d.full d.down):=by have⟨v,sv,Y,U,W,b⟩:=P.sl.lg;exact⟨v,b.bq.blk⟩
  have t:=(P.obj p<|aL.2 bR).1;have j:=g;rw[a.2]at j;apply(BQ B (i+1) E k p D N _ _ v _ _ l b hb H w A t z P.hh j).mono;rintro e w' ⟨rfl,iA,pF⟩;rw[<-a.2]at iA;have⟨df,o⟩:=P.sl.bQ (-1) (-1) pF iA g;have⟨O,X⟩:=P.Ip o df;have:=V (zzc K) ⟨k,p,Z,q,J,T,F,x,D,N,m,n,lg,_,y,O,a.bQ _ _,u,rfl⟩ Q X;rw[List.set_getElem_self]at this;exact⟨rfl,this⟩
end
def gY(s:ag):List Nat:=waits (yi s.ai (iw s.ai))
def ny(i:Nat)(l:List Nat):List bt:=l.map λt=>⟨8,i,0,t⟩
theorem og(s:ag):(gY s).length<=s.ai.length:=by
 unfold gY waits yi iw;rw[zzn];apply zzk (List.length_filter_le _ _);rw[zzn,List.length_mergeSort,zzn];exact zzc _
theorem BI{t:Nat}(h:t∈gY s):(s.aP t).state=3:=by
 unfold gY waits yi at h;obtain⟨y,c,rfl⟩:=zzq.1 h;have⟨a,b⟩:=zzp.1 c;obtain⟨k,-,rfl⟩:=zzq.1 a;simpa [ag.aP]using b
theorem cz.tick(h:cz K s):cz (K+1) s.tick where
 once:=⟨h.once.1,List.Pairwise.filter _ h.once.2.1,List.Pairwise.filter _ h.once.2.2⟩
 xt:=λp E=>by have:=h.xt p (zzp.1 E).1;omega
 cnt:=λu=>zzk (count_filter s _ u)<|h.cnt u
 small:=λp E=>h.small p (zzp.1 E).1
 aC:=by show s.aC+1<=_;have:=h.aC;omega
 len:=zzk (List.length_filter_le _ _) h.len;alive:=λp E=>by
  have:=(zzp.1 E).2;unfold oM at this;simp at this;exact this
section
variable(B O E I p Z G o U j J a b m n K r:Nat)(s:ag)(c:aU)(l:au)(d:ah)(f:Value)(out:List bt)(w:World)(L:List Nat)
theorem Yw(h:pQ w B O E I p Z G o U j J a b m n s l d f out)(hl:s.ai.length<=12)(ht:s.aC+1<18446744073709551616)(ho:out.length<=60000000):
  Calls prog 91 #[.pointer<|some ⟨I,0,none⟩] w λe w'=>e=.returned (.tuple #[])/\∃c,pQ w' B O E I p Z G o U j J a b m n s.tick l d c (out++ny O (gY s.tick))/\jk (br E I p J Z G w) (br E I p J Z G w') w w':=by
 have c1:=ae h.fG 1;have c2:=ae h.fG 2;simp at c1 c2;have lK:=O' Z G o U j m s w h.sl.sh ht;have eh:s.tick.ai.length<=12:=zzk (List.length_filter_le _ _) hl;have⟨ws,V⟩:=gb <|gY s.tick;rw[<-V];have S:=af V;have H:=af h;clear h V;go_enter func91,ntmps91;go_wp2_with fail;apply lK.mono;rintro e D ⟨rfl,cJ,bh⟩;have⟨df,eG⟩:=H.out.sl.ic cJ bh (by intro k C;simp at C ⊢;obtain e|e|e:=C<;>simp[e]);have⟨r,gX⟩:=H.out.Ip eG df;have T:=ae r.fG 2;simp at T;have Q:=E3 Z G o U j m s.tick D r.sl.sh eh;have K:=af<|zzb r gX;clear cJ bh df eG r gX lK c1 c2;go_wp2_with fail;apply Q.mono;clear Q;rintro e w2 ⟨v,ss,rfl,uW,th,aI,-,cZ⟩;rw[n_ uW th]at aI;rw[show waits (yi s.tick.ai<|iw s.tick.ai)=ws from S.out.symm]at aI;have Bf:ws.length<=12:=by rw[S.out];exact zzk (og _) eh
 have⟨N,hN⟩:=gb ws.length;rw[<-hN]at aI;have⟨y,z,ev⟩:∃y z,v=.slice y N z:=by
  rcases aI.2 with⟨e,e2⟩|⟨g,a1,a6,e,-⟩
  .exact⟨none,0,by rw[e,e2]⟩
  .exact⟨_,_,e⟩
 subst ev;have W:=Fr.aX cZ [];have⟨jo,nB⟩:=K.1.new W;have F:=af<|zzb jo<|zzb (K.2.trans nB) aI;have a8:N<=12:=by rw[hN];exact Bf
 have M:=af hN;clear uW th cZ W jo nB aI hN T;go_wp2_with fail;go_loopw [3,30] (λ_ i wr=>∃k:Nat,k<=N/\i=.int .i64 (k:Int)/\Hid (∃c,pQ wr B O E I p Z G o U j J a b m n s.tick l d c (out++ny O (ws.take k))/\jk (br E I p J Z G w) (br E I p J Z G wr) w wr/\wr.ownsRow D.heap.size 43 1 (.slice y N z) N (eI ws))) (λ_ i _=>N-(intOf i).toNat)
 case atStart=>exact⟨0,zzs _,rfl,f,by simpa [ny]using F.1,F.2⟩
 case round=>
  obtain⟨k,C,rfl,R⟩:=hrel;by_cases bU:k<N
  .obtain⟨c,P,u,Xy⟩:=R.out;have⟨t,A⟩:∃t,ws[k]?=some t:=⟨_,zzg<|by rw[<-M.out];exact bU⟩
   obtain⟨g,rfl,cg⟩:∃g,y=some ⟨g,0,none⟩/\wr.cell? ⟨g,k,none⟩=some (.int .u64 (t:Int)):=by
    rcases Xy.2 with⟨e,e2⟩|⟨g,a1,a6,e,-⟩
    .omega
    .cases e;exact⟨g,rfl,dC Xy rfl<|by unfold eI;rw[zzy,A];rfl⟩
   have RJ:(0:Int)<=k:=bL;have i1:(k:Int)<N:=bL;have hlen:(out++ny O (ws.take k)).length<67108864:=by rw[zzi,ny,zzn,zzm];omega
   have pA:=nY B I O 8 0 t none (some (gz Z)) c (out++ny O (ws.take k)) wr P.fG P.jz P.size hlen;have X:=af<|zzb P<|zzb u<|zzb Xy A;clear P u Xy A hlen;go_wp2_with fail;apply pA.mono;clear pA;rintro e w5 ⟨rfl,iz⟩;have cO:=iz;have⟨a7,nt,jG⟩:=X.1.yX iz;obtain⟨-,-,-,gF,-⟩:=cO
   have Y:=bW X.2.2.1 (λq hq=>by
    have⟨cc,x⟩:=aq X.2.2.1 hq;refine gF.block q (zza.1 x).1 λhm=>?_;obtain e|e:=zzj.1 hm
    .rw[e,X.1.fG]at x;cases x
    .simp at e;have⟨c2,ef⟩:=aq X.1.jz e;rw[x]at ef;cases ef)
   have L:=af<|zzb nt<|zzb (X.2.1.trans jG) Y;clear nt jG Y gF;go_wp2_with fail
   go_roundw;case rel=>
    refine⟨k+1,bL,eR,a7,?_,L.2⟩
    have e9:out++ny O (ws.take<|k+1)=out++ny O (ws.take k)++[⟨8,O,0,t⟩]:=by
     rw[List.take_add_one,X.2.2.2];simp[ny]
    rw[e9];exact L.1
   case measure=>simp[intOf];omega
  .have ek:k=N:=bL;subst ek;have i1:¬(k:Int)<k:=bL;go_wp2_with fail;go_end0;obtain⟨c,P,u,-⟩:=R.out;rw[M.out,List.take_length]at P;exact⟨rfl,⟨c,P⟩,u⟩
theorem Yx(h:nX w B E I p r G U J a b m n c l d f out)(g:cN K c)(s:K<=1000000)(t:m<=60000000):
  Calls prog 91 #[.pointer<|some ⟨I,0,none⟩] w λe w'=>e=.returned (.tuple #[])/\nX w' B E I p r G U J a b (m+120) n c.tick l d f out/\jk (br E I p J r G w) (br E I p J r G w') w w':=by
 have c1:=ae h.fG 1;simp at c1;have R:=g.fB;have k:=Mv B r G U m c w h.sl.co g.len (λx q=>by have:=g.xt x q;omega) bL bL;have H:=af h;clear h g R;go_enter func91,ntmps91;go_wp2_with fail;apply k.mono;rintro e u ⟨rfl,cJ,bh⟩;have⟨df,j⟩:=H.out.sl.ic cJ bh;have i:=H.out.zJ j df;have c2:=ae i.1.fG 2;simp at c2;have o:=af i;clear cJ bh df j k c1 i;go_wp2_with fail;go_end0;exact⟨rfl,o.out⟩
theorem Yy(h:dh w B O E s out K L)(g:cz K s)(x:K<=290000):
  Calls prog 53 #[.pointer<|some ⟨E,0,none⟩] w λe w'=>e=.returned (.tuple #[])/\∃k,dh w' B O E s.tick (out++ny O (gY s.tick)) (K+1) k/\jk L k w w':=by
 obtain⟨I,p,Z,G,o,U,j,J,a,b,m,n,l,d,f,P,r,q,rfl⟩:=h;have u:=ae P.hh 7;simp at u;have t:=Yw B O E I p Z G o U j J a b m n s l d f out w P g.len (by have:=g.aC;omega) bL;have c:(gY s.tick).length<=12:=zzk (og _)<|zzk (List.length_filter_le _ _) g.len;have H:=af<|zzb r<|zzb q c;clear P r q g c
 go_enter func53,ntmps53;go_wp2_with fail;apply t.mono;clear t;rintro e y ⟨rfl,jl,eO,gX⟩;have i:=af<|zzb eO gX;clear eO gX;go_wp2_with fail;go_end0;refine⟨rfl,_,⟨I,p,Z,G,o,U,j,J,a,b,m,n,l,d,jl,i.1,H.1,?_,rfl⟩,i.2⟩;have v:=H.2;rw[zzi,ny,zzn];omega
theorem Yz(h:cT w B E c out K L)(j:cN K c)(u:K<=290000):
  Calls prog 53 #[.pointer<|some ⟨E,0,none⟩] w λe w'=>e=.returned (.tuple #[])/\∃i,cT w' B E c.tick out (K+1) i/\jk L i w w':=by
 obtain⟨I,p,r,G,U,J,a,b,m,n,l,d,f,P,o,k,rfl⟩:=h;have s:=ae P.hh 7;simp at s;have q:=Yx B E I p G U J a b m n K r c l d f out w P j bL bL;have H:=af<|zzb o k;clear P o k j
 go_enter func53,ntmps53;go_wp2_with fail;apply q.mono;clear q;rintro e v ⟨rfl,eO,gX⟩;have g:=af<|zzb eO gX;clear eO gX;go_wp2_with fail;go_end0;exact⟨rfl,_,⟨I,p,r,G,U,J,a,b,m+120,n,l,d,f,g.1,H.1,(by have t:=H.2;omega),rfl⟩,g.2⟩
end
theorem Df(h:cN K c)(x:Nat×fe):cN K (c.cU x):=by
 unfold aU.cU
 repeat' split
 all_goals first|exact h|exact h.out _ _|exact h.del _ _ _
theorem ur:∀(l:List<|Nat×fe) {c:aU},cN K c->cN K (l.foldl aU.cU c)
 |[],_,h=>h
 |x::l,_,h=>ur l<|Df h x
theorem cN.tick(h:cN K c):cN (K+1) c.tick:=
 ur _ ⟨h.once,h.len,by have:=h.fB;simp;omega,λq a=>by have:=h.xt q a;simp;omega⟩
section
variable{w:World}{B K:Nat}{z:List Nat}{c:aU}{co:List bt}{ss:List (ag × List bt)}{A:List (List Nat)}{E i:Nat}{s:ag}{out:List bt}
theorem YA(h:jI w B z c co ss K A)(u:z[0]?=some E)(d:K<=290000):
  Calls prog 53 #[.pointer<|some ⟨E,0,none⟩] w λe w'=>e=.returned (.tuple #[])/\zL A B z c.tick co ss (K+1) w w':=by
 have⟨q,L,a,b,V⟩:=h.qA;rw[u]at a;cases a;apply(Yz _ _ _ _ _ _ _ b h.cg d).mono;rintro e w' ⟨rfl,L',hn,hf⟩;exact⟨rfl,V (zzC K) hn h.cg.tick hf⟩
theorem abE(h:jI w B z c co ss K A)(hs:ss[i]?=some (s,out))(u:z[i+1]?=some E)(d:K<=290000):
  Calls prog 53 #[.pointer<|some ⟨E,0,none⟩] w λe w'=>e=.returned (.tuple #[])/\zL A B z c co (ss.set i (s.tick,out++ny (i+1) (gY s.tick))) (K+1) w w':=by
 have⟨q,L,a,b,g,V⟩:=h.jg hs;rw[u]at a;cases a;apply(Yy _ _ _ _ _ _ _ _ b g d).mono;rintro e w' ⟨rfl,L',hn,hf⟩;exact⟨rfl,V (zzC K) hn g.tick hf⟩
end
end Go.Proofs.YtcalalndmcemiaaGreatDoor
