import Derived.Test.YtcalalndmcemiaaGreatDoorC01
set_option maxHeartbeats 1600000
set_option maxRecDepth 100000
namespace Go.Proofs.YtcalalndmcemiaaGreatDoor
open Go.RowKit Go.Maps Tryz Sc
variable{l:List Nat}{f g n:Nat}{w:World}
theorem AM(b f n p k:Nat)(w:World)(h:k<=n)(hn:n<=p)(d:p<=maxLen):
  Calls prog 243 #[.slice (some ⟨b,f,none⟩) n p,.int .i64 k] w λe w'=>e=.returned (.tuple #[.slice (some ⟨b,f,none⟩) k k,.slice (sw b f k p) (n-k)<|p-k])/\∃q,w'=w.drewN q:=by
 unfold maxLen at d;have i:(0:Int)<=k:=bL;have a:(k:Int)<=p:=bL;have c:(k:Int)<=n:=bL;by_cases O:p=k
 .subst O;obtain rfl:n=p:=bL;go_enter func243,ntmps243;go_wp2;go_quiet (fail)
  go_wp2;go_ret2;refine⟨?_,_,rfl⟩;rw[pX,Nat.sub_self];rfl
 .go_enter func243,ntmps243;go_wp2;go_quiet (fail)
  go_wp2;go_ret2;refine⟨?_,_,rfl⟩;rw[jK bL];rfl
theorem DN(base b g k p:Nat)(d:Bool)(xs:List Nat)(w:World)(m:gy w b d)(h:g≠b)(A:w.ownsRow base 5 1 (.slice (some ⟨g,0,none⟩) k p) k<|bs xs)(hb:kE xs)(f:k<=1099511627776)(r:k+4<=p):
  Calls prog 157 #[.pointer<|some ⟨b,0,none⟩,.slice (some ⟨g,0,none⟩) k p] w λe w'=>e=.returned (.slice (some ⟨g,0,none⟩) (k+4) p) /\
   w'.ownsRow base 5 1 (.slice (some ⟨g,0,none⟩) (k+4) p) (k+4) (bs<|xs++be 4 (zP xs))/\(∀B,B<=b->B<=g->Below B w w'):=by
 have hlen:=Ji A;have U:=m.lt;have N:=Nq xs hb;have L:=af hlen;clear hlen;go_enter func157,ntmps157;go_wp2_with fail;apply(NH b g 0 k p d xs _ m h L.out hb f<|lA A).mono;rintro e i ⟨rfl,td,nA⟩;have E:=A.kept nA (Or.inr<|by simp[Value.ownBlock,h]);go_wp2_with fail;apply(R2 base g k p xs (zP xs) _ E r N).mono;rintro e j ⟨rfl,gH,fc⟩;go_wp2;go_ret;exact⟨rfl,gH,λB a c=>KC nA fc a c bL⟩
theorem heap_drewN(w:World)(q:Nat):(w.drewN q).heap=w.heap:=bR
theorem vN(w:World)(q:Nat)(r:Option Nat):w.grownBy (w.drewN q) r:=⟨rfl,rfl,rfl,bR,λk _ _=>bR⟩
def lX(l:List Nat):Bool:=zP (l.take (l.length-4))==val (l.drop (l.length-4))
def NI(g f n:Nat)(l:List Nat):Value:=if lX l=true then .slice (some ⟨g,f,none⟩) (n-4) (n-4) else .slice none 0 0
theorem DQ(h:lX l=true):NI g f n l=.slice (some ⟨g,f,none⟩) (n-4) (n-4):=by unfold NI;rw[if_pos h]
theorem Jp(h:lX l=false):NI g f n l=.slice none 0 0:=by unfold NI;rw[if_neg<|by rw[h];decide]
theorem Gt(b g f n p:Nat)(d:Bool)(l:List Nat)(w:World)(q:gy w b d)(u:g≠b)(o:l.length=n)(hb:kE l)(hn:5<=n)(B:n<=1099511627776)(s:n<=p)(r:p<=maxLen)(I:cW w g f l):
  Calls prog 199 #[.pointer<|some ⟨b,0,none⟩,.slice (some ⟨g,f,none⟩) n p] w λe w'=>
   e=.returned (.tuple #[NI g f n l,.bool<|lX l])/\gy w' b true/\w.grownBy w' (some b):=by
 have L:=af o;have M:=af q;have R:=af I;have P:=r;unfold maxLen at P;clear o q I
 go_enter func199,ntmps199
 go_wp2_with fail;rw[show((n:Int)-4)=((n-4:Nat):Int) by omega];apply(AM g f n p (n-4) _ bL s r).mono;rintro e z ⟨rfl,q1,KM⟩;have H:=af KM;clear KM;have O:sw g f (n-4) p=some ⟨g,f+(n-4),none⟩:=jK (by omega);rw[O];have t:n-(n-4)=4:=bL
 rw[t];go_wp2_with fail;have E:cW z g (f+(n-4)) (l.drop<|n-4):=by
  have h:=(R.out.drewN q1).sub (n-4) 4 (by rw[L.out];omega);rw[zzt<|by rw[zzz,L.out];omega]at h;rw[H.out];exact h
 apply(NB g (f+(n-4)) 4 (p-(n-4)) (l.drop<|n-4) _ (λx y=>hb x<|List.mem_of_mem_drop y) (by rw[zzz,L.out];omega) bL bL eA E).mono;rintro e j ⟨rfl,q2,KN⟩;have V:=af KN;clear KN;rw[zzt<|by rw[zzz,L.out];omega];go_wp2_with fail;have c:j.heap=w.heap:=by rw[V.out,H.out,heap_drewN,heap_drewN]
 have m:w.grownBy j (some b):=by rw[V.out,H.out];exact aR (vN _ _ _)<|vN _ _ _
 clear E O;refine(NH b g f (n-4) (n-4) d (l.take<|n-4) _ (M.out.cI<|by rw[c]) u (by rw[zzm,L.out];omega) (hb.o8 _) bL ?_).mono ?_
 .intro i hi;rw[zzm,L.out]at hi;have h:=R.out i (by rw[L.out];omega);rw[show at_ (l.take<|n-4) i=at_ l i by simp[at_,show i<n-4 by omega]];rw[zze (w:=w) (w':=j) (a:=⟨g,f+i,none⟩)<|by rw[c]];exact h
 rintro e A ⟨rfl,lY,hU⟩;have Y:=af lY;have k:=af<|aR m hU;clear lY hU m c;by_cases hs:zP (l.take<|n-4)=val (l.drop<|n-4)
 .have pA:lX l=true:=by unfold lX;rw[L.out,hs];simp
  have v:((val (l.drop<|n-4):Int) != (zP (l.take<|n-4):Int))=false:=by rw[hs];simp
  have S:=af pA;clear hs pA;go_wp2;go_ret2;exact⟨by rw[DQ S.out,S.out];rfl,Y.out,k.out⟩
 .have pA:lX l=false:=by unfold lX;rw[L.out];simp[hs]
  have v:((val (l.drop<|n-4):Int) != (zP (l.take<|n-4):Int))=true:=cE
  have S:=af pA;clear hs pA;go_wp2;go_ret2;exact⟨by rw[Jp S.out,S.out];rfl,Y.out,k.out⟩
theorem tF(x:Int)(w:World):Calls prog 194 #[.int .i64 x] w λe w'=>e=.returned (.bool (x==0))/\w'=w:=by
 go_enter func194,ntmps194
 go_wp2;go_ret;exact⟨rfl,rfl⟩
def Gu(x:Int):Bool:=decide (1<=x/\x<=8)
theorem DS(x:Int)(w:World):Calls prog 195 #[.int .i64 x] w λe w'=>e=.returned (.bool (Gu x))/\w'=w:=by
 go_enter func195,ntmps195
 go_wp2
 all_goals go_ret
 all_goals refine⟨DR ?_,rfl⟩
 all_goals rw[Bool.eq_iff_iff]
 all_goals simp only[Gu,decide_eq_true_eq,Bool.false_eq_true]
 all_goals first|omega|(rw[false_iff];intro h;omega)
theorem rN(k f t x:Int)(w:World):
  Calls prog 155 #[.agg #[.int .i64 k,.int .i64 f,.int .i64 t,.int .u64 x]] w λe w'=>e=.returned (.bool (eX k f t x))/\w'=w.alloc (fk k f t x):=by
 go_enter func155,ntmps155
 go_wp2_with (first|(go_at_call 194;refine(tF _ _).mono ?_;rintro e w' ⟨rfl,rfl⟩)|(go_at_call 195;refine(DS _ _).mono ?_;rintro e w' ⟨rfl,rfl⟩))
 all_goals go_ret
 all_goals refine⟨DR ?_,by subst_vars;rfl⟩
 all_goals rw[Bool.eq_iff_iff]
 all_goals simp only[eX,Gu,decide_eq_true_eq,Bool.false_eq_true,beq_iff_eq,beq_eq_false_iff_ne] at *
 all_goals first|omega|(rw[false_iff];intro h;omega)
theorem val_one(l:List Nat)(h:0<l.length):val (l.take 1)=at_ l 0:=by
 cases l with
 |nil=>simp at h
 |cons a l=>simp[val,at_]
theorem cW.drop{b:Nat}(h:cW w b f l)(o:Nat)(c:o<=l.length):cW w b (f+o) (l.drop o):=λi a=>by
 rw[zzz] at a;have:=h (o+i) (by omega);rw[show f+o+i=f+(o+i) by omega,this,B5]
theorem below_drewN{B:Nat}{a:World}(h:Below B a w)(q:Nat):Below B a (w.drewN q):=⟨h.os,h.tape,h.output,h.size,h.block⟩
theorem wF(g f:Nat)(l:List Nat)(w:World)(k:l.length=11)(hb:kE l)(I:cW w g f l):
  Calls prog 200 #[.slice (some ⟨g,f,none⟩) 11 11] w λe w'=>e=.returned (.agg #[.int .i64 (at_ l 0:Nat),.int .i64 (at_ l 1:Nat),.int .i64 (at_ l 2:Nat),.int .u64 (val (l.drop 3):Nat)])/\Below w.heap.size w w':=by
 have L:Hid (l.length=11):=k;have m:=I.lt (by omega);have n:=pU hb 0;have o:=pU hb 1;have p:=pU hb 2;have R:Hid (cW (w.alloc (fk 0 0 0 0)) g f l):=(jr m).2 I;clear k I;have s:sw g f 1 11=some ⟨g,f+1,none⟩:=jK (by omega);have t:sw g (f+1) 1 10=some ⟨g,f+2,none⟩:=jK (by omega);have u:sw g (f+2) 1 9=some ⟨g,f+3,none⟩:=jK (by omega)
 go_enter func200,ntmps200
 go_wp2_with fail;refine(xd g f 11 11 l _ hb L.out (by omega) (by omega) (by decide) R.out).mono ?_;rintro e c ⟨rfl,q1,KM⟩;have U:Hid (c=(w.alloc (fk 0 0 0 0)).drewN q1):=KM;have Y:Hid (cW c g f l):=by rw[KM];exact R.out.drewN q1
 clear KM;rw[val_one l (by rw[L.out];omega)];go_wp2_with fail;refine(xd g (f+1) 10 10 (l.drop 1) _ (hb.drop 1) (by rw[zzz,L.out]) (by omega) (by omega) (by decide) (Y.out.drop 1 (by rw[L.out];omega))).mono ?_;rintro e d ⟨rfl,q2,KN⟩;have V:Hid (d=c.drewN q2):=KN;have j:Hid (cW d g f l):=by rw[KN];exact Y.out.drewN q2
 clear KN;rw[val_one (l.drop 1) (by rw[zzz,L.out];omega),B5];go_wp2_with fail;refine(xd g (f+2) 9 9 (l.drop 2) _ (hb.drop 2) (by rw[zzz,L.out]) (by omega) (by omega) (by decide) (j.out.drop 2 (by rw[L.out];omega))).mono ?_;rintro e h ⟨rfl,q3,V7⟩;have H:Hid (h=d.drewN q3):=V7;have J:Hid (cW h g f l):=by rw[V7];exact j.out.drewN q3
 clear V7;rw[val_one (l.drop 2) (by rw[zzz,L.out];omega),B5];go_wp2_with fail;refine(DM g (f+3) 8 8 (l.drop 3) _ (hb.drop 3) (by rw[zzz,L.out]) (by omega) (by omega) (by decide) (J.out.drop 3 (by rw[L.out];omega))).mono ?_;rintro e a ⟨rfl,q4,ZQ⟩;have b:Hid (a=h.drewN q4):=ZQ;clear ZQ;rw[zzt (l:=l.drop 3) (by rw[zzz,L.out];omega)];have A:∀i,a.cell? ⟨w.heap.size,i,none⟩=(w.alloc (fk 0 0 0 0)).cell? ⟨w.heap.size,i,none⟩:=λi=>by rw[b.out,H.out,V.out,U.out];simp
 have r:a.heap.size=w.heap.size+1:=by rw[b.out,H.out,V.out,U.out];simp
 have O:Below w.heap.size w a:=by
  rw[b.out,H.out,V.out,U.out];exact below_drewN (below_drewN (below_drewN (below_drewN ((zzD _ _).alloc (zzc _) _) _) _) _) _
 have q:∀i,a.frozen? ⟨w.heap.size,i,none⟩=false:=λi=>by rw[b.out,H.out,V.out,U.out];simp
 have z:Below w.heap.size w ((((a.setCell ⟨w.heap.size,0,none⟩ (.int .i64 (at_ l 0:Nat))).setCell ⟨w.heap.size,1,none⟩ (.int .i64 (at_ l 1:Nat))).setCell ⟨w.heap.size,2,none⟩ (.int .i64 (at_ l 2:Nat))).setCell ⟨w.heap.size,3,none⟩ (.int .u64 (val (l.drop 3):Nat))) :=
  (((O.setCell (zzc _) _).setCell (zzc _) _).setCell (zzc _) _).setCell (zzc _) _
 clear O;go_wp2;exact bodyPost_ret (v:=.agg #[.int .i64 (at_ l 0:Nat),.int .i64 (at_ l 1:Nat),.int .i64 (at_ l 2:Nat),.int .u64 (val (l.drop 3):Nat)]) (by simp[results,results200,go_sem,A]) rfl ⟨rfl,z⟩
theorem xK(o:Option Addr)(n p:Nat)(w:World)(hn:n≠15):
  Calls prog 158 #[.slice o n p] w λe w'=>e=.returned (.tuple #[.agg #[.int .i64 0,.int .i64 0,.int .i64 0,.int .u64 0],.iface 44<|.int .i64 2])/\Below w.heap.size w w':=by
 have R:(((n:Int)) != 15)=true:=cE;go_enter func158,ntmps158;go_wp2;exact bodyPost_ret (by simp[results,results158,go_sem]) rfl ⟨rfl,(zzD _ _).alloc (zzc _) _⟩
theorem uL(w:World):gy (w.alloc<|.cells zeroCells282 282) w.heap.size false:=by
 have e:∀i,(w.alloc<|.cells zeroCells282 282).cell? (hO w.heap.size i)=zeroCells282[i]?:=λi=>World.cell?_alloc_new w _ _ i
 have hs:Tryz.zeroCells282.size=259:=dJ;refine⟨?_,?_,λh=>absurd h bM,λi a=>?_,λi=>?_⟩
 .rw[e];kernel_rfl
 .rw[e];kernel_rfl
 .rw[e];exact⟨_,Array.getElem?_eq_getElem<|by rw[hs];omega⟩
 .exact World.frozen?_alloc_new w _ _ i
theorem NK{e:World}(h:Below w.heap.size w e)(z:w.heap.size<e.heap.size)(a b c d:Value)(o p:Obj):
  Below w.heap.size w ((((((e.setCell ⟨w.heap.size,0,none⟩ a).setCell ⟨w.heap.size,1,none⟩ b).setCell ⟨w.heap.size,2,none⟩ c).setCell ⟨w.heap.size,3,none⟩ d).alloc o).alloc p):=by
 refine Below.alloc (Below.alloc ((((h.setCell (zzc _) _).setCell (zzc _) _).setCell (zzc _) _).setCell (zzc _) _) ?_ _) ?_ _
 .simp[World.setCell];omega
 .simp[World.setCell];omega
def Gv(b:Bool):Value:=if b=true then .nilIface else .iface 44 (.int .i64 2)
theorem xL:Gv true=.nilIface:=rfl
theorem tG:Gv false=.iface 44 (.int .i64 2):=rfl
theorem KO(h:l.length=15):lX l=(zP (l.take 11)==val (l.drop 11)):=by unfold lX;rw[h]
theorem uM(g f c:Nat)(l:List Nat)(w:World)(m:l.length=15)(hb:kE l)(s:15<=c)(y:c<=maxLen)(I:cW w g f l):
  Calls prog 158 #[.slice (some ⟨g,f,none⟩) 15 c] w λe w'=>e=.returned (.tuple #[xI l,Gv<|js l])/\Below w.heap.size w w':=by
 have G:∀(x:Bool) (w:World),(Op.unary .not<|.bool x).run prog w=.ok (.bool<|!x) w:=λ_ _=>rfl
 have r:=I.lt (by omega);have L:=af m;have z:=af I;have R:Hid (cW ((w.alloc<|fk 0 0 0 0).alloc<|.cells zeroCells282 282) g f l):=(jr cE).2<|(jr r).2 I
 have M:Hid (gy ((w.alloc<|fk 0 0 0 0).alloc<|.cells zeroCells282 282) (w.heap.size+1) false):=by
  have:=uL<|w.alloc<|fk 0 0 0 0;rw[zzv]at this;exact this
 clear m I;go_enter func158,ntmps158;go_wp2_with fail;apply(Gt (w.heap.size+1) g f 15 c false l _ M.out bL L.out hb bL bL s y R.out).mono;rintro e a ⟨rfl,td,nA⟩;have E:Below (w.heap.size+1) (w.alloc<|fk 0 0 0 0) a:=((zzD _ _).alloc (by simp) _).grown nA (by simp) (λq u=>by cases u;exact zzc _);have n:Hid (Below w.heap.size w a):=((zzD _ _).alloc (zzc _) _).trans (E.mono bL);have X:∀i,a.cell? (hO w.heap.size i)=(w.alloc<|fk 0 0 0 0).cell? (hO w.heap.size i):=λi=>E.cell bR
 have j:∀i,a.frozen? (hO w.heap.size i)=false:=λi=>by rw[E.frozen bR];simp
 have b:w.heap.size<a.heap.size:=by have:=E.size;simp at this;omega
 have Y:Hid (cW a g f l):=AB R.out nA bL;clear td nA E;have U:=KO L.out;rcases Bool.eq_false_or_eq_true (lX l)with hs|hs
 .rw[DQ hs,hs];have S:=af hs;rw[U]at hs;have B:=af hs;clear hs U;go_wp2_with fail;refine(wF g f (l.take 11) _ (by rw[zzm,L.out];rfl) (hb.o8 11) λi t=>?_).mono ?_
  .rw[zzm,L.out]at t;rw[xe l 11 i bL];exact Y.out i<|by rw[L.out];omega
  rintro e d ⟨rfl,cZ⟩;rw[xe l 11 0 bL,xe l 11 1 bL,xe l 11 2 bL,show(l.take 11).drop 3=(l.drop 3).take 8 by rw[List.drop_take]];rw[show val ((l.drop 3).take 8)=oA l from rfl];have k:∀i,d.cell? (hO w.heap.size i)=(w.alloc<|fk 0 0 0 0).cell? (hO w.heap.size i):=λi=>(cZ.cell b).trans<|X i
  have Q:∀i,d.frozen? (hO w.heap.size i)=false:=λi=>(cZ.frozen b).trans<|j i
  have h:=zzl b cZ.size;have C:Hid (Below w.heap.size w d):=n.out.trans (cZ.mono bL);clear cZ X j;go_wp2_with fail;apply(rN _ _ _ _ _).mono;rintro e D ⟨rfl,rfl⟩;rcases Bool.eq_false_or_eq_true (eX (at_ l 0) (at_ l 1) (at_ l 2)<|oA l)with A|A
  .have o:js l=true:=by unfold js;rw[A,B.out];rfl
   have O:=af o;clear o;go_wp2;rw[AP O.out,O.out,xL];exact bodyPost_ret (by simp[results,results158,go_sem,k,h]) rfl ⟨rfl,NK C.out h _ _ _ _ _ _⟩
  .have o:js l=false:=by unfold js;rw[A];rfl
   have O:=af o;clear o;go_wp2;rw[xJ O.out,O.out,tG];exact bodyPost_ret (by simp[results,results158,go_sem,k,h]) rfl ⟨rfl,NK C.out h _ _ _ _ _ _⟩
 .rw[Jp hs,hs];have o:js l=false:=by unfold js;rw[U]at hs;rw[hs];simp
  have O:=af o;clear hs U o;go_wp2;rw[xJ O.out,O.out,tG];exact bodyPost_ret (by simp[results,results158,go_sem,X]) rfl ⟨rfl,((((n.out.setCell (zzc _) _).setCell (zzc _) _).setCell (zzc _) _).setCell (zzc _) _)⟩
end Go.Proofs.YtcalalndmcemiaaGreatDoor
