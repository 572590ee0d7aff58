import Derived.Test.YtlgeloebpdmnnaaGreatDoorC23
import Derived.Test.YtlgeloebpdmnnaaGreatDoorC26
set_option maxHeartbeats 2000000
set_option maxRecDepth 100000
namespace Go.Proofs.YtlgeloebpdmnnaaGreatDoor
open Go.RowKit Go.Maps Tryz Sc
variable{S:List Nat}{Y:List Rec}{ss:List Sg}{ns:List nS}{T c f g hp k mk p:Nat}{F G:aG}{d d':aj}{w:nL}{nm:nS}
theorem uj(d:aj):(d.writes.2=0/\d.writes.1.down=false)\/(d.writes.2=9/\d.writes.1.down=false)\/(d.writes.2=10/\d.writes.1.down=true):=by grind[aj.writes]
theorem ki(d:aj):(d.sync.2=0/\d.sync.1.ak=d.pending.foldl dD d.ak/\d.sync.1.now=d.now/\d.sync.1.pending=[]/\d.sync.1.down=false) \/
  (d.sync.2≠0/\d.sync.1.ak=d.ak/\d.sync.1.now=d.now/\d.sync.1.pending=d.pending/\(d.sync.2=9/\d.sync.1.down=false\/d.sync.2=10/\d.sync.1.down=true)):=by grind[iX,uj,Aj,dD,pQ]
theorem B6(d:aj)(o:km)(b:o.kind<3):((d.tell o).2=0/\(d.tell o).1.ak=d.ak/\(d.tell o).1.now=dD d.now o/\(d.tell o).1.pending=d.pending++[o]/\(d.tell o).1.down=false) \/
  ((d.tell o).2=9/\(d.tell o).1.ak=d.ak/\(d.tell o).1.now=d.now/\(d.tell o).1.pending=d.pending/\(d.tell o).1.down=false) \/
  ((d.tell o).2=10/\(d.tell o).1.ak=d.ak/\(d.tell o).1.now=d.now/\(d.tell o).1.pending=d.pending++[o]/\(d.tell o).1.down=true):=by
 have s:=iX d;unfold aj.tell;rcases uj d with⟨h,a⟩|⟨h,a⟩|⟨h,a⟩
 .left;simp only[h];rw[mE dp,mE dp,mE dp,mE dp];refine⟨rfl,?_,?_,?_,a⟩<;>grind
 .grind
 .grind
def xu(nm:nS)(c:List Rec):List km:=c.map λr=>lX nm (str (aB r.cW r.kind r.pay))
theorem Ek(nm:nS)(c:List Rec)(r:Rec):xu nm (c++[r])=xu nm c++[lX nm<|str<|aB r.cW r.kind r.pay]:=by simp[xu]
theorem UO(nm:nS)(c:List Rec):xu nm c=(c.map λr=>str<|aB r.cW r.kind r.pay).map (lX nm):=by simp[xu]
theorem Yx:str []=gW:=by rfl
theorem yH:∀(c:List Rec),pj (c.map λr=>str<|aB r.cW r.kind r.pay)=str (dF c)
 |[]=>by simp[pj,dF,Yx]
 |r::c=>by
  have e:dF (r::c)=aB r.cW r.kind r.pay++dF c:=by simp[dF]
  rw[e,ue,<-yH c];rfl
theorem UQ(a b:List Rec):dF (a++b)=dF a++dF b:=by simp[dF]
theorem yI(nm:nS):∀(c:List Rec) (F:aG),c≠[]->(xu nm c).foldl dD F=F.plus nm (str<|dF c)
 |[],_,h=>absurd rfl h
 |r::c,F,_=>by
  have e:xu nm (r::c)=lX nm (str<|aB r.cW r.kind r.pay)::xu nm c:=rfl;rw[e,List.foldl_cons,qh];by_cases a:c=[]
  .subst a;simp[xu,dF]
  .rw[yI nm c _ a,qg,<-ue];have e:dF (r::c)=aB r.cW r.kind r.pay++dF c:=by simp[dF]
   rw[e]
def Clean(F:aG)(mk:Nat)(ss:List Sg):Prop:=∀u,F (aw u)≠none->u∈starts mk (chunks ss)
theorem uk(F:aG)(nm y:nS):F.plus nm y nm=some ((F nm).getD gW++y):=aG.f_ _ _ _
theorem eY(F:aG){x:nS}(y:nS)(h:x≠nm):F.plus nm y x=F x:=aG.cU _ _ h
theorem vT{a b:Nat}(h:a≠b):aw a≠aw b:=by grind[fN]
section
variable{F:aG}{mk:Nat}{ss ds:List Sg}{E c1:List Rec}{t:List Nat}
theorem bG.fresh(h:bG F mk ss)(c:Clean F mk ss):F (aw<|az mk ss)=none:=by
 cases hx:F (aw<|az mk ss)with
 |none=>rfl
 |some x=>
  exfalso;have:=(h.start<|c _<|by rw[hx];simp).2.2;omega
theorem gF(mk:Nat)(ds:List Sg)(c:List Rec)(t:List Nat):az mk (ds++[(c,t)])=az mk ds+c.length:=sY mk ds (c,t)
theorem Jb{a b:List Rec}{f:Nat}(h:∀(k:Nat) (r:Rec),a[k]?=some r->r.cW=f+k)(c:∀(k:Nat) (r:Rec),b[k]?=some r->r.cW=f+a.length+k):∀(k:Nat) (r:Rec),(a++b)[k]?=some r->r.cW=f+k:=by grind
theorem bG.more(h:bG F mk ss)(f:Clean F mk ss)(i:c1≠[])(hn:∀(k:Nat) (r:Rec),c1[k]?=some r->r.cW=az mk ss+k)(hf:xk c1)(j:vO t)(a:eU c1<870)(hb:az mk ss+c1.length<2^64):
  bG (F.plus (aw<|az mk ss)<|str<|dF c1++t) mk (ss++[(c1,t)]) where
 mark:=by rw[eY F _ λe=>(br<|az mk ss).1 e.symm];exact h.mark
 pos:=h.pos;ne:=λs a=>by
  obtain a|a:=zzo.1 a
  .exact h.ne s a
  .grind
 files:=λk s b=>by
  rw[List.getElem?_append]at b;split at b
  .rename_i o_;have d:=h.files k s b;rw[List.take_append_of_le_length dp];have W:az mk (ss.take k)<az mk ss:=by
    have:=(h.at_ b).2.2.2.2.2.2;have g:=zzE.2<|h.ne s<|zzh b;omega
   rw[eY F _<|vT dp];exact d
  .rename_i o_;have D:k-ss.length=0:=by grind
   rw[D]at b;simp at b;subst b;rw[List.take_append_of_le_length dp,zzt dp,uk,h.fresh f];simp[BO]
 uG:=λs a=>by
  obtain a|a:=zzo.1 a
  .exact h.uG s a
  .grind
 size:=λs l=>by
  obtain l|l:=zzo.1 l
  .exact h.size s l
  .grind
 gw:=by
  rw[aY,dY];exact Jb h.gw hn
 fine:=by
  rw[aY,dY];intro r c;obtain c|c:=zzo.1 c
  .exact h.fine r c
  .exact hf r c
 other:=λnm E=>by
  by_cases e:nm=aw (az mk ss)
  .grind [aY,eF,az]
  .rw[eY F _ e]at E;obtain d|d|⟨u,d,h2,g⟩:=h.other nm E
   .grind
   .grind
   .grind [aY,eF]
 dead:=λx hx=>by
  exfalso;rw[gF,eY F _<|vT<|by have:0<c1.length:=zzE.2 i;omega]at hx;have:=(h.start<|f _<|by rw[hx];simp).2.2;omega
 ve:=by rw[gF];exact hb
theorem Clean.more(c:Clean F mk ss)(y:nS):Clean (F.plus (aw<|az mk ss) y) mk (ss++[(c1,t)]):=λu h=>by
 rw[aY,eF];by_cases e:u=az mk ss
 .grind [az]
 .rw[eY F _<|vT e]at h;simp[c u h]
theorem bG.Z1(h:bG F mk ss)(c:Clean F mk ss)(j:vO t):bG (F.plus (aw<|az mk ss)<|str t) mk ss:=
 {mark:=by rw[eY F _ (λe=>(br (az mk ss)).1 e.symm)];exact h.mark
  pos:=h.pos
  ne:=h.ne
  files:=λk s a=>by
   have W:az mk (ss.take k)<az mk ss:=by
    have:=(h.at_ a).2.2.2.2.2.2;have b:=zzE.2<|h.ne s<|zzh a;omega
   rw[eY F _<|vT dp];exact h.files k s a
  uG:=h.uG
  size:=h.size
  gw:=h.gw
  fine:=h.fine
  other:=λnm E=>by
   by_cases e:nm=aw (az mk ss)
   .exact .inr<|.inr ⟨_,e,h.ve,.inr<|.inr rfl⟩
   .rw[eY F _ e]at E;exact h.other nm E
  dead:=λx hx=>by
   rw[uk,h.fresh c]at hx;simp at hx;exact⟨t,hx.symm,j⟩
  ve:=h.ve}
theorem bG.longer(h:bG F mk<|ds++[(E,[])])(g:Clean F mk<|ds++[(E,[])])(hn:∀(k:Nat) (r:Rec),c1[k]?=some r->r.cW=az mk (ds++[(E,[])])+k)(hf:xk c1)(j:vO t)(b:eU E+eU c1<870)(hb:az mk (ds++[(E,[])])+c1.length<2^64):
  bG (F.plus (aw<|az mk ds)<|str<|dF c1++t) mk (ds++[(E++c1,t)]) where
 mark:=by rw[eY F _ λe=>(br<|az mk ds).1 e.symm];exact h.mark
 pos:=h.pos;ne:=λs b=>by
  obtain b|b:=zzo.1 b
  .exact h.ne s<|by simp[b]
  .simp at b;subst b;have:=h.ne (E,[]) dv;intro e;simp at e;exact this e.1
 files:=λk s c=>by
  have o:=h.files ds.length (E,[]) dv;rw[List.take_append_of_le_length dp,zzt dp]at o;rw[List.getElem?_append]at c;split at c
  .rename_i o_;have p:(ds++[(E,[])])[k]?=some s:=by grind
   have a:=h.files k s p;rw[List.take_append_of_le_length dp]at a ⊢;have W:az mk (ds.take k)<az mk ds:=by
    have O:=BP mk ds<|k+1;rw[IQ c,sY]at O;have d:=zzE.2<|h.ne s<|zzh p;omega
   rw[eY F _<|vT dp];exact a
  .rename_i o_;have D:k-ds.length=0:=by grind
   rw[D]at c;simp at c;subst c;rw[List.take_append_of_le_length dp,zzt dp,uk,o];simp only[Option.getD_some,BO,wo];rw[<-ue,UQ,zzx]
 uG:=λs b=>by
  obtain b|b:=zzo.1 b
  .exact h.uG s<|by simp[b]
  .grind
 size:=λs l=>by
  obtain l|l:=zzo.1 l
  .exact h.size s<|by simp[l]
  .grind [ld]
 gw:=by
  have a:=h.gw;rw[aY,dY]at a ⊢;simp only;rw[<-zzx];refine Jb a λk r c=>?_;have:=hn k r c;rw[gF]at this;simp only[zzi];unfold az at this;omega
 fine:=by
  have a:=h.fine;rw[aY,dY]at a ⊢;simp only;rw[<-zzx];intro r f;obtain f|f:=zzo.1 f
  .exact a r f
  .exact hf r f
 other:=λnm n=>by
  have i:starts mk (chunks<|ds++[(E++c1,t)])=starts mk (chunks<|ds++[(E,[])]):=by grind[aY,vC]
  rw[i];by_cases e:nm=aw (az mk ds)
  .grind [gF,aY,eF,az]
  .rw[eY F _ e]at n;obtain a|a|⟨u,a,h2,d⟩:=h.other nm n
   .grind
   .grind
   .refine .inr<|.inr ⟨u,a,h2,?_⟩;obtain d|d|d:=d
    .grind
    .grind
    .exfalso;rw[a]at n;have:=(h.start<|g u n).2.2;omega
 dead:=λx hx=>by
  exfalso;have hp:0<E.length:=zzE.2 (h.ne (E,[]) dv);rw[gF,eY F _<|vT<|by rw[zzi];omega]at hx;have:=(h.start<|g _<|by rw[hx];simp).2.2;rw[gF,zzi]at this;omega
 ve:=by rw[gF]at hb ⊢;rw[zzi];omega
theorem Clean.longer(c:Clean F mk<|ds++[(E,[])])(y:nS):Clean (F.plus (aw<|az mk ds) y) mk (ds++[(E++c1,t)]):=λu h=>by
 have a:starts mk (chunks<|ds++[(E++c1,t)])=starts mk (chunks<|ds++[(E,[])]):=by grind[aY,vC]
 rw[a];by_cases e:u=az mk ds
 .grind [aY,eF,az]
 .rw[eY F _<|vT e]at h;exact c u h
end
def dP(F:aG):aj:=⟨F,F,[],-1,-1,false⟩
abbrev lZ(kd:Int)(p:Nat)(up:Bool)(u v:Value):Obj:=.cells #[.int .i64 kd,.int .i64 0,gx p,.bool up,.pointer none,u,v,.pointer none] 71
def jN(hp p:Nat)(so:Option (Nat × List Nat))(w:nL)(k:Nat):Prop:=k=hp\/nj p w k\/∃E S,so=some (E,S)/\(k=E\/k∈refs w.heap[E]?\/k∈S)
structure kI(hp p:Nat)(so iH:Option (Nat × List Nat))(w w':nL):Prop where
 os:w'.os=w.os
 tape:w'.tape=w.tape
 output:w'.output=w.output
 size:w.heap.size<=w'.heap.size
 block:∀k,k<w.heap.size->¬jN hp p so w k->w'.heap[k]?=w.heap[k]?
 stay:∀k,k<w.heap.size->jN hp p iH w' k->jN hp p so w k
theorem kI.trans{x y z:Option (Nat×List Nat)}{a b c:nL}(h:kI hp p x y a b)(k:kI hp p y z b c):kI hp p x z a c:=
 ⟨k.os.trans h.os,k.tape.trans h.tape,k.output.trans h.output,zzk h.size k.size,
  λi d hn=>(k.block i (zzl d h.size) λo=>hn<|h.stay i d o).trans<|h.block i d hn,
  λi d o=>h.stay i d (k.stay i (zzl d h.size) o)⟩
structure ug(w:nL)(B:Nat)(kd:Int)(hp p bD bN:Nat)(d:aj)(n:Nat):Prop where
 blk:w.heap[hp]?=some (lZ kd p false (.pointer none) (.pointer none))
 bP:∃pv nD nN,aC w B p bD bN pv d n nD nN
theorem fY:jN hp p none w k↔k=hp\/nj p w k:=by grind[jN]
theorem cQ{E:Nat}:jN hp p (some (E,S)) w k↔k=hp\/Own E p w k\/k∈S:=by grind[jN,Own,nj]
section
variable{w w':nL}{B hp E p bD bN I n n' nD J nN f:Nat}{pv O:Value}{d d':aj}{up:Bool}{kd:Int}{u v:Value}{so:Option (Nat × List Nat)}
theorem aC.Uw(h:aC w B p bD bN pv d n nD nN)(a:w.heap[hp]?=some (lZ kd p up u v)):¬nj p w hp:=h.kD a du du
theorem aC.lZ(h:aC w B p bD bN pv d n nD nN)(b:w.heap[hp]?=some (lZ kd p up u v))(hf:Fr [hp] w w'):aC w' B p bD bN pv d n nD nN:=by
 have a:=h.Uw b;rw[h.fI]at a;simp at a;apply h.fr hf (by simp;exact λe=>a.1 e.symm) (by simp;exact λe=>a.2.1 e.symm) (by simp;exact λe=>a.2.2.1 e.symm) (λg f=>by simp;intro e;subst e;exact a.2.2.2 f);intro q c t;simp at c;subst c;rw[b];intro e;cases e
theorem aC.vR{S:List Nat}(h:aC w B p bD bN pv d n nD nN)(c:aC w' B p bD I O d' n' J f)(hf:Fr S w w')(g:∀k∈S,k=hp\/k=p\/k=bD\/k=bN\/pv.ownBlock=some k)(hb:I=bN\/w.heap.size<=I)(b:bU w.heap.size pv O):kI hp p so none w w':=by
 have own:∀k,(k=hp\/k=p\/k=bD\/k=bN\/pv.ownBlock=some k)->jN hp p so w k:=λk a=>by
  obtain e|e|e|e|e:=a
  .exact .inl e
  .exact .inr<|.inl<|(h.fI k).2<|by simp[e]
  .exact .inr<|.inl<|(h.fI k).2<|by simp[e]
  .exact .inr<|.inl<|(h.fI k).2<|by simp[e]
  .exact .inr<|.inl<|(h.fI k).2<|by simp[e]
 refine⟨hf.os,hf.tape,hf.output,hf.size,λk a hn=>hf.block k a λm=>hn<|own k<|g k m,λk a o=>?_⟩;obtain e|e:=fY.1 o
 .grind
 .have:=(c.fI k).1 e;simp at this;obtain e|e|e|e:=this
  .grind
  .grind
  .grind
  .rcases b k e with e|e
   .grind
   .omega
theorem aC.Ux(h:aC w B p bD bN pv d n nD nN)(hf:Fr [] w w')(D:∀E S,so=some (E,S)->E<w.heap.size):kI hp p so so w w':=by
 have u:=h.new hf;refine⟨hf.os,hf.tape,hf.output,hf.size,λq a _=>hf.block q a dv,λq a o=>?_⟩;obtain e|e|⟨E,S,e1,e2⟩:=o
 .exact .inl e
 .exact .inr<|.inl<|(h.fI q).2<|(u.fI q).1 e
 .refine .inr<|.inr ⟨E,S,e1,?_⟩;rw[hf.block E (D E S e1) dv]at e2;exact e2
end
theorem AA(kd:Int)(hp p:Nat)(up:Bool)(u v:Value)(b:∃x,u=.pointer x)(d:∃x,v=.pointer x)(w:nL)(h:w.heap[hp]?=some (lZ kd p up u v)):
  Calls prog 28 #[gx hp] w λe w'=>e=.returned (.tuple #[])/\w'.heap[hp]?=some (lZ kd p false (.pointer none)<|.pointer none)/\Fr [hp] w w':=by
 obtain⟨x,rfl⟩:=b;obtain⟨y,rfl⟩:=d;have c3:=af h 3;have c4:=af h 4;have c5:=af h 5;have c:=af h 6;have a:=af h 7;have f:=aq h 3;have g:=aq h 4;have i:=aq h 5;have j:=aq h 6;have k:=aq h 7;simp at c3 c4 c5 c a;have H:=ah h;clear h;go_enter func28,ntmps28;go_wp2;go_end0;refine⟨rfl,?_,((((Fr.cG dv _ _).trans<|Fr.cG dv _ _).trans<|Fr.cG dv _ _).trans<|Fr.cG dv _ _).trans<|Fr.cG dv _ _⟩;have:=aF (aF (aF (aF (aF H.out 3<|.bool false) 4<|.pointer none) 5<|.pointer none) 6<|.pointer none) 7<|.pointer none;simp at this;exact this
theorem Ym(kd:Int)(B hp p bD bN n nD nN:Nat)(pv u v:Value)(up:Bool)(d:aj)(kept part:Int)(so:Option<|Nat×List Nat)(w:nL)(c:w.heap[hp]?=some (lZ kd p up u v))(j:∃x,u=.pointer x)(l:∃x,v=.pointer x)(h:aC w B p bD bN pv d n nD nN)(A:-2^63<=part)(G:part<=9223372036854775807):
  Calls prog 40 #[gx hp,.int .i64 kept,.int .i64 part] w λe w'=>e=.returned (.tuple #[])/\∃F I,Left d.ak d.pending F/\ug w' B kd hp p bD I (dP F) n/\kI hp p so none w w':=by
 have M:=AA kd hp p up u v j l w c;have b:=ah<|zzb c h;clear c h
 go_enter func40,ntmps40
 go_wp2_with fail;refine M.mono ?_;clear M;rintro e f ⟨rfl,AF,cY⟩;have R:=b.2.lZ b.1 cY;have i:kI hp p so none w f:=b.2.vR R cY (by intro k a;simp at a;simp[a]) (.inl rfl)<|bU.refl _ _;have c2:=af AF 2;simp at c2;have t:=Ec B p bD bN n nD nN pv d kept part f R A G;have H:=ah<|zzb AF<|zzb R i;clear AF cY R i;go_wp2_with fail;refine t.mono ?_;clear t;rintro e w2 ⟨rfl,F,I,J,hl,qA,dy,bH⟩;have U:=H.2.1.Uw H.1;rw[H.2.1.fI]at U;simp at U;have C:=(bH.block hp (zza.1 H.1).1<|by simp;exact⟨U.1,U.2.1⟩).trans H.1;have o:kI hp p none none f w2:=H.2.1.vR qA bH (by intro k a;simp at a;obtain e|e:=a<;>simp[e]) (.inr dy)<|bU.nil _ _;have g:Hid (∃F I,Left d.ak d.pending F/\ug w2 B kd hp p bD I (dP F) n/\kI hp p so none w w2):=⟨F,I,hl,⟨C,_,_,_,qA⟩,H.2.2.trans o⟩;clear hl qA dy bH C o U;go_wp2;go_end0;exact⟨rfl,g.out⟩
theorem xn(kd:Int)(B hp p bD bN n nD nN:Nat)(pv u v:Value)(up:Bool)(d:aj)(a b c k:Int)(so:Option<|Nat×List Nat)(w:nL)(T:∀E S,so=some (E,S)->E<w.heap.size)(z:w.heap[hp]?=some (lZ kd p up u v))(Y:∃x,u=.pointer x)(Z:∃x,v=.pointer x)(h:aC w B p bD bN pv d n nD nN)(mq:d.down=true)(qB:-2^63<=k)(mL:k<=9223372036854775807):
  Calls prog 34 #[gx hp,kS a b c k] w λe w'=>e=.returned (.tuple #[])/\∃F I,Left d.ak d.pending F/\ug w' B kd hp p bD I (dP F) n/\kI hp p so none w w':=by
 obtain⟨W,j⟩:∃W,W=w.alloc (iE a b c k):=⟨_,rfl⟩;have s:Fr [] w W:=by rw[j];exact(fU w).alloc _
 have G:=h.new s;have qI:=(zza.1 z).1;have r:=(s.block hp qI dv).trans z;have t:W.heap[w.heap.size]?=some (iE a b c k):=by rw[j];exact oz w _
 have L:kI hp p so so w W:=h.Ux s T;have c2:=af r 2;have c5:=af G.blk 5;have l:=af t 2;have m:=af t 3;simp at c2 c5 l m;rw[mq]at c5;have N:=AA kd hp p up u v Y Z W r;have X:=ah t;have o:=ah<|zzb r<|zzb G L;rw[j]at c2 c5;clear z h s G r t L l m
 go_enter func34,ntmps34;go_wp2_with fail;rw[<-j];clear j c2 c5;apply N.mono;clear N;rintro e g ⟨rfl,AF,cY⟩;have R:=o.2.1.lZ o.1 cY;have P:=o.2.2.trans (o.2.1.vR R cY (by intro k f;simp at f;simp[f]) (.inl rfl)<|bU.refl _ _);have V:w.heap.size≠hp:=by omega
 have A:=(cY.block _ (zza.1 X.out).1<|by simpa using V).trans X.out;have c2:=af AF 2;have l:=af A 2;have m:=af A 3;simp at c2 l m;have M:=Ec B p bD bN n nD nN pv d c k g.drew (R.new (fU g).drew) qB mL;have H:=ah<|zzb AF<|zzb R P;clear AF cY R P A;go_wp2
 go_region_with (first|(go_at_call 93;apply M.mono;rintro e w2 ⟨rfl,F,I,J,hl,qA,dy,bH⟩))
 all_goals (
  clear M;have U:=H.2.1.Uw H.1;rw[H.2.1.fI]at U;simp at U;have C:=(bH.block hp (show hp<g.drew.heap.size from(zza.1 H.1).1)<|by simp;exact⟨U.1,U.2.1⟩).trans H.1;have Q:kI hp p none none g w2:=H.2.1.vR qA ((Fr.refl _ g).drew.trans bH) (by intro k f;simp at f;obtain e|e:=f<;>simp[e]) (.inr dy)<|bU.nil _ _;have y2:=af C 2;have y3:=af qA.blk 3;have y4:=af qA.blk 4;have g3:=aq qA.blk 3;have g4:=aq qA.blk 4;simp at y2 y3 y4;have O:=U.1;have a1:¬p=hp:=λe=>O e.symm
  have i:=ah<|zzb C<|zzb qA<|zzb (H.2.2.trans Q) hl;clear hl qA dy bH C Q U c2 l m;go_wp2
  go_region_held3 (λw'=>w'.cell? ⟨hp,2,none⟩=some (.pointer<|some ⟨p,0,none⟩)) (simp[dL, *]) (fail);go_end0;have⟨q,D⟩:∃q,q=((w2.setCell ⟨p,3,none⟩<|.int .i64<|-1).setCell ⟨p,4,none⟩<|.int .i64<|-1).drew:=⟨_,rfl⟩;rw[<-D];have y:Fr [p] w2 q:=by rw[D];exact((Fr.cG dv _ _).trans<|Fr.cG dv _ _).drew
  have iL:q.heap[p]?=some (lH bD I (.slice none 0 0) (-1) (-1) (dP F).down):=by
   have:=aF (aF i.2.1.blk 3<|.int .i64<|-1) 4<|.int .i64<|-1;simp at this;rw[D];exact this
  have K:=i.2.1.fL y (-1) (-1) (dP F).down iL;have zy:=(y.block hp (zza.1 i.1).1<|by simpa using O).trans i.1;exact⟨rfl,F,I,i.2.2.2,⟨zy,_,_,_,K⟩,i.2.2.1.trans (i.2.1.vR K y (by intro k f;simp at f;simp[f]) (.inl rfl) (bU.refl _ _))⟩)
inductive Mode(l:au)(d:aj)(mk:Nat)(ss:List Sg)(c1:List Rec):Prop
 |rest (h1:c1=[]) (h2:d.pending=[]) (h3:d.now=d.ak) (h4:l.segs=starts mk (chunks ss)) (h5:l.filled=mU ss)
 |last (ds:List Sg) (c0:List Rec) (h0:ss=ds++[(c0,[])]) (h1:c1≠[]) (h2:d.pending=xu (aw (az mk ds)) c1) (h3:d.now=d.ak.plus (aw (az mk ds)) (str (dF c1))) (h4:l.segs=starts mk (chunks ss)) (h5:l.filled=eU c0+eU c1) (h6:eU c0+eU c1<870)
 |fresh (h1:c1≠[]) (h2:d.pending=xu (aw (az mk ss)) c1) (h3:d.now=d.ak.plus (aw (az mk ss)) (str (dF c1))) (h4:l.segs=starts mk (chunks ss)++[az mk ss]) (h5:l.filled=eU c1) (h6:eU c1<870)
structure kH(l:au)(d:aj)(mk:Nat)(ss:List Sg)(c1:List Rec):Prop where
 st:bG d.ak mk ss
 clean:Clean d.ak mk ss
 beg:zw d.ak mk ss
 recs:l.recs=(chunks ss).flatten++c1
 next:l.next=az mk ss+c1.length
 eZ:l.failed=0
 lB:l.ak=az mk ss
 Di:∀(k:Nat) (r:Rec),c1[k]?=some r->r.cW=az mk ss+k
 Dj:xk c1
 ve:az mk ss+c1.length<2^64
 mode:Mode l d mk ss c1
theorem UR(l:List Nat)(q:Nat):(str l).extract 0 q=str (l.take q):=by
 apply ByteArray.ext;rw[qe,ByteArray.data_extract,qe];simp
theorem rj(l:List Rec)(k:Nat):eU (l.take k)<=eU l:=by
 have h:=ld (l.take k)<|l.drop k;rw[Ez]at h;omega
theorem vU{c:List Rec}(h:xk c)(k:Nat):xk (c.take k):=λr a=>h r<|FQ a
theorem US{r:Rec}(h:r.kind<256/\r.pay.length<=255/\mG r.pay){q:Nat}(a:q<15+r.pay.length):vO ((aB r.cW r.kind r.pay).take q) where
 X8:=(qJ r.cW r.kind r.pay h.1 h.2.2).rB q
 no:=PW r.cW r.kind r.pay h.2.1 q a;le:=by rw[zzm,gu];have:=h.2.1;omega
theorem yJ{b:aG}{c:List Rec}(hf:xk c)(h:Left F (xu nm c) b):b=F\/∃k t,k<=c.length/\vO t/\b=F.plus nm (str<|dF (c.take k)++t):=by
 rw[UO]at h;obtain h|⟨k,hk,_,h⟩|⟨k,z,q,hz,h⟩:=P0 h
 .grind
 .right;rw[zzn]at hk;refine⟨k,[],hk,xj,?_⟩;rw[h,<-List.map_take,yH,wo]
 .right;rw[zzy]at hz;cases a:c[k]? with
  |none=>grind
  |some r=>
   rw[a]at hz;simp at hz;subst hz;have o:=(zzd.1 a).1;rw[<-List.map_take,yH,UR,<-ue]at h;by_cases d:q<15+r.pay.length
   .exact⟨k,_,dp,US (hf r<|zzh a) d,h⟩
   .refine⟨k+1,[],dp,xj,?_⟩;have e:(aB r.cW r.kind r.pay).take q=aB r.cW r.kind r.pay:=zzt (by rw[gu];omega);rw[h,e,wo,vV,a];simp[dF]
theorem oH(h:ss≠[]):zw F mk ss:=.inl (by
 unfold lY;intro e;have:=congrArg List.length e;rw[zzi,eT]at this;simp at this;exact h this.1)
section
variable{l:au}{d:aj}{mk:Nat}{ss:List Sg}{c1:List Rec}
theorem B7(h:∀(k:Nat) (r:Rec),c1[k]?=some r->r.cW=az mk ss+k)(j:Nat):∀(k:Nat) (r:Rec),(c1.take j)[k]?=some r->r.cW=az mk ss+k:=by grind
theorem kH.adN(h:kH l d mk ss c1){F:aG}(a:Left d.ak d.pending F):
  ∃j k,k<=c1.length/\bG F mk j/\zw F mk j/\(chunks j).flatten=(chunks ss).flatten++c1.take k/\j.length<=ss.length+1:=by
 have same:∃j k,k<=c1.length/\bG d.ak mk j/\zw d.ak mk j/\(chunks j).flatten=(chunks ss).flatten++c1.take k/\j.length<=ss.length+1:=⟨ss,0,zzs _,h.st,h.beg,dv,dp⟩;rcases h.mode with⟨g,b,i,m,n⟩|⟨ds,o,c,g,b,i,m,n,q⟩|⟨g,b,i,m,n,q⟩
 .rw[b]at a;rw[BN a];exact same
 .rw[b]at a;obtain e|⟨k,t,hk,hj,e⟩:=yJ h.Dj a
  .simp_all
  .rw[e];have f:=h.st;have M:=h.clean;have J:=B7 h.Di k;have V:=h.ve;rw[c]at f M J V;have hb:=rj c1 k;refine⟨ds++[(o++c1.take k,t)],k,hk,f.longer M J (vU h.Dj k) hj dp<|by rw[zzm];omega,oH dv,?_,by rw[c];simp⟩;rw[c,aY,aY,dY,dY,zzx]
 .rw[b]at a;obtain e|⟨k,t,hk,hj,e⟩:=yJ h.Dj a
  .simp_all
  .rw[e];have hb:=rj c1 k;by_cases D:c1.take k=[]
   .rw[D];have p:dF []++t=t:=by simp[dF]
    rw[p];refine⟨ss,0,zzs _,h.st.Z1 h.clean hj,.inl ?_,dv,dp⟩;unfold lY iG;rw[uk];simp
   .exact⟨ss++[(c1.take k,t)],k,hk,h.st.more h.clean D (B7 h.Di k) (vU h.Dj k) hj dp<|by rw[zzm];have:=h.ve;omega,oH dv,by rw[aY,dY],dv⟩
theorem kH.synced(h:kH l d mk ss c1){d':aj}(s:d'.ak=d.pending.foldl dD d.ak)(j:d'.now=d.now)(k:d'.pending=[]):
  ∃m,kH {l with ak:=l.next} d' mk m []/\(chunks m).flatten=(chunks ss).flatten++c1/\m.length<=ss.length+1:=by
 rcases h.mode with⟨a,f,b,g,n⟩|⟨ds,i,u,a,f,b,g,n,o⟩|⟨a,f,b,g,n,o⟩
 .subst a;have e:d'.ak=d.ak:=by grind
  refine⟨ss,⟨by rw[e];exact h.st,by rw[e];exact h.clean,by rw[e];exact h.beg,by simpa using h.recs,by simpa using h.next,h.eZ,by simpa using h.next,dv,by intro r c;simp at c,by simpa using h.ve,.rest rfl k (by rw[j,b,e]) g n⟩,dv,dp⟩
 .have e:d'.ak=d.ak.plus (aw<|az mk ds) (str<|dF c1):=by rw[s,f,yI _ _ _ a]
  have p:=h.st;have M:=h.clean;have J:=h.Di;have V:=h.ve;have B:=h.next;have F:=h.recs;rw[u]at p M J V B F;have S:=p.longer M J h.Dj xj o V;rw[wo,<-e]at S;have q:az mk (ds++[(i++c1,[])])=az mk (ds++[(i,[])])+c1.length:=by grind[gF]
  refine⟨ds++[(i++c1,[])],⟨S,by rw[e];exact M.longer _,oH dv,?_,?_,h.eZ,?_,dv,by intro r c;simp at c,by rw[q];simpa using V,.rest rfl k (by rw[j,b,e]) ?_ ?_⟩,?_,by rw[u];simp⟩
  .grind
  .grind
  .grind
  .grind [aY,vC]
  .grind [pk,nu,ld]
  .grind
 .have e:d'.ak=d.ak.plus (aw<|az mk ss) (str<|dF c1):=by rw[s,f,yI _ _ _ a]
  have S:=h.st.more h.clean a h.Di h.Dj xj o h.ve;rw[wo,<-e]at S;have q:=gF mk ss c1 [];refine⟨ss++[(c1,[])],⟨S,by rw[e];exact h.clean.more _,oH dv,?_,?_,h.eZ,?_,dv,by intro r c;simp at c,by rw[q];simpa using h.ve,.rest rfl k (by rw[j,b,e]) ?_ ?_⟩,by rw[aY,dY],dv⟩
  .show l.recs=_;rw[h.recs,aY,dY];simp
  .show l.next=_;rw[h.next,q];simp
  .show l.next=_;rw[h.next,q]
  .show l.segs=_;rw[g,aY,eF];rfl
  .grind [pk,nu]
end
section
variable{l:au}{d d':aj}{mk:Nat}{ss:List Sg}{c1:List Rec}{x:Rec}
theorem UT(h:∀(k:Nat) (r:Rec),c1[k]?=some r->r.cW=az mk ss+k)(hx:x.cW=az mk ss+c1.length):∀(k:Nat) (r:Rec),(c1++[x])[k]?=some r->r.cW=az mk ss+k:=by grind
theorem Qr(h:xk c1)(hx:x.kind<256/\x.pay.length<=255/\mG x.pay):xk (c1++[x]):=λr a=>by
 obtain a|a:=zzo.1 a
 .exact h r a
 .grind
theorem rk(r:Rec):eU [r]=15+r.pay.length:=by simp[eU]
theorem kH.told(h:kH l d mk ss c1)(hf:l.filled<600)(hx:x.kind<256/\x.pay.length<=255/\mG x.pay)(hn:x.cW=l.next)(hb:l.next+1<2^64)
  (j:d'.ak=d.ak) (g:d'.now=dD d.now (lX (aw<|l.segs.getLastD 0)<|str<|aB x.cW x.kind x.pay)) (b:d'.pending=d.pending++[lX (aw<|l.segs.getLastD 0)<|str<|aB x.cW x.kind x.pay]) :
  kH {l with filled:=l.filled+(15+x.pay.length),recs:=l.recs++[x],next:=l.next+1} d' mk ss (c1++[x]):=by
 have U:x.cW=az mk ss+c1.length:=by rw[hn,h.next]
 have common:Mode {l with filled:=l.filled+(15+x.pay.length),recs:=l.recs++[x],next:=l.next+1} d' mk ss (c1++[x])->kH {l with filled:=l.filled+(15+x.pay.length),recs:=l.recs++[x],next:=l.next+1} d' mk ss (c1++[x]):=λp=>
  ⟨by rw[j];exact h.st,by rw[j];exact h.clean,by rw[j];exact h.beg,by show l.recs++[x]=_;rw[h.recs,zzx],by show l.next+1=_;rw[h.next];simp;omega,h.eZ,h.lB,UT h.Di U,Qr h.Dj hx,by have:=h.next;simp;omega,p⟩
 apply common;rw[qh]at g;rcases h.mode with⟨k,f,m,a,n⟩|⟨ds,c,i,k,f,m,a,n,o⟩|⟨k,f,m,a,n,o⟩
 .subst k;have⟨ds,c,i,N⟩:∃ds c,ss=ds++[(c,[])]/\l.filled=eU c:=by
   obtain e|⟨ds,s,e⟩:=List.eq_nil_or_concat ss
   .grind [mU]
   .grind [pk,nu]
  have J:l.segs.getLastD 0=az mk ds:=by grind[aY,eF,az]
  rw[J]at g b;refine .last ds c i dv (by rw[b,f];simp[xu]) ?_ a ?_ ?_
  .grind [dF]
  .grind [eU]
  .grind [eU]
 .have J:l.segs.getLastD 0=az mk ds:=by rw[a,i,aY,eF];simp[az]
  rw[J]at g b;refine .last ds c i dv (by rw[b,f,Ek]) ?_ a ?_ ?_
  .grind [qg,ue,ud]
  .grind [ld,rk]
  .grind [ld,rk]
 .have J:l.segs.getLastD 0=az mk ss:=by rw[a];simp
  rw[J]at g b;refine .fresh dv (by rw[b,f,Ek]) ?_ a ?_ ?_
  .grind [qg,ue,ud]
  .grind [ld,rk]
  .grind [ld,rk]
theorem kH.NQ(h:kH l d mk ss [])(hx:x.kind<256/\x.pay.length<=255/\mG x.pay)(hn:x.cW=l.next)(hb:l.next+1<2^64)
  (e:d'.ak=d.ak) (a:d'.now=dD d.now (lX (aw l.next)<|str<|aB x.cW x.kind x.pay)) (c:d'.pending=d.pending++[lX (aw l.next)<|str<|aB x.cW x.kind x.pay]) :
  kH {l with segs:=l.segs++[l.next],filled:=0+(15+x.pay.length),recs:=l.recs++[x],next:=l.next+1} d' mk ss [x]:=by
 have q:l.next=az mk ss:=by simpa using h.next
 rcases h.mode with⟨b,f,g,m,n⟩|⟨ds,i,j,b,_⟩|⟨b,_⟩
 .rw[qh]at a;refine⟨by rw[e];exact h.st,by rw[e];exact h.clean,by rw[e];exact h.beg,by show l.recs++[x]=_;rw[h.recs];simp,by show l.next+1=_;rw[q];simp,h.eZ,h.lB,λk r o=>?_,λr p=>?_,ef,.fresh dv (by rw[c,f,q];simp[xu]) (by rw[a,g,e,q];simp[dF]) ?_ ?_ ?_⟩
  .grind
  .grind
  .grind
  .grind [eU]
  .grind [eU]
 .grind
 .grind
theorem kH.aJ(h:kH l d mk ss c1)(a b:Int):kH l (d.aJ a b) mk ss c1:=
 ⟨h.st,h.clean,h.beg,h.recs,h.next,h.eZ,h.lB,h.Di,h.Dj,h.ve,by
  rcases h.mode with⟨c,e,f,g,i⟩|⟨ds,k,m,c,e,f,g,i,j⟩|⟨c,e,f,g,i,j⟩
  .exact .rest c e f g i
  .exact .last ds k m c e f g i j
  .exact .fresh c e f g i j⟩
theorem kH.sg(h:kH l d mk ss c1):l.filled<600->l.segs≠[]:=λhf=>by
 rcases h.mode with⟨b,c,e,a,f⟩|⟨ds,j,g,b,c,e,a,f,i⟩|⟨b,c,e,a,f,i⟩
 .grind [eT,mU]
 .rw[a,g,aY,eF];simp
 .rw[a];simp
end
def aG.Dk(F:aG)(ns:List nS)(G:aG):Prop:=∀k,(k∈ns->G k=none)/\(k∉ns->G k=F k)
section
variable{F G:aG}{mk:Nat}{ss:List Sg}{us:List Nat}
theorem B8{u:Nat}:aw u∈us.map aw↔u∈us:=by grind[fN]
theorem Qt:eA∉us.map aw/\cD∉us.map aw:=by grind[br]
theorem bG.Dk(h:bG F mk ss)(d:kY F mk ss us)(g:F.Dk (us.map aw) G):bG G mk ss/\Clean G mk ss:=by
 have w:∀u,u∈starts mk (chunks ss)->G (aw u)=F (aw u):=λu b=>(g _).2 λm=>((d.2 u).1<|B8.1 m).2 b
 have M:Clean G mk ss:=λu hn=>by
  by_cases m:u∈us
  .exact absurd ((g<|aw u).1<|B8.2 m) hn
  .rw[(g<|aw u).2 λh=>m<|B8.1 h]at hn;exact Classical.byContradiction λb=>m<|(d.2 u).2 ⟨hn,b⟩
 refine⟨{mark:=by rw[(g eA).2 Qt.1];exact h.mark,pos:=h.pos,ne:=h.ne,files:=λk s c=>?_,uG:=h.uG,size:=h.size,gw:=h.gw,fine:=h.fine,other:=λnm E=>?_,dead:=λt e=>?_,ve:=h.ve},M⟩
 .have o_:k<ss.length:=(zzd.1 c).1;have a:az mk (ss.take k)∈starts mk (chunks ss):=by
   have:=lq (chunks ss) mk k (by simpa using o_);apply zzh;rw[this];unfold az;rw[fh]
  rw[w _ a];exact h.files k s c
 .have:F nm≠none:=by
   by_cases m:nm∈us.map aw
   .exact absurd ((g nm).1 m) E
   .rw[(g nm).2 m]at E;exact E
  exact h.other nm this
 .exfalso;have a:=M (az mk ss) (by rw[e];simp);have:=yy _ mk h.ne' _ a;unfold az at this;omega
end
structure iq(P:aG->Prop)(d:aj):Prop where
 left:∀F',Left d.ak d.pending F'->P F'
 now:d.down=false->P d.now/\d.pending.foldl dD d.ak=d.now
theorem iq.mono{P Q:aG->Prop}(h:iq P d)(i:∀F,P F->Q F):iq Q d:=
 ⟨λF b=>i F<|h.left F b,λa=>⟨i _ (h.now a).1,(h.now a).2⟩⟩
theorem iq.same{P:aG->Prop}(h:iq P d)(f:d.down=false)(e:d'.ak=d.ak)(a:d'.pending=d.pending)(c:d'.now=d.now):iq P d':=
 ⟨λF b=>h.left F<|by rw[e,a]at b;exact b,λ_=>by rw[e,a,c];exact h.now f⟩
theorem iq.rest{P:aG->Prop}(h:P d.ak)(e:d.pending=[])(a:d.now=d.ak):iq P d:=
 ⟨λF b=>by rw[e]at b;rw[BN b];exact h,λ_=>⟨by rw[a];exact h,by rw[e,a];rfl⟩⟩
def kJ(F:aG)(mk:Nat)(ss:List Sg):Prop:=ss≠[]\/(mk=1/\∀nm,F nm≠none->nm=aw 1)
theorem kJ.begun(h:kJ F mk ss):zw F mk ss:=by
 obtain h|⟨rfl,h⟩:=h
 .exact oH h
 .by_cases s:ss=[]
  .subst s;by_cases b:F (aw 1)=none
   .right;intro k;cases a:F k with
    |none=>rfl
    |some t=>have:=h k (by rw[a];simp);rw[this,b]at a;cases a
   .left;unfold lY iG;rw[jB];cases hx:F (aw 1)with
    |none=>exact absurd hx b
    |some t=>simp
  .exact oH s
theorem bG.some_(h:bG F mk ss)(hn:∀m∈ns,∃u,m=aw u/\u∉starts mk (chunks ss))(g:F.Dk ns G):bG G mk ss:=by
 have J:∀nm,G nm≠none->G nm=F nm:=λnm E=>by
  by_cases a:nm∈ns
  .exact absurd ((g nm).1 a) E
  .exact(g nm).2 a
 have d:eA∉ns:=λa=>by have⟨u,e,_⟩:=hn _ a;exact(br u).1 e.symm
 refine {mark:=by rw[(g eA).2 d];exact h.mark,pos:=h.pos,ne:=h.ne,files:=λk s b=>?_,uG:=h.uG,size:=h.size,gw:=h.gw,fine:=h.fine,other:=λnm E=>h.other nm<|by rw[<-J nm E];exact E,dead:=λt c=>h.dead t<|by rw[<-J _ (by rw[c];simp)];exact c,ve:=h.ve};have o:=(zzd.1 b).1
 have f:az mk (ss.take k)∈starts mk (chunks ss):=by
  have:=lq (chunks ss) mk k (by simpa using o);apply zzh;rw[this];unfold az;rw[fh]
 rw[(g _).2 λa=>by have⟨u,e,j⟩:=hn _ a;exact j<|fN e▸f];exact h.files k s b
theorem kJ.some_(h:kJ F mk ss)(g:F.Dk ns G):kJ G mk ss:=by
 obtain h|⟨h1,h2⟩:=h
 .exact .inl h
 .refine .inr ⟨h1,λnm E=>h2 nm ?_⟩;by_cases m:nm∈ns
  .exact absurd ((g nm).1 m) E
  .rw[<-(g nm).2 m];exact E
theorem uo:∀(ns:List nS) (F:aG),F.Dk ns<|(ns.map dc).foldl dD F
 |[],F=>λk=>⟨dv,λ_=>rfl⟩
 |n::ns,F=>λk=>by
  have e:((n::ns).map dc).foldl dD F=(ns.map dc).foldl dD (F.set n none):=rfl;rw[e];have h:=uo ns (F.set n none) k;refine⟨λa=>?_,λa=>?_⟩
  .by_cases b:k∈ns
   .exact h.1 b
   .rw[h.2 b];obtain e|a:=zzj.1 a
    .rw[e,aG.f_]
    .exact absurd a b
  .rw[zzj,not_or]at a;rw[h.2 a.2,aG.cU _ _ a.1]
theorem L9{a:aG}(h:Left F (ns.map dc) a):∃s:List nS,(∀m∈s,m∈ns)/\F.Dk s a:=by
 obtain⟨b,t,q,rfl⟩:=h;exact yz ns
def abp(F:aG)(ns:List nS)(G:aG):Prop:=∃s:List nS,(∀m∈s,m∈ns)/\F.Dk s G
theorem yK{s:List nS}(e:d.ak=F)(a:d.pending=ns.map dc)(b:d.down=false->d.now=(ns.map dc).foldl dD F)(k:∀m∈ns,m∈s):iq (abp F s) d:=
 ⟨λG h=>by
  rw[e,a]at h;have⟨j,c,f⟩:=L9 h;exact⟨j,λm i=>k m<|c m i,f⟩,
  λg=>by rw[e,a,b g];exact⟨⟨ns,k,uo ns F⟩,rfl⟩⟩
theorem adO(d:aj)(nm:nS)(R:d.now nm≠none):((d.tell<|dc nm).2=0/\(d.tell<|dc nm).1.ak=d.ak/\(d.tell<|dc nm).1.now=dD d.now (dc nm)/\(d.tell<|dc nm).1.pending=d.pending++[dc nm]/\(d.tell<|dc nm).1.down=false) \/
  ((d.tell<|dc nm).2=9/\(d.tell<|dc nm).1.ak=d.ak/\(d.tell<|dc nm).1.now=d.now/\(d.tell<|dc nm).1.pending=d.pending/\(d.tell<|dc nm).1.down=false) \/
  ((d.tell<|dc nm).2=10/\(d.tell<|dc nm).1.ak=d.ak/\(d.tell<|dc nm).1.now=d.now/\(d.tell<|dc nm).1.pending=d.pending++[dc nm]/\(d.tell<|dc nm).1.down=true):=by
 have s:=iX d;unfold aj.tell;rcases uj d with⟨h,a⟩|⟨h,a⟩|⟨h,a⟩
 .left;simp only[h];have hn:d.writes.1.now nm≠none:=by rw[s];exact R
  rw[mE dp,mE dp,mE λe=>hn e.1,mE<|by simp[dc]];refine⟨rfl,?_,?_,?_,a⟩
  .show d.writes.1.ak=_;rw[s]
  .show dD d.writes.1.now (dc nm)=_;rw[s]
  .show d.writes.1.pending++[dc nm]=_;rw[s]
 .right;left;simp only[h];rw[mE dp,oo trivial];exact⟨rfl,by rw[s],by rw[s],by rw[s],a⟩
 .right;right;simp only[h];rw[oo trivial];refine⟨rfl,?_,?_,?_,a⟩
  .show d.writes.1.ak=_;rw[s]
  .show d.writes.1.now=_;rw[s]
  .show d.writes.1.pending++[dc nm]=_;rw[s]
theorem B9:∀(l a:List nS) {d:aj} {F:aG},d.ak=F->d.pending=a.map dc->d.now=(a.map dc).foldl dD F->d.down=false->l.Nodup->(∀s∈l,d.now s≠none) ->
  ((d.removeAll l).2=0/\(d.removeAll l).1.down=false/\(d.removeAll l).1.pending=[]/\(d.removeAll l).1.now=(d.removeAll l).1.ak/\(d.removeAll l).1.ak=((a++l).map dc).foldl dD F) \/
  ((d.removeAll l).2≠0/\((d.removeAll l).2=9/\(d.removeAll l).1.down=false\/(d.removeAll l).2=10/\(d.removeAll l).1.down=true)/\iq (abp F<|a++l) (d.removeAll l).1):=by
 intro l;induction l with
 |nil=>
  intro a d F g i j p _ _;obtain b|b:=ki d
  .left;show d.sync.2=0/\d.sync.1.down=false/\d.sync.1.pending=[]/\d.sync.1.now=d.sync.1.ak/\d.sync.1.ak=_;refine⟨b.1,b.2.2.2.2,b.2.2.2.1,by rw[b.2.2.1,b.2.1,g,i,j],by rw[b.2.1,g,i,wo]⟩
  .right;show d.sync.2≠0/\(d.sync.2=9/\d.sync.1.down=false\/d.sync.2=10/\d.sync.1.down=true)/\iq (abp F<|a++[]) d.sync.1;exact⟨b.1,b.2.2.2.2,yK (by rw[b.2.1,g]) (by rw[b.2.2.2.1,i]) (λ_=>by rw[b.2.2.1,j]) dv⟩
 |cons x l ih=>
  intro a d F g i j p u hf;have y:=List.nodup_cons.1 u;have hx:=hf x dv;have r:d.removeAll (x::l)=if (d.tell<|dc x).2=0 then (d.tell<|dc x).1.removeAll l else d.tell (dc x):=rfl;obtain c|c|c:=adO d x hx
  .rw[oo c.1]at r;rw[r];have n:(d.tell<|dc x).1.pending=(a++[x]).map dc:=by rw[c.2.2.2.1,i];simp
   have o:(d.tell<|dc x).1.now=((a++[x]).map dc).foldl dD F:=by
    rw[c.2.2.1,j,BB,List.foldl_append];rfl
   have:=ih (a++[x]) (by rw[c.2.1,g]) n o c.2.2.2.2 y.2 (λs k=>by
    rw[c.2.2.1];show(d.now.set x none) s≠none;rw[aG.cU _ _ λe=>by subst e;exact y.1 k]
    exact hf s (by simp[k]))
   rw[zzx]at this;exact this
  .rw[mE dp]at r;rw[r];exact .inr ⟨dp,.inl ⟨c.1,c.2.2.2.2⟩,yK (by rw[c.2.1,g]) (by rw[c.2.2.2.1,i]) (λ_=>by rw[c.2.2.1,j]) λm f=>by simp[f]⟩
  .rw[mE dp]at r;rw[r];refine .inr ⟨dp,.inr ⟨c.1,c.2.2.2.2⟩,yK (ns:=a++[x]) (by rw[c.2.1,g]) (by rw[c.2.2.2.1,i];simp) (λh=>?_) λm f=>?_⟩
   .rw[c.2.2.2.2]at h;cases h
   .rcases zzo.1 f with f|f
    .simp[f]
    .simp at f;simp[f]
theorem abq{P:aG->Prop}{us:List Nat}(l:iq P d)(k:d.down=false)(h:bG d.now mk ss)(hb:kJ d.now mk ss)(a:kY d.now mk ss us):
  let r:=(cL mk ss).dR d<|us.map aw
  (r.2.2=0/\r.2.1.down=false/\kH r.1 r.2.1 mk ss []/\kJ r.2.1.ak mk ss) \/
  (r.2.2≠0/\(r.2.2=9/\r.2.1.down=false\/r.2.2=10/\r.2.1.down=true)/\iq (λF=>P F\/bG F mk ss/\kJ F mk ss) r.2.1):=by
 intro r;have U:=(l.now k).2;obtain c|c:=ki d
 .have dT:(cL mk ss).sync d=({cL mk ss with ak:=(cL mk ss).next},d.sync.1,0):=by unfold au.sync;rw[oo c.1]
  have o:r=({cL mk ss with ak:=(cL mk ss).next},d.sync.1.removeAll<|us.map aw):=by
   show au.dR _ _ _=_;unfold au.dR;rw[dT];simp only[if_true]
  have n:d.sync.1.ak=d.now:=by rw[c.2.1,U]
  have V:∀m∈us.map aw,∃u,m=aw u/\u∉starts mk (chunks ss):=λm b=>by
   obtain⟨u,hu',rfl⟩:=zzq.1 b;exact⟨u,rfl,((a.2 u).1 hu').2⟩
  have A:(us.map aw).Nodup:=by
   unfold List.Nodup;rw[zv];exact List.Pairwise.imp (λw e=>w<|fN e) a.1
  rcases B9 (us.map aw) [] n c.2.2.2.1 (by rw[c.2.2.1];rfl) c.2.2.2.2 A (λs E=>by
   obtain⟨u,hu',rfl⟩:=zzq.1 E;rw[c.2.2.1];exact((a.2 u).1 hu').1)with⟨f,g,i,y,z⟩|⟨f,g,i⟩
  .left;have Q:d.now.Dk (us.map aw) (d.sync.1.removeAll<|us.map aw).1.ak:=by rw[z];exact uo _ _
   have⟨p,q⟩:=h.Dk a Q;have Y:=hb.some_ Q;rw[o];exact⟨f,g,⟨p,q,Y.begun,by simp[cL],by simp[cL],rfl,by simp[cL],dv,by intro r x;simp at x,by simpa using h.ve,.rest rfl i y rfl rfl⟩,Y⟩
  .right;rw[o];refine⟨f,g,i.mono λF v=>.inr ?_⟩;have⟨B,t,j⟩:=v;exact⟨h.some_ (λm b=>V m<|by simpa using t m b) j,hb.some_ j⟩
 .right;have o:r=(cL mk ss,d.sync.1,d.sync.2):=by
   show au.dR _ _ _=_;unfold au.dR au.sync;rw[mE c.1];simp only;rw[mE c.1]
  rw[o];exact⟨c.1,c.2.2.2.2,(l.same k c.2.1 c.2.2.2.1 c.2.2.1).mono λF h=>.inl h⟩
theorem yL:∀{cs:List (List Rec)},(∀c∈cs,c≠[])->cs.length<=cs.flatten.length
 |[],_=>zzc _
 |c::cs,h=>by
  have b:0<c.length:=zzE.2 (h c dv);have a:=yL (cs:=cs) (λx hx=>h x<|by simp[hx]);simp at a ⊢;omega
def GI(mk T:Nat)(Y:List Rec)(f:Nat)(F:aG):Prop :=
 ∃(m:Nat) (ss:List Sg) (k:Nat),bG F m ss/\kJ F m ss/\mk<=m/\(m=mk\/m<=T)/\f<=k/\k<=Y.length/\m - mk<=k/\(chunks ss).flatten=(Y.take k).drop (m - mk)
theorem GI.of(h:bG F mk ss)(a:kJ F mk ss)(hf:f<=k)(b:k<=Y.length)(e:(chunks ss).flatten=Y.take k):GI mk T Y f F:=
 ⟨mk,ss,k,h,a,zzc _,.inl rfl,hf,b,dp,by rw[e];simp⟩
theorem GI.more(h:GI mk T Y f F)(Z:List Rec):GI mk T (Y++Z) f F:=by
 have⟨m,ss,k,a,b,c,d,e,a6,g,i⟩:=h;refine⟨m,ss,k,a,b,c,d,e,by rw[zzi];omega,g,?_⟩;rw[i,List.take_append_of_le_length a6]
theorem L_(X c:List Rec)(k:Nat):(X++c).take (X.length+k)=X++c.take k:=by
 rw[List.take_append,zzt dp];congr 2;omega
section
variable{l:au}{d:aj}{mk:Nat}{ss:List Sg}{c1:List Rec}
theorem kH.abr(h:kH l d mk ss c1)(hb:kJ d.ak mk ss){F:aG}(a:Left d.ak d.pending F):
  ∃j k,k<=c1.length/\bG F mk j/\kJ F mk j/\(chunks j).flatten=(chunks ss).flatten++c1.take k:=by
 have same:∃j k,k<=c1.length/\bG d.ak mk j/\kJ d.ak mk j/\(chunks j).flatten=(chunks ss).flatten++c1.take k:=⟨ss,0,zzs _,h.st,hb,dv⟩;rcases h.mode with⟨g,b,i,m,n⟩|⟨ds,c,f,g,b,i,m,n,p⟩|⟨g,b,i,m,n,p⟩
 .rw[b]at a;rw[BN a];exact same
 .obtain⟨j,k,a1,a2,_,a4,_⟩:=h.adN a;refine⟨j,k,a1,a2,.inl ?_,a4⟩;intro e;rw[e,f,aY,dY]at a4;have:=congrArg List.length a4;have hp:0<c.length:=zzE.2 (h.st.ne (c,[])<|by rw[f];simp);simp at this;omega
 .rw[b]at a;obtain e|⟨k,t,hk,hj,e⟩:=yJ h.Dj a
  .simp_all
  .rw[e];have q:=rj c1 k;by_cases D:c1.take k=[]
   .rw[D];have o:dF []++t=t:=by simp[dF]
    rw[o];refine⟨ss,0,zzs _,h.st.Z1 h.clean hj,?_,dv⟩;obtain hb|⟨dB,dy⟩:=hb
    .exact .inl hb
    .by_cases s:ss=[]
     .subst s;refine .inr ⟨dB,λnm E=>?_⟩;by_cases e:nm=aw (az mk [])
      .rw[e,jB,dB]
      .rw[eY _ _ e]at E;exact dy nm E
     .exact .inl s
   .exact⟨ss++[(c1.take k,t)],k,hk,h.st.more h.clean D (B7 h.Di k) (vU h.Dj k) hj dp<|by rw[zzm];have:=h.ve;omega,.inl dv,by rw[aY,dY]⟩
theorem kH.AM(h:kH l d mk ss c1)(hb:kJ d.ak mk ss){d':aj}(i:d'.ak=d.pending.foldl dD d.ak)(k:d'.now=d.now)(m:d'.pending=[]):
  ∃j,kH {l with ak:=l.next} d' mk j []/\kJ d'.ak mk j/\(chunks j).flatten=(chunks ss).flatten++c1/\d'.now=d'.ak:=by
 have⟨j,c,b,_⟩:=h.synced i k m;refine⟨j,c,?_,b,?_⟩
 .by_cases f:j=[]
  .rw[f]at b;have z:=congrArg List.length b;simp only[List.map_nil,List.flatten_nil,List.length_nil,zzi]at z;have t:c1=[]:=List.length_eq_zero_iff.1 (by omega);have u:ss=[]:=by
    cases ss with
    |nil=>rfl
    |cons s r=>
     have:=zzE.2 (h.st.ne s dv);simp at z;omega
   rcases h.mode with⟨a,o,e,p,q⟩|⟨ds,g,n,a,_⟩|⟨a,_⟩
   .grind
   .grind
   .grind
  .exact .inl f
 .rcases c.mode with⟨a,o,e,p,q⟩|⟨ds,g,n,a,_⟩|⟨a,_⟩
  .exact e
  .grind
  .grind
theorem kH.Ma(h:kH l d mk ss c1):l.ak-mk=(chunks ss).flatten.length/\mk<=l.ak:=by
 have:=h.lB;unfold az at this;omega
theorem kH.sure(h:kH l d mk ss c1)(hb:kJ d.ak mk ss)(T:Nat):iq (GI mk T ((chunks ss).flatten++c1)<|l.ak-mk) d where
 left:=λF g=>by
  have⟨j,k,f,a,b,c⟩:=h.abr hb g;apply GI.of (k:=(chunks ss).flatten.length+k) a b (by rw[h.Ma.1];omega) (by rw[zzi];omega);rw[c,L_]
 now:=λ_=>by
  have⟨j,f,a,b,c⟩:=h.AM hb (d':={d with ak:=d.pending.foldl dD d.ak,pending:=[]}) rfl rfl rfl;have e:=c;refine⟨?_,e.symm⟩;rw[e];apply GI.of f.st a (by rw[h.Ma.1,zzi];omega) (zzc _);rw[List.take_length];exact b
structure adP(l:au)(d:aj)(mk T:Nat)(X Y:List Rec):Prop where
 fail:l.failed≠0
 recs:l.recs=X
 next:l.next=mk+X.length
 lB:mk<=l.ak/\l.ak<=l.next
 segs:l.filled<600->l.segs≠[]
 sure:iq (GI mk T Y (l.ak-mk)) d
def Yz(l':au)(d':aj)(c:Nat)(mk T:Nat)(X Y:List Rec):Prop :=
 (c=9/\d'.down=false\/c=10/\d'.down=true)/\adP l' d' mk T X Y
theorem kH.sg'(h:kH l d mk ss c1):l.filled<600->l.segs≠[]:=h.sg
theorem kH.fell(h:kH l d mk ss c1)(hb:kJ d.ak mk ss)(i:d.down=false){d':aj}{c T:Nat}{Z:List Rec}(e:d'.ak=d.ak)(a:d'.now=d.now)(b:d'.pending=d.pending)(g:c=9/\d'.down=false\/c=10/\d'.down=true):Yz {l with failed:=c} d' c mk T ((chunks ss).flatten++c1) ((chunks ss).flatten++c1++Z):=by
 refine⟨g,⟨by show c≠0;omega,h.recs,?_,⟨h.Ma.2,?_⟩,h.sg',((h.sure hb T).same i e b a).mono λF f=>f.more Z⟩⟩
 .show l.next=_;rw[h.next,zzi];unfold az;omega
 .show l.ak<=l.next;rw[h.lB,h.next];omega
theorem kH.NR(h:kH l d mk ss c1)(hb:kJ d.ak mk ss)(r:d.down=false)(T kind:Nat)(y:kind<256)(s:nS)(C:s.size<=255)(V:l.next+1<2^64):
  ((l.append d kind s).2.2.1=l.next/\(l.append d kind s).2.2.2=0/\(l.append d kind s).2.1.down=false/\∃j w,kH (l.append d kind s).1 (l.append d kind s).2.1 mk j w/\kJ (l.append d kind s).2.1.ak mk j/\(chunks j).flatten++w=(chunks ss).flatten++c1++[⟨l.next,kind,bytesOf s⟩]/\(chunks ss).flatten.length<=(chunks j).flatten.length) \/
  ((l.append d kind s).2.2.1=0/\Yz (l.append d kind s).1 (l.append d kind s).2.1 (l.append d kind s).2.2.2 mk T ((chunks ss).flatten++c1) ((chunks ss).flatten++c1++[⟨l.next,kind,bytesOf s⟩])):=by
 have hlen:=iZ s;have k:(⟨l.next,kind,bytesOf s⟩:Rec).kind<256/\(⟨l.next,kind,bytesOf s⟩:Rec).pay.length<=255/\mG (⟨l.next,kind,bytesOf s⟩:Rec).pay:=⟨y,by show(bytesOf s).length<=255;omega,zi s⟩
 -- how it ends where the put has failed
 have g:∀(n:au) (i:aj) (c:Nat),l.put d (aB l.next kind<|bytesOf s)=(n,i,c)->c≠0->l.append d kind s=({n with failed:=c},i,0,c):=λn i c e v=>by
  have G:l.wr d (l.put d<|aB l.next kind<|bytesOf s)=({n with failed:=c},i,c):=by unfold au.wr;rw[oo h.eZ,e]
  unfold au.append;rw[mE dp,G];simp only;rw[mE v]
 by_cases hf:l.filled<600
 .have A:l.room d=(l,d,0):=by unfold au.room;rw[oo hf]
  have⟨o,a⟩:∃o:km,o=⟨2,aw<|l.segs.getLastD 0,gW,str<|aB l.next kind<|bytesOf s⟩:=⟨_,rfl⟩;have m:l.put d (aB l.next kind<|bytesOf s)=(l,(d.tell o).1,(d.tell o).2):=by grind[au.put]
  rcases B6 d o (by rw[a];simp)with t|t|t
  .left;have G:l.wr d (l.put d<|aB l.next kind<|bytesOf s)=(l,(d.tell o).1,0):=by
    unfold au.wr;rw[oo h.eZ,m,t.1];simp only[h.eZ.symm]
   have p:l.append d kind s=({l with filled:=l.filled+(15+s.size),recs:=l.recs++[⟨l.next,kind,bytesOf s⟩],next:=l.next+1},(d.tell o).1,l.next,0):=by grind[au.append]
   rw[p];refine⟨rfl,rfl,t.2.2.2.2,ss,c1++[⟨l.next,kind,bytesOf s⟩],?_,by show kJ (d.tell o).1.ak mk ss;rw[t.2.1];exact hb,by rw[zzx],zzc _⟩;have:=h.told hf k rfl V t.2.1 (by rw[t.2.2.1,a];rfl) (by rw[t.2.2.2.1,a];rfl);simp only at this;rw[hlen]at this;exact this
  .right;rw[g l (d.tell o).1 9 (by rw[m,t.1]) dp];exact⟨rfl,h.fell hb r t.2.1 t.2.2.1 t.2.2.2.1<|.inl ⟨rfl,t.2.2.2.2⟩⟩
  .right;rw[g l (d.tell o).1 10 (by rw[m,t.1]) dp];have q:=h.told (d':={d with pending:=d.pending++[o],now:=dD d.now o}) hf k rfl V rfl (by show dD d.now o=_;rw[a];rfl) (by show d.pending++[o]=_;rw[a];rfl);have S:=q.sure (by exact hb) T;refine⟨rfl,.inr ⟨rfl,t.2.2.2.2⟩,⟨dv,h.recs,?_,⟨h.Ma.2,?_⟩,h.sg',⟨λF f=>?_,λhx=>?_⟩⟩⟩
   .show l.next=_;rw[h.next,zzi];unfold az;omega
   .show l.ak<=l.next;rw[h.lB,h.next];omega
   .have:=S.left F (by rw[t.2.1,t.2.2.2.1]at f;exact f);rw[<-zzx]at this;exact this
   .grind
 .rcases ki d with b|b
  .obtain⟨pn,h2,dy,pN,u_⟩:=h.AM hb b.2.1 b.2.2.1 b.2.2.2.1;have u:l.sync d=({l with ak:=l.next},d.sync.1,0):=by grind[au.sync]
   have A:l.room d=({l with ak:=l.next,segs:=l.segs++[l.next],filled:=0},d.sync.1,0):=by grind[au.room]
   have⟨o,a⟩:∃o:km,o=⟨2,aw l.next,gW,str<|aB l.next kind<|bytesOf s⟩:=⟨_,rfl⟩;have m:l.put d (aB l.next kind<|bytesOf s)=({l with ak:=l.next,segs:=l.segs++[l.next],filled:=0},(d.sync.1.tell o).1,(d.sync.1.tell o).2):=by grind[au.put]
   have B:l.next=mk+((chunks ss).flatten++c1).length:=by rw[h.next,zzi];unfold az;omega
   have z:l.next-mk=((chunks ss).flatten++c1).length:=dp;rcases B6 d.sync.1 o (by rw[a];simp)with t|t|t
   .left;have G:l.wr d (l.put d<|aB l.next kind<|bytesOf s)=({l with ak:=l.next,segs:=l.segs++[l.next],filled:=0},(d.sync.1.tell o).1,0):=by
     unfold au.wr;rw[oo h.eZ,m,t.1];simp only[h.eZ.symm]
    have p:l.append d kind s=({l with ak:=l.next,segs:=l.segs++[l.next],filled:=0+(15+s.size),recs:=l.recs++[⟨l.next,kind,bytesOf s⟩],next:=l.next+1},(d.sync.1.tell o).1,l.next,0):=by grind[au.append]
    rw[p];refine⟨rfl,rfl,t.2.2.2.2,pn,[⟨l.next,kind,bytesOf s⟩],?_,by show kJ (d.sync.1.tell o).1.ak mk pn;rw[t.2.1];exact dy,by rw[pN],by rw[pN];simp⟩;have:=h2.NQ k rfl V t.2.1 (by rw[t.2.2.1,a];rfl) (by rw[t.2.2.2.1,a];rfl);simp only at this;rw[hlen]at this;exact this
   .right;rw[g _ (d.sync.1.tell o).1 9 (by rw[m,t.1]) dp];refine⟨rfl,.inl ⟨rfl,t.2.2.2.2⟩,⟨dv,h.recs,B,⟨by show mk<=l.next;omega,zzc _⟩,λ_=>dv,?_⟩⟩;have:=(h2.sure dy T).same b.2.2.2.2 t.2.1 t.2.2.2.1 t.2.2.1;rw[pN,wo]at this;exact this.mono λF f=>f.more _
   .right;rw[g _ (d.sync.1.tell o).1 10 (by rw[m,t.1]) dp];have q:=h2.NQ (d':={d.sync.1 with pending:=d.sync.1.pending++[o],now:=dD d.sync.1.now o}) k rfl V rfl (by show dD d.sync.1.now o=_;rw[a];rfl) (by show d.sync.1.pending++[o]=_;rw[a];rfl);have S:=q.sure (by exact dy) T;refine⟨rfl,.inr ⟨rfl,t.2.2.2.2⟩,⟨dv,h.recs,B,⟨by show mk<=l.next;omega,zzc _⟩,λ_=>dv,⟨λF f=>?_,λhx=>?_⟩⟩⟩
    .have:=S.left F (by rw[t.2.1,t.2.2.2.1]at f;exact f);rw[pN]at this;exact this
    .grind
  .right;have u:l.sync d=(l,d.sync.1,d.sync.2):=by grind[au.sync]
   have A:l.room d=(l,d.sync.1,d.sync.2):=by grind[au.room]
   have m:l.put d (aB l.next kind<|bytesOf s)=(l,d.sync.1,d.sync.2):=by grind[au.put]
   rw[g _ _ _ m b.1];exact⟨rfl,h.fell hb r b.2.1 b.2.2.1 b.2.2.2.1 b.2.2.2.2⟩
theorem kH.abu(h:kH l d mk ss c1)(hb:kJ d.ak mk ss)(e:d.down=false)(T:Nat):
  ((l.force d).2.2=0/\(l.force d).2.1.down=false/\∃j,kH (l.force d).1 (l.force d).2.1 mk j []/\kJ (l.force d).2.1.ak mk j/\(chunks j).flatten=(chunks ss).flatten++c1) \/
  Yz (l.force d).1 (l.force d).2.1 (l.force d).2.2 mk T ((chunks ss).flatten++c1) ((chunks ss).flatten++c1):=by
 unfold au.force;by_cases q:l.ak=l.next
 .rw[oo q];have f:c1=[]:=by
   have g:=h.lB;have b:=h.next;exact List.length_eq_zero_iff.1 dp
  subst f;exact .inl ⟨rfl,e,ss,h,hb,dv⟩
 .rw[mE q];obtain c|c:=ki d
  .left;have⟨n,b,y,N,_⟩:=h.AM hb c.2.1 c.2.2.1 c.2.2.2.1;have a:l.sync d=({l with ak:=l.next},d.sync.1,0):=by grind[au.sync]
   have G:l.wr d (l.sync d)=({l with ak:=l.next},d.sync.1,0):=by
    unfold au.wr;rw[oo h.eZ,a];simp only[h.eZ.symm]
   rw[G];exact⟨rfl,c.2.2.2.2,n,b,y,N⟩
  .right;have a:l.sync d=(l,d.sync.1,d.sync.2):=by grind[au.sync]
   have G:l.wr d (l.sync d)=({l with failed:=d.sync.2},d.sync.1,d.sync.2):=by
    unfold au.wr;rw[oo h.eZ,a]
   rw[G];have:=h.fell (T:=T) (Z:=[]) hb e c.2.1 c.2.2.1 c.2.2.2.1 c.2.2.2.2;rw[wo]at this;exact this
end
theorem oK(e:Nat)(w:nL):Calls prog 78 #[.int .i64 (e:Int)] w λv w'=>v=.returned (.bool<|decide<|e=9\/e=10)/\w'=w:=by
 by_cases h:e=9
 .subst h;go_enter func78,ntmps78;go_wp2;go_ret;exact⟨rfl,rfl⟩
 .by_cases G:e=10
  .subst G;go_enter func78,ntmps78;go_wp2;go_ret;exact⟨rfl,rfl⟩
  .have n9:¬(e:Int)=9:=dp;have n:¬(e:Int)=10:=dp;go_enter func78,ntmps78;go_wp2;go_ret;exact⟨by simp[h,G];exact⟨n9,n⟩,rfl⟩
theorem Z4(c:Int)(n:Nat)(w:nL)(kn:-2^63<=c)(iy:c<=9223372036854775807)(hn:0<n)(B:n<=4398046511103):
  Calls prog 55 #[.int .i64 c,.int .i64 n] w λe w'=>∃r:Nat,r<n/\e=.returned (.int .i64 r)/\w'=w:=by
 have a:¬(n:Int)=0:=dp;by_cases h:c<0
 .go_enter func55,ntmps55;go_wp2;go_ret;have e:-(c+1).tmod (n:Int)=(-(c+1))%(n:Int):=by
   rw[<-Int.neg_tmod,Int.tmod_eq_emod_of_nonneg dp]
  have b:=Int.emod_nonneg (-(c+1)) a;have d:=Int.emod_lt_of_pos (-(c+1)) (show(0:Int)<n by omega);refine⟨((-(c+1))%(n:Int)).toNat,dp,Ay ?_,rfl⟩;rw[e];omega
 .go_enter func55,ntmps55;go_wp2;go_ret;have b:=Int.emod_nonneg c a;have d:=Int.emod_lt_of_pos c (show(0:Int)<n by omega);exact⟨(c%(n:Int)).toNat,dp,Ay dp,rfl⟩
theorem NS:∀{cs:List (List Rec)},(∀c∈cs,c≠[])->cs.length<=cs.flatten.length
 |[],_=>zzc _
 |c::cs,h=>by
  have b:0<c.length:=zzE.2 (h c dv);have a:=NS (cs:=cs) (λx hx=>h x<|by simp[hx]);simp at a ⊢;omega
theorem Z2(d:aj)(o:km)(b:2<o.kind->d.now o.name≠none)(c:o.kind=4->o.name≠o.to):((d.tell o).2=0/\(d.tell o).1.ak=d.ak/\(d.tell o).1.now=dD d.now o/\(d.tell o).1.pending=d.pending++[o]/\(d.tell o).1.down=false) \/
  ((d.tell o).2=9/\(d.tell o).1.ak=d.ak/\(d.tell o).1.now=d.now/\(d.tell o).1.pending=d.pending/\(d.tell o).1.down=false) \/
  ((d.tell o).2=10/\(d.tell o).1.ak=d.ak/\(d.tell o).1.now=d.now/\(d.tell o).1.pending=d.pending++[o]/\(d.tell o).1.down=true):=by
 have s:=iX d;unfold aj.tell;rcases uj d with⟨h,a⟩|⟨h,a⟩|⟨h,a⟩
 .left;simp only[h];have hn:¬(d.writes.1.now o.name=none/\2<o.kind):=λe=>b e.2<|by have:=e.1;rw[s]at this;exact this
  rw[mE dp,mE dp,mE hn,mE λe=>c e.1 e.2];refine⟨rfl,?_,?_,?_,a⟩
  .grind
  .show dD d.writes.1.now o=_;rw[s]
  .grind
 .grind
 .grind
def aG.marked(F:aG)(first:Nat):aG:=((F.set cD (some (str (aB first 0 [])))).set eA (some (str (aB first 0 [])))).set cD none
def FR(F:aG)(first:Nat)(G:aG):Prop:=G=F\/(∃x,G=F.set cD x)\/G=F.marked first
theorem B_(F:aG)(first:Nat):dD (F.set cD<|some<|str<|aB first 0 []) ⟨4,cD,eA,gW⟩=F.marked first:=by grind[dD,aG.marked,aG.f_]
theorem UW(first:Nat)(i:d.ak=F)(j:d.pending=[])(k:d.now=F):
  ((d.bn first).2=0/\(d.bn first).1.down=false/\(d.bn first).1.pending=[]/\(d.bn first).1.ak=F.marked first/\(d.bn first).1.now=F.marked first) \/
  ((d.bn first).2≠0/\((d.bn first).2=9/\(d.bn first).1.down=false\/(d.bn first).2=10/\(d.bn first).1.down=true)/\iq (FR F first) (d.bn first).1):=by
 have⟨o,c⟩:∃o:km,o=⟨1,cD,gW,str<|aB first 0 []⟩:=⟨_,rfl⟩;have⟨q,f⟩:∃q:km,q=⟨4,cD,eA,gW⟩:=⟨_,rfl⟩
 have m:d.bn first=if (d.tell o).2=0 then (if (d.tell o).1.sync.2=0 then (if ((d.tell o).1.sync.1.tell q).2=0 then ((d.tell o).1.sync.1.tell q).1.sync else (d.tell o).1.sync.1.tell q)else (d.tell o).1.sync)else d.tell o:=by
  rw[c,f];rfl
 have p:dD F o=F.set cD (some<|str<|aB first 0 []):=by rw[c];rfl
 have J:∀G,Left F [o] G->FR F first G:=λG h=>by
  rcases IM h (by rw[c];simp)with e|e|⟨_,z,e⟩
  .exact .inl e
  .exact .inr<|.inl ⟨_,e.trans p⟩
  .exact .inr<|.inl ⟨some<|(str<|aB first 0 []).extract 0 z,by rw[e,c];rfl⟩
 have X:∀G,Left (F.set cD<|some<|str<|aB first 0 []) [q] G->FR F first G:=λG h=>by
  rcases IM h (by rw[f];simp)with e|e|⟨h1,_⟩
  .exact .inr<|.inl ⟨_,e⟩
  .exact .inr<|.inr<|by rw[e,f,B_]
  .grind
 rcases Z2 d o (by rw[c];simp) (by rw[c];simp)with t|t|t
 .rw[oo t.1]at m;obtain b|b:=ki (d.tell o).1
  .rw[oo b.1]at m;have g:(d.tell o).1.sync.1.ak=F.set cD (some<|str<|aB first 0 []):=by grind
   have n:(d.tell o).1.sync.1.now=F.set cD (some<|str<|aB first 0 []):=by grind
   rcases Z2 (d.tell o).1.sync.1 q (λ_=>by rw[n,f];simp[aG.f_]) (λ_=>by rw[f];exact Al.2)with a|a|a
   .rw[oo a.1]at m;have l:((d.tell o).1.sync.1.tell q).1.now=F.marked first:=by grind[B_]
    have r:((d.tell o).1.sync.1.tell q).1.pending=[q]:=by grind
    have Z:((d.tell o).1.sync.1.tell q).1.pending.foldl dD ((d.tell o).1.sync.1.tell q).1.ak=F.marked first:=by grind
    obtain s|s:=ki ((d.tell o).1.sync.1.tell q).1
    .grind
    .right;rw[m];refine⟨s.1,s.2.2.2.2,⟨λG h=>X G ?_,λ_=>⟨.inr<|.inr<|by rw[s.2.2.1,l],by rw[s.2.1,s.2.2.2.1,s.2.2.1,Z,l]⟩⟩⟩;rw[s.2.1,s.2.2.2.1,r,a.2.1,g]at h;exact h
   .right;rw[mE dp]at m;rw[m];exact⟨dp,.inl ⟨a.1,a.2.2.2.2⟩,iq.rest (.inr<|.inl ⟨_,by rw[a.2.1,g]⟩) (by rw[a.2.2.2.1,b.2.2.2.1])<|by rw[a.2.2.1,a.2.1,n,g]⟩
   .right;rw[mE dp]at m;rw[m];refine⟨dp,.inr ⟨a.1,a.2.2.2.2⟩,⟨λG h=>X G ?_,λhx=>by rw[a.2.2.2.2]at hx;cases hx⟩⟩;rw[a.2.1,a.2.2.2.1,b.2.2.2.1,g]at h;exact h
  .right;rw[mE b.1]at m;rw[m];refine⟨b.1,b.2.2.2.2,⟨λG h=>J G ?_,λ_=>⟨.inr<|.inl ⟨_,by rw[b.2.2.1,t.2.2.1,k];exact p⟩,?_⟩⟩⟩
   .grind
   .grind
 .right;rw[mE dp]at m;rw[m];exact⟨dp,.inl ⟨t.1,t.2.2.2.2⟩,iq.rest (.inl<|by rw[t.2.1,i]) (by rw[t.2.2.2.1,j])<|by rw[t.2.2.1,t.2.1,i,k]⟩
 .right;rw[mE dp]at m;rw[m];refine⟨dp,.inr ⟨t.1,t.2.2.2.2⟩,⟨λG h=>J G ?_,λhx=>by rw[t.2.2.2.2]at hx;cases hx⟩⟩;rw[t.2.1,t.2.2.2.1,i,j]at h;exact h
section
variable{F:aG}{mk:Nat}{ss:List Sg}
theorem bG.YA(h:bG F mk ss)(x:Option nS):bG (F.set cD x) mk ss:=by
 have M:∀u,(F.set cD x) (aw u)=F (aw u):=λu=>aG.cU _ _ (br u).2
 refine {mark:=?_,pos:=h.pos,ne:=h.ne,files:=λk s a=>by rw[M];exact h.files k s a,uG:=h.uG,size:=h.size,gw:=h.gw,fine:=h.fine,other:=λnm E=>?_,dead:=λt b=>h.dead t<|by rw[<-M];exact b,ve:=h.ve}
 .rw[aG.cU _ _ λe=>Al.2 e.symm];exact h.mark
 .by_cases e:nm=cD
  .grind
  .rw[aG.cU _ _ e]at E;exact h.other nm E
theorem FT(ss:List Sg)(g k:Nat):ss.take (g+k)=ss.take g++(ss.drop g).take k:=by grind
theorem Ca(mk:Nat)(a b:List Sg):az mk (a++b)=az (az mk a) b:=by
 unfold az chunks;simp;omega
theorem bG.marked(h:bG F mk ss){g:Nat}(v:g<ss.length):bG (F.marked<|az mk<|ss.take g) (az mk<|ss.take g) (ss.drop g):=by
 have M:∀u,(F.marked<|az mk<|ss.take g) (aw u)=F (aw u):=λu=>by
  unfold aG.marked;rw[aG.cU _ _ (br u).2,aG.cU _ _ (br u).1,aG.cU _ _ (br u).2]
 have P:az (az mk<|ss.take g) (ss.drop g)=az mk ss:=by rw[<-Ca,Ez]
 have U:(chunks ss).flatten=(chunks<|ss.take g).flatten++(chunks<|ss.drop g).flatten:=by
  rw[<-List.flatten_append,<-BB,Ez]
 have n:starts mk (chunks ss)=starts mk (chunks<|ss.take g)++starts (az mk<|ss.take g) (chunks<|ss.drop g):=by
  have:=sH (chunks ss) mk g;have j:starts mk (chunks<|ss.take g)=(starts mk<|chunks ss).take g:=by
   apply List.ext_getElem?;intro i;rw[List.getElem?_take];split
   .grind [lq,fh]
   .grind [eT]
  rw[j];have a:starts (az mk<|ss.take g) (chunks<|ss.drop g)=(starts mk<|chunks ss).drop g:=by
   rw[this];unfold az;rw[fh];congr 1;simp[chunks,List.map_drop]
  rw[a,Ez]
 refine {mark:=.inr ?_,pos:=zzk h.pos<|by unfold az;omega,ne:=λs b=>h.ne s<|List.mem_of_mem_drop b,files:=λk s d=>?_,uG:=λs b=>h.uG s<|List.mem_of_mem_drop b,size:=λs b=>h.size s<|List.mem_of_mem_drop b,gw:=λk r d=>?_,fine:=λr q=>h.fine r<|by rw[U];exact EL _ q,other:=λnm E=>?_,dead:=λt m=>h.dead t<|by rw[P,M]at m;exact m,ve:=by rw[P];exact h.ve}
 .unfold aG.marked;rw[aG.cU _ _ λe=>Al.2 e.symm,aG.f_]
 .rw[M,<-Ca,<-FT];rw[List.getElem?_drop]at d;exact h.files (g+k) s d
 .have:=h.gw ((chunks<|ss.take g).flatten.length+k) r (by rw[U,Hn dp];rw[<-d];congr 1;omega);rw[this];unfold az;omega
 .by_cases o:nm=eA
  .grind
  .by_cases l:nm=cD
   .grind
   .unfold aG.marked at E;rw[aG.cU _ _ l,aG.cU _ _ o,aG.cU _ _ l]at E;obtain f|f|⟨u,f,j,a⟩:=h.other nm E
    .grind
    .grind
    .refine .inr<|.inr ⟨u,f,j,?_⟩;rw[P];obtain a|a|a:=a
     .grind [az]
     .rw[n]at a;obtain a|a:=zzo.1 a
      .left;exact yy _ mk (λc p=>h.ne' c (by
        obtain⟨s,b,rfl⟩:=zzq.1 p;exact zzq.2 ⟨s,FQ b,rfl⟩)) u a
      .exact .inr<|.inl a
     .grind
theorem Jg{g:Nat}(h:g<ss.length):mU (ss.drop g)=mU ss:=by grind[mU]
end
section
variable{l:au}{d:aj}{mk:Nat}{ss:List Sg}{c1:List Rec}
def au.rr(l:au)(d:aj)(low:Nat):Nat:=if bM l.segs low=0 then 0 else l.qR d (bM l.segs low) (l.segs.getD (bM l.segs low) 0)
structure afW(l:au)(d:aj)(mk:Nat)(X:List Rec)(low:Nat)(r:au × aj × Nat)(mk':Nat)(gj:List Sg):Prop where
 ret:r.2.2=0
 up:r.2.1.down=false
 log:kH r.1 r.2.1 mk' gj []
 bare:kJ r.2.1.ak mk' gj
 ge:mk<=mk'
 le:mk'=mk\/mk'<=low/\mk' < l.next
 len:mk' - mk<=X.length
 recs:(chunks gj).flatten=X.drop (mk' - mk)
 two:∀x,r.1.segs[1]?=some x->low<x
 gone:mk+l.rr d low<=mk'
theorem kH.afX(h:kH l d mk ss c1)(hb:kJ d.ak mk ss)(hd:d.down=false)(low T:Nat)(hT:low<=T\/l.next<=T):
  (∃q v,afW l d mk ((chunks ss).flatten++c1) low (l.cut d low) q v) \/
  (Yz (l.cut d low).1 (l.cut d low).2.1 (l.cut d low).2.2 mk T ((chunks ss).flatten++c1) ((chunks ss).flatten++c1)/\iq (λF=>∃q v,bG F q v/\mk+l.rr d low<=q) (l.cut d low).2.1):=by
 have⟨p1,V⟩:=sI l.segs low;have⟨X,O⟩:=gb <|(chunks ss).flatten++c1;have kB:l.next=mk+X.length:=by rw[h.next,O,zzi];unfold az;omega
 obtain k|k:=ki d
 .obtain⟨pn,i,dy,pN,u_⟩:=h.AM hb k.2.1 k.2.2.1 k.2.2.2.1;have t:l.sync d=({l with ak:=l.next},d.sync.1,0):=by grind[au.sync]
  rw[<-O]at pN ⊢;by_cases p:bM l.segs low=0
  .left;have K:l.wr d (l.sync d)=({l with ak:=l.next},d.sync.1,0):=by
    unfold au.wr;rw[oo h.eZ,t];simp only[h.eZ.symm]
   have e:l.cut d low=({l with ak:=l.next},d.sync.1,0):=by unfold au.cut;rw[oo p,K]
   rw[p]at V;rw[e];exact⟨mk,pn,⟨rfl,k.2.2.2.2,i,dy,zzc _,.inl rfl,dp,by rw[pN];simp,λx hx=>V x hx,by unfold au.rr;rw[oo p];omega⟩⟩
  .have xy:l.segs=starts mk (chunks pn)/\l.filled=mU pn:=by
    rcases i.mode with⟨h1,i,E,h4,h5⟩|⟨ds,c0,h0,h1,_⟩|⟨h1,_⟩
    .grind
    .grind
    .grind
   have W:=wR p;have⟨g,D⟩:=gb <|bM l.segs low;rw[<-D]at p1 V W p;have U:g<pn.length:=by rw[xy.1,eT]at W;simpa using W
   have an:l.rr d low<=g:=by unfold au.rr;rw[mE<|by rw[<-D];exact p,<-D];exact Fe _ _ _ _
   have⟨first,H⟩:=gb <|az mk (pn.take g)
   have fE:l.segs[g]?=some first:=by
    rw[xy.1,lq _ _ g<|by simpa using U,H];unfold az;rw[fh]
   have pD:l.segs.getD g 0=first:=by grind
   have lL:first<=low:=by grind
   have C:=i.st.marked U;rw[<-H]at C
   have uU:(chunks pn).flatten=(chunks<|pn.take g).flatten++(chunks<|pn.drop g).flatten:=by
    rw[<-List.flatten_append,<-BB,Ez]
   have aa:first-mk=(chunks<|pn.take g).flatten.length/\mk<=first:=by rw[H];unfold az;omega
   have ao:mk+g<=first:=by
    have hl:=NS (λc z=>i.st.ne' c (by rw[fh]at z;exact FQ z):∀c∈chunks (pn.take g),c≠[]);have dM:(chunks<|pn.take g).length=g:=by simp_all;omega
    omega
   have P:(chunks<|pn.drop g).flatten=X.drop (first-mk):=by grind
   have Y:pn.drop g≠[]:=λe=>by have:=congrArg List.length e;rw[zzz]at this;simp at this;omega
   have zU:0<(chunks<|pn.drop g).flatten.length:=by
    cases hh:pn.drop g with
    |nil=>exact absurd hh Y
    |cons s r=>
     have:=zzE.2 (i.st.ne s<|List.mem_of_mem_drop<|by rw[hh];simp);simp;omega
   have al:X.length=(chunks<|pn.take g).flatten.length+(chunks<|pn.drop g).flatten.length:=by grind
   have Po:first<l.next:=dp;have L:=(oC (chunks pn) mk i.st.ne').1;rw[<-xy.1]at L;have ab:(l.segs.take g).Nodup:=(L.imp λ{a b} (mZ:a<b)=>Nat.ne_of_lt mZ).sublist<|List.take_sublist _ _
   have S:starts first (chunks<|pn.drop g)=l.segs.drop g:=by
    rw[xy.1,sH,H];unfold az;rw[fh];congr 1;simp[chunks,List.map_drop]
   have CV:∀s∈l.segs.take g,s∉starts first (chunks<|pn.drop g):=λs n A=>by
    rw[S]at A;have:=L;rw[<-Ez g l.segs,List.pairwise_append]at this;exact Nat.lt_irrefl _<|this.2.2 s n s A
   have wM:∀u,(d.sync.1.ak.marked first) (aw u)=d.sync.1.ak (aw u):=λu=>by
    unfold aG.marked;rw[aG.cU _ _ (br u).2,aG.cU _ _ (br u).1,aG.cU _ _ (br u).2]
   have a':∀(o:aj) (c:Nat),l.iP d g first=({l with ak:=l.next},o,c)->c≠0->l.cut d low=({l with ak:=l.next,failed:=c},o,c):=λo c e z=>by
    unfold au.cut;rw[<-D,mE p];simp only;have K:l.wr d (l.iP d g<|l.segs.getD g 0)=({l with ak:=l.next,failed:=c},o,c):=by unfold au.wr;rw[oo h.eZ,pD,e]
    rw[K];simp only;rw[mE z]
   have a7:∀(o:aj) (c:Nat),c≠0->iq (GI mk T X X.length) o->adP {l with ak:=l.next,failed:=c} o mk T X X:=λo c z A=>
    ⟨z,by rw[O];exact h.recs,kB,⟨by show mk<=l.next;omega,zzc _⟩,h.sg',by show iq (GI mk T X<|l.next-mk) o;rw[show l.next-mk=X.length by omega];exact A⟩
   have keep:∀(G:aG),bG G mk pn->GI mk T X X.length G:=λG j=>GI.of j (.inl λe=>Y<|by rw[e];simp) (zzc _) (zzc _)<|by rw[pN,List.take_length]
   have a8:∀(G:aG),bG G first (pn.drop g)->GI mk T X X.length G:=λG j=>⟨first,pn.drop g,X.length,j,.inl Y,aa.2,.inr dp,zzc _,zzc _,dp,by rw[List.take_length,P]⟩
   rcases UW first rfl k.2.2.2.1 u_ with⟨B,m2,R,m4,m5⟩|⟨B,m2,R⟩
   .have N:l.iP d g first=({l with ak:=l.next},(d.sync.1.bn first).1.removeAll<|(l.segs.take g).map aw):=by
     unfold au.iP;rw[t];simp only[if_true];rw[oo B]
    have Yy:((l.segs.take g).map aw).Nodup:=by
     unfold List.Nodup;rw[zv];exact List.Pairwise.imp (λae e=>ae<|fN e) ab
    have qP:∀m∈(l.segs.take g).map aw,∃u,m=aw u/\u∉starts first (chunks<|pn.drop g):=λm n=>by
     obtain⟨u,y,rfl⟩:=zzq.1 n;exact⟨u,rfl,CV u y⟩
    rcases B9 ((l.segs.take g).map aw) [] m4 R (by rw[m5];rfl) m2 Yy (λs A=>by
     obtain⟨u,y,rfl⟩:=zzq.1 A;rw[m5,wM];exact(i.st.start (by rw[<-xy.1];exact FQ y)).1)with⟨I,r2,J,r4,r5⟩|⟨I,r2,J⟩
    .left;have Q:(d.sync.1.ak.marked first).Dk ((l.segs.take g).map aw) ((d.sync.1.bn first).1.removeAll<|(l.segs.take g).map aw).1.ak:=by grind[uo]
     have zT:=C.some_ qP Q;have K:l.wr d (l.iP d g<|l.segs.getD g 0)=({l with ak:=l.next},((d.sync.1.bn first).1.removeAll<|(l.segs.take g).map aw).1,0):=by
      unfold au.wr;rw[oo h.eZ,pD,N];simp only[I];simp only[h.eZ.symm]
     have ag:(l.recs.headD ⟨0,0,[]⟩).cW=mk:=by
      have w:=i.recs;simp only[wo]at w;rw[w];cases hf:(chunks pn).flatten with
      |nil=>have h9:=congrArg List.length hf;rw[pN]at h9;simp only[List.length_nil]at h9;omega
      |cons r rs=>simpa using i.st.gw 0 r (by rw[hf];rfl)
     have e:l.cut d low=({l with ak:=l.next,recs:=l.recs.drop<|first-mk,segs:=l.segs.drop g},((d.sync.1.bn first).1.removeAll<|(l.segs.take g).map aw).1,0):=by grind[au.cut]
     rw[e];have dM:Clean ((d.sync.1.bn first).1.removeAll<|(l.segs.take g).map aw).1.ak first (pn.drop g):=λu y=>by
      by_cases n:aw u∈(l.segs.take g).map aw
      .exact absurd ((Q _).1 n) y
      .rw[(Q _).2 n,wM]at y;have:=i.clean u y;rw[<-xy.1,<-Ez g l.segs]at this;obtain E|E:=zzo.1 this
       .exact absurd (zzq.2 ⟨u,E,rfl⟩) n
       .rw[S];exact E
     have kP:az first (pn.drop g)=l.next:=by unfold az;omega
     refine⟨first,pn.drop g,⟨rfl,r2,⟨zT,dM,oH Y,?_,?_,h.eZ,kP.symm,dv,by intro r w;simp at w,by rw[kP];have:=i.ve;have:=i.next;simp at *;omega,.rest rfl J r4 S.symm<|by show l.filled=_;rw[Jg U,xy.2]⟩,.inl Y,aa.2,.inr ⟨lL,Po⟩,dp,P,λx hx=>?_,dp⟩⟩
     .show l.recs.drop (first-mk)=_;have w:=i.recs;simp only[wo]at w;rw[w,pN,P,wo]
     .grind
     .grind
    .right;rw[a' _ _ (by rw[N]) I];refine⟨⟨r2,a7 _ _ I<|J.mono λG j=>?_⟩,J.mono λG j=>?_⟩
     .obtain⟨ms,a1,a2⟩:=j;exact a8 G<|C.some_ (λm n=>qP m<|by simpa using a1 m n) a2
     .obtain⟨ms,a1,a2⟩:=j;exact⟨first,_,C.some_ (λm n=>qP m<|by simpa using a1 m n) a2,dp⟩
   .right;have N:l.iP d g first=({l with ak:=l.next},(d.sync.1.bn first).1,(d.sync.1.bn first).2):=by
     unfold au.iP;rw[t];simp only[if_true];rw[mE B]
    rw[a' _ _ N B];have ad:l.rr d low=0:=by
     unfold au.rr;rw[<-D,mE p,pD];unfold au.qR;rw[t];simp only[if_true];rw[mE B]
    have hS:iq (GI mk T X X.length) (d.sync.1.bn first).1:=R.mono (λG j=>by
     rcases j with e|⟨x,e⟩|e
     .rw[e];exact keep _ i.st
     .rw[e];exact keep _<|i.st.YA x
     .rw[e];exact a8 _ C)
    exact⟨⟨m2,a7 _ _ B hS⟩,hS.mono λG j=>by have⟨q,v,_,M,_,b3,_⟩:=j;exact⟨q,v,M,dp⟩⟩
 .right;have t:l.sync d=(l,d.sync.1,d.sync.2):=by grind[au.sync]
  have e:l.cut d low=({l with failed:=d.sync.2},d.sync.1,d.sync.2):=by
   unfold au.cut;split
   .unfold au.wr;rw[oo h.eZ,t]
   .have N:∀g f,l.iP d g f=(l,d.sync.1,d.sync.2):=λg f=>by unfold au.iP;rw[t];simp only;rw[mE k.1]
    simp only;unfold au.wr;rw[oo h.eZ,N];simp only;rw[mE k.1]
  rw[e];have:=h.fell (T:=T) (Z:=[]) hb hd k.2.1 k.2.2.1 k.2.2.2.1 k.2.2.2.2;rw[wo]at this;have ad:l.rr d low=0:=by grind[au.rr,au.qR]
  exact⟨this,this.2.sure.mono λG j=>by have⟨q,v,_,M,_,b3,_⟩:=j;exact⟨q,v,M,dp⟩⟩
end
structure aj.Calm(d:aj)(c:Nat):Prop where
 up:d.down=false
 left:(d.left<0\/(c:Int)<d.left)/\-2^63<=d.left/\d.left<=9223372036854775807
 full:(d.full<0\/(c:Int)<d.full)/\-2^63<=d.full/\d.full<=9223372036854775807
theorem aj.Calm.mono{c':Nat}(h:d.Calm c)(f:c'<=c):d.Calm c':=by
 have⟨a,b,e⟩:=h;exact⟨a,dp,dp⟩
theorem zB(h:d.Calm<|c+1)(g:c<4398046511103):d.writes.2=0/\d.writes.1.Calm c:=by
 have⟨a,b,f⟩:=h;have e:=Zm (by rw[a];simp;omega) dp;rw[e];refine⟨rfl,a,?_,?_⟩
 .show(wrap64 (d.left-1)<0\/(c:Int)<wrap64 (d.left-1))/\-9223372036854775808<=wrap64 (d.left-1)/\wrap64 (d.left-1)<=9223372036854775807;unfold wrap64;omega
 .show(wrap64 (d.full-1)<0\/(c:Int)<wrap64 (d.full-1))/\-9223372036854775808<=wrap64 (d.full-1)/\wrap64 (d.full-1)<=9223372036854775807;unfold wrap64;omega
theorem uq(h:d.Calm<|c+1)(e:c<4398046511103):d.sync.2=0/\d.sync.1.Calm c:=by
 have⟨b,a⟩:=zB h e;rw[Aj b];exact⟨rfl,a.up,a.left,a.full⟩
theorem qj(o:km)(h:d.Calm<|c+1)(e:c<4398046511103):(d.tell o).2≠9/\(d.tell o).2≠10/\(d.tell o).1.Calm c:=by
 have⟨b,a⟩:=zB h e;unfold aj.tell;simp only[b];rw[mE dp,mE dp];split
 .grind
 .split
  .grind
  .exact⟨dp,dp,a.up,a.left,a.full⟩
theorem oI:∀(l:List nS) {d:aj} {c:Nat},d.Calm (c+1+l.length)->c+1+l.length<4398046511103->(d.removeAll l).2≠9/\(d.removeAll l).2≠10/\(d.removeAll l).1.Calm c
 |[],d,c,h,hc=>by
  have⟨b,a⟩:=uq h (by simp at hc;omega);exact⟨by show d.sync.2≠9;omega,by show d.sync.2≠10;omega,a⟩
 |x::l,d,c,h,hc=>by
  simp only[zzr]at h hc;obtain⟨b,a,e⟩:=qj (c:=c+1+l.length) (dc x) (h.mono (by omega)) (by omega);have r:d.removeAll (x::l)=if (d.tell<|dc x).2=0 then (d.tell<|dc x).1.removeAll l else d.tell (dc x):=rfl;rw[r];split
  .exact oI l e dp
  .exact⟨b,a,e.mono (by omega)⟩
theorem FU(first:Nat)(h:d.Calm<|c+4)(f:c+4<4398046511103):(d.bn first).2≠9/\(d.bn first).2≠10/\(d.bn first).1.Calm c:=by
 unfold aj.bn;have⟨b,e,a⟩:=qj ⟨1,cD,gW,str<|aB first 0 []⟩ h dp;simp only;split
 .obtain⟨b1,b2⟩:=uq a dp;rw[oo b1];have⟨c1,c2,c3⟩:=qj ⟨4,cD,eA,gW⟩ b2 dp;split
  .grind [uq]
  .exact⟨c1,c2,c3.mono dp⟩
 .exact⟨b,e,a.mono dp⟩
section
variable{l:au}{d:aj}
theorem oJ{c:Nat}(h:d.Calm<|c+1)(a:c<4398046511103):(l.sync d).2.2=0/\(l.sync d).2.1.Calm c:=by grind[uq,au.sync]
theorem AO{r:au×aj×Nat}(hf:l.failed=0)(h:r.2.2≠9/\r.2.2≠10):(l.wr d r).2.2≠9/\(l.wr d r).2.2≠10:=by grind[au.wr]
theorem UZ(W:List Nat)(h:d.Calm 2):(l.put d W).2.2≠9/\(l.put d W).2.2≠10:=by
 have r:(l.room d).2.2=0/\(l.room d).2.1.Calm 1:=by
  unfold au.room;split
  .exact⟨rfl,h.mono dp⟩
  .grind [oJ]
 unfold au.put;rw[oo r.1];have:=qj ⟨2,aw<|(l.room d).1.segs.getLastD 0,gW,str W⟩ r.2 dp;exact⟨this.1,this.2.1⟩
theorem Jh(kind:Nat)(s:nS)(hf:l.failed=0)(h:d.Calm 2):(l.append d kind s).2.2.2≠9/\(l.append d kind s).2.2.2≠10:=by grind[au.append,AO,UZ]
theorem Mb(hf:l.failed=0)(h:d.Calm 1):(l.force d).2.2≠9/\(l.force d).2.2≠10:=by
 unfold au.force;split
 .simp
 .refine AO hf ?_;obtain⟨a,_⟩:=oJ (l:=l) (c:=0) h dp;omega
theorem U0(low:Nat)(hf:l.failed=0)(h:d.Calm<|6+l.segs.length)(j:l.segs.length<1000000000):(l.cut d low).2.2≠9/\(l.cut d low).2.2≠10:=by
 obtain⟨a,b⟩:=oJ (l:=l) (c:=5+l.segs.length) (h.mono (by omega)) (by omega);unfold au.cut;split
 .grind [AO]
 .have hS:∀g first,(l.iP d g first).2.2≠9/\(l.iP d g first).2.2≠10:=λg first=>by
   unfold au.iP;rw[oo a];obtain⟨f,i,e⟩:=FU (c:=1+l.segs.length) first (b.mono (by omega)) (by omega)
   split
   .have:=oI ((l.segs.take g).map aw) (c:=0) (e.mono<|by rw[zzn,zzm];omega) (by rw[zzn,zzm];omega);exact⟨this.1,this.2.1⟩
   .grind
  simp only;split
  .simp
  .grind [AO]
theorem Mc(ns:List nS)(h:d.Calm<|2+ns.length)(e:ns.length<1000000000):(l.dR d ns).2.2≠9/\(l.dR d ns).2.2≠10:=by
 obtain⟨a,b⟩:=oJ (c:=1+ns.length) (h.mono (by omega)) (by omega);unfold au.dR;rw[oo a];have:=oI ns (c:=0) (b.mono (by omega)) (by omega);exact⟨this.1,this.2.1⟩
theorem ur(h:d.down=false){a b:Int}(e:a<0)(hb:b<0)(w:-2^63<=a)(y:-2^63<=b)(c:Nat):(d.aJ a b).Calm c:=
 ⟨h,by show(a<0\/_)/\_<=a/\a<=_;omega,by show(b<0\/_)/\_<=b/\b<=_;omega⟩
end
end Go.Proofs.YtlgeloebpdmnnaaGreatDoor
