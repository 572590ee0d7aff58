import Derived.Test.YtcalalndmcemiaaGreatDoorC45
set_option maxHeartbeats 4000000
set_option maxRecDepth 100000
namespace Go.Proofs.YtcalalndmcemiaaGreatDoor
open Go.RowKit Go.Maps Tryz Sc
section
open Go.Shelf
def ZD(s:ag):Prop:=s.aM.length<=5/\∀x∈s.aM,x.1.size<=16/\x.2.size<=200
theorem zm{L:List (ByteArray×ByteArray)}(c:b_ L){x:ByteArray×ByteArray}(b:x∈cX L):x∈L:=by
 unfold cX at b;obtain⟨k,h,rfl⟩:=zzq.1 b;unfold fK at h;obtain⟨a,d,rfl⟩:=zzq.1 h;have H:=List.mem_mergeSort.1 d;obtain⟨p,E,rfl⟩:=zzq.1 H;have e:(⟨p.1.data.toList.toArray⟩:ByteArray)=p.1:=bR;rw[show(⟨p.1.data.toList.toArray⟩:ByteArray)=p.1 from e,cP c E];exact E
theorem Mx{s:ag}{t:Nat}(h:t∈gY s):∃x,(t,x)∈s.ai:=by
 have a:=BI h;rcases rk t with⟨-,e⟩|⟨x,b,-⟩
 .rw[e]at a;cases a
 .exact⟨x,b⟩
section
variable{K:Nat}{s:ag}
theorem YB(g:cz K s)(e:ZD s)(d:∀p∈s.ai,p.1<18446744073709551616):aaU s (gY s) where
 len:=g.len
 aM:=λx a=>by have:=e.2 x<|zm g.once.1 a;omega
 wait:=λss h b=>by unfold gY;rw[n_ h b]
 held:=λt c=>by
  have⟨x,a⟩:=Mx c;have h:=qq g.once.2.2 t;refine⟨d _ a,λy f=>?_,?_⟩
  .have hm:=cP h<|vr h f;rw[mV]at hm;exact g.small _<|bZ hm
  .have:=g.cnt t;unfold ag.count at this;unfold jU;rw[zzn];omega
 once:=g.once.2.2
 Td:=zzk (og s) g.len
theorem QK(g:cz K s)(v:ZD s):(∀e∈rE s (gY s),e.2.size<=255)/\(rE s<|gY s).length<=17:=by
 refine⟨λe h=>?_,?_⟩
 .unfold rE at h;obtain h|h:=zzo.1 h
  .obtain⟨x,hx,rfl⟩:=zzq.1 h;have:=v.2 x<|zm g.once.1 hx;unfold qs CD;rw[cR];simp only[zzr,zzi,dy];omega
  .obtain⟨t,ht,rfl⟩:=zzq.1 h;exact g.entry t (qq g.once.2.2 t) λk=>mV t k _
 .unfold rE;rw[zzi,zzn,zzn];have a:=og s;have b:=g.len;have c:(cX s.aM).length=s.aM.length:=by unfold cX;rw[zzn,dR]
  have:=v.1;omega
end
section
variable(B U J f O b m h p G I n K Z:Nat)(s:ag)(c:aU)(l:au)(d:ah)(w:World)
theorem abI(hs:SL w B U J f O b m h p G I n s l<|d.bQ (-1)<|-1)(j:mD l d)(i:cz K s)(v:ZD s)(z:m<=60000000)(hn:n+l.segs.length<=60000000)(q:2<=B)(hb:B<=U/\B<=f/\B<=O/\B<=b)(H:bI w):
  Calls prog 92 #[.pointer<|some ⟨U,0,none⟩] w λe w'=>e=.returned .nilIface/\∃a c n',SL w' B U J f O b m h p G I n' s a c/\pO U f O b h p w w'/\mD a c/\n' + a.segs.length<=n+l.segs.length+80:=by
 have r:∀p∈s.ai,p.1<18446744073709551616:=λp E=>by have⟨_,_,_,_,k⟩:=hs.sh.ai;exact(k p E).1
 have⟨o,y⟩:=QK i v;have⟨g,t,u,x,A⟩:=j.kc (rE s<|gY s) o bL n hn;apply(aaV B U J f O b m h p G I n g s (gY s) l (d.bQ (-1)<|-1) w hs bL (YB i v r) j.segs bL t q hb H).mono;rintro e w' ⟨rfl,q1,q2⟩;rw[u];exact⟨rfl,_,_,_,q1,q2,x,bL⟩
theorem abJ(hs:CL w B Z J O m h p G I n c l<|d.bQ (-1)<|-1)(i:mD l d)(a:cN K c)(v:K<=1000000)(hn:n+l.segs.length<=60000000)(j:2<=B)(H:bI w):
  Calls prog 93 #[.pointer<|some ⟨Z,0,none⟩] w λe w'=>e=.returned .nilIface/\∃b f n',CL w' B Z J O m h p G I n' c b f/\mN Z O h p w w'/\mD b f/\n' + b.segs.length<=n+l.segs.length+80:=by
 have t:=Ui c;have u:=a.len;have⟨g,q,r,s,y⟩:=i.kc (DH c) (λe k=>(FN k).2) bL n hn;apply(abF B Z J O m h p G I n g c l (d.bQ (-1)<|-1) w hs a.len (λx o=>by have:=a.xt x o;have:=a.fB;omega) i.segs bL q j H).mono;rintro e w' ⟨rfl,q1,q2⟩;rw[r];exact⟨rfl,_,_,_,q1,q2,s,bL⟩
end
section
variable{w:World}{B i E K:Nat}{s:ag}{c:aU}{out:List bt}{L:List Nat}
theorem ads(a1:dh w B i E s out K L)(hg:cz K s)(hv:ZD s)(x:2<=B)(X:Met w)(V:bI w)(hK:K<=290000):
  Calls prog 54 #[.pointer<|some ⟨E,0,none⟩,fy (-1) (-1) 0 0] w λe w'=>e=.returned (.int .i64 0)/\∃T,dh w' B i E s out (K+20) T/\jk L T w w':=by
 obtain⟨q,p,U,J,f,O,b,h,G,I,m,n,l,d,ov,P,hw,hm,rfl⟩:=a1;have⟨W,o⟩:=gb <|w.alloc (gi (-1) (-1) 0 0);have Y:Fr [] w W:=by rw[o];exact(lT w).alloc _
 have⟨j,oW⟩:=P.new Y;have A:W.heap[w.heap.size]?=some (gi (-1) (-1) 0 0):=by rw[o];exact heap_alloc_new w _
 have c3:=ae j.hh 3;have c5:=ae j.hh 5;have t:=ae j.hh 6;have C:=ae A 0;have D:=ae A 1;have F:=ae A 2;have N:=ae A 3;simp at c3 c5 t C D F N;rw[o]at c3 c5 t C D F N;have⟨Hx,lG⟩:∃v,W.heap[p]?=some (gv G I v d.left d.full d.down):=by have⟨v,sv,rv,nD,nN,y⟩:=j.sl.lg;exact⟨v,y.bq.blk⟩
 have H:=af<|zzb j<|zzb oW<|zzb A<|zzb lG<|zzb P<|zzb hw hm;have M:=af<|zzb X<|zzb V hK;have S:=af<|zzb hg hv;clear j oW A lG P hw hm Y X V hK hg hv
 go_enter func54,ntmps54;go_wp2_with fail;rw[<-o];clear o c3 c5 t C D F N;apply(jh E p G I i Hx _ _ _ true d.down d.left d.full (-1) (-1) 0 0 W H.1.hh H.2.2.2.1).mono;rintro e w1 ⟨rfl,cG,bh⟩;have⟨df,u⟩:=H.1.sl.bQ (-1) (-1) bh cG H.2.2.2.1;have⟨eO,gX⟩:=H.1.Ip u df;have mm:=u.cells H.1.sl H.2.2.1 bM bM bM bM bM bM;have a:=af<|zzb eO<|zzb (H.2.1.trans gX) mm;have Z:=ae a.1.hh 5;have d6:=ae a.1.hh 6;simp at Z d6;have g:m<=60000000/\n+l.segs.length<=60000000:=by have h1:=H.2.2.2.2.2.2;have h2:=M.2.2;omega
 clear cG bh df u eO gX mm;have hc:=abI B U J f O b m h p G I n K s l d w1 a.1.sl H.2.2.2.2.2.1 S.1 S.2 g.1 g.2 x ⟨a.1.hb.2.2.2.1,a.1.hb.2.2.2.2.1,a.1.hb.2.2.2.2.2.1,a.1.hb.2.2.2.2.2.2⟩<|(H.2.2.2.2.1.keeps a.2.1 x).2 M.2.1;clear g;go_wp2_with fail;apply hc.mono;clear hc Z d6;rintro e w3 ⟨rfl,l',d',n',k_,po,uf,rL⟩;have⟨Q,za⟩:=a.1.Ip po k_;have sR:=a.2.1.trans za;have k:=po.cells a.1.sl a.2.2 bM bM bM bM bM bM;clear k_ po za;have ox:=uf.2;have y0:=ae k 0;have y1:=ae k 1;have y2:=ae k 2;have y3:=ae k 3;simp at y0 y1 y2 y3;have⟨DC,uY⟩:∃v,w3.heap[p]?=some (gv G I v d'.left d'.full d'.down):=by have⟨v,sv,rv,nD,nN,y⟩:=Q.sl.lg;exact⟨v,y.bq.blk⟩
 have c:=af<|zzb Q<|zzb sR<|zzb uY<|zzb uf rL;clear Q sR k uY uf rL;go_wp2_with fail;have g:=c.2.2.1;rw[ox]at g;apply(kG E p G I i DC _ _ _ true d'.left d'.full (-1) (-1) 0 0 w3 c.1.hh g).mono;clear g y0 y1 y2 y3;rintro e w5 ⟨rfl,h_,cO⟩;rw[<-ox]at h_;have⟨iz,pI⟩:=c.1.sl.bQ (-1) (-1) cO h_ c.2.2.1;have⟨nt,z⟩:=c.1.Ip pI iz;have mo:=(H.2.2.2.2.1.keeps (c.2.1.trans z) x).1 M.1;have R:=af<|zzb nt<|c.2.1.trans z;clear h_ cO iz pI nt z;go_wp2_with fail;apply(gC 0 w5 mo).mono;rintro e r ⟨rfl,dW⟩;have⟨uJ,qD⟩:=R.1.new dW;have H6:=af (show dh r B i E s out (K+20) (br E q p h U J r)/\jk (br E q p h U J w) (br E q p h U J r) w r from ⟨⟨q,p,U,J,f,O,b,h,G,I,m,n',l',_,ov,uJ,c.2.2.2.1.bQ _ _,(by have h1:=H.2.2.2.2.2.2;have h2:=c.2.2.2.2;omega),rfl⟩,R.2.trans qD⟩);clear uJ qD dW;go_wp2;go_ret;exact⟨rfl,_,H6.out⟩
theorem adt(a1:cT w B E c out K L)(hg:cN K c)(r:2<=B)(N:Met w)(F:bI w)(Y:K<=290000):
  Calls prog 54 #[.pointer<|some ⟨E,0,none⟩,fy (-1) (-1) 0 0] w λe w'=>e=.returned (.int .i64 0)/\∃D,cT w' B E c out (K+20) D/\jk L D w w':=by
 obtain⟨j,p,Z,J,O,h,G,I,m,n,l,d,ov,P,hw,hm,rfl⟩:=a1;have⟨W,i⟩:=gb <|w.alloc (gi (-1) (-1) 0 0);have R:Fr [] w W:=by rw[i];exact(lT w).alloc _
 have⟨g,oW⟩:=P.new R;have A:W.heap[w.heap.size]?=some (gi (-1) (-1) 0 0):=by rw[i];exact heap_alloc_new w _
 have c3:=ae g.hh 3;have c5:=ae g.hh 5;have o:=ae g.hh 6;have x:=ae A 0;have u:=ae A 1;have y:=ae A 2;have z:=ae A 3;simp at c3 c5 o x u y z;rw[i]at c3 c5 o x u y z;have⟨Hx,lG⟩:∃v,W.heap[p]?=some (gv G I v d.left d.full d.down):=by have⟨v,sv,rv,nD,nN,s⟩:=g.sl.lg;exact⟨v,s.bq.blk⟩
 have H:=af<|zzb g<|zzb oW<|zzb A<|zzb lG<|zzb P<|zzb hw hm;have M:=af<|zzb N<|zzb F Y;have HG:=af<|hg;clear g oW A lG P hw hm R N F Y hg
 go_enter func54,ntmps54;go_wp2_with fail;rw[<-i];clear i c3 c5 o x u y z;apply(jh E p G I 0 Hx _ _ _ true d.down d.left d.full (-1) (-1) 0 0 W H.1.hh H.2.2.2.1).mono;rintro e w1 ⟨rfl,cG,bh⟩;have⟨df,q⟩:=H.1.sl.bQ (-1) (-1) bh cG H.2.2.2.1;have⟨V,X⟩:=H.1.zJ q df;have mm:=q.cells H.1.sl H.2.2.1 bM bM bM bM bM bM bM bM;have b:=af<|zzb V<|zzb (H.2.1.trans X) mm;have S:=ae b.1.hh 5;have T:=ae b.1.hh 6;simp at S T;have U:m<=60000000/\n+l.segs.length<=60000000:=by have h1:=H.2.2.2.2.2.2;have h2:=M.2.2;omega
 clear cG bh df q V X mm;have hc:=abJ B J O m h p G I n K Z c l d w1 b.1.sl H.2.2.2.2.2.1 HG.out (by have:=M.2.2;omega) U.2 r<|(H.2.2.2.2.1.keeps b.2.1 r).2 M.2.1;clear U;go_wp2_with fail;apply hc.mono;clear hc S T;rintro e w3 ⟨rfl,l',d',n',k_,po,uf,rL⟩;have⟨Q,za⟩:=b.1.zJ po k_;have sR:=b.2.1.trans za;have f:=po.cells b.1.sl b.2.2 bM bM bM bM bM bM bM bM;clear k_ po za;have ox:=uf.2;have y0:=ae f 0;have y1:=ae f 1;have y2:=ae f 2;have y3:=ae f 3;simp at y0 y1 y2 y3;have⟨DC,uY⟩:∃v,w3.heap[p]?=some (gv G I v d'.left d'.full d'.down):=by have⟨v,sv,rv,nD,nN,s⟩:=Q.sl.lg;exact⟨v,s.bq.blk⟩
 have a:=af<|zzb Q<|zzb sR<|zzb uY<|zzb uf rL;clear Q sR f uY uf rL;go_wp2_with fail;have U:=a.2.2.1;rw[ox]at U;apply(kG E p G I 0 DC _ _ _ true d'.left d'.full (-1) (-1) 0 0 w3 a.1.hh U).mono;clear U y0 y1 y2 y3;rintro e w5 ⟨rfl,h_,cO⟩;rw[<-ox]at h_;have⟨iz,pI⟩:=a.1.sl.bQ (-1) (-1) cO h_ a.2.2.1;have⟨nt,t⟩:=a.1.zJ pI iz;have mo:=(H.2.2.2.2.1.keeps (a.2.1.trans t) r).1 M.1;have C:=af<|zzb nt<|a.2.1.trans t;clear h_ cO iz pI nt t;go_wp2_with fail;apply(gC 0 w5 mo).mono;rintro e k ⟨rfl,dW⟩;have⟨uJ,qD⟩:=C.1.new dW;have H6:=af (show cT k B E c out (K+20) (br E j p h Z J k)/\jk (br E j p h Z J w) (br E j p h Z J k) w k from ⟨⟨j,p,Z,J,O,h,G,I,m,n',l',_,ov,uJ,a.2.2.2.1.bQ _ _,(by have h1:=H.2.2.2.2.2.2;have h2:=a.2.2.2.2;omega),rfl⟩,C.2.trans qD⟩);clear uJ qD dW;go_wp2;go_ret;exact⟨rfl,_,H6.out⟩
end
section
variable{w:World}{B K:Nat}{j:List Nat}{c:aU}{co:List bt}{ss:List (ag × List bt)}{o:List (List Nat)}{E i:Nat}
theorem kCk(h:jI w B j c co ss K o)(k:i<=ss.length)(u:j[i]?=some E)(v:∀s∈ss,ZD s.1)(d:2<=B)(p:Met w)(H:bI w)(f:K<=290000):
  Calls prog 54 #[.pointer<|some ⟨E,0,none⟩,fy (-1) (-1) 0 0] w λe w'=>e=.returned (.int .i64 0)/\zL o B j c co ss (K+20) w w':=by
 cases i with
 |zero=>
  have⟨q,L,a,b,V⟩:=h.qA;rw[u]at a;cases a;apply(adt b h.cg d p H f).mono;rintro e w' ⟨rfl,L',hn,hf⟩;exact⟨rfl,V bL hn (h.cg.mono bL) hf⟩
 |succ i=>
  have⟨q,L,a,b,g,V⟩:=h.jg<|zzg k;rw[u]at a
  cases a;apply(ads b g (v _<|List.getElem_mem _) d p H f).mono;rintro e w' ⟨rfl,L',hn,hf⟩;have:=V bL hn (g.mono bL) hf;rw[List.set_getElem_self]at this;exact⟨rfl,this⟩
end
end
variable{d kd:Nat}{A:aB}
abbrev Rm(sq:List Nat)(wr:List (Nat × ByteArray × ByteArray))(asked:Bool)(what:Nat):aS:=⟨1,sq,wr,asked,false,what⟩
abbrev Y3(lost:Bool):aS:=⟨2,[0,0,0],[],false,lost,0⟩
abbrev ux(x:fe)(r:List (Nat × Nat))(o:List (Nat × Nat × Nat)):aU:=⟨[(1,x),(2,⟨4,fL,0⟩)],3,17,0,r,o⟩
abbrev Kz(st d:Nat)(k v:ByteArray):ag:=⟨[],[(1,⟨st,d,0⟩),(2,⟨2,0,0⟩)],[((1,k),⟨1,v⟩)],0⟩
abbrev Ux(V:List (ByteArray × ByteArray)):ag:=⟨V,[(2,⟨2,0,0⟩)],[],0⟩
section
variable(k E G:ByteArray)
abbrev ZI:List (Nat × ByteArray × ByteArray):=[(1,k,E),(2,k,G)]
abbrev wN1:aB:=⟨[Rm [0,0,0] [] false 0],[],[],Yd 1 4 fL 2 17 [] [],[],[(rs [],[]),(rs [],[])]⟩
abbrev wN2:aB:=⟨[Rm [0,1,0] [(1,k,E)] false 0],[],[],Yd 1 4 fL 2 17 [] [],[],[(df [] 1 1 1 1 k E,[]),(rs [],[])]⟩
abbrev wN3:aB:=⟨[Rm [0,1,1] (ZI k E G) false 0],[],[],Yd 1 4 fL 2 17 [] [],[],[(df [] 1 1 1 1 k E,[]),(df [] 1 1 1 1 k G,[])]⟩
abbrev wN4:aB:=⟨[Rm [0,1,1] (ZI k E G) false 0,Y3 false],[],[],⟨[(2,⟨4,fL,0⟩),(1,⟨4,fL,0⟩)],3,17,0,[],[]⟩,[],[(df [] 1 1 1 1 k E,[]),(df [] 1 1 1 1 k G,[])]⟩
abbrev wN5:aB:=⟨[Rm [0,1,1] (ZI k E G) false 0,Y3 true],[],[],⟨[(2,⟨4,fL,0⟩),(1,⟨4,fL,0⟩)],3,17,0,[],[]⟩,[],[(⟨[],[(2,⟨2,0,0⟩),(1,⟨1,1,0⟩)],[((1,k),⟨1,E⟩)],0⟩,[]),(df [] 1 1 1 1 k G,[])]⟩
abbrev Dr(what:Nat)(ord:List Nat)(c:aU)(ss:List (ag × List bt)):aB:=⟨[Rm [0,1,1] (ZI k E G) true what,Y3 true],ord,[],c,[],ss⟩
abbrev VQ:aB:=Dr k E G 0 [] (ux ⟨5,ch [1,2] 1,0⟩ [] [(1,1,1),(1,2,1)]) [(⟨[],[(2,⟨2,0,0⟩),(1,⟨1,1,0⟩)],[((1,k),⟨1,E⟩)],0⟩,[]),(df [] 1 1 1 1 k G,[])]
abbrev wN7:aB:=Dr k E G 5 [0] ⟨[(2,⟨4,fL,0⟩)],3,17,0,[],[]⟩ [(Ux [(k,E)],[]),(rs [(k,G)],[])]
theorem Rn:(c0s 1 1 [] []).begun=(Yd 1 4 fL 2 17 [] [],1,0):=by rw[Qx];rfl
theorem Ro:(Yd 1 4 fL 2 17 [] []).begun=(⟨[(2,⟨4,fL,0⟩),(1,⟨4,fL,0⟩)],3,17,0,[],[]⟩,2,0):=by simp[aU.begun,aV,aT]
theorem ab4(h:1<=k.size/\k.size<=16):(df [] 1 1 1 1 k E).get 2 0 k=(⟨[],[(2,⟨2,0,0⟩),(1,⟨1,1,0⟩)],[((1,k),⟨1,E⟩)],0⟩,ByteArray.empty,false,3):=by
 have e:(df [] 1 1 1 1 k E).aP 2=⟨0,0,0⟩:=by simp[ag.aP,ak]
 have a:(df [] 1 1 1 1 k E).eD 2 0 k yA=0:=by
  unfold ag.eD;rw[if_neg bM,if_neg<|by rw[show ByteArray.empty.size=0 from rfl];omega,e,if_neg bR,if_neg bR,if_neg bR]
 have b:(df [] 1 1 1 1 k E).refuse 2 0 k yA=0:=by
  unfold ag.refuse;rw[if_pos a];unfold ag.eZ;rw[if_neg<|by simp[ag.count]]
 have c:(df [] 1 1 1 1 k E).rS 2 k (aK.writes ⟨0,yA⟩)=true:=by simp[ag.rS,oL,ak,ag.ke,aK.writes]
 have e5:(df [] 1 1 1 1 k E).aJ 2 0 k ⟨0,yA⟩=(⟨[],[(2,⟨2,0,0⟩),(1,⟨1,1,0⟩)],[((1,k),⟨1,E⟩)],0⟩,3):=by
  unfold ag.aJ;rw[if_pos b,if_pos c,e];simp[aV,aT]
 unfold ag.get;rw[e5];simp
theorem VR:(⟨[(2,⟨4,fL,0⟩),(1,⟨4,fL,0⟩)],3,17,0,[],[]⟩:aU).fC 1 [1,2]=0/\(⟨[(2,⟨4,fL,0⟩),(1,⟨4,fL,0⟩)],3,17,0,[],[]⟩:aU).dD 1 [1,2]=ux ⟨5,ch [1,2] 1,0⟩ [] [(1,1,1),(1,2,1)]:=by
 have e:(⟨[(2,⟨4,fL,0⟩),(1,⟨4,fL,0⟩)],3,17,0,[],[]⟩:aU).tx 1=⟨4,fL,0⟩:=by simp[aU.tx,ak]
 have h:=Ye (a:=1) (b:=2) (by omega);constructor
 .unfold aU.fC;rw[e];decide
 .unfold aU.dD;rw[e,if_pos bM];unfold aU.asked;simp only[List.map_cons,List.map_nil];rw[show(Int.toNat 1)=1 from rfl,show(Int.toNat 2)=2 from rfl,h.aw];simp[aV,aT]
theorem Jd(sq:List Nat)(wr:List<|Nat×ByteArray×ByteArray)(asked:Bool)(w:wr.length<=2):T_ [Rm sq wr asked 0] [] [[],[]] where
 ids:=λa b x y c d e=>by
  have f:=(zzd.1 c).1;have hb:=(zzd.1 d).1;simp at f hb;omega
 qE:=λx c=>by simp at c;subst c;exact⟨by show wr.length<=_;omega,by show 1<_;decide⟩
 len:=bR;T8:=λV h=>by simp at h;subst h;simp
 kno:=λj V h y d=>by
  match j,h with
  |0,h=>cases h;cases d
  |1,h=>cases h;cases d
theorem vJ(what:Nat)(asked lost:Bool)(ord:List Nat)(g i:List<|ByteArray×ByteArray)(o:ord.length<=1)(l:g=[]\/g=[(k,E)]/\ord=[0])(m:i=[]\/i=[(k,G)]/\ord=[0]):T_ [Rm [0,1,1] (ZI k E G) asked what,Y3 lost] ord [g,i] where
 ids:=λa b x y f c e=>by
  match a,b,f,c with
  |0,0,_,_=>rfl
  |1,1,_,_=>rfl
  |0,1,f,c=>cases f;cases c;cases e
  |1,0,f,c=>cases f;cases c;cases e
 qE:=λx f=>by
  simp at f;obtain rfl|rfl:=f
  .exact⟨bR,by show 1<_;decide⟩
  .exact⟨bR,by show 2<_;decide⟩
 len:=cE;T8:=λV d=>by
  simp at d;obtain rfl|rfl:=d
  .rcases l with h|⟨h,-⟩<;>rw[h]<;>simp
  .rcases m with h|⟨h,-⟩<;>rw[h]<;>simp
 kno:=λj V d y c=>by
  match j,d with
  |0,d=>
   cases d;obtain h|⟨h,o⟩:=l
   .rw[h]at c;cases c
   .rw[h]at c;simp at c;subst c;subst o;simp[eK,wrote]
  |1,d=>
   cases d;obtain h|⟨h,o⟩:=m
   .rw[h]at c;cases c
   .rw[h]at c;simp at c;subst c;subst o;simp[eK,wrote]
theorem uy(a b:ag×List bt):Yf [a,b] [a.1.aM,b.1.aM]:=λj s h=>by
 match j,h with
 |0,h=>cases h;rfl
 |1,h=>cases h;rfl
theorem AD:Looks wN1 wN1:=gM (Jd _ _ _ bR) (uy _ _) rfl λx h a=>by simp at h;subst h;simp[aU.tx,ak]at a
theorem ab5:Looks (wN2 k E) (wN2 k E):=gM (Jd _ _ _ bR) (uy _ _) rfl λx h a=>by simp at h;subst h;simp[aU.tx,ak]at a
theorem ab6:Looks (wN3 k E G) (wN3 k E G):=gM (Jd _ _ _ bR) (uy _ _) rfl λx h a=>by simp at h;subst h;simp[aU.tx,ak]at a
theorem ab7:Looks (wN4 k E G) (wN4 k E G):=gM (vJ _ _ _ _ _ _ _ _ _ bR (.inl rfl)<|.inl rfl) (uy _ _) rfl λx h a=>by simp at h;obtain rfl|rfl:=h<;>simp[aU.tx,ak]at a
theorem ab8:Looks (wN5 k E G) (wN5 k E G):=gM (vJ _ _ _ _ _ _ _ _ _ bR (.inl rfl)<|.inl rfl) (uy _ _) rfl λx h a=>by simp at h;obtain rfl|rfl:=h<;>simp[aU.tx,ak]at a
theorem ab9:Looks (VQ k E G) (VQ k E G):=gM (vJ _ _ _ _ _ _ _ _ _ bR (.inl rfl)<|.inl rfl) (uy _ _) rfl λx h a=>by simp at h;obtain rfl|rfl:=h<;>simp[aU.tx,ak]at a
/-! ### the round -/
theorem zw(x:fe)(r:List<|Nat×Nat)(o:List<|Nat×Nat×Nat):(ux x r o).tx 1=x:=by simp[aU.tx,ak]
theorem Ds(x y:fe)(r:List<|Nat×Nat)(o:List<|Nat×Nat×Nat):aV (ux x r o).ai 1 y=(ux y r o).ai:=by simp[aV,aT]
abbrev zx:List Nat:=ch [1,2] 1
theorem Uy:(ux ⟨5,zx,0⟩ [] []).kT 1 1 2=ux ⟨5,zx.set 1 2,0⟩ [] []:=by
 unfold aU.kT;rw[zw,if_neg bM,if_neg bM,if_pos bM,Ds]
theorem Uz:(ux ⟨5,zx.set 1 2,0⟩ [] []).kT 1 2 2=ux ⟨6,(zx.set 1 2).set 2 2,0⟩ [(1,5)] [(1,1,5),(1,2,5)]:=by
 unfold aU.kT;rw[zw,if_neg bM,if_neg bM,if_neg bM,if_pos bM];unfold aU.comm;rw[Ds];have:dK jf ((zx.set 1 2).set 2 2)=[1,2]:=bM
 simp only[this];rfl
theorem UA:(ux ⟨6,(zx.set 1 2).set 2 2,0⟩ [] []).kn 1 1=ux ⟨6,((zx.set 1 2).set 2 2).set 1 5,0⟩ [] []:=by
 unfold aU.kn;rw[zw,if_neg bM,if_pos bM,Ds]
theorem UB:(ux ⟨6,((zx.set 1 2).set 2 2).set 1 5,0⟩ [] []).kn 1 2=⟨[(2,⟨4,fL,0⟩)],3,17,0,[],[]⟩:=by
 unfold aU.kn;rw[zw,if_neg bM,if_neg bM];simp[aT]
theorem Y4:fE 1 ⟨[],[(2,⟨2,0,0⟩),(1,⟨1,1,0⟩)],[((1,k),⟨1,E⟩)],0⟩ [] ⟨1,0,1,1⟩=(Kz 3 0 k E,[⟨2,1,0,1⟩]):=by
 have e:(⟨[],[(2,⟨2,0,0⟩),(1,⟨1,1,0⟩)],[((1,k),⟨1,E⟩)],0⟩:ag).kh 1=(Kz 3 0 k E,2):=by simp[ag.kh,ag.aP,ak,ag.wr,aK.writes,aV,aT]
 unfold fE;rw[if_pos rfl,e];rfl
theorem Y5:fE 1 (Kz 3 0 k E) [] ⟨5,0,1,1⟩=(Ux [(k,E)],[⟨7,1,0,1⟩]):=by
 have e:(Kz 3 0 k E).dD 1=Ux [(k,E)]:=by simp[ag.dD,ag.aP,ak,ag.comm,ag.forget,ag.release,oT,aV,aT,oM]
 unfold fE;rw[if_neg bR,if_pos rfl,e];rfl
theorem ab_:(Kz 3 0 k E).fC 1=0:=by simp[ag.fC,ag.aP,ak]
theorem BR(what:Nat)(ord:List Nat)(x:fe)(s a:ag×List bt)(o:List<|Nat×Nat×Nat)(f:ord.length<=1)(e:x.state=6->what=5)(c:s.1.aM=[]\/s.1.aM=[(k,E)]/\ord=[0])(d:a.1.aM=[]\/a.1.aM=[(k,G)]/\ord=[0]):Looks (Dr k E G what ord (ux x [] o) [s,a]) (Dr k E G what ord (ux x [] o) [s,a]):=
 gM (vJ _ _ _ _ _ _ _ _ _ f c d) (uy _ _) rfl (λy b h=>by
  simp at b;obtain rfl|rfl:=b
  .exact e<|by rw[zw]at h;exact h
  .simp[aU.tx,ak]at h)
theorem Dt{A:aB}(l:A.ss.length=2){kd d:Nat}(k:kd=1\/kd=5)(b:d=1\/d=2)(w:kd=5->∀s,A.ss[d-1]?=some s->s.1.fC 1=0):A.Comes ⟨kd,0,d,1⟩:=
 ⟨C5 k bL ⟨bM,bM⟩,cE,λe=>by simp at e;omega,λ_=>cE,λi s a hs h=>by
  simp at a h;exact w h s (by rw[show d-1=i by omega];exact hs)⟩
theorem xC{A:aB}{kd d:Nat}(k:kd=2\/kd=7)(a:d=1\/d=2):A.Comes ⟨kd,d,0,1⟩:=
 ⟨FI bL bL ⟨bM,bM⟩,bR,λ_=>cE,λe=>absurd rfl e,λi s h=>by simp at h⟩
theorem ab'{kd:Nat}(k:kd=1\/kd=5):∀x∈cY [(1,1,kd),(1,2,kd)],x.Ok:=λx h=>by
 simp[cY]at h;obtain rfl|rfl:=h<;>exact C5 k bL ⟨bM,bM⟩
theorem aca:wW (VQ k E G) (Dr k E G 0 [] (ux ⟨5,zx,0⟩ [] []) [(Kz 3 0 k E,[⟨2,1,0,1⟩]),(df [] 1 3 0 1 k G,[⟨2,2,0,1⟩])]) 2:=by
 refine⟨⟨ab'<|.inl rfl,C6.outs λx h=>by simp at h;obtain rfl|rfl:=h<;>rfl⟩,rfl,rfl,?_⟩;show vD [⟨1,0,1,1⟩,⟨1,0,2,1⟩] (Dr k E G 0 [] (ux ⟨5,zx,0⟩ [] []) [(⟨[],[(2,⟨2,0,0⟩),(1,⟨1,1,0⟩)],[((1,k),⟨1,E⟩)],0⟩,[]),(df [] 1 1 1 1 k G,[])]) _;refine .cons (A1:=Dr k E G 0 [] (ux ⟨5,zx,0⟩ [] []) [(Kz 3 0 k E,[⟨2,1,0,1⟩]),(df [] 1 1 1 1 k G,[])]) (Dt rfl (.inl rfl) (.inl rfl) bR) ?_<|.cons (Dt rfl (.inl rfl) (.inr rfl) bR) ?_<|.nil _
 .have e:=Y4 k E;simp only[aB.recv,List.getElem?_cons_zero,e,List.set_cons_zero];exact BR k E G 0 [] _ _ _ _ bR bR (.inl rfl)<|.inl rfl
 .have e:=wX [] 1 1 k G 2;simp only[aB.recv,List.getElem?_cons_succ,List.getElem?_cons_zero,e,List.set_cons_succ,List.set_cons_zero];exact BR k E G 0 [] _ _ _ _ bR bR (.inl rfl)<|.inl rfl
theorem acb:wW (Dr k E G 0 [] (ux ⟨5,zx,0⟩ [] []) [(Kz 3 0 k E,[⟨2,1,0,1⟩]),(df [] 1 3 0 1 k G,[⟨2,2,0,1⟩])]) (Dr k E G 5 [0] (ux ⟨6,(zx.set 1 2).set 2 2,0⟩ [] [(1,1,5),(1,2,5)]) [(Kz 3 0 k E,[]),(df [] 1 3 0 1 k G,[])]) 2:=by
 refine⟨⟨by simp[cY],λi s hs x a=>?_⟩,rfl,rfl,?_⟩
 .match i,hs with
  |0,hs=>cases hs;simp at a;subst a;exact FI (.inl rfl) bL ⟨bM,bM⟩
  |1,hs=>cases hs;simp at a;subst a;exact FI (.inl rfl) bL ⟨bM,bM⟩
 show vD [⟨2,1,0,1⟩,⟨2,2,0,1⟩] (Dr k E G 0 [] (ux ⟨5,zx,0⟩ [] []) [(Kz 3 0 k E,[]),(df [] 1 3 0 1 k G,[])]) _;refine .cons (A1:=Dr k E G 0 [] (ux ⟨5,zx.set 1 2,0⟩ [] []) [(Kz 3 0 k E,[]),(df [] 1 3 0 1 k G,[])]) (xC (.inl rfl)<|.inl rfl) ?_<|.cons (xC (.inl rfl)<|.inr rfl) ?_<|.nil _
 .have e:=Uy;simp only[aB.recv,gj,Nat.reduceEqDiff,if_false,e];exact BR k E G 0 [] _ _ _ _ bR bR (.inl rfl)<|.inl rfl
 .have e:=Uz;simp only[aB.recv,gj,Nat.reduceEqDiff,if_false,e];exact IG (A:=Dr k E G 0 [] (ux ⟨6,(zx.set 1 2).set 2 2,0⟩ [(1,5)] [(1,1,5),(1,2,5)]) [(Kz 3 0 k E,[]),(df [] 1 3 0 1 k G,[])]) (k:=0) (t:=1) (vJ _ _ _ _ _ _ _ _ _ (by simp) (.inl rfl) (.inl rfl)) (uy _ _) rfl rfl rfl rfl rfl (λy b h=>by
   simp at b;obtain rfl|rfl:=b
   .exact .inr rfl
   .simp[aU.tx,ak]at h)
theorem acd:wW (Dr k E G 5 [0] (ux ⟨6,(zx.set 1 2).set 2 2,0⟩ [] [(1,1,5),(1,2,5)]) [(Kz 3 0 k E,[]),(df [] 1 3 0 1 k G,[])]) (Dr k E G 5 [0] (ux ⟨6,(zx.set 1 2).set 2 2,0⟩ [] []) [(Ux [(k,E)],[⟨7,1,0,1⟩]),(rs [(k,G)],[⟨7,2,0,1⟩])]) 2:=by
 refine⟨⟨ab'<|.inr rfl,C6.outs λx h=>by simp at h;obtain rfl|rfl:=h<;>rfl⟩,rfl,rfl,?_⟩;show vD [⟨5,0,1,1⟩,⟨5,0,2,1⟩] (Dr k E G 5 [0] (ux ⟨6,(zx.set 1 2).set 2 2,0⟩ [] []) [(Kz 3 0 k E,[]),(df [] 1 3 0 1 k G,[])]) _;refine .cons (A1:=Dr k E G 5 [0] (ux ⟨6,(zx.set 1 2).set 2 2,0⟩ [] []) [(Ux [(k,E)],[⟨7,1,0,1⟩]),(df [] 1 3 0 1 k G,[])]) (Dt rfl (.inr rfl) (.inl rfl) λ_ s hs=>by cases hs;exact ab_ k E) ?_<|.cons (Dt rfl (.inr rfl) (.inr rfl) λ_ s hs=>by cases hs;exact Mh [] 1 k G) ?_<|.nil _
 .have e:=Y5 k E;simp only[aB.recv,List.getElem?_cons_zero,e,List.set_cons_zero];exact BR k E G 5 [0] _ _ _ _ bR bR (.inr ⟨rfl,rfl⟩)<|.inl rfl
 .have e:=FH [] 1 k G 2;simp only[aB.recv,List.getElem?_cons_succ,List.getElem?_cons_zero,e,List.set_cons_succ,List.set_cons_zero];exact BR k E G 5 [0] _ _ _ _ bR bR (.inr ⟨rfl,rfl⟩)<|.inr ⟨rfl,rfl⟩
theorem ace:wW (Dr k E G 5 [0] (ux ⟨6,(zx.set 1 2).set 2 2,0⟩ [] []) [(Ux [(k,E)],[⟨7,1,0,1⟩]),(rs [(k,G)],[⟨7,2,0,1⟩])]) (wN7 k E G) 2:=by
 refine⟨⟨by simp[cY],λi s hs x a=>?_⟩,rfl,rfl,?_⟩
 .match i,hs with
  |0,hs=>cases hs;simp at a;subst a;exact FI (.inr<|.inr rfl) bL ⟨bM,bM⟩
  |1,hs=>cases hs;simp at a;subst a;exact FI (.inr<|.inr rfl) bL ⟨bM,bM⟩
 show vD [⟨7,1,0,1⟩,⟨7,2,0,1⟩] (Dr k E G 5 [0] (ux ⟨6,(zx.set 1 2).set 2 2,0⟩ [] []) [(Ux [(k,E)],[]),(rs [(k,G)],[])]) _;refine .cons (A1:=Dr k E G 5 [0] (ux ⟨6,((zx.set 1 2).set 2 2).set 1 5,0⟩ [] []) [(Ux [(k,E)],[]),(rs [(k,G)],[])]) (xC (.inr rfl)<|.inl rfl) ?_<|.cons (xC (.inr rfl)<|.inr rfl) ?_<|.nil _
 .have e:=UA;simp only[aB.recv,gj,if_true,e];exact BR k E G 5 [0] _ _ _ _ bR bR (.inr ⟨rfl,rfl⟩)<|.inr ⟨rfl,rfl⟩
 .have e:=UB;simp only[aB.recv,gj,if_true,e];exact gM (vJ _ _ _ _ _ _ _ _ _ bR (.inr ⟨rfl,rfl⟩) (.inr ⟨rfl,rfl⟩)) (uy _ _) rfl (λy b h=>by
   simp at b;obtain rfl|rfl:=b<;>simp[aU.tx,ak]at h)
theorem Y6:zg 6 (VQ k E G) (wN7 k E G) 8:=by
 have w:wW (wN7 k E G) (wN7 k E G) 0:=Ml rfl rfl rfl (λx h=>by simp at h;obtain rfl|rfl:=h<;>rfl);exact .cons (aca k E G)<|.cons (acb k E G)<|.cons (acd k E G)<|.cons (ace k E G)<|.cons w<|.cons w<|.nil _
end
end Go.Proofs.YtcalalndmcemiaaGreatDoor
