import Derived.Test.YtlgeloebpdmnnaaGreatDoorC36
set_option maxHeartbeats 8000000
set_option maxRecDepth 100000
namespace Go.Proofs.YtlgeloebpdmnnaaGreatDoor
open Go.RowKit Go.Maps Tryz Sc
section
open Go.Shelf
variable{v z:Int}{t:Nat}{R:aP}
theorem MH [Inhabited Bs](p t:Nat)(S:List Nat)(R:aP)(w:nL)(h:gh w p S R)(hn:R.ai.length<=1048576):
  Calls prog 84 #[gx p,.int .u64 (t:Int)] w λe w'=>e=.returned (.tuple #[])/\∃y,gh w' p y (R.cR t)/\fo S y w w':=by
 obtain⟨b,r,o,ps,h,rfl⟩:=h;have hlen:=h.len;have hf:=gT p t b r o ps R w h dp;have k:=af h.blk 0;simp at k;have⟨T,c,s,H⟩:=h.slice;rw[s]at k;cases U:eW R.ai t with
 |none=>
  have f:R.cR t=R:=by unfold aP.cR;rw[U]
  rw[f];rw[U]at hf;have I:=ah h;clear h H U f;go_enter func84,ntmps84;go_wp2_with fail;apply hf.mono;clear hf;rintro e d ⟨rfl,q,rfl⟩;have l:CN none=-1:=rfl;rw[l];go_wp2;go_end0;exact⟨rfl,_,⟨b,r,o,ps,I.out.fr<|(fU w).dE q,rfl⟩,fo.of<|(fU w).dE q⟩
 |some i=>
  have⟨x,hx,K,G⟩:=fO U;have f:R.cR t={R with ai:=R.ai.set i {x with aS:=true}}:=by unfold aP.cR;rw[U];simp only[hx];rfl
  rw[f];have⟨v,m⟩:=h.at hx;obtain⟨g,rfl,L,M,N,O,P⟩:=H i _ m;have E:=(zzd.1 m).1;rw[U]at hf;have l:CN (some i)=(i:Int):=rfl;rw[l]at hf;have I:=ah<|show bQ w p b r o ps R/\b=.slice (some ⟨g,0,none⟩) ps.length c/\ps[i]?=some (x,v)from ⟨h,s,m⟩;have⟨n,C⟩:=gb ps.length;rw[<-C]at k E;have W:¬(i:Int)<0:=dp
  have X:(0:Int)<=i:=dp;have Y:(i:Int)<n:=dp;have z:w.frozen? ⟨g,i*5+4,none⟩=false:=by
   obtain⟨V,J⟩:=aL h.kF (g:=g) (by rw[s];rfl);exact aq J _
  clear h H U G hx K m l C f s hlen hn;go_enter func84,ntmps84;go_wp2_with fail;apply hf.mono;clear hf;rintro e d ⟨rfl,q,hq⟩;have kO:Fr [] w d:=by rw[hq];exact(fU w).dE q
  have A:∀a,d.cell? a=w.cell? a:=λa=>by rw[hq];rfl
  have Q:d.frozen? ⟨g,i*5+4,none⟩=false:=by rw[hq];exact z
  rw[<-A]at k L M N O P;obtain⟨B,D⟩:=(I.1.fr kO).LI (j:=4) (x':={x with aS:=true}) (u:=.bool true) I.2.1 I.2.2 (by decide) rfl rfl;have F:=ah<|show bQ (d.setCell ⟨g,i*5+4,none⟩<|.bool true) p b r o (ps.set i ({x with aS:=true},v)) {R with ai:=R.ai.set i {x with aS:=true}}/\fo (kb p b r o ps) (kb p b r o<|ps.set i ({x with aS:=true},v)) w (d.setCell ⟨g,i*5+4,none⟩<|.bool true)from ⟨B,(fo.of kO).trans D⟩;clear B D kO A hq z I;go_wp2;go_end0;exact⟨rfl,_,⟨b,r,o,_,F.1,rfl⟩,F.2⟩
theorem vY(h:eW R.ai t=none):R.counts t z v=false:=by
 unfold aP.counts;rw[i_ h]
theorem uz{x:aK}(h:aO R.ai t=some x):R.counts t z v=(decide (x.st=5/\2<=v/\v<=4)&&x.parts.any (jQ z)):=by grind[aP.counts]
theorem JR [Inhabited Bs](u t:Nat)(z v:Int)(S:List Nat)(R:aP)(w:nL)(h:gh w u S R)(hn:R.ai.length<=1048576)(P:∀x∈R.ai,x.parts.length<=8):
  Calls prog 81 #[gx u,.int .u64 (t:Int),.int .i64 z,.int .i64 v] w λe w'=>e=.returned (.bool<|R.counts t z v)/\Fr [] w w':=by
 obtain⟨xv,rv,ov,ps,h,rfl⟩:=h;have Y:=h.len;have hf:=gT u t xv rv ov ps R w h dp;have d:=af h.blk 0;simp at d;have⟨ao,c,L,H⟩:=h.slice;rw[L]at d;cases l:eW R.ai t with
 |none=>
  rw[vY l];rw[l]at hf;have r:CN none=-1:=rfl;rw[r]at hf;clear h H l r L Y P;go_enter func81,ntmps81
  go_wp2_with fail;refine hf.mono ?_;clear hf;rintro e D ⟨rfl,q,rfl⟩;go_wp2;go_ret;exact⟨rfl,(fU w).dE q⟩
 |some i=>
  have⟨x,hx,a7,fE⟩:=fO l;rw[uz fE];have⟨v0,B⟩:=h.at hx;obtain⟨g,rfl,x0,E,x2,f,x4⟩:=H i _ B;have Aq:=(zzd.1 B).1;have C:=h.prt _<|zzh B
  change w.ownsRow B0 _ 3 v0 x.parts.length (fP x.parts)at C;have a8:=P x<|zzh hx;rw[l]at hf;have r:CN (some i)=(i:Int):=rfl;rw[r]at hf;have i0:¬(i:Int)<0:=dp
  have i1:(0:Int)<=i:=dp;have i2:(i:Int)<(ps.length:Int):=dp;have⟨st,W⟩:∃st,st=x.st:=⟨_,rfl⟩;simp only at E f;rw[<-W]at E ⊢;clear h H l fE hx a7 B r W L Y P x0 x2 x4;by_cases Z:st=5/\2<=v/\v<=4
  .obtain⟨rfl,F,h4⟩:=Z;have⟨A,G⟩:=gb <|x.parts.any (jQ z);rw[<-G];have ed:decide (5=5/\2<=v/\v<=4)=true:=by simp[F,h4]
   rw[ed,Bool.true_and];have⟨po,pc,I,V⟩:=kf C;subst I;have⟨m,J⟩:=gb x.parts.length;rw[<-J]at f;have Ti:m<=8:=dp;have n2:¬v<2:=dp;have n4:¬4<v:=dp;have dM:=(zzF w _ d);have C6:=(zzF w _ f);have X:=ah<|show w.cell? (gi u)=some (.slice (some (gi g)) ps.length c)/\w.cell? (hP g (i*5+3))=some (.slice po m pc)/\(∀k p,x.parts[k]?=some p->∃b,po=some (gi b)/\w.cell? (hP b (k*3))=some (.int .i64 (p.cH:Int))/\w.cell? (hP b (k*3+1))=some (.int .i64 (p.aZ:Int))/\w.cell? (hP b (k*3+2))=some (.bool p.left))/\m=x.parts.length/\A=x.parts.any (jQ z)from ⟨d,f,V,J,G⟩;clear C V J G ed
   go_enter func81,ntmps81;go_wp2_with fail;apply hf.mono;clear hf;rintro e D ⟨rfl,q,hq⟩;have kO:Fr [] w D:=by rw[hq];exact(fU w).dE q
   have U:∀a,D.cell? a=w.cell? a:=λa=>by rw[hq];rfl
   rw[<-U]at d E f;have HF:=ah kO;clear kO U hq;have f1:decide ((i:Int)<0)=false:=dv;have f2:decide (v<2)=false:=ef;have f3:decide (4<v)=false:=ef;go_wp2;clear d E f;go_loopw [10] (λj wr=>∃k:Nat,k<=m/\j=.int .i64 k/\Hid (Fr [] w wr/\(x.parts.take k).any (jQ z)=false)) (λj _=>m-(intOf j).toNat);case atStart=>exact⟨0,zzs _,rfl,HF.out,dv⟩
   case round=>
    obtain⟨k,hk,rfl,H⟩:=hrel;have U:∀a:Addr,a.block<(nF w)->wr.cell? a=w.cell? a:=λa ha=>zze<|H.1.block _ ha dv
    have d:=(U (gi u) dM).trans X.1;have f:=(U ⟨g,i*5+3,none⟩ C6).trans X.2.1;by_cases bW:k<m
    .obtain⟨p,hp⟩:∃p,x.parts[k]?=some p:=⟨_,zzg<|by rw[<-X.2.2.2.1];exact bW⟩;have⟨b,I,T,y1,y2⟩:=X.2.2.1 k p hp;subst I;have y:=zzF w _ T;rw[<-U (hP b (k*3)) y]at T;rw[<-U (hP b (k*3+1)) y]at y1;rw[<-U (hP b (k*3+2)) y]at y2;have⟨s,O⟩:=gb p.cH;have⟨n,Q⟩:=gb p.aZ;have⟨lf,rS⟩:=gb p.left;rw[<-O]at T;rw[<-Q]at y1;rw[<-rS]at y2;have k0:(0:Int)<=k:=dp
     have k1:(k:Int)<m:=dp;have M:=ah (show jQ z p=decide ((s:Int)=z/\n=0)/\x.parts[k]?=some p from ⟨by rw[O,Q];rfl,hp⟩);clear U hp O Q rS y;by_cases K:(s:Int)=z
     .subst K;by_cases h0:n=0
      .subst h0;obtain rfl:A=true:=by rw[X.2.2.2.2];exact List.any_eq_true.2 ⟨p,zzh M.2,by rw[M.1];simp⟩
       go_wp2;go_ret;exact⟨rfl,H.1.alloc _⟩
      .have j0:¬(n:Int)=0:=dp;have b0:=oT.2 j0;have N:Hid (∀o,Fr [] w (wr.alloc o)/\(x.parts.take<|k+1).any (jQ (s:Int))=false):=λo=>⟨H.1.alloc o,by rw[vV,M.2,List.any_append,H.2];simp[M.1,h0]⟩
       go_wp2;go_roundw;.exact⟨k+1,dp,eR,N.out _⟩
       case measure=>simp[intOf];omega
     .have bz:((s:Int)==z)=false:=oT.2 K;have N:Hid (∀o,Fr [] w (wr.alloc o)/\(x.parts.take<|k+1).any (jQ z)=false):=λo=>⟨H.1.alloc o,by rw[vV,M.2,List.any_append,H.2];simp[M.1,K]⟩
      go_wp2;go_roundw;.exact⟨k+1,dp,eR,N.out _⟩
      case measure=>simp[intOf];omega
    .obtain rfl:A=false:=by
      rw[X.2.2.2.2];have:=H.2;rwa [zzt<|by have:=X.2.2.2.1;omega]at this
     have IX:¬(k:Int)<m:=dp;clear U;go_wp2;go_ret;exact⟨rfl,H.1⟩
  .have e0:decide (st=5/\2<=v/\v<=4)=false:=by simpa using Z
   rw[e0,Bool.false_and];have a1:(((st:Int)==5)=false/\((st:Int) != 5)=true)\/(st=5/\v<2)\/(st=5/\¬v<2/\4<v):=by
    by_cases h5:st=5
    .omega
    .have j5:((st:Int)==5)=false:=oT.2 dp;exact .inl ⟨j5,by unfold bne;rw[j5];rfl⟩
   clear Z e0 C a8;rcases a1 with⟨b5,a'⟩|⟨rfl,F⟩|⟨rfl,F,h4⟩
   all_goals
    go_enter func81,ntmps81;go_wp2_with fail;apply hf.mono;clear hf;rintro e D ⟨rfl,q,rfl⟩;go_wp2;go_ret;exact⟨rfl,(fU w).dE q⟩
end
end Go.Proofs.YtlgeloebpdmnnaaGreatDoor
