import Derived.Test.YtdcafjmdfpjcbaaGreatDoorC04
set_option maxHeartbeats 4000000
set_option maxRecDepth 100000
namespace Go.Proofs.YtdcafjmdfpjcbaaGreatDoor
open Go.RowKit Go.Maps Tryz
theorem XE(B p D bN n j N:Nat)(v:Value)(d:ah)(nm c g:ByteArray)(w:World)(h:aB w B p D bN v d n j N)(hn:n<1000000000)(ho:iD.Ok ⟨1,nm,c,g⟩ 4096)(Q:1=4->(nm.toList==c.toList)=false/\nm≠c):
  Calls prog 362 #[rM p,Tu ⟨1,nm,c,g⟩] w (dB d ⟨1,nm,c,g⟩ B p D bN n j v w):=by
 have wy:=(zza.1 h.blk).1;have K:=ae h;have J:Hid (¬(1=4/\nm=c)):=λh=>(Q h.1).2 h.2
 have HT:Hid (1=4->(nm.toList==c.toList)=false):=λh=>(Q h).1
 clear h Q;have O:=ae ho;clear ho;go_enter func362,ntmps362;go_wp2_with fail;apply(l8 B p D bN n j N v d _<|K.out.new<|(lE w).alloc _).mono;rintro e f ⟨rfl,yX,bF⟩;have H:=ae yX;have A:f.heap[w.heap.size]?=some (uQ ⟨1,nm,c,g⟩):=(bF.block w.heap.size sE sC).trans<|heap_alloc_new _ _;have I:Hid (Fr (dS p D bN v) w f):=(((Fr.refl _ w).alloc _).mono λk _ b=>b).trans (bF.mono (T:=dS p D bN v)<|by intro k _ b;simp at b;subst b;simp);have a7:w.heap.size<f.heap.size:=(zza.1 A).1;have P:=ae A;have b0:=aa A 0;have b1:=aa A 1;have b2:=aa A 2;have b3:=aa A 3;have W:=aa yX.blk 2;have g2:=au yX.blk 2;simp at b0 b1 b2 b3 W;clear yX bF A;have e1:=TT;have e2:=TU;have yG:∀o,(f.alloc o).frozen? ⟨p,2,none⟩=false:=λo=>(zzw (a:=⟨p,2,none⟩)<|zzf f o p oE).trans g2
 have O9:∀o,(f.alloc o).cell? ⟨p,2,none⟩=some v:=λo=>(zze (a:=⟨p,2,none⟩)<|zzf f o p oE).trans W
 have Lb:Hid (d.writes.1.now.Le 4200000000000):=λk t ht=>by have h1:=H.out.Hv k t ht;have h2:=H.out.hN;have h3:=H.out.hn;omega
 obtain i|i|i:=iO d
 .rw[i,aG dN];go_wp2;go_region_law (first|(rw[if_pos<|by rfl];refine jr _ _ rfl B v d.writes.1.pending.length d.writes.1.pending ⟨1,nm,c,g⟩ f.heap.size rfl ?_ rfl ?_ ?_ ?_ ?_;(exact H.out.pen.alloc _);(exact heap_alloc_new f<|uQ ⟨1,nm,c,g⟩);(have V:j+d.writes.1.pending.length<=n:=H.out.hD;have:=H.out.hn;omega);(have:=H.out.base.2.2.2;simp;omega);intro Z w4 m X l;obtain⟨x,G,rfl⟩:=ib m;have y:Hid (bn w.heap.size v<|.slice (some ⟨x,0,none⟩) (d.writes.1.pending.length+1) G):=bn.lL l sC;clear l;have⟨MO,O_,O',TV,Y,Pb⟩:=sR H.out P.out X λe=>by have h9:=(K.out.pen.lt _ e).2;omega))
  all_goals go_wp2
  all_goals go_ret
  all_goals unfold dB
  all_goals rw[rj i]
  all_goals have⟨F,E⟩:=H.out.Iw hn O.out (aW (cw<|di f _ _) X) m rfl
  all_goals exact⟨rfl,⟨_,N,F,y.out⟩,I.out.trans<|E.mono<|by intro k _ b;obtain rfl|b:=zzj.1 b;simp;simp at b;simp[b]⟩
 .rw[i,aG dN];go_wp2;go_ret;unfold dB;rw[rk i];exact⟨rfl,⟨v,N,H.out.more hn,bn.refl _ _⟩,I.out⟩
 .rw[i,bQ];have p1:=aa H.out.blk 1;simp at p1;rcases FileMap.look (w:=f.drew) H.out.now nm O.out.name with⟨hN,hl⟩|⟨t,q,hN,hq,hl⟩
  .have HN:=ae hN;clear hN;go_wp2;go_region;go_wp2;go_region_with (first|(go_at_call 103;apply(oW bN N 4096 d.writes.1.now ⟨1,nm,c,g⟩ _ (H.out.now.new (lE f).drew.drew) (by have:=H.out.hN;have:=H.out.hn;unfold maxLen;omega) O.out oE Lb.out).mono;rintro e w2 ⟨rfl,uS,dY⟩))
   all_goals have s:f.grownBy w2 (some bN):=aW (cw<|cw<|eh f _) dY
   all_goals have⟨r,U,C⟩:=H.out.done P.out uS s hn O.out
   all_goals have u:Hid (aB w2 B p D bN v {d.writes.1 with now:=cV d.writes.1.now ⟨1,nm,c,g⟩} (n+1) j<|N+1):=r
   all_goals have M:Hid (w2.heap[w.heap.size]?=some (uQ ⟨1,nm,c,g⟩)):=U
   all_goals have L:Hid (Fr (dS p D bN v) w w2):=I.out.trans<|C.mono<|by intro k _ b;simp at b;subst b;simp
   all_goals have a6:f.heap.size<=w2.heap.size:=s.size
   all_goals have R:=aa U 0
   all_goals have c1:=aa U 1
   all_goals have c2:=aa U 2
   all_goals have c3:=aa U 3
   all_goals have z:=aa r.blk 2
   all_goals have S:=au r.blk 2
   all_goals simp at R c1 c2 c3 z
   all_goals have a1:∀o,(w2.alloc o).frozen? ⟨p,2,none⟩=false:=λo=>(zzw (a:=⟨p,2,none⟩)<|zzf w2 o p oE).trans S
   all_goals have uU:∀o,(w2.alloc o).cell? ⟨p,2,none⟩=some v:=λo=>(zze (a:=⟨p,2,none⟩)<|zzf w2 o p oE).trans z
   all_goals clear r U C uS dY s
   all_goals go_wp2
   all_goals go_region_law (first|(rw[if_pos<|by rfl];refine jr _ _ rfl B v d.writes.1.pending.length d.writes.1.pending ⟨1,nm,c,g⟩ w2.heap.size rfl ?_ rfl ?_ ?_ ?_ ?_;(exact u.out.pen.alloc _);(exact heap_alloc_new w2<|uQ ⟨1,nm,c,g⟩);(have V:j+d.writes.1.pending.length<=n:=H.out.hD;have:=H.out.hn;omega);(have:=u.out.base.2.2.2;simp;omega);intro Z w4 m X l;obtain⟨x,G,rfl⟩:=ib m;have y:Hid (bn w.heap.size v<|.slice (some ⟨x,0,none⟩) (d.writes.1.pending.length+1) G):=bn.lL l sC;clear l;have⟨MO,O_,O',TV,Y,Pb⟩:=sR u.out M.out X λe=>by have h9:=(K.out.pen.lt _ e).2;omega))
   all_goals go_wp2
   all_goals go_ret
   all_goals unfold dB
   all_goals rw[rm i sE<|by first|exact J.out|simpa using J.out|simp]
   all_goals have⟨F,E⟩:=u.out.Cv O.out (aW (cw<|di w2 _ _) X) m rfl H.out.hD
   all_goals exact⟨rfl,⟨_,N+1,F,y.out⟩,L.out.trans<|E.mono<|by intro k _ b;obtain rfl|b:=zzj.1 b;simp;simp at b;simp[b]⟩
  .have HN:=ae hN;clear hN hq;go_wp2;go_region;go_wp2;go_region_with (first|(go_at_call 103;apply(oW bN N 4096 d.writes.1.now ⟨1,nm,c,g⟩ _ (H.out.now.new (lE f).drew.drew) (by have:=H.out.hN;have:=H.out.hn;unfold maxLen;omega) O.out oE Lb.out).mono;rintro e w2 ⟨rfl,uS,dY⟩))
   all_goals have s:f.grownBy w2 (some bN):=aW (cw<|cw<|eh f _) dY
   all_goals have⟨r,U,C⟩:=H.out.done P.out uS s hn O.out
   all_goals have u:Hid (aB w2 B p D bN v {d.writes.1 with now:=cV d.writes.1.now ⟨1,nm,c,g⟩} (n+1) j<|N+1):=r
   all_goals have M:Hid (w2.heap[w.heap.size]?=some (uQ ⟨1,nm,c,g⟩)):=U
   all_goals have L:Hid (Fr (dS p D bN v) w w2):=I.out.trans<|C.mono<|by intro k _ b;simp at b;subst b;simp
   all_goals have a6:f.heap.size<=w2.heap.size:=s.size
   all_goals have R:=aa U 0
   all_goals have c1:=aa U 1
   all_goals have c2:=aa U 2
   all_goals have c3:=aa U 3
   all_goals have z:=aa r.blk 2
   all_goals have S:=au r.blk 2
   all_goals simp at R c1 c2 c3 z
   all_goals have a1:∀o,(w2.alloc o).frozen? ⟨p,2,none⟩=false:=λo=>(zzw (a:=⟨p,2,none⟩)<|zzf w2 o p oE).trans S
   all_goals have uU:∀o,(w2.alloc o).cell? ⟨p,2,none⟩=some v:=λo=>(zze (a:=⟨p,2,none⟩)<|zzf w2 o p oE).trans z
   all_goals clear r U C uS dY s
   all_goals go_wp2
   all_goals go_region_law (first|(rw[if_pos<|by rfl];refine jr _ _ rfl B v d.writes.1.pending.length d.writes.1.pending ⟨1,nm,c,g⟩ w2.heap.size rfl ?_ rfl ?_ ?_ ?_ ?_;(exact u.out.pen.alloc _);(exact heap_alloc_new w2<|uQ ⟨1,nm,c,g⟩);(have V:j+d.writes.1.pending.length<=n:=H.out.hD;have:=H.out.hn;omega);(have:=u.out.base.2.2.2;simp;omega);intro Z w4 m X l;obtain⟨x,G,rfl⟩:=ib m;have y:Hid (bn w.heap.size v<|.slice (some ⟨x,0,none⟩) (d.writes.1.pending.length+1) G):=bn.lL l sC;clear l;have⟨MO,O_,O',TV,Y,Pb⟩:=sR u.out M.out X λe=>by have h9:=(K.out.pen.lt _ e).2;omega))
   all_goals go_wp2
   all_goals go_ret
   all_goals unfold dB
   all_goals rw[rm i (by rw[HN.out];simp)<|by first|exact J.out|simpa using J.out|simp]
   all_goals have⟨F,E⟩:=u.out.Cv O.out (aW (cw<|di w2 _ _) X) m rfl H.out.hD
   all_goals exact⟨rfl,⟨_,N+1,F,y.out⟩,L.out.trans<|E.mono<|by intro k _ b;obtain rfl|b:=zzj.1 b;simp;simp at b;simp[b]⟩
theorem XF(B p D bN n j N:Nat)(v:Value)(d:ah)(nm c g:ByteArray)(w:World)(h:aB w B p D bN v d n j N)(hn:n<1000000000)(ho:iD.Ok ⟨2,nm,c,g⟩ 4096)(Q:2=4->(nm.toList==c.toList)=false/\nm≠c):
  Calls prog 362 #[rM p,Tu ⟨2,nm,c,g⟩] w (dB d ⟨2,nm,c,g⟩ B p D bN n j v w):=by
 have wy:=(zza.1 h.blk).1;have K:=ae h;have J:Hid (¬(2=4/\nm=c)):=λh=>(Q h.1).2 h.2
 have HT:Hid (2=4->(nm.toList==c.toList)=false):=λh=>(Q h).1
 clear h Q;have O:=ae ho;clear ho;go_enter func362,ntmps362;go_wp2_with fail;apply(l8 B p D bN n j N v d _<|K.out.new<|(lE w).alloc _).mono;rintro e f ⟨rfl,yX,bF⟩;have H:=ae yX;have A:f.heap[w.heap.size]?=some (uQ ⟨2,nm,c,g⟩):=(bF.block w.heap.size sE sC).trans<|heap_alloc_new _ _;have I:Hid (Fr (dS p D bN v) w f):=(((Fr.refl _ w).alloc _).mono λk _ b=>b).trans (bF.mono (T:=dS p D bN v)<|by intro k _ b;simp at b;subst b;simp);have a7:w.heap.size<f.heap.size:=(zza.1 A).1;have P:=ae A;have b0:=aa A 0;have b1:=aa A 1;have b2:=aa A 2;have b3:=aa A 3;have W:=aa yX.blk 2;have g2:=au yX.blk 2;simp at b0 b1 b2 b3 W;clear yX bF A;have e1:=TT;have e2:=TU;have yG:∀o,(f.alloc o).frozen? ⟨p,2,none⟩=false:=λo=>(zzw (a:=⟨p,2,none⟩)<|zzf f o p oE).trans g2
 have O9:∀o,(f.alloc o).cell? ⟨p,2,none⟩=some v:=λo=>(zze (a:=⟨p,2,none⟩)<|zzf f o p oE).trans W
 have Lb:Hid (d.writes.1.now.Le 4200000000000):=λk t ht=>by have h1:=H.out.Hv k t ht;have h2:=H.out.hN;have h3:=H.out.hn;omega
 obtain i|i|i:=iO d
 .rw[i,aG dN];go_wp2;go_region_law (first|(rw[if_pos<|by rfl];refine jr _ _ rfl B v d.writes.1.pending.length d.writes.1.pending ⟨2,nm,c,g⟩ f.heap.size rfl ?_ rfl ?_ ?_ ?_ ?_;(exact H.out.pen.alloc _);(exact heap_alloc_new f<|uQ ⟨2,nm,c,g⟩);(have V:j+d.writes.1.pending.length<=n:=H.out.hD;have:=H.out.hn;omega);(have:=H.out.base.2.2.2;simp;omega);intro Z w4 m X l;obtain⟨x,G,rfl⟩:=ib m;have y:Hid (bn w.heap.size v<|.slice (some ⟨x,0,none⟩) (d.writes.1.pending.length+1) G):=bn.lL l sC;clear l;have⟨MO,O_,O',TV,Y,Pb⟩:=sR H.out P.out X λe=>by have h9:=(K.out.pen.lt _ e).2;omega))
  all_goals go_wp2
  all_goals go_ret
  all_goals unfold dB
  all_goals rw[rj i]
  all_goals have⟨F,E⟩:=H.out.Iw hn O.out (aW (cw<|di f _ _) X) m rfl
  all_goals exact⟨rfl,⟨_,N,F,y.out⟩,I.out.trans<|E.mono<|by intro k _ b;obtain rfl|b:=zzj.1 b;simp;simp at b;simp[b]⟩
 .rw[i,aG dN];go_wp2;go_ret;unfold dB;rw[rk i];exact⟨rfl,⟨v,N,H.out.more hn,bn.refl _ _⟩,I.out⟩
 .rw[i,bQ];have p1:=aa H.out.blk 1;simp at p1;rcases FileMap.look (w:=f.drew) H.out.now nm O.out.name with⟨hN,hl⟩|⟨t,q,hN,hq,hl⟩
  .have HN:=ae hN;clear hN;go_wp2;go_region;go_wp2;go_region_with (first|(go_at_call 103;apply(oW bN N 4096 d.writes.1.now ⟨2,nm,c,g⟩ _ (H.out.now.new (lE f).drew.drew) (by have:=H.out.hN;have:=H.out.hn;unfold maxLen;omega) O.out oE Lb.out).mono;rintro e w2 ⟨rfl,uS,dY⟩))
   all_goals have s:f.grownBy w2 (some bN):=aW (cw<|cw<|eh f _) dY
   all_goals have⟨r,U,C⟩:=H.out.done P.out uS s hn O.out
   all_goals have u:Hid (aB w2 B p D bN v {d.writes.1 with now:=cV d.writes.1.now ⟨2,nm,c,g⟩} (n+1) j<|N+1):=r
   all_goals have M:Hid (w2.heap[w.heap.size]?=some (uQ ⟨2,nm,c,g⟩)):=U
   all_goals have L:Hid (Fr (dS p D bN v) w w2):=I.out.trans<|C.mono<|by intro k _ b;simp at b;subst b;simp
   all_goals have a6:f.heap.size<=w2.heap.size:=s.size
   all_goals have R:=aa U 0
   all_goals have c1:=aa U 1
   all_goals have c2:=aa U 2
   all_goals have c3:=aa U 3
   all_goals have z:=aa r.blk 2
   all_goals have S:=au r.blk 2
   all_goals simp at R c1 c2 c3 z
   all_goals have a1:∀o,(w2.alloc o).frozen? ⟨p,2,none⟩=false:=λo=>(zzw (a:=⟨p,2,none⟩)<|zzf w2 o p oE).trans S
   all_goals have uU:∀o,(w2.alloc o).cell? ⟨p,2,none⟩=some v:=λo=>(zze (a:=⟨p,2,none⟩)<|zzf w2 o p oE).trans z
   all_goals clear r U C uS dY s
   all_goals go_wp2
   all_goals go_region_law (first|(rw[if_pos<|by rfl];refine jr _ _ rfl B v d.writes.1.pending.length d.writes.1.pending ⟨2,nm,c,g⟩ w2.heap.size rfl ?_ rfl ?_ ?_ ?_ ?_;(exact u.out.pen.alloc _);(exact heap_alloc_new w2<|uQ ⟨2,nm,c,g⟩);(have V:j+d.writes.1.pending.length<=n:=H.out.hD;have:=H.out.hn;omega);(have:=u.out.base.2.2.2;simp;omega);intro Z w4 m X l;obtain⟨x,G,rfl⟩:=ib m;have y:Hid (bn w.heap.size v<|.slice (some ⟨x,0,none⟩) (d.writes.1.pending.length+1) G):=bn.lL l sC;clear l;have⟨MO,O_,O',TV,Y,Pb⟩:=sR u.out M.out X λe=>by have h9:=(K.out.pen.lt _ e).2;omega))
   all_goals go_wp2
   all_goals go_ret
   all_goals unfold dB
   all_goals rw[rm i sE<|by first|exact J.out|simpa using J.out|simp]
   all_goals have⟨F,E⟩:=u.out.Cv O.out (aW (cw<|di w2 _ _) X) m rfl H.out.hD
   all_goals exact⟨rfl,⟨_,N+1,F,y.out⟩,L.out.trans<|E.mono<|by intro k _ b;obtain rfl|b:=zzj.1 b;simp;simp at b;simp[b]⟩
  .have HN:=ae hN;clear hN hq;go_wp2;go_region;go_wp2;go_region_with (first|(go_at_call 103;apply(oW bN N 4096 d.writes.1.now ⟨2,nm,c,g⟩ _ (H.out.now.new (lE f).drew.drew) (by have:=H.out.hN;have:=H.out.hn;unfold maxLen;omega) O.out oE Lb.out).mono;rintro e w2 ⟨rfl,uS,dY⟩))
   all_goals have s:f.grownBy w2 (some bN):=aW (cw<|cw<|eh f _) dY
   all_goals have⟨r,U,C⟩:=H.out.done P.out uS s hn O.out
   all_goals have u:Hid (aB w2 B p D bN v {d.writes.1 with now:=cV d.writes.1.now ⟨2,nm,c,g⟩} (n+1) j<|N+1):=r
   all_goals have M:Hid (w2.heap[w.heap.size]?=some (uQ ⟨2,nm,c,g⟩)):=U
   all_goals have L:Hid (Fr (dS p D bN v) w w2):=I.out.trans<|C.mono<|by intro k _ b;simp at b;subst b;simp
   all_goals have a6:f.heap.size<=w2.heap.size:=s.size
   all_goals have R:=aa U 0
   all_goals have c1:=aa U 1
   all_goals have c2:=aa U 2
   all_goals have c3:=aa U 3
   all_goals have z:=aa r.blk 2
   all_goals have S:=au r.blk 2
   all_goals simp at R c1 c2 c3 z
   all_goals have a1:∀o,(w2.alloc o).frozen? ⟨p,2,none⟩=false:=λo=>(zzw (a:=⟨p,2,none⟩)<|zzf w2 o p oE).trans S
   all_goals have uU:∀o,(w2.alloc o).cell? ⟨p,2,none⟩=some v:=λo=>(zze (a:=⟨p,2,none⟩)<|zzf w2 o p oE).trans z
   all_goals clear r U C uS dY s
   all_goals go_wp2
   all_goals go_region_law (first|(rw[if_pos<|by rfl];refine jr _ _ rfl B v d.writes.1.pending.length d.writes.1.pending ⟨2,nm,c,g⟩ w2.heap.size rfl ?_ rfl ?_ ?_ ?_ ?_;(exact u.out.pen.alloc _);(exact heap_alloc_new w2<|uQ ⟨2,nm,c,g⟩);(have V:j+d.writes.1.pending.length<=n:=H.out.hD;have:=H.out.hn;omega);(have:=u.out.base.2.2.2;simp;omega);intro Z w4 m X l;obtain⟨x,G,rfl⟩:=ib m;have y:Hid (bn w.heap.size v<|.slice (some ⟨x,0,none⟩) (d.writes.1.pending.length+1) G):=bn.lL l sC;clear l;have⟨MO,O_,O',TV,Y,Pb⟩:=sR u.out M.out X λe=>by have h9:=(K.out.pen.lt _ e).2;omega))
   all_goals go_wp2
   all_goals go_ret
   all_goals unfold dB
   all_goals rw[rm i (by rw[HN.out];simp)<|by first|exact J.out|simpa using J.out|simp]
   all_goals have⟨F,E⟩:=u.out.Cv O.out (aW (cw<|di w2 _ _) X) m rfl H.out.hD
   all_goals exact⟨rfl,⟨_,N+1,F,y.out⟩,L.out.trans<|E.mono<|by intro k _ b;obtain rfl|b:=zzj.1 b;simp;simp at b;simp[b]⟩
theorem XG(B p D bN n j N:Nat)(v:Value)(d:ah)(nm o g:ByteArray)(w:World)(h:aB w B p D bN v d n j N)(hn:n<1000000000)(Q:iD.Ok ⟨3,nm,o,g⟩ 4096)(z:3=4->(nm.toList==o.toList)=false/\nm≠o):
  Calls prog 362 #[rM p,Tu ⟨3,nm,o,g⟩] w (dB d ⟨3,nm,o,g⟩ B p D bN n j v w):=by
 have wy:=(zza.1 h.blk).1;have I:=ae h;have M:Hid (¬(3=4/\nm=o)):=λh=>(z h.1).2 h.2
 have HT:Hid (3=4->(nm.toList==o.toList)=false):=λh=>(z h).1
 clear h z;have O:=ae Q;clear Q;go_enter func362,ntmps362;go_wp2_with fail;apply(l8 B p D bN n j N v d _<|I.out.new<|(lE w).alloc _).mono;rintro e c ⟨rfl,yX,bF⟩;have H:=ae yX;have A:c.heap[w.heap.size]?=some (uQ ⟨3,nm,o,g⟩):=(bF.block w.heap.size sE sC).trans<|heap_alloc_new _ _;have r:Hid (Fr (dS p D bN v) w c):=(((Fr.refl _ w).alloc _).mono λk _ b=>b).trans (bF.mono (T:=dS p D bN v)<|by intro k _ b;simp at b;subst b;simp);have a6:w.heap.size<c.heap.size:=(zza.1 A).1;have K:=ae A;have b0:=aa A 0;have R:=aa A 1;have Z:=aa A 2;have b3:=aa A 3;have J:=aa yX.blk 2;have g2:=au yX.blk 2;simp at b0 R Z b3 J;clear yX bF A;have e1:=TT;have e2:=TU;have yG:∀f,(c.alloc f).frozen? ⟨p,2,none⟩=false:=λf=>(zzw (a:=⟨p,2,none⟩)<|zzf c f p oE).trans g2
 have O9:∀f,(c.alloc f).cell? ⟨p,2,none⟩=some v:=λf=>(zze (a:=⟨p,2,none⟩)<|zzf c f p oE).trans J
 have Lb:Hid (d.writes.1.now.Le 4200000000000):=λk t ht=>by have h1:=H.out.Hv k t ht;have h2:=H.out.hN;have h3:=H.out.hn;omega
 obtain i|i|i:=iO d
 .rw[i,aG dN];go_wp2;go_region_law (first|(rw[if_pos<|by rfl];refine jr _ _ rfl B v d.writes.1.pending.length d.writes.1.pending ⟨3,nm,o,g⟩ c.heap.size rfl ?_ rfl ?_ ?_ ?_ ?_;(exact H.out.pen.alloc _);(exact heap_alloc_new c<|uQ ⟨3,nm,o,g⟩);(have S:j+d.writes.1.pending.length<=n:=H.out.hD;have:=H.out.hn;omega);(have:=H.out.base.2.2.2;simp;omega);intro Y w4 m X l;obtain⟨x,G,rfl⟩:=ib m;have y:Hid (bn w.heap.size v<|.slice (some ⟨x,0,none⟩) (d.writes.1.pending.length+1) G):=bn.lL l sC;clear l;have⟨MO,O_,O',TV,V,Pb⟩:=sR H.out K.out X λe=>by have h9:=(I.out.pen.lt _ e).2;omega))
  all_goals go_wp2
  all_goals go_ret
  all_goals unfold dB
  all_goals rw[rj i]
  all_goals have⟨F,E⟩:=H.out.Iw hn O.out (aW (cw<|di c _ _) X) m rfl
  all_goals exact⟨rfl,⟨_,N,F,y.out⟩,r.out.trans<|E.mono<|by intro k _ b;obtain rfl|b:=zzj.1 b;simp;simp at b;simp[b]⟩
 .rw[i,aG dN];go_wp2;go_ret;unfold dB;rw[rk i];exact⟨rfl,⟨v,N,H.out.more hn,bn.refl _ _⟩,r.out⟩
 .rw[i,bQ];have p1:=aa H.out.blk 1;simp at p1;rcases FileMap.look (w:=c.drew) H.out.now nm O.out.name with⟨hN,hl⟩|⟨t,q,hN,hq,hl⟩
  .have HN:=ae hN;clear hN;go_wp2;go_region;go_wp2;go_ret;unfold dB;rw[Ct i ⟨HN.out,sE⟩];exact⟨rfl,⟨v,N,(H.out.new (lE c).drew).more hn,bn.refl _ _⟩,r.out.drew⟩
  .have HN:=ae hN;clear hN hq;go_wp2;go_region;go_wp2;go_region_with (first|(go_at_call 103;apply(oW bN N 4096 d.writes.1.now ⟨3,nm,o,g⟩ _ (H.out.now.new (lE c).drew.drew) (by have:=H.out.hN;have:=H.out.hn;unfold maxLen;omega) O.out oE Lb.out).mono;rintro e w2 ⟨rfl,uS,dY⟩))
   all_goals have C:c.grownBy w2 (some bN):=aW (cw<|cw<|eh c _) dY
   all_goals have⟨s,U,P⟩:=H.out.done K.out uS C hn O.out
   all_goals have u:Hid (aB w2 B p D bN v {d.writes.1 with now:=cV d.writes.1.now ⟨3,nm,o,g⟩} (n+1) j<|N+1):=s
   all_goals have uF:Hid (w2.heap[w.heap.size]?=some (uQ ⟨3,nm,o,g⟩)):=U
   all_goals have W:Hid (Fr (dS p D bN v) w w2):=r.out.trans<|P.mono<|by intro k _ b;simp at b;subst b;simp
   all_goals have a7:c.heap.size<=w2.heap.size:=C.size
   all_goals have c0:=aa U 0
   all_goals have c1:=aa U 1
   all_goals have c2:=aa U 2
   all_goals have c3:=aa U 3
   all_goals have L:=aa s.blk 2
   all_goals have MP:=au s.blk 2
   all_goals simp at c0 c1 c2 c3 L
   all_goals have a1:∀f,(w2.alloc f).frozen? ⟨p,2,none⟩=false:=λf=>(zzw (a:=⟨p,2,none⟩)<|zzf w2 f p oE).trans MP
   all_goals have uU:∀f,(w2.alloc f).cell? ⟨p,2,none⟩=some v:=λf=>(zze (a:=⟨p,2,none⟩)<|zzf w2 f p oE).trans L
   all_goals clear s U P uS dY C
   all_goals go_wp2
   all_goals go_region_law (first|(rw[if_pos<|by rfl];refine jr _ _ rfl B v d.writes.1.pending.length d.writes.1.pending ⟨3,nm,o,g⟩ w2.heap.size rfl ?_ rfl ?_ ?_ ?_ ?_;(exact u.out.pen.alloc _);(exact heap_alloc_new w2<|uQ ⟨3,nm,o,g⟩);(have S:j+d.writes.1.pending.length<=n:=H.out.hD;have:=H.out.hn;omega);(have:=u.out.base.2.2.2;simp;omega);intro Y w4 m X l;obtain⟨x,G,rfl⟩:=ib m;have y:Hid (bn w.heap.size v<|.slice (some ⟨x,0,none⟩) (d.writes.1.pending.length+1) G):=bn.lL l sC;clear l;have⟨MO,O_,O',TV,V,Pb⟩:=sR u.out uF.out X λe=>by have h9:=(I.out.pen.lt _ e).2;omega))
   all_goals go_wp2
   all_goals go_ret
   all_goals unfold dB
   all_goals rw[rm i (by rw[HN.out];simp)<|by first|exact M.out|simpa using M.out|simp]
   all_goals have⟨F,E⟩:=u.out.Cv O.out (aW (cw<|di w2 _ _) X) m rfl H.out.hD
   all_goals exact⟨rfl,⟨_,N+1,F,y.out⟩,W.out.trans<|E.mono<|by intro k _ b;obtain rfl|b:=zzj.1 b;simp;simp at b;simp[b]⟩
theorem XH(B p D bN n j N:Nat)(v:Value)(d:ah)(nm o g:ByteArray)(w:World)(h:aB w B p D bN v d n j N)(hn:n<1000000000)(Q:iD.Ok ⟨4,nm,o,g⟩ 4096)(z:4=4->(nm.toList==o.toList)=false/\nm≠o):
  Calls prog 362 #[rM p,Tu ⟨4,nm,o,g⟩] w (dB d ⟨4,nm,o,g⟩ B p D bN n j v w):=by
 have wy:=(zza.1 h.blk).1;have I:=ae h;have M:Hid (¬(4=4/\nm=o)):=λh=>(z h.1).2 h.2
 have HT:Hid (4=4->(nm.toList==o.toList)=false):=λh=>(z h).1
 clear h z;have O:=ae Q;clear Q;go_enter func362,ntmps362;go_wp2_with fail;apply(l8 B p D bN n j N v d _<|I.out.new<|(lE w).alloc _).mono;rintro e c ⟨rfl,yX,bF⟩;have H:=ae yX;have A:c.heap[w.heap.size]?=some (uQ ⟨4,nm,o,g⟩):=(bF.block w.heap.size sE sC).trans<|heap_alloc_new _ _;have r:Hid (Fr (dS p D bN v) w c):=(((Fr.refl _ w).alloc _).mono λk _ b=>b).trans (bF.mono (T:=dS p D bN v)<|by intro k _ b;simp at b;subst b;simp);have a6:w.heap.size<c.heap.size:=(zza.1 A).1;have K:=ae A;have b0:=aa A 0;have R:=aa A 1;have Z:=aa A 2;have b3:=aa A 3;have J:=aa yX.blk 2;have g2:=au yX.blk 2;simp at b0 R Z b3 J;clear yX bF A;have e1:=TT;have e2:=TU;have yG:∀f,(c.alloc f).frozen? ⟨p,2,none⟩=false:=λf=>(zzw (a:=⟨p,2,none⟩)<|zzf c f p oE).trans g2
 have O9:∀f,(c.alloc f).cell? ⟨p,2,none⟩=some v:=λf=>(zze (a:=⟨p,2,none⟩)<|zzf c f p oE).trans J
 have Lb:Hid (d.writes.1.now.Le 4200000000000):=λk t ht=>by have h1:=H.out.Hv k t ht;have h2:=H.out.hN;have h3:=H.out.hn;omega
 obtain i|i|i:=iO d
 .rw[i,aG dN];go_wp2;go_region_law (first|(rw[if_pos<|by rfl];refine jr _ _ rfl B v d.writes.1.pending.length d.writes.1.pending ⟨4,nm,o,g⟩ c.heap.size rfl ?_ rfl ?_ ?_ ?_ ?_;(exact H.out.pen.alloc _);(exact heap_alloc_new c<|uQ ⟨4,nm,o,g⟩);(have S:j+d.writes.1.pending.length<=n:=H.out.hD;have:=H.out.hn;omega);(have:=H.out.base.2.2.2;simp;omega);intro Y w4 m X l;obtain⟨x,G,rfl⟩:=ib m;have y:Hid (bn w.heap.size v<|.slice (some ⟨x,0,none⟩) (d.writes.1.pending.length+1) G):=bn.lL l sC;clear l;have⟨MO,O_,O',TV,V,Pb⟩:=sR H.out K.out X λe=>by have h9:=(I.out.pen.lt _ e).2;omega))
  all_goals go_wp2
  all_goals go_ret
  all_goals unfold dB
  all_goals rw[rj i]
  all_goals have⟨F,E⟩:=H.out.Iw hn O.out (aW (cw<|di c _ _) X) m rfl
  all_goals exact⟨rfl,⟨_,N,F,y.out⟩,r.out.trans<|E.mono<|by intro k _ b;obtain rfl|b:=zzj.1 b;simp;simp at b;simp[b]⟩
 .rw[i,aG dN];go_wp2;go_ret;unfold dB;rw[rk i];exact⟨rfl,⟨v,N,H.out.more hn,bn.refl _ _⟩,r.out⟩
 .rw[i,bQ];have p1:=aa H.out.blk 1;simp at p1;rcases FileMap.look (w:=c.drew) H.out.now nm O.out.name with⟨hN,hl⟩|⟨t,q,hN,hq,hl⟩
  .have HN:=ae hN;clear hN;go_wp2;go_region;go_wp2;go_ret;unfold dB;rw[Ct i ⟨HN.out,sE⟩];exact⟨rfl,⟨v,N,(H.out.new (lE c).drew).more hn,bn.refl _ _⟩,r.out.drew⟩
  .have HN:=ae hN;clear hN hq;go_wp2;go_region;have BD:=HT.out trivial;go_wp2;go_region_with (first|(go_at_call 103;apply(oW bN N 4096 d.writes.1.now ⟨4,nm,o,g⟩ _ (H.out.now.new (lE c).drew.drew) (by have:=H.out.hN;have:=H.out.hn;unfold maxLen;omega) O.out oE Lb.out).mono;rintro e w2 ⟨rfl,uS,dY⟩))
   all_goals have C:c.grownBy w2 (some bN):=aW (cw<|cw<|eh c _) dY
   all_goals have⟨s,U,P⟩:=H.out.done K.out uS C hn O.out
   all_goals have u:Hid (aB w2 B p D bN v {d.writes.1 with now:=cV d.writes.1.now ⟨4,nm,o,g⟩} (n+1) j<|N+1):=s
   all_goals have uF:Hid (w2.heap[w.heap.size]?=some (uQ ⟨4,nm,o,g⟩)):=U
   all_goals have W:Hid (Fr (dS p D bN v) w w2):=r.out.trans<|P.mono<|by intro k _ b;simp at b;subst b;simp
   all_goals have a7:c.heap.size<=w2.heap.size:=C.size
   all_goals have c0:=aa U 0
   all_goals have c1:=aa U 1
   all_goals have c2:=aa U 2
   all_goals have c3:=aa U 3
   all_goals have L:=aa s.blk 2
   all_goals have MP:=au s.blk 2
   all_goals simp at c0 c1 c2 c3 L
   all_goals have a1:∀f,(w2.alloc f).frozen? ⟨p,2,none⟩=false:=λf=>(zzw (a:=⟨p,2,none⟩)<|zzf w2 f p oE).trans MP
   all_goals have uU:∀f,(w2.alloc f).cell? ⟨p,2,none⟩=some v:=λf=>(zze (a:=⟨p,2,none⟩)<|zzf w2 f p oE).trans L
   all_goals clear s U P uS dY C
   all_goals go_wp2
   all_goals go_region_law (first|(rw[if_pos<|by rfl];refine jr _ _ rfl B v d.writes.1.pending.length d.writes.1.pending ⟨4,nm,o,g⟩ w2.heap.size rfl ?_ rfl ?_ ?_ ?_ ?_;(exact u.out.pen.alloc _);(exact heap_alloc_new w2<|uQ ⟨4,nm,o,g⟩);(have S:j+d.writes.1.pending.length<=n:=H.out.hD;have:=H.out.hn;omega);(have:=u.out.base.2.2.2;simp;omega);intro Y w4 m X l;obtain⟨x,G,rfl⟩:=ib m;have y:Hid (bn w.heap.size v<|.slice (some ⟨x,0,none⟩) (d.writes.1.pending.length+1) G):=bn.lL l sC;clear l;have⟨MO,O_,O',TV,V,Pb⟩:=sR u.out uF.out X λe=>by have h9:=(I.out.pen.lt _ e).2;omega))
   all_goals go_wp2
   all_goals go_ret
   all_goals unfold dB
   all_goals rw[rm i (by rw[HN.out];simp)<|by first|exact M.out|simpa using M.out|simp]
   all_goals have⟨F,E⟩:=u.out.Cv O.out (aW (cw<|di w2 _ _) X) m rfl H.out.hD
   all_goals exact⟨rfl,⟨_,N+1,F,y.out⟩,W.out.trans<|E.mono<|by intro k _ b;obtain rfl|b:=zzj.1 b;simp;simp at b;simp[b]⟩
theorem zw(B p b bN n D N:Nat)(v:Value)(d:ah)(o:iD)(w:World)(h:aB w B p b bN v d n D N)(hn:n<1000000000)(a:o.Ok 4096)(e:o.kind=4->(o.name.toList==o.to.toList)=false/\o.name≠o.to):
  Calls prog 362 #[rM p,Tu o] w (dB d o B p b bN n D v w):=by
 have⟨kd,nm,t,c⟩:=o;obtain k|k|k|k:=a.kind
 .grind [XE]
 .grind [XF]
 .grind [XG]
 .grind [XH]
section
open Sc
variable{xs:List Value}{B D N bN g h k len n p:Nat}{v:Value}{w:World}{d:ah}
theorem qq(l:List Nat):(str l).size=l.length:=by
 have h:∀(m:List Int) (a:ByteArray),(m.foldl (λr n=>r.push<|UInt8.ofNat n.toNat) a).size=a.size+m.length:=by
  intro m;induction m with
  |nil=>grind
  |cons x m ih=>simp_all;omega
 unfold str;rw[h];simp
def DI(d:ah)(o:iD)(B p D bN n a g:Nat)(v:Value)(w:World)(e:Ending)(w':World):Prop :=
 e=.returned (cj (d.tell o).2)/\(∃j E,aB w' B p D bN j (d.tell o).1 (n+1) a E/\bn w.heap.size v j)/\Fr (g :: dS p D bN v) w w'
theorem aB.bytes{w':World}{i:Nat}(a:aB w B p h bN v d n D N)(r:w.ownsRow k 5 1 (.slice (some<|dH g) len i) len xs)(f:Fr [g] w w'):aB w' B p h bN v d n D N:=by
 have⟨c,b⟩:=aF r rfl;refine a.fr f ?_ ?_ ?_ ?_ ?_
 .simp;intro e;subst e;rw[a.blk]at b;cases b
 .simp;exact a.j8.cL b
 .simp;exact a.now.cL b
 .intro q hq;simp;intro e;subst e;exact bG a.pen b dN hq
 .grind
theorem PX{f:Nat}(b:aB w B p h bN v d n D N)(r:w.ownsRow k 5 1 (.slice (some<|dH g) len f) len xs):g∉dS p h bN v:=by
 have⟨c,a⟩:=aF r rfl;intro m;obtain e|m:=zzj.1 m
 .subst e;rw[b.blk]at a;cases a
 obtain e|m:=zzj.1 m
 .exact b.j8.cL a e.symm
 obtain e|m:=zzj.1 m
 .exact b.now.cL a e.symm
 .simp at m;exact bG b.pen a dN m
theorem PY{wr:World}{base:Nat}{s:List Value}(y:wr.ownsRow base 5 1 (.slice (some<|dH g) n p) n s)(j:w.grownBy wr<|some g):(wr.setCell (d8 g k)<|.int .u8 33).ownsRow base 5 1 (.slice (some<|dH g) n p) n (s.set k<|.int .u8 33)/\w.grownBy (wr.setCell (d8 g k)<|.int .u8 33) (some g):=by
 have⟨h,a⟩:=y.stored k<|.int .u8 33;exact⟨h,aW j a⟩
theorem Lm(B p D bN n f N kd g c base:Nat)(v:Value)(d:ah)(nm:ByteArray)(l:List Nat)(w:World)(h:aB w B p D bN v d n f N)(hn:n<1000000000)(x:kd=1\/kd=2)(M:nm.size<=maxLen)
  (r:w.ownsRow base 5 1 (.slice (some<|dH g) l.length c) l.length<|bs l) (o:l.length<=4096) :
  Calls prog 360 #[rM p,.int .i64 (kd:Int),.string nm,.slice (some<|dH g) l.length c] w (DI d ⟨kd,nm,yA,str l⟩ B p D bN n f g v w):=by
 have J:=ae h;have R:=ae r;have z:=oY w g 0 l.length c l rfl<|uN r;have G:=ae<|PX h r;have V:=(ql r).2;clear h r;have⟨m,b⟩:=xY l.length;rw[<-b]at z R o ⊢;have L:=ae b.symm;clear b
 go_enter func360,ntmps360;go_wp2_with fail;apply(zw B p D bN n f N v d ⟨kd,nm,yA,str l⟩ w J.out hn ⟨by obtain h|h:=x<;>simp[h],M,sE,by rw[qq,L.out];exact o⟩<|by obtain h|h:=x<;>(intro F;simp only at F;omega)).mono;rintro e t ⟨rfl,⟨kr,lN,yX,sA⟩,bF⟩;have O:=ae sA;clear sA;have C:=ae yX;have A:=ae bF;have u:t.ownsRow base 5 1 (.slice (some (dH g)) m c) m (bs l):=av R.out bF (λq a=>by cases a;exact G.out);have S:=bF.size;clear yX bF;generalize E:cj (d.tell ⟨kd,nm,yA,str l⟩).2=ev;have I:=ae E;clear E;go_wp2;go_loopw [20] (λi wr=>∃k:Nat,k<=m/\i=.int .i64 k/\(∃s,wr.ownsRow base 5 1 (.slice (some (dH g)) m c) m s)/\t.grownBy wr (some g)) (λi _=>m-(intOf i).toNat)
 case atStart=>exact⟨0,zzs _,rfl,⟨_,u⟩,eh _ _⟩
 case round=>
  obtain⟨k,P,rfl,⟨s,y⟩,j⟩:=hrel;by_cases U:k<m
  .have MR:=y.cellAt k oE;have hlen:k<s.length:=by have:=y.1;omega
   rw[zzg hlen]at MR;have Z:=y.frozenAt k;obtain⟨Q,Y⟩:=PY (k:=k) y j;have H:=ae Q;have K:=ae Y;clear y Q Y j;go_wp2;go_roundw;case rel=>exact⟨k+1,oE,nF,⟨_,H.out⟩,K.out⟩
   case measure=>simp[intOf];omega
  .go_wp2;go_ret;have W:=Fr.bK j;exact⟨by rw[I.out];rfl,⟨kr,lN,C.out.bytes u W,O.out⟩,(A.out.mono λq _ a=>List.mem_cons_of_mem _ a).trans<|W.mono λq _ a=>by simp at a;subst a;simp⟩
theorem MZ(B p b bN n D N g c base:Nat)(v:Value)(d:ah)(nm:ByteArray)(l:List Nat)(w:World)(h:aB w B p b bN v d n D N)(hn:n<1000000000)(M:nm.size<=maxLen)
  (r:w.ownsRow base 5 1 (.slice (some<|dH g) l.length c) l.length<|bs l) (a:l.length<=4096) :
  Calls prog 359 #[rM p,.string nm,.slice (some<|dH g) l.length c] w (DI d ⟨1,nm,yA,str l⟩ B p b bN n D g v w):=by
 have I:=ae h;clear h;go_enter func359,ntmps359;go_wp2_with fail;apply(Lm B p b bN n D N 1 g c base v d nm l w I.out hn (Or.inl rfl) M r a).mono;rintro e f ⟨rfl,h1,h2⟩;have H:=ae h1;clear h1;go_wp2;go_ret;exact⟨rfl,H.out,h2⟩
theorem IE(B p b bN n D N g c base:Nat)(v:Value)(d:ah)(nm:ByteArray)(l:List Nat)(w:World)(h:aB w B p b bN v d n D N)(hn:n<1000000000)(M:nm.size<=maxLen)
  (r:w.ownsRow base 5 1 (.slice (some<|dH g) l.length c) l.length<|bs l) (a:l.length<=4096) :
  Calls prog 353 #[rM p,.string nm,.slice (some<|dH g) l.length c] w (DI d ⟨2,nm,yA,str l⟩ B p b bN n D g v w):=by
 have I:=ae h;clear h;go_enter func353,ntmps353;go_wp2_with fail;apply(Lm B p b bN n D N 2 g c base v d nm l w I.out hn (Or.inr rfl) M r a).mono;rintro e f ⟨rfl,h1,h2⟩;have H:=ae h1;clear h1;go_wp2;go_ret;exact⟨rfl,H.out,h2⟩
theorem IG(B p b bN n D N:Nat)(v:Value)(d:ah)(nm:ByteArray)(w:World)(h:aB w B p b bN v d n D N)(hn:n<1000000000)(M:nm.size<=maxLen):
  Calls prog 356 #[rM p,.string nm] w (dB d ⟨3,nm,yA,yA⟩ B p b bN n D v w):=by
 have I:=ae h;clear h;go_enter func356,ntmps356;go_wp2_with fail;apply(zw B p b bN n D N v d ⟨3,nm,yA,yA⟩ w I.out hn ⟨sE,M,sE,sE⟩ sE).mono;rintro e a ⟨rfl,h1,h2⟩;have H:=ae h1;clear h1;go_wp2;go_ret;exact⟨rfl,H.out,h2⟩
theorem II(B p b bN n D N:Nat)(v:Value)(d:ah)(nm o:ByteArray)(w:World)(h:aB w B p b bN v d n D N)(hn:n<1000000000)(M:nm.size<=maxLen)(f:o.size<=maxLen)(a:(nm.toList==o.toList)=false/\nm≠o):
  Calls prog 357 #[rM p,.string nm,.string o] w (dB d ⟨4,nm,o,yA⟩ B p b bN n D v w):=by
 have I:=ae h;have c:=ae a;clear h a;go_enter func357,ntmps357;go_wp2_with fail;apply(zw B p b bN n D N v d ⟨4,nm,o,yA⟩ w I.out hn ⟨sE,M,f,sE⟩ λ_=>c.out).mono;rintro e g ⟨rfl,h1,h2⟩;have H:=ae h1;clear h1;go_wp2;go_ret;exact⟨rfl,H.out,h2⟩
end
end Go.Proofs.YtdcafjmdfpjcbaaGreatDoor
