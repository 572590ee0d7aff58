import Derived.Test.YtcalalndmcemiaaGreatDoorC40
import Derived.Test.YtcalalndmcemiaaGreatDoorC41
set_option maxRecDepth 100000
set_option maxHeartbeats 16000000
namespace Go.Proofs.YtcalalndmcemiaaGreatDoor
open Go.RowKit Go.Maps Go.Shelf
open Sc
theorem decidedN {p:Prop} [Decidable p] {c:Bool} (h:c=decide p):(c=true→p)∧(c=false→¬ p):=by
 subst h
 exact ⟨of_decide_eq_true,of_decide_eq_false⟩
theorem jMx {r s:Nat} {c:Bool} (h:c=((r:Int) == (s:Int))):(c=true→r=s)∧(c=false→¬ r=s):=by
 subst h
 exact ⟨λe=>by have:=eq_of_beq e;omega,λe h=>by subst h;simp at e⟩
theorem jPw (w:World) (v:Value) (L:List KStep) (z:Int) (hL:jUi w v L) (hz:InI z) (hB:2≤w.heap.size) (hmet:Met w) (hpow:Pows w)
  (hworks:Calls Tryz.prog 7 #[] w λe w'=>e=.returned (.bool true)∧Below w.heap.size w w') :
  Calls Tryz.prog 5 #[v,.int .i64 z] w λe w'=>e=.returned (.bool true)∧Below w.heap.size w w':=by
 obtain ⟨ao,cap,rfl,hst⟩:=hL
 obtain ⟨N,hN⟩:∃ N,N=L.length:=⟨_,rfl⟩
 rw [← hN]
 have HN:=jA1 (And.intro hN (And.intro hst (And.intro hz (And.intro hmet hpow))))
 clear hN hst hz hmet hpow
 go_enter Tryz.func5,Tryz.ntmps5
 go_wp2_with fail
 refine hworks.mono ?_
 clear hworks
 rintro e w1 ⟨rfl,hb1⟩
 have H1:=jA1 hb1
 clear hb1
 by_cases h60:(N:Int)≤60
 ·have h60':¬ 60<(N:Int):=by omega
  go_wp2_with fail
  refine (jKv w1 z (by have:=H1.out.size;omega) (HN.out.2.2.2.1.below H1.out oE) HN.out.2.2.1.1 (by have:=HN.out.2.2.1.2;omega)).mono ?_
  rintro e w2 ⟨np,hv,hps,rfl,hNet,hb2⟩
  obtain ⟨n,hn⟩:∃ n,n=1+pkC z 4:=⟨_,rfl⟩
  have hn4:1≤n∧n≤4:=by have:=jCn z 4 dN;omega
  rw [← hn] at hNet
  obtain ⟨ha,hc,ehv,-⟩:=jBg (f:=id) hNet.hs.1
  have hNH:hps.length=n+1:=by have:=hNet.ln;simpa using this
  rw [hNH] at ehv
  subst ehv
  obtain ⟨c0,c4⟩:=hNet.cells
  have H2:=jA1 (And.intro hNet hb2)
  clear hNet hb2 hn
  have hmk:=mkSS w2 (n+1) oE
  rw [show (((n+1:Nat):Int))=(n:Int)+1 by omega] at hmk
  obtain ⟨W,hW⟩:∃ W,W=w2.alloc (.cells (List.replicate (n+1) (.slice none 0 0)).toArray 35):=⟨_,rfl⟩
  have hfW:Fr [] w2 W:=by rw [hW];exact (Fr.refl [] w2).alloc _
  have hH0:HaveM W w2.heap.size (n+1) [] []:=⟨by rw [hW];exact heap_alloc_new w2 _,rfl,nofun,List.Pairwise.nil⟩
  have H3:=jA1 (And.intro (H2.out.1.new hfW) (And.intro hH0 (H2.out.2.trans (hfW.below H2.out.2.size sE))))
  rw [← hW] at hmk
  clear hfW hH0 hW
  go_wp2_with fail
  clear hmk c0 c4
  go_loopw [8] (λi wr=>∃ m:Nat,m≤n+1∧i=.int .i64 (m:Int)∧Hid (∃ gs,gs.length=m∧HaveM wr w2.heap.size (n+1 - m) gs (List.replicate m e5)∧NetB wr wr w1.heap.size np n 1 (.slice ha (n+1) hc) hps (net0 n)∧Below w1.heap.size w1 wr∧∀ g∈gs,w1.heap.size≤g)) (λi _=>n+1 - (intOf i).toNat)
  case atStart=>exact ⟨0,Nat.zero_le _,rfl,[],rfl,H3.out.2.1,H3.out.1.rebase rfl,H3.out.2.2,nofun⟩
  case round =>
   obtain ⟨m,hm,rfl,HM⟩:=hrel
   obtain ⟨gs,hgl,hHm,hNm,hBm,hgB⟩:=HM.out
   obtain ⟨-,c4⟩:=hNm.cells
   by_cases hmt:m≤n
   ·have i0:(m:Int)≤(n:Int):=by omega
    have i1:(0:Int)≤(m:Int):=by omega
    have i2:(m:Int)<(n:Int)+1:=by omega
    have hm5:=mkS5 wr
    obtain ⟨W3,hW3⟩:∃ W3,W3=wr.alloc (.cells (List.replicate 5 (.string ByteArray.empty)).toArray 9):=⟨_,rfl⟩
    have hf3:Fr [] wr W3:=by rw [hW3];exact (Fr.refl [] wr).alloc _
    have hg3:W3.heap[wr.heap.size]?=some (jQ4 e5):=by rw [hW3];exact heap_alloc_new wr _
    rw [← hW3] at hm5
    have hH3:=hHm.new hf3
    rw [show n+1 - m=(n - m)+1 by omega] at hH3
    obtain ⟨cb,fb,hH4⟩:=hH3.add hg3 (λhm=>by
     obtain ⟨j,hj⟩:=List.getElem?_of_mem hm
     have:=(Array.getElem?_eq_some_iff.1 (hHm.each j _ e5 hj (by rw [List.getElem?_replicate,if_pos (by rw [← hgl];exact (List.getElem?_eq_some_iff.1 hj).1)])).1).1
     omega)
    rw [hgl] at cb fb hH4
    have hfs:Fr [w2.heap.size] W3 (W3.setCell ⟨w2.heap.size,m,none⟩ (sl5 wr.heap.size)):=Fr.set1 sE _ _
    have hN4:=(hNm.new hf3).side hfs hH3.blk (.inl rfl) rfl
    have hB4:Below w1.heap.size w1 (W3.setCell ⟨w2.heap.size,m,none⟩ (sl5 wr.heap.size)):=(hBm.trans (hf3.below hNm.hs.2 sE)).trans (hfs.below (Nat.le_trans hNm.hs.2 hf3.size) (λk hk=>by simp at hk;subst hk;exact H2.out.2.size))
    have e9:List.replicate m e5++[e5]=List.replicate (m+1) e5:=by rw [List.replicate_succ']
    rw [e9] at hH4
    have hgB4:∀ g∈gs++[wr.heap.size],w1.heap.size≤g:=λg hg=>by
     rcases List.mem_append.1 hg with e | e
     ·exact hgB g e
     ·simp at e;rw [e];exact hNm.hs.2
    have H4:=jA1 (And.intro hH4 (And.intro hN4 (And.intro hB4 hgB4)))
    have HG:=jA1 hgl
    clear hH4 hN4 hB4 hgB4 hgB hfs hH3 hg3 hf3 hW3 hHm hNm hBm HM hgl e9
    go_wp2_with fail
    go_roundw
    case rel=>exact ⟨m+1,by omega,by go_num,gs++[wr.heap.size],by rw [List.length_append,HG.out];rfl,by rw [show n+1 - (m+1)=n - m by omega];exact H4.out.1,H4.out.2.1,H4.out.2.2.1,H4.out.2.2.2⟩
    case measure=>simp [intOf];omega
   ·have i0:¬ (m:Int)≤(n:Int):=by omega
    have em:m=n+1:=by omega
    subst em
    rw [Nat.sub_self] at hHm
    have H5:=jA1 (And.intro hHm (And.intro hNm (And.intro hBm hgB)))
    obtain ⟨hb,hhb⟩:∃ hb,hb=w2.heap.size:=⟨_,rfl⟩
    rw [← hhb] at H5
    clear hHm hNm hBm hgB HM hgl
    go_wp2_with fail
    rw [← hhb]
    clear hhb
    go_loopw [9] (λi wx=>∃ q:Nat,q≤N∧i=.int .i64 (q:Int)∧Hid (AHead w1.heap.size np n hb (.slice ha (n+1) hc) hps w1 q wx)) (λi _=>N - (intOf i).toNat)
    case atStart =>
     refine ⟨0,Nat.zero_le _,rfl,[],[],List.replicate n [],1,1,gs,List.replicate (n+1) e5,head0 n 1,?_,by omega,H5.out.1,jWd n,H5.out.2.2.1,H5.out.2.2.2⟩
     have e:hnet 0 1 [] [] (List.replicate n [])=net0 n:=by
      unfold hnet net0
      simp [jBh]
     rw [e]
     exact H5.out.2.1
    case round =>
     obtain ⟨q,hq,rfl,HQ⟩:=hrel
     by_cases hqt:q<N
     ·obtain ⟨ds,ord,Vs,lm,K,gs,H,hHd,hNt,hK,hHm,hHo,hBl,hgB⟩:=HQ.out
      obtain ⟨stp,hstp⟩:∃ x,L[q]?=some x:=⟨_,List.getElem?_eq_getElem (by rw [← HN.out.1];exact hqt)⟩
      obtain ⟨⟨lb,lo,rfl,hlb,hcel⟩,hIa,hIb,hIc⟩:=HN.out.2.1 q stp hstp
      have hcl:∀ w',Below w1.heap.size w1 w'→KCells w' lb (lo+q*8) stp:=λw' hw'=>(hcel.below H1.out hlb).below hw' (by have:=H1.out.size;omega)
      obtain ⟨-,c4⟩:=hNt.cells
      obtain ⟨-,k1,k2,k3,-⟩:=hcl wr hBl
      have q0:(0:Int)≤(q:Int):=by omega
      have q1:(q:Int)<(N:Int):=by omega
      have HT:=jA1 (And.intro hHd (And.intro hNt (And.intro hHm (And.intro hHo (And.intro hBl (And.intro hcl hgB))))))
      have hpa:=λw'=>jBk stp.a n w' hIa.1 (by have:=hIa.2;omega) oE oE
      have hpb:=λw'=>jBk stp.b n w' hIb.1 (by have:=hIb.2;omega) oE oE
      have hpc:=λw'=>jBk stp.c 5 w' hIc.1 (by have:=hIc.2;omega) oE oE
      have HPA:=jA1 hpa
      have HPB:=jA1 hpb
      have HPC:=jA1 hpc
      obtain ⟨s0,hs0⟩:∃ s0,s0=pkC stp.a n:=⟨_,rfl⟩
      obtain ⟨r0,hr0⟩:∃ r0,r0=pkC stp.b n:=⟨_,rfl⟩
      obtain ⟨cc,hcc⟩:∃ cc,cc=pkC stp.c 5:=⟨_,rfl⟩
      obtain ⟨s,hs⟩:∃ s,s=s0+1:=⟨_,rfl⟩
      obtain ⟨r,hr⟩:∃ r,r=r0+1:=⟨_,rfl⟩
      have hs4:s0<n:=by rw [hs0];exact jCn _ _ oE
      have hr4:r0<n:=by rw [hr0];exact jCn _ _ oE
      have hc5:cc<5:=by rw [hcc];exact jCn _ _ oE
      have hws:IntKind.i64.wrap (1+(s0:Int))=(s:Int):=by rw [IntKind.wrap_i64];omega
      have hwr:IntKind.i64.wrap (1+(r0:Int))=(r:Int):=by rw [IntKind.wrap_i64];omega
      have hsn:1≤s∧s≤n:=by omega
      have hrn:1≤r∧r≤n:=by omega
      rw [← hs0] at HPA
      rw [← hr0] at HPB
      rw [← hcc] at HPC
      have HC:=jA1 hcl
      have hnw:∀ (K':Nat) (A:ANet) (x y:World),Fr [] x y→AMid w1.heap.size np n hb (.slice ha (n+1) hc) hps w1 gs H wr K' A x→AMid w1.heap.size np n hb (.slice ha (n+1) hc) hps w1 gs H wr K' A y:=λK' A x y hf h=>h.new hf
      have HM0:=jA1 (show AMid w1.heap.size np n hb (.slice ha (n+1) hc) hps w1 gs H wr K (hnet q lm ds ord Vs) wr from ⟨hNt,hHm,hBl⟩)
      clear hHd hNt hHm hHo hBl hgB hcl hpa hpb hpc HQ hs0 hr0 hcc hcel hIa hIb hIc hstp hs hr hnw
      go_wp2_with fail
      go_region_held3 (λw'=>w'.cell? ⟨lb,lo+q*8+1,none⟩=some (.int .i64 stp.a)∧w'.cell? ⟨np,4,none⟩=some (.int .i64 (n:Int))) (simp [*])
       (first | (go_at_call 10;refine (HPA.out _).mono ?_;rintro e w3 ⟨rfl,rfl⟩))
      have HM1:=jA1 (HM0.out.new (Fr.refl [] wr).drew)
      generalize wr.drew=W1 at HM1 ⊢
      clear c4 k1 k2 k3
      obtain ⟨-,c4⟩:=HM1.out.net.cells
      obtain ⟨-,-,k2,k3,-⟩:=HC.out W1 HM1.out.low
      go_wp2_with fail
      go_region_held3 (λw'=>w'.cell? ⟨lb,lo+q*8+2,none⟩=some (.int .i64 stp.b)∧w'.cell? ⟨np,4,none⟩=some (.int .i64 (n:Int))) (simp [*])
       (first | (go_at_call 10;refine (HPB.out _).mono ?_;rintro e w3 ⟨rfl,rfl⟩))
      have HM2:=jA1 (HM1.out.new (Fr.refl [] W1).drew)
      generalize W1.drew=W2 at HM2 ⊢
      clear c4 k2 k3
      obtain ⟨-,-,-,k3,-⟩:=HC.out W2 HM2.out.low
      go_wp2_with fail
      refine (HPC.out _).mono ?_
      rintro e w3 ⟨rfl,e3⟩
      rw [e3]
      clear e3 k3
      obtain ⟨hp0,hh0⟩:∃ x,hps[0]?=some x:=⟨_,List.getElem?_eq_getElem oE⟩
      obtain ⟨hpr,hhr⟩:∃ x,hps[r]?=some x:=⟨_,List.getElem?_eq_getElem oE⟩
      obtain ⟨hps',hhs⟩:∃ x,hps[s]?=some x:=⟨_,List.getElem?_eq_getElem oE⟩
      obtain ⟨gh,rfl,ch0⟩:=jAj (f:=id) HM2.out.net.hs.1 hh0
      obtain ⟨n0,-⟩:=HM2.out.net.cells
      simp at ch0
      have hmetR:∀ w',Below w1.heap.size w1 w'→Met w'∧Pows w':=λw' hw'=>⟨(HN.out.2.2.2.1.below H1.out oE).below hw' (by have:=H1.out.size;omega),(HN.out.2.2.2.2.of_block (H1.out.block 1 oE)).of_block (hw'.block 1 (by have:=H1.out.size;omega))⟩
      have HMP:=jA1 hmetR
      have hbg:∀ w',Fr [] W2 w'→Calls Tryz.prog 11 #[.pointer (some ⟨hp0,0,none⟩),jD1 (-1) (-1) 0 0] w' λe w''=>e=.returned (.tuple #[.int .u64 ((q:Int)+1),.int .i64 0])∧AMid w1.heap.size np n hb (.slice (some ⟨gh,0,none⟩) (n+1) hc) hps w1 gs H wr (K+1) { hnet q lm ds ord Vs with c:=c1s (q+1) 4 jBl (q+2) (if q+1=lm then lm+16 else lm) [] [] } w'':=λw' hw'=>by
       have hm:=HM2.out.new hw'
       obtain ⟨Ls,hNd⟩:=hm.nds
       refine (jUv hNd hh0 (by have:=H1.out.size;omega) (hmetR w' hm.low).1 (hmetR w' hm.low).2 oE).mono ?_
       rintro e w'' ⟨rfl,hp⟩
       have e0:=jMv (q+1) lm
       rw [e0] at hp ⊢
       exact ⟨by simp,hm.node (A':={ hnet q lm ds ord Vs with c:=c1s (q+1) 4 jBl (q+2) (if q+1=lm then lm+16 else lm) [] [] }) hp rfl rfl rfl⟩
      have HB:=jA1 hbg
      have hgl:gh<W2.heap.size:=by
       have h1:=ch0
       unfold World.cell? at h1
       rcases Nat.lt_or_ge gh W2.heap.size with e | e
       ·exact e
       ·rw [Array.getElem?_eq_none (by exact e)] at h1;cases h1
      have hnl:np<W2.heap.size:=by
       have h1:=n0
       unfold World.cell? at h1
       rcases Nat.lt_or_ge np W2.heap.size with e | e
       ·exact e
       ·rw [Array.getElem?_eq_none (by exact e)] at h1;cases h1
      clear hmetR hbg
      go_wp2_with fail
      go_region_held3 (λw'=>w'.cell? ⟨np,0,none⟩=some (.slice (some ⟨gh,0,none⟩) (n+1) hc)∧w'.cell? ⟨gh,0,none⟩=some (ptrV hp0)) (simp [*])
       (first | (go_at_call 12;refine (jF8 _).mono ?_;rintro e w3 ⟨rfl,hf3⟩;have hf3':Fr [] W2 w3:=Fr.trans (by first | exact jAk (Fr.refl [] W2) _ | exact (Fr.refl [] W2).drew | exact Fr.refl [] W2) hf3;have n03:w3.cell? ⟨np,0,none⟩=some (.slice (some ⟨gh,0,none⟩) (n+1) hc):=(World.cell?_of_block (a:=⟨np,0,none⟩) (hf3'.block np hnl (by simp))).trans n0;have ch3:w3.cell? ⟨gh,0,none⟩=some (ptrV hp0):=(World.cell?_of_block (a:=⟨gh,0,none⟩) (hf3'.block gh hgl (by simp))).trans ch0;have HF3:=jA1 hf3';clear hf3 hf3') | (go_at_call 11;refine (HB.out _ (HF3.out.trans (by first | exact jAk (Fr.refl [] w3) _ | exact (Fr.refl [] w3).drew | exact Fr.refl [] w3))).mono ?_;rintro e w4 ⟨rfl,hm4⟩;(obtain ⟨g',eg',ch4⟩:=jAj (f:=id) hm4.net.hs.1 hh0);cases eg';(obtain ⟨n04,-⟩:=hm4.net.cells);simp at ch4;have HM4:=jA1 hm4;clear hm4))
      go_wp2_with fail
      clear n0 ch0 hgl hnl n03 ch3 n04 ch4
      obtain ⟨Vr,hVr⟩:∃ x,Vs[r - 1]?=some x:=⟨_,List.getElem?_eq_getElem (by have:=HT.out.1.len.1;omega)⟩
      obtain ⟨V,hV⟩:∃ x,Vs[s - 1]?=some x:=⟨_,List.getElem?_eq_getElem (by have:=HT.out.1.len.1;omega)⟩
      have hkey:(⟨#[107]⟩:ByteArray)++str (dgs cc)=keyB cc:=by unfold keyB;rw [show (107 :: dgs cc)=[107]++dgs cc from rfl,jFi];rfl
      have hkz:=jEm cc hc5
      have hz1:(str (dgs cc)).size=1:=by rw [jB1,jD9 oE];rfl
      have hz0:(⟨#[107]⟩:ByteArray).size=1:=rfl
      have hks:¬ 9223372036854775807<1+(str (dgs cc)).size:=by omega
      have hdg:=jBi cc oE
      obtain ⟨th,hth⟩:∃ th,th=(jA3 Vr (keyB cc)).isSome:=⟨_,rfl⟩
      obtain ⟨yy,hyy⟩:∃ yy,yy=(jA3 Vr (keyB cc)).getD ByteArray.empty:=⟨_,rfl⟩
      have hgt:∀ w',Fr [] w4 w'→Calls Tryz.prog 13 #[.pointer (some ⟨hpr,0,none⟩),.int .u64 ((q:Int)+1),.int .i64 0,.string (keyB cc)] w' λe w''=>e=.returned (.tuple #[.string yy,.bool th,.int .i64 0])∧AMid w1.heap.size np n hb (.slice (some ⟨gh,0,none⟩) (n+1) hc) hps w1 gs H wr (K+2) { hnet q lm ds ord Vs with c:=c1s (q+1) 4 jBl (q+2) (if q+1=lm then lm+16 else lm) [] [],ss:=(jBh Vs).set (r - 1) (hs1 Vr (q+1) 1 1 0 (keyB cc) ByteArray.empty,[]) } w'':=λw' hw'=>by
       have hm:=HM4.out.new hw'
       obtain ⟨Ls,hNd⟩:=hm.nds
       have hg:=kGet (t:=q+1) (i:=r - 1) 0 (keyB cc) hNd (jD7 hVr) (by rw [show r - 1+1=r by omega];exact hhr) (by have:=H1.out.size;omega) (HMP.out w' hm.low).1 oE (by unfold maxLen;omega) oE
       rw [jXh Vr (q+1) (keyB cc) oE hkz,← hth,← hyy] at hg
       rw [show (((q+1:Nat):Int))=(q:Int)+1 by omega] at hg
       refine hg.mono ?_
       rintro e w'' ⟨rfl,hp⟩
       exact ⟨rfl,hm.node (A':={ hnet q lm ds ord Vs with c:=c1s (q+1) 4 jBl (q+2) (if q+1=lm then lm+16 else lm) [] [],ss:=(jBh Vs).set (r - 1) (hs1 Vr (q+1) 1 1 0 (keyB cc) ByteArray.empty,[]) }) hp rfl rfl rfl⟩
      obtain ⟨g4,eg4,chr⟩:=jAj (f:=id) HM4.out.net.hs.1 hhr
      cases eg4
      obtain ⟨n0,-⟩:=HM4.out.net.cells
      simp at chr
      have hgl:gh<w4.heap.size:=World.block_lt_of_cell? w4 _ chr
      have hnl:np<w4.heap.size:=World.block_lt_of_cell? w4 _ n0
      have rr0:(0:Int)≤(r:Int):=by omega
      have rr1:(r:Int)<(n:Int)+1:=by omega
      have HGT:=jA1 hgt
      have HDG:=jA1 hdg
      have HV:=jA1 (And.intro hVr (And.intro hV (And.intro hth (And.intro hyy (And.intro hkz (And.intro hhs (And.intro hhr hh0)))))))
      clear hgt hdg hVr hV hth hyy hkz hhs hhr hh0
      go_region_held3 (λw'=>w'.cell? ⟨np,0,none⟩=some (.slice (some ⟨gh,0,none⟩) (n+1) hc)∧w'.cell? ⟨gh,r,none⟩=some (ptrV hpr)) (simp [*])
       (first | (go_at_call 14;refine (HDG.out _).mono ?_;rintro e w5 ⟨rfl,hf5⟩;have hf5':Fr [] w4 w5:=Fr.trans (by first | exact jAk (Fr.refl [] w4) _ | exact (Fr.refl [] w4).drew | exact Fr.refl [] w4) hf5;have n05:w5.cell? ⟨np,0,none⟩=some (.slice (some ⟨gh,0,none⟩) (n+1) hc):=(World.cell?_of_block (a:=⟨np,0,none⟩) (hf5'.block np hnl (by simp))).trans n0;have ch5:w5.cell? ⟨gh,r,none⟩=some (ptrV hpr):=(World.cell?_of_block (a:=⟨gh,r,none⟩) (hf5'.block gh hgl (by simp))).trans chr;have HF5:=jA1 hf5';clear hf5 hf5') | (go_at_call 13;refine (HGT.out _ (HF5.out.trans (by first | exact jAk (Fr.refl [] w5) _ | exact (Fr.refl [] w5).drew | exact Fr.refl [] w5))).mono ?_;rintro e w6 ⟨rfl,hm6⟩;(obtain ⟨g',eg',ch6⟩:=jAj (f:=id) hm6.net.hs.1 HV.out.2.2.2.2.2.2.1);cases eg';(obtain ⟨n06,-⟩:=hm6.net.cells);simp at ch6;have HM6:=jA1 hm6;clear hm6))
      clear n0 chr n05 ch5 n06 ch6 hgl hnl
      obtain ⟨rowR,hrowR⟩:∃ x,H[r]?=some x:=⟨_,List.getElem?_eq_getElem (by have:=HT.out.2.2.2.1.len.1;have:=HT.out.1.len.1;omega)⟩
      have hor:=HT.out.2.2.2.1.each (r - 1) Vr rowR HV.out.1 (by rw [show r - 1+1=r by omega];exact hrowR) cc hc5
      rw [← HV.out.2.2.2.1] at hor
      obtain ⟨gR,hgR,hv1,hv2,-,-,-⟩:=HM6.out.hav.cell hrowR hor.1
      have hyt:yy.toList.isEmpty=!th:=by
       rw [HV.out.2.2.2.1,HV.out.2.2.1]
       cases e:jA3 Vr (keyB cc) with
       | none=>simp
       | some y=>exact jTb (hor.2 y e)
      have cc0:(0:Int)≤(cc:Int):=by omega
      have cc1:(cc:Int)<5:=by omega
      have hq60:q<60:=by omega
      have hvz:=jTn q hq60
      obtain ⟨sq,zs,x2,x3,c5,htr,hwv⟩:=jVs (lm':=if q+1=lm then lm+16 else lm) (k:=keyB cc) (v:=vlB q) HT.out.1 hq60 hn4.2 hsn hrn HV.out.2.1 HV.out.1 HV.out.2.2.2.2.1 hvz.2
      have hval:(⟨#[118]⟩:ByteArray)++str (dgs q)=vlB q:=by unfold vlB;rw [show (118 :: dgs q)=[118]++dgs q from rfl,jFi];rfl
      have hvs:¬ 9223372036854775807<1+(str (dgs q)).size:=by
       rw [jB1]
       have:=jIm q
       omega
      have hz9:(⟨#[118]⟩:ByteArray).size=1:=rfl
      have hpt:∀ w',Fr [] w6 w'→Calls Tryz.prog 15 #[.pointer (some ⟨hps',0,none⟩),.int .u64 ((q:Int)+1),.int .i64 sq,.string (keyB cc),.string (vlB q)] w' λe w''=>e=.returned (.int .i64 0)∧AMid w1.heap.size np n hb (.slice (some ⟨gh,0,none⟩) (n+1) hc) hps w1 gs H wr (K+3) { hnet q lm ds ord Vs with c:=c1s (q+1) 4 jBl (q+2) (if q+1=lm then lm+16 else lm) [] [],ss:=((jBh Vs).set (r - 1) (hs1 Vr (q+1) 1 1 0 (keyB cc) ByteArray.empty,[])).set (s - 1) (x3,[]) } w'':=λw' hw'=>by
       have hm:=HM6.out.new hw'
       obtain ⟨Ls,hNd⟩:=hm.nds
       have hg:=kPut (t:=q+1) (i:=s - 1) sq (keyB cc) (vlB q) hNd htr.at2 (by rw [show s - 1+1=s by omega];exact HV.out.2.2.2.2.2.1) (by have:=H1.out.size;omega) (HMP.out w' hm.low).1 oE oE
       rw [htr.put] at hg
       rw [show (((q+1:Nat):Int))=(q:Int)+1 by omega] at hg
       refine hg.mono ?_
       rintro e w'' ⟨rfl,hp⟩
       exact ⟨rfl,hm.node (A':={ hnet q lm ds ord Vs with c:=c1s (q+1) 4 jBl (q+2) (if q+1=lm then lm+16 else lm) [] [],ss:=((jBh Vs).set (r - 1) (hs1 Vr (q+1) 1 1 0 (keyB cc) ByteArray.empty,[])).set (s - 1) (x3,[]) }) hp rfl rfl rfl⟩
      have HPT:=jA1 hpt
      have HTR:=jA1 (And.intro htr (And.intro hwv (And.intro hvz hrowR)))
      have hsqv:=htr.sqv
      have HDQ:=jA1 (jBi q oE)
      have ss0:(0:Int)≤(s:Int):=by omega
      have ss1:(s:Int)<(n:Int)+1:=by omega
      clear htr hwv hvz hpt hrowR hor
      go_upto_if 146 with fail
      clear hv1 hv2
      obtain ⟨crs,hcrs⟩:∃ x:Bool,x=((r:Int) == (s:Int)):=⟨_,rfl⟩
      rw [← hcrs]
      have HCR:Hid ((crs=true→r=s)∧(crs=false→¬ r=s)):=jMx hcrs
      clear hcrs
      go_cut [18] from 147 to 147 (λv wx=>v=.int .i64 sq∧wx=w6)
      case first =>
       cases crs
       case true =>
        go_wp2_with fail
        go_meet
        case rel =>
         have:=HCR.out.1 sE
         exact ⟨by rw [hsqv,if_pos this],rfl⟩
       case false =>
        go_wp2_with fail
        go_meet
        case rel =>
         have:=HCR.out.2 sE
         exact ⟨by rw [hsqv,if_neg this],rfl⟩
      case rest =>
      obtain ⟨rfl,hwc⟩:=hcut
      rw [hwc]
      clear hwc hsqv HCR
      go_wp2_with fail
      refine (HDQ.out _).mono ?_
      rintro e w7 ⟨rfl,hf7⟩
      have HM7:=jA1 (HM6.out.new hf7)
      have HF7:=jA1 hf7
      clear hf7
      obtain ⟨g7,eg7,chs⟩:=jAj (f:=id) HM7.out.net.hs.1 HV.out.2.2.2.2.2.1
      cases eg7
      obtain ⟨n0,-⟩:=HM7.out.net.cells
      simp at chs
      have hgl:gh<w7.heap.size:=World.block_lt_of_cell? w7 _ chs
      have hnl:np<w7.heap.size:=World.block_lt_of_cell? w7 _ n0
      go_wp2_with fail
      go_region_held3 (λw'=>w'.cell? ⟨np,0,none⟩=some (.slice (some ⟨gh,0,none⟩) (n+1) hc)∧w'.cell? ⟨gh,s,none⟩=some (ptrV hps')) (simp [*])
       (first | (go_at_call 14;refine (HDG.out _).mono ?_;rintro e w8 ⟨rfl,hf8⟩;have hf8':Fr [] w7 w8:=Fr.trans (by first | exact jAk (Fr.refl [] w7) _ | exact (Fr.refl [] w7).drew | exact Fr.refl [] w7) hf8;have n08:w8.cell? ⟨np,0,none⟩=some (.slice (some ⟨gh,0,none⟩) (n+1) hc):=(World.cell?_of_block (a:=⟨np,0,none⟩) (hf8'.block np hnl (by simp))).trans n0;have ch8:w8.cell? ⟨gh,s,none⟩=some (ptrV hps'):=(World.cell?_of_block (a:=⟨gh,s,none⟩) (hf8'.block gh hgl (by simp))).trans chs;have HF8:=jA1 hf8';clear hf8 hf8') | (go_at_call 15;refine (HPT.out _ (HF7.out.trans (HF8.out.trans (by first | exact jAk (Fr.refl [] w8) _ | exact (Fr.refl [] w8).drew | exact Fr.refl [] w8)))).mono ?_;rintro e w9 ⟨rfl,hm9⟩;(obtain ⟨g',eg',ch9⟩:=jAj (f:=id) hm9.net.hs.1 HV.out.2.2.2.2.2.1);cases eg';(obtain ⟨n09,-⟩:=hm9.net.cells);simp at ch9;have HM9:=jA1 hm9;clear hm9))
      clear n0 chs hgl hnl n08 ch8 n09 ch9
      go_upto_if 169 with fail
      obtain ⟨clt,hclt⟩:∃ x:Bool,x=decide (s<r):=⟨_,rfl⟩
      rw [← hclt]
      have HCL:Hid ((clt=true→s<r)∧(clt=false→¬ s<r)):=decidedN hclt
      clear hclt
      go_cut [21] from 170 to 172 (λv wx=>∃ g,v=.slice (some ⟨g,0,none⟩) 2 2∧Hid (Fr [] w9 wx∧AtH wx g (.cells (zsV (if s<r then [(s:Int),(r:Int)] else [(r:Int),(s:Int)])).toArray 3)))
      case first =>
       cases clt
       case true =>
        go_wp2_with fail
        go_meet
        case rel =>
         have:=HCL.out.1 sE
         rw [if_pos this]
         exact ⟨_,rfl,((Fr.refl [] w9).alloc _).alloc _,AtH.new _ _ sE⟩
       case false =>
        go_wp2_with fail
        go_meet
        case rel =>
         have:=HCL.out.2 sE
         rw [if_neg this]
         exact ⟨_,rfl,(Fr.refl [] w9).alloc _,AtH.new _ _ rfl⟩
      case rest =>
      obtain ⟨g9,rfl,HC9⟩:=hcut
      clear HCL
      go_upto_if 175 with fail
      obtain ⟨crs,hcrs⟩:∃ x:Bool,x=((r:Int) == (s:Int)):=⟨_,rfl⟩
      rw [← hcrs]
      have HCR:Hid ((crs=true→r=s)∧(crs=false→¬ r=s)):=jMx hcrs
      clear hcrs
      obtain ⟨Wc,hWc⟩:∃ x,x=wc:=⟨_,rfl⟩
      rw [← hWc] at HC9 ⊢
      clear hWc
      go_cut [21] from 176 to 177 (λv wx=>∃ g,v=.slice (some ⟨g,0,none⟩) zs.length zs.length∧Hid (Fr [] w9 wx∧AtH wx g (.cells (zsV zs).toArray 3)))
      case first =>
       cases crs
       case true =>
        go_wp2_with fail
        go_meet
        case rel =>
         have:=HCR.out.1 sE
         have hz:=HTR.out.1.zsv
         rw [if_pos this] at hz
         rw [hz]
         exact ⟨_,rfl,HC9.out.1.alloc _,AtH.new _ _ rfl⟩
       case false =>
        go_wp2_with fail
        go_meet
        case rel =>
         have:=HCR.out.2 sE
         have hz:=HTR.out.1.zsv
         rw [if_neg this] at hz
         have hzl:zs.length=2:=by rw [hz];split <;> rfl
         rw [hzl,hz]
         exact ⟨_,rfl,HC9.out⟩
      case rest =>
      obtain ⟨g10,rfl,HC10⟩:=hcut
      clear HCR HC9
      obtain ⟨W10,hW10⟩:∃ x,x=wc:=⟨_,rfl⟩
      rw [← hW10] at HC10 ⊢
      clear hW10
      obtain ⟨zl,hzl⟩:∃ zl,zl=zs.length:=⟨_,rfl⟩
      rw [← hzl]
      have hzs:1≤zl∧zl≤2:=by
       have:=HTR.out.1.zsv
       rw [hzl,this]
       split
       ·simp
       ·split <;> simp
      have hcm:∀ w',Fr [] W10 w'→Calls Tryz.prog 16 #[.pointer (some ⟨hp0,0,none⟩),.int .u64 ((q:Int)+1),.slice (some ⟨g10,0,none⟩) zl zl,jD1 (-1) (-1) 0 0] w' λe w''=>e=.returned (.int .i64 0)∧AMid w1.heap.size np n hb (.slice (some ⟨gh,0,none⟩) (n+1) hc) hps w1 gs H wr (K+4) { hnet q lm ds ord Vs with c:=c5,ss:=((jBh Vs).set (r - 1) (hs1 Vr (q+1) 1 1 0 (keyB cc) ByteArray.empty,[])).set (s - 1) (x3,[]) } w'':=λw' hw'=>by
       have hm:=HM9.out.new (HC10.out.1.trans hw')
       obtain ⟨Ls,hNd⟩:=hm.nds
       have hrow:=jFn (B:=0) (n:=zl) (k:=1) (xs:=zsV zs) (HC10.out.2.fr hw') (Nat.zero_le _) rfl (by simp [zsV,hzl]) (by unfold maxLen;omega)
       rw [hzl] at hrow
       have hg:=jR2 (t:=q+1) _ zs hNd HV.out.2.2.2.2.2.2.2 oE (by have:=H1.out.size;omega) (HMP.out w' hm.low).1 (HMP.out w' hm.low).2 oE oE oE (by
        have:=HTR.out.1.zsv
        rw [this]
        intro z hz
        unfold InI
        split at hz
        ·simp at hz;omega
        ·split at hz <;> simp at hz <;> omega) ⟨0,hrow⟩
       rw [HTR.out.1.com.1,HTR.out.1.com.2,← hzl] at hg
       rw [show (((q+1:Nat):Int))=(q:Int)+1 by omega] at hg
       refine hg.mono ?_
       rintro e w'' ⟨rfl,hp⟩
       exact ⟨rfl,hm.node (A':={ hnet q lm ds ord Vs with c:=c5,ss:=((jBh Vs).set (r - 1) (hs1 Vr (q+1) 1 1 0 (keyB cc) ByteArray.empty,[])).set (s - 1) (x3,[]) }) hp rfl rfl rfl⟩
      have HCM:=jA1 hcm
      have HM10:=jA1 (HM9.out.new HC10.out.1)
      have HZ:=jA1 hzl
      clear hcm hzl
      obtain ⟨g11,eg10,ch0⟩:=jAj (f:=id) HM10.out.net.hs.1 HV.out.2.2.2.2.2.2.2
      cases eg10
      obtain ⟨n0,-⟩:=HM10.out.net.cells
      simp at ch0
      have hgl:gh<W10.heap.size:=World.block_lt_of_cell? W10 _ ch0
      have hnl:np<W10.heap.size:=World.block_lt_of_cell? W10 _ n0
      go_wp2_with fail
      go_region_held3 (λw'=>w'.cell? ⟨np,0,none⟩=some (.slice (some ⟨gh,0,none⟩) (n+1) hc)∧w'.cell? ⟨gh,0,none⟩=some (ptrV hp0)) (simp [*])
       (first | (go_at_call 12;refine (jF8 _).mono ?_;rintro e w11 ⟨rfl,hf11⟩;have hf11':Fr [] W10 w11:=Fr.trans (by first | exact jAk (Fr.refl [] W10) _ | exact (Fr.refl [] W10).drew | exact Fr.refl [] W10) hf11;have n011:w11.cell? ⟨np,0,none⟩=some (.slice (some ⟨gh,0,none⟩) (n+1) hc):=(World.cell?_of_block (a:=⟨np,0,none⟩) (hf11'.block np hnl (by simp))).trans n0;have ch11:w11.cell? ⟨gh,0,none⟩=some (ptrV hp0):=(World.cell?_of_block (a:=⟨gh,0,none⟩) (hf11'.block gh hgl (by simp))).trans ch0;have HF11:=jA1 hf11';clear hf11 hf11') | (go_at_call 16;refine (HCM.out _ (HF11.out.trans (by first | exact jAk (Fr.refl [] w11) _ | exact (Fr.refl [] w11).drew | exact Fr.refl [] w11))).mono ?_;rintro e w12 ⟨rfl,hm12⟩;(obtain ⟨g',eg',ch12⟩:=jAj (f:=id) hm12.net.hs.1 HV.out.2.2.2.2.2.2.2);cases eg';(obtain ⟨n012,-⟩:=hm12.net.cells);simp at ch12;have HM12:=jA1 hm12;clear hm12))
      clear n0 ch0 hgl hnl n011 ch11 n012 ch12 HCM HF11 HM10 HC10 HZ hzs
      go_upto_region 35 with fail
      obtain ⟨dv,bv,ov,fl,ps,L0,u1,u2,u3,u4⟩:=HM12.out.net
      obtain ⟨da,dc,rfl⟩:=u1.dvS
      obtain ⟨D,hD⟩:∃ D,D=ds.length:=⟨_,rfl⟩
      rw [show ({ hnet q lm ds ord Vs with c:=c5,ss:=((jBh Vs).set (r - 1) (hs1 Vr (q+1) 1 1 0 (keyB cc) ByteArray.empty,[])).set (s - 1) (x3,[]) }:ANet).ds.length=D from hD.symm] at u1
      have hDl:ds.length=q:=HT.out.1.len.2.1
      have hps2:ps.length≤60000000:=by have e8:ps.length=ds.length:=u1.len;omega
      have n1:=jA0 u1.net 1
      have n4:=jA0 u1.net 4
      simp at n1 n4
      have hmk:=λW:World=>mkI W (n+1) oE
      rw [show (((n+1:Nat):Int))=(n:Int)+1 by omega] at hmk
      have hwn:IntKind.i64.wrap ((n:Int)+1)=(n:Int)+1:=by rw [IntKind.wrap_i64];omega
      have HU:=jA1 (And.intro u1 (And.intro u2 (And.intro u3 u4)))
      have HDL:=jA1 hDl
      clear u1 u2 u3 u4 hDl hD
      go_cut [] from 194 to 218 (λwx=>∃ wy,wy=wx∧Hid (Dealt wr w12 wy w1.heap.size np n (K+4) (.slice (some ⟨gh,0,none⟩) (n+1) hc) hps { hnet q lm ds ord Vs with c:=c5,ss:=((jBh Vs).set (r - 1) (hs1 Vr (q+1) 1 1 0 (keyB cc) ByteArray.empty,[])).set (s - 1) (x3,[]),ds:=ds++[jC4 q s (List.replicate (n+1) 0) (keyB cc) (vlB q) 0] }))
      case first =>
       refine jEc (S:=(λw'=>w'.cell? ⟨np,1,none⟩=some (.slice da D dc)∧w'.cell? ⟨np,4,none⟩=some (.int .i64 (n:Int)))) (z:=25) (by kernel_rfl) rfl (by kernel_rfl) ((by exact ⟨n1,n4⟩)) (λhHeld=>?_)
       refine tkH (i:=0) (oi:=⟨some 194,.move (.tmp 6),27,"cluster.go:535",#[],none⟩) (v:=.pointer (some ⟨np,0,none⟩)) ?_ ?_
       ·intro w hSw;(try dsimp only at hSw);go_simp
       (try simp only [Act.put,tP,tQ,tR])
       refine tkH (i:=1) (oi:=⟨some 195,.move (.tmp 6),27,"cluster.go:535",#[],none⟩) (v:=.pointer (some ⟨np,0,none⟩)) ?_ ?_
       ·intro w hSw;(try dsimp only at hSw);go_simp
       (try simp only [Act.put,tP,tQ,tR])
       refine tkH (i:=2) (oi:=⟨some 196,.nilCheck (.tmp 195),0,"cluster.go:535",#[⟨1,.data⟩],none⟩) (v:=.pointer (some ⟨np,0,none⟩)) ?_ ?_
       ·intro w hSw;(try dsimp only at hSw);go_simp
       (try simp only [Act.put,tP,tQ,tR])
       refine tkH (i:=3) (oi:=⟨some 197,.fieldAddr 37 (.tmp 196) 1,0,"cluster.go:535",#[⟨2,.data⟩],none⟩) (v:=.pointer (some ⟨np,1,none⟩)) ?_ ?_
       ·intro w hSw;(try dsimp only at hSw);go_simp
       (try simp only [Act.put,tP,tQ,tR])
       refine tkH (i:=4) (oi:=⟨some 198,.load 34 (.tmp 197),34,"cluster.go:535",#[⟨3,.data⟩],none⟩) (v:=.slice da D dc) ?_ ?_
       ·intro w hSw;(try dsimp only at hSw);go_simp
       (try simp only [Act.put,tP,tQ,tR])
       refine tkH (i:=5) (oi:=⟨some 199,.move (.tmp 13),43,"cluster.go:535",#[],none⟩) (v:=.int .u64 ((q:Int)+1)) ?_ ?_
       ·intro w hSw;(try dsimp only at hSw);go_simp
       (try simp only [Act.put,tP,tQ,tR])
       refine tkH (i:=6) (oi:=⟨some 200,.move (.tmp 10),3,"cluster.go:535",#[],none⟩) (v:=.int .i64 (s:Int)) ?_ ?_
       ·intro w hSw;(try dsimp only at hSw);go_simp
       (try simp only [Act.put,tP,tQ,tR])
       refine tkH (i:=7) (oi:=⟨some 201,.move (.tmp 12),3,"cluster.go:535",#[],none⟩) (v:=.int .i64 (cc:Int)) ?_ ?_
       ·intro w hSw;(try dsimp only at hSw);go_simp
       (try simp only [Act.put,tP,tQ,tR])
       refine tkH (i:=10) (oi:=⟨some 204,.move (.tmp 19),9,"cluster.go:535",#[],none⟩) (v:=.string (vlB q)) ?_ ?_
       ·intro w hSw;(try dsimp only at hSw);go_simp
       (try simp only [Act.put,tP,tQ,tR])
       refine tkH (i:=13) (oi:=⟨some 207,.move (.tmp 6),27,"cluster.go:535",#[],none⟩) (v:=.pointer (some ⟨np,0,none⟩)) ?_ ?_
       ·intro w hSw;(try dsimp only at hSw);go_simp
       (try simp only [Act.put,tP,tQ,tR])
       refine tkH (i:=14) (oi:=⟨some 208,.nilCheck (.tmp 207),0,"cluster.go:535",#[⟨13,.data⟩],none⟩) (v:=.pointer (some ⟨np,0,none⟩)) ?_ ?_
       ·intro w hSw;(try dsimp only at hSw);go_simp
       (try simp only [Act.put,tP,tQ,tR])
       refine tkH (i:=15) (oi:=⟨some 209,.fieldAddr 37 (.tmp 208) 4,0,"cluster.go:535",#[⟨14,.data⟩],none⟩) (v:=.pointer (some ⟨np,4,none⟩)) ?_ ?_
       ·intro w hSw;(try dsimp only at hSw);go_simp
       (try simp only [Act.put,tP,tQ,tR])
       refine tkH (i:=16) (oi:=⟨some 210,.load 3 (.tmp 209),3,"cluster.go:535",#[⟨15,.data⟩],none⟩) (v:=.int .i64 (n:Int)) ?_ ?_
       ·intro w hSw;(try dsimp only at hSw);go_simp
       (try simp only [Act.put,tP,tQ,tR])
       refine tkH (i:=17) (oi:=⟨some 211,.binOp BinOp.add 3 (.tmp 210) (.const (Value.int IntKind.i64 1)) 3,3,"cluster.go:535",#[⟨16,.data⟩],none⟩) (v:=.int .i64 ((n:Int)+1)) ?_ ?_
       ·intro w hSw;(try dsimp only at hSw);go_simp
       (try simp only [Act.put,tP,tQ,tR])
       refine wpAnyH_ready (rs:=[8,18]) (by kernel_rfl) (by simp) ?_
       refine AllReadyH.cons (o:={ dst:=some 202,op:=Op.call { callee:=Callee.value (Operand.func 14),args:=#[Operand.tmp 201],argTypes:=#[3] },type:=9,pos := "cluster.go:535",after:=#[⟨7,.data⟩],guard:=none }) rfl (λK hK=>?_) (AllReadyH.cons (o:=⟨some 212,.makeSlice 53 (.tmp 211) (.tmp 211),53,"cluster.go:535",#[⟨17,.data⟩,⟨17,.data⟩],none⟩) rfl (λK hK=>?_) (AllReadyH.nil))
       ·go_simp
        refine (HDG.out _).mono ?_
        rintro e w13 ⟨rfl,hf13⟩
        have hf13':Fr [] w12 w13:=Fr.trans (by repeat (first | with_reducible exact Fr.refl [] _ | with_reducible refine Fr.alloc ?_ _ | with_reducible refine Fr.drew ?_)) hf13
        have HF13:=jA1 (And.intro hf13' hf13)
        have m1:=jA0 (HU.out.1.new hf13').net 1
        have m4:=jA0 (HU.out.1.new hf13').net 4
        simp at m1 m4
        clear hf13 hf13'
        refine hK.out _ _ ?_ (λhHeld=>?_)
        ·exact ⟨m1,m4⟩
        clear hK K
        (try simp only [Act.put,tP,tQ,tR])
        refine tkH (i:=9) (oi:={ dst:=some 203,op:=Op.binOp BinOp.add 9 (Operand.const (Value.string { data:=#[107] })) (Operand.tmp 202) 9,type:=9,pos := "cluster.go:535",after:=#[⟨8,.data⟩],guard:=none }) (v:=.string (keyB cc)) ?_ ?_
        ·intro w hSw;(try dsimp only at hSw);go_simp
        (try simp only [Act.put,tP,tQ,tR])
        refine tkH (i:=11) (oi:=⟨some 205,.build 57 #[(0,.tmp 200),(1,.tmp 203),(2,.tmp 204)],57,"cluster.go:535",#[⟨6,.data⟩,⟨9,.data⟩,⟨10,.data⟩],none⟩) (v:=.agg #[.int .i64 (s:Int),.string (keyB cc),.string (vlB q)]) ?_ ?_
        ·intro w hSw;(try dsimp only at hSw);go_simp
        (try simp only [Act.put,tP,tQ,tR])
        refine wpAnyH_ready (rs:=[12,18]) (by kernel_rfl) (by simp) ?_
        refine AllReadyH.cons (o:=⟨some 206,.buildSlice 58 1 #[(0,.tmp 205)],58,"cluster.go:535",#[⟨11,.data⟩],none⟩) rfl (λK hK=>?_) (AllReadyH.cons (o:=⟨some 212,.makeSlice 53 (.tmp 211) (.tmp 211),53,"cluster.go:535",#[⟨17,.data⟩,⟨17,.data⟩],none⟩) rfl (λK hK=>?_) (AllReadyH.nil))
        ·go_simp
         refine hK.out _ _ ?_ (λhHeld=>?_)
         ·(first | exact ⟨jAm hHeld.1 _,jAm hHeld.2 _⟩ | (simp [*];done))
         clear hK K
         (try simp only [Act.put,tP,tQ,tR])
         refine wpAnyH_ready (rs:=[18]) (by kernel_rfl) (by simp) ?_
         refine AllReadyH.cons (o:=⟨some 212,.makeSlice 53 (.tmp 211) (.tmp 211),53,"cluster.go:535",#[⟨17,.data⟩,⟨17,.data⟩],none⟩) rfl (λK hK=>?_) (AllReadyH.nil)
         go_simp
         refine hK.out _ _ ?_ (λhHeld=>?_)
         ·(first | exact ⟨jAm hHeld.1 _,jAm hHeld.2 _⟩ | (simp [*];done))
         clear hK K
         (try simp only [Act.put,tP,tQ,tR])
         refine tkH (i:=19) (oi:=⟨some 213,.build 60 #[(0,.tmp 199),(3,.const (Value.bool true)),(2,.tmp 206),(1,.tmp 212)],60,"cluster.go:535",#[⟨5,.data⟩,⟨12,.data⟩,⟨18,.data⟩],none⟩) (v:=.agg #[.int .u64 ((q:Int)+1),.slice (some ⟨w13.heap.size+1,0,none⟩) (n+1) (n+1),.slice (some ⟨w13.heap.size,0,none⟩) 1 1,.bool true,.bool false,.int .i64 0]) ?_ ?_
         ·intro w hSw;(try dsimp only at hSw);go_simp
         (try simp only [Act.put,tP,tQ,tR])
         refine wpAnyH_ready (rs:=[20]) (by kernel_rfl) (by simp) ?_
         refine AllReadyH.cons (o:=⟨some 214,.box 60 (.tmp 213),55,"cluster.go:535",#[⟨19,.data⟩],none⟩) rfl (λK hK=>?_) (AllReadyH.nil)
         go_simp
         refine hK.out _ _ ?_ (λhHeld=>?_)
         ·(first | exact ⟨jAm hHeld.1 _,jAm hHeld.2 _⟩ | (simp [*];done))
         clear hK K
         (try simp only [Act.put,tP,tQ,tR])
         refine wpAnyH_ready (rs:=[21]) (by kernel_rfl) (by simp) ?_
         refine AllReadyH.cons (o:=⟨some 215,.buildSlice 34 1 #[(0,.tmp 214)],34,"cluster.go:535",#[⟨20,.data⟩],none⟩) rfl (λK hK=>?_) (AllReadyH.nil)
         go_simp
         refine hK.out _ _ ?_ (λhHeld=>?_)
         ·(first | exact ⟨jAm hHeld.1 _,jAm hHeld.2 _⟩ | (simp [*];done))
         clear hK K
         (try simp only [Act.put,tP,tQ,tR])
         refine wpAnyH_ready (rs:=[22]) (by kernel_rfl) (by simp) ?_
         refine AllReadyH.cons (o:={ dst:=some 216,op:=Op.call { callee:=Callee.builtin Builtin.append,args:=#[Operand.tmp 198,Operand.tmp 215],argTypes:=#[34,34] },type:=34,pos := "cluster.go:535",after:=#[⟨4,.data⟩,⟨21,.data⟩,⟨8,.chain⟩],guard:=none }) rfl (λK hK=>?_) (AllReadyH.nil)
         rw [if_pos (by rfl)];refine' jIi (A:={ hnet q lm ds ord Vs with c:=c5,ss:=((jBh Vs).set (r - 1) (hs1 Vr (q+1) 1 1 0 (keyB cc) ByteArray.empty,[])).set (s - 1) (x3,[]) }) (jC4 q s (List.replicate (n+1) 0) (keyB cc) (vlB q) 0) HU.out.1 HU.out.2.1 HU.out.2.2.1 HU.out.2.2.2 hps2 _ _ rfl rfl rfl _ _ _ _ _ _ _ _ _ _ _ rfl _;rotate_left 6;(repeat (first | with_reducible exact Fr.refl [] _ | exact HF13.out.1 | with_reducible refine Fr.alloc ?_ _ | with_reducible refine Fr.drew ?_));(repeat (first | with_reducible exact AtH.new _ _ (by simp) | with_reducible refine AtH.alloc ?_ _ | with_reducible refine AtH.drew ?_ | with_reducible refine AtH.fr ?_ HF13.out.2));(repeat (first | with_reducible exact AtH.new _ _ (by simp) | with_reducible refine AtH.alloc ?_ _ | with_reducible refine AtH.drew ?_ | with_reducible refine AtH.fr ?_ HF13.out.2));(repeat (first | with_reducible exact AtH.new _ _ (by simp) | with_reducible refine AtH.alloc ?_ _ | with_reducible refine AtH.drew ?_ | with_reducible refine AtH.fr ?_ HF13.out.2));(refine Or.inr ⟨_,#[.int .i64 (s:Int),.string (keyB cc),.string (vlB q)],rfl,?_,?_,rfl,?_⟩;(repeat (first | with_reducible exact AtH.new _ _ (by simp) | with_reducible refine AtH.alloc ?_ _ | with_reducible refine AtH.drew ?_ | with_reducible refine AtH.fr ?_ HF13.out.2));(simp [wrsV]);(first | exact Nat.le_refl _ | (have e8:=HF13.out.1.size;simp;omega)));(first | exact Nat.le_refl _ | (have e8:=HF13.out.1.size;simp;omega));(first | exact Nat.le_refl _ | (have e8:=HF13.out.1.size;simp;omega));(simp [seqV]);(simp);omega;(simp);intro va vb vc w14 b14 h14;have c1:=jA0 b14 1;have c4:=jA0 b14 4;have f1:=jA2 b14 1;simp at c1 c4;have H14:=jA1 h14;clear h14 b14;rotate_left 0
         refine hK.out _ _ ?_ (λhHeld=>?_)
         ·exact ⟨c1,c4⟩
         clear hK K
         (try simp only [Act.put,tP,tQ,tR])
         refine tkH (i:=23) (oi:=⟨some 217,.nilCheck (.tmp 194),0,"cluster.go:535",#[⟨0,.data⟩,⟨0,.phase⟩,⟨1,.phase⟩,⟨2,.phase⟩,⟨3,.phase⟩,⟨4,.phase⟩,⟨5,.phase⟩,⟨6,.phase⟩,⟨7,.phase⟩,⟨8,.phase⟩,⟨9,.phase⟩,⟨10,.phase⟩,⟨11,.phase⟩,⟨12,.phase⟩,⟨13,.phase⟩,⟨14,.phase⟩,⟨15,.phase⟩,⟨16,.phase⟩,⟨17,.phase⟩,⟨18,.phase⟩,⟨19,.phase⟩,⟨20,.phase⟩,⟨21,.phase⟩,⟨22,.phase⟩],none⟩) (v:=.pointer (some ⟨np,0,none⟩)) ?_ ?_
         ·intro w hSw;(try dsimp only at hSw);go_simp
         (try simp only [Act.put,tP,tQ,tR])
         refine tkH (i:=24) (oi:=⟨some 218,.fieldAddr 37 (.tmp 217) 1,0,"cluster.go:535",#[⟨23,.data⟩,⟨0,.phase⟩,⟨1,.phase⟩,⟨2,.phase⟩,⟨3,.phase⟩,⟨4,.phase⟩,⟨5,.phase⟩,⟨6,.phase⟩,⟨7,.phase⟩,⟨8,.phase⟩,⟨9,.phase⟩,⟨10,.phase⟩,⟨11,.phase⟩,⟨12,.phase⟩,⟨13,.phase⟩,⟨14,.phase⟩,⟨15,.phase⟩,⟨16,.phase⟩,⟨17,.phase⟩,⟨18,.phase⟩,⟨19,.phase⟩,⟨20,.phase⟩,⟨21,.phase⟩,⟨22,.phase⟩],none⟩) (v:=.pointer (some ⟨np,1,none⟩)) ?_ ?_
         ·intro w hSw;(try dsimp only at hSw);go_simp
         (try simp only [Act.put,tP,tQ,tR])
         refine wpAnyH_done (by kernel_rfl) ?_ _
         refine jE5 (o:=⟨none,.store 34 (.tmp 218) (.tmp 216),0,"cluster.go:535",#[⟨24,.data⟩,⟨22,.data⟩,⟨22,.chain⟩,⟨0,.phase⟩,⟨1,.phase⟩,⟨2,.phase⟩,⟨3,.phase⟩,⟨4,.phase⟩,⟨5,.phase⟩,⟨6,.phase⟩,⟨7,.phase⟩,⟨8,.phase⟩,⟨9,.phase⟩,⟨10,.phase⟩,⟨11,.phase⟩,⟨12,.phase⟩,⟨13,.phase⟩,⟨14,.phase⟩,⟨15,.phase⟩,⟨16,.phase⟩,⟨17,.phase⟩,⟨18,.phase⟩,⟨19,.phase⟩,⟨20,.phase⟩,⟨21,.phase⟩,⟨22,.phase⟩],none⟩) rfl rfl ?_
         go_simp
         go_wp2_with fail
         go_meet
         exact ⟨_,rfl,H14.out⟩
        ·go_simp
         refine hK.out _ _ ?_ (λhHeld=>?_)
         ·(first | exact ⟨jAm hHeld.1 _,jAm hHeld.2 _⟩ | (simp [*];done))
         clear hK K
         (try simp only [Act.put,tP,tQ,tR])
         refine wpAnyH_ready (rs:=[12]) (by kernel_rfl) (by simp) ?_
         refine AllReadyH.cons (o:=⟨some 206,.buildSlice 58 1 #[(0,.tmp 205)],58,"cluster.go:535",#[⟨11,.data⟩],none⟩) rfl (λK hK=>?_) (AllReadyH.nil)
         go_simp
         refine hK.out _ _ ?_ (λhHeld=>?_)
         ·(first | exact ⟨jAm hHeld.1 _,jAm hHeld.2 _⟩ | (simp [*];done))
         clear hK K
         (try simp only [Act.put,tP,tQ,tR])
         refine tkH (i:=19) (oi:=⟨some 213,.build 60 #[(0,.tmp 199),(3,.const (Value.bool true)),(2,.tmp 206),(1,.tmp 212)],60,"cluster.go:535",#[⟨5,.data⟩,⟨12,.data⟩,⟨18,.data⟩],none⟩) (v:=.agg #[.int .u64 ((q:Int)+1),.slice (some ⟨w13.heap.size,0,none⟩) (n+1) (n+1),.slice (some ⟨w13.heap.size+1,0,none⟩) 1 1,.bool true,.bool false,.int .i64 0]) ?_ ?_
         ·intro w hSw;(try dsimp only at hSw);go_simp
         (try simp only [Act.put,tP,tQ,tR])
         refine wpAnyH_ready (rs:=[20]) (by kernel_rfl) (by simp) ?_
         refine AllReadyH.cons (o:=⟨some 214,.box 60 (.tmp 213),55,"cluster.go:535",#[⟨19,.data⟩],none⟩) rfl (λK hK=>?_) (AllReadyH.nil)
         go_simp
         refine hK.out _ _ ?_ (λhHeld=>?_)
         ·(first | exact ⟨jAm hHeld.1 _,jAm hHeld.2 _⟩ | (simp [*];done))
         clear hK K
         (try simp only [Act.put,tP,tQ,tR])
         refine wpAnyH_ready (rs:=[21]) (by kernel_rfl) (by simp) ?_
         refine AllReadyH.cons (o:=⟨some 215,.buildSlice 34 1 #[(0,.tmp 214)],34,"cluster.go:535",#[⟨20,.data⟩],none⟩) rfl (λK hK=>?_) (AllReadyH.nil)
         go_simp
         refine hK.out _ _ ?_ (λhHeld=>?_)
         ·(first | exact ⟨jAm hHeld.1 _,jAm hHeld.2 _⟩ | (simp [*];done))
         clear hK K
         (try simp only [Act.put,tP,tQ,tR])
         refine wpAnyH_ready (rs:=[22]) (by kernel_rfl) (by simp) ?_
         refine AllReadyH.cons (o:={ dst:=some 216,op:=Op.call { callee:=Callee.builtin Builtin.append,args:=#[Operand.tmp 198,Operand.tmp 215],argTypes:=#[34,34] },type:=34,pos := "cluster.go:535",after:=#[⟨4,.data⟩,⟨21,.data⟩,⟨8,.chain⟩],guard:=none }) rfl (λK hK=>?_) (AllReadyH.nil)
         rw [if_pos (by rfl)];refine' jIi (A:={ hnet q lm ds ord Vs with c:=c5,ss:=((jBh Vs).set (r - 1) (hs1 Vr (q+1) 1 1 0 (keyB cc) ByteArray.empty,[])).set (s - 1) (x3,[]) }) (jC4 q s (List.replicate (n+1) 0) (keyB cc) (vlB q) 0) HU.out.1 HU.out.2.1 HU.out.2.2.1 HU.out.2.2.2 hps2 _ _ rfl rfl rfl _ _ _ _ _ _ _ _ _ _ _ rfl _;rotate_left 6;(repeat (first | with_reducible exact Fr.refl [] _ | exact HF13.out.1 | with_reducible refine Fr.alloc ?_ _ | with_reducible refine Fr.drew ?_));(repeat (first | with_reducible exact AtH.new _ _ (by simp) | with_reducible refine AtH.alloc ?_ _ | with_reducible refine AtH.drew ?_ | with_reducible refine AtH.fr ?_ HF13.out.2));(repeat (first | with_reducible exact AtH.new _ _ (by simp) | with_reducible refine AtH.alloc ?_ _ | with_reducible refine AtH.drew ?_ | with_reducible refine AtH.fr ?_ HF13.out.2));(repeat (first | with_reducible exact AtH.new _ _ (by simp) | with_reducible refine AtH.alloc ?_ _ | with_reducible refine AtH.drew ?_ | with_reducible refine AtH.fr ?_ HF13.out.2));(refine Or.inr ⟨_,#[.int .i64 (s:Int),.string (keyB cc),.string (vlB q)],rfl,?_,?_,rfl,?_⟩;(repeat (first | with_reducible exact AtH.new _ _ (by simp) | with_reducible refine AtH.alloc ?_ _ | with_reducible refine AtH.drew ?_ | with_reducible refine AtH.fr ?_ HF13.out.2));(simp [wrsV]);(first | exact Nat.le_refl _ | (have e8:=HF13.out.1.size;simp;omega)));(first | exact Nat.le_refl _ | (have e8:=HF13.out.1.size;simp;omega));(first | exact Nat.le_refl _ | (have e8:=HF13.out.1.size;simp;omega));(simp [seqV]);(simp);omega;(simp);intro va vb vc w14 b14 h14;have c1:=jA0 b14 1;have c4:=jA0 b14 4;have f1:=jA2 b14 1;simp at c1 c4;have H14:=jA1 h14;clear h14 b14;rotate_left 0
         refine hK.out _ _ ?_ (λhHeld=>?_)
         ·exact ⟨c1,c4⟩
         clear hK K
         (try simp only [Act.put,tP,tQ,tR])
         refine tkH (i:=23) (oi:=⟨some 217,.nilCheck (.tmp 194),0,"cluster.go:535",#[⟨0,.data⟩,⟨0,.phase⟩,⟨1,.phase⟩,⟨2,.phase⟩,⟨3,.phase⟩,⟨4,.phase⟩,⟨5,.phase⟩,⟨6,.phase⟩,⟨7,.phase⟩,⟨8,.phase⟩,⟨9,.phase⟩,⟨10,.phase⟩,⟨11,.phase⟩,⟨12,.phase⟩,⟨13,.phase⟩,⟨14,.phase⟩,⟨15,.phase⟩,⟨16,.phase⟩,⟨17,.phase⟩,⟨18,.phase⟩,⟨19,.phase⟩,⟨20,.phase⟩,⟨21,.phase⟩,⟨22,.phase⟩],none⟩) (v:=.pointer (some ⟨np,0,none⟩)) ?_ ?_
         ·intro w hSw;(try dsimp only at hSw);go_simp
         (try simp only [Act.put,tP,tQ,tR])
         refine tkH (i:=24) (oi:=⟨some 218,.fieldAddr 37 (.tmp 217) 1,0,"cluster.go:535",#[⟨23,.data⟩,⟨0,.phase⟩,⟨1,.phase⟩,⟨2,.phase⟩,⟨3,.phase⟩,⟨4,.phase⟩,⟨5,.phase⟩,⟨6,.phase⟩,⟨7,.phase⟩,⟨8,.phase⟩,⟨9,.phase⟩,⟨10,.phase⟩,⟨11,.phase⟩,⟨12,.phase⟩,⟨13,.phase⟩,⟨14,.phase⟩,⟨15,.phase⟩,⟨16,.phase⟩,⟨17,.phase⟩,⟨18,.phase⟩,⟨19,.phase⟩,⟨20,.phase⟩,⟨21,.phase⟩,⟨22,.phase⟩],none⟩) (v:=.pointer (some ⟨np,1,none⟩)) ?_ ?_
         ·intro w hSw;(try dsimp only at hSw);go_simp
         (try simp only [Act.put,tP,tQ,tR])
         refine wpAnyH_done (by kernel_rfl) ?_ _
         refine jE5 (o:=⟨none,.store 34 (.tmp 218) (.tmp 216),0,"cluster.go:535",#[⟨24,.data⟩,⟨22,.data⟩,⟨22,.chain⟩,⟨0,.phase⟩,⟨1,.phase⟩,⟨2,.phase⟩,⟨3,.phase⟩,⟨4,.phase⟩,⟨5,.phase⟩,⟨6,.phase⟩,⟨7,.phase⟩,⟨8,.phase⟩,⟨9,.phase⟩,⟨10,.phase⟩,⟨11,.phase⟩,⟨12,.phase⟩,⟨13,.phase⟩,⟨14,.phase⟩,⟨15,.phase⟩,⟨16,.phase⟩,⟨17,.phase⟩,⟨18,.phase⟩,⟨19,.phase⟩,⟨20,.phase⟩,⟨21,.phase⟩,⟨22,.phase⟩],none⟩) rfl rfl ?_
         go_simp
         go_wp2_with fail
         go_meet
         exact ⟨_,rfl,H14.out⟩
       ·go_simp
        refine hK.out _ _ ?_ (λhHeld=>?_)
        ·(first | exact ⟨jAm hHeld.1 _,jAm hHeld.2 _⟩ | (simp [*];done))
        clear hK K
        (try simp only [Act.put,tP,tQ,tR])
        refine wpAnyH_ready (rs:=[8]) (by kernel_rfl) (by simp) ?_
        refine AllReadyH.cons (o:={ dst:=some 202,op:=Op.call { callee:=Callee.value (Operand.func 14),args:=#[Operand.tmp 201],argTypes:=#[3] },type:=9,pos := "cluster.go:535",after:=#[⟨7,.data⟩],guard:=none }) rfl (λK hK=>?_) (AllReadyH.nil)
        go_simp
        refine (HDG.out _).mono ?_
        rintro e w13 ⟨rfl,hf13⟩
        have hf13':Fr [] w12 w13:=Fr.trans (by repeat (first | with_reducible exact Fr.refl [] _ | with_reducible refine Fr.alloc ?_ _ | with_reducible refine Fr.drew ?_)) hf13
        have HF13:=jA1 (And.intro hf13' hf13)
        have m1:=jA0 (HU.out.1.new hf13').net 1
        have m4:=jA0 (HU.out.1.new hf13').net 4
        simp at m1 m4
        clear hf13 hf13'
        refine hK.out _ _ ?_ (λhHeld=>?_)
        ·exact ⟨m1,m4⟩
        clear hK K
        (try simp only [Act.put,tP,tQ,tR])
        refine tkH (i:=9) (oi:={ dst:=some 203,op:=Op.binOp BinOp.add 9 (Operand.const (Value.string { data:=#[107] })) (Operand.tmp 202) 9,type:=9,pos := "cluster.go:535",after:=#[⟨8,.data⟩],guard:=none }) (v:=.string (keyB cc)) ?_ ?_
        ·intro w hSw;(try dsimp only at hSw);go_simp
        (try simp only [Act.put,tP,tQ,tR])
        refine tkH (i:=11) (oi:=⟨some 205,.build 57 #[(0,.tmp 200),(1,.tmp 203),(2,.tmp 204)],57,"cluster.go:535",#[⟨6,.data⟩,⟨9,.data⟩,⟨10,.data⟩],none⟩) (v:=.agg #[.int .i64 (s:Int),.string (keyB cc),.string (vlB q)]) ?_ ?_
        ·intro w hSw;(try dsimp only at hSw);go_simp
        (try simp only [Act.put,tP,tQ,tR])
        refine wpAnyH_ready (rs:=[12]) (by kernel_rfl) (by simp) ?_
        refine AllReadyH.cons (o:=⟨some 206,.buildSlice 58 1 #[(0,.tmp 205)],58,"cluster.go:535",#[⟨11,.data⟩],none⟩) rfl (λK hK=>?_) (AllReadyH.nil)
        go_simp
        refine hK.out _ _ ?_ (λhHeld=>?_)
        ·(first | exact ⟨jAm hHeld.1 _,jAm hHeld.2 _⟩ | (simp [*];done))
        clear hK K
        (try simp only [Act.put,tP,tQ,tR])
        refine tkH (i:=19) (oi:=⟨some 213,.build 60 #[(0,.tmp 199),(3,.const (Value.bool true)),(2,.tmp 206),(1,.tmp 212)],60,"cluster.go:535",#[⟨5,.data⟩,⟨12,.data⟩,⟨18,.data⟩],none⟩) (v:=.agg #[.int .u64 ((q:Int)+1),.slice (some ⟨w12.heap.size,0,none⟩) (n+1) (n+1),.slice (some ⟨w13.heap.size,0,none⟩) 1 1,.bool true,.bool false,.int .i64 0]) ?_ ?_
        ·intro w hSw;(try dsimp only at hSw);go_simp
        (try simp only [Act.put,tP,tQ,tR])
        refine wpAnyH_ready (rs:=[20]) (by kernel_rfl) (by simp) ?_
        refine AllReadyH.cons (o:=⟨some 214,.box 60 (.tmp 213),55,"cluster.go:535",#[⟨19,.data⟩],none⟩) rfl (λK hK=>?_) (AllReadyH.nil)
        go_simp
        refine hK.out _ _ ?_ (λhHeld=>?_)
        ·(first | exact ⟨jAm hHeld.1 _,jAm hHeld.2 _⟩ | (simp [*];done))
        clear hK K
        (try simp only [Act.put,tP,tQ,tR])
        refine wpAnyH_ready (rs:=[21]) (by kernel_rfl) (by simp) ?_
        refine AllReadyH.cons (o:=⟨some 215,.buildSlice 34 1 #[(0,.tmp 214)],34,"cluster.go:535",#[⟨20,.data⟩],none⟩) rfl (λK hK=>?_) (AllReadyH.nil)
        go_simp
        refine hK.out _ _ ?_ (λhHeld=>?_)
        ·(first | exact ⟨jAm hHeld.1 _,jAm hHeld.2 _⟩ | (simp [*];done))
        clear hK K
        (try simp only [Act.put,tP,tQ,tR])
        refine wpAnyH_ready (rs:=[22]) (by kernel_rfl) (by simp) ?_
        refine AllReadyH.cons (o:={ dst:=some 216,op:=Op.call { callee:=Callee.builtin Builtin.append,args:=#[Operand.tmp 198,Operand.tmp 215],argTypes:=#[34,34] },type:=34,pos := "cluster.go:535",after:=#[⟨4,.data⟩,⟨21,.data⟩,⟨8,.chain⟩],guard:=none }) rfl (λK hK=>?_) (AllReadyH.nil)
        rw [if_pos (by rfl)];refine' jIi (A:={ hnet q lm ds ord Vs with c:=c5,ss:=((jBh Vs).set (r - 1) (hs1 Vr (q+1) 1 1 0 (keyB cc) ByteArray.empty,[])).set (s - 1) (x3,[]) }) (jC4 q s (List.replicate (n+1) 0) (keyB cc) (vlB q) 0) HU.out.1 HU.out.2.1 HU.out.2.2.1 HU.out.2.2.2 hps2 _ _ rfl rfl rfl _ _ _ _ _ _ _ _ _ _ _ rfl _;rotate_left 6;(repeat (first | with_reducible exact Fr.refl [] _ | exact HF13.out.1 | with_reducible refine Fr.alloc ?_ _ | with_reducible refine Fr.drew ?_));(repeat (first | with_reducible exact AtH.new _ _ (by simp) | with_reducible refine AtH.alloc ?_ _ | with_reducible refine AtH.drew ?_ | with_reducible refine AtH.fr ?_ HF13.out.2));(repeat (first | with_reducible exact AtH.new _ _ (by simp) | with_reducible refine AtH.alloc ?_ _ | with_reducible refine AtH.drew ?_ | with_reducible refine AtH.fr ?_ HF13.out.2));(repeat (first | with_reducible exact AtH.new _ _ (by simp) | with_reducible refine AtH.alloc ?_ _ | with_reducible refine AtH.drew ?_ | with_reducible refine AtH.fr ?_ HF13.out.2));(refine Or.inr ⟨_,#[.int .i64 (s:Int),.string (keyB cc),.string (vlB q)],rfl,?_,?_,rfl,?_⟩;(repeat (first | with_reducible exact AtH.new _ _ (by simp) | with_reducible refine AtH.alloc ?_ _ | with_reducible refine AtH.drew ?_ | with_reducible refine AtH.fr ?_ HF13.out.2));(simp [wrsV]);(first | exact Nat.le_refl _ | (have e8:=HF13.out.1.size;simp;omega)));(first | exact Nat.le_refl _ | (have e8:=HF13.out.1.size;simp;omega));(first | exact Nat.le_refl _ | (have e8:=HF13.out.1.size;simp;omega));(simp [seqV]);(simp);omega;(simp);intro va vb vc w14 b14 h14;have c1:=jA0 b14 1;have c4:=jA0 b14 4;have f1:=jA2 b14 1;simp at c1 c4;have H14:=jA1 h14;clear h14 b14;rotate_left 0
        refine hK.out _ _ ?_ (λhHeld=>?_)
        ·exact ⟨c1,c4⟩
        clear hK K
        (try simp only [Act.put,tP,tQ,tR])
        refine tkH (i:=23) (oi:=⟨some 217,.nilCheck (.tmp 194),0,"cluster.go:535",#[⟨0,.data⟩,⟨0,.phase⟩,⟨1,.phase⟩,⟨2,.phase⟩,⟨3,.phase⟩,⟨4,.phase⟩,⟨5,.phase⟩,⟨6,.phase⟩,⟨7,.phase⟩,⟨8,.phase⟩,⟨9,.phase⟩,⟨10,.phase⟩,⟨11,.phase⟩,⟨12,.phase⟩,⟨13,.phase⟩,⟨14,.phase⟩,⟨15,.phase⟩,⟨16,.phase⟩,⟨17,.phase⟩,⟨18,.phase⟩,⟨19,.phase⟩,⟨20,.phase⟩,⟨21,.phase⟩,⟨22,.phase⟩],none⟩) (v:=.pointer (some ⟨np,0,none⟩)) ?_ ?_
        ·intro w hSw;(try dsimp only at hSw);go_simp
        (try simp only [Act.put,tP,tQ,tR])
        refine tkH (i:=24) (oi:=⟨some 218,.fieldAddr 37 (.tmp 217) 1,0,"cluster.go:535",#[⟨23,.data⟩,⟨0,.phase⟩,⟨1,.phase⟩,⟨2,.phase⟩,⟨3,.phase⟩,⟨4,.phase⟩,⟨5,.phase⟩,⟨6,.phase⟩,⟨7,.phase⟩,⟨8,.phase⟩,⟨9,.phase⟩,⟨10,.phase⟩,⟨11,.phase⟩,⟨12,.phase⟩,⟨13,.phase⟩,⟨14,.phase⟩,⟨15,.phase⟩,⟨16,.phase⟩,⟨17,.phase⟩,⟨18,.phase⟩,⟨19,.phase⟩,⟨20,.phase⟩,⟨21,.phase⟩,⟨22,.phase⟩],none⟩) (v:=.pointer (some ⟨np,1,none⟩)) ?_ ?_
        ·intro w hSw;(try dsimp only at hSw);go_simp
        (try simp only [Act.put,tP,tQ,tR])
        refine wpAnyH_done (by kernel_rfl) ?_ _
        refine jE5 (o:=⟨none,.store 34 (.tmp 218) (.tmp 216),0,"cluster.go:535",#[⟨24,.data⟩,⟨22,.data⟩,⟨22,.chain⟩,⟨0,.phase⟩,⟨1,.phase⟩,⟨2,.phase⟩,⟨3,.phase⟩,⟨4,.phase⟩,⟨5,.phase⟩,⟨6,.phase⟩,⟨7,.phase⟩,⟨8,.phase⟩,⟨9,.phase⟩,⟨10,.phase⟩,⟨11,.phase⟩,⟨12,.phase⟩,⟨13,.phase⟩,⟨14,.phase⟩,⟨15,.phase⟩,⟨16,.phase⟩,⟨17,.phase⟩,⟨18,.phase⟩,⟨19,.phase⟩,⟨20,.phase⟩,⟨21,.phase⟩,⟨22,.phase⟩],none⟩) rfl rfl ?_
        go_simp
        go_wp2_with fail
        go_meet
        exact ⟨_,rfl,H14.out⟩
      case rest =>
      obtain ⟨wy,hwy,HY⟩:=hcut
      rw [← hwy]
      clear hwy
      obtain ⟨R,hR6,hwv⟩:=HTR.out.2.1 (List.replicate (n+1) 0)
      have hN14:=HY.out.net.rebase rfl
      have hH14:HaveM wy hb 0 gs H:=HM12.out.hav.lg HY.out.lgf
      have hB14:Below w1.heap.size w1 wy:=HM12.out.low.trans HY.out.lgf.below
      have hrd:=jK0 wy R hN14 (by simp;exact HT.out.1.len.1.symm) hwv oE oE (by have:=H1.out.size;omega) (HMP.out wy hB14).1 (HMP.out wy hB14).2 rfl
      have HRD:=jA1 hrd
      have H14:=jA1 (And.intro hH14 (And.intro hB14 hR6))
      clear hwv hN14 hH14 hB14 hrd hR6 n1 n4 hmk hwn HU hps2 HM12 HM9 HM6 HM7 HF7 HPT HGT HB
      go_wp2_with fail
      refine HRD.out.mono ?_
      rintro e w15 ⟨rfl,hN15⟩
      have hds:(ds++[jC4 q s (List.replicate (n+1) 0) (keyB cc) (vlB q) 5])[q]?=some (jC4 q s (List.replicate (n+1) 0) (keyB cc) (vlB q) 5):=by rw [List.getElem?_append_right (by rw [HDL.out];exact Nat.le_refl _),HDL.out];simp
      obtain ⟨gd,dc',pp,e1,e2,e5,-⟩:=hN15.dealAt hds
      rw [show (ds++[jC4 q s (List.replicate (n+1) 0) (keyB cc) (vlB q) 5]).length=q+1 by rw [List.length_append,HDL.out];rfl] at e1
      have i5:((5:Nat):Int)=5:=rfl
      simp only [] at e5
      rw [i5] at e5
      have hH15:=H14.out.1.lg hN15.lgf
      have hB15:=H14.out.2.1.trans hN15.lgf.below
      obtain ⟨rowS,hrowS⟩:∃ x,H[s]?=some x:=⟨_,List.getElem?_eq_getElem (by have:=HT.out.2.2.2.1.len.1;have:=HT.out.1.len.1;omega)⟩
      have hos:=HT.out.2.2.2.1.each (s - 1) V rowS HV.out.2.1 (by rw [show s - 1+1=s by omega];exact hrowS) cc hc5
      obtain ⟨gS,hgS,hv1,hv2,hvf,hbS,hrl⟩:=hH15.cell hrowS hos.1
      have hfs:Fr [gS] w15 (w15.setCell ⟨gS,cc,none⟩ (.string (vlB q))):=Fr.set1 sE _ _
      have hN16:=hN15.side hfs hbS (.inr ⟨rfl,by simp;omega⟩) rfl
      have hH16:=hH15.put (c:=cc) hrowS hgS (vlB q)
      have hB16:=hB15.trans (hfs.below hN15.hs.2 (λk hk=>by
       simp at hk
       subst hk
       exact HT.out.2.2.2.2.2.2 _ (List.mem_of_getElem? hgS)))
      have hO16:=HaveOk.put (v:=vlB q) HT.out.2.2.2.1 hsn.1 HV.out.2.1 hrowS hc5 HTR.out.2.2.1.1
      have H16:=jA1 (And.intro hN16 (And.intro hH16 (And.intro hB16 hO16)))
      have q2:(q:Int)<(q:Int)+1:=by omega
      clear hN15 hds hH15 hB15 hrowS hos hgS hbS hrl hfs hN16 hH16 hB16 hO16
      go_wp2_with fail
      go_roundw
      case rel=>exact ⟨q+1,by omega,by go_num,_,_,_,_,_,gs,_,HT.out.1.next _ HV.out.2.1 hsn.1,H16.out.1,by have:=H14.out.2.2;omega,H16.out.2.1,H16.out.2.2.2,H16.out.2.2.1,HT.out.2.2.2.2.2.2⟩
      case measure=>simp [intOf];omega
     ·have q1:¬ (q:Int)<(N:Int):=by omega
      obtain ⟨ds,ord,Vs,lm,K,gs,H,-,-,-,-,-,hBl,-⟩:=HQ.out
      have HBl:=jA1 (H1.out.trans (hBl.mono H1.out.size))
      clear hBl
      go_wp2_with fail
      go_ret
      exact ⟨rfl,HBl.out⟩
 ·have h60':60<(N:Int):=by omega
  go_wp2_with fail
  go_ret
  exact ⟨rfl,H1.out⟩
end Go.Proofs.YtcalalndmcemiaaGreatDoor
