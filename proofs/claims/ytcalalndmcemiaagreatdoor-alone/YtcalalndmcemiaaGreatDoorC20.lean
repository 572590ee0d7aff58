import Derived.Test.YtcalalndmcemiaaGreatDoorC18
set_option maxRecDepth 100000
set_option maxHeartbeats 16000000
namespace Go.Proofs.YtcalalndmcemiaaGreatDoor
open Go.RowKit
open Sc
theorem jRl (l:List Nat):(str l).data=(l.map λx=>UInt8.ofNat x).toArray:=by
 have aux:∀ (l:List Nat) (r:ByteArray),((l.map λx:Nat=>(x:Int)).foldl (λr n=>r.push (UInt8.ofNat n.toNat)) r).data=r.data++(l.map λx=>UInt8.ofNat x).toArray:=by
  intro l
  induction l with
  | nil=>intro r;simp
  | cons x l ih =>
   intro r
   rw [List.map_cons,List.foldl_cons,ih]
   simp [ByteArray.push]
 unfold str
 rw [aux]
 simp
theorem jFt {l:List Nat} (h:Byt l):jA6 (str l)=l:=by
 unfold jA6
 rw [jRl]
 simp only [List.map_map]
 have:∀ (m:List Nat),Byt m→m.map (UInt8.toNat ∘ λx=>UInt8.ofNat x)=m:=by
  intro m
  induction m with
  | nil=>intro _;rfl
  | cons x m ih =>
   intro hb
   have hx:x<256:=hb x sE
   rw [List.map_cons,ih (λy hy=>hb y (by simp [hy]))]
   congr 1
   simp
   omega
 exact this l h
abbrev fldO (b off n cap:Nat):Obj:=.cells #[.slice (some ⟨b,off,none⟩) n cap,.bool false] 347
def FldIn (w:World) (fp:Nat) (rest:List Nat):Prop :=
 ∃ b off cap,w.heap[fp]?=some (fldO b off rest.length cap)∧RowAt w b off rest∧b<w.heap.size∧rest.length≤cap∧cap≤maxLen∧b≠fp∧Byt rest
theorem FldIn.lt {w:World} {fp:Nat} {rest:List Nat} (h:FldIn w fp rest):fp<w.heap.size:=by obtain ⟨_,_,_,h1,_⟩:=h;exact (Array.getElem?_eq_some_iff.1 h1).1
theorem FldIn.keep {w w':World} {fp:Nat} {rest:List Nat} (h:FldIn w fp rest) {n:Nat} (hf:∀ k,n≤k→k<w.heap.size→w'.heap[k]?=w.heap[k]?) (hs:w.heap.size≤w'.heap.size) (hb:∀ b off cap,w.heap[fp]?=some (fldO b off rest.length cap)→n≤b) (hn:n≤fp):FldIn w' fp rest:=by
 have hfp:=h.lt
 obtain ⟨b,off,cap,h1,h2,h3,h4⟩:=h
 refine ⟨b,off,cap,(hf fp hn hfp).trans h1,λi hi=>?_,by omega,h4⟩
 exact (World.cell?_of_block (a:=⟨b,off+i,none⟩) (hf b (hb b off cap h1) h3)).trans (h2 i hi)
structure FldAt (n:Nat) (w:World) (fp:Nat) (rest:List Nat):Prop where
 fld:FldIn w fp rest
 low:n≤fp
 row:∀ b off cap,w.heap[fp]?=some (fldO b off rest.length cap)→n≤b
 typ:∀ b off cap,w.heap[fp]?=some (fldO b off rest.length cap)→∃ c fr,w.heap[b]?=some (.cells c 5 fr)
theorem FldAt.keep {n:Nat} {w w':World} {fp:Nat} {rest:List Nat} (h:FldAt n w fp rest) (hf:∀ k,n≤k→k<w.heap.size→w'.heap[k]?=w.heap[k]?) (hs:w.heap.size≤w'.heap.size):FldAt n w' fp rest:=by
 have hfp:=h.fld.lt
 refine ⟨h.fld.keep hf hs h.row h.low,h.low,λb off cap hb=>?_,λb off cap hb=>?_⟩
 ·rw [hf fp h.low hfp] at hb
  exact h.row b off cap hb
 ·rw [hf fp h.low hfp] at hb
  obtain ⟨c,fr,hc⟩:=h.typ b off cap hb
  exact ⟨c,fr,(hf b (h.row b off cap hb) (Array.getElem?_eq_some_iff.1 hc).1).trans hc⟩
theorem FldAt.apart {n:Nat} {S:List Nat} {w w':World} {fp:Nat} {rest:List Nat} (h:FldAt n w fp rest) (hf:Fr S w w') (hS:∀ k∈S,k≠fp∧∀ c fr,w.heap[k]?≠some (.cells c 5 fr)):FldAt n w' fp rest:=by
 have hfp:=h.fld.lt
 have e0:=hf.block fp hfp (λe=>(hS fp e).1 rfl)
 have eb:∀ b off cap,w.heap[fp]?=some (fldO b off rest.length cap)→w'.heap[b]?=w.heap[b]?:=λb off cap hb=>by
  obtain ⟨c,fr,hc⟩:=h.typ b off cap hb
  exact hf.block b (Array.getElem?_eq_some_iff.1 hc).1 (λe=>(hS b e).2 c fr hc)
 refine ⟨?_,h.low,λb off cap hb=>h.row b off cap (by rw [← e0];exact hb),λb off cap hb=>?_⟩
 ·obtain ⟨b,off,cap,h1,h2,h3,h4⟩:=h.fld
  refine ⟨b,off,cap,e0.trans h1,λi hi=>?_,by have:=hf.size;omega,h4⟩
  exact (World.cell?_of_block (a:=⟨b,off+i,none⟩) (eb b off cap h1)).trans (h2 i hi)
 ·rw [e0] at hb
  rw [eb b off cap hb]
  exact h.typ b off cap hb
theorem FldAt.fr {n:Nat} {S:List Nat} {w w':World} {fp:Nat} {rest:List Nat} (h:FldAt n w fp rest) (hf:Fr S w w') (hS:∀ k∈S,k<n):FldAt n w' fp rest :=
 h.keep (λk hk hl=>hf.block k hl (λhm=>by have:=hS k hm;omega)) hf.size
theorem jFu (l:List Nat) (hl:Byt l) (hs:l.length≤4096) (w:World) :
  Calls Tryz.prog 168 #[.string (str l)] w λe w'=>∃ fp,e=.returned (.pointer (some ⟨fp,0,none⟩))∧FldAt w.heap.size w' fp l∧Fr [] w w':=by
 have hrb:=jE3 w (str l)
 have hsz:(str l).size=l.length:=by rw [← jAz,jFt hl]
 have hrow:=jIk w (str l) (grownCap w (str l).size 0 5)
 have hty:(w.drew.alloc (strO (str l) (grownCap w (str l).size 0 5))).heap[w.heap.size]?=some (strO (str l) (grownCap w (str l).size 0 5)):=heap_alloc_new w.drew _
 have hge:=grownCap_ge w (str l).size 0 5
 have hle:=grownCap_le_maxLen w (str l).size 0 5 (by rw [hsz];unfold maxLen;omega)
 rw [jFt hl] at hrow
 obtain ⟨W,hW⟩:∃ W,W=w.drew.alloc (strO (str l) (grownCap w (str l).size 0 5)):=⟨_,rfl⟩
 have hf:Fr [] w W:=by rw [hW];exact (Fr.refl [] w).drew.alloc _
 have hs1:W.heap.size=w.heap.size+1:=by rw [hW];simp
 rw [← hW] at hrb hrow hty
 rw [hsz] at hrb hge hle
 obtain ⟨cap,hcap⟩:∃ cap,cap=grownCap w l.length 0 5:=⟨_,rfl⟩
 rw [← hcap] at hrb hge hle
 clear hW hcap hsz
 go_enter Tryz.func168,Tryz.ntmps168
 go_wp2
 go_ret
 have hn:=heap_alloc_new W (fldO w.heap.size 0 l.length cap)
 refine ⟨W.heap.size,by rw [hs1];rfl,⟨⟨w.heap.size,0,cap,hn,λi hi=>?_,by simp;omega,hge,hle,by omega,hl⟩,by omega,λb off c hb=>?_,λb off c hb=>?_⟩,hf.alloc _⟩
 ·rw [World.cell?_alloc_lt _ _ ⟨w.heap.size,0+i,none⟩ (by show w.heap.size<_;omega)]
  exact hrow i hi
 ·rw [hn] at hb
  cases hb
  exact Nat.le_refl _
 ·rw [hn] at hb
  cases hb
  exact ⟨_,_,(Below.heap_alloc _ _ _ oE).trans hty⟩
theorem RowAt.fr {w w':World} {b off:Nat} {l:List Nat} (h:RowAt w b off l) (hb:w'.heap[b]?=w.heap[b]?):RowAt w' b off l:=λi hi =>
 (World.cell?_of_block (a:=⟨b,off+i,none⟩) hb).trans (h i hi)
def jY6 (n fp:Nat) (rest:List Nat) (k:Nat) (w:World) (e:Ending) (w':World):Prop :=
 ∃ b off,e=.returned (.slice (some ⟨b,off,none⟩) k k)∧RowAt w' b off (rest.take k)∧FldAt n w' fp (rest.drop k)∧Fr [fp] w w'
theorem jGy (n fp k:Nat) (rest:List Nat) (w:World) (h:FldAt n w fp rest) (hk:k≤rest.length) (hk2:k≤4096) :
  Calls Tryz.prog 264 #[.pointer (some ⟨fp,0,none⟩),.int .i64 (k:Int)] w (jY6 n fp rest k w):=by
 obtain ⟨⟨b,off,cap,h1,h2,h3,h4,h5,h6,h7⟩,hlow,hrow,htyp⟩:=h
 have hty:=htyp b off cap h1
 have c0:=jA0 h1 0
 have f0:=jA2 h1 0
 simp at c0
 have hnb:=hrow b off cap h1
 have HH:Hid (w.heap[fp]?=some (fldO b off rest.length cap)∧RowAt w b off rest):=⟨h1,h2⟩
 have hfp:fp<w.heap.size:=(Array.getElem?_eq_some_iff.1 h1).1
 obtain ⟨m,hm⟩:∃ m,m=rest.length:=⟨_,rfl⟩
 rw [← hm] at c0 hk h4 HH
 have HM:Hid (m=rest.length):=hm
 have i1:¬ (m:Int)<(k:Int):=by omega
 have hsp:=jJx b off m cap k w hk h4 h5
 have HTY:Hid (∃ c fr,w.heap[b]?=some (.cells c 5 fr)):=hty
 clear h1 h2 hm hrow htyp hty
 go_enter Tryz.func264,Tryz.ntmps264
 go_wp2_with fail
 refine hsp.mono ?_
 clear hsp
 rintro e w1 ⟨rfl,q,rfl⟩
 obtain ⟨off',hcut⟩:∃ off',cutA b off k cap=some ⟨b,off',none⟩∧(k<cap→off'=off+k):=by
  unfold cutA
  by_cases hc:cap=k
  ·rw [if_pos hc];exact ⟨off,rfl,λh=>by omega⟩
  ·rw [if_neg hc];exact ⟨off+k,rfl,λ_=>rfl⟩
 obtain ⟨hcut1,hcut2⟩:=hcut
 rw [hcut1]
 have d0:(w.drewN q).cell? ⟨fp,0,none⟩=some (.slice (some ⟨b,off,none⟩) m cap):=by rw [World.cell?_of_block (a:=⟨fp,0,none⟩) (show (w.drewN q).heap[fp]?=w.heap[fp]? by rw [jDh])];exact c0
 have g0:(w.drewN q).frozen? ⟨fp,0,none⟩=false:=by rw [World.frozen?_of_block (a:=⟨fp,0,none⟩) (show (w.drewN q).heap[fp]?=w.heap[fp]? by rw [jDh])];exact f0
 clear c0 f0 hcut1
 go_wp2
 go_ret
 obtain ⟨W,hW⟩:∃ W,W=(w.drewN q).setCell ⟨fp,0,none⟩ (.slice (some ⟨b,off',none⟩) (m - k) (cap - k)):=⟨_,rfl⟩
 rw [← hW]
 have hf:Fr [fp] w W:=by rw [hW];exact (jAk (Fr.refl [fp] w) q).setCell (.inl sE) _
 have hbb:W.heap[b]?=w.heap[b]?:=hf.block b h3 (by simpa using h6)
 have hbk:W.heap[fp]?=some (fldO b off' (m - k) (cap - k)):=by
  have:(w.drewN q).heap[fp]?=some (fldO b off m cap):=by rw [jDh];exact HH.out.1
  have:=jA5 this 0 (.slice (some ⟨b,off',none⟩) (m - k) (cap - k))
  rw [hW];simpa using this
 have hdl:(rest.drop k).length=m - k:=by rw [List.length_drop,HM.out]
 refine ⟨b,off,rfl,λi hi=>?_,⟨⟨b,off',cap - k,by rw [hdl];exact hbk,λi hi=>?_,by have:=hf.size;omega,by rw [hdl];omega,by omega,h6,h7.drop k⟩,hlow,λb' o' c' hb'=>?_,λb' o' c' hb'=>?_⟩,hf⟩
 ·have hi2:i<rest.length:=by rw [List.length_take] at hi;omega
  have hik:i<k:=by rw [List.length_take] at hi;omega
  rw [(HH.out.2.fr hbb) i hi2]
  simp [at_,List.getElem?_take_of_lt hik]
 ·rw [hdl] at hi
  have ho:off'=off+k:=hcut2 oE
  have hi2:k+i<rest.length:=by rw [← HM.out];omega
  have:=(HH.out.2.fr hbb) (k+i) hi2
  rw [ho,Nat.add_assoc]
  rw [this]
  simp [at_,List.getElem?_drop]
 ·rw [hdl,hbk] at hb'
  cases hb'
  exact hnb
 ·rw [hdl,hbk] at hb'
  cases hb'
  rw [hbb]
  exact HTY.out
theorem jDv (n fp:Nat) (rest:List Nat) (w:World) (h:FldAt n w fp rest) (hk:8≤rest.length) :
  Calls Tryz.prog 218 #[.pointer (some ⟨fp,0,none⟩)] w λe w'=>e=.returned (.int .u64 ((val (rest.take 8):Nat):Int))∧FldAt n w' fp (rest.drop 8)∧Fr [fp] w w':=by
 have hb:Byt rest:=by obtain ⟨_,_,_,_,_,_,_,_,_,h⟩:=h.fld;exact h
 have ht:=jGy n fp 8 rest w h hk oE
 clear h
 go_enter Tryz.func218,Tryz.ntmps218
 go_wp2_with fail
 refine (jEn w).mono ?_
 rintro e w1 ⟨rfl,rfl⟩
 go_wp2_with fail
 refine ht.mono ?_
 clear ht
 rintro e w2 ⟨b,off,rfl,hrow,hf2,hfr⟩
 have HF:Hid (FldAt n w2 fp (rest.drop 8)∧Fr [fp] w1 w2):=⟨hf2,hfr⟩
 have hl8:(rest.take 8).length=8:=by rw [List.length_take];omega
 have htn:=jNb b off 8 8 (rest.take 8) w2 (hb.take 8) hl8 oE oE (by unfold maxLen;omega) hrow
 rw [List.take_take,Nat.min_self] at htn
 clear hf2 hfr hrow
 go_wp2_with fail
 refine htn.mono ?_
 clear htn
 rintro e w3 ⟨rfl,q,rfl⟩
 go_wp2
 go_ret
 exact ⟨rfl,HF.out.1.fr (jAk (Fr.refl [] w2) q) sE,jAk HF.out.2 q⟩
theorem jIc (n fp:Nat) (rest:List Nat) (w:World) (h:FldAt n w fp rest) (hk:1≤rest.length) :
  Calls Tryz.prog 221 #[.pointer (some ⟨fp,0,none⟩)] w λe w'=>e=.returned (.int .u8 ((val (rest.take 1):Nat):Int))∧FldAt n w' fp (rest.drop 1)∧Fr [fp] w w':=by
 have hb:Byt rest:=by obtain ⟨_,_,_,_,_,_,_,_,_,h⟩:=h.fld;exact h
 have ht:=jGy n fp 1 rest w h hk oE
 clear h
 go_enter Tryz.func221,Tryz.ntmps221
 go_wp2_with fail
 refine (jGb w).mono ?_
 rintro e w1 ⟨rfl,rfl⟩
 go_wp2_with fail
 refine ht.mono ?_
 clear ht
 rintro e w2 ⟨b,off,rfl,hrow,hf2,hfr⟩
 have HF:Hid (FldAt n w2 fp (rest.drop 1)∧Fr [fp] w1 w2):=⟨hf2,hfr⟩
 have hl8:(rest.take 1).length=1:=by rw [List.length_take];omega
 have htn:=jI5 b off 1 1 (rest.take 1) w2 (hb.take 1) hl8 oE oE (by unfold maxLen;omega) hrow
 rw [List.take_take,Nat.min_self] at htn
 clear hf2 hfr hrow
 go_wp2_with fail
 refine htn.mono ?_
 clear htn
 rintro e w3 ⟨rfl,q,rfl⟩
 go_wp2
 go_ret
 exact ⟨rfl,HF.out.1.fr (jAk (Fr.refl [] w2) q) sE,jAk HF.out.2 q⟩
theorem jG8 (n fp k:Nat) (t rest:List Nat) (w:World) (h:FldAt n w fp (k :: t++rest)) (hk:t.length=k) (hk2:k<256) :
  Calls Tryz.prog 222 #[.pointer (some ⟨fp,0,none⟩)] w λe w'=>e=.returned (.string (str t))∧FldAt n w' fp rest∧Fr [fp] w w':=by
 have hn:=jIc n fp (k :: t++rest) w h sE
 have e1:val ((k :: t++rest).take 1)=k:=by simp [val]
 have e2:(k :: t++rest).drop 1=t++rest:=by simp
 rw [e1,e2] at hn
 clear h e1 e2
 go_enter Tryz.func222,Tryz.ntmps222
 go_wp2_with fail
 refine hn.mono ?_
 clear hn
 rintro e w1 ⟨rfl,hf1,hfr1⟩
 have ht:=jGy n fp k (t++rest) w1 hf1 (by simp;omega) oE
 have e3:(t++rest).take k=t:=by rw [← hk];simp
 have e4:(t++rest).drop k=rest:=by rw [← hk];simp
 unfold jY6 at ht
 rw [e3,e4] at ht
 have HF:Hid (Fr [fp] w w1):=hfr1
 clear hf1 hfr1 e3 e4
 have j1:IntKind.i64.wrap (k:Int)=(k:Int):=by rw [IntKind.wrap_i64];omega
 go_wp2_with fail
 refine ht.mono ?_
 clear ht
 rintro e w2 ⟨b,off,rfl,hrow,hf2,hfr2⟩
 have hcv:=jDo w2 b off k k t hk hrow
 have H2:Hid (FldAt n w2 fp rest∧Fr [fp] w w2):=⟨hf2,HF.out.trans hfr2⟩
 clear hf2 hfr2 hrow
 go_wp2
 go_ret
 exact ⟨rfl,H2.out⟩
theorem jIp (n fp:Nat) (rest:List Nat) (w:World) (h:FldAt n w fp rest) :
  Calls Tryz.prog 220 #[.pointer (some ⟨fp,0,none⟩)] w λe w'=>e=.returned (.bool (decide (0<rest.length)))∧w'=w:=by
 obtain ⟨⟨b,off,cap,h1,_⟩,_,_⟩:=h
 have c0:=jA0 h1 0
 simp at c0
 clear h1
 obtain ⟨m,hm⟩:∃ m,m=rest.length:=⟨_,rfl⟩
 rw [← hm] at c0 ⊢
 clear hm
 go_enter Tryz.func220,Tryz.ntmps220
 go_wp2
 go_ret
 refine ⟨?_,rfl⟩
 simp
theorem jDc (n fp:Nat) (rest:List Nat) (w:World) (h:FldAt n w fp rest) :
  Calls Tryz.prog 223 #[.pointer (some ⟨fp,0,none⟩)] w λe w'=>e=.returned (.bool (!decide (0<rest.length)))∧w'=w:=by
 have hm:=jIp n fp rest w h
 obtain ⟨⟨b,off,cap,h1,_⟩,_,_⟩:=h
 have c1:=jA0 h1 1
 simp at c1
 clear h1
 go_enter Tryz.func223,Tryz.ntmps223
 go_wp2_with fail
 refine hm.mono ?_
 rintro e w1 ⟨rfl,rfl⟩
 go_wp2
 go_ret
 exact ⟨rfl,rfl⟩
end Go.Proofs.YtcalalndmcemiaaGreatDoor
set_option maxRecDepth 100000
set_option maxHeartbeats 16000000
namespace Go.Proofs.YtcalalndmcemiaaGreatDoor
open Go.RowKit Go.Maps
open Sc
def AShard.takes (s:AShard) (t:Nat):List (ByteArray × AGrip)→AShard
 | []=>s
 | x :: r=>(s.take t x.1 x.2).takes t r
theorem AShard.takes_snoc:∀ (ys:List (ByteArray × AGrip)) (s:AShard) (t:Nat) (x:ByteArray × AGrip),s.takes t (ys++[x])=(s.takes t ys).take t x.1 x.2
 | [],_,_,_=>rfl
 | y :: ys,s,t,x=>AShard.takes_snoc ys (s.take t y.1 y.2) t x
def jHi (w:World) (fp:Nat):Nat:=match w.cell? ⟨fp,0,none⟩ with
 | some (.slice _ n _)=>n
 | _=>0
theorem FldIn.len {w:World} {fp:Nat} {rest:List Nat} (h:FldIn w fp rest):jHi w fp=rest.length:=by
 obtain ⟨b,off,cap,h1,_⟩:=h
 have c0:=jA0 h1 0
 simp at c0
 unfold jHi
 rw [c0]
def AShard.prepd (s:AShard) (t:Nat) (xs:List (ByteArray × AGrip)):AShard:=({ s with txns:=jAb s.txns t ⟨3,0,0⟩ }:AShard).takes t xs
theorem jFl (x:ByteArray × AGrip) (xs:List (ByteArray × AGrip)):jAp (x :: xs)=x.2.way :: (x.1.size :: jA6 x.1++(x.2.val.size :: jA6 x.2.val++jAp xs)):=by
 simp [jAp,jLh]
theorem FldAt.more {n:Nat} {w:World} {fp:Nat} {x:ByteArray × AGrip} {xs:List (ByteArray × AGrip)} (_h:FldAt n w fp (jAp (x :: xs))):0<(jAp (x :: xs)).length:=by rw [jFl];simp
theorem jK3 (n sp lg bV bT bH m fp t:Nat) (s:AShard) (xs:List (ByteArray × AGrip)) (w:World) (h:ShIn w sp lg bV bT bH m s) (hf:FldAt n w fp (be 8 t++jAp xs)) (ht:t<18446744073709551616) (h0:t≠0) (hst:(s.txn t).state=0) (hsm:∀ x∈xs,jCj x∧x.2.way≤2) (hl:xs.length≤16) (hm:m+32<maxLen) (hlow:sp<n∧bV<n∧bT<n∧bH<n) :
  Calls Tryz.prog 169 #[.pointer (some ⟨sp,0,none⟩),.pointer (some ⟨fp,0,none⟩)] w λe w'=>e=.returned (.bool true)∧ShIn w' sp lg bV bT bH (m+1+xs.length) (s.prepd t xs)∧Fr [fp,bT,bH] w w':=by
 have hnum:=jDv n fp (be 8 t++jAp xs) w hf (by simp [jB3])
 have e1:val ((be 8 t++jAp xs).take 8)=t:=by
  rw [List.take_left' (by rw [jB3])]
  exact jH6 8 t (by simpa using ht)
 have e2:(be 8 t++jAp xs).drop 8=jAp xs:=List.drop_left' (by rw [jB3])
 rw [e1,e2] at hnum
 have HI:Hid (ShIn w sp lg bV bT bH m s):=h
 have hfl:=hf.low
 have i0:¬ (t:Int)=0:=by omega
 have i0b:((t:Int) == 0)=false:=beq_eq_false_iff_ne.2 i0
 clear e1 e2 h hf
 go_enter Tryz.func169,Tryz.ntmps169
 go_wp2_with fail
 refine hnum.mono ?_
 clear hnum
 rintro e w1 ⟨rfl,hf1,hfr1⟩
 have hin1:=HI.out.fr hfr1 (by simp;omega) (by simp;omega) (by simp;omega) (by simp;omega)
 have hsa:=jD3 sp lg bV bT bH m t s w1 hin1 ht
 rw [hst] at hsa
 have H1:Hid (ShIn w1 sp lg bV bT bH m s∧FldAt n w1 fp (jAp xs)∧Fr [fp] w w1):=⟨hin1,hf1,hfr1⟩
 clear hin1 hf1 hfr1 hst
 go_wp2_with fail
 refine hsa.mono ?_
 clear hsa
 rintro e w2 ⟨rfl,rfl⟩
 have c2:=jA0 H1.out.1.blk 2
 simp at c2
 obtain ⟨w3,hr3,hm3,hg3⟩:=H1.out.1.txns.putRun Tryz.underlying136 oE (k:=t) ht (v:=(⟨3,0,0⟩:ATxn)) trivial
 change (Instr.mapUpdate _ _ (.int .u64 (t:Int)) (.agg #[.int .i64 3,.int .i64 0,.int .u64 0])).run _ _=_ at hr3
 have hf3:Fr [bT] w2 w3:=Fr.of_grown1 hg3
 have H3:Hid (ShIn w3 sp lg bV bT bH (m+1) { s with txns:=jAb s.txns t ⟨3,0,0⟩ }∧FldAt n w3 fp (jAp xs)∧Fr [fp,bT,bH] w w3):=by
  refine ⟨H1.out.1.setTxns hf3 hm3 oE,H1.out.2.1.fr hf3 (by simp;omega),?_⟩
  exact (H1.out.2.2.mono (by intro k _ hk;simp at hk ⊢;exact .inl hk)).trans (hf3.mono (by intro k _ hk;simp at hk ⊢;exact .inr (.inl hk)))
 have HS:Hid (∀ x∈xs,jCj x∧x.2.way≤2):=hsm
 have HP:Hid (s.prepd t xs=({ s with txns:=jAb s.txns t ⟨3,0,0⟩ }:AShard).takes t xs):=rfl
 clear hm3 hg3 hf3 hsm
 go_wp2
 go_loopw [26] (λ_ wr=>∃ ys zs,Hid (xs=ys++zs∧FldAt n wr fp (jAp zs)∧ShIn wr sp lg bV bT bH (m+1+ys.length) (({ s with txns:=jAb s.txns t ⟨3,0,0⟩ }:AShard).takes t ys)∧Fr [fp,bT,bH] w wr)) (λ_ wr=>jHi wr fp)
 case atStart=>exact ⟨[],xs,rfl,H3.out.2.1,H3.out.1,H3.out.2.2⟩
 case round =>
  obtain ⟨ys,zs,HX⟩:=hrel
  have hmo:=jIp n fp (jAp zs) wr HX.out.2.1
  cases zs with
  | nil =>
   have hri:=jDc n fp (jAp []) wr HX.out.2.1
   simp only [show decide (0<(jAp []).length)=false from rfl,Bool.not_false] at hmo hri
   go_wp2_with fail
   refine hmo.mono ?_
   rintro e w4 ⟨rfl,rfl⟩
   go_wp2_with fail
   refine hri.mono ?_
   rintro e w5 ⟨rfl,rfl⟩
   go_wp2
   go_ret
   have hxy:xs=ys:=by rw [HX.out.1];simp
   exact ⟨rfl,by rw [HP.out,hxy];exact HX.out.2.2.1,HX.out.2.2.2⟩
  | cons x zs =>
   have hpos:decide (0<(jAp (x :: zs)).length)=true:=decide_eq_true HX.out.2.1.more
   rw [hpos] at hmo
   have hx:=HS.out x (by rw [HX.out.1];simp)
   obtain ⟨⟨z1,z2,z3⟩,z4⟩:=hx
   have hfw:=HX.out.2.1
   have HLEN:Hid (jHi wr fp=(jAp (x :: zs)).length):=hfw.fld.len
   have HLT:Hid ((jAp zs).length<(jAp (x :: zs)).length):=by show _<_;rw [jFl];simp;omega
   rw [jFl] at hfw
   have hn8:=jIc n fp _ wr hfw sE
   simp only [List.take_succ_cons,List.take_zero,List.drop_succ_cons,List.drop_zero] at hn8
   have ev:val [x.2.way]=x.2.way:=by simp [val]
   rw [ev] at hn8
   clear hpos hfw ev
   go_wp2_with fail
   refine hmo.mono ?_
   clear hmo
   rintro e w4 ⟨rfl,rfl⟩
   go_wp2_with fail
   refine hn8.mono ?_
   clear hn8
   rintro e w5 ⟨rfl,hf5,hfr5⟩
   have ht6:=jG8 n fp x.1.size (jA6 x.1) (x.2.val.size :: jA6 x.2.val++jAp zs) w5 hf5 (jAz _) oE
   have H5:Hid (Fr [fp] w4 w5):=hfr5
   clear hf5 hfr5
   go_wp2_with fail
   refine ht6.mono ?_
   clear ht6
   rintro e w6 ⟨rfl,hf6,hfr6⟩
   have ht7:=jG8 n fp x.2.val.size (jA6 x.2.val) (jAp zs) w6 hf6 (jAz _) oE
   have H6:Hid (Fr [fp] w4 w6):=H5.out.trans hfr6
   clear hf6 hfr6
   go_wp2_with fail
   refine ht7.mono ?_
   clear ht7
   rintro e w7 ⟨rfl,hf7,hfr7⟩
   rw [jCw,jCw]
   have hfr47:Fr [fp] w4 w7:=H6.out.trans hfr7
   have hin7:=HX.out.2.2.1.fr hfr47 (by simp;omega) (by simp;omega) (by simp;omega) (by simp;omega)
   have H7:Hid (FldAt n w7 fp (jAp zs)∧Fr [fp,bT,bH] w w7):=⟨hf7,HX.out.2.2.2.trans (hfr47.mono (by intro k _ hk;simp at hk ⊢;exact .inl hk))⟩
   have hyl:ys.length+1≤xs.length:=by rw [HX.out.1];simp
   have hta:=jN5 sp lg bV bT bH (m+1+ys.length) t x.1 x.2 _ w7 hin7 ht (by unfold maxLen;omega) oE
   have i2:¬ (2:Int)<(x.2.way:Int):=by omega
   clear hf7 hfr7 hfr47 hin7
   go_wp2_with fail
   refine hta.mono ?_
   clear hta
   rintro e w8 ⟨rfl,hin8,hfr8⟩
   have H8:Hid (ShIn w8 sp lg bV bT bH (m+1+ys.length+1) ((({ s with txns:=jAb s.txns t ⟨3,0,0⟩ }:AShard).takes t ys).take t x.1 x.2)∧FldAt n w8 fp (jAp zs)∧Fr [fp,bT,bH] w w8):=⟨hin8,H7.out.1.fr hfr8 (by simp;omega),H7.out.2.trans (hfr8.mono (by intro k _ hk;simp at hk ⊢;exact .inr (.inr hk)))⟩
   clear hin8 hfr8
   go_wp2
   go_roundw
   case rel =>
    have HR:Hid (ShIn w8 sp lg bV bT bH (m+1+(ys++[x]).length) (({ s with txns:=jAb s.txns t ⟨3,0,0⟩ }:AShard).takes t (ys++[x]))):=by show ShIn _ _ _ _ _ _ _ _;rw [AShard.takes_snoc,List.length_append];exact H8.out.1
    exact ⟨ys++[x],zs,by rw [HX.out.1];simp,H8.out.2.1,HR.out,H8.out.2.2⟩
   case measure=>rw [H8.out.2.1.fld.len,HLEN.out];exact HLT.out
section
variable (n sp lg bV bT bH m fp t c:Nat) (s:AShard) (w:World)
theorem jHd (h:ShIn w sp lg bV bT bH m s) (hf:FldAt n w fp (be 8 t)) (ht:t<18446744073709551616) (hst:(s.txn t).state=3) (hm:m+c<maxLen) (hc:s.count t≤c) (hv:s.Small) (hlow:sp<n∧bV<n∧bT<n∧bH<n) :
  Calls Tryz.prog 170 #[.pointer (some ⟨sp,0,none⟩),.pointer (some ⟨fp,0,none⟩),.func (.func 171) #[.pointer (some ⟨sp,0,none⟩)] #[]] w λe w'=>e=.returned (.bool true)∧∃ s',jDi s s' t∧ShIn w' sp lg bV bT bH (m+c) s'∧Fr [fp,bV,bT,bH] w w':=by
 have hnum:=jDv n fp (be 8 t) w hf (Nat.le_of_eq (jB3 8 t).symm)
 have e1:val ((be 8 t).take 8)=t:=by rw [List.take_of_length_le (Nat.le_of_eq (jB3 8 t))];exact jH6 8 t (by simpa using ht)
 have e2:(be 8 t).drop 8=[]:=List.drop_of_length_le (Nat.le_of_eq (jB3 8 t))
 rw [e1,e2] at hnum
 have HI:Hid (ShIn w sp lg bV bT bH m s∧s.count t≤c∧s.Small):=⟨h,hc,hv⟩
 have hfl:=hf.low
 clear e1 e2 h hf hc hv
 go_enter Tryz.func170,Tryz.ntmps170
 go_wp2_with fail
 refine hnum.mono ?_
 clear hnum
 rintro e w1 ⟨rfl,hf1,hfr1⟩
 have hin1:=HI.out.1.fr hfr1 (by simp;omega) (by simp;omega) (by simp;omega) (by simp;omega)
 have hsa:=jD3 sp lg bV bT bH m t s w1 hin1 ht
 rw [hst] at hsa
 have hso:Once1 s.holds:=by obtain ⟨_,_,_,h3,_⟩:=hin1.holds;exact h3
 have hap:=jKr sp lg bV bT bH m t c s w1 hin1 ht hm (λL h1 h2=>by rw [AShard.count_of hso h1 h2];exact HI.out.2.1) (λp hp=>by have:=(HI.out.2.2 p hp).2.1;simp at this;unfold maxLen;omega)
 have H1:Hid (FldAt n w1 fp []∧Fr [fp] w w1):=⟨hf1,hfr1⟩
 clear hin1 hf1 hfr1 hst hso
 go_wp2_with fail
 refine hsa.mono ?_
 clear hsa
 rintro e w2 ⟨rfl,rfl⟩
 go_wp2_with fail
 refine hap.mono ?_
 clear hap
 rintro e w3 ⟨rfl,vs,hin3,hlk,hfr3⟩
 have hf3:=H1.out.1.fr hfr3 (by simp;omega)
 have hri:=jDc n fp [] w3 hf3
 have H3:Hid (ShIn w3 sp lg bV bT bH (m+c) (AShard.forget { s with vals:=vs } t)∧jDi s (AShard.forget { s with vals:=vs } t) t∧Fr [fp,bV,bT,bH] w w3):=⟨hin3,⟨vs,rfl,hlk⟩,(H1.out.2.mono (by intro k _ hk;simp at hk ⊢;exact .inl hk)).trans (hfr3.mono (by intro k _ hk;simp at hk ⊢;exact .inr hk))⟩
 clear hin3 hlk hfr3 hf3
 simp only [List.length_nil,Nat.lt_irrefl,decide_false,Bool.not_false] at hri
 go_wp2_with fail
 refine hri.mono ?_
 rintro e w4 ⟨rfl,rfl⟩
 go_wp2
 go_ret
 exact ⟨rfl,_,H3.out.2.1,H3.out.1,H3.out.2.2⟩
theorem jIl (h:ShIn w sp lg bV bT bH m s) (hf:FldAt n w fp (be 8 t)) (ht:t<18446744073709551616) (hst:(s.txn t).state=3) (hlow:sp<n∧bV<n∧bT<n∧bH<n) :
  Calls Tryz.prog 170 #[.pointer (some ⟨sp,0,none⟩),.pointer (some ⟨fp,0,none⟩),.func (.func 172) #[.pointer (some ⟨sp,0,none⟩)] #[]] w λe w'=>e=.returned (.bool true)∧ShIn w' sp lg bV bT bH m (s.forget t)∧Fr [fp,bV,bT,bH] w w':=by
 have hnum:=jDv n fp (be 8 t) w hf (Nat.le_of_eq (jB3 8 t).symm)
 have e1:val ((be 8 t).take 8)=t:=by rw [List.take_of_length_le (Nat.le_of_eq (jB3 8 t))];exact jH6 8 t (by simpa using ht)
 have e2:(be 8 t).drop 8=[]:=List.drop_of_length_le (Nat.le_of_eq (jB3 8 t))
 rw [e1,e2] at hnum
 have HI:Hid (ShIn w sp lg bV bT bH m s):=h
 have hfl:=hf.low
 clear e1 e2 h hf
 go_enter Tryz.func170,Tryz.ntmps170
 go_wp2_with fail
 refine hnum.mono ?_
 clear hnum
 rintro e w1 ⟨rfl,hf1,hfr1⟩
 have hin1:=HI.out.fr hfr1 (by simp;omega) (by simp;omega) (by simp;omega) (by simp;omega)
 have hsa:=jD3 sp lg bV bT bH m t s w1 hin1 ht
 rw [hst] at hsa
 have hfo:=jCs sp lg bV bT bH m t s w1 hin1 ht
 have H1:Hid (FldAt n w1 fp []∧Fr [fp] w w1):=⟨hf1,hfr1⟩
 clear hin1 hf1 hfr1 hst
 go_wp2_with fail
 refine hsa.mono ?_
 clear hsa
 rintro e w2 ⟨rfl,rfl⟩
 go_wp2_with fail
 refine hfo.mono ?_
 clear hfo
 rintro e w3 ⟨rfl,hin3,hfr3⟩
 have hf3:=H1.out.1.fr hfr3 (by simp;omega)
 have hri:=jDc n fp [] w3 hf3
 have H3:Hid (ShIn w3 sp lg bV bT bH m (s.forget t)∧Fr [fp,bV,bT,bH] w w3):=⟨hin3,(H1.out.2.mono (by intro k _ hk;simp at hk ⊢;exact .inl hk)).trans (hfr3.mono (by intro k _ hk;simp at hk ⊢;exact .inr (.inr hk)))⟩
 clear hin3 hfr3 hf3
 simp only [List.length_nil,Nat.lt_irrefl,decide_false,Bool.not_false] at hri
 go_wp2_with fail
 refine hri.mono ?_
 rintro e w4 ⟨rfl,rfl⟩
 go_wp2
 go_ret
 exact ⟨rfl,H3.out.1,H3.out.2⟩
end
def valB (k v:ByteArray):List Nat:=k.size :: jA6 k++(v.size :: jA6 v)
theorem jLy (n sp lg bV bT bH m fp:Nat) (s:AShard) (k v:ByteArray) (w:World) (h:ShIn w sp lg bV bT bH m s) (hf:FldAt n w fp (valB k v)) (hk:k.size<256) (hv:v.size<256) (hm:m<maxLen) (hlow:sp<n∧bV<n∧bT<n∧bH<n) :
  Calls Tryz.prog 173 #[.pointer (some ⟨sp,0,none⟩),.pointer (some ⟨fp,0,none⟩)] w λe w'=>e=.returned (.bool true)∧ShIn w' sp lg bV bT bH (m+1) { s with vals:=jAb s.vals k v }∧Fr [fp,bV,bT,bH] w w':=by
 have ht1:=jG8 n fp k.size (jA6 k) (v.size :: jA6 v) w hf (jAz _) hk
 have HI:Hid (ShIn w sp lg bV bT bH m s):=h
 have hfl:=hf.low
 clear h hf
 go_enter Tryz.func173,Tryz.ntmps173
 go_wp2_with fail
 refine ht1.mono ?_
 clear ht1
 rintro e w1 ⟨rfl,hf1,hfr1⟩
 have ht2:=jG8 n fp v.size (jA6 v) [] w1 (by rw [List.append_nil];exact hf1) (jAz _) hv
 have H1:Hid (Fr [fp] w w1):=hfr1
 clear hf1 hfr1
 go_wp2_with fail
 refine ht2.mono ?_
 clear ht2
 rintro e w2 ⟨rfl,hf2,hfr2⟩
 rw [jCw,jCw]
 have hfr02:Fr [fp] w w2:=H1.out.trans hfr2
 have hin2:=HI.out.fr hfr02 (by simp;omega) (by simp;omega) (by simp;omega) (by simp;omega)
 have c1:=jA0 hin2.blk 1
 simp at c1
 obtain ⟨w3,hr3,hm3,hg3⟩:=hin2.vals.putRun Tryz.underlying135 hm (k:=k) (show k.size≤maxLen by unfold maxLen;omega) (v:=v) (show v.size≤maxLen by unfold maxLen;omega)
 change (Instr.mapUpdate _ _ (.string k) (.string v)).run _ _=_ at hr3
 have hf3:Fr [bV] w2 w3:=Fr.of_grown1 hg3
 have hri:=jDc n fp [] w3 (hf2.fr hf3 (by simp;omega))
 simp only [List.length_nil,Nat.lt_irrefl,decide_false,Bool.not_false] at hri
 have H3:Hid (ShIn w3 sp lg bV bT bH (m+1) { s with vals:=jAb s.vals k v }∧Fr [fp,bV,bT,bH] w w3):=⟨hin2.setVals hf3 hm3 oE,(hfr02.mono (by intro j _ hj;simp at hj ⊢;exact .inl hj)).trans (hf3.mono (by intro j _ hj;simp at hj ⊢;exact .inr (.inl hj)))⟩
 clear hin2 hfr02 hfr2 hf2 hm3 hg3 hf3
 go_wp2_with fail
 refine hri.mono ?_
 rintro e w4 ⟨rfl,rfl⟩
 go_wp2
 go_ret
 exact ⟨rfl,H3.out⟩
inductive Entr (K:AShard→Prop) (s:AShard):Rec→Prop
 | prep (i t:Nat) (xs:List (ByteArray × AGrip)) (ht:t<18446744073709551616) (h0:t≠0) (hst:(s.txn t).state=0) (hsm:∀ x∈xs,jCj x∧x.2.way≤2) (hl:xs.length≤16) (hK:K (s.prepd t xs)):Entr K s ⟨i,1,be 8 t++jAp xs⟩
 | comm (i t:Nat) (ht:t<18446744073709551616) (hst:(s.txn t).state=3) (hc:s.count t≤16) (hv:s.Small) (hK:∀ s',jDi s s' t→K s'):Entr K s ⟨i,2,be 8 t⟩
 | abrt (i t:Nat) (ht:t<18446744073709551616) (hst:(s.txn t).state=3) (hK:K (s.forget t)):Entr K s ⟨i,3,be 8 t⟩
 | vald (i:Nat) (k v:ByteArray) (hk:k.size<256) (hv:v.size<256) (hK:K { s with vals:=jAb s.vals k v }):Entr K s ⟨i,4,valB k v⟩
theorem jSo (n sp lg bV bT bH m fp:Nat) (s:AShard) (r:Rec) (w:World) (h:ShIn w sp lg bV bT bH m s) (hf:FldAt n w fp r.pay) (K:AShard→Prop) (he:Entr K s r) (hm:m+32<maxLen) (hlow:sp<n∧bV<n∧bT<n∧bH<n) :
  Calls Tryz.prog 125 #[.pointer (some ⟨sp,0,none⟩),.int .u8 (r.kind:Int),.pointer (some ⟨fp,0,none⟩)] w λe w'=>e=.returned (.bool true)∧∃ s',K s'∧ShIn w' sp lg bV bT bH (m+20) s'∧Fr [fp,bV,bT,bH] w w':=by
 cases he with
 | prep i t xs ht h0 hst hsm hl hK =>
  have hc:=jK3 n sp lg bV bT bH m fp t s xs w h hf ht h0 hst hsm hl hm hlow
  clear h hf
  go_enter Tryz.func125,Tryz.ntmps125
  go_wp2_with fail
  refine hc.mono ?_
  clear hc
  rintro e w1 ⟨rfl,hin,hfr⟩
  have H1:Hid (ShIn w1 sp lg bV bT bH (m+20) (s.prepd t xs)∧Fr [fp,bV,bT,bH] w w1):=⟨hin.mono oE,hfr.mono (by intro k _ hk;simp at hk ⊢;rcases hk with e | e | e <;> simp [e])⟩
  clear hin hfr
  go_wp2
  go_ret
  exact ⟨rfl,_,hK,H1.out⟩
 | comm i t ht hst hc hv hK =>
  have hcc:=jHd n sp lg bV bT bH m fp t 16 s w h hf ht hst oE hc hv hlow
  clear h hf
  go_enter Tryz.func125,Tryz.ntmps125
  go_wp2_with fail
  refine hcc.mono ?_
  clear hcc
  rintro e w1 ⟨rfl,s',hco,hin,hfr⟩
  have H1:Hid (jDi s s' t∧ShIn w1 sp lg bV bT bH (m+20) s'∧Fr [fp,bV,bT,bH] w w1):=⟨hco,hin.mono oE,hfr⟩
  clear hin hfr hco
  go_wp2
  go_ret
  exact ⟨rfl,s',hK s' H1.out.1,H1.out.2⟩
 | abrt i t ht hst hK =>
  have hcc:=jIl n sp lg bV bT bH m fp t s w h hf ht hst hlow
  clear h hf
  go_enter Tryz.func125,Tryz.ntmps125
  go_wp2_with fail
  refine hcc.mono ?_
  clear hcc
  rintro e w1 ⟨rfl,hin,hfr⟩
  have H1:Hid (ShIn w1 sp lg bV bT bH (m+20) (s.forget t)∧Fr [fp,bV,bT,bH] w w1):=⟨hin.mono oE,hfr⟩
  clear hin hfr
  go_wp2
  go_ret
  exact ⟨rfl,_,hK,H1.out⟩
 | vald i k v hk hv hK =>
  have hcc:=jLy n sp lg bV bT bH m fp s k v w h hf hk hv oE hlow
  clear h hf
  go_enter Tryz.func125,Tryz.ntmps125
  go_wp2_with fail
  refine hcc.mono ?_
  clear hcc
  rintro e w1 ⟨rfl,hin,hfr⟩
  have H1:Hid (ShIn w1 sp lg bV bT bH (m+20) { s with vals:=jAb s.vals k v }∧Fr [fp,bV,bT,bH] w w1):=⟨hin.mono oE,hfr⟩
  clear hin hfr
  go_wp2
  go_ret
  exact ⟨rfl,_,hK,H1.out⟩
end Go.Proofs.YtcalalndmcemiaaGreatDoor
set_option maxRecDepth 100000
set_option maxHeartbeats 16000000
namespace Go.Proofs.YtcalalndmcemiaaGreatDoor
open Go.RowKit
open Sc
theorem jMr:∀ (rs:List Rec) (i:Nat) (h:i<rs.length),(jD2 rs)[i*3]?=some (.int .u64 (rs[i].lsn:Int))∧(jD2 rs)[i*3+1]?=some (.int .u8 (rs[i].kind:Int))∧(jD2 rs)[i*3+2]?=some (.string (str rs[i].pay))
 | [],i,h=>absurd h (Nat.not_lt_zero _)
 | r :: rs,0,_=>⟨rfl,rfl,rfl⟩
 | r :: rs,i+1,h=>by
  have ih:=jMr rs i (by simpa using h)
  have e:∀ j,(jD2 (r :: rs))[(i+1)*3+j]?=(jD2 rs)[i*3+j]?:=λj=>by
   show (jC6 r++jD2 rs)[(i+1)*3+j]?=_
   rw [List.getElem?_append_right (by simp [jC6];omega)]
   congr 1
   simp [jC6];omega
  exact ⟨(e 0).trans ih.1,(e 1).trans ih.2.1,(e 2).trans ih.2.2⟩
def jX8 (w:World) (v:Value) (rs:List Rec):Prop :=
 ∃ ao cap,v=.slice ao rs.length cap∧∀ i (h:i<rs.length),∃ g,ao=some ⟨g,0,none⟩∧w.cell? ⟨g,i*3,none⟩=some (.int .u64 (rs[i].lsn:Int))∧w.cell? ⟨g,i*3+1,none⟩=some (.int .u8 (rs[i].kind:Int))∧w.cell? ⟨g,i*3+2,none⟩=some (.string (str rs[i].pay))
theorem jO9 {w:World} {base n:Nat} {v:Value} {rs:List Rec} (h:w.ownsRow base 110 3 v n (jD2 rs)):jX8 w v rs:=by
 have hl:rs.length=n:=by have:=h.1;rw [jK4] at this;omega
 rcases h.2 with ⟨rfl,h0⟩ | ⟨g,cap,cur,rfl,hb,hg,rest⟩
 ·exact ⟨none,0,by rw [hl,h0],λi hi=>by omega⟩
 ·refine ⟨_,cap,by rw [hl],λi hi=>⟨g,rfl,?_⟩⟩
  have hc:∀ j u,(jD2 rs)[j]?=some u→w.cell? ⟨g,j,none⟩=some u:=λj u hu=>by
   have:=h.cells (g:=g) rfl j u hu
   simpa [Addr.add_lit] using this
  obtain ⟨h1,h2,h3⟩:=jMr rs i hi
  exact ⟨hc _ _ h1,hc _ _ h2,hc _ _ h3⟩
structure ADisk.Well (d:ADisk) (c:Nat):Prop where
 up:d.down=false
 left:-1 - (c:Int)≤d.left∧d.left<0
 full:-1 - (c:Int)≤d.full∧d.full<0
theorem ADisk.Well.mono {d:ADisk} {c c':Nat} (h:d.Well c) (hc:c≤c'):d.Well c' :=
 ⟨h.up,⟨by have:=h.left.1;omega,h.left.2⟩,⟨by have:=h.full.1;omega,h.full.2⟩⟩
theorem jQ0 {d:ADisk} {c:Nat} (h:d.Well c) (hc:c<1099511627776):d.writes.2=0∧d.writes.1.Well (c+1)∧d.writes.1.now=d.now∧d.writes.1.pending=d.pending:=by
 have h1:=h.left
 have h2:=h.full
 have e:=jWh (d:=d) (by rw [h.up];simp;omega) oE
 have e1:wrap64 (d.left - 1)=d.left - 1:=by unfold wrap64;omega
 have e2:wrap64 (d.full - 1)=d.full - 1:=by unfold wrap64;omega
 rw [e1,e2] at e
 rw [e]
 exact ⟨rfl,⟨h.up,by simp;omega,by simp;omega⟩,rfl,rfl⟩
theorem jTc {d:ADisk} {c:Nat} (h:d.Well c) (hc:c<1099511627776):d.sync.2=0∧d.sync.1.Well (c+1)∧d.sync.1.now=d.now:=by
 obtain ⟨a1,a2,a3,a4⟩:=jQ0 h hc
 rw [jM6 a1]
 exact ⟨rfl,⟨a2.up,a2.left,a2.full⟩,a3⟩
theorem jX9 {d:ADisk} {c:Nat} {o:AOp} (h:d.Well c) (hc:c<1099511627776) (h1:2<o.kind→d.now o.name≠none) (h2:¬ (o.kind=4∧o.name=o.to)) :
  (d.tell o).2=0∧(d.tell o).1.Well (c+1)∧(d.tell o).1.now=doOp d.now o:=by
 obtain ⟨a1,a2,a3,a4⟩:=jQ0 h hc
 have e:d.tell o=({ d.writes.1 with now:=doOp d.writes.1.now o,pending:=d.writes.1.pending++[o] },0):=by
  unfold ADisk.tell
  simp only
  rw [a1,if_neg oE,if_neg oE,if_neg (by rw [a3];rintro ⟨x,y⟩;exact h1 y x),if_neg h2]
 rw [e]
 refine ⟨rfl,⟨a2.up,a2.left,a2.full⟩,?_⟩
 simp only
 rw [a3]
/-! ### the segments -/
def jF6:Nat→List (List Rec)→List Nat
 | _,[]=>[]
 | n,c :: cs=>n :: jF6 (n+c.length) cs
theorem jCe:∀ (cs:List (List Rec)) (n:Nat) (c:List Rec),jF6 n (cs++[c])=jF6 n cs++[n+cs.flatten.length]
 | [],_,_=>by simp [jF6]
 | b :: cs,n,c=>by
  simp only [List.cons_append,jF6,jCe cs]
  simp;omega
theorem jO3:∀ (cs:List (List Rec)) (n:Nat) (a b:List Rec),jF6 n (cs++[a])=jF6 n (cs++[b]):=by
 intro cs n a b;rw [jCe,jCe]
def jDq:List Rec→Nat
 | []=>0
 | r :: l=>15+r.pay.length+jDq l
theorem jHw (a b:List Rec):jDq (a++b)=jDq a+jDq b:=by
 induction a with
 | nil=>simp [jDq]
 | cons r a ih=>simp [jDq,ih];omega
structure LogOk (l:ALog) (d:ADisk) (fst:Nat) (cs:List (List Rec)):Prop where
 fail:l.failed=0
 segs:l.segs=jF6 (fst+1) cs
 recs:l.recs=cs.flatten
 next:l.next=fst+cs.flatten.length+1
 nums:∀ (k:Nat) (r:Rec),cs.flatten[k]?=some r→r.lsn=fst+1+k
 ne:∀ c∈cs,c≠[]
 size:∀ c∈cs,jDq c<870
 none:cs=[]→l.filled=600
 fill:∀ ds c,cs=ds++[c]→l.filled=jDq c
 files:∀ s∈l.segs,d.now (jAs s)≠Option.none
section
variable {l:ALog} {d:ADisk} {fst c:Nat} {cs:List (List Rec)}
theorem LogOk.syncs (_h:LogOk l d fst cs) (hw:d.Well c) (hc:c<1099511627776):l.sync d=({ l with durable:=l.next },d.sync.1,0):=by
 unfold ALog.sync
 rw [if_pos (jTc hw hc).1]
theorem LogOk.synced (h:LogOk l d fst cs) (hw:d.Well c) (hc:c<1099511627776) (u:Nat):LogOk { l with durable:=u } d.sync.1 fst cs where
 fail:=h.fail
 segs:=h.segs
 recs:=h.recs
 next:=h.next
 nums:=h.nums
 ne:=h.ne
 size:=h.size
 none:=h.none
 fill:=h.fill
 files:=λs hs=>by rw [(jTc hw hc).2.2];exact h.files s hs
theorem LogOk.wrS (h:LogOk l d fst cs) (hw:d.Well c) (hc:c<1099511627776):l.wr d (l.sync d)=({ l with durable:=l.next },d.sync.1,0):=by
 unfold ALog.wr
 rw [if_pos h.fail,h.syncs hw hc]
 simp only [h.fail.symm]
theorem LogOk.force (h:LogOk l d fst cs) (hw:d.Well c) (hc:c<1099511627776) :
  (l.force d).2.2=0∧LogOk (l.force d).1 (l.force d).2.1 fst cs∧(l.force d).2.1.Well (c+1)∧(l.force d).1.segs=l.segs∧(l.force d).1.filled=l.filled∧(l.force d).1.next=l.next:=by
 unfold ALog.force
 by_cases hq:l.durable=l.next
 ·rw [if_pos hq]
  exact ⟨rfl,h,hw.mono oE,rfl,rfl,rfl⟩
 ·rw [if_neg hq,h.wrS hw hc]
  exact ⟨rfl,h.synced hw hc _,(jTc hw hc).2.1,rfl,rfl,rfl⟩
theorem LogOk.last (h:LogOk l d fst cs) (hf:l.filled<600):∃ ds cl,cs=ds++[cl]:=by
 rcases List.eq_nil_or_concat cs with e | ⟨ds,cl,e⟩
 ·have:=h.none e;omega
 ·exact ⟨ds,cl,by simpa using e⟩
theorem LogOk.segsNe (h:LogOk l d fst cs) (hf:l.filled<600):l.segs≠[]:=by
 obtain ⟨ds,cl,rfl⟩:=h.last hf
 rw [h.segs,jCe]
 simp
theorem jBe (cs:List (List Rec)) (a:List Rec):(cs++[a]).flatten=cs.flatten++a:=by simp
theorem jKt {L:List Rec} {f:Nat} (h:∀ (k:Nat) (r:Rec),L[k]?=some r→r.lsn=f+k) (x:Rec) (hx:x.lsn=f+L.length):∀ (k:Nat) (r:Rec),(L++[x])[k]?=some r→r.lsn=f+k:=by
 intro k r hr
 rw [List.getElem?_append] at hr
 split at hr
 ·exact h k r hr
 ·rename_i hk
  have:k - L.length=0:=by
   have:=(List.getElem?_eq_some_iff.1 hr).1
   simp at this;omega
  rw [this] at hr
  simp at hr
  subst hr
  omega
theorem jNf {m:Files} {nm t:ByteArray} {s:Nat} (h:m (jAs s)≠none):doOp m ⟨2,nm,ByteArray.empty,t⟩ (jAs s)≠none:=by
 show (m.set nm (some _)) (jAs s)≠none
 unfold Files.set
 split
 ·simp
 ·exact h
theorem jTh {m:Files} {t:ByteArray} {s:Nat}:doOp m ⟨2,jAs s,ByteArray.empty,t⟩ (jAs s)≠none:=by
 show (m.set (jAs s) (some _)) (jAs s)≠none
 rw [Files.set_same];simp
structure AppOk (l:ALog) (d:ADisk) (fst:Nat) (cs:List (List Rec)) (c:Nat) (x:Rec) (r:ALog × ADisk × Nat × Nat):Prop where
 ret:r.2.2.1=l.next∧r.2.2.2=0
 log:∃ cs',LogOk r.1 r.2.1 fst cs'∧cs'.flatten=cs.flatten++[x]
 well:r.2.1.Well (c+2)
 two:∀ s,r.1.segs[1]?=some s→l.segs[1]?=some s∨s=l.next
 sum:600*r.1.segs.length+r.1.filled≤600*l.segs.length+l.filled+(15+x.pay.length)
theorem LogOk.append (h:LogOk l d fst cs) (hw:d.Well c) (hc:c+2<1099511627776) (kind:Nat) (s:ByteArray) (hs:s.size≤255) :
  AppOk l d fst cs c ⟨l.next,kind,jA6 s⟩ (l.append d kind s):=by
 obtain ⟨by_,hby⟩:∃ b,b=jAq l.next kind (jA6 s):=⟨_,rfl⟩
 have hlen:=jAz s
 by_cases hf:l.filled<600
 ·obtain ⟨ds,cl,rfl⟩:=h.last hf
  have hseg:l.segs=jF6 (fst+1) ds++[fst+1+ds.flatten.length]:=by rw [h.segs,jCe]
  have hlast:l.segs.getLastD 0=fst+1+ds.flatten.length:=by rw [hseg];simp
  obtain ⟨a1,a2,a3⟩:=jX9 (d:=d) (o:=⟨2,jAs (l.segs.getLastD 0),ByteArray.empty,str by_⟩) hw oE sE sE
  have hroom:l.room d=(l,d,0):=by unfold ALog.room;rw [if_pos hf]
  have hput:l.put d by_=(l,(d.tell ⟨2,jAs (l.segs.getLastD 0),ByteArray.empty,str by_⟩).1,0):=by
   unfold ALog.put;rw [hroom];simp only [if_true];rw [a1]
  have hwr:l.wr d (l.put d by_)=(l,(d.tell ⟨2,jAs (l.segs.getLastD 0),ByteArray.empty,str by_⟩).1,0):=by
   unfold ALog.wr;rw [if_pos h.fail,hput];simp only [h.fail.symm]
  have happ:l.append d kind s=({ l with filled:=l.filled+(15+s.size),recs:=l.recs++[⟨l.next,kind,jA6 s⟩],next:=l.next+1 },(d.tell ⟨2,jAs (l.segs.getLastD 0),ByteArray.empty,str by_⟩).1,l.next,0):=by
   unfold ALog.append;rw [if_neg oE,← hby,hwr];simp
  rw [happ]
  have hfill:=h.fill ds cl rfl
  refine { ret:=⟨rfl,rfl⟩,log:=⟨ds++[cl++[⟨l.next,kind,jA6 s⟩]],?_,by rw [jBe,jBe,List.append_assoc]⟩,well:=a2.mono oE,two:=λs hs=>.inl hs,sum:=by simp;omega }
  refine { fail:=h.fail,segs:=?_,recs:=?_,next:=?_,nums:=?_,ne:=?_,size:=?_,none:=by simp,fill:=?_,files:=?_ }
  ·show l.segs=_;rw [h.segs,jO3]
  ·show l.recs++_=_;rw [h.recs,jBe,jBe,List.append_assoc]
  ·show l.next+1=_;rw [h.next,jBe,jBe];simp;omega
  ·rw [jBe,← List.append_assoc,← jBe]
   exact jKt h.nums _ (by show l.next=_;rw [h.next];omega)
  ·intro b hb
   rcases List.mem_append.1 hb with hb | hb
   ·exact h.ne b (by simp [hb])
   ·simp at hb;subst hb;simp
  ·intro b hb
   rcases List.mem_append.1 hb with hb | hb
   ·exact h.size b (by simp [hb])
   ·simp at hb;subst hb;rw [jHw];simp [jDq];omega
  ·intro es b he
   obtain ⟨_,e2⟩:=List.append_inj' he rfl
   simp only [List.cons.injEq,and_true] at e2
   subst e2
   show l.filled+_=_
   rw [jHw,hfill];simp [jDq];omega
  ·intro x hx
   show (d.tell _).1.now _≠_
   rw [a3]
   exact jNf (h.files x hx)
 ·have hs1:=h.syncs hw oE
  obtain ⟨s1,s2,s3⟩:=jTc hw oE
  obtain ⟨a1,a2,a3⟩:=jX9 (d:=d.sync.1) (o:=⟨2,jAs l.next,ByteArray.empty,str by_⟩) s2 oE sE sE
  have hroom:l.room d=({ l with durable:=l.next,segs:=l.segs++[l.next],filled:=0 },d.sync.1,0):=by
   unfold ALog.room;rw [if_neg hf,hs1];simp
  have hput:l.put d by_=({ l with durable:=l.next,segs:=l.segs++[l.next],filled:=0 },(d.sync.1.tell ⟨2,jAs l.next,ByteArray.empty,str by_⟩).1,0):=by
   unfold ALog.put;rw [hroom];simp only [if_true]
   rw [show (l.segs++[l.next]).getLastD 0=l.next by simp,a1]
  have hwr:l.wr d (l.put d by_)=({ l with durable:=l.next,segs:=l.segs++[l.next],filled:=0 },(d.sync.1.tell ⟨2,jAs l.next,ByteArray.empty,str by_⟩).1,0):=by
   unfold ALog.wr;rw [if_pos h.fail,hput];simp only [h.fail.symm]
  have happ:l.append d kind s=({ l with durable:=l.next,segs:=l.segs++[l.next],filled:=0+(15+s.size),recs:=l.recs++[⟨l.next,kind,jA6 s⟩],next:=l.next+1 },(d.sync.1.tell ⟨2,jAs l.next,ByteArray.empty,str by_⟩).1,l.next,0):=by
   unfold ALog.append;rw [if_neg oE,← hby,hwr];simp
  rw [happ]
  refine { ret:=⟨rfl,rfl⟩,log:=⟨cs++[[⟨l.next,kind,jA6 s⟩]],?_,by rw [jBe]⟩,well:=a2,two:=λx hx=>?_,sum:=by simp;omega }
  ·refine { fail:=h.fail,segs:=?_,recs:=?_,next:=?_,nums:=?_,ne:=?_,size:=?_,none:=by simp,fill:=?_,files:=?_ }
   ·show l.segs++[l.next]=_;rw [h.segs,jCe,h.next];congr 2;omega
   ·show l.recs++_=_;rw [h.recs,jBe]
   ·show l.next+1=_;rw [h.next,jBe];simp;omega
   ·rw [jBe]
    exact jKt h.nums _ (by show l.next=_;rw [h.next];omega)
   ·intro b hb
    rcases List.mem_append.1 hb with hb | hb
    ·exact h.ne b hb
    ·simp at hb;subst hb;simp
   ·intro b hb
    rcases List.mem_append.1 hb with hb | hb
    ·exact h.size b hb
    ·simp at hb;subst hb;simp [jDq];omega
   ·intro es b he
    obtain ⟨_,e2⟩:=List.append_inj' he rfl
    simp only [List.cons.injEq,and_true] at e2
    subst e2
    show 0+_=_
    simp [jDq];omega
   ·intro x hx
    show (d.sync.1.tell _).1.now _≠_
    rw [a3]
    rcases List.mem_append.1 hx with hx | hx
    ·exact jNf (by rw [s3];exact h.files x hx)
    ·simp at hx;subst hx;exact jTh
  ·change (l.segs++[l.next])[1]?=some x at hx
   rw [List.getElem?_append] at hx
   split at hx
   ·exact .inl hx
   ·right
    have:=List.mem_of_getElem? hx
    simpa using this
end
theorem jHk {w:World} {base n:Nat} {v:Value} {rs:List Rec} (h:w.ownsRow base 110 3 v n (jD2 rs)):RecsSl w.heap.size w v rs:=by
 have hl:rs.length=n:=by have:=h.1;rw [jK4] at this;omega
 have hlt:=h.lt
 obtain ⟨ao,cap,e,H⟩:=jO9 h
 rcases h.2 with ⟨e1,h0⟩ | ⟨g,cap',cur,e1,hb,hg,rest⟩
 ·left
  exact ⟨e1,List.eq_nil_of_length_eq_zero oE⟩
 ·right
  refine ⟨g,cap',by rw [e1,hl],(hlt g (by rw [e1];rfl)).2,λk r hk=>?_⟩
  obtain ⟨hk1,hk2⟩:=List.getElem?_eq_some_iff.1 hk
  obtain ⟨g2,e2,a1,a2,a3⟩:=H k hk1
  rw [e1] at e
  cases e
  cases e2
  rw [hk2] at a1 a2 a3
  exact ⟨a1,a2,a3⟩
end Go.Proofs.YtcalalndmcemiaaGreatDoor
