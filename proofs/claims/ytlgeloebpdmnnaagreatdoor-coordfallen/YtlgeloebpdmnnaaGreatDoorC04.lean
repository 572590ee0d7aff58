import Derived.Test.YtlgeloebpdmnnaaGreatDoorC03
import Derived.Test.YtlgeloebpdmnnaaGreatDoorC02
import Derived.Laws.AppendOwnNone
import Derived.Room.AppendFits
set_option maxHeartbeats 2000000
set_option maxRecDepth 100000
namespace Go.Proofs.YtlgeloebpdmnnaaGreatDoor
open Go.RowKit Go.Maps Tryz Sc
variable{d:Bool}{l:List Nat}{B b f g n:Nat}{w:nL}
theorem gO.alloc(h:gO w b d)(o:Obj):gO (w.alloc o) b d:=by
 have hb:=zzF w (gi b) h.c0;have e:∀i,(w.alloc o).cell? (hP b i)=w.cell? (hP b i):=λi=>sR _ _ (hP b i) hb
 refine⟨by rw[e];exact h.c0,by rw[e];exact h.c1,λc i a=>by rw[e];exact h.tab c i a,λi a=>?_,λi=>?_⟩
 .rw[e];exact h.any i a
 .rw[World.frozen?_alloc_old _ _ (hP b i)<|Nat.ne_of_lt hb];exact h.free i
theorem gO.lt(h:gO w b d):b<w.heap.size:=zzF w (gi b) h.c0
theorem gO.cZ{w':nL}(h:gO w b d)(hb:w'.heap[b]?=w.heap[b]?):gO w' b d:=by
 have e:∀i,w'.cell? (hP b i)=w.cell? (hP b i):=λi=>zze hb
 refine⟨by rw[e];exact h.c0,by rw[e];exact h.c1,λf i c=>by rw[e];exact h.tab f i c,λi c=>?_,λi=>?_⟩
 .rw[e];exact h.any i c
 .rw[zzw hb];exact h.free i
theorem WM(b g f n p:Nat)(l:List Nat)(w:nL)(m:gO w b true)(hn:l.length=n)(q:mG l)(z:n<=4398046511103)(W:cX w g f l):
  Calls prog 275 #[gx b,.slice (some<|hP g f) n p] w λe w'=>e=.returned (.int .u32 (Gs l:Nat))/\gO w' b true/\w.grownBy w' (some b):=by
 have N:=ah hn;have y:∀(j:Fn) (first p:Array Value) (w:nL),(Instr.makeFunc j first p).run prog w=.ok (.func j first p) w:=λ_ _ _ _=>rfl
 have E:=m.lt;have Y:gO (w.alloc<|.cells #[.pointer<|some ⟨b,0,none⟩] 372) b true:=m.alloc _;have U:cX (w.alloc<|.cells #[.pointer<|some ⟨b,0,none⟩] 372) g f l:=by
  by_cases r:0<l.length
  .exact(r7<|W.lt r).2 W
  .intro i hi;omega
 clear hn W m;go_enter func275,ntmps275;go_wp2_with (go_at_call 303;apply(WL b _ _ Y).mono;rintro e w' ⟨rfl,rfl⟩);have M:=ah Y;have R:=ah U;clear Y U;go_loop [5,15] (λc i=>∃k:Nat,k<=n/\i=.int .i64 k/\c=.int .u32 (rM 4294967295 (l.take k):Nat)) (λ_ i=>n-(intOf i).toNat);.exact⟨0,zzs _,rfl,rfl⟩
 .obtain⟨k,x,rfl,rfl⟩:=hrel;have B:rM 4294967295 (l.take k)<4294967296:=ET _ _ (by decide)<|q.rB k;by_cases d:k<n
  .have Kq:=R.out k (by rw[N.out];exact d);have o:=Dx q k;have⟨C,h⟩:=gb <|rM 4294967295 (l.take k);rw[<-h]at B ⊢;have H:Hid (rM 4294967295 (l.take<|k+1)=GV C (at_ l k)):=by
    show _=_;rw[tH l k<|by rw[N.out];exact d,Dw,h,GX]
   clear h;have hx:bits .xor .u8 ((C:Int)%256) (at_ l k:Int)=((C%256^^^at_ l k:Nat):Int):=by
    rw[show((C:Int)%256)=((C%256:Nat):Int) by omega];exact u8_xor_nat _ _ dp o
   have t:C%256^^^at_ l k<256:=MN _ _ dp o;obtain⟨T,a⟩:∃T,T=C%256^^^at_ l k:=⟨_,rfl⟩;rw[<-a]at hx t;have S:Hid (GV C (at_ l k)=eh 8 T^^^C/256):=by show _=_;rw[a];rfl
   clear a;have A:=M.out.tab rfl T t;have s:=tG 8 T dp;have D:bits .xor .u32 ((eh 8 T:Nat):Int) ((C:Int)/256)=((eh 8 T^^^C/256:Nat):Int):=by
    rw[show((C:Int)/256)=((C/256:Nat):Int) by omega];exact u32_xor_nat _ _ s dp
   have v:(0:Int)<=T:=dp;have F:(T:Int)<256:=dp;go_wp2;go_round;.exact⟨k+1,dp,eR,by rw[H.out,S.out]⟩
   case measure=>simp[intOf];omega
  .have ek:k=n:=dp;subst ek;have u:bits .xor .u32 IntKind.u32.max (rM 4294967295 (l.take k):Int)=((4294967295^^^rM 4294967295 (l.take k):Nat):Int):=ab_ _ B;have G:IntKind.u32.signed=false:=rfl;go_wp2;go_ret;refine⟨MQ ?_,M.out,iV _ _ _⟩;rw[zzt<|by rw[N.out];omega];rfl
theorem R_(b g f n p:Nat)(l:List Nat)(w:nL)(m:gO w b false)(Z:g≠b)(hn:l.length=n)(r:mG l)(E:n<=4398046511103)(W:cX w g f l):
  Calls prog 275 #[gx b,.slice (some<|hP g f) n p] w λe w'=>e=.returned (.int .u32 (Gs l:Nat))/\gO w' b true/\w.grownBy w' (some b):=by
 have N:=ah hn;have D:∀(o:Fn) (first p:Array Value) (w:nL),(Instr.makeFunc o first p).run prog w=.ok (.func o first p) w:=λ_ _ _ _=>rfl
 have J:=m.lt;have Y:gO (w.alloc<|.cells #[.pointer<|some ⟨b,0,none⟩] 372) b false:=m.alloc _;have U:cX (w.alloc<|.cells #[.pointer<|some ⟨b,0,none⟩] 372) g f l:=by
  by_cases s:0<l.length
  .exact(r7<|W.lt s).2 W
  .intro i hi;omega
 clear hn W m;go_enter func275,ntmps275;go_wp2_with fail;apply(R8 b ⟨w.heap.size,0,none⟩ (by simp;omega) _ dv Y).mono;rintro e v ⟨rfl,oZ,nz⟩;have y:v.cell? ⟨w.heap.size,0,none⟩=some (.pointer<|some ⟨b,0,none⟩):=by
  rw[ot nz (a:=⟨w.heap.size,0,none⟩) (by simp;omega) dv];simp
 have M:=ah oZ;have R:=ah<|Dy U nz Z;have G:=ah<|cI (iV _ _ _) nz;clear Y U oZ nz;go_wp2
 go_loop [5,15] (λc i=>∃k:Nat,k<=n/\i=.int .i64 k/\c=.int .u32 (rM 4294967295 (l.take k):Nat)) (λ_ i=>n-(intOf i).toNat);.exact⟨0,zzs _,rfl,rfl⟩
 .obtain⟨k,A,rfl,rfl⟩:=hrel;have B:rM 4294967295 (l.take k)<4294967296:=ET _ _ (by decide)<|r.rB k;by_cases j:k<n
  .have Kq:=R.out k (by rw[N.out];exact j);have q:=Dx r k;obtain⟨C,h⟩:∃C,C=rM 4294967295 (l.take k):=⟨_,rfl⟩;rw[<-h]at B ⊢
   have H:Hid (rM 4294967295 (l.take<|k+1)=GV C (at_ l k)):=by
    show _=_;rw[tH l k<|by rw[N.out];exact j,Dw,h,GX]
   clear h
   have hx:bits .xor .u8 ((C:Int)%256) (at_ l k:Int)=((C%256^^^at_ l k:Nat):Int):=by
    rw[show((C:Int)%256)=((C%256:Nat):Int) by omega];exact u8_xor_nat _ _ dp q
   have t:C%256^^^at_ l k<256:=MN _ _ dp q;obtain⟨T,d⟩:∃T,T=C%256^^^at_ l k:=⟨_,rfl⟩;rw[<-d]at hx t;have S:Hid (GV C (at_ l k)=eh 8 T^^^C/256):=by show _=_;rw[d];rfl
   clear d;have F:=M.out.tab rfl T t;have u:=tG 8 T dp;have I:bits .xor .u32 ((eh 8 T:Nat):Int) ((C:Int)/256)=((eh 8 T^^^C/256:Nat):Int):=by
    rw[show((C:Int)/256)=((C/256:Nat):Int) by omega];exact u32_xor_nat _ _ u dp
   have z:(0:Int)<=T:=dp;have K:(T:Int)<256:=dp;go_wp2;go_round;.exact⟨k+1,dp,eR,by rw[H.out,S.out]⟩
   case measure=>simp[intOf];omega
  .have ek:k=n:=dp;subst ek;have x:bits .xor .u32 IntKind.u32.max (rM 4294967295 (l.take k):Int)=((4294967295^^^rM 4294967295 (l.take k):Nat):Int):=ab_ _ B;have L:IntKind.u32.signed=false:=rfl;go_wp2;go_ret;refine⟨MQ ?_,M.out,G.out⟩;rw[zzt<|by rw[N.out];omega];rfl
theorem Sa(b g f n p:Nat)(d:Bool)(l:List Nat)(w:nL)(m:gO w b d)(Z:g≠b)(hn:l.length=n)(h:mG l)(s:n<=4398046511103)(W:cX w g f l):
  Calls prog 275 #[gx b,.slice (some<|hP g f) n p] w λe w'=>e=.returned (.int .u32 (Gs l:Nat))/\gO w' b true/\w.grownBy w' (some b):=by
 cases d with
 |true=>grind[WM]
 |false=>grind[R_]
theorem xW(b f n p k:Nat)(w:nL)(a:k<=n)(hn:n<=p)(N:p<=maxLen):
  Calls prog 316 #[.slice (some<|hP b f) n p,.int .i64 k] w λe w'=>e=.returned (.tuple #[.slice (some<|hP b f) k k,.slice (vp b f k p) (n-k)<|p-k])/\∃q,w'=w.drewN q:=by
 unfold maxLen at N;have i:(0:Int)<=k:=dp;have c:(k:Int)<=p:=dp;have d:(k:Int)<=n:=dp;by_cases h:p=k
 .subst h;obtain rfl:n=p:=dp;go_enter func316,ntmps316;go_wp2;go_quiet (fail)
  go_wp2;go_ret2;refine⟨?_,_,rfl⟩;rw[pP,Nat.sub_self];rfl
 .go_enter func316,ntmps316;go_wp2;go_quiet (fail)
  go_wp2;go_ret2;refine⟨?_,_,rfl⟩;rw[lK dp];rfl
theorem Sb(base b g k p:Nat)(d:Bool)(xs:List Nat)(w:nL)(m:gO w b d)(h:g≠b)(M:w.ownsRow base 5 1 (.slice (some<|gi g) k p) k<|bs xs)(hb:mG xs)(i:k<=4398046511103)(r:k+4<=p):
  Calls prog 222 #[gx b,.slice (some<|gi g) k p] w λe w'=>e=.returned (.slice (some<|gi g) (k+4) p) /\
   w'.ownsRow base 5 1 (.slice (some<|gi g) (k+4) p) (k+4) (bs<|xs++be 4 (Gs xs))/\(∀B,B<=b->B<=g->Below B w w'):=by
 have hlen:=Wz M;have W:=m.lt;have a:=RQ xs hb;have L:=ah hlen;clear hlen;go_enter func222,ntmps222;go_wp2_with fail;apply(Sa b g 0 k p d xs _ m h L.out hb i<|wC M).mono;rintro e j ⟨rfl,EY,qG⟩;have q:=M.kept qG (Or.inr<|by simp[Value.ownBlock,h]);go_wp2_with fail;apply(WJ base g k p xs (Gs xs) _ q r a).mono;rintro e w2 ⟨rfl,ik,fT⟩;go_wp2;go_ret;exact⟨rfl,ik,λB c f=>Oj qG fT c f dp⟩
theorem heap_drewN(w:nL)(q:Nat):(w.drewN q).heap=w.heap:=dv
theorem r_(w:nL)(q:Nat)(r:Option Nat):w.grownBy (w.drewN q) r:=⟨rfl,rfl,rfl,dv,λk _ _=>dv⟩
def pz(l:List Nat):Bool:=Gs (l.take (l.length-4))==val (l.drop (l.length-4))
def Sd(g f n:Nat)(l:List Nat):Value:=if pz l=true then .slice (some (hP g f)) (n-4) (n-4) else .slice none 0 0
theorem G5(h:pz l=true):Sd g f n l=.slice (some<|hP g f) (n-4) (n-4):=by grind[Sd]
theorem MS(h:pz l=false):Sd g f n l=.slice none 0 0:=by grind[Sd]
theorem Ku(b g f n p:Nat)(d:Bool)(l:List Nat)(w:nL)(m:gO w b d)(r:g≠b)(k:l.length=n)(hb:mG l)(hn:5<=n)(D:n<=4398046511103)(N:n<=p)(u:p<=maxLen)(W:cX w g f l):
  Calls prog 290 #[gx b,.slice (some<|hP g f) n p] w λe w'=>
   e=.returned (.tuple #[Sd g f n l,.bool<|pz l])/\gO w' b true/\w.grownBy w' (some b):=by
 have L:=ah k;have M:=ah m;have R:=ah W;have q:=u;unfold maxLen at q;clear k m W
 go_enter func290,ntmps290
 go_wp2_with fail;rw[show((n:Int)-4)=((n-4:Nat):Int) by omega];apply(xW g f n p (n-4) _ dp N u).mono;rintro e v ⟨rfl,q1,EZ⟩;have c:=ah EZ;clear EZ;have CA:vp g f (n-4) p=some ⟨g,f+(n-4),none⟩:=lK (by omega);rw[CA];have Z:n-(n-4)=4:=dp
 rw[Z];go_wp2_with fail;have o:cX v g (f+(n-4)) (l.drop<|n-4):=by
  have h:=(R.out.drewN q1).sub (n-4) 4 (by rw[L.out];omega);rw[zzt<|by rw[zzz,L.out];omega]at h;rw[c.out];exact h
 apply(R5 g (f+(n-4)) 4 (p-(n-4)) (l.drop<|n-4) _ (λx hx=>hb x<|List.mem_of_mem_drop hx) (by rw[zzz,L.out];omega) dp dp eE o).mono;rintro e w2 ⟨rfl,q2,E0⟩;have E:=ah E0;clear E0;rw[zzt<|by rw[zzz,L.out];omega];go_wp2_with fail;have B:w2.heap=w.heap:=by rw[E.out,c.out,heap_drewN,heap_drewN]
 have T:w.grownBy w2 (some b):=by rw[E.out,c.out];exact cI (r_ _ _ _)<|r_ _ _ _
 clear o CA;refine(Sa b g f (n-4) (n-4) d (l.take<|n-4) _ (M.out.cZ<|by rw[B]) r (by rw[zzm,L.out];omega) (hb.rB _) dp ?_).mono ?_
 .intro i hi;rw[zzm,L.out]at hi;have h:=R.out i (by rw[L.out];omega);rw[show at_ (l.take<|n-4) i=at_ l i by simp[at_,show i<n-4 by omega]];rw[zze (w:=w) (w':=w2) (a:=⟨g,f+i,none⟩)<|by rw[B]];exact h
 rintro e y ⟨rfl,Kv,pL⟩;have j:=ah Kv;have H:=ah<|cI T pL;clear Kv pL T B;by_cases s:Gs (l.take<|n-4)=val (l.drop<|n-4)
 .have Ai:pz l=true:=by unfold pz;rw[L.out,s];simp
  have t:((val (l.drop<|n-4):Int) != (Gs (l.take<|n-4):Int))=false:=by rw[s];simp
  have S:=ah Ai;clear s Ai;go_wp2;go_ret2;exact⟨by rw[G5 S.out,S.out];rfl,j.out,H.out⟩
 .have Ai:pz l=false:=by unfold pz;rw[L.out];simp[s]
  have t:((val (l.drop<|n-4):Int) != (Gs (l.take<|n-4):Int))=true:=ef
  have S:=ah Ai;clear s Ai;go_wp2;go_ret2;exact⟨by rw[MS S.out,S.out];rfl,j.out,H.out⟩
theorem val_one(l:List Nat)(h:0<l.length):val (l.take 1)=at_ l 0:=by
 cases l with
 |nil=>simp at h
 |cons a l=>simp[val,at_]
theorem cX.drop(h:cX w b f l)(o:Nat)(c:o<=l.length):cX w b (f+o) (l.drop o):=λi a=>by
 rw[zzz]at a;have:=h (o+i) dp;rw[show f+o+i=f+(o+i) by omega,this,E1]
theorem below_drewN{a:nL}(h:Below B a w)(q:Nat):Below B a (w.drewN q):=⟨h.os,h.tape,h.output,h.size,h.block⟩
theorem DG(w:nL):gO (w.alloc<|.cells zeroCells315 315) w.heap.size false:=by
 have e:∀i,(w.alloc<|.cells zeroCells315 315).cell? ⟨nF w,i,none⟩=zeroCells315[i]?:=λi=>World.cell?_alloc_new w _ _ i
 have s:Tryz.zeroCells315.size=259:=eu;refine⟨?_,?_,λh=>absurd h du,λi a=>?_,λi=>?_⟩
 .rw[e];kernel_rfl
 .rw[e];kernel_rfl
 .rw[e];exact⟨_,Cq<|by rw[s];omega⟩
 .exact World.frozen?_alloc_new w _ _ i
theorem tM{b:nL}{r:Option Nat}(h:w.grownBy b r)(c:B<w.heap.size)(d:r≠some B)(i:Nat):b.cell? (hP B i)=w.cell? (hP B i):=
 zze (h.block B c λe=>d e.symm)
section
open Go.Extern Go.Extern.Stop Go.Stop
theorem Sj(w:nL):
  Calls prog 35 #[.nilIface] w λe w'=>e=.returned (.int .i64 0)/\Below w.heap.size w w':=by
 go_enter func35,ntmps35;go_wp2;go_ret;exact⟨rfl,(zzD _ _).alloc (zzc _) _⟩
theorem Sk(n:Int)(w:nL)(g:Met w):
  Calls prog 35 #[.iface 27<|.int .i64 n] w λe w'=>e=.returned (.int .i64 n)/\Below w.heap.size w w':=by
 have W:=g.lt;have G:Hid (Met<|w.alloc<|.cells #[.int .i64 0] 27):=by
  show Met _;unfold Met;rw[sR _ _ ⟨0,0,none⟩ W];exact g
 clear g;go_enter func35,ntmps35;go_wp2_with fail;apply(aar n ⟨w.heap.size,0,none⟩ (.int .i64 0) _ G.out dv dv).mono;rintro e a ⟨rfl,mR⟩;have t:Below w.heap.size w a:=by
  rw[mR];exact((((((zzD _ _).alloc (zzc _) _).alloc dv _).alloc ef _).alloc ef _).alloc ef _).setCell (zzc _) _
 have kn:a.cell? ⟨w.heap.size,0,none⟩=some (.int .i64 n):=by
  rw[mR];refine World.cell?_setCell_same (u:=.int .i64 0) _ _ _ ?_;rw[sR _ _ ⟨w.heap.size,0,none⟩ (by simp;omega),sR _ _ ⟨w.heap.size,0,none⟩ (by simp;omega),sR _ _ ⟨w.heap.size,0,none⟩ (by simp;omega),sR _ _ ⟨w.heap.size,0,none⟩ dv];simp
 clear mR;go_wp2_with (go_at_call 95;apply(MV n _).mono;rintro e w' ⟨rfl,rfl⟩);go_ret;exact⟨rfl,t⟩
end
variable{a:Act}{ops:Array Oper}{Q:Exit->Act->nL->Prop}{S l:List Nat}{rest:List Oper}{xs:List Value}{B D N b bD bN base c f g h i k len lp n p q:Nat}{o:Oper}{t:TypeId}{pv rv s sv v:Value}{d:aj}{w w':nL}
def Src(w:nL)(v:Value)(l:List Nat):Prop :=
 (v=.slice none 0 0/\l=[])\/∃b f p,v=.slice (some (hP b f)) l.length p/\cX w b f l/\b<w.heap.size/\l.length<=p/\p<=maxLen
theorem Bb(h:Below w.heap.size w w')(r:Option Nat):w.grownBy w' r:=⟨h.os,h.tape,h.output,h.size,λk a _=>h.block k a⟩
def bytesOf(s:nS):List Nat:=s.data.toList.map UInt8.toNat
theorem iZ(s:nS):(bytesOf s).length=s.size:=by unfold bytesOf;rw[zzn,Array.length_toList];rfl
theorem zi(s:nS):mG (bytesOf s):=by
 intro x hx;unfold bytesOf at hx;obtain⟨y,_,rfl⟩:=zzq.1 hx;exact y.toNat_lt
def G_(s:nS)(c:Nat):Obj:=.cells (bytesRow s c) 5 ((bytesRow s c).size,(bytesRow s c).size+1)
theorem DH(w:nL)(s:nS):(convert 9 217<|.string s).run prog w=.ok (.slice (some<|gi w.heap.size) s.size<|grownCap w s.size 0 5) (w.drew.alloc<|G_ s<|grownCap w s.size 0 5):=
 run_bytes_of_string w _ _ _ s underlying9 underlying217 underlying5
theorem MW(w:nL)(s:nS)(c:Nat):cX (w.drew.alloc<|G_ s c) w.heap.size 0 (bytesOf s):=λi h=>by
 have a:(w.drew.alloc<|G_ s c).cell? ⟨nF w,0+i,none⟩=(bytesRow s c)[0+i]?:=by
  exact cell_of_row (w.drew.alloc<|G_ s c) (nF w) (0+i) (bytesRow s c) 5 ((bytesRow s c).size,(bytesRow s c).size+1)<|oz w.drew _
 rw[iZ]at h;have V:=h;rw[a,Nat.zero_add,bytesRow_at s c i V];simp[at_,bytesOf,Cq V]
theorem WR(w:nL)(s:nS)(h:s.size<=maxLen):Src (w.drew.alloc<|G_ s<|grownCap w s.size 0 5) (.slice (some<|gi w.heap.size) s.size<|grownCap w s.size 0 5) (bytesOf s):=
 Or.inr ⟨nF w,0,_,by rw[iZ],MW w s _,dv,by rw[iZ];exact grownCap_ge _ _ _ _,grownCap_le_maxLen _ _ _ _ h⟩
def str(l:List Nat):nS:=(l.map λx:Nat=>(x:Int)).foldl (λr n=>r.push (UInt8.ofNat n.toNat)) gW
theorem tN(w:nL)(g f n p:Nat)(l:List Nat)(b:l.length=n)(W:cX w g f l):(convert 217 9<|.slice (some<|hP g f) n p).run prog w=.ok (.string<|str l) w:=by
 rw[run_convert_bytes_string w _ _ _ _ _ _ underlying217 underlying5 underlying9];refine run_bytesToString w _ _ _ _ ?_;have h:=run_loadCells_list (P:=prog) w (hP g f) (bs l) λj v a=>?_
 .rw[Kl,b]at h;rw[h];simp[bs]
 .have G':j<l.length:=by
   have:=(zzd.1 a).1;rwa [Kl]at this
  rw[Zk l j G']at a;cases a;simpa [Addr.add_lit]using W j G'
def d_(x k:Nat)(l:List Nat):List Nat:=be 2 l.length++be 8 x++[k]++l
def aB(x k:Nat)(l:List Nat):List Nat:=d_ x k l++be 4 (Gs (d_ x k l))
theorem pd(x k:Nat)(l:List Nat):(d_ x k l).length=11+l.length:=by simp[d_,ew];omega
theorem gu(x k:Nat)(l:List Nat):(aB x k l).length=15+l.length:=by simp[aB,pd,ew];omega
theorem sw(x k:Nat)(l:List Nat)(h:k<256)(a:mG l):mG (d_ x k l):=by
 intro b hb;simp only[d_,zzo,List.mem_singleton]at hb;obtain((hb|hb)|rfl)|hb:=hb
 .exact za _ _ _ hb
 .exact za _ _ _ hb
 .exact h
 .exact a _ hb
theorem qJ(x k:Nat)(l:List Nat)(h:k<256)(a:mG l):mG (aB x k l):=by
 intro b hb;simp only[aB,zzo]at hb;obtain hb|hb:=hb
 .exact sw _ _ _ h a _ hb
 .exact za _ _ _ hb
theorem Ha(s:nS):Lib.strCells s=bs (bytesOf s):=by simp[Lib.strCells,bs,bytesOf]
abbrev E3(x k:Int)(s:nS):Obj:=.cells #[.int .u64 x,.int .u8 k,.string s] 89
theorem Hb(D:o.guard=none)(s x:Operand)
  (b:o.op=.call {callee:=.builtin .append,args:=#[s,x],argTypes:=#[217,9]})
  (base g n p:Nat) (xs:List Nat) (t:nS) (d:a.eval s=.slice (some<|gi g) n p) (M:w.ownsRow base 5 1 (.slice (some<|gi g) n p) n<|bs xs) (hx:a.eval x=.string t) (c:0<p) (hn:n+t.size<=p)
  (h:∀w',w'.ownsRow base 5 1 (.slice (some<|gi g) (n+t.size) p) (n+t.size) (bs<|xs++bytesOf t)->w.grownBy w' (some g)->wpList prog ops Q rest (a.put o.dst<|.slice (some<|gi g) (n+t.size) p) w'):wpList prog ops Q (o::rest) a w:=by
 have⟨f,i,j,e,k⟩:=tO zd;apply Lib.wpList_append_fits_string _ D s x 217 9 b base 5 f underlying217 underlying9 i e (some (gi g)) n p (bs xs) d M t hx c hn;intro w' y V;refine h w' ?_ V;rw[RR,<-Ha];exact y
theorem KE(x k:Int)(s:nS)(w:nL)(a:255<s.size):
  Calls prog 155 #[.agg #[.int .u64 x,.int .u8 k,.string s]] w λe w'=>e=.returned (.tuple #[.slice none 0 0,.iface 27<|.int .i64 1])/\Below w.heap.size w w':=by
 have h:(255:Int)<(s.size:Int):=dp;go_enter func155,ntmps155;go_wp2;go_ret2;exact⟨rfl,(zzD _ _).alloc (zzc _) _⟩
theorem KF{a:nL}{o:Obj}{r:Option Nat}(h:(w.alloc o).grownBy a r)(b:r≠some w.heap.size)(i:Nat):a.cell? (hP w.heap.size i)=(w.alloc o).cell? (hP w.heap.size i):=
 tM h dv b i
theorem WT{a:nL}{o:Obj}(h:a.ownsRow base 5 1 (.slice (some<|gi<|(w.alloc o).heap.size) n p) n xs):a.ownsRow base 5 1 (.slice (some<|gi<|w.heap.size+1) n p) n xs:=by simp_all
theorem zj(x k:Nat)(s:nS)(w:nL)(N:s.size<=255)(v:k<256)(hx:x<2^64):
  Calls prog 155 #[.agg #[.int .u64 x,.int .u8 k,.string s]] w λe w'=>∃g,e=.returned (.tuple #[.slice (some<|gi g) (11+s.size+4)<|15+s.size,.nilIface])/\w.heap.size<=g/\w'.ownsRow (w.heap.size+1) 5 1 (.slice (some<|gi g) (11+s.size+4)<|15+s.size) (11+s.size+4) (bs<|aB x k<|bytesOf s)/\Below w.heap.size w w':=by
 have M:¬(255:Int)<(s.size:Int):=dp;have X:=ah hx;clear hx;obtain⟨B,u,y,z,A⟩:=tO zd
 go_enter func155,ntmps155
 go_wp2_with (at_make;refine wpList_make_own _ rfl _ _ 217 rfl (w.heap.size+1) 5 B (.int .u8 0) 1 underlying217 u y z .i64 .i64 _ (15+s.size) rfl rfl dp (by rw[A];omega) eE dv ?_;intro j f G;have kn:=KF G dv;have b:=WT f;clear f);have c:(w.alloc<|E3 x k s).grownBy j none:=eS
 have E:=(r9 (xs:=[]) b).2;have C:Hid (Below w.heap.size w j):=((zzD _ _).alloc (zzc _) _).grown c dv (λq h=>by cases h);clear G c;apply(WE (w.heap.size+1) _ 0 (15+s.size) [] s.size _ b dp dp).mono;rintro e w2 ⟨rfl,ik,fT⟩;have iy:∀i,w2.cell? ⟨w.heap.size,i,none⟩=(w.alloc<|E3 x k s).cell? ⟨w.heap.size,i,none⟩:=λi=>(tM fT (by omega) dv i).trans<|kn i
 have Q:Hid (Below w.heap.size w w2):=C.out.grown fT dp (λq h=>by cases h;omega);have F:=(r9 ik).2;clear kn b fT;go_wp2_with fail;apply(WH (w.heap.size+1) _ (0+2) (15+s.size) _ x _ ik dp X.out).mono;rintro e l ⟨rfl,wj,pL⟩;have mH:∀i,l.cell? ⟨w.heap.size,i,none⟩=(w.alloc<|E3 x k s).cell? ⟨w.heap.size,i,none⟩:=λi=>(tM pL (by omega) dv i).trans<|iy i
 have I:Hid (Below w.heap.size w l):=Q.out.grown pL dp (λq h=>by cases h;omega);have J:=(r9 wj).2;clear iy ik pL;go_wp2_with fail;apply(aam (w.heap.size+1) _ (0+2+8) (15+s.size) _ k _ wj dp dp).mono;rintro e m ⟨rfl,oX,oY⟩;have CA:∀i,m.cell? ⟨w.heap.size,i,none⟩=(w.alloc<|E3 x k s).cell? ⟨w.heap.size,i,none⟩:=λi=>(tM oY dp dv i).trans<|mH i
 have H:Hid (Below w.heap.size w m):=I.out.grown oY dp (λq h=>by cases h;omega);have K:=(r9 oX).2;clear mH wj oY;go_wp2_with (at_builtin;apply Hb rfl _ _ rfl (w.heap.size+1) _ (0+2+8+1) (15+s.size) _ s rfl oX rfl dp dp;intro a t O);have n:Hid (Below w.heap.size w a):=H.out.grown O dp (λq h=>by cases h;omega);have L:=(r9 t).2;have d:a.ownsRow (w.heap.size+1) 5 1 (.slice (some ⟨w.heap.size+1,0,none⟩) (11+s.size)<|15+s.size) (11+s.size) (bs<|d_ x k<|bytesOf s):=by
  have e:((([]++be 2 s.size)++be 8 x)++be 1 k)++bytesOf s=d_ x k (bytesOf s):=by
   have r:be 1 k=[k]:=by simp[be,digit,List.range_succ];omega
   unfold d_;rw[iZ,List.nil_append,r]
  rw[e]at t;exact t
 clear CA oX O t;apply(Sb (w.heap.size+1) a.heap.size (w.heap.size+1) (11+s.size) (15+s.size) false (d_ x k<|bytesOf s) _ (DG a) dp (d.alloc _) (sw x k (bytesOf s) v<|zi s) dp dp).mono;rintro e D ⟨rfl,ho6,CD⟩;have o:Hid (Below w.heap.size w D):=(n.out.alloc dp _).trans (CD w.heap.size dp dp);have p:=ah ho6;clear ho6 CD d;go_wp2;go_ret2;exact⟨w.heap.size+1,rfl,dp,p.out,o.out⟩
theorem pQ(h:d.writes.2≠0):d.sync=d.writes:=by grind[aj.sync]
theorem Aj(h:d.writes.2=0):d.sync=({d.writes.1 with ak:=d.writes.1.pending.foldl dD d.writes.1.ak,pending:=[]},0):=by grind[aj.sync]
theorem Be{l:List km}(h:w.ownsRow B 200 4 (.slice (some<|gi g) n p) n<|opsV l)(k:Nat)(o:km)(d:l[k]?=some o):
  w.cell? (hP g<|k*4)=some (.int .i64 (o.kind:Int))/\w.cell? (hP g<|k*4+1)=some (.string o.name)/\w.cell? (hP g<|k*4+2)=some (.string o.to)/\w.cell? (hP g<|k*4+3)=some (.string o.data):=by
 have y:∀(l:List km) (k j:Nat),j<4->(opsV l)[k*4+j]?=(l[k]?).bind (λo=>(jk o)[j]?):=by
  intro l;induction l with
  |nil=>grind[opsV]
  |cons x l ih=>
   intro k j a;have e:opsV (x::l)=jk x++opsV l:=rfl;rw[e];cases k with
   |zero=>grind[jk]
   |succ k=>
    rw[Hn<|by simp[jk];omega];have:(k+1)*4+j-(jk x).length=k*4+j:=by simp[jk];omega
    rw[this,ih k j a];simp
 have c:∀j v,j<4->(jk o)[j]?=some v->w.cell? (hP g (k*4+j))=some v:=by
  intro j v a f;have b:(opsV l)[k*4+j]?=some v:=by grind
  have:=h.cells rfl (k*4+j) v b;simpa [Addr.add_lit]using this
 exact⟨c 0 _ dp rfl,c 1 _ dp rfl,c 2 _ dp rfl,c 3 _ dp rfl⟩
theorem Bf:∀(l:List km) (m:aG) (k:Nat),m.Le (k*c)->(∀o∈l,o.Ok c)->(l.foldl dD m).Le ((k+l.length)*c)
 |[],m,k,h,_=>by simpa using h
 |o::l,m,k,h,ho=>by
  have a:=Ah h (ho o dv);have b:(dD m o).Le ((k+1)*c):=by rw[Nat.add_mul];simpa using a
  have d:=Bf l (dD m o) (k+1) b (λx hx=>ho x<|by simp[hx]);rw[List.foldl_cons,zzr,show k+(l.length+1)=k+1+l.length by omega];exact d
theorem OE(B p D N n f s g len v:Nat)(d:aj)(w:nL)(h:aC w B p D N (.slice (some<|gi g) len v) d n f s)(hlen:d.pending.length=len):
  Calls prog 414 #[gx p] w λe w'=>e=.returned (bB d.sync.2)/\(∃V sj,aC w' B p D N V d.sync.1 n sj s/\bU w.heap.size (.slice (some<|gi g) len v) V)/\Fr [p,D] w w':=by
 have M:=ah h;have L:=ah hlen;clear h hlen
 go_enter func414,ntmps414;go_wp2_with fail;apply(xV B p D N n f s _ d w M.out).mono;rintro e J ⟨rfl,J6,cY⟩;have C:=ah J6;have I:Hid (Fr [p,D] w J):=cY.mono (by intro k _ y;simp at y;simp[y]);have Y:=af J6.blk 2;simp at Y;clear J6 cY;obtain j|j|j:=qH d
 .rw[j,aV du];go_wp2;go_ret;rw[pQ<|by rw[j];decide,j];exact⟨rfl,⟨_,f,C.out,bU.refl _ _⟩,I.out⟩
 .rw[j,aV du];go_wp2;go_ret;rw[pQ<|by rw[j];decide,j];exact⟨rfl,⟨_,f,C.out,bU.refl _ _⟩,I.out⟩
 .rw[j,aT];have G:d.writes.1.pending=d.pending:=by rw[iX]
  go_wp2;go_loopw [16] (λi wr=>∃k:Nat,k<=len/\i=.int .i64 k/\FileMap wr D (f+k) ((d.writes.1.pending.take k).foldl dD d.writes.1.ak)/\Fr [D] J wr) (λi _=>len-(intOf i).toNat);.exact⟨0,zzs _,rfl,C.out.lB,Fr.refl _ _⟩
  .obtain⟨k,y,rfl,F,hf⟩:=hrel;by_cases S:k<len
   .have o_:k<d.writes.1.pending.length:=by rw[G,L.out];exact S
    have⟨o,l⟩:∃o,d.writes.1.pending[k]?=some o:=⟨_,zzg o_⟩;have Z:=C.out.ops o<|zzh l;have m:=C.out.pen;rw[G,L.out]at m;rw[<-G]at m
    have W:=ar m hf (λq b=>by
     simp;intro e;subst e;have⟨c,T⟩:=aL m b;exact C.out.lB.cT T rfl)
    have⟨c0,c1,c2,c3⟩:=Be W k o l;have E:=af ((hf.block p (zza.1 C.out.blk).1<|by simp;exact λe=>C.out.lB.cT C.out.blk e.symm).trans C.out.blk) 0;simp at E;have X:=zzF wr ⟨p,0,none⟩ E;have GZ:∀A,(wr.alloc A).cell? ⟨p,0,none⟩=some (.map<|some D):=λA=>(zze (a:=⟨p,0,none⟩)<|zzf wr A p X).trans E
    have u:=ah F;have H:=ah hf;have Q:=ah Z;have K:=ah l;have aa:f+k<n:=by have:=C.out.hD;omega
    have hn:=C.out.hn
    have O:Hid (((d.writes.1.pending.take k).foldl dD d.writes.1.ak).Le 4200000000000):=by
     intro x t z;have:=Bf (d.writes.1.pending.take k) d.writes.1.ak f C.out.Ou (λo l=>C.out.ops o<|FQ l) x t z;rw[zzm]at this;have a8:min k d.writes.1.pending.length<=k:=Nat.min_le_left _ _;have h6:(f+min k d.writes.1.pending.length)*4096<=n*4096:=Nat.mul_le_mul_right _ dp;omega
    clear F hf Z l W m G;have i0:(0:Int)<=k:=dp;have i1:(k:Int)<len:=dp;go_wp2;go_region_with (first|(go_at_call 147;apply(EU D (f+k) 4096 _ o _ (u.out.new<|(((fU wr).alloc _).drew)) eE Q.out dp O.out).mono;rintro e w2 ⟨rfl,CT,fT⟩))
    all_goals (
     have pL:=H.out.trans<|(((Fr.refl [D] wr).alloc _).drew).trans<|Fr.bI fT;clear fT;go_wp2
     go_roundw;case rel=>
      refine⟨k+1,dp,eR,?_,pL⟩;rw[vV,K.out]
      simpa [List.foldl_append,Nat.add_assoc]using CT
     .simp[intOf];omega)
   .obtain rfl:k=len:=dp;have hp:=(hf.block p (zza.1 C.out.blk).1<|by simp;exact λe=>C.out.lB.cT C.out.blk e.symm).trans C.out.blk;have a1:=af hp 2;have a':=aq hp 2;simp at a1;have P:=ah hp;have u:=ah F;have H:=ah hf;clear F hf hp;go_wp2;go_ret;have z:d.writes.1.pending.take k=d.writes.1.pending:=zzt (by rw[G,L.out];exact zzc _);have F:=u.out;rw[z]at F;rw[Aj j];have r:Fr [p] wr (wr.setCell ⟨p,2,none⟩<|.slice none 0 0):=Fr.cG (by simp) 2 _;have ab:=r.size;have a7:=H.out.size;have U:∀q∈[p],∀t,wr.heap[q]?≠some (gN t):=by
     intro q b t;simp at b;subst b;rw[P.out];intro e;cases e
    have R:=C.out.now.fr H.out (by simp;exact λe=>C.out.ne e.symm) (by intro q b t e;simp at b;subst b;exact C.out.lB.cT e rfl);refine⟨rfl,⟨.slice none 0 0,f+k,?_,bU.nil _ _⟩,I.out.trans<|(H.out.mono<|by intro q _ b;simp at b;simp[b]).trans<|r.mono<|by intro q _ b;simp at b;simp[b]⟩;have hD:=C.out.hD;rw[G,L.out]at hD;refine {blk:=?_,base:=⟨C.out.base.1,C.out.base.2.1,C.out.base.2.2.1,by have:=C.out.base.2.2.2;omega⟩,ne:=C.out.ne,lB:=F.fr r (by simp;exact F.cT P.out) U,now:=R.fr r (by simp;exact R.cT P.out) U,pen:=zzu _ _ _ _,hD:=by simpa using hD,hN:=C.out.hN,hn:=C.out.hn,Ou:=?_,Ov:=C.out.Ov,ops:=dv}
    .have:=aF P.out 2<|.slice none 0 0;simpa using this
    .have:=Bf d.writes.1.pending d.writes.1.ak f C.out.Ou C.out.ops;rw[G,L.out]at this;simp only;rw[G];exact this
theorem Sq(B p D N n b f:Nat)(d:aj)(w:nL)(h:aC w B p D N (.slice none 0 0) d n b f)(hlen:d.pending=[]):
  Calls prog 414 #[gx p] w λe w'=>e=.returned (bB d.sync.2)/\(∃V s,aC w' B p D N V d.sync.1 n s f/\bU w.heap.size (.slice none 0 0) V)/\Fr [p,D] w w':=by
 have I:=ah h;have H:=ah hlen;clear h hlen
 go_enter func414,ntmps414;go_wp2_with fail;apply(xV B p D N n b f _ d w I.out).mono;rintro e c ⟨rfl,J6,cY⟩;have C:=ah J6;have L:Hid (Fr [p,D] w c):=cY.mono (by intro k _ i;simp at i;simp[i]);have l:=af J6.blk 2;have m:=aq J6.blk 2;simp at l;clear J6 cY;obtain a|a|a:=qH d
 .rw[a,aV du];go_wp2;go_ret;rw[pQ<|by rw[a];decide,a];exact⟨rfl,⟨_,b,C.out,bU.refl _ _⟩,L.out⟩
 .rw[a,aV du];go_wp2;go_ret;rw[pQ<|by rw[a];decide,a];exact⟨rfl,⟨_,b,C.out,bU.refl _ _⟩,L.out⟩
 .rw[a,aT];have G:d.writes.1.pending=[]:=by rw[iX];exact H.out
  go_wp2;apply Bn 1;rw[wk];go_wp2;go_ret;rw[Aj a];have g:Fr [p] c (c.setCell ⟨p,2,none⟩<|.slice none 0 0):=Fr.cG (by simp) 2 _;refine⟨rfl,⟨.slice none 0 0,b,?_,bU.nil _ _⟩,L.out.trans<|g.mono<|by intro q _ j;simp at j;simp[j]⟩;have hb:(c.setCell (hP p 2)<|.slice none 0 0).heap[p]?=some (lH D N (.slice none 0 0) d.writes.1.left d.writes.1.full d.writes.1.down):=by simpa using aF C.out.blk 2<|.slice none 0 0
  have:=C.out.fL g d.writes.1.left d.writes.1.full d.writes.1.down hb;simp only[G,List.foldl_nil];rw[<-G];exact this
theorem sr(B p D N n c a:Nat)(pv:Value)(d:aj)(w:nL)(h:aC w B p D N pv d n c a):
  Calls prog 414 #[gx p] w λe w'=>e=.returned (bB d.sync.2)/\(∃V j,aC w' B p D N V d.sync.1 n j a/\bU w.heap.size pv V)/\Fr [p,D] w w':=by
 rcases h.pen.2 with⟨b,i⟩|⟨g,f,r,b,_⟩
 .grind [Sq]
 .grind [OE]
def ffV(g f:Nat)(l:List Nat):Value:=if pA l=true then .slice (some (hP g f)) (15+gX l) (15+gX l) else .slice none 0 0
theorem MZ(h:pA l=true):ffV g f l=.slice (some<|hP g f) (15+gX l) (15+gX l):=by grind[ffV]
theorem KI(h:pA l=false):ffV g f l=.slice none 0 0:=by grind[ffV]
theorem mS(o:Option Addr)(n p:Nat)(w:nL)(hn:n<15):
  Calls prog 289 #[.slice o n p] w λe w'=>e=.returned (.tuple #[.slice none 0 0,.bool false])/\w'=w:=by
 have h:(n:Int)<15:=dp;go_enter func289,ntmps289;go_wp2;go_ret2;exact⟨rfl,rfl⟩
theorem zQ(g f n p:Nat)(l:List Nat)(w:nL)(h:l.length=n)(hb:mG l)(hn:15<=n)(B:n<=4398046511103)(N:n<=p)(u:p<=maxLen)(W:cX w g f l):
  Calls prog 289 #[.slice (some<|hP g f) n p] w λe w'=>e=.returned (.tuple #[ffV g f l,.bool<|pA l])/\∃q,w'=w.drewN q:=by
 have L:=ah h;have R:=ah W;have b:¬(n:Int)<15:=dp;clear h W;have hf:=WV hb;go_enter func289,ntmps289;go_wp2_with fail;apply(G3 g f n p l _ hb L.out dp N u R.out).mono;rintro e c ⟨rfl,q1,EZ⟩;have s:=ah EZ;clear EZ;rw[show val (l.take 2)=gX l from rfl];by_cases j:gX l<=255
 .by_cases hcut:15+gX l<=n
  .have bZ:pA l=true:=Hc (by rw[L.out];omega) j (by rw[L.out];exact hcut);have O:=ah bZ;clear bZ;have k:¬(255:Int)<(gX l:Int):=dp
   have a:¬(n:Int)<15+(gX l:Int):=dp;go_wp2_with fail;rw[show((15:Int)+(gX l:Int))=((15+gX l:Nat):Int) by omega];apply(xW g f n p (15+gX l) _ dp N u).mono;rintro e w2 ⟨rfl,q2,E0⟩;have E:=ah E0;clear E0;go_wp2;go_ret2;exact⟨by rw[MZ O.out,O.out];rfl,q1+q2,by rw[E.out,s.out,World.drewN_drewN]⟩
  .have O:Hid (pA l=false):=Hd (by rw[L.out];exact hcut);have k:¬(255:Int)<(gX l:Int):=dp
   have a:(n:Int)<15+(gX l:Int):=dp;go_wp2;go_ret2;exact⟨by rw[KI O.out,O.out];rfl,q1,s.out⟩
 .have O:=ah<|Ss j;have k:(255:Int)<(gX l:Int):=dp
  go_wp2;go_ret2;exact⟨by rw[KI O.out,O.out];rfl,q1,s.out⟩
theorem at_one(l:List Nat)(i:Nat)(h:i<l.length):val ((l.drop i).take 1)=at_ l i:=by grind[val_one,E1]
theorem E4{w2:nL}(h:Below w.heap.size w w2)(a b c:Value):
  Below w.heap.size w (((w2.setCell (gi w.heap.size) a).setCell (hP w.heap.size 1) b).setCell (hP w.heap.size 2) c):=
 ((h.setCell (zzc _) _).setCell (zzc _) _).setCell (zzc _) _
theorem Bh(g f p:Nat)(l:List Nat)(w:nL)(c:l.length=11+p)(hp:p<=255)(hb:mG l)(b:cX w g f l):
  Calls prog 291 #[.slice (some<|hP g f) (11+p)<|11+p] w λe w'=>e=.returned (.agg #[.int .u64 (val ((l.drop 2).take 8):Nat),.int .u8 (at_ l 10:Nat),.string<|str<|l.drop 11])/\Below w.heap.size w w':=by
 have L:Hid (l.length=11+p):=c;have m:=b.lt (by omega);have R:Hid (cX (w.alloc<|E3 0 0 ByteArray.empty) g f l):=(r7 m).2 b;clear c b;have q:vp g f 2 (11+p)=some ⟨g,f+2,none⟩:=lK (by omega);have r:vp g (f+2) 8 (11+p-2)=some ⟨g,f+2+8,none⟩:=lK dp;go_enter func291,ntmps291;go_wp2_with fail;apply(G3 g f (11+p) (11+p) l _ hb L.out dp dp eE R.out).mono;rintro e d ⟨rfl,q1,EZ⟩;have s:Hid (d=(w.alloc<|E3 0 0 ByteArray.empty).drewN q1):=EZ;have W:Hid (cX d g f l):=by rw[EZ];exact R.out.drewN q1
 clear EZ R;rw[q];go_wp2_with fail;refine(G4 g (f+2) (11+p-2) (11+p-2) (l.drop 2) _ (hb.drop 2) (by rw[zzz,L.out]) dp dp eE<|W.out.drop 2<|by rw[L.out];omega).mono ?_;rintro e w2 ⟨rfl,q2,E0⟩;have E:Hid (w2=(w.alloc<|E3 0 0 ByteArray.empty).drewN (q1+q2)):=by show w2=_;rw[E0,s.out,World.drewN_drewN]
 have M:Hid (cX w2 g f l):=by rw[E0];exact W.out.drewN q2
 clear E0 W s;rw[r];go_wp2_with fail;apply(MR g (f+2+8) (11+p-2-8) (11+p-2-8) (l.drop 10) _ (hb.drop 10) (by rw[zzz,L.out];omega) dp dp eE<|M.out.drop 10<|by rw[L.out];omega).mono;rintro e a ⟨rfl,q3,aau⟩;have H:Hid (a=(w.alloc<|E3 0 0 ByteArray.empty).drewN (q1+q2+q3)):=by show a=_;rw[aau,E.out,World.drewN_drewN]
 have j:Hid (cX a g f l):=by rw[aau];exact M.out.drewN q3
 clear aau M E;rw[at_one l 10 (by rw[L.out];omega)];have X:Below w.heap.size w a:=by rw[H.out];exact below_drewN ((zzD _ _).alloc (zzc _) _) _
 have I:Hid (Below w.heap.size w a):=X;clear X;have mH:∀i,a.cell? ⟨w.heap.size,i,none⟩=(w.alloc<|E3 0 0 ByteArray.empty).cell? ⟨w.heap.size,i,none⟩:=λi=>by rw[H.out];simp
 have u:∀i,a.frozen? ⟨w.heap.size,i,none⟩=false:=λi=>by rw[H.out];simp
 have⟨o,h,t⟩:∃o,vp g (f+2+8) 1 (11+p-2-8)=o/\(convert 217 9<|.slice o (11+p-2-8-1)<|11+p-2-8-1).run prog a=.ok (.string<|str<|l.drop 11) a:=by
  by_cases k:p=0
  .subst k;refine⟨_,pP _ _ _,?_⟩;exact tN a g (f+2+8) 0 0 (l.drop 11) (by rw[zzz,L.out]) λi n=>by rw[zzz,L.out]at n;omega
  .refine⟨_,lK dp,?_⟩;exact tN a g (f+2+8+1) _ _ (l.drop 11) (by rw[zzz,L.out];omega)<|j.out.drop 11<|by rw[L.out];omega
 rw[h];clear h;go_wp2;exact zA (by simp[results,results291,go_sem,mH]) rfl ⟨rfl,E4 I.out _ _ _⟩
def dQ(r:Rec):List Value:=[.int .u64 (r.cW:Int),.int .u8 (r.kind:Int),.string (str r.pay)]
def cM(rs:List Rec):List Value:=rs.flatMap dQ
theorem Bi(rs:List Rec)(r:Rec):cM (rs++[r])=cM rs++dQ r:=by simp[cM]
theorem tQ(rs:List Rec):(cM rs).length=rs.length*3:=by
 induction rs with
 |nil=>rfl
 |cons r rs ih=>grind[cM,dQ]
theorem Ak:(Tryz.prog.info? 89).map (λi=>(i.zero,i.size,i.bytes))=some (some<|.agg #[.int .u64 0,.int .u8 0,.string gW],3,32):=eu
theorem KJ(D:o.guard=none)(s x:Operand)
  (d:o.op=.call {callee:=.builtin .append,args:=#[s,x],argTypes:=#[35,35]})
  (base:Nat) (v:Value) (n:Nat) (rs:List Rec) (r:Rec) (b:Nat) (e:a.eval s=v) (M:w.ownsRow base 89 3 v n<|cM rs) (hx:a.eval x=.slice (some<|gi b) 1 1)
  (l:w.cell? (gi b)=some (.int .u64 (r.cW:Int))) (kn:w.cell? (hP b 1)=some (.int .u8 (r.kind:Int))) (iy:w.cell? (hP b 2)=some (.string<|str r.pay)) (hn:n<=4398046511103) (B:base<=w.heap.size)
  (h:∀c w',w'.ownsRow base 89 3 c (n+1) (cM<|rs++[r])->w.grownBy w' v.ownBlock->wpList prog ops Q rest (a.put o.dst c) w'):wpList prog ops Q (o::rest) a w:=by
 have⟨k,i,f,g,j⟩:=tO Ak;refine wpList_append_own _ D s x 35 d base 89 k _ 3 32 underlying35 i f g j rfl du v n (cM rs) e M (gi b) 1 1 (dQ r) hx rfl ?_ ?_ eE dp B ?_
 .intro jj u fK;match jj,fK with
  |0,fK=>simp[dQ]at fK;subst fK;simpa [Addr.add]using l
  |1,fK=>simp[dQ]at fK;subst fK;simpa [Addr.add]using kn
  |2,fK=>simp[dQ]at fK;subst fK;simpa [Addr.add]using iy
 .intro u hu;simp[dQ]at hu;obtain rfl|rfl|rfl:=hu<;>rfl
 .intro c w' qy EV _;refine h c w' ?_ EV;rw[Bi];exact qy
theorem KK(h:w.ownsRow base 89 3 v n xs)(hb:Below w.heap.size w w'):w'.ownsRow base 89 3 v n xs:=
 h.kept (Bb hb none) (by cases v.ownBlock<;>simp)
theorem E5(l:List Nat)(f:Nat)(hf:gX l=f)(h:15+f<=l.length):pz (l.take<|15+f)=KG l:=by
 unfold pz KG;rw[hf,zzm,Nat.min_eq_left h,List.take_take,show min (15+f-4) (15+f)=11+f by omega,show 15+f-4=11+f by omega,List.drop_take,show 15+f-(11+f)=4 by omega]
theorem OJ(l:List Nat)(f:Nat)(hf:gX l=f):rD l=⟨val<|((l.take<|11+f).drop 2).take 8,at_ (l.take<|11+f) 10,(l.take<|11+f).drop 11⟩:=by
 unfold rD;rw[hf,MT _ _ _ dp,List.drop_take,List.drop_take,List.take_take,show min 8 (11+f-2)=8 by omega,show 11+f-11=f by omega]
theorem tR(h:w.ownsRow (B+1) 89 3 v n xs):w.ownsRow B 89 3 v n xs:=by
 refine⟨h.1,?_⟩;obtain h|⟨g,cap,cur,h1,h2,h3⟩:=h.2
 .grind
 .exact .inr ⟨g,cap,cur,h1,dp,h3⟩
theorem cX.take(h:cX w b f l)(m:Nat):cX w b f (l.take m):=λi a=>by
 rw[zzm]at a;rw[MT l m i dp];exact h i dp
theorem KL(h:pA l=true):15<=l.length/\gX l<=255/\15+gX l<=l.length:=by grind[pA]
theorem OK:uN [] 0:=⟨tP _,rfl⟩
theorem KM(b o p:Nat)(l:List Nat)(w:nL)(hb:mG l)(hl:l.length<=4398046511103)(U:cX w b o l)(bW:b<w.heap.size)(rN:l.length<=p)(ou:p<=maxLen):
  Calls prog 257 #[.slice (some<|hP b o) l.length p] w λe w'=>∃k P,e=.returned (.tuple #[P,.int .i64 ((st k l).2:Nat)])/\uN l k/\w'.ownsRow w.heap.size 89 3 P k (cM (st k l).1)/\(k=0->P=.slice none 0 0)/\Below w.heap.size w w':=by
 have⟨n,hn⟩:=gb l.length;rw[<-hn]at hl rN ⊢;have L:=ah hn.symm;have HR:=ah U;clear hn U;have Se:=ou;unfold maxLen at Se;have CV:∀(x:Bool) (w:nL),(Op.unary .not<|.bool x).run prog w=.ok (.bool<|!x) w:=λ_ _=>rfl
 go_enter func257,ntmps257;go_wp2;go_loopw [5,6] (λr e wr=>∃k,Good l k/\e=.int .i64 ((st k l).2:Nat)/\wr.ownsRow (w.heap.size+1) 89 3 r k (cM (st k l).1)/\(k=0->r=.slice none 0 0)/\(∃d,gO wr w.heap.size d)/\Below w.heap.size w wr) (λ_ e _=>n-(intOf e).toNat);.exact⟨0,tP l,rfl,zzu _ _ _ _,λ_=>rfl,⟨false,DG w⟩,(zzD _ _).alloc (zzc _) _⟩
 .obtain⟨k,D,rfl,M,y,⟨d,hm⟩,B⟩:=hrel;have I:=Zu D;rw[L.out]at I;have G:=ah D;have⟨E,C⟩:=gb <|(st k l).2;rw[<-C]at I ⊢;have H:=ah C.symm;clear C D;have i0:(0:Int)<=E:=dp;have i1:(E:Int)<=n:=dp;have i2:(E:Int)<=p:=dp;by_cases aa:n-E<15
  .have HO:Hid (gK (l.drop E)=false):=ko (qL<|by rw[zzz,L.out];omega);by_cases a1:p=E
   .subst a1;obtain rfl:n=p:=dp;go_wp2_with fail;apply(mS _ _ _ _ dp).mono;rintro e c ⟨rfl,mR⟩;have:=mR.symm;subst this;clear mR;go_wp2;go_ret2;exact⟨k,_,by rw[H.out];rfl,⟨G.out,by rw[H.out];exact HO.out⟩,tR M,y,B⟩
   .go_wp2_with fail;apply(mS _ _ _ _ dp).mono;rintro e c ⟨rfl,mR⟩;have:=mR.symm;subst this;clear mR;go_wp2;go_ret2;exact⟨k,_,by rw[H.out];rfl,⟨G.out,by rw[H.out];exact HO.out⟩,tR M,y,B⟩
  .have a1:¬p=E:=dp;have g:Hid (cX wr b (o+E)<|l.drop E):=(HR.out.below B bW).drop E (by rw[L.out];exact I);have Y:=hb.drop E;have a:Hid ((l.drop E).length=n-E):=by show _=_;rw[zzz,L.out]
   have z:Hid (gK (l.drop E)=false->uN l k):=λh=>⟨G.out,by rw[H.out];exact h⟩
   have S:Hid (gK (l.drop E)=true->Good l (k+1)/\(st (k+1) l).2=E+(15+gX (l.drop E))/\(st (k+1) l).1=(st k l).1++[rD<|l.drop E]):=λh=>
    ⟨DJ G.out<|by rw[H.out];exact h,by show(st k l).2+15+gX (l.drop (st k l).2)=_;rw[H.out];omega,by show(st k l).1++[rD<|l.drop (st k l).2]=_;rw[H.out]⟩
   generalize l.drop E=m at g Y a z S;have X:=ah B;clear B;go_wp2_with fail;apply(zQ b (o+E) (n-E) (p-E) m _ a.out Y dp dp dp eE g.out).mono;rintro e c ⟨rfl,q1,mR⟩;have O:Hid (Below w.heap.size w c):=by show Below _ _ _;rw[mR];exact below_drewN X.out _
   have A:c.ownsRow (w.heap.size+1) 89 3 u5 k (cM (st k l).1):=by rw[mR];exact M.kept (r_ wr q1 none)<|by cases u5.ownBlock<;>simp
   have s:Hid (gO c w.heap.size d):=hm.cZ (by rw[mR,heap_drewN]);have W:Hid (cX c b (o+E) m):=by show cX _ _ _ _;rw[mR];exact g.out.drewN q1
   have ab:=s.out.lt;clear mR M hm g X;obtain N|N:=(Bool.eq_false_or_eq_true<|pA m).symm
   .have HF:=ah<|ko N;rw[KI N,N];clear N;go_wp2;go_ret2;exact⟨k,u5,by rw[H.out];rfl,z.out HF.out,tR A,y,O.out⟩
   .have HF:=ah N;have⟨cY,bH,V⟩:=KL N;rw[MZ N,N];clear N;rw[a.out]at cY V;have⟨f,hf⟩:=gb <|gX m;rw[<-hf]at bH V ⊢;have j:=ah hf.symm;clear hf;have u:=ah A;clear A;go_wp2_with fail;apply(Ku w.heap.size b (o+E) (15+f) (15+f) d (m.take<|15+f) _ s.out (by omega) (by rw[zzm,a.out];omega) (Y.take _) dp dp dp eE<|W.out.take _).mono;rintro e w2 ⟨rfl,oZ,fT⟩;have Z:Hid (w2.ownsRow (w.heap.size+1) 89 3 u5 k<|cM (st k l).1):=u.out.kept fT (Or.inr<|by intro e;have:=(u.out.lt _ e).1;omega);have R:Hid (Below w.heap.size w w2):=O.out.grown fT (by omega) (λq J=>by cases J;exact zzc _);have pM:Hid (cX w2 b (o+E) m):=Dy W.out fT (by omega);have T:=ah oZ;have ad:=fT.size;have i:=E5 m f j.out (by rw[a.out];omega);clear oZ fT W s u O;obtain t|t:=(Bool.eq_false_or_eq_true<|KG m).symm
    .have RY:=ah<|CX t;rw[t]at i;rw[MS i,i];clear i t;go_wp2;go_ret2;exact⟨k,u5,by rw[H.out];rfl,z.out RY.out,tR Z.out,y,R.out⟩
    .have RY:=ah<|zk HF.out t;rw[t]at i;rw[G5 i,i,show 15+f-4=11+f by omega];clear i t;go_wp2_with fail;apply(Bh b (o+E) f (m.take<|11+f) _ (by rw[zzm,a.out];omega) dp (Y.take _)<|pM.out.take _).mono;rintro e Q ⟨rfl,iL⟩;have v:=ah<|KK Z.out iL;have DI:Hid (Below w.heap.size w Q):=R.out.trans (iL.mono dp);have a7:Hid (gO Q w.heap.size true):=T.out.cZ (iL.block _ dp);have V9:=iL.size;have F:=OJ m f j.out;have lx:(rD m).cW=val (((m.take<|11+f).drop 2).take 8):=by rw[F]
     have kn:(rD m).kind=at_ (m.take<|11+f) 10:=by rw[F]
     have iy:(rD m).pay=(m.take<|11+f).drop 11:=by rw[F]
     rw[<-lx,<-kn,<-iy];clear iL pM Z R T F lx kn iy;have CZ:k<=4398046511103:=by
      have:=Zv l k;rw[H.out]at this;omega
     go_wp2_with (at_builtin;apply KJ rfl _ _ rfl (w.heap.size+1) u5 k (st k l).1 (rD m) Q.heap.size rfl (v.out.alloc _) rfl dv dv dv CZ ef;intro v4 w4 oX K);have⟨a8,pS,ng⟩:=S.out RY.out;rw[j.out]at pS;have Ri:Below w.heap.size w w4:=(DI.out.alloc dp _).grown K ef (λq J=>by have:=(v.out.lt q J).1;omega);have a':gO w4 w.heap.size true:=(a7.out.alloc _).cZ (K.block _ ef λe=>by have:=(v.out.lt _ e.symm).1;omega);clear K;go_roundw;.exact⟨k+1,a8,by rw[pS];go_num,by rw[ng];exact oX,λh=>absurd h dp,⟨true,a'⟩,Ri⟩
     .exact fq
theorem Bc(l:List Nat):(str l).size=l.length:=by
 have h:∀(m:List Int) (a:nS),(m.foldl (λr n=>r.push<|UInt8.ofNat n.toNat) a).size=a.size+m.length:=by
  intro m;induction m with
  |nil=>grind
  |cons x m ih=>simp_all;omega
 unfold str;rw[h];simp
def E2(d:aj)(o:km)(B p D N n a g:Nat)(pv:Value)(w:nL)(e:Ending)(w':nL):Prop :=
 e=.returned (bB (d.tell o).2)/\(∃V b,aC w' B p D N V (d.tell o).1 (n+1) a b/\bU w.heap.size pv V)/\Fr (g :: dS p D N pv) w w'
theorem aC.bytes(a:aC w B p h N pv d n D f)(r:w.ownsRow k 5 1 (.slice (some<|gi g) len i) len xs)(hf:Fr [g] w w'):aC w' B p h N pv d n D f:=by
 have⟨c,b⟩:=aL r rfl;refine a.fr hf ?_ ?_ ?_ ?_ ?_
 .simp;intro e;subst e;rw[a.blk]at b;cases b
 .simp;exact a.lB.cT b
 .simp;exact a.now.cT b
 .intro q hq;simp;intro e;subst e;exact aQ a.pen b du hq
 .grind
theorem Sl(b:aC w B p h N pv d n D i)(r:w.ownsRow k 5 1 (.slice (some<|gi g) len f) len xs):g∉dS p h N pv:=by
 have⟨c,a⟩:=aL r rfl;intro m;obtain e|m:=zzj.1 m
 .subst e;rw[b.blk]at a;cases a
 obtain e|m:=zzj.1 m
 .exact b.lB.cT a e.symm
 obtain e|m:=zzj.1 m
 .exact b.now.cT a e.symm
 .simp at m;exact aQ b.pen a du m
theorem Sn{wr:nL}{s:List Value}(y:wr.ownsRow base 5 1 (.slice (some<|gi g) n p) n s)(z:w.grownBy wr<|some g):(wr.setCell (hP g k)<|.int .u8 33).ownsRow base 5 1 (.slice (some<|gi g) n p) n (s.set k<|.int .u8 33)/\w.grownBy (wr.setCell (hP g k)<|.int .u8 33) (some g):=by
 have⟨h,a⟩:=y.stored k<|.int .u8 33;exact⟨h,cI z a⟩
theorem MX(B p D N n f u kd g c base:Nat)(pv:Value)(d:aj)(nm:nS)(l:List Nat)(w:nL)(h:aC w B p D N pv d n f u)(hn:n<1000000000)(o:kd=1\/kd=2)(O:nm.size<=maxLen)
  (r:w.ownsRow base 5 1 (.slice (some<|gi g) l.length c) l.length<|bs l) (t:l.length<=4096) :
  Calls prog 416 #[gx p,.int .i64 (kd:Int),.string nm,.slice (some<|gi g) l.length c] w (E2 d ⟨kd,nm,gW,str l⟩ B p D N n f g pv w):=by
 have I:=ah h;have R:=ah r;have K:=tN w g 0 l.length c l rfl<|wC r;have G:=ah<|Sl h r;have X:=(r9 r).2;clear h r;have⟨m,b⟩:=gb l.length;rw[<-b]at K R t ⊢;have L:=ah b.symm;clear b
 go_enter func416,ntmps416;go_wp2_with fail;apply(A_ B p D N n f u pv d ⟨kd,nm,gW,str l⟩ w I.out hn ⟨by obtain h|h:=o<;>simp[h],O,dv,by rw[Bc,L.out];exact t⟩<|by obtain h|h:=o<;>(intro J;simp only at J;omega)).mono;rintro e x ⟨rfl,⟨mj,nG,J6,nT⟩,cY⟩;have C:=ah nT;clear nT;have M:=ah J6;have P:=ah cY;have v:=ar R.out cY (λq a=>by cases a;exact G.out);have V:=cY.size;clear J6 cY;generalize E:bB (d.tell ⟨kd,nm,gW,str l⟩).2=ev;have H:=ah E;clear E;go_wp2;go_loopw [20] (λi wr=>∃k:Nat,k<=m/\i=.int .i64 k/\(∃s,wr.ownsRow base 5 1 (.slice (some (gi g)) m c) m s)/\x.grownBy wr (some g)) (λi _=>m-(intOf i).toNat)
 case atStart=>exact⟨0,zzs _,rfl,⟨_,v⟩,jg _ _⟩
 case round=>
  obtain⟨k,Q,rfl,⟨s,y⟩,z⟩:=hrel;by_cases W:k<m
  .have Kq:=y.cellAt k dp;have hlen:k<s.length:=by have:=y.1;omega
   rw[zzg hlen]at Kq;have U:=y.frozenAt k;obtain⟨Y,j⟩:=Sn (k:=k) y z;have F:=ah Y;have A:=ah j;clear y Y j z;go_wp2;go_roundw;.exact⟨k+1,dp,eR,⟨_,F.out⟩,A.out⟩
   case measure=>simp[intOf];omega
  .go_wp2;go_ret;have S:=Fr.bI z;exact⟨by rw[H.out];rfl,⟨mj,nG,M.out.bytes v S,C.out⟩,(P.out.mono λq _ a=>Ds _ a).trans<|S.mono λq _ a=>by simp at a;subst a;simp⟩
theorem OC(B p D N n a b g c base:Nat)(pv:Value)(d:aj)(nm:nS)(l:List Nat)(w:nL)(h:aC w B p D N pv d n a b)(hn:n<1000000000)(E:nm.size<=maxLen)
  (r:w.ownsRow base 5 1 (.slice (some<|gi g) l.length c) l.length<|bs l) (f:l.length<=4096) :
  Calls prog 415 #[gx p,.string nm,.slice (some<|gi g) l.length c] w (E2 d ⟨1,nm,gW,str l⟩ B p D N n a g pv w):=by
 have I:=ah h;clear h;go_enter func415,ntmps415;go_wp2_with fail;apply(MX B p D N n a b 1 g c base pv d nm l w I.out hn (Or.inl rfl) E r f).mono;rintro e i ⟨rfl,h1,h2⟩;have H:=ah h1;clear h1;go_wp2;go_ret;exact⟨rfl,H.out,h2⟩
theorem Kz(B p D N n a b g c base:Nat)(pv:Value)(d:aj)(nm:nS)(l:List Nat)(w:nL)(h:aC w B p D N pv d n a b)(hn:n<1000000000)(E:nm.size<=maxLen)
  (r:w.ownsRow base 5 1 (.slice (some<|gi g) l.length c) l.length<|bs l) (f:l.length<=4096) :
  Calls prog 409 #[gx p,.string nm,.slice (some<|gi g) l.length c] w (E2 d ⟨2,nm,gW,str l⟩ B p D N n a g pv w):=by
 have I:=ah h;clear h;go_enter func409,ntmps409;go_wp2_with fail;apply(MX B p D N n a b 2 g c base pv d nm l w I.out hn (Or.inr rfl) E r f).mono;rintro e i ⟨rfl,h1,h2⟩;have H:=ah h1;clear h1;go_wp2;go_ret;exact⟨rfl,H.out,h2⟩
theorem KA(B p D N n a b:Nat)(pv:Value)(d:aj)(nm:nS)(w:nL)(h:aC w B p D N pv d n a b)(hn:n<1000000000)(E:nm.size<=maxLen):
  Calls prog 412 #[gx p,.string nm] w (m_ d ⟨3,nm,gW,gW⟩ B p D N n a pv w):=by
 have I:=ah h;clear h;go_enter func412,ntmps412;go_wp2_with fail;apply(A_ B p D N n a b pv d ⟨3,nm,gW,gW⟩ w I.out hn ⟨dv,E,dv,dv⟩ dv).mono;rintro e c ⟨rfl,h1,h2⟩;have H:=ah h1;clear h1;go_wp2;go_ret;exact⟨rfl,H.out,h2⟩
theorem KC(B p D N n a c:Nat)(pv:Value)(d:aj)(nm to:nS)(w:nL)(h:aC w B p D N pv d n a c)(hn:n<1000000000)(E:nm.size<=maxLen)(O:to.size<=maxLen)(b:(nm.toList==to.toList)=false/\nm≠to):
  Calls prog 413 #[gx p,.string nm,.string to] w (m_ d ⟨4,nm,to,gW⟩ B p D N n a pv w):=by
 have I:=ah h;have f:=ah b;clear h b;go_enter func413,ntmps413;go_wp2_with fail;apply(A_ B p D N n a c pv d ⟨4,nm,to,gW⟩ w I.out hn ⟨dv,E,O,dv⟩ λ_=>f.out).mono;rintro e g ⟨rfl,h1,h2⟩;have H:=ah h1;clear h1;go_wp2;go_ret;exact⟨rfl,H.out,h2⟩
structure au where
 segs:List Nat
 filled:Nat
 recs:List Rec
 next:Nat
 ak:Nat
 failed:Nat
def fC(l:List Nat):List Value:=l.map λx:Nat=>.int .u64 (x:Int)
theorem tS(l:List Nat)(x:Nat):fC (l++[x])=fC l++[.int .u64 (x:Int)]:=by simp[fC]
theorem Su(l:List Nat):(fC l).length=l.length:=by simp[fC]
abbrev fS(p:Nat):Value:=.iface 61 (gx p)
abbrev o0(p:Nat)(sv rv:Value)(l:au):Obj:=.cells #[fS p,sv,.int .i64 (l.filled:Int),rv,.int .u64 (l.next:Int),.int .u64 (l.ak:Int),bB l.failed] 177
def refs:Option Obj->List Nat
 |some (.cells c _ _)=>c.toList.filterMap λv=>match v with
  |.map r=>r
  |.slice (some a) _ _=>some a.block
  |_=>none
 |_=>[]
def Own(lp p:Nat)(w:nL)(k:Nat):Prop:=k=lp\/k=p\/k∈refs w.heap[lp]?\/k∈refs w.heap[p]?
structure mJ(lp p:Nat)(w w':nL):Prop where
 os:w'.os=w.os
 tape:w'.tape=w.tape
 output:w'.output=w.output
 size:w.heap.size<=w'.heap.size
 block:∀k,k<w.heap.size->¬Own lp p w k->w'.heap[k]?=w.heap[k]?
 stay:∀k,k<w.heap.size->Own lp p w' k->Own lp p w k
theorem mJ.refl(lp p:Nat)(w:nL):mJ lp p w w:=⟨rfl,rfl,rfl,zzc _,λ_ _ _=>rfl,λ_ _ h=>h⟩
theorem mJ.trans{a b c:nL}(h:mJ lp p a b)(k:mJ lp p b c):mJ lp p a c:=
 ⟨k.os.trans h.os,k.tape.trans h.tape,k.output.trans h.output,zzk h.size k.size,
  λi d hn=>(k.block i (zzl d h.size) λo=>hn<|h.stay i d o).trans<|h.block i d hn,
  λi d o=>h.stay i d (k.stay i (zzl d h.size) o)⟩
structure aM(w:nL)(B lp p bD bN:Nat)(pv sv rv:Value)(l:au)(d:aj)(n nD nN:Nat):Prop where
 bP:aC w B p bD bN pv d n nD nN
 blk:w.heap[lp]?=some (o0 p sv rv l)
 base:B<=lp
 segs:w.ownsRow B 34 1 sv l.segs.length (fC l.segs)
 recs:w.ownsRow B 89 3 rv l.recs.length (cM l.recs)
 eJ:l.segs.length<=n/\∀s∈l.segs,s<2^64
 iC:l.recs.length<=n
 kQ:l.filled<=4096
 iO:l.next<=n+1
 nU:l.ak<2^64
theorem dN{e:TypeId}(h:w.ownsRow B e k v n xs):∃a m c,v=.slice a m c:=by
 rcases h.2 with⟨rfl,_⟩|⟨g,p,r,rfl,_⟩<;>grind
def aaw(v:Value):Option Nat:=match v with
 |.map r=>r
 |.slice (some a) _ _=>some a.block
 |_=>none
theorem Bj(c:Array Value)(t:TypeId)(fr:Nat×Nat):refs (some<|.cells c t fr)=c.toList.filterMap aaw:=rfl
theorem tT(h:∃a m c,v=.slice a m c):aaw v=v.ownBlock:=by
 obtain⟨a,m,c,rfl⟩:=h;cases a<;>rfl
theorem Sv(n:Nat):aaw (bB n)=none:=by unfold bB;split<;>rfl
theorem Xa{l:au}(s:∃a m c,sv=.slice a m c)(r:∃a m c,rv=.slice a m c)(k:Nat):k∈refs (some<|o0 p sv rv l)↔sv.ownBlock=some k\/rv.ownBlock=some k:=by
 rw[Bj];simp only[List.mem_filterMap,zzj,List.not_mem_nil,or_false];constructor
 .rintro⟨v,hv,hk⟩;obtain rfl|rfl|rfl|rfl|rfl|rfl|rfl:=hv
  .cases hk
  .grind [tT]
  .cases hk
  .grind [tT]
  .cases hk
  .cases hk
  .grind [Sv]
 .grind [tT]
theorem M0{a b:Int}{dn:Bool}(hp:∃a m c,pv=.slice a m c)(k:Nat):k∈refs (some<|lH bD bN pv a b dn)↔k=bD\/k=bN\/pv.ownBlock=some k:=by
 rw[Bj];simp only[List.mem_filterMap,zzj,List.not_mem_nil,or_false];constructor
 .rintro⟨v,hv,hk⟩;obtain rfl|rfl|rfl|rfl|rfl|rfl:=hv
  .left;cases hk;rfl
  .right;left;cases hk;rfl
  .grind [tT]
  .cases hk
  .cases hk
  .cases hk
 .rintro (h|h|h)
  .exact⟨.map<|some bD,dv,by subst h;rfl⟩
  .exact⟨.map<|some bN,dv,by subst h;rfl⟩
  .grind [tT]
section
variable{w w':nL}{B lp p bD bN n nD nN I n' J O:Nat}{pv sv rv E f j:Value}{l l':au}{d d':aj}
theorem aM.own(h:aM w B lp p bD bN pv sv rv l d n nD nN)(k:Nat):Own lp p w k↔k=lp\/k=p\/k=bD\/k=bN\/pv.ownBlock=some k\/sv.ownBlock=some k\/rv.ownBlock=some k:=by
 unfold Own;rw[h.blk,h.bP.blk,Xa (dN h.segs)<|dN h.recs,M0<|dN h.bP.pen];constructor<;>grind
theorem aM.C0{S:List Nat}(h:aM w B lp p bD bN pv sv rv l d n nD nN)(b:aM w' B lp p bD I E f j l' d' n' J O)(hf:Fr S w w')
  (m:∀k∈S,k<w.heap.size->k=lp\/k=p\/k=bD\/k=bN\/pv.ownBlock=some k\/sv.ownBlock=some k\/rv.ownBlock=some k)
  (hb:I=bN\/w.heap.size<=I) (c:bU w.heap.size pv E) (g:bU w.heap.size sv f) (i:bU w.heap.size rv j):mJ lp p w w':=by
 refine⟨hf.os,hf.tape,hf.output,hf.size,λk a hn=>hf.block k a λo=>hn<|(h.own k).2<|m k o a,λk a q=>?_⟩;rw[h.own];obtain e|e|e|e|e|e|e:=(b.own k).1 q
 .grind
 .grind
 .grind
 .grind
 .rcases c k e with e|e
  .grind
  .omega
 .rcases g k e with e|e
  .grind
  .omega
 .rcases i k e with e|e
  .grind
  .omega
theorem aM.sep(h:aM w B lp p bD bN pv sv rv l d n nD nN):∀k∈dS p bD bN pv,k≠lp/\sv.ownBlock≠some k/\rv.ownBlock≠some k:=by
 intro k a;have y:∀(c:Array Value) (t:TypeId) (q:Nat),w.heap[q]?=some (.cells c t (0,0))->t≠65->t≠200->k≠q:=by
  intro c t q b f g e;subst e;obtain e|a:=zzj.1 a
  .rw[e,h.bP.blk]at b;cases b;exact f rfl
  obtain e|a:=zzj.1 a
  .exact h.bP.lB.cT b e.symm
  obtain e|a:=zzj.1 a
  .exact h.bP.now.cT b e.symm
  .simp at a;exact aQ h.bP.pen b (λe=>g e.symm) a
 refine⟨y _ _ lp h.blk du du,λe=>?_,λe=>?_⟩
 .obtain⟨c,hc⟩:=aL h.segs e;exact y _ _ k hc du du rfl
 .obtain⟨c,hc⟩:=aL h.recs e;exact y _ _ k hc du du rfl
theorem aM.turned{S:List Nat}(h:aM w B lp p bD bN pv sv rv l d n nD nN)(c:aC w' B p bD bN E d' n' J O)(hf:Fr S w w')(b:∀k∈S,k<w.heap.size->k≠lp/\sv.ownBlock≠some k/\rv.ownBlock≠some k)(hn:n<=n'):aM w' B lp p bD bN E sv rv l d' n' J O where
 bP:=c
 blk:=(hf.block lp (zza.1 h.blk).1 λm=>(b lp m (zza.1 h.blk).1).1 rfl).trans h.blk;base:=h.base;segs:=ar h.segs hf λg a m=>(b g m (h.segs.lt g a).2).2.1 a
 recs:=ar h.recs hf λg a m=>(b g m (h.recs.lt g a).2).2.2 a
 eJ:=⟨by have:=h.eJ.1;omega,h.eJ.2⟩
 iC:=by have:=h.iC;omega
 kQ:=h.kQ;iO:=by have:=h.iO;omega
 nU:=h.nU
end
theorem aM.KO{nD nN:Nat}{l l':au}(h:aM w B lp p bD bN pv sv rv l d n nD nN)(hf:Fr [lp] w w')(hb:w'.heap[lp]?=some (o0 p sv rv l'))
  (j:l'.segs.length<=n/\∀s∈l'.segs,s<2^64) (o:l'.recs.length<=n) (r:l'.filled<=4096) (u:l'.next<=n+1) (v:l'.ak<2^64) (f:l'.segs=l.segs) (i:l'.recs=l.recs):aM w' B lp p bD bN pv sv rv l' d n nD nN:=by
 have b:∀k∈dS p bD bN pv,k∉[lp]:=λk x m=>by simp at m;exact(h.sep k x).1 m
 refine {bP:=?_,blk:=hb,base:=h.base,segs:=?_,recs:=?_,eJ:=j,iC:=o,kQ:=r,iO:=u,nU:=v}
 .refine h.bP.fr hf (b p dv) (b bD dv) (b bN dv) (λg a=>b g<|by simp[a]) ?_;intro q c t;simp at c;subst c;rw[h.blk];intro e;cases e
 .rw[f];exact ar h.segs hf λg a=>by simp;intro e;subst e;exact aQ h.segs h.blk du a
 .rw[i];exact ar h.recs hf λg a=>by simp;intro e;subst e;exact aQ h.recs h.blk du a
def Na(B lp p bD bN:Nat)(l:au)(d:aj)(n:Nat)(w w':nL):Prop :=
 (∃pv sv rv nD nN,aM w' B lp p bD bN pv sv rv l d n nD nN)/\mJ lp p w w'
theorem Xb(h:Value)(w:nL):(Go.method 604 61 h "Append").run prog w=.ok (409,h) w:=eu
theorem Sw(h:Value)(w:nL):(Go.method 604 61 h "Names").run prog w=.ok (410,h) w:=eu
theorem Nb(h:Value)(w:nL):(Go.method 604 61 h "Read").run prog w=.ok (411,h) w:=eu
theorem Xc(h:Value)(w:nL):(Go.method 604 61 h "Remove").run prog w=.ok (412,h) w:=eu
theorem Xd(h:Value)(w:nL):(Go.method 604 61 h "Rename").run prog w=.ok (413,h) w:=eu
theorem Nc(h:Value)(w:nL):(Go.method 604 61 h "Sync").run prog w=.ok (414,h) w:=eu
theorem aax(h:Value)(w:nL):(Go.method 604 61 h "Write").run prog w=.ok (415,h) w:=eu
def au.sync(l:au)(d:aj):au × aj × Nat :=
 if d.sync.2=0 then ({ l with ak:=l.next },d.sync.1,0) else (l,d.sync.1,d.sync.2)
theorem Xe(h:c≠0):∃v,bB c=.iface 27 v:=⟨_,aV h⟩
theorem tU(B lp p bD bN n nD nN:Nat)(pv sv rv:Value)(l:au)(d:aj)(w:nL)(h:aM w B lp p bD bN pv sv rv l d n nD nN)(hn:n<=1000000000):
  Calls prog 140 #[gx lp] w λe w'=>e=.returned (bB (l.sync d).2.2)/\Na B lp p bD bN (l.sync d).1 (l.sync d).2.1 n w w':=by
 have g:=af h.blk 0;simp at g;have I:=ah h;go_enter func140,ntmps140;have o:=Nc;go_wp2_with fail;apply(sr B p bD bN n nD nN pv d w I.out.bP).mono;rintro e b ⟨rfl,⟨mj,nK,kR,nT⟩,cY⟩;have K:=I.out.turned kR cY (λk a _=>I.out.sep k<|by simp at a;obtain h|h:=a<;>simp[h])<|zzc _;have q:=I.out.C0 K cY (λk a _=>by simp at a;obtain h|h:=a<;>simp[h]) (.inl rfl) nT (bU.refl _ _)<|bU.refl _ _;have H:=ah K;have O:=ah q;have i:=af K.blk 4;have j:=af K.blk 5;have m:=aq K.blk 5;simp at i j;by_cases c:d.sync.2=0
 .rw[c,aT];go_wp2;go_ret;have e:l.sync d=({l with ak:=l.next},d.sync.1,0):=by unfold au.sync;rw[oo c]
  rw[e];have⟨W,f⟩:∃W,W=b.setCell ⟨lp,5,none⟩ (.int .u64 (l.next:Int)):=⟨_,rfl⟩;rw[<-f];have hf:Fr [lp] b W:=by rw[f];exact Fr.cG dv _ _
  have hb:W.heap[lp]?=some (o0 p sv rv {l with ak:=l.next}):=by rw[f];simpa using aF H.out.blk 5<|.int .u64 (l.next:Int)
  have L:=H.out.KO hf hb H.out.eJ H.out.iC H.out.kQ H.out.iO (by have:=H.out.iO;simp;omega) rfl rfl;exact⟨rfl,⟨mj,sv,rv,nK,nN,L⟩,O.out.trans<|H.out.C0 L hf (λk a _=>by simp at a;simp[a]) (.inl rfl) (bU.refl _ _) (bU.refl _ _)<|bU.refl _ _⟩
 .have e:l.sync d=(l,d.sync.1,d.sync.2):=by unfold au.sync;rw[mE c]
  rw[aV c];go_wp2;go_ret;rw[e];exact⟨by rw[aV c];rfl,⟨mj,sv,rv,nK,nN,H.out⟩,O.out⟩
theorem wL:(Tryz.prog.info? 34).map (λi=>(i.zero,i.size,i.bytes))=some (some<|.int .u64 0,1,8):=eu
theorem OM{K:Act->nL->Prop}(s x:Operand)
  (d:o.op=.call {callee:=.builtin .append,args:=#[s,x],argTypes:=#[49,49]})
  (base:Nat) (v:Value) (n:Nat) (l:List Nat) (r:Nat) (b:Nat) (e:a.eval s=v) (M:w.ownsRow base 34 1 v n<|fC l) (hx:a.eval x=.slice (some<|gi b) 1 1)
  (hb:w.cell? (gi b)=some (.int .u64 (r:Int))) (hn:n<=1073741824) (B:base<=w.heap.size)
  (h:∀c w',w'.ownsRow base 34 1 c (n+1) (fC<|l++[r])->w.grownBy w' v.ownBlock->(c.ownBlock=v.ownBlock\/c.ownBlock=some w.heap.size)->K (a.put o.dst c) w'):o.wp prog a w K Q:=by
 have⟨k,i,f,g,j⟩:=tO wL;refine gV s x 49 d base 34 k _ 1 8 underlying49 i f g j rfl du v n (fC l) e M (gi b) 1 1 [.int .u64 (r:Int)] hx rfl ?_ ?_ eE dp B ?_
 .intro jj u fK;match jj,fK with
  |0,fK=>simp at fK;subst fK;simpa [Addr.add]using hb
 .intro u hu;simp at hu;subst hu;rfl
 .intro c w' qy EV zh;refine h c w' ?_ EV zh;rw[tS];exact qy
def au.room(l:au)(d:aj):au × aj × Nat :=
 if l.filled<600 then (l,d,0)
 else if (l.sync d).2.2=0 then ({ (l.sync d).1 with segs:=(l.sync d).1.segs++[(l.sync d).1.next],filled:=0 },(l.sync d).2.1,0)
 else l.sync d
theorem aM.more{l:au}(a:aM w B b p h N pv s v l d n D c)(hn:n<1000000000):aM w B b p h N pv s v l d (n+1) D c:=
 {a with bP:=a.bP.more hn,eJ:=⟨by have:=a.eJ.1;omega,a.eJ.2⟩,iC:=by have:=a.iC;omega,iO:=by have:=a.iO;omega}
theorem Sx{c:nL}{o:Nat}{l:au}{q:Obj}{r:Option Nat}(f:aM w B b p h N pv s v l d n D o)(g:(w.alloc q).drew.grownBy c r)(m:r≠some b)(i:Nat):
  c.cell? (hP b i)=w.cell? (hP b i)/\c.frozen? (hP b i)=false/\c.heap[b]?=some (o0 p s v l):=by
 have j:=(zza.1 f.blk).1;have k:c.heap[b]?=w.heap[b]?:=by
  rw[g.block b ef λe=>m e.symm];exact zzf w _ b j
 exact⟨zze k,(zzw k).trans<|aq f.blk i,k.trans f.blk⟩
theorem aM.rows{W:nL}{m n':Nat}{u M i:Value}{l l':au}(a:aM w B f p h N pv u v l d n D m)(hf:Fr S w W)(o:∀k∈S,k<w.heap.size->k=f\/u.ownBlock=some k\/v.ownBlock=some k)
  (hb:W.heap[f]?=some (o0 p M i l')) (O:W.ownsRow B 34 1 M l'.segs.length<|fC l'.segs) (L:W.ownsRow B 89 3 i l'.recs.length<|cM l'.recs)
  (hn:n<=n') (H:n'<=1000000000) (x:l'.segs.length<=n'/\∀s∈l'.segs,s<2^64) (y:l'.recs.length<=n') (z:l'.filled<=4096) (A:l'.next<=n' + 1) (C:l'.ak<2^64):aM W B f p h N pv M i l' d n' D m:=by
 have c:∀k∈dS p h N pv,k<(nF w)->k∉S:=λk E F G=>by
  have:=a.sep k E;obtain e|e|e:=o k G F<;>grind
 have K:=(zza.1 a.bP.blk).1;have j:aC W B p h N pv d n D m:=by
  apply a.bP.fr hf (c p dv K) (c h dv a.bP.lB.lt) (c N dv a.bP.now.lt) (λg r=>c g (by simp[r]) (a.bP.pen.lt g r).2);intro q I t e;have J:=(zza.1 e).1;obtain b|b|b:=o q I J
  .subst b;rw[a.blk]at e;cases e
  .exact aQ a.segs e du b
  .exact aQ a.recs e du b
 exact {bP:={j with hD:=by have:=j.hD;omega,hN:=by have:=j.hN;omega,hn:=H},blk:=hb,base:=a.base,segs:=O,recs:=L,eJ:=x,iC:=y,kQ:=z,iO:=A,nU:=C}
theorem Sy(B b p D N n z C:Nat)(pv F E:Value)(l:au)(d:aj)(w:nL)(h:aM w B b p D N pv F E l d n z C)(hn:n<1000000000):
  Calls prog 157 #[gx b] w λe w'=>e=.returned (bB (l.room d).2.2)/\Na B b p D N (l.room d).1 (l.room d).2.1 (n+1) w w':=by
 have c2:=af h.blk 2;simp at c2;have I:=ah h;clear h;by_cases hf:l.filled<600
 .have e:l.room d=(l,d,0):=by unfold au.room;rw[oo hf]
  rw[e];have U:(l.filled:Int)<600:=by omega
  go_enter func157,ntmps157
  go_wp2;go_ret;exact⟨rfl,⟨pv,F,E,z,C,I.out.more hn⟩,mJ.refl _ _ _⟩
 .have U:¬(l.filled:Int)<600:=by omega
  have G:=ah hf;clear hf
  go_enter func157,ntmps157
  go_wp2_with fail;refine(tU B b p D N n z C pv F E l d w I.out (by omega)).mono ?_;rintro e j ⟨rfl,⟨mj,tV,gM,nK,nG,eK⟩,gq⟩;have H:=ah eK;have O:=ah gq;have y:=af eK.blk 1;have V:=af eK.blk 2;have J:=af eK.blk 4;have f1:=aq eK.blk 1;simp at y V J;have qM:b<j.heap.size:=(zza.1 eK.blk).1;have v:∀o i,(j.alloc o).cell? ⟨b,i,none⟩=j.cell? ⟨b,i,none⟩:=λo i=>zze (a:=⟨b,i,none⟩)<|zzf j o b qM
  have KP:∀o,(j.alloc o).cell? ⟨b,1,none⟩=some tV:=λo=>(v o 1).trans y
  have a1:∀o,(j.alloc o).cell? ⟨b,4,none⟩=some (.int .u64 ((l.sync d).1.next:Int)):=λo=>(v o 4).trans J
  clear v;clear eK gq c2;by_cases q:(l.sync d).2.2=0
  .rw[q,aT];go_wp2
   go_region_law (first|(rw[oo<|by rfl];refine OM _ _ rfl B tV (l.sync d).1.segs.length (l.sync d).1.segs (l.sync d).1.next j.heap.size rfl ?_ rfl ?_ ?_ ?_ ?_;(exact H.out.segs.alloc _);(simp);(have:=H.out.eJ.1;omega);(have:=H.out.bP.base.2.2.2;simp;omega);intro v4 M X Y K;obtain⟨m,A,rfl⟩:=wF X;have⟨q1,q2,t⟩:=Sx H.out Y (aQ H.out.segs H.out.blk du) 1;rw[y]at q1;have R:Hid (bU j.heap.size tV<|.slice (some ⟨m,0,none⟩) ((l.sync d).1.segs.length+1) A):=bU.zg K dv;clear K))
   all_goals (
    have r2:=(af t 2);have t2:=(aq t 2);simp at r2;have Q:=ah t;clear t;go_wp2;go_ret;have e:l.room d=({(l.sync d).1 with segs:=(l.sync d).1.segs++[(l.sync d).1.next],filled:=0},(l.sync d).2.1,0):=by unfold au.room;rw[mE G.out,oo q]
    rw[e];have⟨W,u⟩:∃W,W=(M.setCell ⟨b,1,none⟩<|.slice (some ⟨m,0,none⟩) ((l.sync d).1.segs.length+1) A).setCell ⟨b,2,none⟩ (.int .i64 0):=⟨_,rfl⟩;rw[<-u];have P:Fr [b] M W:=by rw[u];exact(Fr.cG dv _ _).trans<|Fr.cG dv _ _
    have hf:Fr (b::tV.ownBlock.toList) j W:=((((Fr.refl _ j).alloc _).drew).trans<|(Fr.cA Y).mono λk _ f=>Ds _ f).trans<|P.mono<|by intro k _ f;simp at f;simp[f]
    have hb:W.heap[b]?=some (o0 p (.slice (some ⟨m,0,none⟩) ((l.sync d).1.segs.length+1) A) gM {(l.sync d).1 with segs:=(l.sync d).1.segs++[(l.sync d).1.next],filled:=0}):=by
     rw[u];have:=aF (aF Q.out 1<|.slice (some ⟨m,0,none⟩) ((l.sync d).1.segs.length+1) A) 2<|.int .i64 0;simp at this;exact this
    have T:W.ownsRow B 34 1 (.slice (some ⟨m,0,none⟩) ((l.sync d).1.segs.length+1) A) ((l.sync d).1.segs++[(l.sync d).1.next]).length (fC<|(l.sync d).1.segs++[(l.sync d).1.next]):=by
     have:=ar X P λg r=>by simp;intro e;subst e;exact aQ X Q.out du r
     simpa using this
    have S:W.ownsRow B 89 3 gM (l.sync d).1.recs.length (cM (l.sync d).1.recs):=ar H.out.recs hf (λg r s=>by
     obtain e|s:=zzj.1 s
     .subst e;exact aQ H.out.recs H.out.blk du r
     .simp at s;have⟨c,Z⟩:=aL H.out.segs s;exact aQ H.out.recs Z du r)
    have kB:=H.out.iO;have L:=H.out.rows (n':=n+1) hf (by intro k f _;obtain e|f:=zzj.1 f;exact .inl e;simp at f;exact .inr<|.inl f) hb T S dp dp
     ⟨by have:=H.out.eJ.1;simp;omega,by intro x hx;obtain hx|hx:=zzo.1 hx;exact H.out.eJ.2 x hx;simp at hx;omega⟩ (by have:=H.out.iC;simp;omega) dv ef H.out.nU
    exact⟨rfl,⟨mj,_,gM,nK,nG,L⟩,O.out.trans (H.out.C0 L hf (by intro k f _;obtain e|f:=zzj.1 f;simp[e];simp at f;simp[f]) (.inl rfl) (bU.refl _ _) R.out (bU.refl _ _))⟩)
  .have e:l.room d=l.sync d:=by unfold au.room;rw[mE G.out,mE q]
   rw[aV q];go_wp2;go_ret;rw[e];exact⟨by rw[aV q];rfl,⟨mj,tV,gM,nK,nG,H.out.more hn⟩,O.out⟩
theorem He{c:Array Value}{fr:Nat×Nat}(b:aC w B p h N pv d n D i)(a:w.heap[q]?=some (.cells c t fr))(f:t≠65)(g:t≠200):q∉dS p h N pv:=by
 intro m;obtain e|m:=zzj.1 m
 .rw[e,b.blk]at a;cases a;exact f rfl
 obtain e|m:=zzj.1 m
 .exact b.lB.cT a e.symm
 obtain e|m:=zzj.1 m
 .exact b.now.cT a e.symm
 .simp at m;exact aQ b.pen a (λe=>g e.symm) m
theorem pT{j:Nat}{c:Array Value}{fr:Nat×Nat}(l:aC w B p h N pv d n D j)(r:w.ownsRow k 5 1 (.slice (some<|gi g) len b) len xs)(a:w.heap[q]?=some (.cells c t fr))(o:t≠65)(s:t≠200)(f:t≠5):q∉g::dS p h N pv:=by
 intro m;obtain e|m:=zzj.1 m
 .subst e;have⟨c',i⟩:=aL r rfl;rw[i]at a;cases a;exact f rfl
 .grind [He]
def Sz(B a p D N n b g:Nat)(pv s v:Value)(l:au)(d:aj)(o:km)(w:nL)(e:Ending)(w':nL):Prop :=
 e=.returned (bB (d.tell o).2)/\(∃V c,aM w' B a p D N V s v l (d.tell o).1 (n+1) b c/\bU w.heap.size pv V)/\Fr (g :: dS p D N pv) w w'
theorem n_(h:w.ownsRow B 34 1 (.slice (some<|gi g) n p) n<|fC l)(k x:Nat)(b:l[k]?=some x):w.cell? (hP g k)=some (.int .u64 (x:Int)):=by
 have a:(fC l)[k]?=some (.int .u64 (x:Int)):=by simp[fC,b]
 have:=h.cells rfl k _ a;simpa [Addr.add_lit]using this
theorem SA(B b p D N n x E i f g m v base s cs last:Nat)(pv y:Value)(l:au)(d:aj)(q:List Nat)(w:nL)(h:aM w B b p D N pv (.slice (some<|gi s) l.segs.length cs) y l d n x E)(hn:n<1000000000)
  (K:l.segs[l.segs.length-1]?=some last) (t:w.heap[i]?=some (.cells #[gx b] 66)) (u:w.heap[f]?=some (.cells #[.slice (some<|gi g) m v] 217))
  (hm:q.length=m) (r:w.ownsRow base 5 1 (.slice (some<|gi g) m v) m<|bs q) (oZ:m<=4096) (V:dJ w) (J:last<2^64) :
  Calls prog 158 #[gx i,gx f] w (Sz B b p D N n x g pv (.slice (some<|gi s) l.segs.length cs) y l d ⟨2,aw last,gW,str q⟩ w):=by
 subst hm
 have hL:0<l.segs.length:=by
  have:=(zzd.1 K).1;omega
 have L:=af t 0;have M:=af u 0;have H:=af h.blk 0;have c1:=af h.blk 1;have F:=n_ h.segs _ _ K;simp at L M H c1;have a1:=h.segs;obtain⟨S,C⟩:∃S,S+1=l.segs.length:=⟨l.segs.length-1,dp⟩;have a':S<1000000000:=by have:=h.eJ.1;omega
 have i0:(0:Int)<=S:=dp;have i1:(S:Int)<S+1:=dp;have i2:wrap64 (S:Int)=S:=by unfold wrap64;omega
 have i3:IntKind.i64.wrap (S:Int)=S:=eD;have I:=ah h;have HX:=ah t;have HY:=ah u;have R:=ah r;have aa:=Xb;rw[<-C]at c1 F;simp only[Nat.add_sub_cancel]at F;have HS:=ah C.symm;have W:i<w.heap.size/\f<w.heap.size/\b<w.heap.size/\s<w.heap.size:=⟨(zza.1 t).1,(zza.1 u).1,(zza.1 h.blk).1,(h.segs.lt s rfl).2⟩
 have U:i∉g::dS p D N pv/\f∉g::dS p D N pv/\b∉g::dS p D N pv/\s∉g::dS p D N pv:=by
  obtain⟨cg,Z⟩:=aL h.segs (g:=s) rfl;exact⟨pT h.bP r t du du du,pT h.bP r u du du du,pT h.bP r h.blk (by decide) (by decide) (by decide),pT h.bP r Z (by decide) (by decide) (by decide)⟩
 clear h t u r a1 C
 go_enter func158,ntmps158
 go_wp2
 go_region_held3 (λw'=>w'.cell? ⟨i,0,none⟩=some (.pointer<|some ⟨b,0,none⟩)/\w'.cell? ⟨f,0,none⟩=some (.slice (some ⟨g,0,none⟩) q.length v)/\w'.cell? ⟨b,0,none⟩=some (fS p)/\w'.cell? ⟨b,1,none⟩=some (.slice (some ⟨s,0,none⟩) (S+1) cs)/\w'.cell? ⟨s,S,none⟩=some (.int .u64 (last:Int)))
  (simp[*])
  (first|(go_at_call 409;refine(Kz B p D N n x E g v base pv d (aw last) q _ (I.out.bP.new<|Fr.bE z.out []) hn (by have:=jr last J;unfold maxLen;omega) (ar R.out (Fr.bE z.out []) dv) oZ).mono ?_;rintro e w2 ⟨rfl,qA,bH⟩;have x2:=(zze (a:=⟨i,0,none⟩)<|bH.block i (zzl W.1 z.out.size) U.1).trans x1;have y2:=(zze (a:=⟨f,0,none⟩)<|bH.block f (zzl W.2.1 z.out.size) U.2.1).trans y1;have e0:=(zze (a:=⟨b,0,none⟩)<|bH.block b (zzl W.2.2.1 z.out.size) U.2.2.1).trans Q;have e1:=(zze (a:=⟨b,1,none⟩)<|bH.block b (zzl W.2.2.1 z.out.size) U.2.2.1).trans T;have s2:=(zze (a:=⟨s,S,none⟩)<|bH.block s (zzl W.2.2.2 z.out.size) U.2.2.2).trans s1)|(go_at_call 159;refine(gS last w.drew J<|show dJ w.drew from V).mono ?_;rintro e G ⟨rfl,mY⟩;have j:Below w.heap.size w G:=⟨mY.os,mY.tape,mY.output,mY.size,mY.block⟩;have x1:=(j.cell (p:=⟨i,0,none⟩) W.1).trans L;have y1:=(j.cell (p:=⟨f,0,none⟩) W.2.1).trans M;have Q:=(j.cell (p:=⟨b,0,none⟩) W.2.2.1).trans H;have T:=(j.cell (p:=⟨b,1,none⟩) W.2.2.1).trans c1;have s1:=(j.cell (p:=⟨s,S,none⟩) W.2.2.2).trans F;have z:Hid (Below w.heap.size w G):=j;clear j mY))
 go_wp2;go_ret;have⟨P,O,hd,a7⟩:=qA;have A:=Fr.bE z.out [];have X:aM G B b p D N pv (.slice (some ⟨s,0,none⟩) l.segs.length cs) y l d n x E:=I.out.turned (I.out.bP.new A) A dv<|zzc _
 have a8:∀k∈g::dS p D N pv,y.ownBlock≠some k:=by
  intro k o e;have⟨c,hc⟩:=aL I.out.recs e;exact pT I.out.bP R.out hc du du du o
 have Y:=X.turned hd bH (λk o _=>⟨λe=>U.2.2.1<|e▸o,λe=>U.2.2.2<|by cases e;exact o,a8 k o⟩) dp;refine⟨rfl,⟨P,O,Y,λk o=>?_⟩,(A.mono dv).trans bH⟩;obtain e|e:=a7 k o
 .exact .inl e
 .right;have:=z.out.size;omega
end Go.Proofs.YtlgeloebpdmnnaaGreatDoor
