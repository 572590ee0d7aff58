import Derived.Test.YtcalalndmcemiaaGreatDoorC12
set_option maxHeartbeats 4000000
set_option maxRecDepth 100000
namespace Go.Proofs.YtcalalndmcemiaaGreatDoor
open Go.RowKit Go.Maps Tryz Sc
theorem Eo(B p D N n f i first:Nat)(v:Value)(d:ah)(w:World)(h:ax w B p D N v d n f i)(hn:n+2<=67108864)(A:first<18446744073709551616):
  Calls prog 135 #[dX p,.int .u64 (first:Int)] w (mS B p D N (n+2) (d.cL first) w):=by
 have I:=af h;clear h
 go_enter func135,ntmps135
 go_wp2_with fail;refine(vP first 0 ⟨#[]⟩ _ (by decide) (by decide) A).mono ?_;rintro e b ⟨g,rfl,hg,aI,cG⟩;rw[zzv] at cG hg aI;have E:(⟨#[]⟩:ByteArray).size=0:=rfl;have S:bytesOf ⟨#[]⟩=[]:=rfl;rw[E] at aI ⊢;rw[S] at aI;have hlen:(bF first 0 []).length=11+0+4:=by rw[tK];rfl
 have s:Fr [] w b:=((Fr.refl [] w).alloc _).trans (Fr.aX (by rw[zzv];exact cG) []);have U:b.heap[w.heap.size]?=some (.cells #[dX p] 167):=(cG.block w.heap.size (by omega)).trans (heap_alloc_new w _);have t:w.heap.size<b.heap.size:=(zza.1 U).1;have L:=(kp aI).2;have Z:=af U;have u:=af aI;have V:=af s;have C:=af hlen;have r:=ae U 0;simp at r;have J:∀o,(b.alloc o).cell? ⟨w.heap.size,0,none⟩=some (dX p):=λo=>(zze (a:=⟨w.heap.size,0,none⟩) (zzf b o _ t)).trans r
 have K:∀o l,((b.alloc o).alloc l).cell? ⟨w.heap.size,0,none⟩=some (dX p):=λo l=>(zze (a:=⟨w.heap.size,0,none⟩) (zzf (b.alloc o) l w.heap.size (by simp;omega))).trans (J o)
 clear cG aI s U hlen;go_wp2
 have j:=λ(W:World) (c:W=((b.alloc (.cells #[.slice (some ⟨g,0,none⟩) 15 15] 88)).alloc (.cells #[.func (.func 179) #[] #[.pointer (some ⟨w.heap.size,0,none⟩),.pointer (some ⟨b.heap.size,0,none⟩)],.func (.method "Sync") #[dX p] #[],.func (.func 180) #[] #[.pointer (some ⟨w.heap.size,0,none⟩)],.func (.method "Sync") #[dX p] #[]] 123)).drew)=>by
  have G:Fr [] w W:=by rw[c];exact((V.out.alloc _).alloc _).drew
  have x:W.heap[b.heap.size+1]?=some (.cells #[.func (.func 179) #[] #[.pointer (some ⟨w.heap.size,0,none⟩),.pointer (some ⟨b.heap.size,0,none⟩)],.func (.method "Sync") #[dX p] #[],.func (.func 180) #[] #[.pointer (some ⟨w.heap.size,0,none⟩)],.func (.method "Sync") #[dX p] #[]] 123):=by
   rw[c];have:=heap_alloc_new (b.alloc (.cells #[.slice (some ⟨g,0,none⟩) 15 15] 88)) (.cells #[.func (.func 179) #[] #[.pointer (some ⟨w.heap.size,0,none⟩),.pointer (some ⟨b.heap.size,0,none⟩)],.func (.method "Sync") #[dX p] #[],.func (.func 180) #[] #[.pointer (some ⟨w.heap.size,0,none⟩)],.func (.method "Sync") #[dX p] #[]] 123);rw[zzv] at this;exact this
  have Q:W.heap[b.heap.size]?=some (.cells #[.slice (some ⟨g,0,none⟩) 15 15] 88):=by
   rw[c];exact(zzf _ _ _ (by simp)).trans (heap_alloc_new _ _)
  have U:W.heap[w.heap.size]?=some (.cells #[dX p] 167):=by
   rw[c];exact(zzf _ _ _ (by simp;omega)).trans ((zzf _ _ _ t).trans Z.out)
  have z:W.ownsRow (w.heap.size+1+1) 5 1 (.slice (some ⟨g,0,none⟩) 15 15) 15 (bs (bF first 0 [])):=by rw[c];exact(u.out.alloc _).alloc _
  have Y:=C.out;have:=Sw B p D N n f i w.heap.size b.heap.size g 15 (w.heap.size+1+1) (b.heap.size+1) first v d W (I.out.new G) hn x U (by rw[Y];exact Q) (by rw[Y];exact z) (by rw[Y];omega)
  exact zzb G (zzb U this)
 go_region_held3 (λw'=>w'.cell? ⟨w.heap.size,0,none⟩=some (dX p))
  (simp[*])
  (first|(go_at_call 120;refine(j _ rfl).2.2.mono ?_;rintro e m ⟨rfl,zD,gH⟩;have q:=j _ rfl;have M:m.cell? ⟨w.heap.size,0,none⟩=some (dX p):=(ae ((gH.block w.heap.size (zza.1 q.2.1).1 ((I.out.new q.1).iF q.2.1 (by decide) (by decide)) (by simp;omega)).trans q.2.1) 0).trans (by simp);have F:Hid (uC p w m):=((I.out.acJ q.1).x.trans gH).Su (by intro k y;simp at y;omega);have H:Hid (∃v f i,ax m B p D N v (d.cL first).1 (n+2) f i):=zD;clear q zD gH))
 all_goals clear j
 all_goals go_wp2
 all_goals go_ret
 all_goals exact⟨rfl,H.out,F.out⟩
end Go.Proofs.YtcalalndmcemiaaGreatDoor
