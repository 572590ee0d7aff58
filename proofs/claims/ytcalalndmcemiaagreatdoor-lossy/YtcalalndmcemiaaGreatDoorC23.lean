import Derived.Test.YtcalalndmcemiaaGreatDoorC10
set_option maxHeartbeats 1000000
set_option maxRecDepth 100000
namespace Go.Proofs.YtcalalndmcemiaaGreatDoor
open Go.RowKit Go.Maps Tryz Sc
theorem yK(k f t x:Nat)(w:World)(hs:eX k f t x=true)(R:k<=8)(hf:f<=8)(T:t<=8)(d:x<18446744073709551616):
  Calls prog 114 #[.agg #[.int .i64 k,.int .i64 f,.int .i64 t,.int .u64 x]] w λe w'=>∃g,e=.returned (.tuple #[.slice (some ⟨g,0,none⟩) 15 15,.nilIface])/\w'.ownsRow w.heap.size 5 1 (.slice (some ⟨g,0,none⟩) 15 15) 15 (bs<|kH k f t x)/\Below w.heap.size w w':=by
 have X:=af d;clear d;obtain⟨B,u,v,y,z⟩:=info_parts pV;have F:∀(x:Bool) (w:World),(Op.unary .not<|.bool x).run prog w=.ok (.bool<|!x) w:=λ_ _=>rfl
 go_enter func114,ntmps114
 go_wp2_with (first|(go_at_call 155;refine(rN _ _ _ _ _).mono ?_;rintro e w' ⟨rfl,rfl⟩)|(at_make;apply wpList_make_own _ rfl _ _ 88 rfl (w.heap.size+1+1) 5 B (.int .u8 0) 1 underlying88 u v y .i64 .i64 _ 15 rfl rfl rfl (by rw[z];decide) bM bR;intro l E A;have j:=KP A bR;have G:=V8 E;clear E));have I:=X;have N:((w.alloc<|fk k f t x).alloc<|fk k f t x).grownBy l none:=eC
 have L:=(kp (xs:=[]) G).2;have C:Hid (Below w.heap.size w l):=(((zzD _ _).alloc (zzc _) _).alloc bR _).grown N cE (λq h=>by cases h);clear A N;apply(BV (w.heap.size+1+1) _ 0 15 [] k _ G bL bL).mono;rintro e m ⟨rfl,gH,fc⟩;have c:∀i,m.cell? ⟨w.heap.size,i,none⟩=(w.alloc<|fk k f t x).cell? ⟨w.heap.size,i,none⟩:=λi=>(jt fc bL cE i).trans<|j i
 have D:Hid (Below w.heap.size w m):=C.out.grown fc bL (λq h=>by cases h;omega);have M:=(kp gH).2;clear j G fc;go_wp2_with fail;apply(BV (w.heap.size+1+1) _ 1 15 _ f _ gH bL bL).mono;rintro e n ⟨rfl,pN,hU⟩;have Q:∀i,n.cell? ⟨w.heap.size,i,none⟩=(w.alloc<|fk k f t x).cell? ⟨w.heap.size,i,none⟩:=λi=>(jt hU bL cE i).trans<|c i
 have s:Hid (Below w.heap.size w n):=D.out.grown hU bL (λq h=>by cases h;omega);have P:=(kp pN).2;clear c gH hU;go_wp2_with fail;apply(BV (w.heap.size+1+1) _ 2 15 _ t _ pN bL bL).mono;rintro e o ⟨rfl,kq,j8⟩;have O:∀i,o.cell? ⟨w.heap.size,i,none⟩=(w.alloc<|fk k f t x).cell? ⟨w.heap.size,i,none⟩:=λi=>(jt j8 bL cE i).trans<|Q i
 have S:Hid (Below w.heap.size w o):=s.out.grown j8 bL (λq h=>by cases h;omega);have J:=(kp kq).2;clear Q pN j8;go_wp2_with fail;apply(Jn (w.heap.size+1+1) _ 3 15 _ x _ kq bL X.out).mono;rintro e a ⟨rfl,xg,pB⟩;have H:Hid (Below w.heap.size w a):=S.out.grown pB bL (λq h=>by cases h;omega);have K:=(kp xg).2;have b:a.ownsRow (w.heap.size+1+1) 5 1 (.slice (some ⟨w.heap.size+1+1,0,none⟩) 11 15) 11 (bs<|jL k f t x):=by
  have e:((([]++be 1 k)++be 1 f)++be 1 t)++be 8 x=jL k f t x:=by
   unfold jL;simp[be,digit,List.range_succ];omega
  rw[e]at xg;exact xg
 clear O kq pB xg;go_wp2_with fail;apply(DN (w.heap.size+1+1) a.heap.size (w.heap.size+1+1) 11 15 false (jL k f t x) _ (uL a) bL (b.alloc _) (pZ k f t x bL bL bL) bL bL).mono;rintro e p ⟨rfl,Z3,xO⟩;have Z:Hid (Below w.heap.size w p):=(H.out.alloc bL _).trans (xO w.heap.size bL bL);have r:Hid (p.ownsRow w.heap.size 5 1 (.slice (some ⟨w.heap.size+1+1,0,none⟩) 15 15) 15<|bs<|kH k f t x):=ep Z3 (by omega);clear Z3 xO b;go_wp2;go_ret2;exact⟨w.heap.size+1+1,rfl,r.out,Z.out⟩
end Go.Proofs.YtcalalndmcemiaaGreatDoor
