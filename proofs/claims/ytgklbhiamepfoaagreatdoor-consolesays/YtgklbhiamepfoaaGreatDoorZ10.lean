import Derived.Stop.Asserts
import Derived.Test.YtgklbhiamepfoaaGreatDoorZ9
set_option maxHeartbeats 16000000
set_option maxRecDepth 100000
namespace Go.Proofs.YtgklbhiamepfoaaGreatDoor
open Go renaming World->W_,Value->V_
open Go.Proofs.Tryz Mx
variable {w:W_}{Z X:Addr}{v:V_}{x:Int}
section
open Go.RowKit Go.Extern.Stop Go.Stop Go.Extern
theorem LK:Calls prog 62 #[Zn,v] w λe a=>e=Zv (Zl false)/\a=w:=by
 go_enter func62,ntmps62;go_wp2;go_ret;exact⟨rfl,rfl⟩
theorem EK:(ReflectliteValue.parts (.agg #[.pointer (some (7,116)),.pointer (some Z),.int .u64 150])).run prog w=.ok (some (116,Z,150)) w:=by kernel_rfl
theorem Mr(a p:Addr)(W:W_)(b:W.cell? a=some (.pointer (some p))): (ReflectliteValue.method (ReflectliteValue.valueError "reflectlite.Value.IsNil" 0) ReflectliteValue.isNil #[.agg #[.pointer (some (7,116)), .pointer (some a), .int .u64 150]]).run prog W = .ok (.bool false) W := by
 rw[show ∀z f v,ReflectliteValue.method z f #[v]=(ReflectliteValue.parts v>>=_) from λ_ _ _=>rfl];simp only[T7,EK,Result.andThen];simp[ReflectliteValue.isNil,loadVar,isAgg,underlying,Tryz.underlying116,b,Result.andThen]
theorem Kf:(Rtype.elem? 116).run prog w=.ok (some 70) w:=by kernel_rfl
theorem NU:(ReflectliteValue.mk 70 Z ReflectliteValue.flagAddr).run prog w=.ok (.agg #[.pointer (some (7,70)),.pointer (some Z),.int .u64 386]) w:=by kernel_rfl
theorem Mm(a p:Addr)(W:W_)(b:W.cell? a=some (.pointer (some p))): (ReflectliteValue.method (ReflectliteValue.valueError "reflectlite.Value.Elem" 0) ReflectliteValue.elem #[.agg #[.pointer (some (7,116)), .pointer (some a), .int .u64 150]]).run prog W = .ok (.agg #[.pointer (some (7,70)), .pointer (some p), .int .u64 386]) W := by
 rw[show ∀z f v,ReflectliteValue.method z f #[v]=(ReflectliteValue.parts v>>=_) from λ_ _ _=>rfl];simp only[T7,EK,Result.andThen];simp[ReflectliteValue.elem,loadVar,isAgg,underlying,Tryz.underlying116,b,Result.andThen,Kf,NU]
theorem KJ:(ReflectliteValue.parts (.agg #[.pointer (some (7,70)),.pointer (some Z),.int .u64 386])).run prog w=.ok (some (70,Z,386)) w:=by kernel_rfl
theorem ML:(ReflectliteValue.parts (.agg #[.pointer (some (7,70)),.pointer (some Z),.int .u64 130])).run prog w=.ok (some (70,Z,130)) w:=by kernel_rfl
theorem Nh:(Rtype.directlyAssignable 70 70).run prog w=.ok true w:=by kernel_rfl
theorem Ni(c:w.cell? X=Zb x)(d:w.cell? Z=v)(e:w.frozen? Z=false):
 (ReflectliteValue.set #[.agg #[.pointer (some (7,70)),.pointer (some Z),.int .u64 386],.agg #[.pointer (some (7,70)),.pointer (some X),.int .u64 130]]).run prog w=.ok (.tuple #[]) (w.setCell Z (.int .i64 x)):=by
 rw[show ∀b a,ReflectliteValue.set #[b,a]=(ReflectliteValue.parts b>>=λ_=>ReflectliteValue.parts a>>=_) from λ_ _=>rfl];simp only[T7,KJ,ML,Result.andThen];simp[ReflectliteValue.flagAddr,loadVar,isAgg,underlying,Tryz.underlying70,c,Result.andThen,Nh,storeVar,Value.cells,storeCells,Addr.add];rw[run_store prog w Z _ _ (by rfl)];simp[d,e]
theorem CD(e:Int)(f:w.cell? (0,0)=some (.iface 185 (.agg #[(7,38)])))(c:w.cell? Z=v)(g:w.frozen? Z=false):
 Calls prog 62 #[.iface 70 (.int .i64 e),.iface 116 (.pointer (some Z))] w fun j i=>j=.returned (.bool true)/\i=((((w.alloc (.cells #[.pointer (some Z)] 116)).alloc (.cells #[.pointer (some (7,116)),(w,0),.int .u64 150] 149)).alloc (.cells #[.pointer (some (7,116)),(w,0),.int .u64 150] 149)).alloc (.cells #[e] 70)).setCell Z (.int .i64 e):=by
 have N:=@run_callFunc_extern prog 86 _ (λk=>ReflectliteValue.unpack (k.getD 0 (.tuple #[]))) func86 (by kernel_rfl) (by kernel_rfl) (by kernel_rfl) (by kernel_rfl);have t := @run_callFunc_extern prog 87 _ (ReflectliteValue.methodAny (ReflectliteValue.valueError "reflectlite.Value.Type" 0) (λZ _ _ _ => ReflectliteType.toType Z)) func87 (by kernel_rfl) (by kernel_rfl) (by kernel_rfl) (by kernel_rfl);have L := @run_callFunc_extern prog 88 _ (ReflectliteValue.method (ReflectliteValue.valueError "reflectlite.Value.IsNil" 0) ReflectliteValue.isNil) func88 (by kernel_rfl) (by kernel_rfl) (by kernel_rfl) (by kernel_rfl);have J:=@run_callFunc_extern prog 272 _ (ReflectliteType.abiMethod λZ=>do pure (Za (<-Rtype.kind Z))) func272 (by kernel_rfl) (by kernel_rfl) (by kernel_rfl) (by kernel_rfl);have s:=@run_callFunc_extern prog 290 _ (ReflectliteType.method ReflectliteType.elem) func290 (by kernel_rfl) (by kernel_rfl) (by kernel_rfl) (by kernel_rfl);have z := @run_callFunc_extern prog 291 _ (ReflectliteType.relation "Implements" ReflectliteType.implements_) func291 (by kernel_rfl) (by kernel_rfl) (by kernel_rfl) (by kernel_rfl);have E:=@run_callFunc_extern prog 110 _ ReflectliteType.typeOf func110 (by kernel_rfl) (by kernel_rfl) (by kernel_rfl) (by kernel_rfl);have B := @run_callFunc_extern prog 288 _ (ReflectliteType.relation "AssignableTo" ReflectliteType.assignableTo) func288 (by kernel_rfl) (by kernel_rfl) (by kernel_rfl) (by kernel_rfl);have C := @run_callFunc_extern prog 111 _ (ReflectliteValue.method (ReflectliteValue.valueError "reflectlite.Value.Elem" 0) ReflectliteValue.elem) func111 (by kernel_rfl) (by kernel_rfl) (by kernel_rfl) (by kernel_rfl);have p:=@run_callFunc_extern prog 112 _ ReflectliteValue.set func112 (by kernel_rfl) (by kernel_rfl) (by kernel_rfl) (by kernel_rfl);have F:∀ (b:V_) (w:W_),(ReflectliteType.typeOf #[.iface 70 b]).run prog w=.ok (.iface 185 (.agg #[(7,70)])) w:=λ_ _=>by kernel_rfl
 have m : ∀ (h : V_) (w : W_), (Go.method 516 185 (.agg #[h]) "AssignableTo").run prog w = .ok (288, .agg #[h]) w := λ_ _ => by kernel_rfl
 have r : ∀ w : W_, (ReflectliteType.relation "AssignableTo" ReflectliteType.assignableTo #[.agg #[(7,70)], .iface 185 (.agg #[(7,70)])]).run prog w = .ok (Zl true) w := λ_ => by kernel_rfl
 have K:∀ (e:Int) (w:W_),(ReflectliteValue.unpack (Zf e)).run prog w=.ok (.agg #[(7,70),(w,0),.int .u64 130]) (w.alloc (.cells #[e] 70)):=λ_ _=>by kernel_rfl
 have q:∀ (Z:Addr) (w:W_),(ReflectliteValue.unpack (.iface 116 (.pointer (some Z)))).run prog w=.ok (.agg #[.pointer (some (7,116)),(w,0),.int .u64 150]) (w.alloc (.cells #[.pointer (some Z)] 116)):=fun _ _=>by kernel_rfl
 have u : ∀ (a : Addr) (w : W_), (ReflectliteValue.methodAny (ReflectliteValue.valueError "reflectlite.Value.Type" 0) (fun Z _ _ _ => ReflectliteType.toType Z) #[.agg #[.pointer (some (7,116)), .pointer (some a), .int .u64 150]]).run prog w = .ok (.iface 185 (.agg #[.pointer (some (7,116))])) w := fun _ _ => by kernel_rfl
 have y : ∀ (h : V_) (w : W_), (Go.method 516 185 (.agg #[h]) "Kind").run prog w = .ok (272, h) w := λ_ _ => by kernel_rfl
 have P : ∀ (h : V_) (w : W_), (Go.method 516 185 (.agg #[h]) "Elem").run prog w = .ok (290, .agg #[h]) w := λ_ _ => by kernel_rfl
 have I : ∀ (h : V_) (w : W_), (Go.method 516 185 (.agg #[h]) "Implements").run prog w = .ok (291, .agg #[h]) w := λ_ _ => by kernel_rfl
 have n:∀ w:W_,((ReflectliteType.abiMethod λZ=>(λa:Nat=>Value.int IntKind.u8 (a:Int)) <$> Rtype.kind Z) #[(7,116)]).run prog w=.ok (Za 22) w:=λ_=>by kernel_rfl
 have A:∀ w:W_,((ReflectliteType.abiMethod λZ=>(λa:Nat=>Value.int IntKind.u8 (a:Int)) <$> Rtype.kind Z) #[(7,70)]).run prog w=.ok (Za 2) w:=λ_=>by kernel_rfl
 have H:∀ w:W_,(ReflectliteType.method ReflectliteType.elem #[.agg #[.pointer (some (7,116))]]).run prog w=.ok (.iface 185 (.agg #[.pointer (some (7,70))])) w:=fun _=>by kernel_rfl
 have G : ∀ w : W_, (ReflectliteType.relation "Implements" ReflectliteType.implements_ #[.agg #[.pointer (some (7,70))], .iface 185 (.agg #[.pointer (some (7,38))])]).run prog w = .ok (.bool true) w := fun _ => by kernel_rfl
 have o:=Mr ⟨w.heap.size,0,none⟩ Z ((w.alloc (.cells #[.pointer (some Z)] 116)).alloc (.cells #[.pointer (some (7,116)),(w,0),.int .u64 150] 149)) (by simp);have l:0<w.heap.size:=by
  rcases Nat.eq_zero_or_pos w with h0|h
  ·simp[World.cell?,h0] at f
  ·exact h
 have O:((w.alloc (.cells #[.pointer (some Z)] 116)).alloc (.cells #[.pointer (some (7,116)),(w,0),.int .u64 150] 149)).cell? (0,0)=some (.iface 185 (.agg #[.pointer (some (7,38))])):=by
  rw[World.cell?_alloc_lt _ _ ⟨0,0,none⟩ (by simp),World.cell?_alloc_lt _ _ ⟨0,0,none⟩ l];exact f
 have d:Z.block<w.heap.size:=by
  rcases Nat.lt_or_ge Z.block w with h|h
  ·exact h
  ·simp[World.cell?,Array.getElem?_eq_none h] at c
 have D:=Mm ⟨w.heap.size,0,none⟩ Z (((w.alloc (.cells #[.pointer (some Z)] 116)).alloc (.cells #[.pointer (some (7,116)),(w,0),.int .u64 150] 149)).alloc (.cells #[.pointer (some (7,116)),(w,0),.int .u64 150] 149)) (by rw[World.cell?_alloc_lt _ _ ⟨w.heap.size,0,none⟩ (by simp;omega)];simp);have M:=Ni (Z:=Z) (X:=⟨w.heap.size+1+1+1,0,none⟩) (x:=e) (v:=v) (w:=(((w.alloc (.cells #[.pointer (some Z)] 116)).alloc (.cells #[.pointer (some (7,116)),(w,0),.int .u64 150] 149)).alloc (.cells #[.pointer (some (7,116)),(w,0),.int .u64 150] 149)).alloc (.cells #[e] 70))
  (by rw[World.cell?_alloc_at _ _ _ _ (by simp)];rfl)
  (by rw[World.cell?_alloc_lt _ _ Z (by simp;omega),World.cell?_alloc_lt _ _ Z (by simp;omega),World.cell?_alloc_lt _ _ Z (by simp;omega),World.cell?_alloc_lt _ _ Z d];exact c)
  (by rw[World.frozen?_alloc_old _ _ Z (by simp;omega),World.frozen?_alloc_old _ _ Z (by simp;omega),World.frozen?_alloc_old _ _ Z (by simp;omega),World.frozen?_alloc_old _ _ Z (Nat.ne_of_lt d)];exact g)
 go_enter func62,ntmps62;go_wp2;refine wp_loop_rounds 1 ?_;rw[rounds_succ];go_wp2;go_ret;exact⟨rfl,rfl⟩
def Hnd(w:W_):Prop:=w.cell? ⟨0,0,none⟩=some (.iface 185 (.agg #[(7,38)]))
theorem Hnd.lt(h:Hnd w):0<w.heap.size:=by
 rcases Tu w with h0|h1
 ·unfold Hnd at h;simp[World.cell?,h0] at h
 ·exact h1
theorem Hnd.later{w w':W_}{B:Nat}(h:Hnd w)(a:Below B w w')(h0:0<B):Hnd w':=(a.cell (p:=⟨0,0,none⟩) h0).trans h
theorem Jl(c:Hnd w):Calls prog 94 #[aJ x] w λe m=>e=Zv (Zb x)/\Hid (OS w m):=by
 have⟨W,b⟩:=ZX (w.alloc (.cells #[Zi] 70));have a:=beA b;have g:=bxA b;have k:=Y (c.later a c.lt);have h:W.cell? w=Zb 0:=g.cell 0;clear c;by_cases i:x=0
 ·subst i;rw[aQ];go_enter func94,ntmps94;go_upto_region 2 with fail;rw[<-b];go_wp2_with fail;refine(LK (w:=W)).mono ?_;rintro e d ⟨rfl,rfl⟩;go_wp2_with fail;go_ret;exact⟨rfl,a⟩
 ·rw[bJ i];have j:=g.frozen 0;go_enter func94,ntmps94;go_upto_region 2 with fail;rw[<-b];go_wp2_with fail;refine(CD x k h j).mono ?_;rintro e d ⟨rfl,f⟩;have n:d.cell? w=Zb x:=by
   rw[f];exact(Bx.set ((((g.alloc _).alloc _).alloc _).alloc _) 0 _).cell 0
  have l:=Y (show OS w d by
   rw[f];exact((((a.alloc a.size _).alloc (by simp;have:=a.size;omega) _).alloc (by simp;have:=a.size;omega) _).alloc (by simp;have:=a.size;omega) _).setCell (OJ w) _)
  clear f h j;go_wp2_with fail;go_ret;exact⟨rfl,l⟩
