/- Part. -/
import Derived.LaidEql
import Derived.Stop.Asserts
import Derived.Test.YtbicgjafjjihdaaGreatDoorZ7
set_option maxHeartbeats 16000000
set_option maxRecDepth 100000
namespace Go.Proofs.YtbicgjafjjihdaaGreatDoor
section
open Go.RowKit Go.Extern.Stop Go.Stop Go.Extern
theorem El (t:Value) (w:World):Calls Tryz.prog 39 #[.nilIface,t] w fun e w'=>e=.returned (.bool false)∧w'=w:=by
 go_enter Tryz.func39,Tryz.ntmps39;go_wp2
 go_ret;exact⟨rfl,rfl⟩
theorem zp (a:Addr) (w:World):(ReflectliteValue.parts (.agg #[.pointer (some ⟨1,109,none⟩),.pointer (some a),.int .u64 150])).run Tryz.prog w=.ok (some (109,a,150)) w:=by kernel_rfl
theorem EP (a p : Addr) (W : World) (ha : W.cell? a = some (.pointer (some p))) : (ReflectliteValue.method (ReflectliteValue.valueError "reflectlite.Value.IsNil" 0) ReflectliteValue.isNil #[.agg #[.pointer (some ⟨1, 109, none⟩), .pointer (some a), .int .u64 150]]).run Tryz.prog W = .ok (.bool false) W := by
 rw[show ∀ z f v,ReflectliteValue.method z f #[v]=(ReflectliteValue.parts v >>= _) from fun _ _ _=>rfl];simp only[Sem.run_bind,zp,Result.andThen];simp[ReflectliteValue.isNil,loadVar,isAgg,underlying,Tryz.underlying109,ha,Result.andThen]
theorem CW (w:World):(Rtype.elem? 109).run Tryz.prog w=.ok (some 28) w:=by kernel_rfl
theorem FO (p:Addr) (w:World):(ReflectliteValue.mk 28 p ReflectliteValue.flagAddr).run Tryz.prog w=.ok (.agg #[.pointer (some ⟨1,28,none⟩),.pointer (some p),.int .u64 386]) w:=by kernel_rfl
theorem EK (a p : Addr) (W : World) (ha : W.cell? a = some (.pointer (some p))) : (ReflectliteValue.method (ReflectliteValue.valueError "reflectlite.Value.Elem" 0) ReflectliteValue.elem #[.agg #[.pointer (some ⟨1, 109, none⟩), .pointer (some a), .int .u64 150]]).run Tryz.prog W = .ok (.agg #[.pointer (some ⟨1, 28, none⟩), .pointer (some p), .int .u64 386]) W := by
 rw[show ∀ z f v,ReflectliteValue.method z f #[v]=(ReflectliteValue.parts v >>= _) from fun _ _ _=>rfl];simp only[Sem.run_bind,zp,Result.andThen];simp[ReflectliteValue.elem,loadVar,isAgg,underlying,Tryz.underlying109,ha,Result.andThen,CW,FO]
theorem Du (a:Addr) (w:World):(ReflectliteValue.parts (.agg #[.pointer (some ⟨1,28,none⟩),.pointer (some a),.int .u64 386])).run Tryz.prog w=.ok (some (28,a,386)) w:=by kernel_rfl
theorem Fe (a:Addr) (w:World):(ReflectliteValue.parts (.agg #[.pointer (some ⟨1,28,none⟩),.pointer (some a),.int .u64 130])).run Tryz.prog w=.ok (some (28,a,130)) w:=by kernel_rfl
theorem Fp (w:World):(Rtype.directlyAssignable 28 28).run Tryz.prog w=.ok true w:=by kernel_rfl
theorem Fq (ta b:Addr) (e:Int) (old:Value) (W:World) (hb:W.cell? b=some (.int .i64 e)) (ht:W.cell? ta=some old) (hf:W.frozen? ta=false) :
 (ReflectliteValue.set #[.agg #[.pointer (some ⟨1,28,none⟩),.pointer (some ta),.int .u64 386],.agg #[.pointer (some ⟨1,28,none⟩),.pointer (some b),.int .u64 130]]).run Tryz.prog W=.ok (.tuple #[]) (W.setCell ta (.int .i64 e)):=by
 rw[show ∀ v x,ReflectliteValue.set #[v,x]=(ReflectliteValue.parts v >>= fun _=>ReflectliteValue.parts x >>= _) from fun _ _=>rfl];simp only[Sem.run_bind,Du,Fe,Result.andThen];simp[ReflectliteValue.flagAddr,loadVar,isAgg,underlying,Tryz.underlying28,hb,Result.andThen,Fp,storeVar,Value.cells,storeCells,Addr.add];rw[run_store Tryz.prog W ta _ _ (by rfl)];simp[ht,hf]
theorem Ek (e:Int) (t:Addr) (old:Value) (w:World) (hg:w.cell? ⟨0,0,none⟩=some (.iface 190 (.agg #[.pointer (some ⟨1,25,none⟩)]))) (ht0:w.cell? t=some old) (hf0:w.frozen? t=false) :
 Calls Tryz.prog 39 #[.iface 28 (.int .i64 e),.iface 109 (.pointer (some t))] w fun ev w'=>ev=.returned (.bool true)∧w'=((((w.alloc (.cells #[.pointer (some t)] 109)).alloc (.cells #[.pointer (some ⟨1,109,none⟩),.pointer (some ⟨w.heap.size,0,none⟩),.int .u64 150] 143)).alloc (.cells #[.pointer (some ⟨1,109,none⟩),.pointer (some ⟨w.heap.size,0,none⟩),.int .u64 150] 143)).alloc (.cells #[.int .i64 e] 28)).setCell t (.int .i64 e):=by
 have h6:=@run_callFunc_extern Tryz.prog 61 _ (fun args=>ReflectliteValue.unpack (args.getD 0 (.tuple #[]))) Tryz.func61 (by kernel_rfl) (by kernel_rfl) (by kernel_rfl) (by kernel_rfl);have h7 := @run_callFunc_extern Tryz.prog 62 _ (ReflectliteValue.methodAny (ReflectliteValue.valueError "reflectlite.Value.Type" 0) (fun t _ _ _ => ReflectliteType.toType t)) Tryz.func62 (by kernel_rfl) (by kernel_rfl) (by kernel_rfl) (by kernel_rfl);have h8 := @run_callFunc_extern Tryz.prog 63 _ (ReflectliteValue.method (ReflectliteValue.valueError "reflectlite.Value.IsNil" 0) ReflectliteValue.isNil) Tryz.func63 (by kernel_rfl) (by kernel_rfl) (by kernel_rfl) (by kernel_rfl);have h27:=@run_callFunc_extern Tryz.prog 180 _ (ReflectliteType.abiMethod fun t=>do pure (.int .u8 (←Rtype.kind t))) Tryz.func180 (by kernel_rfl) (by kernel_rfl) (by kernel_rfl) (by kernel_rfl);have h37:=@run_callFunc_extern Tryz.prog 191 _ (ReflectliteType.method ReflectliteType.elem) Tryz.func191 (by kernel_rfl) (by kernel_rfl) (by kernel_rfl) (by kernel_rfl);have h38 := @run_callFunc_extern Tryz.prog 192 _ (ReflectliteType.relation "Implements" ReflectliteType.implements_) Tryz.func192 (by kernel_rfl) (by kernel_rfl) (by kernel_rfl) (by kernel_rfl);have h10:=@run_callFunc_extern Tryz.prog 102 _ ReflectliteType.typeOf Tryz.func102 (by kernel_rfl) (by kernel_rfl) (by kernel_rfl) (by kernel_rfl);have h35 := @run_callFunc_extern Tryz.prog 189 _ (ReflectliteType.relation "AssignableTo" ReflectliteType.assignableTo) Tryz.func189 (by kernel_rfl) (by kernel_rfl) (by kernel_rfl) (by kernel_rfl);have h11 := @run_callFunc_extern Tryz.prog 103 _ (ReflectliteValue.method (ReflectliteValue.valueError "reflectlite.Value.Elem" 0) ReflectliteValue.elem) Tryz.func103 (by kernel_rfl) (by kernel_rfl) (by kernel_rfl) (by kernel_rfl);have h12:=@run_callFunc_extern Tryz.prog 104 _ ReflectliteValue.set Tryz.func104 (by kernel_rfl) (by kernel_rfl) (by kernel_rfl) (by kernel_rfl);have tO:∀ (v:Value) (w:World),(ReflectliteType.typeOf #[.iface 28 v]).run Tryz.prog w=.ok (.iface 190 (.agg #[.pointer (some ⟨1,28,none⟩)])) w:=fun _ _=>by kernel_rfl
 have mA : ∀ (h : Value) (w : World), (Go.method 426 190 (.agg #[h]) "AssignableTo").run Tryz.prog w = .ok (189, .agg #[h]) w := fun _ _ => by kernel_rfl
 have a25 : ∀ w : World, (ReflectliteType.relation "AssignableTo" ReflectliteType.assignableTo #[.agg #[.pointer (some ⟨1, 28, none⟩)], .iface 190 (.agg #[.pointer (some ⟨1, 28, none⟩)])]).run Tryz.prog w = .ok (.bool true) w := fun _ => by kernel_rfl
 have Kg:∀ (e:Int) (w:World),(ReflectliteValue.unpack (.iface 28 (.int .i64 e))).run Tryz.prog w=.ok (.agg #[.pointer (some ⟨1,28,none⟩),.pointer (some ⟨w.heap.size,0,none⟩),.int .u64 130]) (w.alloc (.cells #[.int .i64 e] 28)):=fun _ _=>by kernel_rfl
 have f6:∀ (t:Addr) (w:World),(ReflectliteValue.unpack (.iface 109 (.pointer (some t)))).run Tryz.prog w=.ok (.agg #[.pointer (some ⟨1,109,none⟩),.pointer (some ⟨w.heap.size,0,none⟩),.int .u64 150]) (w.alloc (.cells #[.pointer (some t)] 109)):=fun _ _=>by kernel_rfl
 have f7 : ∀ (a : Addr) (w : World), (ReflectliteValue.methodAny (ReflectliteValue.valueError "reflectlite.Value.Type" 0) (fun t _ _ _ => ReflectliteType.toType t) #[.agg #[.pointer (some ⟨1, 109, none⟩), .pointer (some a), .int .u64 150]]).run Tryz.prog w = .ok (.iface 190 (.agg #[.pointer (some ⟨1, 109, none⟩)])) w := fun _ _ => by kernel_rfl
 have mK : ∀ (h : Value) (w : World), (Go.method 426 190 (.agg #[h]) "Kind").run Tryz.prog w = .ok (180, h) w := fun _ _ => by kernel_rfl
 have mE : ∀ (h : Value) (w : World), (Go.method 426 190 (.agg #[h]) "Elem").run Tryz.prog w = .ok (191, .agg #[h]) w := fun _ _ => by kernel_rfl
 have mI : ∀ (h : Value) (w : World), (Go.method 426 190 (.agg #[h]) "Implements").run Tryz.prog w = .ok (192, .agg #[h]) w := fun _ _ => by kernel_rfl
 have k27:∀ w:World,((ReflectliteType.abiMethod fun t=>(fun a:Nat=>Value.int IntKind.u8 (a:Int)) <$> Rtype.kind t) #[.pointer (some ⟨1,109,none⟩)]).run Tryz.prog w=.ok (.int .u8 22) w:=fun _=>by kernel_rfl
 have k25:∀ w:World,((ReflectliteType.abiMethod fun t=>(fun a:Nat=>Value.int IntKind.u8 (a:Int)) <$> Rtype.kind t) #[.pointer (some ⟨1,28,none⟩)]).run Tryz.prog w=.ok (.int .u8 2) w:=fun _=>by kernel_rfl
 have e27:∀ w:World,(ReflectliteType.method ReflectliteType.elem #[.agg #[.pointer (some ⟨1,109,none⟩)]]).run Tryz.prog w=.ok (.iface 190 (.agg #[.pointer (some ⟨1,28,none⟩)])) w:=fun _=>by kernel_rfl
 have i25 : ∀ w : World, (ReflectliteType.relation "Implements" ReflectliteType.implements_ #[.agg #[.pointer (some ⟨1, 28, none⟩)], .iface 190 (.agg #[.pointer (some ⟨1, 25, none⟩)])]).run Tryz.prog w = .ok (.bool true) w := fun _ => by kernel_rfl
 have n8:=EP ⟨w.heap.size,0,none⟩ t ((w.alloc (.cells #[.pointer (some t)] 109)).alloc (.cells #[.pointer (some ⟨1,109,none⟩),.pointer (some ⟨w.heap.size,0,none⟩),.int .u64 150] 143)) (by simp);have hlt:0<w.heap.size:=by
  rcases Nat.eq_zero_or_pos w.heap.size with h0|h
  ·simp[World.cell?,h0] at hg
  ·exact h
 have hg2:((w.alloc (.cells #[.pointer (some t)] 109)).alloc (.cells #[.pointer (some ⟨1,109,none⟩),.pointer (some ⟨w.heap.size,0,none⟩),.int .u64 150] 143)).cell? ⟨0,0,none⟩=some (.iface 190 (.agg #[.pointer (some ⟨1,25,none⟩)])):=by
  rw[World.cell?_alloc_lt _ _ ⟨0,0,none⟩ (by simp),World.cell?_alloc_lt _ _ ⟨0,0,none⟩ hlt];exact hg
 have htl:t.block<w.heap.size:=by
  rcases Nat.lt_or_ge t.block w.heap.size with h|h
  ·exact h
  ·simp[World.cell?,Array.getElem?_eq_none h] at ht0
 have el:=EK ⟨w.heap.size,0,none⟩ t (((w.alloc (.cells #[.pointer (some t)] 109)).alloc (.cells #[.pointer (some ⟨1,109,none⟩),.pointer (some ⟨w.heap.size,0,none⟩),.int .u64 150] 143)).alloc (.cells #[.pointer (some ⟨1,109,none⟩),.pointer (some ⟨w.heap.size,0,none⟩),.int .u64 150] 143)) (by rw[World.cell?_alloc_lt _ _ ⟨w.heap.size,0,none⟩ (by simp;omega)];simp);have st:=Fq t ⟨w.heap.size+1+1+1,0,none⟩ e old ((((w.alloc (.cells #[.pointer (some t)] 109)).alloc (.cells #[.pointer (some ⟨1,109,none⟩),.pointer (some ⟨w.heap.size,0,none⟩),.int .u64 150] 143)).alloc (.cells #[.pointer (some ⟨1,109,none⟩),.pointer (some ⟨w.heap.size,0,none⟩),.int .u64 150] 143)).alloc (.cells #[.int .i64 e] 28))
  (by rw[World.cell?_alloc_at _ _ _ _ (by simp)];rfl)
  (by rw[World.cell?_alloc_lt _ _ t (by simp;omega),World.cell?_alloc_lt _ _ t (by simp;omega),World.cell?_alloc_lt _ _ t (by simp;omega),World.cell?_alloc_lt _ _ t htl];exact ht0)
  (by rw[World.frozen?_alloc_old _ _ t (by simp;omega),World.frozen?_alloc_old _ _ t (by simp;omega),World.frozen?_alloc_old _ _ t (by simp;omega),World.frozen?_alloc_old _ _ t (Nat.ne_of_lt htl)];exact hf0)
 go_enter Tryz.func39,Tryz.ntmps39;go_wp2
 refine wp_loop_rounds 1 ?_;rw[rounds_succ];go_wp2
 go_ret;exact⟨rfl,rfl⟩
def Hnd (w:World):Prop:=w.cell? ⟨0,0,none⟩=some (.iface 190 (.agg #[.pointer (some ⟨1,25,none⟩)]))
theorem Hnd.lt {w:World} (h:Hnd w):0<w.heap.size:=by
 rcases Nat.eq_zero_or_pos w.heap.size with h0|h1
 ·unfold Hnd at h
  simp[World.cell?,h0] at h
 ·exact h1
theorem Hnd.later {w w':World} {B:Nat} (h:Hnd w) (hb:Below B w w') (h0:0<B):Hnd w':=(hb.cell (p:=⟨0,0,none⟩) h0).trans h
theorem Cg (E:Int) (w:World) (hg:Hnd w):Calls Tryz.prog 19 #[bt E] w fun e w'=>e=.returned (.int .i64 E)∧Hid (Gq w w'):=by
 obtain⟨W,hW⟩:∃ W:World,Hid (W=w.alloc (.cells #[.int .i64 0] 28)):=⟨_,rfl⟩
 have B1:=beA hW;have X1:=bxA hW;have HG:=aa (hg.later B1.o hg.lt);have y0:W.cell? ⟨w.heap.size,0,none⟩=some (.int .i64 0):=X1.o.cell 0;clear hg;by_cases h:E=0
 ·subst h
  rw[aG];go_enter Tryz.func19,Tryz.ntmps19;go_upto_region 2 with fail
  rw[←hW.o];go_wp2_with fail;refine(El _ W).mono ?_;rintro e w2 ⟨rfl,rfl⟩;go_wp2_with fail;go_ret;exact⟨rfl,B1⟩
 ·rw[aZ h]
  have XF:=X1.o.frozen 0;go_enter Tryz.func19,Tryz.ntmps19;go_upto_region 2 with fail
  rw[←hW.o];go_wp2_with fail;refine(Ek E ⟨w.heap.size,0,none⟩ (.int .i64 0) W HG.o y0 XF).mono ?_;rintro e w2 ⟨rfl,hw2⟩;have X2:w2.cell? ⟨w.heap.size,0,none⟩=some (.int .i64 E):=by
   rw[hw2];exact(Bx.set ((((X1.o.alloc _).alloc _).alloc _).alloc _) 0 _).cell 0
  have B2:=aa (show Gq w w2 by
   rw[hw2];exact((((B1.o.alloc B1.o.size _).alloc (by simp;have:=B1.o.size;omega) _).alloc (by simp;have:=B1.o.size;omega) _).alloc (by simp;have:=B1.o.size;omega) _).setCell (Gi w.heap.size) _)
  clear hw2 y0 XF;go_wp2_with fail;go_ret;exact⟨rfl,B2⟩
end
end Go.Proofs.YtbicgjafjjihdaaGreatDoor
