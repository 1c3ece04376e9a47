/- Part. -/
import Derived.ChangeKeysEq
import Derived.Test.YtbicgjafjjihdaaGreatDoorZ2
set_option maxHeartbeats 16000000
set_option maxRecDepth 100000
namespace Go.Proofs.YtbicgjafjjihdaaGreatDoor
open Go.RowKit
section
theorem Aj (n:Nat) (xs ys:List Int) (hx:xs.length=n) (hy:ys.length=n):((List.range n).all fun i=>xs.getD i 0==ys.getD i 0)=decide (xs=ys):=by
 rw[Bool.eq_iff_iff];simp only[List.all_eq_true,List.mem_range,beq_iff_eq,decide_eq_true_eq];constructor
 ·intro h
  apply List.ext_getElem (by omega);intro i h1 h2;have:=h i (by omega);rw[Ga,Ga,F0 h1,F0 h2] at this;simpa using this
 ·rintro rfl i _
  rfl
section
variable {P:Program} (w:World)
theorem l5 (d:Nat) {e:TypeId} (he:P.underlying e=some (.int .u8)) (xs ys:List Int) (is:List Nat) (h:∀ i∈is,i<xs.length∧i<ys.length) :
 (Op.eqItems (d+1) e 1 (xs.map (Value.int .u8)).toArray (ys.map (Value.int .u8)).toArray is).run P w=.ok (is.all fun i=>xs.getD i 0==ys.getD i 0) w:=by
 induction is with
 | nil => simp [Op.eqItems]
 | cons i is ih =>
  obtain⟨h1,h2⟩:=h i (by simp);have px:(part e (xs.map (Value.int .u8)).toArray (i*1)).run P w=.ok (.int .u8 (xs.getD i 0)) w:=by
   simp[part,isAgg,run_underlying he,List.getD_eq_getElem?_getD,List.getElem?_eq_getElem h1]
  have py:(part e (ys.map (Value.int .u8)).toArray (i*1)).run P w=.ok (.int .u8 (ys.getD i 0)) w:=by
   simp[part,isAgg,run_underlying he,List.getD_eq_getElem?_getD,List.getElem?_eq_getElem h2]
  simp only[Op.eqItems,Sem.run_bind,px,py,Result.andThen_ok,run_equalIn_int w d e .u8 .u8 _ _ he,List.all_cons];cases hb:(xs.getD i 0==ys.getD i 0)
  ·simp
  ·simp only[Bool.not_true,Bool.false_eq_true,if_false,Bool.true_and]
   exact ih fun j hj=>h j (by simp[hj])
theorem jA (t e:TypeId) (n:Nat) (i:TypeInfo) (ht:P.underlying t=some (.array n e)) (he:P.underlying e=some (.int .u8)) (hi:P.info? e=some i) (hc:P.cellsOf e=1) (xs ys:List Int) (hx:xs.length=n) (hy:ys.length=n) :
 (Op.equal t (.agg (xs.map (Value.int .u8)).toArray) (.agg (ys.map (Value.int .u8)).toArray)).run P w=.ok (decide (xs=ys)) w:=by
 unfold Op.equal Op.maxDepth;rw[run_equalIn_array w 9999 _ _ ht hi,hc,l5 w 9998 he xs ys _ (fun i hi=>by have:=List.mem_range.1 hi;omega),Aj n xs ys hx hy]
end
theorem Tryz.cellsOf5:Tryz.prog.cellsOf 5=1:=by kernel_rfl
theorem eZ (z0 z1 z2 z3 z4 z5 z6 z7 y0 y1 y2 y3 y4 y5 y6 y7:Int) (W:World) :
 (Op.equalIn 10000 33 (.agg #[.int .u8 z0,.int .u8 z1,.int .u8 z2,.int .u8 z3,.int .u8 z4,.int .u8 z5,.int .u8 z6,.int .u8 z7]) (.agg #[.int .u8 y0,.int .u8 y1,.int .u8 y2,.int .u8 y3,.int .u8 y4,.int .u8 y5,.int .u8 y6,.int .u8 y7])).run Tryz.prog W=.ok (decide ([z0,z1,z2,z3,z4,z5,z6,z7]=[y0,y1,y2,y3,y4,y5,y6,y7])) W:=by
 obtain⟨i0,hi,_⟩:=info_parts Tryz.info5;exact jA W 33 5 8 i0 Tryz.underlying33 Tryz.underlying5 hi Tryz.cellsOf5 [z0,z1,z2,z3,z4,z5,z6,z7] [y0,y1,y2,y3,y4,y5,y6,y7] rfl rfl
end
end Go.Proofs.YtbicgjafjjihdaaGreatDoor
