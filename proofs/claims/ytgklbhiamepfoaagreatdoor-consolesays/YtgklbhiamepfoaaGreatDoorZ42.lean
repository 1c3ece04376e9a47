import Derived.Lay
import Derived.Test.YtgklbhiamepfoaaGreatDoorZ41
set_option maxHeartbeats 16000000
set_option maxRecDepth 100000
namespace Go.Proofs.YtgklbhiamepfoaaGreatDoor
open Go.Proofs.Tryz Mx
variable {Z:Array Value}{w:World}
section
open Go.ChangeShapes Go.WideShapes Go.ChangeAt Go.RowKit
noncomputable def uS (os:Os):World :=
 let w0:=World.laidAll Tryz.prog os (Rows.consoleSaysRow.laid.filter fun x=>x.2.handleName?.isNone)
 {w0 with heap:=w0.heap.modify 0 fun
  | .cells _ t frozen => .cells #[.iface 185 (.agg #[.pointer (some ⟨7, 38, none⟩)])] t frozen
  | o => o }
theorem Nq(a:Os):laidMet prog (Rows.consoleSaysRow.laid.filter λx=>x.2.handleName?.isNone) ((uS a).forCall (λ_ _=>0) ⟨#[],Z,[]⟩).memory:=
 laidMet_of_run' 8 (by kernel_rfl) (by kernel_rfl)
theorem Nr(a:Os):(Rows.consoleSaysRow.laid.filter λx=>x.2.handleName?.isSome).all (handleAtB prog ((uS a).forCall (λ_ _=>0) ⟨#[],Z,[]⟩).memory)=true:=by kernel_rfl
theorem DM(a:Os):laidMetH prog Rows.consoleSaysRow.laid ((uS a).forCall (λ_ _=>0) ⟨#[],Z,[]⟩).memory:=
 laidMetH_of_parts (Nq a (Z:=Z)) (Nr a (Z:=Z))
theorem wC(h:w.ShapedOpen prog):∃m,w.cell? (1,0)=Zb m:=
 cell_of_shapedOpen_int (t:=3) (zero:=#[Zi]) h (UT (by kernel_rfl)) (by kernel_rfl) rfl (by kernel_rfl) (by kernel_rfl) Tryz.underlying3
theorem uL(h:w.ShapedOpen prog):7<=w.heap.size:=by
 obtain⟨x,a⟩:∃x,((begin prog (λ_ _=>0) default).world.heap[6]?).bind Obj.row?=some x:=Option.isSome_iff_exists.1 (by kernel_rfl);obtain⟨c,b,-⟩:=h.1 6 x.1 x.2 (UT (by kernel_rfl)) a;exact(co.1 b).1
theorem AG(h:laidMetH prog Rows.consoleSaysRow.laid w)(hs:w.ShapedOpen prog):Gv w:=
 ⟨yh h,wC hs,yK h,uL hs⟩
