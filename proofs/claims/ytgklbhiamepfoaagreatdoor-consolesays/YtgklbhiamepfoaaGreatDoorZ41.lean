import Derived.ProofKit
import Derived.LaidMore
import Derived.OpenShut
import Derived.Test.YtgklbhiamepfoaaGreatDoorCards
import Derived.Test.YtgklbhiamepfoaaGreatDoorTie
import Derived.Test.YtgklbhiamepfoaaGreatDoorZ40
set_option maxHeartbeats 16000000
set_option maxRecDepth 100000
namespace Go.Proofs.YtgklbhiamepfoaaGreatDoor
open Go.Proofs.Tryz Mx
variable {w:World}
section
open Go.ChangeShapes Go.WideShapes Go.ChangeAt Go.RowKit
theorem Tryz.et: prog.globalNamed "errors.errorType" = some 0 := by kernel_rfl
theorem Tryz.rt:(prog.cutTypes.find? (·.1== "internal/reflectlite.rtype")).map (·.2)=some 185:=by kernel_rfl
theorem Tryz.oneRow:((List.range prog.types.size).filter λt=>prog.rowNamed t [101,114,114,111,114])=[38]:=by kernel_rfl
theorem we:(Rows.consoleSaysRow.laid.filter λx=>x.2.handleName?.isSome)=[("errors.errorType",Rows.laid_errors_errorType)]:=by rfl
theorem Hu:((Rows.consoleSaysRow.laid.filter λx=>x.2.handleName?.isNone).filter λx=>x.1== "internal/strconv.uint64pow10")=[("internal/strconv.uint64pow10",Lib.tabData .u64 Lib.pow10Tab)]:=by rfl
theorem yh(h:laidMetH prog Rows.consoleSaysRow.laid w):Hnd w:=by
 have a:=(laidMetH_iff.1 h).2;rw[we] at a;have⟨l,u,d,e,i,k,g,b⟩:=a _ (i5.2 rfl);have j:l=[101,114,114,111,114]:=(OG e).symm;subst j;obtain rfl:=OG (Tryz.rt.symm.trans i);have c:d∈(List.range prog.types.size).filter λt=>prog.rowNamed t [101,114,114,111,114]:=Ur.2 ⟨IR.2 k,g⟩
 rw[Tryz.oneRow] at c;obtain rfl:=i5.1 c;have f:typeHandle prog 38=(7,38):=by kernel_rfl
 rw[f] at b;unfold Hnd;simpa using World.var?_cell Tryz.et b 0
theorem yK(h:laidMetH prog Rows.consoleSaysRow.laid w): Lib.TabIs prog w "internal/strconv.uint64pow10" .u64 Lib.pow10Tab := by
 have a:=(laidMetH_iff.1 h).1.filter (λx=>x.1== "internal/strconv.uint64pow10");rw[Hu] at a;exact Lib.tabIs_of_head (g := (prog.globalNamed "internal/strconv.uint64pow10").getD 0) (t := 246) (e := 83) (n := 20) (by kernel_rfl) (by kernel_rfl) (by kernel_rfl) (by kernel_rfl) (by kernel_rfl) (by kernel_rfl) a
