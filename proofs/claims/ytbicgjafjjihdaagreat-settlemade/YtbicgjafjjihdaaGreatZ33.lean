/- Part. -/
import Derived.Deep.RegionLaw
import Derived.Test.YtbicgjafjjihdaaGreatZ32
set_option maxHeartbeats 16000000
set_option maxRecDepth 100000
namespace Go.Proofs.YtbicgjafjjihdaaGreat
open Go.RowKit
section
section
variable {X:Nat→Prop} {w0 w:World} {g:Nat} {ses base:Int} {q:List Fr} {want:Int} {ns:List (Bool × List Int)} {cm:List Int} {ok:Bool} {qa:Option Addr} {qn qc:Nat} {nv cv:Value}
end
theorem dM (kind:Int) (l:List Int) (n:Nat) (bs:List Int):0<(Mx.bd kind l n bs).length:=by
 rw[Mx.bd,Fy,Mx.gX];omega
end
end Go.Proofs.YtbicgjafjjihdaaGreat
