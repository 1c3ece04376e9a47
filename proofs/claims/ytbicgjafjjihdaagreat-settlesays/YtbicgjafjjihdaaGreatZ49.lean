/- Part. -/
import Derived.ProofKit
import Derived.OpenShut
import Derived.ChangeOld
import Derived.Deep.Slices
import Derived.Lib.SmallJoins
import Derived.Test.YtbicgjafjjihdaaGreatZ2
set_option maxHeartbeats 16000000
set_option maxRecDepth 100000
namespace Go.Proofs.YtbicgjafjjihdaaGreat
section
open Go.ChangeShapes Go.WideShapes Go.ChangeAt Go.RowKit
theorem Tryz.own:ownKnob Tryz.prog.godebug=none:=by kernel_rfl
theorem Tryz.laidOut:laidOutB Tryz.prog=true:=by kernel_rfl
theorem Tryz.cells3:Tryz.prog.cellsOf 3=1:=by kernel_rfl
theorem Tryz.cells5:Tryz.prog.cellsOf 5=1:=by kernel_rfl
theorem Tryz.cells25:Tryz.prog.cellsOf 25=8:=by kernel_rfl
section
variable {H:Type} {enc:TypeId × Value→H} {W:World}
theorem xy {x:Addr} {v:Value} (h:W.cell? (x.add 0)=some v):∃ b off,x=⟨b,off,none⟩∧b<W.heap.size:=by
 obtain⟨b,off,spot⟩:=x;have hs:spot=none:=by simpa [Addr.add] using World.cell?_spot h
 subst hs;exact⟨b,off,rfl,by simpa [Addr.add] using World.block_lt_of_cell? W _ h⟩
theorem Ax (b off i:Nat):(⟨b,off,none⟩:Addr).add i=⟨b,off+i,none⟩:=by
 unfold Addr.add;by_cases h:i=0<;>simp[h]
theorem od {fuel:Nat} {cs:List Value} {x:DataW H × List MemPlace} (h:DataW.trod enc Tryz.prog W 0 (fun _=>true) true fuel 25 cs=some x) :
 ∀ j,j<8→∃ z:Int,cs[j]?=some (.int .u8 z)∧0≤z∧z≤255:=by
 obtain⟨xs,m,_,_,hl,hx,hr⟩:=DataW.trod_array Tryz.underlying25 h;rw[Tryz.cells25] at hl;intro j hj;have h1:=hr j hj;rw[Tryz.cells5,Nat.mul_one,Fg (by omega)] at h1;obtain⟨n,hn,_,hw⟩:=DataW.trod_int Tryz.underlying5 h1;have hb:=bounds_u8 hw;refine⟨n,?_,by omega,by omega⟩;have:=congrArg (fun l=>l[0]?) hn;simpa using this
end
end
end Go.Proofs.YtbicgjafjjihdaaGreat
