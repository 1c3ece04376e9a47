/- Part. -/
import Derived.ProofKit
import Derived.OpenShut
import Derived.ChangeOld
import Derived.Deep.Slices
import Derived.Lib.SmallJoins
import Derived.Test.YtbicgjafjjihdaaGreatZ2
set_option maxHeartbeats 16000000
set_option maxRecDepth 100000
namespace Go.Proofs.YtbicgjafjjihdaaGreat
section
open Go.ChangeShapes Go.WideShapes Go.ChangeAt Go.RowKit
theorem Tryz.own:ownKnob Tryz.prog.godebug=none:=by kernel_rfl
theorem Tryz.laidOut:laidOutB Tryz.prog=true:=by kernel_rfl
theorem Tryz.cells3:Tryz.prog.cellsOf 3=1:=by kernel_rfl
section
variable {H:Type} {enc:TypeId × Value→H} {W:World}
theorem xD {x:Addr} {v:Value} (h:W.cell? (x.add 0)=some v):∃ b off,x=⟨b,off,none⟩∧b<W.heap.size:=by
 obtain⟨b,off,spot⟩:=x;have hs:spot=none:=by simpa [Addr.add] using World.cell?_spot h
 subst hs;exact⟨b,off,rfl,by simpa [Addr.add] using World.block_lt_of_cell? W _ h⟩
theorem Ai (b off i:Nat):(⟨b,off,none⟩:Addr).add i=⟨b,off+i,none⟩:=by
 unfold Addr.add;by_cases h:i=0<;>simp[h]
end
end
section
open Go.ChangeShapes Go.WideShapes Go.ChangeAt Go.RowKit
section
variable {H:Type} {enc:TypeId × Value→H} {W:World}
theorem nU {fuel:Nat} {v:Value} {x:DataW H × List MemPlace} (h:DataW.trod enc Tryz.prog W 0 (fun _=>true) true fuel 46 [v]=some x) :
 ∃ a len cap l,v=.slice a len cap∧ay W a len l∧I64 l:=by
 rcases open_ints Tryz.underlying46 Tryz.underlying3 Tryz.cells3 h with ⟨hcs,_⟩|⟨x,len,cap,zs,hcs,_,hl,hm,hz,_,hcell,hwf⟩
 ·simp at hcs
  exact⟨none,0,0,[],hcs,⟨rfl,by unfold maxLen;omega,fun h=>absurd h (by omega)⟩,fun x hx=>by simp at hx⟩
 ·simp at hcs hz
  refine⟨some x,len,cap,zs.take len,hcs,⟨by rw[FI];omega,by omega,fun hp=>?_⟩,fun z hz'=>?_⟩
  ·obtain⟨b,off,rfl,hb⟩:=xD (hcell 0 (by omega))
   refine⟨b,off,rfl,hb,fun i hi=>?_⟩;have:=hcell i (by omega);rw[Ai] at this;rw[this];simp[List.getD_eq_getElem?_getD,hi]
  ·have:=bounds_i64 (hwf z (List.mem_of_mem_take hz'))
   exact⟨by omega,by omega⟩
theorem iP {x:Int} (h:(Lit.int .i64 x).wf=true):mC x:=by
 have:=bounds_i64 h;exact⟨by omega,by omega⟩
end
end
end Go.Proofs.YtbicgjafjjihdaaGreat
