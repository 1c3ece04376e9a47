/- Part. -/
import Derived.ProofKit
import Derived.OpenShut
import Derived.ChangeOld
import Derived.Deep.Slices
import Derived.Lib.SmallJoins
import Derived.Test.YtbicgjafjjihdaaGreatDoorZ2
set_option maxHeartbeats 16000000
set_option maxRecDepth 100000
namespace Go.Proofs.YtbicgjafjjihdaaGreatDoor
section
open Go.ChangeShapes Go.WideShapes Go.ChangeAt Go.RowKit
theorem Tryz.own:ownKnob Tryz.prog.godebug=none:=by kernel_rfl
theorem Tryz.laidOut:laidOutB Tryz.prog=true:=by kernel_rfl
theorem Tryz.cells3:Tryz.prog.cellsOf 3=1:=by kernel_rfl
theorem Tryz.cells5:Tryz.prog.cellsOf 5=1:=by kernel_rfl
theorem Tryz.cells33:Tryz.prog.cellsOf 33=8:=by kernel_rfl
section
variable {H:Type} {enc:TypeId × Value→H} {W:World}
theorem ph {x:Addr} {v:Value} (h:W.cell? (x.add 0)=some v):∃ b off,x=⟨b,off,none⟩∧b<W.heap.size:=by
 obtain⟨b,off,spot⟩:=x;have hs:spot=none:=by simpa [Addr.add] using World.cell?_spot h
 subst hs;exact⟨b,off,rfl,by simpa [Addr.add] using World.block_lt_of_cell? W _ h⟩
theorem rq (b off i:Nat):(⟨b,off,none⟩:Addr).add i=⟨b,off+i,none⟩:=by
 unfold Addr.add;by_cases h:i=0<;>simp[h]
theorem nW {fuel:Nat} {cs:List Value} {x:DataW H × List MemPlace} (h:DataW.trod enc Tryz.prog W 0 (fun _=>true) true fuel 33 cs=some x) :
 ∀ j,j<8→∃ z:Int,cs[j]?=some (.int .u8 z)∧0≤z∧z≤255:=by
 obtain⟨xs,m,_,_,hl,hx,hr⟩:=DataW.trod_array Tryz.underlying33 h;rw[Tryz.cells33] at hl;intro j hj;have h1:=hr j hj;rw[Tryz.cells5,Nat.mul_one,F0 (by omega)] at h1;obtain⟨n,hn,_,hw⟩:=DataW.trod_int Tryz.underlying5 h1;have hb:=bounds_u8 hw;refine⟨n,?_,by omega,by omega⟩;have:=congrArg (fun l=>l[0]?) hn;simpa using this
end
end
section
open Go.ChangeShapes Go.WideShapes Go.ChangeAt Go.RowKit
section
variable {H:Type} {enc:TypeId × Value→H} {W:World}
theorem nX {fuel:Nat} {v:Value} {x:DataW H × List MemPlace} (h:DataW.trod enc Tryz.prog W 0 (fun _=>true) true fuel 47 [v]=some x) :
 ∃ a len cap l,v=.slice a len cap∧ay W a len l∧I64 l:=by
 rcases open_ints Tryz.underlying47 Tryz.underlying3 Tryz.cells3 h with ⟨hcs,_⟩|⟨x,len,cap,zs,hcs,_,hl,hm,hz,_,hcell,hwf⟩
 ·simp at hcs
  exact⟨none,0,0,[],hcs,⟨rfl,by unfold maxLen;omega,fun h=>absurd h (by omega)⟩,fun x hx=>by simp at hx⟩
 ·simp at hcs hz
  refine⟨some x,len,cap,zs.take len,hcs,⟨by rw[Gk];omega,by omega,fun hp=>?_⟩,fun z hz'=>?_⟩
  ·obtain⟨b,off,rfl,hb⟩:=ph (hcell 0 (by omega))
   refine⟨b,off,rfl,hb,fun i hi=>?_⟩;have:=hcell i (by omega);rw[rq] at this;rw[this];simp[List.getD_eq_getElem?_getD,hi]
  ·have:=bounds_i64 (hwf z (List.mem_of_mem_take hz'))
   exact⟨by omega,by omega⟩
theorem iS {x:Int} (h:(Lit.int .i64 x).wf=true):mC x:=by
 have:=bounds_i64 h;exact⟨by omega,by omega⟩
end
end
end Go.Proofs.YtbicgjafjjihdaaGreatDoor
