/- Part. -/
import Derived.Laws.OwnMore
import Derived.Test.YtbicgjafjjihdaaGreatDoorZ5
set_option maxHeartbeats 16000000
set_option maxRecDepth 100000
namespace Go.Proofs.YtbicgjafjjihdaaGreatDoor
open Go.RowKit
theorem wj (N:Nat):(madeCells #[Value.int .u8 0,.int .u8 0,.int .u8 0,.int .u8 0,.int .u8 0,.int .u8 0,.int .u8 0,.int .u8 0] N).toList=List.replicate N (Value.int .u8 0):=by
 rw[List.eq_replicate_iff];refine⟨by simp[madeCells],fun b hb=>?_⟩;simp only[madeCells,Array.toList_map,List.mem_map] at hb;obtain⟨i,_,rfl⟩:=hb;have h8:i%8=0∨i%8=1∨i%8=2∨i%8=3∨i%8=4∨i%8=5∨i%8=6∨i%8=7:=by omega
 show #[Value.int .u8 0,.int .u8 0,.int .u8 0,.int .u8 0,.int .u8 0,.int .u8 0,.int .u8 0,.int .u8 0][i%8]! = _
 rcases h8 with h|h|h|h|h|h|h|h<;>rw[h]<;>rfl
theorem tC (n:Nat):aT (List.replicate n zB)=List.replicate (n*8) (Value.int .u8 0):=by
 rw[List.eq_replicate_iff];refine⟨by rw[cw,List.length_replicate],fun b hb=>?_⟩;obtain⟨x,hx,hb⟩:=List.mem_flatMap.1 hb;obtain rfl:=List.eq_of_mem_replicate hx;simpa [B8.cs,zB] using hb
theorem fL (n:Nat) (hn:n≤1000):∃ C:Array Value,(∀ w:World,(Instr.makeSlice 38 (.int .i64 (n:Int)) (.int .i64 (n:Int))).run Tryz.prog w=.ok (.slice (some ⟨w.heap.size,0,none⟩) n n) (w.alloc (.cells C 33))) ∧
 Hid (∀ (w:World) (base:Nat),base≤w.heap.size→au (w.alloc (.cells C 33)) base (.slice (some ⟨w.heap.size,0,none⟩) n n) (List.replicate n zB)):=by
 obtain⟨i0,hi,hz0,hz1,hz2⟩:=info_parts Tryz.info33;refine⟨madeCells #[Value.int .u8 0,.int .u8 0,.int .u8 0,.int .u8 0,.int .u8 0,.int .u8 0,.int .u8 0,.int .u8 0] (n*8),fun w=>?_,fun w base hb=>?_⟩
 ·have h:=run_makeSlice (P:=Tryz.prog) w 38 33 i0 _ Tryz.underlying38 hi hz0 .i64 .i64 (n:Int) (n:Int) (by omega) (Int.le_refl _) (by rw[hz1];simp;omega) (by rw[hz2];omega) (by omega)
  rw[hz1] at h;simpa [Value.cells] using h
 ·have h:=World.ownsRow_lit (base:=base) (e:=33) (size:=8) w (madeCells #[Value.int .u8 0,.int .u8 0,.int .u8 0,.int .u8 0,.int .u8 0,.int .u8 0,.int .u8 0,.int .u8 0] (n*8)) n hb (by unfold maxLen;omega) (size_madeCells _ _)
  unfold au;rw[List.length_replicate,tC,←wj];exact h
end Go.Proofs.YtbicgjafjjihdaaGreatDoor
