/-
  The sum as it stands at a frame's end (sealOf).
-/
import Derived.Test.YtdhmijjphgcdmaaNum
namespace Go.Proofs.Ytdhmijjphgcdmaa
open Go.RowKit

namespace Mx
/-- the four bytes of a sum, the highest first -/
def sealB (s : Nat) : List Int := [((s / 16777216 : Nat) : Int), ((s / 65536 % 256 : Nat) : Int), ((s / 256 % 256 : Nat) : Int), ((s % 256 : Nat) : Int)]
end Mx

/-- bytes read as before behind whatever turned nothing that was there -/
theorem Bytes.later {w w' : World} {a : Option Addr} {len : Nat} {l : List Int} (h : Bytes w a len l) (hb : Below w.heap.size w w') : Bytes w' a len l := by
  obtain ⟨h1, h2, h3, h4⟩ := h
  refine ⟨h1, h2, h3, fun hp => ?_⟩
  obtain ⟨b, off, ha, hc⟩ := h4 hp
  refine ⟨b, off, ha, fun i hi => ?_⟩
  have := hc i hi
  rw [hb.cell (p := ⟨b, off + i, none⟩) (World.block_lt_of_cell? w _ this)]
  exact this

theorem Ints.later {w w' : World} {a : Option Addr} {len : Nat} {l : List Int} (h : Ints w a len l) (hb : Below w.heap.size w w') : Ints w' a len l := by
  obtain ⟨h1, h2, h4⟩ := h
  refine ⟨h1, h2, fun hp => ?_⟩
  obtain ⟨b, off, ha, hlt, hc⟩ := h4 hp
  refine ⟨b, off, ha, by have := hb.size; omega, fun i hi => ?_⟩
  have := hc i hi
  rw [hb.cell (p := ⟨b, off + i, none⟩) hlt]
  exact this

theorem below_alloc (w : World) (o : Obj) : Below w.heap.size w (w.alloc o) := (Below.refl _ _).alloc (Nat.le_refl _) _

theorem sealB_vals (S : Nat) : ((Mx.sealB S).map (Value.int .u8)).toArray = #[.int .u8 ((S : Int) / 16777216), .int .u8 ((S : Int) / 65536 % 256), .int .u8 ((S : Int) / 256 % 256), .int .u8 ((S : Int) % 256)] := by
  simp [Mx.sealB]

set_option maxHeartbeats 400000 in
set_option maxRecDepth 100000 in
theorem sealOf_any (a : Option Addr) (len cap : Nat) (l : List Int) (w : World) (hl : Bytes w a len l) :
    Calls Try.prog 65 #[.slice a len cap] w fun e w' => e = .returned (.agg ((Mx.sealB (Mx.crc l)).map (Value.int .u8)).toArray) ∧ Below w.heap.size w w' := by
  have HL := hide hl
  clear hl
  obtain ⟨S, hS, hS2⟩ : ∃ S : Nat, Hid (S = Mx.crc l) ∧ (S : Int) < 4294967296 := ⟨_, rfl, by have := Mx.crc_lt l; omega⟩
  go_enter Try.func65, Try.ntmps65
  go_wp2_with fail
  refine (sum_any a len cap l _ (HL.out.later (below_alloc _ _))).mono ?_
  rintro e w' ⟨rfl, rfl⟩
  rw [← hS.out]
  go_wp2_with fail
  refine bodyPost_ret (v := .agg #[.int .u8 ((S : Int) / 16777216), .int .u8 ((S : Int) / 65536 % 256), .int .u8 ((S : Int) / 256 % 256), .int .u8 ((S : Int) % 256)]) (by simp [results, Try.results65, go_sem]) rfl ⟨?_, below_alloc _ _⟩
  rw [← hS.out, sealB_vals]
end Go.Proofs.Ytdhmijjphgcdmaa
