/-
  Bytes that the call itself gathers (Own), and a number's groups behind them (appendNumber).
-/
import Derived.Test.YtdhmijjphgcdmaaIs
namespace Go.Proofs.Ytdhmijjphgcdmaa
open Go.RowKit

namespace Mx
/-- a number's groups of seven bits, the lowest first -/
def groupsF : Nat → Nat → List Int
  | 0, x => [(x : Int)]
  | f + 1, x => if x < 128 then [(x : Int)] else ((x % 128 + 128 : Nat) : Int) :: groupsF f (x / 128)
def groups (x : Nat) : List Int := groupsF 9 x
theorem groupsF_low (f x : Nat) (h : x < 128) : groupsF f x = [(x : Int)] := by
  cases f with
  | zero => rfl
  | succ f => rw [groupsF, if_pos h]
theorem groupsF_high (f x : Nat) (h : 128 ≤ x) : groupsF (f + 1) x = ((x % 128 + 128 : Nat) : Int) :: groupsF f (x / 128) := by
  rw [groupsF, if_neg (by omega)]
theorem groupsF_len (f x : Nat) : (groupsF f x).length ≤ f + 1 := by
  induction f generalizing x with
  | zero => simp [groupsF]
  | succ f ih =>
    rw [groupsF]
    split
    · simp
    · simp [ih]
theorem groupsF_byte (f x : Nat) (h : x < 128 ^ (f + 1)) : ∀ c ∈ groupsF f x, 0 ≤ c ∧ c ≤ 255 := by
  induction f generalizing x with
  | zero => intro c hc; simp [groupsF] at hc; subst hc; simp at h; omega
  | succ f ih =>
    intro c hc
    rw [groupsF] at hc
    split at hc
    · simp at hc; subst hc; omega
    · rcases List.mem_cons.1 hc with rfl | hc
      · omega
      · exact ih (x / 128) (by rw [Nat.pow_succ] at h; exact Nat.div_lt_of_lt_mul (by omega)) c hc
end Mx

/-- the call's own bytes -/
def Own (w : World) (base : Nat) (v : Value) (l : List Int) : Prop := w.ownsRow base 5 1 v l.length (l.map (Value.int .u8))

theorem Try.info5 : (Try.prog.info? 5).map (fun i => (i.zero, i.size, i.bytes)) = some (some (.int .u8 0), 1, 1) := by kernel_rfl

theorem Own.alloc {w : World} {base : Nat} {v : Value} {l : List Int} (h : Own w base v l) (o : Obj) : Own (w.alloc o) base v l := World.ownsRow.alloc h o

/-- append of bytes that lie somewhere onto the call's own -/
theorem wpList_append_bytes {w : World} {ops : Array Oper} {rest : List Oper} {o : Oper} {a : Act} {Q : Exit → Act → World → Prop} (hgd : o.guard = none) (s x : Operand)
    (ho : o.op = .call { callee := .builtin .append, args := #[s, x], argTypes := #[28, 28] }) (base : Nat) (l : List Int) (hown : Own w base (a.eval s) l)
    (ad : Addr) (m c : Nat) (news : List Int) (hx : a.eval x = .slice (some ad) m c) (hl : news.length = m) (hnews : ∀ j u, (news.map (Value.int .u8))[j]? = some u → w.cell? (ad.add j) = some u)
    (h63 : l.length + m ≤ 1000000) (hbase : base ≤ w.heap.size)
    (h : ∀ v' w', Own w' base v' (l ++ news) → Below base w w' → wpList Try.prog ops Q rest (a.put o.dst v') w') : wpList Try.prog ops Q (o :: rest) a w := by
  obtain ⟨i0, hi, hz0, hz1, hz2⟩ := info_parts Try.info5
  refine wpList_append_own w hgd s x 28 ho base 5 i0 (.int .u8 0) 1 1 Try.underlying28 hi hz0 hz1 hz2 rfl (by decide) (a.eval s) l.length (l.map (Value.int .u8)) rfl hown ad m c (news.map (Value.int .u8)) hx (by simp [hl]) hnews ?_ (by unfold maxLen; omega) (by omega) hbase ?_
  · intro u hu
    obtain ⟨z, _, rfl⟩ := List.mem_map.1 hu
    rfl
  · intro v' w' hown' hg _
    refine h v' w' ?_ ?_
    · unfold Own
      rw [List.length_append, List.map_append, hl]
      exact hown'
    · exact (Below.refl base w).grown hg hbase (fun k hk => (World.ownsRow.lt hown k hk).1)

theorem own_slice {w : World} {base : Nat} {v : Value} {l : List Int} (h : Own w base v l) (hn : l ≠ []) : ∃ g cap, v = .slice (some ⟨g, 0, none⟩) l.length cap ∧ base ≤ g ∧ g < w.heap.size := by
  rcases h.2 with ⟨_, hz⟩ | ⟨g, cap, cur, hv, hb, hh, _⟩
  · exact absurd (List.eq_nil_of_length_eq_zero hz) hn
  · exact ⟨g, cap, hv, hb, (Array.getElem?_eq_some_iff.1 hh).1⟩

theorem cell_news (w : World) (news : List Int) (arr : Array Value) (h : arr = (news.map (Value.int .u8)).toArray) :
    ∀ j u, (news.map (Value.int .u8))[j]? = some u → (w.alloc (.cells arr 5)).cell? ((⟨w.heap.size, 0, none⟩ : Addr).add j) = some u := by
  intro j u hj
  subst h
  have hadd : (⟨w.heap.size, 0, none⟩ : Addr).add j = ⟨w.heap.size, j, none⟩ := by unfold Addr.add; split <;> simp_all
  rw [hadd, World.cell?_alloc_new]
  simpa using hj

set_option maxHeartbeats 400000 in
set_option maxRecDepth 100000 in
theorem appendNumber_any (base : Nat) (v : Value) (l : List Int) (x : Nat) (w : World) (hown : Own w base v l) (hb : base ≤ w.heap.size) (hlen : l.length ≤ 10000) (hx : (x : Int) ≤ 2147483647) :
    Calls Try.prog 64 #[v, .int .i64 x] w fun e w' => ∃ v', e = .returned v' ∧ Own w' base v' (l ++ Mx.groups x) ∧ Below base w w' := by
  have HO := hide hown
  clear hown
  go_enter Try.func64, Try.ntmps64
  go_wp2
  go_loopw [0, 1] (fun v y wr => ∃ (f Y : Nat) (pre : List Int), f ≤ 9 ∧ pre.length + f = 9 ∧ Hid (Y < 128 ^ (f + 1)) ∧ (Y : Int) ≤ 2147483647 ∧ y = .int .i64 Y ∧ Hid (pre ++ Mx.groupsF f Y = Mx.groups x) ∧ Hid (Own wr base v (l ++ pre)) ∧ Below base w wr)
    (fun _ y _ => (intOf y).toNat)
  case atStart => exact ⟨9, x, [], by omega, by simp, by unfold Hid; omega, hx, rfl, rfl, by unfold Hid; rw [List.append_nil]; exact HO.out, Below.refl _ _⟩
  case round =>
    obtain ⟨f, Y, pre, hf, hpf, hY, hY2, rfl, hG, hO, hbel⟩ := hrel
    have hsz := hbel.size
    by_cases hlt : (Y : Int) < 128
    · have HG := hide (show l ++ pre ++ [(Y : Int)] = l ++ Mx.groups x by rw [← hG.out, Mx.groupsF_low f Y (by omega), List.append_assoc])
      go_wp2_with (at_builtin; refine wpList_append_bytes rfl _ _ rfl base (l ++ pre) (hO.out.alloc _) ⟨wr.heap.size, 0, none⟩ 1 1 [(Y : Int)] rfl rfl ?c1 ?c2 ?c3 ?_)
      case c1 => exact cell_news _ _ _ rfl
      case c2 => rw [List.length_append]; omega
      case c3 => simp; omega
      intro v' w' hown' hbel'
      go_wp2
      go_ret
      exact ⟨v', rfl, by rw [← HG.out, List.append_assoc]; exact hown', hbel.trans (((Below.refl _ _).alloc (by omega) _).trans hbel')⟩
    · obtain ⟨f, rfl⟩ : ∃ f', f = f' + 1 := by
        cases f with
        | zero => have := hY.out; simp at this; omega
        | succ f => exact ⟨f, rfl⟩
      have HG := hide (show (pre ++ [((Y % 128 + 128 : Nat) : Int)]) ++ Mx.groupsF f (Y / 128) = Mx.groups x by rw [← hG.out, Mx.groupsF_high f Y (by omega), List.append_assoc]; rfl)
      have HY := hide (show Y / 128 < 128 ^ (f + 1) by have := hY.out; rw [Nat.pow_succ] at this; exact Nat.div_lt_of_lt_mul (by omega))
      go_wp2_with (at_builtin; refine wpList_append_bytes rfl _ _ rfl base (l ++ pre) (hO.out.alloc _) ⟨wr.heap.size, 0, none⟩ 1 1 [((Y % 128 + 128 : Nat) : Int)] rfl rfl ?c1 ?c2 ?c3 ?_)
      case c2 => omega
      case c3 => omega
      intro v' w' hown' hbel'
      go_wp2
      go_roundw
      case rel => exact ⟨f, Y / 128, pre ++ [((Y % 128 + 128 : Nat) : Int)], by omega, by simp; omega, HY, by omega, by go_num, HG, by unfold Hid; rw [show ((Y % 128 + 128 : Nat) : Int) = (Y : Int) % 128 + 128 by omega]; exact hown', hbel.trans (((Below.refl _ _).alloc (by omega) _).trans hbel')⟩
      case measure => simp [intOf]; omega
end Go.Proofs.Ytdhmijjphgcdmaa
