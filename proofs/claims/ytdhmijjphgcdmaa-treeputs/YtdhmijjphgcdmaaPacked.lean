/-
  The document's own packing (Packed): the bytes that A1 says.
-/
import Derived.Test.YtdhmijjphgcdmaaSeal
namespace Go.Proofs.Ytdhmijjphgcdmaa
open Go.RowKit

namespace Mx
/-- the numbers' groups, one behind the other -/
def numB (nums : List Int) : List Int := nums.flatMap fun x => groups x.toNat
/-- what stands ahead of the sum -/
def bodyB (kind : Int) (nums : List Int) (nb : Nat) (bs : List Int) : List Int := [16 * kind + (nums.length : Int), (nb : Int)] ++ (numB nums ++ bs)
def packB (kind : Int) (nums : List Int) (nb : Nat) (bs : List Int) : List Int := bodyB kind nums nb bs ++ sealB (crc (bodyB kind nums nb bs))
theorem numB_snoc (l : List Int) (k : Nat) (x : Int) (hk : k < l.length) (hx : l.getD k 0 = x) : numB (l.take (k + 1)) = numB (l.take k) ++ groups x.toNat := by
  rw [List.take_succ_eq_append_getElem hk]
  rw [List.getD_eq_getElem?_getD, List.getElem?_eq_getElem hk] at hx
  simp only [Option.getD_some] at hx
  simp [numB, hx]
theorem groups_len (x : Nat) : (groups x).length ≤ 10 := groupsF_len 9 x
theorem numB_len (l : List Int) : (numB l).length ≤ 10 * l.length := by
  induction l with
  | nil => simp [numB]
  | cons x l ih => simp [numB] at *; have := groups_len x.toNat; omega
theorem numB_byte (l : List Int) (h : ∀ x ∈ l, 0 ≤ x ∧ x ≤ 2147483647) : ∀ c ∈ numB l, 0 ≤ c ∧ c ≤ 255 := by
  intro c hc
  simp only [numB, List.mem_flatMap] at hc
  obtain ⟨x, hx, hc⟩ := hc
  have hb := h x hx
  exact groupsF_byte 9 x.toNat (by omega) c hc
theorem bodyB_byte {kind : Int} {l : List Int} {nb : Nat} {bs : List Int} (h0 : 0 ≤ kind) (h1 : kind ≤ 15) (hl : l.length ≤ 12) (hn : nb ≤ 32) (hg : ∀ x ∈ l, 0 ≤ x ∧ x ≤ 2147483647) (hb : ∀ x ∈ bs, 0 ≤ x ∧ x ≤ 255) :
    ∀ x ∈ bodyB kind l nb bs, 0 ≤ x ∧ x ≤ 255 := by
  intro x hx
  simp only [bodyB, List.mem_append, List.mem_cons, List.not_mem_nil, or_false] at hx
  rcases hx with (rfl | rfl) | hx | hx
  · omega
  · omega
  · exact numB_byte l hg x hx
  · exact hb x hx
theorem bodyB_len {kind : Int} {l : List Int} {nb : Nat} {bs : List Int} (hl : l.length ≤ 12) (hn : nb ≤ 32) (hb : bs.length = 8 * nb) : (bodyB kind l nb bs).length ≤ 2000 := by
  have := numB_len l
  simp [bodyB]
  omega
theorem take_snoc (l : List Int) (k : Nat) (x : Int) (hk : k < l.length) (hx : l.getD k 0 = x) : l.take (k + 1) = l.take k ++ [x] := by
  rw [List.take_succ_eq_append_getElem hk]
  rw [List.getD_eq_getElem?_getD, List.getElem?_eq_getElem hk] at hx
  simp only [Option.getD_some] at hx
  rw [hx]
end Mx

theorem own_bytes {w : World} {base g n cap : Nat} {l : List Int} (h : Own w base (.slice (some ⟨g, 0, none⟩) n cap) l) (hb : ∀ x ∈ l, 0 ≤ x ∧ x ≤ 255) : Bytes w (some ⟨g, 0, none⟩) n l := by
  have hc := World.ownsRow.cells h (g := g) rfl
  rcases h.2 with ⟨hv, _⟩ | ⟨g', cap', cur, hv, _, _, hle, hmx, _⟩
  · simp at hv
  · simp at hv
    obtain ⟨rfl, rfl, rfl⟩ := hv
    refine ⟨rfl, by omega, hb, fun _ => ⟨g, 0, rfl, fun i hi => ?_⟩⟩
    have := hc i (.int .u8 (l.getD i 0)) (by rw [List.getElem?_map, List.getD_eq_getElem?_getD, List.getElem?_eq_getElem hi]; rfl)
    have hadd : (⟨g, 0, none⟩ : Addr).add i = ⟨g, 0 + i, none⟩ := by unfold Addr.add; split <;> simp_all
    rw [← hadd]
    exact this

theorem own_drewN {w : World} {base : Nat} {v : Value} {l : List Int} (h : Own w base v l) (n : Nat) : Own (w.drewN n) base v l := h

/-- the slice of blocks reads as these bytes, eight a block -/
def Blks (w : World) (a : Option Addr) (n : Nat) (bs : List Int) : Prop :=
  bs.length = 8 * n ∧ n ≤ maxLen ∧ (∀ x ∈ bs, 0 ≤ x ∧ x ≤ 255) ∧ (0 < n → ∃ b off, a = some ⟨b, off, none⟩ ∧ b < w.heap.size ∧ ∀ i, i < 8 * n → w.cell? ⟨b, off + i, none⟩ = some (.int .u8 (bs.getD i 0)))

theorem own_made (w : World) (base : Nat) (l : List Int) (arr : Array Value) (h : arr = (l.map (Value.int .u8)).toArray) (hb : base ≤ w.heap.size) (hl : l.length ≤ 1000000) :
    Own (w.alloc (.cells arr 5)) base (.slice (some ⟨w.heap.size, 0, none⟩) l.length l.length) l := by
  subst h
  refine ⟨by simp, .inr ⟨w.heap.size, l.length, (l.map (Value.int .u8)).toArray, rfl, hb, heap_alloc_new w _, Nat.le_refl _, by unfold maxLen; omega, by simp, ?_⟩⟩
  rw [List.take_of_length_le (by simp)]

/-- what a packing keeps: the box of the frame, and all that was there -/
def Boxed (w wr : World) (s1 s2 : Value) : Prop :=
  wr.cell? ⟨w.heap.size, 1, none⟩ = some s1 ∧ wr.cell? ⟨w.heap.size, 2, none⟩ = some s2 ∧ Below w.heap.size w wr ∧ w.heap.size + 1 ≤ wr.heap.size

theorem Boxed.later {w wr w' : World} {s1 s2 : Value} (h : Boxed w wr s1 s2) (hb : Below (w.heap.size + 1) wr w') : Boxed w w' s1 s2 :=
  ⟨(hb.cell (p := ⟨w.heap.size, 1, none⟩) (by simp)).trans h.1, (hb.cell (p := ⟨w.heap.size, 2, none⟩) (by simp)).trans h.2.1, h.2.2.1.trans (hb.mono (by omega)), by have := hb.size; have := h.2.2.2; omega⟩

theorem Boxed.start (w : World) (k0 s1 s2 : Value) : Boxed w (w.alloc (.cells #[k0, s1, s2] 25)) s1 s2 :=
  ⟨by rw [World.cell?_alloc_new]; rfl, by rw [World.cell?_alloc_new]; rfl, below_alloc _ _, by simp⟩

theorem may_facts {kind : Int} {l : List Int} {n2 : Nat} (hm : Mx.may kind l n2 = 0) : 0 ≤ kind ∧ kind ≤ 15 ∧ l.length ≤ 12 ∧ n2 ≤ 32 ∧ ∀ x ∈ l, 0 ≤ x ∧ x ≤ 2147483647 := by
  unfold Mx.may at hm
  split at hm
  · omega
  · split at hm
    · omega
    · split at hm
      · omega
      · rename_i h1 h2 h3
        refine ⟨by omega, by omega, by omega, by omega, fun x hx => ?_⟩
        rw [List.any_eq_true] at h3
        have : ¬ Mx.badNum x = true := fun hb => h3 ⟨x, hx, hb⟩
        simp [Mx.badNum] at this
        omega

theorem getD_mem (l : List Int) (k : Nat) (hk : k < l.length) : l.getD k 0 ∈ l := by
  rw [List.getD_eq_getElem?_getD, List.getElem?_eq_getElem hk]
  exact List.getElem_mem hk

theorem Blks.later {w w' : World} {a : Option Addr} {n : Nat} {bs : List Int} (h : Blks w a n bs) (hb : Below w.heap.size w w') : Blks w' a n bs := by
  obtain ⟨h1, h2, h3, h4⟩ := h
  refine ⟨h1, h2, h3, fun hp => ?_⟩
  obtain ⟨b, off, ha, hlt, hc⟩ := h4 hp
  refine ⟨b, off, ha, by have := hb.size; omega, fun i hi => ?_⟩
  have := hc i hi
  rw [hb.cell (p := ⟨b, off + i, none⟩) hlt]
  exact this

set_option maxHeartbeats 1000000 in
set_option maxRecDepth 100000 in
theorem packed_any (kind : Int) (a1 a2 : Option Addr) (n1 c1 n2 c2 : Nat) (l bs : List Int) (w : World) (h1 : Ints w a1 n1 l) (h2 : Blks w a2 n2 bs) (hm : Mx.may kind l n2 = 0) :
    Calls Try.prog 15 #[.agg #[.int .i64 kind, .slice a1 n1 c1, .slice a2 n2 c2]] w fun e w' => ∃ v, e = .returned v ∧ Own w' (w.heap.size + 1) v (Mx.packB kind l n2 bs) ∧ Below w.heap.size w w' := by
  obtain ⟨hk0, hk1, hll, hn2, hg⟩ := may_facts hm
  have hn1 : n1 ≤ 12 := by rw [← h1.1]; exact hll
  have HG := hide hg
  have H1 := hide h1
  have H2 := hide h2
  clear h1 h2 hm hg hll
  obtain ⟨hd, hhd, hhl⟩ : ∃ hd : List Int, Hid (hd = [16 * kind + (n1 : Int), (n2 : Int)]) ∧ hd.length ≤ 2 := ⟨_, rfl, by simp⟩
  go_enter Try.func15, Try.ntmps15
  go_wp2
  go_loopw [3, 4, 5] (fun v i _ wr => ∃ k : Nat, k ≤ n1 ∧ i = .int .i64 k ∧ Hid (Own wr (w.heap.size + 1) v (hd ++ Mx.numB (l.take k))) ∧ Boxed w wr (.slice a1 n1 c1) (.slice a2 n2 c2))
    (fun _ i _ _ => n1 - (intOf i).toNat)
  case atStart =>
    refine ⟨0, by omega, rfl, ?_, (Boxed.start w _ _ _).later ((Below.refl _ _).alloc (by simp) _)⟩
    unfold Hid
    have := own_made (w.alloc (.cells #[.int .i64 kind, .slice a1 n1 c1, .slice a2 n2 c2] 25)) (w.heap.size + 1) hd #[.int .u8 (16 * kind + (n1 : Int)), .int .u8 (n2 : Int)] (by rw [hhd.out]; rfl) (by simp) (by omega)
    rw [hhd.out] at this ⊢
    simpa [Mx.numB] using this
  case round =>
    obtain ⟨k, hkn, rfl, hO, hbx⟩ := hrel
    have HBX := hide hbx
    obtain ⟨hb1, hb2, hbel, hsz⟩ := hbx
    by_cases hlt : k < n1
    · obtain ⟨b, off, x, rfl, hb, hx, hcell⟩ := (H1.out.later hbel).at_ k hlt
      have HX := hide hx
      have hxb := HG.out x (by rw [← hx]; exact getD_mem l k (by rw [H1.out.1]; exact hlt))
      clear hx
      obtain ⟨hx0, hx1⟩ := hxb
      obtain ⟨X, rfl⟩ := Int.eq_ofNat_of_zero_le hx0
      obtain ⟨L0, hL0, hL0l⟩ : ∃ L0 : List Int, Hid (L0 = hd ++ Mx.numB (l.take k)) ∧ L0.length ≤ 10000 := ⟨_, rfl, by have := Mx.numB_len (l.take k); simp at *; omega⟩
      rw [← hL0.out] at hO
      obtain ⟨wo, rfl⟩ : ∃ wo : World, wo = wr := ⟨_, rfl⟩
      go_wp2
      go_loopw [3, 5] (fun v y wr => ∃ (f Y : Nat) (pre : List Int), f ≤ 9 ∧ pre.length + f = 9 ∧ Hid (Y < 128 ^ (f + 1)) ∧ (Y : Int) ≤ 2147483647 ∧ y = .int .i64 Y ∧ Hid (pre ++ Mx.groupsF f Y = Mx.groups X) ∧ Hid (Own wr (w.heap.size + 1) v (L0 ++ pre)) ∧ Below (w.heap.size + 1) wo wr)
        (fun _ y _ => (intOf y).toNat)
      case atStart => exact ⟨9, X, [], by omega, by simp, by unfold Hid; omega, hx1, rfl, rfl, by unfold Hid; rw [List.append_nil]; exact hO.out, Below.refl _ _⟩
      case round =>
        obtain ⟨f, Y, pre, hf, hpf, hY, hY2, rfl, hG, hO, hbel2⟩ := hrel
        have hsz2 := hbel2.size
        by_cases hlo : (Y : Int) < 128
        · have HGG := hide (show L0 ++ pre ++ [(Y : Int)] = hd ++ Mx.numB (l.take (k + 1)) by
            rw [Mx.numB_snoc l k _ (by rw [H1.out.1]; exact hlt) HX.out, ← List.append_assoc, ← hL0.out, Int.toNat_natCast, ← hG.out, Mx.groupsF_low f Y (by omega), List.append_assoc])
          go_wp2_with (at_builtin; refine wpList_append_bytes rfl _ _ rfl (w.heap.size + 1) (L0 ++ pre) (hO.out.alloc _) ⟨wr.heap.size, 0, none⟩ 1 1 [(Y : Int)] rfl rfl ?c1 ?c2 ?c3 ?_)
          case c1 => exact cell_news _ _ _ rfl
          case c2 => rw [List.length_append]; omega
          case c3 => simp; omega
          intro v' w' hown' hbel'
          go_wp2
          go_roundw
          case rel => exact ⟨k + 1, by omega, by go_num, by unfold Hid; rw [← HGG.out, List.append_assoc]; exact hown', HBX.out.later (hbel2.trans (((Below.refl _ _).alloc (by omega) _).trans hbel'))⟩
          case measure => simp [intOf]; omega
        · obtain ⟨f, rfl⟩ : ∃ f', f = f' + 1 := by
            cases f with
            | zero => have := hY.out; simp at this; omega
            | succ f => exact ⟨f, rfl⟩
          have HGG := hide (show (pre ++ [((Y % 128 + 128 : Nat) : Int)]) ++ Mx.groupsF f (Y / 128) = Mx.groups X by rw [← hG.out, Mx.groupsF_high f Y (by omega), List.append_assoc]; rfl)
          have HY := hide (show Y / 128 < 128 ^ (f + 1) by have := hY.out; rw [Nat.pow_succ] at this; exact Nat.div_lt_of_lt_mul (by omega))
          go_wp2_with (at_builtin; refine wpList_append_bytes rfl _ _ rfl (w.heap.size + 1) (L0 ++ pre) (hO.out.alloc _) ⟨wr.heap.size, 0, none⟩ 1 1 [((Y % 128 + 128 : Nat) : Int)] rfl rfl ?c1 ?c2 ?c3 ?_)
          case c1 => intro j u hj; rw [Int.add_comm]; exact hj
          case c2 => omega
          case c3 => omega
          intro v' w' hown' hbel'
          go_wp2
          go_roundw
          case rel => exact ⟨f, Y / 128, pre ++ [((Y % 128 + 128 : Nat) : Int)], by omega, by simp; omega, HY, by omega, by go_num, HGG, by unfold Hid; rw [show ((Y % 128 + 128 : Nat) : Int) = (Y : Int) % 128 + 128 by omega]; exact hown', hbel2.trans (((Below.refl _ _).alloc (by omega) _).trans hbel')⟩
          case measure => simp [intOf]; omega
    · obtain ⟨L1, hL1, hL1l⟩ : ∃ L1 : List Int, Hid (L1 = hd ++ Mx.numB l) ∧ L1.length ≤ 1000 := ⟨_, rfl, by have := Mx.numB_len l; have := H1.out.1; simp; omega⟩
      have hO1 : Hid (Own wr (w.heap.size + 1) u3 L1) := by
        unfold Hid
        rw [hL1.out, ← List.take_of_length_le (l := l) (i := k) (by rw [H1.out.1]; omega)]
        exact hO.out
      clear hO
      go_wp2
      go_loopw [3, 6, 7] (fun v i _ wr => ∃ m : Nat, m ≤ n2 ∧ i = .int .i64 m ∧ Hid (Own wr (w.heap.size + 1) v (L1 ++ bs.take (8 * m))) ∧ Boxed w wr (.slice a1 n1 c1) (.slice a2 n2 c2))
        (fun _ i _ _ => n2 - (intOf i).toNat)
      case atStart => exact ⟨0, by omega, rfl, by unfold Hid; rw [Nat.mul_zero, List.take_zero, List.append_nil]; exact hO1, HBX⟩
      case round =>
        clear hb1 hb2 hbel hsz HBX hO1
        obtain ⟨m, hmn, rfl, hO, hbx⟩ := hrel
        have HBX := hide hbx
        obtain ⟨hb1, hb2, hbel, hsz⟩ := hbx
        obtain ⟨wo, rfl⟩ : ∃ wo : World, wo = wr := ⟨_, rfl⟩
        by_cases hlt2 : m < n2
        · obtain ⟨b, off, rfl, hb, hcs⟩ := H2.out.2.2.2 (by omega)
          have HCS := hide hcs
          clear hcs
          go_wp2
          go_loopw [3, 7] (fun v i wr => ∃ j : Nat, j ≤ 8 ∧ i = .int .i64 j ∧ Hid (Own wr (w.heap.size + 1) v (L1 ++ bs.take (8 * m + j))) ∧ Below (w.heap.size + 1) wo wr)
            (fun _ i _ => 8 - (intOf i).toNat)
          case atStart => exact ⟨0, by omega, rfl, hO, Below.refl _ _⟩
          case round =>
            obtain ⟨j, hj, rfl, hO, hbel2⟩ := hrel
            have hbx2 := HBX.out.later hbel2
            obtain ⟨hb1', hb2', hbel', hsz'⟩ := hbx2
            by_cases hj8 : (j : Int) < 8
            · have hlen : 8 * m + j < bs.length := by rw [H2.out.1]; omega
              obtain ⟨z, hz, hzc⟩ : ∃ z : Int, bs.getD (8 * m + j) 0 = z ∧ wr.cell? ⟨b, off + m * 8 + j, none⟩ = some (.int .u8 z) := ⟨_, rfl, by
                rw [show off + m * 8 + j = off + (8 * m + j) by omega, hbel'.cell (p := ⟨b, off + (8 * m + j), none⟩) hb]; exact HCS.out (8 * m + j) (by omega)⟩
              have HTS := hide (Mx.take_snoc bs (8 * m + j) z hlen hz)
              have hbl := hide (show (bs.take (8 * m + j)).length ≤ 256 by rw [List.length_take]; have := H2.out.1; omega)
              clear hz hlen
              go_wp2_with (at_builtin; refine wpList_append_bytes rfl _ _ rfl (w.heap.size + 1) (L1 ++ bs.take (8 * m + j)) (hO.out.alloc _) ⟨wr.heap.size, 0, none⟩ 1 1 [z] rfl rfl ?c1 ?c2 ?c3 ?_)
              case c1 => exact cell_news _ _ _ rfl
              case c2 => have := hbl.out; rw [List.length_append]; omega
              case c3 => simp; omega
              intro v' w' hown' hbel3
              go_wp2
              go_roundw
              case rel => exact ⟨j + 1, by omega, by go_num, by unfold Hid; rw [show 8 * m + (j + 1) = 8 * m + j + 1 by omega, HTS.out, ← List.append_assoc]; simpa [List.append_assoc] using hown', hbel2.trans (((Below.refl _ _).alloc (by omega) _).trans hbel3)⟩
              case measure => simp [intOf]; omega
            · obtain rfl : j = 8 := by omega
              go_wp2
              go_roundw
              case rel => exact ⟨m + 1, by omega, by go_num, by unfold Hid; rw [show 8 * (m + 1) = 8 * m + 8 by omega]; exact hO.out, HBX.out.later hbel2⟩
              case measure => simp [intOf]; omega
        · obtain ⟨Bd, hBd, hBd2, hBl, hBn⟩ : ∃ Bd : List Int, Hid (Bd = Mx.bodyB kind l n2 bs) ∧ Hid (∀ x ∈ Bd, 0 ≤ x ∧ x ≤ 255) ∧ Bd.length ≤ 2000 ∧ Bd ≠ [] :=
            ⟨_, rfl, Mx.bodyB_byte hk0 hk1 (by rw [H1.out.1]; exact hn1) hn2 HG.out H2.out.2.2.1, Mx.bodyB_len (by rw [H1.out.1]; exact hn1) hn2 H2.out.1, by unfold Mx.bodyB; simp⟩
          have hB : Own wo (w.heap.size + 1) u3 Bd := by
            rw [hBd.out, Mx.bodyB, ← List.append_assoc, H1.out.1, ← hhd.out, ← hL1.out, ← List.take_of_length_le (l := bs) (i := 8 * m) (by rw [H2.out.1]; omega)]
            exact hO.out
          obtain ⟨g, cap, rfl, hg1, hg2⟩ := own_slice hB hBn
          have HB := hide hB
          have HBY := hide (own_bytes hB hBd2.out)
          clear hB hO
          obtain ⟨S, hS, hS2⟩ : ∃ S : Nat, Hid (S = Mx.crc Bd) ∧ (S : Int) < 4294967296 := ⟨_, rfl, by have := Mx.crc_lt Bd; omega⟩
          go_wp2_with fail
          refine (sumOf_any (some ⟨g, 0, none⟩) Bd.length cap Bd wo HBY.out).mono ?_
          rintro e w' ⟨rfl, nn, rfl⟩
          rw [← hS.out]
          go_wp2_with (at_builtin; refine wpList_append_bytes rfl _ _ rfl (w.heap.size + 1) Bd ((own_drewN HB.out nn).alloc _) ⟨wo.heap.size, 0, none⟩ 4 4 (Mx.sealB S) rfl rfl ?c1 ?c2 ?c3 ?_)
          case c1 => exact cell_news (wo.drewN nn) (Mx.sealB S) _ (sealB_vals S).symm
          case c2 => omega
          case c3 => simp; omega
          intro v' w' hown' hbel'
          go_wp2
          go_ret
          refine ⟨v', rfl, by rw [Mx.packB, ← hBd.out, ← hS.out]; exact hown', ?_⟩
          exact (below_drewN hbel nn).trans ((((Below.refl _ _).alloc (by simp; omega) _).trans (hbel'.mono (by omega))))
end Go.Proofs.Ytdhmijjphgcdmaa
