/-
  The document's own reading (Unpacked): the frame that bytes are, or that they are none.
-/
import Derived.Test.YtdhmijjphgcdmaaGather
namespace Go.Proofs.Ytdhmijjphgcdmaa
open Go.RowKit

theorem frame_long {l : List Int} (h : l.length < 6) : ∀ kind nums nb bs, ¬ Mx.IsFrame l kind nums nb bs := fun _ _ _ _ hf => by
  have := hf.head
  omega

/-- what is handed back: a frame, or none -/
def Told (w w' : World) (l : List Int) (e : Ending) (yes no : Value) : Prop :=
  (∃ kind nums nb bs a1 c1 a2 c2, e = .returned (.tuple #[.agg #[.int .i64 kind, .slice a1 nums.length c1, .slice a2 nb c2], yes]) ∧ Mx.IsFrame l kind nums nb bs ∧ Ints w' a1 nums.length nums ∧ Blks w' a2 nb bs ∧ Below w.heap.size w w') ∨
  (e = .returned (.tuple #[.agg #[.int .i64 0, .slice none 0 0, .slice none 0 0], no]) ∧ (∀ kind nums nb bs, ¬ Mx.IsFrame l kind nums nb bs) ∧ Below w.heap.size w w')

/-- what the reading keeps: its two boxes, and all that was there -/
def UInv (w wr : World) (s0 v1 v2 : Value) : Prop :=
  BoxAt wr w.heap.size (.int .i64 0) (.slice none 0 0) (.slice none 0 0) ∧ BoxAt wr (w.heap.size + 1) s0 v1 v2 ∧ Below w.heap.size w wr ∧ w.heap.size + 2 ≤ wr.heap.size

theorem UInv.start (w : World) (s0 : Value) : UInv w ((w.alloc (.cells #[.int .i64 0, .slice none 0 0, .slice none 0 0] 25)).alloc (.cells #[s0, .slice none 0 0, .slice none 0 0] 25)) s0 (.slice none 0 0) (.slice none 0 0) := by
  refine ⟨?_, ?_, ((Below.refl _ _).alloc (Nat.le_refl _) _).alloc (by simp) _, by simp⟩
  · exact (BoxAt.new w _ _ _).later (B := w.heap.size + 1) ((Below.refl _ _).alloc (by simp) _) (by omega)
  · have := BoxAt.new (w.alloc (.cells #[.int .i64 0, .slice none 0 0, .slice none 0 0] 25)) s0 (.slice none 0 0) (.slice none 0 0)
    simpa using this

theorem UInv.later {w wr w' : World} {s0 v1 v2 : Value} (h : UInv w wr s0 v1 v2) (hb : Below (w.heap.size + 2) wr w') : UInv w w' s0 v1 v2 :=
  ⟨h.1.later hb (by omega), h.2.1.later hb (by omega), h.2.2.1.trans (hb.mono (by omega)), by have := hb.size; have := h.2.2.2; omega⟩

theorem UInv.set1 {w wr : World} {s0 v1 v2 : Value} (h : UInv w wr s0 v1 v2) (v : Value) : UInv w (wr.setCell ⟨w.heap.size + 1, 1, none⟩ v) s0 v v2 :=
  ⟨h.1.other _ _ (by simp), h.2.1.set1 v, h.2.2.1.setCell (by simp) v, by have := h.2.2.2; simpa [World.setCell] using this⟩

theorem UInv.set2 {w wr : World} {s0 v1 v2 : Value} (h : UInv w wr s0 v1 v2) (v : Value) : UInv w (wr.setCell ⟨w.heap.size + 1, 2, none⟩ v) s0 v1 v :=
  ⟨h.1.other _ _ (by simp), h.2.1.set2 v, h.2.2.1.setCell (by simp) v, by have := h.2.2.2; simpa [World.setCell] using this⟩

theorem UInv.facts {w wr : World} {s0 v1 v2 : Value} (h : UInv w wr s0 v1 v2) :
    wr.cell? ⟨w.heap.size + 1, 0, none⟩ = some s0 ∧ wr.cell? ⟨w.heap.size + 1, 1, none⟩ = some v1 ∧ wr.cell? ⟨w.heap.size + 1, 2, none⟩ = some v2 ∧ (∀ o, wr.frozen? ⟨w.heap.size + 1, o, none⟩ = false) ∧
    wr.cell? ⟨w.heap.size, 0, none⟩ = some (.int .i64 0) ∧ wr.cell? ⟨w.heap.size, 1, none⟩ = some (.slice none 0 0) ∧ wr.cell? ⟨w.heap.size, 2, none⟩ = some (.slice none 0 0) ∧ (∀ o, wr.frozen? ⟨w.heap.size, o, none⟩ = false) ∧
    w.heap.size < wr.heap.size ∧ w.heap.size + 1 < wr.heap.size :=
  ⟨h.2.1.cell0, h.2.1.cell1, h.2.1.cell2, h.2.1.frozen, h.1.cell0, h.1.cell1, h.1.cell2, h.1.frozen, h.1.lt, h.2.1.lt⟩

theorem pow_big (j P : Nat) (hP : P = 128 ^ j) (h : (1099511627776 : Int) < P) : 5 ≤ j := by
  rcases Nat.lt_or_ge j 5 with hj | hj
  · have := Nat.pow_le_pow_right (n := 128) (by omega) (show j ≤ 4 by omega)
    omega
  · exact hj

theorem pow_small (j P : Nat) (hP : P = 128 ^ j) (h : ¬ (1099511627776 : Int) < P) : j + 1 ≤ 6 := by
  rcases Nat.lt_or_ge j 6 with hj | hj
  · omega
  · have := Nat.pow_le_pow_right (n := 128) (by omega) hj
    omega

theorem take_next (l : List Int) (A j c : Nat) (hj : A + j < l.length) (hc : l.getD (A + j) 0 = (c : Int)) : (l.drop A).take (j + 1) = (l.drop A).take j ++ [(c : Int)] := by
  apply Mx.take_snoc
  · rw [List.length_drop]; omega
  · rw [List.getD_eq_getElem?_getD, List.getElem?_drop, ← List.getD_eq_getElem?_getD]; exact hc

theorem high_more (l : List Int) (A j c : Nat) (hj : A + j < l.length) (hh : Mx.High ((l.drop A).take j)) (hc : l.getD (A + j) 0 = (c : Int)) (h1 : 128 ≤ (c : Int)) (h2 : c ≤ 255) : Mx.High ((l.drop A).take (j + 1)) :=
  high_snoc (l.drop A) j c hh (take_next l A j c hj hc) h1 h2

theorem wrap_two (V q P : Nat) (h1 : V < P) (h2 : q ≤ 127 * P) (hb : (P : Int) ≤ 1099511627776) : wrap64 ((V : Int) + wrap64 (q : Int)) = ((V + q : Nat) : Int) := by
  rw [IntWalk.wrap64_in (q : Int) (by omega), IntWalk.wrap64_in _ (by omega)]
  omega

theorem num_wrap (l : List Int) (A j V P c : Nat) (hj : A + j < l.length) (hP : P = 128 ^ j) (hb : (P : Int) ≤ 1099511627776) (hV : V = Mx.gval ((l.drop A).take j)) (hc : l.getD (A + j) 0 = (c : Int)) :
    wrap64 ((V : Int) + wrap64 ((c : Int) % 128 * (P : Int))) = (Mx.gval ((l.drop A).take (j + 1)) : Int) := by
  have hl : ((l.drop A).take j).length = j := by rw [List.length_take, List.length_drop]; omega
  have e : Mx.gval ((l.drop A).take (j + 1)) = V + c % 128 * P := by
    rw [take_next l A j c hj hc, Mx.gval_snoc, ← hV, hl, hP, Int.toNat_natCast]
  have h1 : V < P := by
    have := Mx.gval_lt ((l.drop A).take j)
    rw [hl, ← hV, ← hP] at this
    exact this
  have h2 : c % 128 * P ≤ 127 * P := Nat.mul_le_mul (by omega) (Nat.le_refl _)
  have e2 : (c : Int) % 128 * (P : Int) = ((c % 128 * P : Nat) : Int) := by simp
  rw [e2, e]
  exact wrap_two V _ P h1 h2 hb

/-- an array of eight bytes of which the first j are laid -/
def fill8 (zs : List Int) (j : Nat) : Array Value := ((zs.take j ++ List.replicate (8 - j) 0).map (Value.int .u8)).toArray

theorem fill8_zero (zs : List Int) : fill8 zs 0 = #[.int .u8 0, .int .u8 0, .int .u8 0, .int .u8 0, .int .u8 0, .int .u8 0, .int .u8 0, .int .u8 0] := rfl

theorem fill8_all (zs : List Int) (h : zs.length = 8) : fill8 zs 8 = (zs.map (Value.int .u8)).toArray := by
  unfold fill8
  rw [List.take_of_length_le (by omega)]
  simp

theorem fill8_at (zs : List Int) (j : Nat) (h : zs.length = 8) (hj : j < 8) : (fill8 zs j)[j]? = some (.int .u8 0) := by
  unfold fill8
  simp only [List.getElem?_toArray, List.getElem?_map]
  rw [List.getElem?_append_right (by rw [List.length_take]; omega), List.length_take, Nat.min_eq_left (by omega), Nat.sub_self, List.getElem?_replicate, if_pos (by omega)]
  rfl

theorem fill8_set (zs : List Int) (j : Nat) (z : Int) (h : zs.length = 8) (hj : j < 8) (hz : zs.getD j 0 = z) : (fill8 zs j).setIfInBounds j (.int .u8 z) = fill8 zs (j + 1) := by
  unfold fill8
  apply Array.ext'
  simp only [Array.toList_setIfInBounds]
  rw [List.map_append, List.set_append_right _ _ (by simp; omega)]
  rw [Mx.take_snoc zs j z (by omega) hz, show 8 - j = (8 - (j + 1)) + 1 by omega, List.replicate_succ]
  simp
  rw [show j - min j zs.length = 0 by omega]
  rfl

theorem list8 (zs : List Int) (h : zs.length = 8) : ∃ z0 z1 z2 z3 z4 z5 z6 z7, zs = [z0, z1, z2, z3, z4, z5, z6, z7] := by
  match zs, h with
  | [z0, z1, z2, z3, z4, z5, z6, z7], _ => exact ⟨z0, z1, z2, z3, z4, z5, z6, z7, rfl⟩

theorem block_more (l : List Int) (A m : Nat) (zs : List Int) (hz : zs = (l.drop (A + 8 * m)).take 8) : (l.drop A).take (8 * m) ++ zs = (l.drop A).take (8 * (m + 1)) := by
  rw [hz, ← List.drop_drop, show 8 * (m + 1) = 8 * m + 8 by omega, List.take_add]

theorem drop_getD (l : List Int) (A j : Nat) : (l.drop A).getD j 0 = l.getD (A + j) 0 := by
  rw [List.getD_eq_getElem?_getD, List.getElem?_drop, ← List.getD_eq_getElem?_getD]

theorem rowKeptBelow {w w' : World} {base e size n C : Nat} {v : Value} {xs : List Value} (h : w.ownsRow base e size v n xs) (hlt : ∀ g, v.ownBlock = some g → g < C) (hb : Below C w w') : w'.ownsRow base e size v n xs := by
  refine ⟨h.1, ?_⟩
  rcases h.2 with h2 | ⟨g, cap, cur, hv, hg, hh, r⟩
  · exact .inl h2
  · exact .inr ⟨g, cap, cur, hv, hg, (hb.block g (hlt g (by rw [hv]; rfl))).trans hh, r⟩

set_option maxHeartbeats 2000000 in
set_option maxRecDepth 100000 in
theorem unpacked_any (a : Option Addr) (len cap : Nat) (l : List Int) (w : World) (hl : Bytes w a len l) (hlen : len ≤ 2000) :
    Calls Try.prog 20 #[.slice a len cap] w fun e w' => Told w w' l e (.bool true) (.bool false) := by
  have HL := hide hl.1
  by_cases h6 : (len : Int) < 6
  · have HN := hide (frame_long (l := l) (by rw [HL.out]; omega))
    clear hl
    go_enter Try.func20, Try.ntmps20
    go_wp2
    refine bodyPost_ret (v := .tuple #[.agg #[.int .i64 0, .slice none 0 0, .slice none 0 0], .bool false]) (by simp [results, Try.results20, go_sem]) rfl (.inr ⟨rfl, HN.out, below_alloc _ _⟩)
  · obtain ⟨b, off, c0, rfl, hc0, hd0, hcell0, ht0⟩ := hl.at_ 0 (by omega)
    obtain ⟨b', off', c1, hbb, hc1, hd1, hcell1, ht1⟩ := hl.at_ 1 (by omega)
    cases hbb
    have hbs := World.block_lt_of_cell? w _ hcell0
    simp only [Nat.add_zero] at hcell0 hbs
    have HB := hide hl
    have H0 := hide hd0
    have H1 := hide hd1
    clear hl hd0 hd1 ht0 ht1
    go_enter Try.func20, Try.ntmps20
    go_wp2
    go_loopw [5, 6, 7, 8, 9] (fun p i _ _ _ wr => ∃ (k A : Nat) (nums : List Int) (v1 : Value), (k : Int) ≤ (c0 : Int) % 16 ∧ 2 ≤ A ∧ A + 4 ≤ len ∧ nums.length = k ∧ i = .int .i64 k ∧ p = .int .i64 A ∧ Hid (Mx.NumsTo l k nums A) ∧ Hid (OwnI wr (w.heap.size + 2) v1 nums) ∧ Hid (UInv w wr (.int .i64 ((c0 : Int) / 16)) v1 (.slice none 0 0)))
      (fun _ i _ _ _ _ => 16 - (intOf i).toNat)
    case atStart => exact ⟨0, 2, [], .slice none 0 0, by omega, by omega, by omega, rfl, rfl, rfl, Mx.NumsTo.start l, OwnI.nil _ _, UInv.start w _⟩
    case round =>
      obtain ⟨k, A, nums, v1, hk, hA2, hA, hnl, rfl, rfl, hN, hO, hU⟩ := hrel
      obtain ⟨f0, f1, f2, fz, g0, g1, g2, gz, s1, s2⟩ := hU.out.facts
      have hx0 : wr.cell? ⟨b, off, none⟩ = some (.int .u8 (c0 : Int)) := (hU.out.2.2.1.cell (p := ⟨b, off, none⟩) hbs).trans hcell0
      by_cases hlt : (k : Int) < (c0 : Int) % 16
      · obtain ⟨wo, rfl⟩ : ∃ wo : World, wo = wr := ⟨_, rfl⟩
        go_wp2
        go_loop [5, 7, 8, 9] (fun p n q _ => ∃ j V P : Nat, j ≤ 6 ∧ A + j + 4 ≤ len ∧ Hid (P = 128 ^ j) ∧ (1 : Int) ≤ P ∧ Hid (V = Mx.gval ((l.drop A).take j)) ∧ Hid (Mx.High ((l.drop A).take j)) ∧ p = .int .i64 ((A + j : Nat) : Int) ∧ n = .int .i64 V ∧ q = .int .i64 P)
          (fun p _ _ _ => len - (intOf p).toNat)
        case atStart => exact ⟨0, 0, 1, by omega, by omega, rfl, by omega, rfl, (fun c hc => absurd hc (by simp)), by simp, rfl, rfl⟩
        case round =>
          obtain ⟨j, V, P, hj6, hjl, hP, hP1, hV, hH, rfl, rfl, rfl⟩ := hrel
          by_cases hend : (A : Int) + j + 4 < len
          · by_cases hpl : (1099511627776 : Int) < P
            · have HN := hide (hN.out.more (j := j) (by rw [H0.out]; exact hlt) (by rw [HL.out]; omega) hH.out (.inr (pow_big j P hP.out hpl)))
              go_wp2_with fail
              obtain ⟨r0, r1, r2⟩ := hU.out.1.stored (.int .i64 0) (.slice none 0 0) (.slice none 0 0)
              exact bodyPost_ret (v := .tuple #[.agg #[.int .i64 0, .slice none 0 0, .slice none 0 0], .bool false]) (by simp [results, Try.results20, go_sem, r0, r1, r2]) rfl (.inr ⟨rfl, HN.out, below_stored hU.out.2.2.1 (Nat.le_refl _) _ _ _⟩)
            · obtain ⟨c, hcc, hd, hcx⟩ : ∃ c : Nat, c ≤ 255 ∧ l.getD (A + j) 0 = (c : Int) ∧ wo.cell? ⟨b, off + (A + j), none⟩ = some (.int .u8 (c : Int)) := by
                obtain ⟨b', off', c, hbb, e1, e2, e3, _⟩ := HB.out.at_ (A + j) (by omega)
                cases hbb
                exact ⟨c, e1, e2, (hU.out.2.2.1.cell (p := ⟨b, off + (A + j), none⟩) hbs).trans e3⟩
              have HD := hide hd
              clear hd
              obtain ⟨Z, hZ, hw⟩ : ∃ Z : Nat, Hid (Z = Mx.gval ((l.drop A).take (j + 1))) ∧ wrap64 ((V : Int) + wrap64 ((c : Int) % 128 * (P : Int))) = (Z : Int) :=
                ⟨_, rfl, num_wrap l A j V P c (by rw [HL.out]; omega) hP.out (by omega) hV.out HD.out⟩
              have HJ := hide (show A + j < l.length by rw [HL.out]; omega)
              go_wp2_with (at_builtin; refine wpList_append_int rfl _ _ rfl (w.heap.size + 2) nums hO.out (Z : Int) rfl ?c1 ?c2 ?_)
              case c1 => omega
              case c2 => omega
              · intro ad cc w' hown' hbel' had
                have hU' := hide (hU.out.later hbel')
                obtain ⟨f0', f1', f2', fz', g0', g1', g2', gz', s1', s2'⟩ := hU'.out.facts
                have HO' := hide hown'
                have hlow : (c : Int) < 128 := by assumption
                have HS := hide (hN.out.step (j := j) (c := c) (Z := Z) (by rw [H0.out]; exact hlt) HJ.out hH.out HD.out hlow hZ.out)
                clear hown' hbel'
                go_wp2_with fail
                go_roundw
                case rel =>
                  refine ⟨k + 1, A + j + 1, nums ++ [(Z : Int)], .slice (some ad) (k + 1) cc, by omega, by omega, by omega, by simp; omega, by go_num, by go_num, HS, ?_, hU'.out.set1 _⟩
                  have := ownsRow_setCell_below HO'.out (a := ⟨w.heap.size + 1, 1, none⟩) (by simp) (.slice (some ad) (k + 1) cc)
                  exact this
                case measure => simp [intOf]; omega
              · go_round
                case rel => exact ⟨j + 1, Z, P * 128, by have := hP.out; exact pow_small j P this hpl, by omega, by unfold Hid; rw [hP.out, Nat.pow_succ], by omega, hZ, high_more l A j c HJ.out hH.out HD.out ‹_› hcc, by go_num, by go_num, by go_num⟩
                case measure => simp [intOf]; omega
          · have HN := hide (hN.out.more (j := j) (by rw [H0.out]; exact hlt) (by rw [HL.out]; omega) hH.out (.inl (by rw [HL.out]; omega)))
            go_wp2_with fail
            obtain ⟨r0, r1, r2⟩ := hU.out.1.stored (.int .i64 0) (.slice none 0 0) (.slice none 0 0)
            exact bodyPost_ret (v := .tuple #[.agg #[.int .i64 0, .slice none 0 0, .slice none 0 0], .bool false]) (by simp [results, Try.results20, go_sem, r0, r1, r2]) rfl (.inr ⟨rfl, HN.out, below_stored hU.out.2.2.1 (Nat.le_refl _) _ _ _⟩)
      · have hkd : l.getD 0 0 % 16 = (k : Int) := by rw [H0.out]; omega
        have HD := hide (hN.out.done hkd)
        have HK := hide hkd
        obtain ⟨W3, hW3⟩ : ∃ W3 : Nat, Hid (W3 = wr.heap.size) := ⟨_, rfl⟩
        obtain ⟨wq, rfl⟩ : ∃ wq : World, wq = wr := ⟨_, rfl⟩
        clear hkd
        have HV1 := hide (show ∀ g, v1.ownBlock = some g → g < W3 by
          intro g hg
          rw [hW3.out]
          exact (World.ownsRow.lt hO.out g hg).2)
        have hW3b : w.heap.size + 2 ≤ W3 := by rw [hW3.out]; exact hU.out.2.2.2
        go_wp2
        go_loopw [3, 5, 10, 11, 12] (fun _ p i _ _ wr => ∃ (m : Nat) (v2 : Value), (m : Int) ≤ (c1 : Int) ∧ A + 8 * m + 4 ≤ len ∧ i = .int .i64 m ∧ p = .int .i64 ((A + 8 * m : Nat) : Int) ∧ Hid (OwnB wr W3 v2 m ((l.drop A).take (8 * m))) ∧ Hid (OwnI wr (w.heap.size + 2) v1 nums) ∧ Hid (UInv w wr (.int .i64 ((c0 : Int) / 16)) v1 v2) ∧ W3 ≤ wr.heap.size)
          (fun _ _ i _ _ _ => 256 - (intOf i).toNat)
        case atStart => exact ⟨0, .slice none 0 0, by omega, by omega, rfl, by simp, OwnB.nil _ _, hO, hU, by rw [hW3.out]; omega⟩
        case round =>
          clear f0 f1 f2 fz g0 g1 g2 gz s1 s2 hx0
          obtain ⟨m, v2, hm, hml, rfl, rfl, hB, hO3, hU3, hsz3⟩ := hrel
          obtain ⟨f0, f1, f2, fz, g0, g1, g2, gz, s1, s2⟩ := hU3.out.facts
          have hx1 : wr.cell? ⟨b, off + 1, none⟩ = some (.int .u8 (c1 : Int)) := (hU3.out.2.2.1.cell (p := ⟨b, off + 1, none⟩) hbs).trans hcell1
          clear hlt
          by_cases hlt : (m : Int) < (c1 : Int)
          · by_cases hfit : (A : Int) + 8 * m + 8 + 4 ≤ len
            · obtain ⟨wo, rfl⟩ : ∃ wo : World, wo = wr := ⟨_, rfl⟩
              obtain ⟨zs, hzs, hz8⟩ : ∃ zs : List Int, Hid (zs = (l.drop (A + 8 * m)).take 8) ∧ Hid (zs.length = 8) := ⟨_, rfl, by unfold Hid; rw [List.length_take, List.length_drop, HL.out]; omega⟩
              go_wp2
              go_loopw [12] (fun i wr => ∃ j : Nat, j ≤ 8 ∧ i = .int .i64 j ∧ wr = wo.alloc (.cells (fill8 zs j) 52)) (fun i _ => 8 - (intOf i).toNat)
              case atStart => exact ⟨0, by omega, rfl, rfl⟩
              case round =>
                obtain ⟨j, hj, rfl, rfl⟩ := hrel
                by_cases hj8 : (j : Int) < 8
                · obtain ⟨z, hzd, hcx⟩ : ∃ z : Int, zs.getD j 0 = z ∧ wo.cell? ⟨b, off + (A + 8 * m + j), none⟩ = some (.int .u8 z) := by
                    obtain ⟨b', off', c, hbb, e1, e2, e3, _⟩ := HB.out.at_ (A + 8 * m + j) (by omega)
                    cases hbb
                    refine ⟨(c : Int), ?_, (hU3.out.2.2.1.cell (p := ⟨b, off + (A + 8 * m + j), none⟩) hbs).trans e3⟩
                    rw [hzs.out, ← e2, ← drop_getD]
                    simp only [List.getD_eq_getElem?_getD]
                    rw [List.getElem?_take, if_pos (by omega)]
                  have hfa := fill8_at zs j hz8.out (by omega)
                  have HFS := hide (fill8_set zs j z hz8.out (by omega) hzd)
                  clear hzd
                  have hbw : b < wo.heap.size := by omega
                  go_wp2_with fail
                  go_roundw
                  case rel => exact ⟨j + 1, by omega, by go_num, by rw [HFS.out]⟩
                  case measure => simp [intOf]; omega
                · obtain rfl : j = 8 := by omega
                  rw [fill8_all zs hz8.out]
                  obtain ⟨z0, z1, z2, z3, z4, z5, z6, z7, rfl⟩ := list8 zs hz8.out
                  have HBS := hide (block_more l A m _ hzs.out)
                  go_wp2_with (at_builtin; refine wpList_append_block (w := wo.alloc (.cells #[.int .u8 z0, .int .u8 z1, .int .u8 z2, .int .u8 z3, .int .u8 z4, .int .u8 z5, .int .u8 z6, .int .u8 z7] 52)) rfl _ _ rfl W3 m ((l.drop A).take (8 * m)) ⟨hB.out.1, World.ownsRow.alloc hB.out.2 _⟩ [z0, z1, z2, z3, z4, z5, z6, z7] rfl _ rfl ?c0 ?c1 ?c2 ?_)
                  case c1 => omega
                  case c2 => omega
                  intro ad cc w' hown' hbel' had
                  have hbel2 := (((Below.refl W3 wo).alloc hsz3 _).trans hbel')
                  have hU' := hide (hU3.out.later (hbel2.mono hW3b))
                  obtain ⟨f0', f1', f2', fz', g0', g1', g2', gz', s1', s2'⟩ := hU'.out.facts
                  rw [HBS.out] at hown'
                  have HO' := hide hown'
                  have HI' := hide (rowKeptBelow hO3.out HV1.out hbel2)
                  have HSZ := hide hbel2.size
                  clear hown' hbel' hbel2
                  go_wp2_with fail
                  go_roundw
                  case rel =>
                    refine ⟨m + 1, .slice (some ad) (m + 1) cc, by omega, by omega, by go_num, by go_num, ⟨HO'.out.1, ownsRow_setCell_below HO'.out.2 (by show w.heap.size + 1 < W3; omega) _⟩, ownsRow_setCell_below HI'.out (by simp) _, hU'.out.set2 _, ?_⟩
                    have := HSZ.out
                    simp [World.setCell]; omega
                  case measure => simp [intOf]; omega
            · have HN := hide (show ∀ kind nums nb bs, ¬ Mx.IsFrame l kind nums nb bs by
                intro kind nums' nb bs hf
                obtain ⟨_, _, h3, h4, _⟩ := HD.out _ _ _ _ hf
                rw [H1.out] at h4
                rw [HL.out] at h3
                omega)
              go_wp2_with fail
              obtain ⟨r0, r1, r2⟩ := hU3.out.1.stored (.int .i64 0) (.slice none 0 0) (.slice none 0 0)
              exact bodyPost_ret (v := .tuple #[.agg #[.int .i64 0, .slice none 0 0, .slice none 0 0], .bool false]) (by simp [results, Try.results20, go_sem, r0, r1, r2]) rfl (.inr ⟨rfl, HN.out, below_stored hU3.out.2.2.1 (Nat.le_refl _) _ _ _⟩)
          · subst hnl
            obtain ⟨a1, cc1, rfl, hI1⟩ := hO3.out.ints
            obtain ⟨a2, cc2, rfl, hI2⟩ := hB.out.blks (fun x hx => HB.out.2.2.1 x (List.mem_of_mem_drop (List.mem_of_mem_take hx)))
            obtain ⟨bs, hbsE⟩ : ∃ bs : List Int, Hid (bs = (l.drop A).take (8 * m)) := ⟨_, rfl⟩
            rw [← hbsE.out] at hI2
            have hmc : (m : Int) = (c1 : Int) := by omega
            have HF := hide (show ∀ k' l' n' s', Mx.IsFrame l k' l' n' s' → Mx.IsFrame l ((c0 : Int) / 16) nums m bs by
              intro k' l' n' s' hf
              obtain ⟨e1, e2, e3, e4, e5, e6⟩ := HD.out _ _ _ _ hf
              rw [H1.out] at e4
              rw [H0.out] at e5
              have en : n' = m := by omega
              subst en
              rw [hbsE.out, e1, ← e5, ← e6]
              exact hf)
            have HI1 := hide hI1
            have HI2 := hide hI2
            have hml2 := hide (show m ≤ maxLen from hI2.2.1)
            have HA1 := hide hO3.out.above
            have HA2 := hide hB.out.above
            clear hI1 hI2 hmc hO hU HV1 hB hO3
            go_wp2_with fail
            refine (frameMay_any ((c0 : Int) / 16) a1 a2 nums.length cc1 m cc2 nums wr HI1.out hml2.out).mono ?_
            rintro e w1 ⟨rfl, hb1⟩
            have hU4 := hide (hU3.out.later (hb1.mono hU3.out.2.2.2))
            have HB1 := hide hb1
            clear hb1 f0 f1 f2 fz g0 g1 g2 gz s1 s2 hx1
            obtain ⟨f0, f1, f2, fz, g0, g1, g2, gz, s1, s2⟩ := hU4.out.facts
            by_cases hm0 : Mx.may ((c0 : Int) / 16) nums m = 0
            · rw [hm0]
              go_wp2_with fail
              refine (packed_any ((c0 : Int) / 16) a1 a2 nums.length cc1 m cc2 nums bs w1 (HI1.out.later HB1.out) (HI2.out.later HB1.out) hm0).mono ?_
              rintro e w2 ⟨v, rfl, hown, hb2⟩
              obtain ⟨PB, hPB, hPB2, hPB3⟩ : ∃ PB : List Int, Hid (PB = Mx.packB ((c0 : Int) / 16) nums m bs) ∧ Hid (∀ x ∈ PB, 0 ≤ x ∧ x ≤ 255) ∧ PB ≠ [] := ⟨_, rfl, packB_byte HI2.out hm0, by simp [Mx.packB, Mx.sealB]⟩
              rw [← hPB.out] at hown
              obtain ⟨g, capP, rfl, hg1, hg2⟩ := own_slice hown hPB3
              have HBP := hide (own_bytes hown hPB2.out)
              have hU5 := hide (hU4.out.later (hb2.mono hU4.out.2.2.2))
              have HB2 := hide hb2
              clear hown f0 f1 f2 fz g0 g1 g2 gz s1 s2 hg1 hg2 hb2
              obtain ⟨f0, f1, f2, fz, g0, g1, g2, gz, s1, s2⟩ := hU5.out.facts
              go_wp2_with fail
              refine (sameBytes_gen _ _ _ _ _ _ PB l w2 HBP.out (HB.out.later hU5.out.2.2.1)).mono ?_
              rintro e w3 ⟨r, rfl, hr, nn, rfl⟩
              cases r with
              | true =>
                have HFR := hide (show Mx.IsFrame l ((c0 : Int) / 16) nums m bs from ⟨hm0, HI2.out.1, HI2.out.2.2.1, by rw [← hPB.out]; exact hr.1 rfl⟩)
                clear hr hm0
                go_wp2_with fail
                obtain ⟨r0, r1, r2⟩ := (show BoxAt (w2.drewN nn) w.heap.size (.int .i64 0) (.slice none 0 0) (.slice none 0 0) from hU5.out.1).stored (.int .i64 ((c0 : Int) / 16)) (.slice a1 nums.length cc1) (.slice a2 m cc2)
                refine bodyPost_ret (v := .tuple #[.agg #[.int .i64 ((c0 : Int) / 16), .slice a1 nums.length cc1, .slice a2 m cc2], .bool true]) (by simp [results, Try.results20, go_sem, r0, r1, r2]) rfl (.inl ⟨_, nums, m, bs, a1, cc1, a2, cc2, rfl, HFR.out, ?_, ?_, below_stored (below_drewN hU5.out.2.2.1 nn) (Nat.le_refl _) _ _ _⟩)
                · exact Ints.stored (w := w2.drewN nn) ((HI1.out.later HB1.out).later (below_drewN HB2.out nn)) _ (fun p hp => by have := HA1.out p hp; omega) _ _ _
                · exact Blks.stored (w := w2.drewN nn) ((HI2.out.later HB1.out).later (below_drewN HB2.out nn)) _ (fun p hp => by have := HA2.out p hp; omega) _ _ _
              | false =>
                have HN := hide (show ∀ kind nums nb bs, ¬ Mx.IsFrame l kind nums nb bs by
                  intro k' l' n' s' hf
                  have := (HF.out _ _ _ _ hf).2.2.2
                  rw [← hPB.out] at this
                  have := hr.2 this
                  cases this)
                clear hr hm0
                go_wp2_with fail
                obtain ⟨r0, r1, r2⟩ := (show BoxAt (w2.drewN nn) w.heap.size (.int .i64 0) (.slice none 0 0) (.slice none 0 0) from hU5.out.1).stored (.int .i64 0) (.slice none 0 0) (.slice none 0 0)
                exact bodyPost_ret (v := .tuple #[.agg #[.int .i64 0, .slice none 0 0, .slice none 0 0], .bool false]) (by simp [results, Try.results20, go_sem, r0, r1, r2]) rfl (.inr ⟨rfl, HN.out, below_stored (below_drewN hU5.out.2.2.1 nn) (Nat.le_refl _) _ _ _⟩)
            · have HN := hide (show ∀ kind nums nb bs, ¬ Mx.IsFrame l kind nums nb bs by
                intro k' l' n' s' hf
                exact hm0 (HF.out _ _ _ _ hf).1)
              obtain ⟨E, hE, hE0⟩ : ∃ E : Int, Hid (Mx.may ((c0 : Int) / 16) nums m = E) ∧ (E != 0) = true := ⟨_, rfl, by simpa using hm0⟩
              rw [hE.out]
              clear hm0
              go_wp2_with fail
              obtain ⟨r0, r1, r2⟩ := hU4.out.1.stored (.int .i64 0) (.slice none 0 0) (.slice none 0 0)
              exact bodyPost_ret (v := .tuple #[.agg #[.int .i64 0, .slice none 0 0, .slice none 0 0], .bool false]) (by simp [results, Try.results20, go_sem, r0, r1, r2]) rfl (.inr ⟨rfl, HN.out, below_stored hU4.out.2.2.1 (Nat.le_refl _) _ _ _⟩)
end Go.Proofs.Ytdhmijjphgcdmaa
