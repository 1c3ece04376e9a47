/-
  For every disk that can be read, every place and every block, in whatever memory, DiskSays returns true (the program's Check, Read, Write and Flush are what the document's answer says), and the disk reads behind the call as it read before. No condition.
-/
import Derived.Test.YtengpogcdnbabaaDopen
import Derived.Test.YtengpogcdnbabaaDsayse
import Derived.Test.YtengpogcdnbabaaDsaysc
import Derived.Test.YtengpogcdnbabaaDsaysd
import Derived.Test.YtengpogcdnbabaaDsaysf
import Derived.Test.YtengpogcdnbabaaDsaysg
namespace Go.Proofs.Ytengpogcdnbabaa
open Go.ChangeShapes Go.WideShapes Go.ChangeAt Go.RowKit

set_option maxRecDepth 100000 in
theorem dsays_big (sa pa : Option Addr) (n sc m pc : Nat) (left at_ : Int) (x : B8) (w : World) (h : 300 < n ∨ 900 < m) :
    Calls Try.prog 6 #[.agg #[.slice sa n sc, .slice pa m pc, .int .i64 left], .int .i64 at_, .agg #[.int .u8 x.z0, .int .u8 x.z1, .int .u8 x.z2, .int .u8 x.z3, .int .u8 x.z4, .int .u8 x.z5, .int .u8 x.z6, .int .u8 x.z7]] w fun e w' =>
      e = .returned (.bool true) ∧ Below w.heap.size w w' := by
  by_cases h1 : (300 : Int) < n
  · clear h
    go_enter Try.func6, Try.ntmps6
    go_wp2
    go_ret
    exact ⟨rfl, (below_alloc _ _).alloc (by simp) _⟩
  · have h2 : (900 : Int) < m := by omega
    clear h
    go_enter Try.func6, Try.ntmps6
    go_wp2
    go_ret
    exact ⟨rfl, (below_alloc _ _).alloc (by simp) _⟩

theorem dsays_any (sa pa : Option Addr) (n sc m pc : Nat) (left at_ : Int) (x : B8) (ls : List B8) (ps : List Pt) (w : World) (hs : BL w sa n ls) (hp : PL w pa m ps) (hl1 : -9223372036854775808 ≤ left) (hl2 : left ≤ 9223372036854775807) :
    Calls Try.prog 6 #[.agg #[.slice sa n sc, .slice pa m pc, .int .i64 left], .int .i64 at_, .agg #[.int .u8 x.z0, .int .u8 x.z1, .int .u8 x.z2, .int .u8 x.z3, .int .u8 x.z4, .int .u8 x.z5, .int .u8 x.z6, .int .u8 x.z7]] w fun e w' =>
      e = .returned (.bool true) ∧ Below w.heap.size w w' := by
  by_cases hbig : 300 < n ∨ 900 < m
  · exact dsays_big sa pa n sc m pc left at_ x w hbig
  by_cases hmay : Mx.dmay n ps = 0
  · by_cases hin : 0 ≤ at_ ∧ at_ < n
    · by_cases hl : left = 0
      · by_cases hm8 : m = 800
        · exact dsays_d1a sa pa n sc m pc left at_ x ls ps w hs hp (by omega) (by omega) hmay hin hl hm8
        · exact dsays_d1b sa pa n sc m pc left at_ x ls ps w hs hp (by omega) (by omega) hmay hin hl hm8
      · by_cases hm8 : m = 800
        · exact dsays_d2a sa pa n sc m pc left at_ x ls ps w hs hp hl1 hl2 hmay hin.1 hin.2 hm8 hl
        · exact dsays_d2b sa pa n sc m pc left at_ x ls ps w hs hp hl1 hl2 hmay hin.1 hin.2 hm8 hl
    · by_cases hl : left = 0
      · exact dsays_c1 sa pa n sc m pc left at_ x ls ps w hs hp (by omega) (by omega) hmay hin hl
      · exact dsays_c2 sa pa n sc m pc left at_ x ls ps w hs hp hl1 hl2 hmay hin hl
  · exact dsays_e sa pa n sc m pc left at_ x ls ps w hs hp (by omega) (by omega) _ rfl hmay

set_option maxRecDepth 100000 in
theorem dsays_lifted (os : Os) (started : os.Started) (H : Type) (enc : TypeId × Value → H) :
    ReturnsInHanded {} Try.checked os 6 .any (Rows.diskSaysSpec.pre6 enc Try.prog Try.f6 Rows.diskSaysRow.domain false) (Rows.diskSaysSpec.post enc Try.prog Try.f6 false true false false) := by
  refine returnsInHanded_of_change (C := Try.checked) Try.own started (by kernel_rfl) Try.func6
    (ChangeSpec.witness6 (enc := enc) (C := Try.checked) false ⟨#[], #[.agg #[.slice none 0 0, .slice none 0 0, .int .i64 0], .int .i64 0, .agg #[.int .u8 0, .int .u8 0, .int .u8 0, .int .u8 0, .int .u8 0, .int .u8 0, .int .u8 0, .int .u8 0]], []⟩ 8 (by kernel_rfl) (by kernel_rfl) (by kernel_rfl) (by kernel_rfl)) ?_
  intro W base args ds gs before hval0 hW hcnd _
  have hval : ∀ (j : Nat) t v, Try.f6.params[j]? = some t → args[j]? = some v → Value.okWide Try.prog W .any base t v := hval0
  have hW' := hW
  obtain ⟨p, q, hA0, hV, rfl, hfz, hnd⟩ := hW
  have hA : DataW.TrodAll enc Try.prog W 0 (fun _ => true) true Try.f6.params.toList args.toList ds p := hA0
  rw [Try.params6] at hA hval
  obtain ⟨v0, vs0, d0, ds0, p0, q0, hargs, rfl, rfl, h0, r0⟩ := trodAll_cons hA
  obtain ⟨v1, vs1, d1, ds1, p1, q1, rfl, rfl, rfl, h1, r1⟩ := trodAll_cons r0
  obtain ⟨v2, vs2, d2, ds2, p2, q2, rfl, rfl, rfl, h2, r2⟩ := trodAll_cons r1
  obtain ⟨rfl, rfl, rfl⟩ := trodAll_nil r2
  obtain rfl : args = #[v0, v1, v2] := by cases args; simp_all
  obtain ⟨rfl, rfl⟩ := trodVars_none hV
  have k0 := h0
  have lt0 : ∀ x ∈ p0, x.block < W.heap.size := by obtain ⟨m, hm⟩ := k0; exact DataW.trod_lt m _ _ _ hm
  have k2 := h2
  have lt2 : ∀ x ∈ p2, x.block < W.heap.size := by obtain ⟨m, hm⟩ := k2; exact DataW.trod_lt m _ _ _ hm
  obtain ⟨sa, n, sc, pa, m, pc, ls, ps, left, rfl, hs, hp, hl1, hl2⟩ := open_disk (hval 0 50 v0 rfl rfl) h0
  obtain ⟨x1, rfl, rfl, rfl, w1⟩ := open_int Try.underlying3 (hval 1 3 v1 rfl rfl) h1
  obtain ⟨x, rfl⟩ := open_blockv (hval 2 52 v2 rfl rfl) h2
  clear hA0 hval0
  refine (dsays_any sa pa n sc m pc left x1 x ls ps W hs hp hl1 hl2).mono fun e W' ⟨he, bel⟩ => ?_
  subst he
  exact ⟨_, rfl, _, _, _, [], _, [], hW', trodAll_mk1 (shut_bool Try.underlying4 _), (trodAll_cons_mk (Below.trod Try.laidOut (by kernel_rfl) (of_decide_eq_true (by kernel_rfl)) k0 bel lt0) (trodAll_cons_mk (shut_int Try.underlying3 w1) (trodAll_cons_mk (Below.trod Try.laidOut (by kernel_rfl) (of_decide_eq_true (by kernel_rfl)) k2 bel lt2) trodAll_mk0))), rfl, bel.frame _, fun h => by cases h⟩

theorem diskSays_holds : Rows.DiskSaysSaid :=
  OpenClaim.holds_of_wide 6 Try.f6 rfl rfl rfl rfl rfl rfl rfl ⟨rfl, rfl, rfl, rfl, rfl⟩ rfl rfl rfl rfl rfl (by kernel_rfl) Try.func6 (by kernel_rfl)
    (of_decide_eq_true (by kernel_rfl)) (by unfold Func.isWrapper; first | (rw [if_pos (by decide +kernel)]; kernel_rfl) | (rw [if_neg (by decide +kernel)]; exact ⟨rfl, rfl⟩))
    (fun os started H enc _ => dsays_lifted os started H enc)
#print axioms diskSays_holds
end Go.Proofs.Ytengpogcdnbabaa
