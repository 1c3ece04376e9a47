/-
  The law TopLine: over a line, in order, each once, and all in the end.
-/
import Derived.Deep.LoopGhost
import Derived.Test.YtfgonmgmoeoedaaZSums
import Derived.Test.YtfgonmgmoeoedaaZIter
import Derived.Test.YtfgonmgmoeoedaaZLng

namespace Go.Proofs.Ytfgonmgmoeoedaa
open Go.RowKit

theorem LST.net_len {w0 w : World} {g : Nat} {ses : Int} {ns : List (Bool × List Int)} {nv cv : Value} {qa : Option Addr} {qn qc : Nat} {cm : List Int} {base want : Int} {q : List Fr} (h : LnW (fun _ => False) w0 w g ses base q want ns cm true qa qn qc nv cv) : ∃ a c, nv = .slice a ns.length c := by
  obtain ⟨vs, h1, _⟩ := h.net
  rcases h1.2 with ⟨hv, h0⟩ | ⟨g', cap, _, hv, _⟩
  · exact ⟨none, 0, by rw [hv, h0]⟩
  · exact ⟨_, cap, hv⟩

theorem row_form {w : World} {base : Nat} {cv : Value} {cm : List Int} (h : w.ownsRow base 3 1 cv cm.length (cm.map (Value.int .i64))) : (∃ a c, cv = .slice a cm.length c) ∧ ∀ i, i < cm.length → ∃ gc c, cv = .slice (some ⟨gc, 0, none⟩) cm.length c ∧ w.cell? ⟨gc, i, none⟩ = some (.int .i64 (cm.getD i 0)) := by
  have h' := h
  rcases h.2 with ⟨hv, h0⟩ | ⟨g', cap, _, hv, _⟩
  · exact ⟨⟨none, 0, by rw [hv, h0]⟩, fun i hi => by omega⟩
  · refine ⟨⟨_, cap, hv⟩, fun i hi => ⟨g', cap, hv, ?_⟩⟩
    subst hv
    rw [World.ownsRow.cellAt h' i (by omega), List.getElem?_map, List.getElem?_eq_getElem hi, List.getD_eq_getElem?_getD, List.getElem?_eq_getElem hi]
    rfl

set_option maxHeartbeats 16000000 in
set_option maxRecDepth 100000 in
theorem ltl11 {w v : World} {g : Nat} {m : Nat} (BL : Hid (Below w.heap.size w v)) {u0 u2 u3 u4 u5 u6 u8 u9 u10 u11 u12 u13 u14 u15 u16 u17 u18 u19 u20 u21 u22 u23 u24 u25 u26 u27 u28 u29 u30 u31 u32 u33 u34 u35 u36 u37 u38 u39 u40 u41 u42 u43 u44 u45 u46 u47 u48 u49 u50 u51 u52 u53 u54 u55 u56 u57 u58 u59 u60 u61 u62 u63 u64 u65 u66 u67 u68 u69 u70 u71 u72 u73 u74 u75 u76 u77 u78 u79 u80 u81 u82 u83 u84 u85 u86 u87 u88 u89 u90 u91 u92 u93 u94 u95 u96 u97 u98 u99 u100 u101 u102 u103 u104 u105 u106 u107 u108 u109 u110 u111 u112 u113 u114 u115 u116 u117 u118 u119 u120 u121 u122 u123 u124 u125 u126 u127 u128 u129 u130 u131 u132 u133 u134 u135 u136 u137 u138 u139 u140 u141 u142 u143 u144 u145 u146 u147 u148 u149 u150 u151 u152 u153 u154 u155 u156 u157 u158 u159 u160 u161 u162 u163 u164 u165 u166 u167 u168 u169 u170 u171 u172 u173 u174 u175 u176 u177 u178 u179 u180 u181 u182 u183 u184 u185 u186 u187 u188 u189 u190 u191 u192 u193 u194 u195 u196 u197 u198 u199 u200 u201 u202 u203 u204 u205 u206 u207 u208 u209 u210 u211 u212 u213 u214 u215 u216 u217 u218 u219 u220 u221 u222 u223 u224 u225 u226 u227 u228 u229 u230 u231 u232 u233 u234 u235 : Value} :
    TailG Try.f5 (fun e w' => e = .returned (.bool true) ∧ Below w.heap.size w w') 11 ⟨#[u0, .int .i64 (m : Int), u2, u3, u4, u5, u6, .pointer (some ⟨g, 0, none⟩), u8, u9, u10, u11, u12, u13, u14, u15, u16, u17, u18, u19, u20, u21, u22, u23, u24, u25, u26, u27, u28, u29, u30, u31, u32, u33, u34, u35, u36, u37, u38, u39, u40, u41, u42, u43, u44, u45, u46, u47, u48, u49, u50, u51, u52, u53, u54, u55, u56, u57, u58, u59, u60, u61, u62, u63, u64, u65, u66, u67, u68, u69, u70, u71, u72, u73, u74, u75, u76, u77, u78, u79, u80, u81, u82, u83, u84, u85, u86, u87, u88, u89, u90, u91, u92, u93, u94, u95, u96, u97, u98, u99, u100, u101, u102, u103, u104, u105, u106, u107, u108, u109, u110, u111, u112, u113, u114, u115, u116, u117, u118, u119, u120, u121, u122, u123, u124, u125, u126, u127, u128, u129, u130, u131, u132, u133, u134, u135, u136, u137, u138, u139, u140, u141, u142, u143, u144, u145, u146, u147, u148, u149, u150, u151, u152, u153, u154, u155, u156, u157, u158, u159, u160, u161, u162, u163, u164, u165, u166, u167, u168, u169, u170, u171, u172, u173, u174, u175, u176, u177, u178, u179, u180, u181, u182, u183, u184, u185, u186, u187, u188, u189, u190, u191, u192, u193, u194, u195, u196, u197, u198, u199, u200, u201, u202, u203, u204, u205, u206, u207, u208, u209, u210, u211, u212, u213, u214, u215, u216, u217, u218, u219, u220, u221, u222, u223, u224, u225, u226, u227, u228, u229, u230, u231, u232, u233, u234, u235], []⟩ v := by
  refine tailG_last (c := .seq _ .ret) rfl ?_
  go_wp2_with fail
  go_ret
  exact ⟨rfl, BL.out⟩

set_option maxHeartbeats 16000000 in
set_option maxRecDepth 100000 in
theorem ltl10 {w v : World} {g : Nat} {ses : Int} {m : Nat} {qa : Option Addr} {qn qc : Nat} {nv cv : Value} {base want : Int} {q : List Fr} {ns : List (Bool × List Int)} (hm : m ≤ 20) (HH : Hid (LnW (fun _ => False) w v g ses base q want ns (Mx.cmF m) true qa qn qc nv cv)) {u0 u2 u3 u4 u5 u6 u8 u9 u10 u11 u12 u13 u14 u15 u16 u17 u18 u19 u20 u21 u22 u23 u24 u25 u26 u27 u28 u29 u30 u31 u32 u33 u34 u35 u36 u37 u38 u39 u40 u41 u42 u43 u44 u45 u46 u47 u48 u49 u50 u51 u52 u53 u54 u55 u56 u57 u58 u59 u60 u61 u62 u63 u64 u65 u66 u67 u68 u69 u70 u71 u72 u73 u74 u75 u76 u77 u78 u79 u80 u81 u82 u83 u84 u85 u86 u87 u88 u89 u90 u91 u92 u93 u94 u95 u96 u97 u98 u99 u100 u101 u102 u103 u104 u105 u106 u107 u108 u109 u110 u111 u112 u113 u114 u115 u116 u117 u118 u119 u120 u121 u122 u123 u124 u125 u126 u127 u128 u129 u130 u131 u132 u133 u134 u135 u136 u137 u138 u139 u140 u141 u142 u143 u144 u145 u146 u147 u148 u149 u150 u151 u152 u153 u154 u155 u156 u157 u158 u159 u160 u161 u162 u163 u164 u165 u166 u167 u168 u169 u170 u171 u172 u173 u174 u175 u176 u177 u178 u179 u180 u181 u182 u183 u184 u185 u186 u187 u188 u189 u190 u191 u192 u193 u194 u195 u196 u197 u198 u199 u200 u201 u202 u203 u204 u205 u206 u207 u208 u209 u210 u211 u212 u213 u214 u215 u216 u217 u218 u219 u220 u221 u222 u223 u224 u225 u226 u227 u228 u229 u230 u231 u232 u233 u234 u235 : Value} :
    TailG Try.f5 (fun e w' => e = .returned (.bool true) ∧ Below w.heap.size w w') 10 ⟨#[u0, .int .i64 (m : Int), u2, u3, u4, u5, u6, .pointer (some ⟨g, 0, none⟩), u8, u9, u10, u11, u12, u13, u14, u15, u16, u17, u18, u19, u20, u21, u22, u23, u24, u25, u26, u27, u28, u29, u30, u31, u32, u33, u34, u35, u36, u37, u38, u39, u40, u41, u42, u43, u44, u45, u46, u47, u48, u49, u50, u51, u52, u53, u54, u55, u56, u57, u58, u59, u60, u61, u62, u63, u64, u65, u66, u67, u68, u69, u70, u71, u72, u73, u74, u75, u76, u77, u78, u79, u80, u81, u82, u83, u84, u85, u86, u87, u88, u89, u90, u91, u92, u93, u94, u95, u96, u97, u98, u99, u100, u101, u102, u103, u104, u105, u106, u107, u108, u109, u110, u111, u112, u113, u114, u115, u116, u117, u118, u119, u120, u121, u122, u123, u124, u125, u126, u127, u128, u129, u130, u131, u132, u133, u134, u135, u136, u137, u138, u139, u140, u141, u142, u143, u144, u145, u146, u147, u148, u149, u150, u151, u152, u153, u154, u155, u156, u157, u158, u159, u160, u161, u162, u163, u164, u165, u166, u167, u168, u169, u170, u171, u172, u173, u174, u175, u176, u177, u178, u179, u180, u181, u182, u183, u184, u185, u186, u187, u188, u189, u190, u191, u192, u193, u194, u195, u196, u197, u198, u199, u200, u201, u202, u203, u204, u205, u206, u207, u208, u209, u210, u211, u212, u213, u214, u215, u216, u217, u218, u219, u220, u221, u222, u223, u224, u225, u226, u227, u228, u229, u230, u231, u232, u233, u234, u235], []⟩ v := by
  refine tailG_step rfl ?_
  intro K hK
  obtain ⟨⟨ca, cc, hcv⟩, hrow⟩ := row_form HH.out.row
  rw [Mx.cmF_len] at hcv hrow
  have HR := hide hrow
  subst hcv
  clear hrow
  obtain ⟨x0, x1, x2, x3, x4, x5, x6, x7⟩ := HH.out.bx.cells
  go_wp2_with fail
  go_loopw [16] (fun t wr => ∃ k : Nat, k ≤ m ∧ t = .int .i64 (k : Int) ∧ wr = v) (fun t _ => m - (intOf t).toNat)
  case atStart => exact ⟨0, by omega, rfl, rfl⟩
  case round =>
    obtain ⟨k, hk, rfl, rfl⟩ := hrel
    by_cases hlt : k < m
    · obtain ⟨gc, c, hcv, e0⟩ := HR.out k hlt
      simp only [Value.slice.injEq] at hcv
      obtain ⟨rfl, _, _⟩ := hcv
      rw [Mx.cmF_at hlt] at e0
      have hki : (k : Int) < m := by omega
      go_wp2_with fail
      go_roundw
      case rel => exact ⟨k + 1, by omega, by go_num, trivial⟩
      case measure => simp [intOf]; omega
    · obtain rfl : k = m := by omega
      go_wp2_with fail
      exact Met.intro (ltl11 (hide HH.out.bl))

set_option maxHeartbeats 16000000 in
set_option maxRecDepth 100000 in
theorem ltl9 {w v : World} {g : Nat} {ses : Int} {m : Nat} {qa : Option Addr} {qn qc : Nat} {nv cv : Value} {ns : List (Bool × List Int)} (hm : m ≤ 20) (HH : Hid (LnW (fun _ => False) w v g ses (m : Int) (Mx.qF m m) (m : Int) ns (Mx.cmF m) true qa qn qc nv cv)) {u0 u2 u3 u4 u5 u6 u8 u9 u10 u11 u12 u13 u14 u15 u16 u17 u18 u19 u20 u21 u22 u23 u24 u25 u26 u27 u28 u29 u30 u31 u32 u33 u34 u35 u36 u37 u38 u39 u40 u41 u42 u43 u44 u45 u46 u47 u48 u49 u50 u51 u52 u53 u54 u55 u56 u57 u58 u59 u60 u61 u62 u63 u64 u65 u66 u67 u68 u69 u70 u71 u72 u73 u74 u75 u76 u77 u78 u79 u80 u81 u82 u83 u84 u85 u86 u87 u88 u89 u90 u91 u92 u93 u94 u95 u96 u97 u98 u99 u100 u101 u102 u103 u104 u105 u106 u107 u108 u109 u110 u111 u112 u113 u114 u115 u116 u117 u118 u119 u120 u121 u122 u123 u124 u125 u126 u127 u128 u129 u130 u131 u132 u133 u134 u135 u136 u137 u138 u139 u140 u141 u142 u143 u144 u145 u146 u147 u148 u149 u150 u151 u152 u153 u154 u155 u156 u157 u158 u159 u160 u161 u162 u163 u164 u165 u166 u167 u168 u169 u170 u171 u172 u173 u174 u175 u176 u177 u178 u179 u180 u181 u182 u183 u184 u185 u186 u187 u188 u189 u190 u191 u192 u193 u194 u195 u196 u197 u198 u199 u200 u201 u202 u203 u204 u205 u206 u207 u208 u209 u210 u211 u212 u213 u214 u215 u216 u217 u218 u219 u220 u221 u222 u223 u224 u225 u226 u227 u228 u229 u230 u231 u232 u233 u234 u235 : Value} :
    TailG Try.f5 (fun e w' => e = .returned (.bool true) ∧ Below w.heap.size w w') 9 ⟨#[u0, .int .i64 (m : Int), u2, u3, u4, u5, u6, .pointer (some ⟨g, 0, none⟩), u8, u9, u10, u11, u12, u13, u14, u15, u16, u17, u18, u19, u20, u21, u22, u23, u24, u25, u26, u27, u28, u29, u30, u31, u32, u33, u34, u35, u36, u37, u38, u39, u40, u41, u42, u43, u44, u45, u46, u47, u48, u49, u50, u51, u52, u53, u54, u55, u56, u57, u58, u59, u60, u61, u62, u63, u64, u65, u66, u67, u68, u69, u70, u71, u72, u73, u74, u75, u76, u77, u78, u79, u80, u81, u82, u83, u84, u85, u86, u87, u88, u89, u90, u91, u92, u93, u94, u95, u96, u97, u98, u99, u100, u101, u102, u103, u104, u105, u106, u107, u108, u109, u110, u111, u112, u113, u114, u115, u116, u117, u118, u119, u120, u121, u122, u123, u124, u125, u126, u127, u128, u129, u130, u131, u132, u133, u134, u135, u136, u137, u138, u139, u140, u141, u142, u143, u144, u145, u146, u147, u148, u149, u150, u151, u152, u153, u154, u155, u156, u157, u158, u159, u160, u161, u162, u163, u164, u165, u166, u167, u168, u169, u170, u171, u172, u173, u174, u175, u176, u177, u178, u179, u180, u181, u182, u183, u184, u185, u186, u187, u188, u189, u190, u191, u192, u193, u194, u195, u196, u197, u198, u199, u200, u201, u202, u203, u204, u205, u206, u207, u208, u209, u210, u211, u212, u213, u214, u215, u216, u217, u218, u219, u220, u221, u222, u223, u224, u225, u226, u227, u228, u229, u230, u231, u232, u233, u234, u235], []⟩ v := by
  refine tailG_step rfl ?_
  intro K hK
  obtain ⟨⟨ca, cc, hcv⟩, hrow⟩ := row_form HH.out.row
  rw [Mx.cmF_len] at hcv
  subst hcv
  clear hrow
  obtain rfl : qn = 0 := by have h1 := HH.out.fl.1; rw [Mx.qF_len] at h1; omega
  obtain ⟨x0, x1, x2, x3, x4, x5, x6, x7⟩ := HH.out.bx.cells
  go_wp2_with fail
  exact Met.intro (ltl10 hm HH)

namespace Mx
/-- how much is still to come, at most -/
def mu (ns : List (Bool × List Int)) : Nat := (ns.map (fun e => if e.1 then 2 else 1)).sum
theorem come_len {ses : Int} {m b wt b' wt' : Nat} {e : Bool × List Int} {ns ns' : List (Bool × List Int)} (hc : Come ses m b wt ns e b' wt' ns') : ns.length ≤ ns'.length ∧ ns'.length ≤ ns.length + 1 := by
  cases hc <;> simp
theorem mu_come {ses : Int} {m b wt b' wt' : Nat} {e : Bool × List Int} {ns ns' : List (Bool × List Int)} (hc : Come ses m b wt (e :: ns) e b' wt' ns') : mu (ns'.eraseIdx 0) < mu (e :: ns) ∧ (ns'.eraseIdx 0).length ≤ (e :: ns).length ∧ b ≤ b' ∧ ns' ≠ [] ∧ ns'.length ≤ (e :: ns).length + 1 := by
  cases hc with
  | next h1 h2 => subst h1; simp [mu]; omega
  | again i h1 h2 h3 => subst h1; simp [mu]; omega
  | back k h1 h2 => subst h1; simp [mu]; omega
end Mx

theorem lst_come0 (w0 w : World) (g : Nat) (ses : Int) (m b wt : Nat) (e0 : Bool × List Int) (ns : List (Bool × List Int)) (h : LST w0 w g ses m b wt (e0 :: ns)) (hs0 : 0 ≤ ses) (hs1 : ses < 1000) (hm : m ≤ 20) (hn : (e0 :: ns).length ≤ 900) :
    Calls Try.prog 21 #[.pointer (some ⟨g, 0, none⟩), .int .i64 0] w fun e w' => e = .returned (.tuple #[]) ∧ ∃ b' wt' ns', Hid (Mx.Come ses m b wt (e0 :: ns) e0 b' wt' ns') ∧ Hid (LST w0 w' g ses m b' wt' ns') :=
  lst_come w0 w g ses m b wt (e0 :: ns) h hs0 hs1 hm hn 0 e0 rfl

theorem lst_gone0 (w0 w : World) (g : Nat) (ses : Int) (m b wt : Nat) (ns : List (Bool × List Int)) (h : LST w0 w g ses m b wt ns) (hn : ns.length ≤ 1000) (hi : ns ≠ []) :
    Calls Try.prog 22 #[.pointer (some ⟨g, 0, none⟩), .int .i64 0] w fun e w' => e = .returned (.tuple #[]) ∧ Hid (LST w0 w' g ses m b wt (ns.eraseIdx 0)) :=
  lst_gone w0 w g ses m b wt ns h hn 0 (List.length_pos_iff.2 hi)

set_option maxHeartbeats 16000000 in
set_option maxRecDepth 100000 in
theorem ltl8 {w v : World} {g : Nat} {ses : Int} {m : Nat} {b wt : Nat} {ns : List (Bool × List Int)} (hs0 : 0 ≤ ses) (hs1 : ses < 1000) (hm : m ≤ 20) (HH : Hid (LST w v g ses m b wt ns)) (HN : Hid (ns.length ≤ 700)) {u0 u2 u3 u4 u5 u6 u8 u9 u10 u11 u12 u13 u14 u15 u16 u17 u18 u19 u20 u21 u22 u23 u24 u25 u26 u27 u28 u29 u30 u31 u32 u33 u34 u35 u36 u37 u38 u39 u40 u41 u42 u43 u44 u45 u46 u47 u48 u49 u50 u51 u52 u53 u54 u55 u56 u57 u58 u59 u60 u61 u62 u63 u64 u65 u66 u67 u68 u69 u70 u71 u72 u73 u74 u75 u76 u77 u78 u79 u80 u81 u82 u83 u84 u85 u86 u87 u88 u89 u90 u91 u92 u93 u94 u95 u96 u97 u98 u99 u100 u101 u102 u103 u104 u105 u106 u107 u108 u109 u110 u111 u112 u113 u114 u115 u116 u117 u118 u119 u120 u121 u122 u123 u124 u125 u126 u127 u128 u129 u130 u131 u132 u133 u134 u135 u136 u137 u138 u139 u140 u141 u142 u143 u144 u145 u146 u147 u148 u149 u150 u151 u152 u153 u154 u155 u156 u157 u158 u159 u160 u161 u162 u163 u164 u165 u166 u167 u168 u169 u170 u171 u172 u173 u174 u175 u176 u177 u178 u179 u180 u181 u182 u183 u184 u185 u186 u187 u188 u189 u190 u191 u192 u193 u194 u195 u196 u197 u198 u199 u200 u201 u202 u203 u204 u205 u206 u207 u208 u209 u210 u211 u212 u213 u214 u215 u216 u217 u218 u219 u220 u221 u222 u223 u224 u225 u226 u227 u228 u229 u230 u231 u232 u233 u234 u235 : Value} :
    TailG Try.f5 (fun e w' => e = .returned (.bool true) ∧ Below w.heap.size w w') 8 ⟨#[u0, .int .i64 (m : Int), u2, u3, u4, u5, u6, .pointer (some ⟨g, 0, none⟩), u8, u9, u10, u11, u12, u13, u14, u15, u16, u17, u18, u19, u20, u21, u22, u23, u24, u25, u26, u27, u28, u29, u30, u31, u32, u33, u34, u35, u36, u37, u38, u39, u40, u41, u42, u43, u44, u45, u46, u47, u48, u49, u50, u51, u52, u53, u54, u55, u56, u57, u58, u59, u60, u61, u62, u63, u64, u65, u66, u67, u68, u69, u70, u71, u72, u73, u74, u75, u76, u77, u78, u79, u80, u81, u82, u83, u84, u85, u86, u87, u88, u89, u90, u91, u92, u93, u94, u95, u96, u97, u98, u99, u100, u101, u102, u103, u104, u105, u106, u107, u108, u109, u110, u111, u112, u113, u114, u115, u116, u117, u118, u119, u120, u121, u122, u123, u124, u125, u126, u127, u128, u129, u130, u131, u132, u133, u134, u135, u136, u137, u138, u139, u140, u141, u142, u143, u144, u145, u146, u147, u148, u149, u150, u151, u152, u153, u154, u155, u156, u157, u158, u159, u160, u161, u162, u163, u164, u165, u166, u167, u168, u169, u170, u171, u172, u173, u174, u175, u176, u177, u178, u179, u180, u181, u182, u183, u184, u185, u186, u187, u188, u189, u190, u191, u192, u193, u194, u195, u196, u197, u198, u199, u200, u201, u202, u203, u204, u205, u206, u207, u208, u209, u210, u211, u212, u213, u214, u215, u216, u217, u218, u219, u220, u221, u222, u223, u224, u225, u226, u227, u228, u229, u230, u231, u232, u233, u234, u235], []⟩ v := by
  refine tailG_step rfl ?_
  intro K hK
  go_wp2_with fail
  go_loopw [15] (fun t wr => ∃ (k b wt : Nat) (ns : List (Bool × List Int)), k ≤ m + 1 ∧ t = .int .i64 (k : Int) ∧ Hid (LST w wr g ses m b wt ns) ∧ Hid (ns.length ≤ 700 ∧ min k m ≤ b ∧ (0 < k → ns = []))) (fun t _ => m + 1 - (intOf t).toNat)
  case atStart => exact ⟨0, b, wt, ns, by omega, rfl, HH, HN.out, by omega, fun h => absurd h (by omega)⟩
  case round =>
    obtain ⟨k, b, wt, ns, hk, rfl, hL, hI⟩ := hrel
    obtain ⟨qa, qn, qc, nv, cv, hW, hLI⟩ := hL.out
    have HW := hide hW
    have HLI := hide hLI
    clear hW hLI
    obtain ⟨x0, x1, x2, x3, x4, x5, x6, x7⟩ := HW.out.bx.cells
    by_cases hkm : (k : Int) ≤ m
    · have dkm : decide ((k : Int) ≤ m) = true := by simpa using hkm
      have dkn : decide (k ≤ m) = true := by simpa using (show k ≤ m by omega)
      go_wp2_with fail
      refine (lst_send w wr g ses m b wt ns hL.out hs0 hs1 hm (by have := hI.out.1; omega)).mono ?_
      rintro e w2 ⟨rfl, L2⟩
      obtain ⟨ns2, hns2⟩ : ∃ ns2 : List (Bool × List Int), Hid (ns2 = ns ++ (Mx.winF ses m b).map (fun l => (true, l))) := ⟨_, rfl⟩
      rw [← hns2.out] at L2
      have HJ := hide (show b < m → Mx.Jn ses b b ns2 from fun h => by rw [hns2.out]; exact Mx.Jn.sent h)
      have HN2 := hide (show ns2.length ≤ 750 by rw [hns2.out, List.length_append, List.length_map, Mx.win_len]; have := hI.out.1; omega)
      clear x0 x1 x2 x3 x4 x5 x6 x7
      go_wp2_with fail
      go_loopg [174] (Mx.mu ns2) (fun gk _ wr2 => ∃ (b' wt' : Nat) (ns' : List (Bool × List Int)), Hid (LST w wr2 g ses m b' wt' ns') ∧ Hid ((b < m → Mx.Jn ses b b' ns') ∧ b ≤ b' ∧ ns'.length ≤ 750 ∧ Mx.mu ns' ≤ gk))
      case atStart => exact ⟨b, wt, ns2, L2, HJ.out, Nat.le_refl _, HN2.out, Nat.le_refl _⟩
      case round =>
        obtain ⟨b', wt', ns', hL', hI'⟩ := hrel
        obtain ⟨qa', qn', qc', nv', cv', hW, hLI⟩ := hL'.out
        have HW' := hide hW
        have HLI' := hide hLI
        clear hW hLI
        obtain ⟨na, nc, hnv⟩ := LST.net_len HW'.out
        subst hnv
        obtain ⟨x0, x1, x2, x3, x4, x5, x6, x7⟩ := HW'.out.bx.cells
        cases ns' with
        | nil =>
          have x5' : wr.cell? ⟨g, 5, none⟩ = some (.slice na 0 nc) := x5
          clear x5
          go_wp2_with fail
          go_roundw
          case rel => exact ⟨k + 1, b', wt', [], by omega, by go_num, hL', by simp, by
            have h1 := hI'.out.1
            have h2 := hI'.out.2.1
            have h3 := hI.out.2.1
            have h4 := HLI'.out.bw
            have h5 := HLI'.out.wm
            by_cases hbm : b < m
            · rcases h1 hbm with h6 | ⟨k', _, _, h6⟩ | h6
              · omega
              · cases h6
              · cases h6
            · omega, fun _ => rfl⟩
          case measure => simp [intOf]; omega
        | cons e0 rest =>
          obtain ⟨N, hN⟩ : ∃ N : Nat, Hid (N = rest.length) := ⟨_, rfl⟩
          have x5' : wr.cell? ⟨g, 5, none⟩ = some (.slice na (N + 1) nc) := by rw [hN.out]; exact x5
          clear x5
          have hN1 : (0 : Int) < (N : Int) + 1 := by omega
          have HLN := hide (show (e0 :: rest).length ≤ 750 from hI'.out.2.2.1)
          go_wp2_with fail
          refine (lst_come0 w wr g ses m b' wt' e0 rest hL'.out hs0 hs1 hm (by have := HLN.out; omega)).mono ?_
          rintro e w3 ⟨rfl, b3, wt3, ns3, HC, L3⟩
          have HMU := hide (Mx.mu_come HC.out)
          clear x0 x1 x2 x3 x4 x5' x6 x7
          go_wp2_with fail
          refine (lst_gone0 w w3 g ses m b3 wt3 ns3 L3.out (by have := HMU.out.2.2.2.2; have := HLN.out; omega) HMU.out.2.2.2.1).mono ?_
          rintro e w4 ⟨rfl, L4⟩
          go_wp2_with fail
          go_roundg (Mx.mu (ns3.eraseIdx 0))
          case measure => have h1 := HMU.out.1; have h2 := hI'.out.2.2.2; omega
          case rel => exact ⟨b3, wt3, ns3.eraseIdx 0, L4, fun h => Mx.Jn.come (hI'.out.1 h) HLI'.out hs0 hs1 hm hI'.out.2.1 HC.out, by have h1 := HMU.out.2.2.1; have h2 := hI'.out.2.1; omega, by have h1 := HMU.out.2.1; have h2 := HLN.out; omega, Nat.le_refl _⟩
    · obtain rfl : k = m + 1 := by omega
      have dkm : decide (((m + 1 : Nat) : Int) ≤ m) = false := by simp; omega
      have dkn : decide (m + 1 ≤ m) = false := by simp
      have dkp : decide ((m : Int) + 1 ≤ m) = false := by simp; omega
      have hbm : b = m ∧ wt = m := by
        have h1 := HLI.out.bw
        have h2 := HLI.out.wm
        have h3 := hI.out.2.1
        omega
      obtain ⟨rfl, rfl⟩ := hbm
      go_wp2_with fail
      exact Met.intro (ltl9 hm HW)

set_option maxHeartbeats 16000000 in
set_option maxRecDepth 100000 in
theorem ltl7 {w v : World} {g : Nat} {ses : Int} {m : Nat} {b wt : Nat} {ns : List (Bool × List Int)} (hs0 : 0 ≤ ses) (hs1 : ses < 1000) (hm : m ≤ 20) (HH : Hid (LST w v g ses m b wt ns)) (HN : Hid (ns.length ≤ 700)) {u0 u2 u3 u4 u5 u6 u8 u9 u10 u11 u12 u13 u14 u15 u16 u17 u18 u19 u20 u21 u22 u23 u24 u25 u26 u27 u28 u29 u30 u31 u32 u33 u34 u35 u36 u37 u38 u39 u40 u41 u42 u43 u44 u45 u46 u47 u48 u49 u50 u51 u52 u53 u54 u55 u56 u57 u58 u59 u60 u61 u62 u63 u64 u65 u66 u67 u68 u69 u70 u71 u72 u73 u74 u75 u76 u77 u78 u79 u80 u81 u82 u83 u84 u85 u86 u87 u88 u89 u90 u91 u92 u93 u94 u95 u96 u97 u98 u99 u100 u101 u102 u103 u104 u105 u106 u107 u108 u109 u110 u111 u112 u113 u114 u115 u116 u117 u118 u119 u120 u121 u122 u123 u124 u125 u126 u127 u128 u129 u130 u131 u132 u133 u134 u135 u136 u137 u138 u139 u140 u141 u142 u143 u144 u145 u146 u147 u148 u149 u150 u151 u152 u153 u154 u155 u156 u157 u158 u159 u160 u161 u162 u163 u164 u165 u166 u167 u168 u169 u170 u171 u172 u173 u174 u175 u176 u177 u178 u179 u180 u181 u182 u183 u184 u185 u186 u187 u188 u189 u190 u191 u192 u193 u194 u195 u196 u197 u198 u199 u200 u201 u202 u203 u204 u205 u206 u207 u208 u209 u210 u211 u212 u213 u214 u215 u216 u217 u218 u219 u220 u221 u222 u223 u224 u225 u226 u227 u228 u229 u230 u231 u232 u233 u234 u235 : Value} :
    TailG Try.f5 (fun e w' => e = .returned (.bool true) ∧ Below w.heap.size w w') 7 ⟨#[u0, .int .i64 (m : Int), u2, u3, u4, u5, u6, .pointer (some ⟨g, 0, none⟩), u8, u9, u10, u11, u12, u13, u14, u15, u16, u17, u18, u19, u20, u21, u22, u23, u24, u25, u26, u27, u28, u29, u30, u31, u32, u33, u34, u35, u36, u37, u38, u39, u40, u41, u42, u43, u44, u45, u46, u47, u48, u49, u50, u51, u52, u53, u54, u55, u56, u57, u58, u59, u60, u61, u62, u63, u64, u65, u66, u67, u68, u69, u70, u71, u72, u73, u74, u75, u76, u77, u78, u79, u80, u81, u82, u83, u84, u85, u86, u87, u88, u89, u90, u91, u92, u93, u94, u95, u96, u97, u98, u99, u100, u101, u102, u103, u104, u105, u106, u107, u108, u109, u110, u111, u112, u113, u114, u115, u116, u117, u118, u119, u120, u121, u122, u123, u124, u125, u126, u127, u128, u129, u130, u131, u132, u133, u134, u135, u136, u137, u138, u139, u140, u141, u142, u143, u144, u145, u146, u147, u148, u149, u150, u151, u152, u153, u154, u155, u156, u157, u158, u159, u160, u161, u162, u163, u164, u165, u166, u167, u168, u169, u170, u171, u172, u173, u174, u175, u176, u177, u178, u179, u180, u181, u182, u183, u184, u185, u186, u187, u188, u189, u190, u191, u192, u193, u194, u195, u196, u197, u198, u199, u200, u201, u202, u203, u204, u205, u206, u207, u208, u209, u210, u211, u212, u213, u214, u215, u216, u217, u218, u219, u220, u221, u222, u223, u224, u225, u226, u227, u228, u229, u230, u231, u232, u233, u234, u235], []⟩ v := by
  refine tailG_step rfl ?_
  intro K hK
  obtain ⟨qa, qn, qc, nv, cv, hW, hLI⟩ := HH.out
  have HW := hide hW
  have hwm := hLI.wm
  clear hW hLI
  obtain ⟨⟨ca, cc, hcv⟩, hrow⟩ := row_form HW.out.row
  rw [Mx.cmF_len] at hcv hrow
  have HR := hide hrow
  subst hcv
  clear hrow
  obtain ⟨x0, x1, x2, x3, x4, x5, x6, x7⟩ := HW.out.bx.cells
  go_wp2_with fail
  go_loopw [14] (fun t wr => ∃ k : Nat, k ≤ wt ∧ t = .int .i64 (k : Int) ∧ wr = v) (fun t _ => wt - (intOf t).toNat)
  case atStart => exact ⟨0, by omega, rfl, rfl⟩
  case round =>
    obtain ⟨k, hk, rfl, rfl⟩ := hrel
    by_cases hlt : k < wt
    · obtain ⟨gc, c, hcv, e0⟩ := HR.out k hlt
      simp only [Value.slice.injEq] at hcv
      obtain ⟨rfl, _, _⟩ := hcv
      rw [Mx.cmF_at hlt] at e0
      have hki : (k : Int) < wt := by omega
      go_wp2_with fail
      go_roundw
      case rel => exact ⟨k + 1, by omega, by go_num, trivial⟩
      case measure => simp [intOf]; omega
    · obtain rfl : k = wt := by omega
      go_wp2_with fail
      exact Met.intro (ltl8 hs0 hs1 hm HH HN)

theorem LnW.cut {w0 w : World} {g : Nat} {ses base want : Int} {q : List Fr} {ns : List (Bool × List Int)} {cm : List Int} {qa : Option Addr} {qn qc : Nat} {nv cv : Value} (h : LnW (fun _ => False) w0 w g ses base q want ns cm true qa qn qc nv cv) (hn : 200 < ns.length) :
    ∃ gN cap, nv = .slice (some ⟨gN, 0, none⟩) ns.length cap ∧ 200 ≤ cap ∧ LnW (fun _ => False) w0 (w.setCell ⟨g, 5, none⟩ (.slice (some ⟨gN, 0, none⟩) 200 cap)) g ses base q want (ns.take 200) cm true qa qn qc (.slice (some ⟨gN, 0, none⟩) 200 cap) cv := by
  obtain ⟨gN, cap, a, n, c, hnv, hcap, hgN, _⟩ := h.net.at_ (List.getElem?_eq_getElem (show 0 < ns.length by omega))
  have hN := h.pb
  rw [hnv] at hN
  have h1 := h.netted (w' := w) (by rw [hnv]; exact hN.take 200 (by omega)) (grow_refl _ _) (.inl (by rw [hnv]; rfl))
  exact ⟨gN, cap, hnv, by omega, h1⟩

set_option maxHeartbeats 16000000 in
set_option maxRecDepth 100000 in
theorem ltl6 {w v : World} {g : Nat} {ses : Int} {m : Nat} {sa : Option Addr} {sn sc : Nat} {sl : List Int} (hs0 : 0 ≤ ses) (hs1 : ses < 1000) (hm : m ≤ 20) (HH : Hid (LST w v g ses m 0 0 [])) (HS : Hid (Ints w sa sn sl)) (HI : Hid (I64 sl)) (hsn : sn ≤ 100) {u0 u3 u4 u5 u6 u8 u9 u10 u11 u12 u13 u14 u15 u16 u17 u18 u19 u20 u21 u22 u23 u24 u25 u26 u27 u28 u29 u30 u31 u32 u33 u34 u35 u36 u37 u38 u39 u40 u41 u42 u43 u44 u45 u46 u47 u48 u49 u50 u51 u52 u53 u54 u55 u56 u57 u58 u59 u60 u61 u62 u63 u64 u65 u66 u67 u68 u69 u70 u71 u72 u73 u74 u75 u76 u77 u78 u79 u80 u81 u82 u83 u84 u85 u86 u87 u88 u89 u90 u91 u92 u93 u94 u95 u96 u97 u98 u99 u100 u101 u102 u103 u104 u105 u106 u107 u108 u109 u110 u111 u112 u113 u114 u115 u116 u117 u118 u119 u120 u121 u122 u123 u124 u125 u126 u127 u128 u129 u130 u131 u132 u133 u134 u135 u136 u137 u138 u139 u140 u141 u142 u143 u144 u145 u146 u147 u148 u149 u150 u151 u152 u153 u154 u155 u156 u157 u158 u159 u160 u161 u162 u163 u164 u165 u166 u167 u168 u169 u170 u171 u172 u173 u174 u175 u176 u177 u178 u179 u180 u181 u182 u183 u184 u185 u186 u187 u188 u189 u190 u191 u192 u193 u194 u195 u196 u197 u198 u199 u200 u201 u202 u203 u204 u205 u206 u207 u208 u209 u210 u211 u212 u213 u214 u215 u216 u217 u218 u219 u220 u221 u222 u223 u224 u225 u226 u227 u228 u229 u230 u231 u232 u233 u234 u235 : Value} :
    TailG Try.f5 (fun e w' => e = .returned (.bool true) ∧ Below w.heap.size w w') 6 ⟨#[u0, .int .i64 (m : Int), .slice sa sn sc, u3, u4, u5, u6, .pointer (some ⟨g, 0, none⟩), u8, u9, u10, u11, u12, u13, u14, u15, u16, u17, u18, u19, u20, u21, u22, u23, u24, u25, u26, u27, u28, u29, u30, u31, u32, u33, u34, u35, u36, u37, u38, u39, u40, u41, u42, u43, u44, u45, u46, u47, u48, u49, u50, u51, u52, u53, u54, u55, u56, u57, u58, u59, u60, u61, u62, u63, u64, u65, u66, u67, u68, u69, u70, u71, u72, u73, u74, u75, u76, u77, u78, u79, u80, u81, u82, u83, u84, u85, u86, u87, u88, u89, u90, u91, u92, u93, u94, u95, u96, u97, u98, u99, u100, u101, u102, u103, u104, u105, u106, u107, u108, u109, u110, u111, u112, u113, u114, u115, u116, u117, u118, u119, u120, u121, u122, u123, u124, u125, u126, u127, u128, u129, u130, u131, u132, u133, u134, u135, u136, u137, u138, u139, u140, u141, u142, u143, u144, u145, u146, u147, u148, u149, u150, u151, u152, u153, u154, u155, u156, u157, u158, u159, u160, u161, u162, u163, u164, u165, u166, u167, u168, u169, u170, u171, u172, u173, u174, u175, u176, u177, u178, u179, u180, u181, u182, u183, u184, u185, u186, u187, u188, u189, u190, u191, u192, u193, u194, u195, u196, u197, u198, u199, u200, u201, u202, u203, u204, u205, u206, u207, u208, u209, u210, u211, u212, u213, u214, u215, u216, u217, u218, u219, u220, u221, u222, u223, u224, u225, u226, u227, u228, u229, u230, u231, u232, u233, u234, u235], []⟩ v := by
  refine tailG_step rfl ?_
  intro K hK
  go_wp2_with fail
  go_loopw [11] (fun t wr => ∃ (k b wt : Nat) (ns : List (Bool × List Int)), k ≤ sn ∧ t = .int .i64 (k : Int) ∧ Hid (LST w wr g ses m b wt ns) ∧ Hid (ns.length ≤ 200 + 4 * k)) (fun t _ => sn - (intOf t).toNat)
  case atStart => exact ⟨0, 0, 0, [], by omega, rfl, HH, hide (Nat.zero_le _)⟩
  case round =>
    obtain ⟨k, b, wt, ns, hk, rfl, hL, hN⟩ := hrel
    obtain ⟨qa, qn, qc, nv, cv, hW, hLI⟩ := hL.out
    have HW := hide hW
    clear hW hLI
    obtain ⟨x0, x1, x2, x3, x4, x5, x6, x7⟩ := HW.out.bx.cells
    by_cases hlt : k < sn
    · obtain ⟨sb, so, z, hab, hsb, hz, se0⟩ := (HS.out.later hL.out.bl).at_ k hlt
      subst hab
      have HZ := hide (show -9223372036854775808 ≤ z ∧ z ≤ 9223372036854775807 by
        rw [← hz]
        refine HI.out _ ?_
        rw [List.getD_eq_getElem?_getD, List.getElem?_eq_getElem (by rw [HS.out.1]; exact hlt)]
        exact List.getElem_mem _)
      clear hz
      have hki : (k : Int) < sn := by omega
      go_wp2_with fail
      refine (pick_any z 100000 wr HZ.out.1 HZ.out.2 (by omega) (by omega)).mono ?_
      rintro e wz ⟨r, hr, rfl, hz⟩
      obtain rfl := hz.symm
      clear hz
      obtain ⟨na, nc, hnv⟩ := LST.net_len HW.out
      subst hnv
      obtain ⟨M, hM⟩ : ∃ M : Nat, Hid (M = ns.length) := ⟨_, rfl⟩
      rw [← hM.out] at x5
      have hr0 : (0 : Int) ≤ r := by omega
      by_cases hM0 : M = 0
      · subst hM0
        go_wp2_with fail
        refine (lst_send w wr g ses m b wt ns hL.out hs0 hs1 hm (by have := hN.out; omega)).mono ?_
        rintro e w2 ⟨rfl, L2⟩
        clear x0 x1 x2 x3 x4 x5 x6 x7 se0
        go_wp2_with fail
        go_roundw
        case rel => exact ⟨k + 1, _, _, _, by omega, by go_num, L2, hide (by rw [List.length_append, List.length_map, Mx.win_len]; have := hN.out; omega)⟩
        case measure => simp [intOf]; omega
      · have hMi : ¬ (M : Int) = 0 := by omega
        have hMb : ((M : Int) == 0) = false := by simpa using hM0
        have hMn : (M == 0) = false := by simpa using hM0
        obtain ⟨j, hj⟩ : ∃ j : Nat, (r : Int) / 5 % (M : Int) = (j : Int) := ⟨r / 5 % M, by simp⟩
        have hjM : j < M := by
          have h1 := Int.emod_lt_of_pos ((r : Int) / 5) (show (0 : Int) < M by omega)
          omega
        have hji : (j : Int) < M := by omega
        obtain ⟨e0, he0⟩ : ∃ e0, Hid (ns[j]? = some e0) := ⟨_, List.getElem?_eq_getElem (by rw [← hM.out]; exact hjM)⟩
        have HR5 := hide (show (r : Int) % 5 = 0 ∨ (r : Int) % 5 = 1 ∨ (r : Int) % 5 = 2 ∨ (r : Int) % 5 = 3 ∨ (r : Int) % 5 = 4 by omega)
        rcases HR5.out with h5 | h5 | h5 | h5 | h5
        · have c0 : ((r : Int) % 5 == 0) = true := by rw [h5]; rfl
          clear h5
          go_wp2_with fail
          refine (lst_send w wr g ses m b wt ns hL.out hs0 hs1 hm (by have := hN.out; omega)).mono ?_
          rintro e w2 ⟨rfl, L2⟩
          clear x0 x1 x2 x3 x4 x5 x6 x7 se0
          go_wp2_with fail
          go_roundw
          case rel => exact ⟨k + 1, _, _, _, by omega, by go_num, L2, hide (by rw [List.length_append, List.length_map, Mx.win_len]; have := hN.out; omega)⟩
          case measure => simp [intOf]; omega
        · have c0 : ((r : Int) % 5 == 0) = false := by rw [h5]; rfl
          have c1 : ((r : Int) % 5 == 1) = true := by rw [h5]; rfl
          clear h5
          go_wp2_with fail
          refine (lst_come w wr g ses m b wt ns hL.out hs0 hs1 hm (by have := hN.out; omega) j e0 he0.out).mono ?_
          rintro e w3 ⟨rfl, b3, wt3, ns3, HC, L3⟩
          have HLE := hide (Mx.come_len HC.out)
          clear x0 x1 x2 x3 x4 x5 x6 x7 se0
          go_wp2_with fail
          refine (lst_gone w w3 g ses m b3 wt3 ns3 L3.out (by have := hN.out; have := HLE.out.2; omega) j (by have h1 := HLE.out.1; have h2 := hM.out; omega)).mono ?_
          rintro e w4 ⟨rfl, L4⟩
          try clear x0 x1 x2 x3 x4 x6 x7
          try clear x5 se0
          clear hM hM0 hMi hMb hMn hjM hji
          try clear hj
          obtain ⟨qz, nz_, cz, nvz, cvz, hW, hLI⟩ := L4.out
          have HWz := hide hW
          clear hW hLI
          obtain ⟨na, nc, hnv⟩ := LST.net_len HWz.out
          subst hnv
          obtain ⟨M2, hM2e⟩ : ∃ M2 : Nat, Hid (M2 = (ns3.eraseIdx j).length) := ⟨_, rfl⟩
          obtain ⟨x0, x1, x2, x3, x4, x5, x6, x7⟩ := HWz.out.bx.cells
          rw [← hM2e.out] at x5
          clear x0 x1 x2 x3 x4 x6 x7
          by_cases hM2 : (200 : Int) < M2
          · have dM : decide ((200 : Int) < M2) = true := by simpa using hM2
            have dMn : decide (200 < M2) = true := by simpa using (show 200 < M2 by omega)
            obtain ⟨gz, cz2, hz, hcut⟩ := LnW.cut HWz.out (by rw [← hM2e.out]; omega)
            rw [← hM2e.out] at hz
            simp only [Value.slice.injEq] at hz
            obtain ⟨rfl, _, rfl⟩ := hz
            have hcz := hcut.1
            have HCUT := hide hcut.2
            have xz := Bx.frozen HWz.out.bx
            have hc200 : (200 : Int) ≤ nc := by omega
            clear hcut
            go_wp2_with fail
            go_roundw
            case rel => exact ⟨k + 1, _, _, ((ns3.eraseIdx j).take 200), by omega, by go_num, ⟨_, _, _, _, _, HCUT.out, L4.out.li.sub (fun e he => List.mem_of_mem_take he)⟩, hide (by simp; omega)⟩
            case measure => simp [intOf]; omega
          · have dM : decide ((200 : Int) < M2) = false := by simpa using hM2
            have dMn : decide (200 < M2) = false := by simpa using (show ¬ 200 < M2 by omega)
            go_wp2_with fail
            go_roundw
            case rel => exact ⟨k + 1, _, _, (ns3.eraseIdx j), by omega, by go_num, L4, hide (by rw [← hM2e.out]; omega)⟩
            case measure => simp [intOf]; omega
        · have c0 : ((r : Int) % 5 == 0) = false := by rw [h5]; rfl
          have c1 : ((r : Int) % 5 == 1) = false := by rw [h5]; rfl
          have c2 : ((r : Int) % 5 == 2) = true := by rw [h5]; rfl
          clear h5
          go_wp2_with fail
          refine (lst_gone w wr g ses m b wt ns hL.out (by have := hN.out; omega) j (by have h2 := hM.out; omega)).mono ?_
          rintro e w3 ⟨rfl, L3⟩
          clear x0 x1 x2 x3 x4 x5 x6 x7 se0
          try clear x0 x1 x2 x3 x4 x6 x7
          try clear x5 se0
          clear hM hM0 hMi hMb hMn hjM hji
          try clear hj
          obtain ⟨qz, nz_, cz, nvz, cvz, hW, hLI⟩ := L3.out
          have HWz := hide hW
          clear hW hLI
          obtain ⟨na, nc, hnv⟩ := LST.net_len HWz.out
          subst hnv
          obtain ⟨M2, hM2e⟩ : ∃ M2 : Nat, Hid (M2 = (ns.eraseIdx j).length) := ⟨_, rfl⟩
          obtain ⟨x0, x1, x2, x3, x4, x5, x6, x7⟩ := HWz.out.bx.cells
          rw [← hM2e.out] at x5
          clear x0 x1 x2 x3 x4 x6 x7
          by_cases hM2 : (200 : Int) < M2
          · have dM : decide ((200 : Int) < M2) = true := by simpa using hM2
            have dMn : decide (200 < M2) = true := by simpa using (show 200 < M2 by omega)
            obtain ⟨gz, cz2, hz, hcut⟩ := LnW.cut HWz.out (by rw [← hM2e.out]; omega)
            rw [← hM2e.out] at hz
            simp only [Value.slice.injEq] at hz
            obtain ⟨rfl, _, rfl⟩ := hz
            have hcz := hcut.1
            have HCUT := hide hcut.2
            have xz := Bx.frozen HWz.out.bx
            have hc200 : (200 : Int) ≤ nc := by omega
            clear hcut
            go_wp2_with fail
            go_roundw
            case rel => exact ⟨k + 1, _, _, ((ns.eraseIdx j).take 200), by omega, by go_num, ⟨_, _, _, _, _, HCUT.out, L3.out.li.sub (fun e he => List.mem_of_mem_take he)⟩, hide (by simp; omega)⟩
            case measure => simp [intOf]; omega
          · have dM : decide ((200 : Int) < M2) = false := by simpa using hM2
            have dMn : decide (200 < M2) = false := by simpa using (show ¬ 200 < M2 by omega)
            go_wp2_with fail
            go_roundw
            case rel => exact ⟨k + 1, _, _, (ns.eraseIdx j), by omega, by go_num, L3, hide (by rw [← hM2e.out]; omega)⟩
            case measure => simp [intOf]; omega
        · have c0 : ((r : Int) % 5 == 0) = false := by rw [h5]; rfl
          have c1 : ((r : Int) % 5 == 1) = false := by rw [h5]; rfl
          have c2 : ((r : Int) % 5 == 2) = false := by rw [h5]; rfl
          have c3 : ((r : Int) % 5 == 3) = true := by rw [h5]; rfl
          clear h5
          obtain ⟨gN, cap, a, n, c, hnv, hcap, hgN, q0, q1, hBy, hnc, hav⟩ := HW.out.net.at_ he0.out
          simp only [Value.slice.injEq, true_and] at hnv
          obtain ⟨rfl, rfl⟩ := hnv
          rw [← hM.out] at hcap
          obtain ⟨W3, hW3⟩ : ∃ W3 : World, Hid (W3 = (wr.alloc (.cells #[.bool e0.1, .slice a n c] 60)).drew) := ⟨_, rfl⟩
          have D3 := hide (show Below wr.heap.size wr W3 by rw [hW3.out]; exact (below_alloc _ _).drew)
          have B3 := hide (show Bx W3 wr.heap.size #[.bool e0.1, .slice a n c] 60 by rw [hW3.out]; exact Bx.newD wr _ _)
          have L3 := hide (HW.out.later D3.out)
          have Y3 := hide (hBy.later D3.out)
          have A3 := hide (show Av (Pb g (.slice (some ⟨gN, 0, none⟩) ns.length nc) cv W3) a n from fun hn p hp => ⟨hav hn p hp, Nat.lt_of_lt_of_le (hBy.ltA hn p hp) D3.out.size⟩)
          have P3 := hide (show ∀ k, (Value.slice (some ⟨gN, 0, none⟩) ns.length nc).ownBlock = some k → ¬ Pb g (.slice (some ⟨gN, 0, none⟩) ns.length nc) cv W3 k from fun k hk hp => hp.1.2.1 hk)
          have N3 := hide L3.out.pb
          have S3 := hide L3.out.bl.size
          have HNL := hide (show ns.length ≤ 1000000 by have := hN.out; omega)
          have hgr : g < wr.heap.size := Bx.lt HW.out.bx
          obtain ⟨y0, y1, y2, y3, y4, y5, y6, y7⟩ := L3.out.bx.cells
          have yz := Bx.frozen L3.out.bx
          rw [← hM.out] at y5 A3 P3 N3
          clear x0 x1 x2 x3 x4 x6 y0 y1 y2 y3 y4 y6 y7 hBy hav
          go_upto_region 28 with fail
          go_region_law (first
            | (rw [← hW3.out]; refine step_append_net rfl (.tmp 117) (.tmp 125) rfl (Pb g (.slice (some ⟨gN, 0, none⟩) M nc) cv W3) w.heap.size (.slice (some ⟨gN, 0, none⟩) M nc) ns rfl N3.out wr.heap.size e0.1 a n c e0.2 rfl B3.out Y3.out hnc A3.out P3.out HNL.out S3.out ?_; intro g' cap' w4 hn4 hg4 hat4; have hfar : (some g : Option Nat) ≠ (Value.slice (some ⟨gN, 0, none⟩) M nc).ownBlock := fun e => L3.out.nne e.symm; have z5 := (hg4.cell_far ⟨g, 5, none⟩ (Bx.lt L3.out.bx) hfar).trans y5; have zz := (hg4.frozen_far ⟨g, 5, none⟩ (Bx.lt L3.out.bx) hfar).trans (yz 5)))
          all_goals
            clear z5 zz
            obtain ⟨W5, hW5⟩ : ∃ W5 : World, Hid (W5 = w4.setCell ⟨g, 5, none⟩ (.slice (some ⟨g', 0, none⟩) (ns.length + 1) cap')) := ⟨_, rfl⟩
            have L5 := hide (show LST w W5 g ses m b wt (ns ++ [e0]) from ⟨qa, qn, qc, _, cv, by rw [hW5.out]; exact L3.out.netted (by have h9 := hn4; rw [hM.out] at h9; exact h9) (by have h9 := hg4; rw [hM.out] at h9; exact h9) (by have h9 := hat4; rw [hM.out] at h9; exact h9), hL.out.li.sub (fun e he => by
              rcases List.mem_append.1 he with he | he
              · exact he
              · simp at he
                rw [he]
                exact List.mem_of_getElem? he0.out)⟩)
            rw [← hW5.out]
            clear hn4 hg4 hat4 hfar x5 x7 se0 q0 q1 y5 yz
            try clear x0 x1 x2 x3 x4 x6 x7
            try clear x5 se0
            clear hM hM0 hMi hMb hMn hjM hji
            try clear hj
            obtain ⟨qz, nz_, cz, nvz, cvz, hW, hLI⟩ := L5.out
            have HWz := hide hW
            clear hW hLI
            obtain ⟨na, nc, hnv⟩ := LST.net_len HWz.out
            subst hnv
            obtain ⟨M2, hM2e⟩ : ∃ M2 : Nat, Hid (M2 = (ns ++ [e0]).length) := ⟨_, rfl⟩
            obtain ⟨x0, x1, x2, x3, x4, x5, x6, x7⟩ := HWz.out.bx.cells
            rw [← hM2e.out] at x5
            clear x0 x1 x2 x3 x4 x6 x7
            by_cases hM2 : (200 : Int) < M2
            · have dM : decide ((200 : Int) < M2) = true := by simpa using hM2
              have dMn : decide (200 < M2) = true := by simpa using (show 200 < M2 by omega)
              obtain ⟨gz, cz2, hz, hcut⟩ := LnW.cut HWz.out (by rw [← hM2e.out]; omega)
              rw [← hM2e.out] at hz
              simp only [Value.slice.injEq] at hz
              obtain ⟨rfl, _, rfl⟩ := hz
              have hcz := hcut.1
              have HCUT := hide hcut.2
              have xz := Bx.frozen HWz.out.bx
              have hc200 : (200 : Int) ≤ nc := by omega
              clear hcut
              go_wp2_with fail
              go_roundw
              case rel => exact ⟨k + 1, _, _, ((ns ++ [e0]).take 200), by omega, by go_num, ⟨_, _, _, _, _, HCUT.out, L5.out.li.sub (fun e he => List.mem_of_mem_take he)⟩, hide (by simp; omega)⟩
              case measure => simp [intOf]; omega
            · have dM : decide ((200 : Int) < M2) = false := by simpa using hM2
              have dMn : decide (200 < M2) = false := by simpa using (show ¬ 200 < M2 by omega)
              go_wp2_with fail
              go_roundw
              case rel => exact ⟨k + 1, _, _, (ns ++ [e0]), by omega, by go_num, L5, hide (by rw [← hM2e.out]; omega)⟩
              case measure => simp [intOf]; omega
        · have c0 : ((r : Int) % 5 == 0) = false := by rw [h5]; rfl
          have c1 : ((r : Int) % 5 == 1) = false := by rw [h5]; rfl
          have c2 : ((r : Int) % 5 == 2) = false := by rw [h5]; rfl
          have c3 : ((r : Int) % 5 == 3) = false := by rw [h5]; rfl
          clear h5
          go_wp2_with fail
          refine (lst_come w wr g ses m b wt ns hL.out hs0 hs1 hm (by have := hN.out; omega) j e0 he0.out).mono ?_
          rintro e w3 ⟨rfl, b3, wt3, ns3, HC, L3⟩
          clear x0 x1 x2 x3 x4 x5 x6 x7 se0
          try clear x0 x1 x2 x3 x4 x6 x7
          try clear x5 se0
          clear hM hM0 hMi hMb hMn hjM hji
          try clear hj
          obtain ⟨qz, nz_, cz, nvz, cvz, hW, hLI⟩ := L3.out
          have HWz := hide hW
          clear hW hLI
          obtain ⟨na, nc, hnv⟩ := LST.net_len HWz.out
          subst hnv
          obtain ⟨M2, hM2e⟩ : ∃ M2 : Nat, Hid (M2 = (ns3).length) := ⟨_, rfl⟩
          obtain ⟨x0, x1, x2, x3, x4, x5, x6, x7⟩ := HWz.out.bx.cells
          rw [← hM2e.out] at x5
          clear x0 x1 x2 x3 x4 x6 x7
          by_cases hM2 : (200 : Int) < M2
          · have dM : decide ((200 : Int) < M2) = true := by simpa using hM2
            have dMn : decide (200 < M2) = true := by simpa using (show 200 < M2 by omega)
            obtain ⟨gz, cz2, hz, hcut⟩ := LnW.cut HWz.out (by rw [← hM2e.out]; omega)
            rw [← hM2e.out] at hz
            simp only [Value.slice.injEq] at hz
            obtain ⟨rfl, _, rfl⟩ := hz
            have hcz := hcut.1
            have HCUT := hide hcut.2
            have xz := Bx.frozen HWz.out.bx
            have hc200 : (200 : Int) ≤ nc := by omega
            clear hcut
            go_wp2_with fail
            go_roundw
            case rel => exact ⟨k + 1, _, _, ((ns3).take 200), by omega, by go_num, ⟨_, _, _, _, _, HCUT.out, L3.out.li.sub (fun e he => List.mem_of_mem_take he)⟩, hide (by simp; omega)⟩
            case measure => simp [intOf]; omega
          · have dM : decide ((200 : Int) < M2) = false := by simpa using hM2
            have dMn : decide (200 < M2) = false := by simpa using (show ¬ 200 < M2 by omega)
            go_wp2_with fail
            go_roundw
            case rel => exact ⟨k + 1, _, _, (ns3), by omega, by go_num, L3, hide (by rw [← hM2e.out]; omega)⟩
            case measure => simp [intOf]; omega
    · obtain rfl : k = sn := by omega
      go_wp2_with fail
      exact Met.intro (ltl7 hs0 hs1 hm hL (hide (by have := hN.out; omega)))


end Go.Proofs.Ytfgonmgmoeoedaa

/-
  The law TopLine, whole.
-/
namespace Go.Proofs.Ytfgonmgmoeoedaa
open Go.RowKit

theorem Mx.offer_ok {ses : Int} {k : Nat} (hs0 : 0 ≤ ses) (hs1 : ses < 1000) (hk : k < 20) : Mx.omay ⟨ses, 0, Mx.qF k 0⟩ ⟨2 + (k : Int) % 14, [(k : Int)], 0, []⟩ = 0 :=
  Mx.omay_0 (Mx.sd_may (b := 0) hs0 hs1 (by omega) (by omega)) (Mx.mmay_msgF (i := k) (by omega)) (by show ¬ ((Mx.qF k 0).length = 64 ∨ 2147483647 ≤ (0 : Int) + ((Mx.qF k 0).length : Nat)); rw [Mx.qF_len]; omega)

set_option maxHeartbeats 16000000 in
set_option maxRecDepth 100000 in
theorem ltl5 {w v : World} {g : Nat} {ses : Int} {m : Nat} {sa : Option Addr} {sn sc : Nat} {sl : List Int} {qa : Option Addr} {qn qc : Nat} (hs0 : 0 ≤ ses) (hs1 : ses < 1000) (hm : m ≤ 20) (HH : Hid (LnW (fun _ => False) w v g ses 0 (Mx.qF 0 0) 0 [] [] true qa qn qc (.slice none 0 0) (.slice none 0 0))) (HS : Hid (Ints w sa sn sl)) (HI : Hid (I64 sl)) (hsn : sn ≤ 100) {u0 u3 u4 u5 u6 u8 u9 u10 u11 u12 u13 u14 u15 u16 u17 u18 u19 u20 u21 u22 u23 u24 u25 u26 u27 u28 u29 u30 u31 u32 u33 u34 u35 u36 u37 u38 u39 u40 u41 u42 u43 u44 u45 u46 u47 u48 u49 u50 u51 u52 u53 u54 u55 u56 u57 u58 u59 u60 u61 u62 u63 u64 u65 u66 u67 u68 u69 u70 u71 u72 u73 u74 u75 u76 u77 u78 u79 u80 u81 u82 u83 u84 u85 u86 u87 u88 u89 u90 u91 u92 u93 u94 u95 u96 u97 u98 u99 u100 u101 u102 u103 u104 u105 u106 u107 u108 u109 u110 u111 u112 u113 u114 u115 u116 u117 u118 u119 u120 u121 u122 u123 u124 u125 u126 u127 u128 u129 u130 u131 u132 u133 u134 u135 u136 u137 u138 u139 u140 u141 u142 u143 u144 u145 u146 u147 u148 u149 u150 u151 u152 u153 u154 u155 u156 u157 u158 u159 u160 u161 u162 u163 u164 u165 u166 u167 u168 u169 u170 u171 u172 u173 u174 u175 u176 u177 u178 u179 u180 u181 u182 u183 u184 u185 u186 u187 u188 u189 u190 u191 u192 u193 u194 u195 u196 u197 u198 u199 u200 u201 u202 u203 u204 u205 u206 u207 u208 u209 u210 u211 u212 u213 u214 u215 u216 u217 u218 u219 u220 u221 u222 u223 u224 u225 u226 u227 u228 u229 u230 u231 u232 u233 u234 u235 : Value} :
    TailG Try.f5 (fun e w' => e = .returned (.bool true) ∧ Below w.heap.size w w') 5 ⟨#[u0, .int .i64 (m : Int), .slice sa sn sc, u3, u4, u5, u6, .pointer (some ⟨g, 0, none⟩), u8, u9, u10, u11, u12, u13, u14, u15, u16, u17, u18, u19, u20, u21, u22, u23, u24, u25, u26, u27, u28, u29, u30, u31, u32, u33, u34, u35, u36, u37, u38, u39, u40, u41, u42, u43, u44, u45, u46, u47, u48, u49, u50, u51, u52, u53, u54, u55, u56, u57, u58, u59, u60, u61, u62, u63, u64, u65, u66, u67, u68, u69, u70, u71, u72, u73, u74, u75, u76, u77, u78, u79, u80, u81, u82, u83, u84, u85, u86, u87, u88, u89, u90, u91, u92, u93, u94, u95, u96, u97, u98, u99, u100, u101, u102, u103, u104, u105, u106, u107, u108, u109, u110, u111, u112, u113, u114, u115, u116, u117, u118, u119, u120, u121, u122, u123, u124, u125, u126, u127, u128, u129, u130, u131, u132, u133, u134, u135, u136, u137, u138, u139, u140, u141, u142, u143, u144, u145, u146, u147, u148, u149, u150, u151, u152, u153, u154, u155, u156, u157, u158, u159, u160, u161, u162, u163, u164, u165, u166, u167, u168, u169, u170, u171, u172, u173, u174, u175, u176, u177, u178, u179, u180, u181, u182, u183, u184, u185, u186, u187, u188, u189, u190, u191, u192, u193, u194, u195, u196, u197, u198, u199, u200, u201, u202, u203, u204, u205, u206, u207, u208, u209, u210, u211, u212, u213, u214, u215, u216, u217, u218, u219, u220, u221, u222, u223, u224, u225, u226, u227, u228, u229, u230, u231, u232, u233, u234, u235], []⟩ v := by
  refine tailG_step rfl ?_
  intro K hK
  go_wp2_with fail
  go_loopw [8] (fun t wr => ∃ (k : Nat) (qa : Option Addr) (qn qc : Nat), k ≤ m ∧ t = .int .i64 (k : Int) ∧ Hid (LnW (fun _ => False) w wr g ses 0 (Mx.qF k 0) 0 [] [] true qa qn qc (.slice none 0 0) (.slice none 0 0))) (fun t _ => m - (intOf t).toNat)
  case atStart => exact ⟨0, qa, qn, qc, by omega, rfl, HH⟩
  case round =>
    obtain ⟨k, qa, qn, qc, hk, rfl, hL⟩ := hrel
    by_cases hlt : k < m
    · have hki : (k : Int) < m := by omega
      obtain ⟨x0, x1, x2, x3, x4, x5, x6, x7⟩ := hL.out.bx.cells
      obtain ⟨W1, hW1⟩ : ∃ W1 : World, Hid (W1 = wr.alloc (.cells #[.int .i64 (k : Int)] 3)) := ⟨_, rfl⟩
      have D1 := hide (show Below wr.heap.size wr W1 by rw [hW1.out]; exact below_alloc _ _)
      have B1 := hide (show Bx W1 wr.heap.size #[.int .i64 (k : Int)] 3 by rw [hW1.out]; exact Bx.new wr _ _)
      have H1 := hide (hL.out.later D1.out)
      have I1 := hide (show Ints W1 (some ⟨wr.heap.size, 0, none⟩) 1 [(k : Int)] from ⟨rfl, by rw [maxLen_val]; omega, fun _ => ⟨wr.heap.size, 0, rfl, B1.out.lt, fun i hi => by
        obtain rfl : i = 0 := by omega
        exact B1.out.cell 0⟩⟩)
      have HO := hide (Mx.offer_ok (ses := ses) (k := k) hs0 hs1 (by omega))
      have hwk : IntKind.i64.wrap (2 + (k : Int) % 14) = 2 + (k : Int) % 14 := by rw [IntWalk.i64_left, IntWalk.wrap64_in _ (by omega)]
      go_wp2_with fail
      rw [← hW1.out]
      refine (loffer_own ses 0 qa qn qc (Mx.qF k 0) (2 + (k : Int) % 14) (some ⟨wr.heap.size, 0, none⟩) none 1 1 0 0 [(k : Int)] [] W1 H1.out.fl.fl I1.out (blks_nil W1)).mono ?_
      rintro e w2 ⟨v2, rfl, hA, hB⟩
      obtain ⟨za, zn, zc, hv2, hFA, hzc⟩ := (hA.out.resolve_left (fun h => h.1 HO.out)).2
      subst hv2
      rw [HO.out, errV_zero]
      have HFA := hide hFA
      have D2 := hide (D1.out.trans (hB.out.mono D1.out.size))
      obtain ⟨W3, hW3⟩ : ∃ W3 : World, Hid (W3 = w2.alloc (.cells #[.int .i64 ses, .int .i64 0, .slice za zn zc] 24)) := ⟨_, rfl⟩
      have D3 := hide (show Below w2.heap.size w2 W3 by rw [hW3.out]; exact below_alloc _ _)
      have R3 := hide (show Bx W3 w2.heap.size #[.int .i64 ses, .int .i64 0, .slice za zn zc] 24 by rw [hW3.out]; exact Bx.new w2 _ _)
      have D03 := hide (D2.out.trans (D3.out.mono D2.out.size))
      have H3 := hide (hL.out.later D03.out)
      have F3 := hide (show FLF (Pf g (.slice none 0 0) (.slice none 0 0)) W3 za zn (Mx.qF (k + 1) 0) by
        rw [← Mx.qF_snoc]
        exact FLF.of_fla (HFA.out.later D3.out) (fun b _ hb => pf_new hL.out (Nat.le_trans D1.out.size hb)))
      have L4 := hide (H3.out.sent (base' := 0) F3.out hzc)
      clear x0 x1 x2 x3 x4 x5 x6 x7 hA hFA
      obtain ⟨x0, x1, x2, x3, x4, x5, x6, x7⟩ := H3.out.bx.cells
      have xz := Bx.frozen H3.out.bx
      obtain ⟨r0, r1, r2⟩ := R3.out.three
      go_upto_region 10 with fail
      rw [← hW3.out]
      go_wp2_with fail
      unfold set3 at L4
      go_roundw
      case rel => exact ⟨k + 1, za, zn, zc, by omega, by go_num, L4⟩
      case measure => simp [intOf]; omega
    · obtain rfl : k = m := by omega
      go_wp2_with fail
      exact Met.intro (ltl6 hs0 hs1 hm (hide ⟨qa, qn, qc, _, _, hL.out, ⟨Nat.le_refl _, Nat.zero_le _, by omega, fun e he => by cases he⟩⟩) HS HI hsn)

set_option maxHeartbeats 16000000 in
set_option maxRecDepth 100000 in
theorem tline_any (session many : Int) (sa : Option Addr) (sn sc : Nat) (sl : List Int) (w : World) (hs : Ints w sa sn sl) (hb : I64 sl) (h1 : I64x session) (h2 : I64x many) :
    Calls Try.prog 5 #[.int .i64 session, .int .i64 many, .slice sa sn sc] w fun e w' => e = .returned (.bool true) ∧ Below w.heap.size w w' := by
  have HS := hide hs
  have HI := hide hb
  have H1 := hide h1
  have H2 := hide h2
  have hsm : sn ≤ maxLen := hs.2.1
  rw [maxLen_val] at hsm
  clear hs hb h1 h2
  go_enter Try.func5, Try.ntmps5
  change TailG Try.f5 _ 0 _ w
  refine tailG_step rfl ?_
  intro K hK
  go_wp2_with fail
  refine Met.intro (tailG_step rfl ?_)
  try clear hK K
  intro K hK
  by_cases h100 : (100 : Int) < sn
  · have d100 : decide ((100 : Int) < sn) = true := by simpa using h100
    go_wp2_with fail
    go_ret
    exact ⟨rfl, Below.refl _ _⟩
  · have d100 : decide ((100 : Int) < sn) = false := by simpa using h100
    go_wp2_with fail
    refine Met.intro (tailG_step rfl ?_)
    try clear hK K
    intro K hK
    go_wp2_with fail
    refine (pick_any session 1000 w H1.out.1 H1.out.2 (by omega) (by omega)).mono ?_
    rintro e wz ⟨s, hs, rfl, hz⟩
    obtain rfl := hz.symm
    clear hz
    go_wp2_with fail
    refine Met.intro (tailG_step rfl ?_)
    try clear hK K
    intro K hK
    go_wp2_with fail
    refine (pick_any many 20 w H2.out.1 H2.out.2 (by omega) (by omega)).mono ?_
    rintro e wz ⟨m, hm, rfl, hz⟩
    obtain rfl := hz.symm
    clear hz
    go_wp2_with fail
    refine Met.intro (tailG_step rfl ?_)
    try clear hK K
    intro K hK
    obtain ⟨W1, hW1⟩ : ∃ W1 : World, Hid (W1 = w.alloc (.cells #[.int .i64 (s : Int), .int .i64 0, .slice none 0 0, .int .i64 (s : Int), .int .i64 0, .slice none 0 0, .slice none 0 0, .bool true] 56)) := ⟨_, rfl⟩
    have B1 := hide (show Bx W1 w.heap.size #[.int .i64 (s : Int), .int .i64 0, .slice none 0 0, .int .i64 (s : Int), .int .i64 0, .slice none 0 0, .slice none 0 0, .bool true] 56 by rw [hW1.out]; exact Bx.new w _ _)
    have D1 := hide (show Below w.heap.size w W1 by rw [hW1.out]; exact below_alloc _ _)
    have L1 := hide (show LnW (fun _ => False) w W1 w.heap.size (s : Int) 0 (Mx.qF 0 0) 0 [] [] true none 0 0 (.slice none 0 0) (.slice none 0 0) from ⟨B1.out, Nat.le_refl _, FLF.nil _ _, NetF.nil _ _ _, World.ownsRow_nil _ _ _ 1, Nat.le_refl _, D1.out, fun _ _ e => e, fun _ _ e => e, fun e => e, fun _ e => e.elim⟩)
    go_wp2_with fail
    rw [← hW1.out]
    exact Met.intro (ltl5 (by omega) (by omega) (by omega) L1 HS HI (by omega))

end Go.Proofs.Ytfgonmgmoeoedaa
