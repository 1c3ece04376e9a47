/-
  What is read lies in blocks of which something holds, so that it outlives what is written elsewhere (footprints).
-/
import Derived.Deep.AppendLies
import Derived.Test.YtfgonmgmoeoedaaZEl

namespace Go.Proofs.Ytfgonmgmoeoedaa
open Go.RowKit

/-- of the blocks that there were none but those of S have changed -/
structure Ext (S : Nat → Prop) (w w' : World) : Prop where
  size : w.heap.size ≤ w'.heap.size
  block : ∀ b, b < w.heap.size → ¬ S b → w'.heap[b]? = w.heap[b]?

theorem Ext.refl (S : Nat → Prop) (w : World) : Ext S w w := ⟨Nat.le_refl _, fun _ _ _ => rfl⟩

theorem Ext.trans {S : Nat → Prop} {w w' w'' : World} (h : Ext S w w') (h' : Ext S w' w'') : Ext S w w'' :=
  ⟨Nat.le_trans h.size h'.size, fun b hb hs => (h'.block b (Nat.lt_of_lt_of_le hb h.size) hs).trans (h.block b hb hs)⟩

theorem Ext.mono {S S' : Nat → Prop} {w w' : World} (h : Ext S w w') (hs : ∀ b, b < w.heap.size → S b → S' b) : Ext S' w w' :=
  ⟨h.size, fun b hb hn => h.block b hb (fun e => hn (hs b hb e))⟩

theorem Ext.below {S : Nat → Prop} {w w' : World} (h : Below w.heap.size w w') : Ext S w w' := ⟨h.size, fun b hb _ => h.block b hb⟩

theorem Ext.grown {w w' : World} {row : Option Nat} (h : w.grownBy w' row) : Ext (fun b => some b = row) w w' := ⟨h.size, fun b hb hn => h.block b hb hn⟩

theorem Ext.cell {S : Nat → Prop} {w w' : World} (h : Ext S w w') {b o : Nat} (hb : b < w.heap.size) (hs : ¬ S b) : w'.cell? ⟨b, o, none⟩ = w.cell? ⟨b, o, none⟩ :=
  World.cell?_of_block (a := ⟨b, o, none⟩) (h.block b hb hs)

theorem Ext.bx {S : Nat → Prop} {w w' : World} {g : Nat} {cs : Array Value} {t : TypeId} (h : Ext S w w') (hx : Bx w g cs t) (hs : ¬ S g) : Bx w' g cs t := (h.block g hx.lt hs).trans hx

theorem Ext.own {S : Nat → Prop} {w w' : World} {base e size : Nat} {v : Value} {n : Nat} {xs : List Value} (h : Ext S w w') (ho : w.ownsRow base e size v n xs) (hs : ∀ k, v.ownBlock = some k → ¬ S k) : w'.ownsRow base e size v n xs := by
  refine ⟨ho.1, ?_⟩
  rcases ho.2 with h1 | ⟨g, cap, cur, hv, hb, hg, h3⟩
  · exact .inl h1
  · refine .inr ⟨g, cap, cur, hv, hb, ?_, h3⟩
    have hlt : g < w.heap.size := (Array.getElem?_eq_some_iff.1 hg).1
    exact (h.block g hlt (hs g (by rw [hv]; rfl))).trans hg

/-- where it lies, if there is anything -/
def Av (P : Nat → Prop) (a : Option Addr) (n : Nat) : Prop := 0 < n → ∀ p, a = some p → P p.block

theorem Av.imp {P P' : Nat → Prop} {a : Option Addr} {n : Nat} (h : Av P a n) (hi : ∀ b, P b → P' b) : Av P' a n := fun hn p hp => hi _ (h hn p hp)

theorem Ints.lt_ {w : World} {a : Option Addr} {n : Nat} {l : List Int} (h : Ints w a n l) : Av (fun b => b < w.heap.size) a n := fun hn p hp => by
  obtain ⟨b, off, ha, hlt, _⟩ := h.2.2 hn
  rw [ha] at hp
  cases hp
  exact hlt

theorem Blks.ltA {w : World} {a : Option Addr} {n : Nat} {l : List Int} (h : Blks w a n l) : Av (fun b => b < w.heap.size) a n := fun hn p hp => by
  obtain ⟨b, off, ha, hlt, _⟩ := h.2.2.2 hn
  rw [ha] at hp
  cases hp
  exact hlt

theorem Bytes.ltA {w : World} {a : Option Addr} {n : Nat} {l : List Int} (h : Bytes w a n l) : Av (fun b => b < w.heap.size) a n := fun hn p hp => by
  obtain ⟨b, off, ha, hc⟩ := h.2.2.2 hn
  rw [ha] at hp
  cases hp
  exact World.block_lt_of_cell? w _ (hc 0 hn)

theorem Ints.ext {S P : Nat → Prop} {w w' : World} {a : Option Addr} {n : Nat} {l : List Int} (h : Ints w a n l) (hx : Ext S w w') (hp : Av P a n) (hd : ∀ b, b < w.heap.size → P b → ¬ S b) : Ints w' a n l := by
  refine ⟨h.1, h.2.1, fun hn => ?_⟩
  obtain ⟨b, off, ha, hlt, hc⟩ := h.2.2 hn
  refine ⟨b, off, ha, Nat.lt_of_lt_of_le hlt hx.size, fun i hi => ?_⟩
  rw [hx.cell hlt (hd b hlt (hp hn _ ha))]
  exact hc i hi

theorem Blks.ext {S P : Nat → Prop} {w w' : World} {a : Option Addr} {n : Nat} {l : List Int} (h : Blks w a n l) (hx : Ext S w w') (hp : Av P a n) (hd : ∀ b, b < w.heap.size → P b → ¬ S b) : Blks w' a n l := by
  refine ⟨h.1, h.2.1, h.2.2.1, fun hn => ?_⟩
  obtain ⟨b, off, ha, hlt, hc⟩ := h.2.2.2 hn
  refine ⟨b, off, ha, Nat.lt_of_lt_of_le hlt hx.size, fun i hi => ?_⟩
  rw [hx.cell hlt (hd b hlt (hp hn _ ha))]
  exact hc i hi

theorem Bytes.ext {S P : Nat → Prop} {w w' : World} {a : Option Addr} {n : Nat} {l : List Int} (h : Bytes w a n l) (hx : Ext S w w') (hp : Av P a n) (hd : ∀ b, b < w.heap.size → P b → ¬ S b) : Bytes w' a n l := by
  refine ⟨h.1, h.2.1, h.2.2.1, fun hn => ?_⟩
  obtain ⟨b, off, ha, hc⟩ := h.2.2.2 hn
  have hlt : b < w.heap.size := World.block_lt_of_cell? w _ (hc 0 hn)
  refine ⟨b, off, ha, fun i hi => ?_⟩
  rw [hx.cell hlt (hd b hlt (hp hn _ ha))]
  exact hc i hi

/-- messages, read, all of it in blocks of which P holds -/
def FLF (P : Nat → Prop) (w : World) (a : Option Addr) (k : Nat) (fs : List Fr) : Prop :=
  fs.length = k ∧ k ≤ maxLen ∧ (0 < k → ∃ b off, a = some ⟨b, off, none⟩ ∧ P b ∧ b < w.heap.size ∧ ∀ i f, fs[i]? = some f → ∃ a1 n1 c1 a2 c2, w.cell? ⟨b, off + i * 3, none⟩ = some (.int .i64 f.kind) ∧ w.cell? ⟨b, off + i * 3 + 1, none⟩ = some (.slice a1 n1 c1) ∧ w.cell? ⟨b, off + i * 3 + 2, none⟩ = some (.slice a2 f.nb c2) ∧ Ints w a1 n1 f.nums ∧ Blks w a2 f.nb f.bs ∧ n1 ≤ c1 ∧ f.nb ≤ c2 ∧ Av P a1 n1 ∧ Av P a2 f.nb)

theorem FLF.nil (P : Nat → Prop) (w : World) : FLF P w none 0 [] := ⟨rfl, by rw [maxLen_val]; omega, fun h => absurd h (by omega)⟩

theorem FLF.fl {P : Nat → Prop} {w : World} {a : Option Addr} {k : Nat} {fs : List Fr} (h : FLF P w a k fs) : FL w a k fs := by
  obtain ⟨h1, h2, h4⟩ := h
  refine ⟨h1, h2, fun hp => ?_⟩
  obtain ⟨b, off, ha, _, hlt, hc⟩ := h4 hp
  refine ⟨b, off, ha, hlt, fun i f hf => ?_⟩
  obtain ⟨a1, n1, c1, a2, c2, e1, e2, e3, e4, e5, e6, e7, _⟩ := hc i f hf
  exact ⟨a1, n1, c1, a2, c2, e1, e2, e3, e4, e5, e6, e7⟩

theorem FLF.imp {P P' : Nat → Prop} {w : World} {a : Option Addr} {k : Nat} {fs : List Fr} (h : FLF P w a k fs) (hi : ∀ b, b < w.heap.size → P b → P' b) : FLF P' w a k fs := by
  obtain ⟨h1, h2, h4⟩ := h
  refine ⟨h1, h2, fun hp => ?_⟩
  obtain ⟨b, off, ha, hb, hlt, hc⟩ := h4 hp
  refine ⟨b, off, ha, hi b hlt hb, hlt, fun i f hf => ?_⟩
  obtain ⟨a1, n1, c1, a2, c2, e1, e2, e3, e4, e5, e6, e7, e8, e9⟩ := hc i f hf
  exact ⟨a1, n1, c1, a2, c2, e1, e2, e3, e4, e5, e6, e7, fun hn p hp => hi _ (e4.lt_ hn p hp) (e8 hn p hp), fun hn p hp => hi _ (e5.ltA hn p hp) (e9 hn p hp)⟩

theorem FLF.of_fla {P : Nat → Prop} {B : Nat} {w : World} {a : Option Addr} {k : Nat} {fs : List Fr} (h : FLA B w a k fs) (hi : ∀ b, b < w.heap.size → B ≤ b → P b) : FLF P w a k fs := by
  have h0 : FLF (fun b => B ≤ b) w a k fs := h
  exact h0.imp hi

theorem FLF.ext {S P : Nat → Prop} {w w' : World} {a : Option Addr} {k : Nat} {fs : List Fr} (h : FLF P w a k fs) (hx : Ext S w w') (hd : ∀ b, b < w.heap.size → P b → ¬ S b) : FLF P w' a k fs := by
  obtain ⟨h1, h2, h4⟩ := h
  refine ⟨h1, h2, fun hp => ?_⟩
  obtain ⟨b, off, ha, hb, hlt, hc⟩ := h4 hp
  refine ⟨b, off, ha, hb, Nat.lt_of_lt_of_le hlt hx.size, fun i f hf => ?_⟩
  obtain ⟨a1, n1, c1, a2, c2, e1, e2, e3, e4, e5, e6, e7, e8, e9⟩ := hc i f hf
  have hs := hd b hlt hb
  exact ⟨a1, n1, c1, a2, c2, (hx.cell hlt hs).trans e1, (hx.cell hlt hs).trans e2, (hx.cell hlt hs).trans e3, e4.ext hx e8 hd, e5.ext hx e9 hd, e6, e7, e8, e9⟩

theorem FLF.bound {P : Nat → Prop} {w : World} {a : Option Addr} {k : Nat} {fs : List Fr} (h : FLF P w a k fs) : FLF (fun b => P b ∧ b < w.heap.size) w a k fs := h.imp fun _ h1 h2 => ⟨h2, h1⟩

end Go.Proofs.Ytfgonmgmoeoedaa
