/- Two rows and a box with two slices: as sumsOf lays them, its stores, and what its region keeps. -/
import Derived.Test.YtmfnphknoclhfaaFSumP
import Derived.Test.YtmfnphknoclhfaaFLate
namespace Go.Proofs.Ytmfnphknoclhfaa
open Go.RowKit

theorem d2_new (w : World) : D2 (w.alloc (.cells #[.slice none 0 0, .slice none 0 0] 164)) (w.heap.size + 1 + 1 + 1) (.slice (some ⟨w.heap.size + 1, 0, none⟩) 1 1) (.slice (some ⟨w.heap.size + 1 + 1, 0, none⟩) 1 1) (.slice (some ⟨w.heap.size + 1, 0, none⟩) 1 1) (.slice (some ⟨w.heap.size + 1 + 1, 0, none⟩) 1 1) 1 1 [.int .i64 0] [.int .i64 0]
    ((((w.alloc (.cells #[.slice none 0 0, .slice none 0 0] 164)).alloc (.cells #[.int .i64 0] 3)).alloc (.cells #[.int .i64 0] 3)).alloc (.cells #[.slice (some ⟨w.heap.size + 1, 0, none⟩) 1 1, .slice (some ⟨w.heap.size + 1 + 1, 0, none⟩) 1 1] 164)) := by
  generalize hw0 : w.alloc (.cells #[.slice none 0 0, .slice none 0 0] 164) = w0
  have s0 : w0.heap.size = w.heap.size + 1 := by rw [← hw0]; simp
  rw [← s0]
  generalize hw1 : w0.alloc (.cells #[.int .i64 0] 3) = w1
  have s1 : w1.heap.size = w0.heap.size + 1 := by rw [← hw1]; simp
  have k1 : w1.heap[w0.heap.size]? = some (.cells #[.int .i64 0] 3 (0, 0)) := by rw [← hw1]; exact heap_alloc_new w0 _
  have g1 : w0.grownBy w1 none := by rw [← hw1]; exact World.grownBy_alloc _ _ _
  generalize hw2 : w1.alloc (.cells #[.int .i64 0] 3) = w2
  have s2 : w2.heap.size = w1.heap.size + 1 := by rw [← hw2]; simp
  have k2 : w2.heap[w1.heap.size]? = some (.cells #[.int .i64 0] 3 (0, 0)) := by rw [← hw2]; exact heap_alloc_new w1 _
  have g2 : w1.grownBy w2 none := by rw [← hw2]; exact World.grownBy_alloc _ _ _
  have g3 := World.grownBy_alloc w2 (.cells #[.slice (some ⟨w0.heap.size, 0, none⟩) 1 1, .slice (some ⟨w0.heap.size + 1, 0, none⟩) 1 1] 164) none
  have k3 := heap_alloc_new w2 (.cells #[.slice (some ⟨w0.heap.size, 0, none⟩) 1 1, .slice (some ⟨w0.heap.size + 1, 0, none⟩) 1 1] 164)
  refine ⟨grown_trans (grown_trans g1 g2) g3, by rw [show w0.heap.size + 1 + 1 = w2.heap.size by omega]; exact k3, ?_, ?_, ?_, ?_, ?_⟩
  · refine ⟨rfl, .inr ⟨w0.heap.size, 1, #[.int .i64 0], rfl, Nat.le_refl _, ?_, Nat.le_refl _, by decide, rfl, rfl⟩⟩
    rw [g3.block _ (by omega) (by simp), g2.block _ (by omega) (by simp)]; exact k1
  · refine ⟨rfl, .inr ⟨w0.heap.size + 1, 1, #[.int .i64 0], rfl, by omega, ?_, Nat.le_refl _, by decide, rfl, rfl⟩⟩
    rw [g3.block _ (by omega) (by simp), ← s1]; exact k2
  · intro g e e2
    have e1 : w0.heap.size = g := Option.some.inj e
    have e3 : w0.heap.size + 1 = g := Option.some.inj e2
    omega
  · intro e
    have e1 : w0.heap.size = w0.heap.size + 1 + 1 := Option.some.inj e
    omega
  · intro e
    have e1 : w0.heap.size + 1 = w0.heap.size + 1 + 1 := Option.some.inj e
    omega


theorem setc_grown (W : World) (B i : Nat) (u : Value) : W.grownBy (W.setCell ⟨B, i, none⟩ u) (some B) :=
  ⟨rfl, rfl, rfl, by simp [World.setCell], fun k hk hne => Below.heap_setCell _ _ _ _ (fun e => hne (by rw [e]))⟩
section
variable {w0 : World} {B : Nat} {vA vB rA rB : Value} {nA nB : Nat} {xA xB : List Value} {W : World}
theorem D2.g_set (h : D2 w0 B vA vB rA rB nA nB xA xB W) (hB : w0.heap.size ≤ B) (i : Nat) (u : Value) : w0.grownBy (W.setCell ⟨B, i, none⟩ u) none := by
  have g := setc_grown W B i u
  exact ⟨g.os.trans h.g.os, g.tape.trans h.g.tape, g.output.trans h.g.output, Nat.le_trans h.g.size g.size, fun k hk _ => by
    rw [g.block k (Nat.lt_of_lt_of_le hk h.g.size) (fun e => by injection e; omega)]; exact h.g.block k hk (by simp)⟩
theorem D2.set0 (h : D2 w0 B vA vB rA rB nA nB xA xB W) (hB : w0.heap.size ≤ B) (u : Value) : D2 w0 B u vB rA rB nA nB xA xB (W.setCell ⟨B, 0, none⟩ u) :=
  ⟨h.g_set hB 0 u, by simp [World.setCell, Array.getElem?_modify, h.bx], h.a.kept (setc_grown _ _ _ _) (.inr h.aB), h.b.kept (setc_grown _ _ _ _) (.inr h.bB), h.ab, h.aB, h.bB⟩
theorem D2.set1 (h : D2 w0 B vA vB rA rB nA nB xA xB W) (hB : w0.heap.size ≤ B) (u : Value) : D2 w0 B vA u rA rB nA nB xA xB (W.setCell ⟨B, 1, none⟩ u) :=
  ⟨h.g_set hB 1 u, by simp [World.setCell, Array.getElem?_modify, h.bx], h.a.kept (setc_grown _ _ _ _) (.inr h.aB), h.b.kept (setc_grown _ _ _ _) (.inr h.bB), h.ab, h.aB, h.bB⟩

/-- What the region keeps: a cell of the box is as it was till it is stored. -/
def lateS (B : Nat) (vA vB : Value) (p q : Nat) (L : Array Bool) (V : World) : Prop := (L.getD p false = false → V.cell? ⟨B, 0, none⟩ = some vA) ∧ (L.getD q false = false → V.cell? ⟨B, 1, none⟩ = some vB)
theorem lateS_iff {p q i : Nat} (h1 : i ≠ p) (h2 : i ≠ q) (L : Array Bool) (V : World) : lateS B vA vB p q (L.setIfInBounds i true) V ↔ lateS B vA vB p q L V := by
  unfold lateS; rw [getD_set_ne false h1, getD_set_ne false h2]
theorem D2.late (h : D2 w0 B vA vB rA rB nA nB xA xB W) (p q : Nat) (L : Array Bool) : lateS B vA vB p q L W := ⟨fun _ => h.c0, fun _ => h.c1⟩
theorem D2.late1 {u : Value} (h : D2 w0 B u vB rA rB nA nB xA xB W) (p q : Nat) {L : Array Bool} (hp : L.getD p false = true) : lateS B vA vB p q L W := ⟨fun e => absurd (hp.symm.trans e) (by decide), fun _ => h.c1⟩
theorem late_all {p q : Nat} {L : Array Bool} (hp : L.getD p false = true) (hq : L.getD q false = true) : lateS B vA vB p q L W := ⟨fun e => absurd (hp.symm.trans e) (by decide), fun e => absurd (hq.symm.trans e) (by decide)⟩
theorem late_c0 {ops : Array Oper} {md : Region.Mode} {p q i : Nat} {op : Oper} (h : Before md ops (lateS B vA vB p q) i W) (ho : ops[p]? = some op) (he : (op.after.any fun e => Region.binds md e && e.on == i) = true) : W.cell? ⟨B, 0, none⟩ = some vA := by
  obtain ⟨L, hc, hf, hs, _⟩ := h
  exact hs (closed_not hc ho he hf)
theorem late_c1 {ops : Array Oper} {md : Region.Mode} {p q i : Nat} {op : Oper} (h : Before md ops (lateS B vA vB p q) i W) (ho : ops[q]? = some op) (he : (op.after.any fun e => Region.binds md e && e.on == i) = true) : W.cell? ⟨B, 1, none⟩ = some vB := by
  obtain ⟨L, hc, hf, _, hs⟩ := h
  exact hs (closed_not hc ho he hf)
end
end Go.Proofs.Ytmfnphknoclhfaa
