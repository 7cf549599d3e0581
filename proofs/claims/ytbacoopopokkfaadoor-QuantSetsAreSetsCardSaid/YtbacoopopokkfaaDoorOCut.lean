/- A row of one's own cut short, and cleared behind. -/
import Derived.Test.YtbacoopopokkfaaDoorOSet
import Derived.Lib.SliceRun
namespace Go.Proofs.YtbacoopopokkfaaDoor
open Go.RowKit
set_option linter.unusedSimpArgs false
set_option linter.unusedVariables false

theorem flat_take {α : Type} (cs : α → List Value) {K : Nat} (hk : ∀ x, (cs x).length = K) : ∀ (l : List α) (m : Nat), m ≤ l.length → (l.flatMap cs).take (m * K) = (l.take m).flatMap cs
  | _, 0, _ => by simp
  | [], m + 1, h => by simp at h
  | x :: r, m + 1, h => by
    rw [List.flatMap_cons, List.take_succ_cons, List.flatMap_cons, ← flat_take cs hk r m (by simpa using h), List.take_append, hk x]
    have e : (m + 1) * K = K + m * K := by rw [Nat.add_mul, Nat.one_mul, Nat.add_comm]
    rw [e, List.take_of_length_le (by rw [hk x]; omega), Nat.add_sub_cancel_left]
theorem own_cutK {α : Type} {cs : α → List Value} {K : Nat} (hk : ∀ x, (cs x).length = K) {w : World} {base g n cap : Nat} {e : TypeId} {L : List α} (h : w.ownsRow base e K (.slice (some ⟨g, 0, none⟩) n cap) n (L.flatMap cs)) (hl : L.length = n) {m : Nat} (hm : m ≤ n) : w.ownsRow base e K (.slice (some ⟨g, 0, none⟩) m cap) m ((L.take m).flatMap cs) := by
  rcases h.2 with ⟨h', _⟩ | ⟨g', cap', cur, h', hb, hg, hnc, hcm, hcs, htake⟩
  · cases h'
  · simp only [Value.slice.injEq, Option.some.injEq, Addr.mk.injEq, and_true, true_and] at h'
    obtain ⟨rfl, rfl⟩ := h'
    have e2 : m * K ≤ n * K := Nat.mul_le_mul_right _ hm
    refine ⟨?_, .inr ⟨g, cap, cur, rfl, hb, hg, by omega, hcm, hcs, ?_⟩⟩
    · rw [mflat_len cs K hk, List.length_take, Nat.min_eq_left (by omega)]
    · rw [← flat_take cs hk L m (by omega), ← htake, List.take_take, Nat.min_eq_left e2]
theorem setL_len : ∀ (vs : List Value) (xs : List Value) (o : Nat), (setL xs o vs).length = xs.length
  | [], _, _ => rfl
  | v :: r, xs, o => by show (setL (xs.set o v) (o + 1) r).length = _; rw [setL_len r]; simp
theorem setL_take : ∀ (vs : List Value) (xs : List Value) (o m : Nat), m ≤ o → (setL xs o vs).take m = xs.take m
  | [], _, _, _, _ => rfl
  | v :: r, xs, o, m, h => by
    show (setL (xs.set o v) (o + 1) r).take m = _
    rw [setL_take r _ _ _ (by omega)]
    apply List.ext_getElem?
    intro i
    rw [List.getElem?_take, List.getElem?_take]
    split
    · rw [List.getElem?_set_ne (by omega)]
    · rfl
/-- Cleared behind m elements, and cut there. -/
theorem own_clear {α : Type} {cs : α → List Value} {K : Nat} (hk : ∀ x, (cs x).length = K) {w : World} {base g n cap : Nat} {e : TypeId} {L : List α} (h : w.ownsRow base e K (.slice (some ⟨g, 0, none⟩) n cap) n (L.flatMap cs)) (hl : L.length = n) {m : Nat} (hm : m ≤ n) (vs : List Value) : (w.setCells g (m * K) vs).ownsRow base e K (.slice (some ⟨g, 0, none⟩) m cap) m ((L.take m).flatMap cs) := by
  have q := own_setCells vs (m * K) h
  rcases q.2 with ⟨h', _⟩ | ⟨g', cap', cur, h', hb, hg, hnc, hcm, hcs, htake⟩
  · cases h'
  · simp only [Value.slice.injEq, Option.some.injEq, Addr.mk.injEq, and_true, true_and] at h'
    obtain ⟨rfl, rfl⟩ := h'
    have e2 : m * K ≤ n * K := Nat.mul_le_mul_right _ hm
    refine ⟨?_, .inr ⟨g, cap, cur, rfl, hb, hg, by omega, hcm, hcs, ?_⟩⟩
    · rw [mflat_len cs K hk, List.length_take, Nat.min_eq_left (by omega)]
    · rw [← flat_take cs hk L m (by omega), ← setL_take vs (L.flatMap cs) (m * K) (m * K) (Nat.le_refl _), ← htake, List.take_take, Nat.min_eq_left e2]
theorem grown_setCells {g : Nat} : ∀ (vs : List Value) (o : Nat) {w W : World}, w.grownBy W (some g) → w.grownBy (W.setCells g o vs) (some g)
  | [], _, _, _, h => h
  | v :: r, o, w, W, h => grown_setCells r (o + 1) ⟨h.os, h.tape, h.output, by have := h.size; simpa using this, fun k hk hne => by
      rw [Below.heap_setCell _ _ _ _ (fun e => hne (by rw [e]))]; exact h.block k hk hne⟩
section
variable {P : Program}
/-- 'clear(s)' on a slice of structs. -/
theorem run_clear_rows (w : World) (t e ty : TypeId) (z : Value) (ht : P.underlying t = some (.slice e)) (hv : ∀ w, (zeroValue e).run P w = .ok z w) {K : Nat} (hz : z.cells.size = K) (hK : 0 < K) (h1 : ∀ v ∈ z.cells.toList, v.oneCell' = true) (b o n c : Nat) (hn : 0 < n)
    (hc : ∀ j, j < n * K → (w.cell? ⟨b, o + j, none⟩).isSome = true) (hf : ∀ j, j < n * K → w.frozen? ⟨b, o + j, none⟩ = false) :
    (Builtin.clear_ #[t] ty #[.slice (some ⟨b, o, none⟩) n c]).run P w = .ok (.tuple #[]) (w.setCells b o (Builtin.zeroCells z.cells n).toList) := by
  have hl : (Builtin.zeroCells z.cells n).toList.length = n * K := by simp [Builtin.zeroCells, hz]
  have hst := run_storeCells_cells (P := P) b o (Builtin.zeroCells z.cells n).toList 0 w (fun j hj => hc j (by omega)) (fun j hj => hf j (by omega)) (fun v hv' => by
    simp only [Builtin.zeroCells, Array.toList_map, List.mem_map] at hv'
    obtain ⟨i, _, rfl⟩ := hv'
    have hi : i % z.cells.size < z.cells.size := Nat.mod_lt _ (by omega)
    rw [getElem!_pos z.cells _ hi]
    exact h1 _ (by simp))
  simp only [Nat.add_zero] at hst
  obtain ⟨m, rfl⟩ : ∃ m, n = m + 1 := ⟨n - 1, by omega⟩
  simp [Builtin.clear_, run_underlying ht, hv, hst]
end
end Go.Proofs.YtbacoopopokkfaaDoor
