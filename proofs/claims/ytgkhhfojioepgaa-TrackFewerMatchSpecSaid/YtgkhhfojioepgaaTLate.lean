/- What a region keeps that stores late: cells, each as it was till its store has come up, and whatever else holds. No program. -/
import Derived.Test.YtgkhhfojioepgaaFLate
namespace Go.Proofs.Ytgkhhfojioepgaa
set_option linter.unusedSimpArgs false
set_option linter.unusedVariables false

def lateK (G : World → Prop) : List (Nat × Addr × Value) → Array Bool → World → Prop
  | [], _, V => G V
  | c :: r, L, V => (L.getD c.1 false = false → V.cell? c.2.1 = some c.2.2) ∧ lateK G r L V
section
variable {P : Program} {ops : Array Oper} {Q : Exit → Go.Act → World → Prop} {md : Region.Mode} {G : World → Prop} {W : World}
theorem lateK_iff : ∀ {cs : List (Nat × Addr × Value)} {i : Nat}, (cs.all fun c => c.1 != i) = true → ∀ (L : Array Bool) (V : World), lateK G cs (L.setIfInBounds i true) V ↔ lateK G cs L V
  | [], _, _, _, _ => Iff.rfl
  | c :: r, i, h, L, V => by
    simp only [List.all_cons, Bool.and_eq_true, bne_iff_ne, ne_eq] at h
    unfold lateK
    rw [getD_set_ne false (Ne.symm h.1), lateK_iff (cs := r) (by simpa using h.2) L V]
theorem lateK_get : ∀ {cs : List (Nat × Addr × Value)} {L : Array Bool} {V : World} {j p : Nat} {A : Addr} {v : Value}, lateK G cs L V → cs[j]? = some (p, A, v) → L.getD p false = false → V.cell? A = some v
  | c :: r, L, V, 0, p, A, v, h, hc, hf => by
    simp only [List.getElem?_cons_zero, Option.some.injEq] at hc
    subst hc; exact h.1 hf
  | c :: r, L, V, j + 1, p, A, v, h, hc, hf => lateK_get (cs := r) h.2 (by simpa using hc) hf
theorem lateK_fact : ∀ {cs : List (Nat × Addr × Value)} {L : Array Bool} {V : World}, lateK G cs L V → G V
  | [], _, _, h => h
  | _ :: r, _, _, h => lateK_fact (cs := r) h.2
theorem lateK_cell {cs : List (Nat × Addr × Value)} {i : Nat} (j : Nat) {p : Nat} {A : Addr} {v : Value} {op : Oper} (h : Before md ops (lateK G cs) i W) (hc : cs[j]? = some (p, A, v)) (ho : ops[p]? = some op) (he : (op.after.any fun e => Region.binds md e && e.on == i) = true) : W.cell? A = some v := by
  obtain ⟨L, hcl, hf, hs⟩ := h
  exact lateK_get hs hc (closed_not hcl ho he hf)
theorem lateK_g {cs : List (Nat × Addr × Value)} {i : Nat} (h : Before md ops (lateK G cs) i W) : G W := by
  obtain ⟨L, _, _, hs⟩ := h
  exact lateK_fact hs
theorem lateUp {L : Array Bool} {p : Nat} {X : Prop} (h : L.getD p false = true) : L.getD p false = false → X := fun e => absurd (h.symm.trans e) (by decide)
end
end Go.Proofs.Ytgkhhfojioepgaa
