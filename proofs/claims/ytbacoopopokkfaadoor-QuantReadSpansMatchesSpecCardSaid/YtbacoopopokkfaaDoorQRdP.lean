/- Reading of spans: what is read of a text, purely. -/
import Derived.Test.YtbacoopopokkfaaDoorQRead
import Derived.Test.YtbacoopopokkfaaDoorTRestP
namespace Go.Proofs.YtbacoopopokkfaaDoor
set_option linter.unusedSimpArgs false
set_option linter.unusedVariables false

theorem numV_posS {lo hi : Int} {R : List Nat} (h : (numV lo hi R).ok = true) : 1 ≤ (numV lo hi R).used ∧ 0 < R.length := by
  unfold numV at h ⊢
  cases R with
  | nil => simp [tkV] at h
  | cons c r =>
    split at h
    · exact absurd h (by simp)
    · rename_i e; simp only [e]; simp
/-- One span: whether there is one, how many bytes were taken, the span. -/
def oneV (R : List Nat) : Bool × Nat × SpV :=
  if (numV 0 9999999999999 R).ok = true then
    (if (wordV [45] (R.drop (numV 0 9999999999999 R).used)).1 = true then
      (if (numV 0 9999999999999 (R.drop ((numV 0 9999999999999 R).used + 1))).ok = true then
        (true, (numV 0 9999999999999 R).used + 1 + (numV 0 9999999999999 (R.drop ((numV 0 9999999999999 R).used + 1))).used, ⟨(numV 0 9999999999999 R).val, (numV 0 9999999999999 (R.drop ((numV 0 9999999999999 R).used + 1))).val⟩)
      else (false, (numV 0 9999999999999 R).used + 1, ⟨0, 0⟩))
    else (true, (numV 0 9999999999999 R).used, ⟨(numV 0 9999999999999 R).val, (numV 0 9999999999999 R).val⟩))
  else (false, 0, ⟨0, 0⟩)
theorem oneV_pos {R : List Nat} (h : (oneV R).1 = true) : 1 ≤ (oneV R).2.1 ∧ 0 < R.length := by
  unfold oneV at h ⊢
  split at h
  · rename_i h1
    obtain ⟨a, b⟩ := numV_posS h1
    simp only [h1, if_true]
    split at h
    · split at h
      · rename_i h2 h3; simp only [h2, h3, if_true]; omega
      · exact absurd h (by simp)
    · rename_i h2; simp only [h2]; exact ⟨a, b⟩
  · exact absurd h (by simp)
theorem oneV_bd {R : List Nat} (h : (oneV R).1 = true) : 0 ≤ (oneV R).2.2.fr ∧ (oneV R).2.2.fr ≤ 9999999999999 ∧ 0 ≤ (oneV R).2.2.to_ ∧ (oneV R).2.2.to_ ≤ 9999999999999 := by
  have a := numV_bd 0 9999999999999 R (by omega) (by omega)
  have b := numV_bd 0 9999999999999 (R.drop ((numV 0 9999999999999 R).used + 1)) (by omega) (by omega)
  unfold oneV at h ⊢
  split at h
  · rename_i h1
    simp only [h1, if_true]
    split at h
    · split at h
      · rename_i h2 h3; simp only [h2, h3, if_true]; exact ⟨a.1, a.2, b.1, b.2⟩
      · exact absurd h (by simp)
    · rename_i h2; simp only [h2]; exact ⟨a.1, a.2, a.1, a.2⟩
  · exact absurd h (by simp)
/-- All spans: the spans, how far, whether this is a whole. -/
def spsV (R : List Nat) (l : List SpV) (u : Nat) : List SpV × Nat × Bool :=
  if h : (oneV R).1 = true then
    (if (wordV [44] (R.drop (oneV R).2.1)).1 = true then
      have : (R.drop ((oneV R).2.1 + 1)).length < R.length := by have := oneV_pos h; simp; omega
      spsV (R.drop ((oneV R).2.1 + 1)) (l ++ [(oneV R).2.2]) (u + (oneV R).2.1 + 1)
    else (l ++ [(oneV R).2.2], u + (oneV R).2.1, true))
  else if (oneV R).2.1 = 0 then (l, u, decide (l.length = 0)) else ([], u + (oneV R).2.1, false)
termination_by R.length
theorem spsV_more {R : List Nat} {l : List SpV} {u : Nat} (h : (oneV R).1 = true) (hw : (wordV [44] (R.drop (oneV R).2.1)).1 = true) : spsV R l u = spsV (R.drop ((oneV R).2.1 + 1)) (l ++ [(oneV R).2.2]) (u + (oneV R).2.1 + 1) := by
  rw [spsV, dif_pos h, if_pos hw]
theorem spsV_last {R : List Nat} {l : List SpV} {u : Nat} (h : (oneV R).1 = true) (hw : (wordV [44] (R.drop (oneV R).2.1)).1 = false) : spsV R l u = (l ++ [(oneV R).2.2], u + (oneV R).2.1, true) := by
  rw [spsV, dif_pos h, if_neg (by simp [hw])]
theorem spsV_none {R : List Nat} {l : List SpV} {u : Nat} (h : (oneV R).1 = false) (h0 : (oneV R).2.1 = 0) : spsV R l u = (l, u, decide (l.length = 0)) := by
  rw [spsV, dif_neg (by simp [h]), if_pos h0]
theorem spsV_bad {R : List Nat} {l : List SpV} {u : Nat} (h : (oneV R).1 = false) (h0 : (oneV R).2.1 ≠ 0) : spsV R l u = ([], u + (oneV R).2.1, false) := by
  rw [spsV, dif_neg (by simp [h]), if_neg h0]
def InR (L : List SpV) : Prop := ∀ x ∈ L, 0 ≤ x.fr ∧ x.fr ≤ 9999999999999 ∧ 0 ≤ x.to_ ∧ x.to_ ≤ 9999999999999
theorem spsV_ok : ∀ (m : Nat) {R : List Nat} {l : List SpV} {u : Nat}, R.length ≤ m → InR l → InR (spsV R l u).1 ∧ (spsV R l u).1.length ≤ l.length + R.length := by
  intro m
  induction m with
  | zero =>
    intro R l u hm hl
    have e : R = [] := List.eq_nil_of_length_eq_zero (by omega)
    subst e
    have h1 : (oneV []).1 = false := rfl
    rw [spsV_none h1 rfl]
    exact ⟨hl, by simp⟩
  | succ m ih =>
    intro R l u hm hl
    cases h : (oneV R).1 with
    | false =>
      by_cases h0 : (oneV R).2.1 = 0
      · rw [spsV_none h h0]; exact ⟨hl, by simp⟩
      · rw [spsV_bad h h0]; exact ⟨fun _ hx => (by cases hx), by simp⟩
    | true =>
      have hp := oneV_pos h
      have hb := oneV_bd h
      have hl2 : InR (l ++ [(oneV R).2.2]) := fun x hx => by
        rcases List.mem_append.1 hx with h | h
        · exact hl x h
        · rw [List.mem_singleton.1 h]; exact hb
      cases hw : (wordV [44] (R.drop (oneV R).2.1)).1 with
      | false => rw [spsV_last h hw]; exact ⟨hl2, by simp; omega⟩
      | true =>
        rw [spsV_more h hw]
        obtain ⟨a, b⟩ := ih (R := R.drop ((oneV R).2.1 + 1)) (l := l ++ [(oneV R).2.2]) (u := u + (oneV R).2.1 + 1) (by simp; omega) hl2
        refine ⟨a, ?_⟩
        simp only [List.length_append, List.length_cons, List.length_nil, List.length_drop] at b
        omega
end Go.Proofs.YtbacoopopokkfaaDoor
