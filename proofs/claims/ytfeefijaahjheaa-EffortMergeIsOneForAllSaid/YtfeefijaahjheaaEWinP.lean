/- Windows of a stream, purely: what the iterator yields. -/
import Derived.Test.YtfeefijaahjheaaEInts
namespace Go.Proofs.Ytfeefijaahjheaa
open Go.RowKit
set_option linter.unusedSimpArgs false
set_option linter.unusedVariables false

structure WSt where
  known : Nat
  sum : Int
def WSt.next (l : List Int) (sz : Nat) (s : WSt) (i : Nat) : WSt :=
  if nthI l i < 0 then ⟨0, 0⟩ else if sz < s.known + 1 then ⟨sz, s.sum + nthI l i - nthI l (i - sz)⟩ else ⟨s.known + 1, s.sum + nthI l i⟩
def wst (l : List Int) (sz : Nat) : Nat → WSt
  | 0 => ⟨0, 0⟩
  | i + 1 => (wst l sz i).next l sz i
def wins (l : List Int) (sz : Nat) : Nat → List (Nat × Int)
  | 0 => []
  | i + 1 => if (wst l sz (i + 1)).known = sz then wins l sz i ++ [(i + 1 - sz, (wst l sz (i + 1)).sum)] else wins l sz i

/-- The numbers ahead of a place together. -/
def psum (l : List Int) : Nat → Int
  | 0 => 0
  | i + 1 => psum l i + nthI l i

structure WOk (l : List Int) (sz i : Nat) (s : WSt) : Prop where
  ki : s.known ≤ i
  ks : s.known ≤ sz
  pos : ∀ j, i - s.known ≤ j → j < i → 0 ≤ nthI l j
  sum : s.sum = psum l i - psum l (i - s.known)
  far : s.known = sz ∨ s.known = i ∨ nthI l (i - s.known - 1) < 0
theorem psum_bd {l : List Int} {lo hi : Int} : ∀ (d : Nat) (a : Nat), (∀ j, a ≤ j → j < a + d → lo ≤ nthI l j ∧ nthI l j ≤ hi) → d * lo ≤ psum l (a + d) - psum l a ∧ psum l (a + d) - psum l a ≤ d * hi
  | 0, a, _ => by simp
  | d + 1, a, h => by
    have q := psum_bd d a (fun j h1 h2 => h j h1 (by omega))
    have r := h (a + d) (by omega) (by omega)
    rw [show a + (d + 1) = a + d + 1 by omega, psum]
    rw [Int.natCast_add, Int.add_mul, Int.add_mul]
    simp only [Int.natCast_one, Int.one_mul]
    omega
theorem wok (l : List Int) {sz : Nat} (h1 : 1 ≤ sz) : ∀ i, WOk l sz i (wst l sz i)
  | 0 => ⟨Nat.le_refl _, Nat.zero_le _, fun j _ h => by omega, by simp [wst], .inr (.inl rfl)⟩
  | i + 1 => by
    obtain ⟨a, b, c, d, e⟩ := wok l h1 i
    rw [wst]
    generalize wst l sz i = s at *
    obtain ⟨kn, sm⟩ := s
    unfold WSt.next
    simp only at *
    split
    · rename_i hn
      exact ⟨Nat.zero_le _, Nat.zero_le _, fun j h h' => by simp at h; omega, by simp, .inr (.inr (by simpa using hn))⟩
    · rename_i hn
      split
      · rename_i hk
        have hks : kn = sz := by omega
        subst hks
        refine ⟨by simp only; omega, Nat.le_refl _, fun j h h' => ?_, ?_, .inl rfl⟩
        · simp only at h
          by_cases hj : j = i
          · subst hj; omega
          · exact c j (by omega) (by omega)
        · simp only
          rw [psum, d, show i + 1 - kn = i - kn + 1 by omega, psum]
          omega
      · rename_i hk
        refine ⟨by simp only; omega, by simp only; omega, fun j h h' => ?_, ?_, ?_⟩
        · simp only at h
          by_cases hj : j = i
          · subst hj; omega
          · exact c j (by omega) (by omega)
        · simp only
          rw [psum, d, show i + 1 - (kn + 1) = i - kn by omega]
          omega
        · simp only
          rw [show i + 1 - (kn + 1) - 1 = i - kn - 1 by omega]
          rcases e with e | e | e
          · omega
          · exact .inr (.inl (by omega))
          · exact .inr (.inr e)
/-- Bounds of the state over a stream. -/
theorem wst_bd {l : List Int} {sz : Nat} (h1 : 1 ≤ sz) {i : Nat} (hi : i ≤ l.length) (hl : (l.length : Int) ≤ 1000000) (hb : ∀ k, k < l.length → -1 ≤ nthI l k ∧ nthI l k ≤ 1000000000) :
    0 ≤ (wst l sz i).sum ∧ (wst l sz i).sum ≤ 1000000000000000 ∧ (wst l sz i).known ≤ i ∧ (wst l sz i).known ≤ sz := by
  obtain ⟨a, b, c, d, e⟩ := wok l h1 i
  have q := psum_bd (l := l) (lo := 0) (hi := 1000000000) (wst l sz i).known (i - (wst l sz i).known) (fun j h h' => ⟨c j h (by omega), (hb j (by omega)).2⟩)
  rw [show i - (wst l sz i).known + (wst l sz i).known = i by omega, ← d] at q
  refine ⟨by simpa using q.1, ?_, a, b⟩
  have := q.2
  have hk : ((wst l sz i).known : Int) ≤ 1000000 := by omega
  omega

theorem wins_more {l : List Int} {sz : Nat} {n : Nat} {p : Nat × Int} (h : p ∈ wins l sz n) : ∀ m, n ≤ m → p ∈ wins l sz m := by
  intro m hm
  induction hm with
  | refl => exact h
  | step _ ih => rw [wins]; split <;> simp [ih]
/-- A window as it is yielded. -/
abbrev WinNo (l : List Int) (sz : Nat) : Type := { p : Nat × Int // p.1 + sz ≤ l.length ∧ (0 ≤ p.2 ∧ p.2 ≤ 1000000000000000) ∧ p ∈ wins l sz l.length }
theorem wins_len (l : List Int) (sz : Nat) : ∀ i, (wins l sz i).length ≤ i
  | 0 => Nat.le_refl _
  | i + 1 => by
    have := wins_len l sz i
    rw [wins]; split
    · simp; omega
    · omega

/-- The best window so far. -/
structure BSt where
  sum : Int
  at_ : Int
  found : Bool
def BSt.next (b : BSt) (p : Nat × Int) : BSt := if b.found = false ∨ b.sum < p.2 then ⟨p.2, p.1, true⟩ else b
def bestL (l : List Int) (sz : Nat) : BSt := (wins l sz l.length).foldl BSt.next ⟨0, 0, false⟩

end Go.Proofs.Ytfeefijaahjheaa
