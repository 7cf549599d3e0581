/- How hard a stream is, purely: what the windows' fold gives is what the means give. -/
import Derived.Test.YtmfnphknoclhfaaFRHard
import Derived.Test.YtmfnphknoclhfaaEBestP
namespace Go.Proofs.Ytmfnphknoclhfaa
open Go.RowKit

theorem su_mono (l : List Int) {a b : Nat} (h : a ≤ b) : suN l a ≤ suN l b := by
  induction h with
  | refl => omega
  | step _ ih => rw [suN]; split <;> omega
theorem su_miss {l : List Int} {a b j : Nat} (h1 : a ≤ j) (h2 : j < b) (hj : nthI l j < 0) : suN l b ≠ suN l a := by
  have q1 := su_mono l h1
  have q2 := su_mono l (show j + 1 ≤ b by omega)
  have q3 : suN l (j + 1) = suN l j + 1 := by rw [suN, if_pos hj]
  omega
theorem su_stay {l : List Int} (a : Nat) : ∀ d, (∀ j, a ≤ j → j < a + d → 0 ≤ nthI l j) → suN l (a + d) = suN l a ∧ svN l (a + d) - svN l a = psum l (a + d) - psum l a
  | 0, _ => by simp
  | d + 1, h => by
    have ih := su_stay a d (fun j h1 h2 => h j h1 (by omega))
    have hx := h (a + d) (by omega) (by omega)
    rw [show a + (d + 1) = a + d + 1 by omega, suN, svN, psum, if_neg (by omega), if_neg (by omega)]
    omega
/-- The mean of the window that ends with a second, as the iterator knows it. -/
theorem sm_wst {l : List Int} {sz : Nat} (h1 : 1 ≤ sz) (k : Nat) : smV l sz k = if (wst l sz (k + 1)).known = sz then (wst l sz (k + 1)).sum.tdiv sz else -1 := by
  have w := wok l h1 (k + 1)
  generalize wst l sz (k + 1) = s at *
  obtain ⟨kn, sm⟩ := s
  obtain ⟨ki, ks, pos, sum, far⟩ := w
  simp only at ki ks pos sum far ⊢
  unfold smV
  by_cases h : kn = sz
  · subst h
    have q := su_stay (l := l) (k + 1 - kn) kn (fun j a b => pos j a (by omega))
    rw [show k + 1 - kn + kn = k + 1 by omega] at q
    rw [if_pos rfl, if_pos ki, if_pos q.1, sum, q.2]
  · rw [if_neg h]
    split
    · rename_i hk
      rw [if_neg]
      rcases far with f | f | f
      · exact absurd f h
      · omega
      · exact su_miss (by omega) (by omega) f
    · rfl

structure HSt where
  many : Int
  cubes : Int
def HSt.next (b : HSt) (p : Nat × Int) : HSt := ⟨b.many + 1, b.cubes + cubI (p.2.tdiv 30)⟩
theorem wins_bd {l : List Int} (hv : ∀ k, k < l.length → nthI l k ≤ 10000) {p : Nat × Int} (h : p ∈ wins l 30 l.length) : 0 ≤ p.2 ∧ p.2 ≤ 300000 := by
  obtain ⟨a, b, c⟩ := wins_sound (by omega) l.length (Nat.le_refl _) p h
  have q := psum_bd (l := l) (lo := 0) (hi := 10000) 30 p.1 (fun j h1 h2 => ⟨b.2 j h1 h2, hv j (by omega)⟩)
  omega
theorem div30_bd {s : Int} (h : 0 ≤ s ∧ s ≤ 300000) : 0 ≤ s.tdiv 30 ∧ s.tdiv 30 ≤ 10000 := by
  rw [Int.tdiv_eq_ediv_of_nonneg h.1]; omega
theorem hfold_is {l : List Int} (hv : ∀ k, k < l.length → nthI l k ≤ 10000) : ∀ k, k ≤ l.length → (wins l 30 k).foldl HSt.next ⟨0, 0⟩ = ⟨hmN l k, hsN l k⟩
  | 0, _ => rfl
  | k + 1, hk => by
    have ih := hfold_is hv k (by omega)
    have e := sm_wst (l := l) (sz := 30) (by omega) k
    rw [wins, hmN, hsN]
    by_cases h : (wst l 30 (k + 1)).known = 30
    · rw [if_pos h] at e ⊢
      have hm : (k + 1 - 30, (wst l 30 (k + 1)).sum) ∈ wins l 30 l.length := wins_more (n := k + 1) (by rw [wins, if_pos h]; simp) _ hk
      have hb := div30_bd (wins_bd hv hm)
      simp only at hb
      have e2 : smV l 30 k = (wst l 30 (k + 1)).sum.tdiv 30 := e
      rw [List.foldl_append, ih, e2, if_neg (by omega), if_neg (by omega)]
      rfl
    · rw [if_neg h] at e ⊢
      rw [ih, e]; rfl
def foldH (l : List Int) (pre : List (WinNo l 30)) : HSt := (pre.map (·.1)).foldl HSt.next ⟨0, 0⟩
theorem foldH_snoc (l : List Int) (pre : List (WinNo l 30)) (x : WinNo l 30) : foldH l (pre ++ [x]) = (foldH l pre).next x.1 := by simp [foldH]
theorem foldH_bd {l : List Int} (hv : ∀ k, k < l.length → nthI l k ≤ 10000) (pre : List (WinNo l 30)) : (foldH l pre).many = pre.length ∧ 0 ≤ (foldH l pre).cubes ∧ (foldH l pre).cubes ≤ 1000000000000 * pre.length := by
  suffices h : ∀ (pre : List (WinNo l 30)) (b : HSt) (n : Nat), b.many = n ∧ 0 ≤ b.cubes ∧ b.cubes ≤ 1000000000000 * n → ((pre.map (·.1)).foldl HSt.next b).many = (n + pre.length : Nat) ∧ 0 ≤ ((pre.map (·.1)).foldl HSt.next b).cubes ∧ ((pre.map (·.1)).foldl HSt.next b).cubes ≤ 1000000000000 * ((n + pre.length : Nat) : Int) by
    have := h pre ⟨0, 0⟩ 0 ⟨rfl, by simp, by simp⟩
    rw [Nat.zero_add] at this
    exact this
  intro pre
  induction pre with
  | nil => intro b n h; exact h
  | cons x r ih =>
    intro b n h
    have hx := div30_bd (wins_bd hv x.2.2.2)
    have q := cube_bd hx.1 (by omega)
    have := ih (b.next x.1) (n + 1) (by
      unfold HSt.next cubI
      have q2 := cube_mono (a := x.1.2.tdiv 30) (b := 10000) hx.1 hx.2
      generalize x.1.2.tdiv 30 * x.1.2.tdiv 30 * x.1.2.tdiv 30 = c at *
      simp only
      omega)
    rw [List.map_cons, List.foldl_cons, List.length_cons, show n + (r.length + 1) = n + 1 + r.length by omega]
    exact this
end Go.Proofs.Ytmfnphknoclhfaa
