/- The windows of a stream, by the sums of what is known, purely: for the reference's best and Least. -/
import Derived.Test.YtmfnphknoclhfaaFHardW
namespace Go.Proofs.Ytmfnphknoclhfaa
open Go.RowKit

/-- Is the window that ends with a second known? -/
theorem win_at {l : List Int} {sz : Nat} (h1 : 1 ≤ sz) (k : Nat) : ((wst l sz (k + 1)).known = sz ↔ sz ≤ k + 1 ∧ suN l (k + 1) = suN l (k + 1 - sz)) ∧ ((wst l sz (k + 1)).known = sz → (wst l sz (k + 1)).sum = svN l (k + 1) - svN l (k + 1 - sz)) := by
  have w := wok l h1 (k + 1)
  generalize wst l sz (k + 1) = s at *
  obtain ⟨kn, sm⟩ := s
  obtain ⟨ki, ks, pos, sum, far⟩ := w
  simp only at ki ks pos sum far ⊢
  by_cases h : kn = sz
  · subst h
    have q := su_stay (l := l) (k + 1 - kn) kn (fun j a b => pos j a (by omega))
    rw [show k + 1 - kn + kn = k + 1 by omega] at q
    exact ⟨⟨fun _ => ⟨ki, q.1⟩, fun _ => rfl⟩, fun _ => by rw [sum, q.2]⟩
  · refine ⟨⟨fun e => absurd e h, fun ⟨hk, e⟩ => ?_⟩, fun e => absurd e h⟩
    rcases far with f | f | f
    · exact f
    · omega
    · exact absurd e (su_miss (by omega) (by omega) f)
/-- The windows that end not behind a second, one more. -/
theorem wins_step {l : List Int} {sz : Nat} (h1 : 1 ≤ sz) (a : Nat) : wins l sz (a + sz) = if suN l (a + sz) = suN l a then wins l sz (a + sz - 1) ++ [(a, svN l (a + sz) - svN l a)] else wins l sz (a + sz - 1) := by
  obtain ⟨k, hk⟩ : ∃ k, a + sz = k + 1 := ⟨a + sz - 1, by omega⟩
  have w := win_at (l := l) h1 k
  rw [hk, Nat.add_sub_cancel, wins]
  rw [show k + 1 - sz = a by omega] at w ⊢
  by_cases h : suN l (k + 1) = suN l a
  · have h2 := w.1.2 ⟨by omega, h⟩
    rw [if_pos h2, if_pos h, w.2 h2]
  · rw [if_neg (fun h2 => h (w.1.1 h2).2), if_neg h]
theorem wins_few {l : List Int} {sz : Nat} (h1 : 1 ≤ sz) : ∀ k, k < sz → wins l sz k = []
  | 0, _ => rfl
  | k + 1, h => by
    have w := win_at (l := l) h1 k
    rw [wins, if_neg (fun h2 => by have := (w.1.1 h2).1; omega)]
    exact wins_few h1 k (by omega)
/-- The best of the windows that begin ahead of a place. -/
def bestA (l : List Int) (sz : Nat) : Nat → BSt
  | 0 => ⟨0, 0, false⟩
  | a + 1 => if suN l (a + sz) = suN l a then (bestA l sz a).next (a, svN l (a + sz) - svN l a) else bestA l sz a
theorem bestA_is {l : List Int} {sz : Nat} (h1 : 1 ≤ sz) : ∀ a, bestA l sz a = (wins l sz (a + sz - 1)).foldl BSt.next ⟨0, 0, false⟩
  | 0 => by rw [Nat.zero_add, wins_few h1 _ (by omega)]; rfl
  | a + 1 => by
    rw [bestA, bestA_is h1 a, show a + 1 + sz - 1 = a + sz by omega, wins_step h1 a]
    by_cases h : suN l (a + sz) = suN l a
    · rw [if_pos h, if_pos h, List.foldl_append]; rfl
    · rw [if_neg h, if_neg h]
/-- At the end it is the best of all. -/
theorem bestA_end {l : List Int} {sz : Nat} (h1 : 1 ≤ sz) : bestA l sz (l.length + 1 - sz) = bestL l sz := by
  unfold bestL
  by_cases h : sz ≤ l.length
  · rw [bestA_is h1, show l.length + 1 - sz + sz - 1 = l.length by omega]
  · rw [show l.length + 1 - sz = 0 by omega, wins_few h1 _ (by omega)]; rfl
end Go.Proofs.Ytmfnphknoclhfaa
