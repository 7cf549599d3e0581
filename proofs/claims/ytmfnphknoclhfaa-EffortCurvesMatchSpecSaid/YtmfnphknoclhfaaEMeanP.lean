/- The means of windows, purely: what storing the mean of each window gives. -/
import Derived.Test.YtmfnphknoclhfaaFHardW
import Derived.Test.YtmfnphknoclhfaaEZoneP
namespace Go.Proofs.Ytmfnphknoclhfaa
open Go.RowKit

def meanNext (sz : Nat) (F : Nat → Int) (p : Nat × Int) : Nat → Int := upI F (p.1 + sz - 1) (p.2.tdiv sz)
def meanF (l : List Int) (sz : Nat) (n : Nat) : Nat → Int := (wins l sz n).foldl (meanNext sz) (fun _ => -1)
theorem meanF_is {l : List Int} {sz : Nat} (h1 : 1 ≤ sz) : ∀ (n j : Nat), meanF l sz n j = if j < n then smV l sz j else -1
  | 0, j => by simp [meanF, wins]
  | n + 1, j => by
    have ih := meanF_is (l := l) h1 n j
    have e := sm_wst (l := l) h1 n
    unfold meanF at ih ⊢
    rw [wins]
    by_cases h : (wst l sz (n + 1)).known = sz
    · rw [if_pos h] at e ⊢
      have hk : sz ≤ n + 1 := by rw [← h]; exact (wok l h1 (n + 1)).ki
      rw [List.foldl_append, List.foldl_cons, List.foldl_nil]
      show upI _ _ _ j = _
      simp only
      rw [show n + 1 - sz + sz - 1 = n by omega]
      unfold upI
      by_cases hj : j = n
      · subst hj; rw [if_pos rfl, if_pos (by omega), e]
      · rw [if_neg hj, ih]
        by_cases h2 : j < n
        · rw [if_pos h2, if_pos (by omega)]
        · rw [if_neg h2, if_neg (by omega)]
    · rw [if_neg h] at e ⊢
      rw [ih]
      by_cases hj : j = n
      · subst hj; rw [if_neg (by omega), if_pos (by omega), e]
      · by_cases h2 : j < n
        · rw [if_pos h2, if_pos (by omega)]
        · rw [if_neg h2, if_neg (by omega)]
def foldM (l : List Int) (sz : Nat) (pre : List (WinNo l sz)) : Nat → Int := (pre.map (·.1)).foldl (meanNext sz) (fun _ => -1)
theorem foldM_snoc (l : List Int) (sz : Nat) (pre : List (WinNo l sz)) (x : WinNo l sz) : foldM l sz (pre ++ [x]) = meanNext sz (foldM l sz pre) x.1 := by simp [foldM]
theorem foldM_end {l : List Int} {sz : Nat} (h1 : 1 ≤ sz) {ys : List (WinNo l sz)} (h : ys.map (·.1) = wins l sz l.length) (j : Nat) (hj : j < l.length) : foldM l sz ys j = smV l sz j := by
  unfold foldM; rw [h]
  have := meanF_is (l := l) h1 l.length j
  unfold meanF at this
  rw [this, if_pos hj]

end Go.Proofs.Ytmfnphknoclhfaa
