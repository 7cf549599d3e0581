/- Books of loads, purely. -/
import Derived.Test.YteaifonpkdjkcaaFPure
namespace Go.Proofs.Yteaifonpkdjkcaa
set_option linter.unusedSimpArgs false
set_option linter.unusedVariables false

/-- What lies in a row at a place; 0 beside it. -/
def ldA (L : List Int) (i : Int) : Int := if 0 ≤ i then L.getD i.toNat 0 else 0
theorem ldA_at {L : List Int} {k : Nat} (h : k < L.length) : ldA L (k : Int) = L[k] := by
  unfold ldA
  rw [if_pos (by omega), Int.toNat_natCast, List.getD_eq_getElem?_getD, List.getElem?_eq_getElem h]; rfl
theorem ldA_out {L : List Int} {i : Int} (h : i < 0 ∨ (L.length : Int) ≤ i) : ldA L i = 0 := by
  unfold ldA
  split
  · rw [List.getD_eq_getElem?_getD, List.getElem?_eq_none (by omega)]; rfl
  · rfl
def BdA (L : List Int) : Prop := ∀ x ∈ L, 0 ≤ x ∧ x ≤ 10000
theorem ldA_bd {L : List Int} (h : BdA L) (i : Int) : 0 ≤ ldA L i ∧ ldA L i ≤ 10000 := by
  by_cases h0 : i < 0 ∨ (L.length : Int) ≤ i
  · rw [ldA_out h0]; omega
  · obtain ⟨k, rfl⟩ : ∃ k : Nat, i = (k : Int) := ⟨i.toNat, by omega⟩
    have hk : k < L.length := by omega
    rw [ldA_at hk]
    exact h _ (List.getElem_mem hk)
theorem ldA_pad (L : List Int) (n : Nat) (i : Int) : ldA (L ++ List.replicate n 0) i = ldA L i := by
  unfold ldA
  split
  · rw [List.getD_eq_getElem?_getD, List.getD_eq_getElem?_getD]
    by_cases h : i.toNat < L.length
    · rw [List.getElem?_append_left h]
    · rw [List.getElem?_append_right (by omega), List.getElem?_replicate, List.getElem?_eq_none (l := L) (by omega)]
      split <;> rfl
  · rfl
/-- The row with a load at a place. -/
def setA (L : List Int) (i : Nat) (v : Int) : List Int := (L ++ List.replicate (i + 1 - L.length) 0).set i v
theorem setA_len (L : List Int) (i : Nat) (v : Int) : (setA L i v).length = L.length + (i + 1 - L.length) := by simp [setA]
theorem ldA_setA (L : List Int) (i : Nat) (v : Int) (j : Int) : ldA (setA L i v) j = if j = (i : Int) then v else ldA L j := by
  have hl : i < (L ++ List.replicate (i + 1 - L.length) (0 : Int)).length := by simp; omega
  by_cases hj : j = (i : Int)
  · rw [if_pos hj, hj]
    unfold setA
    rw [ldA_at (by simpa using hl)]
    simp
  · rw [if_neg hj, ← ldA_pad L (i + 1 - L.length) j]
    unfold setA
    generalize L ++ List.replicate (i + 1 - L.length) (0 : Int) = M at *
    unfold ldA
    split
    · rw [List.getD_eq_getElem?_getD, List.getD_eq_getElem?_getD, List.getElem?_set_ne (by omega)]
    · rfl
theorem setA_bd {L : List Int} (h : BdA L) (i : Nat) {v : Int} (hv : 0 ≤ v ∧ v ≤ 10000) : BdA (setA L i v) := fun x hx => by
  unfold setA at hx
  rcases List.mem_or_eq_of_mem_set hx with h1 | rfl
  · rcases List.mem_append.1 h1 with h2 | h2
    · exact h x h2
    · obtain ⟨_, rfl⟩ := List.mem_replicate.1 h2
      omega
  · exact hv

/-- States of a row of days. -/
structure StV where
  d : Int
  l : Int
  f : Int
  g : Int
  m : Int
def fitK (F : Int → Int) (first c s : Int) : Nat → Int
  | 0 => s
  | k + 1 => stepF (fitK F first c s k) (F (first + k)) c
theorem fitK_bd {F : Int → Int} {first c s : Int} (hs : 0 ≤ s ∧ s ≤ 10000000) (hF : ∀ d, 0 ≤ F d ∧ F d ≤ 10000) (hc : 1 ≤ c) : ∀ k, 0 ≤ fitK F first c s k ∧ fitK F first c s k ≤ 10000000
  | 0 => hs
  | k + 1 => stepF_bd (fitK_bd hs hF hc k) (hF _) hc
def stV (F : Int → Int) (first f0 g0 : Int) (k : Nat) : StV := ⟨first + k, F (first + k), fitK F first 42 f0 (k + 1), fitK F first 7 g0 (k + 1), fitK F first 42 f0 k - fitK F first 7 g0 k⟩
/-- The states of the first k days, from the m-th on. -/
def stL (F : Int → Int) (first f0 g0 : Int) (m k : Nat) : List StV := ((List.range k).drop m).map (stV F first f0 g0)
theorem stL_zero (F : Int → Int) (first f0 g0 : Int) (m : Nat) : stL F first f0 g0 m 0 = [] := by simp [stL]
theorem stL_len (F : Int → Int) (first f0 g0 : Int) (m k : Nat) : (stL F first f0 g0 m k).length = k - m := by simp [stL]
theorem stL_in (F : Int → Int) (first f0 g0 : Int) {m k : Nat} (h : m ≤ k) : stL F first f0 g0 m (k + 1) = stL F first f0 g0 m k ++ [stV F first f0 g0 k] := by
  unfold stL
  rw [List.range_succ, List.drop_append_of_le_length (by simpa using h), List.map_append]; rfl
theorem stL_out (F : Int → Int) (first f0 g0 : Int) {m k : Nat} (h : k < m) : stL F first f0 g0 m (k + 1) = stL F first f0 g0 m k := by
  unfold stL
  rw [List.drop_of_length_le (by simp; omega), List.drop_of_length_le (by simp; omega)]
theorem stL_one (F : Int → Int) (first f0 g0 : Int) (m : Nat) : stL F first f0 g0 m (m + 1) = [stV F first f0 g0 m] := by
  rw [stL_in _ _ _ _ (Nat.le_refl m)]
  have : stL F first f0 g0 m m = [] := List.eq_nil_of_length_eq_zero (by rw [stL_len]; omega)
  rw [this]; rfl
/-- A book has such a day. -/
def HasD (first d : Int) : Prop := first ≤ d ∧ d ≤ min (first + 4999) 999999
instance (first d : Int) : Decidable (HasD first d) := by unfold HasD; exact inferInstance
/-- What is wrong with days. -/
def betE (first a b : Int) : Int := if HasD first a ∧ HasD first b then if b < a then 10 else 0 else 9
/-- What is wrong with adding to, or taking from, a load. -/
def addE (first : Int) (F : Int → Int) (d n : Int) : Int := if HasD first d then if 0 ≤ n ∧ n ≤ 10000 then if 10000 < F d + n then 3 else 0 else 9 else 9
def takeE (first : Int) (F : Int → Int) (d n : Int) : Int := if HasD first d then if 0 ≤ n ∧ n ≤ 10000 then if F d - n < 0 then 4 else 0 else 9 else 9
end Go.Proofs.Yteaifonpkdjkcaa
