/- Insertion, purely: what is in order while one element goes down. -/
import Derived.Test.YtfgemdfloeknfaaQRefZone
import Derived.Test.YtfgemdfloeknfaaQThere
namespace Go.Proofs.Ytfgemdfloeknfaa
open Go.RowKit

def at0 (ys : List Int) (a : Nat) : Int := ys[a]?.getD 0

structure InsInv (ys : List Int) (i k : Nat) : Prop where
  others : ∀ a b, a < b → b ≤ i → a ≠ k → b ≠ k → at0 ys a ≤ at0 ys b
  this : ∀ b, k < b → b ≤ i → at0 ys k ≤ at0 ys b

def Upto (ys : List Int) (i : Nat) : Prop := ∀ a b, a < b → b < i → at0 ys a ≤ at0 ys b

theorem ins_start {ys : List Int} {i : Nat} (h : Upto ys i) : InsInv ys i i :=
  ⟨fun a b h1 h2 _ h4 => h a b h1 (by omega), fun b h1 h2 => by omega⟩
theorem ins_end {ys : List Int} {i k : Nat} (h : InsInv ys i k) (hk : k ≤ i) (he : k = 0 ∨ ¬ at0 ys k < at0 ys (k - 1)) : Upto ys (i + 1) := by
  intro a b h1 h2
  by_cases ha : a = k
  · subst ha; exact h.this b h1 (by omega)
  · by_cases hb : b = k
    · subst hb
      rcases he with he | he
      · omega
      · by_cases ha2 : a = b - 1
        · subst ha2; omega
        · have := h.others a (b - 1) (by omega) (by omega) ha (by omega)
          omega
    · exact h.others a b h1 (by omega) ha hb

def swap (ys : List Int) (k : Nat) : List Int := (ys.set (k + 1) (at0 ys k)).set k (at0 ys (k + 1))

theorem at0_swap {ys : List Int} {k : Nat} (hk : k + 1 < ys.length) (a : Nat) : at0 (swap ys k) a = if a = k then at0 ys (k + 1) else if a = k + 1 then at0 ys k else at0 ys a := by
  unfold swap
  by_cases h1 : a = k
  · subst h1
    rw [if_pos rfl]
    simp [at0, show a < ys.length by omega]
  · rw [if_neg h1]
    by_cases h2 : a = k + 1
    · subst h2
      rw [if_pos rfl]
      simp [at0, hk]
    · rw [if_neg h2]
      simp [at0, Ne.symm h1, Ne.symm h2]

theorem ins_step {ys : List Int} {i k : Nat} (h : InsInv ys i (k + 1)) (hk : k + 1 ≤ i) (hi : i < ys.length) (hlt : at0 ys (k + 1) < at0 ys k) : InsInv (swap ys k) i k := by
  have e := at0_swap (ys := ys) (k := k) (by omega)
  refine ⟨fun a b h1 h2 h3 h4 => ?_, fun b h1 h2 => ?_⟩
  · rw [e a, e b, if_neg h3, if_neg h4]
    by_cases ha : a = k + 1
    · rw [if_pos ha, if_neg (by omega)]
      exact h.others k b (by omega) h2 (by omega) (by omega)
    · rw [if_neg ha]
      by_cases hb : b = k + 1
      · rw [if_pos hb]
        exact h.others a k (by omega) (by omega) (by omega) (by omega)
      · rw [if_neg hb]
        exact h.others a b h1 h2 ha hb
  · rw [e k, e b, if_pos rfl, if_neg (by omega)]
    by_cases hb : b = k + 1
    · rw [if_pos hb]; omega
    · rw [if_neg hb]
      exact h.this b (by omega) h2

theorem swap_perm (ys : List Int) (k : Nat) (hk : k + 1 < ys.length) : (swap ys k).Perm ys := by
  have h := Array.swap_perm (xs := ys.toArray) (i := k + 1) (j := k) (by simpa using hk) (by simp; omega)
  rw [Array.perm_iff_toList_perm] at h
  simpa [Array.toList_swap, swap, at0, List.getElem?_eq_getElem hk, List.getElem?_eq_getElem (show k < ys.length by omega)] using h

theorem swap_len (ys : List Int) (k : Nat) : (swap ys k).length = ys.length := by simp [swap]

theorem upto_sorted {ys : List Int} (h : Upto ys ys.length) : ys.Pairwise (· ≤ ·) := by
  rw [List.pairwise_iff_getElem]
  intro a b ha hb hab
  have := h a b hab hb
  simpa [at0, List.getElem?_eq_getElem ha, List.getElem?_eq_getElem hb] using this
end Go.Proofs.Ytfgemdfloeknfaa
