/- A store that is emptied and filled, purely: no program. -/
import Derived.Test.YtdihmcbjoociiaaFRow
namespace Go.Proofs.Ytdihmcbjoociiaa
open Go.RowKit

/-- What is left behind a second. -/
def balF (power work left x : Int) : Int := if power < x then left - (x - power) else min work (left + ((power - max x 0) * (work - left)) / work)
def blN (l : List Int) (power work : Int) : Nat → Int
  | 0 => work
  | k + 1 => balF power work (blN l power work k) (nthI l k)
structure BalOk (l : List Int) (power work : Int) : Prop where
  len : (l.length : Int) ≤ 1000000
  each : ∀ k, k < l.length → -1 ≤ nthI l k ∧ nthI l k ≤ 10000
  p : 1 ≤ power ∧ power ≤ 10000
  w : 1 ≤ work ∧ work ≤ 1000000
theorem fill_bd {power work left m : Int} (hp : power ≤ 10000) (hm0 : 0 ≤ m) (hm : m ≤ power) (hl : left ≤ work) (hl2 : work - left ≤ 20000000000) (hw : 1 ≤ work) : 0 ≤ (power - m) * (work - left) ∧ (power - m) * (work - left) ≤ 200000000000000 := by
  refine ⟨Int.mul_nonneg (by omega) (by omega), ?_⟩
  have h1 : (power - m) * (work - left) ≤ 10000 * (work - left) := Int.mul_le_mul_of_nonneg_right (by omega) (by omega)
  have h2 : 10000 * (work - left) ≤ 200000000000000 := by omega
  omega
theorem blN_bd {l : List Int} {power work : Int} (h : BalOk l power work) : ∀ k, k ≤ l.length → blN l power work k ≤ work ∧ work - 10000 * k ≤ blN l power work k
  | 0, _ => ⟨Int.le_refl _, by simp [blN]⟩
  | k + 1, hk => by
    obtain ⟨a, b⟩ := blN_bd h k (by omega)
    have hx := h.each k (by omega)
    have hp := h.p
    have hw := h.w
    have hk2 := h.len
    rw [blN]
    generalize blN l power work k = left at *
    generalize nthI l k = x at *
    unfold balF
    split
    · omega
    · have hf := fill_bd (m := max x 0) (left := left) (work := work) hp.2 (by omega) (by omega) a (by omega) hw.1
      have h0 : 0 ≤ (power - max x 0) * (work - left) / work := Int.ediv_nonneg hf.1 (by omega)
      generalize (power - max x 0) * (work - left) / work = D at *
      omega

/-- What is wrong with a stream, and the numbers of a store. -/
def balE (l : List Int) (power work : Int) : Int :=
  if streamE l = 0 then (if eachE (-1) 10000 l = 0 then (if (1 ≤ power ∧ power ≤ 10000) ∧ 1 ≤ work ∧ work ≤ 1000000 then 0 else 9) else 9) else streamE l
def balN (l : List Int) (power work : Int) : Nat := if balE l power work = 0 then l.length else 0
theorem bal_ok {l : List Int} {power work : Int} (h : balE l power work = 0) : BalOk l power work := by
  unfold balE at h
  split at h
  · rename_i h1
    split at h
    · rename_i h2
      split at h
      · rename_i h3
        exact ⟨(stream_ok h1).1, fun k hk => each_nth h2 hk, h3.1, h3.2⟩
      · omega
    · omega
  · rename_i h1; exact absurd h h1
theorem balN_le (l : List Int) (power work : Int) : balN l power work ≤ 1000000 := by
  unfold balN
  split
  · rename_i h; have := (bal_ok h).len; omega
  · omega
theorem balN_not {l : List Int} {power work E : Int} (h : balE l power work = E) (hE : E ≠ 0) : balN l power work = 0 := by
  unfold balN; rw [if_neg (by rw [h]; exact hE)]
theorem balN_ok {l : List Int} {power work : Int} (h : balE l power work = 0) : balN l power work = l.length := by
  unfold balN; rw [if_pos h]

/-- The first place of which something is so; behind the end if there is none. -/
structure FirstAt (p : Int → Bool) (l : List Int) (k : Nat) : Prop where
  le : k ≤ l.length
  no : ∀ j, j < k → p (nthI l j) = false
  yes : k < l.length → p (nthI l k) = true
theorem first_some (p : Int → Bool) (l : List Int) : ∃ k, FirstAt p l k := by
  have gen : ∀ n, n ≤ l.length → (∀ j, j < n → p (nthI l j) = false) ∨ ∃ k, k < n ∧ p (nthI l k) = true ∧ ∀ j, j < k → p (nthI l j) = false := by
    intro n
    induction n with
    | zero => intro _; exact .inl fun j hj => absurd hj (Nat.not_lt_zero _)
    | succ n ih =>
      intro hn
      rcases ih (by omega) with h | ⟨k, h1, h2, h3⟩
      · cases hp : p (nthI l n) with
        | false =>
          left
          intro j hj
          rcases Nat.lt_or_ge j n with q | q
          · exact h j q
          · obtain rfl : j = n := by omega
            exact hp
        | true => exact .inr ⟨n, by omega, hp, h⟩
      · exact .inr ⟨k, by omega, h2, h3⟩
  rcases gen l.length (Nat.le_refl _) with h | ⟨k, h1, h2, h3⟩
  · exact ⟨l.length, Nat.le_refl _, h, fun h => absurd h (by omega)⟩
  · exact ⟨k, by omega, h3, fun _ => h2⟩
/-- What IndexFunc returns. -/
def idxV (l : List Int) (k : Nat) : Int := if k < l.length then k else -1
theorem FInts.toInts {w : World} {ao : Option Addr} {n : Nat} {F : Nat → Int} (h : FInts w ao n F) : IntsAt w ao ((List.range n).map F) := by
  refine ⟨fun e => ?_, fun a ha hne => ?_, fun a ha i hi => ?_⟩
  · rcases Nat.eq_zero_or_pos n with h0 | h0
    · subst h0; rfl
    · obtain ⟨g, e', _⟩ := h 0 h0
      rw [e] at e'; cases e'
  · have h0 : 0 < n := by
      rcases Nat.eq_zero_or_pos n with h0 | h0
      · subst h0; simp at hne
      · exact h0
    obtain ⟨g, e', _⟩ := h 0 h0
    rw [ha] at e'; cases e'; rfl
  · have hi' : i < n := by simpa using hi
    obtain ⟨g, e', c⟩ := h i hi'
    rw [ha] at e'; cases e'
    have : nthI ((List.range n).map F) i = F i := by unfold nthI; rw [List.getD_eq_getElem?_getD]; simp [hi']
    rw [this]
    simpa using c

end Go.Proofs.Ytdihmcbjoociiaa
