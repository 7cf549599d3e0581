/- What is known of a list of numbers: the reference's. -/
import Derived.Test.YtmfnphknoclhfaaESpan
namespace Go.Proofs.Ytmfnphknoclhfaa
open Go.RowKit

def knS : List Int → Int
  | [] => 0
  | x :: r => (if 0 ≤ x then x else 0) + knS r
def knK : List Int → Int
  | [] => 0
  | x :: r => (if 0 ≤ x then 1 else 0) + knK r
theorem knS_end {l : List Int} {k : Nat} (h : l.length ≤ k) : knS (l.drop k) = 0 := by rw [List.drop_eq_nil_of_le h]; rfl
theorem knK_end {l : List Int} {k : Nat} (h : l.length ≤ k) : knK (l.drop k) = 0 := by rw [List.drop_eq_nil_of_le h]; rfl

set_option maxHeartbeats 1600000 in
theorem known_any (ao : Option Addr) (cap : Nat) (l : List Int) (hl : l.length ≤ 1000000) (hb : ∀ x ∈ l, -1 ≤ x ∧ x ≤ 300000000) (w : World) (hs : IntsAt w ao l) :
    Calls Try.prog 159 #[.slice ao l.length cap] w fun e w' => e = .returned (.tuple #[.int .i64 (knS l), .int .i64 (knK l)]) ∧ w.grownBy w' none := by
  have HS := Lib.hid hs; have HB := Lib.hid hb
  obtain ⟨S, hS⟩ : ∃ S, knS l = S := ⟨_, rfl⟩
  obtain ⟨K, hK⟩ : ∃ K, knK l = K := ⟨_, rfl⟩
  rw [hS, hK]
  have HW0 : Hid (0 + knS (l.drop 0) = S ∧ 0 + knK (l.drop 0) = K) := ⟨by rw [← hS]; simp, by rw [← hK]; simp⟩
  clear hs hb hS hK
  go_enter Try.func159, Try.ntmps159
  go_wp2
  go_loopw [2, 3, 8] (fun sv mv iv wr => ∃ (k : Nat) (s m : Int), sv = .int .i64 s ∧ mv = .int .i64 m ∧ iv = .int .i64 k ∧ k ≤ l.length ∧ Hid (w.grownBy wr none) ∧ 0 ≤ s ∧ s ≤ k * 300000000 ∧ 0 ≤ m ∧ m ≤ k ∧ Hid (s + knS (l.drop k) = S ∧ m + knK (l.drop k) = K))
    (fun _ _ iv _ => l.length - (intOf iv).toNat)
  case atStart => exact ⟨0, 0, 0, rfl, rfl, rfl, Nat.zero_le _, grown_refl _ _, by omega, by omega, by omega, by omega, HW0.out⟩
  case round =>
    obtain ⟨k, s, m, rfl, rfl, rfl, hk, hg, s0, s1, m0, m1, hw⟩ := hrel
    by_cases hlt : k < l.length
    · obtain ⟨b, off, rfl, hc⟩ := HS.out.at (by omega)
      have c0 := grown_cell hg.out (hc k hlt)
      have hx := HB.out (nthI l k) (by rw [nthI_at hlt]; exact List.getElem_mem hlt)
      have hw2 := hw.out
      rw [nthI_drop hlt, knS, knK] at hw2
      have HW2 := Lib.hid hw2
      clear hw hw2 hc
      generalize nthI l k = x at *
      by_cases h0 : 0 ≤ x
      · have HW3 : Hid ((s + x) + knS (l.drop (k + 1)) = S ∧ (m + 1) + knK (l.drop (k + 1)) = K) := by
          have := HW2.out; rw [if_pos h0, if_pos h0] at this; exact ⟨by omega, by omega⟩
        clear HW2
        go_wp2
        go_roundw
        case rel =>
          refine ⟨k + 1, s + x, m + 1, ?_, ?_, by go_num, by omega, hg.out, by omega, by omega, by omega, by omega, HW3.out⟩ <;> go_num
        case measure => simp [intOf]; omega
      · have HW3 : Hid (s + knS (l.drop (k + 1)) = S ∧ m + knK (l.drop (k + 1)) = K) := by
          have := HW2.out; rw [if_neg h0, if_neg h0] at this; exact ⟨by omega, by omega⟩
        clear HW2
        go_wp2
        go_roundw
        case rel => exact ⟨k + 1, s, m, rfl, rfl, by go_num, by omega, hg.out, by omega, by omega, by omega, by omega, HW3.out⟩
        case measure => simp [intOf]; omega
    · have hf := hw.out
      rw [knS_end (by omega), knK_end (by omega)] at hf
      have h1 : s = S := by omega
      have h2 : m = K := by omega
      subst h1 h2
      go_wp2
      go_ret2
      exact ⟨rfl, hg.out⟩
end Go.Proofs.Ytmfnphknoclhfaa
