/- For all numbers of moderate size, a quotient that is rounded is nearer than 1 to the exact one, on the side that is told, and the same whether numbers or their multiples are divided. No condition beside the parameters' types. -/
import Derived.Test.YtfgemdfloeknfaaQTold
import Derived.Test.YtfgemdfloeknfaaQNear
import Derived.Test.YtfgemdfloeknfaaRows
import Derived.ProofKit
import Derived.OpenShut
namespace Go.Proofs.Ytfgemdfloeknfaa
open Go.ChangeShapes Go.WideShapes Go.ChangeAt Go.RowKit

theorem qdiv_any (a b how : Int) (ha0 : -9223372036854775808 ≤ a) (ha1 : a ≤ 9223372036854775807) (hb0 : -9223372036854775808 ≤ b) (hb1 : b ≤ 9223372036854775807) (w : World) {n e : Int} (h : Hid (scaleV a 1 b how = (n, e))) :
    Calls Try.prog 10 #[.int .i64 a, .int .i64 b, .int .i64 how] w fun x w' => x = .returned (.tuple #[.int .i64 n, .int .i64 e]) ∧ w.grownBy w' none := by
  go_enter Try.func10, Try.ntmps10
  go_wp2_with (go_at_call 12; refine (scale_is h.out ha0 ha1 (by omega) (by omega) hb0 hb1 _).mono ?_; rintro e w1 ⟨rfl, hg1⟩)
  go_ret2
  exact ⟨rfl, by assumption⟩

theorem near_scale (a b k how n : Int) (h1 : 1 ≤ how) (h5 : how ≤ 5) (ha0 : -1000000000 ≤ a) (ha1 : a ≤ 1000000000) (hb0 : 1 ≤ b) (hb1 : b ≤ 1000000000) (hk0 : 1 ≤ k) (_hk1 : k ≤ 1000) (hn : rndV how a b = n) :
    scaleV a 1 b how = (n, 0) ∧ scaleV (k * a) 1 (k * b) how = (n, 0) ∧ scaleV a k (k * b) how = (n, 0) ∧ -1000000001 ≤ n ∧ n ≤ 1000000001 := by
  have hkb : 1 ≤ k * b := by
    have := Int.mul_le_mul hk0 hb0 (by omega) (by omega); omega
  have hnb : -1000000001 ≤ n ∧ n ≤ 1000000001 := by
    have := rnd_near how a b
    have h3 : a / b ≤ 1000000000 := by
      rcases (show a < 0 ∨ 0 ≤ a by omega) with h | h
      · have := Int.ediv_neg_of_neg_of_pos h (show 0 < b by omega); omega
      · have := Int.ediv_le_self b h; omega
    have h4 : -1000000000 ≤ a / b := by
      rw [Int.le_ediv_iff_mul_le (by omega)]
      have : (-1000000000) * b ≤ -1000000000 := by omega
      omega
    omega
  refine ⟨?_, ?_, ?_, hnb⟩
  · unfold scaleV; rw [if_neg (by omega), if_neg (by omega), Int.mul_one, hn, if_neg (by unfold big; omega)]
  · unfold scaleV; rw [if_neg (by omega), if_neg (by omega), Int.mul_one, rnd_mul how a b k h1 h5 hb0 hk0, hn, if_neg (by unfold big; omega)]
  · unfold scaleV; rw [if_neg (by omega), if_neg (by omega), Int.mul_comm a k, rnd_mul how a b k h1 h5 hb0 hk0, hn, if_neg (by unfold big; omega)]

theorem prod_bd (x y : Int) (B C : Nat) (hx0 : -B ≤ x) (hx1 : x ≤ B) (hy0 : 0 ≤ y) (hy1 : y ≤ C) : -((B * C : Nat) : Int) ≤ x * y ∧ x * y ≤ ((B * C : Nat) : Int) := by
  have h1 : x * y ≤ (B : Int) * y := Int.mul_le_mul_of_nonneg_right hx1 hy0
  have h2 : (-(B : Int)) * y ≤ x * y := Int.mul_le_mul_of_nonneg_right hx0 hy0
  have h3 : (B : Int) * y ≤ (B : Int) * C := Int.mul_le_mul_of_nonneg_left hy1 (by omega)
  rw [Int.neg_mul] at h2
  push_cast
  omega

set_option maxRecDepth 100000 in
set_option maxHeartbeats 3200000 in
theorem near_walk (a b k how : Int) (ha0 : -9223372036854775808 ≤ a) (ha1 : a ≤ 9223372036854775807) (hb0 : -9223372036854775808 ≤ b) (hb1 : b ≤ 9223372036854775807) (hk0 : -9223372036854775808 ≤ k) (hk1 : k ≤ 9223372036854775807) (_hh0 : -9223372036854775808 ≤ how) (_hh1 : how ≤ 9223372036854775807) (w : World) :
    Calls Try.prog 4 #[.int .i64 a, .int .i64 b, .int .i64 k, .int .i64 how] w fun x w' => x = .returned (.bool true) ∧ w.grownBy w' none := by
  by_cases c1 : a < -1000000000
  · go_enter Try.func4, Try.ntmps4
    go_wp2_with (go_at_call 16; refine (told_any _).mono ?_; rintro e w1 ⟨rfl, hg1⟩)
    go_ret
    exact ⟨rfl, by assumption⟩
  by_cases c2 : 1000000000 < a
  · go_enter Try.func4, Try.ntmps4
    go_wp2_with (go_at_call 16; refine (told_any _).mono ?_; rintro e w1 ⟨rfl, hg1⟩)
    go_ret
    exact ⟨rfl, by assumption⟩
  by_cases c3 : b < 1
  · go_enter Try.func4, Try.ntmps4
    go_wp2_with (go_at_call 16; refine (told_any _).mono ?_; rintro e w1 ⟨rfl, hg1⟩)
    go_ret
    exact ⟨rfl, by assumption⟩
  by_cases c4 : 1000000000 < b
  · go_enter Try.func4, Try.ntmps4
    go_wp2_with (go_at_call 16; refine (told_any _).mono ?_; rintro e w1 ⟨rfl, hg1⟩)
    go_ret
    exact ⟨rfl, by assumption⟩
  by_cases c5 : k < 1
  · go_enter Try.func4, Try.ntmps4
    go_wp2_with (go_at_call 16; refine (told_any _).mono ?_; rintro e w1 ⟨rfl, hg1⟩)
    go_ret
    exact ⟨rfl, by assumption⟩
  by_cases c6 : 1000 < k
  · go_enter Try.func4, Try.ntmps4
    go_wp2_with (go_at_call 16; refine (told_any _).mono ?_; rintro e w1 ⟨rfl, hg1⟩)
    go_ret
    exact ⟨rfl, by assumption⟩
  have hka := prod_bd a k 1000000000 1000 (by omega) (by omega) (by omega) (by omega)
  have hkb := prod_bd b k 1000000000 1000 (by omega) (by omega) (by omega) (by omega)
  obtain ⟨KA, hKA⟩ : ∃ x, k * a = x := ⟨_, rfl⟩
  obtain ⟨KB, hKB⟩ : ∃ x, k * b = x := ⟨_, rfl⟩
  rw [Int.mul_comm, hKA] at hka
  rw [Int.mul_comm, hKB] at hkb
  have hka0 : -1000000000000 ≤ KA := by omega
  have hka1 : KA ≤ 1000000000000 := by omega
  have hkb0 : -1000000000000 ≤ KB := by omega
  have hkb1 : KB ≤ 1000000000000 := by omega
  have eKA : IntKind.i64.wrap (k * a) = KA := by rw [hKA]; exact IntWalk.i64_in _ (by omega)
  have eKB : IntKind.i64.wrap (k * b) = KB := by rw [hKB]; exact IntWalk.i64_in _ (by omega)
  clear hka hkb
  by_cases hh : how < 1 ∨ 5 < how
  · have s1 : Hid (scaleV a 1 b how = (0, 7)) := by show _ = _; unfold scaleV; rw [if_pos hh]
    have s2 : Hid (scaleV KA 1 KB how = (0, 7)) := by show _ = _; unfold scaleV; rw [if_pos hh]
    have s3 : scaleV a k KB how = (0, 7) := by unfold scaleV; rw [if_pos hh]
    have S3 := Lib.hid s3; clear s3 hKA hKB
    rcases hh with hh | hh
    all_goals
      go_enter Try.func4, Try.ntmps4
      go_wp2_with fail
      refine (qdiv_any a b how (by omega) (by omega) (by omega) (by omega) _ s1).mono ?_; rintro e w1 ⟨rfl, hg1⟩
      go_wp2_with fail
      refine (qdiv_any KA KB how (by omega) (by omega) (by omega) (by omega) _ s2).mono ?_; rintro e w2 ⟨rfl, hg2⟩
      go_wp2_with fail
      refine (scale_is S3.out (by omega) (by omega) (by omega) (by omega) (by omega) (by omega) _).mono ?_; rintro e w3 ⟨rfl, hg3⟩
      go_wp2_with (go_at_call 16; refine (told_any _).mono ?_; rintro e w4 ⟨rfl, hg4⟩)
      go_ret
      exact ⟨rfl, grown_trans (grown_trans hg1 hg2) (grown_trans hg3 (by assumption))⟩
  · have hh1 : 1 ≤ how := by omega
    have hh5 : how ≤ 5 := by omega
    clear hh
    obtain ⟨n, hn⟩ : ∃ n, rndV how a b = n := ⟨_, rfl⟩
    have hs := near_scale a b k how n hh1 hh5 (by omega) (by omega) (by omega) (by omega) (by omega) (by omega) hn
    have hd := rnd_near' how a b hh1 hh5 (by omega)
    rw [hn] at hd
    rw [hKA, hKB] at hs
    obtain ⟨s1, s2, s3, hn0, hn1⟩ := hs
    obtain ⟨P, hP⟩ : ∃ P, n * b = P := ⟨_, rfl⟩
    rw [hP] at hd
    obtain ⟨D, hD⟩ : ∃ D, a - P = D := ⟨_, rfl⟩
    rw [hD] at hd
    obtain ⟨d1, d2, d3, d4, d5, d6⟩ := hd
    have hP0 : -2000000001 ≤ P := by omega
    have hP1 : P ≤ 2000000001 := by omega
    have eP : IntKind.i64.wrap (n * b) = P := by rw [hP]; exact IntWalk.i64_in _ (by omega)
    have hsg : how ≠ 3 ∨ D = 0 ∨ (0 < D ∧ 0 < a) ∨ (D < 0 ∧ a < 0) := by omega
    have h1 : how ≠ 1 ∨ 0 ≤ D := by omega
    have h2 : how ≠ 2 ∨ D ≤ 0 := by omega
    have h4 : how < 4 ∨ (2 * D ≤ b ∧ -b ≤ 2 * D) := by omega
    have S1 := Lib.hid s1; have S2 := Lib.hid s2; have S3 := Lib.hid s3
    clear s1 s2 s3 hKA hKB hn hP d3 d4 d5 d6
    rcases (show how = 1 ∨ how = 2 ∨ how = 3 ∨ how = 4 ∨ how = 5 by omega) with rfl | rfl | rfl | rfl | rfl
    · have h : 0 ≤ D := by omega
      clear hsg h1 h2 h4 hh1 hh5
      go_enter Try.func4, Try.ntmps4
      go_wp2_with fail
      refine (qdiv_any a b _ (by omega) (by omega) (by omega) (by omega) _ S1).mono ?_; rintro e w1 ⟨rfl, hg1⟩
      go_wp2_with fail
      refine (qdiv_any KA KB _ (by omega) (by omega) (by omega) (by omega) _ S2).mono ?_; rintro e w2 ⟨rfl, hg2⟩
      go_wp2_with fail
      refine (scale_is S3.out (by omega) (by omega) (by omega) (by omega) (by omega) (by omega) _).mono ?_; rintro e w3 ⟨rfl, hg3⟩
      go_wp2_with (go_at_call 16; refine (told_any _).mono ?_; rintro e w4 ⟨rfl, hg4⟩)
      go_ret
      exact ⟨rfl, grown_trans (grown_trans hg1 hg2) (grown_trans hg3 (by assumption))⟩
    · have h : D ≤ 0 := by omega
      clear hsg h1 h2 h4 hh1 hh5
      go_enter Try.func4, Try.ntmps4
      go_wp2_with fail
      refine (qdiv_any a b _ (by omega) (by omega) (by omega) (by omega) _ S1).mono ?_; rintro e w1 ⟨rfl, hg1⟩
      go_wp2_with fail
      refine (qdiv_any KA KB _ (by omega) (by omega) (by omega) (by omega) _ S2).mono ?_; rintro e w2 ⟨rfl, hg2⟩
      go_wp2_with fail
      refine (scale_is S3.out (by omega) (by omega) (by omega) (by omega) (by omega) (by omega) _).mono ?_; rintro e w3 ⟨rfl, hg3⟩
      go_wp2_with (go_at_call 16; refine (told_any _).mono ?_; rintro e w4 ⟨rfl, hg4⟩)
      go_ret
      exact ⟨rfl, grown_trans (grown_trans hg1 hg2) (grown_trans hg3 (by assumption))⟩
    · rcases hsg with h | h | h | h
      · omega
      · have hb : (D == 0) = true := by simpa using h
        clear h1 h2 h4 hh1 hh5 h
        go_enter Try.func4, Try.ntmps4
        go_wp2_with fail
        refine (qdiv_any a b _ (by omega) (by omega) (by omega) (by omega) _ S1).mono ?_; rintro e w1 ⟨rfl, hg1⟩
        go_wp2_with fail
        refine (qdiv_any KA KB _ (by omega) (by omega) (by omega) (by omega) _ S2).mono ?_; rintro e w2 ⟨rfl, hg2⟩
        go_wp2_with fail
        refine (scale_is S3.out (by omega) (by omega) (by omega) (by omega) (by omega) (by omega) _).mono ?_; rintro e w3 ⟨rfl, hg3⟩
        go_wp2_with (go_at_call 16; refine (told_any _).mono ?_; rintro e w4 ⟨rfl, hg4⟩)
        go_ret
        exact ⟨rfl, grown_trans (grown_trans hg1 hg2) (grown_trans hg3 (by assumption))⟩
      · have hb : (D == 0) = false := by simp; omega
        obtain ⟨g1, g2⟩ := h
        clear h1 h2 h4 hh1 hh5
        go_enter Try.func4, Try.ntmps4
        go_wp2_with fail
        refine (qdiv_any a b _ (by omega) (by omega) (by omega) (by omega) _ S1).mono ?_; rintro e w1 ⟨rfl, hg1⟩
        go_wp2_with fail
        refine (qdiv_any KA KB _ (by omega) (by omega) (by omega) (by omega) _ S2).mono ?_; rintro e w2 ⟨rfl, hg2⟩
        go_wp2_with fail
        refine (scale_is S3.out (by omega) (by omega) (by omega) (by omega) (by omega) (by omega) _).mono ?_; rintro e w3 ⟨rfl, hg3⟩
        go_wp2_with (go_at_call 16; refine (told_any _).mono ?_; rintro e w4 ⟨rfl, hg4⟩)
        go_ret
        exact ⟨rfl, grown_trans (grown_trans hg1 hg2) (grown_trans hg3 (by assumption))⟩
      · have hb : (D == 0) = false := by simp; omega
        obtain ⟨g1, g2⟩ := h
        have g3 : ¬ 0 < D := by omega
        have g4 : ¬ 0 < a := by omega
        clear h1 h2 h4 hh1 hh5
        go_enter Try.func4, Try.ntmps4
        go_wp2_with fail
        refine (qdiv_any a b _ (by omega) (by omega) (by omega) (by omega) _ S1).mono ?_; rintro e w1 ⟨rfl, hg1⟩
        go_wp2_with fail
        refine (qdiv_any KA KB _ (by omega) (by omega) (by omega) (by omega) _ S2).mono ?_; rintro e w2 ⟨rfl, hg2⟩
        go_wp2_with fail
        refine (scale_is S3.out (by omega) (by omega) (by omega) (by omega) (by omega) (by omega) _).mono ?_; rintro e w3 ⟨rfl, hg3⟩
        go_wp2_with (go_at_call 16; refine (told_any _).mono ?_; rintro e w4 ⟨rfl, hg4⟩)
        go_ret
        exact ⟨rfl, grown_trans (grown_trans hg1 hg2) (grown_trans hg3 (by assumption))⟩
    · have h : 2 * D ≤ b := by omega
      have h' : -b ≤ 2 * D := by omega
      clear hsg h1 h2 h4 hh1 hh5
      go_enter Try.func4, Try.ntmps4
      go_wp2_with fail
      refine (qdiv_any a b _ (by omega) (by omega) (by omega) (by omega) _ S1).mono ?_; rintro e w1 ⟨rfl, hg1⟩
      go_wp2_with fail
      refine (qdiv_any KA KB _ (by omega) (by omega) (by omega) (by omega) _ S2).mono ?_; rintro e w2 ⟨rfl, hg2⟩
      go_wp2_with fail
      refine (scale_is S3.out (by omega) (by omega) (by omega) (by omega) (by omega) (by omega) _).mono ?_; rintro e w3 ⟨rfl, hg3⟩
      go_wp2_with (go_at_call 16; refine (told_any _).mono ?_; rintro e w4 ⟨rfl, hg4⟩)
      go_ret
      exact ⟨rfl, grown_trans (grown_trans hg1 hg2) (grown_trans hg3 (by assumption))⟩
    · have h : 2 * D ≤ b := by omega
      have h' : -b ≤ 2 * D := by omega
      clear hsg h1 h2 h4 hh1 hh5
      go_enter Try.func4, Try.ntmps4
      go_wp2_with fail
      refine (qdiv_any a b _ (by omega) (by omega) (by omega) (by omega) _ S1).mono ?_; rintro e w1 ⟨rfl, hg1⟩
      go_wp2_with fail
      refine (qdiv_any KA KB _ (by omega) (by omega) (by omega) (by omega) _ S2).mono ?_; rintro e w2 ⟨rfl, hg2⟩
      go_wp2_with fail
      refine (scale_is S3.out (by omega) (by omega) (by omega) (by omega) (by omega) (by omega) _).mono ?_; rintro e w3 ⟨rfl, hg3⟩
      go_wp2_with (go_at_call 16; refine (told_any _).mono ?_; rintro e w4 ⟨rfl, hg4⟩)
      go_ret
      exact ⟨rfl, grown_trans (grown_trans hg1 hg2) (grown_trans hg3 (by assumption))⟩
end Go.Proofs.Ytfgemdfloeknfaa
