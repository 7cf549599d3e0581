/- The contracts of within, isInRange, isOnPlane and square, and of the reference's outside, isPoint and square. -/
import Derived.Test.YtckelojdjmaliaaBaseA
import Derived.WalkKit
import Derived.Handy
import Derived.BigQuiet
namespace Go.Proofs.Ytckelojdjmaliaa
open Go.RowKit
set_option linter.unusedSimpArgs false
set_option linter.unusedVariables false

theorem mwithin_is (n lo hi : Int) (w : World) {b : Bool} (hb : Hid (decide (lo ≤ n ∧ n ≤ hi) = b)) : Calls Try.prog 37 #[.int .i64 n, .int .i64 lo, .int .i64 hi] w fun e w' => e = .returned (.bool b) ∧ w = w' := by
  have hv := hb.out
  clear hb
  by_cases h0 : lo ≤ n
  · have g0 : decide (lo ≤ n) = true := decide_eq_true h0
    by_cases h1 : n ≤ hi
    · have g1 : decide (n ≤ hi) = true := decide_eq_true h1
      obtain rfl : true = b := by rw [← hv]; simp [h0, h1]
      clear hv
      go_enter Try.func37, Try.ntmps37
      go_wp2
      go_ret
      exact ⟨ret_bool (by first | rfl | (simp; omega)), rfl⟩
    · have g1 : decide (n ≤ hi) = false := decide_eq_false h1
      obtain rfl : false = b := by rw [← hv]; simp [h1]
      clear hv
      go_enter Try.func37, Try.ntmps37
      go_wp2
      go_ret
      exact ⟨ret_bool (by first | rfl | (simp; omega)), rfl⟩
  · have g0 : decide (lo ≤ n) = false := decide_eq_false h0
    obtain rfl : false = b := by rw [← hv]; simp [h0]
    clear hv
    go_enter Try.func37, Try.ntmps37
    go_wp2
    go_ret
    exact ⟨ret_bool (by first | rfl | (simp; omega)), rfl⟩

theorem inRange_is (x y : Int) (w : World) {b : Bool} (hb : Hid (decide ((-100000000 ≤ x ∧ x ≤ 100000000) ∧ (-100000000 ≤ y ∧ y ≤ 100000000)) = b)) : Calls Try.prog 69 #[.int .i64 x, .int .i64 y] w fun e w' => e = .returned (.bool b) ∧ w = w' := by
  have hv := hb.out
  clear hb
  by_cases h0 : -100000000 ≤ x ∧ x ≤ 100000000
  · have H0 : Hid (decide (-100000000 ≤ x ∧ x ≤ 100000000) = true) := decide_eq_true h0
    have H1 : Hid (decide (-100000000 ≤ y ∧ y ≤ 100000000) = b) := by show _ = _; rw [← hv]; simp [h0]
    clear hv h0
    go_enter Try.func69, Try.ntmps69
    go_wp2_with fail
    refine (mwithin_is _ _ _ _ H0).mono ?_; rintro e w1 ⟨rfl, rfl⟩
    go_wp2_with fail
    refine (mwithin_is _ _ _ _ H1).mono ?_; rintro e w1 ⟨rfl, rfl⟩
    go_wp2_with fail
    go_ret
    exact ⟨rfl, rfl⟩
  · have H0 : Hid (decide (-100000000 ≤ x ∧ x ≤ 100000000) = false) := decide_eq_false h0
    obtain rfl : false = b := by rw [← hv]; simp [h0]
    clear hv h0
    go_enter Try.func69, Try.ntmps69
    go_wp2_with fail
    refine (mwithin_is _ _ _ _ H0).mono ?_; rintro e w1 ⟨rfl, rfl⟩
    go_wp2_with fail
    go_ret
    exact ⟨rfl, rfl⟩

theorem onPlane_is (p : Pt) (w : World) {b : Bool} (hb : Hid (decide (onP p) = b)) : Calls Try.prog 38 #[.agg #[.int .i64 p.x, .int .i64 p.y]] w fun e w' => e = .returned (.bool b) ∧ w.grownBy w' none := by
  obtain ⟨x, y⟩ := p
  have HB : Hid (decide ((-100000000 ≤ x ∧ x ≤ 100000000) ∧ (-100000000 ≤ y ∧ y ≤ 100000000)) = b) := hb.out
  clear hb
  go_enter Try.func38, Try.ntmps38
  go_wp2_with fail
  refine (inRange_is _ _ _ HB).mono ?_; rintro e w1 ⟨rfl, rfl⟩
  go_wp2_with fail
  go_ret
  exact ⟨rfl, World.grownBy_alloc _ _ _⟩

theorem msquare_is (p q : Pt) (hp : onP p) (hq : onP q) (w : World) {n : Int} (h : Hid (sqD p q = n)) :
    Calls Try.prog 65 #[.agg #[.int .i64 p.x, .int .i64 p.y], .agg #[.int .i64 q.x, .int .i64 q.y]] w fun e w' => e = .returned (.int .i64 n) ∧ w.grownBy w' none := by
  obtain ⟨px, py⟩ := p
  obtain ⟨qx, qy⟩ := q
  unfold onP at hp hq
  simp only at hp hq
  have hn : (qx - px) * (qx - px) + (qy - py) * (qy - py) = n := h.out
  clear h
  obtain ⟨dx, hdx⟩ : ∃ d, qx - px = d := ⟨_, rfl⟩
  obtain ⟨dy, hdy⟩ : ∃ d, qy - py = d := ⟨_, rfl⟩
  rw [hdx, hdy] at hn
  have bx := sq_bdM (a := dx) (by omega) (by omega)
  have by_ := sq_bdM (a := dy) (by omega) (by omega)
  have rx : IntKind.i64.wrap (qx - px) = dx := by rw [hdx]; exact IntWalk.i64_in _ (by omega)
  have ry : IntKind.i64.wrap (qy - py) = dy := by rw [hdy]; exact IntWalk.i64_in _ (by omega)
  obtain ⟨X, hX⟩ : ∃ d, dx * dx = d := ⟨_, rfl⟩
  obtain ⟨Y, hY⟩ : ∃ d, dy * dy = d := ⟨_, rfl⟩
  rw [hX, hY] at hn
  rw [hX] at bx; rw [hY] at by_
  have r1 : IntKind.i64.wrap (dx * dx) = X := by rw [hX]; exact IntWalk.i64_in _ (by omega)
  have r2 : IntKind.i64.wrap (dy * dy) = Y := by rw [hY]; exact IntWalk.i64_in _ (by omega)
  have r3 : IntKind.i64.wrap (X + Y) = n := by rw [← hn]; exact IntWalk.i64_in _ (by omega)
  clear hdx hdy hX hY bx by_ hn hp hq
  go_enter Try.func65, Try.ntmps65
  go_wp2_with fail
  go_quiet (fail)
  go_wp2_with fail
  go_ret
  exact ⟨rfl, grown_trans (grown_trans (World.grownBy_alloc _ _ _) (World.grownBy_alloc _ _ _)) (grown_drewN _ _ _)⟩

theorem moutside_is (n lo hi : Int) (w : World) {b : Bool} (hb : Hid (decide (n < lo ∨ hi < n) = b)) : Calls Try.prog 40 #[.int .i64 n, .int .i64 lo, .int .i64 hi] w fun e w' => e = .returned (.bool b) ∧ w = w' := by
  have hv := hb.out
  clear hb
  by_cases h0 : n < lo
  · have g0 : decide (n < lo) = true := decide_eq_true h0
    obtain rfl : true = b := by rw [← hv]; simp [h0]
    clear hv
    go_enter Try.func40, Try.ntmps40
    go_wp2
    go_ret
    exact ⟨ret_bool (by first | rfl | (simp; omega)), rfl⟩
  · have g0 : decide (n < lo) = false := decide_eq_false h0
    by_cases h1 : hi < n
    · have g1 : decide (hi < n) = true := decide_eq_true h1
      obtain rfl : true = b := by rw [← hv]; simp [h1]
      clear hv
      go_enter Try.func40, Try.ntmps40
      go_wp2
      go_ret
      exact ⟨ret_bool (by first | rfl | (simp; omega)), rfl⟩
    · have g1 : decide (hi < n) = false := decide_eq_false h1
      obtain rfl : false = b := by rw [← hv]; simp [h0, h1]
      clear hv
      go_enter Try.func40, Try.ntmps40
      go_wp2
      go_ret
      exact ⟨ret_bool (by first | rfl | (simp; omega)), rfl⟩

theorem isPoint_is (p : Pt) (w : World) {b : Bool} (hb : Hid (decide (onP p) = b)) : Calls Try.prog 41 #[.agg #[.int .i64 p.x, .int .i64 p.y]] w fun e w' => e = .returned (.bool b) ∧ w.grownBy w' none := by
  obtain ⟨x, y⟩ := p
  have hv : decide ((-100000000 ≤ x ∧ x ≤ 100000000) ∧ (-100000000 ≤ y ∧ y ≤ 100000000)) = b := hb.out
  clear hb
  by_cases h0 : -100000000 ≤ x ∧ x ≤ 100000000
  · have H0 : Hid (decide (x < -100000000 ∨ 100000000 < x) = false) := decide_eq_false (by omega)
    by_cases h1 : -100000000 ≤ y ∧ y ≤ 100000000
    · have H1 : Hid (decide (y < -100000000 ∨ 100000000 < y) = false) := decide_eq_false (by omega)
      obtain rfl : true = b := by rw [← hv]; simp [h0, h1]
      clear hv h0 h1
      go_enter Try.func41, Try.ntmps41
      go_wp2_with fail
      refine (moutside_is _ _ _ _ H0).mono ?_; rintro e w1 ⟨rfl, rfl⟩
      go_wp2_with fail
      refine (moutside_is _ _ _ _ H1).mono ?_; rintro e w1 ⟨rfl, rfl⟩
      go_wp2_with fail
      go_ret
      exact ⟨rfl, World.grownBy_alloc _ _ _⟩
    · have H1 : Hid (decide (y < -100000000 ∨ 100000000 < y) = true) := decide_eq_true (by omega)
      obtain rfl : false = b := by rw [← hv]; simp [h1]
      clear hv h0 h1
      go_enter Try.func41, Try.ntmps41
      go_wp2_with fail
      refine (moutside_is _ _ _ _ H0).mono ?_; rintro e w1 ⟨rfl, rfl⟩
      go_wp2_with fail
      refine (moutside_is _ _ _ _ H1).mono ?_; rintro e w1 ⟨rfl, rfl⟩
      go_wp2_with fail
      go_ret
      exact ⟨rfl, World.grownBy_alloc _ _ _⟩
  · have H0 : Hid (decide (x < -100000000 ∨ 100000000 < x) = true) := decide_eq_true (by omega)
    obtain rfl : false = b := by rw [← hv]; simp [h0]
    clear hv h0
    go_enter Try.func41, Try.ntmps41
    go_wp2_with fail
    refine (moutside_is _ _ _ _ H0).mono ?_; rintro e w1 ⟨rfl, rfl⟩
    go_wp2_with fail
    go_ret
    exact ⟨rfl, World.grownBy_alloc _ _ _⟩

theorem mrsquare_is (n : Int) (h0 : -200000000 ≤ n) (h1 : n ≤ 200000000) (w : World) {m : Int} (h : Hid (n * n = m)) : Calls Try.prog 66 #[.int .i64 n] w fun e w' => e = .returned (.int .i64 m) ∧ w = w' := by
  have hb := sq_bdM h0 h1
  rw [h.out] at hb
  have r1 : IntKind.i64.wrap (n * n) = m := by rw [h.out]; exact IntWalk.i64_in _ (by omega)
  clear h hb h0 h1
  go_enter Try.func66, Try.ntmps66
  go_wp2_with fail
  go_ret
  exact ⟨rfl, rfl⟩
end Go.Proofs.Ytckelojdjmaliaa
