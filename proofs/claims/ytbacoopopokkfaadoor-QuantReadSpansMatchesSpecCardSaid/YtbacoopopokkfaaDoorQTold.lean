/- The contract of told. -/
import Derived.Test.YtbacoopopokkfaaDoorQDur
import Derived.Test.YtbacoopopokkfaaDoorQScale
namespace Go.Proofs.YtbacoopopokkfaaDoor
open Go.RowKit
set_option linter.unusedSimpArgs false
set_option linter.unusedVariables false

theorem scale_is {a num den how n e : Int} (h : scaleV a num den how = (n, e)) (ha0 : -9223372036854775808 ≤ a) (ha1 : a ≤ 9223372036854775807) (hn0 : -9223372036854775808 ≤ num) (hn1 : num ≤ 9223372036854775807) (hd0 : -9223372036854775808 ≤ den) (hd1 : den ≤ 9223372036854775807) (w : World) :
    Calls Tryd.prog 18 #[.int .i64 a, .int .i64 num, .int .i64 den, .int .i64 how] w fun x w' => x = .returned (.tuple #[.int .i64 n, .int .i64 e]) ∧ w.grownBy w' none := by
  have q := scale_any a num den how ha0 ha1 hn0 hn1 hd0 hd1 w
  rw [h] at q; exact q
theorem told_dur (w : World) : Calls Tryd.prog 19 #[.string ⟨#[49, 104, 53, 115]⟩] w fun x w' => x = .returned (.tuple #[.int .i64 3605, .int .i64 0, .int .i64 0]) ∧ w.grownBy w' none := by
  have q := readDuration_any ⟨#[49, 104, 53, 115]⟩ (by decide) w
  have h : rem ⟨#[49, 104, 53, 115]⟩ 0 = [49, 104, 53, 115] := by decide +kernel
  rw [h, dur_told] at q; exact q
theorem told_any (w : World) : Calls Tryd.prog 6 #[] w fun x w' => x = .returned (.bool true) ∧ w.grownBy w' none := by
  go_enter Tryd.func6, Tryd.ntmps6
  go_wp2_with (first | (go_at_call 18; refine (scale_is (n := -4) (e := 0) (by decide +kernel) (by omega) (by omega) (by omega) (by omega) (by omega) (by omega) _).mono ?_; rintro e w1 ⟨rfl, hg1⟩) | (go_at_call 19; refine (told_dur _).mono ?_; rintro e w2 ⟨rfl, hg2⟩))
  go_ret
  exact ⟨rfl, grown_trans (by assumption) (by assumption)⟩
end Go.Proofs.YtbacoopopokkfaaDoor
