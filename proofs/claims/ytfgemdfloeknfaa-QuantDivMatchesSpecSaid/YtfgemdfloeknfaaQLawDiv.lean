/- For all numbers, Div, Scale and Root return what the reference returns. -/
import Derived.Test.YtfgemdfloeknfaaQTold
import Derived.Test.YtfgemdfloeknfaaQRoot
import Derived.Test.YtfgemdfloeknfaaQLawNear
namespace Go.Proofs.Ytfgemdfloeknfaa
open Go.RowKit

theorem rdiv_any (a b how : Int) (ha0 : -9223372036854775808 ≤ a) (ha1 : a ≤ 9223372036854775807) (hb0 : -9223372036854775808 ≤ b) (hb1 : b ≤ 9223372036854775807) (w : World) {n e : Int} (h : Hid (scaleV a 1 b how = (n, e))) :
    Calls Try.prog 11 #[.int .i64 a, .int .i64 b, .int .i64 how] w fun x w' => x = .returned (.tuple #[.int .i64 n, .int .i64 e]) ∧ w.grownBy w' none := by
  have q := refScale_any a 1 b how ha0 ha1 (by omega) (by omega) hb0 hb1
  rw [h.out] at q
  have HQ := Lib.hid q; clear q
  go_enter Try.func11, Try.ntmps11
  go_wp2_with (go_at_call 13; refine (HQ.out _).mono ?_; rintro e w1 ⟨rfl, hg1⟩)
  go_ret2
  exact ⟨rfl, by assumption⟩
theorem rscale_is {a num den how n e : Int} (h : scaleV a num den how = (n, e)) (ha0 : -9223372036854775808 ≤ a) (ha1 : a ≤ 9223372036854775807) (hn0 : -9223372036854775808 ≤ num) (hn1 : num ≤ 9223372036854775807) (hd0 : -9223372036854775808 ≤ den) (hd1 : den ≤ 9223372036854775807) (w : World) :
    Calls Try.prog 13 #[.int .i64 a, .int .i64 num, .int .i64 den, .int .i64 how] w fun x w' => x = .returned (.tuple #[.int .i64 n, .int .i64 e]) ∧ w.grownBy w' none := by
  have q := refScale_any a num den how ha0 ha1 hn0 hn1 hd0 hd1 w
  rw [h] at q; exact q

set_option maxRecDepth 100000 in
set_option maxHeartbeats 1600000 in
theorem div_walk (a b c how : Int) (ha0 : -9223372036854775808 ≤ a) (ha1 : a ≤ 9223372036854775807) (hb0 : -9223372036854775808 ≤ b) (hb1 : b ≤ 9223372036854775807) (hc0 : -9223372036854775808 ≤ c) (hc1 : c ≤ 9223372036854775807) (_hh0 : -9223372036854775808 ≤ how) (_hh1 : how ≤ 9223372036854775807) (w : World) :
    Calls Try.prog 3 #[.int .i64 a, .int .i64 b, .int .i64 c, .int .i64 how] w fun x w' => x = .returned (.bool true) ∧ w.grownBy w' none := by
  rcases hd : scaleV a 1 b how with ⟨n, e⟩
  rcases hs : scaleV a b c how with ⟨x, g⟩
  obtain ⟨r, i, hr1, hr2⟩ := roots a ha0 ha1
  have HD := Lib.hid hd; have HS := Lib.hid hs; have HR1 := Lib.hid hr1; have HR2 := Lib.hid hr2
  clear hd hs hr1 hr2
  go_enter Try.func3, Try.ntmps3
  go_wp2_with fail
  refine (qdiv_any a b how ha0 ha1 hb0 hb1 _ HD).mono ?_; rintro _ w1 ⟨rfl, hg1⟩
  go_wp2_with fail
  refine (rdiv_any a b how ha0 ha1 hb0 hb1 _ HD).mono ?_; rintro _ w2 ⟨rfl, hg2⟩
  go_wp2_with fail
  refine (scale_is HS.out ha0 ha1 hb0 hb1 hc0 hc1 _).mono ?_; rintro _ w3 ⟨rfl, hg3⟩
  go_wp2_with fail
  refine (rscale_is HS.out ha0 ha1 hb0 hb1 hc0 hc1 _).mono ?_; rintro _ w4 ⟨rfl, hg4⟩
  go_wp2_with fail
  refine (HR1.out _).mono ?_; rintro _ w5 ⟨rfl, rfl⟩
  go_wp2_with fail
  refine (HR2.out _).mono ?_; rintro _ w6 ⟨rfl, rfl⟩
  go_wp2_with (go_at_call 16; refine (told_any _).mono ?_; rintro e w7 ⟨rfl, hg7⟩)
  go_ret
  exact ⟨rfl, grown_trans (grown_trans hg1 hg2) (grown_trans (grown_trans hg3 hg4) (by assumption))⟩
end Go.Proofs.Ytfgemdfloeknfaa
