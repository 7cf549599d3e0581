/- checkThinning, for any activity. -/
import Derived.Test.YtgkhhfojioepgaaTSOk
import Derived.Test.YtgkhhfojioepgaaTKeepL
import Derived.Test.YtgkhhfojioepgaaBaseB
namespace Go.Proofs.Ytgkhhfojioepgaa
open Go.RowKit
set_option linter.unusedSimpArgs false
set_option linter.unusedVariables false

/-- The error of a thinning. -/
noncomputable def thinE (a : Act) (most limit : Int) : Int := if chkE a = 0 then (if 0 ≤ most ∧ most ≤ 100000000 then (if (a.ss.length : Int) ≤ limit then 0 else 3) else 9) else chkE a

set_option maxHeartbeats 1600000 in
theorem checkThin_any (a : Act) (most limit : Int) (w : World) (ha : ActAt w a) {E : Int} (hE : Hid (thinE a most limit = E)) :
    Calls Try.prog 99 #[a.val, .int .i64 most, .int .i64 limit] w fun x w' => x = .returned (.int .i64 E) ∧ w.grownBy w' none := by
  obtain ⟨ce, hce⟩ : ∃ e, chkE a = e := ⟨_, rfl⟩
  have hv := hE.out
  unfold thinE at hv
  rw [hce] at hv
  have HCE := Lib.hid hce; have HA := Lib.hid ha
  by_cases c1 : ce = 0
  · rw [if_pos c1] at hv
    subst c1
    have hok := chk_ok hce
    have hl20 := hok.sl
    by_cases c2 : 0 ≤ most ∧ most ≤ 100000000
    · rw [if_pos c2] at hv
      obtain ⟨nm, sp, st, so, sc, ss, lo, lc, ls, to_, tc, ts⟩ := a
      simp only [Act.val] at *
      obtain ⟨dd, hdd⟩ : ∃ d, decide (limit < (ss.length : Int)) = d := ⟨_, rfl⟩
      have hdd2 : decide ((ss.length : Int) > limit) = dd := hdd
      have HDD := Lib.hid hdd
      have HV := Lib.hid hv
      clear hE hce hok ha hv
      go_enter Try.func99, Try.ntmps99
      go_wp2_with fail
      refine (check_any ⟨nm, sp, st, so, sc, ss, lo, lc, ls, to_, tc, ts⟩ _ (HA.out.grown (World.grownBy_alloc _ _ _)) HCE).mono ?_; rintro e w1 ⟨rfl, hg1⟩
      have G1 := Lib.hid (grown_trans (World.grownBy_alloc w (.cells #[.string nm, .int .i64 sp, .int .i64 st, .slice so ss.length sc, .slice lo ls.length lc, .slice to_ ts.length tc] 26) none) hg1)
      have b3 : w1.cell? ⟨w.heap.size, 3, none⟩ = some (.slice so ss.length sc) := grown_cell hg1 (by go_simp)
      clear hg1
      go_wp2_with fail
      refine (twithin_yes _ _ _ c2.1 c2.2 _).mono ?_; rintro e w2 ⟨rfl, rfl⟩
      cases dd with
      | true =>
        have hcap : ¬ (ss.length : Int) ≤ limit := by have := HDD.out; simp at this; omega
        have hvv := HV.out
        rw [if_neg hcap] at hvv
        subst hvv
        go_wp2_with fail
        go_ret
        exact ⟨rfl, G1.out⟩
      | false =>
        have hcap : (ss.length : Int) ≤ limit := by have := HDD.out; simp at this; omega
        have hvv := HV.out
        rw [if_pos hcap] at hvv
        subst hvv
        go_wp2_with fail
        go_ret
        exact ⟨rfl, G1.out⟩
    · rw [if_neg c2] at hv
      subst hv
      have C2 : Hid (most < 0 ∨ 100000000 < most) := by show _ ∨ _; omega
      obtain ⟨nm, sp, st, so, sc, ss, lo, lc, ls, to_, tc, ts⟩ := a
      simp only [Act.val] at *
      clear hE hce hok ha c2
      go_enter Try.func99, Try.ntmps99
      go_wp2_with fail
      refine (check_any ⟨nm, sp, st, so, sc, ss, lo, lc, ls, to_, tc, ts⟩ _ (HA.out.grown (World.grownBy_alloc _ _ _)) HCE).mono ?_; rintro e w1 ⟨rfl, hg1⟩
      have G1 := Lib.hid (grown_trans (World.grownBy_alloc w (.cells #[.string nm, .int .i64 sp, .int .i64 st, .slice so ss.length sc, .slice lo ls.length lc, .slice to_ ts.length tc] 26) none) hg1)
      clear hg1
      go_wp2_with fail
      refine (twithin_no _ _ _ C2.out _).mono ?_; rintro e w2 ⟨rfl, rfl⟩
      go_wp2_with fail
      go_ret
      exact ⟨rfl, G1.out⟩
  · rw [if_neg c1] at hv
    subst hv
    have hne : (ce != 0) = true := by simpa using c1
    obtain ⟨nm, sp, st, so, sc, ss, lo, lc, ls, to_, tc, ts⟩ := a
    simp only [Act.val] at *
    clear hE hce ha c1
    go_enter Try.func99, Try.ntmps99
    go_wp2_with fail
    refine (check_any ⟨nm, sp, st, so, sc, ss, lo, lc, ls, to_, tc, ts⟩ _ (HA.out.grown (World.grownBy_alloc _ _ _)) HCE).mono ?_; rintro e w1 ⟨rfl, hg1⟩
    have G1 := Lib.hid (grown_trans (World.grownBy_alloc w (.cells #[.string nm, .int .i64 sp, .int .i64 st, .slice so ss.length sc, .slice lo ls.length lc, .slice to_ ts.length tc] 26) none) hg1)
    clear hg1
    go_wp2_with fail
    go_ret
    exact ⟨rfl, G1.out⟩
end Go.Proofs.Ytgkhhfojioepgaa
