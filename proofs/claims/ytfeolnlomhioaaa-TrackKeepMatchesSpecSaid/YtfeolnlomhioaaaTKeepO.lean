/- Keep of both sides, for any activity. -/
import Derived.Test.YtfeolnlomhioaaaTKeepW
import Derived.Test.YtfeolnlomhioaaaTRKeep
import Derived.Test.YtfeolnlomhioaaaTSOk
namespace Go.Proofs.Ytfeolnlomhioaaa
open Go.RowKit

/-- The error of Keep. -/
noncomputable def keepE (a : Act) (fast : Int) : Int := if chkE a = 0 then (if 1 ≤ fast ∧ fast ≤ 100000 then (if (a.ss.length : Int) ≤ 2000 then 0 else 3) else 9) else chkE a
/-- The list of Keep, as it lies: k numbers. -/
def KeptAt (w : World) (base : Nat) (a : Act) (fast E : Int) (v : Value) (k : Nat) : Prop :=
  (E = 0 → PthEnd a.ss.length (nextK a.ss.length (agS a.ss fast)) (kpV a.ss.length (agS a.ss fast) a.ss.length).2 k) ∧ (E ≠ 0 → k = 0) ∧ w.ownsRow base 3 1 v k (pthVs (nextK a.ss.length (agS a.ss fast)) (kpV a.ss.length (agS a.ss fast) a.ss.length).2 k)
theorem times_up {ss : List Smp} (h : SOk ss) : ∀ i j, i < j → j < ss.length → 0 ≤ (smpD ss j).t - (smpD ss i).t ∧ (smpD ss j).t - (smpD ss i).t ≤ 1000000 := fun i j hij hj => by
  have m : ∀ k, i + k < ss.length → (smpD ss i).t ≤ (smpD ss (i + k)).t := fun k => by
    induction k with
    | zero => intro _; exact Int.le_refl _
    | succ k ih => intro hk; have := ih (by omega); have := h.up (i + k) (by omega); rw [show i + (k + 1) = i + k + 1 by omega]; omega
  have q := m (j - i) (by omega)
  rw [show i + (j - i) = j by omega] at q
  have a := h.inn i (by omega); have b := h.inn j hj
  omega
theorem kept_none (w : World) (base : Nat) (a : Act) (fast : Int) {E : Int} (h : E ≠ 0) : KeptAt w base a fast E (.slice none 0 0) 0 :=
  ⟨fun e => absurd e h, fun _ => rfl, World.ownsRow_nil _ _ _ _⟩

set_option maxHeartbeats 1600000 in
theorem Keep_any (a : Act) (fast : Int) (w : World) (ha : ActAt w a) {E : Int} (hE : Hid (keepE a fast = E)) :
    Calls Try.prog 26 #[a.val, .int .i64 fast] w fun x w' => (∃ v k, x = .returned (.tuple #[v, .int .i64 E]) ∧ KeptAt w' w.heap.size a fast E v k) ∧ w.grownBy w' none := by
  obtain ⟨ce, hce⟩ : ∃ e, chkE a = e := ⟨_, rfl⟩
  have hv := hE.out
  unfold keepE at hv
  rw [hce] at hv
  have HCE := Lib.hid hce; have HA := Lib.hid ha
  by_cases c1 : ce = 0
  · rw [if_pos c1] at hv
    subst c1
    have hok := chk_ok hce
    by_cases c2 : 1 ≤ fast ∧ fast ≤ 100000
    · rw [if_pos c2] at hv
      by_cases c3 : (a.ss.length : Int) ≤ 2000
      · rw [if_pos c3] at hv
        subst hv
        have HP := Lib.hid hok.plane
        have HT := Lib.hid (times_up (sok_of hok))
        obtain ⟨nm, sp, st, so, sc, ss, lo, lc, ls, to_, tc, ts⟩ := a
        refine (Keep_ok nm sp st so sc ss lo lc ls to_ tc ts fast c2.1 c2.2 c3 w HA HCE HP HT).mono ?_
        rintro x w' ⟨⟨v, k, rfl, h1, h2⟩, hg⟩
        exact ⟨⟨v, k, rfl, fun _ => h1, fun h => absurd rfl h, h2⟩, hg⟩
      · rw [if_neg c3] at hv
        subst hv
        obtain ⟨nm, sp, st, so, sc, ss, lo, lc, ls, to_, tc, ts⟩ := a
        simp only [Act.val] at *
        have hcap : decide ((2000 : Int) < (ss.length : Int)) = true := by simp; omega
        have hcap2 : (2000 : Int) < (ss.length : Int) := by omega
        have hl20 := hok.sl
        simp only at hl20
        clear hE hce hok ha c3
        go_enter Try.func26, Try.ntmps26
        go_wp2_with fail
        refine (check_any ⟨nm, sp, st, so, sc, ss, lo, lc, ls, to_, tc, ts⟩ _ (HA.out.grown (World.grownBy_alloc _ _ _)) HCE).mono ?_; rintro e w1 ⟨rfl, hg1⟩
        have G1 := Lib.hid (grown_trans (World.grownBy_alloc w (.cells #[.string nm, .int .i64 sp, .int .i64 st, .slice so ss.length sc, .slice lo ls.length lc, .slice to_ ts.length tc] 26) none) hg1)
        have b3 : w1.cell? ⟨w.heap.size, 3, none⟩ = some (.slice so ss.length sc) := grown_cell hg1 (by go_simp)
        clear hg1
        go_wp2_with fail
        refine (twithin_yes _ _ _ c2.1 c2.2 _).mono ?_; rintro e w2 ⟨rfl, rfl⟩
        go_wp2_with fail
        go_ret2
        exact ⟨⟨_, _, rfl, kept_none _ _ _ _ (by decide)⟩, G1.out⟩
    · rw [if_neg c2] at hv
      subst hv
      have C2 : Hid (fast < 1 ∨ 100000 < fast) := by show _ ∨ _; omega
      obtain ⟨nm, sp, st, so, sc, ss, lo, lc, ls, to_, tc, ts⟩ := a
      simp only [Act.val] at *
      clear hE hce hok ha c2
      go_enter Try.func26, Try.ntmps26
      go_wp2_with fail
      refine (check_any ⟨nm, sp, st, so, sc, ss, lo, lc, ls, to_, tc, ts⟩ _ (HA.out.grown (World.grownBy_alloc _ _ _)) HCE).mono ?_; rintro e w1 ⟨rfl, hg1⟩
      have G1 := Lib.hid (grown_trans (World.grownBy_alloc w (.cells #[.string nm, .int .i64 sp, .int .i64 st, .slice so ss.length sc, .slice lo ls.length lc, .slice to_ ts.length tc] 26) none) hg1)
      clear hg1
      go_wp2_with fail
      refine (twithin_no _ _ _ C2.out _).mono ?_; rintro e w2 ⟨rfl, rfl⟩
      go_wp2_with fail
      go_ret2
      exact ⟨⟨_, _, rfl, kept_none _ _ _ _ (by decide)⟩, G1.out⟩
  · rw [if_neg c1] at hv
    subst hv
    have hne : (ce != 0) = true := by simpa using c1
    have C1 := Lib.hid c1
    obtain ⟨nm, sp, st, so, sc, ss, lo, lc, ls, to_, tc, ts⟩ := a
    simp only [Act.val] at *
    clear hE hce ha c1
    go_enter Try.func26, Try.ntmps26
    go_wp2_with fail
    refine (check_any ⟨nm, sp, st, so, sc, ss, lo, lc, ls, to_, tc, ts⟩ _ (HA.out.grown (World.grownBy_alloc _ _ _)) HCE).mono ?_; rintro e w1 ⟨rfl, hg1⟩
    have G1 := Lib.hid (grown_trans (World.grownBy_alloc w (.cells #[.string nm, .int .i64 sp, .int .i64 st, .slice so ss.length sc, .slice lo ls.length lc, .slice to_ ts.length tc] 26) none) hg1)
    clear hg1
    go_wp2_with fail
    go_ret2
    exact ⟨⟨_, _, rfl, kept_none _ _ _ _ C1.out⟩, G1.out⟩

set_option maxHeartbeats 1600000 in
theorem rKeep_any (a : Act) (fast : Int) (w : World) (ha : ActAt w a) {E : Int} (hE : Hid (keepE a fast = E)) :
    Calls Try.prog 27 #[a.val, .int .i64 fast] w fun x w' => (∃ v k, x = .returned (.tuple #[v, .int .i64 E]) ∧ KeptAt w' w.heap.size a fast E v k) ∧ w.grownBy w' none := by
  obtain ⟨ce, hce⟩ : ∃ e, chkE a = e := ⟨_, rfl⟩
  have hv := hE.out
  unfold keepE at hv
  rw [hce] at hv
  have HCE := Lib.hid hce; have HA := Lib.hid ha
  by_cases c1 : ce = 0
  · rw [if_pos c1] at hv
    subst c1
    have hok := chk_ok hce
    by_cases c2 : 1 ≤ fast ∧ fast ≤ 100000
    · rw [if_pos c2] at hv
      by_cases c3 : (a.ss.length : Int) ≤ 2000
      · rw [if_pos c3] at hv
        subst hv
        have HP := Lib.hid hok.plane
        have HT := Lib.hid (times_up (sok_of hok))
        obtain ⟨nm, sp, st, so, sc, ss, lo, lc, ls, to_, tc, ts⟩ := a
        refine (rKeep_ok nm sp st so sc ss lo lc ls to_ tc ts fast c2.1 c2.2 c3 w HA HCE HP HT).mono ?_
        rintro x w' ⟨⟨v, k, rfl, h1, h2⟩, hg⟩
        exact ⟨⟨v, k, rfl, fun _ => h1, fun h => absurd rfl h, h2⟩, hg⟩
      · rw [if_neg c3] at hv
        subst hv
        obtain ⟨nm, sp, st, so, sc, ss, lo, lc, ls, to_, tc, ts⟩ := a
        simp only [Act.val] at *
        have hcap : decide ((2000 : Int) < (ss.length : Int)) = true := by simp; omega
        have hcap2 : (2000 : Int) < (ss.length : Int) := by omega
        have hl20 := hok.sl
        simp only at hl20
        clear hE hce hok ha c3
        go_enter Try.func27, Try.ntmps27
        go_wp2_with fail
        refine (rcheck_any ⟨nm, sp, st, so, sc, ss, lo, lc, ls, to_, tc, ts⟩ _ (HA.out.grown (World.grownBy_alloc _ _ _)) HCE).mono ?_; rintro e w1 ⟨rfl, hg1⟩
        have G1 := Lib.hid (grown_trans (World.grownBy_alloc w (.cells #[.string nm, .int .i64 sp, .int .i64 st, .slice so ss.length sc, .slice lo ls.length lc, .slice to_ ts.length tc] 26) none) hg1)
        have b3 : w1.cell? ⟨w.heap.size, 3, none⟩ = some (.slice so ss.length sc) := grown_cell hg1 (by go_simp)
        clear hg1
        go_wp2_with fail
        refine (rout_no _ _ _ c2.1 c2.2 _).mono ?_; rintro e w2 ⟨rfl, rfl⟩
        go_wp2_with fail
        go_ret2
        exact ⟨⟨_, _, rfl, kept_none _ _ _ _ (by decide)⟩, G1.out⟩
    · rw [if_neg c2] at hv
      subst hv
      have C2 : Hid (fast < 1 ∨ 100000 < fast) := by show _ ∨ _; omega
      obtain ⟨nm, sp, st, so, sc, ss, lo, lc, ls, to_, tc, ts⟩ := a
      simp only [Act.val] at *
      clear hE hce hok ha c2
      go_enter Try.func27, Try.ntmps27
      go_wp2_with fail
      refine (rcheck_any ⟨nm, sp, st, so, sc, ss, lo, lc, ls, to_, tc, ts⟩ _ (HA.out.grown (World.grownBy_alloc _ _ _)) HCE).mono ?_; rintro e w1 ⟨rfl, hg1⟩
      have G1 := Lib.hid (grown_trans (World.grownBy_alloc w (.cells #[.string nm, .int .i64 sp, .int .i64 st, .slice so ss.length sc, .slice lo ls.length lc, .slice to_ ts.length tc] 26) none) hg1)
      clear hg1
      go_wp2_with fail
      refine (rout_yes _ _ _ C2.out _).mono ?_; rintro e w2 ⟨rfl, rfl⟩
      go_wp2_with fail
      go_ret2
      exact ⟨⟨_, _, rfl, kept_none _ _ _ _ (by decide)⟩, G1.out⟩
  · rw [if_neg c1] at hv
    subst hv
    have hne : (ce != 0) = true := by simpa using c1
    have C1 := Lib.hid c1
    obtain ⟨nm, sp, st, so, sc, ss, lo, lc, ls, to_, tc, ts⟩ := a
    simp only [Act.val] at *
    clear hE hce ha c1
    go_enter Try.func27, Try.ntmps27
    go_wp2_with fail
    refine (rcheck_any ⟨nm, sp, st, so, sc, ss, lo, lc, ls, to_, tc, ts⟩ _ (HA.out.grown (World.grownBy_alloc _ _ _)) HCE).mono ?_; rintro e w1 ⟨rfl, hg1⟩
    have G1 := Lib.hid (grown_trans (World.grownBy_alloc w (.cells #[.string nm, .int .i64 sp, .int .i64 st, .slice so ss.length sc, .slice lo ls.length lc, .slice to_ ts.length tc] 26) none) hg1)
    clear hg1
    go_wp2_with fail
    go_ret2
    exact ⟨⟨_, _, rfl, kept_none _ _ _ _ C1.out⟩, G1.out⟩

end Go.Proofs.Ytfeolnlomhioaaa
