/- Idle and Still of the program, for any activity. -/
import Derived.Test.YtgkhhfojioepgaaTRowsI
import Derived.Test.YtgkhhfojioepgaaTRowsS
import Derived.Test.YtgkhhfojioepgaaTMeant
import Derived.Test.YtgkhhfojioepgaaBaseA
namespace Go.Proofs.Ytgkhhfojioepgaa
open Go.RowKit
set_option linter.unusedSimpArgs false
set_option linter.unusedVariables false

def idleE (a : Act) (gap : Int) : List SpV × Int := if chkE a = 0 then (if 1 ≤ gap ∧ gap ≤ 1000000 then (restL (tmS a.ss) (idleM a.ss gap) 1 (a.ss.length - 1), 0) else ([], 9)) else ([], chkE a)
noncomputable def stillE (a : Act) (slow least : Int) : List SpV × Int := if chkE a = 0 then (if 0 ≤ slow ∧ slow ≤ 100000 then (if 1 ≤ least ∧ least ≤ 1000000 then (restL (tmS a.ss) (stillM a.ss slow) least (a.ss.length - 1), 0) else ([], 9)) else ([], 9)) else ([], chkE a)

set_option maxRecDepth 100000 in
set_option maxHeartbeats 3200000 in
theorem Idle_any (a : Act) (gap : Int) (w : World) (ha : ActAt w a) {L : List SpV} {E : Int} (hE : Hid (idleE a gap = (L, E))) :
    Calls Try.prog 21 #[a.val, .int .i64 gap] w fun x w' => (∃ v, x = .returned (.tuple #[v, .int .i64 E]) ∧ w'.ownsRow w.heap.size 45 2 v L.length (L.flatMap spCs)) ∧ w.grownBy w' none := by
  obtain ⟨ce, hce⟩ : ∃ e, chkE a = e := ⟨_, rfl⟩
  have hv := hE.out
  unfold idleE at hv
  rw [hce] at hv
  have HCE := Lib.hid hce; have HA := Lib.hid ha
  obtain ⟨nm, sp, st, so, sc, ss, lo, lc, ls, to_, tc, ts⟩ := a
  have G1 : Hid (w.grownBy ((w.alloc (.cells #[.string nm, .int .i64 sp, .int .i64 st, .slice so ss.length sc, .slice lo ls.length lc, .slice to_ ts.length tc] 26)).alloc (.cells #[.int .i64 gap] 3)) none) := grown_trans (World.grownBy_alloc _ _ _) (World.grownBy_alloc _ _ _)
  have ZB : Hid (((w.alloc (.cells #[.string nm, .int .i64 sp, .int .i64 st, .slice so ss.length sc, .slice lo ls.length lc, .slice to_ ts.length tc] 26)).alloc (.cells #[.int .i64 gap] 3)).cell? ⟨w.heap.size, 3, none⟩ = some (.slice so ss.length sc)) := by show _ = _; go_simp
  have YB : Hid (((w.alloc (.cells #[.string nm, .int .i64 sp, .int .i64 st, .slice so ss.length sc, .slice lo ls.length lc, .slice to_ ts.length tc] 26)).alloc (.cells #[.int .i64 gap] 3)).cell? ⟨w.heap.size + 1, 0, none⟩ = some (.int .i64 gap) ∧ True) := by
    refine ⟨?_, trivial⟩ <;> go_simp
  simp only [Act.val] at *
  clear hE ha
  by_cases c1 : ce = 0
  · rw [if_pos c1] at hv
    subst c1
    have hok := chk_ok hce
    have HS : Hid (SOk ss) := sok_of hok
    have HV := Lib.hid hv
    clear hce hok hv
    by_cases c0 : 1 ≤ gap ∧ gap ≤ 1000000
    · have hv := HV.out
      rw [if_pos ⟨c0.1, c0.2⟩] at hv
      simp only [Prod.mk.injEq] at hv
      obtain ⟨rfl, rfl⟩ := hv
      go_enter Try.func21, Try.ntmps21
      go_wp2_with fail
      refine (check_any ⟨nm, sp, st, so, sc, ss, lo, lc, ls, to_, tc, ts⟩ _ (HA.out.grown G1.out) HCE).mono ?_; rintro e w2 ⟨rfl, hg2⟩
      have HG2 : Hid (w.grownBy w2 none) := grown_trans G1.out hg2
      have y0 : w2.cell? ⟨w.heap.size + 1, 0, none⟩ = some (.int .i64 gap) := grown_cell hg2 (grown_cell (show (((w.alloc (.cells #[.string nm, .int .i64 sp, .int .i64 st, .slice so ss.length sc, .slice lo ls.length lc, .slice to_ ts.length tc] 26)).alloc (.cells #[.int .i64 gap] 3))).grownBy ((w.alloc (.cells #[.string nm, .int .i64 sp, .int .i64 st, .slice so ss.length sc, .slice lo ls.length lc, .slice to_ ts.length tc] 26)).alloc (.cells #[.int .i64 gap] 3)) none from World.grownBy.refl _ _) (YB.out.1))
      have z3 : w2.cell? ⟨w.heap.size, 3, none⟩ = some (.slice so ss.length sc) := grown_cell hg2 ZB.out
      clear hg2
      have hmf : ∀ (fn : Fn) (first cap : Array Value) (w : World), (Instr.makeFunc fn first cap).run Try.prog w = .ok (.func fn first cap) w := fun _ _ _ _ => rfl
      go_wp2_with fail
      refine (twithin_yes gap 1 1000000 c0.1 c0.2 _).mono ?_; rintro e w3 ⟨rfl, rfl⟩
      go_wp2_with fail
      refine (rowsI_is so sc ss 1 #[.pointer (some ⟨w.heap.size + 1, 0, none⟩)] (idleM ss gap) (by omega) (by omega) w2 (Lib.hid (HA.out.hs.grown HG2.out)) HS (fun k hk W hW => idle1_is ss HS gap k hk (w.heap.size + 1) W (grown_cell hW y0))).mono ?_
      rintro e w4 ⟨⟨v, rfl, ho⟩, hg4⟩
      have HO := Lib.hid (own_baseR ho HG2.out.size)
      have HG4 : Hid (w.grownBy w4 none) := grown_trans HG2.out hg4
      clear ho hg4 y0 z3
      go_wp2_with fail
      go_ret2
      exact ⟨⟨_, rfl, HO.out⟩, HG4.out⟩
    · have hv := HV.out
      rw [if_neg c0] at hv
      simp only [Prod.mk.injEq] at hv
      obtain ⟨rfl, rfl⟩ := hv
      have co : gap < 1 ∨ 1000000 < gap := by omega
      go_enter Try.func21, Try.ntmps21
      go_wp2_with fail
      refine (check_any ⟨nm, sp, st, so, sc, ss, lo, lc, ls, to_, tc, ts⟩ _ (HA.out.grown G1.out) HCE).mono ?_; rintro e w2 ⟨rfl, hg2⟩
      have HG2 : Hid (w.grownBy w2 none) := grown_trans G1.out hg2
      have y0 : w2.cell? ⟨w.heap.size + 1, 0, none⟩ = some (.int .i64 gap) := grown_cell hg2 (grown_cell (show (((w.alloc (.cells #[.string nm, .int .i64 sp, .int .i64 st, .slice so ss.length sc, .slice lo ls.length lc, .slice to_ ts.length tc] 26)).alloc (.cells #[.int .i64 gap] 3))).grownBy ((w.alloc (.cells #[.string nm, .int .i64 sp, .int .i64 st, .slice so ss.length sc, .slice lo ls.length lc, .slice to_ ts.length tc] 26)).alloc (.cells #[.int .i64 gap] 3)) none from World.grownBy.refl _ _) (YB.out.1))
      have z3 : w2.cell? ⟨w.heap.size, 3, none⟩ = some (.slice so ss.length sc) := grown_cell hg2 ZB.out
      clear hg2
      go_wp2_with fail
      refine (twithin_no gap 1 1000000 co _).mono ?_; rintro e w3 ⟨rfl, rfl⟩
      go_wp2_with fail
      go_ret2
      exact ⟨⟨_, rfl, World.ownsRow_nil _ _ _ _⟩, HG2.out⟩
  · rw [if_neg c1] at hv
    simp only [Prod.mk.injEq] at hv
    obtain ⟨rfl, rfl⟩ := hv
    have hne : (ce != 0) = true := by simpa using c1
    clear hce c1
    go_enter Try.func21, Try.ntmps21
    go_wp2_with fail
    refine (check_any ⟨nm, sp, st, so, sc, ss, lo, lc, ls, to_, tc, ts⟩ _ (HA.out.grown G1.out) HCE).mono ?_; rintro e w2 ⟨rfl, hg2⟩
    have HG2 : Hid (w.grownBy w2 none) := grown_trans G1.out hg2
    have y0 : w2.cell? ⟨w.heap.size + 1, 0, none⟩ = some (.int .i64 gap) := grown_cell hg2 (grown_cell (show (((w.alloc (.cells #[.string nm, .int .i64 sp, .int .i64 st, .slice so ss.length sc, .slice lo ls.length lc, .slice to_ ts.length tc] 26)).alloc (.cells #[.int .i64 gap] 3))).grownBy ((w.alloc (.cells #[.string nm, .int .i64 sp, .int .i64 st, .slice so ss.length sc, .slice lo ls.length lc, .slice to_ ts.length tc] 26)).alloc (.cells #[.int .i64 gap] 3)) none from World.grownBy.refl _ _) (YB.out.1))
    have z3 : w2.cell? ⟨w.heap.size, 3, none⟩ = some (.slice so ss.length sc) := grown_cell hg2 ZB.out
    clear hg2
    go_wp2_with fail
    go_ret2
    exact ⟨⟨_, rfl, World.ownsRow_nil _ _ _ _⟩, HG2.out⟩

set_option maxRecDepth 100000 in
set_option maxHeartbeats 3200000 in
theorem Still_any (a : Act) (slow least : Int) (w : World) (ha : ActAt w a) {L : List SpV} {E : Int} (hE : Hid (stillE a slow least = (L, E))) :
    Calls Try.prog 23 #[a.val, .int .i64 slow, .int .i64 least] w fun x w' => (∃ v, x = .returned (.tuple #[v, .int .i64 E]) ∧ w'.ownsRow w.heap.size 45 2 v L.length (L.flatMap spCs)) ∧ w.grownBy w' none := by
  obtain ⟨ce, hce⟩ : ∃ e, chkE a = e := ⟨_, rfl⟩
  have hv := hE.out
  unfold stillE at hv
  rw [hce] at hv
  have HCE := Lib.hid hce; have HA := Lib.hid ha
  obtain ⟨nm, sp, st, so, sc, ss, lo, lc, ls, to_, tc, ts⟩ := a
  have G1 : Hid (w.grownBy ((w.alloc (.cells #[.string nm, .int .i64 sp, .int .i64 st, .slice so ss.length sc, .slice lo ls.length lc, .slice to_ ts.length tc] 26)).alloc (.cells #[.int .i64 slow] 3)) none) := grown_trans (World.grownBy_alloc _ _ _) (World.grownBy_alloc _ _ _)
  have ZB : Hid (((w.alloc (.cells #[.string nm, .int .i64 sp, .int .i64 st, .slice so ss.length sc, .slice lo ls.length lc, .slice to_ ts.length tc] 26)).alloc (.cells #[.int .i64 slow] 3)).cell? ⟨w.heap.size, 3, none⟩ = some (.slice so ss.length sc)) := by show _ = _; go_simp
  have YB : Hid (((w.alloc (.cells #[.string nm, .int .i64 sp, .int .i64 st, .slice so ss.length sc, .slice lo ls.length lc, .slice to_ ts.length tc] 26)).alloc (.cells #[.int .i64 slow] 3)).cell? ⟨w.heap.size + 1, 0, none⟩ = some (.int .i64 slow) ∧ True) := by
    refine ⟨?_, trivial⟩ <;> go_simp
  simp only [Act.val] at *
  clear hE ha
  by_cases c1 : ce = 0
  · rw [if_pos c1] at hv
    subst c1
    have hok := chk_ok hce
    have HS : Hid (SOk ss) := sok_of hok
    have HV := Lib.hid hv
    clear hce hok hv
    by_cases c0 : 0 ≤ slow ∧ slow ≤ 100000
    · by_cases c1 : 1 ≤ least ∧ least ≤ 1000000
      · have hv := HV.out
        rw [if_pos ⟨c0.1, c0.2⟩, if_pos ⟨c1.1, c1.2⟩] at hv
        simp only [Prod.mk.injEq] at hv
        obtain ⟨rfl, rfl⟩ := hv
        go_enter Try.func23, Try.ntmps23
        go_wp2_with fail
        refine (check_any ⟨nm, sp, st, so, sc, ss, lo, lc, ls, to_, tc, ts⟩ _ (HA.out.grown G1.out) HCE).mono ?_; rintro e w2 ⟨rfl, hg2⟩
        have HG2 : Hid (w.grownBy w2 none) := grown_trans G1.out hg2
        have y0 : w2.cell? ⟨w.heap.size + 1, 0, none⟩ = some (.int .i64 slow) := grown_cell hg2 (grown_cell (show (((w.alloc (.cells #[.string nm, .int .i64 sp, .int .i64 st, .slice so ss.length sc, .slice lo ls.length lc, .slice to_ ts.length tc] 26)).alloc (.cells #[.int .i64 slow] 3))).grownBy ((w.alloc (.cells #[.string nm, .int .i64 sp, .int .i64 st, .slice so ss.length sc, .slice lo ls.length lc, .slice to_ ts.length tc] 26)).alloc (.cells #[.int .i64 slow] 3)) none from World.grownBy.refl _ _) (YB.out.1))
        have z3 : w2.cell? ⟨w.heap.size, 3, none⟩ = some (.slice so ss.length sc) := grown_cell hg2 ZB.out
        clear hg2
        have hmf : ∀ (fn : Fn) (first cap : Array Value) (w : World), (Instr.makeFunc fn first cap).run Try.prog w = .ok (.func fn first cap) w := fun _ _ _ _ => rfl
        go_wp2_with fail
        refine (twithin_yes slow 0 100000 c0.1 c0.2 _).mono ?_; rintro e w3 ⟨rfl, rfl⟩
        go_wp2_with fail
        refine (twithin_yes least 1 1000000 c1.1 c1.2 _).mono ?_; rintro e w3 ⟨rfl, rfl⟩
        go_wp2_with fail
        refine (rowsS_is so sc ss least #[.pointer (some ⟨w.heap.size + 1, 0, none⟩)] (stillM ss slow) (by omega) (by omega) w2 (Lib.hid (HA.out.hs.grown HG2.out)) HS (fun k hk W hW => still1_is ss HS slow c0.1 c0.2 k hk (w.heap.size + 1) W (grown_cell hW y0))).mono ?_
        rintro e w4 ⟨⟨v, rfl, ho⟩, hg4⟩
        have HO := Lib.hid (own_baseR ho HG2.out.size)
        have HG4 : Hid (w.grownBy w4 none) := grown_trans HG2.out hg4
        clear ho hg4 y0 z3
        go_wp2_with fail
        go_ret2
        exact ⟨⟨_, rfl, HO.out⟩, HG4.out⟩
      · have hv := HV.out
        rw [if_pos ⟨c0.1, c0.2⟩, if_neg c1] at hv
        simp only [Prod.mk.injEq] at hv
        obtain ⟨rfl, rfl⟩ := hv
        have co : least < 1 ∨ 1000000 < least := by omega
        go_enter Try.func23, Try.ntmps23
        go_wp2_with fail
        refine (check_any ⟨nm, sp, st, so, sc, ss, lo, lc, ls, to_, tc, ts⟩ _ (HA.out.grown G1.out) HCE).mono ?_; rintro e w2 ⟨rfl, hg2⟩
        have HG2 : Hid (w.grownBy w2 none) := grown_trans G1.out hg2
        have y0 : w2.cell? ⟨w.heap.size + 1, 0, none⟩ = some (.int .i64 slow) := grown_cell hg2 (grown_cell (show (((w.alloc (.cells #[.string nm, .int .i64 sp, .int .i64 st, .slice so ss.length sc, .slice lo ls.length lc, .slice to_ ts.length tc] 26)).alloc (.cells #[.int .i64 slow] 3))).grownBy ((w.alloc (.cells #[.string nm, .int .i64 sp, .int .i64 st, .slice so ss.length sc, .slice lo ls.length lc, .slice to_ ts.length tc] 26)).alloc (.cells #[.int .i64 slow] 3)) none from World.grownBy.refl _ _) (YB.out.1))
        have z3 : w2.cell? ⟨w.heap.size, 3, none⟩ = some (.slice so ss.length sc) := grown_cell hg2 ZB.out
        clear hg2
        go_wp2_with fail
        refine (twithin_yes slow 0 100000 c0.1 c0.2 _).mono ?_; rintro e w3 ⟨rfl, rfl⟩
        go_wp2_with fail
        refine (twithin_no least 1 1000000 co _).mono ?_; rintro e w3 ⟨rfl, rfl⟩
        go_wp2_with fail
        go_ret2
        exact ⟨⟨_, rfl, World.ownsRow_nil _ _ _ _⟩, HG2.out⟩
    · have hv := HV.out
      rw [if_neg c0] at hv
      simp only [Prod.mk.injEq] at hv
      obtain ⟨rfl, rfl⟩ := hv
      have co : slow < 0 ∨ 100000 < slow := by omega
      go_enter Try.func23, Try.ntmps23
      go_wp2_with fail
      refine (check_any ⟨nm, sp, st, so, sc, ss, lo, lc, ls, to_, tc, ts⟩ _ (HA.out.grown G1.out) HCE).mono ?_; rintro e w2 ⟨rfl, hg2⟩
      have HG2 : Hid (w.grownBy w2 none) := grown_trans G1.out hg2
      have y0 : w2.cell? ⟨w.heap.size + 1, 0, none⟩ = some (.int .i64 slow) := grown_cell hg2 (grown_cell (show (((w.alloc (.cells #[.string nm, .int .i64 sp, .int .i64 st, .slice so ss.length sc, .slice lo ls.length lc, .slice to_ ts.length tc] 26)).alloc (.cells #[.int .i64 slow] 3))).grownBy ((w.alloc (.cells #[.string nm, .int .i64 sp, .int .i64 st, .slice so ss.length sc, .slice lo ls.length lc, .slice to_ ts.length tc] 26)).alloc (.cells #[.int .i64 slow] 3)) none from World.grownBy.refl _ _) (YB.out.1))
      have z3 : w2.cell? ⟨w.heap.size, 3, none⟩ = some (.slice so ss.length sc) := grown_cell hg2 ZB.out
      clear hg2
      go_wp2_with fail
      refine (twithin_no slow 0 100000 co _).mono ?_; rintro e w3 ⟨rfl, rfl⟩
      go_wp2_with fail
      go_ret2
      exact ⟨⟨_, rfl, World.ownsRow_nil _ _ _ _⟩, HG2.out⟩
  · rw [if_neg c1] at hv
    simp only [Prod.mk.injEq] at hv
    obtain ⟨rfl, rfl⟩ := hv
    have hne : (ce != 0) = true := by simpa using c1
    clear hce c1
    go_enter Try.func23, Try.ntmps23
    go_wp2_with fail
    refine (check_any ⟨nm, sp, st, so, sc, ss, lo, lc, ls, to_, tc, ts⟩ _ (HA.out.grown G1.out) HCE).mono ?_; rintro e w2 ⟨rfl, hg2⟩
    have HG2 : Hid (w.grownBy w2 none) := grown_trans G1.out hg2
    have y0 : w2.cell? ⟨w.heap.size + 1, 0, none⟩ = some (.int .i64 slow) := grown_cell hg2 (grown_cell (show (((w.alloc (.cells #[.string nm, .int .i64 sp, .int .i64 st, .slice so ss.length sc, .slice lo ls.length lc, .slice to_ ts.length tc] 26)).alloc (.cells #[.int .i64 slow] 3))).grownBy ((w.alloc (.cells #[.string nm, .int .i64 sp, .int .i64 st, .slice so ss.length sc, .slice lo ls.length lc, .slice to_ ts.length tc] 26)).alloc (.cells #[.int .i64 slow] 3)) none from World.grownBy.refl _ _) (YB.out.1))
    have z3 : w2.cell? ⟨w.heap.size, 3, none⟩ = some (.slice so ss.length sc) := grown_cell hg2 ZB.out
    clear hg2
    go_wp2_with fail
    go_ret2
    exact ⟨⟨_, rfl, World.ownsRow_nil _ _ _ _⟩, HG2.out⟩

end Go.Proofs.Ytgkhhfojioepgaa
