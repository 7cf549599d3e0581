/- The contract of the reference's Climb, for any activity. -/
import Derived.Test.YtkifmjohcmjeeaaTRClimb
import Derived.Test.YtkifmjohcmjeeaaTClimbO
namespace Go.Proofs.Ytkifmjohcmjeeaa
open Go.RowKit

set_option maxRecDepth 100000 in
set_option maxHeartbeats 1600000 in
theorem rclimb_err (a : Act) (th : Int) (w : World) (ha : ActAt w a) {E : Int} (hE : Hid ((climbE a th).2 = E)) (h0 : E ≠ 0 ∨ a.ss.length < 2) :
    Calls Try.prog 56 #[a.val, .int .i64 th] w fun x w' => x = .returned (.tuple #[.agg #[.int .i64 0, .int .i64 0, .int .i64 0], .int .i64 E]) ∧ w.grownBy w' none := by
  obtain ⟨ce, hce⟩ : ∃ e, chkE a = e := ⟨_, rfl⟩
  have hv := hE.out
  unfold climbE at hv
  rw [hce] at hv
  have HCE := Lib.hid hce
  have HA := Lib.hid ha
  clear hE hce ha
  obtain ⟨nm, sp, st, so, sc, ss, lo, lc, ls, to_, tc, ts⟩ := a
  simp only [Act.val] at *
  by_cases c1 : ce = 0
  · rw [if_pos c1] at hv
    subst c1
    by_cases c2 : 0 ≤ th ∧ th ≤ 200000
    · rw [if_pos c2] at hv
      simp only at hv
      have hs : ss.length < 2 := h0.resolve_left (fun h => h hv.symm)
      have n8 : decide ((ss.length : Int) < 2) = true := by simp; omega
      have HV := Lib.hid hv.symm
      obtain ⟨t0, t1⟩ := c2
      clear hv h0
      go_enter Try.func56, Try.ntmps56
      go_wp2_with fail
      refine (rcheck_any ⟨nm, sp, st, so, sc, ss, lo, lc, ls, to_, tc, ts⟩ _ (HA.out.grown (grown_trans (World.grownBy_alloc _ _ _) (World.grownBy_alloc _ _ _))) HCE).mono ?_; rintro e w1 ⟨rfl, hg1⟩
      have G1 : w.grownBy w1 none := grown_trans (grown_trans (World.grownBy_alloc w (.cells #[.string nm, .int .i64 sp, .int .i64 st, .slice so ss.length sc, .slice lo ls.length lc, .slice to_ ts.length tc] 55) none) (World.grownBy_alloc _ _ _)) hg1
      have b3 : w1.cell? ⟨w.heap.size, 3, none⟩ = some (.slice so ss.length sc) := grown_cell hg1 (by go_simp)
      have kz : w1.heap[w.heap.size + 1]? = some (.cells #[.int .i64 0, .int .i64 0, .int .i64 0] 75 (0, 0)) := by
        rw [hg1.block _ (by simp) (by simp)]
        have q := heap_alloc_new (w.alloc (.cells #[.string nm, .int .i64 sp, .int .i64 st, .slice so ss.length sc, .slice lo ls.length lc, .slice to_ ts.length tc] 55)) (.cells #[.int .i64 0, .int .i64 0, .int .i64 0] 75)
        simpa using q
      have z0 : w1.cell? ⟨w.heap.size + 1, 0, none⟩ = some (.int .i64 0) := by simp [World.cell?, kz]
      have z1 : w1.cell? ⟨w.heap.size + 1, 1, none⟩ = some (.int .i64 0) := by simp [World.cell?, kz]
      have z2 : w1.cell? ⟨w.heap.size + 1, 2, none⟩ = some (.int .i64 0) := by simp [World.cell?, kz]
      have y0 : w1.frozen? ⟨w.heap.size + 1, 0, none⟩ = false := by simp [World.frozen?, kz]
      have y1 : w1.frozen? ⟨w.heap.size + 1, 1, none⟩ = false := by simp [World.frozen?, kz]
      have y2 : w1.frozen? ⟨w.heap.size + 1, 2, none⟩ = false := by simp [World.frozen?, kz]
      have HKZ := Lib.hid kz
      clear hg1 kz
      go_wp2_with fail
      refine (routside_no _ _ _ t0 t1 _).mono ?_; rintro e w2 ⟨rfl, rfl⟩
      go_wp2_with fail
      refine bodyPost_ret (v := .tuple #[.agg #[.int .i64 0, .int .i64 0, .int .i64 0], .int .i64 0]) (by simp [results, Try.results56, go_sem, z0, z1, z2]) rfl ⟨by rw [HV.out], ?_⟩
      exact grown_set (grown_set (grown_set G1 (by omega) _ _) (by omega) _ _) (by omega) _ _
    · rw [if_neg c2] at hv
      simp only at hv
      have HV := Lib.hid hv.symm
      have c3 : th < 0 ∨ 200000 < th := by omega
      have H3 := Lib.hid c3
      clear hv h0 c2 c3
      go_enter Try.func56, Try.ntmps56
      go_wp2_with fail
      refine (rcheck_any ⟨nm, sp, st, so, sc, ss, lo, lc, ls, to_, tc, ts⟩ _ (HA.out.grown (grown_trans (World.grownBy_alloc _ _ _) (World.grownBy_alloc _ _ _))) HCE).mono ?_; rintro e w1 ⟨rfl, hg1⟩
      have G1 : w.grownBy w1 none := grown_trans (grown_trans (World.grownBy_alloc w (.cells #[.string nm, .int .i64 sp, .int .i64 st, .slice so ss.length sc, .slice lo ls.length lc, .slice to_ ts.length tc] 55) none) (World.grownBy_alloc _ _ _)) hg1
      have b3 : w1.cell? ⟨w.heap.size, 3, none⟩ = some (.slice so ss.length sc) := grown_cell hg1 (by go_simp)
      have kz : w1.heap[w.heap.size + 1]? = some (.cells #[.int .i64 0, .int .i64 0, .int .i64 0] 75 (0, 0)) := by
        rw [hg1.block _ (by simp) (by simp)]
        have q := heap_alloc_new (w.alloc (.cells #[.string nm, .int .i64 sp, .int .i64 st, .slice so ss.length sc, .slice lo ls.length lc, .slice to_ ts.length tc] 55)) (.cells #[.int .i64 0, .int .i64 0, .int .i64 0] 75)
        simpa using q
      have z0 : w1.cell? ⟨w.heap.size + 1, 0, none⟩ = some (.int .i64 0) := by simp [World.cell?, kz]
      have z1 : w1.cell? ⟨w.heap.size + 1, 1, none⟩ = some (.int .i64 0) := by simp [World.cell?, kz]
      have z2 : w1.cell? ⟨w.heap.size + 1, 2, none⟩ = some (.int .i64 0) := by simp [World.cell?, kz]
      have y0 : w1.frozen? ⟨w.heap.size + 1, 0, none⟩ = false := by simp [World.frozen?, kz]
      have y1 : w1.frozen? ⟨w.heap.size + 1, 1, none⟩ = false := by simp [World.frozen?, kz]
      have y2 : w1.frozen? ⟨w.heap.size + 1, 2, none⟩ = false := by simp [World.frozen?, kz]
      have HKZ := Lib.hid kz
      clear hg1 kz
      go_wp2_with fail
      refine (routside_yes _ _ _ H3.out _).mono ?_; rintro e w2 ⟨rfl, rfl⟩
      go_wp2_with fail
      refine bodyPost_ret (v := .tuple #[.agg #[.int .i64 0, .int .i64 0, .int .i64 0], .int .i64 9]) (by simp [results, Try.results56, go_sem, z0, z1, z2]) rfl ⟨by rw [HV.out], ?_⟩
      exact grown_set (grown_set (grown_set G1 (by omega) _ _) (by omega) _ _) (by omega) _ _
  · rw [if_neg c1] at hv
    simp only at hv
    have HV := Lib.hid hv.symm
    have hne : (ce != 0) = true := by simpa using c1
    clear hv h0 c1
    go_enter Try.func56, Try.ntmps56
    go_wp2_with fail
    refine (rcheck_any ⟨nm, sp, st, so, sc, ss, lo, lc, ls, to_, tc, ts⟩ _ (HA.out.grown (grown_trans (World.grownBy_alloc _ _ _) (World.grownBy_alloc _ _ _))) HCE).mono ?_; rintro e w1 ⟨rfl, hg1⟩
    have G1 : w.grownBy w1 none := grown_trans (grown_trans (World.grownBy_alloc w (.cells #[.string nm, .int .i64 sp, .int .i64 st, .slice so ss.length sc, .slice lo ls.length lc, .slice to_ ts.length tc] 55) none) (World.grownBy_alloc _ _ _)) hg1
    have b3 : w1.cell? ⟨w.heap.size, 3, none⟩ = some (.slice so ss.length sc) := grown_cell hg1 (by go_simp)
    have kz : w1.heap[w.heap.size + 1]? = some (.cells #[.int .i64 0, .int .i64 0, .int .i64 0] 75 (0, 0)) := by
      rw [hg1.block _ (by simp) (by simp)]
      have q := heap_alloc_new (w.alloc (.cells #[.string nm, .int .i64 sp, .int .i64 st, .slice so ss.length sc, .slice lo ls.length lc, .slice to_ ts.length tc] 55)) (.cells #[.int .i64 0, .int .i64 0, .int .i64 0] 75)
      simpa using q
    have z0 : w1.cell? ⟨w.heap.size + 1, 0, none⟩ = some (.int .i64 0) := by simp [World.cell?, kz]
    have z1 : w1.cell? ⟨w.heap.size + 1, 1, none⟩ = some (.int .i64 0) := by simp [World.cell?, kz]
    have z2 : w1.cell? ⟨w.heap.size + 1, 2, none⟩ = some (.int .i64 0) := by simp [World.cell?, kz]
    have y0 : w1.frozen? ⟨w.heap.size + 1, 0, none⟩ = false := by simp [World.frozen?, kz]
    have y1 : w1.frozen? ⟨w.heap.size + 1, 1, none⟩ = false := by simp [World.frozen?, kz]
    have y2 : w1.frozen? ⟨w.heap.size + 1, 2, none⟩ = false := by simp [World.frozen?, kz]
    have HKZ := Lib.hid kz
    clear hg1 kz
    go_wp2_with fail
    refine bodyPost_ret (v := .tuple #[.agg #[.int .i64 0, .int .i64 0, .int .i64 0], .int .i64 ce]) (by simp [results, Try.results56, go_sem, z0, z1, z2]) rfl ⟨by rw [HV.out], ?_⟩
    exact grown_set (grown_set (grown_set G1 (by omega) _ _) (by omega) _ _) (by omega) _ _

set_option maxRecDepth 100000 in
theorem rclimb_any (a : Act) (th : Int) (w : World) (ha : ActAt w a) (hc : a.ss.length ≤ a.sc) {r : Ln} {E : Int} (hE : Hid (climbE a th = (r, E))) :
    Calls Try.prog 56 #[a.val, .int .i64 th] w fun x w' => x = .returned (.tuple #[.agg #[.int .i64 r.up, .int .i64 r.down, .int .i64 r.turns], .int .i64 E]) ∧ w.grownBy w' none := by
  by_cases h0 : E ≠ 0 ∨ a.ss.length < 2
  · have hr : r.up = 0 ∧ r.down = 0 ∧ r.turns = 0 := by
      by_cases h1 : E ≠ 0 ∨ a.ss = []
      · rw [fst_not hE.out h1]; exact ⟨rfl, rfl, rfl⟩
      · have hE0 : E = 0 := Classical.byContradiction fun h => h1 (.inl h)
        have hss : a.ss ≠ [] := fun h => h1 (.inr h)
        subst hE0
        obtain ⟨f1, f2, f3, f4, f5, f6⟩ := climb_facts hE.out
        have h2 : a.ss.length < 2 := h0.resolve_left (fun h => h rfl)
        obtain ⟨nm, sp, st, so, sc, ss, lo, lc, ls, to_, tc, ts⟩ := a
        simp only at *
        match ss, hss, h2 with
        | [y], _, _ => rw [← f4]; exact ⟨rfl, rfl, rfl⟩
        | _ :: _ :: _, _, h => simp at h; omega
    rw [hr.1, hr.2.1, hr.2.2]
    exact rclimb_err a th w ha (E := E) (by show _ = _; rw [hE.out]) h0
  · have hE0 : E = 0 := Classical.byContradiction fun h => h0 (.inl h)
    have h2 : 2 ≤ a.ss.length := Classical.byContradiction fun h => h0 (.inr (by omega))
    subst hE0
    obtain ⟨f1, f2, f3, f4, f5, f6⟩ := climb_facts hE.out
    obtain ⟨nm, sp, st, so, sc, ss, lo, lc, ls, to_, tc, ts⟩ := a
    simp only at *
    have hss : ss ≠ [] := fun h => by rw [h] at h2; simp at h2
    obtain ⟨b, off, rfl⟩ : ∃ b off, so = some ⟨b, off, none⟩ := by
      have hn := ha.hs
      cases so with
      | none => exact absurd (hn.nil rfl) hss
      | some p =>
        obtain ⟨b, off, spot⟩ := p
        have hsp := hn.spot _ rfl hss
        simp only at hsp
        subst hsp
        exact ⟨b, off, rfl⟩
    exact rclimb_two nm sp st b off sc ss lo lc ls to_ tc ts th f2 f3 f5 h2 hc w (Lib.hid ha) (Lib.hid f1) (Lib.hid f6) (Lib.hid f4)

end Go.Proofs.Ytkifmjohcmjeeaa
