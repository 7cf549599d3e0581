/- For all samples and activities, Step and Ways return what the reference returns: the walk. -/
import Derived.Test.YtgkhhfojioepgaaBaseD
import Derived.Test.YtgkhhfojioepgaaTRWaysM
namespace Go.Proofs.Ytgkhhfojioepgaa
open Go.RowKit
set_option linter.unusedSimpArgs false
set_option linter.unusedVariables false

set_option maxRecDepth 100000 in
set_option maxHeartbeats 1600000 in
theorem ways_law (a : Act) (p q : Smp) (w : World) (ha : ActAt w a) :
    Calls Try.prog 12 #[a.val, .agg #[.int .i64 p.t, .int .i64 p.x, .int .i64 p.y, .int .i64 p.z, .int .i64 p.p, .int .i64 p.q, .int .i64 p.s], .agg #[.int .i64 q.t, .int .i64 q.x, .int .i64 q.y, .int .i64 q.z, .int .i64 q.p, .int .i64 q.q, .int .i64 q.s]] w fun e w' => e = .returned (.bool true) ∧ w.grownBy w' none := by
  rcases hse : stepE p q with ⟨m, e⟩
  rcases hwe : waysE a with ⟨n, E⟩
  have hn : n ≤ 9223372036854775807 := by
    unfold waysE at hwe
    split at hwe
    · rename_i h0
      have := (chk_ok h0).sl
      simp only [Prod.mk.injEq] at hwe
      omega
    · simp only [Prod.mk.injEq] at hwe; omega
  have HSE := Lib.hid hse; have HWE := Lib.hid hwe; have HN := Lib.hid hn; have HA := Lib.hid ha
  clear hse hwe hn ha
  obtain ⟨nm, sp, st, so, sc, ss, lo, lc, ls, to_, tc, ts⟩ := a
  obtain ⟨pt, px, py, pz, pp, pq, ps⟩ := p
  obtain ⟨qt, qx, qy, qz, qp, qq, qs⟩ := q
  simp only [Act.val]
  have GB : Hid (w.grownBy (((w.alloc (.cells #[.string nm, .int .i64 sp, .int .i64 st, .slice so ss.length sc, .slice lo ls.length lc, .slice to_ ts.length tc] 26)).alloc (.cells #[.int .i64 pt, .int .i64 px, .int .i64 py, .int .i64 pz, .int .i64 pp, .int .i64 pq, .int .i64 ps] 28)).alloc (.cells #[.int .i64 qt, .int .i64 qx, .int .i64 qy, .int .i64 qz, .int .i64 qp, .int .i64 qq, .int .i64 qs] 28)) none) := grown_trans (grown_trans (World.grownBy_alloc _ _ _) (World.grownBy_alloc _ _ _)) (World.grownBy_alloc _ _ _)
  go_enter Try.func12, Try.ntmps12
  go_wp2_with fail
  refine (step_any ⟨pt, px, py, pz, pp, pq, ps⟩ ⟨qt, qx, qy, qz, qp, qq, qs⟩ _ HSE).mono ?_; rintro x w1 ⟨rfl, hg1⟩
  have K := Lib.hid hg1
  have x0 : w1.cell? ⟨w.heap.size + 1, 0, none⟩ = some (.int .i64 pt) := grown_cell K.out (by go_simp)
  have x1 : w1.cell? ⟨w.heap.size + 1, 1, none⟩ = some (.int .i64 px) := grown_cell K.out (by go_simp)
  have x2 : w1.cell? ⟨w.heap.size + 1, 2, none⟩ = some (.int .i64 py) := grown_cell K.out (by go_simp)
  have x3 : w1.cell? ⟨w.heap.size + 1, 3, none⟩ = some (.int .i64 pz) := grown_cell K.out (by go_simp)
  have x4 : w1.cell? ⟨w.heap.size + 1, 4, none⟩ = some (.int .i64 pp) := grown_cell K.out (by go_simp)
  have x5 : w1.cell? ⟨w.heap.size + 1, 5, none⟩ = some (.int .i64 pq) := grown_cell K.out (by go_simp)
  have x6 : w1.cell? ⟨w.heap.size + 1, 6, none⟩ = some (.int .i64 ps) := grown_cell K.out (by go_simp)
  have y0 : w1.cell? ⟨w.heap.size + 1 + 1, 0, none⟩ = some (.int .i64 qt) := grown_cell K.out (by go_simp)
  have y1 : w1.cell? ⟨w.heap.size + 1 + 1, 1, none⟩ = some (.int .i64 qx) := grown_cell K.out (by go_simp)
  have y2 : w1.cell? ⟨w.heap.size + 1 + 1, 2, none⟩ = some (.int .i64 qy) := grown_cell K.out (by go_simp)
  have y3 : w1.cell? ⟨w.heap.size + 1 + 1, 3, none⟩ = some (.int .i64 qz) := grown_cell K.out (by go_simp)
  have y4 : w1.cell? ⟨w.heap.size + 1 + 1, 4, none⟩ = some (.int .i64 qp) := grown_cell K.out (by go_simp)
  have y5 : w1.cell? ⟨w.heap.size + 1 + 1, 5, none⟩ = some (.int .i64 qq) := grown_cell K.out (by go_simp)
  have y6 : w1.cell? ⟨w.heap.size + 1 + 1, 6, none⟩ = some (.int .i64 qs) := grown_cell K.out (by go_simp)
  clear hg1
  go_wp2_with fail
  refine (rstep_any ⟨pt, px, py, pz, pp, pq, ps⟩ ⟨qt, qx, qy, qz, qp, qq, qs⟩ _ HSE).mono ?_; rintro x w2 ⟨rfl, hg2⟩
  replace K := Lib.hid (grown_trans K.out hg2)
  clear x0 y0 x1 y1 x2 y2 x3 y3 x4 y4 x5 y5 x6 y6 hg2
  have a0 : w2.cell? ⟨w.heap.size, 0, none⟩ = some (.string nm) := grown_cell K.out (by go_simp)
  have a1 : w2.cell? ⟨w.heap.size, 1, none⟩ = some (.int .i64 sp) := grown_cell K.out (by go_simp)
  have a2 : w2.cell? ⟨w.heap.size, 2, none⟩ = some (.int .i64 st) := grown_cell K.out (by go_simp)
  have a3 : w2.cell? ⟨w.heap.size, 3, none⟩ = some (.slice so ss.length sc) := grown_cell K.out (by go_simp)
  have a4 : w2.cell? ⟨w.heap.size, 4, none⟩ = some (.slice lo ls.length lc) := grown_cell K.out (by go_simp)
  have a5 : w2.cell? ⟨w.heap.size, 5, none⟩ = some (.slice to_ ts.length tc) := grown_cell K.out (by go_simp)
  go_wp2_with fail
  refine (ways_any ⟨nm, sp, st, so, sc, ss, lo, lc, ls, to_, tc, ts⟩ _ (HA.out.grown (grown_trans GB.out K.out)) HWE).mono ?_; rintro x w3 ⟨⟨ao1, c1, rfl, hI1⟩, hg3⟩
  have HI1 := Lib.hid hI1
  replace K := Lib.hid (grown_trans K.out hg3)
  clear a0 a1 a2 a3 a4 a5 hg3 hI1
  have a0 : w3.cell? ⟨w.heap.size, 0, none⟩ = some (.string nm) := grown_cell K.out (by go_simp)
  have a1 : w3.cell? ⟨w.heap.size, 1, none⟩ = some (.int .i64 sp) := grown_cell K.out (by go_simp)
  have a2 : w3.cell? ⟨w.heap.size, 2, none⟩ = some (.int .i64 st) := grown_cell K.out (by go_simp)
  have a3 : w3.cell? ⟨w.heap.size, 3, none⟩ = some (.slice so ss.length sc) := grown_cell K.out (by go_simp)
  have a4 : w3.cell? ⟨w.heap.size, 4, none⟩ = some (.slice lo ls.length lc) := grown_cell K.out (by go_simp)
  have a5 : w3.cell? ⟨w.heap.size, 5, none⟩ = some (.slice to_ ts.length tc) := grown_cell K.out (by go_simp)
  go_wp2_with fail
  refine (rways_any ⟨nm, sp, st, so, sc, ss, lo, lc, ls, to_, tc, ts⟩ _ (HA.out.grown (grown_trans GB.out K.out)) HWE).mono ?_; rintro x w4 ⟨⟨ao2, c2, rfl, hI2⟩, hg4⟩
  have HI2 := Lib.hid hI2
  have HI3 := Lib.hid (HI1.out.grown hg4)
  replace K := Lib.hid (grown_trans K.out hg4)
  clear a0 a1 a2 a3 a4 a5 hg4 hI2 HI1
  go_wp2_with fail
  refine (equal_ints HI3.out HI2.out (fun _ _ => rfl) HN.out).mono ?_; rintro x w5 ⟨rfl, hg5⟩
  replace K := Lib.hid (grown_trans K.out hg5)
  clear hg5
  go_wp2_with fail
  refine (told_any _).mono ?_; rintro x w6 ⟨rfl, hg6⟩
  replace K := Lib.hid (grown_trans K.out hg6)
  clear hg6
  go_wp2_with fail
  go_ret
  exact ⟨by first | rfl | simp, grown_trans GB.out K.out⟩

end Go.Proofs.Ytgkhhfojioepgaa
