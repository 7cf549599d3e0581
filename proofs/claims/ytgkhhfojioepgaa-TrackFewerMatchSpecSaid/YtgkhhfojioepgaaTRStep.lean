/- The contracts of the reference's Step. -/
import Derived.Test.YtgkhhfojioepgaaBaseB
import Derived.Test.YtgkhhfojioepgaaTRRoot
namespace Go.Proofs.Ytgkhhfojioepgaa
open Go.RowKit
set_option linter.unusedSimpArgs false
set_option linter.unusedVariables false

theorem rout_no (n lo hi : Int) (h0 : lo ≤ n) (h1 : n ≤ hi) (w : World) : Calls Try.prog 59 #[.int .i64 n, .int .i64 lo, .int .i64 hi] w fun e w' => e = .returned (.bool false) ∧ w = w' := by
  have h2 : decide (n < lo) = false := by simp; omega
  have h3 : decide (hi < n) = false := by simp; omega
  go_enter Try.func59, Try.ntmps59
  go_wp2
  go_ret
  exact ⟨ret_bool (by first | rfl | (simp; omega)), rfl⟩
theorem rout_yes (n lo hi : Int) (h : n < lo ∨ hi < n) (w : World) : Calls Try.prog 59 #[.int .i64 n, .int .i64 lo, .int .i64 hi] w fun e w' => e = .returned (.bool true) ∧ w = w' := by
  by_cases h0 : n < lo
  · clear h
    go_enter Try.func59, Try.ntmps59
    go_wp2
    go_ret
    exact ⟨ret_bool (by first | rfl | (simp; omega)), rfl⟩
  · have h1 : hi < n := by omega
    have h2 : decide (n < lo) = false := by simp; omega
    clear h
    go_enter Try.func59, Try.ntmps59
    go_wp2
    go_ret
    exact ⟨ret_bool (by first | rfl | (simp; omega)), rfl⟩

theorem isPlace_yes (x : Smp) (h : inPlane x) (w : World) :
    Calls Try.prog 106 #[.agg #[.int .i64 x.t, .int .i64 x.x, .int .i64 x.y, .int .i64 x.z, .int .i64 x.p, .int .i64 x.q, .int .i64 x.s]] w fun e w' => e = .returned (.bool true) ∧ w.grownBy w' none := by
  obtain ⟨t, x, y, z, p, q, s⟩ := x
  have H := Lib.hid h; clear h
  go_enter Try.func106, Try.ntmps106
  go_wp2_with fail
  refine (rout_no _ _ _ H.out.1.1 H.out.1.2 _).mono ?_; rintro e w1 ⟨rfl, rfl⟩
  go_wp2_with fail
  refine (rout_no _ _ _ H.out.2.1 H.out.2.2 _).mono ?_; rintro e w1 ⟨rfl, rfl⟩
  go_wp2_with fail
  go_ret
  exact ⟨rfl, World.grownBy_alloc _ _ _⟩
theorem isPlace_no (x : Smp) (h : ¬ inPlane x) (w : World) :
    Calls Try.prog 106 #[.agg #[.int .i64 x.t, .int .i64 x.x, .int .i64 x.y, .int .i64 x.z, .int .i64 x.p, .int .i64 x.q, .int .i64 x.s]] w fun e w' => e = .returned (.bool false) ∧ w.grownBy w' none := by
  obtain ⟨t, x, y, z, p, q, s⟩ := x
  unfold inPlane at h
  simp only at h ⊢
  by_cases h1 : -100000000 ≤ x ∧ x ≤ 100000000
  · have h3 : y < -100000000 ∨ 100000000 < y := by omega
    have H1 := Lib.hid h1; have H3 := Lib.hid h3; clear h h1 h3
    go_enter Try.func106, Try.ntmps106
    go_wp2_with fail
    refine (rout_no _ _ _ H1.out.1 H1.out.2 _).mono ?_; rintro e w1 ⟨rfl, rfl⟩
    go_wp2_with fail
    refine (rout_yes _ _ _ H3.out _).mono ?_; rintro e w1 ⟨rfl, rfl⟩
    go_wp2_with fail
    go_ret
    exact ⟨rfl, World.grownBy_alloc _ _ _⟩
  · have h3 : x < -100000000 ∨ 100000000 < x := by omega
    have H3 := Lib.hid h3; clear h h1 h3
    go_enter Try.func106, Try.ntmps106
    go_wp2_with fail
    refine (rout_yes _ _ _ H3.out _).mono ?_; rintro e w1 ⟨rfl, rfl⟩
    go_wp2_with fail
    go_ret
    exact ⟨rfl, World.grownBy_alloc _ _ _⟩
theorem rsquare_is (a : Int) (h0 : -200000000 ≤ a) (h1 : a ≤ 200000000) (w : World) {n : Int} (h : Hid (a * a = n)) :
    Calls Try.prog 147 #[.int .i64 a] w fun e w' => e = .returned (.int .i64 n) ∧ w' = w := by
  have b := sq_bd h0 h1
  have m : IntKind.i64.wrap (a * a) = n := by rw [h.out]; exact IntWalk.i64_in _ (by rw [← h.out]; omega)
  clear b
  go_enter Try.func147, Try.ntmps147
  go_wp2_with fail
  go_ret
  exact ⟨rfl, rfl⟩
set_option maxRecDepth 100000 in
set_option maxHeartbeats 800000 in
theorem apart_is (p q : Smp) (hp : inPlane p) (hq : inPlane q) (w : World) {n : Int} (h : Hid (sqP p q = n)) :
    Calls Try.prog 108 #[.agg #[.int .i64 p.t, .int .i64 p.x, .int .i64 p.y, .int .i64 p.z, .int .i64 p.p, .int .i64 p.q, .int .i64 p.s], .agg #[.int .i64 q.t, .int .i64 q.x, .int .i64 q.y, .int .i64 q.z, .int .i64 q.p, .int .i64 q.q, .int .i64 q.s]] w fun e w' => e = .returned (.int .i64 n) ∧ w.grownBy w' none := by
  obtain ⟨pt, px, py, pz, pp, pq, ps⟩ := p
  obtain ⟨qt, qx, qy, qz, qp, qq, qs⟩ := q
  unfold inPlane at hp hq
  simp only at hp hq
  have hn : (qx - px) * (qx - px) + (qy - py) * (qy - py) = n := h.out
  obtain ⟨dx, hdx⟩ : ∃ d, px - qx = d := ⟨_, rfl⟩
  obtain ⟨dy, hdy⟩ : ∃ d, py - qy = d := ⟨_, rfl⟩
  have ex : qx - px = -dx := by omega
  have ey : qy - py = -dy := by omega
  rw [ex, ey, Int.neg_mul_neg, Int.neg_mul_neg] at hn
  have bx := sq_bd (a := dx) (by omega) (by omega)
  have by_ := sq_bd (a := dy) (by omega) (by omega)
  have rx : IntKind.i64.wrap (px - qx) = dx := by rw [hdx]; exact IntWalk.i64_in _ (by omega)
  have ry : IntKind.i64.wrap (py - qy) = dy := by rw [hdy]; exact IntWalk.i64_in _ (by omega)
  have dx0 : -200000000 ≤ dx := by omega
  have dx1 : dx ≤ 200000000 := by omega
  have dy0 : -200000000 ≤ dy := by omega
  have dy1 : dy ≤ 200000000 := by omega
  obtain ⟨X, hX⟩ : ∃ d, dx * dx = d := ⟨_, rfl⟩
  obtain ⟨Y, hY⟩ : ∃ d, dy * dy = d := ⟨_, rfl⟩
  rw [hX, hY] at hn
  rw [hX] at bx
  rw [hY] at by_
  have sm : IntKind.i64.wrap (X + Y) = n := by rw [hn]; exact IntWalk.i64_in _ (by omega)
  have HX := Lib.hid hX; have HY := Lib.hid hY; have HDX := Lib.hid hdx; have HDY := Lib.hid hdy; have HP := Lib.hid hp; have HQ := Lib.hid hq; have HBX := Lib.hid bx; have HBY := Lib.hid by_
  have D0 := Lib.hid dx0; have D1 := Lib.hid dx1; have D2 := Lib.hid dy0; have D3 := Lib.hid dy1
  clear hX hY hdx hdy hp hq h hn ex ey bx by_ dx0 dx1 dy0 dy1
  go_enter Try.func108, Try.ntmps108
  go_wp2_with fail
  go_quiet ((go_at_call 147; first | exact Calls.quiet_of_same (rsquare_is dx D0.out D1.out _ HX) | exact Calls.quiet_of_same (rsquare_is dy D2.out D3.out _ HY)))
  go_wp2_with fail
  go_ret
  exact ⟨rfl, grown_trans (grown_trans (World.grownBy_alloc _ _ _) (World.grownBy_alloc _ _ _)) (grown_drewN _ _ _)⟩

set_option maxHeartbeats 800000 in
theorem rstep_any (p q : Smp) (w : World) {n e : Int} (h : Hid (stepE p q = (n, e))) :
    Calls Try.prog 46 #[.agg #[.int .i64 p.t, .int .i64 p.x, .int .i64 p.y, .int .i64 p.z, .int .i64 p.p, .int .i64 p.q, .int .i64 p.s], .agg #[.int .i64 q.t, .int .i64 q.x, .int .i64 q.y, .int .i64 q.z, .int .i64 q.p, .int .i64 q.q, .int .i64 q.s]] w fun x w' => x = .returned (.tuple #[.int .i64 n, .int .i64 e]) ∧ w.grownBy w' none := by
  by_cases h1 : inPlane p
  · by_cases h2 : inPlane q
    · have hv : (n, e) = (stepW p q, 0) := by rw [← h.out]; unfold stepE; rw [if_pos ⟨h1, h2⟩]
      simp only [Prod.mk.injEq] at hv
      have HV := Lib.hid hv.1
      obtain rfl := hv.2
      have H1 := Lib.hid h1; have H2 := Lib.hid h2
      clear hv h1 h2 h
      obtain ⟨pt, px, py, pz, pp, pq, ps⟩ := p
      obtain ⟨qt, qx, qy, qz, qp, qq, qs⟩ := q
      go_enter Try.func46, Try.ntmps46
      go_wp2_with fail
      refine (isPlace_yes ⟨pt, px, py, pz, pp, pq, ps⟩ H1.out _).mono ?_; rintro x w1 ⟨rfl, hg1⟩
      have G1 := grown_trans (grown_trans (World.grownBy_alloc w (.cells #[.int .i64 pt, .int .i64 px, .int .i64 py, .int .i64 pz, .int .i64 pp, .int .i64 pq, .int .i64 ps] 28) none) (World.grownBy_alloc _ (.cells #[.int .i64 qt, .int .i64 qx, .int .i64 qy, .int .i64 qz, .int .i64 qp, .int .i64 qq, .int .i64 qs] 28) none)) hg1
      have ap0 : w1.cell? ⟨w.heap.size, 0, none⟩ = some (.int .i64 pt) := grown_cell hg1 (by simp)
      have aq0 : w1.cell? ⟨w.heap.size + 1, 0, none⟩ = some (.int .i64 qt) := grown_cell hg1 (by simp)
      have ap1 : w1.cell? ⟨w.heap.size, 1, none⟩ = some (.int .i64 px) := grown_cell hg1 (by simp)
      have aq1 : w1.cell? ⟨w.heap.size + 1, 1, none⟩ = some (.int .i64 qx) := grown_cell hg1 (by simp)
      have ap2 : w1.cell? ⟨w.heap.size, 2, none⟩ = some (.int .i64 py) := grown_cell hg1 (by simp)
      have aq2 : w1.cell? ⟨w.heap.size + 1, 2, none⟩ = some (.int .i64 qy) := grown_cell hg1 (by simp)
      have ap3 : w1.cell? ⟨w.heap.size, 3, none⟩ = some (.int .i64 pz) := grown_cell hg1 (by simp)
      have aq3 : w1.cell? ⟨w.heap.size + 1, 3, none⟩ = some (.int .i64 qz) := grown_cell hg1 (by simp)
      have ap4 : w1.cell? ⟨w.heap.size, 4, none⟩ = some (.int .i64 pp) := grown_cell hg1 (by simp)
      have aq4 : w1.cell? ⟨w.heap.size + 1, 4, none⟩ = some (.int .i64 qp) := grown_cell hg1 (by simp)
      have ap5 : w1.cell? ⟨w.heap.size, 5, none⟩ = some (.int .i64 pq) := grown_cell hg1 (by simp)
      have aq5 : w1.cell? ⟨w.heap.size + 1, 5, none⟩ = some (.int .i64 qq) := grown_cell hg1 (by simp)
      have ap6 : w1.cell? ⟨w.heap.size, 6, none⟩ = some (.int .i64 ps) := grown_cell hg1 (by simp)
      have aq6 : w1.cell? ⟨w.heap.size + 1, 6, none⟩ = some (.int .i64 qs) := grown_cell hg1 (by simp)
      clear hg1
      go_wp2_with fail
      refine (isPlace_yes ⟨qt, qx, qy, qz, qp, qq, qs⟩ H2.out _).mono ?_; rintro x w2 ⟨rfl, hg1⟩
      have G2 := grown_trans G1 hg1
      replace ap0 := grown_cell hg1 ap0
      replace aq0 := grown_cell hg1 aq0
      replace ap1 := grown_cell hg1 ap1
      replace aq1 := grown_cell hg1 aq1
      replace ap2 := grown_cell hg1 ap2
      replace aq2 := grown_cell hg1 aq2
      replace ap3 := grown_cell hg1 ap3
      replace aq3 := grown_cell hg1 aq3
      replace ap4 := grown_cell hg1 ap4
      replace aq4 := grown_cell hg1 aq4
      replace ap5 := grown_cell hg1 ap5
      replace aq5 := grown_cell hg1 aq5
      replace ap6 := grown_cell hg1 ap6
      replace aq6 := grown_cell hg1 aq6
      clear hg1 G1
      go_wp2_with fail
      have hb := sqP_bd H1.out H2.out
      obtain ⟨R, hR, hi⟩ := rootI_is (sqP ⟨pt, px, py, pz, pp, pq, ps⟩ ⟨qt, qx, qy, qz, qp, qq, qs⟩)
      obtain ⟨m, hm⟩ : ∃ m : Nat, (m : Int) = sqP ⟨pt, px, py, pz, pp, pq, ps⟩ ⟨qt, qx, qy, qz, qp, qq, qs⟩ := ⟨(sqP ⟨pt, px, py, pz, pp, pq, ps⟩ ⟨qt, qx, qy, qz, qp, qq, qs⟩).toNat, by omega⟩
      have HM : Hid (sqP ⟨pt, px, py, pz, pp, pq, ps⟩ ⟨qt, qx, qy, qz, qp, qq, qs⟩ = (m : Int)) := hm.symm
      have hmt : (sqP ⟨pt, px, py, pz, pp, pq, ps⟩ ⟨qt, qx, qy, qz, qp, qq, qs⟩).toNat = m := by omega
      rw [hmt] at hi
      have HI := Lib.hid hi
      have hml : m < 9223372036854775808 := by omega
      have HML := Lib.hid hml
      have HV2 : Hid ((R : Int) = n) := by show _ = _; rw [HV.out, ← hR]; rfl
      clear hb hR hi hm hmt hml
      refine (apart_is ⟨pt, px, py, pz, pp, pq, ps⟩ ⟨qt, qx, qy, qz, qp, qq, qs⟩ H1.out H2.out _ HM).mono ?_; rintro x w3 ⟨rfl, hg3⟩
      have G3 := grown_trans G2 hg3
      clear hg3 G2
      go_wp2_with fail
      refine (refRoot_any m R HML.out HI _).mono ?_; rintro e w4 ⟨rfl, rfl⟩
      go_wp2_with fail
      go_ret2
      exact ⟨ret_ii HV2.out rfl, G3⟩
    · have hv : (n, e) = (0, 9) := by rw [← h.out]; unfold stepE; rw [if_neg (fun h => h2 h.2)]
      simp only [Prod.mk.injEq] at hv
      obtain ⟨rfl, rfl⟩ := hv
      have H1 := Lib.hid h1; have H2 := Lib.hid h2
      clear h1 h2 h
      obtain ⟨pt, px, py, pz, pp, pq, ps⟩ := p
      obtain ⟨qt, qx, qy, qz, qp, qq, qs⟩ := q
      go_enter Try.func46, Try.ntmps46
      go_wp2_with fail
      refine (isPlace_yes ⟨pt, px, py, pz, pp, pq, ps⟩ H1.out _).mono ?_; rintro x w1 ⟨rfl, hg1⟩
      have G1 := grown_trans (grown_trans (World.grownBy_alloc w (.cells #[.int .i64 pt, .int .i64 px, .int .i64 py, .int .i64 pz, .int .i64 pp, .int .i64 pq, .int .i64 ps] 28) none) (World.grownBy_alloc _ (.cells #[.int .i64 qt, .int .i64 qx, .int .i64 qy, .int .i64 qz, .int .i64 qp, .int .i64 qq, .int .i64 qs] 28) none)) hg1
      have ap0 : w1.cell? ⟨w.heap.size, 0, none⟩ = some (.int .i64 pt) := grown_cell hg1 (by simp)
      have aq0 : w1.cell? ⟨w.heap.size + 1, 0, none⟩ = some (.int .i64 qt) := grown_cell hg1 (by simp)
      have ap1 : w1.cell? ⟨w.heap.size, 1, none⟩ = some (.int .i64 px) := grown_cell hg1 (by simp)
      have aq1 : w1.cell? ⟨w.heap.size + 1, 1, none⟩ = some (.int .i64 qx) := grown_cell hg1 (by simp)
      have ap2 : w1.cell? ⟨w.heap.size, 2, none⟩ = some (.int .i64 py) := grown_cell hg1 (by simp)
      have aq2 : w1.cell? ⟨w.heap.size + 1, 2, none⟩ = some (.int .i64 qy) := grown_cell hg1 (by simp)
      have ap3 : w1.cell? ⟨w.heap.size, 3, none⟩ = some (.int .i64 pz) := grown_cell hg1 (by simp)
      have aq3 : w1.cell? ⟨w.heap.size + 1, 3, none⟩ = some (.int .i64 qz) := grown_cell hg1 (by simp)
      have ap4 : w1.cell? ⟨w.heap.size, 4, none⟩ = some (.int .i64 pp) := grown_cell hg1 (by simp)
      have aq4 : w1.cell? ⟨w.heap.size + 1, 4, none⟩ = some (.int .i64 qp) := grown_cell hg1 (by simp)
      have ap5 : w1.cell? ⟨w.heap.size, 5, none⟩ = some (.int .i64 pq) := grown_cell hg1 (by simp)
      have aq5 : w1.cell? ⟨w.heap.size + 1, 5, none⟩ = some (.int .i64 qq) := grown_cell hg1 (by simp)
      have ap6 : w1.cell? ⟨w.heap.size, 6, none⟩ = some (.int .i64 ps) := grown_cell hg1 (by simp)
      have aq6 : w1.cell? ⟨w.heap.size + 1, 6, none⟩ = some (.int .i64 qs) := grown_cell hg1 (by simp)
      clear hg1
      go_wp2_with fail
      refine (isPlace_no ⟨qt, qx, qy, qz, qp, qq, qs⟩ H2.out _).mono ?_; rintro x w2 ⟨rfl, hg1⟩
      have G2 := grown_trans G1 hg1
      clear hg1 G1
      go_wp2_with fail
      go_ret2
      exact ⟨rfl, G2⟩
  · have hv : (n, e) = (0, 9) := by rw [← h.out]; unfold stepE; rw [if_neg (fun h => h1 h.1)]
    simp only [Prod.mk.injEq] at hv
    obtain ⟨rfl, rfl⟩ := hv
    have H1 := Lib.hid h1
    clear h1 h
    obtain ⟨pt, px, py, pz, pp, pq, ps⟩ := p
    obtain ⟨qt, qx, qy, qz, qp, qq, qs⟩ := q
    go_enter Try.func46, Try.ntmps46
    go_wp2_with fail
    refine (isPlace_no ⟨pt, px, py, pz, pp, pq, ps⟩ H1.out _).mono ?_; rintro x w1 ⟨rfl, hg1⟩
    have G1 := grown_trans (grown_trans (World.grownBy_alloc w (.cells #[.int .i64 pt, .int .i64 px, .int .i64 py, .int .i64 pz, .int .i64 pp, .int .i64 pq, .int .i64 ps] 28) none) (World.grownBy_alloc _ (.cells #[.int .i64 qt, .int .i64 qx, .int .i64 qy, .int .i64 qz, .int .i64 qp, .int .i64 qq, .int .i64 qs] 28) none)) hg1
    clear hg1
    go_wp2_with fail
    go_ret2
    exact ⟨rfl, G1⟩
set_option maxHeartbeats 800000 in
theorem length_is (p q : Smp) (hp : inPlane p) (hq : inPlane q) (w : World) {n : Int} (h : Hid (stepW p q = n)) :
    Calls Try.prog 75 #[.agg #[.int .i64 p.t, .int .i64 p.x, .int .i64 p.y, .int .i64 p.z, .int .i64 p.p, .int .i64 p.q, .int .i64 p.s], .agg #[.int .i64 q.t, .int .i64 q.x, .int .i64 q.y, .int .i64 q.z, .int .i64 q.p, .int .i64 q.q, .int .i64 q.s]] w fun e w' => e = .returned (.int .i64 n) ∧ w.grownBy w' none := by
  have HS : Hid (stepE p q = (n, 0)) := by show _ = _; unfold stepE; rw [if_pos ⟨hp, hq⟩, h.out]
  clear hp hq h
  obtain ⟨pt, px, py, pz, pp, pq, ps⟩ := p
  obtain ⟨qt, qx, qy, qz, qp, qq, qs⟩ := q
  go_enter Try.func75, Try.ntmps75
  go_wp2_with fail
  refine (rstep_any ⟨pt, px, py, pz, pp, pq, ps⟩ ⟨qt, qx, qy, qz, qp, qq, qs⟩ _ HS).mono ?_; rintro x w1 ⟨rfl, hg1⟩
  have G1 := grown_trans (grown_trans (World.grownBy_alloc w (.cells #[.int .i64 pt, .int .i64 px, .int .i64 py, .int .i64 pz, .int .i64 pp, .int .i64 pq, .int .i64 ps] 28) none) (World.grownBy_alloc _ (.cells #[.int .i64 qt, .int .i64 qx, .int .i64 qy, .int .i64 qz, .int .i64 qp, .int .i64 qq, .int .i64 qs] 28) none)) hg1
  clear hg1
  go_wp2_with fail
  go_ret
  exact ⟨rfl, G1⟩

end Go.Proofs.Ytgkhhfojioepgaa
