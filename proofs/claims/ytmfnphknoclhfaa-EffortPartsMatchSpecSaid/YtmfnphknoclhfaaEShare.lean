/- The contracts of amount, share and addKnown. -/
import Derived.Test.YtmfnphknoclhfaaEStep
namespace Go.Proofs.Ytmfnphknoclhfaa
open Go.RowKit

/-- What all seconds of a step have together of what is gone. -/
noncomputable def amtE (p q : Smp) (kind : Int) : Int := if idleB p q = true then 0 else if kind = 4 then stepW p q else max (q.z - p.z) 0
structure StepIn (p q : Smp) : Prop where
  t : TimesOk p q
  ip : inPlane p
  iq : inPlane q
  pz : -100000 ≤ p.z ∧ p.z ≤ 100000
  qz : -100000 ≤ q.z ∧ q.z ≤ 100000
theorem amtE_bd {p q : Smp} (h : StepIn p q) (kind : Int) : 0 ≤ amtE p q kind ∧ amtE p q kind ≤ 300000000 := by
  have a := stepW_bd h.ip h.iq
  have b := h.pz
  have c := h.qz
  unfold amtE
  split
  · omega
  · split
    · exact a
    · omega

set_option maxHeartbeats 1600000 in
theorem amount_is (p q : Smp) (h : StepIn p q) (kind : Int) (w : World) {v : Int} (hv : Hid (amtE p q kind = v)) : Calls Try.prog 153 #[stV p q, .int .i64 kind] w fun e w' => e = .returned (.int .i64 v) ∧ w.grownBy w' none := by
  have hq := hv.out
  unfold amtE at hq
  obtain ⟨b, hb⟩ : ∃ b, idleB p q = b := ⟨_, rfl⟩
  have HB := Lib.hid hb
  have HT := Lib.hid h.t
  have HSE : Hid (stepE p q = (stepW p q, 0)) := by show _ = _; unfold stepE; rw [if_pos ⟨h.ip, h.iq⟩]
  have hpz := h.pz; have hqz := h.qz
  rw [hb] at hq
  obtain ⟨sw, hsw⟩ : ∃ n, stepW p q = n := ⟨_, rfl⟩
  rw [hsw] at hq HSE
  obtain ⟨pt, px, py, pz, pp, pq, ps⟩ := p
  obtain ⟨qt, qx, qy, qz, qp, qq, qs⟩ := q
  simp only at hq hpz hqz
  clear hb h hv hsw
  cases b
  · rw [if_neg (by simp)] at hq
    by_cases k1 : kind = 4
    · rw [if_pos k1] at hq
      subst hq; subst k1
      go_enter Try.func153, Try.ntmps153
      go_wp2_with fail
      refine (isIdle_is ⟨pt, px, py, pz, pp, pq, ps⟩ ⟨qt, qx, qy, qz, qp, qq, qs⟩ HT.out _ HB).mono ?_; rintro e w1 ⟨rfl, hg⟩
      have HG := Lib.hid (grown_trans (World.grownBy_alloc w (.cells #[.int .i64 pt, .int .i64 px, .int .i64 py, .int .i64 pz, .int .i64 pp, .int .i64 pq, .int .i64 ps, .int .i64 qt, .int .i64 qx, .int .i64 qy, .int .i64 qz, .int .i64 qp, .int .i64 qq, .int .i64 qs] 188) none) hg)
      have c0 : w1.cell? ⟨w.heap.size, 0, none⟩ = some (.int .i64 pt) := grown_cell hg (by go_simp)
      have c1 : w1.cell? ⟨w.heap.size, 1, none⟩ = some (.int .i64 px) := grown_cell hg (by go_simp)
      have c2 : w1.cell? ⟨w.heap.size, 2, none⟩ = some (.int .i64 py) := grown_cell hg (by go_simp)
      have c3 : w1.cell? ⟨w.heap.size, 3, none⟩ = some (.int .i64 pz) := grown_cell hg (by go_simp)
      have c4 : w1.cell? ⟨w.heap.size, 4, none⟩ = some (.int .i64 pp) := grown_cell hg (by go_simp)
      have c5 : w1.cell? ⟨w.heap.size, 5, none⟩ = some (.int .i64 pq) := grown_cell hg (by go_simp)
      have c6 : w1.cell? ⟨w.heap.size, 6, none⟩ = some (.int .i64 ps) := grown_cell hg (by go_simp)
      have d0 : w1.cell? ⟨w.heap.size, 7, none⟩ = some (.int .i64 qt) := grown_cell hg (by go_simp)
      have d1 : w1.cell? ⟨w.heap.size, 8, none⟩ = some (.int .i64 qx) := grown_cell hg (by go_simp)
      have d2 : w1.cell? ⟨w.heap.size, 9, none⟩ = some (.int .i64 qy) := grown_cell hg (by go_simp)
      have d3 : w1.cell? ⟨w.heap.size, 10, none⟩ = some (.int .i64 qz) := grown_cell hg (by go_simp)
      have d4 : w1.cell? ⟨w.heap.size, 11, none⟩ = some (.int .i64 qp) := grown_cell hg (by go_simp)
      have d5 : w1.cell? ⟨w.heap.size, 12, none⟩ = some (.int .i64 qq) := grown_cell hg (by go_simp)
      have d6 : w1.cell? ⟨w.heap.size, 13, none⟩ = some (.int .i64 qs) := grown_cell hg (by go_simp)
      clear hg
      simp only
      go_wp2_with fail
      refine (step_any ⟨pt, px, py, pz, pp, pq, ps⟩ ⟨qt, qx, qy, qz, qp, qq, qs⟩ _ HSE).mono ?_; rintro e w2 ⟨rfl, hg2⟩
      replace HG := Lib.hid (grown_trans HG.out hg2)
      clear hg2
      simp only
      go_wp2_with fail
      go_ret
      exact ⟨rfl, HG.out⟩
    · rw [if_neg k1] at hq
      have n1 : (kind == 4) = false := by simpa using k1
      subst hq
      go_enter Try.func153, Try.ntmps153
      go_wp2_with fail
      refine (isIdle_is ⟨pt, px, py, pz, pp, pq, ps⟩ ⟨qt, qx, qy, qz, qp, qq, qs⟩ HT.out _ HB).mono ?_; rintro e w1 ⟨rfl, hg⟩
      have HG := Lib.hid (grown_trans (World.grownBy_alloc w (.cells #[.int .i64 pt, .int .i64 px, .int .i64 py, .int .i64 pz, .int .i64 pp, .int .i64 pq, .int .i64 ps, .int .i64 qt, .int .i64 qx, .int .i64 qy, .int .i64 qz, .int .i64 qp, .int .i64 qq, .int .i64 qs] 188) none) hg)
      have c3 : w1.cell? ⟨w.heap.size, 3, none⟩ = some (.int .i64 pz) := grown_cell hg (by go_simp)
      have d3 : w1.cell? ⟨w.heap.size, 10, none⟩ = some (.int .i64 qz) := grown_cell hg (by go_simp)
      clear hg
      simp only
      go_wp2_with fail
      all_goals
        go_ret
        exact ⟨ret_int (by first | rfl | omega), HG.out⟩
  · rw [if_pos rfl] at hq
    subst hq
    go_enter Try.func153, Try.ntmps153
    go_wp2_with fail
    refine (isIdle_is ⟨pt, px, py, pz, pp, pq, ps⟩ ⟨qt, qx, qy, qz, qp, qq, qs⟩ HT.out _ HB).mono ?_; rintro e w1 ⟨rfl, hg⟩
    have HG := Lib.hid (grown_trans (World.grownBy_alloc w (.cells #[.int .i64 pt, .int .i64 px, .int .i64 py, .int .i64 pz, .int .i64 pp, .int .i64 pq, .int .i64 ps, .int .i64 qt, .int .i64 qx, .int .i64 qy, .int .i64 qz, .int .i64 qp, .int .i64 qq, .int .i64 qs] 188) none) hg)
    clear hg
    simp only
    go_wp2_with fail
    go_ret
    exact ⟨rfl, HG.out⟩

/-- What the seconds of a step ahead of one have of an amount. -/
def upto (A s t : Int) : Int := (A * t).tdiv s
theorem mul_bd2 {a b : Int} (a0 : 0 ≤ a) (a1 : a ≤ 300000000) (b0 : 0 ≤ b) (b1 : b ≤ 1000000) : 0 ≤ a * b ∧ a * b ≤ 300000000000000 := by
  refine ⟨Int.mul_nonneg a0 b0, ?_⟩
  have h := Int.mul_le_mul a1 b1 b0 (by omega : (0 : Int) ≤ 300000000)
  omega
theorem tdiv_bd {n s : Int} (h0 : 0 ≤ n) (hs : 1 ≤ s) : 0 ≤ n.tdiv s ∧ n.tdiv s ≤ n := by
  rw [Int.tdiv_eq_ediv_of_nonneg h0]
  exact ⟨Int.ediv_nonneg h0 (by omega), Int.ediv_le_self _ h0⟩

set_option maxHeartbeats 1600000 in
theorem share_is (p q : Smp) (h : TimesOk p q) (A f t : Int) (a0 : 0 ≤ A) (a1 : A ≤ 300000000) (f0 : 0 ≤ f) (f1 : f ≤ 1000000) (t0 : 0 ≤ t) (t1 : t ≤ 1000000) (w : World) {v : Int} (hv : Hid (upto A (q.t - p.t) t - upto A (q.t - p.t) f = v)) :
    Calls Try.prog 152 #[stV p q, .int .i64 A, .int .i64 f, .int .i64 t] w fun e w' => e = .returned (.int .i64 v) ∧ w.grownBy w' none := by
  have HT := Lib.hid h
  obtain ⟨h0, h1, h2⟩ := h
  have b1 := mul_bd2 a0 a1 t0 t1
  have b2 := mul_bd2 a0 a1 f0 f1
  obtain ⟨X, hX⟩ : ∃ X, A * t = X := ⟨_, rfl⟩
  obtain ⟨Y, hY⟩ : ∃ Y, A * f = Y := ⟨_, rfl⟩
  rw [hX] at b1; rw [hY] at b2
  have rx : IntKind.i64.wrap (A * t) = X := by rw [hX]; exact IntWalk.i64_in _ (by omega)
  have ry : IntKind.i64.wrap (A * f) = Y := by rw [hY]; exact IntWalk.i64_in _ (by omega)
  have d1 := tdiv_bd b1.1 (by omega : 1 ≤ q.t - p.t)
  have d2 := tdiv_bd b2.1 (by omega : 1 ≤ q.t - p.t)
  have hvv := hv.out
  unfold upto at hvv
  rw [hX, hY] at hvv
  obtain ⟨pt, px, py, pz, pp, pq, ps⟩ := p
  obtain ⟨qt, qx, qy, qz, qp, qq, qs⟩ := q
  simp only at h0 h1 h2 d1 d2 hvv
  have HVV : Hid (IntKind.i64.wrap (IntKind.i64.wrap (X.tdiv (qt - pt)) - IntKind.i64.wrap (Y.tdiv (qt - pt))) = v) := by
    show _ = _
    rw [IntWalk.i64_in (X.tdiv (qt - pt)) (by omega), IntWalk.i64_in (Y.tdiv (qt - pt)) (by omega), IntWalk.i64_in _ (by omega)]; exact hvv
  clear hv hX hY hvv
  go_enter Try.func152, Try.ntmps152
  have hne0 : ¬ qt - pt = 0 := by omega
  have hne1 : (qt - pt == 0) = false := by rw [beq_eq_false_iff_ne]; omega
  have GA := World.grownBy_alloc w (.cells #[.int .i64 pt, .int .i64 px, .int .i64 py, .int .i64 pz, .int .i64 pp, .int .i64 pq, .int .i64 ps, .int .i64 qt, .int .i64 qx, .int .i64 qy, .int .i64 qz, .int .i64 qp, .int .i64 qq, .int .i64 qs] 188) none
  have HSTEP : Hid (∀ W W' : World, (World.grownBy w W none ∧ World.cell? W ⟨w.heap.size, 0, none⟩ = some (.int .i64 pt) ∧ World.cell? W ⟨w.heap.size, 1, none⟩ = some (.int .i64 px) ∧ World.cell? W ⟨w.heap.size, 2, none⟩ = some (.int .i64 py) ∧ World.cell? W ⟨w.heap.size, 3, none⟩ = some (.int .i64 pz) ∧ World.cell? W ⟨w.heap.size, 4, none⟩ = some (.int .i64 pp) ∧ World.cell? W ⟨w.heap.size, 5, none⟩ = some (.int .i64 pq) ∧ World.cell? W ⟨w.heap.size, 6, none⟩ = some (.int .i64 ps) ∧ World.cell? W ⟨w.heap.size, 7, none⟩ = some (.int .i64 qt) ∧ World.cell? W ⟨w.heap.size, 8, none⟩ = some (.int .i64 qx) ∧ World.cell? W ⟨w.heap.size, 9, none⟩ = some (.int .i64 qy) ∧ World.cell? W ⟨w.heap.size, 10, none⟩ = some (.int .i64 qz) ∧ World.cell? W ⟨w.heap.size, 11, none⟩ = some (.int .i64 qp) ∧ World.cell? W ⟨w.heap.size, 12, none⟩ = some (.int .i64 qq) ∧ World.cell? W ⟨w.heap.size, 13, none⟩ = some (.int .i64 qs)) → W.grownBy W' none → (World.grownBy w W' none ∧ World.cell? W' ⟨w.heap.size, 0, none⟩ = some (.int .i64 pt) ∧ World.cell? W' ⟨w.heap.size, 1, none⟩ = some (.int .i64 px) ∧ World.cell? W' ⟨w.heap.size, 2, none⟩ = some (.int .i64 py) ∧ World.cell? W' ⟨w.heap.size, 3, none⟩ = some (.int .i64 pz) ∧ World.cell? W' ⟨w.heap.size, 4, none⟩ = some (.int .i64 pp) ∧ World.cell? W' ⟨w.heap.size, 5, none⟩ = some (.int .i64 pq) ∧ World.cell? W' ⟨w.heap.size, 6, none⟩ = some (.int .i64 ps) ∧ World.cell? W' ⟨w.heap.size, 7, none⟩ = some (.int .i64 qt) ∧ World.cell? W' ⟨w.heap.size, 8, none⟩ = some (.int .i64 qx) ∧ World.cell? W' ⟨w.heap.size, 9, none⟩ = some (.int .i64 qy) ∧ World.cell? W' ⟨w.heap.size, 10, none⟩ = some (.int .i64 qz) ∧ World.cell? W' ⟨w.heap.size, 11, none⟩ = some (.int .i64 qp) ∧ World.cell? W' ⟨w.heap.size, 12, none⟩ = some (.int .i64 qq) ∧ World.cell? W' ⟨w.heap.size, 13, none⟩ = some (.int .i64 qs))) := fun W W' h g => ⟨grown_trans h.1 g, grown_cell g h.2.1, grown_cell g h.2.2.1, grown_cell g h.2.2.2.1, grown_cell g h.2.2.2.2.1, grown_cell g h.2.2.2.2.2.1, grown_cell g h.2.2.2.2.2.2.1, grown_cell g h.2.2.2.2.2.2.2.1, grown_cell g h.2.2.2.2.2.2.2.2.1, grown_cell g h.2.2.2.2.2.2.2.2.2.1, grown_cell g h.2.2.2.2.2.2.2.2.2.2.1, grown_cell g h.2.2.2.2.2.2.2.2.2.2.2.1, grown_cell g h.2.2.2.2.2.2.2.2.2.2.2.2.1, grown_cell g h.2.2.2.2.2.2.2.2.2.2.2.2.2.1, grown_cell g h.2.2.2.2.2.2.2.2.2.2.2.2.2.2⟩
  have HS0 : Hid (World.grownBy w (w.alloc (.cells #[.int .i64 pt, .int .i64 px, .int .i64 py, .int .i64 pz, .int .i64 pp, .int .i64 pq, .int .i64 ps, .int .i64 qt, .int .i64 qx, .int .i64 qy, .int .i64 qz, .int .i64 qp, .int .i64 qq, .int .i64 qs] 188)) none ∧ World.cell? (w.alloc (.cells #[.int .i64 pt, .int .i64 px, .int .i64 py, .int .i64 pz, .int .i64 pp, .int .i64 pq, .int .i64 ps, .int .i64 qt, .int .i64 qx, .int .i64 qy, .int .i64 qz, .int .i64 qp, .int .i64 qq, .int .i64 qs] 188)) ⟨w.heap.size, 0, none⟩ = some (.int .i64 pt) ∧ World.cell? (w.alloc (.cells #[.int .i64 pt, .int .i64 px, .int .i64 py, .int .i64 pz, .int .i64 pp, .int .i64 pq, .int .i64 ps, .int .i64 qt, .int .i64 qx, .int .i64 qy, .int .i64 qz, .int .i64 qp, .int .i64 qq, .int .i64 qs] 188)) ⟨w.heap.size, 1, none⟩ = some (.int .i64 px) ∧ World.cell? (w.alloc (.cells #[.int .i64 pt, .int .i64 px, .int .i64 py, .int .i64 pz, .int .i64 pp, .int .i64 pq, .int .i64 ps, .int .i64 qt, .int .i64 qx, .int .i64 qy, .int .i64 qz, .int .i64 qp, .int .i64 qq, .int .i64 qs] 188)) ⟨w.heap.size, 2, none⟩ = some (.int .i64 py) ∧ World.cell? (w.alloc (.cells #[.int .i64 pt, .int .i64 px, .int .i64 py, .int .i64 pz, .int .i64 pp, .int .i64 pq, .int .i64 ps, .int .i64 qt, .int .i64 qx, .int .i64 qy, .int .i64 qz, .int .i64 qp, .int .i64 qq, .int .i64 qs] 188)) ⟨w.heap.size, 3, none⟩ = some (.int .i64 pz) ∧ World.cell? (w.alloc (.cells #[.int .i64 pt, .int .i64 px, .int .i64 py, .int .i64 pz, .int .i64 pp, .int .i64 pq, .int .i64 ps, .int .i64 qt, .int .i64 qx, .int .i64 qy, .int .i64 qz, .int .i64 qp, .int .i64 qq, .int .i64 qs] 188)) ⟨w.heap.size, 4, none⟩ = some (.int .i64 pp) ∧ World.cell? (w.alloc (.cells #[.int .i64 pt, .int .i64 px, .int .i64 py, .int .i64 pz, .int .i64 pp, .int .i64 pq, .int .i64 ps, .int .i64 qt, .int .i64 qx, .int .i64 qy, .int .i64 qz, .int .i64 qp, .int .i64 qq, .int .i64 qs] 188)) ⟨w.heap.size, 5, none⟩ = some (.int .i64 pq) ∧ World.cell? (w.alloc (.cells #[.int .i64 pt, .int .i64 px, .int .i64 py, .int .i64 pz, .int .i64 pp, .int .i64 pq, .int .i64 ps, .int .i64 qt, .int .i64 qx, .int .i64 qy, .int .i64 qz, .int .i64 qp, .int .i64 qq, .int .i64 qs] 188)) ⟨w.heap.size, 6, none⟩ = some (.int .i64 ps) ∧ World.cell? (w.alloc (.cells #[.int .i64 pt, .int .i64 px, .int .i64 py, .int .i64 pz, .int .i64 pp, .int .i64 pq, .int .i64 ps, .int .i64 qt, .int .i64 qx, .int .i64 qy, .int .i64 qz, .int .i64 qp, .int .i64 qq, .int .i64 qs] 188)) ⟨w.heap.size, 7, none⟩ = some (.int .i64 qt) ∧ World.cell? (w.alloc (.cells #[.int .i64 pt, .int .i64 px, .int .i64 py, .int .i64 pz, .int .i64 pp, .int .i64 pq, .int .i64 ps, .int .i64 qt, .int .i64 qx, .int .i64 qy, .int .i64 qz, .int .i64 qp, .int .i64 qq, .int .i64 qs] 188)) ⟨w.heap.size, 8, none⟩ = some (.int .i64 qx) ∧ World.cell? (w.alloc (.cells #[.int .i64 pt, .int .i64 px, .int .i64 py, .int .i64 pz, .int .i64 pp, .int .i64 pq, .int .i64 ps, .int .i64 qt, .int .i64 qx, .int .i64 qy, .int .i64 qz, .int .i64 qp, .int .i64 qq, .int .i64 qs] 188)) ⟨w.heap.size, 9, none⟩ = some (.int .i64 qy) ∧ World.cell? (w.alloc (.cells #[.int .i64 pt, .int .i64 px, .int .i64 py, .int .i64 pz, .int .i64 pp, .int .i64 pq, .int .i64 ps, .int .i64 qt, .int .i64 qx, .int .i64 qy, .int .i64 qz, .int .i64 qp, .int .i64 qq, .int .i64 qs] 188)) ⟨w.heap.size, 10, none⟩ = some (.int .i64 qz) ∧ World.cell? (w.alloc (.cells #[.int .i64 pt, .int .i64 px, .int .i64 py, .int .i64 pz, .int .i64 pp, .int .i64 pq, .int .i64 ps, .int .i64 qt, .int .i64 qx, .int .i64 qy, .int .i64 qz, .int .i64 qp, .int .i64 qq, .int .i64 qs] 188)) ⟨w.heap.size, 11, none⟩ = some (.int .i64 qp) ∧ World.cell? (w.alloc (.cells #[.int .i64 pt, .int .i64 px, .int .i64 py, .int .i64 pz, .int .i64 pp, .int .i64 pq, .int .i64 ps, .int .i64 qt, .int .i64 qx, .int .i64 qy, .int .i64 qz, .int .i64 qp, .int .i64 qq, .int .i64 qs] 188)) ⟨w.heap.size, 12, none⟩ = some (.int .i64 qq) ∧ World.cell? (w.alloc (.cells #[.int .i64 pt, .int .i64 px, .int .i64 py, .int .i64 pz, .int .i64 pp, .int .i64 pq, .int .i64 ps, .int .i64 qt, .int .i64 qx, .int .i64 qy, .int .i64 qz, .int .i64 qp, .int .i64 qq, .int .i64 qs] 188)) ⟨w.heap.size, 13, none⟩ = some (.int .i64 qs)) := ⟨GA, by go_simp, by go_simp, by go_simp, by go_simp, by go_simp, by go_simp, by go_simp, by go_simp, by go_simp, by go_simp, by go_simp, by go_simp, by go_simp, by go_simp⟩
  have HSD : Hid (World.grownBy w (w.alloc (.cells #[.int .i64 pt, .int .i64 px, .int .i64 py, .int .i64 pz, .int .i64 pp, .int .i64 pq, .int .i64 ps, .int .i64 qt, .int .i64 qx, .int .i64 qy, .int .i64 qz, .int .i64 qp, .int .i64 qq, .int .i64 qs] 188)).drew none ∧ World.cell? (w.alloc (.cells #[.int .i64 pt, .int .i64 px, .int .i64 py, .int .i64 pz, .int .i64 pp, .int .i64 pq, .int .i64 ps, .int .i64 qt, .int .i64 qx, .int .i64 qy, .int .i64 qz, .int .i64 qp, .int .i64 qq, .int .i64 qs] 188)).drew ⟨w.heap.size, 0, none⟩ = some (.int .i64 pt) ∧ World.cell? (w.alloc (.cells #[.int .i64 pt, .int .i64 px, .int .i64 py, .int .i64 pz, .int .i64 pp, .int .i64 pq, .int .i64 ps, .int .i64 qt, .int .i64 qx, .int .i64 qy, .int .i64 qz, .int .i64 qp, .int .i64 qq, .int .i64 qs] 188)).drew ⟨w.heap.size, 1, none⟩ = some (.int .i64 px) ∧ World.cell? (w.alloc (.cells #[.int .i64 pt, .int .i64 px, .int .i64 py, .int .i64 pz, .int .i64 pp, .int .i64 pq, .int .i64 ps, .int .i64 qt, .int .i64 qx, .int .i64 qy, .int .i64 qz, .int .i64 qp, .int .i64 qq, .int .i64 qs] 188)).drew ⟨w.heap.size, 2, none⟩ = some (.int .i64 py) ∧ World.cell? (w.alloc (.cells #[.int .i64 pt, .int .i64 px, .int .i64 py, .int .i64 pz, .int .i64 pp, .int .i64 pq, .int .i64 ps, .int .i64 qt, .int .i64 qx, .int .i64 qy, .int .i64 qz, .int .i64 qp, .int .i64 qq, .int .i64 qs] 188)).drew ⟨w.heap.size, 3, none⟩ = some (.int .i64 pz) ∧ World.cell? (w.alloc (.cells #[.int .i64 pt, .int .i64 px, .int .i64 py, .int .i64 pz, .int .i64 pp, .int .i64 pq, .int .i64 ps, .int .i64 qt, .int .i64 qx, .int .i64 qy, .int .i64 qz, .int .i64 qp, .int .i64 qq, .int .i64 qs] 188)).drew ⟨w.heap.size, 4, none⟩ = some (.int .i64 pp) ∧ World.cell? (w.alloc (.cells #[.int .i64 pt, .int .i64 px, .int .i64 py, .int .i64 pz, .int .i64 pp, .int .i64 pq, .int .i64 ps, .int .i64 qt, .int .i64 qx, .int .i64 qy, .int .i64 qz, .int .i64 qp, .int .i64 qq, .int .i64 qs] 188)).drew ⟨w.heap.size, 5, none⟩ = some (.int .i64 pq) ∧ World.cell? (w.alloc (.cells #[.int .i64 pt, .int .i64 px, .int .i64 py, .int .i64 pz, .int .i64 pp, .int .i64 pq, .int .i64 ps, .int .i64 qt, .int .i64 qx, .int .i64 qy, .int .i64 qz, .int .i64 qp, .int .i64 qq, .int .i64 qs] 188)).drew ⟨w.heap.size, 6, none⟩ = some (.int .i64 ps) ∧ World.cell? (w.alloc (.cells #[.int .i64 pt, .int .i64 px, .int .i64 py, .int .i64 pz, .int .i64 pp, .int .i64 pq, .int .i64 ps, .int .i64 qt, .int .i64 qx, .int .i64 qy, .int .i64 qz, .int .i64 qp, .int .i64 qq, .int .i64 qs] 188)).drew ⟨w.heap.size, 7, none⟩ = some (.int .i64 qt) ∧ World.cell? (w.alloc (.cells #[.int .i64 pt, .int .i64 px, .int .i64 py, .int .i64 pz, .int .i64 pp, .int .i64 pq, .int .i64 ps, .int .i64 qt, .int .i64 qx, .int .i64 qy, .int .i64 qz, .int .i64 qp, .int .i64 qq, .int .i64 qs] 188)).drew ⟨w.heap.size, 8, none⟩ = some (.int .i64 qx) ∧ World.cell? (w.alloc (.cells #[.int .i64 pt, .int .i64 px, .int .i64 py, .int .i64 pz, .int .i64 pp, .int .i64 pq, .int .i64 ps, .int .i64 qt, .int .i64 qx, .int .i64 qy, .int .i64 qz, .int .i64 qp, .int .i64 qq, .int .i64 qs] 188)).drew ⟨w.heap.size, 9, none⟩ = some (.int .i64 qy) ∧ World.cell? (w.alloc (.cells #[.int .i64 pt, .int .i64 px, .int .i64 py, .int .i64 pz, .int .i64 pp, .int .i64 pq, .int .i64 ps, .int .i64 qt, .int .i64 qx, .int .i64 qy, .int .i64 qz, .int .i64 qp, .int .i64 qq, .int .i64 qs] 188)).drew ⟨w.heap.size, 10, none⟩ = some (.int .i64 qz) ∧ World.cell? (w.alloc (.cells #[.int .i64 pt, .int .i64 px, .int .i64 py, .int .i64 pz, .int .i64 pp, .int .i64 pq, .int .i64 ps, .int .i64 qt, .int .i64 qx, .int .i64 qy, .int .i64 qz, .int .i64 qp, .int .i64 qq, .int .i64 qs] 188)).drew ⟨w.heap.size, 11, none⟩ = some (.int .i64 qp) ∧ World.cell? (w.alloc (.cells #[.int .i64 pt, .int .i64 px, .int .i64 py, .int .i64 pz, .int .i64 pp, .int .i64 pq, .int .i64 ps, .int .i64 qt, .int .i64 qx, .int .i64 qy, .int .i64 qz, .int .i64 qp, .int .i64 qq, .int .i64 qs] 188)).drew ⟨w.heap.size, 12, none⟩ = some (.int .i64 qq) ∧ World.cell? (w.alloc (.cells #[.int .i64 pt, .int .i64 px, .int .i64 py, .int .i64 pz, .int .i64 pp, .int .i64 pq, .int .i64 ps, .int .i64 qt, .int .i64 qx, .int .i64 qy, .int .i64 qz, .int .i64 qp, .int .i64 qq, .int .i64 qs] 188)).drew ⟨w.heap.size, 13, none⟩ = some (.int .i64 qs)) := HSTEP.out _ _ HS0.out (grown_drewN _ _ 1)
  have HC : Hid (∀ W : World, Calls Try.prog 180 #[.agg #[.int .i64 pt, .int .i64 px, .int .i64 py, .int .i64 pz, .int .i64 pp, .int .i64 pq, .int .i64 ps, .int .i64 qt, .int .i64 qx, .int .i64 qy, .int .i64 qz, .int .i64 qp, .int .i64 qq, .int .i64 qs]] W fun e w' => e = .returned (.int .i64 (qt - pt)) ∧ W.grownBy w' none) := fun W => seconds_is ⟨pt, px, py, pz, pp, pq, ps⟩ ⟨qt, qx, qy, qz, qp, qq, qs⟩ HT.out W
  clear GA
  go_wp2_with fail
  go_region_held3 (fun W => (World.grownBy w W none ∧ World.cell? W ⟨w.heap.size, 0, none⟩ = some (.int .i64 pt) ∧ World.cell? W ⟨w.heap.size, 1, none⟩ = some (.int .i64 px) ∧ World.cell? W ⟨w.heap.size, 2, none⟩ = some (.int .i64 py) ∧ World.cell? W ⟨w.heap.size, 3, none⟩ = some (.int .i64 pz) ∧ World.cell? W ⟨w.heap.size, 4, none⟩ = some (.int .i64 pp) ∧ World.cell? W ⟨w.heap.size, 5, none⟩ = some (.int .i64 pq) ∧ World.cell? W ⟨w.heap.size, 6, none⟩ = some (.int .i64 ps) ∧ World.cell? W ⟨w.heap.size, 7, none⟩ = some (.int .i64 qt) ∧ World.cell? W ⟨w.heap.size, 8, none⟩ = some (.int .i64 qx) ∧ World.cell? W ⟨w.heap.size, 9, none⟩ = some (.int .i64 qy) ∧ World.cell? W ⟨w.heap.size, 10, none⟩ = some (.int .i64 qz) ∧ World.cell? W ⟨w.heap.size, 11, none⟩ = some (.int .i64 qp) ∧ World.cell? W ⟨w.heap.size, 12, none⟩ = some (.int .i64 qq) ∧ World.cell? W ⟨w.heap.size, 13, none⟩ = some (.int .i64 qs))) (first | exact HSD.out | (refine HSTEP.out _ _ ?_ (by assumption) <;> assumption)) (first
    | (go_at_call 180; (with_reducible refine (HC.out _).mono ?_); rintro x w7 ⟨rfl, hg7⟩))
  all_goals
    rename_i hfin
    go_wp2_with fail
    go_ret
    exact ⟨ret_int HVV.out, hfin.1⟩

/-- Adds a value that so many seconds have to two cells of a block, if it is known. -/
def addS (s v n : Int) : Int := if v < 0 then s else s + v * n
def addK (k v n : Int) : Int := if v < 0 then k else k + n

set_option maxHeartbeats 800000 in
theorem addKnown_is (B i j : Nat) (hij : i ≠ j) (s k v n : Int) (s0 : 0 ≤ s) (s1 : s ≤ 1000000000000000) (k0 : 0 ≤ k) (k1 : k ≤ 1000000000000) (v1 : v ≤ 1000000) (n0 : 0 ≤ n) (n1 : n ≤ 1000000) (w : World)
    (cs : w.cell? ⟨B, i, none⟩ = some (.int .i64 s)) (ck : w.cell? ⟨B, j, none⟩ = some (.int .i64 k)) (fs : w.frozen? ⟨B, i, none⟩ = false) (fk : w.frozen? ⟨B, j, none⟩ = false) :
    Calls Try.prog 154 #[.pointer (some ⟨B, i, none⟩), .pointer (some ⟨B, j, none⟩), .int .i64 v, .int .i64 n] w fun e w' => e = .returned (.tuple #[]) ∧ w' = if v < 0 then w else (w.setCell ⟨B, i, none⟩ (.int .i64 (s + v * n))).setCell ⟨B, j, none⟩ (.int .i64 (k + n)) := by
  by_cases hv : v < 0
  · rw [if_pos hv]
    go_enter Try.func154, Try.ntmps154
    go_wp2_with fail
    exact bodyPost_ret (results_none rfl _ _ _) rfl ⟨rfl, rfl⟩
  · rw [if_neg hv]
    have hb : 0 ≤ v * n ∧ v * n ≤ 1000000000000 := by
      refine ⟨Int.mul_nonneg (by omega) n0, ?_⟩
      have h := Int.mul_le_mul v1 n1 n0 (by omega : (0 : Int) ≤ 1000000)
      omega
    obtain ⟨X, hX⟩ : ∃ X, v * n = X := ⟨_, rfl⟩
    rw [hX] at hb ⊢
    have rx : IntKind.i64.wrap (v * n) = X := by rw [hX]; exact IntWalk.i64_in _ (by omega)
    clear hX
    go_enter Try.func154, Try.ntmps154
    go_wp2_with fail
    exact bodyPost_end (results_none rfl _ _ _) rfl ⟨rfl, rfl⟩

end Go.Proofs.Ytmfnphknoclhfaa
