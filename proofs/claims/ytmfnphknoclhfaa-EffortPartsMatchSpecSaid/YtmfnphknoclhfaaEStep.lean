/- The contracts of what a step between samples has. -/
import Derived.Test.YtmfnphknoclhfaaTStep
import Derived.Test.YtmfnphknoclhfaaEInts
import Derived.BigRegion
import Derived.Deep.RegionHeld3
import Derived.Deep.CutBlock
import Derived.Deep.DeepCutAuto
namespace Go.Proofs.Ytmfnphknoclhfaa
open Go.RowKit

abbrev Smp.cells (p : Smp) : List Value := [.int .i64 p.t, .int .i64 p.x, .int .i64 p.y, .int .i64 p.z, .int .i64 p.p, .int .i64 p.q, .int .i64 p.s]
abbrev stV (p q : Smp) : Value := .agg #[.int .i64 p.t, .int .i64 p.x, .int .i64 p.y, .int .i64 p.z, .int .i64 p.p, .int .i64 p.q, .int .i64 p.s, .int .i64 q.t, .int .i64 q.x, .int .i64 q.y, .int .i64 q.z, .int .i64 q.p, .int .i64 q.q, .int .i64 q.s]
/-- Times that can be. -/
structure TimesOk (p q : Smp) : Prop where
  p0 : 0 ≤ p.t
  pq : p.t < q.t
  q1 : q.t ≤ 1000000

theorem seconds_is (p q : Smp) (h : TimesOk p q) (w : World) : Calls Try.prog 180 #[stV p q] w fun e w' => e = .returned (.int .i64 (q.t - p.t)) ∧ w.grownBy w' none := by
  obtain ⟨h0, h1, h2⟩ := h
  obtain ⟨pt, px, py, pz, pp, pq, ps⟩ := p
  obtain ⟨qt, qx, qy, qz, qp, qq, qs⟩ := q
  simp only at h0 h1 h2
  go_enter Try.func180, Try.ntmps180
  go_wp2
  go_ret
  exact ⟨rfl, World.grownBy_alloc _ _ _⟩

def idleB (p q : Smp) : Bool := decide (60 < q.t - p.t)
theorem isIdle_is (p q : Smp) (h : TimesOk p q) (w : World) {b : Bool} (hb : Hid (idleB p q = b)) : Calls Try.prog 181 #[stV p q] w fun e w' => e = .returned (.bool b) ∧ w.grownBy w' none := by
  have hv := hb.out
  unfold idleB at hv
  have HT := Lib.hid h
  obtain ⟨h0, h1, h2⟩ := h
  obtain ⟨pt, px, py, pz, pp, pq, ps⟩ := p
  obtain ⟨qt, qx, qy, qz, qp, qq, qs⟩ := q
  simp only at h0 h1 h2 hv
  subst hv
  clear hb
  go_enter Try.func181, Try.ntmps181
  go_wp2_with fail
  refine (seconds_is ⟨pt, px, py, pz, pp, pq, ps⟩ ⟨qt, qx, qy, qz, qp, qq, qs⟩ HT.out _).mono ?_; rintro e w1 ⟨rfl, hg⟩
  have HG := Lib.hid (grown_trans (World.grownBy_alloc w (.cells #[.int .i64 pt, .int .i64 px, .int .i64 py, .int .i64 pz, .int .i64 pp, .int .i64 pq, .int .i64 ps, .int .i64 qt, .int .i64 qx, .int .i64 qy, .int .i64 qz, .int .i64 qp, .int .i64 qq, .int .i64 qs] 188) none) hg)
  clear hg
  simp only
  go_wp2_with fail
  go_ret
  exact ⟨rfl, HG.out⟩

/-- What each second of a step has of what is measured. -/
def valE (p q : Smp) (kind : Int) : Int := if idleB p q = true then -1 else if kind = 1 then p.p else if kind = 2 then p.q else p.s
set_option maxHeartbeats 800000 in
theorem value_is (p q : Smp) (h : TimesOk p q) (kind : Int) (w : World) {v : Int} (hv : Hid (valE p q kind = v)) : Calls Try.prog 155 #[stV p q, .int .i64 kind] w fun e w' => e = .returned (.int .i64 v) ∧ w.grownBy w' none := by
  have hq := hv.out
  unfold valE at hq
  obtain ⟨b, hb⟩ : ∃ b, idleB p q = b := ⟨_, rfl⟩
  have HB := Lib.hid hb
  have HT := Lib.hid h
  rw [hb] at hq
  obtain ⟨pt, px, py, pz, pp, pq, ps⟩ := p
  obtain ⟨qt, qx, qy, qz, qp, qq, qs⟩ := q
  simp only at hq
  clear hb h hv
  cases b
  · rw [if_neg (by simp)] at hq
    by_cases k1 : kind = 1
    · rw [if_pos k1] at hq
      subst hq; subst k1
      go_enter Try.func155, Try.ntmps155
      go_wp2_with fail
      refine (isIdle_is ⟨pt, px, py, pz, pp, pq, ps⟩ ⟨qt, qx, qy, qz, qp, qq, qs⟩ HT.out _ HB).mono ?_; rintro e w1 ⟨rfl, hg⟩
      have HG := Lib.hid (grown_trans (World.grownBy_alloc w (.cells #[.int .i64 pt, .int .i64 px, .int .i64 py, .int .i64 pz, .int .i64 pp, .int .i64 pq, .int .i64 ps, .int .i64 qt, .int .i64 qx, .int .i64 qy, .int .i64 qz, .int .i64 qp, .int .i64 qq, .int .i64 qs] 188) none) hg)
      have c0 : w1.cell? ⟨w.heap.size, 4, none⟩ = some (.int .i64 pp) := grown_cell hg (by go_simp)
      clear hg
      simp only
      go_wp2_with fail
      go_ret
      exact ⟨rfl, HG.out⟩
    · rw [if_neg k1] at hq
      have n1 : (kind == 1) = false := by simpa using k1
      by_cases k2 : kind = 2
      · rw [if_pos k2] at hq
        subst hq; subst k2
        go_enter Try.func155, Try.ntmps155
        go_wp2_with fail
        refine (isIdle_is ⟨pt, px, py, pz, pp, pq, ps⟩ ⟨qt, qx, qy, qz, qp, qq, qs⟩ HT.out _ HB).mono ?_; rintro e w1 ⟨rfl, hg⟩
        have HG := Lib.hid (grown_trans (World.grownBy_alloc w (.cells #[.int .i64 pt, .int .i64 px, .int .i64 py, .int .i64 pz, .int .i64 pp, .int .i64 pq, .int .i64 ps, .int .i64 qt, .int .i64 qx, .int .i64 qy, .int .i64 qz, .int .i64 qp, .int .i64 qq, .int .i64 qs] 188) none) hg)
        have c0 : w1.cell? ⟨w.heap.size, 5, none⟩ = some (.int .i64 pq) := grown_cell hg (by go_simp)
        clear hg
        simp only
        go_wp2_with fail
        go_ret
        exact ⟨rfl, HG.out⟩
      · rw [if_neg k2] at hq
        have n2 : (kind == 2) = false := by simpa using k2
        subst hq
        go_enter Try.func155, Try.ntmps155
        go_wp2_with fail
        refine (isIdle_is ⟨pt, px, py, pz, pp, pq, ps⟩ ⟨qt, qx, qy, qz, qp, qq, qs⟩ HT.out _ HB).mono ?_; rintro e w1 ⟨rfl, hg⟩
        have HG := Lib.hid (grown_trans (World.grownBy_alloc w (.cells #[.int .i64 pt, .int .i64 px, .int .i64 py, .int .i64 pz, .int .i64 pp, .int .i64 pq, .int .i64 ps, .int .i64 qt, .int .i64 qx, .int .i64 qy, .int .i64 qz, .int .i64 qp, .int .i64 qq, .int .i64 qs] 188) none) hg)
        have c0 : w1.cell? ⟨w.heap.size, 6, none⟩ = some (.int .i64 ps) := grown_cell hg (by go_simp)
        clear hg
        simp only
        go_wp2_with fail
        go_ret
        exact ⟨rfl, HG.out⟩
  · rw [if_pos rfl] at hq
    subst hq
    go_enter Try.func155, Try.ntmps155
    go_wp2_with fail
    refine (isIdle_is ⟨pt, px, py, pz, pp, pq, ps⟩ ⟨qt, qx, qy, qz, qp, qq, qs⟩ HT.out _ HB).mono ?_; rintro e w1 ⟨rfl, hg⟩
    have HG := Lib.hid (grown_trans (World.grownBy_alloc w (.cells #[.int .i64 pt, .int .i64 px, .int .i64 py, .int .i64 pz, .int .i64 pp, .int .i64 pq, .int .i64 ps, .int .i64 qt, .int .i64 qx, .int .i64 qy, .int .i64 qz, .int .i64 qp, .int .i64 qq, .int .i64 qs] 188) none) hg)
    clear hg
    simp only
    go_wp2_with fail
    go_ret
    exact ⟨rfl, HG.out⟩

end Go.Proofs.Ytmfnphknoclhfaa
