/- Is a step idle; is it still: the closures. -/
import Derived.Test.YtgkhhfojioepgaaGrV
import Derived.Test.YtgkhhfojioepgaaTRowB
namespace Go.Proofs.Ytgkhhfojioepgaa
open Go.RowKit
set_option linter.unusedSimpArgs false
set_option linter.unusedVariables false

def idleM (ss : List Smp) (gap : Int) (k : Nat) : Bool := decide (gap < tmS ss (k + 1) - tmS ss k)
noncomputable def stillM (ss : List Smp) (slow : Int) (k : Nat) : Bool := decide (stepW (smpD ss k) (smpD ss (k + 1)) ≤ slow * (tmS ss (k + 1) - tmS ss k))
set_option maxRecDepth 100000 in
set_option maxHeartbeats 1600000 in
theorem idle1_is (ss : List Smp) (HS : Hid (SOk ss)) (gap : Int) (k : Nat) (hk : k + 1 < ss.length) (B : Nat) (w : World) (hb : w.cell? ⟨B, 0, none⟩ = some (.int .i64 gap)) :
    Calls Try.prog 69 (#[stepV ss k] ++ #[.pointer (some ⟨B, 0, none⟩)]) w fun e w' => e = .returned (.bool (idleM ss gap k)) ∧ w.grownBy w' none := by
  have hin0 := HS.out.inn k (by omega); have hin1 := HS.out.inn (k + 1) hk
  show Calls Try.prog 69 #[stepV ss k, .pointer (some ⟨B, 0, none⟩)] w _
  unfold stepV
  obtain ⟨q, hq⟩ : ∃ q, idleM ss gap k = q := ⟨_, rfl⟩
  have HQ : Hid (decide ((smpD ss (k + 1)).t - (smpD ss k).t > gap) = q) := hq
  rw [hq]
  have hb3 : -1000000 ≤ (smpD ss (k + 1)).t - (smpD ss k).t ∧ (smpD ss (k + 1)).t - (smpD ss k).t ≤ 1000000 := ⟨by omega, by omega⟩
  clear hin0 hin1 hq HS
  generalize smpD ss k = p at *
  generalize smpD ss (k + 1) = r at *
  go_enter Try.func69, Try.ntmps69
  go_wp2_with fail
  obtain ⟨V, hV⟩ : ∃ V, w.alloc (.cells #[.int .i64 k, .int .i64 p.t, .int .i64 p.x, .int .i64 p.y, .int .i64 p.z, .int .i64 p.p, .int .i64 p.q, .int .i64 p.s, .int .i64 r.t, .int .i64 r.x, .int .i64 r.y, .int .i64 r.z, .int .i64 r.p, .int .i64 r.q, .int .i64 r.s] 85) = V := ⟨_, rfl⟩
  have hgV : w.grownBy V none := by rw [← hV]; exact World.grownBy_alloc _ _ _
  have hbV : V.heap[w.heap.size]? = some (.cells #[.int .i64 k, .int .i64 p.t, .int .i64 p.x, .int .i64 p.y, .int .i64 p.z, .int .i64 p.p, .int .i64 p.q, .int .i64 p.s, .int .i64 r.t, .int .i64 r.x, .int .i64 r.y, .int .i64 r.z, .int .i64 r.p, .int .i64 r.q, .int .i64 r.s] 85 (0, 0)) := by rw [← hV]; exact World.alloc_heap_new _ _
  rw [hV]
  have x0 : ∀ u : GrV V, u.V.cell? ⟨w.heap.size, 0, none⟩ = some (.int .i64 k) := fun u => grown_cell u.h (mblock_cell hbV 0 _ rfl)
  have x1 : ∀ u : GrV V, u.V.cell? ⟨w.heap.size, 1, none⟩ = some (.int .i64 p.t) := fun u => grown_cell u.h (mblock_cell hbV 1 _ rfl)
  have x2 : ∀ u : GrV V, u.V.cell? ⟨w.heap.size, 2, none⟩ = some (.int .i64 p.x) := fun u => grown_cell u.h (mblock_cell hbV 2 _ rfl)
  have x3 : ∀ u : GrV V, u.V.cell? ⟨w.heap.size, 3, none⟩ = some (.int .i64 p.y) := fun u => grown_cell u.h (mblock_cell hbV 3 _ rfl)
  have x4 : ∀ u : GrV V, u.V.cell? ⟨w.heap.size, 4, none⟩ = some (.int .i64 p.z) := fun u => grown_cell u.h (mblock_cell hbV 4 _ rfl)
  have x5 : ∀ u : GrV V, u.V.cell? ⟨w.heap.size, 5, none⟩ = some (.int .i64 p.p) := fun u => grown_cell u.h (mblock_cell hbV 5 _ rfl)
  have x6 : ∀ u : GrV V, u.V.cell? ⟨w.heap.size, 6, none⟩ = some (.int .i64 p.q) := fun u => grown_cell u.h (mblock_cell hbV 6 _ rfl)
  have x7 : ∀ u : GrV V, u.V.cell? ⟨w.heap.size, 7, none⟩ = some (.int .i64 p.s) := fun u => grown_cell u.h (mblock_cell hbV 7 _ rfl)
  have x8 : ∀ u : GrV V, u.V.cell? ⟨w.heap.size, 8, none⟩ = some (.int .i64 r.t) := fun u => grown_cell u.h (mblock_cell hbV 8 _ rfl)
  have x9 : ∀ u : GrV V, u.V.cell? ⟨w.heap.size, 9, none⟩ = some (.int .i64 r.x) := fun u => grown_cell u.h (mblock_cell hbV 9 _ rfl)
  have x10 : ∀ u : GrV V, u.V.cell? ⟨w.heap.size, 10, none⟩ = some (.int .i64 r.y) := fun u => grown_cell u.h (mblock_cell hbV 10 _ rfl)
  have x11 : ∀ u : GrV V, u.V.cell? ⟨w.heap.size, 11, none⟩ = some (.int .i64 r.z) := fun u => grown_cell u.h (mblock_cell hbV 11 _ rfl)
  have x12 : ∀ u : GrV V, u.V.cell? ⟨w.heap.size, 12, none⟩ = some (.int .i64 r.p) := fun u => grown_cell u.h (mblock_cell hbV 12 _ rfl)
  have x13 : ∀ u : GrV V, u.V.cell? ⟨w.heap.size, 13, none⟩ = some (.int .i64 r.q) := fun u => grown_cell u.h (mblock_cell hbV 13 _ rfl)
  have x14 : ∀ u : GrV V, u.V.cell? ⟨w.heap.size, 14, none⟩ = some (.int .i64 r.s) := fun u => grown_cell u.h (mblock_cell hbV 14 _ rfl)
  have xg : ∀ u : GrV V, u.V.cell? ⟨B, 0, none⟩ = some (.int .i64 gap) := fun u => grown_cell u.h (grown_cell hgV hb)
  have HC : Hid (∀ u : GrV V, Calls Try.prog 70 #[.agg #[.int .i64 k, .int .i64 p.t, .int .i64 p.x, .int .i64 p.y, .int .i64 p.z, .int .i64 p.p, .int .i64 p.q, .int .i64 p.s, .int .i64 r.t, .int .i64 r.x, .int .i64 r.y, .int .i64 r.z, .int .i64 r.p, .int .i64 r.q, .int .i64 r.s]] u.V fun e w' => e = .returned (.int .i64 (r.t - p.t)) ∧ ∃ q : GrV V, w' = q.V) :=
    fun u => GrV.calls (seconds_is (k : Int) p r hb3 u.V)
  have HGV := Lib.hid hgV
  clear hV hgV hbV hb
  refine wp_region_quiet_gv (by kernel_rfl) (by kernel_rfl) ?_
  repeat (quiet_step (first | (go_at_call 70; exact HC.out _)))
  refine wpQuiet_nil ?_
  rintro U ⟨p9, e9⟩
  have HGU : Hid (w.grownBy U none) := grown_trans HGV.out (by rw [e9]; exact p9.h)
  clear e9 p9
  go_wp2_with fail
  go_ret
  exact ⟨by rw [← HQ.out]; first | rfl | simp, HGU.out⟩
set_option maxRecDepth 100000 in
set_option maxHeartbeats 1600000 in
theorem still1_is (ss : List Smp) (HS : Hid (SOk ss)) (slow : Int) (h0 : 0 ≤ slow) (h1 : slow ≤ 100000) (k : Nat) (hk : k + 1 < ss.length) (B : Nat) (w : World) (hb : w.cell? ⟨B, 0, none⟩ = some (.int .i64 slow)) :
    Calls Try.prog 73 (#[stepV ss k] ++ #[.pointer (some ⟨B, 0, none⟩)]) w fun e w' => e = .returned (.bool (stillM ss slow k)) ∧ w.grownBy w' none := by
  have hin0 := HS.out.inn k (by omega); have hin1 := HS.out.inn (k + 1) hk
  show Calls Try.prog 73 #[stepV ss k, .pointer (some ⟨B, 0, none⟩)] w _
  unfold stepV
  obtain ⟨q, hq⟩ : ∃ q, stillM ss slow k = q := ⟨_, rfl⟩
  have HQ : Hid (decide (stepW (smpD ss k) (smpD ss (k + 1)) ≤ slow * ((smpD ss (k + 1)).t - (smpD ss k).t)) = q) := hq
  rw [hq]
  have hb3 : -1000000 ≤ (smpD ss (k + 1)).t - (smpD ss k).t ∧ (smpD ss (k + 1)).t - (smpD ss k).t ≤ 1000000 := ⟨by omega, by omega⟩
  have hp0 := hin0.2.2.1; have hp1 := hin1.2.2.1
  clear hin0 hin1 hq HS
  generalize smpD ss k = p at *
  generalize smpD ss (k + 1) = r at *
  obtain ⟨wy, hwy⟩ : ∃ n, stepW p r = n := ⟨_, rfl⟩
  obtain ⟨dt, hdt⟩ : ∃ n, r.t - p.t = n := ⟨_, rfl⟩
  have hsec := fun u : World => seconds_is (k : Int) p r hb3 u
  rw [hdt] at hb3 HQ hsec
  rw [hwy] at HQ
  have hpr : -100000000000 ≤ slow * dt ∧ slow * dt ≤ 100000000000 := by
    have a1 : slow * dt ≤ 100000 * 1000000 := by
      rcases Int.le_total 0 dt with h | h
      · exact Int.mul_le_mul h1 hb3.2 h (by omega)
      · have := Int.mul_nonpos_of_nonneg_of_nonpos h0 h; omega
    have a2 : -(slow * dt) ≤ 100000 * 1000000 := by
      rw [← Int.mul_neg]
      rcases Int.le_total 0 (-dt) with h | h
      · exact Int.mul_le_mul h1 (by omega) h (by omega)
      · have := Int.mul_nonpos_of_nonneg_of_nonpos h0 h; omega
    omega
  have rmul : IntKind.i64.wrap (slow * dt) = slow * dt := IntWalk.i64_in _ (by omega)
  have HW := Lib.hid hwy
  clear hwy hpr
  go_enter Try.func73, Try.ntmps73
  go_wp2_with fail
  obtain ⟨V, hV⟩ : ∃ V, w.alloc (.cells #[.int .i64 k, .int .i64 p.t, .int .i64 p.x, .int .i64 p.y, .int .i64 p.z, .int .i64 p.p, .int .i64 p.q, .int .i64 p.s, .int .i64 r.t, .int .i64 r.x, .int .i64 r.y, .int .i64 r.z, .int .i64 r.p, .int .i64 r.q, .int .i64 r.s] 85) = V := ⟨_, rfl⟩
  have hgV : w.grownBy V none := by rw [← hV]; exact World.grownBy_alloc _ _ _
  have hbV : V.heap[w.heap.size]? = some (.cells #[.int .i64 k, .int .i64 p.t, .int .i64 p.x, .int .i64 p.y, .int .i64 p.z, .int .i64 p.p, .int .i64 p.q, .int .i64 p.s, .int .i64 r.t, .int .i64 r.x, .int .i64 r.y, .int .i64 r.z, .int .i64 r.p, .int .i64 r.q, .int .i64 r.s] 85 (0, 0)) := by rw [← hV]; exact World.alloc_heap_new _ _
  rw [hV]
  have x0 : ∀ u : GrV V, u.V.cell? ⟨w.heap.size, 0, none⟩ = some (.int .i64 k) := fun u => grown_cell u.h (mblock_cell hbV 0 _ rfl)
  have x1 : ∀ u : GrV V, u.V.cell? ⟨w.heap.size, 1, none⟩ = some (.int .i64 p.t) := fun u => grown_cell u.h (mblock_cell hbV 1 _ rfl)
  have x2 : ∀ u : GrV V, u.V.cell? ⟨w.heap.size, 2, none⟩ = some (.int .i64 p.x) := fun u => grown_cell u.h (mblock_cell hbV 2 _ rfl)
  have x3 : ∀ u : GrV V, u.V.cell? ⟨w.heap.size, 3, none⟩ = some (.int .i64 p.y) := fun u => grown_cell u.h (mblock_cell hbV 3 _ rfl)
  have x4 : ∀ u : GrV V, u.V.cell? ⟨w.heap.size, 4, none⟩ = some (.int .i64 p.z) := fun u => grown_cell u.h (mblock_cell hbV 4 _ rfl)
  have x5 : ∀ u : GrV V, u.V.cell? ⟨w.heap.size, 5, none⟩ = some (.int .i64 p.p) := fun u => grown_cell u.h (mblock_cell hbV 5 _ rfl)
  have x6 : ∀ u : GrV V, u.V.cell? ⟨w.heap.size, 6, none⟩ = some (.int .i64 p.q) := fun u => grown_cell u.h (mblock_cell hbV 6 _ rfl)
  have x7 : ∀ u : GrV V, u.V.cell? ⟨w.heap.size, 7, none⟩ = some (.int .i64 p.s) := fun u => grown_cell u.h (mblock_cell hbV 7 _ rfl)
  have x8 : ∀ u : GrV V, u.V.cell? ⟨w.heap.size, 8, none⟩ = some (.int .i64 r.t) := fun u => grown_cell u.h (mblock_cell hbV 8 _ rfl)
  have x9 : ∀ u : GrV V, u.V.cell? ⟨w.heap.size, 9, none⟩ = some (.int .i64 r.x) := fun u => grown_cell u.h (mblock_cell hbV 9 _ rfl)
  have x10 : ∀ u : GrV V, u.V.cell? ⟨w.heap.size, 10, none⟩ = some (.int .i64 r.y) := fun u => grown_cell u.h (mblock_cell hbV 10 _ rfl)
  have x11 : ∀ u : GrV V, u.V.cell? ⟨w.heap.size, 11, none⟩ = some (.int .i64 r.z) := fun u => grown_cell u.h (mblock_cell hbV 11 _ rfl)
  have x12 : ∀ u : GrV V, u.V.cell? ⟨w.heap.size, 12, none⟩ = some (.int .i64 r.p) := fun u => grown_cell u.h (mblock_cell hbV 12 _ rfl)
  have x13 : ∀ u : GrV V, u.V.cell? ⟨w.heap.size, 13, none⟩ = some (.int .i64 r.q) := fun u => grown_cell u.h (mblock_cell hbV 13 _ rfl)
  have x14 : ∀ u : GrV V, u.V.cell? ⟨w.heap.size, 14, none⟩ = some (.int .i64 r.s) := fun u => grown_cell u.h (mblock_cell hbV 14 _ rfl)
  have xg : ∀ u : GrV V, u.V.cell? ⟨B, 0, none⟩ = some (.int .i64 slow) := fun u => grown_cell u.h (grown_cell hgV hb)
  have HC : Hid (∀ u : GrV V, Calls Try.prog 70 #[.agg #[.int .i64 k, .int .i64 p.t, .int .i64 p.x, .int .i64 p.y, .int .i64 p.z, .int .i64 p.p, .int .i64 p.q, .int .i64 p.s, .int .i64 r.t, .int .i64 r.x, .int .i64 r.y, .int .i64 r.z, .int .i64 r.p, .int .i64 r.q, .int .i64 r.s]] u.V fun e w' => e = .returned (.int .i64 dt) ∧ ∃ q : GrV V, w' = q.V) :=
    fun u => GrV.calls (hsec u.V)
  have HD : Hid (∀ u : GrV V, Calls Try.prog 74 #[.agg #[.int .i64 k, .int .i64 p.t, .int .i64 p.x, .int .i64 p.y, .int .i64 p.z, .int .i64 p.p, .int .i64 p.q, .int .i64 p.s, .int .i64 r.t, .int .i64 r.x, .int .i64 r.y, .int .i64 r.z, .int .i64 r.p, .int .i64 r.q, .int .i64 r.s]] u.V fun e w' => e = .returned (.int .i64 wy) ∧ ∃ q : GrV V, w' = q.V) :=
    fun u => GrV.calls (way_is (k : Int) p r hp0 hp1 u.V HW)
  have HGV := Lib.hid hgV
  clear hV hgV hbV hb hsec hdt
  refine wp_region_quiet_gv (by kernel_rfl) (by kernel_rfl) ?_
  repeat (quiet_step (first | (go_at_call 70; exact HC.out _) | (go_at_call 74; exact HD.out _)))
  refine wpQuiet_nil ?_
  rintro U ⟨p9, e9⟩
  have HGU : Hid (w.grownBy U none) := grown_trans HGV.out (by rw [e9]; exact p9.h)
  clear e9 p9
  go_wp2_with fail
  go_ret
  exact ⟨by rw [← HQ.out]; first | rfl | simp, HGU.out⟩
end Go.Proofs.Ytgkhhfojioepgaa
