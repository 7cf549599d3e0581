/- For all activities, Idle, Still and Moving return what the reference returns: the walk. -/
import Derived.Test.YtgkhhfojioepgaaTTold
import Derived.Test.YtgkhhfojioepgaaTMov
import Derived.Test.YtgkhhfojioepgaaTRMov
namespace Go.Proofs.Ytgkhhfojioepgaa
open Go.RowKit
set_option linter.unusedSimpArgs false
set_option linter.unusedVariables false

set_option maxRecDepth 100000 in
set_option maxHeartbeats 1600000 in
theorem equal_spans {w : World} {a1 a2 : Option Addr} {c1 c2 : Nat} {L : List SpV} (h1 : RowsAt spCs 2 w a1 L) (h2 : RowsAt spCs 2 w a2 L) (hn : (L.length : Int) ≤ 9223372036854775807) :
    Calls Try.prog 27 #[.slice a1 L.length c1, .slice a2 L.length c2] w fun e w' => e = .returned (.bool true) ∧ w.grownBy w' none := by
  have Q1 := Lib.hid h1; have Q2 := Lib.hid h2
  clear h1 h2
  go_enter Try.func27, Try.ntmps27
  go_wp2_with fail
  go_loopw [13] (fun iv wr => ∃ k : Nat, k ≤ L.length ∧ iv = .int .i64 k ∧ Hid (w.grownBy wr none)) (fun iv _ => L.length - (intOf iv).toNat)
  case atStart => exact ⟨0, Nat.zero_le _, rfl, World.grownBy.refl _ _⟩
  case round =>
    obtain ⟨k, hk, rfl, hg⟩ := hrel
    by_cases hlt : k < L.length
    · obtain ⟨b1, o1, rfl, q1⟩ := sp_at (Q1.out.grown hg.out) (by omega)
      obtain ⟨b2, o2, rfl, q2⟩ := sp_at (Q2.out.grown hg.out) (by omega)
      obtain ⟨x0, x1⟩ := q1 k hlt
      obtain ⟨y0, y1⟩ := q2 k hlt
      generalize L[k] = h at *
      obtain ⟨z0, z1⟩ := h
      simp only at x0 x1 y0 y1
      clear q1 q2
      go_wp2_with fail
      go_quiet (fail)
      go_wp2_with fail
      go_roundw
      case rel => exact ⟨k + 1, by omega, by go_num, grown_trans hg.out (grown_drewN _ _ _)⟩
      case measure => simp [intOf]; omega
    · go_wp2_with fail
      go_ret
      exact ⟨rfl, hg.out⟩
theorem idle_len {a : Act} {gap : Int} {L : List SpV} {E : Int} (h : idleE a gap = (L, E)) : L.length ≤ 20000 := by
  by_cases hE : E = 0
  · subst hE
    have q := idle_rests h
    have := q.len; have := q.ok.len; omega
  · unfold idleE at h
    split at h
    · split at h
      · simp only [Prod.mk.injEq] at h; exact absurd h.2.symm hE
      · simp only [Prod.mk.injEq] at h; rw [← h.1]; simp
    · simp only [Prod.mk.injEq] at h; rw [← h.1]; simp
theorem still_len {a : Act} {slow least : Int} {L : List SpV} {E : Int} (h : stillE a slow least = (L, E)) : L.length ≤ 20000 := by
  by_cases hE : E = 0
  · subst hE
    have q := still_rests h
    have := q.len; have := q.ok.len; omega
  · unfold stillE at h
    split at h
    · split at h
      · split at h
        · simp only [Prod.mk.injEq] at h; exact absurd h.2.symm hE
        · simp only [Prod.mk.injEq] at h; rw [← h.1]; simp
      · simp only [Prod.mk.injEq] at h; rw [← h.1]; simp
    · simp only [Prod.mk.injEq] at h; rw [← h.1]; simp

set_option maxRecDepth 100000 in
set_option maxHeartbeats 3200000 in
theorem rests_law (a : Act) (gap slow least : Int) (w : World) (ha : ActAt w a) (_hc : a.ss.length ≤ a.sc) :
    Calls Try.prog 4 #[a.val, .int .i64 gap, .int .i64 slow, .int .i64 least] w fun e w' => e = .returned (.bool true) ∧ w.grownBy w' none := by
  obtain ⟨X, E1, hI⟩ : ∃ X E1, idleE a gap = (X, E1) := ⟨_, _, rfl⟩
  obtain ⟨Y, E2, hS⟩ : ∃ Y E2, stillE a slow least = (Y, E2) := ⟨_, _, rfl⟩
  obtain ⟨V, E3, hM⟩ : ∃ V E3, movO a gap slow least = (V, E3) := ⟨_, _, rfl⟩
  have hx := idle_len hI; have hy := still_len hS
  have HI := Lib.hid hI; have HS := Lib.hid hS; have HM := Lib.hid hM; have HA := Lib.hid ha
  have HX := Lib.hid hx; have HY := Lib.hid hy
  clear hI hS hM ha hx hy
  obtain ⟨nm, sp, st, so, sc, ss, lo, lc, ls, to_, tc, ts⟩ := a
  have ZB : Hid ((w.alloc (.cells #[.string nm, .int .i64 sp, .int .i64 st, .slice so ss.length sc, .slice lo ls.length lc, .slice to_ ts.length tc] 26)).heap[w.heap.size]? = some (.cells #[.string nm, .int .i64 sp, .int .i64 st, .slice so ss.length sc, .slice lo ls.length lc, .slice to_ ts.length tc] 26 (0, 0))) := World.alloc_heap_new w _
  have GB : Hid (w.grownBy (w.alloc (.cells #[.string nm, .int .i64 sp, .int .i64 st, .slice so ss.length sc, .slice lo ls.length lc, .slice to_ ts.length tc] 26)) none) := World.grownBy_alloc _ _ _
  have LB : Hid (w.heap.size < (w.alloc (.cells #[.string nm, .int .i64 sp, .int .i64 st, .slice so ss.length sc, .slice lo ls.length lc, .slice to_ ts.length tc] 26)).heap.size) := by show _ < _; simp
  simp only [Act.val]
  go_enter Try.func4, Try.ntmps4
  go_wp2_with fail
  refine (Idle_any ⟨nm, sp, st, so, sc, ss, lo, lc, ls, to_, tc, ts⟩ gap _ (HA.out.grown GB.out) HI).mono ?_; rintro e w1 ⟨⟨v1, rfl, ho1⟩, hg1⟩
  have HO1 := Lib.hid ho1
  have G1 := Lib.hid hg1
  clear ho1 hg1
  obtain ⟨a0, a1, a2, a3, a4, a5⟩ := act_cells ((G1.out.block _ LB.out (by simp)).trans ZB.out)
  go_wp2_with fail
  refine (rIdle_any ⟨nm, sp, st, so, sc, ss, lo, lc, ls, to_, tc, ts⟩ gap _ (HA.out.grown (grown_trans GB.out G1.out)) HI).mono ?_; rintro e w2 ⟨⟨v2, rfl, ho2⟩, hg2⟩
  have HO2 := Lib.hid ho2
  have HO1b := Lib.hid (keptR HO1.out hg2)
  have G2 := Lib.hid (grown_trans G1.out hg2)
  clear ho2 hg2 a0 a1 a2 a3 a4 a5 HO1 G1
  obtain ⟨a0, a1, a2, a3, a4, a5⟩ := act_cells ((G2.out.block _ LB.out (by simp)).trans ZB.out)
  go_wp2_with fail
  refine (Still_any ⟨nm, sp, st, so, sc, ss, lo, lc, ls, to_, tc, ts⟩ slow least _ (HA.out.grown (grown_trans GB.out G2.out)) HS).mono ?_; rintro e w3 ⟨⟨v3, rfl, ho3⟩, hg3⟩
  have HO3 := Lib.hid ho3
  have HO1c := Lib.hid (keptR HO1b.out hg3); have HO2c := Lib.hid (keptR HO2.out hg3)
  have G3 := Lib.hid (grown_trans G2.out hg3)
  clear ho3 hg3 a0 a1 a2 a3 a4 a5 HO1b HO2 G2
  obtain ⟨a0, a1, a2, a3, a4, a5⟩ := act_cells ((G3.out.block _ LB.out (by simp)).trans ZB.out)
  go_wp2_with fail
  refine (rStill_any ⟨nm, sp, st, so, sc, ss, lo, lc, ls, to_, tc, ts⟩ slow least _ (HA.out.grown (grown_trans GB.out G3.out)) HS).mono ?_; rintro e w4 ⟨⟨v4, rfl, ho4⟩, hg4⟩
  have HO4 := Lib.hid ho4
  have HO1d := Lib.hid (keptR HO1c.out hg4); have HO2d := Lib.hid (keptR HO2c.out hg4); have HO3d := Lib.hid (keptR HO3.out hg4)
  have G4 := Lib.hid (grown_trans G3.out hg4)
  clear ho4 hg4 a0 a1 a2 a3 a4 a5 HO1c HO2c HO3 G3
  obtain ⟨a0, a1, a2, a3, a4, a5⟩ := act_cells ((G4.out.block _ LB.out (by simp)).trans ZB.out)
  go_wp2_with fail
  refine (Moving_any ⟨nm, sp, st, so, sc, ss, lo, lc, ls, to_, tc, ts⟩ gap slow least _ (HA.out.grown (grown_trans GB.out G4.out)) HM).mono ?_; rintro e w5 ⟨rfl, hg5⟩
  have HO1e := Lib.hid (keptR HO1d.out hg5); have HO2e := Lib.hid (keptR HO2d.out hg5); have HO3e := Lib.hid (keptR HO3d.out hg5); have HO4e := Lib.hid (keptR HO4.out hg5)
  have G5 := Lib.hid (grown_trans G4.out hg5)
  clear hg5 a0 a1 a2 a3 a4 a5 HO1d HO2d HO3d HO4 G4
  obtain ⟨a0, a1, a2, a3, a4, a5⟩ := act_cells ((G5.out.block _ LB.out (by simp)).trans ZB.out)
  go_wp2_with fail
  refine (rMoving_any ⟨nm, sp, st, so, sc, ss, lo, lc, ls, to_, tc, ts⟩ gap slow least _ (HA.out.grown (grown_trans GB.out G5.out)) HM).mono ?_; rintro e w6 ⟨rfl, hg6⟩
  obtain ⟨p1, q1, rfl, _, r1, _⟩ := own_rows spCs_len (keptR HO1e.out hg6)
  obtain ⟨p2, q2, rfl, _, r2, _⟩ := own_rows spCs_len (keptR HO2e.out hg6)
  obtain ⟨p3, q3, rfl, _, r3, _⟩ := own_rows spCs_len (keptR HO3e.out hg6)
  obtain ⟨p4, q4, rfl, _, r4, _⟩ := own_rows spCs_len (keptR HO4e.out hg6)
  have R1 := Lib.hid r1; have R2 := Lib.hid r2; have R3 := Lib.hid r3; have R4 := Lib.hid r4
  have K := Lib.hid (grown_trans GB.out (grown_trans G5.out hg6))
  clear hg6 a0 a1 a2 a3 a4 a5 HO1e HO2e HO3e HO4e G5 r1 r2 r3 r4 ZB GB LB
  go_wp2_with fail
  refine (equal_spans R1.out R2.out (by have := HX.out; omega)).mono ?_; rintro x w7 ⟨rfl, hg7⟩
  have R3' := Lib.hid (R3.out.grown hg7); have R4' := Lib.hid (R4.out.grown hg7)
  replace K := Lib.hid (grown_trans K.out hg7)
  clear hg7 R1 R2 R3 R4
  go_wp2_with fail
  refine (equal_spans R3'.out R4'.out (by have := HY.out; omega)).mono ?_; rintro x w8 ⟨rfl, hg8⟩
  replace K := Lib.hid (grown_trans K.out hg8)
  clear hg8 R3' R4'
  go_wp2_with fail
  refine (told_any _).mono ?_; rintro x w9 ⟨rfl, hg9⟩
  replace K := Lib.hid (grown_trans K.out hg9)
  clear hg9
  go_wp2_with fail
  go_ret
  exact ⟨by first | rfl | simp, K.out⟩
end Go.Proofs.Ytgkhhfojioepgaa
