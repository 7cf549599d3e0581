/- For all activities, Keep returns what the reference returns: the walk. -/
import Derived.Test.YtfeolnlomhioaaaTTold
import Derived.Test.YtfeolnlomhioaaaTKeepO
namespace Go.Proofs.Ytfeolnlomhioaaa
open Go.RowKit

theorem keep_zero {a : Act} {fast : Int} (h : keepE a fast = 0) : a.ss.length ≤ 2000 := by
  unfold keepE at h
  split at h
  · split at h
    · split at h
      · omega
      · omega
    · omega
  · rename_i h1; exact absurd h h1
theorem kept_same {w1 w2 : World} {b1 b2 : Nat} {a : Act} {fast E : Int} {v1 v2 : Value} {k1 k2 : Nat} (hE : keepE a fast = E) (h1 : KeptAt w1 b1 a fast E v1 k1) (h2 : KeptAt w2 b2 a fast E v2 k2) : k1 = k2 ∧ k1 ≤ 2000 := by
  by_cases e : E = 0
  · have p := h1.1 e
    have q := pth_up (nextK_in a.ss.length (agS a.ss fast)) (kp_bd a.ss.length (agS a.ss fast) a.ss.length (Nat.le_refl _)).2.2.1 k1 p.1
    have := keep_zero (hE.trans e)
    exact ⟨pth_one p (h2.1 e), by omega⟩
  · rw [h1.2.1 e, h2.2.1 e]; exact ⟨rfl, by omega⟩

set_option maxRecDepth 100000 in
set_option maxHeartbeats 1600000 in
theorem keep_law (a : Act) (fast : Int) (w : World) (ha : ActAt w a) (hc : a.ss.length ≤ a.sc) :
    Calls Try.prog 6 #[a.val, .int .i64 fast] w fun e w' => e = .returned (.bool true) ∧ w.grownBy w' none := by
  obtain ⟨E, hwe⟩ : ∃ E, keepE a fast = E := ⟨_, rfl⟩
  have HWE := Lib.hid hwe; have HA := Lib.hid ha
  clear hwe ha hc
  obtain ⟨nm, sp, st, so, sc, ss, lo, lc, ls, to_, tc, ts⟩ := a
  simp only [Act.val]
  go_enter Try.func6, Try.ntmps6
  have GB : Hid (w.grownBy (w.alloc (.cells #[.string nm, .int .i64 sp, .int .i64 st, .slice so ss.length sc, .slice lo ls.length lc, .slice to_ ts.length tc] 26)) none) := World.grownBy_alloc _ _ _
  go_wp2_with fail
  refine (Keep_any ⟨nm, sp, st, so, sc, ss, lo, lc, ls, to_, tc, ts⟩ fast _ (HA.out.grown GB.out) HWE).mono ?_; rintro x w1 ⟨⟨v1, k1, rfl, ho1⟩, hg1⟩
  have HO1 := Lib.hid ho1
  have K := Lib.hid hg1
  clear ho1 hg1
  have a0 : w1.cell? ⟨w.heap.size, 0, none⟩ = some (.string nm) := grown_cell K.out (by go_simp)
  have a1 : w1.cell? ⟨w.heap.size, 1, none⟩ = some (.int .i64 sp) := grown_cell K.out (by go_simp)
  have a2 : w1.cell? ⟨w.heap.size, 2, none⟩ = some (.int .i64 st) := grown_cell K.out (by go_simp)
  have a3 : w1.cell? ⟨w.heap.size, 3, none⟩ = some (.slice so ss.length sc) := grown_cell K.out (by go_simp)
  have a4 : w1.cell? ⟨w.heap.size, 4, none⟩ = some (.slice lo ls.length lc) := grown_cell K.out (by go_simp)
  have a5 : w1.cell? ⟨w.heap.size, 5, none⟩ = some (.slice to_ ts.length tc) := grown_cell K.out (by go_simp)
  go_wp2_with fail
  refine (rKeep_any ⟨nm, sp, st, so, sc, ss, lo, lc, ls, to_, tc, ts⟩ fast _ (HA.out.grown (grown_trans GB.out K.out)) HWE).mono ?_; rintro x w2 ⟨⟨v2, k2, rfl, ho2⟩, hg2⟩
  obtain ⟨hk, hkb⟩ := kept_same HWE.out HO1.out ho2
  subst hk
  have HO1' := HO1.out.2.2.kept hg2 (by cases v1.ownBlock <;> simp)
  obtain ⟨p1, c1, rfl, i1⟩ := own_pth HO1'
  obtain ⟨p2, c2, rfl, i2⟩ := own_pth ho2.2.2
  have I1 := Lib.hid i1; have I2 := Lib.hid i2
  replace K := Lib.hid (grown_trans K.out hg2)
  clear a0 a1 a2 a3 a4 a5 ho2 hg2 HO1 HO1' i1 i2
  go_wp2_with fail
  refine (equal_ints I1.out I2.out (fun _ _ => rfl) (by omega)).mono ?_; rintro x w3 ⟨rfl, hg3⟩
  replace K := Lib.hid (grown_trans K.out hg3)
  clear hg3
  go_wp2_with fail
  refine (told_any _).mono ?_; rintro x w4 ⟨rfl, hg4⟩
  replace K := Lib.hid (grown_trans K.out hg4)
  clear hg4
  go_wp2_with fail
  go_ret
  exact ⟨by first | rfl | simp, grown_trans GB.out K.out⟩

end Go.Proofs.Ytfeolnlomhioaaa
