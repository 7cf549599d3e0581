/- The law's walk: both sides' crossings are equal. -/
import Derived.Test.YtckelojdjmaliaaMRCross
import Derived.Test.YtckelojdjmaliaaMTold
import Derived.Test.YtckelojdjmaliaaBaseA
namespace Go.Proofs.Ytckelojdjmaliaa
open Go.RowKit
set_option linter.unusedSimpArgs false
set_option linter.unusedVariables false

/-- What is known of a segment and an activity that are right. -/
theorem crs_right {s : Seg} {a : Act} (h : crsE s a = 0) : (∀ g ∈ s.gs, gate1 g = 0) ∧ (2 ≤ s.gs.length ∧ s.gs.length ≤ 50) ∧ SOk a.ss := by
  unfold crsE at h
  split at h
  · rename_i h1
    have h2 := h1
    unfold segE at h2
    split at h2
    · split at h2
      · rename_i h3; exact ⟨gatesE_zero.1 h2, h3, sok_of (chk_ok h)⟩
      · omega
    · omega
  · rename_i h1; exact absurd h h1
theorem crs_steps (s : Seg) (a : Act) : crsE s a = 0 → StepsOk s.gs a.ss (SLc s.gs a.ss) := fun h =>
  let q := crs_right h
  steps_ok q.1 q.2.1.2 q.2.2
theorem crsL_len (s : Seg) (a : Act) : (crsL (SLc s.gs a.ss) s a).length ≤ 1000000 := by
  unfold crsL
  split
  · rename_i h
    obtain ⟨h1, h2, h3⟩ := crs_right h
    have hl : (a.ss.length : Int) ≤ 20000 := h3.len
    rcases Nat.eq_zero_or_pos a.ss.length with c | c
    · rw [c]; simp [crsK]
    · have := crsK_len (SL := SLc s.gs a.ss) (ss := a.ss) (fun j hj => by
        have := passK_len s.gs (smpPt (smpD a.ss j)) (smpPt (smpD a.ss (j + 1))) s.gs.length
        show (srtP _).length ≤ _
        rw [srtP_len]; omega) (a.ss.length - 1) (by omega)
      omega
  · simp

set_option maxHeartbeats 1600000 in
theorem cross_law (s : Seg) (a : Act) (w : World) (hs : SegAt w s) (ha : ActAt w a) (hac : a.ss.length ≤ a.sc) :
    Calls Try.prog 4 #[s.val, a.val] w fun e w' => e = .returned (.bool true) ∧ w.grownBy w' none := by
  obtain ⟨E, hE⟩ : ∃ e, crsE s a = e := ⟨_, rfl⟩
  obtain ⟨L, hL⟩ : ∃ e, crsL (SLc s.gs a.ss) s a = e := ⟨_, rfl⟩
  have LL := Lib.hid (crsL_len s a)
  have HE := Lib.hid hE; have HL := Lib.hid hL; have HS := Lib.hid hs; have HA := Lib.hid ha
  have SP : Hid (∀ W : World, SegAt W s → ActAt W a → Calls Try.prog 15 #[s.val, a.val] W fun e w' => (∃ ao cap, e = .returned (.tuple #[.slice ao L.length cap, .int .i64 E]) ∧ RowsAt crsCs 3 w' ao L) ∧ W.grownBy w' none) := fun W h1 h2 => by
    refine (Crossings_is s a W h1 h2 (SLc s.gs a.ss) (crs_steps s a) HE).mono ?_
    rintro e w' ⟨⟨v, rfl, ho⟩, hg⟩
    rw [HL.out] at ho
    obtain ⟨ao, cap, hv, _, hr, _⟩ := own_rows (cs := crsCs) (fun _ => rfl) ho
    subst hv
    exact ⟨⟨ao, cap, rfl, hr⟩, hg⟩
  have RP : Hid (∀ W : World, SegAt W s → ActAt W a → Calls Try.prog 16 #[s.val, a.val] W fun e w' => (∃ ao cap, e = .returned (.tuple #[.slice ao L.length cap, .int .i64 E]) ∧ RowsAt crsCs 3 w' ao L) ∧ W.grownBy w' none) := fun W h1 h2 => by
    refine (rCrossings_is s a W h1 h2 HE).mono ?_
    rintro e w' ⟨⟨v, rfl, ho⟩, hg⟩
    rw [HL.out] at ho
    obtain ⟨ao, cap, hv, _, hr, _⟩ := own_rows (cs := crsCs) (fun _ => rfl) ho
    subst hv
    exact ⟨⟨ao, cap, rfl, hr⟩, hg⟩
  rw [hL] at LL
  obtain ⟨snm, sgo, sgc, gs⟩ := s
  obtain ⟨nm, sp, st, so, sc, ss, lo, lc, ls, to_, tc, ts⟩ := a
  simp only [Seg.val, Act.val] at *
  clear hE hL hs ha hac
  have B1 : Hid (((w.alloc (.cells #[.string snm, .slice sgo gs.length sgc] 24)).alloc (.cells #[.string nm, .int .i64 sp, .int .i64 st, .slice so ss.length sc, .slice lo ls.length lc, .slice to_ ts.length tc] 36)).heap[w.heap.size]? = some (.cells #[.string snm, .slice sgo gs.length sgc] 24 (0, 0))) := mblock_at (mheap_new w _) (World.grownBy_alloc _ _ none) (by simp)
  have B2 : Hid (((w.alloc (.cells #[.string snm, .slice sgo gs.length sgc] 24)).alloc (.cells #[.string nm, .int .i64 sp, .int .i64 st, .slice so ss.length sc, .slice lo ls.length lc, .slice to_ ts.length tc] 36)).heap[w.heap.size + 1]? = some (.cells #[.string nm, .int .i64 sp, .int .i64 st, .slice so ss.length sc, .slice lo ls.length lc, .slice to_ ts.length tc] 36 (0, 0))) := by
    have q := mheap_new (w.alloc (.cells #[.string snm, .slice sgo gs.length sgc] 24)) (.cells #[.string nm, .int .i64 sp, .int .i64 st, .slice so ss.length sc, .slice lo ls.length lc, .slice to_ ts.length tc] 36)
    rw [show (w.alloc (.cells #[.string snm, .slice sgo gs.length sgc] 24)).heap.size = w.heap.size + 1 from by simp] at q; exact q
  have G1 : Hid (w.grownBy ((w.alloc (.cells #[.string snm, .slice sgo gs.length sgc] 24)).alloc (.cells #[.string nm, .int .i64 sp, .int .i64 st, .slice so ss.length sc, .slice lo ls.length lc, .slice to_ ts.length tc] 36)) none) := grown_trans (World.grownBy_alloc _ _ _) (World.grownBy_alloc _ _ _)
  go_enter Try.func4, Try.ntmps4
  go_upto_region 1 with (fail)
  generalize ((w.alloc (.cells #[.string snm, .slice sgo gs.length sgc] 24)).alloc (.cells #[.string nm, .int .i64 sp, .int .i64 st, .slice so ss.length sc, .slice lo ls.length lc, .slice to_ ts.length tc] 36)) = w0 at *
  have s0 := mblock_cell B1.out 0 _ rfl; have s1 := mblock_cell B1.out 1 _ rfl
  have y0 := mblock_cell B2.out 0 _ rfl; have y1 := mblock_cell B2.out 1 _ rfl; have y2 := mblock_cell B2.out 2 _ rfl; have y3 := mblock_cell B2.out 3 _ rfl; have y4 := mblock_cell B2.out 4 _ rfl; have y5 := mblock_cell B2.out 5 _ rfl
  go_wp2_with fail
  refine (SP.out _ (HS.out.grown G1.out) (HA.out.grown G1.out)).mono ?_; rintro e w1 ⟨⟨o1, c1, rfl, p1⟩, hg1⟩
  have G2 := Lib.hid (grown_trans G1.out hg1); have P1 := Lib.hid p1
  have B3 := Lib.hid (mblock_at B1.out hg1 (by simp)); have B4 := Lib.hid (mblock_at B2.out hg1 (by simp))
  clear hg1 p1 B1 B2 G1 SP s0 s1 y0 y1 y2 y3 y4 y5
  have s0 := mblock_cell B3.out 0 _ rfl; have s1 := mblock_cell B3.out 1 _ rfl
  have y0 := mblock_cell B4.out 0 _ rfl; have y1 := mblock_cell B4.out 1 _ rfl; have y2 := mblock_cell B4.out 2 _ rfl; have y3 := mblock_cell B4.out 3 _ rfl; have y4 := mblock_cell B4.out 4 _ rfl; have y5 := mblock_cell B4.out 5 _ rfl
  go_wp2_with fail
  refine (RP.out _ (HS.out.grown G2.out) (HA.out.grown G2.out)).mono ?_; rintro e w2 ⟨⟨o2, c2, rfl, p2⟩, hg2⟩
  have G3 := Lib.hid (grown_trans G2.out hg2); have P2 := Lib.hid p2; have P12 := Lib.hid (P1.out.grown hg2)
  clear hg2 p2 s0 s1 y0 y1 y2 y3 y4 y5 B3 B4 G2 P1 RP
  go_wp2_with fail
  refine (equal_crs P12.out P2.out (by have := LL.out; omega)).mono ?_; rintro e w5 ⟨rfl, hg5⟩
  have G5 := Lib.hid (grown_trans G3.out hg5)
  clear hg5 G3
  go_wp2_with fail
  refine (told5_any _).mono ?_; rintro e w6 ⟨rfl, hg6⟩
  have G6 := Lib.hid (grown_trans G5.out hg6)
  clear hg6 G5
  go_wp2_with fail
  go_ret
  exact ⟨rfl, G6.out⟩
end Go.Proofs.Ytckelojdjmaliaa
