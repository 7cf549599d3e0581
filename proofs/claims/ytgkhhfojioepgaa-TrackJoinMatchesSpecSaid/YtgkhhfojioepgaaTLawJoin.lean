/- For all two activities, Join returns what the reference returns: the walk. -/
import Derived.Test.YtgkhhfojioepgaaBaseD
import Derived.Test.YtgkhhfojioepgaaTJoin
import Derived.Test.YtgkhhfojioepgaaTRJoin
namespace Go.Proofs.Ytgkhhfojioepgaa
open Go.RowKit
set_option linter.unusedSimpArgs false
set_option linter.unusedVariables false

set_option maxRecDepth 100000 in
set_option maxHeartbeats 3200000 in
theorem join_law (a b : Act) (w : World) (ha : ActAt w a) (hta : a.ts.length ≤ a.tc) (hb : ActAt w b) (htb : b.ts.length ≤ b.tc) :
    Calls Try.prog 7 #[a.val, b.val] w fun e w' => e = .returned (.bool true) ∧ w.grownBy w' none := by
  rcases h2 : joinO a b with ⟨c, D⟩
  have H2 := Lib.hid h2; have HA := Lib.hid ha; have HB := Lib.hid hb; have HTA := Lib.hid hta; have HTB := Lib.hid htb
  clear h2 ha hb hta htb
  obtain ⟨nm, sp, st, so, sc, ss, lo, lc, ls, to_, tc, ts⟩ := a
  obtain ⟨nm2, sp2, st2, so2, sc2, ss2, lo2, lc2, ls2, to2, tc2, ts2⟩ := b
  simp only [Act.val] at *
  have GB := Lib.hid (grown_trans (World.grownBy_alloc w (.cells #[.string nm, .int .i64 sp, .int .i64 st, .slice so ss.length sc, .slice lo ls.length lc, .slice to_ ts.length tc] 26) none) (World.grownBy_alloc _ (.cells #[.string nm2, .int .i64 sp2, .int .i64 st2, .slice so2 ss2.length sc2, .slice lo2 ls2.length lc2, .slice to2 ts2.length tc2] 26) none))
  have Ba : Hid (((w.alloc (.cells #[.string nm, .int .i64 sp, .int .i64 st, .slice so ss.length sc, .slice lo ls.length lc, .slice to_ ts.length tc] 26)).alloc (.cells #[.string nm2, .int .i64 sp2, .int .i64 st2, .slice so2 ss2.length sc2, .slice lo2 ls2.length lc2, .slice to2 ts2.length tc2] 26)).heap[w.heap.size]? = some (.cells #[.string nm, .int .i64 sp, .int .i64 st, .slice so ss.length sc, .slice lo ls.length lc, .slice to_ ts.length tc] 26 (0, 0))) := by
    show _ = _; rw [Below.heap_alloc _ _ _ (by simp)]; exact heap_alloc_new w _
  have Bb : Hid (((w.alloc (.cells #[.string nm, .int .i64 sp, .int .i64 st, .slice so ss.length sc, .slice lo ls.length lc, .slice to_ ts.length tc] 26)).alloc (.cells #[.string nm2, .int .i64 sp2, .int .i64 st2, .slice so2 ss2.length sc2, .slice lo2 ls2.length lc2, .slice to2 ts2.length tc2] 26)).heap[w.heap.size + 1]? = some (.cells #[.string nm2, .int .i64 sp2, .int .i64 st2, .slice so2 ss2.length sc2, .slice lo2 ls2.length lc2, .slice to2 ts2.length tc2] 26 (0, 0))) := by
    have := heap_alloc_new (w.alloc (.cells #[.string nm, .int .i64 sp, .int .i64 st, .slice so ss.length sc, .slice lo ls.length lc, .slice to_ ts.length tc] 26)) (.cells #[.string nm2, .int .i64 sp2, .int .i64 st2, .slice so2 ss2.length sc2, .slice lo2 ls2.length lc2, .slice to2 ts2.length tc2] 26); show _ = _; simpa using this
  go_enter Try.func7, Try.ntmps7
  go_wp2_with fail
  refine (Join_any ⟨nm, sp, st, so, sc, ss, lo, lc, ls, to_, tc, ts⟩ ⟨nm2, sp2, st2, so2, sc2, ss2, lo2, lc2, ls2, to2, tc2, ts2⟩ _ (HA.out.grown GB.out) (HB.out.grown GB.out) H2).mono ?_; rintro e w1 ⟨⟨v1, rfl, his⟩, hg⟩
  obtain ⟨s1, cs1, l1, cl1, t1, ct1, rfl, hat1⟩ := his
  have HX := Lib.hid hat1
  clear hat1
  replace Ba := Lib.hid (block_at Ba.out hg (by simp)); replace Bb := Lib.hid (block_at Bb.out hg (by simp))
  replace GB := Lib.hid (grown_trans GB.out hg)
  clear hg
  go_upto_region 2 with (fail)
  obtain ⟨V0, hV⟩ : ∃ V, w1.alloc (.cells #[.string c.name, .int .i64 c.sport, .int .i64 c.start, .slice s1 c.ss.length cs1, .slice l1 c.ls.length cl1, .slice t1 c.ts.length ct1] 26) = V := ⟨_, rfl⟩
  have gV : w1.grownBy V0 none := by rw [← hV]; exact World.grownBy_alloc _ _ _
  have Bx : Hid (V0.heap[w1.heap.size]? = some (.cells #[.string c.name, .int .i64 c.sport, .int .i64 c.start, .slice s1 c.ss.length cs1, .slice l1 c.ls.length cl1, .slice t1 c.ts.length ct1] 26 (0, 0))) := by rw [← hV]; exact heap_alloc_new _ _
  rw [hV]
  replace Ba := Lib.hid (block_at Ba.out gV (by simp)); replace Bb := Lib.hid (block_at Bb.out gV (by simp))
  replace HX := Lib.hid (HX.out.grown gV)
  replace GB := Lib.hid (grown_trans GB.out gV)
  clear hV gV
  generalize w1.heap.size = blkx at *
  have a0 := block_cell Ba.out 0 _ rfl
  have a1 := block_cell Ba.out 1 _ rfl
  have a2 := block_cell Ba.out 2 _ rfl
  have a3 := block_cell Ba.out 3 _ rfl
  have a4 := block_cell Ba.out 4 _ rfl
  have a5 := block_cell Ba.out 5 _ rfl
  have b0 := block_cell Bb.out 0 _ rfl
  have b1 := block_cell Bb.out 1 _ rfl
  have b2 := block_cell Bb.out 2 _ rfl
  have b3 := block_cell Bb.out 3 _ rfl
  have b4 := block_cell Bb.out 4 _ rfl
  have b5 := block_cell Bb.out 5 _ rfl
  go_wp2_with fail
  refine (rJoin_any ⟨nm, sp, st, so, sc, ss, lo, lc, ls, to_, tc, ts⟩ ⟨nm2, sp2, st2, so2, sc2, ss2, lo2, lc2, ls2, to2, tc2, ts2⟩ _ (HA.out.grown GB.out) (HB.out.grown GB.out) HTA.out HTB.out H2).mono ?_; rintro e w2 ⟨⟨v2, rfl, his⟩, hg⟩
  obtain ⟨s2, cs2, l2, cl2, t2, ct2, rfl, hat2⟩ := his
  have HY := Lib.hid hat2
  clear hat2
  replace Bx := Lib.hid (block_at Bx.out hg (by simp))
  replace HX := Lib.hid (HX.out.grown hg)
  replace GB := Lib.hid (grown_trans GB.out hg)
  clear hg a0 a1 a2 a3 a4 a5 b0 b1 b2 b3 b4 b5 Ba Bb
  go_upto_region 3 with (fail)
  obtain ⟨V1, hV⟩ : ∃ V, w2.alloc (.cells #[.string c.name, .int .i64 c.sport, .int .i64 c.start, .slice s2 c.ss.length cs2, .slice l2 c.ls.length cl2, .slice t2 c.ts.length ct2] 26) = V := ⟨_, rfl⟩
  have gV : w2.grownBy V1 none := by rw [← hV]; exact World.grownBy_alloc _ _ _
  have By : Hid (V1.heap[w2.heap.size]? = some (.cells #[.string c.name, .int .i64 c.sport, .int .i64 c.start, .slice s2 c.ss.length cs2, .slice l2 c.ls.length cl2, .slice t2 c.ts.length ct2] 26 (0, 0))) := by rw [← hV]; exact heap_alloc_new _ _
  rw [hV]
  replace Bx := Lib.hid (block_at Bx.out gV (by simp))
  replace HX := Lib.hid (HX.out.grown gV)
  replace HY := Lib.hid (HY.out.grown gV)
  replace GB := Lib.hid (grown_trans GB.out gV)
  clear hV gV
  generalize w2.heap.size = blky at *
  have x0 := block_cell Bx.out 0 _ rfl
  have x1 := block_cell Bx.out 1 _ rfl
  have x2 := block_cell Bx.out 2 _ rfl
  have x3 := block_cell Bx.out 3 _ rfl
  have x4 := block_cell Bx.out 4 _ rfl
  have x5 := block_cell Bx.out 5 _ rfl
  have y0 := block_cell By.out 0 _ rfl
  have y1 := block_cell By.out 1 _ rfl
  have y2 := block_cell By.out 2 _ rfl
  have y3 := block_cell By.out 3 _ rfl
  have y4 := block_cell By.out 4 _ rfl
  have y5 := block_cell By.out 5 _ rfl
  go_wp2_with fail
  refine (same_is ⟨s1, cs1, l1, cl1, t1, ct1, rfl, HX.out⟩ ⟨s2, cs2, l2, cl2, t2, ct2, rfl, HY.out⟩).mono ?_; rintro e w5 ⟨rfl, hg⟩
  replace GB := Lib.hid (grown_trans GB.out hg)
  clear hg x0 y0 x1 y1 x2 y2 x3 y3 x4 y4 x5 y5
  go_wp2_with fail
  refine (told_any _).mono ?_; rintro e w6 ⟨rfl, hg⟩
  replace GB := Lib.hid (grown_trans GB.out hg)
  clear hg
  go_wp2_with fail
  go_ret
  exact ⟨by first | rfl | simp, GB.out⟩
end Go.Proofs.Ytgkhhfojioepgaa

