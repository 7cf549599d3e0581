/- For all activities, Level and Fill return what the reference returns: the walk. -/
import Derived.Test.YtgkhhfojioepgaaBaseD
import Derived.Test.YtgkhhfojioepgaaTRLevel
import Derived.Test.YtgkhhfojioepgaaTRFill
namespace Go.Proofs.Ytgkhhfojioepgaa
open Go.RowKit
set_option linter.unusedSimpArgs false
set_option linter.unusedVariables false

set_option maxRecDepth 100000 in
set_option maxHeartbeats 3200000 in
theorem mend_law (a : Act) (width gap : Int) (w : World) (ha : ActAt w a) (hsc : a.ss.length ≤ a.sc) :
    Calls Try.prog 8 #[a.val, .int .i64 width, .int .i64 gap] w fun e w' => e = .returned (.bool true) ∧ w.grownBy w' none := by
  rcases h1 : levelO a width with ⟨c, E⟩
  rcases h2 : fillO a gap with ⟨d, D⟩
  have H1 := Lib.hid h1; have H2 := Lib.hid h2; have HA := Lib.hid ha; have HSC := Lib.hid hsc
  clear h1 h2 ha hsc
  obtain ⟨nm, sp, st, so, sc, ss, lo, lc, ls, to_, tc, ts⟩ := a
  simp only [Act.val]
  have GB := Lib.hid (World.grownBy_alloc w (.cells #[.string nm, .int .i64 sp, .int .i64 st, .slice so ss.length sc, .slice lo ls.length lc, .slice to_ ts.length tc] 26) none)
  have Ba : Hid ((w.alloc (.cells #[.string nm, .int .i64 sp, .int .i64 st, .slice so ss.length sc, .slice lo ls.length lc, .slice to_ ts.length tc] 26)).heap[w.heap.size]? = some (.cells #[.string nm, .int .i64 sp, .int .i64 st, .slice so ss.length sc, .slice lo ls.length lc, .slice to_ ts.length tc] 26 (0, 0))) := heap_alloc_new w _
  go_enter Try.func8, Try.ntmps8
  go_wp2_with fail
  refine (Level_any ⟨nm, sp, st, so, sc, ss, lo, lc, ls, to_, tc, ts⟩ width _ (HA.out.grown GB.out) HSC.out H1).mono ?_; rintro e w1 ⟨⟨v1, rfl, his⟩, hg⟩
  obtain ⟨s1, cs1, l1, cl1, t1, ct1, rfl, hat, -⟩ := his
  have Hx := Lib.hid hat
  clear hat
  replace Ba := Lib.hid (block_at Ba.out hg (by simp))
  replace GB := Lib.hid (grown_trans GB.out hg)
  clear hg 
  go_upto_region 2 with (fail)
  obtain ⟨V0, hV⟩ : ∃ V, w1.alloc (.cells #[.string c.name, .int .i64 c.sport, .int .i64 c.start, .slice s1 c.ss.length cs1, .slice l1 c.ls.length cl1, .slice t1 c.ts.length ct1] 26) = V := ⟨_, rfl⟩
  have gV : w1.grownBy V0 none := by rw [← hV]; exact World.grownBy_alloc _ _ _
  have Bx : Hid (V0.heap[w1.heap.size]? = some (.cells #[.string c.name, .int .i64 c.sport, .int .i64 c.start, .slice s1 c.ss.length cs1, .slice l1 c.ls.length cl1, .slice t1 c.ts.length ct1] 26 (0, 0))) := by rw [← hV]; exact heap_alloc_new _ _
  rw [hV]
  replace Ba := Lib.hid (block_at Ba.out gV (by simp))
  replace Hx := Lib.hid (Hx.out.grown gV)
  replace GB := Lib.hid (grown_trans GB.out gV)
  clear hV gV
  generalize w1.heap.size = blkx at *
  have a0 := block_cell Ba.out 0 _ rfl
  have a1 := block_cell Ba.out 1 _ rfl
  have a2 := block_cell Ba.out 2 _ rfl
  have a3 := block_cell Ba.out 3 _ rfl
  have a4 := block_cell Ba.out 4 _ rfl
  have a5 := block_cell Ba.out 5 _ rfl
  go_wp2_with fail
  refine (rLevel_any ⟨nm, sp, st, so, sc, ss, lo, lc, ls, to_, tc, ts⟩ width _ (HA.out.grown GB.out) HSC.out H1).mono ?_; rintro e w2 ⟨⟨v2, rfl, his⟩, hg⟩
  obtain ⟨s2, cs2, l2, cl2, t2, ct2, rfl, hat, -⟩ := his
  have Hy := Lib.hid hat
  clear hat
  replace Ba := Lib.hid (block_at Ba.out hg (by simp))
  replace Bx := Lib.hid (block_at Bx.out hg (by simp))
  replace Hx := Lib.hid (Hx.out.grown hg)
  replace GB := Lib.hid (grown_trans GB.out hg)
  clear hg a0 a1 a2 a3 a4 a5
  go_upto_region 3 with (fail)
  obtain ⟨V1, hV⟩ : ∃ V, w2.alloc (.cells #[.string c.name, .int .i64 c.sport, .int .i64 c.start, .slice s2 c.ss.length cs2, .slice l2 c.ls.length cl2, .slice t2 c.ts.length ct2] 26) = V := ⟨_, rfl⟩
  have gV : w2.grownBy V1 none := by rw [← hV]; exact World.grownBy_alloc _ _ _
  have By : Hid (V1.heap[w2.heap.size]? = some (.cells #[.string c.name, .int .i64 c.sport, .int .i64 c.start, .slice s2 c.ss.length cs2, .slice l2 c.ls.length cl2, .slice t2 c.ts.length ct2] 26 (0, 0))) := by rw [← hV]; exact heap_alloc_new _ _
  rw [hV]
  replace Ba := Lib.hid (block_at Ba.out gV (by simp))
  replace Bx := Lib.hid (block_at Bx.out gV (by simp))
  replace Hx := Lib.hid (Hx.out.grown gV)
  replace Hy := Lib.hid (Hy.out.grown gV)
  replace GB := Lib.hid (grown_trans GB.out gV)
  clear hV gV
  generalize w2.heap.size = blky at *
  have a0 := block_cell Ba.out 0 _ rfl
  have a1 := block_cell Ba.out 1 _ rfl
  have a2 := block_cell Ba.out 2 _ rfl
  have a3 := block_cell Ba.out 3 _ rfl
  have a4 := block_cell Ba.out 4 _ rfl
  have a5 := block_cell Ba.out 5 _ rfl
  go_wp2_with fail
  refine (Fill_any ⟨nm, sp, st, so, sc, ss, lo, lc, ls, to_, tc, ts⟩ gap _ (HA.out.grown GB.out) H2).mono ?_; rintro e w3 ⟨⟨v3, rfl, his⟩, hg⟩
  obtain ⟨s3, cs3, l3, cl3, t3, ct3, rfl, hat, -⟩ := his
  have Hp := Lib.hid hat
  clear hat
  replace Ba := Lib.hid (block_at Ba.out hg (by simp))
  replace Bx := Lib.hid (block_at Bx.out hg (by simp))
  replace By := Lib.hid (block_at By.out hg (by simp))
  replace Hx := Lib.hid (Hx.out.grown hg)
  replace Hy := Lib.hid (Hy.out.grown hg)
  replace GB := Lib.hid (grown_trans GB.out hg)
  clear hg a0 a1 a2 a3 a4 a5
  go_upto_region 4 with (fail)
  obtain ⟨V2, hV⟩ : ∃ V, w3.alloc (.cells #[.string d.name, .int .i64 d.sport, .int .i64 d.start, .slice s3 d.ss.length cs3, .slice l3 d.ls.length cl3, .slice t3 d.ts.length ct3] 26) = V := ⟨_, rfl⟩
  have gV : w3.grownBy V2 none := by rw [← hV]; exact World.grownBy_alloc _ _ _
  have Bp : Hid (V2.heap[w3.heap.size]? = some (.cells #[.string d.name, .int .i64 d.sport, .int .i64 d.start, .slice s3 d.ss.length cs3, .slice l3 d.ls.length cl3, .slice t3 d.ts.length ct3] 26 (0, 0))) := by rw [← hV]; exact heap_alloc_new _ _
  rw [hV]
  replace Ba := Lib.hid (block_at Ba.out gV (by simp))
  replace Bx := Lib.hid (block_at Bx.out gV (by simp))
  replace By := Lib.hid (block_at By.out gV (by simp))
  replace Hx := Lib.hid (Hx.out.grown gV)
  replace Hy := Lib.hid (Hy.out.grown gV)
  replace Hp := Lib.hid (Hp.out.grown gV)
  replace GB := Lib.hid (grown_trans GB.out gV)
  clear hV gV
  generalize w3.heap.size = blkp at *
  have a0 := block_cell Ba.out 0 _ rfl
  have a1 := block_cell Ba.out 1 _ rfl
  have a2 := block_cell Ba.out 2 _ rfl
  have a3 := block_cell Ba.out 3 _ rfl
  have a4 := block_cell Ba.out 4 _ rfl
  have a5 := block_cell Ba.out 5 _ rfl
  go_wp2_with fail
  refine (rFill_any ⟨nm, sp, st, so, sc, ss, lo, lc, ls, to_, tc, ts⟩ gap _ (HA.out.grown GB.out) H2).mono ?_; rintro e w4 ⟨⟨v4, rfl, his⟩, hg⟩
  obtain ⟨s4, cs4, l4, cl4, t4, ct4, rfl, hat, -⟩ := his
  have Hq := Lib.hid hat
  clear hat
  replace Ba := Lib.hid (block_at Ba.out hg (by simp))
  replace Bx := Lib.hid (block_at Bx.out hg (by simp))
  replace By := Lib.hid (block_at By.out hg (by simp))
  replace Bp := Lib.hid (block_at Bp.out hg (by simp))
  replace Hx := Lib.hid (Hx.out.grown hg)
  replace Hy := Lib.hid (Hy.out.grown hg)
  replace Hp := Lib.hid (Hp.out.grown hg)
  replace GB := Lib.hid (grown_trans GB.out hg)
  clear hg a0 a1 a2 a3 a4 a5
  go_upto_region 5 with (fail)
  obtain ⟨V3, hV⟩ : ∃ V, w4.alloc (.cells #[.string d.name, .int .i64 d.sport, .int .i64 d.start, .slice s4 d.ss.length cs4, .slice l4 d.ls.length cl4, .slice t4 d.ts.length ct4] 26) = V := ⟨_, rfl⟩
  have gV : w4.grownBy V3 none := by rw [← hV]; exact World.grownBy_alloc _ _ _
  have Bq : Hid (V3.heap[w4.heap.size]? = some (.cells #[.string d.name, .int .i64 d.sport, .int .i64 d.start, .slice s4 d.ss.length cs4, .slice l4 d.ls.length cl4, .slice t4 d.ts.length ct4] 26 (0, 0))) := by rw [← hV]; exact heap_alloc_new _ _
  rw [hV]
  replace Ba := Lib.hid (block_at Ba.out gV (by simp))
  replace Bx := Lib.hid (block_at Bx.out gV (by simp))
  replace By := Lib.hid (block_at By.out gV (by simp))
  replace Bp := Lib.hid (block_at Bp.out gV (by simp))
  replace Hx := Lib.hid (Hx.out.grown gV)
  replace Hy := Lib.hid (Hy.out.grown gV)
  replace Hp := Lib.hid (Hp.out.grown gV)
  replace Hq := Lib.hid (Hq.out.grown gV)
  replace GB := Lib.hid (grown_trans GB.out gV)
  clear hV gV
  generalize w4.heap.size = blkq at *
  have x0 := block_cell Bx.out 0 _ rfl
  have x1 := block_cell Bx.out 1 _ rfl
  have x2 := block_cell Bx.out 2 _ rfl
  have x3 := block_cell Bx.out 3 _ rfl
  have x4 := block_cell Bx.out 4 _ rfl
  have x5 := block_cell Bx.out 5 _ rfl
  have y0 := block_cell By.out 0 _ rfl
  have y1 := block_cell By.out 1 _ rfl
  have y2 := block_cell By.out 2 _ rfl
  have y3 := block_cell By.out 3 _ rfl
  have y4 := block_cell By.out 4 _ rfl
  have y5 := block_cell By.out 5 _ rfl
  go_wp2_with fail
  refine (same_is ⟨s1, cs1, l1, cl1, t1, ct1, rfl, Hx.out⟩ ⟨s2, cs2, l2, cl2, t2, ct2, rfl, Hy.out⟩).mono ?_; rintro e w5 ⟨rfl, hg⟩
  replace GB := Lib.hid (grown_trans GB.out hg)
  replace Bp := Lib.hid (block_at Bp.out hg (by simp))
  replace Bq := Lib.hid (block_at Bq.out hg (by simp))
  replace Hp := Lib.hid (Hp.out.grown hg)
  replace Hq := Lib.hid (Hq.out.grown hg)
  clear hg x0 y0 x1 y1 x2 y2 x3 y3 x4 y4 x5 y5
  have p0 := block_cell Bp.out 0 _ rfl
  have p1 := block_cell Bp.out 1 _ rfl
  have p2 := block_cell Bp.out 2 _ rfl
  have p3 := block_cell Bp.out 3 _ rfl
  have p4 := block_cell Bp.out 4 _ rfl
  have p5 := block_cell Bp.out 5 _ rfl
  have q0 := block_cell Bq.out 0 _ rfl
  have q1 := block_cell Bq.out 1 _ rfl
  have q2 := block_cell Bq.out 2 _ rfl
  have q3 := block_cell Bq.out 3 _ rfl
  have q4 := block_cell Bq.out 4 _ rfl
  have q5 := block_cell Bq.out 5 _ rfl
  go_wp2_with fail
  refine (same_is ⟨s3, cs3, l3, cl3, t3, ct3, rfl, Hp.out⟩ ⟨s4, cs4, l4, cl4, t4, ct4, rfl, Hq.out⟩).mono ?_; rintro e w6 ⟨rfl, hg⟩
  replace GB := Lib.hid (grown_trans GB.out hg)
  clear hg p0 q0 p1 q1 p2 q2 p3 q3 p4 q4 p5 q5
  go_wp2_with fail
  refine (told_any _).mono ?_; rintro e w7 ⟨rfl, hg⟩
  replace GB := Lib.hid (grown_trans GB.out hg)
  clear hg
  go_wp2_with fail
  go_ret
  exact ⟨by first | rfl | simp, GB.out⟩
end Go.Proofs.Ytgkhhfojioepgaa
