/- record.Same of two activities of the same content. -/
import Derived.Test.YtgkhhfojioepgaaTEqTags
namespace Go.Proofs.Ytgkhhfojioepgaa
open Go.RowKit
set_option linter.unusedSimpArgs false
set_option linter.unusedVariables false

set_option maxRecDepth 100000 in
set_option maxHeartbeats 1600000 in
theorem same_is {w : World} {x y : Value} {c : Act} (hx : ActIs w x c) (hy : ActIs w y c) :
    Calls Try.prog 19 #[x, y] w fun e w' => e = .returned (.bool true) ∧ w.grownBy w' none := by
  obtain ⟨so, sc, lo, lc, to_, tc, rfl, ha⟩ := hx
  obtain ⟨so2, sc2, lo2, lc2, to2, tc2, rfl, hb⟩ := hy
  obtain ⟨nm, sp, st, _, _, ss, _, _, ls, _, _, ts⟩ := c
  simp only [Act.val] at *
  have HA := Lib.hid ha; have HB := Lib.hid hb
  clear ha hb
  have GB := Lib.hid (grown_trans (World.grownBy_alloc w (.cells #[.string nm, .int .i64 sp, .int .i64 st, .slice so ss.length sc, .slice lo ls.length lc, .slice to_ ts.length tc] 26) none) (World.grownBy_alloc _ (.cells #[.string nm, .int .i64 sp, .int .i64 st, .slice so2 ss.length sc2, .slice lo2 ls.length lc2, .slice to2 ts.length tc2] 26) none))
  have K0 : ∀ V : World, ((w.alloc (.cells #[.string nm, .int .i64 sp, .int .i64 st, .slice so ss.length sc, .slice lo ls.length lc, .slice to_ ts.length tc] 26)).alloc (.cells #[.string nm, .int .i64 sp, .int .i64 st, .slice so2 ss.length sc2, .slice lo2 ls.length lc2, .slice to2 ts.length tc2] 26)).grownBy V none → (V.cell? ⟨w.heap.size, 4, none⟩ = some (.slice lo ls.length lc) ∧ V.cell? ⟨w.heap.size, 5, none⟩ = some (.slice to_ ts.length tc)) ∧ V.cell? ⟨w.heap.size + 1, 4, none⟩ = some (.slice lo2 ls.length lc2) ∧ V.cell? ⟨w.heap.size + 1, 5, none⟩ = some (.slice to2 ts.length tc2) := fun V g =>
    ⟨⟨grown_cell g (by go_simp), grown_cell g (by go_simp)⟩, grown_cell g (by go_simp), grown_cell g (by go_simp)⟩
  have KK := Lib.hid K0
  clear K0
  go_enter Try.func19, Try.ntmps19
  go_wp2_with fail
  refine (equal_smps (HA.out.hs.grown GB.out) (HB.out.hs.grown GB.out) (by have := HA.out.sl; exact this)).mono ?_; rintro e w1 ⟨rfl, hg1⟩
  obtain ⟨⟨a4, a5⟩, b4, b5⟩ := KK.out _ hg1
  have G1 := Lib.hid hg1
  have GW1 := Lib.hid (grown_trans GB.out hg1)
  clear hg1
  go_wp2_with fail
  refine (equal_laps (HA.out.hl.grown GW1.out) (HB.out.hl.grown GW1.out) (by have := HA.out.ll; exact this)).mono ?_; rintro e w2 ⟨rfl, hg2⟩
  clear a4 a5 b4 b5
  obtain ⟨⟨a4, a5⟩, b4, b5⟩ := KK.out _ (grown_trans G1.out hg2)
  have GW2 := Lib.hid (grown_trans GW1.out hg2)
  clear hg2
  go_wp2_with fail
  refine (equal_tags (HA.out.ht.grown GW2.out) (HB.out.ht.grown GW2.out) (by have : (ts.length : Int) ≤ 9223372036854775807 := HA.out.tl; show ts.length ≤ _; omega)).mono ?_; rintro e w3 ⟨rfl, hg3⟩
  have GW3 := Lib.hid (grown_trans GW2.out hg3)
  clear hg3 a4 a5 b4 b5
  go_wp2_with fail
  go_ret
  exact ⟨rfl, GW3.out⟩
end Go.Proofs.Ytgkhhfojioepgaa
