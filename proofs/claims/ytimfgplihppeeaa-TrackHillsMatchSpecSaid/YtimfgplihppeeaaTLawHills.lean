/- For all activities, Hills returns what the reference returns: the walk. -/
import Derived.Test.YtimfgplihppeeaaTTold
import Derived.Test.YtimfgplihppeeaaTHillsO
namespace Go.Proofs.Ytimfgplihppeeaa
open Go.RowKit

set_option maxRecDepth 100000 in
set_option maxHeartbeats 1600000 in
theorem hills_law (a : Act) (least dip : Int) (w : World) (ha : ActAt w a) (hc : a.ss.length ≤ a.sc) :
    Calls Try.prog 3 #[a.val, .int .i64 least, .int .i64 dip] w fun e w' => e = .returned (.bool true) ∧ w.grownBy w' none := by
  rcases hwe : hillsOut a least dip with ⟨L, E⟩
  have hn := hills_len hwe
  have HWE := Lib.hid hwe; have HA := Lib.hid ha; have HN := Lib.hid hn
  clear hwe ha hc hn
  obtain ⟨nm, sp, st, so, sc, ss, lo, lc, ls, to_, tc, ts⟩ := a
  simp only [Act.val]
  go_enter Try.func3, Try.ntmps3
  have GB : Hid (w.grownBy (w.alloc (.cells #[.string nm, .int .i64 sp, .int .i64 st, .slice so ss.length sc, .slice lo ls.length lc, .slice to_ ts.length tc] 26)) none) := World.grownBy_alloc _ _ _
  go_wp2_with fail
  refine (Hills_any ⟨nm, sp, st, so, sc, ss, lo, lc, ls, to_, tc, ts⟩ least dip _ (HA.out.grown GB.out) HWE).mono ?_; rintro x w1 ⟨⟨v1, rfl, ho1⟩, hg1⟩
  have HO1 := Lib.hid ho1
  have K := Lib.hid hg1
  clear ho1 hg1
  have a0 : w1.cell? ⟨w.heap.size, 0, none⟩ = some (.string nm) := grown_cell K.out (by go_simp)
  have a1 : w1.cell? ⟨w.heap.size, 1, none⟩ = some (.int .i64 sp) := grown_cell K.out (by go_simp)
  have a2 : w1.cell? ⟨w.heap.size, 2, none⟩ = some (.int .i64 st) := grown_cell K.out (by go_simp)
  have a3 : w1.cell? ⟨w.heap.size, 3, none⟩ = some (.slice so ss.length sc) := grown_cell K.out (by go_simp)
  have a4 : w1.cell? ⟨w.heap.size, 4, none⟩ = some (.slice lo ls.length lc) := grown_cell K.out (by go_simp)
  have a5 : w1.cell? ⟨w.heap.size, 5, none⟩ = some (.slice to_ ts.length tc) := grown_cell K.out (by go_simp)
  go_wp2_with fail
  refine (RHills_any ⟨nm, sp, st, so, sc, ss, lo, lc, ls, to_, tc, ts⟩ least dip _ (HA.out.grown (grown_trans GB.out K.out)) HWE).mono ?_; rintro x w2 ⟨⟨v2, rfl, ho2⟩, hg2⟩
  have HO2 := Lib.hid ho2
  have HO1' : Hid (w2.ownsRow _ 33 4 v1 L.length (hillsVs L)) := HO1.out.kept hg2 (by cases v1.ownBlock <;> simp)
  replace K := Lib.hid (grown_trans K.out hg2)
  clear a0 a1 a2 a3 a4 a5 ho2 hg2 HO1
  go_wp2_with fail
  refine (equal_hills HO1'.out HO2.out HN.out).mono ?_; rintro x w3 ⟨rfl, hg3⟩
  replace K := Lib.hid (grown_trans K.out hg3)
  clear hg3
  go_wp2_with fail
  refine (told_any _).mono ?_; rintro x w4 ⟨rfl, hg4⟩
  replace K := Lib.hid (grown_trans K.out hg4)
  clear hg4
  go_wp2_with fail
  go_ret
  exact ⟨by first | rfl | simp, grown_trans GB.out K.out⟩

end Go.Proofs.Ytimfgplihppeeaa
