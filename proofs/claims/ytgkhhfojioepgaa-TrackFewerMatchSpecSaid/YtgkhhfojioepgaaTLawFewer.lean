/- For all activities, Simple and Fewest return what the reference returns: the walk. -/
import Derived.Test.YtgkhhfojioepgaaBaseD
import Derived.Test.YtgkhhfojioepgaaTFewO
namespace Go.Proofs.Ytgkhhfojioepgaa
open Go.RowKit
set_option linter.unusedSimpArgs false
set_option linter.unusedVariables false

set_option maxRecDepth 100000 in
set_option maxHeartbeats 3200000 in
theorem fewer_law (a : Act) (most : Int) (w : World) (ha : ActAt w a) (_hc : a.ss.length ≤ a.sc) :
    Calls Try.prog 10 #[a.val, .int .i64 most] w fun e w' => e = .returned (.bool true) ∧ w.grownBy w' none := by
  obtain ⟨E, hwe⟩ : ∃ E, thinE a most 5000 = E := ⟨_, rfl⟩
  obtain ⟨D, hwd⟩ : ∃ D, thinE a most 300 = D := ⟨_, rfl⟩
  have HWE := Lib.hid hwe; have HWD := Lib.hid hwd; have HA := Lib.hid ha
  clear hwe hwd ha
  obtain ⟨nm, sp, st, so, sc, ss, lo, lc, ls, to_, tc, ts⟩ := a
  simp only [Act.val]
  go_enter Try.func10, Try.ntmps10
  have GB : Hid (w.grownBy (w.alloc (.cells #[.string nm, .int .i64 sp, .int .i64 st, .slice so ss.length sc, .slice lo ls.length lc, .slice to_ ts.length tc] 26)) none) := World.grownBy_alloc _ _ _
  go_wp2_with fail
  refine (Simple_any ⟨nm, sp, st, so, sc, ss, lo, lc, ls, to_, tc, ts⟩ most _ (HA.out.grown GB.out) HWE).mono ?_; rintro x w1 ⟨⟨v1, l1, rfl, hr1, ho1⟩, hg1⟩
  have HO1 := Lib.hid ho1; have HR1 := Lib.hid hr1
  have K := Lib.hid hg1
  clear ho1 hg1 hr1
  have a0 : w1.cell? ⟨w.heap.size, 0, none⟩ = some (.string nm) := grown_cell K.out (by go_simp)
  have a1 : w1.cell? ⟨w.heap.size, 1, none⟩ = some (.int .i64 sp) := grown_cell K.out (by go_simp)
  have a2 : w1.cell? ⟨w.heap.size, 2, none⟩ = some (.int .i64 st) := grown_cell K.out (by go_simp)
  have a3 : w1.cell? ⟨w.heap.size, 3, none⟩ = some (.slice so ss.length sc) := grown_cell K.out (by go_simp)
  have a4 : w1.cell? ⟨w.heap.size, 4, none⟩ = some (.slice lo ls.length lc) := grown_cell K.out (by go_simp)
  have a5 : w1.cell? ⟨w.heap.size, 5, none⟩ = some (.slice to_ ts.length tc) := grown_cell K.out (by go_simp)
  have A0 := Lib.hid a0; have A1 := Lib.hid a1; have A2 := Lib.hid a2; have A3 := Lib.hid a3; have A4 := Lib.hid a4; have A5 := Lib.hid a5
  go_wp2_with fail
  refine (rSimple_any ⟨nm, sp, st, so, sc, ss, lo, lc, ls, to_, tc, ts⟩ most _ (HA.out.grown (grown_trans GB.out K.out)) HWE).mono ?_; rintro x w2 ⟨⟨v2, l2, rfl, hr2, ho2⟩, hg2⟩
  obtain rfl := hr2.one HR1.out
  have HO2 := Lib.hid ho2
  replace HO1 := Lib.hid (HO1.out.kept hg2 (by cases v1.ownBlock <;> simp))
  replace K := Lib.hid (grown_trans K.out hg2)
  clear a0 a1 a2 a3 a4 a5 ho2 hr2
  have a0 : w2.cell? ⟨w.heap.size, 0, none⟩ = some (.string nm) := grown_cell hg2 A0.out
  have a1 : w2.cell? ⟨w.heap.size, 1, none⟩ = some (.int .i64 sp) := grown_cell hg2 A1.out
  have a2 : w2.cell? ⟨w.heap.size, 2, none⟩ = some (.int .i64 st) := grown_cell hg2 A2.out
  have a3 : w2.cell? ⟨w.heap.size, 3, none⟩ = some (.slice so ss.length sc) := grown_cell hg2 A3.out
  have a4 : w2.cell? ⟨w.heap.size, 4, none⟩ = some (.slice lo ls.length lc) := grown_cell hg2 A4.out
  have a5 : w2.cell? ⟨w.heap.size, 5, none⟩ = some (.slice to_ ts.length tc) := grown_cell hg2 A5.out
  clear hg2 A0 A1 A2 A3 A4 A5
  have A0 := Lib.hid a0; have A1 := Lib.hid a1; have A2 := Lib.hid a2; have A3 := Lib.hid a3; have A4 := Lib.hid a4; have A5 := Lib.hid a5
  go_wp2_with fail
  refine (Fewest_any ⟨nm, sp, st, so, sc, ss, lo, lc, ls, to_, tc, ts⟩ most _ (HA.out.grown (grown_trans GB.out K.out)) HWD).mono ?_; rintro x w3 ⟨⟨v3, l3, rfl, hr3, ho3⟩, hg3⟩
  have HO3 := Lib.hid ho3; have HR3 := Lib.hid hr3
  replace HO1 := Lib.hid (HO1.out.kept hg3 (by cases v1.ownBlock <;> simp))
  replace HO2 := Lib.hid (HO2.out.kept hg3 (by cases v2.ownBlock <;> simp))
  replace K := Lib.hid (grown_trans K.out hg3)
  clear a0 a1 a2 a3 a4 a5 ho3 hr3
  have a0 : w3.cell? ⟨w.heap.size, 0, none⟩ = some (.string nm) := grown_cell hg3 A0.out
  have a1 : w3.cell? ⟨w.heap.size, 1, none⟩ = some (.int .i64 sp) := grown_cell hg3 A1.out
  have a2 : w3.cell? ⟨w.heap.size, 2, none⟩ = some (.int .i64 st) := grown_cell hg3 A2.out
  have a3 : w3.cell? ⟨w.heap.size, 3, none⟩ = some (.slice so ss.length sc) := grown_cell hg3 A3.out
  have a4 : w3.cell? ⟨w.heap.size, 4, none⟩ = some (.slice lo ls.length lc) := grown_cell hg3 A4.out
  have a5 : w3.cell? ⟨w.heap.size, 5, none⟩ = some (.slice to_ ts.length tc) := grown_cell hg3 A5.out
  clear hg3 A0 A1 A2 A3 A4 A5
  go_wp2_with fail
  refine (rFewest_any ⟨nm, sp, st, so, sc, ss, lo, lc, ls, to_, tc, ts⟩ most _ (HA.out.grown (grown_trans GB.out K.out)) HWD).mono ?_; rintro x w4 ⟨⟨v4, l4, rfl, hr4, ho4⟩, hg4⟩
  obtain rfl := hr4.one HR3.out
  have h1 := HO1.out.kept hg4 (by cases v1.ownBlock <;> simp)
  have h2 := HO2.out.kept hg4 (by cases v2.ownBlock <;> simp)
  have h3 := HO3.out.kept hg4 (by cases v3.ownBlock <;> simp)
  obtain ⟨n1, p1, c1, rfl, i1⟩ := own_nat h1
  obtain ⟨-, p2, c2, rfl, i2⟩ := own_nat h2
  obtain ⟨n3, p3, c3, rfl, i3⟩ := own_nat h3
  obtain ⟨-, p4, c4, rfl, i4⟩ := own_nat ho4
  have I1 := Lib.hid i1; have I2 := Lib.hid i2; have I3 := Lib.hid i3; have I4 := Lib.hid i4
  have N1 := Lib.hid n1; have N3 := Lib.hid n3
  replace K := Lib.hid (grown_trans K.out hg4)
  clear a0 a1 a2 a3 a4 a5 ho4 hr4 hg4 h1 h2 h3 i1 i2 i3 i4 n1 n3 HO1 HO2 HO3
  go_wp2_with fail
  refine (equal_ints I1.out I2.out (fun _ _ => rfl) N1.out).mono ?_; rintro x w5 ⟨rfl, hg5⟩
  replace K := Lib.hid (grown_trans K.out hg5)
  replace I3 := Lib.hid (I3.out.grown hg5)
  replace I4 := Lib.hid (I4.out.grown hg5)
  clear hg5
  go_wp2_with fail
  refine (equal_ints I3.out I4.out (fun _ _ => rfl) N3.out).mono ?_; rintro x w6 ⟨rfl, hg6⟩
  replace K := Lib.hid (grown_trans K.out hg6)
  clear hg6
  go_wp2_with fail
  refine (told_any _).mono ?_; rintro x w7 ⟨rfl, hg7⟩
  replace K := Lib.hid (grown_trans K.out hg7)
  clear hg7
  go_wp2_with fail
  go_ret
  exact ⟨by first | rfl | simp, grown_trans GB.out K.out⟩

end Go.Proofs.Ytgkhhfojioepgaa
