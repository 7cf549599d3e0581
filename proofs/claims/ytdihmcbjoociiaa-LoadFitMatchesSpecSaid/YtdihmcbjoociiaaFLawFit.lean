/- For all tests and numbers, CheckTests, Fit and Errors return what the reference returns: the walk. -/
import Derived.Test.YtdihmcbjoociiaaFFitL
import Derived.Test.YtdihmcbjoociiaaFRFitL
import Derived.Test.YtdihmcbjoociiaaFErr
import Derived.Test.YtdihmcbjoociiaaFTold
namespace Go.Proofs.Ytdihmcbjoociiaa
open Go.RowKit

theorem fit_both (l : List RaceV) (hl : (l.length : Int) ≤ 9223372036854775807) : ∃ p1 q1 p2 q2 E : Int,
    (∀ (ao : Option Addr) (cap : Nat) (w : World), PairsAt w ao l → Calls Try.prog 15 #[.slice ao l.length cap] w fun e w' => e = .returned (.tuple #[.agg #[.int .i64 p1, .int .i64 q1], .agg #[.int .i64 p2, .int .i64 q2], .int .i64 E]) ∧ w.grownBy w' none) ∧
    (∀ (ao : Option Addr) (cap : Nat) (w : World), PairsAt w ao l → Calls Try.prog 16 #[.slice ao l.length cap] w fun e w' => e = .returned (.tuple #[.agg #[.int .i64 p1, .int .i64 q1], .agg #[.int .i64 p2, .int .i64 q2], .int .i64 E]) ∧ w.grownBy w' none) := by
  by_cases h : fitE l = 0
  · exact ⟨_, _, _, _, 0, fun ao cap w hs => fit_yes ao cap l hl h w hs rfl rfl rfl rfl, fun ao cap w hs => rfit_yes ao cap l hl h w hs rfl rfl rfl rfl⟩
  · exact ⟨0, 0, 0, 0, fitE l, fun ao cap w hs => fit_no ao cap l hl rfl h w hs, fun ao cap w hs => rfit_no ao cap l hl rfl h w hs⟩

set_option maxRecDepth 100000 in
set_option maxHeartbeats 1600000 in
theorem fit_law (ao : Option Addr) (cap : Nat) (l : List RaceV) (hl : (l.length : Int) ≤ 9223372036854775807) (power work : Int) (w : World) (hs : PairsAt w ao l) (_ : l.length ≤ cap) :
    Calls Try.prog 3 #[.slice ao l.length cap, .int .i64 power, .int .i64 work] w fun e w' => e = .returned (.bool true) ∧ w.grownBy w' none := by
  obtain ⟨p1, q1, p2, q2, E, hF1, hF2⟩ := fit_both l hl
  obtain ⟨D, hD⟩ : ∃ e, errE l power work = e := ⟨_, rfl⟩
  obtain ⟨n, hn⟩ : ∃ n, errL l power work = n := ⟨_, rfl⟩
  obtain ⟨te, hte⟩ : ∃ e, testsE l = e := ⟨_, rfl⟩
  have hnl := errL_le l power work
  rw [hn] at hnl
  have HNL : Hid (n ≤ 9223372036854775807) := by show _ ≤ _; omega
  have HF1 := Lib.hid hF1; have HF2 := Lib.hid hF2; have HD := Lib.hid hD; have HN := Lib.hid hn; have HTE := Lib.hid hte; have HS := Lib.hid hs
  clear hF1 hF2 hD hn hte hs hnl
  go_enter Try.func3, Try.ntmps3
  go_wp2_with fail
  refine (HF1.out ao cap w HS.out).mono ?_; rintro e w1 ⟨rfl, hg⟩
  have K := Lib.hid hg
  clear hg
  go_wp2_with fail
  obtain ⟨u1, hu1⟩ : ∃ u, u = (w1.alloc (.cells #[.int .i64 p1, .int .i64 q1] 24)).alloc (.cells #[.int .i64 p2, .int .i64 q2] 24) := ⟨_, rfl⟩
  have HA : Hid (RBox u1 w1.heap.size p1 q1) := by show RBox _ _ _ _; rw [hu1]; exact (RBox.new w1 p1 q1).grown (World.grownBy_alloc _ _ _)
  have HB : Hid (RBox u1 (w1.heap.size + 1) p2 q2) := by
    show RBox _ _ _ _
    rw [hu1]
    have q := RBox.new (w1.alloc (.cells #[.int .i64 p1, .int .i64 q1] 24)) p2 q2
    rw [World.size_alloc] at q; exact q
  have K1 : Hid (w.grownBy u1 none) := by show World.grownBy _ _ _; rw [hu1]; exact grown_trans K.out (grown_trans (World.grownBy_alloc _ _ _) (World.grownBy_alloc _ _ _))
  rw [← hu1]
  clear hu1 K
  refine (HF2.out ao cap u1 (HS.out.grown K1.out)).mono ?_; rintro e w2 ⟨rfl, hg⟩
  have K := Lib.hid (grown_trans K1.out hg)
  replace HA := Lib.hid (HA.out.grown hg)
  replace HB := Lib.hid (HB.out.grown hg)
  clear hg K1
  go_wp2_with fail
  obtain ⟨u2, hu2⟩ : ∃ u, u = (w2.alloc (.cells #[.int .i64 p1, .int .i64 q1] 24)).alloc (.cells #[.int .i64 p2, .int .i64 q2] 24) := ⟨_, rfl⟩
  have hg2 : w2.grownBy u2 none := by rw [hu2]; exact grown_trans (World.grownBy_alloc _ _ _) (World.grownBy_alloc _ _ _)
  have HC : Hid (RBox u2 w2.heap.size p1 q1) := by show RBox _ _ _ _; rw [hu2]; exact (RBox.new w2 p1 q1).grown (World.grownBy_alloc _ _ _)
  have HE : Hid (RBox u2 (w2.heap.size + 1) p2 q2) := by
    show RBox _ _ _ _
    rw [hu2]
    have q := RBox.new (w2.alloc (.cells #[.int .i64 p1, .int .i64 q1] 24)) p2 q2
    rw [World.size_alloc] at q; exact q
  have K2 := Lib.hid (grown_trans K.out hg2)
  replace HA := Lib.hid (HA.out.grown hg2)
  replace HB := Lib.hid (HB.out.grown hg2)
  rw [← hu2]
  clear hu2 hg2 K
  refine (errors_any ao cap l hl power work u2 (HS.out.grown K2.out) HD HN).mono ?_; rintro e w3 ⟨⟨a1, c1, rfl, hR1⟩, hg⟩
  have HR1 := Lib.hid hR1
  replace K2 := Lib.hid (grown_trans K2.out hg)
  replace HA := Lib.hid (HA.out.grown hg)
  replace HB := Lib.hid (HB.out.grown hg)
  replace HC := Lib.hid (HC.out.grown hg)
  replace HE := Lib.hid (HE.out.grown hg)
  clear hg hR1
  go_wp2_with fail
  refine (rerrors_any ao cap l hl power work w3 (HS.out.grown K2.out) HD HN).mono ?_; rintro e w4 ⟨⟨a2, c2, rfl, hR2⟩, hg⟩
  have HR2 := Lib.hid hR2
  replace HR1 := Lib.hid (HR1.out.grown hg)
  replace K2 := Lib.hid (grown_trans K2.out hg)
  replace HA := Lib.hid (HA.out.grown hg)
  replace HB := Lib.hid (HB.out.grown hg)
  replace HC := Lib.hid (HC.out.grown hg)
  replace HE := Lib.hid (HE.out.grown hg)
  clear hg hR2
  go_wp2_with fail
  refine (checkTests_any ao cap l hl w4 (HS.out.grown K2.out) HTE).mono ?_; rintro e w5 ⟨rfl, hg⟩
  replace HR1 := Lib.hid (HR1.out.grown hg)
  replace HR2 := Lib.hid (HR2.out.grown hg)
  replace K2 := Lib.hid (grown_trans K2.out hg)
  replace HA := Lib.hid (HA.out.grown hg)
  replace HB := Lib.hid (HB.out.grown hg)
  replace HC := Lib.hid (HC.out.grown hg)
  replace HE := Lib.hid (HE.out.grown hg)
  clear hg
  go_wp2_with fail
  refine (rcheckTests_any ao cap l hl w5 (HS.out.grown K2.out) HTE).mono ?_; rintro e w6 ⟨rfl, hg⟩
  replace HR1 := Lib.hid (HR1.out.grown hg)
  replace HR2 := Lib.hid (HR2.out.grown hg)
  replace K2 := Lib.hid (grown_trans K2.out hg)
  have x0 := (HA.out.grown hg).c0; have x1 := (HA.out.grown hg).c1
  have y0 := (HB.out.grown hg).c0; have y1 := (HB.out.grown hg).c1
  have z0 := (HC.out.grown hg).c0; have z1 := (HC.out.grown hg).c1
  have t0 := (HE.out.grown hg).c0; have t1 := (HE.out.grown hg).c1
  clear hg HA HB HC HE
  go_wp2_with fail
  refine (equal_fints HR1.out HR2.out (fun _ _ => rfl) HNL.out).mono ?_; rintro e w7 ⟨rfl, hg⟩
  replace K2 := Lib.hid (grown_trans K2.out hg)
  clear hg HR1 HR2 x0 x1 y0 y1 z0 z1 t0 t1
  go_wp2_with fail
  refine (ftold_any _).mono ?_; rintro e w8 ⟨rfl, hg⟩
  replace K2 := Lib.hid (grown_trans K2.out hg)
  clear hg
  go_wp2_with fail
  go_ret
  exact ⟨by first | rfl | simp, K2.out⟩

end Go.Proofs.Ytdihmcbjoociiaa
