/- The contracts of Add and Take, of both sides. -/
import Derived.Test.YteaifonpkdjkcaaFBookA
namespace Go.Proofs.Yteaifonpkdjkcaa
open Go.RowKit Go.Maps
set_option linter.unusedSimpArgs false
set_option linter.unusedVariables false

/-- A load at a day is set, if nothing is wrong. -/
def updF (F : Int → Int) (E day v : Int) : Int → Int := fun d => if E = 0 ∧ d = day then v else F d
theorem updF_no {F : Int → Int} {E day v : Int} (h : E ≠ 0) : updF F E day v = F := by funext d; unfold updF; rw [if_neg (fun q => h q.1)]
section
variable {w : World} {B g : Nat} {first f0 g0 : Int} {L : List Int} {ao : Option Addr} {cap : Nat}

set_option maxHeartbeats 1600000 in
theorem Add_is (h : PBk w B g first f0 g0 L ao cap) (hB : B ≤ w.heap.size) (hf : 0 ≤ first ∧ first ≤ 999999) (day n : Int) {E : Int} (hE : Hid (addE first (fun d => ldA L (d - first)) day n = E)) :
    Calls Try.prog 67 #[.pointer (some ⟨g, 0, none⟩), .int .i64 day, .int .i64 n] w fun e w' => e = .returned (.int .i64 E) ∧ (∃ L' ao' cap', PBk w' B g first f0 g0 L' ao' cap' ∧ ∀ d, ldA L' (d - first) = updF (fun d => ldA L (d - first)) E day (ldA L (day - first) + n) d) ∧ Trn B g w w' := by
  have hv := hE.out
  unfold addE at hv
  have HP := Lib.hid h; have HBB := Lib.hid hB; have HF := Lib.hid hf
  clear hE
  by_cases d1 : HasD first day
  · rw [if_pos d1] at hv
    have hdd := d1
    unfold HasD at hdd
    have g1 : decide (HasD first day) = true := decide_eq_true d1
    have D1 := Lib.hid d1
    by_cases d2 : 0 ≤ n ∧ n ≤ 10000
    · rw [if_pos d2] at hv
      have D2 := Lib.hid d2
      obtain ⟨v, hld⟩ : ∃ v, ldA L (day - first) = v := ⟨_, rfl⟩
      have HLD := Lib.hid hld
      have hbd := ldA_bd h.bd (day - first)
      simp only [hld] at hv hbd ⊢
      have r1 : IntKind.i64.wrap (v + n) = v + n := IntWalk.i64_in _ (by omega)
      by_cases d3 : 10000 < v + n
      · rw [if_pos d3] at hv
        subst hv
        have g3 : decide (10000 < v + n) = true := decide_eq_true d3
        clear h hB hf hld d1 d2 hdd hbd d3
        go_enter Try.func67, Try.ntmps67
        go_wp2_with fail
        refine (has_is HP.out HF.out day).mono ?_; rintro e w1 ⟨rfl, hg1⟩
        have P1 := Lib.hid (HP.out.grown hg1); have T1 : Hid (Trn B g w w1) := Trn.of_grown hg1
        clear hg1
        simp only [g1]
        go_wp2_with fail
        refine (isLoad_yes n D2 _).mono ?_; rintro e w2 ⟨rfl, rfl⟩
        go_wp2_with fail
        refine (load_is P1.out HF.out day (by have := D1.out; unfold HasD at this; have := HF.out; omega) HLD).mono ?_; rintro e w3 ⟨rfl, rfl⟩
        go_wp2_with fail
        go_ret
        exact ⟨rfl, ⟨L, ao, cap, P1.out, fun d => by rw [updF_no (by decide)]⟩, T1.out⟩
      · rw [if_neg d3] at hv
        subst hv
        have g3 : decide (10000 < v + n) = false := decide_eq_false d3
        have D3 : Hid (0 ≤ v + n ∧ v + n ≤ 10000) := by show _ ∧ _; omega
        have DD := Lib.hid hdd
        clear h hB hf hld d1 d2 hdd hbd d3
        go_enter Try.func67, Try.ntmps67
        go_wp2_with fail
        refine (has_is HP.out HF.out day).mono ?_; rintro e w1 ⟨rfl, hg1⟩
        have P1 := Lib.hid (HP.out.grown hg1); have T1 : Hid (Trn B g w w1) := Trn.of_grown hg1
        clear hg1
        simp only [g1]
        go_wp2_with fail
        refine (isLoad_yes n D2 _).mono ?_; rintro e w2 ⟨rfl, rfl⟩
        go_wp2_with fail
        refine (load_is P1.out HF.out day (by have := D1.out; unfold HasD at this; have := HF.out; omega) HLD).mono ?_; rintro e w3 ⟨rfl, rfl⟩
        go_wp2_with fail
        refine (setLoad_is P1.out (Nat.le_trans HBB.out T1.out.size) HF.out day (v + n) D1.out D3.out).mono ?_; rintro e w4 ⟨rfl, ⟨ao', cap', hp4⟩, ht4⟩
        have P4 := Lib.hid hp4; have T4 := Lib.hid (T1.out.trans ht4)
        clear hp4 ht4
        go_wp2_with fail
        go_ret
        refine ⟨rfl, ⟨_, ao', cap', P4.out, fun d => ?_⟩, T4.out⟩
        rw [ldA_setA]
        unfold updF
        have := DD.out
        by_cases e : d = day
        · rw [if_pos (by omega), if_pos ⟨rfl, e⟩]
        · rw [if_neg (by omega), if_neg (fun q => e q.2)]
    · rw [if_neg d2] at hv
      subst hv
      have D2 := Lib.hid d2
      clear h hB hf d1 d2 hdd
      go_enter Try.func67, Try.ntmps67
      go_wp2_with fail
      refine (has_is HP.out HF.out day).mono ?_; rintro e w1 ⟨rfl, hg1⟩
      have P1 := Lib.hid (HP.out.grown hg1); have T1 : Hid (Trn B g w w1) := Trn.of_grown hg1
      clear hg1
      simp only [g1]
      go_wp2_with fail
      refine (isLoad_no n D2 _).mono ?_; rintro e w2 ⟨rfl, rfl⟩
      go_wp2_with fail
      go_ret
      exact ⟨rfl, ⟨L, ao, cap, P1.out, fun d => by rw [updF_no (by decide)]⟩, T1.out⟩
  · rw [if_neg d1] at hv
    subst hv
    have g1 : decide (HasD first day) = false := decide_eq_false d1
    clear h hB hf d1
    go_enter Try.func67, Try.ntmps67
    go_wp2_with fail
    refine (has_is HP.out HF.out day).mono ?_; rintro e w1 ⟨rfl, hg1⟩
    have P1 := Lib.hid (HP.out.grown hg1); have T1 : Hid (Trn B g w w1) := Trn.of_grown hg1
    clear hg1
    simp only [g1]
    go_wp2_with fail
    go_ret
    exact ⟨rfl, ⟨L, ao, cap, P1.out, fun d => by rw [updF_no (by decide)]⟩, T1.out⟩

set_option maxHeartbeats 1600000 in
theorem Take_is (h : PBk w B g first f0 g0 L ao cap) (hB : B ≤ w.heap.size) (hf : 0 ≤ first ∧ first ≤ 999999) (day n : Int) {E : Int} (hE : Hid (takeE first (fun d => ldA L (d - first)) day n = E)) :
    Calls Try.prog 69 #[.pointer (some ⟨g, 0, none⟩), .int .i64 day, .int .i64 n] w fun e w' => e = .returned (.int .i64 E) ∧ (∃ L' ao' cap', PBk w' B g first f0 g0 L' ao' cap' ∧ ∀ d, ldA L' (d - first) = updF (fun d => ldA L (d - first)) E day (ldA L (day - first) - n) d) ∧ Trn B g w w' := by
  have hv := hE.out
  unfold takeE at hv
  have HP := Lib.hid h; have HBB := Lib.hid hB; have HF := Lib.hid hf
  clear hE
  by_cases d1 : HasD first day
  · rw [if_pos d1] at hv
    have hdd := d1
    unfold HasD at hdd
    have g1 : decide (HasD first day) = true := decide_eq_true d1
    have D1 := Lib.hid d1
    by_cases d2 : 0 ≤ n ∧ n ≤ 10000
    · rw [if_pos d2] at hv
      have D2 := Lib.hid d2
      obtain ⟨v, hld⟩ : ∃ v, ldA L (day - first) = v := ⟨_, rfl⟩
      have HLD := Lib.hid hld
      have hbd := ldA_bd h.bd (day - first)
      simp only [hld] at hv hbd ⊢
      have r1 : IntKind.i64.wrap (v - n) = v - n := IntWalk.i64_in _ (by omega)
      by_cases d3 : v - n < 0
      · rw [if_pos d3] at hv
        subst hv
        have g3 : decide (v - n < 0) = true := decide_eq_true d3
        clear h hB hf hld d1 d2 hdd hbd d3
        go_enter Try.func69, Try.ntmps69
        go_wp2_with fail
        refine (has_is HP.out HF.out day).mono ?_; rintro e w1 ⟨rfl, hg1⟩
        have P1 := Lib.hid (HP.out.grown hg1); have T1 : Hid (Trn B g w w1) := Trn.of_grown hg1
        clear hg1
        simp only [g1]
        go_wp2_with fail
        refine (isLoad_yes n D2 _).mono ?_; rintro e w2 ⟨rfl, rfl⟩
        go_wp2_with fail
        refine (load_is P1.out HF.out day (by have := D1.out; unfold HasD at this; have := HF.out; omega) HLD).mono ?_; rintro e w3 ⟨rfl, rfl⟩
        go_wp2_with fail
        go_ret
        exact ⟨rfl, ⟨L, ao, cap, P1.out, fun d => by rw [updF_no (by decide)]⟩, T1.out⟩
      · rw [if_neg d3] at hv
        subst hv
        have g3 : decide (v - n < 0) = false := decide_eq_false d3
        have D3 : Hid (0 ≤ v - n ∧ v - n ≤ 10000) := by show _ ∧ _; omega
        have DD := Lib.hid hdd
        clear h hB hf hld d1 d2 hdd hbd d3
        go_enter Try.func69, Try.ntmps69
        go_wp2_with fail
        refine (has_is HP.out HF.out day).mono ?_; rintro e w1 ⟨rfl, hg1⟩
        have P1 := Lib.hid (HP.out.grown hg1); have T1 : Hid (Trn B g w w1) := Trn.of_grown hg1
        clear hg1
        simp only [g1]
        go_wp2_with fail
        refine (isLoad_yes n D2 _).mono ?_; rintro e w2 ⟨rfl, rfl⟩
        go_wp2_with fail
        refine (load_is P1.out HF.out day (by have := D1.out; unfold HasD at this; have := HF.out; omega) HLD).mono ?_; rintro e w3 ⟨rfl, rfl⟩
        go_wp2_with fail
        refine (setLoad_is P1.out (Nat.le_trans HBB.out T1.out.size) HF.out day (v - n) D1.out D3.out).mono ?_; rintro e w4 ⟨rfl, ⟨ao', cap', hp4⟩, ht4⟩
        have P4 := Lib.hid hp4; have T4 := Lib.hid (T1.out.trans ht4)
        clear hp4 ht4
        go_wp2_with fail
        go_ret
        refine ⟨rfl, ⟨_, ao', cap', P4.out, fun d => ?_⟩, T4.out⟩
        rw [ldA_setA]
        unfold updF
        have := DD.out
        by_cases e : d = day
        · rw [if_pos (by omega), if_pos ⟨rfl, e⟩]
        · rw [if_neg (by omega), if_neg (fun q => e q.2)]
    · rw [if_neg d2] at hv
      subst hv
      have D2 := Lib.hid d2
      clear h hB hf d1 d2 hdd
      go_enter Try.func69, Try.ntmps69
      go_wp2_with fail
      refine (has_is HP.out HF.out day).mono ?_; rintro e w1 ⟨rfl, hg1⟩
      have P1 := Lib.hid (HP.out.grown hg1); have T1 : Hid (Trn B g w w1) := Trn.of_grown hg1
      clear hg1
      simp only [g1]
      go_wp2_with fail
      refine (isLoad_no n D2 _).mono ?_; rintro e w2 ⟨rfl, rfl⟩
      go_wp2_with fail
      go_ret
      exact ⟨rfl, ⟨L, ao, cap, P1.out, fun d => by rw [updF_no (by decide)]⟩, T1.out⟩
  · rw [if_neg d1] at hv
    subst hv
    have g1 : decide (HasD first day) = false := decide_eq_false d1
    clear h hB hf d1
    go_enter Try.func69, Try.ntmps69
    go_wp2_with fail
    refine (has_is HP.out HF.out day).mono ?_; rintro e w1 ⟨rfl, hg1⟩
    have P1 := Lib.hid (HP.out.grown hg1); have T1 : Hid (Trn B g w w1) := Trn.of_grown hg1
    clear hg1
    simp only [g1]
    go_wp2_with fail
    go_ret
    exact ⟨rfl, ⟨L, ao, cap, P1.out, fun d => by rw [updF_no (by decide)]⟩, T1.out⟩
end

end Go.Proofs.Yteaifonpkdjkcaa
