/- The contracts of the reference's book: dayFault, Add, Take. -/
import Derived.Test.YteaifonpkdjkcaaFBookB
namespace Go.Proofs.Yteaifonpkdjkcaa
open Go.RowKit Go.Maps
set_option linter.unusedSimpArgs false
set_option linter.unusedVariables false

theorem lit_same {D : DataW Unit} {k : Lit} {z : DataW Unit} {a b : Int} (h : D.atKey k z = .lit (.int .i64 a)) (h2 : D.atKey k z = .lit (.int .i64 b)) : b = a := by
  rw [h2] at h
  injection h with h
  injection h
section
variable {w : World} {B rb bm n : Nat} {first f0 g0 : Int} {F : Int → Int}
set_option maxHeartbeats 1600000 in
theorem dayFault_is (h : RBk w B rb bm n first f0 g0 F) (hf : 0 ≤ first ∧ first ≤ 999999) (day : Int) {E : Int} (hE : Hid ((if HasD first day then (0 : Int) else 9) = E)) :
    Calls Try.prog 136 #[.pointer (some ⟨rb, 0, none⟩), .int .i64 day] w fun e w' => e = .returned (.int .i64 E) ∧ w.grownBy w' none := by
  obtain ⟨M, hM⟩ : ∃ m, min (first + 4999) 999999 = m := ⟨_, rfl⟩
  have c0 := blk_cell h.r 0 _ rfl
  have r1 : IntKind.i64.wrap (first + 5000) = first + 5000 := IntWalk.i64_in _ (by omega)
  have r2 : IntKind.i64.wrap (first + 5000 - 1) = first + 4999 := by rw [IntWalk.i64_in _ (by omega)]; omega
  have hv := hE.out
  by_cases hh : HasD first day
  · rw [if_pos hh] at hv
    subst hv
    have hw : first ≤ day ∧ day ≤ M := by unfold HasD at hh; rw [← hM]; exact hh
    have HW := Lib.hid hw
    clear hw hh h hf hE
    go_enter Try.func136, Try.ntmps136
    go_wp2_with fail
    go_quiet (exact Calls.quiet_of_same ((routside_no day first M HW.out _).mono fun _ _ q => ⟨q.1, q.2.symm⟩))
    go_wp2_with fail
    go_ret
    exact ⟨rfl, grown_drewN _ _ _⟩
  · rw [if_neg hh] at hv
    subst hv
    have hw : ¬ (first ≤ day ∧ day ≤ M) := by unfold HasD at hh; rw [← hM]; exact hh
    have HW := Lib.hid hw
    clear hw hh h hf hE
    go_enter Try.func136, Try.ntmps136
    go_wp2_with fail
    go_quiet (exact Calls.quiet_of_same ((routside_yes day first M HW.out _).mono fun _ _ q => ⟨q.1, q.2.symm⟩))
    go_wp2_with fail
    go_ret
    exact ⟨rfl, grown_drewN _ _ _⟩

/-- The reference's book with another load of a day. -/
theorem RBk.put {w1 : World} {D : DataW Unit} (h : RBk w B rb bm n first f0 g0 F) (him : IsMap D) (hD : ∀ d, (Lit.int .i64 d).wf = true → D.atKey (.int .i64 d) (.lit (.int .i64 0)) = .lit (.int .i64 (F d))) (day v : Int)
    (hm1 : w1.ownsMap Try.prog 3 (plainElem Try.prog 3) bm (n + 1) (D.put (.int .i64 day) (.lit (.int .i64 v)))) (hg : w.grownBy w1 (some bm)) : RBk w1 B rb bm (n + 1) first f0 g0 (updF F 0 day v) := by
  obtain ⟨D0, ⟨es, ck, hb, _⟩, _⟩ := h.m
  refine ⟨blk_at h.r hg (fun e => ?_), ⟨_, hm1, him.put _ _, fun d hd => ?_⟩, h.ge1, h.ge2⟩
  · injection e with e; subst e; rw [h.r] at hb; cases hb
  · unfold updF
    by_cases e : d = day
    · subst e
      rw [if_pos ⟨rfl, rfl⟩]
      exact atKey_put_same him (show WideAt.IsKeyLit (.int .i64 d) from trivial) _ _
    · rw [if_neg (fun q => e q.2), atKey_put_other (fun q => e (by injection q))]
      exact hD d hd

set_option maxHeartbeats 3200000 in
theorem rAdd_is (h : RBk w B rb bm n first f0 g0 F) (hf : 0 ≤ first ∧ first ≤ 999999) (hn : n < 9223372036854775807) (hF : ∀ d, 0 ≤ F d ∧ F d ≤ 10000) (day x : Int) {E : Int} (hE : Hid (addE first F day x = E)) :
    Calls Try.prog 68 #[.pointer (some ⟨rb, 0, none⟩), .int .i64 day, .int .i64 x] w fun e w' => e = .returned (.int .i64 E) ∧ (∃ n', n' ≤ n + 1 ∧ RBk w' B rb bm n' first f0 g0 (updF F E day (F day + x))) ∧ ((∃ D : DataW Unit, w.ownsMap Try.prog 3 (plainElem Try.prog 3) bm n D) ∧ w.grownBy w' (some bm)) := by
  have hv := hE.out
  unfold addE at hv
  obtain ⟨D, hm, him, hD⟩ := h.m
  have HR := Lib.hid h; have HF := Lib.hid hf; have HM := Lib.hid hm; have HD := Lib.hid hD; have HI := Lib.hid him
  have hfb := hF day
  have WK : Hid (∀ {w1 : World}, w.grownBy w1 none → w.grownBy w1 (some bm)) := fun q => ⟨q.os, q.tape, q.output, q.size, fun k hk _ => q.block k hk (by simp)⟩
  clear hE h hm him hD
  by_cases d1 : HasD first day
  · rw [if_pos d1] at hv
    have hdd := d1
    unfold HasD at hdd
    have D1 := Lib.hid d1
    have HWF : Hid ((Lit.int .i64 day).wf = true) := wf_of (by omega)
    by_cases d2 : 0 ≤ x ∧ x ≤ 10000
    · rw [if_pos d2] at hv
      have D2 := Lib.hid d2
      have r1 : IntKind.i64.wrap (F day + x) = F day + x := IntWalk.i64_in _ (by omega)
      by_cases d3 : 10000 < F day + x
      · rw [if_pos d3] at hv
        subst hv
        have g3 : decide (10000 < F day + x) = true := decide_eq_true d3
        clear hf d1 d2 hdd hfb d3 hn hF
        go_enter Try.func68, Try.ntmps68
        go_wp2_with fail
        refine (dayFault_is HR.out HF.out day (Lib.hid (if_pos D1.out : (if HasD first day then (0 : Int) else 9) = 0))).mono ?_; rintro e w1 ⟨rfl, hg1⟩
        have R1 := Lib.hid (HR.out.grown hg1); have M1 := Lib.hid (HM.out.kept hg1 (by simp)); have G1 := Lib.hid hg1
        clear hg1
        have c3 := blk_cell R1.out.r 3 _ rfl
        go_wp2_with (first | (go_at_call 131; refine (routside_no _ _ _ D2.out _).mono ?_; rintro e w2 ⟨rfl, rfl⟩) | (at_lookup; go_loud (refine wpList_lookup_own_int _ rfl _ _ 170 rfl 3 3 .i64 klaw Try.underlying170 Try.underlying3 (kzero _) bm n _ rfl (M1).out _ _ rfl (keyOf_int_mk Try.underlying3 HWF.out) ?_); intro c hat _; obtain rfl := lit_same hat (HD.out day HWF.out); clear hat))
        go_ret
        exact ⟨rfl, ⟨n, by omega, by rw [updF_no (by decide)]; exact R1.out⟩, ⟨D, HM.out⟩, WK.out G1.out⟩
      · rw [if_neg d3] at hv
        subst hv
        have g3 : decide (10000 < F day + x) = false := decide_eq_false d3
        have HN := Lib.hid hn
        have HVW : Hid ((Lit.int .i64 (F day + x)).wf = true) := wf_of (by omega)
        clear hf d1 d2 hdd hfb d3 hn hF
        go_enter Try.func68, Try.ntmps68
        go_wp2_with fail
        refine (dayFault_is HR.out HF.out day (Lib.hid (if_pos D1.out : (if HasD first day then (0 : Int) else 9) = 0))).mono ?_; rintro e w1 ⟨rfl, hg1⟩
        have R1 := Lib.hid (HR.out.grown hg1); have M1 := Lib.hid (HM.out.kept hg1 (by simp)); have G1 := Lib.hid hg1
        clear hg1
        have c3 := blk_cell R1.out.r 3 _ rfl
        go_wp2_with (first | (go_at_call 131; refine (routside_no _ _ _ D2.out _).mono ?_; rintro e w2 ⟨rfl, rfl⟩) | (at_lookup; go_loud (refine wpList_lookup_own_int _ rfl _ _ 170 rfl 3 3 .i64 klaw Try.underlying170 Try.underlying3 (kzero _) bm n _ rfl (M1).out _ _ rfl (keyOf_int_mk Try.underlying3 HWF.out) ?_); intro c hat _; obtain rfl := lit_same hat (HD.out day HWF.out); clear hat) | (at_mapUpdate; go_loud (refine wpList_mapUpdate_own _ rfl _ _ _ 170 rfl 3 3 klaw Try.underlying170 _ bm n _ rfl M1.out (by have := HN.out; unfold maxLen; omega) _ _ _ rfl rfl (keyOf_int_mk Try.underlying3 HWF.out) _ [] (plainElem_int Try.underlying3 HVW.out) ?_); intro w5 hown5 hgrow5; have M5 := Lib.hid hown5; have G5 := Lib.hid hgrow5; clear hown5 hgrow5))
        go_ret
        exact ⟨rfl, ⟨n + 1, Nat.le_refl _, R1.out.put HI.out HD.out day _ M5.out G5.out⟩, ⟨D, HM.out⟩, (WK.out G1.out).trans G5.out⟩
    · rw [if_neg d2] at hv
      subst hv
      have D2 := Lib.hid d2
      clear hf d1 d2 hdd hfb hn hF
      go_enter Try.func68, Try.ntmps68
      go_wp2_with fail
      refine (dayFault_is HR.out HF.out day (Lib.hid (if_pos D1.out : (if HasD first day then (0 : Int) else 9) = 0))).mono ?_; rintro e w1 ⟨rfl, hg1⟩
      have R1 := Lib.hid (HR.out.grown hg1); have G1 := Lib.hid hg1
      clear hg1
      go_wp2_with fail
      refine (routside_yes _ _ _ D2.out _).mono ?_; rintro e w2 ⟨rfl, rfl⟩
      go_wp2_with fail
      go_ret
      exact ⟨rfl, ⟨n, by omega, by rw [updF_no (by decide)]; exact R1.out⟩, ⟨D, HM.out⟩, WK.out G1.out⟩
  · rw [if_neg d1] at hv
    subst hv
    have D1 := Lib.hid d1
    clear hf d1 hfb hn hF
    go_enter Try.func68, Try.ntmps68
    go_wp2_with fail
    refine (dayFault_is HR.out HF.out day (Lib.hid (if_neg D1.out : (if HasD first day then (0 : Int) else 9) = 9))).mono ?_; rintro e w1 ⟨rfl, hg1⟩
    have R1 := Lib.hid (HR.out.grown hg1); have G1 := Lib.hid hg1
    clear hg1
    go_wp2_with fail
    go_ret
    exact ⟨rfl, ⟨n, by omega, by rw [updF_no (by decide)]; exact R1.out⟩, ⟨D, HM.out⟩, WK.out G1.out⟩

set_option maxHeartbeats 3200000 in
theorem rTake_is (h : RBk w B rb bm n first f0 g0 F) (hf : 0 ≤ first ∧ first ≤ 999999) (hn : n < 9223372036854775807) (hF : ∀ d, 0 ≤ F d ∧ F d ≤ 10000) (day x : Int) {E : Int} (hE : Hid (takeE first F day x = E)) :
    Calls Try.prog 70 #[.pointer (some ⟨rb, 0, none⟩), .int .i64 day, .int .i64 x] w fun e w' => e = .returned (.int .i64 E) ∧ (∃ n', n' ≤ n + 1 ∧ RBk w' B rb bm n' first f0 g0 (updF F E day (F day - x))) ∧ ((∃ D : DataW Unit, w.ownsMap Try.prog 3 (plainElem Try.prog 3) bm n D) ∧ w.grownBy w' (some bm)) := by
  have hv := hE.out
  unfold takeE at hv
  obtain ⟨D, hm, him, hD⟩ := h.m
  have HR := Lib.hid h; have HF := Lib.hid hf; have HM := Lib.hid hm; have HD := Lib.hid hD; have HI := Lib.hid him
  have hfb := hF day
  have WK : Hid (∀ {w1 : World}, w.grownBy w1 none → w.grownBy w1 (some bm)) := fun q => ⟨q.os, q.tape, q.output, q.size, fun k hk _ => q.block k hk (by simp)⟩
  clear hE h hm him hD
  by_cases d1 : HasD first day
  · rw [if_pos d1] at hv
    have hdd := d1
    unfold HasD at hdd
    have D1 := Lib.hid d1
    have HWF : Hid ((Lit.int .i64 day).wf = true) := wf_of (by omega)
    by_cases d2 : 0 ≤ x ∧ x ≤ 10000
    · rw [if_pos d2] at hv
      have D2 := Lib.hid d2
      have r1 : IntKind.i64.wrap (F day - x) = F day - x := IntWalk.i64_in _ (by omega)
      by_cases d3 : F day - x < 0
      · rw [if_pos d3] at hv
        subst hv
        have g3 : decide (F day - x < 0) = true := decide_eq_true d3
        clear hf d1 d2 hdd hfb d3 hn hF
        go_enter Try.func70, Try.ntmps70
        go_wp2_with fail
        refine (dayFault_is HR.out HF.out day (Lib.hid (if_pos D1.out : (if HasD first day then (0 : Int) else 9) = 0))).mono ?_; rintro e w1 ⟨rfl, hg1⟩
        have R1 := Lib.hid (HR.out.grown hg1); have M1 := Lib.hid (HM.out.kept hg1 (by simp)); have G1 := Lib.hid hg1
        clear hg1
        have c3 := blk_cell R1.out.r 3 _ rfl
        go_wp2_with (first | (go_at_call 131; refine (routside_no _ _ _ D2.out _).mono ?_; rintro e w2 ⟨rfl, rfl⟩) | (at_lookup; go_loud (refine wpList_lookup_own_int _ rfl _ _ 170 rfl 3 3 .i64 klaw Try.underlying170 Try.underlying3 (kzero _) bm n _ rfl (M1).out _ _ rfl (keyOf_int_mk Try.underlying3 HWF.out) ?_); intro c hat _; obtain rfl := lit_same hat (HD.out day HWF.out); clear hat))
        go_ret
        exact ⟨rfl, ⟨n, by omega, by rw [updF_no (by decide)]; exact R1.out⟩, ⟨D, HM.out⟩, WK.out G1.out⟩
      · rw [if_neg d3] at hv
        subst hv
        have g3 : decide (F day - x < 0) = false := decide_eq_false d3
        have HN := Lib.hid hn
        have HVW : Hid ((Lit.int .i64 (F day - x)).wf = true) := wf_of (by omega)
        clear hf d1 d2 hdd hfb d3 hn hF
        go_enter Try.func70, Try.ntmps70
        go_wp2_with fail
        refine (dayFault_is HR.out HF.out day (Lib.hid (if_pos D1.out : (if HasD first day then (0 : Int) else 9) = 0))).mono ?_; rintro e w1 ⟨rfl, hg1⟩
        have R1 := Lib.hid (HR.out.grown hg1); have M1 := Lib.hid (HM.out.kept hg1 (by simp)); have G1 := Lib.hid hg1
        clear hg1
        have c3 := blk_cell R1.out.r 3 _ rfl
        go_wp2_with (first | (go_at_call 131; refine (routside_no _ _ _ D2.out _).mono ?_; rintro e w2 ⟨rfl, rfl⟩) | (at_lookup; go_loud (refine wpList_lookup_own_int _ rfl _ _ 170 rfl 3 3 .i64 klaw Try.underlying170 Try.underlying3 (kzero _) bm n _ rfl (M1).out _ _ rfl (keyOf_int_mk Try.underlying3 HWF.out) ?_); intro c hat _; obtain rfl := lit_same hat (HD.out day HWF.out); clear hat) | (at_mapUpdate; go_loud (refine wpList_mapUpdate_own _ rfl _ _ _ 170 rfl 3 3 klaw Try.underlying170 _ bm n _ rfl M1.out (by have := HN.out; unfold maxLen; omega) _ _ _ rfl rfl (keyOf_int_mk Try.underlying3 HWF.out) _ [] (plainElem_int Try.underlying3 HVW.out) ?_); intro w5 hown5 hgrow5; have M5 := Lib.hid hown5; have G5 := Lib.hid hgrow5; clear hown5 hgrow5))
        go_ret
        exact ⟨rfl, ⟨n + 1, Nat.le_refl _, R1.out.put HI.out HD.out day _ M5.out G5.out⟩, ⟨D, HM.out⟩, (WK.out G1.out).trans G5.out⟩
    · rw [if_neg d2] at hv
      subst hv
      have D2 := Lib.hid d2
      clear hf d1 d2 hdd hfb hn hF
      go_enter Try.func70, Try.ntmps70
      go_wp2_with fail
      refine (dayFault_is HR.out HF.out day (Lib.hid (if_pos D1.out : (if HasD first day then (0 : Int) else 9) = 0))).mono ?_; rintro e w1 ⟨rfl, hg1⟩
      have R1 := Lib.hid (HR.out.grown hg1); have G1 := Lib.hid hg1
      clear hg1
      go_wp2_with fail
      refine (routside_yes _ _ _ D2.out _).mono ?_; rintro e w2 ⟨rfl, rfl⟩
      go_wp2_with fail
      go_ret
      exact ⟨rfl, ⟨n, by omega, by rw [updF_no (by decide)]; exact R1.out⟩, ⟨D, HM.out⟩, WK.out G1.out⟩
  · rw [if_neg d1] at hv
    subst hv
    have D1 := Lib.hid d1
    clear hf d1 hfb hn hF
    go_enter Try.func70, Try.ntmps70
    go_wp2_with fail
    refine (dayFault_is HR.out HF.out day (Lib.hid (if_neg D1.out : (if HasD first day then (0 : Int) else 9) = 9))).mono ?_; rintro e w1 ⟨rfl, hg1⟩
    have R1 := Lib.hid (HR.out.grown hg1); have G1 := Lib.hid hg1
    clear hg1
    go_wp2_with fail
    go_ret
    exact ⟨rfl, ⟨n, by omega, by rw [updF_no (by decide)]; exact R1.out⟩, ⟨D, HM.out⟩, WK.out G1.out⟩
end

end Go.Proofs.Yteaifonpkdjkcaa
