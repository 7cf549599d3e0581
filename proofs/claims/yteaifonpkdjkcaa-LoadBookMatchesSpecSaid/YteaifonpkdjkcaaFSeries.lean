/- The contract of Series. -/
import Derived.Test.YteaifonpkdjkcaaFStep
import Derived.Test.YteaifonpkdjkcaaFRow
namespace Go.Proofs.Yteaifonpkdjkcaa
open Go.RowKit

theorem seriesN_not {l : List Int} {c first E : Int} (h : seriesE l c first = E) (hE : E ≠ 0) : seriesN l c first = 0 := by
  unfold seriesN; rw [if_neg (by rw [h]; exact hE)]
theorem seriesN_ok {l : List Int} {c first : Int} (h : seriesE l c first = 0) : seriesN l c first = l.length := by
  unfold seriesN; rw [if_pos h]

set_option maxRecDepth 100000 in
set_option maxHeartbeats 1600000 in
theorem series_any (ao : Option Addr) (cap : Nat) (l : List Int) (hl : (l.length : Int) ≤ 9223372036854775807) (c first : Int) (w : World) (hs : IntsAt w ao l) {n : Nat} {E : Int} (hE : Hid (seriesE l c first = E)) (hn : Hid (seriesN l c first = n)) :
    Calls Try.prog 78 #[.slice ao l.length cap, .int .i64 c, .int .i64 first] w fun e w' => (∃ ao' cap', e = .returned (.tuple #[.slice ao' n cap', .int .i64 E]) ∧ FInts w' ao' n (fun j => stN l c first (j + 1))) ∧ w.grownBy w' none := by
  have HS := Lib.hid hs
  have hv := hE.out
  unfold seriesE at hv
  clear hs
  by_cases h1 : (l.length : Int) ≤ 5000
  · rw [if_pos h1] at hv
    by_cases h2 : 0 ≤ first ∧ first ≤ 10000000
    · by_cases h3 : 1 ≤ c ∧ c ≤ 1000
      · rw [if_pos ⟨h2, h3⟩] at hv
        have H2 := Lib.hid h2; have H3 := Lib.hid h3
        have HE0 : Hid (eachE 0 10000 (l.drop 0) = E) := hv
        have hmk := run_make_row' (P := Try.prog) 22 3 (.int .i64 0) 8 Try.underlying22 einfo_int rfl .i64 .i64 l.length (by omega) (by omega)
        clear h2 h3 hv
        go_enter Try.func78, Try.ntmps78
        go_wp2_with (first
          | (go_at_call 130; refine (isState_yes _ H2 _).mono ?_; rintro e w1 ⟨rfl, rfl⟩)
          | (go_at_call 141; refine (isConstant_yes _ H3 _).mono ?_; rintro e w1 ⟨rfl, rfl⟩))
        have HR0 : Hid (RowF (w.alloc (.cells (madeCells #[.int .i64 0] l.length) 3)) w.heap.size l.length (fun _ => 0)) := by
          refine ⟨?_⟩
          have q := heap_alloc_new w (.cells (madeCells #[.int .i64 0] l.length) 3)
          rw [rowI_zero] at q ⊢
          exact q
        have HG0 : Hid (w.grownBy (w.alloc (.cells (madeCells #[.int .i64 0] l.length) 3)) none) := World.grownBy_alloc _ _ _
        clear hmk
        go_loopw [9, 29] (fun sv iv wr => ∃ (k : Nat) (F : Nat → Int), k ≤ l.length ∧ sv = .int .i64 (stN l c first k) ∧ iv = .int .i64 k ∧ Hid (w.grownBy wr none) ∧ Hid (RowF wr w.heap.size l.length F) ∧ Hid (∀ j, j < k → F j = stN l c first (j + 1)) ∧ Hid (∀ j, j < k → 0 ≤ nthI l j ∧ nthI l j ≤ 10000) ∧ Hid (eachE 0 10000 (l.drop k) = E))
          (fun _ iv _ => l.length - (intOf iv).toNat)
        case atStart => exact ⟨0, fun _ => 0, Nat.zero_le _, rfl, rfl, HG0.out, HR0.out, fun j hj => absurd hj (Nat.not_lt_zero _), fun j hj => absurd hj (Nat.not_lt_zero _), HE0.out⟩
        case round =>
          obtain ⟨k, F, hk, rfl, rfl, hg, hr, hF, hok, hw⟩ := hrel
          by_cases hlt : k < l.length
          · obtain ⟨b, off, rfl, hc⟩ := HS.out.at (by omega)
            have c0 := grown_cell hg.out (hc k hlt)
            have HW : Hid (_ = E) := Lib.hid ((eachE_at (lo := 0) (hi := 10000) hlt).symm.trans hw.out)
            have HB : Hid (0 ≤ stN l c first k ∧ stN l c first k ≤ 10000000) := stN_bd H2.out H3.out.1 k hok.out
            have HV : Hid (stepF (stN l c first k) (nthI l k) c = stN l c first (k + 1)) := rfl
            clear hw hc
            by_cases a1 : 0 ≤ nthI l k ∧ nthI l k ≤ 10000
            · have HE : Hid (eachE 0 10000 (l.drop (k + 1)) = E) := by show _ = _; rw [← HW.out, if_pos a1]
              have HOK : Hid (∀ j, j < k + 1 → 0 ≤ nthI l j ∧ nthI l j ≤ 10000) := fun j hj => by
                rcases Nat.lt_or_ge j k with q | q
                · exact hok.out j q
                · obtain rfl : j = k := by omega
                  exact a1
              have H1 := Lib.hid a1
              have f0 := hr.out.free k
              have HR1 : Hid (RowF (wr.setCell ⟨w.heap.size, k, none⟩ (.int .i64 (stN l c first (k + 1)))) w.heap.size l.length (upI F k (stN l c first (k + 1)))) := hr.out.set k _
              have HF1 : Hid (∀ j, j < k + 1 → upI F k (stN l c first (k + 1)) j = stN l c first (j + 1)) := fun j hj => by
                unfold upI
                by_cases q : j = k
                · rw [if_pos q, q]
                · rw [if_neg q]; exact hF.out j (by omega)
              have HG1 : Hid (w.grownBy (wr.setCell ⟨w.heap.size, k, none⟩ (.int .i64 (stN l c first (k + 1)))) none) := egrown_set hg.out (Nat.le_refl _) _ _
              have d0 := hr.out.cell hlt
              clear HW a1 hok hF
              generalize nthI l k = x at *
              generalize stN l c first k = s at *
              generalize hs' : stN l c first (k + 1) = s' at *
              have HS' := Lib.hid hs'
              clear hs'
              go_wp2_with (first
                | (go_at_call 133; refine (isLoad_yes _ H1 _).mono ?_; rintro e w1 ⟨rfl, rfl⟩)
                | (go_at_call 137; refine (step_is _ _ _ HB.out H1.out H3.out _ HV).mono ?_; rintro e w1 ⟨rfl, rfl⟩))
              go_roundw
              case rel => exact ⟨k + 1, _, by omega, by rw [HS'.out], by go_num, HG1.out, HR1.out, HF1.out, HOK.out, HE.out⟩
              case measure => simp [intOf]; omega
            · have HE : Hid (E = 9) := by show _ = _; rw [← HW.out, if_neg a1]
              have H1 := Lib.hid a1
              have hE9 := HE.out
              subst hE9
              have hn0 : n = 0 := by rw [← hn.out]; exact seriesN_not hE.out (by decide)
              subst hn0
              clear HW a1
              generalize nthI l k = x at *
              go_wp2_with (go_at_call 133; refine (isLoad_no _ H1 _).mono ?_; rintro e w1 ⟨rfl, rfl⟩)
              go_ret2
              exact ⟨⟨_, _, rfl, FInts.none _ _ _⟩, hg.out⟩
          · obtain rfl : k = l.length := by omega
            have hE0 : E = 0 := by rw [← hw.out]; exact eachE_end (Nat.le_refl _)
            subst hE0
            have hn0 : n = l.length := by rw [← hn.out]; exact seriesN_ok hE.out
            subst hn0
            go_wp2
            go_ret2
            exact ⟨⟨_, _, rfl, FInts.of_row hr.out hF.out⟩, hg.out⟩
      · rw [if_neg (fun h => h3 h.2)] at hv
        subst hv
        have hn0 : n = 0 := by rw [← hn.out]; exact seriesN_not hE.out (by decide)
        subst hn0
        have H2 := Lib.hid h2; have H3 := Lib.hid h3
        clear h2 h3
        go_enter Try.func78, Try.ntmps78
        go_wp2_with (first
          | (go_at_call 130; refine (isState_yes _ H2 _).mono ?_; rintro e w1 ⟨rfl, rfl⟩)
          | (go_at_call 141; refine (isConstant_no _ H3 _).mono ?_; rintro e w1 ⟨rfl, rfl⟩))
        go_ret2
        exact ⟨⟨_, _, rfl, FInts.none _ _ _⟩, grown_refl _ _⟩
    · rw [if_neg (fun h => h2 h.1)] at hv
      subst hv
      have hn0 : n = 0 := by rw [← hn.out]; exact seriesN_not hE.out (by decide)
      subst hn0
      have H2 := Lib.hid h2
      clear h2
      go_enter Try.func78, Try.ntmps78
      go_wp2_with (first
        | (go_at_call 130; refine (isState_no _ H2 _).mono ?_; rintro e w1 ⟨rfl, rfl⟩))
      go_ret2
      exact ⟨⟨_, _, rfl, FInts.none _ _ _⟩, grown_refl _ _⟩
  · rw [if_neg h1] at hv
    subst hv
    have hn0 : n = 0 := by rw [← hn.out]; exact seriesN_not hE.out (by decide)
    subst hn0
    go_enter Try.func78, Try.ntmps78
    go_wp2
    go_ret2
    first | exact ⟨⟨_, _, rfl, FInts.none _ _ _⟩, grown_refl _ _⟩ | exact ⟨⟨_, ⟨_, rfl⟩, FInts.none _ _ _⟩, grown_refl _ _⟩

end Go.Proofs.Yteaifonpkdjkcaa
