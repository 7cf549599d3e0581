/- The contract of Balance. -/
import Derived.Test.YtdihmcbjoociiaaFIdx
import Derived.Test.YtdihmcbjoociiaaFPred
namespace Go.Proofs.Ytdihmcbjoociiaa
open Go.RowKit

set_option maxRecDepth 100000 in
set_option maxHeartbeats 3200000 in
theorem balance_any (ao : Option Addr) (cap : Nat) (l : List Int) (hl : (l.length : Int) ≤ 9223372036854775807) (power work : Int) (w : World) (hs : IntsAt w ao l) {n : Nat} {E : Int} (hE : Hid (balE l power work = E)) (hn : Hid (balN l power work = n)) :
    Calls Try.prog 39 #[.slice ao l.length cap, .int .i64 power, .int .i64 work] w fun e w' => (∃ ao' cap', e = .returned (.tuple #[.slice ao' n cap', .int .i64 E]) ∧ FInts w' ao' n (fun j => blN l power work (j + 1))) ∧ w.grownBy w' none := by
  have HS := Lib.hid hs
  obtain ⟨se, hse⟩ : ∃ e, streamE l = e := ⟨_, rfl⟩
  have HSE := Lib.hid hse
  have hv := hE.out
  unfold balE at hv
  rw [hse] at hv
  clear hs
  have eg : ∀ args w, (callFunc 99 args).run Try.prog w = .ok (.enter 99 args) w := enters_of Try.func99 (by kernel_rfl) rfl
  obtain ⟨k0, hk0⟩ := first_some (fun x => decide (10000 < x)) l
  have HK0 := Lib.hid hk0
  by_cases h0 : se = 0
  · subst h0
    rw [if_pos rfl] at hv
    have hll := (stream_ok hse).1
    have hsx := (stream_ok hse).2
    by_cases h1 : eachE (-1) 10000 l = 0
    · rw [if_pos h1] at hv
      have hkn : ¬ k0 < l.length := fun h => by
        have a := hk0.yes h
        have b := each_nth h1 h
        simp only [decide_eq_true_eq] at a; omega
      have HB : Hid (decide (k0 < l.length) = false) := decide_eq_false hkn
      by_cases h2 : 1 ≤ power ∧ power ≤ 10000
      · by_cases h3 : 1 ≤ work ∧ work ≤ 1000000
        · rw [if_pos ⟨h2, h3⟩] at hv
          subst hv
          have HOK : Hid (BalOk l power work) := bal_ok hE.out
          obtain rfl : n = l.length := by rw [← hn.out]; exact balN_ok hE.out
          have H2 := Lib.hid h2; have H3 := Lib.hid h3
          have hmk := run_make_row' (P := Try.prog) 28 3 (.int .i64 0) 8 Try.underlying28 einfo_int rfl .i64 .i64 l.length (by omega) (by omega)
          clear hse hsx h1 hk0 hkn h2 h3 hE hn
          go_enter Try.func39, Try.ntmps39
          go_wp2_with (first
            | (go_at_call 74; refine (checkStream_any _ _ _ hl _ HS.out HSE).mono ?_; rintro e w1 ⟨rfl, rfl⟩)
            | (go_at_call 43; refine (contains_is _ _ l hll 99 #[] _ k0 _ HS.out eg (Lib.hid fun x => above_is x _) HK0 HB).mono ?_; rintro e w1 ⟨rfl, rfl⟩)
            | (go_at_call_of 78 (Value.int IntKind.i64 10000); refine (fwithin_yes _ _ _ (by have := H2.out; omega) _).mono ?_; rintro e w1 ⟨rfl, rfl⟩)
            | (go_at_call_of 78 (Value.int IntKind.i64 1000000); refine (fwithin_yes _ _ _ (by have := H3.out; omega) _).mono ?_; rintro e w1 ⟨rfl, rfl⟩))
          have HR0 : Hid (RowF (w.alloc (.cells (madeCells #[.int .i64 0] l.length) 3)) w.heap.size l.length (fun _ => 0)) := by
            refine ⟨?_⟩
            have q := heap_alloc_new w (.cells (madeCells #[.int .i64 0] l.length) 3)
            rw [rowI_zero] at q ⊢
            exact q
          have HG0 : Hid (w.grownBy (w.alloc (.cells (madeCells #[.int .i64 0] l.length) 3)) none) := World.grownBy_alloc _ _ _
          clear hmk
          go_loopw [10, 34] (fun sv iv wr => ∃ (k : Nat) (F : Nat → Int), k ≤ l.length ∧ sv = .int .i64 (blN l power work k) ∧ iv = .int .i64 k ∧ Hid (w.grownBy wr none) ∧ Hid (RowF wr w.heap.size l.length F) ∧ Hid (∀ j, j < k → F j = blN l power work (j + 1)))
            (fun _ iv _ => l.length - (intOf iv).toNat)
          case atStart => exact ⟨0, fun _ => 0, Nat.zero_le _, rfl, rfl, HG0.out, HR0.out, fun j hj => absurd hj (Nat.not_lt_zero _)⟩
          case round =>
            obtain ⟨k, F, hk, rfl, rfl, hg, hr, hF⟩ := hrel
            by_cases hlt : k < l.length
            · obtain ⟨b, off, rfl, hc⟩ := HS.out.at (by omega)
              have c0 := grown_cell hg.out (hc k hlt)
              have hbd := blN_bd HOK.out k hk
              have hxb := HOK.out.each k hlt
              have HNX : Hid (blN l power work (k + 1) = balF power work (blN l power work k) (nthI l k)) := rfl
              have f0 := hr.out.free k
              have d0 := hr.out.cell hlt
              have HR1 : Hid (RowF (wr.setCell ⟨w.heap.size, k, none⟩ (.int .i64 (blN l power work (k + 1)))) w.heap.size l.length (upI F k (blN l power work (k + 1)))) := hr.out.set k _
              have HF1 : Hid (∀ j, j < k + 1 → upI F k (blN l power work (k + 1)) j = blN l power work (j + 1)) := fun j hj => by
                unfold upI
                by_cases q : j = k
                · rw [if_pos q, q]
                · rw [if_neg q]; exact hF.out j (by omega)
              have HG1 : Hid (w.grownBy (wr.setCell ⟨w.heap.size, k, none⟩ (.int .i64 (blN l power work (k + 1)))) none) := egrown_set hg.out (Nat.le_refl _) _ _
              generalize nthI l k = x at *
              generalize blN l power work k = s at *
              generalize hs' : blN l power work (k + 1) = s' at *
              have HS' := Lib.hid hs'
              clear hs' hc hF
              have hnx := HNX.out
              unfold balF at hnx
              have hpp := HOK.out.p; have hww := HOK.out.w; have hll := HOK.out.len
              have hkk : (k : Int) ≤ 1000000 := by omega
              by_cases a1 : power < x
              · rw [if_pos a1] at hnx
                have hs2 : s - (x - power) = s' := hnx.symm
                have a0 : ¬ x < 0 := by omega
                have hmx : max x 0 = x := by omega
                clear hnx
                go_wp2_with fail
                go_roundw
                case rel => exact ⟨k + 1, _, by omega, by rw [HS'.out], by go_num, HG1.out, HR1.out, HF1.out⟩
                case measure => simp [intOf]; omega
              · rw [if_neg a1] at hnx
                by_cases a0 : x < 0
                · have a3 : ¬ power < 0 := by omega
                  have hmx : max x 0 = 0 := by omega
                  rw [hmx] at hnx
                  have hf := fill_bd (power := power) (m := 0) (left := s) (work := work) hpp.2 (by omega) (by omega) hbd.1 (by omega) hww.1
                  obtain ⟨X, hX⟩ : ∃ X, (power - 0) * (work - s) = X := ⟨_, rfl⟩
                  rw [hX] at hnx hf
                  obtain ⟨x0, x1⟩ := hf
                  have hX0 : power * (work - s) = X := by rw [← hX]; rw [Int.sub_zero]
                  have rx0 : IntKind.i64.wrap (power * (work - s)) = X := by rw [hX0]; exact IntWalk.i64_in _ (by omega)
                  have rx : IntKind.i64.wrap ((power - 0) * (work - s)) = X := by rw [hX]; exact IntWalk.i64_in _ (by omega)
                  obtain ⟨e0, e1⟩ := ediv_bd x0 hww.1
                  obtain ⟨D, hD⟩ : ∃ D, X / work = D := ⟨_, rfl⟩
                  have hDt : X.tdiv work = D := by rw [Int.tdiv_eq_ediv_of_nonneg x0]; exact hD
                  have HD := Lib.hid hD
                  rw [hD] at hnx e0 e1
                  have x2 : X ≤ 200000000000000 := by omega
                  have ne0 : ¬ work = 0 := by omega
                  have ne1 : (work == 0) = false := by rw [beq_eq_false_iff_ne]; omega
                  have HM1 : min (s + D) work = s' := by omega
                  have HM2 : min work (s + D) = s' := by omega
                  clear hX x1 hnx hX0
                  go_wp2_with fail
                  go_roundw
                  case rel => exact ⟨k + 1, _, by omega, by rw [HS'.out], by go_num, HG1.out, HR1.out, HF1.out⟩
                  case measure => simp [intOf]; omega
                · 
                  have hmx : max x 0 = x := by omega
                  rw [hmx] at hnx
                  have hf := fill_bd (power := power) (m := x) (left := s) (work := work) hpp.2 (by omega) (by omega) hbd.1 (by omega) hww.1
                  obtain ⟨X, hX⟩ : ∃ X, (power - x) * (work - s) = X := ⟨_, rfl⟩
                  rw [hX] at hnx hf
                  obtain ⟨x0, x1⟩ := hf
                  have rx : IntKind.i64.wrap ((power - x) * (work - s)) = X := by rw [hX]; exact IntWalk.i64_in _ (by omega)
                  obtain ⟨e0, e1⟩ := ediv_bd x0 hww.1
                  obtain ⟨D, hD⟩ : ∃ D, X / work = D := ⟨_, rfl⟩
                  have hDt : X.tdiv work = D := by rw [Int.tdiv_eq_ediv_of_nonneg x0]; exact hD
                  have HD := Lib.hid hD
                  rw [hD] at hnx e0 e1
                  have x2 : X ≤ 200000000000000 := by omega
                  have ne0 : ¬ work = 0 := by omega
                  have ne1 : (work == 0) = false := by rw [beq_eq_false_iff_ne]; omega
                  have HM1 : min (s + D) work = s' := by omega
                  have HM2 : min work (s + D) = s' := by omega
                  clear hX x1 hnx
                  go_wp2_with fail
                  go_roundw
                  case rel => exact ⟨k + 1, _, by omega, by rw [HS'.out], by go_num, HG1.out, HR1.out, HF1.out⟩
                  case measure => simp [intOf]; omega

            · obtain rfl : k = l.length := by omega
              go_wp2
              go_ret2
              exact ⟨⟨_, _, rfl, FInts.of_row hr.out hF.out⟩, hg.out⟩
        · rw [if_neg (fun h => h3 h.2)] at hv
          subst hv
          obtain rfl : n = 0 := by rw [← hn.out]; exact balN_not hE.out (by decide)
          have H2 := Lib.hid h2; have H3 := Lib.hid h3
          clear hse hsx h1 hk0 hkn h2 h3 hE hn
          go_enter Try.func39, Try.ntmps39
          go_wp2_with (first
            | (go_at_call 74; refine (checkStream_any _ _ _ hl _ HS.out HSE).mono ?_; rintro e w1 ⟨rfl, rfl⟩)
            | (go_at_call 43; refine (contains_is _ _ l hll 99 #[] _ k0 _ HS.out eg (Lib.hid fun x => above_is x _) HK0 HB).mono ?_; rintro e w1 ⟨rfl, rfl⟩)
            | (go_at_call_of 78 (Value.int IntKind.i64 10000); refine (fwithin_yes _ _ _ (by have := H2.out; omega) _).mono ?_; rintro e w1 ⟨rfl, rfl⟩)
            | (go_at_call_of 78 (Value.int IntKind.i64 1000000); refine (fwithin_no _ _ _ (by have := H3.out; omega) _).mono ?_; rintro e w1 ⟨rfl, rfl⟩))
          go_ret2
          exact ⟨⟨_, _, rfl, FInts.none _ _ _⟩, grown_refl _ _⟩
      · rw [if_neg (fun h => h2 h.1)] at hv
        subst hv
        obtain rfl : n = 0 := by rw [← hn.out]; exact balN_not hE.out (by decide)
        have H2 := Lib.hid h2
        clear hse hsx h1 hk0 hkn h2 hE hn
        go_enter Try.func39, Try.ntmps39
        go_wp2_with (first
          | (go_at_call 74; refine (checkStream_any _ _ _ hl _ HS.out HSE).mono ?_; rintro e w1 ⟨rfl, rfl⟩)
          | (go_at_call 43; refine (contains_is _ _ l hll 99 #[] _ k0 _ HS.out eg (Lib.hid fun x => above_is x _) HK0 HB).mono ?_; rintro e w1 ⟨rfl, rfl⟩)
          | (go_at_call 78; refine (fwithin_no _ _ _ (by have := H2.out; omega) _).mono ?_; rintro e w1 ⟨rfl, rfl⟩))
        go_ret2
        exact ⟨⟨_, _, rfl, FInts.none _ _ _⟩, grown_refl _ _⟩
    · rw [if_neg h1] at hv
      subst hv
      obtain rfl : n = 0 := by rw [← hn.out]; exact balN_not hE.out (by decide)
      have hkn : k0 < l.length := by
        rcases Nat.lt_or_ge k0 l.length with q | q
        · exact q
        · refine absurd (eachE_all fun j hj => ?_) h1
          have a := hk0.no j (by omega)
          have b := hsx j hj
          simp only [decide_eq_false_iff_not] at a
          omega
      have HB : Hid (decide (k0 < l.length) = true) := decide_eq_true hkn
      clear hse hsx h1 hk0 hkn hE hn
      go_enter Try.func39, Try.ntmps39
      go_wp2_with (first
        | (go_at_call 74; refine (checkStream_any _ _ _ hl _ HS.out HSE).mono ?_; rintro e w1 ⟨rfl, rfl⟩)
        | (go_at_call 43; refine (contains_is _ _ l hll 99 #[] _ k0 _ HS.out eg (Lib.hid fun x => above_is x _) HK0 HB).mono ?_; rintro e w1 ⟨rfl, rfl⟩))
      go_ret2
      exact ⟨⟨_, _, rfl, FInts.none _ _ _⟩, grown_refl _ _⟩
  · rw [if_neg h0] at hv
    subst hv
    obtain rfl : n = 0 := by rw [← hn.out]; exact balN_not hE.out h0
    have hne : (se != 0) = true := by simpa using h0
    clear hse hk0 hE hn h0
    go_enter Try.func39, Try.ntmps39
    go_wp2_with (go_at_call 74; refine (checkStream_any _ _ _ hl _ HS.out HSE).mono ?_; rintro e w1 ⟨rfl, rfl⟩)
    go_ret2
    exact ⟨⟨_, _, rfl, FInts.none _ _ _⟩, grown_refl _ _⟩

end Go.Proofs.Ytdihmcbjoociiaa
