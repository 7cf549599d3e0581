/- The contract of durationParts. -/
import Derived.Test.YtbacoopopokkfaaDoorQSix
namespace Go.Proofs.YtbacoopopokkfaaDoor
open Go.RowKit
set_option linter.unusedSimpArgs false
set_option linter.unusedVariables false

theorem letter0 : rem (ByteArray.extract ⟨#[104, 109, 115]⟩ 0 1) 0 = [letterAt 0] := by decide +kernel
theorem letter1 : rem (ByteArray.extract ⟨#[104, 109, 115]⟩ 1 2) 0 = [letterAt 1] := by decide +kernel
theorem letter2 : rem (ByteArray.extract ⟨#[104, 109, 115]⟩ 2 3) 0 = [letterAt 2] := by decide +kernel
theorem letters_size (i j : Nat) : (ByteArray.extract ⟨#[104, 109, 115]⟩ i j).size ≤ 1000000 := by
  rw [ByteArray.size_extract]; have : (ByteArray.mk #[104, 109, 115]).size = 3 := rfl; omega

set_option maxHeartbeats 1600000 in
theorem parts_any {s : ByteArray} {k : Nat} {a b : Nat} {w : World} (hat : At w a b s k) :
    Calls Tryd.prog 44 #[.func (.func 73) #[] #[.pointer (some ⟨a, 0, none⟩), .pointer (some ⟨b, 0, none⟩)]] w fun e w' => e = .returned (.tuple #[.int .i64 (partsV 0 (rem s k) 0 0).val, .bool (partsV 0 (rem s k) 0 0).ok]) ∧ Moved w w' a b s (k + (partsV 0 (rem s k) 0 0).used) := by
  go_enter Tryd.func44, Tryd.ntmps44
  go_wp2
  have hlt := hat.lt
  go_loopw [2, 6] (fun sc nx wr => ∃ (j : Nat) (sec : Int) (u : Nat), j ≤ 3 ∧ sc = .int .i64 sec ∧ nx = .int .i64 j ∧ 0 ≤ sec ∧ sec ≤ 40000000000 * (j : Int) ∧ Moved w wr a b s (k + u) ∧ wr.heap[w.heap.size]? = some (.cells #[.int .i64 3600, .int .i64 60, .int .i64 1] 105 (0, 0)) ∧ Hid (partsV 0 (rem s k) 0 0 = partsV j (rem s (k + u)) sec u))
    (fun _ nx _ => 3 - (intOf nx).toNat)
  case atStart => exact ⟨0, 0, 0, by omega, rfl, rfl, by omega, by omega, hat.grown (World.grownBy_alloc _ _ _), heap_alloc_new _ _, rfl⟩
  case round =>
    obtain ⟨j, sec, u, hj, rfl, rfl, hs0, hs1, hm, hz, hw⟩ := hrel
    by_cases hj3 : j < 3
    · rcases hn : numV 0 9999999 (rem s (k + u)) with ⟨n, ok, x⟩
      have hbd := numV_bd 0 9999999 (rem s (k + u)) (by omega) (by omega)
      have hno := @numV_no 0 9999999 (rem s (k + u))
      rw [hn] at hbd hno
      simp only at hbd hno
      cases ok with
      | false =>
        have hx0 := hno rfl
        subst hx0
        have hv : partsV j (rem s (k + u)) sec u = ⟨sec, decide (0 < j), u⟩ := by rw [partsV, if_pos hj3, hn]; rfl
        have HN := Lib.hid hn; clear hn hno
        have HV := Lib.hid hv; clear hv
        go_wp2_with (go_at_call 54; refine (number_is _ _ (.inl rfl) (by omega) (by omega) hm.pos (by exact HN.out)).mono ?_; rintro e w1 ⟨rfl, hm1⟩)
        go_ret2
        refine ⟨ret_ib (by rw [hw.out, HV.out]) (by rw [hw.out, HV.out]), ?_⟩
        rw [hw.out, HV.out]; exact (hm.trans hm1).eq rfl
      | true =>
        have HN := Lib.hid hn; clear hn hno
        go_wp2_with (go_at_call 54; refine (number_is _ _ (.inl rfl) (by omega) (by omega) hm.pos (by exact HN.out)).mono ?_; rintro e w1 ⟨rfl, hm1⟩)
        have hm2 := (hm.trans hm1).eq (Nat.add_assoc k u x).symm.symm
        have hz2 := hm1.block hz (by omega)
        clear hm hm1 hz
        obtain ⟨wo, rfl⟩ : ∃ wo : World, wo = w1 := ⟨_, rfl⟩
        go_loopw [6] (fun nx wi => ∃ j2 : Nat, j ≤ j2 ∧ j2 ≤ 3 ∧ nx = .int .i64 j2 ∧ Moved wo wi a b s (k + (u + x)) ∧ Hid (findV j (rem s (k + u + x)) = findV j2 (rem s (k + u + x))))
          (fun nx _ => 3 - (intOf nx).toNat)
        case atStart => exact ⟨j, by omega, by omega, rfl, hm2.pos.refl, rfl⟩
        case round =>
          obtain ⟨j2, hjj, hj2, rfl, hmi, hfi⟩ := hrel
          rcases (show j2 = 3 ∨ j2 = 0 ∨ j2 = 1 ∨ j2 = 2 by omega) with rfl | hsm
          · have hv : partsV j (rem s (k + u)) sec u = ⟨0, false, u + x⟩ := by
              rw [partsV, if_pos hj3, HN.out]; simp only [rem_drop, if_true]
              rw [if_neg]; rw [hfi.out, findV_end]; omega
            have HV := Lib.hid hv; clear hv
            go_wp2
            go_ret2
            refine ⟨ret_ib (by rw [hw.out, HV.out]) (by rw [hw.out, HV.out]), ?_⟩
            rw [hw.out, HV.out]; exact hm2.trans hmi
          · rcases hx : (wordV [letterAt j2] (rem s (k + u + x))).1 with _ | _
            · have hfn := findV_no (by omega) hx
              have hx1 := word1_no hx
              clear hx
              have HX := Lib.hid hx1; clear hx1
              have HF := Lib.hid hfn; clear hfn
              rcases hsm with rfl | rfl | rfl
              all_goals
                go_wp2_with fail
                refine (word_is _ (letters_size _ _) (k := k + u + x) (by rw [Nat.add_assoc]; exact hmi.pos) (by first | exact (congrArg (fun l => wordV l (rem s (k + u + x))) letter0).trans HX.out | exact (congrArg (fun l => wordV l (rem s (k + u + x))) letter1).trans HX.out | exact (congrArg (fun l => wordV l (rem s (k + u + x))) letter2).trans HX.out)).mono ?_
                rintro e w2 ⟨rfl, hm3⟩
                go_wp2
                go_roundw
                case rel => exact ⟨_, Nat.le_succ_of_le hjj, by omega, by go_num, hmi.trans (hm3.eq (by omega)), hfi.out.trans HF.out⟩
                case measure => simp [intOf]
            · have hfn := findV_yes (by omega) hx
              have hx1 := word1_yes hx
              clear hx
              have hv : partsV j (rem s (k + u)) sec u = partsV (j2 + 1) (rem s (k + (u + x + 1))) (sec + n * sizeAt j2) (u + x + 1) := by
                rw [partsV, if_pos hj3, HN.out]; simp only [rem_drop, if_true]
                rw [hfi.out, hfn, if_pos (by omega)]; simp only [Nat.add_assoc]
              have hz3 := hmi.block hz2 (by omega)
              have HX := Lib.hid hx1; clear hx1
              have HF := Lib.hid hfn; clear hfn
              have HV := Lib.hid hv; clear hv
              rcases hsm with rfl | rfl | rfl
              all_goals
                go_wp2_with fail
                refine (word_is _ (letters_size _ _) (k := k + u + x) (by rw [Nat.add_assoc]; exact hmi.pos) (by first | exact (congrArg (fun l => wordV l (rem s (k + u + x))) letter0).trans HX.out | exact (congrArg (fun l => wordV l (rem s (k + u + x))) letter1).trans HX.out | exact (congrArg (fun l => wordV l (rem s (k + u + x))) letter2).trans HX.out)).mono ?_
                rintro e w2 ⟨rfl, hm3⟩
                have hz4 := hm3.block hz3 (by omega)
                have hc0 : w2.cell? ⟨w.heap.size, 0, none⟩ = some (.int .i64 3600) := by simp [World.cell?, hz4]
                have hc1 : w2.cell? ⟨w.heap.size, 1, none⟩ = some (.int .i64 60) := by simp [World.cell?, hz4]
                have hc2 : w2.cell? ⟨w.heap.size, 2, none⟩ = some (.int .i64 1) := by simp [World.cell?, hz4]
                have hm4 := (hm2.trans hmi).trans hm3
                have HZ := Lib.hid hz4
                clear hz4 hz3 hz2
                go_wp2
              · go_roundw
                case rel => exact ⟨1, sec + n * 3600, u + x + 1, by omega, rfl, rfl, by omega, by omega, hm4.eq (by omega), HZ.out, by show _ = _; rw [hw.out, HV.out]; simp [sizeAt]⟩
                case measure => simp [intOf]; omega
              · go_roundw
                case rel => exact ⟨2, sec + n * 60, u + x + 1, by omega, rfl, rfl, by omega, by omega, hm4.eq (by omega), HZ.out, by show _ = _; rw [hw.out, HV.out]; simp [sizeAt]⟩
                case measure => simp [intOf]; omega
              · go_roundw
                case rel => exact ⟨3, sec + n, u + x + 1, by omega, rfl, rfl, by omega, by omega, hm4.eq (by omega), HZ.out, by show _ = _; rw [hw.out, HV.out]; simp [sizeAt]⟩
                case measure => simp [intOf]; omega
    · obtain rfl : j = 3 := by omega
      have hv : partsV 3 (rem s (k + u)) sec u = ⟨sec, true, u⟩ := by rw [partsV, if_neg (by omega)]
      have HV := Lib.hid hv; clear hv
      go_wp2
      go_ret2
      refine ⟨ret_ib (by rw [hw.out, HV.out]) (by rw [hw.out, HV.out]; try simp), ?_⟩
      rw [hw.out, HV.out]; exact hm
end Go.Proofs.YtbacoopopokkfaaDoor
