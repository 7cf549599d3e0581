/- The contract of word. -/
import Derived.Test.YtbacoopopokkfaaDoorQTake
namespace Go.Proofs.YtbacoopopokkfaaDoor
open Go.RowKit
set_option linter.unusedSimpArgs false
set_option linter.unusedVariables false

set_option maxHeartbeats 400000 in
theorem word_any (t : ByteArray) (ht : t.size ≤ 1000000) {s : ByteArray} {k : Nat} {a b : Nat} {w : World} (hat : At w a b s k) :
    Calls Tryd.prog 55 #[.func (.func 73) #[] #[.pointer (some ⟨a, 0, none⟩), .pointer (some ⟨b, 0, none⟩)], .string t] w fun e w' => e = .returned (.bool (wordV (rem t 0) (rem s k)).1) ∧ Moved w w' a b s (k + (wordV (rem t 0) (rem s k)).2) := by
  go_enter Tryd.func55, Tryd.ntmps55
  go_wp2
  go_loopw [10] (fun i wr => ∃ j : Nat, j ≤ t.size ∧ i = .int .i64 j ∧ Moved w wr a b s (k + j) ∧ Hid (wordV (rem t 0) (rem s k) = ((wordV (rem t j) (rem s (k + j))).1, (wordV (rem t j) (rem s (k + j))).2 + j)))
    (fun i _ => t.size - (intOf i).toNat)
  case atStart => exact ⟨0, Nat.zero_le _, rfl, hat.refl, rfl⟩
  case round =>
    obtain ⟨j, hj, rfl, hm, hw⟩ := hrel
    by_cases hlt : j < t.size
    · have hr := rem_cons hlt
      rcases hx : tkV t[j].toNat t[j].toNat (rem s (k + j)) with _ | x
      · have hn := wordV_no (w := rem t (j + 1)) hx
        have HX := Lib.hid hx; clear hx
        have HR := Lib.hid hr; clear hr
        have HN := Lib.hid hn; clear hn
        go_wp2_with fail
        go_region_with (go_at_call 73; refine (take_none (k := k + j) (by exact ⟨hm.pos.hA, hm.pos.hB, hm.pos.sz, hm.pos.le⟩) _ _ (by exact HX.out)).mono ?_; rintro e w1 ⟨rfl, rfl⟩)
        all_goals go_wp2
        all_goals
          go_ret
          refine ⟨ret_bool (by rw [hw.out, HR.out, HN.out]), ?_⟩
          rw [hw.out, HR.out, HN.out, Nat.zero_add]
          repeat (first | exact hm | refine Moved.drew ?_)
      · have hn := wordV_yes (w := rem t (j + 1)) hx
        have hb := (tkV_bd hx).2.2
        rw [rem_tail] at hn
        have HX := Lib.hid hx; clear hx hb
        have HR := Lib.hid hr; clear hr
        have HN := Lib.hid hn; clear hn
        go_wp2_with fail
        go_region_with (go_at_call 73; refine (take_some (k := k + j) (by exact ⟨hm.pos.hA, hm.pos.hB, hm.pos.sz, hm.pos.le⟩) _ _ (by exact HX.out)).mono ?_; rintro e w1 ⟨rfl, hm1⟩)
        all_goals go_wp2
        all_goals
          go_roundw
          case rel => exact ⟨j + 1, by omega, by go_num, (by first | exact hm.trans hm1 | exact hm.drew.trans hm1 | exact hm.drew.drew.trans hm1 | exact hm.drew.drew.drew.trans hm1 | exact (hm.drewN _).trans hm1), by show _ = _; rw [hw.out, HR.out, HN.out]; exact Prod.ext rfl (Nat.add_right_comm _ 1 j)⟩
          case measure => simp [intOf]; omega
    · have hj' : j = t.size := by omega
      have HJ := Lib.hid hj'; clear hj'
      go_wp2
      go_ret
      refine ⟨ret_bool (by rw [hw.out, HJ.out, rem_nil (Nat.le_refl _)]; rfl), ?_⟩
      rw [hw.out, rem_nil (by omega)]
      simpa [wordV] using hm

end Go.Proofs.YtbacoopopokkfaaDoor
