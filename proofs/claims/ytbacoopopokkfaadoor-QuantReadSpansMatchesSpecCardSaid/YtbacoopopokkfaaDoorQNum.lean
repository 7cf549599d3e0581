/- The contract of number. -/
import Derived.Test.YtbacoopopokkfaaDoorQTake
namespace Go.Proofs.YtbacoopopokkfaaDoor
open Go.RowKit
set_option linter.unusedSimpArgs false
set_option linter.unusedVariables false

set_option maxHeartbeats 800000 in
theorem number_any (least most : Int) (hl : least = 0 ∨ least = 1) (hm9 : 9 ≤ most) (hmx : most ≤ 100000000000000) {s : ByteArray} {k : Nat} {a b : Nat} {w : World} (hat : At w a b s k) :
    Calls Tryd.prog 54 #[.func (.func 73) #[] #[.pointer (some ⟨a, 0, none⟩), .pointer (some ⟨b, 0, none⟩)], .int .i64 least, .int .i64 most] w fun e w' => e = .returned (.tuple #[.int .i64 (numV least most (rem s k)).val, .bool (numV least most (rem s k)).ok]) ∧ Moved w w' a b s (k + (numV least most (rem s k)).used) := by
  have hl1 : 0 ≤ least ∧ least ≤ 1 := by omega
  clear hl
  rcases hx : tkV (48 + least) 57 (rem s k) with _ | c
  · have hv : numV least most (rem s k) = ⟨0, false, 0⟩ := by unfold numV; rw [hx]
    have HX := Lib.hid hx; clear hx
    have HV := Lib.hid hv; clear hv
    go_enter Tryd.func54, Tryd.ntmps54
    go_wp2_with (go_at_call 73; refine (take_none hat _ _ (by exact HX.out)).mono ?_; rintro e w1 ⟨rfl, rfl⟩)
    go_ret2
    exact ⟨ret_ib (by rw [HV.out]) (by rw [HV.out]), by rw [HV.out]; exact hat.refl⟩
  · have hv : numV least most (rem s k) = ⟨(numMore most (rem s (k + 1)) ((c : Int) - 48)).1, true, (numMore most (rem s (k + 1)) ((c : Int) - 48)).2 + 1⟩ := by unfold numV; rw [hx, rem_tail]
    have hc := tkV_bd hx
    have hc1 : 48 ≤ (c : Int) := by omega
    have hc2 : (c : Int) ≤ 57 := by omega
    have HX := Lib.hid hx; clear hx hc
    have HV := Lib.hid hv; clear hv
    go_enter Tryd.func54, Tryd.ntmps54
    go_wp2_with (go_at_call 73; refine (take_some hat _ _ (by exact HX.out)).mono ?_; rintro e w1 ⟨rfl, hm1⟩)
    go_loopw [10] (fun i wr => ∃ (j : Nat) (n : Int), 0 ≤ n ∧ n ≤ most ∧ i = .int .i64 n ∧ Moved w wr a b s (k + 1 + j) ∧ Hid (numMore most (rem s (k + 1)) ((c : Int) - 48) = ((numMore most (rem s (k + 1 + j)) n).1, (numMore most (rem s (k + 1 + j)) n).2 + j)))
      (fun i _ => (most - intOf i).toNat)
    case atStart => exact ⟨0, _, by omega, by omega, rfl, hm1, rfl⟩
    case round =>
      obtain ⟨j, n, hn0, hn1, rfl, hm, hw⟩ := hrel
      by_cases h1 : 0 < n
      · by_cases h2 : 10 * n ≤ most
        · rcases hy : tkV 48 (48 + min (most - 10 * n) 9) (rem s (k + 1 + j)) with _ | x
          · have hn := numMore_no (n := n) (most := most) (R := rem s (k + 1 + j)) (fun _ _ => hy)
            have HY := Lib.hid hy; clear hy
            have HN := Lib.hid hn; clear hn
            by_cases h3 : 9 < most - 10 * n
            all_goals
              go_wp2_with (go_at_call 73; refine (take_none hm.pos _ _ (by have q := HY.out; first | rwa [show (48 + min (most - 10 * n) 9 : Int) = 57 from by omega] at q | rwa [show (48 + min (most - 10 * n) 9 : Int) = 48 + (most - 10 * n) from by omega] at q)).mono ?_; rintro e w1 ⟨rfl, rfl⟩)
              go_ret2
              refine ⟨ret_ib (by rw [HV.out]; show n = (numMore most (rem s (k + 1)) ((c : Int) - 48)).1; rw [hw.out, HN.out]) (by rw [HV.out]), ?_⟩
              rw [HV.out]
              show Moved _ _ _ _ _ (k + ((numMore most (rem s (k + 1)) ((c : Int) - 48)).2 + 1))
              rw [hw.out, HN.out]
              exact hm.eq (by omega)
          · have hn := numMore_yes (n := n) (most := most) (R := rem s (k + 1 + j)) h1 h2 hy
            rw [rem_tail] at hn
            have hb := tkV_bd hy
            have hb1 : 48 ≤ (x : Int) := by omega
            have hb2 : (x : Int) ≤ 57 := by omega
            have hb3 : (x : Int) - 48 ≤ most - 10 * n := by omega
            have HY := Lib.hid hy; clear hy hb
            have HN := Lib.hid hn; clear hn
            by_cases h3 : 9 < most - 10 * n
            all_goals
              go_wp2_with (go_at_call 73; refine (take_some hm.pos _ _ (by have q := HY.out; first | rwa [show (48 + min (most - 10 * n) 9 : Int) = 57 from by omega] at q | rwa [show (48 + min (most - 10 * n) 9 : Int) = 48 + (most - 10 * n) from by omega] at q)).mono ?_; rintro e w1 ⟨rfl, hm1⟩)
              go_roundw
              case rel => exact ⟨j + 1, 10 * n + ((x : Int) - 48), by omega, by omega, rfl, hm.trans hm1, by show _ = _; rw [hw.out, HN.out]; exact Prod.ext rfl (Nat.add_right_comm _ 1 j)⟩
              case measure => simp [intOf]; omega
        · have hn := numMore_no (n := n) (most := most) (R := rem s (k + 1 + j)) (fun _ h => absurd h h2)
          have HN := Lib.hid hn; clear hn
          go_wp2
          go_ret2
          refine ⟨ret_ib (by rw [HV.out]; show n = (numMore most (rem s (k + 1)) ((c : Int) - 48)).1; rw [hw.out, HN.out]) (by rw [HV.out]), ?_⟩
          rw [HV.out]
          show Moved _ _ _ _ _ (k + ((numMore most (rem s (k + 1)) ((c : Int) - 48)).2 + 1))
          rw [hw.out, HN.out]
          exact hm.eq (by omega)
      · have hn := numMore_no (n := n) (most := most) (R := rem s (k + 1 + j)) (fun h _ => absurd h h1)
        have HN := Lib.hid hn; clear hn
        go_wp2
        go_ret2
        refine ⟨ret_ib (by rw [HV.out]; show n = (numMore most (rem s (k + 1)) ((c : Int) - 48)).1; rw [hw.out, HN.out]) (by rw [HV.out]), ?_⟩
        rw [HV.out]
        show Moved _ _ _ _ _ (k + ((numMore most (rem s (k + 1)) ((c : Int) - 48)).2 + 1))
        rw [hw.out, HN.out]
        exact hm.eq (by omega)
end Go.Proofs.YtbacoopopokkfaaDoor
