/- The contract of math/bits.Div64, where its divisor is greater than the high word: step by step. -/
import Derived.Test.YtbacoopopokkfaaDoorShelf
import Derived.Test.YtbacoopopokkfaaDoorQLong
import Derived.WalkKit
import Derived.WalkSpells
import Derived.WalkLawsBesides
import Derived.Handy
import Derived.Lib.Hide
import Derived.Deep.QuietTactic
import Derived.BigQuiet
import Derived.Deep.CutBlock
import Derived.Deep.DeepCutAuto
namespace Go.Proofs.YtbacoopopokkfaaDoor
open Go.RowKit
set_option linter.unusedSimpArgs false
set_option linter.unusedVariables false
set_option maxRecDepth 100000 in
set_option maxHeartbeats 3200000 in
theorem div_core (hi lo y s Y y1 y0 H U N d1 d0 q0 p0 r0 Q1 A B C U2 q2 p2 r2 Q2 F QQ A2 B2 C2 R2 RR : Nat) (w : World) (hh : 0 < hi) (hy : hi < y)
    (hs : ∀ w, Calls Tryd.prog 77 #[.int .u64 y] w fun e w' => e = .returned (.int .i64 s) ∧ w = w') (hs63 : s ≤ 63)
    (eY : IntKind.u64.wrap ((y : Int) * 2 ^ s) = Y) (e1 : (Y : Int) / 4294967296 = y1) (e0 : bits .and .u64 (Y : Int) 4294967295 = y0)
    (eH : IntKind.u64.wrap ((hi : Int) * 2 ^ s) = H) (eN : IntKind.u64.wrap ((lo : Int) * 2 ^ s) = N)
    (eU : bits .or .u64 (H : Int) ((lo : Int) / 2 ^ (64 - s)) = U) (eN1 : (N : Int) / 4294967296 = d1) (eN0 : bits .and .u64 (N : Int) 4294967295 = d0)
    (hyy1 : y1 < 4294967296) (hyy0 : y0 < 4294967296) (hd1 : d1 < 4294967296) (hd0 : d0 < 4294967296)
    (hy1 : 2147483648 ≤ y1) (hUY : U < y1 * 4294967296 + y0)
    (eq0 : IntKind.u64.wrap ((U : Int) / (y1 : Int)) = q0) (ep0 : IntKind.u64.wrap ((q0 : Int) * (y1 : Int)) = p0) (er0 : IntKind.u64.wrap ((U : Int) - (p0 : Int)) = r0)
    (eA : IntKind.u64.wrap ((U : Int) * 4294967296) = A) (eB : IntKind.u64.wrap ((A : Int) + (d1 : Int)) = B) (eC : IntKind.u64.wrap ((Q1 : Int) * (Y : Int)) = C) (eD : IntKind.u64.wrap ((B : Int) - (C : Int)) = U2)
    (eq2 : IntKind.u64.wrap ((U2 : Int) / (y1 : Int)) = q2) (ep2 : IntKind.u64.wrap ((q2 : Int) * (y1 : Int)) = p2) (er2 : IntKind.u64.wrap ((U2 : Int) - (p2 : Int)) = r2)
    (eF : IntKind.u64.wrap ((Q1 : Int) * 4294967296) = F) (eG : IntKind.u64.wrap ((F : Int) + (Q2 : Int)) = QQ)
    (eA2 : IntKind.u64.wrap ((U2 : Int) * 4294967296) = A2) (eB2 : IntKind.u64.wrap ((A2 : Int) + (d0 : Int)) = B2) (eC2 : IntKind.u64.wrap ((Q2 : Int) * (Y : Int)) = C2) (eD2 : IntKind.u64.wrap ((B2 : Int) - (C2 : Int)) = R2) (eE : (R2 : Int) / 2 ^ s = RR)
    (hUY2 : U2 < y1 * 4294967296 + y0) (hi2 : Hid (DivInv y1 y0 U2 d0 q2 r2)) (hr2 : r2 < 4294967296) (HQ2 : Hid ((U2 * 4294967296 + d0) / (y1 * 4294967296 + y0) = Q2))
    (hi1 : Hid (DivInv y1 y0 U d1 q0 r0)) (hr0 : r0 < 4294967296) (HQ1 : Hid ((U * 4294967296 + d1) / (y1 * 4294967296 + y0) = Q1)) :
    Calls Tryd.prog 60 #[.int .u64 hi, .int .u64 lo, .int .u64 y] w fun e w' => e = .returned (.tuple #[.int .u64 QQ, .int .u64 RR]) ∧ w = w' := by
  have h0 : ((y : Int) == 0) = false := by simp; omega
  have h1 : ((hi : Int) == 0) = false := by simp; omega
  have HS := Lib.hid hs; clear hs
  go_enter Tryd.func60, Tryd.ntmps60
  have hy1' : ¬ (y1 = 0) := by omega
  go_upto_block 0 with (go_at_call 77; refine (HS.out _).mono ?_; rintro e w1 ⟨rfl, rfl⟩)
  clear eY e1 e0 eH eN eU eN1 eN0
  go_cut [15] (fun qv wx => (qv = .int .u64 Q1) ∧ w = wx)
  case first =>
    go_wp2_with fail
    go_loop [15, 16] (fun qv rv => ∃ q r : Nat, qv = .int .u64 q ∧ rv = .int .u64 r ∧ Hid (DivInv y1 y0 U d1 q r) ∧ q ≤ 4294967297 ∧ r < 4294967296) (fun qv _ => (intOf qv).toNat)
    case atStart => exact ⟨q0, r0, rfl, rfl, hi1.out, by have := (hi1.out).le; omega, hr0⟩
    case round =>
      obtain ⟨q, r, rfl, rfl, hinv, hq9n, hr9n⟩ := hrel
      have hq9 : (q : Int) ≤ 4294967297 := by omega
      have hr9 : (r : Int) < 4294967296 := by omega
      clear hq9n hr9n
      obtain ⟨P, hP⟩ : ∃ P, P = q * y0 := ⟨_, rfl⟩
      have hPb : P < 18446744073709551616 := by
        rw [hP]
        have : q * y0 ≤ 4294967297 * y0 := Nat.mul_le_mul_right _ (by omega)
        omega
      have eP : IntKind.u64.wrap ((q : Int) * (y0 : Int)) = (P : Int) := by
        rw [hP, IntKind.wrap_u64, ← Int.natCast_mul]
        rw [hP] at hPb
        omega
      have HP := Lib.hid hP; clear hP hPb
      by_cases hB : (4294967296 : Int) ≤ (q : Int)
      · have hnext := div_true1 hinv.out hy1 hUY hd1 (by omega)
        have HN := Lib.hid hnext; clear hnext
        by_cases hb : (4294967296 : Int) ≤ (r : Int) + (y1 : Int)
        · have hend : (U * 4294967296 + d1) / (y1 * 4294967296 + y0) = q - 1 := div_end HN.out hy1 (div_break hyy0 (by omega) (by omega))
          have HE := Lib.hid hend; clear hend
          go_wp2_with fail
          go_meet
          exact ⟨by rw [← HQ1.out, HE.out]; exact congrArg _ (by omega), rfl⟩
        · go_wp2
          go_round
          case rel => exact ⟨q - 1, r + y1, by go_num, by go_num, HN.out, by omega, by omega⟩
          case measure => simp [intOf]; omega
      · by_cases hT : 4294967296 * (r : Int) + (d1 : Int) < (P : Int)
        · have hnext := div_true2 hinv.out hy1 (by rw [← HP.out]; omega)
          have hq1 : 1 ≤ q := by
            rcases Nat.eq_zero_or_pos q with h0 | h0
            · have := HP.out; rw [h0, Nat.zero_mul] at this; omega
            · exact h0
          have HN := Lib.hid hnext; clear hnext
          by_cases hb : (4294967296 : Int) ≤ (r : Int) + (y1 : Int)
          · have hend : (U * 4294967296 + d1) / (y1 * 4294967296 + y0) = q - 1 := div_end HN.out hy1 (div_break hyy0 (by omega) (by omega))
            have HE := Lib.hid hend; clear hend
            go_wp2_with fail
            go_meet
            exact ⟨by rw [← HQ1.out, HE.out]; exact congrArg _ (by omega), rfl⟩
          · go_wp2
            go_round
            case rel => exact ⟨q - 1, r + y1, by go_num, by go_num, HN.out, by omega, by omega⟩
            case measure => simp [intOf]; omega
        · have hend : (U * 4294967296 + d1) / (y1 * 4294967296 + y0) = q := div_end hinv.out hy1 (by rw [← HP.out]; omega)
          have HE := Lib.hid hend; clear hend
          go_wp2_with fail
          go_meet
          exact ⟨by rw [← HQ1.out, HE.out], rfl⟩
  case rest =>
    obtain ⟨rfl, rfl⟩ := hcut
    go_upto_block 2 with fail
    go_cut [18] (fun qv wy => (qv = .int .u64 Q2) ∧ w = wy)
    case first =>
      go_wp2_with fail
      go_loop [18, 16] (fun qv rv => ∃ q r : Nat, qv = .int .u64 q ∧ rv = .int .u64 r ∧ Hid (DivInv y1 y0 U2 d0 q r) ∧ q ≤ 4294967297 ∧ r < 4294967296) (fun qv _ => (intOf qv).toNat)
      case atStart => exact ⟨q2, r2, rfl, rfl, hi2.out, by have := (hi2.out).le; omega, hr2⟩
      case round =>
        obtain ⟨q, r, rfl, rfl, hinv, hq9n, hr9n⟩ := hrel
        have hq9 : (q : Int) ≤ 4294967297 := by omega
        have hr9 : (r : Int) < 4294967296 := by omega
        clear hq9n hr9n
        obtain ⟨P, hP⟩ : ∃ P, P = q * y0 := ⟨_, rfl⟩
        have hPb : P < 18446744073709551616 := by
          rw [hP]
          have : q * y0 ≤ 4294967297 * y0 := Nat.mul_le_mul_right _ (by omega)
          omega
        have eP : IntKind.u64.wrap ((q : Int) * (y0 : Int)) = (P : Int) := by
          rw [hP, IntKind.wrap_u64, ← Int.natCast_mul]
          rw [hP] at hPb
          omega
        have HP := Lib.hid hP; clear hP hPb
        by_cases hB : (4294967296 : Int) ≤ (q : Int)
        · have hnext := div_true1 hinv.out hy1 hUY2 hd0 (by omega)
          have HN := Lib.hid hnext; clear hnext
          by_cases hb : (4294967296 : Int) ≤ (r : Int) + (y1 : Int)
          · have hend : (U2 * 4294967296 + d0) / (y1 * 4294967296 + y0) = q - 1 := div_end HN.out hy1 (div_break hyy0 (by omega) (by omega))
            have HE := Lib.hid hend; clear hend
            go_wp2_with fail
            go_meet
            exact ⟨by rw [← HQ2.out, HE.out]; exact congrArg _ (by omega), rfl⟩
          · go_wp2
            go_round
            case rel => exact ⟨q - 1, r + y1, by go_num, by go_num, HN.out, by omega, by omega⟩
            case measure => simp [intOf]; omega
        · by_cases hT : 4294967296 * (r : Int) + (d0 : Int) < (P : Int)
          · have hnext := div_true2 hinv.out hy1 (by rw [← HP.out]; omega)
            have hq1 : 1 ≤ q := by
              rcases Nat.eq_zero_or_pos q with h0 | h0
              · have := HP.out; rw [h0, Nat.zero_mul] at this; omega
              · exact h0
            have HN := Lib.hid hnext; clear hnext
            by_cases hb : (4294967296 : Int) ≤ (r : Int) + (y1 : Int)
            · have hend : (U2 * 4294967296 + d0) / (y1 * 4294967296 + y0) = q - 1 := div_end HN.out hy1 (div_break hyy0 (by omega) (by omega))
              have HE := Lib.hid hend; clear hend
              go_wp2_with fail
              go_meet
              exact ⟨by rw [← HQ2.out, HE.out]; exact congrArg _ (by omega), rfl⟩
            · go_wp2
              go_round
              case rel => exact ⟨q - 1, r + y1, by go_num, by go_num, HN.out, by omega, by omega⟩
              case measure => simp [intOf]; omega
          · have hend : (U2 * 4294967296 + d0) / (y1 * 4294967296 + y0) = q := div_end hinv.out hy1 (by rw [← HP.out]; omega)
            have HE := Lib.hid hend; clear hend
            go_wp2_with fail
            go_meet
            exact ⟨by rw [← HQ2.out, HE.out], rfl⟩
    case rest =>
      obtain ⟨rfl, rfl⟩ := hcut
      go_wp2
      go_ret2
      exact ⟨rfl, rfl⟩
end Go.Proofs.YtbacoopopokkfaaDoor
