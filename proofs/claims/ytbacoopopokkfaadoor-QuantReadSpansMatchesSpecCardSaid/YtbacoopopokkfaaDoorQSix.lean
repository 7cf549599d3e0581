/- The contract of inSixties. -/
import Derived.Test.YtbacoopopokkfaaDoorQWord
import Derived.Test.YtbacoopopokkfaaDoorQNum
import Derived.Test.YtbacoopopokkfaaDoorQPair
namespace Go.Proofs.YtbacoopopokkfaaDoor
open Go.RowKit
set_option linter.unusedSimpArgs false
set_option linter.unusedVariables false

theorem word_is (t : ByteArray) (ht : t.size ≤ 1000000) {s : ByteArray} {k : Nat} {a b : Nat} {w : World} (hat : At w a b s k) {ok : Bool} {v : Nat} (h : wordV (rem t 0) (rem s k) = (ok, v)) :
    Calls Tryd.prog 55 #[.func (.func 73) #[] #[.pointer (some ⟨a, 0, none⟩), .pointer (some ⟨b, 0, none⟩)], .string t] w fun e w' => e = .returned (.bool ok) ∧ Moved w w' a b s (k + v) := by
  have q := word_any t ht hat
  rw [h] at q; exact q
theorem number_is (least most : Int) (hl : least = 0 ∨ least = 1) (hm9 : 9 ≤ most) (hmx : most ≤ 100000000000000) {s : ByteArray} {k : Nat} {a b : Nat} {w : World} (hat : At w a b s k) {n : Int} {ok : Bool} {u : Nat} (h : numV least most (rem s k) = ⟨n, ok, u⟩) :
    Calls Tryd.prog 54 #[.func (.func 73) #[] #[.pointer (some ⟨a, 0, none⟩), .pointer (some ⟨b, 0, none⟩)], .int .i64 least, .int .i64 most] w fun e w' => e = .returned (.tuple #[.int .i64 n, .bool ok]) ∧ Moved w w' a b s (k + u) := by
  have q := number_any least most hl hm9 hmx hat
  rw [h] at q; exact q
theorem pair_is (most : Int) (h0 : 0 ≤ most) (h99 : most ≤ 99) {s : ByteArray} {k : Nat} {a b : Nat} {w : World} (hat : At w a b s k) {n : Int} {ok : Bool} {u : Nat} (h : pairV most (rem s k) = ⟨n, ok, u⟩) :
    Calls Tryd.prog 66 #[.func (.func 73) #[] #[.pointer (some ⟨a, 0, none⟩), .pointer (some ⟨b, 0, none⟩)], .int .i64 most] w fun e w' => e = .returned (.tuple #[.int .i64 n, .bool ok]) ∧ Moved w w' a b s (k + u) := by
  have q := pair_any most h0 h99 hat
  rw [h] at q; exact q

set_option maxHeartbeats 800000 in
theorem inSixties_any (least most pairs : Int) (hl : least = 0 ∨ least = 1) (hm9 : 9 ≤ most) (hmx : most ≤ 9999) (hp0 : 0 ≤ pairs) (hp2 : pairs ≤ 2) {s : ByteArray} {k : Nat} {a b : Nat} {w : World} (hat : At w a b s k) :
    Calls Tryd.prog 41 #[.func (.func 73) #[] #[.pointer (some ⟨a, 0, none⟩), .pointer (some ⟨b, 0, none⟩)], .int .i64 least, .int .i64 most, .int .i64 pairs] w fun e w' => e = .returned (.tuple #[.int .i64 (inSixtiesV least most pairs.toNat (rem s k)).val, .bool (inSixtiesV least most pairs.toNat (rem s k)).ok]) ∧ Moved w w' a b s (k + (inSixtiesV least most pairs.toNat (rem s k)).used) := by
  obtain ⟨P, rfl⟩ : ∃ P : Nat, (P : Int) = pairs := ⟨pairs.toNat, by omega⟩
  rw [Int.toNat_natCast]
  have hbd := numV_bd least most (rem s k) (by omega) hm9
  rcases hn : numV least most (rem s k) with ⟨n0, ok0, u0⟩
  rw [hn] at hbd
  simp only at hbd
  have hv : inSixtiesV least most P (rem s k) = sixtyV P ok0 (rem s (k + u0)) n0 u0 := by unfold inSixtiesV; rw [hn]; simp only [rem_drop]
  have HN := Lib.hid hn; clear hn
  have HV := Lib.hid hv; clear hv
  have HL := Lib.hid hl; clear hl
  go_enter Tryd.func41, Tryd.ntmps41
  go_wp2_with (go_at_call 54; refine (number_is _ _ HL.out hm9 (by omega) hat HN.out).mono ?_; rintro e w1 ⟨rfl, hm1⟩)
  go_loopw [8, 9, 19] (fun n ok i wr => ∃ (j : Nat) (m : Int) (o : Bool) (u : Nat), j ≤ P ∧ n = .int .i64 m ∧ ok = .bool o ∧ i = .int .i64 j ∧ 0 ≤ m ∧ Hid (m ≤ if j = 0 then 9999 else if j = 1 then 999999 else 99999999) ∧ Moved w wr a b s (k + u) ∧ Hid (inSixtiesV least most P (rem s k) = sixtyV (P - j) o (rem s (k + u)) m u))
    (fun _ _ i _ => P - (intOf i).toNat)
  case atStart => exact ⟨0, n0, ok0, u0, Nat.zero_le _, rfl, rfl, rfl, hbd.1, (by show _ ≤ _; rw [if_pos rfl]; omega), hm1, HV.out⟩
  case round =>
    obtain ⟨j, m, o, u, hj, rfl, rfl, rfl, hm0, hmb, hm, hw⟩ := hrel
    by_cases hlt : j < P
    · obtain ⟨q, hq⟩ : ∃ q, P - j = q + 1 := ⟨P - j - 1, by omega⟩
      have hmb1 : m ≤ 999999 := by have := hmb.out; split at this <;> (try split at this) <;> omega
      cases o with
      | false =>
        have HQ := Lib.hid hq; clear hq
        go_wp2
        go_ret2
        refine ⟨ret_ib (by rw [hw.out, HQ.out]; rfl) (by rw [hw.out, HQ.out]; rfl), ?_⟩
        rw [hw.out, HQ.out]; exact hm
      | true =>
        rcases hx : wordV [58] (rem s (k + u)) with ⟨o1, v⟩
        cases o1 with
        | false =>
          have hs : sixtyV (q + 1) true (rem s (k + u)) m u = ⟨0, false, u + v⟩ := by simp [sixtyV, hx]
          have HQ := Lib.hid hq; clear hq
          have HX := Lib.hid hx; clear hx
          have HS := Lib.hid hs; clear hs
          go_wp2_with (go_at_call 55; refine (word_is _ (by decide) hm.pos (by exact HX.out)).mono ?_; rintro e w2 ⟨rfl, hm2⟩)
          go_ret2
          refine ⟨ret_ib (by rw [hw.out, HQ.out, HS.out]) (by rw [hw.out, HQ.out, HS.out]), ?_⟩
          rw [hw.out, HQ.out, HS.out]; exact (hm.trans hm2).eq (by simp only; omega)
        | true =>
          rcases hy : pairV 59 (rem s (k + u + v)) with ⟨m1, o2, x⟩
          have hb1 := pairV_bd 59 (rem s (k + u + v)) (by omega) (by omega)
          rw [hy] at hb1
          simp only at hb1
          have hs : sixtyV (q + 1) true (rem s (k + u)) m u = sixtyV q o2 (rem s (k + (u + v + x))) (60 * m + m1) (u + v + x) := by
            simp only [sixtyV, hx, rem_drop, hy, if_true]; simp only [Nat.add_assoc]
          have HQ := Lib.hid hq; clear hq
          have HX := Lib.hid hx; clear hx
          have HY := Lib.hid hy; clear hy
          have HS := Lib.hid hs; clear hs
          go_wp2_with (first | (go_at_call 55; refine (word_is _ (by decide) hm.pos (by exact HX.out)).mono ?_; rintro e w2 ⟨rfl, hm2⟩) | (go_at_call 66; refine (pair_is _ (by omega) (by omega) (by assumption : Moved _ _ _ _ _ (k + u + v)).pos HY.out).mono ?_; rintro e w3 ⟨rfl, hm3⟩))
          go_roundw
          case rel =>
            refine ⟨j + 1, 60 * m + m1, o2, u + v + x, by omega, rfl, rfl, by go_num, by omega, ?_, ?_, ?_⟩
            · show _ ≤ _
              have := hmb.out
              rcases (show j = 0 ∨ j = 1 by omega) with rfl | rfl <;> simp at this ⊢ <;> omega
            · exact ((hm.trans (by assumption)).trans (by assumption)).eq (by omega)
            · show _ = _
              rw [hw.out, HQ.out, HS.out, show P - (j + 1) = q by have := HQ.out; omega]
          case measure => simp [intOf]; omega
    · have hz : P - j = 0 := by omega
      have HZ := Lib.hid hz; clear hz
      go_wp2
      go_ret2
      refine ⟨ret_ib (by rw [hw.out, HZ.out]; rfl) (by rw [hw.out, HZ.out]; rfl), ?_⟩
      rw [hw.out, HZ.out]; exact hm
end Go.Proofs.YtbacoopopokkfaaDoor
