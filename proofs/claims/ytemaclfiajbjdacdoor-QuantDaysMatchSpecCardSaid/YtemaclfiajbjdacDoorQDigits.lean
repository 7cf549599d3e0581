/- The contracts of digits, and of the form of a date. -/
import Derived.Test.YtemaclfiajbjdacDoorQTok
import Derived.Test.YtemaclfiajbjdacDoorQSix
import Derived.BigRegion
namespace Go.Proofs.YtemaclfiajbjdacDoor
open Go.RowKit

set_option maxHeartbeats 800000 in
theorem digits_any (M : Nat) (hM : M ≤ 6) {s : ByteArray} {k : Nat} {a b : Nat} {w : World} (hat : At w a b s k) {n : Int} {u : Nat} (h : Hid (digitsV M (rem s k) 0 = (n, u))) :
    Calls Tryd.prog 69 #[.func (.func 82) #[] #[.pointer (some ⟨a, 0, none⟩), .pointer (some ⟨b, 0, none⟩)], .int .i64 (M : Int)] w fun e w' => e = .returned (.tuple #[.int .i64 n, .int .i64 (u : Int)]) ∧ Moved w w' a b s (k + u) := by
  go_enter Tryd.func69, Tryd.ntmps69
  go_wp2
  go_loopw [4, 5] (fun nv mv wr => ∃ (j : Nat) (v : Int), j ≤ M ∧ nv = .int .i64 v ∧ mv = .int .i64 (j : Int) ∧ 0 ≤ v ∧ Hid (v ≤ if j = 0 then 0 else if j = 1 then 9 else if j = 2 then 99 else if j = 3 then 999 else if j = 4 then 9999 else if j = 5 then 99999 else 999999) ∧ Moved w wr a b s (k + j) ∧ Hid (digitsV M (rem s k) 0 = ((digitsV (M - j) (rem s (k + j)) v).1, (digitsV (M - j) (rem s (k + j)) v).2 + j)))
    (fun _ mv _ => M - (intOf mv).toNat)
  case atStart => exact ⟨0, 0, Nat.zero_le _, rfl, rfl, by omega, by show _ ≤ _; simp, hat.refl, rfl⟩
  case round =>
    obtain ⟨j, v, hj, rfl, rfl, hv0, hvb, hm, hw⟩ := hrel
    by_cases hlt : j < M
    · obtain ⟨q, hq⟩ : ∃ q, M - j = q + 1 := ⟨M - j - 1, by omega⟩
      have hv1 : v ≤ 99999 := by
        have := hvb.out
        rcases (show j = 0 ∨ j = 1 ∨ j = 2 ∨ j = 3 ∨ j = 4 ∨ j = 5 by omega) with rfl | rfl | rfl | rfl | rfl | rfl <;> simp at this <;> omega
      rcases hx : tkV 48 57 (rem s (k + j)) with _ | c
      · have hn := digitsV_no (m := q) (n := v) hx
        have HX := Lib.hid hx; have HN := Lib.hid hn; have HQ := Lib.hid hq; clear hx hn hq
        go_wp2_with (go_at_call 82; refine (take_none (k := k + j) (by exact hm.pos) _ _ (by exact HX.out)).mono ?_; rintro e w1 ⟨rfl, rfl⟩)
        go_ret2
        have e := hw.out
        rw [HQ.out, HN.out, h.out] at e
        simp only [Prod.mk.injEq] at e
        exact ⟨ret_ii e.1.symm (by omega), hm.eq (by omega)⟩
      · have hn := digitsV_yes (m := q) (n := v) hx
        rw [rem_tail] at hn
        have hb := tkV_bd hx
        have hb1 : 48 ≤ (c : Int) := by omega
        have hb2 : (c : Int) ≤ 57 := by omega
        have HX := Lib.hid hx; have HN := Lib.hid hn; have HQ := Lib.hid hq; clear hx hn hb hq
        go_wp2_with (go_at_call 82; refine (take_some (k := k + j) (by exact hm.pos) _ _ (by exact HX.out)).mono ?_; rintro e w1 ⟨rfl, hm1⟩)
        go_roundw
        case rel =>
          refine ⟨j + 1, 10 * v + ((c : Int) - 48), by omega, by go_num, by go_num, by omega, ?_, hm.trans hm1, ?_⟩
          · show _ ≤ _
            have := hvb.out
            rcases (show j = 0 ∨ j = 1 ∨ j = 2 ∨ j = 3 ∨ j = 4 ∨ j = 5 by omega) with rfl | rfl | rfl | rfl | rfl | rfl <;> simp at this ⊢ <;> omega
          · show _ = _
            rw [hw.out, HQ.out, HN.out, show M - (j + 1) = q by have := HQ.out; omega]
            exact Prod.ext rfl (Nat.add_right_comm _ 1 j)
        case measure => simp [intOf]; omega
    · have hjM : j = M := by omega
      subst hjM
      have e := hw.out
      rw [Nat.sub_self] at e
      have e0 : digitsV 0 (rem s (k + j)) v = (v, 0) := by cases rem s (k + j) <;> rfl
      rw [e0, h.out] at e
      simp only [Prod.mk.injEq] at e
      have HE := Lib.hid e; clear e e0
      go_wp2
      go_ret2
      exact ⟨ret_ii HE.out.1.symm (by have := HE.out.2; omega), hm.eq (by have := HE.out.2; omega)⟩
end Go.Proofs.YtemaclfiajbjdacDoor
