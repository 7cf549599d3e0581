/- The contracts of IndexFunc and ContainsFunc over numbers. -/
import Derived.Test.YtdihmcbjoociiaaFBalP
import Derived.Shelf.Abstract
namespace Go.Proofs.Ytdihmcbjoociiaa
open Go.RowKit

set_option maxHeartbeats 1600000 in
theorem idx_is (ao : Option Addr) (cap : Nat) (l : List Int) (hl : (l.length : Int) ≤ 1000000) (g : Nat) (cb : Array Value) (p : Int → Bool) (k0 : Nat) (w : World) (hs : IntsAt w ao l) (eg : ∀ args w, (callFunc g args).run Try.prog w = .ok (.enter g args) w)
    (hf : Hid (∀ (x : Int), Calls Try.prog g (#[.int .i64 x] ++ cb) w fun e w' => e = .returned (.bool (p x)) ∧ w = w')) (hk : Hid (FirstAt p l k0)) :
    Calls Try.prog 101 #[.slice ao l.length cap, .func (.func g) #[] cb] w fun e w' => e = .returned (.int .i64 (idxV l k0)) ∧ w = w' := by
  have HS := Lib.hid hs
  clear hs
  go_enter Try.func101, Try.ntmps101
  go_wp2
  go_loopw [8] (fun iv wr => ∃ k : Nat, k ≤ k0 ∧ iv = .int .i64 k ∧ w = wr)
    (fun iv _ => l.length - (intOf iv).toNat)
  case atStart => exact ⟨0, Nat.zero_le _, rfl, by first | rfl | trivial⟩
  case round =>
    obtain ⟨k, hk2, rfl, rfl⟩ := hrel
    have hle := hk.out.le
    by_cases hlt : k < l.length
    · obtain ⟨b, off, rfl, hc⟩ := HS.out.at (by omega)
      have c0 := hc k hlt
      have hcall := hf.out (nthI l k)
      by_cases he : k = k0
      · have hp : p (nthI l k) = true := by rw [he]; exact hk.out.yes (by omega)
        have HV : Hid (idxV l k0 = (k : Int)) := by show _ = _; unfold idxV; rw [if_pos (by omega), he]
        rw [hp] at hcall
        have HC := Lib.hid hcall
        clear hc hcall hp he
        generalize nthI l k = x at *
        go_wp2_with (go_at_fn g; refine HC.out.mono ?_; rintro e w1 ⟨rfl, rfl⟩)
        go_ret
        exact ⟨ret_int HV.out.symm, rfl⟩
      · have hp : p (nthI l k) = false := hk.out.no k (by omega)
        have hk3 : k + 1 ≤ k0 := by omega
        rw [hp] at hcall
        have HC := Lib.hid hcall
        clear hc hcall hp he
        generalize nthI l k = x at *
        go_wp2_with (go_at_fn g; refine HC.out.mono ?_; rintro e w1 ⟨rfl, rfl⟩)
        go_roundw
        case rel => exact ⟨k + 1, hk3, by go_num, by first | rfl | trivial⟩
        case measure => simp [intOf]; omega
    · have HV : Hid (idxV l k0 = -1) := by show _ = _; unfold idxV; rw [if_neg (by omega)]
      go_wp2
      go_ret
      exact ⟨ret_int HV.out.symm, rfl⟩

theorem contains_is (ao : Option Addr) (cap : Nat) (l : List Int) (hl : (l.length : Int) ≤ 1000000) (g : Nat) (cb : Array Value) (p : Int → Bool) (k0 : Nat) (w : World) (hs : IntsAt w ao l) (eg : ∀ args w, (callFunc g args).run Try.prog w = .ok (.enter g args) w)
    (hf : Hid (∀ (x : Int), Calls Try.prog g (#[.int .i64 x] ++ cb) w fun e w' => e = .returned (.bool (p x)) ∧ w = w')) (hk : Hid (FirstAt p l k0)) {b : Bool} (hb : Hid (decide (k0 < l.length) = b)) :
    Calls Try.prog 43 #[.slice ao l.length cap, .func (.func g) #[] cb] w fun e w' => e = .returned (.bool b) ∧ w = w' := by
  have HB : Hid (decide (0 ≤ idxV l k0) = b) := by
    show _ = _
    rw [← hb.out]
    unfold idxV
    by_cases h : k0 < l.length
    · rw [if_pos h]; simp [h]
    · rw [if_neg h]; simp [h]
  have HC : Hid (Calls Try.prog 101 #[.slice ao l.length cap, .func (.func g) #[] cb] w fun e w' => e = .returned (.int .i64 (idxV l k0)) ∧ w = w') := idx_is ao cap l hl g cb p k0 w hs eg hf hk
  clear hs hf hk hb
  generalize idxV l k0 = v at *
  go_enter Try.func43, Try.ntmps43
  go_wp2_with (go_at_call 101; refine HC.out.mono ?_; rintro e w1 ⟨rfl, rfl⟩)
  go_ret
  exact ⟨ret_bool HB.out, rfl⟩

theorem above_is (x : Int) (w : World) : Calls Try.prog 99 (#[.int .i64 x] ++ #[]) w fun e w' => e = .returned (.bool (decide (10000 < x))) ∧ w = w' := by
  go_enter Try.func99, Try.ntmps99
  go_wp2
  go_ret
  exact ⟨rfl, rfl⟩
theorem below_is (x : Int) (w : World) : Calls Try.prog 102 (#[.int .i64 x] ++ #[]) w fun e w' => e = .returned (.bool (decide (x < 0))) ∧ w = w' := by
  go_enter Try.func102, Try.ntmps102
  go_wp2
  go_ret
  exact ⟨rfl, rfl⟩

end Go.Proofs.Ytdihmcbjoociiaa
