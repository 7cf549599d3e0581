/- The contracts of the checks of a stream, of both sides. -/
import Derived.Test.YtfeefijaahjheaaEInts
namespace Go.Proofs.Ytfeefijaahjheaa
open Go.RowKit
set_option linter.unusedSimpArgs false
set_option linter.unusedVariables false

theorem ewithin_yes (n lo hi : Int) (h : lo ≤ n ∧ n ≤ hi) (w : World) : Calls Try.prog 51 #[.int .i64 n, .int .i64 lo, .int .i64 hi] w fun e w' => e = .returned (.bool true) ∧ w = w' := by
  obtain ⟨h0, h1⟩ := h
  go_enter Try.func51, Try.ntmps51
  go_wp2
  go_ret
  exact ⟨ret_bool (by first | rfl | (simp; omega)), rfl⟩
theorem ewithin_no (n lo hi : Int) (h : ¬ (lo ≤ n ∧ n ≤ hi)) (w : World) : Calls Try.prog 51 #[.int .i64 n, .int .i64 lo, .int .i64 hi] w fun e w' => e = .returned (.bool false) ∧ w = w' := by
  by_cases h0 : lo ≤ n
  · have h1 : ¬ n ≤ hi := fun h1 => h ⟨h0, h1⟩
    clear h
    go_enter Try.func51, Try.ntmps51
    go_wp2
    go_ret
    exact ⟨ret_bool (by first | rfl | (simp; omega)), rfl⟩
  · clear h
    go_enter Try.func51, Try.ntmps51
    go_wp2
    go_ret
    exact ⟨ret_bool (by first | rfl | (simp; omega)), rfl⟩

set_option maxHeartbeats 800000 in
theorem checkEach_any (ao : Option Addr) (cap : Nat) (l : List Int) (lo hi : Int) (hl : (l.length : Int) ≤ 1000000) (w : World) (hs : IntsAt w ao l) {E : Int} (hE : Hid (eachE lo hi l = E)) :
    Calls Try.prog 54 #[.slice ao l.length cap, .int .i64 lo, .int .i64 hi] w fun e w' => e = .returned (.int .i64 E) ∧ w = w' := by
  have HS := Lib.hid hs; clear hs
  go_enter Try.func54, Try.ntmps54
  go_wp2
  go_loopw [11] (fun iv wr => ∃ k : Nat, k ≤ l.length ∧ iv = .int .i64 k ∧ w = wr ∧ Hid (eachE lo hi (l.drop k) = E))
    (fun iv _ => l.length - (intOf iv).toNat)
  case atStart => exact ⟨0, Nat.zero_le _, rfl, by first | rfl | trivial, hE.out⟩
  case round =>
    obtain ⟨k, hk, rfl, rfl, hw⟩ := hrel
    by_cases hlt : k < l.length
    · obtain ⟨b, off, rfl, hc⟩ := HS.out.at (by omega)
      have c0 := hc k hlt
      have HW : Hid (_ = E) := Lib.hid ((eachE_at (lo := lo) (hi := hi) hlt).symm.trans hw.out)
      clear hw hc
      generalize nthI l k = x at *
      by_cases a1 : lo ≤ x ∧ x ≤ hi
      · have HE : Hid (eachE lo hi (l.drop (k + 1)) = E) := by show _ = _; rw [← HW.out, if_pos a1]
        have H1 := Lib.hid a1
        clear HW a1
        go_wp2_with (go_at_call 51; refine (ewithin_yes _ _ _ H1.out _).mono ?_; rintro e w1 ⟨rfl, rfl⟩)
        go_roundw
        case rel => exact ⟨k + 1, by omega, by go_num, by first | rfl | trivial, HE⟩
        case measure => simp [intOf]; omega
      · have HE : Hid (E = 9) := by show _ = _; rw [← HW.out, if_neg a1]
        have H1 := Lib.hid a1
        clear HW a1
        go_wp2_with (go_at_call 51; refine (ewithin_no _ _ _ H1.out _).mono ?_; rintro e w1 ⟨rfl, rfl⟩)
        go_ret
        exact ⟨ret_int HE.out.symm, rfl⟩
    · have HE : Hid (E = 0) := by show _ = _; rw [← hw.out]; exact eachE_end (by omega)
      go_wp2
      go_ret
      exact ⟨ret_int HE.out.symm, rfl⟩

theorem checkStream_any (ao : Option Addr) (cap : Nat) (l : List Int) (hl : (l.length : Int) ≤ 9223372036854775807) (w : World) (hs : IntsAt w ao l) {E : Int} (hE : Hid (streamE l = E)) :
    Calls Try.prog 13 #[.slice ao l.length cap] w fun e w' => e = .returned (.int .i64 E) ∧ w = w' := by
  by_cases h : (l.length : Int) ≤ 1000000
  · have HE : Hid (eachE (-1) 1000000000 l = E) := by show _ = _; rw [← hE.out]; unfold streamE; rw [if_pos h]
    go_enter Try.func13, Try.ntmps13
    go_wp2_with (go_at_call 54; refine (checkEach_any _ _ _ _ _ h _ hs HE).mono ?_; rintro e w1 ⟨rfl, rfl⟩)
    go_ret
    exact ⟨rfl, rfl⟩
  · have HE : Hid (E = 3) := by show _ = _; rw [← hE.out]; unfold streamE; rw [if_neg h]
    go_enter Try.func13, Try.ntmps13
    go_wp2
    go_ret
    exact ⟨ret_int HE.out.symm, rfl⟩

set_option maxHeartbeats 800000 in
theorem rcheckStream_any (ao : Option Addr) (cap : Nat) (l : List Int) (hl : (l.length : Int) ≤ 9223372036854775807) (w : World) (hs : IntsAt w ao l) {E : Int} (hE : Hid (streamE l = E)) :
    Calls Try.prog 14 #[.slice ao l.length cap] w fun e w' => e = .returned (.int .i64 E) ∧ w = w' := by
  have HS := Lib.hid hs; clear hs
  by_cases h : (l.length : Int) ≤ 1000000
  · have HE : Hid (eachE (-1) 1000000000 l = E) := by show _ = _; rw [← hE.out]; unfold streamE; rw [if_pos h]
    clear hE
    go_enter Try.func14, Try.ntmps14
    go_wp2
    go_loopw [10] (fun iv wr => ∃ k : Nat, k ≤ l.length ∧ iv = .int .i64 k ∧ w = wr ∧ Hid (eachE (-1) 1000000000 (l.drop k) = E))
      (fun iv _ => l.length - (intOf iv).toNat)
    case atStart => exact ⟨0, Nat.zero_le _, rfl, rfl, HE.out⟩
    case round =>
      obtain ⟨k, hk, rfl, rfl, hw⟩ := hrel
      by_cases hlt : k < l.length
      · obtain ⟨b, off, rfl, hc⟩ := HS.out.at (by omega)
        have c0 := hc k hlt
        have HW : Hid (_ = E) := Lib.hid ((eachE_at (lo := -1) (hi := 1000000000) hlt).symm.trans hw.out)
        clear hw hc
        generalize nthI l k = x at *
        by_cases a1 : x < -1
        · have H2 : Hid (E = 9) := by show _ = _; rw [← HW.out, if_neg (by omega)]
          clear HW
          go_wp2
          go_ret
          exact ⟨ret_int H2.out.symm, rfl⟩
        · by_cases a2 : 1000000000 < x
          · have H2 : Hid (E = 9) := by show _ = _; rw [← HW.out, if_neg (by omega)]
            clear HW
            go_wp2
            go_ret
            exact ⟨ret_int H2.out.symm, rfl⟩
          · have H2 : Hid (eachE (-1) 1000000000 (l.drop (k + 1)) = E) := by show _ = _; rw [← HW.out, if_pos (by omega)]
            clear HW
            go_wp2
            go_roundw
            case rel => exact ⟨k + 1, by omega, by go_num, by first | rfl | trivial, H2⟩
            case measure => simp [intOf]; omega
      · have H2 : Hid (E = 0) := by show _ = _; rw [← hw.out]; exact eachE_end (by omega)
        go_wp2
        go_ret
        exact ⟨ret_int H2.out.symm, rfl⟩
  · have HE : Hid (E = 3) := by show _ = _; rw [← hE.out]; unfold streamE; rw [if_neg h]
    go_enter Try.func14, Try.ntmps14
    go_wp2
    go_ret
    exact ⟨ret_int HE.out.symm, rfl⟩


theorem einfo_int : (Try.prog.info? 3).map (fun i => (i.zero, i.size, i.bytes)) = some (some (.int .i64 0), 1, 8) := by kernel_rfl
theorem egrown_set {w w1 : World} (h : w.grownBy w1 none) {b : Nat} (hb : w.heap.size ≤ b) (i : Nat) (v : Value) : w.grownBy (w1.setCell ⟨b, i, none⟩ v) none :=
  ⟨h.os, h.tape, h.output, by have := h.size; simp [World.setCell]; omega, fun k hk _ => by
    rw [Below.heap_setCell _ _ _ _ (by show k ≠ b; omega)]; exact h.block k hk (by simp)⟩


end Go.Proofs.Ytfeefijaahjheaa
