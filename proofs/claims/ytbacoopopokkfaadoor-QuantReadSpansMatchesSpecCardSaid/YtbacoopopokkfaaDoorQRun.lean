/- The contract of a token's run: two digits, and words. -/
import Derived.Test.YtbacoopopokkfaaDoorQTok
import Derived.Test.YtbacoopopokkfaaDoorQSix
import Derived.BigRegion
namespace Go.Proofs.YtbacoopopokkfaaDoor
open Go.RowKit
set_option linter.unusedSimpArgs false
set_option linter.unusedVariables false

theorem isDigit_any (c : Nat) (w : World) {b : Bool} (h : Hid (isDig c = b)) : Calls Tryd.prog 56 #[.int .u8 (c : Int)] w fun e w' => e = .returned (.bool b) ∧ w' = w := by
  have h' := h.out
  unfold isDig at h'
  by_cases h1 : 48 ≤ (c : Int)
  · by_cases h2 : (c : Int) ≤ 57
    · have e : b = true := by rw [← h']; simp; omega
      go_enter Tryd.func56, Tryd.ntmps56
      go_wp2
      go_ret
      exact ⟨ret_bool (by first | rfl | exact e.symm), rfl⟩
    · have e : b = false := by rw [← h']; simp; omega
      go_enter Tryd.func56, Tryd.ntmps56
      go_wp2
      go_ret
      exact ⟨ret_bool (by first | rfl | exact e.symm), rfl⟩
  · have e : b = false := by rw [← h']; simp; omega
    go_enter Tryd.func56, Tryd.ntmps56
    go_wp2
    go_ret
    exact ⟨ret_bool (by first | rfl | exact e.symm), rfl⟩

theorem ret_iib {k k' : IntKind} {a b c d : Int} {e f : Bool} (h : a = b) (h' : c = d) (h'' : e = f) : Ending.returned (.tuple #[.int k a, .int k' c, .bool e]) = .returned (.tuple #[.int k b, .int k' d, .bool f]) := by rw [h, h', h'']

/-- Two digits, told by the bytes. -/
theorem pair_nil (h : Int) : pairV h [] = ⟨0, false, 0⟩ := rfl
theorem pair_no1 {h : Int} {c : Nat} {r : List Nat} (hd : ¬ (48 ≤ (c : Int) ∧ (c : Int) ≤ 48 + h / 10)) : pairV h (c :: r) = ⟨0, false, 0⟩ := by
  simp only [pairV, tkV]; rw [if_neg hd]
theorem pair_end {h : Int} {c : Nat} (hd : 48 ≤ (c : Int) ∧ (c : Int) ≤ 48 + h / 10) : pairV h [c] = ⟨0, false, 1⟩ := by
  simp only [pairV, tkV]; rw [if_pos hd]; rfl
theorem pair_no2 {h : Int} {c d : Nat} {r : List Nat} (_ : 0 ≤ h) (hd : 48 ≤ (c : Int) ∧ (c : Int) ≤ 48 + h / 10) (h2 : ¬ (48 ≤ (d : Int) ∧ (d : Int) ≤ 57 ∧ 10 * ((c : Int) - 48) + ((d : Int) - 48) ≤ h)) : pairV h (c :: d :: r) = ⟨0, false, 1⟩ := by
  simp only [pairV, tkV]; rw [if_pos hd]
  simp only [List.tail_cons]
  rw [if_neg]
  split <;> omega
theorem pair_yes {h : Int} {c d : Nat} {r : List Nat} (_ : 0 ≤ h) (hd : 48 ≤ (c : Int) ∧ (c : Int) ≤ 48 + h / 10) (h2 : 48 ≤ (d : Int) ∧ (d : Int) ≤ 57 ∧ 10 * ((c : Int) - 48) + ((d : Int) - 48) ≤ h) : pairV h (c :: d :: r) = ⟨10 * ((c : Int) - 48) + ((d : Int) - 48), true, 2⟩ := by
  simp only [pairV, tkV]; rw [if_pos hd]
  simp only [List.tail_cons]
  rw [if_pos]
  split <;> omega

set_option maxRecDepth 100000 in
set_option maxHeartbeats 3200000 in
theorem runTwo_any (h : Int) (h0 : 0 ≤ h) (h9 : h ≤ 99) (s : ByteArray) (hs : s.size ≤ 1000) (k : Nat) (hk : k ≤ s.size) (w : World) {v : Int} {ok : Bool} {u : Nat} (hp : Hid (pairV h (rem s k) = ⟨v, ok, u⟩)) :
    Calls Tryd.prog 35 #[.agg #[.int .i64 3, .string ⟨#[]⟩, .int .i64 0, .int .i64 h, .int .i64 0], .string s, .int .i64 (k : Int)] w fun e w' => e = .returned (.tuple #[.int .i64 ((k + u : Nat) : Int), .int .i64 v, .bool ok]) ∧ w.grownBy w' none := by
  have hcell : ∀ q, ((w.alloc (.cells #[.int .i64 3, .string ⟨#[]⟩, .int .i64 0, .int .i64 h, .int .i64 0] 57)).drewN q).cell? ⟨w.heap.size, 3, none⟩ = some (.int .i64 h) := fun q => by simp
  have hgr : ∀ q, w.grownBy ((w.alloc (.cells #[.int .i64 3, .string ⟨#[]⟩, .int .i64 0, .int .i64 h, .int .i64 0] 57)).drewN q) none := fun q => grown_trans (World.grownBy_alloc _ _ _) (grown_drewN _ _ _)
  have HGR := Lib.hid hgr; clear hgr
  by_cases hend : k = s.size
  · have hv : pairV h (rem s k) = ⟨0, false, 0⟩ := by rw [rem_nil (by omega)]; rfl
    rw [hp.out] at hv
    simp only [Got.mk.injEq] at hv
    obtain ⟨rfl, rfl, rfl⟩ := hv
    have hq : ((k : Int) == (s.size : Int)) = true := by simp [hend]
    clear hend
    go_enter Tryd.func35, Tryd.ntmps35
    go_wp2_with fail
    go_quiet (fail)
    go_wp2_with fail
    go_ret3
    exact ⟨rfl, HGR.out _⟩
  · have hlt : k < s.size := by omega
    have hq : ((k : Int) == (s.size : Int)) = false := by simp; omega
    have hkl : (k : Int) < (s.size : Int) := by omega
    have hr := rem_cons hlt
    obtain ⟨c, hc⟩ : ∃ c, s[k].toNat = c := ⟨_, rfl⟩
    rw [hc] at hr
    have hc8 : c < 256 := by rw [← hc]; exact UInt8.toNat_lt _
    clear hend
    rcases hdg : isDig c with _ | _
    · have hv : pairV h (rem s k) = ⟨0, false, 0⟩ := by
        rw [hr]; refine pair_no1 ?_
        simp only [isDig, Bool.and_eq_false_iff, decide_eq_false_iff_not] at hdg
        omega
      rw [hp.out] at hv
      simp only [Got.mk.injEq] at hv
      obtain ⟨rfl, rfl, rfl⟩ := hv
      have HD := Lib.hid hdg; clear hdg hr
      go_enter Tryd.func35, Tryd.ntmps35
      go_wp2_with fail

      go_quiet (exact Calls.quiet_of_same (isDigit_any c _ HD))
      go_wp2_with fail
      go_ret3
      exact ⟨rfl, HGR.out _⟩
    · have hdb : 48 ≤ (c : Int) ∧ (c : Int) ≤ 57 := by simp only [isDig, Bool.and_eq_true, decide_eq_true_eq] at hdg; omega
      have HD := Lib.hid hdg; clear hdg
      by_cases hbig : h / 10 < (c : Int) - 48
      · have hv : pairV h (rem s k) = ⟨0, false, 0⟩ := by rw [hr]; exact pair_no1 (by omega)
        rw [hp.out] at hv
        simp only [Got.mk.injEq] at hv
        obtain ⟨rfl, rfl, rfl⟩ := hv
        have hb1 : decide (h / 10 < (c : Int) - 48) = true := by simpa using hbig
        clear hr
        go_enter Tryd.func35, Tryd.ntmps35
        go_wp2_with fail
        go_quiet (exact Calls.quiet_of_same (isDigit_any c _ HD))
        go_wp2_with fail
        go_ret3
        exact ⟨rfl, HGR.out _⟩
      · have hok1 : 48 ≤ (c : Int) ∧ (c : Int) ≤ 48 + h / 10 := by omega
        have hb1 : decide (h / 10 < (c : Int) - 48) = false := by simpa using hbig
        have hb2 : (c : Int) - 48 ≤ h / 10 := by omega
        clear hbig
        by_cases hend : k + 1 = s.size
        · have hv : pairV h (rem s k) = ⟨0, false, 1⟩ := by rw [hr, rem_nil (by omega)]; exact pair_end hok1
          rw [hp.out] at hv
          simp only [Got.mk.injEq] at hv
          obtain ⟨rfl, rfl, rfl⟩ := hv
          have hq2 : ((k : Int) + 1 == (s.size : Int)) = true := by simp; omega
          clear hr hend
          go_enter Tryd.func35, Tryd.ntmps35
          go_wp2_with fail
          go_quiet (exact Calls.quiet_of_same (isDigit_any c _ HD))
          go_wp2_with fail
          go_quiet (fail)
          go_wp2_with fail
          go_ret3
          exact ⟨ret_iib (by omega) rfl rfl, HGR.out _⟩
        · have hlt2 : k + 1 < s.size := by omega
          have hq2 : ((k : Int) + 1 == (s.size : Int)) = false := by simp; omega
          have hkl2 : (k : Int) + 1 < (s.size : Int) := by omega
          have hr2 := rem_cons hlt2
          have ra : IntKind.i64.wrap ((k : Int) + 1) = (k : Int) + 1 := by rw [IntKind.wrap_i64]; omega
          have k10 : (0 : Int) ≤ (k : Int) + 1 := by omega
          obtain ⟨d, hd⟩ : ∃ d, s[k + 1].toNat = d := ⟨_, rfl⟩
          rw [hd] at hr2
          have hd8 : d < 256 := by rw [← hd]; exact UInt8.toNat_lt _
          clear hend
          rcases hdg2 : isDig d with _ | _
          · have hv : pairV h (rem s k) = ⟨0, false, 1⟩ := by
              rw [hr, hr2]; refine pair_no2 h0 hok1 ?_
              simp only [isDig, Bool.and_eq_false_iff, decide_eq_false_iff_not] at hdg2
              omega
            rw [hp.out] at hv
            simp only [Got.mk.injEq] at hv
            obtain ⟨rfl, rfl, rfl⟩ := hv
            have HD2 := Lib.hid hdg2; clear hdg2 hr hr2
            go_enter Tryd.func35, Tryd.ntmps35
            go_wp2_with fail
            go_quiet (exact Calls.quiet_of_same (isDigit_any c _ HD))
            go_wp2_with fail
            go_quiet (exact (isDigit_any d _ HD2).mono fun _ _ z => ⟨z.1, _, z.2⟩)
            go_wp2_with fail
            go_ret3
            exact ⟨ret_iib (by omega) rfl rfl, HGR.out _⟩
          · have hdb2 : 48 ≤ (d : Int) ∧ (d : Int) ≤ 57 := by simp only [isDig, Bool.and_eq_true, decide_eq_true_eq] at hdg2; omega
            have HD2 := Lib.hid hdg2; clear hdg2
            by_cases hbg : h < 10 * ((c : Int) - 48) + ((d : Int) - 48)
            · have hv : pairV h (rem s k) = ⟨0, false, 1⟩ := by rw [hr, hr2]; exact pair_no2 h0 hok1 (by omega)
              rw [hp.out] at hv
              simp only [Got.mk.injEq] at hv
              obtain ⟨rfl, rfl, rfl⟩ := hv
              have hb3 : decide (h < 10 * ((c : Int) - 48) + ((d : Int) - 48)) = true := by simpa using hbg
              clear hr hr2
              go_enter Tryd.func35, Tryd.ntmps35
              go_wp2_with fail
              go_quiet (exact Calls.quiet_of_same (isDigit_any c _ HD))
              go_wp2_with fail
              go_quiet (exact (isDigit_any d _ HD2).mono fun _ _ z => ⟨z.1, _, z.2⟩)
              go_wp2_with fail
              go_ret3
              exact ⟨ret_iib (by omega) rfl rfl, HGR.out _⟩
            · have hv : pairV h (rem s k) = ⟨10 * ((c : Int) - 48) + ((d : Int) - 48), true, 2⟩ := by rw [hr, hr2]; exact pair_yes h0 hok1 ⟨hdb2.1, hdb2.2, by omega⟩
              rw [hp.out] at hv
              simp only [Got.mk.injEq] at hv
              obtain ⟨rfl, rfl, rfl⟩ := hv
              have hb3 : decide (h < 10 * ((c : Int) - 48) + ((d : Int) - 48)) = false := by simpa using hbg
              clear hr hr2
              go_enter Tryd.func35, Tryd.ntmps35
              go_wp2_with fail
              go_quiet (exact Calls.quiet_of_same (isDigit_any c _ HD))
              go_wp2_with fail
              go_quiet (exact (isDigit_any d _ HD2).mono fun _ _ z => ⟨z.1, _, z.2⟩)
              go_wp2_with fail
              go_quiet (fail)
              go_wp2_with fail
              go_ret3
              exact ⟨ret_iib (by omega) (by omega) rfl, grown_trans (grown_trans (HGR.out _) (grown_drewN _ _ _)) (grown_drewN _ _ _)⟩
end Go.Proofs.YtbacoopopokkfaaDoor
