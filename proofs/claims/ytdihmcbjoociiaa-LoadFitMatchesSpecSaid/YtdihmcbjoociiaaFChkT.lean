/- The contracts of CheckTests, of both sides. -/
import Derived.Test.YtdihmcbjoociiaaFRStep
import Derived.Test.YtdihmcbjoociiaaFTestP
namespace Go.Proofs.Ytdihmcbjoociiaa
open Go.RowKit

set_option maxRecDepth 100000 in
set_option maxHeartbeats 3200000 in
theorem checkTests_any (ao : Option Addr) (cap : Nat) (l : List RaceV) (hl : (l.length : Int) ≤ 9223372036854775807) (w : World) (hs : PairsAt w ao l) {E : Int} (hE : Hid (testsE l = E)) :
    Calls Try.prog 19 #[.slice ao l.length cap] w fun e w' => e = .returned (.int .i64 E) ∧ w.grownBy w' none := by
  have HS := Lib.hid hs
  have hv := hE.out
  unfold testsE at hv
  clear hE hs
  by_cases h1 : (l.length : Int) ≤ 20
  · rw [if_pos h1] at hv
    have HE0 : Hid (testsL (prevR l 0) (l.drop 0) = E) := hv
    clear hv
    go_enter Try.func19, Try.ntmps19
    go_wp2
    skip
    go_loopw [10] (fun iv wr => ∃ k : Nat, k ≤ l.length ∧ iv = .int .i64 k ∧ Hid (w.grownBy wr none) ∧ Hid (testsL (prevR l k) (l.drop k) = E))
      (fun iv _ => l.length - (intOf iv).toNat)
    case atStart => exact ⟨0, Nat.zero_le _, rfl, grown_refl _ _, HE0.out⟩
    case round =>
      obtain ⟨k, hk, rfl, hg, hw⟩ := hrel
      by_cases hlt : k < l.length
      · obtain ⟨b, off, rfl, hc⟩ := HS.out.at (by omega)
        have c0 := grown_cell hg.out (hc k hlt).1
        have c1 := grown_cell hg.out (hc k hlt).2
        have HW : Hid (_ = E) := Lib.hid ((testsL_at (p := prevR l k) hlt).symm.trans hw.out)
        have HC := Lib.hid hc
        clear hw hc
        by_cases a0 : 1 ≤ (raceD l k).way ∧ (raceD l k).way ≤ 10000
        · by_cases a1 : 0 ≤ (raceD l k).sec ∧ (raceD l k).sec ≤ 100000000
          · have aOk : (raceD l k).TOk := ⟨a0, a1⟩
            by_cases hk0 : k = 0
            · subst hk0
              have HE : Hid (testsL (prevR l 1) (l.drop 1) = E) := by show _ = _; rw [← HW.out, if_pos aOk, if_neg (by simp [prevR, soonTe])]
              clear HW aOk HC
              generalize raceD l 0 = x at *
              obtain ⟨xw, xs⟩ := x
              simp only [Nat.zero_mul, Nat.add_zero] at a0 a1 c0 c1
              have HG2 : Hid (w.grownBy (wr.alloc (.cells #[.int .i64 xw, .int .i64 xs] 103)) none) := grown_trans hg.out (World.grownBy_alloc _ _ _)
              go_wp2_with (first
                | (go_at_call_of 78 (Value.int IntKind.i64 xw); refine (fwithin_yes _ _ _ (by omega) _).mono ?_; rintro e w1 ⟨rfl, rfl⟩)
                | (go_at_call_of 78 (Value.int IntKind.i64 xs); refine (fwithin_yes _ _ _ (by omega) _).mono ?_; rintro e w1 ⟨rfl, rfl⟩))
              go_quiet (fail)
              go_wp2_with fail
              go_roundw
              case rel => exact ⟨1, by omega, by go_num, (grown_trans HG2.out (grown_drewN _ _ _)), HE.out⟩
              case measure => simp [intOf]; omega
            · obtain ⟨m, hkm⟩ : ∃ m, k = m + 1 := ⟨k - 1, by omega⟩
              have c2 := grown_cell hg.out (HC.out m (by omega)).1
              have c3 := grown_cell hg.out (HC.out m (by omega)).2
              have hpv : prevR l k = some (raceD l m) := by rw [hkm]; rfl
              have e0 : decide ((0 : Int) < (k : Int)) = true := by simp; omega
              have e3 : 0 < k := by omega
              have ea : ((k : Int) - 1).toNat = m := by omega
              have pa : (0 : Int) ≤ (k : Int) - 1 := by omega
              have pb : (1 : Int) ≤ (k : Int) := by omega
              have ba : (k : Int) - 1 < (l.length : Int) := by omega
              have ra : IntKind.i64.wrap ((k : Int) - 1) = (k : Int) - 1 := by rw [IntKind.wrap_i64]; omega
              clear hk0 hkm
              rw [if_pos aOk] at HW
              by_cases a2 : soonTe (prevR l k) (raceD l k) = true
              · have HE : Hid (E = 10) := by show _ = _; rw [← HW.out, if_pos a2]
                have a3 : (raceD l k).way ≤ (raceD l m).way := by simpa [hpv, soonTe] using a2
                have hE10 := HE.out
                subst hE10
                clear HW aOk HC a2 HE
                clear hpv
                generalize raceD l k = x at *
                generalize raceD l m = y at *
                obtain ⟨xw, xs⟩ := x
                obtain ⟨yw, ys⟩ := y
                simp only at a0 a1 a3 c0 c1 c2 c3
                have HG2 : Hid (w.grownBy (wr.alloc (.cells #[.int .i64 xw, .int .i64 xs] 103)) none) := grown_trans hg.out (World.grownBy_alloc _ _ _)
                have d2 := grown_cell (World.grownBy_alloc wr (.cells #[.int .i64 xw, .int .i64 xs] 103) none) c2
                have d3 := grown_cell (World.grownBy_alloc wr (.cells #[.int .i64 xw, .int .i64 xs] 103) none) c3
                have e1 : decide (xw ≤ yw) = true := decide_eq_true a3
                go_wp2_with (first
                  | (go_at_call_of 78 (Value.int IntKind.i64 xw); refine (fwithin_yes _ _ _ (by omega) _).mono ?_; rintro e w1 ⟨rfl, rfl⟩)
                  | (go_at_call_of 78 (Value.int IntKind.i64 xs); refine (fwithin_yes _ _ _ (by omega) _).mono ?_; rintro e w1 ⟨rfl, rfl⟩))
                go_quiet (fail)
                go_wp2_with fail
                go_ret
                exact ⟨rfl, (grown_trans HG2.out (grown_drewN _ _ _))⟩
              · have HE : Hid (testsL (prevR l (k + 1)) (l.drop (k + 1)) = E) := by show _ = _; rw [← HW.out, if_neg a2]
                have a3 : ¬ ((raceD l k).way ≤ (raceD l m).way) := by simpa [hpv, soonTe] using a2
                clear HW aOk HC a2
                clear hpv
                generalize raceD l k = x at *
                generalize raceD l m = y at *
                obtain ⟨xw, xs⟩ := x
                obtain ⟨yw, ys⟩ := y
                simp only at a0 a1 a3 c0 c1 c2 c3
                have HG2 : Hid (w.grownBy (wr.alloc (.cells #[.int .i64 xw, .int .i64 xs] 103)) none) := grown_trans hg.out (World.grownBy_alloc _ _ _)
                have d2 := grown_cell (World.grownBy_alloc wr (.cells #[.int .i64 xw, .int .i64 xs] 103) none) c2
                have d3 := grown_cell (World.grownBy_alloc wr (.cells #[.int .i64 xw, .int .i64 xs] 103) none) c3
                have e1 : decide (xw ≤ yw) = false := decide_eq_false a3
                go_wp2_with (first
                  | (go_at_call_of 78 (Value.int IntKind.i64 xw); refine (fwithin_yes _ _ _ (by omega) _).mono ?_; rintro e w1 ⟨rfl, rfl⟩)
                  | (go_at_call_of 78 (Value.int IntKind.i64 xs); refine (fwithin_yes _ _ _ (by omega) _).mono ?_; rintro e w1 ⟨rfl, rfl⟩))
                go_quiet (fail)
                go_wp2_with fail
                go_roundw
                case rel => exact ⟨k + 1, by omega, by go_num, (grown_trans HG2.out (grown_drewN _ _ _)), HE.out⟩
                case measure => simp [intOf]; omega
          · have HE : Hid (E = 9) := by show _ = _; rw [← HW.out, if_neg (fun h => a1 h.2)]
            have hE9 := HE.out
            subst hE9
            clear HW HC
            generalize raceD l k = x at *
            obtain ⟨xw, xs⟩ := x
            simp only at a0 a1 c0 c1
            have HG2 : Hid (w.grownBy (wr.alloc (.cells #[.int .i64 xw, .int .i64 xs] 103)) none) := grown_trans hg.out (World.grownBy_alloc _ _ _)
            go_wp2_with (first
                | (go_at_call_of 78 (Value.int IntKind.i64 xw); refine (fwithin_yes _ _ _ (by omega) _).mono ?_; rintro e w1 ⟨rfl, rfl⟩)
                | (go_at_call_of 78 (Value.int IntKind.i64 xs); refine (fwithin_no _ _ _ (by omega) _).mono ?_; rintro e w1 ⟨rfl, rfl⟩))
            go_ret
            exact ⟨rfl, HG2.out⟩
        · have HE : Hid (E = 9) := by show _ = _; rw [← HW.out, if_neg (fun h => a0 h.1)]
          have hE9 := HE.out
          subst hE9
          clear HW HC
          generalize raceD l k = x at *
          obtain ⟨xw, xs⟩ := x
          simp only at a0 c0 c1
          have HG2 : Hid (w.grownBy (wr.alloc (.cells #[.int .i64 xw, .int .i64 xs] 103)) none) := grown_trans hg.out (World.grownBy_alloc _ _ _)
          go_wp2_with (first
            | (go_at_call_of 78 (Value.int IntKind.i64 xw); refine (fwithin_no _ _ _ (by omega) _).mono ?_; rintro e w1 ⟨rfl, rfl⟩))
          go_ret
          exact ⟨rfl, HG2.out⟩
      · have HE : Hid (E = 0) := by show _ = _; rw [← hw.out]; exact testsL_end (by omega)
        have hE0 := HE.out
        subst hE0
        go_wp2
        go_ret
        exact ⟨rfl, hg.out⟩
  · rw [if_neg h1] at hv
    subst hv
    go_enter Try.func19, Try.ntmps19
    go_wp2
    go_ret
    exact ⟨rfl, grown_refl _ _⟩

set_option maxRecDepth 100000 in
set_option maxHeartbeats 3200000 in
theorem rcheckTests_any (ao : Option Addr) (cap : Nat) (l : List RaceV) (hl : (l.length : Int) ≤ 9223372036854775807) (w : World) (hs : PairsAt w ao l) {E : Int} (hE : Hid (testsE l = E)) :
    Calls Try.prog 20 #[.slice ao l.length cap] w fun e w' => e = .returned (.int .i64 E) ∧ w.grownBy w' none := by
  have HS := Lib.hid hs
  have hv := hE.out
  unfold testsE at hv
  clear hE hs
  by_cases h1 : (l.length : Int) ≤ 20
  · rw [if_pos h1] at hv
    have HE0 : Hid (testsL (prevR l 0) (l.drop 0) = E) := hv
    clear hv
    go_enter Try.func20, Try.ntmps20
    go_wp2
    skip
    go_loopw [10] (fun iv wr => ∃ k : Nat, k ≤ l.length ∧ iv = .int .i64 k ∧ Hid (w.grownBy wr none) ∧ Hid (testsL (prevR l k) (l.drop k) = E))
      (fun iv _ => l.length - (intOf iv).toNat)
    case atStart => exact ⟨0, Nat.zero_le _, rfl, grown_refl _ _, HE0.out⟩
    case round =>
      obtain ⟨k, hk, rfl, hg, hw⟩ := hrel
      by_cases hlt : k < l.length
      · obtain ⟨b, off, rfl, hc⟩ := HS.out.at (by omega)
        have c0 := grown_cell hg.out (hc k hlt).1
        have c1 := grown_cell hg.out (hc k hlt).2
        have HW : Hid (_ = E) := Lib.hid ((testsL_at (p := prevR l k) hlt).symm.trans hw.out)
        have HC := Lib.hid hc
        clear hw hc
        by_cases a0 : 1 ≤ (raceD l k).way ∧ (raceD l k).way ≤ 10000
        · by_cases a1 : 0 ≤ (raceD l k).sec ∧ (raceD l k).sec ≤ 100000000
          · have aOk : (raceD l k).TOk := ⟨a0, a1⟩
            by_cases hk0 : k = 0
            · subst hk0
              have HE : Hid (testsL (prevR l 1) (l.drop 1) = E) := by show _ = _; rw [← HW.out, if_pos aOk, if_neg (by simp [prevR, soonTe])]
              clear HW aOk HC
              generalize raceD l 0 = x at *
              obtain ⟨xw, xs⟩ := x
              simp only [Nat.zero_mul, Nat.add_zero] at a0 a1 c0 c1
              have HG2 : Hid (w.grownBy (wr.alloc (.cells #[.int .i64 xw, .int .i64 xs] 103)) none) := grown_trans hg.out (World.grownBy_alloc _ _ _)
              go_wp2_with (first
                | (go_at_call_of 79 (Value.int IntKind.i64 xw); refine (routside_no _ _ _ (by omega) _).mono ?_; rintro e w1 ⟨rfl, rfl⟩)
                | (go_at_call_of 79 (Value.int IntKind.i64 xs); refine (routside_no _ _ _ (by omega) _).mono ?_; rintro e w1 ⟨rfl, rfl⟩))
              go_quiet (fail)
              go_wp2_with fail
              go_roundw
              case rel => exact ⟨1, by omega, by go_num, (grown_trans HG2.out (grown_drewN _ _ _)), HE.out⟩
              case measure => simp [intOf]; omega
            · obtain ⟨m, hkm⟩ : ∃ m, k = m + 1 := ⟨k - 1, by omega⟩
              have c2 := grown_cell hg.out (HC.out m (by omega)).1
              have c3 := grown_cell hg.out (HC.out m (by omega)).2
              have hpv : prevR l k = some (raceD l m) := by rw [hkm]; rfl
              have e0 : decide ((0 : Int) < (k : Int)) = true := by simp; omega
              have e3 : 0 < k := by omega
              have ea : ((k : Int) - 1).toNat = m := by omega
              have pa : (0 : Int) ≤ (k : Int) - 1 := by omega
              have pb : (1 : Int) ≤ (k : Int) := by omega
              have ba : (k : Int) - 1 < (l.length : Int) := by omega
              have ra : IntKind.i64.wrap ((k : Int) - 1) = (k : Int) - 1 := by rw [IntKind.wrap_i64]; omega
              clear hk0 hkm
              rw [if_pos aOk] at HW
              by_cases a2 : soonTe (prevR l k) (raceD l k) = true
              · have HE : Hid (E = 10) := by show _ = _; rw [← HW.out, if_pos a2]
                have a3 : (raceD l k).way ≤ (raceD l m).way := by simpa [hpv, soonTe] using a2
                have hE10 := HE.out
                subst hE10
                clear HW aOk HC a2 HE
                clear hpv
                generalize raceD l k = x at *
                generalize raceD l m = y at *
                obtain ⟨xw, xs⟩ := x
                obtain ⟨yw, ys⟩ := y
                simp only at a0 a1 a3 c0 c1 c2 c3
                have HG2 : Hid (w.grownBy (wr.alloc (.cells #[.int .i64 xw, .int .i64 xs] 103)) none) := grown_trans hg.out (World.grownBy_alloc _ _ _)
                have d2 := grown_cell (World.grownBy_alloc wr (.cells #[.int .i64 xw, .int .i64 xs] 103) none) c2
                have d3 := grown_cell (World.grownBy_alloc wr (.cells #[.int .i64 xw, .int .i64 xs] 103) none) c3
                have e1 : decide (xw ≤ yw) = true := decide_eq_true a3
                go_wp2_with (first
                  | (go_at_call_of 79 (Value.int IntKind.i64 xw); refine (routside_no _ _ _ (by omega) _).mono ?_; rintro e w1 ⟨rfl, rfl⟩)
                  | (go_at_call_of 79 (Value.int IntKind.i64 xs); refine (routside_no _ _ _ (by omega) _).mono ?_; rintro e w1 ⟨rfl, rfl⟩))
                go_quiet (fail)
                go_wp2_with fail
                go_ret
                exact ⟨rfl, (grown_trans HG2.out (grown_drewN _ _ _))⟩
              · have HE : Hid (testsL (prevR l (k + 1)) (l.drop (k + 1)) = E) := by show _ = _; rw [← HW.out, if_neg a2]
                have a3 : ¬ ((raceD l k).way ≤ (raceD l m).way) := by simpa [hpv, soonTe] using a2
                clear HW aOk HC a2
                clear hpv
                generalize raceD l k = x at *
                generalize raceD l m = y at *
                obtain ⟨xw, xs⟩ := x
                obtain ⟨yw, ys⟩ := y
                simp only at a0 a1 a3 c0 c1 c2 c3
                have HG2 : Hid (w.grownBy (wr.alloc (.cells #[.int .i64 xw, .int .i64 xs] 103)) none) := grown_trans hg.out (World.grownBy_alloc _ _ _)
                have d2 := grown_cell (World.grownBy_alloc wr (.cells #[.int .i64 xw, .int .i64 xs] 103) none) c2
                have d3 := grown_cell (World.grownBy_alloc wr (.cells #[.int .i64 xw, .int .i64 xs] 103) none) c3
                have e1 : decide (xw ≤ yw) = false := decide_eq_false a3
                go_wp2_with (first
                  | (go_at_call_of 79 (Value.int IntKind.i64 xw); refine (routside_no _ _ _ (by omega) _).mono ?_; rintro e w1 ⟨rfl, rfl⟩)
                  | (go_at_call_of 79 (Value.int IntKind.i64 xs); refine (routside_no _ _ _ (by omega) _).mono ?_; rintro e w1 ⟨rfl, rfl⟩))
                go_quiet (fail)
                go_wp2_with fail
                go_roundw
                case rel => exact ⟨k + 1, by omega, by go_num, (grown_trans HG2.out (grown_drewN _ _ _)), HE.out⟩
                case measure => simp [intOf]; omega
          · have HE : Hid (E = 9) := by show _ = _; rw [← HW.out, if_neg (fun h => a1 h.2)]
            have hE9 := HE.out
            subst hE9
            clear HW HC
            generalize raceD l k = x at *
            obtain ⟨xw, xs⟩ := x
            simp only at a0 a1 c0 c1
            have HG2 : Hid (w.grownBy (wr.alloc (.cells #[.int .i64 xw, .int .i64 xs] 103)) none) := grown_trans hg.out (World.grownBy_alloc _ _ _)
            go_wp2_with (first
                | (go_at_call_of 79 (Value.int IntKind.i64 xw); refine (routside_no _ _ _ (by omega) _).mono ?_; rintro e w1 ⟨rfl, rfl⟩)
                | (go_at_call_of 79 (Value.int IntKind.i64 xs); refine (routside_yes _ _ _ (by omega) _).mono ?_; rintro e w1 ⟨rfl, rfl⟩))
            go_ret
            exact ⟨rfl, HG2.out⟩
        · have HE : Hid (E = 9) := by show _ = _; rw [← HW.out, if_neg (fun h => a0 h.1)]
          have hE9 := HE.out
          subst hE9
          clear HW HC
          generalize raceD l k = x at *
          obtain ⟨xw, xs⟩ := x
          simp only at a0 c0 c1
          have HG2 : Hid (w.grownBy (wr.alloc (.cells #[.int .i64 xw, .int .i64 xs] 103)) none) := grown_trans hg.out (World.grownBy_alloc _ _ _)
          go_wp2_with (first
            | (go_at_call_of 79 (Value.int IntKind.i64 xw); refine (routside_yes _ _ _ (by omega) _).mono ?_; rintro e w1 ⟨rfl, rfl⟩))
          go_ret
          exact ⟨rfl, HG2.out⟩
      · have HE : Hid (E = 0) := by show _ = _; rw [← hw.out]; exact testsL_end (by omega)
        have hE0 := HE.out
        subst hE0
        go_wp2
        go_ret
        exact ⟨rfl, hg.out⟩
  · rw [if_neg h1] at hv
    subst hv
    go_enter Try.func20, Try.ntmps20
    go_wp2
    go_ret
    exact ⟨rfl, grown_refl _ _⟩

end Go.Proofs.Ytdihmcbjoociiaa
