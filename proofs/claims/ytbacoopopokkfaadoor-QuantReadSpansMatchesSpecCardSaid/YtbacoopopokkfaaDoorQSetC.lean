/- The contracts of CheckSpans, of both sides. -/
import Derived.Test.YtbacoopopokkfaaDoorQSpB
namespace Go.Proofs.YtbacoopopokkfaaDoor
open Go.RowKit
set_option linter.unusedSimpArgs false
set_option linter.unusedVariables false

theorem inSets_is (n : Int) {b : Bool} (hb : decide (0 ≤ n ∧ n ≤ 1000000000000) = b) (w : World) : Calls Tryd.prog 32 #[.int .i64 n] w fun e w' => e = .returned (.bool b) ∧ w = w' := by
  by_cases h0 : 0 ≤ n
  · by_cases h1 : n ≤ 1000000000000
    · have HB : Hid (b = true) := by show _ = _; rw [← hb]; simp; omega
      clear hb
      go_enter Tryd.func32, Tryd.ntmps32
      go_wp2_with fail
      go_ret
      exact ⟨ret_bool (by rw [HB.out]), rfl⟩
    · have HB : Hid (b = false) := by show _ = _; rw [← hb]; simp; omega
      clear hb
      go_enter Tryd.func32, Tryd.ntmps32
      go_wp2_with fail
      go_ret
      exact ⟨ret_bool (by rw [HB.out]), rfl⟩
  · have HB : Hid (b = false) := by show _ = _; rw [← hb]; simp; omega
    clear hb
    go_enter Tryd.func32, Tryd.ntmps32
    go_wp2_with fail
    go_ret
    exact ⟨ret_bool (by rw [HB.out]), rfl⟩
theorem spErr_cons (least : Int) (x : SpV) (l : List SpV) : spErr least (x :: l) = if ((0 ≤ x.fr ∧ x.fr ≤ 1000000000000) ∧ (0 ≤ x.to_ ∧ x.to_ ≤ 1000000000000)) then (if x.to_ < x.fr ∨ x.fr < least then 10 else spErr (x.to_ + 2) l) else 9 := rfl

set_option maxRecDepth 100000 in
set_option maxHeartbeats 1600000 in
theorem checkSp_is (ao : Option Addr) (cap : Nat) (L : List SpV) (hl : (L.length : Int) ≤ 9223372036854775807) (w : World) (hs : RowsAt spCs 2 w ao L) {e : Int} (he : chkS L = e) :
    Calls Tryd.prog 15 #[.slice ao L.length cap] w fun x w' => x = .returned (.int .i64 e) ∧ w.grownBy w' none := by
  by_cases h1 : (L.length : Int) ≤ 1000
  · have HE : Hid (spErr 0 L = e) := by show _ = _; rw [← he]; unfold chkS; rw [if_neg (by omega)]
    have HS := Lib.hid hs
    clear he hs
    go_enter Tryd.func15, Tryd.ntmps15
    go_wp2_with fail
    go_loopw [3, 11] (fun lv iv wr => (∃ (k : Nat) (least : Int), k ≤ L.length ∧ iv = .int .i64 k ∧ lv = .int .i64 least ∧ Hid (0 ≤ least ∧ least ≤ 2000000000000) ∧ Hid (spErr least (L.drop k) = e)) ∧ Hid (w.grownBy wr none)) (fun _ iv _ => L.length - (intOf iv).toNat)
    case atStart => exact ⟨⟨0, 0, Nat.zero_le _, rfl, rfl, ⟨by omega, by omega⟩, by rw [List.drop_zero]; exact HE.out⟩, World.grownBy.refl _ _⟩
    case round =>
      obtain ⟨⟨k, least, hk, rfl, rfl, hb, hse⟩, hg⟩ := hrel
      by_cases hlt : k < L.length
      · obtain ⟨b1, o1, rfl, q1⟩ := sp_at (HS.out.grown hg.out) (by omega)
        obtain ⟨x0, x1⟩ := q1 k hlt
        have hd := hse.out
        rw [List.drop_eq_getElem_cons hlt, spErr_cons] at hd
        generalize L[k] = x at *
        obtain ⟨xf, xt⟩ := x
        simp only at x0 x1 hd
        have HG := Lib.hid (grown_trans hg.out (World.grownBy_alloc wr (.cells #[.int .i64 xf, .int .i64 xt] 37) none))
        clear q1 hse hg
        by_cases hf : 0 ≤ xf ∧ xf ≤ 1000000000000
        · have hfd : decide (0 ≤ xf ∧ xf ≤ 1000000000000) = true := decide_eq_true hf
          by_cases ht : 0 ≤ xt ∧ xt ≤ 1000000000000
          · have htd : decide (0 ≤ xt ∧ xt ≤ 1000000000000) = true := decide_eq_true ht
            rw [if_pos ⟨hf, ht⟩] at hd
            by_cases hc1 : xt < xf
            · rw [if_pos (.inl hc1)] at hd
              have HD := Lib.hid hd
              clear hd hf ht
              go_wp2_with fail
              refine (inSets_is xf hfd _).mono ?_; rintro e w1 ⟨rfl, rfl⟩
              go_wp2_with fail
              refine (inSets_is xt htd _).mono ?_; rintro e w1 ⟨rfl, rfl⟩
              go_wp2_with fail
              go_ret
              exact ⟨ret_int HD.out, HG.out⟩
            · by_cases hc2 : xf < least
              · rw [if_pos (.inr hc2)] at hd
                have HD := Lib.hid hd
                clear hd hf ht
                go_wp2_with fail
                refine (inSets_is xf hfd _).mono ?_; rintro e w1 ⟨rfl, rfl⟩
                go_wp2_with fail
                refine (inSets_is xt htd _).mono ?_; rintro e w1 ⟨rfl, rfl⟩
                go_wp2_with fail
                go_ret
                exact ⟨ret_int HD.out, HG.out⟩
              · rw [if_neg (by omega)] at hd
                have HD := Lib.hid hd
                clear hd
                go_wp2_with fail
                refine (inSets_is xf hfd _).mono ?_; rintro e w1 ⟨rfl, rfl⟩
                go_wp2_with fail
                refine (inSets_is xt htd _).mono ?_; rintro e w1 ⟨rfl, rfl⟩
                go_wp2_with fail
                go_roundw
                case rel => exact ⟨⟨k + 1, xt + 2, by omega, by go_num, rfl, ⟨by omega, by omega⟩, HD.out⟩, HG.out⟩
                case measure => simp [intOf]; omega
          · have htd : decide (0 ≤ xt ∧ xt ≤ 1000000000000) = false := decide_eq_false ht
            rw [if_neg (fun h => ht h.2)] at hd
            have HD := Lib.hid hd
            clear hd hf ht
            go_wp2_with fail
            refine (inSets_is xf hfd _).mono ?_; rintro e w1 ⟨rfl, rfl⟩
            go_wp2_with fail
            refine (inSets_is xt htd _).mono ?_; rintro e w1 ⟨rfl, rfl⟩
            go_wp2_with fail
            go_ret
            exact ⟨ret_int HD.out, HG.out⟩
        · have hfd : decide (0 ≤ xf ∧ xf ≤ 1000000000000) = false := decide_eq_false hf
          rw [if_neg (fun h => hf h.1)] at hd
          have HD := Lib.hid hd
          clear hd hf
          go_wp2_with fail
          refine (inSets_is xf hfd _).mono ?_; rintro e w1 ⟨rfl, rfl⟩
          go_wp2_with fail
          go_ret
          exact ⟨ret_int HD.out, HG.out⟩
      · have HD : Hid (0 = e) := by
          have hd := hse.out
          rw [List.drop_eq_nil_of_le (by omega)] at hd
          exact hd
        go_wp2_with fail
        go_ret
        exact ⟨ret_int HD.out, hg.out⟩
  · have HE : Hid (3 = e) := by show _ = _; rw [← he]; unfold chkS; rw [if_pos (by omega)]
    go_enter Tryd.func15, Tryd.ntmps15
    go_wp2_with fail
    go_ret
    exact ⟨ret_int HE.out, World.grownBy.refl _ _⟩

end Go.Proofs.YtbacoopopokkfaaDoor
