/- The contracts of Power, given that of Hard. -/
import Derived.Test.YtdihmcbjoociiaaFLim
namespace Go.Proofs.Ytdihmcbjoociiaa
open Go.RowKit

def knN (l : List Int) : Nat → Nat
  | 0 => 0
  | k + 1 => if 0 ≤ nthI l k then knN l k + 1 else knN l k
theorem knN_le (l : List Int) : ∀ k, knN l k ≤ k
  | 0 => Nat.le_refl _
  | k + 1 => by unfold knN; have := knN_le l k; split <;> omega
/-- What Power returns, where it can tell. -/
def powD (l : List Int) (h t : Int) : Int := (h * h * (knN l l.length : Int) * 100) / (3600 * t * t)
/-- The three results of Power. -/
def powV (l : List Int) (h : Int) (ok : Bool) (E t : Int) : Int := if E = 0 ∧ (1 ≤ t ∧ t ≤ 10000) ∧ ok = true then powD l h t else 0
def powB (ok : Bool) (E t : Int) : Bool := decide (E = 0 ∧ 1 ≤ t ∧ t ≤ 10000) && ok
def powE (E t : Int) : Int := if E = 0 then (if 1 ≤ t ∧ t ≤ 10000 then 0 else 9) else E

set_option maxRecDepth 100000 in
set_option maxHeartbeats 1600000 in
theorem power_any (ao : Option Addr) (cap : Nat) (l : List Int) (hl : (l.length : Int) ≤ 9223372036854775807) (t : Int) (w : World) (hs : IntsAt w ao l) {h E : Int} {ok : Bool} (hh : 0 ≤ h ∧ h ≤ 10000) (hlen : E = 0 → (l.length : Int) ≤ 1000000)
    (HH : Hid (Calls Try.prog 83 #[.slice ao l.length cap] w fun e w' => e = .returned (.tuple #[.int .i64 h, .bool ok, .int .i64 E]) ∧ w.grownBy w' none)) :
    Calls Try.prog 25 #[.slice ao l.length cap, .int .i64 t] w fun e w' => e = .returned (.tuple #[.int .i64 (powV l h ok E t), .bool (powB ok E t), .int .i64 (powE E t)]) ∧ w.grownBy w' none := by
  have HS := Lib.hid hs
  clear hs
  by_cases h0 : E = 0
  · subst h0
    have hl6 := hlen rfl
    clear hlen
    by_cases ht : 1 ≤ t ∧ t ≤ 10000
    · have HT := Lib.hid ht
      cases ok
      · have HV : Hid (powV l h false 0 t = 0 ∧ powB false 0 t = false ∧ powE 0 t = 0) := by refine ⟨?_, ?_, ?_⟩ <;> simp [powV, powB, powE, ht]
        clear ht
        go_enter Try.func25, Try.ntmps25
        go_wp2_with fail
        refine HH.out.mono ?_; rintro e w1 ⟨rfl, hg1⟩
        have HG := Lib.hid hg1
        clear hg1
        go_wp2_with (go_at_call 78; refine (fwithin_yes _ _ _ HT.out _).mono ?_; rintro e w9 ⟨rfl, rfl⟩)
        go_ret3
        exact ⟨by rw [HV.out.1, HV.out.2.1, HV.out.2.2]; rfl, HG.out⟩
      · obtain ⟨v, hv⟩ : ∃ v, powD l h t = v := ⟨_, rfl⟩
        have HV : Hid (powV l h true 0 t = v ∧ powB true 0 t = true ∧ powE 0 t = 0) := by refine ⟨?_, ?_, ?_⟩ <;> simp [powV, powB, powE, ht, hv]
        have hkl := knN_le l l.length
        obtain ⟨K, hK⟩ : ∃ K, knN l l.length = K := ⟨_, rfl⟩
        have HK := Lib.hid hK
        unfold powD at hv
        rw [hK] at hv hkl
        have b1 := prod_bd hh.1 hh.2 hh.1 hh.2
        have b2 := prod_bd (a := h * h) (b := (K : Int)) (A := 100000000) (B := 1000000) b1.1 (by omega) (by omega) (by omega)
        have b3 := prod_bd (a := 3600 * t) (b := t) (A := 36000000) (B := 10000) (by omega) (by omega) (by omega) ht.2
        have b4 : 1 ≤ 3600 * t * t := by
          have := Int.mul_le_mul (show (1 : Int) ≤ 3600 * t by omega) ht.1 (by omega) (by omega)
          omega
        obtain ⟨A1, hA1⟩ : ∃ A, h * h = A := ⟨_, rfl⟩
        rw [hA1] at b1 b2 hv
        obtain ⟨A2, hA2⟩ : ∃ A, A1 * (K : Int) = A := ⟨_, rfl⟩
        rw [hA2] at b2 hv
        obtain ⟨A3, hA3⟩ : ∃ A, 3600 * t * t = A := ⟨_, rfl⟩
        rw [hA3] at b3 b4 hv
        have r1 : IntKind.i64.wrap (h * h) = A1 := by rw [hA1]; exact IntWalk.i64_in _ (by omega)
        have r2 : IntKind.i64.wrap (A1 * (K : Int)) = A2 := by rw [hA2]; exact IntWalk.i64_in _ (by omega)
        have r3 : IntKind.i64.wrap (3600 * t * t) = A3 := by rw [hA3]; exact IntWalk.i64_in _ (by omega)
        obtain ⟨b20, b21⟩ := b2
        have a2 : A2 ≤ 100000000000000 := by omega
        have a3 : A3 ≤ 360000000000 := by omega
        have hdt : (A2 * 100).tdiv A3 = v := by rw [Int.tdiv_eq_ediv_of_nonneg (by omega)]; exact hv
        have hd0 : 0 ≤ v := by rw [← hv]; exact Int.ediv_nonneg (by omega) (by omega)
        have hd1 : v ≤ 10000000000000000 := by
          have := Int.ediv_le_self (a := A2 * 100) A3 (by omega)
          rw [hv] at this; omega
        have ne0 : ¬ A3 = 0 := by omega
        have ne1 : (A3 == 0) = false := by rw [beq_eq_false_iff_ne]; omega
        obtain ⟨t0, t1⟩ := ht
        clear hA1 hA2 hA3 b1 b3 b21 hK
        go_enter Try.func25, Try.ntmps25
        go_wp2_with fail
        refine HH.out.mono ?_; rintro e w1 ⟨rfl, hg1⟩
        have HG := Lib.hid hg1
        have HS1 : Hid (IntsAt w1 ao l) := HS.out.grown hg1
        clear hg1
        go_wp2_with (go_at_call 78; refine (fwithin_yes _ _ _ HT.out _).mono ?_; rintro e w9 ⟨rfl, rfl⟩)
        go_loopw [10, 29] (fun sv iv wr => ∃ k : Nat, k ≤ l.length ∧ sv = .int .i64 (knN l k : Nat) ∧ iv = .int .i64 k ∧ w1 = wr)
          (fun _ iv _ => l.length - (intOf iv).toNat)
        case atStart => exact ⟨0, Nat.zero_le _, rfl, rfl, by first | rfl | trivial⟩
        case round =>
          obtain ⟨k, hk, rfl, rfl, rfl⟩ := hrel
          by_cases hlt : k < l.length
          · obtain ⟨b, off, rfl, hc⟩ := HS1.out.at (by omega)
            have c0 := hc k hlt
            have hkk := knN_le l k
            have HNX : Hid (knN l (k + 1) = if 0 ≤ nthI l k then knN l k + 1 else knN l k) := rfl
            clear hc
            generalize nthI l k = x at *
            generalize knN l k = s at *
            by_cases a1 : 0 ≤ x
            · have hnx := HNX.out
              rw [if_pos a1] at hnx
              have HN2 : Hid ((s : Int) + 1 = ((knN l (k + 1) : Nat) : Int)) := by show _ = _; rw [hnx]; omega
              clear HNX hnx
              go_wp2_with fail
              go_roundw
              case rel => exact ⟨k + 1, by omega, by rw [← HN2.out], by go_num, by first | rfl | trivial⟩
              case measure => simp [intOf]; omega
            · have hnx := HNX.out
              rw [if_neg a1] at hnx
              have HN2 := Lib.hid hnx
              clear HNX hnx
              go_wp2_with fail
              go_roundw
              case rel => exact ⟨k + 1, by omega, by rw [HN2.out], by go_num, by first | rfl | trivial⟩
              case measure => simp [intOf]; omega
          · obtain rfl : k = l.length := by omega
            rw [HK.out]
            go_wp2_with fail
            go_ret3
            exact ⟨by rw [HV.out.1, HV.out.2.1, HV.out.2.2]; rfl, HG.out⟩
    · have HT := Lib.hid ht
      have HV : Hid (powV l h ok 0 t = 0 ∧ powB ok 0 t = false ∧ powE 0 t = 9) := by
        have hn : ¬ (0 = (0 : Int) ∧ 1 ≤ t ∧ t ≤ 10000) := fun q => ht q.2
        refine ⟨?_, ?_, ?_⟩
        · unfold powV; rw [if_neg (fun q => ht q.2.1)]
        · unfold powB; rw [decide_eq_false hn]; rfl
        · unfold powE; rw [if_pos rfl, if_neg ht]
      clear ht
      go_enter Try.func25, Try.ntmps25
      go_wp2_with fail
      refine HH.out.mono ?_; rintro e w1 ⟨rfl, hg1⟩
      have HG := Lib.hid hg1
      clear hg1
      go_wp2_with (go_at_call 78; refine (fwithin_no _ _ _ HT.out _).mono ?_; rintro e w9 ⟨rfl, rfl⟩)
      go_ret3
      exact ⟨by rw [HV.out.1, HV.out.2.1, HV.out.2.2]; rfl, HG.out⟩
  · have HV : Hid (powV l h ok E t = 0 ∧ powB ok E t = false ∧ powE E t = E) := by
      refine ⟨?_, ?_, ?_⟩
      · unfold powV; rw [if_neg (fun q => h0 q.1)]
      · unfold powB; rw [decide_eq_false (fun q => h0 q.1)]; rfl
      · unfold powE; rw [if_neg h0]
    have hne : (E != 0) = true := by simpa using h0
    clear h0 hlen
    go_enter Try.func25, Try.ntmps25
    go_wp2_with fail
    refine HH.out.mono ?_; rintro e w1 ⟨rfl, hg1⟩
    have HG := Lib.hid hg1
    clear hg1
    go_wp2_with fail
    go_ret3
    exact ⟨by rw [HV.out.1, HV.out.2.1, HV.out.2.2]; rfl, HG.out⟩

set_option maxRecDepth 100000 in
set_option maxHeartbeats 1600000 in
theorem rpower_any (ao : Option Addr) (cap : Nat) (l : List Int) (hl : (l.length : Int) ≤ 9223372036854775807) (t : Int) (w : World) (hs : IntsAt w ao l) {h E : Int} {ok : Bool} (hh : 0 ≤ h ∧ h ≤ 10000) (hlen : E = 0 → (l.length : Int) ≤ 1000000)
    (HH : Hid (Calls Try.prog 84 #[.slice ao l.length cap] w fun e w' => e = .returned (.tuple #[.int .i64 h, .bool ok, .int .i64 E]) ∧ w.grownBy w' none)) :
    Calls Try.prog 26 #[.slice ao l.length cap, .int .i64 t] w fun e w' => e = .returned (.tuple #[.int .i64 (powV l h ok E t), .bool (powB ok E t), .int .i64 (powE E t)]) ∧ w.grownBy w' none := by
  have HS := Lib.hid hs
  clear hs
  by_cases h0 : E = 0
  · subst h0
    have hl6 := hlen rfl
    clear hlen
    by_cases ht : 1 ≤ t ∧ t ≤ 10000
    · have HT := Lib.hid ht
      cases ok
      · have HV : Hid (powV l h false 0 t = 0 ∧ powB false 0 t = false ∧ powE 0 t = 0) := by refine ⟨?_, ?_, ?_⟩ <;> simp [powV, powB, powE, ht]
        clear ht
        go_enter Try.func26, Try.ntmps26
        go_wp2_with fail
        refine HH.out.mono ?_; rintro e w1 ⟨rfl, hg1⟩
        have HG := Lib.hid hg1
        clear hg1
        go_wp2_with (go_at_call 79; refine (routside_no _ _ _ HT.out _).mono ?_; rintro e w9 ⟨rfl, rfl⟩)
        go_ret3
        exact ⟨by rw [HV.out.1, HV.out.2.1, HV.out.2.2]; rfl, HG.out⟩
      · obtain ⟨v, hv⟩ : ∃ v, powD l h t = v := ⟨_, rfl⟩
        have HV : Hid (powV l h true 0 t = v ∧ powB true 0 t = true ∧ powE 0 t = 0) := by refine ⟨?_, ?_, ?_⟩ <;> simp [powV, powB, powE, ht, hv]
        have hkl := knN_le l l.length
        obtain ⟨K, hK⟩ : ∃ K, knN l l.length = K := ⟨_, rfl⟩
        have HK := Lib.hid hK
        unfold powD at hv
        rw [hK] at hv hkl
        have b1 := prod_bd hh.1 hh.2 hh.1 hh.2
        have b2 := prod_bd (a := h * h) (b := (K : Int)) (A := 100000000) (B := 1000000) b1.1 (by omega) (by omega) (by omega)
        have b3 := prod_bd (a := 3600 * t) (b := t) (A := 36000000) (B := 10000) (by omega) (by omega) (by omega) ht.2
        have b4 : 1 ≤ 3600 * t * t := by
          have := Int.mul_le_mul (show (1 : Int) ≤ 3600 * t by omega) ht.1 (by omega) (by omega)
          omega
        obtain ⟨A1, hA1⟩ : ∃ A, h * h = A := ⟨_, rfl⟩
        rw [hA1] at b1 b2 hv
        obtain ⟨A2, hA2⟩ : ∃ A, A1 * (K : Int) = A := ⟨_, rfl⟩
        rw [hA2] at b2 hv
        obtain ⟨A3, hA3⟩ : ∃ A, 3600 * t * t = A := ⟨_, rfl⟩
        rw [hA3] at b3 b4 hv
        have r1 : IntKind.i64.wrap (h * h) = A1 := by rw [hA1]; exact IntWalk.i64_in _ (by omega)
        have r2 : IntKind.i64.wrap (A1 * (K : Int)) = A2 := by rw [hA2]; exact IntWalk.i64_in _ (by omega)
        have r3 : IntKind.i64.wrap (3600 * t * t) = A3 := by rw [hA3]; exact IntWalk.i64_in _ (by omega)
        obtain ⟨b20, b21⟩ := b2
        have a2 : A2 ≤ 100000000000000 := by omega
        have a3 : A3 ≤ 360000000000 := by omega
        have hdt : (A2 * 100).tdiv A3 = v := by rw [Int.tdiv_eq_ediv_of_nonneg (by omega)]; exact hv
        have hd0 : 0 ≤ v := by rw [← hv]; exact Int.ediv_nonneg (by omega) (by omega)
        have hd1 : v ≤ 10000000000000000 := by
          have := Int.ediv_le_self (a := A2 * 100) A3 (by omega)
          rw [hv] at this; omega
        have ne0 : ¬ A3 = 0 := by omega
        have ne1 : (A3 == 0) = false := by rw [beq_eq_false_iff_ne]; omega
        obtain ⟨t0, t1⟩ := ht
        clear hA1 hA2 hA3 b1 b3 b21 hK
        go_enter Try.func26, Try.ntmps26
        go_wp2_with fail
        refine HH.out.mono ?_; rintro e w1 ⟨rfl, hg1⟩
        have HG := Lib.hid hg1
        have HS1 : Hid (IntsAt w1 ao l) := HS.out.grown hg1
        clear hg1
        go_wp2_with (go_at_call 79; refine (routside_no _ _ _ HT.out _).mono ?_; rintro e w9 ⟨rfl, rfl⟩)
        go_loopw [10, 28] (fun sv iv wr => ∃ k : Nat, k ≤ l.length ∧ sv = .int .i64 (knN l k : Nat) ∧ iv = .int .i64 k ∧ w1 = wr)
          (fun _ iv _ => l.length - (intOf iv).toNat)
        case atStart => exact ⟨0, Nat.zero_le _, rfl, rfl, by first | rfl | trivial⟩
        case round =>
          obtain ⟨k, hk, rfl, rfl, rfl⟩ := hrel
          by_cases hlt : k < l.length
          · obtain ⟨b, off, rfl, hc⟩ := HS1.out.at (by omega)
            have c0 := hc k hlt
            have hkk := knN_le l k
            have HNX : Hid (knN l (k + 1) = if 0 ≤ nthI l k then knN l k + 1 else knN l k) := rfl
            clear hc
            generalize nthI l k = x at *
            generalize knN l k = s at *
            by_cases a1 : 0 ≤ x
            · have hnx := HNX.out
              rw [if_pos a1] at hnx
              have HN2 : Hid ((s : Int) + 1 = ((knN l (k + 1) : Nat) : Int)) := by show _ = _; rw [hnx]; omega
              clear HNX hnx
              go_wp2_with fail
              go_roundw
              case rel => exact ⟨k + 1, by omega, by rw [← HN2.out], by go_num, by first | rfl | trivial⟩
              case measure => simp [intOf]; omega
            · have hnx := HNX.out
              rw [if_neg a1] at hnx
              have HN2 := Lib.hid hnx
              clear HNX hnx
              go_wp2_with fail
              go_roundw
              case rel => exact ⟨k + 1, by omega, by rw [HN2.out], by go_num, by first | rfl | trivial⟩
              case measure => simp [intOf]; omega
          · obtain rfl : k = l.length := by omega
            rw [HK.out]
            go_wp2_with fail
            go_ret3
            exact ⟨by rw [HV.out.1, HV.out.2.1, HV.out.2.2]; rfl, HG.out⟩
    · have HT := Lib.hid ht
      have HV : Hid (powV l h ok 0 t = 0 ∧ powB ok 0 t = false ∧ powE 0 t = 9) := by
        have hn : ¬ (0 = (0 : Int) ∧ 1 ≤ t ∧ t ≤ 10000) := fun q => ht q.2
        refine ⟨?_, ?_, ?_⟩
        · unfold powV; rw [if_neg (fun q => ht q.2.1)]
        · unfold powB; rw [decide_eq_false hn]; rfl
        · unfold powE; rw [if_pos rfl, if_neg ht]
      clear ht
      go_enter Try.func26, Try.ntmps26
      go_wp2_with fail
      refine HH.out.mono ?_; rintro e w1 ⟨rfl, hg1⟩
      have HG := Lib.hid hg1
      clear hg1
      go_wp2_with (go_at_call 79; refine (routside_yes _ _ _ HT.out _).mono ?_; rintro e w9 ⟨rfl, rfl⟩)
      go_ret3
      exact ⟨by rw [HV.out.1, HV.out.2.1, HV.out.2.2]; rfl, HG.out⟩
  · have HV : Hid (powV l h ok E t = 0 ∧ powB ok E t = false ∧ powE E t = E) := by
      refine ⟨?_, ?_, ?_⟩
      · unfold powV; rw [if_neg (fun q => h0 q.1)]
      · unfold powB; rw [decide_eq_false (fun q => h0 q.1)]; rfl
      · unfold powE; rw [if_neg h0]
    have hne : (E != 0) = true := by simpa using h0
    clear h0 hlen
    go_enter Try.func26, Try.ntmps26
    go_wp2_with fail
    refine HH.out.mono ?_; rintro e w1 ⟨rfl, hg1⟩
    have HG := Lib.hid hg1
    clear hg1
    go_wp2_with fail
    go_ret3
    exact ⟨by rw [HV.out.1, HV.out.2.1, HV.out.2.2]; rfl, HG.out⟩

end Go.Proofs.Ytdihmcbjoociiaa
