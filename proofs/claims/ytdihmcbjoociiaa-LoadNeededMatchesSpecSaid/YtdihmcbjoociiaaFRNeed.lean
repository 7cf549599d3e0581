/- The contract of the reference's Needed. -/
import Derived.Test.YtdihmcbjoociiaaFRStep
import Derived.Test.YtdihmcbjoociiaaFNeed
namespace Go.Proofs.Ytdihmcbjoociiaa
open Go.RowKit

set_option maxHeartbeats 800000 in
theorem rbehind_is (days : Nat) (hd : (days : Int) ≤ 5000) (s x c : Int) (hs : Hid (0 ≤ s ∧ s ≤ 10000000)) (hx : Hid (0 ≤ x ∧ x ≤ 10000)) (hc : Hid (1 ≤ c ∧ c ≤ 1000)) (w : World) {v : Int} (hv : Hid (bhN s x c days = v)) :
    Calls Try.prog 98 #[.int .i64 s, .int .i64 x, .int .i64 c, .int .i64 days] w fun e w' => e = .returned (.int .i64 v) ∧ w = w' := by
  go_enter Try.func98, Try.ntmps98
  go_wp2
  go_loopw [0, 10] (fun sv iv wr => ∃ k : Nat, k ≤ days ∧ sv = .int .i64 (bhN s x c k) ∧ iv = .int .i64 k ∧ w = wr)
    (fun _ iv _ => days - (intOf iv).toNat)
  case atStart => exact ⟨0, Nat.zero_le _, rfl, rfl, by first | rfl | trivial⟩
  case round =>
    obtain ⟨k, hk, rfl, rfl, rfl⟩ := hrel
    by_cases hlt : k < days
    · have HB : Hid (0 ≤ bhN s x c k ∧ bhN s x c k ≤ 10000000) := bhN_bd hs.out hx.out hc.out.1 k
      have HV : Hid (stepF (bhN s x c k) x c = bhN s x c (k + 1)) := rfl
      generalize bhN s x c k = y at *
      generalize hz : bhN s x c (k + 1) = z at *
      have HZ := Lib.hid hz
      clear hz
      go_wp2_with (go_at_call 92; refine (rstep_is _ _ _ HB.out hx.out hc.out _ HV).mono ?_; rintro e w1 ⟨rfl, rfl⟩)
      go_roundw
      case rel => exact ⟨k + 1, by omega, by rw [HZ.out], by go_num, by first | rfl | trivial⟩
      case measure => simp [intOf]; omega
    · obtain rfl : k = days := by omega
      rw [hv.out]
      go_wp2
      go_ret
      exact ⟨rfl, rfl⟩

set_option maxRecDepth 100000 in
set_option maxHeartbeats 1600000 in
theorem rneeded_ok (s c days aim : Int) (h : Hid (neededE s c days aim = 0)) {m : Nat} (hm : Hid (TurnsAt (enough s c days.toNat aim) 10001 m)) (w : World) :
    Calls Try.prog 37 #[.int .i64 s, .int .i64 c, .int .i64 days, .int .i64 aim] w fun e w' => e = .returned (.tuple #[.int .i64 (neededV m).1, .bool (neededV m).2, .int .i64 0]) ∧ w.grownBy w' none := by
  have hh : (0 ≤ s ∧ s ≤ 10000000) ∧ (1 ≤ c ∧ c ≤ 1000) ∧ (0 ≤ days ∧ days ≤ 5000) ∧ 0 ≤ aim ∧ aim ≤ 10000000 := by
    have q := h.out
    unfold neededE at q
    split at q
    · assumption
    · omega
  obtain ⟨d, rfl⟩ : ∃ d : Nat, days = d := ⟨days.toNat, by omega⟩
  rw [Int.toNat_natCast] at hm
  have H0 : Hid ((0 ≤ s ∧ s ≤ 10000000) ∧ 1 ≤ c ∧ c ≤ 1000) := ⟨hh.1, hh.2.1⟩
  have H1 : Hid (0 ≤ s ∧ s ≤ 10000000) := hh.1
  have H2 : Hid (1 ≤ c ∧ c ≤ 1000) := hh.2.1
  have H3 : Hid (0 ≤ (d : Int) ∧ (d : Int) ≤ 5000) := hh.2.2.1
  have H4 : Hid (0 ≤ aim ∧ aim ≤ 10000000) := hh.2.2.2
  have hd : (d : Int) ≤ 5000 := hh.2.2.1.2
  have HT : Hid (0 ≤ (10000 : Int) ∧ (10000 : Int) ≤ 10000) := by show _ ∧ _; omega
  obtain ⟨v, hv⟩ : ∃ v, bhN s 10000 c d = v := ⟨_, rfl⟩
  have HV := Lib.hid hv
  have hpv : enough s c d aim 10000 = decide (aim ≤ v) := by unfold enough; rw [← hv]; rfl
  have hml := hm.out.1
  by_cases h1 : m = 10001
  · subst h1
    have hvl : v < aim := by
      have := hm.out.2.1 10000 (by omega)
      rw [hpv] at this
      simp only [decide_eq_false_iff_not] at this
      omega
    clear hh h hv hpv hml
    go_enter Try.func37, Try.ntmps37
    go_wp2_with (first
      | (go_at_call 91; refine (rfault_ok _ _ H0 _).mono ?_; rintro e w1 ⟨rfl, rfl⟩)
      | (go_at_call_of 79 (Value.int IntKind.i64 (d : Int)); refine (routside_no _ _ _ (by have := H3.out; omega) _).mono ?_; rintro e w1 ⟨rfl, rfl⟩)
      | (go_at_call_of 79 (Value.int IntKind.i64 aim); refine (routside_no _ _ _ (by have := H4.out; omega) _).mono ?_; rintro e w1 ⟨rfl, rfl⟩)
      | (go_at_call 98; refine (rbehind_is d hd s 10000 c H1 HT H2 _ HV).mono ?_; rintro e w1 ⟨rfl, rfl⟩))
    go_ret3
    exact ⟨rfl, grown_refl _ _⟩
  · have hvl : aim ≤ v := by
      have := hm.out.2.2 10000 (by omega) (by omega)
      rw [hpv] at this
      simpa using this
    have HN : Hid (neededV m = ((m : Int), true)) := by show _ = _; unfold neededV; rw [if_neg h1]
    have HM0 : Hid (0 ≤ m ∧ m ≤ 10000) := by show _ ∧ _; omega
    clear hh h hv hpv hml h1
    go_enter Try.func37, Try.ntmps37
    go_wp2_with (first
      | (go_at_call 91; refine (rfault_ok _ _ H0 _).mono ?_; rintro e w1 ⟨rfl, rfl⟩)
      | (go_at_call_of 79 (Value.int IntKind.i64 (d : Int)); refine (routside_no _ _ _ (by have := H3.out; omega) _).mono ?_; rintro e w1 ⟨rfl, rfl⟩)
      | (go_at_call_of 79 (Value.int IntKind.i64 aim); refine (routside_no _ _ _ (by have := H4.out; omega) _).mono ?_; rintro e w1 ⟨rfl, rfl⟩)
      | (go_at_call 98; refine (rbehind_is d hd s 10000 c H1 HT H2 _ HV).mono ?_; rintro e w1 ⟨rfl, rfl⟩))
    go_loopw [12, 13] (fun lv hv wr => ∃ (lo hi : Nat), lv = .int .i64 lo ∧ hv = .int .i64 hi ∧ hi ≤ 10000 ∧ Hid (lo ≤ m ∧ m ≤ hi) ∧ w = wr)
      (fun lv hv _ => (intOf hv).toNat - (intOf lv).toNat)
    case atStart => exact ⟨0, 10000, rfl, rfl, Nat.le_refl _, HM0.out, by first | rfl | trivial⟩
    case round =>
      obtain ⟨lo, hi, rfl, rfl, hhi, hM, rfl⟩ := hrel
      by_cases hlt : lo < hi
      · obtain ⟨md, hmd⟩ : ∃ md, (lo + hi) / 2 = md := ⟨_, rfl⟩
        have hq : ((lo : Int) + (hi : Int)) / 2 = (md : Int) := by omega
        have hq2 : ((lo : Int) + (hi : Int)).tdiv 2 = (md : Int) := by rw [Int.tdiv_eq_ediv_of_nonneg (by omega)]; exact hq
        have hmd1 : md ≤ 10000 := by omega
        have HX : Hid (0 ≤ (md : Int) ∧ (md : Int) ≤ 10000) := by show _ ∧ _; omega
        obtain ⟨u, hu⟩ : ∃ u, bhN s md c d = u := ⟨_, rfl⟩
        have HU := Lib.hid hu
        have hpu : enough s c d aim md = decide (aim ≤ u) := by unfold enough; rw [hu]
        have HMD := Lib.hid hmd
        by_cases hau : aim ≤ u
        · have HM2 : Hid (lo ≤ m ∧ m ≤ md) := by
            refine ⟨hM.out.1, ?_⟩
            rcases Nat.lt_or_ge md m with q | q
            · have := hm.out.2.1 _ q
              rw [hpu, decide_eq_true hau] at this; cases this
            · exact q
          clear hu hpu hmd
          go_wp2_with (go_at_call 98; refine (rbehind_is d hd s md c H1 HX H2 _ HU).mono ?_; rintro e w1 ⟨rfl, rfl⟩)
          go_roundw
          case measure => have := HMD.out; simp [intOf]; omega
          case rel => exact ⟨lo, md, rfl, rfl, by omega, HM2.out, by first | rfl | trivial⟩
        · have HM2 : Hid (md + 1 ≤ m ∧ m ≤ hi) := by
            refine ⟨?_, hM.out.2⟩
            rcases Nat.lt_or_ge md m with q | q
            · exact q
            · have := hm.out.2.2 _ q (by omega)
              rw [hpu, decide_eq_false hau] at this; cases this
          clear hu hpu hmd
          go_wp2_with (go_at_call 98; refine (rbehind_is d hd s md c H1 HX H2 _ HU).mono ?_; rintro e w1 ⟨rfl, rfl⟩)
          go_roundw
          case measure => have := HMD.out; simp [intOf]; omega
          case rel => exact ⟨md + 1, hi, by go_num, rfl, by omega, HM2.out, by first | rfl | trivial⟩
      · have HL : Hid ((lo : Int) = m) := by show _ = _; have := hM.out; omega
        go_wp2
        go_ret3
        exact ⟨by rw [HN.out, HL.out]; rfl, grown_refl _ _⟩

theorem rneeded_no (s c days aim : Int) (h : Hid (¬ neededE s c days aim = 0)) (w : World) :
    Calls Try.prog 37 #[.int .i64 s, .int .i64 c, .int .i64 days, .int .i64 aim] w fun e w' => e = .returned (.tuple #[.int .i64 0, .bool false, .int .i64 9]) ∧ w.grownBy w' none := by
  have hh : ¬ ((0 ≤ s ∧ s ≤ 10000000) ∧ (1 ≤ c ∧ c ≤ 1000) ∧ (0 ≤ days ∧ days ≤ 5000) ∧ 0 ≤ aim ∧ aim ≤ 10000000) := fun q => h.out (by unfold neededE; rw [if_pos q])
  clear h
  by_cases h1 : (0 ≤ s ∧ s ≤ 10000000) ∧ 1 ≤ c ∧ c ≤ 1000
  · have H1 := Lib.hid h1
    by_cases h3 : 0 ≤ days ∧ days ≤ 5000
    · have H3 := Lib.hid h3
      have H4 : Hid (¬ (0 ≤ aim ∧ aim ≤ 10000000)) := fun h4 => hh ⟨h1.1, h1.2, h3, h4⟩
      clear h1 h3 hh
      go_enter Try.func37, Try.ntmps37
      go_wp2_with (first
        | (go_at_call 91; refine (rfault_ok _ _ H1 _).mono ?_; rintro e w1 ⟨rfl, rfl⟩)
        | (go_at_call_of 79 (Value.int IntKind.i64 5000); refine (routside_no _ _ _ (by have := H3.out; omega) _).mono ?_; rintro e w1 ⟨rfl, rfl⟩)
        | (go_at_call_of 79 (Value.int IntKind.i64 10000000); refine (routside_yes _ _ _ (by have := H4.out; omega) _).mono ?_; rintro e w1 ⟨rfl, rfl⟩))
      go_ret3
      exact ⟨rfl, grown_refl _ _⟩
    · have H3 := Lib.hid h3
      clear h1 h3 hh
      go_enter Try.func37, Try.ntmps37
      go_wp2_with (first
        | (go_at_call 91; refine (rfault_ok _ _ H1 _).mono ?_; rintro e w1 ⟨rfl, rfl⟩)
        | (go_at_call 79; refine (routside_yes _ _ _ (by have := H3.out; omega) _).mono ?_; rintro e w1 ⟨rfl, rfl⟩))
      go_ret3
      exact ⟨rfl, grown_refl _ _⟩
  · have H1 := Lib.hid h1
    clear h1 hh
    go_enter Try.func37, Try.ntmps37
    go_wp2_with (first
      | (go_at_call 91; refine (rfault_no _ _ H1 _).mono ?_; rintro e w1 ⟨rfl, rfl⟩))
    go_ret3
    exact ⟨rfl, grown_refl _ _⟩

end Go.Proofs.Ytdihmcbjoociiaa
