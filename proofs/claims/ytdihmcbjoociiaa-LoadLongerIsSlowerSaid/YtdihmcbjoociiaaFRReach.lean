/- The contracts of the reference's Predict and Reach. -/
import Derived.Test.YtdihmcbjoociiaaFReach
namespace Go.Proofs.Ytdihmcbjoociiaa
open Go.RowKit

set_option maxHeartbeats 800000 in
theorem RPredict_any (ao : Option Addr) (cap : Nat) (l : List RaceV) (hl : (l.length : Int) ≤ 9223372036854775807) (way s : Int) (w : World) (hs : PairsAt w ao l) {v E : Int} (hE : Hid (predE l way s = E)) (hv : Hid (predV l way s = v)) :
    Calls Try.prog 46 #[.slice ao l.length cap, .int .i64 way, .int .i64 s] w fun e w' => e = .returned (.tuple #[.int .i64 v, .int .i64 E]) ∧ w.grownBy w' none := by
  obtain ⟨re, hre⟩ : ∃ e, racesE l = e := ⟨_, rfl⟩
  have HRE := Lib.hid hre
  have HS := Lib.hid hs
  by_cases h0 : re = 0
  · subst h0
    have HOK : Hid (RacesOk l) := races_ok hre
    by_cases h1 : 1 ≤ way ∧ way ≤ 10000000
    · by_cases h2 : 0 ≤ s ∧ s ≤ 200
      · obtain ⟨p1, p2⟩ := predE_ok hre ⟨h1, h2⟩
        obtain rfl : E = 0 := hE.out.symm.trans p1
        have HV : Hid (predR s way ⟨0, 0⟩ l = v) := p2.symm.trans hv.out
        have H1 := Lib.hid h1; have H2 := Lib.hid h2
        clear hE hv hre hs p1 p2 h1 h2
        go_enter Try.func46, Try.ntmps46
        go_wp2_with fail
        refine (rcheckRaces_any ao cap l hl w HS.out HRE).mono ?_; rintro e w1 ⟨rfl, hg1⟩
        have HG := Lib.hid hg1
        clear hg1
        go_wp2_with (first
          | (go_at_call_of 79 (Value.int IntKind.i64 10000000); refine (routside_no _ _ _ (by have := H1.out; omega) _).mono ?_; rintro e w2 ⟨rfl, rfl⟩)
          | (go_at_call_of 79 (Value.int IntKind.i64 200); refine (routside_no _ _ _ (by have := H2.out; omega) _).mono ?_; rintro e w2 ⟨rfl, rfl⟩)
          | (go_at_call 104; refine (rpredict_is ao cap l HOK way s H1 H2 _ (HS.out.grown HG.out) HV).mono ?_; rintro e w2 ⟨rfl, hg2⟩))
        go_ret2
        exact ⟨rfl, grown_trans HG.out (by assumption)⟩
      · obtain ⟨p1, p2⟩ := predE_no (way := way) (s := s) hre (fun h => h2 h.2)
        obtain rfl : E = 9 := hE.out.symm.trans p1
        obtain rfl : v = 0 := hv.out.symm.trans p2
        have H1 := Lib.hid h1; have H2 := Lib.hid h2
        clear hE hv hre hs p1 p2 h1 h2
        go_enter Try.func46, Try.ntmps46
        go_wp2_with fail
        refine (rcheckRaces_any ao cap l hl w HS.out HRE).mono ?_; rintro e w1 ⟨rfl, hg1⟩
        have HG := Lib.hid hg1
        clear hg1
        go_wp2_with (first
          | (go_at_call_of 79 (Value.int IntKind.i64 10000000); refine (routside_no _ _ _ (by have := H1.out; omega) _).mono ?_; rintro e w2 ⟨rfl, rfl⟩)
          | (go_at_call_of 79 (Value.int IntKind.i64 200); refine (routside_yes _ _ _ (by have := H2.out; omega) _).mono ?_; rintro e w2 ⟨rfl, rfl⟩))
        go_ret2
        exact ⟨rfl, HG.out⟩
    · obtain ⟨p1, p2⟩ := predE_no (way := way) (s := s) hre (fun h => h1 h.1)
      obtain rfl : E = 9 := hE.out.symm.trans p1
      obtain rfl : v = 0 := hv.out.symm.trans p2
      have H1 := Lib.hid h1
      clear hE hv hre hs p1 p2 h1
      go_enter Try.func46, Try.ntmps46
      go_wp2_with fail
      refine (rcheckRaces_any ao cap l hl w HS.out HRE).mono ?_; rintro e w1 ⟨rfl, hg1⟩
      have HG := Lib.hid hg1
      clear hg1
      go_wp2_with (go_at_call 79; refine (routside_yes _ _ _ (by have := H1.out; omega) _).mono ?_; rintro e w2 ⟨rfl, rfl⟩)
      go_ret2
      exact ⟨rfl, HG.out⟩
  · obtain ⟨p1, p2⟩ := predE_err (way := way) (s := s) hre h0
    obtain rfl : E = re := hE.out.symm.trans p1
    obtain rfl : v = 0 := hv.out.symm.trans p2
    have hne : (E != 0) = true := by simpa using h0
    clear hE hv hre hs p1 p2 h0
    go_enter Try.func46, Try.ntmps46
    go_wp2_with fail
    refine (rcheckRaces_any ao cap l hl w HS.out HRE).mono ?_; rintro e w1 ⟨rfl, hg1⟩
    have HG := Lib.hid hg1
    clear hg1
    go_wp2_with fail
    go_ret2
    exact ⟨rfl, HG.out⟩

set_option maxHeartbeats 800000 in
theorem rreach_no (ao : Option Addr) (cap : Nat) (l : List RaceV) (hl : (l.length : Int) ≤ 9223372036854775807) (q s : Int) {E : Int} (h : Hid (reachE0 l q s = E)) (hE : ¬ E = 0) (w : World) (hs : PairsAt w ao l) :
    Calls Try.prog 48 #[.slice ao l.length cap, .int .i64 q, .int .i64 s] w fun e w' => e = .returned (.tuple #[.int .i64 0, .int .i64 E]) ∧ w.grownBy w' none := by
  have HS := Lib.hid hs
  obtain ⟨re, hre⟩ : ∃ e, racesE l = e := ⟨_, rfl⟩
  have HRE := Lib.hid hre
  have p := h.out
  unfold reachE0 at p
  rw [hre] at p
  clear h hs hre
  by_cases h0 : re = 0
  · rw [if_pos h0] at p
    subst h0
    by_cases h1 : 1 ≤ q ∧ q ≤ 1000000000
    · have h2 : ¬ (0 ≤ s ∧ s ≤ 200) := fun h2 => by
        rw [if_pos ⟨h1, h2⟩] at p; exact hE p.symm
      rw [if_neg (fun h => h2 h.2)] at p
      subst p
      have H1 := Lib.hid h1; have H2 := Lib.hid h2
      clear h1 h2 hE
      go_enter Try.func48, Try.ntmps48
      go_wp2_with fail
      refine (rcheckRaces_any ao cap l hl w HS.out HRE).mono ?_; rintro e w1 ⟨rfl, hg1⟩
      have K1 := Lib.hid hg1
      clear hg1
      go_wp2_with (first
        | (go_at_call_of 79 (Value.int IntKind.i64 1000000000); refine (routside_no _ _ _ (by have := H1.out; omega) _).mono ?_; rintro e w2 ⟨rfl, rfl⟩)
        | (go_at_call_of 79 (Value.int IntKind.i64 200); refine (routside_yes _ _ _ (by have := H2.out; omega) _).mono ?_; rintro e w2 ⟨rfl, rfl⟩))
      go_ret2
      exact ⟨rfl, K1.out⟩
    · rw [if_neg (fun h => h1 h.1)] at p
      subst p
      have H1 := Lib.hid h1
      clear h1 hE
      go_enter Try.func48, Try.ntmps48
      go_wp2_with fail
      refine (rcheckRaces_any ao cap l hl w HS.out HRE).mono ?_; rintro e w1 ⟨rfl, hg1⟩
      have K1 := Lib.hid hg1
      clear hg1
      go_wp2_with (go_at_call 79; refine (routside_yes _ _ _ (by have := H1.out; omega) _).mono ?_; rintro e w2 ⟨rfl, rfl⟩)
      go_ret2
      exact ⟨rfl, K1.out⟩
  · rw [if_neg h0] at p
    subst p
    have hne : (re != 0) = true := by simpa using h0
    clear h0 hE
    go_enter Try.func48, Try.ntmps48
    go_wp2_with fail
    refine (rcheckRaces_any ao cap l hl w HS.out HRE).mono ?_; rintro e w1 ⟨rfl, hg1⟩
    have K1 := Lib.hid hg1
    clear hg1
    go_wp2_with fail
    go_ret2
    exact ⟨rfl, K1.out⟩

set_option maxRecDepth 100000 in
set_option maxHeartbeats 1600000 in
theorem rreach_ok (ao : Option Addr) (cap : Nat) (l : List RaceV) (hl : (l.length : Int) ≤ 9223372036854775807) (q s : Int) (h : Hid (reachE0 l q s = 0)) {m : Nat} (hm : Hid (TurnsAt (slow l s q) 10000000 m)) (w : World) (hs : PairsAt w ao l) :
    Calls Try.prog 48 #[.slice ao l.length cap, .int .i64 q, .int .i64 s] w fun e w' => e = .returned (.tuple #[.int .i64 (reachV m), .int .i64 (reachR m)]) ∧ w.grownBy w' none := by
  have hr : racesE l = 0 := by
    have := h.out
    unfold reachE0 at this
    split at this
    · assumption
    · omega
  have hh : (1 ≤ q ∧ q ≤ 1000000000) ∧ 0 ≤ s ∧ s ≤ 200 := by
    have := h.out
    unfold reachE0 at this
    rw [if_pos hr] at this
    split at this
    · assumption
    · omega
  have HRE := Lib.hid hr
  have HOK : Hid (RacesOk l) := races_ok hr
  have H1 : Hid (1 ≤ q ∧ q ≤ 1000000000) := hh.1
  have H2 : Hid (0 ≤ s ∧ s ≤ 200) := hh.2
  have HS := Lib.hid hs
  have hml := hm.out.1
  obtain ⟨v, hv⟩ : ∃ v, predR s 1 ⟨0, 0⟩ l = v := ⟨_, rfl⟩
  have HV := Lib.hid hv
  have HW1 : Hid (1 ≤ (1 : Int) ∧ (1 : Int) ≤ 10000000) := by show _ ∧ _; omega
  have hs0 : slow l s q 0 = decide (q < v) := by unfold slow; rw [← hv]; rfl
  by_cases h0 : m = 0
  · subst h0
    have hqv : q < v := by
      have := hm.out.2.2 0 (Nat.le_refl _) (by omega)
      rw [hs0] at this
      simpa using this
    clear hh h hr hs hml hv hs0
    go_enter Try.func48, Try.ntmps48
    go_wp2_with fail
    refine (rcheckRaces_any ao cap l hl w HS.out HRE).mono ?_; rintro e w1 ⟨rfl, hg1⟩
    have K1 := Lib.hid hg1
    clear hg1
    go_wp2_with (first
      | (go_at_call_of 79 (Value.int IntKind.i64 1000000000); refine (routside_no _ _ _ (by have := H1.out; omega) _).mono ?_; rintro e w2 ⟨rfl, rfl⟩)
      | (go_at_call_of 79 (Value.int IntKind.i64 200); refine (routside_no _ _ _ (by have := H2.out; omega) _).mono ?_; rintro e w2 ⟨rfl, rfl⟩)
      | (go_at_call 104; refine (rpredict_is ao cap l HOK 1 s HW1 H2 _ (HS.out.grown K1.out) HV).mono ?_; rintro e w2 ⟨rfl, hg2⟩))
    go_ret2
    exact ⟨rfl, grown_trans K1.out (by assumption)⟩
  · have hqv : ¬ q < v := by
      have := hm.out.2.1 0 (by omega)
      rw [hs0] at this
      simpa using this
    have HR : Hid (reachR m = 0) := by show _ = _; unfold reachR; rw [if_neg h0]
    have HM0 : Hid (1 ≤ m ∧ m ≤ 10000000) := by show _ ∧ _; omega
    clear hh h hr hs hml hv hs0 h0
    go_enter Try.func48, Try.ntmps48
    go_wp2_with fail
    refine (rcheckRaces_any ao cap l hl w HS.out HRE).mono ?_; rintro e w1 ⟨rfl, hg1⟩
    have K1 := Lib.hid hg1
    clear hg1
    go_wp2_with (first
      | (go_at_call_of 79 (Value.int IntKind.i64 1000000000); refine (routside_no _ _ _ (by have := H1.out; omega) _).mono ?_; rintro e w2 ⟨rfl, rfl⟩)
      | (go_at_call_of 79 (Value.int IntKind.i64 200); refine (routside_no _ _ _ (by have := H2.out; omega) _).mono ?_; rintro e w2 ⟨rfl, rfl⟩)
      | (go_at_call 104; refine (rpredict_is ao cap l HOK 1 s HW1 H2 _ (HS.out.grown K1.out) HV).mono ?_; rintro e w2 ⟨rfl, hg2⟩))
    have K2 := Lib.hid (grown_trans K1.out (by assumption : World.grownBy w1 _ none))
    clear hqv K1 HV
    go_loopw [9, 10] (fun lv hv wr => ∃ (lo hi : Nat), lv = .int .i64 lo ∧ hv = .int .i64 hi ∧ 1 ≤ lo ∧ hi ≤ 10000000 ∧ Hid (lo ≤ m ∧ m ≤ hi) ∧ Hid (w.grownBy wr none))
      (fun lv hv _ => (intOf hv).toNat - (intOf lv).toNat)
    case atStart => exact ⟨1, 10000000, rfl, rfl, Nat.le_refl _, Nat.le_refl _, HM0.out, K2.out⟩
    case round =>
      obtain ⟨lo, hi, rfl, rfl, hlo, hhi, hM, hg⟩ := hrel
      by_cases hlt : lo < hi
      · obtain ⟨md, hmd⟩ : ∃ md, (lo + hi + 1) / 2 = md := ⟨_, rfl⟩
        have hq : ((lo : Int) + (hi : Int) + 1) / 2 = (md : Int) := by omega
        have hq2 : ((lo : Int) + (hi : Int) + 1).tdiv 2 = (md : Int) := by rw [Int.tdiv_eq_ediv_of_nonneg (by omega)]; exact hq
        have hmd1 : lo < md ∧ md ≤ hi := by omega
        have HX : Hid (1 ≤ (md : Int) ∧ (md : Int) ≤ 10000000) := by show _ ∧ _; omega
        obtain ⟨u, hu⟩ : ∃ u, predR s md ⟨0, 0⟩ l = u := ⟨_, rfl⟩
        have HU := Lib.hid hu
        have hpu : slow l s q (md - 1) = decide (q < u) := by
          unfold slow
          rw [show ((md - 1 : Nat) : Int) + 1 = (md : Int) by omega, hu]
        have HMD := Lib.hid hmd
        by_cases hau : u ≤ q
        · have HM2 : Hid (md ≤ m ∧ m ≤ hi) := by
            refine ⟨?_, hM.out.2⟩
            rcases Nat.lt_or_ge (md - 1) m with z | z
            · omega
            · have := hm.out.2.2 _ z (by omega)
              rw [hpu, decide_eq_false (by omega)] at this; cases this
          clear hu hpu hmd
          go_wp2_with (go_at_call 104; refine (rpredict_is ao cap l HOK md s HX H2 _ (HS.out.grown hg.out) HU).mono ?_; rintro e w3 ⟨rfl, hg3⟩)
          go_roundw
          case measure => have := HMD.out; simp [intOf]; omega
          case rel => exact ⟨md, hi, rfl, rfl, by omega, hhi, HM2.out, grown_trans hg.out (by assumption)⟩
        · have HM2 : Hid (lo ≤ m ∧ m ≤ md - 1) := by
            refine ⟨hM.out.1, ?_⟩
            rcases Nat.lt_or_ge (md - 1) m with z | z
            · have := hm.out.2.1 _ z
              rw [hpu, decide_eq_true (by omega)] at this; cases this
            · exact z
          have em : (md : Int) - 1 = ((md - 1 : Nat) : Int) := by omega
          clear hu hpu hmd
          go_wp2_with (go_at_call 104; refine (rpredict_is ao cap l HOK md s HX H2 _ (HS.out.grown hg.out) HU).mono ?_; rintro e w3 ⟨rfl, hg3⟩)
          go_roundw
          case measure => have := HMD.out; simp [intOf]; omega
          case rel => exact ⟨lo, md - 1, rfl, by rw [← em], hlo, by omega, HM2.out, grown_trans hg.out (by assumption)⟩
      · have HL : Hid ((lo : Int) = m) := by show _ = _; have := hM.out; omega
        go_wp2
        go_ret2
        exact ⟨by rw [HR.out, HL.out]; rfl, hg.out⟩

end Go.Proofs.Ytdihmcbjoociiaa
