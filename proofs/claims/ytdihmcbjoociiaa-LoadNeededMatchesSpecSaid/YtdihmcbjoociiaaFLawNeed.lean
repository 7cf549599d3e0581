/- For all numbers, Needed returns what the reference returns; with this load the aim is reached, with one less it is not: the walk. -/
import Derived.Test.YtdihmcbjoociiaaFRNeed
import Derived.Test.YtdihmcbjoociiaaFTold
namespace Go.Proofs.Ytdihmcbjoociiaa
open Go.RowKit

theorem fstep_ok {s x c : Int} (hs : 0 ≤ s ∧ s ≤ 10000000) (hx : 0 ≤ x ∧ x ≤ 10000) (hc : 1 ≤ c ∧ c ≤ 1000) : fstepE s x c = 0 ∧ fstepV s x c = stepF s x c := by
  have h : fstepE s x c = 0 := by unfold fstepE; rw [if_pos ⟨hs, hx, hc⟩]
  exact ⟨h, by unfold fstepV; rw [if_pos h]⟩

set_option maxHeartbeats 800000 in
theorem last_is (x : Int) (hx : Hid (0 ≤ x ∧ x ≤ 10000)) (bf bd bc : Nat) (d : Nat) (hd : (d : Int) ≤ 5000) (s c : Int) (hs : Hid (0 ≤ s ∧ s ≤ 10000000)) (hc : Hid (1 ≤ c ∧ c ≤ 1000)) (W : World)
    (cd : W.cell? ⟨bd, 0, none⟩ = some (.int .i64 d)) (cf : W.cell? ⟨bf, 0, none⟩ = some (.int .i64 s)) (cc : W.cell? ⟨bc, 0, none⟩ = some (.int .i64 c)) {v : Int} (hv : Hid (bhN s x c d = v)) :
    Calls Try.prog 38 #[.int .i64 x, .pointer (some ⟨bf, 0, none⟩), .pointer (some ⟨bd, 0, none⟩), .pointer (some ⟨bc, 0, none⟩)] W fun e w' => e = .returned (.int .i64 v) ∧ W = w' := by
  go_enter Try.func38, Try.ntmps38
  go_wp2
  go_loopw [6, 9] (fun sv iv wr => ∃ k : Nat, k ≤ d ∧ sv = .int .i64 (bhN s x c k) ∧ iv = .int .i64 k ∧ W = wr)
    (fun _ iv _ => d - (intOf iv).toNat)
  case atStart => exact ⟨0, Nat.zero_le _, rfl, rfl, by first | rfl | trivial⟩
  case round =>
    obtain ⟨k, hk, rfl, rfl, rfl⟩ := hrel
    by_cases hlt : k < d
    · have HB : Hid (0 ≤ bhN s x c k ∧ bhN s x c k ≤ 10000000) := bhN_bd hs.out hx.out hc.out.1 k
      have HE : Hid (fstepE (bhN s x c k) x c = 0) := (fstep_ok HB.out hx.out hc.out).1
      have HV : Hid (fstepV (bhN s x c k) x c = bhN s x c (k + 1)) := (fstep_ok HB.out hx.out hc.out).2
      generalize bhN s x c k = y at *
      generalize hz : bhN s x c (k + 1) = z at *
      have HZ := Lib.hid hz
      clear hz
      go_wp2_with (go_at_call 34; refine (RStep_any _ _ _ _ HE HV).mono ?_; rintro e w1 ⟨rfl, rfl⟩)
      go_roundw
      case rel => exact ⟨k + 1, by omega, by rw [HZ.out], by go_num, by first | rfl | trivial⟩
      case measure => simp [intOf]; omega
    · obtain rfl : k = d := by omega
      rw [hv.out]
      go_wp2
      go_ret
      exact ⟨rfl, rfl⟩

set_option maxRecDepth 100000 in
set_option maxHeartbeats 1600000 in
theorem needed_law (s c days aim : Int) (w : World) :
    Calls Try.prog 7 #[.int .i64 s, .int .i64 c, .int .i64 days, .int .i64 aim] w fun e w' => e = .returned (.bool true) ∧ w.grownBy w' none := by
  have hmf : ∀ (fn : Fn) (first cap : Array Value) (w : World), (Instr.makeFunc fn first cap).run Try.prog w = .ok (.func fn first cap) w := fun _ _ _ _ => rfl
  obtain ⟨w0, hw0⟩ : ∃ w0, w0 = ((w.alloc (.cells #[.int .i64 s] 3)).alloc (.cells #[.int .i64 c] 3)).alloc (.cells #[.int .i64 days] 3) := ⟨_, rfl⟩
  have K0 : Hid (w.grownBy w0 none) := by show World.grownBy _ _ _; rw [hw0]; exact grown_trans (grown_trans (World.grownBy_alloc _ _ _) (World.grownBy_alloc _ _ _)) (World.grownBy_alloc _ _ _)
  have cs : w0.cell? ⟨w.heap.size, 0, none⟩ = some (.int .i64 s) := by rw [hw0]; go_simp
  have cc : w0.cell? ⟨w.heap.size + 1, 0, none⟩ = some (.int .i64 c) := by rw [hw0]; go_simp
  have cd : w0.cell? ⟨w.heap.size + 1 + 1, 0, none⟩ = some (.int .i64 days) := by rw [hw0]; go_simp
  by_cases hE : neededE s c days aim = 0
  · have HE := Lib.hid hE
    have hh : (0 ≤ s ∧ s ≤ 10000000) ∧ (1 ≤ c ∧ c ≤ 1000) ∧ (0 ≤ days ∧ days ≤ 5000) ∧ 0 ≤ aim ∧ aim ≤ 10000000 := by
      have q := hE
      unfold neededE at q
      split at q
      · assumption
      · omega
    obtain ⟨m, hm⟩ := turns_some (p := enough s c days.toNat aim) (fun a b hab ha => enough_up hh.2.1.1 hab ha) 10001
    have HM := Lib.hid hm
    have H1 : Hid (0 ≤ s ∧ s ≤ 10000000) := hh.1
    have H2 : Hid (1 ≤ c ∧ c ≤ 1000) := hh.2.1
    obtain ⟨d, rfl⟩ : ∃ d : Nat, days = d := ⟨days.toNat, by omega⟩
    have hd : (d : Int) ≤ 5000 := by omega
    rw [Int.toNat_natCast] at hm
    have hm2 := hm.1
    by_cases h1 : m = 10001
    · subst h1
      clear hE hm hh hm2
      go_enter Try.func7, Try.ntmps7
      go_wp2_with fail
      rw [← hw0]
      clear hw0
      refine (needed_ok s c d aim HE HM _).mono ?_; rintro e w1 ⟨rfl, hg1⟩
      have K1 := Lib.hid (grown_trans K0.out hg1)
      have cs1 := grown_cell hg1 cs; have cc1 := grown_cell hg1 cc; have cd1 := grown_cell hg1 cd
      clear hg1 cs cc cd K0
      simp only [neededV, if_true]
      go_wp2_with fail
      refine (rneeded_ok s c d aim HE HM _).mono ?_; rintro e w2 ⟨rfl, hg2⟩
      have K2 := Lib.hid (grown_trans K1.out hg2)
      clear hg2 cs1 cc1 cd1 K1
      simp only [neededV, if_true]
      go_wp2_with fail
      refine (ftold_any _).mono ?_; rintro e w6 ⟨rfl, hg6⟩
      have K6 := Lib.hid (grown_trans K2.out hg6)
      clear hg6
      go_wp2_with fail
      go_ret
      exact ⟨by first | rfl | simp, K6.out⟩
    · have HN : Hid (neededV m = ((m : Int), true)) := by show _ = _; unfold neededV; rw [if_neg h1]
      have HX : Hid (0 ≤ (m : Int) ∧ (m : Int) ≤ 10000) := by show _ ∧ _; omega
      obtain ⟨v, hv⟩ : ∃ v, bhN s m c d = v := ⟨_, rfl⟩
      have HV := Lib.hid hv
      have hva : aim ≤ v := by
        have := hm.2.2 m (Nat.le_refl _) (by omega)
        unfold enough at this
        rw [hv] at this
        simpa using this
      have hprev : 0 < m → bhN s ((m : Int) - 1) c d < aim := fun h0 => by
        have := hm.2.1 (m - 1) (by omega)
        unfold enough at this
        rw [show ((m - 1 : Nat) : Int) = (m : Int) - 1 by omega] at this
        simp only [decide_eq_false_iff_not] at this
        omega
      by_cases h0 : m = 0
      · subst h0
        clear hE hm hh hm2 hv h1 hprev
        go_enter Try.func7, Try.ntmps7
        go_wp2_with fail
        rw [← hw0]
        clear hw0
        refine (needed_ok s c d aim HE HM _).mono ?_; rintro e w1 ⟨rfl, hg1⟩
        rw [HN.out]
        have K1 := Lib.hid (grown_trans K0.out hg1)
        have cs1 := grown_cell hg1 cs; have cc1 := grown_cell hg1 cc; have cd1 := grown_cell hg1 cd
        clear hg1 cs cc cd K0
        go_wp2_with fail
        refine (rneeded_ok s c d aim HE HM _).mono ?_; rintro e w2 ⟨rfl, hg2⟩
        rw [HN.out]
        have K2 := Lib.hid (grown_trans K1.out hg2)
        have cs2 := grown_cell hg2 cs1; have cc2 := grown_cell hg2 cc1; have cd2 := grown_cell hg2 cd1
        clear hg2 cs1 cc1 cd1 K1
        go_wp2_with fail
        refine (last_is _ HX _ _ _ d hd s c H1 H2 w2 cd2 cs2 cc2 HV).mono ?_; rintro e w3 ⟨rfl, rfl⟩
        go_wp2_with fail
        refine (ftold_any _).mono ?_; rintro e w6 ⟨rfl, hg6⟩
        have K6 := Lib.hid (grown_trans K2.out hg6)
        clear hg6
        go_wp2_with fail
        go_ret
        exact ⟨by first | rfl | simp, K6.out⟩
      · have hp := hprev (by omega)
        obtain ⟨u, hu⟩ : ∃ u, bhN s ((m : Int) - 1) c d = u := ⟨_, rfl⟩
        have HU := Lib.hid hu
        rw [hu] at hp
        have HX1 : Hid (0 ≤ (m : Int) - 1 ∧ (m : Int) - 1 ≤ 10000) := by show _ ∧ _; omega
        have h0' : ¬ (m : Int) = 0 := by omega
        have hml : (m : Int) ≤ 10000 := by omega
        clear hE hm hh hm2 hv hu h1 hprev h0
        go_enter Try.func7, Try.ntmps7
        go_wp2_with fail
        rw [← hw0]
        clear hw0
        refine (needed_ok s c d aim HE HM _).mono ?_; rintro e w1 ⟨rfl, hg1⟩
        rw [HN.out]
        have K1 := Lib.hid (grown_trans K0.out hg1)
        have cs1 := grown_cell hg1 cs; have cc1 := grown_cell hg1 cc; have cd1 := grown_cell hg1 cd
        clear hg1 cs cc cd K0
        go_wp2_with fail
        refine (rneeded_ok s c d aim HE HM _).mono ?_; rintro e w2 ⟨rfl, hg2⟩
        rw [HN.out]
        have K2 := Lib.hid (grown_trans K1.out hg2)
        have cs2 := grown_cell hg2 cs1; have cc2 := grown_cell hg2 cc1; have cd2 := grown_cell hg2 cd1
        clear hg2 cs1 cc1 cd1 K1
        go_wp2_with fail
        refine (last_is _ HX _ _ _ d hd s c H1 H2 w2 cd2 cs2 cc2 HV).mono ?_; rintro e w3 ⟨rfl, rfl⟩
        go_wp2_with fail
        refine (last_is _ HX1 _ _ _ d hd s c H1 H2 w2 cd2 cs2 cc2 HU).mono ?_; rintro e w3 ⟨rfl, rfl⟩
        go_wp2_with fail
        refine (ftold_any _).mono ?_; rintro e w6 ⟨rfl, hg6⟩
        have K6 := Lib.hid (grown_trans K2.out hg6)
        clear hg6
        go_wp2_with fail
        go_ret
        exact ⟨by first | rfl | simp, K6.out⟩
  · have HE := Lib.hid hE
    clear hE
    go_enter Try.func7, Try.ntmps7
    go_wp2_with fail
    rw [← hw0]
    clear hw0
    refine (needed_no s c days aim HE _).mono ?_; rintro e w1 ⟨rfl, hg1⟩
    have K1 := Lib.hid (grown_trans K0.out hg1)
    have cs1 := grown_cell hg1 cs; have cc1 := grown_cell hg1 cc; have cd1 := grown_cell hg1 cd
    clear hg1 cs cc cd K0
    go_wp2_with fail
    refine (rneeded_no s c days aim HE _).mono ?_; rintro e w2 ⟨rfl, hg2⟩
    have K2 := Lib.hid (grown_trans K1.out hg2)
    clear hg2 cs1 cc1 cd1 K1
    go_wp2_with fail
    refine (ftold_any _).mono ?_; rintro e w6 ⟨rfl, hg6⟩
    have K6 := Lib.hid (grown_trans K2.out hg6)
    clear hg6
    go_wp2_with fail
    go_ret
    exact ⟨by first | rfl | simp, K6.out⟩

end Go.Proofs.Ytdihmcbjoociiaa
