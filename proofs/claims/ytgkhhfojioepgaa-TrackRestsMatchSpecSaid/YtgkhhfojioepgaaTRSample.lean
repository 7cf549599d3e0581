/- The contract of the reference's sampleFault. -/
import Derived.Test.YtgkhhfojioepgaaTCheck
import Derived.Test.YtgkhhfojioepgaaTRName
namespace Go.Proofs.Ytgkhhfojioepgaa
open Go.RowKit
set_option linter.unusedSimpArgs false
set_option linter.unusedVariables false

theorem out_no (n lo hi : Int) (h0 : lo ≤ n) (h1 : n ≤ hi) (w : World) : Calls Try.prog 121 #[.int .i64 n, .int .i64 lo, .int .i64 hi] w fun e w' => e = .returned (.bool false) ∧ w = w' := by
  have h2 : decide (n < lo) = false := by simp; omega
  have h3 : decide (hi < n) = false := by simp; omega
  go_enter Try.func121, Try.ntmps121
  go_wp2
  go_ret
  exact ⟨ret_bool (by first | rfl | (simp; omega)), rfl⟩
theorem out_yes (n lo hi : Int) (h : n < lo ∨ hi < n) (w : World) : Calls Try.prog 121 #[.int .i64 n, .int .i64 lo, .int .i64 hi] w fun e w' => e = .returned (.bool true) ∧ w = w' := by
  by_cases h0 : n < lo
  · clear h
    go_enter Try.func121, Try.ntmps121
    go_wp2
    go_ret
    exact ⟨ret_bool (by first | rfl | (simp; omega)), rfl⟩
  · have h1 : hi < n := by omega
    have h2 : decide (n < lo) = false := by simp; omega
    clear h
    go_enter Try.func121, Try.ntmps121
    go_wp2
    go_ret
    exact ⟨ret_bool (by first | rfl | (simp; omega)), rfl⟩

def sampF (st : Int) (b : Option Int) (x : Smp) : Int := if early b x.t then 10 else if smpIn st x then 0 else 9

set_option maxRecDepth 100000 in
set_option maxHeartbeats 6400000 in
theorem rsample_some (nm : ByteArray) (sp st : Int) (b off sc : Nat) (ss : List Smp) (lo : Option Addr) (lc : Nat) (ls : List LapV) (to_ : Option Addr) (tc : Nat) (ts : List ByteArray) (s0 : 0 ≤ st) (s1 : st ≤ 86399999999) (hl : (ss.length : Int) ≤ 9223372036854775807) (k : Nat) (hlt : k < ss.length) (w : World) (hs : SmpsAt w (some ⟨b, off, none⟩) ss) (hp : Hid (∀ p, prevT ss k = some p → 0 ≤ p)) {E : Int} (hE : Hid (sampF st (prevT ss k) ss[k] = E)) :
    Calls Try.prog 122 #[.agg #[.string nm, .int .i64 sp, .int .i64 st, .slice (some ⟨b, off, none⟩) ss.length sc, .slice lo ls.length lc, .slice to_ ts.length tc], .int .i64 k] w fun e w' => e = .returned (.int .i64 E) ∧ w.grownBy w' none := by
  obtain ⟨c0, c1, c2, c3, c4, c5, c6⟩ := hs.cells _ rfl k hlt
  simp only at c0 c1 c2 c3 c4 c5 c6
  have RE : early (prevT ss k) ss[k].t → Hid (E = 10) := fun h => by show _ = _; rw [← hE.out, sampF, if_pos h]
  have RO : ¬ early (prevT ss k) ss[k].t → ¬ smpIn st ss[k] → Hid (E = 9) := fun h h' => by show _ = _; rw [← hE.out, sampF, if_neg h, if_neg h']
  have RN : ¬ early (prevT ss k) ss[k].t → smpIn st ss[k] → Hid (E = 0) := fun h h' => by show _ = _; rw [← hE.out, sampF, if_neg h, if_pos h']
  clear hE
  have HS := Lib.hid hs; have HLT := Lib.hid hlt; clear hs
  generalize ss[k] = x at *
  obtain ⟨t, px, py, pz, pp, pq, ps⟩ := x
  simp only at c0 c1 c2 c3 c4 c5 c6 RE RO RN
  have B0 := World.grownBy_alloc w (.cells #[.string nm, .int .i64 sp, .int .i64 st, .slice (some ⟨b, off, none⟩) ss.length sc, .slice lo ls.length lc, .slice to_ ts.length tc] 26) none
  have d0 := grown_cell B0 c0; have d1 := grown_cell B0 c1; have d2 := grown_cell B0 c2; have d3 := grown_cell B0 c3; have d4 := grown_cell B0 c4; have d5 := grown_cell B0 c5; have d6 := grown_cell B0 c6
  clear B0
  by_cases hk0 : k = 0
  · have e0 : ((k : Int) == 0) = true := by simp; omega
    have e2 : decide (0 < (k : Int)) = false := by simp; omega
    have e3 : decide (0 < k) = false := by simp; omega
    have hpk : Hid (prevT ss k = none) := by subst hk0; exact rfl
    have HK := Lib.hid hk0
    clear hk0
    by_cases ht : t = 0
    · have e1 : (t != 0) = false := by simpa using ht
      have tl0 : 0 ≤ t := by omega
      have tl1 : t ≤ 0 := by omega
      have NE : Hid (¬ early (prevT ss k) t) := by show ¬ _; rw [hpk.out]; unfold early; simpa using ht
      clear ht
      have ta : ¬ 1000000 < t := by omega
      have tb : ¬ 86399999999 < st + t := by omega
      by_cases t0 : -100000000 ≤ px ∧ px ≤ 100000000
      rotate_left
      · have HE := RO NE.out (by unfold smpIn; simp only; omega)
        have Q0 : Hid (px < -100000000 ∨ 100000000 < px) := by show _ ∨ _; omega
        clear RE RO RN t0
        go_enter Try.func122, Try.ntmps122
        go_wp2_with fail
        go_quiet (fail)
        clear e0 e2
        go_wp2_with fail
        refine (out_yes _ _ _ Q0.out _).mono ?_; rintro e w1 ⟨rfl, rfl⟩
        go_wp2_with fail
        go_ret
        exact ⟨ret_int HE.out.symm, grown_trans (grown_trans (World.grownBy_alloc _ _ _) (World.grownBy_alloc _ _ _)) (grown_drewN _ _ _)⟩
      have Q0 : Hid (-100000000 ≤ px ∧ px ≤ 100000000) := t0
      by_cases t1 : -100000000 ≤ py ∧ py ≤ 100000000
      rotate_left
      · have HE := RO NE.out (by unfold smpIn; simp only; omega)
        have Q1 : Hid (py < -100000000 ∨ 100000000 < py) := by show _ ∨ _; omega
        clear RE RO RN t1
        go_enter Try.func122, Try.ntmps122
        go_wp2_with fail
        go_quiet (fail)
        clear e0 e2
        go_wp2_with fail
        refine (out_no _ _ _ Q0.out.1 Q0.out.2 _).mono ?_; rintro e w1 ⟨rfl, rfl⟩
        go_wp2_with fail
        refine (out_yes _ _ _ Q1.out _).mono ?_; rintro e w1 ⟨rfl, rfl⟩
        go_wp2_with fail
        go_ret
        exact ⟨ret_int HE.out.symm, grown_trans (grown_trans (World.grownBy_alloc _ _ _) (World.grownBy_alloc _ _ _)) (grown_drewN _ _ _)⟩
      have Q1 : Hid (-100000000 ≤ py ∧ py ≤ 100000000) := t1
      by_cases t2 : -100000 ≤ pz ∧ pz ≤ 100000
      rotate_left
      · have HE := RO NE.out (by unfold smpIn; simp only; omega)
        have Q2 : Hid (pz < -100000 ∨ 100000 < pz) := by show _ ∨ _; omega
        clear RE RO RN t2
        go_enter Try.func122, Try.ntmps122
        go_wp2_with fail
        go_quiet (fail)
        clear e0 e2
        go_wp2_with fail
        refine (out_no _ _ _ Q0.out.1 Q0.out.2 _).mono ?_; rintro e w1 ⟨rfl, rfl⟩
        go_wp2_with fail
        refine (out_no _ _ _ Q1.out.1 Q1.out.2 _).mono ?_; rintro e w1 ⟨rfl, rfl⟩
        go_wp2_with fail
        refine (out_yes _ _ _ Q2.out _).mono ?_; rintro e w1 ⟨rfl, rfl⟩
        go_wp2_with fail
        go_ret
        exact ⟨ret_int HE.out.symm, grown_trans (grown_trans (World.grownBy_alloc _ _ _) (World.grownBy_alloc _ _ _)) (grown_drewN _ _ _)⟩
      have Q2 : Hid (-100000 ≤ pz ∧ pz ≤ 100000) := t2
      by_cases t3 : -1 ≤ pp ∧ pp ≤ 300
      rotate_left
      · have HE := RO NE.out (by unfold smpIn; simp only; omega)
        have Q3 : Hid (pp < -1 ∨ 300 < pp) := by show _ ∨ _; omega
        clear RE RO RN t3
        go_enter Try.func122, Try.ntmps122
        go_wp2_with fail
        go_quiet (fail)
        clear e0 e2
        go_wp2_with fail
        refine (out_no _ _ _ Q0.out.1 Q0.out.2 _).mono ?_; rintro e w1 ⟨rfl, rfl⟩
        go_wp2_with fail
        refine (out_no _ _ _ Q1.out.1 Q1.out.2 _).mono ?_; rintro e w1 ⟨rfl, rfl⟩
        go_wp2_with fail
        refine (out_no _ _ _ Q2.out.1 Q2.out.2 _).mono ?_; rintro e w1 ⟨rfl, rfl⟩
        go_wp2_with fail
        refine (out_yes _ _ _ Q3.out _).mono ?_; rintro e w1 ⟨rfl, rfl⟩
        go_wp2_with fail
        go_ret
        exact ⟨ret_int HE.out.symm, grown_trans (grown_trans (World.grownBy_alloc _ _ _) (World.grownBy_alloc _ _ _)) (grown_drewN _ _ _)⟩
      have Q3 : Hid (-1 ≤ pp ∧ pp ≤ 300) := t3
      by_cases t4 : -1 ≤ pq ∧ pq ≤ 3000
      rotate_left
      · have HE := RO NE.out (by unfold smpIn; simp only; omega)
        have Q4 : Hid (pq < -1 ∨ 3000 < pq) := by show _ ∨ _; omega
        clear RE RO RN t4
        go_enter Try.func122, Try.ntmps122
        go_wp2_with fail
        go_quiet (fail)
        clear e0 e2
        go_wp2_with fail
        refine (out_no _ _ _ Q0.out.1 Q0.out.2 _).mono ?_; rintro e w1 ⟨rfl, rfl⟩
        go_wp2_with fail
        refine (out_no _ _ _ Q1.out.1 Q1.out.2 _).mono ?_; rintro e w1 ⟨rfl, rfl⟩
        go_wp2_with fail
        refine (out_no _ _ _ Q2.out.1 Q2.out.2 _).mono ?_; rintro e w1 ⟨rfl, rfl⟩
        go_wp2_with fail
        refine (out_no _ _ _ Q3.out.1 Q3.out.2 _).mono ?_; rintro e w1 ⟨rfl, rfl⟩
        go_wp2_with fail
        refine (out_yes _ _ _ Q4.out _).mono ?_; rintro e w1 ⟨rfl, rfl⟩
        go_wp2_with fail
        go_ret
        exact ⟨ret_int HE.out.symm, grown_trans (grown_trans (World.grownBy_alloc _ _ _) (World.grownBy_alloc _ _ _)) (grown_drewN _ _ _)⟩
      have Q4 : Hid (-1 ≤ pq ∧ pq ≤ 3000) := t4
      by_cases t5 : -1 ≤ ps ∧ ps ≤ 300
      rotate_left
      · have HE := RO NE.out (by unfold smpIn; simp only; omega)
        have Q5 : Hid (ps < -1 ∨ 300 < ps) := by show _ ∨ _; omega
        clear RE RO RN t5
        go_enter Try.func122, Try.ntmps122
        go_wp2_with fail
        go_quiet (fail)
        clear e0 e2
        go_wp2_with fail
        refine (out_no _ _ _ Q0.out.1 Q0.out.2 _).mono ?_; rintro e w1 ⟨rfl, rfl⟩
        go_wp2_with fail
        refine (out_no _ _ _ Q1.out.1 Q1.out.2 _).mono ?_; rintro e w1 ⟨rfl, rfl⟩
        go_wp2_with fail
        refine (out_no _ _ _ Q2.out.1 Q2.out.2 _).mono ?_; rintro e w1 ⟨rfl, rfl⟩
        go_wp2_with fail
        refine (out_no _ _ _ Q3.out.1 Q3.out.2 _).mono ?_; rintro e w1 ⟨rfl, rfl⟩
        go_wp2_with fail
        refine (out_no _ _ _ Q4.out.1 Q4.out.2 _).mono ?_; rintro e w1 ⟨rfl, rfl⟩
        go_wp2_with fail
        refine (out_yes _ _ _ Q5.out _).mono ?_; rintro e w1 ⟨rfl, rfl⟩
        go_wp2_with fail
        go_ret
        exact ⟨ret_int HE.out.symm, grown_trans (grown_trans (World.grownBy_alloc _ _ _) (World.grownBy_alloc _ _ _)) (grown_drewN _ _ _)⟩
      have Q5 : Hid (-1 ≤ ps ∧ ps ≤ 300) := t5
      have HE := RN NE.out (by unfold smpIn; simp only; omega)
      clear RE RO RN t0 t1 t2 t3 t4 t5
      go_enter Try.func122, Try.ntmps122
      go_wp2_with fail
      go_quiet (fail)
      clear e0 e2
      go_wp2_with fail
      refine (out_no _ _ _ Q0.out.1 Q0.out.2 _).mono ?_; rintro e w1 ⟨rfl, rfl⟩
      go_wp2_with fail
      refine (out_no _ _ _ Q1.out.1 Q1.out.2 _).mono ?_; rintro e w1 ⟨rfl, rfl⟩
      go_wp2_with fail
      refine (out_no _ _ _ Q2.out.1 Q2.out.2 _).mono ?_; rintro e w1 ⟨rfl, rfl⟩
      go_wp2_with fail
      refine (out_no _ _ _ Q3.out.1 Q3.out.2 _).mono ?_; rintro e w1 ⟨rfl, rfl⟩
      go_wp2_with fail
      refine (out_no _ _ _ Q4.out.1 Q4.out.2 _).mono ?_; rintro e w1 ⟨rfl, rfl⟩
      go_wp2_with fail
      refine (out_no _ _ _ Q5.out.1 Q5.out.2 _).mono ?_; rintro e w1 ⟨rfl, rfl⟩
      go_wp2_with fail
      go_ret
      exact ⟨ret_int HE.out.symm, grown_trans (grown_trans (World.grownBy_alloc _ _ _) (World.grownBy_alloc _ _ _)) (grown_drewN _ _ _)⟩
    · have e1 : (t != 0) = true := by simpa using ht
      have HE := RE (by rw [hpk.out]; exact ht)
      clear RE RO RN ht
      go_enter Try.func122, Try.ntmps122
      go_wp2_with fail
      go_quiet (fail)
      clear e0 e2
      go_wp2_with fail
      go_ret
      exact ⟨ret_int HE.out.symm, grown_trans (grown_trans (World.grownBy_alloc _ _ _) (World.grownBy_alloc _ _ _)) (grown_drewN _ _ _)⟩
  · obtain ⟨i, hki⟩ : ∃ i, k = i + 1 := ⟨k - 1, by omega⟩
    have hi : i < ss.length := by omega
    obtain ⟨pv, hpv⟩ : ∃ pv, ss[i].t = pv := ⟨_, rfl⟩
    have hpk : Hid (prevT ss k = some pv) := by show _ = _; rw [hki, prevT_succ, List.getElem?_eq_getElem hi, ← hpv]; rfl
    have hpv0 : 0 ≤ pv := hp.out pv hpk.out
    have q0 := (HS.out.cells _ rfl i hi).1
    rw [hpv] at q0
    simp only at q0
    have q1 : ∀ n, (((w.alloc (.cells #[.string nm, .int .i64 sp, .int .i64 st, .slice (some ⟨b, off, none⟩) ss.length sc, .slice lo ls.length lc, .slice to_ ts.length tc] 26)).alloc (.cells #[.int .i64 t, .int .i64 px, .int .i64 py, .int .i64 pz, .int .i64 pp, .int .i64 pq, .int .i64 ps] 28)).drewN n).cell? ⟨b, off + i * 7, none⟩ = some (.int .i64 pv) := fun n => grown_cell (grown_trans (grown_trans (World.grownBy_alloc _ _ _) (World.grownBy_alloc _ _ _)) (grown_drewN _ _ _)) q0
    have e0 : ((k : Int) == 0) = false := by simp; omega
    have e2 : decide (0 < (k : Int)) = true := by simp; omega
    have e3 : 0 < k := by omega
    have ea : ((k : Int) - 1).toNat = i := by omega
    have pa : (0 : Int) ≤ (k : Int) - 1 := by omega
    have pb : (1 : Int) ≤ (k : Int) := by omega
    have ba : (k : Int) - 1 < (ss.length : Int) := by omega
    have ra : IntKind.i64.wrap ((k : Int) - 1) = (k : Int) - 1 := by rw [IntKind.wrap_i64]; omega
    have HKI := Lib.hid hki
    clear hki hpv q0 hk0
    by_cases ht : t ≤ pv
    · have e1 : decide (t ≤ pv) = true := by simpa using ht
      have HE := RE (by rw [hpk.out]; exact ht)
      clear RE RO RN
      go_enter Try.func122, Try.ntmps122
      go_wp2_with fail
      go_quiet (fail)
      clear e0 e2
      go_wp2_with fail
      go_ret
      exact ⟨ret_int HE.out.symm, grown_trans (grown_trans (World.grownBy_alloc _ _ _) (World.grownBy_alloc _ _ _)) (grown_drewN _ _ _)⟩
    · have e1 : decide (t ≤ pv) = false := by simpa using ht
      have tl0 : 0 ≤ t := by omega
      have NE : Hid (¬ early (prevT ss k) t) := by show ¬ _; rw [hpk.out]; unfold early; exact ht
      clear ht
      by_cases ta : 1000000 < t
      · have HE := RO NE.out (by unfold smpIn; simp only; omega)
        clear RE RO RN
        go_enter Try.func122, Try.ntmps122
        go_wp2_with fail
        go_quiet (fail)
        clear e0 e2 q1 ea pa pb ba ra
        go_wp2_with fail
        go_ret
        exact ⟨ret_int HE.out.symm, grown_trans (grown_trans (World.grownBy_alloc _ _ _) (World.grownBy_alloc _ _ _)) (grown_drewN _ _ _)⟩
      by_cases tb : 86399999999 < st + t
      · have HE := RO NE.out (by unfold smpIn; simp only; omega)
        clear RE RO RN
        go_enter Try.func122, Try.ntmps122
        go_wp2_with fail
        go_quiet (fail)
        clear e0 e2 q1 ea pa pb ba ra
        go_wp2_with fail
        go_ret
        exact ⟨ret_int HE.out.symm, grown_trans (grown_trans (World.grownBy_alloc _ _ _) (World.grownBy_alloc _ _ _)) (grown_drewN _ _ _)⟩
      by_cases t0 : -100000000 ≤ px ∧ px ≤ 100000000
      rotate_left
      · have HE := RO NE.out (by unfold smpIn; simp only; omega)
        have Q0 : Hid (px < -100000000 ∨ 100000000 < px) := by show _ ∨ _; omega
        clear RE RO RN t0
        go_enter Try.func122, Try.ntmps122
        go_wp2_with fail
        go_quiet (fail)
        clear e0 e2 q1 ea pa pb ba ra
        go_wp2_with fail
        refine (out_yes _ _ _ Q0.out _).mono ?_; rintro e w1 ⟨rfl, rfl⟩
        go_wp2_with fail
        go_ret
        exact ⟨ret_int HE.out.symm, grown_trans (grown_trans (World.grownBy_alloc _ _ _) (World.grownBy_alloc _ _ _)) (grown_drewN _ _ _)⟩
      have Q0 : Hid (-100000000 ≤ px ∧ px ≤ 100000000) := t0
      by_cases t1 : -100000000 ≤ py ∧ py ≤ 100000000
      rotate_left
      · have HE := RO NE.out (by unfold smpIn; simp only; omega)
        have Q1 : Hid (py < -100000000 ∨ 100000000 < py) := by show _ ∨ _; omega
        clear RE RO RN t1
        go_enter Try.func122, Try.ntmps122
        go_wp2_with fail
        go_quiet (fail)
        clear e0 e2 q1 ea pa pb ba ra
        go_wp2_with fail
        refine (out_no _ _ _ Q0.out.1 Q0.out.2 _).mono ?_; rintro e w1 ⟨rfl, rfl⟩
        go_wp2_with fail
        refine (out_yes _ _ _ Q1.out _).mono ?_; rintro e w1 ⟨rfl, rfl⟩
        go_wp2_with fail
        go_ret
        exact ⟨ret_int HE.out.symm, grown_trans (grown_trans (World.grownBy_alloc _ _ _) (World.grownBy_alloc _ _ _)) (grown_drewN _ _ _)⟩
      have Q1 : Hid (-100000000 ≤ py ∧ py ≤ 100000000) := t1
      by_cases t2 : -100000 ≤ pz ∧ pz ≤ 100000
      rotate_left
      · have HE := RO NE.out (by unfold smpIn; simp only; omega)
        have Q2 : Hid (pz < -100000 ∨ 100000 < pz) := by show _ ∨ _; omega
        clear RE RO RN t2
        go_enter Try.func122, Try.ntmps122
        go_wp2_with fail
        go_quiet (fail)
        clear e0 e2 q1 ea pa pb ba ra
        go_wp2_with fail
        refine (out_no _ _ _ Q0.out.1 Q0.out.2 _).mono ?_; rintro e w1 ⟨rfl, rfl⟩
        go_wp2_with fail
        refine (out_no _ _ _ Q1.out.1 Q1.out.2 _).mono ?_; rintro e w1 ⟨rfl, rfl⟩
        go_wp2_with fail
        refine (out_yes _ _ _ Q2.out _).mono ?_; rintro e w1 ⟨rfl, rfl⟩
        go_wp2_with fail
        go_ret
        exact ⟨ret_int HE.out.symm, grown_trans (grown_trans (World.grownBy_alloc _ _ _) (World.grownBy_alloc _ _ _)) (grown_drewN _ _ _)⟩
      have Q2 : Hid (-100000 ≤ pz ∧ pz ≤ 100000) := t2
      by_cases t3 : -1 ≤ pp ∧ pp ≤ 300
      rotate_left
      · have HE := RO NE.out (by unfold smpIn; simp only; omega)
        have Q3 : Hid (pp < -1 ∨ 300 < pp) := by show _ ∨ _; omega
        clear RE RO RN t3
        go_enter Try.func122, Try.ntmps122
        go_wp2_with fail
        go_quiet (fail)
        clear e0 e2 q1 ea pa pb ba ra
        go_wp2_with fail
        refine (out_no _ _ _ Q0.out.1 Q0.out.2 _).mono ?_; rintro e w1 ⟨rfl, rfl⟩
        go_wp2_with fail
        refine (out_no _ _ _ Q1.out.1 Q1.out.2 _).mono ?_; rintro e w1 ⟨rfl, rfl⟩
        go_wp2_with fail
        refine (out_no _ _ _ Q2.out.1 Q2.out.2 _).mono ?_; rintro e w1 ⟨rfl, rfl⟩
        go_wp2_with fail
        refine (out_yes _ _ _ Q3.out _).mono ?_; rintro e w1 ⟨rfl, rfl⟩
        go_wp2_with fail
        go_ret
        exact ⟨ret_int HE.out.symm, grown_trans (grown_trans (World.grownBy_alloc _ _ _) (World.grownBy_alloc _ _ _)) (grown_drewN _ _ _)⟩
      have Q3 : Hid (-1 ≤ pp ∧ pp ≤ 300) := t3
      by_cases t4 : -1 ≤ pq ∧ pq ≤ 3000
      rotate_left
      · have HE := RO NE.out (by unfold smpIn; simp only; omega)
        have Q4 : Hid (pq < -1 ∨ 3000 < pq) := by show _ ∨ _; omega
        clear RE RO RN t4
        go_enter Try.func122, Try.ntmps122
        go_wp2_with fail
        go_quiet (fail)
        clear e0 e2 q1 ea pa pb ba ra
        go_wp2_with fail
        refine (out_no _ _ _ Q0.out.1 Q0.out.2 _).mono ?_; rintro e w1 ⟨rfl, rfl⟩
        go_wp2_with fail
        refine (out_no _ _ _ Q1.out.1 Q1.out.2 _).mono ?_; rintro e w1 ⟨rfl, rfl⟩
        go_wp2_with fail
        refine (out_no _ _ _ Q2.out.1 Q2.out.2 _).mono ?_; rintro e w1 ⟨rfl, rfl⟩
        go_wp2_with fail
        refine (out_no _ _ _ Q3.out.1 Q3.out.2 _).mono ?_; rintro e w1 ⟨rfl, rfl⟩
        go_wp2_with fail
        refine (out_yes _ _ _ Q4.out _).mono ?_; rintro e w1 ⟨rfl, rfl⟩
        go_wp2_with fail
        go_ret
        exact ⟨ret_int HE.out.symm, grown_trans (grown_trans (World.grownBy_alloc _ _ _) (World.grownBy_alloc _ _ _)) (grown_drewN _ _ _)⟩
      have Q4 : Hid (-1 ≤ pq ∧ pq ≤ 3000) := t4
      by_cases t5 : -1 ≤ ps ∧ ps ≤ 300
      rotate_left
      · have HE := RO NE.out (by unfold smpIn; simp only; omega)
        have Q5 : Hid (ps < -1 ∨ 300 < ps) := by show _ ∨ _; omega
        clear RE RO RN t5
        go_enter Try.func122, Try.ntmps122
        go_wp2_with fail
        go_quiet (fail)
        clear e0 e2 q1 ea pa pb ba ra
        go_wp2_with fail
        refine (out_no _ _ _ Q0.out.1 Q0.out.2 _).mono ?_; rintro e w1 ⟨rfl, rfl⟩
        go_wp2_with fail
        refine (out_no _ _ _ Q1.out.1 Q1.out.2 _).mono ?_; rintro e w1 ⟨rfl, rfl⟩
        go_wp2_with fail
        refine (out_no _ _ _ Q2.out.1 Q2.out.2 _).mono ?_; rintro e w1 ⟨rfl, rfl⟩
        go_wp2_with fail
        refine (out_no _ _ _ Q3.out.1 Q3.out.2 _).mono ?_; rintro e w1 ⟨rfl, rfl⟩
        go_wp2_with fail
        refine (out_no _ _ _ Q4.out.1 Q4.out.2 _).mono ?_; rintro e w1 ⟨rfl, rfl⟩
        go_wp2_with fail
        refine (out_yes _ _ _ Q5.out _).mono ?_; rintro e w1 ⟨rfl, rfl⟩
        go_wp2_with fail
        go_ret
        exact ⟨ret_int HE.out.symm, grown_trans (grown_trans (World.grownBy_alloc _ _ _) (World.grownBy_alloc _ _ _)) (grown_drewN _ _ _)⟩
      have Q5 : Hid (-1 ≤ ps ∧ ps ≤ 300) := t5
      have HE := RN NE.out (by unfold smpIn; simp only; omega)
      clear RE RO RN t0 t1 t2 t3 t4 t5
      go_enter Try.func122, Try.ntmps122
      go_wp2_with fail
      go_quiet (fail)
      clear e0 e2 q1 ea pa pb ba ra
      go_wp2_with fail
      refine (out_no _ _ _ Q0.out.1 Q0.out.2 _).mono ?_; rintro e w1 ⟨rfl, rfl⟩
      go_wp2_with fail
      refine (out_no _ _ _ Q1.out.1 Q1.out.2 _).mono ?_; rintro e w1 ⟨rfl, rfl⟩
      go_wp2_with fail
      refine (out_no _ _ _ Q2.out.1 Q2.out.2 _).mono ?_; rintro e w1 ⟨rfl, rfl⟩
      go_wp2_with fail
      refine (out_no _ _ _ Q3.out.1 Q3.out.2 _).mono ?_; rintro e w1 ⟨rfl, rfl⟩
      go_wp2_with fail
      refine (out_no _ _ _ Q4.out.1 Q4.out.2 _).mono ?_; rintro e w1 ⟨rfl, rfl⟩
      go_wp2_with fail
      refine (out_no _ _ _ Q5.out.1 Q5.out.2 _).mono ?_; rintro e w1 ⟨rfl, rfl⟩
      go_wp2_with fail
      go_ret
      exact ⟨ret_int HE.out.symm, grown_trans (grown_trans (World.grownBy_alloc _ _ _) (World.grownBy_alloc _ _ _)) (grown_drewN _ _ _)⟩

end Go.Proofs.Ytgkhhfojioepgaa
