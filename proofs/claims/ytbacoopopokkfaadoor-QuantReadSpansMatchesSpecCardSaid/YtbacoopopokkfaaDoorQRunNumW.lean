/- The contract of a token's run: numbers. -/
import Derived.Test.YtbacoopopokkfaaDoorQNumRun
import Derived.Deep.RegionHeld3
namespace Go.Proofs.YtbacoopopokkfaaDoor
open Go.RowKit
set_option linter.unusedSimpArgs false
set_option linter.unusedVariables false

set_option maxRecDepth 100000 in
set_option maxHeartbeats 3200000 in
theorem runNum_any (lo hi : Int) (dg : Nat) (hlo : 0 ≤ lo) (hlo1 : lo ≤ 1) (h9 : 9 ≤ hi) (hh1 : hi ≤ 100000000000000) (hdg1 : 1 ≤ dg) (hdg : dg ≤ 18) (hdh : Hid (hi < ((10 ^ dg : Nat) : Int))) (s : ByteArray) (hs : s.size ≤ 100000) (k : Nat) (hk : k ≤ s.size) (w : World)
    {ev : Value} (hv : w.cell? ⟨4, 0, none⟩ = some ev) (hev : ev = .nilIface ∨ ∃ te pe, ev = .iface te pe) {v : Int} {ok : Bool} {u : Nat} (hp : Hid (numV lo hi (rem s k) = ⟨v, ok, u⟩)) :
    Calls Tryd.prog 35 #[.agg #[.int .i64 2, .string ⟨#[]⟩, .int .i64 lo, .int .i64 hi, .int .i64 (dg : Int)], .string s, .int .i64 (k : Int)] w fun e w' => e = .returned (.tuple #[.int .i64 ((k + u : Nat) : Int), .int .i64 v, .bool ok]) ∧ w.grownBy w' none := by
  have HB := Lib.hid (NumBox.new w lo hi dg)
  have HV := Lib.hid (And.intro hv hev)
  clear hv hev
  have hstep : ∀ W W' : World, (World.grownBy w W none ∧ World.cell? W ⟨w.heap.size, 0, none⟩ = some (.int .i64 2) ∧ World.cell? W ⟨w.heap.size, 1, none⟩ = some (.string ⟨#[]⟩) ∧ World.cell? W ⟨w.heap.size, 2, none⟩ = some (.int .i64 lo) ∧ World.cell? W ⟨w.heap.size, 3, none⟩ = some (.int .i64 hi) ∧ World.cell? W ⟨w.heap.size, 4, none⟩ = some (.int .i64 (dg : Int))) → W.grownBy W' none → (World.grownBy w W' none ∧ World.cell? W' ⟨w.heap.size, 0, none⟩ = some (.int .i64 2) ∧ World.cell? W' ⟨w.heap.size, 1, none⟩ = some (.string ⟨#[]⟩) ∧ World.cell? W' ⟨w.heap.size, 2, none⟩ = some (.int .i64 lo) ∧ World.cell? W' ⟨w.heap.size, 3, none⟩ = some (.int .i64 hi) ∧ World.cell? W' ⟨w.heap.size, 4, none⟩ = some (.int .i64 (dg : Int))) := fun W W' h g => NumBox.step h g
  have HLO := Lib.hid (And.intro hlo (And.intro hlo1 (And.intro h9 (And.intro hh1 (And.intro hdg1 hdg)))))
  clear hlo hlo1 h9 hh1 hdg1 hdg
  go_enter Tryd.func35, Tryd.ntmps35
  go_wp2_with fail
  go_loopw [2] (fun av wr => ∃ (p : Nat), k ≤ p ∧ p ≤ s.size ∧ av = .int .i64 (p : Int) ∧ Hid (NumBox w wr lo hi dg) ∧ Hid (NumAt lo hi dg s k p)) (fun av _ => s.size - (intOf av).toNat)
  case atStart => exact ⟨k, Nat.le_refl _, hk, rfl, HB, Lib.hid (.inl rfl)⟩
  case round =>
    obtain ⟨p, hkp0, hj, rfl, hbox, hat⟩ := hrel
    have hS0 : (World.grownBy w wr none ∧ World.cell? wr ⟨w.heap.size, 0, none⟩ = some (.int .i64 2) ∧ World.cell? wr ⟨w.heap.size, 1, none⟩ = some (.string ⟨#[]⟩) ∧ World.cell? wr ⟨w.heap.size, 2, none⟩ = some (.int .i64 lo) ∧ World.cell? wr ⟨w.heap.size, 3, none⟩ = some (.int .i64 hi) ∧ World.cell? wr ⟨w.heap.size, 4, none⟩ = some (.int .i64 (dg : Int))) := hbox.out
    have HS0 := Lib.hid hS0
    clear hS0
    have hk0 : (0 : Int) ≤ (k : Int) := by omega
    have HKP := Lib.hid hkp0
    have hkp : (k : Int) ≤ (p : Int) + 1 := by omega
    have hwr : IntKind.i64.wrap ((p : Int) + 1) = (p : Int) + 1 := IntWalk.i64_in _ (by omega)
    clear hkp0
    by_cases hlt : p < s.size
    · have hli : (p : Int) < (s.size : Int) := by omega
      have hq : decide ((p : Int) < (s.size : Int)) = true := by simpa using hli
      have hp1 : (p : Int) + 1 ≤ 100000 := by omega
      have hps : (p : Int) + 1 ≤ (s.size : Int) := by omega
      obtain ⟨c, hc⟩ : ∃ c, s[p].toNat = c := ⟨_, rfl⟩
      have hc8 : c < 256 := by rw [← hc]; exact UInt8.toNat_lt _
      rcases hdg : isDig c with _ | _
      · have HE := Lib.hid (num_out HLO.out.1 HLO.out.2.2.2.2.2 HKP.out hp.out hat.out (.inr ⟨hlt, by rw [hc]; exact hdg⟩))
        have HAT : Hid (∀ W, (World.grownBy w W none ∧ World.cell? W ⟨w.heap.size, 0, none⟩ = some (.int .i64 2) ∧ World.cell? W ⟨w.heap.size, 1, none⟩ = some (.string ⟨#[]⟩) ∧ World.cell? W ⟨w.heap.size, 2, none⟩ = some (.int .i64 lo) ∧ World.cell? W ⟨w.heap.size, 3, none⟩ = some (.int .i64 hi) ∧ World.cell? W ⟨w.heap.size, 4, none⟩ = some (.int .i64 (dg : Int))) → Calls Tryd.prog 58 #[.string (s.extract k p)] W fun e w' => (∃ x, e = .returned (.tuple #[.int .i64 v, x])) ∧ (World.grownBy w w' none ∧ World.cell? w' ⟨w.heap.size, 0, none⟩ = some (.int .i64 2) ∧ World.cell? w' ⟨w.heap.size, 1, none⟩ = some (.string ⟨#[]⟩) ∧ World.cell? w' ⟨w.heap.size, 2, none⟩ = some (.int .i64 lo) ∧ World.cell? w' ⟨w.heap.size, 3, none⟩ = some (.int .i64 hi) ∧ World.cell? w' ⟨w.heap.size, 4, none⟩ = some (.int .i64 (dg : Int)))) := fun W h => num_atoi (dg := dg) hj HE HV.out.1 HV.out.2 h
        have HD := Lib.hid hdg
        clear hdg
        go_wp2_with fail
        go_quiet (exact Calls.quiet_of_same (isDigit_any c _ HD))
        have hkp2 : (k : Int) ≤ (p : Int) := by have := HKP.out; clear hwr; omega
        have hps2 : (p : Int) ≤ (s.size : Int) := by clear hwr; omega
        go_wp2_with fail
        refine (HAT.out _ (hstep _ _ HS0.out (grown_drewN _ _ _))).mono ?_
        rintro e w9 ⟨⟨x9, rfl⟩, hS9⟩
        have hS9' : NumBox w w9 lo hi dg := hS9
        clear hS9
        have k2 : ∀ q, (w9.drewN q).cell? ⟨w.heap.size, 2, none⟩ = some (.int .i64 lo) := fun q => by simpa using hS9'.2.2.2.1
        have HG9 := Lib.hid hS9'.1
        clear hS9'
        rcases HE.out with ⟨e1, e2, e3, e4⟩ | ⟨e1, _, n9, _, e2, e3, e4, e5⟩
        · have hqk : decide ((k : Int) < (p : Int)) = false := by simp; omega
          have hqn : decide (k < p) = false := by simp; omega
          subst e2
          have HU := Lib.hid (And.intro e1 (And.intro e3 e4))
          clear e1 e3 e4 hkp2 hps2
          go_wp2_with fail
          go_quiet (fail)
          go_wp2_with fail
          go_ret3
          exact ⟨ret_iib (by have := HU.out; omega) rfl (by rw [HU.out.2.1]), grown_trans HG9.out (grown_drewN _ _ _)⟩
        · have hqk : decide ((k : Int) < (p : Int)) = true := by simp; omega
          have hqn : decide (k < p) = true := by simp; omega
          have hql : decide (lo ≤ v) = true := by rw [e2]; simpa using e5
          have HU := Lib.hid (And.intro e1 (And.intro e3 e4))
          clear e1 e2 e3 e4 e5 hkp2 hps2
          go_wp2_with fail
          go_quiet (fail)
          go_wp2_with fail
          go_ret3
          exact ⟨ret_iib (by have := HU.out; omega) rfl (by rw [HU.out.2.1]), grown_trans HG9.out (grown_drewN _ _ _)⟩
      · obtain ⟨B, hB1, hB2, hB3⟩ := num_more HLO.out.1 HLO.out.2.1 HLO.out.2.2.1 HLO.out.2.2.2.1 HLO.out.2.2.2.2.1 HLO.out.2.2.2.2.2 hdh.out hs HKP.out hlt hp.out hat.out (by rw [hc]; exact hdg)
        have HB1 := Lib.hid hB1; have HB2 := Lib.hid hB2; have HB3 := Lib.hid hB3
        clear hB1 hB2 hB3
        have hSd : (World.grownBy w wr.drew none ∧ World.cell? wr.drew ⟨w.heap.size, 0, none⟩ = some (.int .i64 2) ∧ World.cell? wr.drew ⟨w.heap.size, 1, none⟩ = some (.string ⟨#[]⟩) ∧ World.cell? wr.drew ⟨w.heap.size, 2, none⟩ = some (.int .i64 lo) ∧ World.cell? wr.drew ⟨w.heap.size, 3, none⟩ = some (.int .i64 hi) ∧ World.cell? wr.drew ⟨w.heap.size, 4, none⟩ = some (.int .i64 (dg : Int))) := hstep _ _ HS0.out (grown_drew _ _)
        have HD := Lib.hid hdg
        clear hdg
        cases B with
        | true =>
          go_wp2_with fail
          go_region_held3 (fun W => (World.grownBy w W none ∧ World.cell? W ⟨w.heap.size, 0, none⟩ = some (.int .i64 2) ∧ World.cell? W ⟨w.heap.size, 1, none⟩ = some (.string ⟨#[]⟩) ∧ World.cell? W ⟨w.heap.size, 2, none⟩ = some (.int .i64 lo) ∧ World.cell? W ⟨w.heap.size, 3, none⟩ = some (.int .i64 hi) ∧ World.cell? W ⟨w.heap.size, 4, none⟩ = some (.int .i64 (dg : Int)))) (first | exact hSd | exact HS0.out | (refine hstep _ _ ?_ (by assumption) <;> assumption)) (first
            | (go_at_call 56; refine (isDigit_any c _ HD).mono ?_; rintro x w7 ⟨rfl, rfl⟩)
            | (go_at_call 57; refine (HB1.out _).mono ?_; rintro x w8 ⟨rfl, hg8⟩))
          all_goals
            go_wp2_with fail
            refine ⟨⟨p + 1, by have := HKP.out; omega, by omega, by go_num, Lib.hid (by assumption), Lib.hid (HB2.out (by simp))⟩, by simp [intOf]; omega⟩
        | false =>
          have HE := Lib.hid (HB3.out rfl)
          have HAT : Hid (∀ W, (World.grownBy w W none ∧ World.cell? W ⟨w.heap.size, 0, none⟩ = some (.int .i64 2) ∧ World.cell? W ⟨w.heap.size, 1, none⟩ = some (.string ⟨#[]⟩) ∧ World.cell? W ⟨w.heap.size, 2, none⟩ = some (.int .i64 lo) ∧ World.cell? W ⟨w.heap.size, 3, none⟩ = some (.int .i64 hi) ∧ World.cell? W ⟨w.heap.size, 4, none⟩ = some (.int .i64 (dg : Int))) → Calls Tryd.prog 58 #[.string (s.extract k p)] W fun e w' => (∃ x, e = .returned (.tuple #[.int .i64 v, x])) ∧ (World.grownBy w w' none ∧ World.cell? w' ⟨w.heap.size, 0, none⟩ = some (.int .i64 2) ∧ World.cell? w' ⟨w.heap.size, 1, none⟩ = some (.string ⟨#[]⟩) ∧ World.cell? w' ⟨w.heap.size, 2, none⟩ = some (.int .i64 lo) ∧ World.cell? w' ⟨w.heap.size, 3, none⟩ = some (.int .i64 hi) ∧ World.cell? w' ⟨w.heap.size, 4, none⟩ = some (.int .i64 (dg : Int)))) := fun W h => num_atoi (dg := dg) hj HE HV.out.1 HV.out.2 h
          go_wp2_with fail
          go_region_held3 (fun W => (World.grownBy w W none ∧ World.cell? W ⟨w.heap.size, 0, none⟩ = some (.int .i64 2) ∧ World.cell? W ⟨w.heap.size, 1, none⟩ = some (.string ⟨#[]⟩) ∧ World.cell? W ⟨w.heap.size, 2, none⟩ = some (.int .i64 lo) ∧ World.cell? W ⟨w.heap.size, 3, none⟩ = some (.int .i64 hi) ∧ World.cell? W ⟨w.heap.size, 4, none⟩ = some (.int .i64 (dg : Int)))) (first | exact hSd | exact HS0.out | (refine hstep _ _ ?_ (by assumption) <;> assumption)) (first
            | (go_at_call 56; refine (isDigit_any c _ HD).mono ?_; rintro x w7 ⟨rfl, rfl⟩)
            | (go_at_call 57; refine (HB1.out _).mono ?_; rintro x w8 ⟨rfl, hg8⟩))
          all_goals
            have hkp2 : (k : Int) ≤ (p : Int) := by have := HKP.out; clear hwr; omega
            have hps2 : (p : Int) ≤ (s.size : Int) := by clear hwr; omega
            go_wp2_with fail
            refine (HAT.out _ (by assumption)).mono ?_
            rintro e w9 ⟨⟨x9, rfl⟩, hS9⟩
            have hS9' : NumBox w w9 lo hi dg := hS9
            clear hS9
            have k2 : ∀ q, (w9.drewN q).cell? ⟨w.heap.size, 2, none⟩ = some (.int .i64 lo) := fun q => by simpa using hS9'.2.2.2.1
            have HG9 := Lib.hid hS9'.1
            clear hS9'
            rcases HE.out with ⟨e1, e2, e3, e4⟩ | ⟨e1, _, n9, _, e2, e3, e4, e5⟩
            · have hqk : decide ((k : Int) < (p : Int)) = false := by simp; omega
              have hqn : decide (k < p) = false := by simp; omega
              subst e2
              have HU := Lib.hid (And.intro e1 (And.intro e3 e4))
              clear e1 e3 e4 hkp2 hps2
              go_wp2_with fail
              go_quiet (fail)
              go_wp2_with fail
              go_ret3
              exact ⟨ret_iib (by have := HU.out; omega) rfl (by rw [HU.out.2.1]), grown_trans HG9.out (grown_drewN _ _ _)⟩
            · have hqk : decide ((k : Int) < (p : Int)) = true := by simp; omega
              have hqn : decide (k < p) = true := by simp; omega
              have hql : decide (lo ≤ v) = true := by rw [e2]; simpa using e5
              have HU := Lib.hid (And.intro e1 (And.intro e3 e4))
              clear e1 e2 e3 e4 e5 hkp2 hps2
              go_wp2_with fail
              go_quiet (fail)
              go_wp2_with fail
              go_ret3
              exact ⟨ret_iib (by have := HU.out; omega) rfl (by rw [HU.out.2.1]), grown_trans HG9.out (grown_drewN _ _ _)⟩
    · have hq : decide ((p : Int) < (s.size : Int)) = false := by simp; omega
      have HE := Lib.hid (num_out HLO.out.1 HLO.out.2.2.2.2.2 HKP.out hp.out hat.out (.inl (by omega)))
      have HAT : Hid (∀ W, (World.grownBy w W none ∧ World.cell? W ⟨w.heap.size, 0, none⟩ = some (.int .i64 2) ∧ World.cell? W ⟨w.heap.size, 1, none⟩ = some (.string ⟨#[]⟩) ∧ World.cell? W ⟨w.heap.size, 2, none⟩ = some (.int .i64 lo) ∧ World.cell? W ⟨w.heap.size, 3, none⟩ = some (.int .i64 hi) ∧ World.cell? W ⟨w.heap.size, 4, none⟩ = some (.int .i64 (dg : Int))) → Calls Tryd.prog 58 #[.string (s.extract k p)] W fun e w' => (∃ x, e = .returned (.tuple #[.int .i64 v, x])) ∧ (World.grownBy w w' none ∧ World.cell? w' ⟨w.heap.size, 0, none⟩ = some (.int .i64 2) ∧ World.cell? w' ⟨w.heap.size, 1, none⟩ = some (.string ⟨#[]⟩) ∧ World.cell? w' ⟨w.heap.size, 2, none⟩ = some (.int .i64 lo) ∧ World.cell? w' ⟨w.heap.size, 3, none⟩ = some (.int .i64 hi) ∧ World.cell? w' ⟨w.heap.size, 4, none⟩ = some (.int .i64 (dg : Int)))) := fun W h => num_atoi (dg := dg) hj HE HV.out.1 HV.out.2 h
      go_wp2_with fail
      go_quiet (fail)
      have hkp2 : (k : Int) ≤ (p : Int) := by have := HKP.out; clear hwr; omega
      have hps2 : (p : Int) ≤ (s.size : Int) := by clear hwr; omega
      go_wp2_with fail
      refine (HAT.out _ (hstep _ _ HS0.out (grown_drewN _ _ _))).mono ?_
      rintro e w9 ⟨⟨x9, rfl⟩, hS9⟩
      have hS9' : NumBox w w9 lo hi dg := hS9
      clear hS9
      have k2 : ∀ q, (w9.drewN q).cell? ⟨w.heap.size, 2, none⟩ = some (.int .i64 lo) := fun q => by simpa using hS9'.2.2.2.1
      have HG9 := Lib.hid hS9'.1
      clear hS9'
      rcases HE.out with ⟨e1, e2, e3, e4⟩ | ⟨e1, _, n9, _, e2, e3, e4, e5⟩
      · have hqk : decide ((k : Int) < (p : Int)) = false := by simp; omega
        have hqn : decide (k < p) = false := by simp; omega
        subst e2
        have HU := Lib.hid (And.intro e1 (And.intro e3 e4))
        clear e1 e3 e4 hkp2 hps2
        go_wp2_with fail
        go_quiet (fail)
        go_wp2_with fail
        go_ret3
        exact ⟨ret_iib (by have := HU.out; omega) rfl (by rw [HU.out.2.1]), grown_trans HG9.out (grown_drewN _ _ _)⟩
      · have hqk : decide ((k : Int) < (p : Int)) = true := by simp; omega
        have hqn : decide (k < p) = true := by simp; omega
        have hql : decide (lo ≤ v) = true := by rw [e2]; simpa using e5
        have HU := Lib.hid (And.intro e1 (And.intro e3 e4))
        clear e1 e2 e3 e4 e5 hkp2 hps2
        go_wp2_with fail
        go_quiet (fail)
        go_wp2_with fail
        go_ret3
        exact ⟨ret_iib (by have := HU.out; omega) rfl (by rw [HU.out.2.1]), grown_trans HG9.out (grown_drewN _ _ _)⟩
end Go.Proofs.YtbacoopopokkfaaDoor
