/- The reference's keepFar. -/
import Derived.Test.YtgkhhfojioepgaaTSimP
import Derived.Test.YtgkhhfojioepgaaTMarks
namespace Go.Proofs.Ytgkhhfojioepgaa
open Go.RowKit
set_option linter.unusedSimpArgs false
set_option linter.unusedVariables false

/-- What keepFar does: it marks the samples that are kept between two. -/
def KFar (b off cap : Nat) (ss : List Smp) (most : Int) (w0 : World) (g i j : Nat) : Prop :=
  ∀ (K : Nat → Bool) (W : World), Below w0.heap.size w0 W → MkAt W g ss.length K →
    Calls Try.prog 101 #[.slice (some ⟨b, off, none⟩) ss.length cap, .int .i64 (i : Nat), .int .i64 (j : Nat), .int .i64 most, .slice (some ⟨g, 0, none⟩) ss.length ss.length] W fun e w' => e = .returned (.tuple #[]) ∧ Below w0.heap.size w0 w' ∧ MkAt w' g ss.length (fun k => K k || decide (k ∈ ksC ss (most * most) i j))

/-- The far one as the reference has it. -/
noncomputable def frV (M : Int) (p : Nat × Int) : Int := if M < p.2 then (p.1 : Int) else -1
theorem frV_keep {M v f : Int} {a k : Nat} (c : ¬ M < v) : frV M (if f < v then (k, v) else (a, f)) = frV M (a, f) := by
  by_cases h : f < v
  · rw [if_pos h]
    unfold frV
    simp only
    rw [if_neg c, if_neg (by omega)]
  · rw [if_neg h]

set_option maxRecDepth 100000 in
set_option maxHeartbeats 3200000 in
theorem kfar_step (b off cap : Nat) (ss : List Smp) (HS : Hid (SOk ss)) (most : Int) (m0 : 0 ≤ most) (m1 : most ≤ 100000000) (w0 : World) (HA : Hid (SmpsAt w0 (some ⟨b, off, none⟩) ss)) (g : Nat) (hg0 : w0.heap.size ≤ g) (i j : Nat) (hij : i ≤ j) (hj : j < ss.length)
    (IH : Hid (∀ i' j', i' ≤ j' → j' < ss.length → j' - i' < j - i → KFar b off cap ss most w0 g i' j')) : KFar b off cap ss most w0 g i j := by
  intro K W hB hK
  have HB := Lib.hid hB; have HK := Lib.hid hK
  have hl : (ss.length : Int) ≤ 20000 := HS.out.len
  obtain ⟨hsq0, hsq⟩ := sq_most m0 m1
  obtain ⟨M, hM⟩ : ∃ M, most * most = M := ⟨_, rfl⟩
  rw [hM] at hsq hsq0
  have rM : IntKind.i64.wrap (most * most) = M := by rw [hM]; exact IntWalk.i64_in _ (by omega)
  have HM := Lib.hid hM
  have HM0 := Lib.hid hsq0
  have hi : i < ss.length := by omega
  have rI : IntKind.i64.wrap ((i : Int) + 1) = (i : Int) + 1 := IntWalk.i64_in _ (by omega)
  rw [hM]
  obtain ⟨⟨A, B⟩, hW⟩ : ∃ p, wstV ss i j (j - 1 - i) = p := ⟨_, rfl⟩
  have HWE := Lib.hid hW
  have HC : Hid (ksC ss M i j = if M < B then ksC ss M i A ++ A :: ksC ss M A j else []) := ksC_eq HS.out hsq0 hij hj hW
  clear hM hsq hW hB hK
  go_enter Try.func101, Try.ntmps101
  go_wp2_with fail
  go_loopw [10, 11] (fun fv iv wr => ∃ (m : Nat) (p : Nat × Int) (fr : Int), fv = .int .i64 fr ∧ iv = .int .i64 ((i : Int) + 1 + m) ∧ Hid (fr = frV M p) ∧ Hid (i + 1 + m ≤ j ∨ m = 0) ∧ Hid (wstV ss i j m = p) ∧ Hid (W.grownBy wr none))
    (fun _ iv _ => j - (intOf iv).toNat)
  case atStart => exact ⟨0, (0, 0), -1, by go_num, by go_num, by show _ = _; unfold frV; rw [if_neg (by have := HM0.out; simp; omega)], Or.inr rfl, rfl, grown_refl _ _⟩
  case round =>
    obtain ⟨m, ⟨a, f⟩, fr, rfl, rfl, hfr, hmj, hW, hG⟩ := hrel
    have hb := wst_bd HS.out hj m hmj.out
    rw [hW.out] at hb
    obtain ⟨f0, f1, a1, a2, -, -⟩ := hb
    simp only at f0 f1 a1 a2
    by_cases hlt : i + 1 + m < j
    · obtain ⟨k, hk0⟩ : ∃ k, i + 1 + m = k := ⟨_, rfl⟩
      have hkI : (i : Int) + 1 + (m : Int) = (k : Int) := by omega
      have hk : k < ss.length := by omega
      have hik : i < k := by omega
      have hkj : k < j := by omega
      have hij2 : i < j := by omega
      obtain ⟨v, hv⟩ : ∃ v, missV (smpD ss i) (smpD ss j) (smpD ss k) = v := ⟨_, rfl⟩
      have HMV := Lib.hid hv
      have HKK := Lib.hid hk0
      have HLT := Lib.hid hkj
      have hvb := miss_bd (smpIn_of HS.out hi) (smpIn_of HS.out hj) (smpIn_of HS.out hk) (times_le HS.out (Nat.le_of_lt hik) hk) (times_le HS.out (Nat.le_of_lt hkj) hj) (times_lt HS.out hij2 hj)
      rw [hv] at hvb
      have HW2 : Hid (wstV ss i j (m + 1) = if f < v then (k, v) else (a, f)) := by
        show _ = _; rw [wstV, hk0, hv, hW.out]
      have rk : IntKind.i64.wrap ((k : Int) + 1) = (k : Int) + 1 := IntWalk.i64_in _ (by omega)
      rw [hkI]
      clear hv hk0 hlt
      go_wp2_with fail
      refine (fault_is b off cap ss HS i k j hi hk hj (Nat.le_of_lt hik) (Nat.le_of_lt hkj) hij2 _ ((HA.out.grown (grown_below HB.out)).grown hG.out) HMV).mono ?_; rintro e w5 ⟨rfl, hg5⟩
      have G5 := Lib.hid (grown_trans hG.out hg5)
      clear hg5 hG
      by_cases c1 : M < v
      · have g1 : decide (M < v) = true := by simp; omega
        by_cases c2 : M < f
        · have hfa : fr = (a : Int) := by rw [hfr.out]; unfold frV; rw [if_pos c2]
          subst hfa
          obtain ⟨ha1, ha2, ha3⟩ := a2 (by have := HM0.out; omega)
          have haj : a ≤ j := by omega
          have hal : a < ss.length := by omega
          have HF2 : Hid (missV (smpD ss i) (smpD ss j) (smpD ss a) = f) := ha3.symm
          have g2 : decide ((a : Int) < 0) = false := by simp
          have g2' : (0 : Int) ≤ (a : Int) := by omega
          clear ha3
          go_wp2_with fail
          refine (fault_is b off cap ss HS i a j hi hal hj (Nat.le_of_lt ha1) haj hij2 _ ((HA.out.grown (grown_below HB.out)).grown G5.out) HF2).mono ?_; rintro e w6 ⟨rfl, hg6⟩
          have G6 := Lib.hid (grown_trans G5.out hg6)
          clear hg6 G5
          by_cases c3 : f < v
          · have g3 : decide (f < v) = true := by simp; omega
            have HW3 : Hid (wstV ss i j (m + 1) = (k, v)) := by show _ = _; rw [HW2.out, if_pos c3]
            have HFR : Hid ((k : Int) = frV M (k, v)) := by show _ = _; unfold frV; rw [if_pos c1]
            clear HW2 hfr
            go_wp2_with fail
            go_roundw
            case rel => exact ⟨m + 1, (k, v), k, by go_num, by go_num, HFR, by have := HLT.out; have := HKK.out; show _ ∨ _; omega, HW3, G6⟩
            case measure => have := HLT.out; simp [intOf]; omega
          · have g3 : decide (f < v) = false := by simp; omega
            have HW3 : Hid (wstV ss i j (m + 1) = (a, f)) := by show _ = _; rw [HW2.out, if_neg c3]
            have HFR : Hid ((a : Int) = frV M (a, f)) := hfr
            clear HW2 hfr
            go_wp2_with fail
            go_roundw
            case rel => exact ⟨m + 1, (a, f), a, by go_num, by go_num, HFR, by have := HLT.out; have := HKK.out; show _ ∨ _; omega, HW3, G6⟩
            case measure => have := HLT.out; simp [intOf]; omega
        · have hfa : fr = -1 := by rw [hfr.out]; unfold frV; rw [if_neg c2]
          subst hfa
          have HW3 : Hid (wstV ss i j (m + 1) = (k, v)) := by show _ = _; rw [HW2.out, if_pos (by omega)]
          have HFR : Hid ((k : Int) = frV M (k, v)) := by show _ = _; unfold frV; rw [if_pos c1]
          clear HW2 hfr
          go_wp2_with fail
          go_roundw
          case rel => exact ⟨m + 1, (k, v), k, by go_num, by go_num, HFR, by have := HLT.out; have := HKK.out; show _ ∨ _; omega, HW3, G5⟩
          case measure => have := HLT.out; simp [intOf]; omega
      · have g1 : decide (M < v) = false := by simp; omega
        obtain ⟨p2, hp2⟩ : ∃ p2, (if f < v then (k, v) else (a, f)) = p2 := ⟨_, rfl⟩
        have HFR : Hid (fr = frV M p2) := by
          show _ = _
          rw [hfr.out, ← hp2]; exact (frV_keep c1).symm
        have HW3 : Hid (wstV ss i j (m + 1) = p2) := by show _ = _; rw [HW2.out, hp2]
        clear HW2 hfr hp2
        go_wp2_with fail
        go_roundw
        case rel => exact ⟨m + 1, p2, fr, by go_num, by go_num, HFR, by have := HLT.out; have := HKK.out; show _ ∨ _; omega, HW3, G5⟩
        case measure => have := HLT.out; simp [intOf]; omega
    · have hmE : m = j - 1 - i := by have := hmj.out; omega
      have hE : (A, B) = (a, f) := by rw [← HWE.out, ← hmE]; exact hW.out
      injection hE with e1 e2
      subst e1 e2
      have hge : (j : Int) ≤ (i : Int) + 1 + (m : Int) := by omega
      have hge2 : decide ((i : Int) + 1 + (m : Int) < (j : Int)) = false := by simp; omega
      by_cases c2 : M < B
      · have hfa : fr = (A : Int) := by rw [hfr.out]; unfold frV; rw [if_pos c2]
        subst hfa
        obtain ⟨ha1, ha2, ha3⟩ := a2 (by have := HM0.out; omega)
        have hAj : A < j := by have := hmj.out; omega
        have hAn : A < ss.length := by omega
        have hA1 : (A : Int) < (ss.length : Int) := by omega
        have hA0 : (0 : Int) ≤ (A : Int) := by omega
        have g2 : decide ((A : Int) < 0) = false := by simp
        have BR : Below w0.heap.size w0 wr := HB.out.trans ((below_grown hG.out).mono HB.out.size)
        have MR := HK.out.grown hG.out
        have c1 := MR.cell (k := A) hAn
        have fr1 := MR.free A
        have B1 := Lib.hid (BR.setCell (p := ⟨g, A, none⟩) hg0 (.bool true))
        have M1 := Lib.hid (MR.set A true)
        have I1 := Lib.hid (IH.out i A (by omega) hAn (by omega))
        have I2 := Lib.hid (IH.out A j (by omega) hj (by omega))
        have HC2 : Hid (ksC ss M i j = ksC ss M i A ++ A :: ksC ss M A j) := by show _ = _; rw [HC.out, if_pos c2]
        clear HC hfr hW ha3 BR MR IH
        go_wp2_with fail
        clear c1 fr1
        refine (I1.out _ _ B1.out M1.out).mono ?_; rintro e w5 ⟨rfl, hb5, hm5⟩
        have B5 := Lib.hid hb5; have M5 := Lib.hid hm5
        clear hb5 hm5
        go_wp2_with fail
        refine (I2.out _ _ B5.out M5.out).mono ?_; rintro e w6 ⟨rfl, hb6, hm6⟩
        have B6 := Lib.hid hb6; have M6 := Lib.hid hm6
        clear hb6 hm6
        go_wp2_with fail
        first | go_end0 | ((try simp only [Exit.inBlock, Exit.then]); refine bodyPost_ret (results_none rfl _ _ _) rfl ?_)
        refine ⟨rfl, B6.out, M6.out.congr (fun q _ => ?_)⟩
        rw [HC2.out, HM.out]
        unfold updK
        by_cases e : q = A
        · subst e; simp
        · simp [e, Bool.or_assoc]
      · have hfa : fr = -1 := by rw [hfr.out]; unfold frV; rw [if_neg c2]
        subst hfa
        have HC2 : Hid (ksC ss M i j = []) := by show _ = _; rw [HC.out, if_neg c2]
        have BR := Lib.hid (HB.out.trans ((below_grown hG.out).mono HB.out.size))
        have MR := Lib.hid (HK.out.grown hG.out)
        clear HC hfr hW
        go_wp2_with fail
        first | go_end0 | ((try simp only [Exit.inBlock, Exit.then]); refine bodyPost_ret (results_none rfl _ _ _) rfl ?_)
        exact ⟨rfl, BR.out, MR.out.congr (fun q _ => by rw [HC2.out]; simp)⟩

theorem kfar_all (b off cap : Nat) (ss : List Smp) (HS : Hid (SOk ss)) (most : Int) (m0 : 0 ≤ most) (m1 : most ≤ 100000000) (w0 : World) (HA : Hid (SmpsAt w0 (some ⟨b, off, none⟩) ss)) (g : Nat) (hg0 : w0.heap.size ≤ g) : ∀ d i j, j - i ≤ d → i ≤ j → j < ss.length → KFar b off cap ss most w0 g i j
  | 0, i, j, hd, hij, hj => kfar_step b off cap ss HS most m0 m1 w0 HA g hg0 i j hij hj (Lib.hid fun i' j' _ _ h => absurd h (by omega))
  | d + 1, i, j, hd, hij, hj => kfar_step b off cap ss HS most m0 m1 w0 HA g hg0 i j hij hj (Lib.hid fun i' j' h1 h2 h3 => kfar_all b off cap ss HS most m0 m1 w0 HA g hg0 d i' j' (by omega) h1 h2)
end Go.Proofs.Ytgkhhfojioepgaa
