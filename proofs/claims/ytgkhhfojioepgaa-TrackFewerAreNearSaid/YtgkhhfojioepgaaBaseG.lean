/- Texts that all laws of this seat use, one behind the other. -/
import Derived.Test.YtgkhhfojioepgaaBaseF
import Derived.Test.YtgkhhfojioepgaaBaseD
import Derived.Test.YtgkhhfojioepgaaBaseE
import Derived.Test.YtgkhhfojioepgaaBaseC
import Derived.Test.YtgkhhfojioepgaaShelf
namespace Go.Proofs.Ytgkhhfojioepgaa
open Go.RowKit
set_option linter.unusedSimpArgs false
set_option linter.unusedVariables false

/-- What keepFar does: it marks the samples that are kept between two. -/
def KFar (b off cap : Nat) (ss : List Smp) (most : Int) (w0 : World) (g i j : Nat) : Prop :=
  ∀ (K : Nat → Bool) (W : World), Below w0.heap.size w0 W → MkAt W g ss.length K →
    Calls Try.prog 101 #[.slice (some ⟨b, off, none⟩) ss.length cap, .int .i64 (i : Nat), .int .i64 (j : Nat), .int .i64 most, .slice (some ⟨g, 0, none⟩) ss.length ss.length] W fun e w' => e = .returned (.tuple #[]) ∧ Below w0.heap.size w0 w' ∧ MkAt w' g ss.length (fun k => K k || decide (k ∈ ksC ss (most * most) i j))

/-- The far one as the reference has it. -/
noncomputable def frV (M : Int) (p : Nat × Int) : Int := if M < p.2 then (p.1 : Int) else -1
theorem frV_keep {M v f : Int} {a k : Nat} (c : ¬ M < v) : frV M (if f < v then (k, v) else (a, f)) = frV M (a, f) := by
  by_cases h : f < v
  · rw [if_pos h]
    unfold frV
    simp only
    rw [if_neg c, if_neg (by omega)]
  · rw [if_neg h]

set_option maxRecDepth 100000 in
set_option maxHeartbeats 3200000 in
theorem kfar_step (b off cap : Nat) (ss : List Smp) (HS : Hid (SOk ss)) (most : Int) (m0 : 0 ≤ most) (m1 : most ≤ 100000000) (w0 : World) (HA : Hid (SmpsAt w0 (some ⟨b, off, none⟩) ss)) (g : Nat) (hg0 : w0.heap.size ≤ g) (i j : Nat) (hij : i ≤ j) (hj : j < ss.length)
    (IH : Hid (∀ i' j', i' ≤ j' → j' < ss.length → j' - i' < j - i → KFar b off cap ss most w0 g i' j')) : KFar b off cap ss most w0 g i j := by
  intro K W hB hK
  have HB := Lib.hid hB; have HK := Lib.hid hK
  have hl : (ss.length : Int) ≤ 20000 := HS.out.len
  obtain ⟨hsq0, hsq⟩ := sq_most m0 m1
  obtain ⟨M, hM⟩ : ∃ M, most * most = M := ⟨_, rfl⟩
  rw [hM] at hsq hsq0
  have rM : IntKind.i64.wrap (most * most) = M := by rw [hM]; exact IntWalk.i64_in _ (by omega)
  have HM := Lib.hid hM
  have HM0 := Lib.hid hsq0
  have hi : i < ss.length := by omega
  have rI : IntKind.i64.wrap ((i : Int) + 1) = (i : Int) + 1 := IntWalk.i64_in _ (by omega)
  rw [hM]
  obtain ⟨⟨A, B⟩, hW⟩ : ∃ p, wstV ss i j (j - 1 - i) = p := ⟨_, rfl⟩
  have HWE := Lib.hid hW
  have HC : Hid (ksC ss M i j = if M < B then ksC ss M i A ++ A :: ksC ss M A j else []) := ksC_eq HS.out hsq0 hij hj hW
  clear hM hsq hW hB hK
  go_enter Try.func101, Try.ntmps101
  go_wp2_with fail
  go_loopw [10, 11] (fun fv iv wr => ∃ (m : Nat) (p : Nat × Int) (fr : Int), fv = .int .i64 fr ∧ iv = .int .i64 ((i : Int) + 1 + m) ∧ Hid (fr = frV M p) ∧ Hid (i + 1 + m ≤ j ∨ m = 0) ∧ Hid (wstV ss i j m = p) ∧ Hid (W.grownBy wr none))
    (fun _ iv _ => j - (intOf iv).toNat)
  case atStart => exact ⟨0, (0, 0), -1, by go_num, by go_num, by show _ = _; unfold frV; rw [if_neg (by have := HM0.out; simp; omega)], Or.inr rfl, rfl, grown_refl _ _⟩
  case round =>
    obtain ⟨m, ⟨a, f⟩, fr, rfl, rfl, hfr, hmj, hW, hG⟩ := hrel
    have hb := wst_bd HS.out hj m hmj.out
    rw [hW.out] at hb
    obtain ⟨f0, f1, a1, a2, -, -⟩ := hb
    simp only at f0 f1 a1 a2
    by_cases hlt : i + 1 + m < j
    · obtain ⟨k, hk0⟩ : ∃ k, i + 1 + m = k := ⟨_, rfl⟩
      have hkI : (i : Int) + 1 + (m : Int) = (k : Int) := by omega
      have hk : k < ss.length := by omega
      have hik : i < k := by omega
      have hkj : k < j := by omega
      have hij2 : i < j := by omega
      obtain ⟨v, hv⟩ : ∃ v, missV (smpD ss i) (smpD ss j) (smpD ss k) = v := ⟨_, rfl⟩
      have HMV := Lib.hid hv
      have HKK := Lib.hid hk0
      have HLT := Lib.hid hkj
      have hvb := miss_bd (smpIn_of HS.out hi) (smpIn_of HS.out hj) (smpIn_of HS.out hk) (times_le HS.out (Nat.le_of_lt hik) hk) (times_le HS.out (Nat.le_of_lt hkj) hj) (times_lt HS.out hij2 hj)
      rw [hv] at hvb
      have HW2 : Hid (wstV ss i j (m + 1) = if f < v then (k, v) else (a, f)) := by
        show _ = _; rw [wstV, hk0, hv, hW.out]
      have rk : IntKind.i64.wrap ((k : Int) + 1) = (k : Int) + 1 := IntWalk.i64_in _ (by omega)
      rw [hkI]
      clear hv hk0 hlt
      go_wp2_with fail
      refine (fault_is b off cap ss HS i k j hi hk hj (Nat.le_of_lt hik) (Nat.le_of_lt hkj) hij2 _ ((HA.out.grown (grown_below HB.out)).grown hG.out) HMV).mono ?_; rintro e w5 ⟨rfl, hg5⟩
      have G5 := Lib.hid (grown_trans hG.out hg5)
      clear hg5 hG
      by_cases c1 : M < v
      · have g1 : decide (M < v) = true := by simp; omega
        by_cases c2 : M < f
        · have hfa : fr = (a : Int) := by rw [hfr.out]; unfold frV; rw [if_pos c2]
          subst hfa
          obtain ⟨ha1, ha2, ha3⟩ := a2 (by have := HM0.out; omega)
          have haj : a ≤ j := by omega
          have hal : a < ss.length := by omega
          have HF2 : Hid (missV (smpD ss i) (smpD ss j) (smpD ss a) = f) := ha3.symm
          have g2 : decide ((a : Int) < 0) = false := by simp
          have g2' : (0 : Int) ≤ (a : Int) := by omega
          clear ha3
          go_wp2_with fail
          refine (fault_is b off cap ss HS i a j hi hal hj (Nat.le_of_lt ha1) haj hij2 _ ((HA.out.grown (grown_below HB.out)).grown G5.out) HF2).mono ?_; rintro e w6 ⟨rfl, hg6⟩
          have G6 := Lib.hid (grown_trans G5.out hg6)
          clear hg6 G5
          by_cases c3 : f < v
          · have g3 : decide (f < v) = true := by simp; omega
            have HW3 : Hid (wstV ss i j (m + 1) = (k, v)) := by show _ = _; rw [HW2.out, if_pos c3]
            have HFR : Hid ((k : Int) = frV M (k, v)) := by show _ = _; unfold frV; rw [if_pos c1]
            clear HW2 hfr
            go_wp2_with fail
            go_roundw
            case rel => exact ⟨m + 1, (k, v), k, by go_num, by go_num, HFR, by have := HLT.out; have := HKK.out; show _ ∨ _; omega, HW3, G6⟩
            case measure => have := HLT.out; simp [intOf]; omega
          · have g3 : decide (f < v) = false := by simp; omega
            have HW3 : Hid (wstV ss i j (m + 1) = (a, f)) := by show _ = _; rw [HW2.out, if_neg c3]
            have HFR : Hid ((a : Int) = frV M (a, f)) := hfr
            clear HW2 hfr
            go_wp2_with fail
            go_roundw
            case rel => exact ⟨m + 1, (a, f), a, by go_num, by go_num, HFR, by have := HLT.out; have := HKK.out; show _ ∨ _; omega, HW3, G6⟩
            case measure => have := HLT.out; simp [intOf]; omega
        · have hfa : fr = -1 := by rw [hfr.out]; unfold frV; rw [if_neg c2]
          subst hfa
          have HW3 : Hid (wstV ss i j (m + 1) = (k, v)) := by show _ = _; rw [HW2.out, if_pos (by omega)]
          have HFR : Hid ((k : Int) = frV M (k, v)) := by show _ = _; unfold frV; rw [if_pos c1]
          clear HW2 hfr
          go_wp2_with fail
          go_roundw
          case rel => exact ⟨m + 1, (k, v), k, by go_num, by go_num, HFR, by have := HLT.out; have := HKK.out; show _ ∨ _; omega, HW3, G5⟩
          case measure => have := HLT.out; simp [intOf]; omega
      · have g1 : decide (M < v) = false := by simp; omega
        obtain ⟨p2, hp2⟩ : ∃ p2, (if f < v then (k, v) else (a, f)) = p2 := ⟨_, rfl⟩
        have HFR : Hid (fr = frV M p2) := by
          show _ = _
          rw [hfr.out, ← hp2]; exact (frV_keep c1).symm
        have HW3 : Hid (wstV ss i j (m + 1) = p2) := by show _ = _; rw [HW2.out, hp2]
        clear HW2 hfr hp2
        go_wp2_with fail
        go_roundw
        case rel => exact ⟨m + 1, p2, fr, by go_num, by go_num, HFR, by have := HLT.out; have := HKK.out; show _ ∨ _; omega, HW3, G5⟩
        case measure => have := HLT.out; simp [intOf]; omega
    · have hmE : m = j - 1 - i := by have := hmj.out; omega
      have hE : (A, B) = (a, f) := by rw [← HWE.out, ← hmE]; exact hW.out
      injection hE with e1 e2
      subst e1 e2
      have hge : (j : Int) ≤ (i : Int) + 1 + (m : Int) := by omega
      have hge2 : decide ((i : Int) + 1 + (m : Int) < (j : Int)) = false := by simp; omega
      by_cases c2 : M < B
      · have hfa : fr = (A : Int) := by rw [hfr.out]; unfold frV; rw [if_pos c2]
        subst hfa
        obtain ⟨ha1, ha2, ha3⟩ := a2 (by have := HM0.out; omega)
        have hAj : A < j := by have := hmj.out; omega
        have hAn : A < ss.length := by omega
        have hA1 : (A : Int) < (ss.length : Int) := by omega
        have hA0 : (0 : Int) ≤ (A : Int) := by omega
        have g2 : decide ((A : Int) < 0) = false := by simp
        have BR : Below w0.heap.size w0 wr := HB.out.trans ((below_grown hG.out).mono HB.out.size)
        have MR := HK.out.grown hG.out
        have c1 := MR.cell (k := A) hAn
        have fr1 := MR.free A
        have B1 := Lib.hid (BR.setCell (p := ⟨g, A, none⟩) hg0 (.bool true))
        have M1 := Lib.hid (MR.set A true)
        have I1 := Lib.hid (IH.out i A (by omega) hAn (by omega))
        have I2 := Lib.hid (IH.out A j (by omega) hj (by omega))
        have HC2 : Hid (ksC ss M i j = ksC ss M i A ++ A :: ksC ss M A j) := by show _ = _; rw [HC.out, if_pos c2]
        clear HC hfr hW ha3 BR MR IH
        go_wp2_with fail
        clear c1 fr1
        refine (I1.out _ _ B1.out M1.out).mono ?_; rintro e w5 ⟨rfl, hb5, hm5⟩
        have B5 := Lib.hid hb5; have M5 := Lib.hid hm5
        clear hb5 hm5
        go_wp2_with fail
        refine (I2.out _ _ B5.out M5.out).mono ?_; rintro e w6 ⟨rfl, hb6, hm6⟩
        have B6 := Lib.hid hb6; have M6 := Lib.hid hm6
        clear hb6 hm6
        go_wp2_with fail
        first | go_end0 | ((try simp only [Exit.inBlock, Exit.then]); refine bodyPost_ret (results_none rfl _ _ _) rfl ?_)
        refine ⟨rfl, B6.out, M6.out.congr (fun q _ => ?_)⟩
        rw [HC2.out, HM.out]
        unfold updK
        by_cases e : q = A
        · subst e; simp
        · simp [e, Bool.or_assoc]
      · have hfa : fr = -1 := by rw [hfr.out]; unfold frV; rw [if_neg c2]
        subst hfa
        have HC2 : Hid (ksC ss M i j = []) := by show _ = _; rw [HC.out, if_neg c2]
        have BR := Lib.hid (HB.out.trans ((below_grown hG.out).mono HB.out.size))
        have MR := Lib.hid (HK.out.grown hG.out)
        clear HC hfr hW
        go_wp2_with fail
        first | go_end0 | ((try simp only [Exit.inBlock, Exit.then]); refine bodyPost_ret (results_none rfl _ _ _) rfl ?_)
        exact ⟨rfl, BR.out, MR.out.congr (fun q _ => by rw [HC2.out]; simp)⟩

theorem kfar_all (b off cap : Nat) (ss : List Smp) (HS : Hid (SOk ss)) (most : Int) (m0 : 0 ≤ most) (m1 : most ≤ 100000000) (w0 : World) (HA : Hid (SmpsAt w0 (some ⟨b, off, none⟩) ss)) (g : Nat) (hg0 : w0.heap.size ≤ g) : ∀ d i j, j - i ≤ d → i ≤ j → j < ss.length → KFar b off cap ss most w0 g i j
  | 0, i, j, hd, hij, hj => kfar_step b off cap ss HS most m0 m1 w0 HA g hg0 i j hij hj (Lib.hid fun i' j' _ _ h => absurd h (by omega))
  | d + 1, i, j, hd, hij, hj => kfar_step b off cap ss HS most m0 m1 w0 HA g hg0 i j hij hj (Lib.hid fun i' j' h1 h2 h3 => kfar_all b off cap ss HS most m0 m1 w0 HA g hg0 d i' j' (by omega) h1 h2)
end Go.Proofs.Ytgkhhfojioepgaa
namespace Go.Proofs.Ytgkhhfojioepgaa
open Go.RowKit
set_option linter.unusedSimpArgs false
set_option linter.unusedVariables false

def natVs (l : List Nat) : List Value := l.map fun x => .int .i64 (x : Nat)
theorem natVs_len (l : List Nat) : (natVs l).length = l.length := by simp [natVs]
noncomputable def kepL (ss : List Smp) (M : Int) (k : Nat) : List Nat := (List.range k).filter (kepB ss M)
theorem kepL_len (ss : List Smp) (M : Int) (k : Nat) : (kepL ss M k).length ≤ k := by
  have := List.length_filter_le (kepB ss M) (List.range k)
  unfold kepL; simpa using this
theorem kepL_yes {ss : List Smp} {M : Int} {k : Nat} (h : kepB ss M k = true) : kepL ss M (k + 1) = kepL ss M k ++ [k] := by
  unfold kepL; rw [List.range_succ, List.filter_append]; simp [h]
theorem kepL_no {ss : List Smp} {M : Int} {k : Nat} (h : kepB ss M k = false) : kepL ss M (k + 1) = kepL ss M k := by
  unfold kepL; rw [List.range_succ, List.filter_append]; simp [h]

set_option maxRecDepth 100000 in
set_option maxHeartbeats 4000000 in
theorem rSimple_ok (nm : ByteArray) (sp st : Int) (b off sc : Nat) (ss : List Smp) (lo : Option Addr) (lc : Nat) (ls : List LapV) (to_ : Option Addr) (tc : Nat) (ts : List ByteArray) (most : Int) (m0 : 0 ≤ most) (m1 : most ≤ 100000000) (hl : (ss.length : Int) ≤ 5000) (hn1 : 1 ≤ ss.length) (w : World)
    (HA : Hid (ActAt w ⟨nm, sp, st, some ⟨b, off, none⟩, sc, ss, lo, lc, ls, to_, tc, ts⟩)) (HCE : Hid (chkE ⟨nm, sp, st, some ⟨b, off, none⟩, sc, ss, lo, lc, ls, to_, tc, ts⟩ = 0)) (HS : Hid (SOk ss)) :
    Calls Try.prog 41 #[.agg #[.string nm, .int .i64 sp, .int .i64 st, .slice (some ⟨b, off, none⟩) ss.length sc, .slice lo ls.length lc, .slice to_ ts.length tc], .int .i64 most] w fun x w' => (∃ v, x = .returned (.tuple #[v, .int .i64 0]) ∧ w'.ownsRow w.heap.size 3 1 v (simL ss (most * most)).length (natVs (simL ss (most * most)))) ∧ w.grownBy w' none := by
  have hll : ss.length ≤ 5000 := by omega
  have hmk := run_make_row' (P := Try.prog) 89 4 (.bool false) 1 Try.underlying89 info_mark rfl .i64 .i64 ss.length (by omega) (by omega)
  obtain ⟨la, hla⟩ : ∃ la : Nat, ss.length = la + 1 := ⟨ss.length - 1, by omega⟩
  have HLA := Lib.hid hla
  have hla3 : (ss.length : Int) - 1 = (la : Int) := by omega
  have rlen1 : IntKind.i64.wrap ((ss.length : Int) - 1) = (la : Int) := by rw [hla3]; exact IntWalk.i64_in _ (by omega)
  have hlan : la < ss.length := by omega
  have hla1 : (la : Int) < (ss.length : Int) := by omega
  have hla0 : (0 : Int) ≤ (la : Int) := by omega
  have hpos : decide ((0 : Int) < (ss.length : Int)) = true := by rw [decide_eq_true_iff]; omega
  have hpos2 : (0 : Int) < (ss.length : Int) := by omega
  clear hla
  go_enter Try.func41, Try.ntmps41
  go_wp2_with fail
  refine (rcheck_any ⟨nm, sp, st, some ⟨b, off, none⟩, sc, ss, lo, lc, ls, to_, tc, ts⟩ _ (HA.out.grown (World.grownBy_alloc _ _ _)) HCE).mono ?_; rintro e w1 ⟨rfl, hg1⟩
  have G1 : w.grownBy w1 none := grown_trans (World.grownBy_alloc w (.cells #[.string nm, .int .i64 sp, .int .i64 st, .slice (some ⟨b, off, none⟩) ss.length sc, .slice lo ls.length lc, .slice to_ ts.length tc] 26) none) hg1
  have b3 : w1.cell? ⟨w.heap.size, 3, none⟩ = some (.slice (some ⟨b, off, none⟩) ss.length sc) := grown_cell hg1 (by go_simp)
  have hR0 : w.heap.size < w1.heap.size := by have := hg1.size; simp at this; omega
  have HAS := Lib.hid (HA.out.hs.grown G1)
  clear hg1
  have GW := Lib.hid G1
  have HR0 : Hid (w.heap.size < w1.heap.size) := hR0
  have HB3 := Lib.hid b3
  clear G1 hR0
  go_wp2_with fail
  refine (rout_no _ _ _ m0 m1 _).mono ?_; rintro e w2 ⟨rfl, rfl⟩
  have hcap : decide ((5000 : Int) < (ss.length : Int)) = false := by simp; omega
  have HMK : Hid (MkAt (w1.alloc (.cells (madeCells #[.bool false] ss.length) 4)) w1.heap.size ss.length (fun _ => false)) := by
    show _ = _
    rw [heap_alloc_new, kRow_zero]
  have HBK := Lib.hid ((Below.refl w1.heap.size w1).alloc (Nat.le_refl _) (.cells (madeCells #[.bool false] ss.length) 4))
  go_upto_region 11 with (fail)
  obtain ⟨g, hg⟩ : ∃ g, w1.heap.size = g := ⟨_, rfl⟩
  try rw [hg]
  rw [hg] at HMK
  generalize w1.alloc (.cells (madeCells #[.bool false] ss.length) 4) = W2 at *
  clear b3 hmk
  have hg0 : w1.heap.size ≤ g := by omega
  have HGE := Lib.hid hg
  clear hg
  have c0 := HMK.out.cell (k := 0) (by omega)
  have fr0 := HMK.out.free 0
  have M1 := Lib.hid (HMK.out.set 0 true)
  have c1 := M1.out.cell (k := la) hlan
  have fr1 := M1.out.free la
  have M2 := Lib.hid (M1.out.set la true)
  have B2 := Lib.hid ((HBK.out.setCell (p := ⟨g, 0, none⟩) hg0 (.bool true)).setCell (p := ⟨g, la, none⟩) hg0 (.bool true))
  have b33 : ((W2.setCell ⟨g, 0, none⟩ (.bool true)).setCell ⟨g, la, none⟩ (.bool true)).cell? ⟨w.heap.size, 3, none⟩ = some (.slice (some ⟨b, off, none⟩) ss.length sc) := (B2.out.cell (p := ⟨w.heap.size, 3, none⟩) HR0.out).trans HB3.out
  have KF := Lib.hid (kfar_all b off sc ss HS most m0 m1 w1 HAS g hg0 la 0 la (by omega) (Nat.zero_le _) hlan)
  go_wp2_with fail
  refine (KF.out _ _ B2.out M2.out).mono ?_; rintro e w5 ⟨rfl, hb5, hm5⟩
  have B5 := Lib.hid hb5
  have M5 : Hid (MkAt w5 g ss.length (kepB ss (most * most))) := by
    refine hm5.congr (fun k _ => ?_)
    have := HLA.out
    unfold kepB updK
    rw [show ss.length - 1 = la by omega]
    by_cases e1 : k = 0
    · subst e1; by_cases e2 : (0 : Nat) = la <;> simp [e2]
    · by_cases e2 : k = la
      · subst e2; simp
      · simp [e1, e2]
  obtain ⟨M, hM⟩ : ∃ M, most * most = M := ⟨_, rfl⟩
  have HMM := Lib.hid hM
  have HQ0 := Lib.hid (sq_most m0 m1).1
  rw [hM] at M5 HQ0
  clear hb5 hm5 c0 c1 fr0 fr1 b33 hM
  obtain ⟨i0, hi, hz0, hz1, hz2⟩ := info_parts info_int
  have HI := Lib.hid hi; have HZ0 := Lib.hid hz0; have HZ1 := Lib.hid hz1; have HZ2 := Lib.hid hz2
  have HGB : Hid (g < w5.heap.size) := M5.out.lt
  have HL := Lib.hid hll
  clear hi hz0 hz1 hz2
  go_wp2_with fail
  go_loopw [9, 43] (fun lv iv wl => ∃ (k : Nat) (v : Value), v = lv ∧ iv = .int .i64 (k : Nat) ∧ k ≤ ss.length ∧ Hid (wl.ownsRow w5.heap.size 3 1 v (kepL ss M k).length (natVs (kepL ss M k))) ∧ Hid (w5.grownBy wl none))
    (fun _ iv _ => ss.length - (intOf iv).toNat)
  case atStart => exact ⟨0, _, rfl, rfl, Nat.zero_le _, World.ownsRow_nil _ _ _ _, grown_refl _ _⟩
  case round =>
    obtain ⟨k, v, rfl, rfl, hk, hown, hg⟩ := hrel
    by_cases hlt : k < ss.length
    · have hkn : (k : Int) < (ss.length : Int) := by omega
      have hk0 : (0 : Int) ≤ (k : Int) := by omega
      have rk : IntKind.i64.wrap ((k : Int) + 1) = (k : Int) + 1 := IntWalk.i64_in _ (by omega)
      have ck := (M5.out.grown hg.out).cell (k := k) hlt
      obtain ⟨bb, hbb⟩ : ∃ bb, kepB ss M k = bb := ⟨_, rfl⟩
      rw [hbb] at ck
      have HBB := Lib.hid hbb
      clear hbb
      cases bb with
      | false =>
        have HO2 : Hid (wr.ownsRow w5.heap.size 3 1 v (kepL ss M (k + 1)).length (natVs (kepL ss M (k + 1)))) := by
          show World.ownsRow _ _ _ _ _ _ _; rw [kepL_no HBB.out]; exact hown.out
        clear hown
        go_wp2_with fail
        go_roundw
        case rel => exact ⟨k + 1, _, rfl, by go_num, by omega, HO2, hg⟩
        case measure => simp [intOf]; omega
      | true =>
        have hcl := kepL_len ss M k
        have hvs : Hid (natVs (kepL ss M (k + 1)) = natVs (kepL ss M k) ++ [.int .i64 (k : Int)]) := by show _ = _; rw [kepL_yes HBB.out]; simp [natVs]
        have hle : Hid ((kepL ss M (k + 1)).length = (kepL ss M k).length + 1) := by show _ = _; rw [kepL_yes HBB.out]; simp
        obtain ⟨c, hc⟩ : ∃ c, (kepL ss M k).length = c := ⟨_, rfl⟩
        rw [hc] at hcl hle hown
        obtain ⟨vs, hvq⟩ : ∃ vs, natVs (kepL ss M k) = vs := ⟨_, rfl⟩
        rw [hvq] at hvs hown
        have hlt2 := hown.out.lt
        have HCN : Hid (∀ j u, [Value.int .i64 (k : Int)][j]? = some u → (wr.alloc (.cells #[.int .i64 (k : Int)] 3)).cell? ((⟨wr.heap.size, 0, none⟩ : Addr).add j) = some u) := cell_one_new wr (.int .i64 (k : Int)) 3
        have hi := HI.out; have hz0 := HZ0.out; have hz1 := HZ1.out; have hz2 := HZ2.out
        have HSZ : Hid (w5.heap.size ≤ wr.heap.size) := hg.out.size
        clear hc hvq
        go_wp2_with (at_builtin; refine wpList_append_own _ rfl _ _ 48 rfl w5.heap.size 3 i0 (.int .i64 0) 1 8 Try.underlying48 hi hz0 hz1 hz2 rfl (by decide) _ _ _ rfl (hown.out.alloc _) ⟨wr.heap.size, 0, none⟩ 1 1 [.int .i64 (k : Int)] rfl rfl (HCN.out) (by intro u hu; simp at hu; subst hu; rfl) (by unfold maxLen; omega) (by omega) (by have := HSZ.out; simp at *; omega) ?_; intro v' w2 hown' hgrow' _)
        have HO2 : Hid (w2.ownsRow w5.heap.size 3 1 v' (kepL ss M (k + 1)).length (natVs (kepL ss M (k + 1)))) := by
          show World.ownsRow _ _ _ _ _ _ _; rw [hvs.out, hle.out]; exact hown'
        have G2 : Hid (w5.grownBy w2 none) := grown_own hg.out hgrow' (fun q e => (hlt2 q e).1)
        clear hown hown' hgrow' hlt2 hg
        go_wp2_with fail
        go_roundw
        case rel => exact ⟨k + 1, _, rfl, by go_num, by omega, HO2, G2⟩
        case measure => simp [intOf]; omega
    · obtain rfl : k = ss.length := by omega
      have HFIN : Hid (kepL ss M ss.length = simL ss M) := simL_filter HS.out HQ0.out
      have HOF : Hid (wr.ownsRow w.heap.size 3 1 v (simL ss M).length (natVs (simL ss M))) := by
        show World.ownsRow _ _ _ _ _ _ _
        rw [← HFIN.out]
        exact own_low2 hown.out (by have := B5.out.size; have := HR0.out; omega)
      have GF : Hid (w.grownBy wr none) := grown_trans (grown_trans GW.out (grown_below B5.out)) hg.out
      clear hown hg
      go_wp2_with fail
      go_ret2
      exact ⟨⟨_, rfl, by rw [HMM.out]; exact HOF.out⟩, GF.out⟩
end Go.Proofs.Ytgkhhfojioepgaa
namespace Go.Proofs.Ytgkhhfojioepgaa
open Go.RowKit
set_option linter.unusedSimpArgs false
set_option linter.unusedVariables false

/-- What is still to come: p is the last one kept, T the ones ahead, the next one first. -/
noncomputable def flatK (ss : List Smp) (M : Int) : Nat → List Nat → List Nat
  | _, [] => []
  | p, q :: r => if q = 0 then flatK ss M p r else ksC ss M p q ++ q :: flatK ss M q r
structure SmP (ss : List Smp) (M : Int) (P : List Nat) (p : Nat) (T : List Nat) : Prop where
  last : P[P.length - 1]? = some p
  pos : 0 < P.length
  sum : P ++ flatK ss M p T = simL ss M
  chain : T = [] ∨ (T = [0] ∧ p = 0) ∨ (p :: T).Pairwise (· < ·)
  inn : ∀ t ∈ T, t < ss.length
  pin : p < ss.length
  len : P.length ≤ p + 1
theorem chain_len {n : Nat} : ∀ (T : List Nat) (p : Nat), (p :: T).Pairwise (· < ·) → (∀ t ∈ T, t < n) → p < n → p + T.length + 1 ≤ n
  | [], p, _, _, h => by simp; omega
  | t :: T, p, hc, hn, _ => by
    obtain ⟨h1, h2⟩ := List.pairwise_cons.mp hc
    have := chain_len T t h2 (fun x hx => hn x (List.mem_cons_of_mem _ hx)) (hn t (by simp))
    have := h1 t (by simp)
    simp only [List.length_cons]; omega
section
variable {ss : List Smp} {M : Int} {P : List Nat} {p t : Nat} {r : List Nat}
theorem SmP.le (h : SmP ss M P p (t :: r)) : p ≤ t ∧ (t = 0 → p = 0 ∧ r = []) ∧ (0 < t → (p :: t :: r).Pairwise (· < ·)) := by
  rcases h.chain with c | ⟨c, d⟩ | c
  · cases c
  · injection c with c1 c2; subst c1 c2; exact ⟨by omega, fun _ => ⟨d, rfl⟩, fun q => by omega⟩
  · have := (List.pairwise_cons.mp c).1 t (by simp); exact ⟨by omega, fun q => by omega, fun _ => c⟩
theorem SmP.push (HS : SOk ss) (hM : 0 ≤ M) (h : SmP ss M P p (t :: r)) {A : Nat} {B : Int} (hw : wstV ss p t (t - 1 - p) = (A, B)) (hlt : M < B) : SmP ss M P p (A :: t :: r) ∧ P.length + (r.length + 1) + 1 ≤ ss.length := by
  have htn := h.inn t (by simp)
  obtain ⟨q1, q2, q3⟩ := h.le
  have hA := wst_in HS hM q1 htn (by rw [hw]; exact hlt)
  rw [hw] at hA
  simp only at hA
  have hch := q3 (by omega)
  have hch2 : (p :: A :: t :: r).Pairwise (· < ·) := by
    obtain ⟨c1, c2⟩ := List.pairwise_cons.mp hch
    have c3 := (List.pairwise_cons.mp c2).1
    refine List.pairwise_cons.mpr ⟨fun x hx => ?_, List.pairwise_cons.mpr ⟨fun x hx => ?_, c2⟩⟩
    · rcases List.mem_cons.mp hx with e | e
      · omega
      · exact c1 x e
    · rcases List.mem_cons.mp hx with e | e
      · omega
      · have := c3 x e; omega
  have hin2 : ∀ x ∈ A :: t :: r, x < ss.length := fun x hx => by
    rcases List.mem_cons.mp hx with e | e
    · omega
    · exact h.inn x e
  have hcl := chain_len _ _ hch2 hin2 h.pin
  refine ⟨⟨h.last, h.pos, ?_, Or.inr (Or.inr hch2), hin2, h.pin, h.len⟩, by have := h.len; simp only [List.length_cons] at hcl; omega⟩
  rw [← h.sum]
  congr 1
  unfold flatK
  rw [if_neg (by omega), if_neg (by omega)]
  conv => lhs; unfold flatK
  rw [if_neg (by omega), ksC_eq HS hM q1 htn hw, if_pos hlt]
  simp
theorem SmP.pop (HS : SOk ss) (hM : 0 ≤ M) (h : SmP ss M P p (t :: r)) {A : Nat} {B : Int} (hw : wstV ss p t (t - 1 - p) = (A, B)) (hlt : ¬ M < B) (h0 : 0 < t) : SmP ss M (P ++ [t]) t r ∧ P.length + (r.length + 1) ≤ ss.length := by
  have htn := h.inn t (by simp)
  obtain ⟨q1, q2, q3⟩ := h.le
  have hch := q3 h0
  have hcl := chain_len _ _ hch h.inn h.pin
  obtain ⟨c1, c2⟩ := List.pairwise_cons.mp hch
  refine ⟨⟨by simp, by simp, ?_, ?_, fun x hx => h.inn x (List.mem_cons_of_mem _ hx), htn, ?_⟩, by have := h.len; simp only [List.length_cons] at hcl; omega⟩
  · rw [← h.sum]
    conv => rhs; unfold flatK
    rw [if_neg (by omega), ksC_eq HS hM q1 htn hw, if_neg hlt]
    simp
  · exact Or.inr (Or.inr c2)
  · have := h.len; have := c1 t (by simp); simp; omega
theorem SmP.skip (h : SmP ss M P p (0 :: r)) : SmP ss M P p [] ∧ r = [] := by
  obtain ⟨-, q2, -⟩ := h.le
  obtain ⟨rfl, rfl⟩ := q2 rfl
  refine ⟨⟨h.last, h.pos, ?_, Or.inl rfl, fun x hx => absurd hx (by simp), h.pin, h.len⟩, rfl⟩
  have := h.sum
  unfold flatK at this
  rw [if_pos rfl] at this
  exact this
theorem SmP.done (h : SmP ss M P p []) : P = simL ss M := by
  have := h.sum
  unfold flatK at this
  simpa using this
theorem SmP.start {la : Nat} (hla : ss.length = la + 1) : SmP ss M [0] 0 [la] := by
  refine ⟨rfl, by simp, ?_, ?_, fun x hx => ?_, by omega, by simp⟩
  · have hs : simL ss M = if la = 0 then [0] else 0 :: (ksC ss M 0 la ++ [la]) := by
      unfold simL
      rw [hla, if_neg (Nat.succ_ne_zero la), Nat.add_sub_cancel]
      by_cases h : la = 0
      · rw [if_pos h, if_pos (by omega)]
      · rw [if_neg h, if_neg (by omega)]
    rw [hs]
    by_cases h : la = 0
    · rw [if_pos h]; unfold flatK; rw [if_pos h]; unfold flatK; rfl
    · rw [if_neg h]; unfold flatK; rw [if_neg h]; unfold flatK; rfl
  · by_cases h : la = 0
    · subst h; exact Or.inr (Or.inl ⟨rfl, rfl⟩)
    · exact Or.inr (Or.inr (by simp; omega))
  · rw [List.mem_singleton] at hx; omega
end
theorem own_cut {w : World} {base g n cap : Nat} {e : TypeId} {xs : List Value} {x : Value} (h : w.ownsRow base e 1 (.slice (some ⟨g, 0, none⟩) (n + 1) cap) (n + 1) (xs ++ [x])) : w.ownsRow base e 1 (.slice (some ⟨g, 0, none⟩) n cap) n xs := by
  have hl := h.1
  rcases h.2 with ⟨h', _⟩ | ⟨g', cap', cur, h', hb, hg, hnc, hcm, hcs, htake⟩
  · simp at h'
  · simp only [Value.slice.injEq, Option.some.injEq, Addr.mk.injEq, and_true, true_and] at h'
    obtain ⟨rfl, rfl⟩ := h'
    have hxl : xs.length = n * 1 := by simp at hl ⊢; omega
    refine ⟨hxl, .inr ⟨g, cap, cur, rfl, hb, hg, by omega, hcm, hcs, ?_⟩⟩
    have h2 : (cur.toList.take ((n + 1) * 1)).take (n * 1) = (xs ++ [x]).take (n * 1) := by rw [htake]
    rw [List.take_take, Nat.min_eq_left (by omega)] at h2
    rw [h2, ← hxl]; simp
/-- The two lists of Simple in memory. -/
structure SmM (w1 : World) (gk ck ga ca : Nat) (P Q : List Nat) (W : World) : Prop where
  k : W.ownsRow w1.heap.size 3 1 (.slice (some ⟨gk, 0, none⟩) P.length ck) P.length (natVs P)
  a : W.ownsRow w1.heap.size 3 1 (.slice (some ⟨ga, 0, none⟩) Q.length ca) Q.length (natVs Q)
  ne : gk ≠ ga
  g : w1.grownBy W none
section
variable {w1 W W' : World} {gk ck ga ca : Nat} {P Q : List Nat}
theorem SmM.grown (h : SmM w1 gk ck ga ca P Q W) (hg : W.grownBy W' none) : SmM w1 gk ck ga ca P Q W' :=
  ⟨h.k.kept hg (Or.inr (by simp [Value.ownBlock])), h.a.kept hg (Or.inr (by simp [Value.ownBlock])), h.ne, grown_trans h.g hg⟩
theorem SmM.lastK (h : SmM w1 gk ck ga ca P Q W) {p : Nat} (hp : P[P.length - 1]? = some p) (h0 : 0 < P.length) : W.cell? ⟨gk, P.length - 1, none⟩ = some (.int .i64 (p : Nat)) := by
  rw [h.k.cellAt _ (by omega)]; simp [natVs, hp]
theorem SmM.lastA (h : SmM w1 gk ck ga ca P Q W) {p : Nat} (hp : Q[Q.length - 1]? = some p) (h0 : 0 < Q.length) : W.cell? ⟨ga, Q.length - 1, none⟩ = some (.int .i64 (p : Nat)) := by
  rw [h.a.cellAt _ (by omega)]; simp [natVs, hp]
end
end Go.Proofs.Ytgkhhfojioepgaa
namespace Go.Proofs.Ytgkhhfojioepgaa
open Go.RowKit
set_option linter.unusedSimpArgs false
set_option linter.unusedVariables false

def sLen : Value → Nat
  | .slice _ n _ => n
  | _ => 0
def muS (n : Nat) (k a : Value) : Nat := if sLen a = 0 then 0 else 2 + 2 * (n - sLen k) - sLen a
theorem muS_push {n kl al ck ca ck2 ca2 : Nat} {x y x2 y2 : Option Addr} (h0 : 0 < al) (h : kl + al + 1 ≤ n) : muS n (.slice x kl ck) (.slice y (al + 1) ca) < muS n (.slice x2 kl ck2) (.slice y2 al ca2) := by
  unfold muS sLen; simp only; rw [if_neg (by omega), if_neg (by omega)]; omega
theorem muS_pop {n kl al rl ck ca ck2 ca2 : Nat} {x y x2 y2 : Option Addr} (h0 : al = rl + 1) (h : kl + al ≤ n) : muS n (.slice x (kl + 1) ck) (.slice y rl ca) < muS n (.slice x2 kl ck2) (.slice y2 al ca2) := by
  unfold muS sLen; simp only; rw [if_neg (show ¬ al = 0 by omega)]; split <;> omega
theorem muS_skip {n kl al ck ca ck2 ca2 : Nat} {x y x2 y2 : Option Addr} (h0 : al = 0 + 1) : muS n (.slice x kl ck) (.slice y 0 ca) < muS n (.slice x2 kl ck2) (.slice y2 al ca2) := by
  subst h0; unfold muS sLen; simp only; rw [if_pos trivial, if_neg (by omega)]; omega
theorem own_cap {w : World} {base g n cap : Nat} {e : TypeId} {xs : List Value} (h : w.ownsRow base e 1 (.slice (some ⟨g, 0, none⟩) n cap) n xs) : n ≤ cap ∧ cap ≤ maxLen := by
  rcases h.2 with ⟨h', _⟩ | ⟨g', cap', cur, h', hb, hg, hnc, hcm, hcs, htake⟩
  · simp at h'
  · simp only [Value.slice.injEq, Option.some.injEq, Addr.mk.injEq, and_true, true_and] at h'
    obtain ⟨rfl, rfl⟩ := h'
    exact ⟨hnc, hcm⟩

set_option maxRecDepth 100000 in
set_option maxHeartbeats 4000000 in
theorem Simple_ok (nm : ByteArray) (sp st : Int) (b off sc : Nat) (ss : List Smp) (lo : Option Addr) (lc : Nat) (ls : List LapV) (to_ : Option Addr) (tc : Nat) (ts : List ByteArray) (most : Int) (m0 : 0 ≤ most) (m1 : most ≤ 100000000) (hl : (ss.length : Int) ≤ 5000) (hn1 : 1 ≤ ss.length) (w : World)
    (HA : Hid (ActAt w ⟨nm, sp, st, some ⟨b, off, none⟩, sc, ss, lo, lc, ls, to_, tc, ts⟩)) (HTE : Hid (thinE ⟨nm, sp, st, some ⟨b, off, none⟩, sc, ss, lo, lc, ls, to_, tc, ts⟩ most 5000 = 0)) (HS : Hid (SOk ss)) :
    Calls Try.prog 40 #[.agg #[.string nm, .int .i64 sp, .int .i64 st, .slice (some ⟨b, off, none⟩) ss.length sc, .slice lo ls.length lc, .slice to_ ts.length tc], .int .i64 most] w fun x w' => (∃ v, x = .returned (.tuple #[v, .int .i64 0]) ∧ w'.ownsRow w.heap.size 3 1 v (simL ss (most * most)).length (natVs (simL ss (most * most)))) ∧ w.grownBy w' none := by
  have hll : ss.length ≤ 5000 := by omega
  obtain ⟨la, hla⟩ : ∃ la : Nat, ss.length = la + 1 := ⟨ss.length - 1, by omega⟩
  have HLA := Lib.hid hla
  have hla2 : (ss.length : Int) - 1 = (la : Int) := by omega
  have rlen : IntKind.i64.wrap ((ss.length : Int) - 1) = (la : Int) := by rw [hla2]; exact IntWalk.i64_in _ (by omega)
  have hnz : ((ss.length : Int) == 0) = false := by rw [beq_eq_false_iff_ne]; omega
  obtain ⟨hsq0, hsq⟩ := sq_most m0 m1
  obtain ⟨M, hM⟩ : ∃ M, most * most = M := ⟨_, rfl⟩
  rw [hM] at hsq hsq0
  have rM : IntKind.i64.wrap (most * most) = M := by rw [hM]; exact IntWalk.i64_in _ (by omega)
  rw [hM]
  have HM0 := Lib.hid hsq0
  have HL := Lib.hid hll
  clear hla hM hsq hsq0
  obtain ⟨i0, hi, hz0, hz1, hz2⟩ := info_parts info_int
  have HI := Lib.hid hi; have HZ0 := Lib.hid hz0; have HZ1 := Lib.hid hz1; have HZ2 := Lib.hid hz2
  clear hi hz0 hz1 hz2
  go_enter Try.func40, Try.ntmps40
  go_wp2_with fail
  refine (checkThin_any ⟨nm, sp, st, some ⟨b, off, none⟩, sc, ss, lo, lc, ls, to_, tc, ts⟩ most 5000 _ (HA.out.grown (World.grownBy_alloc _ _ _)) HTE).mono ?_; rintro e w1 ⟨rfl, hg1⟩
  have G1 : w.grownBy w1 none := grown_trans (World.grownBy_alloc w (.cells #[.string nm, .int .i64 sp, .int .i64 st, .slice (some ⟨b, off, none⟩) ss.length sc, .slice lo ls.length lc, .slice to_ ts.length tc] 26) none) hg1
  have b3 : w1.cell? ⟨w.heap.size, 3, none⟩ = some (.slice (some ⟨b, off, none⟩) ss.length sc) := grown_cell hg1 (by go_simp)
  have HAS := Lib.hid (HA.out.hs.grown G1)
  have GW := Lib.hid G1
  have HB3 := Lib.hid b3
  clear hg1 G1
  have b31 : (w1.alloc (.cells #[.int .i64 0] 3)).cell? ⟨w.heap.size, 3, none⟩ = some (.slice (some ⟨b, off, none⟩) ss.length sc) := grown_cell (World.grownBy_alloc _ _ _) b3
  have HM : Hid (SmM w1 w1.heap.size 1 (w1.heap.size + 1) 1 [0] [la] ((w1.alloc (.cells #[.int .i64 0] 3)).alloc (.cells #[.int .i64 (la : Nat)] 3))) := by
    refine ⟨(World.ownsRow_lit w1 #[.int .i64 0] 1 (Nat.le_refl _) (by unfold maxLen; omega) rfl).alloc _, ?_, by omega, grown_trans (World.grownBy_alloc _ _ _) (World.grownBy_alloc _ _ _)⟩
    have q := World.ownsRow_lit (base := w1.heap.size) (e := 3) (size := 1) (w1.alloc (.cells #[.int .i64 0] 3)) #[.int .i64 (la : Nat)] 1 (by simp) (by unfold maxLen; omega) rfl
    simpa [natVs] using q
  go_wp2_with fail
  clear b3 b31
  go_loopw [7, 8] (fun kv av wr => ∃ (P T : List Nat) (p gk ck ga ca kl al : Nat), kv = .slice (some ⟨gk, 0, none⟩) kl ck ∧ av = .slice (some ⟨ga, 0, none⟩) al ca ∧ Hid (P.length = kl) ∧ Hid (T.reverse.length = al) ∧ Hid (SmP ss M P p T) ∧ Hid (SmM w1 gk ck ga ca P T.reverse wr))
    (fun kv av _ => muS ss.length kv av)
  case atStart => exact ⟨[0], [la], 0, w1.heap.size, 1, w1.heap.size + 1, 1, 1, 1, rfl, by go_simp, rfl, rfl, SmP.start HLA.out, HM.out⟩
  case round =>
    obtain ⟨P, T, p, gk, ck, ga, ca, kl, al, rfl, rfl, hkl, hal, hP, hM⟩ := hrel
    cases T with
    | nil =>
      obtain rfl : al = 0 := by have := hal.out; simp at this; exact this.symm
      have HF : Hid (P = simL ss M) := hP.out.done
      have HOF : Hid (wr.ownsRow w.heap.size 3 1 (.slice (some ⟨gk, 0, none⟩) kl ck) (simL ss M).length (natVs (simL ss M))) := by
        show World.ownsRow _ _ _ _ _ _ _
        have := hM.out.k
        rw [← HF.out]
        rw [hkl.out] at this ⊢
        exact own_low2 this GW.out.size
      have GF : Hid (w.grownBy wr none) := grown_trans GW.out hM.out.g
      clear hP hM hkl hal HM
      go_wp2_with fail
      go_ret2
      exact ⟨⟨_, rfl, HOF.out⟩, GF.out⟩
    | cons t r =>
      obtain ⟨rl, hrl⟩ : ∃ rl, r.length = rl := ⟨_, rfl⟩
      obtain rfl : al = rl + 1 := by have := hal.out; simp at this; omega
      obtain ⟨kp, hkp⟩ : ∃ kp, kl = kp + 1 := ⟨kl - 1, by have := hP.out.pos; have := hkl.out; omega⟩
      obtain ⟨al, hal2⟩ : ∃ al, al = rl + 1 := ⟨_, rfl⟩
      have HAL := Lib.hid hal2
      have HRL := Lib.hid hrl
      have HKP := Lib.hid hkp
      rw [← hal2] at hal ⊢
      have hQl : (t :: r).reverse = r.reverse ++ [t] := by simp
      have hpn := hP.out.pin
      have htn := hP.out.inn t (by simp)
      obtain ⟨hpt, -, hpw⟩ := hP.out.le
      have hcK : wr.cell? ⟨gk, kp, none⟩ = some (.int .i64 (p : Nat)) := by
        have := hM.out.lastK hP.out.last hP.out.pos
        rw [hkl.out, hkp, Nat.add_sub_cancel] at this; exact this
      have hcA : wr.cell? ⟨ga, rl, none⟩ = some (.int .i64 (t : Nat)) := by
        have := hM.out.lastA (p := t) (by rw [hQl]; simp) (by simp)
        rw [hal.out, hal2, Nat.add_sub_cancel] at this; exact this
      have hcap := own_cap hM.out.a
      rw [hal.out] at hcap
      have hklb : kl ≤ ss.length := by have := hP.out.len; have := hkl.out; omega
      have halb : al ≤ 5001 := by
        rcases hP.out.chain with c | ⟨c, _⟩ | c
        · cases c
        · injection c with _ c; subst c; simp at hrl; omega
        · have := chain_len _ _ c hP.out.inn hpn; simp only [List.length_cons] at this; omega
      have wal : IntKind.i64.wrap ((al : Int) - 1) = (rl : Int) := by
        rw [show (al : Int) - 1 = (rl : Int) by omega]; exact IntWalk.i64_in _ (by omega)
      have wkl : IntKind.i64.wrap ((kl : Int) - 1) = (kp : Int) := by
        rw [show (kl : Int) - 1 = (kp : Int) by omega]; exact IntWalk.i64_in _ (by omega)
      have hpos : decide ((0 : Int) < (al : Int)) = true := by rw [decide_eq_true_iff]; omega
      have hpos2 : (0 : Int) < (al : Int) := by omega
      have i1 : (rl : Int) < (al : Int) := by omega
      have i2 : (0 : Int) ≤ (rl : Int) := by omega
      have i3 : (kp : Int) < (kl : Int) := by omega
      have i4 : (0 : Int) ≤ (kp : Int) := by omega
      obtain ⟨⟨A, B⟩, hW⟩ : ∃ q, wstV ss p t (t - 1 - p) = q := ⟨_, rfl⟩
      have HWE := Lib.hid hW
      have b3 : wr.cell? ⟨w.heap.size, 3, none⟩ = some (.slice (some ⟨b, off, none⟩) ss.length sc) := grown_cell hM.out.g HB3.out
      have HSW : Hid (∀ W : World, (wr.grownBy W none ∧ World.cell? W ⟨w.heap.size, 3, none⟩ = some (.slice (some ⟨b, off, none⟩) ss.length sc) ∧ World.cell? W ⟨gk, kp, none⟩ = some (.int .i64 (p : Nat))) → SmpsAt W (some ⟨b, off, none⟩) ss) := fun W h => (HAS.out.grown hM.out.g).grown h.1
      have hS0 : (wr.grownBy wr none ∧ World.cell? wr ⟨w.heap.size, 3, none⟩ = some (.slice (some ⟨b, off, none⟩) ss.length sc) ∧ World.cell? wr ⟨gk, kp, none⟩ = some (.int .i64 (p : Nat))) := ⟨grown_refl _ _, b3, hcK⟩
      have hstep : ∀ W W' : World, (wr.grownBy W none ∧ World.cell? W ⟨w.heap.size, 3, none⟩ = some (.slice (some ⟨b, off, none⟩) ss.length sc) ∧ World.cell? W ⟨gk, kp, none⟩ = some (.int .i64 (p : Nat))) → W.grownBy W' none → (wr.grownBy W' none ∧ World.cell? W' ⟨w.heap.size, 3, none⟩ = some (.slice (some ⟨b, off, none⟩) ss.length sc) ∧ World.cell? W' ⟨gk, kp, none⟩ = some (.int .i64 (p : Nat))) := fun W W' h g => ⟨grown_trans h.1 g, grown_cell g h.2.1, grown_cell g h.2.2⟩
      have HSTEP := Lib.hid hstep; have HSD : Hid (wr.grownBy wr.drew none ∧ World.cell? wr.drew ⟨w.heap.size, 3, none⟩ = some (.slice (some ⟨b, off, none⟩) ss.length sc) ∧ World.cell? wr.drew ⟨gk, kp, none⟩ = some (.int .i64 (p : Nat))) := hstep _ _ hS0 (grown_drewN wr none 1)
      clear hS0 hstep hW HM hrl hkp hal2 hQl
      go_wp2_with fail
      clear b3 hcK hcA
      go_region_held3 (fun W => (wr.grownBy W none ∧ World.cell? W ⟨w.heap.size, 3, none⟩ = some (.slice (some ⟨b, off, none⟩) ss.length sc) ∧ World.cell? W ⟨gk, kp, none⟩ = some (.int .i64 (p : Nat)))) (first | exact HSD.out | (refine HSTEP.out _ _ ?_ (by assumption) <;> assumption)) (first
        | (go_at_call 100; refine (worst_is b off sc ss HS p t hpt htn _ (HSW.out _ (by first | assumption | exact HSD.out)) HWE).mono ?_; rintro x7 w7 ⟨rfl, hg7⟩))
      all_goals
        rename_i hfin
        obtain ⟨w9, hw9⟩ : ∃ w9, w9 = w7 := ⟨_, rfl⟩
        subst hw9
        have HM9 := Lib.hid (hM.out.grown hfin.1)
        clear hfin HSTEP HSD HSW hM
        have hi := HI.out; have hz0 := HZ0.out; have hz1 := HZ1.out; have hz2 := HZ2.out
        have HKB : Hid (gk < w9.heap.size) := (HM9.out.k.lt gk (by simp [Value.ownBlock])).2
        have HSZ : Hid (w1.heap.size ≤ w9.heap.size) := HM9.out.g.size
        by_cases hlt : M < B
        · obtain ⟨hP2, hbd⟩ := hP.out.push HS.out HM0.out HWE.out hlt
          have HP2 := Lib.hid hP2
          have g1 : decide (M < B) = true := by simp; omega
          have hown : Hid (w9.ownsRow w1.heap.size 3 1 (.slice (some ⟨ga, 0, none⟩) al ca) al (natVs (t :: r).reverse)) := by
            have := HM9.out.a; rw [hal.out] at this; exact this
          have hlt2 := hown.out.lt
          have HCN : Hid (∀ j u, [Value.int .i64 (A : Int)][j]? = some u → (w9.alloc (.cells #[.int .i64 (A : Int)] 3)).cell? ((⟨w9.heap.size, 0, none⟩ : Addr).add j) = some u) := cell_one_new w9 (.int .i64 (A : Int)) 3
          have hvs : natVs (A :: t :: r).reverse = natVs (t :: r).reverse ++ [.int .i64 (A : Int)] := by simp [natVs]
          have hln : Hid ((A :: t :: r).reverse.length = al + 1) := by show _ = _; rw [List.length_reverse, List.length_cons, List.length_cons, HRL.out, ← HAL.out]
          have HVS := Lib.hid hvs
          have HBD : Hid (kl + al + 1 ≤ ss.length) := by have := hkl.out; have := HAL.out; have := HRL.out; show _ ≤ _; omega
          clear hP2 hbd hvs
          go_wp2_with (at_builtin; refine wpList_append_lies _ rfl _ _ 48 rfl w1.heap.size 3 i0 (.int .i64 0) 1 8 Try.underlying48 hi hz0 hz1 hz2 rfl (by decide) _ _ _ rfl (hown.out.alloc _) ⟨w9.heap.size, 0, none⟩ 1 1 [.int .i64 (A : Int)] rfl rfl (HCN.out) (by intro u hu; simp at hu; subst hu; rfl) (by decide) (by unfold maxLen; omega) (by omega) (by have := HSZ.out; simp at *; omega) (w9.heap.size + 1) (by simp) ?_; intro ga2 ca2 w2 hown' hgrow' hlies _)
          have hgrow2 : (w9.alloc (.cells #[.int .i64 (A : Int)] 3)).grownBy w2 (some ga) := hgrow'
          have hlies2 : (some ga : Option Nat) = some ga2 ∨ ga2 = w9.heap.size + 1 := hlies
          have HM2 : Hid (SmM w1 gk ck ga2 ca2 P (A :: t :: r).reverse w2) := by
            refine ⟨(HM9.out.k.alloc _).kept hgrow2 (Or.inr ?_), ?_, ?_, grown_own HM9.out.g hgrow2 (fun q e => (hlt2 q e).1)⟩
            · have := HM9.out.ne; simp [Value.ownBlock]; exact this
            · rw [HVS.out, hln.out]; exact hown'
            · have h1 := HM9.out.ne; have h2 := HKB.out
              rcases hlies2 with e | e
              · injection e with e; omega
              · omega
          clear hown hown' hgrow' hlt2 hlies hgrow2 hlies2
          go_wp2_with fail
          go_roundw
          case rel => exact ⟨P, A :: t :: r, p, gk, ck, ga2, ca2, kl, al + 1, rfl, rfl, hkl, hln, HP2, HM2⟩
          case measure => exact muS_push (by have := HAL.out; omega) HBD.out
        · have g1 : decide (M < B) = false := by simp; omega
          by_cases ht : 0 < t
          · obtain ⟨hP2, hbd⟩ := hP.out.pop HS.out HM0.out HWE.out hlt ht
            have HP2 := Lib.hid hP2
            have g2 : decide ((0 : Int) < (t : Int)) = true := by rw [decide_eq_true_iff]; omega
            have g3 : (0 : Int) < (t : Int) := by omega
            have hown : Hid (w9.ownsRow w1.heap.size 3 1 (.slice (some ⟨gk, 0, none⟩) kl ck) kl (natVs P)) := by
              have := HM9.out.k; rw [hkl.out] at this; exact this
            have hlt2 := hown.out.lt
            have HCN : Hid (∀ j u, [Value.int .i64 (t : Int)][j]? = some u → (w9.alloc (.cells #[.int .i64 (t : Int)] 3)).cell? ((⟨w9.heap.size, 0, none⟩ : Addr).add j) = some u) := cell_one_new w9 (.int .i64 (t : Int)) 3
            have hvs : natVs (P ++ [t]) = natVs P ++ [.int .i64 (t : Int)] := by simp [natVs]
            have hln : Hid ((P ++ [t]).length = kl + 1) := by have := hkl.out; simp at this ⊢; omega
            have HVS := Lib.hid hvs
            have HAB : Hid (ga < w9.heap.size) := (HM9.out.a.lt ga (by simp [Value.ownBlock])).2
            have HBD : Hid (kl + al ≤ ss.length) := by have := hkl.out; have := HAL.out; have := HRL.out; show _ ≤ _; omega
            have hrc : (rl : Int) ≤ (ca : Int) := by omega
            have hrc2 : rl ≤ ca := by omega
            clear hP2 hbd hvs
            go_wp2_with (at_builtin; refine wpList_append_lies _ rfl _ _ 48 rfl w1.heap.size 3 i0 (.int .i64 0) 1 8 Try.underlying48 hi hz0 hz1 hz2 rfl (by decide) _ _ _ rfl (hown.out.alloc _) ⟨w9.heap.size, 0, none⟩ 1 1 [.int .i64 (t : Int)] rfl rfl (HCN.out) (by intro u hu; simp at hu; subst hu; rfl) (by decide) (by unfold maxLen; omega) (by omega) (by have := HSZ.out; simp at *; omega) (w9.heap.size + 1) (by simp) ?_; intro gk2 ck2 w2 hown' hgrow' hlies _)
            have hgrow2 : (w9.alloc (.cells #[.int .i64 (t : Int)] 3)).grownBy w2 (some gk) := hgrow'
            have hlies2 : (some gk : Option Nat) = some gk2 ∨ gk2 = w9.heap.size + 1 := hlies
            have HM2 : Hid (SmM w1 gk2 ck2 ga ca (P ++ [t]) r.reverse w2) := by
              refine ⟨?_, ?_, ?_, grown_own HM9.out.g hgrow2 (fun q e => (hlt2 q e).1)⟩
              · rw [HVS.out, hln.out]; exact hown'
              · have q := (HM9.out.a.alloc (.cells #[.int .i64 (t : Int)] 3)).kept hgrow2 (Or.inr (by have := HM9.out.ne; simp [Value.ownBlock]; exact fun e => this e.symm))
                rw [hal.out, HAL.out] at q
                have e : natVs (t :: r).reverse = natVs r.reverse ++ [.int .i64 (t : Int)] := by simp [natVs]
                rw [e] at q
                have q2 := own_cut q
                rw [show r.reverse.length = rl by simp; exact HRL.out]
                exact q2
              · have h1 := HM9.out.ne; have h2 := HAB.out
                rcases hlies2 with e | e
                · injection e with e; omega
                · omega
            have hrl3 : Hid (r.reverse.length = rl) := by show _ = _; simp; exact HRL.out
            clear hown hown' hgrow' hlt2 hlies hgrow2 hlies2
            go_wp2_with fail
            go_roundw
            case rel => exact ⟨P ++ [t], r, t, gk2, ck2, ga, ca, kl + 1, rl, rfl, by go_simp, hln, hrl3, HP2, HM2⟩
            case measure => exact muS_pop HAL.out HBD.out
          · obtain rfl : t = 0 := by omega
            obtain ⟨hP2, hr⟩ := hP.out.skip
            subst hr
            have HP2 := Lib.hid hP2
            obtain rfl : rl = 0 := by have := HRL.out; simp at this; omega
            have HM2 : Hid (SmM w1 gk ck ga ca P ([] : List Nat).reverse w9) := by
              refine ⟨HM9.out.k, ?_, HM9.out.ne, HM9.out.g⟩
              have q := HM9.out.a
              exact own_cut (n := 0) (xs := []) (x := .int .i64 (0 : Nat)) q
            have hrc : (0 : Int) ≤ (ca : Int) := by omega
            clear hP2
            go_wp2_with fail
            go_roundw
            case rel => exact ⟨P, [], p, gk, ck, ga, ca, kl, 0, rfl, by go_simp, hkl, rfl, HP2, HM2⟩
            case measure => exact muS_skip HAL.out
end Go.Proofs.Ytgkhhfojioepgaa
namespace Go.Proofs.Ytgkhhfojioepgaa
open Go.RowKit
set_option linter.unusedSimpArgs false
set_option linter.unusedVariables false

def SimR (a : Act) (most E : Int) (l : List Nat) : Prop := (E = 0 → l = simL a.ss (most * most)) ∧ (E ≠ 0 → l = [])
def FewR (a : Act) (most E : Int) (l : List Nat) : Prop := (E = 0 → ∃ k, PthEnd a.ss.length (fwN a.ss.length (nrS a.ss most)) 0 k ∧ l = (List.range k).map (pth (fwN a.ss.length (nrS a.ss most)) 0)) ∧ (E ≠ 0 → l = [])
theorem SimR.one {a : Act} {most E : Int} {l m : List Nat} (h : SimR a most E l) (h' : SimR a most E m) : l = m := by
  by_cases e : E = 0
  · rw [h.1 e, h'.1 e]
  · rw [h.2 e, h'.2 e]
theorem FewR.one {a : Act} {most E : Int} {l m : List Nat} (h : FewR a most E l) (h' : FewR a most E m) : l = m := by
  by_cases e : E = 0
  · obtain ⟨k, p, q⟩ := h.1 e
    obtain ⟨k', p', q'⟩ := h'.1 e
    obtain rfl := pth_one p p'
    rw [q, q']
  · rw [h.2 e, h'.2 e]
theorem natVs_pth (g : Nat → Nat) (f k : Nat) : natVs ((List.range k).map (pth g f)) = pthVs g f k := by simp [natVs, pthVs]
theorem own_nat {w : World} {base : Nat} {v : Value} {l : List Nat} (h : w.ownsRow base 3 1 v l.length (natVs l)) : l.length ≤ 9223372036854775807 ∧ ∃ ao cap, v = .slice ao l.length cap ∧ IntsC w ao l.length (fun j => ((l[j]?.getD 0 : Nat) : Int)) := by
  rcases h.2 with ⟨hv, h0⟩ | ⟨g', cap, cur, hv, hb, hg, hnc, hcm, rest⟩
  · rw [h0]
    exact ⟨by omega, none, 0, hv, fun j hj => absurd hj (by omega)⟩
  · refine ⟨by unfold maxLen at hcm; omega, some ⟨g', 0, none⟩, cap, hv, fun j hj => ⟨g', rfl, ?_⟩⟩
    have := h.cells (g := g') (by rw [hv]; rfl) j (.int .i64 (l[j] : Nat)) (by simp [natVs, hj])
    show w.cell? _ = some (.int .i64 ((l[j]?.getD 0 : Nat) : Int))
    rw [List.getElem?_eq_getElem hj]
    rcases Nat.eq_zero_or_pos j with h0 | h0
    · subst h0; simpa [Addr.add] using this
    · simpa [Addr.add, Nat.ne_of_gt h0] using this
theorem thin_ok {a : Act} {most limit : Int} (h : thinE a most limit = 0) : chkE a = 0 ∧ 0 ≤ most ∧ most ≤ 100000000 ∧ (a.ss.length : Int) ≤ limit := by
  unfold thinE at h
  split at h
  · rename_i h1
    split at h
    · rename_i h2
      split at h
      · rename_i h3; exact ⟨h1, h2.1, h2.2, h3⟩
      · omega
    · omega
  · rename_i h1; exact absurd h h1
theorem so_of {w : World} {so : Option Addr} {ss : List Smp} (h : SmpsAt w so ss) (hne : ss ≠ []) : ∃ b off, so = some ⟨b, off, none⟩ := by
  cases so with
  | none => exact absurd (h.nil rfl) hne
  | some p =>
    obtain ⟨b, off, spot⟩ := p
    have hsp := h.spot _ rfl hne
    simp only at hsp
    subst hsp
    exact ⟨b, off, rfl⟩

set_option maxRecDepth 100000 in
set_option maxHeartbeats 1600000 in
theorem Simple_any (a : Act) (most : Int) (w : World) (ha : ActAt w a) {E : Int} (hE : Hid (thinE a most 5000 = E)) :
    Calls Try.prog 40 #[a.val, .int .i64 most] w fun x w' => (∃ v l, x = .returned (.tuple #[v, .int .i64 E]) ∧ SimR a most E l ∧ w'.ownsRow w.heap.size 3 1 v l.length (natVs l)) ∧ w.grownBy w' none := by
  have HA := Lib.hid ha
  have HTE := hE
  by_cases c1 : E = 0
  · subst c1
    have ht := thin_ok hE.out
    have HT := Lib.hid ht
    have HS := Lib.hid (sok_of (chk_ok ht.1))
    obtain ⟨nm, sp, st, so, sc, ss, lo, lc, ls, to_, tc, ts⟩ := a
    by_cases hne : ss = []
    · subst hne
      simp only [Act.val] at *
      clear hE ha ht HT HS
      go_enter Try.func40, Try.ntmps40
      go_wp2_with fail
      refine (checkThin_any ⟨nm, sp, st, so, sc, [], lo, lc, ls, to_, tc, ts⟩ most 5000 _ (HA.out.grown (World.grownBy_alloc _ _ _)) HTE).mono ?_; rintro e w1 ⟨rfl, hg1⟩
      have G1 := Lib.hid (grown_trans (World.grownBy_alloc w (.cells #[.string nm, .int .i64 sp, .int .i64 st, .slice so (List.length ([] : List Smp)) sc, .slice lo ls.length lc, .slice to_ ts.length tc] 26) none) hg1)
      have b3 : w1.cell? ⟨w.heap.size, 3, none⟩ = some (.slice so 0 sc) := grown_cell hg1 (by go_simp)
      clear hg1
      go_wp2_with fail
      go_ret2
      exact ⟨⟨_, [], rfl, ⟨fun _ => by simp [simL], fun h => absurd rfl h⟩, World.ownsRow_nil _ _ _ _⟩, G1.out⟩
    · obtain ⟨b, off, rfl⟩ := so_of ha.hs hne
      refine (Simple_ok nm sp st b off sc ss lo lc ls to_ tc ts most HT.out.2.1 HT.out.2.2.1 HT.out.2.2.2 (by have := List.length_pos_iff.mpr hne; omega) w HA HTE HS).mono ?_
      rintro x w' ⟨⟨v, rfl, h⟩, hg⟩
      exact ⟨⟨v, _, rfl, ⟨fun _ => rfl, fun h => absurd rfl h⟩, h⟩, hg⟩
  · have hne : (E != 0) = true := by simpa using c1
    have C1 := Lib.hid c1
    obtain ⟨nm, sp, st, so, sc, ss, lo, lc, ls, to_, tc, ts⟩ := a
    simp only [Act.val] at *
    clear hE ha c1
    go_enter Try.func40, Try.ntmps40
    go_wp2_with fail
    refine (checkThin_any ⟨nm, sp, st, so, sc, ss, lo, lc, ls, to_, tc, ts⟩ most 5000 _ (HA.out.grown (World.grownBy_alloc _ _ _)) HTE).mono ?_; rintro e w1 ⟨rfl, hg1⟩
    have G1 := Lib.hid (grown_trans (World.grownBy_alloc w (.cells #[.string nm, .int .i64 sp, .int .i64 st, .slice so ss.length sc, .slice lo ls.length lc, .slice to_ ts.length tc] 26) none) hg1)
    clear hg1
    go_wp2_with fail
    go_ret2
    exact ⟨⟨_, [], rfl, ⟨fun h => absurd h C1.out, fun _ => rfl⟩, World.ownsRow_nil _ _ _ _⟩, G1.out⟩

set_option maxRecDepth 100000 in
set_option maxHeartbeats 1600000 in
theorem Fewest_any (a : Act) (most : Int) (w : World) (ha : ActAt w a) {E : Int} (hE : Hid (thinE a most 300 = E)) :
    Calls Try.prog 42 #[a.val, .int .i64 most] w fun x w' => (∃ v l, x = .returned (.tuple #[v, .int .i64 E]) ∧ FewR a most E l ∧ w'.ownsRow w.heap.size 3 1 v l.length (natVs l)) ∧ w.grownBy w' none := by
  have HA := Lib.hid ha
  have HTE := hE
  by_cases c1 : E = 0
  · subst c1
    have ht := thin_ok hE.out
    have HT := Lib.hid ht
    have HS := Lib.hid (sok_of (chk_ok ht.1))
    obtain ⟨nm, sp, st, so, sc, ss, lo, lc, ls, to_, tc, ts⟩ := a
    by_cases hne : ss = []
    · subst hne
      simp only [Act.val] at *
      clear hE ha ht HT HS
      go_enter Try.func42, Try.ntmps42
      go_wp2_with fail
      refine (checkThin_any ⟨nm, sp, st, so, sc, [], lo, lc, ls, to_, tc, ts⟩ most 300 _ (HA.out.grown (World.grownBy_alloc _ _ _)) HTE).mono ?_; rintro e w1 ⟨rfl, hg1⟩
      have G1 := Lib.hid (grown_trans (World.grownBy_alloc w (.cells #[.string nm, .int .i64 sp, .int .i64 st, .slice so (List.length ([] : List Smp)) sc, .slice lo ls.length lc, .slice to_ ts.length tc] 26) none) hg1)
      have b3 : w1.cell? ⟨w.heap.size, 3, none⟩ = some (.slice so 0 sc) := grown_cell hg1 (by go_simp)
      clear hg1
      go_wp2_with fail
      go_ret2
      exact ⟨⟨_, [], rfl, ⟨fun _ => ⟨0, ⟨fun j hj => absurd hj (Nat.not_lt_zero _), rfl⟩, rfl⟩, fun h => absurd rfl h⟩, World.ownsRow_nil _ _ _ _⟩, G1.out⟩
    · obtain ⟨b, off, rfl⟩ := so_of ha.hs hne
      refine (Fewest_ok nm sp st b off sc ss lo lc ls to_ tc ts most HT.out.2.1 HT.out.2.2.1 HT.out.2.2.2 (by have := List.length_pos_iff.mpr hne; omega) w HA HTE HS (nr := nrS ss most) rfl).mono ?_
      rintro x w' ⟨⟨v, k, rfl, h1, h2⟩, hg⟩
      refine ⟨⟨v, _, rfl, ⟨fun _ => ⟨k, h1, rfl⟩, fun h => absurd rfl h⟩, ?_⟩, hg⟩
      rw [natVs_pth]; simpa using h2
  · have hne : (E != 0) = true := by simpa using c1
    have C1 := Lib.hid c1
    obtain ⟨nm, sp, st, so, sc, ss, lo, lc, ls, to_, tc, ts⟩ := a
    simp only [Act.val] at *
    clear hE ha c1
    go_enter Try.func42, Try.ntmps42
    go_wp2_with fail
    refine (checkThin_any ⟨nm, sp, st, so, sc, ss, lo, lc, ls, to_, tc, ts⟩ most 300 _ (HA.out.grown (World.grownBy_alloc _ _ _)) HTE).mono ?_; rintro e w1 ⟨rfl, hg1⟩
    have G1 := Lib.hid (grown_trans (World.grownBy_alloc w (.cells #[.string nm, .int .i64 sp, .int .i64 st, .slice so ss.length sc, .slice lo ls.length lc, .slice to_ ts.length tc] 26) none) hg1)
    clear hg1
    go_wp2_with fail
    go_ret2
    exact ⟨⟨_, [], rfl, ⟨fun h => absurd h C1.out, fun _ => rfl⟩, World.ownsRow_nil _ _ _ _⟩, G1.out⟩

set_option maxRecDepth 100000 in
set_option maxHeartbeats 1600000 in
theorem rSimple_any (a : Act) (most : Int) (w : World) (ha : ActAt w a) {E : Int} (hE : Hid (thinE a most 5000 = E)) :
    Calls Try.prog 41 #[a.val, .int .i64 most] w fun x w' => (∃ v l, x = .returned (.tuple #[v, .int .i64 E]) ∧ SimR a most E l ∧ w'.ownsRow w.heap.size 3 1 v l.length (natVs l)) ∧ w.grownBy w' none := by
  have HA := Lib.hid ha
  obtain ⟨ce, hce⟩ : ∃ e, chkE a = e := ⟨_, rfl⟩
  have hv := hE.out
  unfold thinE at hv
  rw [hce] at hv
  by_cases c1 : ce = 0
  · rw [if_pos c1] at hv
    subst c1
    have HCE := Lib.hid hce
    have hok := chk_ok hce
    have HS := Lib.hid (sok_of hok)
    have hl20 := hok.sl
    by_cases c2 : 0 ≤ most ∧ most ≤ 100000000
    · rw [if_pos c2] at hv
      by_cases c3 : (a.ss.length : Int) ≤ 5000
      · rw [if_pos c3] at hv
        subst hv
        have HT := Lib.hid (thin_ok hE.out)
        obtain ⟨nm, sp, st, so, sc, ss, lo, lc, ls, to_, tc, ts⟩ := a
        by_cases hne : ss = []
        · subst hne
          simp only [Act.val] at *
          clear hE ha hce hok HS hl20 c3 HT
          have hmk0 := run_make_row' (P := Try.prog) 48 3 (.int .i64 0) 8 Try.underlying48 info_int rfl .i64 .i64 0 (by omega) (by omega)
          have hmk1 := run_make_row' (P := Try.prog) 89 4 (.bool false) 1 Try.underlying89 info_mark rfl .i64 .i64 0 (by omega) (by omega)
          have hmkI : ∀ (w : World), Sem.run Try.prog (Instr.makeSlice 48 (.int .i64 0) (.int .i64 0)) w = .ok (.slice (some ⟨w.heap.size, 0, none⟩) 0 0) (w.alloc (.cells (madeCells #[.int .i64 0] 0) 3)) := fun w => hmk0 w
          have hmkB : ∀ (w : World), Sem.run Try.prog (Instr.makeSlice 89 (.int .i64 0) (.int .i64 0)) w = .ok (.slice (some ⟨w.heap.size, 0, none⟩) 0 0) (w.alloc (.cells (madeCells #[.bool false] 0) 4)) := fun w => hmk1 w
          clear hmk0 hmk1
          go_enter Try.func41, Try.ntmps41
          go_wp2_with fail
          refine (rcheck_any ⟨nm, sp, st, so, sc, [], lo, lc, ls, to_, tc, ts⟩ _ (HA.out.grown (World.grownBy_alloc _ _ _)) HCE).mono ?_; rintro e w1 ⟨rfl, hg1⟩
          have G1 := Lib.hid (grown_trans (World.grownBy_alloc w (.cells #[.string nm, .int .i64 sp, .int .i64 st, .slice so (List.length ([] : List Smp)) sc, .slice lo ls.length lc, .slice to_ ts.length tc] 26) none) hg1)
          have b3 : w1.cell? ⟨w.heap.size, 3, none⟩ = some (.slice so 0 sc) := grown_cell hg1 (by go_simp)
          clear hg1
          go_wp2_with fail
          refine (rout_no _ _ _ c2.1 c2.2 _).mono ?_; rintro e w2 ⟨rfl, rfl⟩
          go_upto_region 13 with (fail)
          have GA := Lib.hid (World.grownBy_alloc w1 (.cells (madeCells #[.bool false] 0) 4) none)
          generalize w1.alloc (.cells (madeCells #[.bool false] 0) 4) = W2 at *
          go_wp2_with fail
          go_loopw [9, 43] (fun lv iv wr => lv = .slice none 0 0 ∧ iv = .int .i64 0 ∧ wr = W2) (fun _ _ _ => 0)
          case atStart => exact ⟨rfl, rfl, rfl⟩
          case round =>
            obtain ⟨rfl, rfl, rfl⟩ := hrel
            go_wp2_with fail
            go_ret2
            exact ⟨⟨_, [], rfl, ⟨fun _ => by simp [simL], fun h => absurd rfl h⟩, World.ownsRow_nil _ _ _ _⟩, grown_trans G1.out GA.out⟩
        · obtain ⟨b, off, rfl⟩ := so_of ha.hs hne
          refine (rSimple_ok nm sp st b off sc ss lo lc ls to_ tc ts most HT.out.2.1 HT.out.2.2.1 HT.out.2.2.2 (by have := List.length_pos_iff.mpr hne; omega) w HA HCE HS).mono ?_
          rintro x w' ⟨⟨v, rfl, h⟩, hg⟩
          exact ⟨⟨v, _, rfl, ⟨fun _ => rfl, fun h => absurd rfl h⟩, h⟩, hg⟩
      · rw [if_neg c3] at hv
        subst hv
        obtain ⟨nm, sp, st, so, sc, ss, lo, lc, ls, to_, tc, ts⟩ := a
        simp only [Act.val] at *
        have hcap : decide ((5000 : Int) < (ss.length : Int)) = true := by simp; omega
        have hcap2 : (5000 : Int) < (ss.length : Int) := by omega
        clear hE hce hok ha c3
        go_enter Try.func41, Try.ntmps41
        go_wp2_with fail
        refine (rcheck_any ⟨nm, sp, st, so, sc, ss, lo, lc, ls, to_, tc, ts⟩ _ (HA.out.grown (World.grownBy_alloc _ _ _)) HCE).mono ?_; rintro e w1 ⟨rfl, hg1⟩
        have G1 := Lib.hid (grown_trans (World.grownBy_alloc w (.cells #[.string nm, .int .i64 sp, .int .i64 st, .slice so ss.length sc, .slice lo ls.length lc, .slice to_ ts.length tc] 26) none) hg1)
        have b3 : w1.cell? ⟨w.heap.size, 3, none⟩ = some (.slice so ss.length sc) := grown_cell hg1 (by go_simp)
        clear hg1
        go_wp2_with fail
        refine (rout_no _ _ _ c2.1 c2.2 _).mono ?_; rintro e w2 ⟨rfl, rfl⟩
        go_wp2_with fail
        go_ret2
        exact ⟨⟨_, [], rfl, ⟨fun h => absurd h (by decide), fun _ => rfl⟩, World.ownsRow_nil _ _ _ _⟩, G1.out⟩
    · rw [if_neg c2] at hv
      subst hv
      have C2 : Hid (most < 0 ∨ 100000000 < most) := by show _ ∨ _; omega
      obtain ⟨nm, sp, st, so, sc, ss, lo, lc, ls, to_, tc, ts⟩ := a
      simp only [Act.val] at *
      clear hE hce hok ha c2
      go_enter Try.func41, Try.ntmps41
      go_wp2_with fail
      refine (rcheck_any ⟨nm, sp, st, so, sc, ss, lo, lc, ls, to_, tc, ts⟩ _ (HA.out.grown (World.grownBy_alloc _ _ _)) HCE).mono ?_; rintro e w1 ⟨rfl, hg1⟩
      have G1 := Lib.hid (grown_trans (World.grownBy_alloc w (.cells #[.string nm, .int .i64 sp, .int .i64 st, .slice so ss.length sc, .slice lo ls.length lc, .slice to_ ts.length tc] 26) none) hg1)
      clear hg1
      go_wp2_with fail
      refine (rout_yes _ _ _ C2.out _).mono ?_; rintro e w2 ⟨rfl, rfl⟩
      go_wp2_with fail
      go_ret2
      exact ⟨⟨_, [], rfl, ⟨fun h => absurd h (by decide), fun _ => rfl⟩, World.ownsRow_nil _ _ _ _⟩, G1.out⟩
  · rw [if_neg c1] at hv
    subst hv
    have HCE := Lib.hid hce
    have hne : (ce != 0) = true := by simpa using c1
    have C1 := Lib.hid c1
    obtain ⟨nm, sp, st, so, sc, ss, lo, lc, ls, to_, tc, ts⟩ := a
    simp only [Act.val] at *
    clear hE hce ha c1
    go_enter Try.func41, Try.ntmps41
    go_wp2_with fail
    refine (rcheck_any ⟨nm, sp, st, so, sc, ss, lo, lc, ls, to_, tc, ts⟩ _ (HA.out.grown (World.grownBy_alloc _ _ _)) HCE).mono ?_; rintro e w1 ⟨rfl, hg1⟩
    have G1 := Lib.hid (grown_trans (World.grownBy_alloc w (.cells #[.string nm, .int .i64 sp, .int .i64 st, .slice so ss.length sc, .slice lo ls.length lc, .slice to_ ts.length tc] 26) none) hg1)
    clear hg1
    go_wp2_with fail
    go_ret2
    exact ⟨⟨_, [], rfl, ⟨fun h => absurd h C1.out, fun _ => rfl⟩, World.ownsRow_nil _ _ _ _⟩, G1.out⟩

set_option maxRecDepth 100000 in
set_option maxHeartbeats 1600000 in
theorem rFewest_any (a : Act) (most : Int) (w : World) (ha : ActAt w a) {E : Int} (hE : Hid (thinE a most 300 = E)) :
    Calls Try.prog 43 #[a.val, .int .i64 most] w fun x w' => (∃ v l, x = .returned (.tuple #[v, .int .i64 E]) ∧ FewR a most E l ∧ w'.ownsRow w.heap.size 3 1 v l.length (natVs l)) ∧ w.grownBy w' none := by
  have HA := Lib.hid ha
  obtain ⟨ce, hce⟩ : ∃ e, chkE a = e := ⟨_, rfl⟩
  have hv := hE.out
  unfold thinE at hv
  rw [hce] at hv
  by_cases c1 : ce = 0
  · rw [if_pos c1] at hv
    subst c1
    have HCE := Lib.hid hce
    have hok := chk_ok hce
    have HS := Lib.hid (sok_of hok)
    have hl20 := hok.sl
    by_cases c2 : 0 ≤ most ∧ most ≤ 100000000
    · rw [if_pos c2] at hv
      by_cases c3 : (a.ss.length : Int) ≤ 300
      · rw [if_pos c3] at hv
        subst hv
        have HT := Lib.hid (thin_ok hE.out)
        obtain ⟨nm, sp, st, so, sc, ss, lo, lc, ls, to_, tc, ts⟩ := a
        by_cases hne : ss = []
        · subst hne
          simp only [Act.val] at *
          clear hE ha hce hok HS hl20 c3 HT
          have hmk0 := run_make_row' (P := Try.prog) 48 3 (.int .i64 0) 8 Try.underlying48 info_int rfl .i64 .i64 0 (by omega) (by omega)
          have hmk1 := run_make_row' (P := Try.prog) 89 4 (.bool false) 1 Try.underlying89 info_mark rfl .i64 .i64 0 (by omega) (by omega)
          have hmkI : ∀ (w : World), Sem.run Try.prog (Instr.makeSlice 48 (.int .i64 0) (.int .i64 0)) w = .ok (.slice (some ⟨w.heap.size, 0, none⟩) 0 0) (w.alloc (.cells (madeCells #[.int .i64 0] 0) 3)) := fun w => hmk0 w
          have hmkB : ∀ (w : World), Sem.run Try.prog (Instr.makeSlice 89 (.int .i64 0) (.int .i64 0)) w = .ok (.slice (some ⟨w.heap.size, 0, none⟩) 0 0) (w.alloc (.cells (madeCells #[.bool false] 0) 4)) := fun w => hmk1 w
          clear hmk0 hmk1
          go_enter Try.func43, Try.ntmps43
          go_wp2_with fail
          refine (rcheck_any ⟨nm, sp, st, so, sc, [], lo, lc, ls, to_, tc, ts⟩ _ (HA.out.grown (World.grownBy_alloc _ _ _)) HCE).mono ?_; rintro e w1 ⟨rfl, hg1⟩
          have G1 := Lib.hid (grown_trans (World.grownBy_alloc w (.cells #[.string nm, .int .i64 sp, .int .i64 st, .slice so (List.length ([] : List Smp)) sc, .slice lo ls.length lc, .slice to_ ts.length tc] 26) none) hg1)
          have b3 : w1.cell? ⟨w.heap.size, 3, none⟩ = some (.slice so 0 sc) := grown_cell hg1 (by go_simp)
          clear hg1
          go_wp2_with fail
          refine (rout_no _ _ _ c2.1 c2.2 _).mono ?_; rintro e w2 ⟨rfl, rfl⟩
          go_upto_region 9 with (fail)
          have GA := Lib.hid (grown_trans (grown_trans (grown_drewN w1 none 1) (World.grownBy_alloc w1.drew (.cells (madeCells #[.int .i64 0] 0) 3) none)) (World.grownBy_alloc _ (.cells (madeCells #[.int .i64 0] 0) 3) none))
          go_cut [8, 9] (fun s8 s9 wx => w1.grownBy wx none)
          case first =>
            go_region
            all_goals
              go_wp2_with fail
              go_meet
              exact GA.out
          case rest =>
            have HCUT := Lib.hid hcut
            clear hcut
            go_wp2_with fail
            rename_i wx
            go_loopw [10] (fun iv wr => iv = .int .i64 (-2) ∧ Hid (w1.grownBy wr none)) (fun _ _ => 0)
            case atStart => exact ⟨by go_num, HCUT⟩
            case round =>
              obtain ⟨rfl, hq⟩ := hrel
              obtain ⟨wy, hwy⟩ : ∃ wy, wy = wr := ⟨_, rfl⟩
              rw [← hwy] at hq ⊢
              clear hwy
              go_wp2_with fail
              go_loopw [12, 13] (fun lv iv wl => lv = .slice none 0 0 ∧ iv = .int .i64 0 ∧ wl = wy) (fun _ _ _ => 0)
              case atStart => exact ⟨rfl, rfl, rfl⟩
              case round =>
                obtain ⟨rfl, rfl, rfl⟩ := hrel
                go_wp2_with fail
                go_ret2
                exact ⟨⟨_, [], rfl, ⟨fun _ => ⟨0, ⟨fun j hj => absurd hj (Nat.not_lt_zero _), rfl⟩, rfl⟩, fun h => absurd rfl h⟩, World.ownsRow_nil _ _ _ _⟩, grown_trans G1.out hq.out⟩
        · obtain ⟨b, off, rfl⟩ := so_of ha.hs hne
          refine (rFewest_ok nm sp st b off sc ss lo lc ls to_ tc ts most HT.out.2.1 HT.out.2.2.1 HT.out.2.2.2 (by have := List.length_pos_iff.mpr hne; omega) w HA HCE HS (nr := nrS ss most) rfl).mono ?_
          rintro x w' ⟨⟨v, k, rfl, h1, h2⟩, hg⟩
          refine ⟨⟨v, _, rfl, ⟨fun _ => ⟨k, h1, rfl⟩, fun h => absurd rfl h⟩, ?_⟩, hg⟩
          rw [natVs_pth]; simpa using h2
      · rw [if_neg c3] at hv
        subst hv
        obtain ⟨nm, sp, st, so, sc, ss, lo, lc, ls, to_, tc, ts⟩ := a
        simp only [Act.val] at *
        have hcap : decide ((300 : Int) < (ss.length : Int)) = true := by simp; omega
        have hcap2 : (300 : Int) < (ss.length : Int) := by omega
        clear hE hce hok ha c3
        go_enter Try.func43, Try.ntmps43
        go_wp2_with fail
        refine (rcheck_any ⟨nm, sp, st, so, sc, ss, lo, lc, ls, to_, tc, ts⟩ _ (HA.out.grown (World.grownBy_alloc _ _ _)) HCE).mono ?_; rintro e w1 ⟨rfl, hg1⟩
        have G1 := Lib.hid (grown_trans (World.grownBy_alloc w (.cells #[.string nm, .int .i64 sp, .int .i64 st, .slice so ss.length sc, .slice lo ls.length lc, .slice to_ ts.length tc] 26) none) hg1)
        have b3 : w1.cell? ⟨w.heap.size, 3, none⟩ = some (.slice so ss.length sc) := grown_cell hg1 (by go_simp)
        clear hg1
        go_wp2_with fail
        refine (rout_no _ _ _ c2.1 c2.2 _).mono ?_; rintro e w2 ⟨rfl, rfl⟩
        go_wp2_with fail
        go_ret2
        exact ⟨⟨_, [], rfl, ⟨fun h => absurd h (by decide), fun _ => rfl⟩, World.ownsRow_nil _ _ _ _⟩, G1.out⟩
    · rw [if_neg c2] at hv
      subst hv
      have C2 : Hid (most < 0 ∨ 100000000 < most) := by show _ ∨ _; omega
      obtain ⟨nm, sp, st, so, sc, ss, lo, lc, ls, to_, tc, ts⟩ := a
      simp only [Act.val] at *
      clear hE hce hok ha c2
      go_enter Try.func43, Try.ntmps43
      go_wp2_with fail
      refine (rcheck_any ⟨nm, sp, st, so, sc, ss, lo, lc, ls, to_, tc, ts⟩ _ (HA.out.grown (World.grownBy_alloc _ _ _)) HCE).mono ?_; rintro e w1 ⟨rfl, hg1⟩
      have G1 := Lib.hid (grown_trans (World.grownBy_alloc w (.cells #[.string nm, .int .i64 sp, .int .i64 st, .slice so ss.length sc, .slice lo ls.length lc, .slice to_ ts.length tc] 26) none) hg1)
      clear hg1
      go_wp2_with fail
      refine (rout_yes _ _ _ C2.out _).mono ?_; rintro e w2 ⟨rfl, rfl⟩
      go_wp2_with fail
      go_ret2
      exact ⟨⟨_, [], rfl, ⟨fun h => absurd h (by decide), fun _ => rfl⟩, World.ownsRow_nil _ _ _ _⟩, G1.out⟩
  · rw [if_neg c1] at hv
    subst hv
    have HCE := Lib.hid hce
    have hne : (ce != 0) = true := by simpa using c1
    have C1 := Lib.hid c1
    obtain ⟨nm, sp, st, so, sc, ss, lo, lc, ls, to_, tc, ts⟩ := a
    simp only [Act.val] at *
    clear hE hce ha c1
    go_enter Try.func43, Try.ntmps43
    go_wp2_with fail
    refine (rcheck_any ⟨nm, sp, st, so, sc, ss, lo, lc, ls, to_, tc, ts⟩ _ (HA.out.grown (World.grownBy_alloc _ _ _)) HCE).mono ?_; rintro e w1 ⟨rfl, hg1⟩
    have G1 := Lib.hid (grown_trans (World.grownBy_alloc w (.cells #[.string nm, .int .i64 sp, .int .i64 st, .slice so ss.length sc, .slice lo ls.length lc, .slice to_ ts.length tc] 26) none) hg1)
    clear hg1
    go_wp2_with fail
    go_ret2
    exact ⟨⟨_, [], rfl, ⟨fun h => absurd h C1.out, fun _ => rfl⟩, World.ownsRow_nil _ _ _ _⟩, G1.out⟩
end Go.Proofs.Ytgkhhfojioepgaa
namespace Go.Proofs.Ytgkhhfojioepgaa
open Go.RowKit
set_option linter.unusedSimpArgs false
set_option linter.unusedVariables false

set_option maxRecDepth 100000 in
set_option maxHeartbeats 3200000 in
theorem where_is (nm : ByteArray) (sp st : Int) (b off sc : Nat) (ss : List Smp) (lo : Option Addr) (lc : Nat) (ls : List LapV) (to_ : Option Addr) (tc : Nat) (ts : List ByteArray) (HS : Hid (SOk ss)) (s : Int) {m : Nat} (HM : Hid (SIdx ss s m)) (hml : m < ss.length) (hs0 : 0 ≤ s) (w : World) (hs : SmpsAt w (some ⟨b, off, none⟩) ss) {x : Smp} (hx : Hid (atV ss s m = x)) :
    Calls Try.prog 61 #[.agg #[.string nm, .int .i64 sp, .int .i64 st, .slice (some ⟨b, off, none⟩) ss.length sc, .slice lo ls.length lc, .slice to_ ts.length tc], .int .i64 s] w fun e w' => e = .returned (smpVal x) ∧ w.grownBy w' none := by
  have hl : (ss.length : Int) ≤ 20000 := HS.out.len
  have HA := Lib.hid hs
  have G2 := Lib.hid (grown_trans (World.grownBy_alloc w (.cells #[.string nm, .int .i64 sp, .int .i64 st, .slice (some ⟨b, off, none⟩) ss.length sc, .slice lo ls.length lc, .slice to_ ts.length tc] 26) none) (World.grownBy_alloc _ (.cells #[.int .i64 0, .int .i64 0, .int .i64 0, .int .i64 0, .int .i64 0, .int .i64 0, .int .i64 0] 28) none))
  have HZ : Hid (((w.alloc (.cells #[.string nm, .int .i64 sp, .int .i64 st, .slice (some ⟨b, off, none⟩) ss.length sc, .slice lo ls.length lc, .slice to_ ts.length tc] 26)).alloc (.cells #[.int .i64 0, .int .i64 0, .int .i64 0, .int .i64 0, .int .i64 0, .int .i64 0, .int .i64 0] 28)).heap[w.heap.size + 1]? = some (.cells #[.int .i64 0, .int .i64 0, .int .i64 0, .int .i64 0, .int .i64 0, .int .i64 0, .int .i64 0] 28 (0, 0))) := by
    have := heap_alloc_new (w.alloc (.cells #[.string nm, .int .i64 sp, .int .i64 st, .slice (some ⟨b, off, none⟩) ss.length sc, .slice lo ls.length lc, .slice to_ ts.length tc] 26)) (.cells #[.int .i64 0, .int .i64 0, .int .i64 0, .int .i64 0, .int .i64 0, .int .i64 0, .int .i64 0] 28); show _ = _; simpa using this
  have HB3 : Hid (((w.alloc (.cells #[.string nm, .int .i64 sp, .int .i64 st, .slice (some ⟨b, off, none⟩) ss.length sc, .slice lo ls.length lc, .slice to_ ts.length tc] 26)).alloc (.cells #[.int .i64 0, .int .i64 0, .int .i64 0, .int .i64 0, .int .i64 0, .int .i64 0, .int .i64 0] 28)).cell? ⟨w.heap.size, 3, none⟩ = some (.slice (some ⟨b, off, none⟩) ss.length sc)) := by show _ = _; go_simp
  have rl : IntKind.i64.wrap ((ss.length : Int) - 1) = (ss.length : Int) - 1 := IntWalk.i64_in _ (by omega)
  unfold smpVal
  go_enter Try.func61, Try.ntmps61
  go_wp2_with fail
  go_quiet (fail)
  have GD := Lib.hid (grown_trans G2.out (grown_drewN _ _ nq))
  have HZD := Lib.hid (((grown_drewN ((w.alloc (.cells #[.string nm, .int .i64 sp, .int .i64 st, .slice (some ⟨b, off, none⟩) ss.length sc, .slice lo ls.length lc, .slice to_ ts.length tc] 26)).alloc (.cells #[.int .i64 0, .int .i64 0, .int .i64 0, .int .i64 0, .int .i64 0, .int .i64 0, .int .i64 0] 28)) none nq).block _ (lt_of_block HZ.out) (by simp)).trans HZ.out)
  have HBD := Lib.hid (grown_cell (grown_drewN ((w.alloc (.cells #[.string nm, .int .i64 sp, .int .i64 st, .slice (some ⟨b, off, none⟩) ss.length sc, .slice lo ls.length lc, .slice to_ ts.length tc] 26)).alloc (.cells #[.int .i64 0, .int .i64 0, .int .i64 0, .int .i64 0, .int .i64 0, .int .i64 0, .int .i64 0] 28)) none nq) HB3.out)
  obtain ⟨V0, hV0⟩ : ∃ V0, ((w.alloc (.cells #[.string nm, .int .i64 sp, .int .i64 st, .slice (some ⟨b, off, none⟩) ss.length sc, .slice lo ls.length lc, .slice to_ ts.length tc] 26)).alloc (.cells #[.int .i64 0, .int .i64 0, .int .i64 0, .int .i64 0, .int .i64 0, .int .i64 0, .int .i64 0] 28)).drewN nq = V0 := ⟨_, rfl⟩
  rw [hV0] at GD HZD HBD ⊢
  clear hV0 HZ HB3 G2
  go_wp2_with fail
  go_loopw [5, 6] (fun s5 s6 wr => ∃ (lo hi : Nat), s5 = .int .i64 lo ∧ s6 = .int .i64 hi ∧ hi < ss.length ∧ lo ≤ hi ∧ Hid (lo ≤ m ∧ m ≤ hi) ∧ wr = V0)
    (fun s5 s6 _ => (intOf s6).toNat - (intOf s5).toNat)
  case atStart => exact ⟨0, ss.length - 1, rfl, by congr 1; omega, by omega, by omega, ⟨Nat.zero_le _, by omega⟩, rfl⟩
  case round =>
    obtain ⟨lo, hi, rfl, rfl, hin, hlh, hM, rfl⟩ := hrel
    have b3 := HBD.out
    by_cases hlt : lo < hi
    · obtain ⟨mid, hmid⟩ : ∃ mid, mid = (lo + hi) / 2 := ⟨_, rfl⟩
      have hmi : ((lo : Int) + (hi : Int)) / 2 = (mid : Int) := by omega
      have hmt : ((lo : Int) + (hi : Int)).tdiv 2 = (mid : Int) := by rw [Int.tdiv_eq_ediv_of_nonneg (by omega)]; exact hmi
      have hmidl : mid < ss.length := by omega
      have hml2 : (mid : Int) < (ss.length : Int) := by omega
      have HMID := Lib.hid hmid
      have p0 := ((HA.out.grown GD.out).cells _ rfl mid hmidl).1
      rw [← smpD_at hmidl] at p0
      simp only at p0
      by_cases hc : (smpD ss mid).t < s
      · have HM2 : Hid (mid + 1 ≤ m ∧ m ≤ hi) := by
          refine ⟨?_, hM.out.2⟩
          rcases Nat.lt_or_ge mid m with q | q
          · exact q
          · have := HM.out.2.2 mid q hmidl; omega
        clear hmid
        go_wp2_with fail
        go_roundw
        case rel => exact ⟨mid + 1, hi, by go_num, rfl, hin, by have := HMID.out; omega, HM2.out, by first | rfl | trivial⟩
        case measure => have := HMID.out; simp [intOf]; omega
      · have HM2 : Hid (lo ≤ m ∧ m ≤ mid) := by
          refine ⟨hM.out.1, ?_⟩
          rcases Nat.lt_or_ge mid m with q | q
          · have := HM.out.2.1 mid q; omega
          · exact q
        clear hmid
        go_wp2_with fail
        go_roundw
        case rel => exact ⟨lo, mid, rfl, rfl, by omega, by have := HMID.out; omega, HM2.out, by first | rfl | trivial⟩
        case measure => have := HMID.out; simp [intOf]; omega
    · obtain rfl : lo = m := by have := hM.out; omega
      have hlo2 : (lo : Int) < (ss.length : Int) := by omega
      obtain ⟨q0, q1, q2, q3, q4, q5, q6⟩ := (HA.out.grown GD.out).cells _ rfl lo hml
      rw [← smpD_at hml] at q0 q1 q2 q3 q4 q5 q6
      simp only at q0 q1 q2 q3 q4 q5 q6
      have hxv := hx.out
      unfold atV at hxv
      have hle := HM.out.2.2 lo (Nat.le_refl _) hml
      have hqi := smpIn_of HS.out hml
      have hnlt : ¬ ((lo : Int) < (hi : Int)) := by omega
      by_cases he : (smpD ss lo).t = s
      · rw [if_pos he] at hxv
        rw [hxv] at q0 q1 q2 q3 q4 q5 q6 he
        have hz := HZD.out
        have z0 := block_cell hz 0 _ rfl
        have y0 := block_free (k := 0) hz
        have z1 := block_cell hz 1 _ rfl
        have y1 := block_free (k := 1) hz
        have z2 := block_cell hz 2 _ rfl
        have y2 := block_free (k := 2) hz
        have z3 := block_cell hz 3 _ rfl
        have y3 := block_free (k := 3) hz
        have z4 := block_cell hz 4 _ rfl
        have y4 := block_free (k := 4) hz
        have z5 := block_cell hz 5 _ rfl
        have y5 := block_free (k := 5) hz
        have z6 := block_cell hz 6 _ rfl
        have y6 := block_free (k := 6) hz
        obtain ⟨x0, x1, x2, x3, x4, x5, x6⟩ := x
        simp only at q0 q1 q2 q3 q4 q5 q6 he
        subst he
        have GG := GD
        clear hz hxv hx hs hle hqi HZD
        go_wp2_with fail
        refine bodyPost_ret (v := .agg #[.int .i64 x0, .int .i64 x1, .int .i64 x2, .int .i64 x3, .int .i64 x4, .int .i64 x5, .int .i64 x6]) (by simp [results, Try.results61, go_sem, z0, z1, z2, z3, z4, z5, z6]) rfl ⟨rfl, ?_⟩
        exact grown_far (grown_far (grown_far (grown_far (grown_far (grown_far (grown_far GG.out (by omega) _ _) (by omega) _ _) (by omega) _ _) (by omega) _ _) (by omega) _ _) (by omega) _ _) (by omega) _ _
      · rw [if_neg he] at hxv
        have hm0 : 0 < lo := by
          rcases Nat.eq_zero_or_pos lo with e | e
          · have h0 := HS.out.t0 (by omega)
            rw [e] at hle he
            omega
          · exact e
        obtain ⟨k, hk⟩ : ∃ k, lo - 1 = k := ⟨_, rfl⟩
        have hkl : k < ss.length := by omega
        have hlt' := HM.out.2.1 k (by omega)
        have hpi := smpIn_of HS.out hkl
        obtain ⟨p0, p1, p2, p3, p4, p5, p6⟩ := HA.out.cells _ rfl k hkl
        rw [← smpD_at hkl] at p0 p1 p2 p3 p4 p5 p6
        obtain ⟨v0, v1, v2, v3, v4, v5, v6⟩ := HA.out.cells _ rfl lo hml
        rw [← smpD_at hml] at v0 v1 v2 v3 v4 v5 v6
        simp only at v0 v1 v2 v3 v4 v5 v6
        simp only at p0 p1 p2 p3 p4 p5 p6
        rw [hk] at hxv
        have KO : Hid (∀ V : World, Calls Try.prog 124 #[smpVal (smpD ss k), smpVal (smpD ss lo), .int .i64 s] V fun e w' => e = .returned (smpVal x) ∧ V.grownBy w' none) := fun V => rat_is (smpD ss k) (smpD ss lo) s hpi hqi (by omega) hle (by omega) V (Lib.hid hxv)
        have rk : IntKind.i64.wrap ((lo : Int) - 1) = (k : Int) := by rw [show (lo : Int) - 1 = (k : Int) by omega]; exact IntWalk.i64_in _ (by omega)
        have hk2 : (k : Int) < (ss.length : Int) := by omega
        have hk0 : (0 : Int) ≤ (k : Int) := by omega
        have hm00 : (0 : Int) ≤ (lo : Int) := by omega
        generalize smpD ss k = P at *
        generalize smpD ss lo = Q at *
        obtain ⟨pt, px, py, pz, pp, pq, ps⟩ := P
        obtain ⟨qt, qx, qy, qz, qp, qq, qs⟩ := Q
        simp only at p0 p1 p2 p3 p4 p5 p6 q0 q1 q2 q3 q4 q5 q6 v0 v1 v2 v3 v4 v5 v6 he
        have heq : (qt == s) = false := beq_eq_false_iff_ne.2 he
        unfold smpVal at KO
        simp only at KO
        have HPQ := Lib.hid (And.intro (And.intro p0 (And.intro p1 (And.intro p2 (And.intro p3 (And.intro p4 (And.intro p5 p6)))))) (And.intro v0 (And.intro v1 (And.intro v2 (And.intro v3 (And.intro v4 (And.intro v5 v6)))))))
        clear v0 v1 v2 v3 v4 v5 v6 hx hs hqi hle hpi hlt' hxv hk p0 p1 p2 p3 p4 p5 p6 q1 q2 q3 q4 q5 q6
        have HC : Hid (∀ V, (w.grownBy V none ∧ V.cell? ⟨w.heap.size, 3, none⟩ = some (.slice (some ⟨b, off, none⟩) ss.length sc) ∧ ∃ c : Array Value, c.size = 7 ∧ V.heap[w.heap.size + 1]? = some (.cells c 28 (0, 0))) → (World.cell? V ⟨b, off + k * 7, none⟩ = some (.int .i64 pt) ∧ World.cell? V ⟨b, off + k * 7 + 1, none⟩ = some (.int .i64 px) ∧ World.cell? V ⟨b, off + k * 7 + 2, none⟩ = some (.int .i64 py) ∧ World.cell? V ⟨b, off + k * 7 + 3, none⟩ = some (.int .i64 pz) ∧ World.cell? V ⟨b, off + k * 7 + 4, none⟩ = some (.int .i64 pp) ∧ World.cell? V ⟨b, off + k * 7 + 5, none⟩ = some (.int .i64 pq) ∧ World.cell? V ⟨b, off + k * 7 + 6, none⟩ = some (.int .i64 ps)) ∧ (World.cell? V ⟨b, off + lo * 7, none⟩ = some (.int .i64 qt) ∧ World.cell? V ⟨b, off + lo * 7 + 1, none⟩ = some (.int .i64 qx) ∧ World.cell? V ⟨b, off + lo * 7 + 2, none⟩ = some (.int .i64 qy) ∧ World.cell? V ⟨b, off + lo * 7 + 3, none⟩ = some (.int .i64 qz) ∧ World.cell? V ⟨b, off + lo * 7 + 4, none⟩ = some (.int .i64 qp) ∧ World.cell? V ⟨b, off + lo * 7 + 5, none⟩ = some (.int .i64 qq) ∧ World.cell? V ⟨b, off + lo * 7 + 6, none⟩ = some (.int .i64 qs))) := fun V hV => by
          obtain ⟨⟨p0, p1, p2, p3, p4, p5, p6⟩, q0, q1, q2, q3, q4, q5, q6⟩ := HPQ.out
          exact ⟨⟨grown_cell hV.1 p0, grown_cell hV.1 p1, grown_cell hV.1 p2, grown_cell hV.1 p3, grown_cell hV.1 p4, grown_cell hV.1 p5, grown_cell hV.1 p6⟩, grown_cell hV.1 q0, grown_cell hV.1 q1, grown_cell hV.1 q2, grown_cell hV.1 q3, grown_cell hV.1 q4, grown_cell hV.1 q5, grown_cell hV.1 q6⟩
        go_wp2_with fail
        clear q0
        refine wp_region_held_drew (S := fun V => w.grownBy V none ∧ V.cell? ⟨w.heap.size, 3, none⟩ = some (.slice (some ⟨b, off, none⟩) ss.length sc) ∧ ∃ c : Array Value, c.size = 7 ∧ V.heap[w.heap.size + 1]? = some (.cells c 28 (0, 0))) (by kernel_rfl) ⟨grown_trans GD.out (grown_drewN _ _ 1), b3, _, rfl, HZD.out⟩ (fun hHeld => ?_)
        refine wpAnyH_take (i := 0) (oi := ?oi0) (v := .pointer (some ⟨w.heap.size, 3, none⟩)) ?hi0 (by kernel_rfl) (by kernel_rfl) (by kernel_rfl) ?hq0 ?hy0 hHeld ?rest0
        case hi0 => simp only [List.getElem?_toArray, List.getElem?_cons_zero, Option.some.injEq]; rfl
        case hq0 => exact fun _ _ _ h => h
        case hy0 =>
          refine Or.inl ⟨by kernel_rfl, fun V hV => ?_⟩
          clear hV
          go_simp
        try simp only [Go.Act.put, List.setIfInBounds_toArray, List.set_cons_zero, List.set_cons_succ]
        refine wpAnyH_take (i := 1) (oi := ?oi1) (v := .slice (some ⟨b, off, none⟩) ss.length sc) ?hi1 (by kernel_rfl) (by kernel_rfl) (by kernel_rfl) ?hq1 ?hy1 hHeld ?rest1
        case hi1 => simp only [List.getElem?_toArray, List.getElem?_cons_succ, List.getElem?_cons_zero, Option.some.injEq]; rfl
        case hq1 => exact fun _ _ _ h => h
        case hy1 =>
          refine Or.inl ⟨by kernel_rfl, fun V hV => ?_⟩
          have q9 := hV.2.1; clear hV
          go_simp
        try simp only [Go.Act.put, List.setIfInBounds_toArray, List.set_cons_zero, List.set_cons_succ]
        refine wpAnyH_take (i := 2) (oi := ?oi2) (v := .int .i64 (lo : Nat)) ?hi2 (by kernel_rfl) (by kernel_rfl) (by kernel_rfl) ?hq2 ?hy2 hHeld ?rest2
        case hi2 => simp only [List.getElem?_toArray, List.getElem?_cons_succ, List.getElem?_cons_zero, Option.some.injEq]; rfl
        case hq2 => exact fun _ _ _ h => h
        case hy2 =>
          refine Or.inl ⟨by kernel_rfl, fun V hV => ?_⟩
          clear hV
          go_simp
        try simp only [Go.Act.put, List.setIfInBounds_toArray, List.set_cons_zero, List.set_cons_succ]
        refine wpAnyH_take (i := 3) (oi := ?oi3) (v := .int .i64 (k : Nat)) ?hi3 (by kernel_rfl) (by kernel_rfl) (by kernel_rfl) ?hq3 ?hy3 hHeld ?rest3
        case hi3 => simp only [List.getElem?_toArray, List.getElem?_cons_succ, List.getElem?_cons_zero, Option.some.injEq]; rfl
        case hq3 => exact fun _ _ _ h => h
        case hy3 =>
          refine Or.inl ⟨by kernel_rfl, fun V hV => ?_⟩
          clear hV
          go_simp
        try simp only [Go.Act.put, List.setIfInBounds_toArray, List.set_cons_zero, List.set_cons_succ]
        refine wpAnyH_take (i := 4) (oi := ?oi4) (v := .pointer (some ⟨b, off + k * 7, none⟩)) ?hi4 (by kernel_rfl) (by kernel_rfl) (by kernel_rfl) ?hq4 ?hy4 hHeld ?rest4
        case hi4 => simp only [List.getElem?_toArray, List.getElem?_cons_succ, List.getElem?_cons_zero, Option.some.injEq]; rfl
        case hq4 => exact fun _ _ _ h => h
        case hy4 =>
          refine Or.inl ⟨by kernel_rfl, fun V hV => ?_⟩
          clear hV
          go_simp
        try simp only [Go.Act.put, List.setIfInBounds_toArray, List.set_cons_zero, List.set_cons_succ]
        refine wpAnyH_take (i := 5) (oi := ?oi5) (v := .agg #[.int .i64 pt, .int .i64 px, .int .i64 py, .int .i64 pz, .int .i64 pp, .int .i64 pq, .int .i64 ps]) ?hi5 (by kernel_rfl) (by kernel_rfl) (by kernel_rfl) ?hq5 ?hy5 hHeld ?rest5
        case hi5 => simp only [List.getElem?_toArray, List.getElem?_cons_succ, List.getElem?_cons_zero, Option.some.injEq]; rfl
        case hq5 => exact fun _ _ _ h => h
        case hy5 =>
          refine Or.inl ⟨by kernel_rfl, fun V hV => ?_⟩
          have H7 := (HC.out V hV).1; obtain ⟨p0, p1, p2, p3, p4, p5, p6⟩ := H7; clear hV
          go_simp
        try simp only [Go.Act.put, List.setIfInBounds_toArray, List.set_cons_zero, List.set_cons_succ]
        refine wpAnyH_take (i := 6) (oi := ?oi6) (v := .pointer (some ⟨w.heap.size, 3, none⟩)) ?hi6 (by kernel_rfl) (by kernel_rfl) (by kernel_rfl) ?hq6 ?hy6 hHeld ?rest6
        case hi6 => simp only [List.getElem?_toArray, List.getElem?_cons_succ, List.getElem?_cons_zero, Option.some.injEq]; rfl
        case hq6 => exact fun _ _ _ h => h
        case hy6 =>
          refine Or.inl ⟨by kernel_rfl, fun V hV => ?_⟩
          clear hV
          go_simp
        try simp only [Go.Act.put, List.setIfInBounds_toArray, List.set_cons_zero, List.set_cons_succ]
        refine wpAnyH_take (i := 7) (oi := ?oi7) (v := .slice (some ⟨b, off, none⟩) ss.length sc) ?hi7 (by kernel_rfl) (by kernel_rfl) (by kernel_rfl) ?hq7 ?hy7 hHeld ?rest7
        case hi7 => simp only [List.getElem?_toArray, List.getElem?_cons_succ, List.getElem?_cons_zero, Option.some.injEq]; rfl
        case hq7 => exact fun _ _ _ h => h
        case hy7 =>
          refine Or.inl ⟨by kernel_rfl, fun V hV => ?_⟩
          have q9 := hV.2.1; clear hV
          go_simp
        try simp only [Go.Act.put, List.setIfInBounds_toArray, List.set_cons_zero, List.set_cons_succ]
        refine wpAnyH_take (i := 8) (oi := ?oi8) (v := .int .i64 (lo : Nat)) ?hi8 (by kernel_rfl) (by kernel_rfl) (by kernel_rfl) ?hq8 ?hy8 hHeld ?rest8
        case hi8 => simp only [List.getElem?_toArray, List.getElem?_cons_succ, List.getElem?_cons_zero, Option.some.injEq]; rfl
        case hq8 => exact fun _ _ _ h => h
        case hy8 =>
          refine Or.inl ⟨by kernel_rfl, fun V hV => ?_⟩
          clear hV
          go_simp
        try simp only [Go.Act.put, List.setIfInBounds_toArray, List.set_cons_zero, List.set_cons_succ]
        refine wpAnyH_take (i := 9) (oi := ?oi9) (v := .pointer (some ⟨b, off + lo * 7, none⟩)) ?hi9 (by kernel_rfl) (by kernel_rfl) (by kernel_rfl) ?hq9 ?hy9 hHeld ?rest9
        case hi9 => simp only [List.getElem?_toArray, List.getElem?_cons_succ, List.getElem?_cons_zero, Option.some.injEq]; rfl
        case hq9 => exact fun _ _ _ h => h
        case hy9 =>
          refine Or.inl ⟨by kernel_rfl, fun V hV => ?_⟩
          clear hV
          go_simp
        try simp only [Go.Act.put, List.setIfInBounds_toArray, List.set_cons_zero, List.set_cons_succ]
        refine wpAnyH_take (i := 10) (oi := ?oi10) (v := .agg #[.int .i64 qt, .int .i64 qx, .int .i64 qy, .int .i64 qz, .int .i64 qp, .int .i64 qq, .int .i64 qs]) ?hi10 (by kernel_rfl) (by kernel_rfl) (by kernel_rfl) ?hq10 ?hy10 hHeld ?rest10
        case hi10 => simp only [List.getElem?_toArray, List.getElem?_cons_succ, List.getElem?_cons_zero, Option.some.injEq]; rfl
        case hq10 => exact fun _ _ _ h => h
        case hy10 =>
          refine Or.inl ⟨by kernel_rfl, fun V hV => ?_⟩
          have H7 := (HC.out V hV).2; obtain ⟨q0, q1, q2, q3, q4, q5, q6⟩ := H7; clear hV
          go_simp
        try simp only [Go.Act.put, List.setIfInBounds_toArray, List.set_cons_zero, List.set_cons_succ]
        refine wpAnyH_take (i := 11) (oi := ?oi11) (v := .int .i64 s) ?hi11 (by kernel_rfl) (by kernel_rfl) (by kernel_rfl) ?hq11 ?hy11 hHeld ?rest11
        case hi11 => simp only [List.getElem?_toArray, List.getElem?_cons_succ, List.getElem?_cons_zero, Option.some.injEq]; rfl
        case hq11 => exact fun _ _ _ h => h
        case hy11 =>
          refine Or.inl ⟨by kernel_rfl, fun V hV => ?_⟩
          clear hV
          go_simp
        try simp only [Go.Act.put, List.setIfInBounds_toArray, List.set_cons_zero, List.set_cons_succ]
        refine wpAnyH_ready (rs := [12]) (by kernel_rfl) (by simp) ?_
        refine AllReadyH.cons rfl (fun K hK => ?_) AllReadyH.nil
        go_simp
        refine (KO.out _).mono ?_
        rintro e w5 ⟨rfl, hg5⟩
        refine hK.out _ _ ?_ (fun hHeld1 => ?_)
        · obtain ⟨h1, hb, c, h2, h3⟩ := hHeld
          exact ⟨grown_trans h1 hg5, grown_cell hg5 hb, c, h2, (hg5.block _ (lt_of_block h3) (by simp)).trans h3⟩
        clear hK K
        try simp only [Go.Act.put, List.setIfInBounds_toArray, List.set_cons_zero, List.set_cons_succ]
        refine wpAnyH_ready (rs := [13]) (by kernel_rfl) (by simp) ?_
        refine AllReadyH.cons rfl (fun K hK => ?_) AllReadyH.nil
        obtain ⟨g5, hb5, c, hc, hz⟩ := hHeld1
        have z0 := block_cell hz 0 _ (Array.getElem?_eq_getElem (show 0 < c.size from hc.symm ▸ (by decide : 0 < 7)))
        have y0 := block_free (k := 0) hz
        have z1 := block_cell hz 1 _ (Array.getElem?_eq_getElem (show 1 < c.size from hc.symm ▸ (by decide : 1 < 7)))
        have y1 := block_free (k := 1) hz
        have z2 := block_cell hz 2 _ (Array.getElem?_eq_getElem (show 2 < c.size from hc.symm ▸ (by decide : 2 < 7)))
        have y2 := block_free (k := 2) hz
        have z3 := block_cell hz 3 _ (Array.getElem?_eq_getElem (show 3 < c.size from hc.symm ▸ (by decide : 3 < 7)))
        have y3 := block_free (k := 3) hz
        have z4 := block_cell hz 4 _ (Array.getElem?_eq_getElem (show 4 < c.size from hc.symm ▸ (by decide : 4 < 7)))
        have y4 := block_free (k := 4) hz
        have z5 := block_cell hz 5 _ (Array.getElem?_eq_getElem (show 5 < c.size from hc.symm ▸ (by decide : 5 < 7)))
        have y5 := block_free (k := 5) hz
        have z6 := block_cell hz 6 _ (Array.getElem?_eq_getElem (show 6 < c.size from hc.symm ▸ (by decide : 6 < 7)))
        have y6 := block_free (k := 6) hz
        have G5 := Lib.hid g5; have HZ5 := Lib.hid hz; have HC7 := Lib.hid hc; have HB5 := Lib.hid hb5
        clear hHeld g5 hz hg5 hb5
        go_simp
        refine hK.out _ _ ⟨grown_far (grown_far (grown_far (grown_far (grown_far (grown_far (grown_far G5.out (by omega) _ _) (by omega) _ _) (by omega) _ _) (by omega) _ _) (by omega) _ _) (by omega) _ _) (by omega) _ _, ?_, _, ?_, block_set (block_set (block_set (block_set (block_set (block_set (block_set HZ5.out _) _) _) _) _) _) _⟩ (fun hHeld4 => ?_)
        · iterate 7 rw [World.cell?_setCell_other _ _ _ _ (fun e => by injection e with e; omega)]
          exact HB5.out
        · simpa using HC7.out
        refine wpAnyH_done (by kernel_rfl) ?_ _
        clear hK K
        have G6 := hHeld4.1
        clear hHeld4
        go_wp2_with fail
        refine bodyPost_ret (v := .agg #[.int .i64 x.t, .int .i64 x.x, .int .i64 x.y, .int .i64 x.z, .int .i64 x.p, .int .i64 x.q, .int .i64 x.s]) (by simp [results, Try.results61, go_sem, z0, z1, z2, z3, z4, z5, z6]) rfl ⟨rfl, G6⟩
end Go.Proofs.Ytgkhhfojioepgaa
namespace Go.Proofs.Ytgkhhfojioepgaa
open Go.RowKit
set_option linter.unusedSimpArgs false
set_option linter.unusedVariables false

open Classical in
/-- The number of the first sample not before a second. -/
noncomputable def idxV (ss : List Smp) (s : Int) : Nat := if h : ∃ m, SIdx ss s m then Classical.choose h else 0
theorem idx_is {ss : List Smp} (h : SOk ss) (s : Int) : SIdx ss s (idxV ss s) := by
  unfold idxV; rw [dif_pos (sidx_any h s)]; exact Classical.choose_spec (sidx_any h s)
def smp0 : Smp := ⟨0, 0, 0, 0, 0, 0, 0⟩
/-- What At returns. -/
noncomputable def atO (a : Act) (s : Int) : Smp × Int := if chkE a = 0 then (if a.ss.length = 0 then (smp0, 13) else (if 0 ≤ s ∧ s ≤ spanL a.ss then (atV a.ss s (idxV a.ss s), 0) else (smp0, 9))) else (smp0, chkE a)
theorem span_last {ss : List Smp} (h : ss.length ≠ 0) : spanL ss = (smpD ss (ss.length - 1)).t := by
  rw [spanL_at (n := ss.length - 1) (by omega), ← smpD_at]
theorem idx_lt {ss : List Smp} (h : SOk ss) (hn : ss.length ≠ 0) {s : Int} (hs : s ≤ spanL ss) : idxV ss s < ss.length := by
  have q := idx_is h s
  rcases Nat.lt_or_ge (idxV ss s) ss.length with r | r
  · exact r
  · have := q.2.1 (ss.length - 1) (by omega)
    rw [span_last hn] at hs; omega
/-- The memory of At. -/
structure AtB (w : World) (A : Array Value) (W : World) : Prop where
  a : W.heap[w.heap.size]? = some (.cells A 26 (0, 0))
  z : W.heap[w.heap.size + 1]? = some (.cells #[.int .i64 0, .int .i64 0, .int .i64 0, .int .i64 0, .int .i64 0, .int .i64 0, .int .i64 0] 28 (0, 0))
  g : w.grownBy W none
theorem AtB.grown {w W W' : World} {A : Array Value} (h : AtB w A W) (hg : W.grownBy W' none) : AtB w A W' := by
  have k : ∀ {B : Nat} {o : Obj}, W.heap[B]? = some o → W'.heap[B]? = some o := fun {B o} h => (hg.block B (Array.getElem?_eq_some_iff.1 h).1 (by simp)).trans h
  exact ⟨k h.a, k h.z, grown_trans h.g hg⟩

set_option maxRecDepth 100000 in
set_option maxHeartbeats 3200000 in
theorem At_any (a : Act) (s : Int) (w : World) (ha : ActAt w a) {x : Smp} {E : Int} (hE : Hid (atO a s = (x, E))) :
    Calls Try.prog 15 #[a.val, .int .i64 s] w fun e w' => e = .returned (.tuple #[smpVal x, .int .i64 E]) ∧ w.grownBy w' none := by
  obtain ⟨ce, hce⟩ : ∃ e, chkE a = e := ⟨_, rfl⟩
  have hv := hE.out
  unfold atO at hv
  rw [hce] at hv
  have HCE := Lib.hid hce; have HA := Lib.hid ha
  by_cases c1 : ce = 0
  · rw [if_pos c1] at hv
    subst c1
    have hok := chk_ok hce
    by_cases c2 : a.ss.length = 0
    · rw [if_pos c2] at hv
      simp only [Prod.mk.injEq] at hv
      obtain ⟨rfl, rfl⟩ := hv
      obtain ⟨nm, sp, st, so, sc, ss, lo, lc, ls, to_, tc, ts⟩ := a
      simp only [Act.val] at *
      have C2 := Lib.hid c2
      clear hE hce hok ha c2
      have M0 : Hid (AtB w #[.string nm, .int .i64 sp, .int .i64 st, .slice so ss.length sc, .slice lo ls.length lc, .slice to_ ts.length tc] ((w.alloc (.cells #[.string nm, .int .i64 sp, .int .i64 st, .slice so ss.length sc, .slice lo ls.length lc, .slice to_ ts.length tc] 26)).alloc (.cells #[.int .i64 0, .int .i64 0, .int .i64 0, .int .i64 0, .int .i64 0, .int .i64 0, .int .i64 0] 28))) := by
        refine ⟨?_, ?_, grown_trans (World.grownBy_alloc _ _ none) (World.grownBy_alloc _ _ none)⟩
        · rw [Below.heap_alloc _ _ _ (by simp)]; exact heap_alloc_new w _
        · have := heap_alloc_new (w.alloc (.cells #[.string nm, .int .i64 sp, .int .i64 st, .slice so ss.length sc, .slice lo ls.length lc, .slice to_ ts.length tc] 26)) (.cells #[.int .i64 0, .int .i64 0, .int .i64 0, .int .i64 0, .int .i64 0, .int .i64 0, .int .i64 0] 28); simpa using this
      go_enter Try.func15, Try.ntmps15
      go_wp2_with fail
      refine (check_any ⟨nm, sp, st, so, sc, ss, lo, lc, ls, to_, tc, ts⟩ _ (HA.out.grown M0.out.g) HCE).mono ?_; rintro e w1 ⟨rfl, hg1⟩
      have M1 := Lib.hid (M0.out.grown hg1)
      clear hg1
      have hz : ((ss.length : Int) == 0) = true := beq_iff_eq.2 (by have := C2.out; omega)
      have z0 := block_cell M1.out.z 0 _ rfl
      have y0 := block_free (k := 0) M1.out.z
      have z1 := block_cell M1.out.z 1 _ rfl
      have y1 := block_free (k := 1) M1.out.z
      have z2 := block_cell M1.out.z 2 _ rfl
      have y2 := block_free (k := 2) M1.out.z
      have z3 := block_cell M1.out.z 3 _ rfl
      have y3 := block_free (k := 3) M1.out.z
      have z4 := block_cell M1.out.z 4 _ rfl
      have y4 := block_free (k := 4) M1.out.z
      have z5 := block_cell M1.out.z 5 _ rfl
      have y5 := block_free (k := 5) M1.out.z
      have z6 := block_cell M1.out.z 6 _ rfl
      have y6 := block_free (k := 6) M1.out.z
      have a0 := block_cell M1.out.a 0 _ rfl
      have a1 := block_cell M1.out.a 1 _ rfl
      have a2 := block_cell M1.out.a 2 _ rfl
      have a3 := block_cell M1.out.a 3 _ rfl
      have a4 := block_cell M1.out.a 4 _ rfl
      have a5 := block_cell M1.out.a 5 _ rfl
      go_wp2_with fail
      refine bodyPost_ret (v := .tuple #[.agg #[.int .i64 0, .int .i64 0, .int .i64 0, .int .i64 0, .int .i64 0, .int .i64 0, .int .i64 0], .int .i64 13]) (by simp [results, Try.results15, go_sem, z0, z1, z2, z3, z4, z5, z6]) rfl ⟨by first | rfl | (unfold smpVal; rfl), ?_⟩
      exact grown_far (grown_far (grown_far (grown_far (grown_far (grown_far (grown_far M1.out.g (by omega) _ _) (by omega) _ _) (by omega) _ _) (by omega) _ _) (by omega) _ _) (by omega) _ _) (by omega) _ _
    · rw [if_neg c2] at hv
      have hl : (a.ss.length : Int) ≤ 20000 := hok.sl
      have HS := Lib.hid (sok_of hok)
      obtain ⟨sv, hsv⟩ : ∃ e, spanL a.ss = e := ⟨_, rfl⟩
      have HSV := Lib.hid hsv
      by_cases c3 : 0 ≤ s ∧ s ≤ spanL a.ss
      · rw [if_pos c3] at hv
        simp only [Prod.mk.injEq] at hv
        obtain ⟨hx, rfl⟩ := hv
        have HX := Lib.hid hx
        have HM := Lib.hid (idx_is HS.out s)
        have hml := idx_lt HS.out c2 c3.2
        have hs0 := c3.1
        have hs1 := c3.2
        rw [hsv] at hs1
        obtain ⟨nm, sp, st, so, sc, ss, lo, lc, ls, to_, tc, ts⟩ := a
        simp only [Act.val] at *
        obtain ⟨b, off, rfl⟩ : ∃ b off, so = some ⟨b, off, none⟩ := by
          have hne : ss ≠ [] := fun h => c2 (by rw [h]; rfl)
          cases so with
          | none => exact absurd (ha.hs.nil rfl) hne
          | some p =>
            obtain ⟨b, off, spot⟩ := p
            have hsp := ha.hs.spot _ rfl hne
            simp only at hsp
            subst hsp
            exact ⟨b, off, rfl⟩
        have hz : ((ss.length : Int) == 0) = false := beq_eq_false_iff_ne.2 (by omega)
        clear hE hce hok ha hx hsv c3
        have M0 : Hid (AtB w #[.string nm, .int .i64 sp, .int .i64 st, .slice (some ⟨b, off, none⟩) ss.length sc, .slice lo ls.length lc, .slice to_ ts.length tc] ((w.alloc (.cells #[.string nm, .int .i64 sp, .int .i64 st, .slice (some ⟨b, off, none⟩) ss.length sc, .slice lo ls.length lc, .slice to_ ts.length tc] 26)).alloc (.cells #[.int .i64 0, .int .i64 0, .int .i64 0, .int .i64 0, .int .i64 0, .int .i64 0, .int .i64 0] 28))) := by
          refine ⟨?_, ?_, grown_trans (World.grownBy_alloc _ _ none) (World.grownBy_alloc _ _ none)⟩
          · rw [Below.heap_alloc _ _ _ (by simp)]; exact heap_alloc_new w _
          · have := heap_alloc_new (w.alloc (.cells #[.string nm, .int .i64 sp, .int .i64 st, .slice (some ⟨b, off, none⟩) ss.length sc, .slice lo ls.length lc, .slice to_ ts.length tc] 26)) (.cells #[.int .i64 0, .int .i64 0, .int .i64 0, .int .i64 0, .int .i64 0, .int .i64 0, .int .i64 0] 28); simpa using this
        go_enter Try.func15, Try.ntmps15
        go_wp2_with fail
        refine (check_any ⟨nm, sp, st, some ⟨b, off, none⟩, sc, ss, lo, lc, ls, to_, tc, ts⟩ _ (HA.out.grown M0.out.g) HCE).mono ?_; rintro e w1 ⟨rfl, hg1⟩
        have M1 := Lib.hid (M0.out.grown hg1)
        clear hg1
        have a0 := block_cell M1.out.a 0 _ rfl
        have a1 := block_cell M1.out.a 1 _ rfl
        have a2 := block_cell M1.out.a 2 _ rfl
        have a3 := block_cell M1.out.a 3 _ rfl
        have a4 := block_cell M1.out.a 4 _ rfl
        have a5 := block_cell M1.out.a 5 _ rfl
        go_wp2_with fail
        refine (span_any ⟨nm, sp, st, some ⟨b, off, none⟩, sc, ss, lo, lc, ls, to_, tc, ts⟩ (by show (ss.length : Int) ≤ _; omega) _ (HA.out.hs.grown M1.out.g) HSV).mono ?_; rintro e w2 ⟨rfl, hg2⟩
        have M2 := Lib.hid (M1.out.grown hg2)
        clear hg2 a0 a1 a2 a3 a4 a5
        go_wp2_with fail
        refine (twithin_yes _ _ _ hs0 hs1 _).mono ?_; rintro e w3 ⟨rfl, rfl⟩
        have M3 := M2
        have a0 := block_cell M3.out.a 0 _ rfl
        have a1 := block_cell M3.out.a 1 _ rfl
        have a2 := block_cell M3.out.a 2 _ rfl
        have a3 := block_cell M3.out.a 3 _ rfl
        have a4 := block_cell M3.out.a 4 _ rfl
        have a5 := block_cell M3.out.a 5 _ rfl
        go_wp2_with fail
        refine (sampleAt_is b off sc ss HS s HM hml hs0 _ (HA.out.hs.grown M3.out.g) HX).mono ?_; rintro e w4 ⟨rfl, hg4⟩
        have M4 := Lib.hid (M3.out.grown hg4)
        clear hg4 a0 a1 a2 a3 a4 a5
        have z0 := block_cell M4.out.z 0 _ rfl
        have y0 := block_free (k := 0) M4.out.z
        have z1 := block_cell M4.out.z 1 _ rfl
        have y1 := block_free (k := 1) M4.out.z
        have z2 := block_cell M4.out.z 2 _ rfl
        have y2 := block_free (k := 2) M4.out.z
        have z3 := block_cell M4.out.z 3 _ rfl
        have y3 := block_free (k := 3) M4.out.z
        have z4 := block_cell M4.out.z 4 _ rfl
        have y4 := block_free (k := 4) M4.out.z
        have z5 := block_cell M4.out.z 5 _ rfl
        have y5 := block_free (k := 5) M4.out.z
        have z6 := block_cell M4.out.z 6 _ rfl
        have y6 := block_free (k := 6) M4.out.z
        unfold smpVal
        go_wp2_with fail
        refine bodyPost_ret (v := .tuple #[.agg #[.int .i64 x.t, .int .i64 x.x, .int .i64 x.y, .int .i64 x.z, .int .i64 x.p, .int .i64 x.q, .int .i64 x.s], .int .i64 0]) (by simp [results, Try.results15, go_sem, z0, z1, z2, z3, z4, z5, z6]) rfl ⟨by first | rfl | (unfold smpVal; rfl), ?_⟩
        exact grown_far (grown_far (grown_far (grown_far (grown_far (grown_far (grown_far M4.out.g (by omega) _ _) (by omega) _ _) (by omega) _ _) (by omega) _ _) (by omega) _ _) (by omega) _ _) (by omega) _ _
      · rw [if_neg c3] at hv
        simp only [Prod.mk.injEq] at hv
        obtain ⟨rfl, rfl⟩ := hv
        have C3 : Hid (s < 0 ∨ sv < s) := by rw [hsv] at c3; show _ ∨ _; omega
        obtain ⟨nm, sp, st, so, sc, ss, lo, lc, ls, to_, tc, ts⟩ := a
        simp only [Act.val] at *
        have hz : ((ss.length : Int) == 0) = false := beq_eq_false_iff_ne.2 (by omega)
        clear hE hce hok ha hsv c3
        have M0 : Hid (AtB w #[.string nm, .int .i64 sp, .int .i64 st, .slice so ss.length sc, .slice lo ls.length lc, .slice to_ ts.length tc] ((w.alloc (.cells #[.string nm, .int .i64 sp, .int .i64 st, .slice so ss.length sc, .slice lo ls.length lc, .slice to_ ts.length tc] 26)).alloc (.cells #[.int .i64 0, .int .i64 0, .int .i64 0, .int .i64 0, .int .i64 0, .int .i64 0, .int .i64 0] 28))) := by
          refine ⟨?_, ?_, grown_trans (World.grownBy_alloc _ _ none) (World.grownBy_alloc _ _ none)⟩
          · rw [Below.heap_alloc _ _ _ (by simp)]; exact heap_alloc_new w _
          · have := heap_alloc_new (w.alloc (.cells #[.string nm, .int .i64 sp, .int .i64 st, .slice so ss.length sc, .slice lo ls.length lc, .slice to_ ts.length tc] 26)) (.cells #[.int .i64 0, .int .i64 0, .int .i64 0, .int .i64 0, .int .i64 0, .int .i64 0, .int .i64 0] 28); simpa using this
        go_enter Try.func15, Try.ntmps15
        go_wp2_with fail
        refine (check_any ⟨nm, sp, st, so, sc, ss, lo, lc, ls, to_, tc, ts⟩ _ (HA.out.grown M0.out.g) HCE).mono ?_; rintro e w1 ⟨rfl, hg1⟩
        have M1 := Lib.hid (M0.out.grown hg1)
        clear hg1
        have a0 := block_cell M1.out.a 0 _ rfl
        have a1 := block_cell M1.out.a 1 _ rfl
        have a2 := block_cell M1.out.a 2 _ rfl
        have a3 := block_cell M1.out.a 3 _ rfl
        have a4 := block_cell M1.out.a 4 _ rfl
        have a5 := block_cell M1.out.a 5 _ rfl
        go_wp2_with fail
        refine (span_any ⟨nm, sp, st, so, sc, ss, lo, lc, ls, to_, tc, ts⟩ (by show (ss.length : Int) ≤ _; omega) _ (HA.out.hs.grown M1.out.g) HSV).mono ?_; rintro e w2 ⟨rfl, hg2⟩
        have M2 := Lib.hid (M1.out.grown hg2)
        clear hg2 a0 a1 a2 a3 a4 a5
        go_wp2_with fail
        refine (twithin_no _ _ _ C3.out _).mono ?_; rintro e w3 ⟨rfl, rfl⟩
        have z0 := block_cell M2.out.z 0 _ rfl
        have y0 := block_free (k := 0) M2.out.z
        have z1 := block_cell M2.out.z 1 _ rfl
        have y1 := block_free (k := 1) M2.out.z
        have z2 := block_cell M2.out.z 2 _ rfl
        have y2 := block_free (k := 2) M2.out.z
        have z3 := block_cell M2.out.z 3 _ rfl
        have y3 := block_free (k := 3) M2.out.z
        have z4 := block_cell M2.out.z 4 _ rfl
        have y4 := block_free (k := 4) M2.out.z
        have z5 := block_cell M2.out.z 5 _ rfl
        have y5 := block_free (k := 5) M2.out.z
        have z6 := block_cell M2.out.z 6 _ rfl
        have y6 := block_free (k := 6) M2.out.z
        go_wp2_with fail
        refine bodyPost_ret (v := .tuple #[.agg #[.int .i64 0, .int .i64 0, .int .i64 0, .int .i64 0, .int .i64 0, .int .i64 0, .int .i64 0], .int .i64 9]) (by simp [results, Try.results15, go_sem, z0, z1, z2, z3, z4, z5, z6]) rfl ⟨by first | rfl | (unfold smpVal; rfl), ?_⟩
        exact grown_far (grown_far (grown_far (grown_far (grown_far (grown_far (grown_far M2.out.g (by omega) _ _) (by omega) _ _) (by omega) _ _) (by omega) _ _) (by omega) _ _) (by omega) _ _) (by omega) _ _
  · rw [if_neg c1] at hv
    simp only [Prod.mk.injEq] at hv
    obtain ⟨rfl, rfl⟩ := hv
    have hne : (ce != 0) = true := by simpa using c1
    obtain ⟨nm, sp, st, so, sc, ss, lo, lc, ls, to_, tc, ts⟩ := a
    simp only [Act.val] at *
    clear hE hce ha c1
    have M0 : Hid (AtB w #[.string nm, .int .i64 sp, .int .i64 st, .slice so ss.length sc, .slice lo ls.length lc, .slice to_ ts.length tc] ((w.alloc (.cells #[.string nm, .int .i64 sp, .int .i64 st, .slice so ss.length sc, .slice lo ls.length lc, .slice to_ ts.length tc] 26)).alloc (.cells #[.int .i64 0, .int .i64 0, .int .i64 0, .int .i64 0, .int .i64 0, .int .i64 0, .int .i64 0] 28))) := by
      refine ⟨?_, ?_, grown_trans (World.grownBy_alloc _ _ none) (World.grownBy_alloc _ _ none)⟩
      · rw [Below.heap_alloc _ _ _ (by simp)]; exact heap_alloc_new w _
      · have := heap_alloc_new (w.alloc (.cells #[.string nm, .int .i64 sp, .int .i64 st, .slice so ss.length sc, .slice lo ls.length lc, .slice to_ ts.length tc] 26)) (.cells #[.int .i64 0, .int .i64 0, .int .i64 0, .int .i64 0, .int .i64 0, .int .i64 0, .int .i64 0] 28); simpa using this
    go_enter Try.func15, Try.ntmps15
    go_wp2_with fail
    refine (check_any ⟨nm, sp, st, so, sc, ss, lo, lc, ls, to_, tc, ts⟩ _ (HA.out.grown M0.out.g) HCE).mono ?_; rintro e w1 ⟨rfl, hg1⟩
    have M1 := Lib.hid (M0.out.grown hg1)
    clear hg1
    have z0 := block_cell M1.out.z 0 _ rfl
    have y0 := block_free (k := 0) M1.out.z
    have z1 := block_cell M1.out.z 1 _ rfl
    have y1 := block_free (k := 1) M1.out.z
    have z2 := block_cell M1.out.z 2 _ rfl
    have y2 := block_free (k := 2) M1.out.z
    have z3 := block_cell M1.out.z 3 _ rfl
    have y3 := block_free (k := 3) M1.out.z
    have z4 := block_cell M1.out.z 4 _ rfl
    have y4 := block_free (k := 4) M1.out.z
    have z5 := block_cell M1.out.z 5 _ rfl
    have y5 := block_free (k := 5) M1.out.z
    have z6 := block_cell M1.out.z 6 _ rfl
    have y6 := block_free (k := 6) M1.out.z
    go_wp2_with fail
    refine bodyPost_ret (v := .tuple #[.agg #[.int .i64 0, .int .i64 0, .int .i64 0, .int .i64 0, .int .i64 0, .int .i64 0, .int .i64 0], .int .i64 ce]) (by simp [results, Try.results15, go_sem, z0, z1, z2, z3, z4, z5, z6]) rfl ⟨by first | rfl | (unfold smpVal; rfl), ?_⟩
    exact grown_far (grown_far (grown_far (grown_far (grown_far (grown_far (grown_far M1.out.g (by omega) _ _) (by omega) _ _) (by omega) _ _) (by omega) _ _) (by omega) _ _) (by omega) _ _) (by omega) _ _

set_option maxRecDepth 100000 in
set_option maxHeartbeats 3200000 in
theorem rAt_any (a : Act) (s : Int) (w : World) (ha : ActAt w a) {x : Smp} {E : Int} (hE : Hid (atO a s = (x, E))) :
    Calls Try.prog 16 #[a.val, .int .i64 s] w fun e w' => e = .returned (.tuple #[smpVal x, .int .i64 E]) ∧ w.grownBy w' none := by
  obtain ⟨ce, hce⟩ : ∃ e, chkE a = e := ⟨_, rfl⟩
  have hv := hE.out
  unfold atO at hv
  rw [hce] at hv
  have HCE := Lib.hid hce; have HA := Lib.hid ha
  by_cases c1 : ce = 0
  · rw [if_pos c1] at hv
    subst c1
    have hok := chk_ok hce
    by_cases c2 : a.ss.length = 0
    · rw [if_pos c2] at hv
      simp only [Prod.mk.injEq] at hv
      obtain ⟨rfl, rfl⟩ := hv
      obtain ⟨nm, sp, st, so, sc, ss, lo, lc, ls, to_, tc, ts⟩ := a
      simp only [Act.val] at *
      have C2 := Lib.hid c2
      clear hE hce hok ha c2
      have M0 : Hid (AtB w #[.string nm, .int .i64 sp, .int .i64 st, .slice so ss.length sc, .slice lo ls.length lc, .slice to_ ts.length tc] ((w.alloc (.cells #[.string nm, .int .i64 sp, .int .i64 st, .slice so ss.length sc, .slice lo ls.length lc, .slice to_ ts.length tc] 26)).alloc (.cells #[.int .i64 0, .int .i64 0, .int .i64 0, .int .i64 0, .int .i64 0, .int .i64 0, .int .i64 0] 28))) := by
        refine ⟨?_, ?_, grown_trans (World.grownBy_alloc _ _ none) (World.grownBy_alloc _ _ none)⟩
        · rw [Below.heap_alloc _ _ _ (by simp)]; exact heap_alloc_new w _
        · have := heap_alloc_new (w.alloc (.cells #[.string nm, .int .i64 sp, .int .i64 st, .slice so ss.length sc, .slice lo ls.length lc, .slice to_ ts.length tc] 26)) (.cells #[.int .i64 0, .int .i64 0, .int .i64 0, .int .i64 0, .int .i64 0, .int .i64 0, .int .i64 0] 28); simpa using this
      go_enter Try.func16, Try.ntmps16
      go_wp2_with fail
      refine (rcheck_any ⟨nm, sp, st, so, sc, ss, lo, lc, ls, to_, tc, ts⟩ _ (HA.out.grown M0.out.g) HCE).mono ?_; rintro e w1 ⟨rfl, hg1⟩
      have M1 := Lib.hid (M0.out.grown hg1)
      clear hg1
      have hz : ((ss.length : Int) == 0) = true := beq_iff_eq.2 (by have := C2.out; omega)
      have z0 := block_cell M1.out.z 0 _ rfl
      have y0 := block_free (k := 0) M1.out.z
      have z1 := block_cell M1.out.z 1 _ rfl
      have y1 := block_free (k := 1) M1.out.z
      have z2 := block_cell M1.out.z 2 _ rfl
      have y2 := block_free (k := 2) M1.out.z
      have z3 := block_cell M1.out.z 3 _ rfl
      have y3 := block_free (k := 3) M1.out.z
      have z4 := block_cell M1.out.z 4 _ rfl
      have y4 := block_free (k := 4) M1.out.z
      have z5 := block_cell M1.out.z 5 _ rfl
      have y5 := block_free (k := 5) M1.out.z
      have z6 := block_cell M1.out.z 6 _ rfl
      have y6 := block_free (k := 6) M1.out.z
      have a0 := block_cell M1.out.a 0 _ rfl
      have a1 := block_cell M1.out.a 1 _ rfl
      have a2 := block_cell M1.out.a 2 _ rfl
      have a3 := block_cell M1.out.a 3 _ rfl
      have a4 := block_cell M1.out.a 4 _ rfl
      have a5 := block_cell M1.out.a 5 _ rfl
      go_wp2_with fail
      refine bodyPost_ret (v := .tuple #[.agg #[.int .i64 0, .int .i64 0, .int .i64 0, .int .i64 0, .int .i64 0, .int .i64 0, .int .i64 0], .int .i64 13]) (by simp [results, Try.results16, go_sem, z0, z1, z2, z3, z4, z5, z6]) rfl ⟨by first | rfl | (unfold smpVal; rfl), ?_⟩
      exact grown_far (grown_far (grown_far (grown_far (grown_far (grown_far (grown_far M1.out.g (by omega) _ _) (by omega) _ _) (by omega) _ _) (by omega) _ _) (by omega) _ _) (by omega) _ _) (by omega) _ _
    · rw [if_neg c2] at hv
      have hl : (a.ss.length : Int) ≤ 20000 := hok.sl
      have HS := Lib.hid (sok_of hok)
      obtain ⟨sv, hsv⟩ : ∃ e, spanL a.ss = e := ⟨_, rfl⟩
      have HSV := Lib.hid hsv
      by_cases c3 : 0 ≤ s ∧ s ≤ spanL a.ss
      · rw [if_pos c3] at hv
        simp only [Prod.mk.injEq] at hv
        obtain ⟨hx, rfl⟩ := hv
        have HX := Lib.hid hx
        have HM := Lib.hid (idx_is HS.out s)
        have hml := idx_lt HS.out c2 c3.2
        have hs0 := c3.1
        have hs1 := c3.2
        rw [hsv] at hs1
        obtain ⟨nm, sp, st, so, sc, ss, lo, lc, ls, to_, tc, ts⟩ := a
        simp only [Act.val] at *
        obtain ⟨b, off, rfl⟩ : ∃ b off, so = some ⟨b, off, none⟩ := by
          have hne : ss ≠ [] := fun h => c2 (by rw [h]; rfl)
          cases so with
          | none => exact absurd (ha.hs.nil rfl) hne
          | some p =>
            obtain ⟨b, off, spot⟩ := p
            have hsp := ha.hs.spot _ rfl hne
            simp only at hsp
            subst hsp
            exact ⟨b, off, rfl⟩
        have hz : ((ss.length : Int) == 0) = false := beq_eq_false_iff_ne.2 (by omega)
        clear hE hce hok ha hx hsv c3
        have M0 : Hid (AtB w #[.string nm, .int .i64 sp, .int .i64 st, .slice (some ⟨b, off, none⟩) ss.length sc, .slice lo ls.length lc, .slice to_ ts.length tc] ((w.alloc (.cells #[.string nm, .int .i64 sp, .int .i64 st, .slice (some ⟨b, off, none⟩) ss.length sc, .slice lo ls.length lc, .slice to_ ts.length tc] 26)).alloc (.cells #[.int .i64 0, .int .i64 0, .int .i64 0, .int .i64 0, .int .i64 0, .int .i64 0, .int .i64 0] 28))) := by
          refine ⟨?_, ?_, grown_trans (World.grownBy_alloc _ _ none) (World.grownBy_alloc _ _ none)⟩
          · rw [Below.heap_alloc _ _ _ (by simp)]; exact heap_alloc_new w _
          · have := heap_alloc_new (w.alloc (.cells #[.string nm, .int .i64 sp, .int .i64 st, .slice (some ⟨b, off, none⟩) ss.length sc, .slice lo ls.length lc, .slice to_ ts.length tc] 26)) (.cells #[.int .i64 0, .int .i64 0, .int .i64 0, .int .i64 0, .int .i64 0, .int .i64 0, .int .i64 0] 28); simpa using this
        go_enter Try.func16, Try.ntmps16
        go_wp2_with fail
        refine (rcheck_any ⟨nm, sp, st, some ⟨b, off, none⟩, sc, ss, lo, lc, ls, to_, tc, ts⟩ _ (HA.out.grown M0.out.g) HCE).mono ?_; rintro e w1 ⟨rfl, hg1⟩
        have M1 := Lib.hid (M0.out.grown hg1)
        clear hg1
        have a0 := block_cell M1.out.a 0 _ rfl
        have a1 := block_cell M1.out.a 1 _ rfl
        have a2 := block_cell M1.out.a 2 _ rfl
        have a3 := block_cell M1.out.a 3 _ rfl
        have a4 := block_cell M1.out.a 4 _ rfl
        have a5 := block_cell M1.out.a 5 _ rfl
        go_wp2_with fail
        refine (rspan_any ⟨nm, sp, st, some ⟨b, off, none⟩, sc, ss, lo, lc, ls, to_, tc, ts⟩ (by show (ss.length : Int) ≤ _; omega) _ (HA.out.hs.grown M1.out.g) HSV).mono ?_; rintro e w2 ⟨rfl, hg2⟩
        have M2 := Lib.hid (M1.out.grown hg2)
        clear hg2 a0 a1 a2 a3 a4 a5
        go_wp2_with fail
        refine (rout_no _ _ _ hs0 hs1 _).mono ?_; rintro e w3 ⟨rfl, rfl⟩
        have M3 := M2
        have a0 := block_cell M3.out.a 0 _ rfl
        have a1 := block_cell M3.out.a 1 _ rfl
        have a2 := block_cell M3.out.a 2 _ rfl
        have a3 := block_cell M3.out.a 3 _ rfl
        have a4 := block_cell M3.out.a 4 _ rfl
        have a5 := block_cell M3.out.a 5 _ rfl
        go_wp2_with fail
        refine (where_is nm sp st b off sc ss lo lc ls to_ tc ts HS s HM hml hs0 _ (HA.out.hs.grown M3.out.g) HX).mono ?_; rintro e w4 ⟨rfl, hg4⟩
        have M4 := Lib.hid (M3.out.grown hg4)
        clear hg4 a0 a1 a2 a3 a4 a5
        have z0 := block_cell M4.out.z 0 _ rfl
        have y0 := block_free (k := 0) M4.out.z
        have z1 := block_cell M4.out.z 1 _ rfl
        have y1 := block_free (k := 1) M4.out.z
        have z2 := block_cell M4.out.z 2 _ rfl
        have y2 := block_free (k := 2) M4.out.z
        have z3 := block_cell M4.out.z 3 _ rfl
        have y3 := block_free (k := 3) M4.out.z
        have z4 := block_cell M4.out.z 4 _ rfl
        have y4 := block_free (k := 4) M4.out.z
        have z5 := block_cell M4.out.z 5 _ rfl
        have y5 := block_free (k := 5) M4.out.z
        have z6 := block_cell M4.out.z 6 _ rfl
        have y6 := block_free (k := 6) M4.out.z
        unfold smpVal
        go_wp2_with fail
        refine bodyPost_ret (v := .tuple #[.agg #[.int .i64 x.t, .int .i64 x.x, .int .i64 x.y, .int .i64 x.z, .int .i64 x.p, .int .i64 x.q, .int .i64 x.s], .int .i64 0]) (by simp [results, Try.results16, go_sem, z0, z1, z2, z3, z4, z5, z6]) rfl ⟨by first | rfl | (unfold smpVal; rfl), ?_⟩
        exact grown_far (grown_far (grown_far (grown_far (grown_far (grown_far (grown_far M4.out.g (by omega) _ _) (by omega) _ _) (by omega) _ _) (by omega) _ _) (by omega) _ _) (by omega) _ _) (by omega) _ _
      · rw [if_neg c3] at hv
        simp only [Prod.mk.injEq] at hv
        obtain ⟨rfl, rfl⟩ := hv
        have C3 : Hid (s < 0 ∨ sv < s) := by rw [hsv] at c3; show _ ∨ _; omega
        obtain ⟨nm, sp, st, so, sc, ss, lo, lc, ls, to_, tc, ts⟩ := a
        simp only [Act.val] at *
        have hz : ((ss.length : Int) == 0) = false := beq_eq_false_iff_ne.2 (by omega)
        clear hE hce hok ha hsv c3
        have M0 : Hid (AtB w #[.string nm, .int .i64 sp, .int .i64 st, .slice so ss.length sc, .slice lo ls.length lc, .slice to_ ts.length tc] ((w.alloc (.cells #[.string nm, .int .i64 sp, .int .i64 st, .slice so ss.length sc, .slice lo ls.length lc, .slice to_ ts.length tc] 26)).alloc (.cells #[.int .i64 0, .int .i64 0, .int .i64 0, .int .i64 0, .int .i64 0, .int .i64 0, .int .i64 0] 28))) := by
          refine ⟨?_, ?_, grown_trans (World.grownBy_alloc _ _ none) (World.grownBy_alloc _ _ none)⟩
          · rw [Below.heap_alloc _ _ _ (by simp)]; exact heap_alloc_new w _
          · have := heap_alloc_new (w.alloc (.cells #[.string nm, .int .i64 sp, .int .i64 st, .slice so ss.length sc, .slice lo ls.length lc, .slice to_ ts.length tc] 26)) (.cells #[.int .i64 0, .int .i64 0, .int .i64 0, .int .i64 0, .int .i64 0, .int .i64 0, .int .i64 0] 28); simpa using this
        go_enter Try.func16, Try.ntmps16
        go_wp2_with fail
        refine (rcheck_any ⟨nm, sp, st, so, sc, ss, lo, lc, ls, to_, tc, ts⟩ _ (HA.out.grown M0.out.g) HCE).mono ?_; rintro e w1 ⟨rfl, hg1⟩
        have M1 := Lib.hid (M0.out.grown hg1)
        clear hg1
        have a0 := block_cell M1.out.a 0 _ rfl
        have a1 := block_cell M1.out.a 1 _ rfl
        have a2 := block_cell M1.out.a 2 _ rfl
        have a3 := block_cell M1.out.a 3 _ rfl
        have a4 := block_cell M1.out.a 4 _ rfl
        have a5 := block_cell M1.out.a 5 _ rfl
        go_wp2_with fail
        refine (rspan_any ⟨nm, sp, st, so, sc, ss, lo, lc, ls, to_, tc, ts⟩ (by show (ss.length : Int) ≤ _; omega) _ (HA.out.hs.grown M1.out.g) HSV).mono ?_; rintro e w2 ⟨rfl, hg2⟩
        have M2 := Lib.hid (M1.out.grown hg2)
        clear hg2 a0 a1 a2 a3 a4 a5
        go_wp2_with fail
        refine (rout_yes _ _ _ C3.out _).mono ?_; rintro e w3 ⟨rfl, rfl⟩
        have z0 := block_cell M2.out.z 0 _ rfl
        have y0 := block_free (k := 0) M2.out.z
        have z1 := block_cell M2.out.z 1 _ rfl
        have y1 := block_free (k := 1) M2.out.z
        have z2 := block_cell M2.out.z 2 _ rfl
        have y2 := block_free (k := 2) M2.out.z
        have z3 := block_cell M2.out.z 3 _ rfl
        have y3 := block_free (k := 3) M2.out.z
        have z4 := block_cell M2.out.z 4 _ rfl
        have y4 := block_free (k := 4) M2.out.z
        have z5 := block_cell M2.out.z 5 _ rfl
        have y5 := block_free (k := 5) M2.out.z
        have z6 := block_cell M2.out.z 6 _ rfl
        have y6 := block_free (k := 6) M2.out.z
        go_wp2_with fail
        refine bodyPost_ret (v := .tuple #[.agg #[.int .i64 0, .int .i64 0, .int .i64 0, .int .i64 0, .int .i64 0, .int .i64 0, .int .i64 0], .int .i64 9]) (by simp [results, Try.results16, go_sem, z0, z1, z2, z3, z4, z5, z6]) rfl ⟨by first | rfl | (unfold smpVal; rfl), ?_⟩
        exact grown_far (grown_far (grown_far (grown_far (grown_far (grown_far (grown_far M2.out.g (by omega) _ _) (by omega) _ _) (by omega) _ _) (by omega) _ _) (by omega) _ _) (by omega) _ _) (by omega) _ _
  · rw [if_neg c1] at hv
    simp only [Prod.mk.injEq] at hv
    obtain ⟨rfl, rfl⟩ := hv
    have hne : (ce != 0) = true := by simpa using c1
    obtain ⟨nm, sp, st, so, sc, ss, lo, lc, ls, to_, tc, ts⟩ := a
    simp only [Act.val] at *
    clear hE hce ha c1
    have M0 : Hid (AtB w #[.string nm, .int .i64 sp, .int .i64 st, .slice so ss.length sc, .slice lo ls.length lc, .slice to_ ts.length tc] ((w.alloc (.cells #[.string nm, .int .i64 sp, .int .i64 st, .slice so ss.length sc, .slice lo ls.length lc, .slice to_ ts.length tc] 26)).alloc (.cells #[.int .i64 0, .int .i64 0, .int .i64 0, .int .i64 0, .int .i64 0, .int .i64 0, .int .i64 0] 28))) := by
      refine ⟨?_, ?_, grown_trans (World.grownBy_alloc _ _ none) (World.grownBy_alloc _ _ none)⟩
      · rw [Below.heap_alloc _ _ _ (by simp)]; exact heap_alloc_new w _
      · have := heap_alloc_new (w.alloc (.cells #[.string nm, .int .i64 sp, .int .i64 st, .slice so ss.length sc, .slice lo ls.length lc, .slice to_ ts.length tc] 26)) (.cells #[.int .i64 0, .int .i64 0, .int .i64 0, .int .i64 0, .int .i64 0, .int .i64 0, .int .i64 0] 28); simpa using this
    go_enter Try.func16, Try.ntmps16
    go_wp2_with fail
    refine (rcheck_any ⟨nm, sp, st, so, sc, ss, lo, lc, ls, to_, tc, ts⟩ _ (HA.out.grown M0.out.g) HCE).mono ?_; rintro e w1 ⟨rfl, hg1⟩
    have M1 := Lib.hid (M0.out.grown hg1)
    clear hg1
    have z0 := block_cell M1.out.z 0 _ rfl
    have y0 := block_free (k := 0) M1.out.z
    have z1 := block_cell M1.out.z 1 _ rfl
    have y1 := block_free (k := 1) M1.out.z
    have z2 := block_cell M1.out.z 2 _ rfl
    have y2 := block_free (k := 2) M1.out.z
    have z3 := block_cell M1.out.z 3 _ rfl
    have y3 := block_free (k := 3) M1.out.z
    have z4 := block_cell M1.out.z 4 _ rfl
    have y4 := block_free (k := 4) M1.out.z
    have z5 := block_cell M1.out.z 5 _ rfl
    have y5 := block_free (k := 5) M1.out.z
    have z6 := block_cell M1.out.z 6 _ rfl
    have y6 := block_free (k := 6) M1.out.z
    go_wp2_with fail
    refine bodyPost_ret (v := .tuple #[.agg #[.int .i64 0, .int .i64 0, .int .i64 0, .int .i64 0, .int .i64 0, .int .i64 0, .int .i64 0], .int .i64 ce]) (by simp [results, Try.results16, go_sem, z0, z1, z2, z3, z4, z5, z6]) rfl ⟨by first | rfl | (unfold smpVal; rfl), ?_⟩
    exact grown_far (grown_far (grown_far (grown_far (grown_far (grown_far (grown_far M1.out.g (by omega) _ _) (by omega) _ _) (by omega) _ _) (by omega) _ _) (by omega) _ _) (by omega) _ _) (by omega) _ _

end Go.Proofs.Ytgkhhfojioepgaa
namespace Go.Proofs.Ytgkhhfojioepgaa
open Go.RowKit
set_option linter.unusedSimpArgs false
set_option linter.unusedVariables false

theorem smps_at {w : World} {ao : Option Addr} {l : List Smp} (h : SmpsAt w ao l) (hne : 0 < l.length) : ∃ b off, ao = some ⟨b, off, none⟩ ∧ ∀ i (h : i < l.length), w.cell? ⟨b, off + i * 7, none⟩ = some (.int .i64 l[i].t) ∧ w.cell? ⟨b, off + i * 7 + 1, none⟩ = some (.int .i64 l[i].x) ∧ w.cell? ⟨b, off + i * 7 + 2, none⟩ = some (.int .i64 l[i].y) ∧ w.cell? ⟨b, off + i * 7 + 3, none⟩ = some (.int .i64 l[i].z) ∧ w.cell? ⟨b, off + i * 7 + 4, none⟩ = some (.int .i64 l[i].p) ∧ w.cell? ⟨b, off + i * 7 + 5, none⟩ = some (.int .i64 l[i].q) ∧ w.cell? ⟨b, off + i * 7 + 6, none⟩ = some (.int .i64 l[i].s) := by
  have hn : l ≠ [] := fun e => by rw [e] at hne; simp at hne
  cases hao : ao with
  | none => exact absurd (h.nil hao) hn
  | some p =>
    obtain ⟨b, off, spot⟩ := p
    have hsp := h.spot _ hao hn
    simp only at hsp
    subst hsp
    exact ⟨b, off, rfl, fun i hi => h.cells _ hao i hi⟩
theorem lapsS_at {w : World} {ao : Option Addr} {l : List LapV} (h : LapsAt w ao l) (hne : 0 < l.length) : ∃ b off, ao = some ⟨b, off, none⟩ ∧ ∀ i (h : i < l.length), w.cell? ⟨b, off + i * 3, none⟩ = some (.int .i64 l[i].fr) ∧ w.cell? ⟨b, off + i * 3 + 1, none⟩ = some (.int .i64 l[i].to_) ∧ w.cell? ⟨b, off + i * 3 + 2, none⟩ = some (.string l[i].name) := by
  have hn : l ≠ [] := fun e => by rw [e] at hne; simp at hne
  cases hao : ao with
  | none => exact absurd (h.nil hao) hn
  | some p =>
    obtain ⟨b, off, spot⟩ := p
    have hsp := h.spot _ hao hn
    simp only at hsp
    subst hsp
    exact ⟨b, off, rfl, fun i hi => h.cells _ hao i hi⟩

set_option maxHeartbeats 1600000 in
theorem equal_smps {w : World} {a1 a2 : Option Addr} {c1 c2 : Nat} {L : List Smp} (h1 : SmpsAt w a1 L) (h2 : SmpsAt w a2 L) (hn : (L.length : Int) ≤ 9223372036854775807) :
    Calls Try.prog 64 #[.slice a1 L.length c1, .slice a2 L.length c2] w fun e w' => e = .returned (.bool true) ∧ w.grownBy w' none := by
  have Q1 := Lib.hid h1; have Q2 := Lib.hid h2
  clear h1 h2
  go_enter Try.func64, Try.ntmps64
  go_wp2_with fail
  go_loopw [13] (fun iv wr => ∃ k : Nat, k ≤ L.length ∧ iv = .int .i64 k ∧ Hid (w.grownBy wr none)) (fun iv _ => L.length - (intOf iv).toNat)
  case atStart => exact ⟨0, Nat.zero_le _, rfl, grown_refl _ _⟩
  case round =>
    obtain ⟨k, hk, rfl, hg⟩ := hrel
    by_cases hlt : k < L.length
    · obtain ⟨b1, o1, rfl, q1⟩ := smps_at (Q1.out.grown hg.out) (by omega)
      obtain ⟨b2, o2, rfl, q2⟩ := smps_at (Q2.out.grown hg.out) (by omega)
      obtain ⟨x0, x1, x2, x3, x4, x5, x6⟩ := q1 k hlt
      obtain ⟨y0, y1, y2, y3, y4, y5, y6⟩ := q2 k hlt
      generalize L[k] = h at *
      obtain ⟨z0, z1, z2, z3, z4, z5, z6⟩ := h
      simp only at x0 x1 x2 x3 x4 x5 x6 y0 y1 y2 y3 y4 y5 y6
      clear q1 q2
      go_wp2_with fail
      go_quiet (fail)
      go_wp2_with fail
      go_roundw
      case rel => exact ⟨k + 1, by omega, by go_num, grown_trans hg.out (grown_drewN _ _ _)⟩
      case measure => simp [intOf]; omega
    · go_wp2_with fail
      go_ret
      exact ⟨rfl, hg.out⟩

set_option maxHeartbeats 1600000 in
theorem equal_laps {w : World} {a1 a2 : Option Addr} {c1 c2 : Nat} {L : List LapV} (h1 : LapsAt w a1 L) (h2 : LapsAt w a2 L) (hn : (L.length : Int) ≤ 9223372036854775807) :
    Calls Try.prog 65 #[.slice a1 L.length c1, .slice a2 L.length c2] w fun e w' => e = .returned (.bool true) ∧ w.grownBy w' none := by
  have Q1 := Lib.hid h1; have Q2 := Lib.hid h2
  clear h1 h2
  go_enter Try.func65, Try.ntmps65
  go_wp2_with fail
  go_loopw [13] (fun iv wr => ∃ k : Nat, k ≤ L.length ∧ iv = .int .i64 k ∧ Hid (w.grownBy wr none)) (fun iv _ => L.length - (intOf iv).toNat)
  case atStart => exact ⟨0, Nat.zero_le _, rfl, grown_refl _ _⟩
  case round =>
    obtain ⟨k, hk, rfl, hg⟩ := hrel
    by_cases hlt : k < L.length
    · obtain ⟨b1, o1, rfl, q1⟩ := lapsS_at (Q1.out.grown hg.out) (by omega)
      obtain ⟨b2, o2, rfl, q2⟩ := lapsS_at (Q2.out.grown hg.out) (by omega)
      obtain ⟨x0, x1, x2⟩ := q1 k hlt
      obtain ⟨y0, y1, y2⟩ := q2 k hlt
      generalize L[k] = h at *
      obtain ⟨z0, z1, z2⟩ := h
      simp only at x0 x1 x2 y0 y1 y2
      clear q1 q2
      go_wp2_with fail
      go_quiet (fail)
      go_wp2_with fail
      go_roundw
      case rel => exact ⟨k + 1, by omega, by go_num, grown_trans hg.out (grown_drewN _ _ _)⟩
      case measure => simp [intOf]; omega
    · go_wp2_with fail
      go_ret
      exact ⟨rfl, hg.out⟩
end Go.Proofs.Ytgkhhfojioepgaa
namespace Go.Proofs.Ytgkhhfojioepgaa
open Go.RowKit
set_option linter.unusedSimpArgs false
set_option linter.unusedVariables false

def smpCs (x : Smp) : List Value := [.int .i64 x.t, .int .i64 x.x, .int .i64 x.y, .int .i64 x.z, .int .i64 x.p, .int .i64 x.q, .int .i64 x.s]
def lapRc (x : LapV) : List Value := [.int .i64 x.fr, .int .i64 x.to_, .string x.name]
def smpRw (l : List Smp) : List Value := l.flatMap smpCs
def lapRw (l : List LapV) : List Value := l.flatMap lapRc
def tagRw (l : List ByteArray) : List Value := l.map Value.string

theorem flat_len {α : Type} (f : α → List Value) (c : Nat) (hf : ∀ x, (f x).length = c) : ∀ l : List α, (l.flatMap f).length = l.length * c
  | [] => by simp
  | x :: r => by rw [List.flatMap_cons, List.length_append, hf, flat_len f c hf r, List.length_cons, Nat.add_mul]; omega
theorem flatR_at {α : Type} (f : α → List Value) (c : Nat) (hf : ∀ x, (f x).length = c) : ∀ (l : List α) (j i : Nat) (hj : j < l.length), i < c → (l.flatMap f)[j * c + i]? = (f l[j])[i]?
  | x :: r, 0, i, _, hi => by
    rw [List.flatMap_cons, List.getElem?_append_left (by rw [hf]; omega)]; simp
  | x :: r, j + 1, i, hj, hi => by
    rw [List.flatMap_cons, List.getElem?_append_right (by rw [hf, Nat.add_mul]; omega), hf]
    have e : (j + 1) * c + i - c = j * c + i := by rw [Nat.add_mul]; omega
    rw [e]
    exact flatR_at f c hf r j i (by simpa using hj) hi
theorem smpRw_len (l : List Smp) : (smpRw l).length = l.length * 7 := flat_len smpCs 7 (fun _ => rfl) l
theorem lapRw_len (l : List LapV) : (lapRw l).length = l.length * 3 := flat_len lapRc 3 (fun _ => rfl) l
theorem tagRw_len (l : List ByteArray) : (tagRw l).length = l.length * 1 := by unfold tagRw; simp
theorem smpRw_snoc (l : List Smp) (x : Smp) : smpRw (l ++ [x]) = smpRw l ++ smpCs x := by unfold smpRw; simp
theorem lapRw_snoc (l : List LapV) (x : LapV) : lapRw (l ++ [x]) = lapRw l ++ lapRc x := by unfold lapRw; simp
theorem smpRw_one (l : List Smp) : ∀ u ∈ smpRw l, u.oneCell' = true := fun u hu => by
  obtain ⟨x, _, h⟩ := List.mem_flatMap.1 hu
  simp only [smpCs, List.mem_cons, List.not_mem_nil, or_false] at h
  rcases h with rfl | rfl | rfl | rfl | rfl | rfl | rfl <;> rfl
theorem lapRw_one (l : List LapV) : ∀ u ∈ lapRw l, u.oneCell' = true := fun u hu => by
  obtain ⟨x, _, h⟩ := List.mem_flatMap.1 hu
  simp only [lapRc, List.mem_cons, List.not_mem_nil, or_false] at h
  rcases h with rfl | rfl | rfl <;> rfl
theorem tagRw_one (l : List ByteArray) : ∀ u ∈ tagRw l, u.oneCell' = true := fun u hu => by
  obtain ⟨x, _, rfl⟩ := List.mem_map.1 hu; rfl

theorem add_off (b o k : Nat) : (⟨b, o, none⟩ : Addr).add k = ⟨b, o + k, none⟩ := by unfold Addr.add; split <;> simp_all
theorem row_split {c k : Nat} (hc : 0 < c) : k = (k / c) * c + k % c ∧ k % c < c := ⟨by have := Nat.div_add_mod k c; rw [Nat.mul_comm] at this; omega, Nat.mod_lt _ hc⟩

theorem SmpsAt.row {w : World} {a : Addr} {l : List Smp} (h : SmpsAt w (some a) l) : ∀ k u, (smpRw l)[k]? = some u → w.cell? (a.add k) = some u := fun k u hu => by
  have hk : k < (smpRw l).length := (List.getElem?_eq_some_iff.1 hu).1
  rw [smpRw_len] at hk
  obtain ⟨he, hi⟩ := row_split (c := 7) (k := k) (by omega)
  have hj : k / 7 < l.length := by omega
  have hne : l ≠ [] := fun e => by rw [e] at hj; simp at hj
  have hsp := h.spot _ rfl hne
  obtain ⟨b, o, sp⟩ := a
  simp only at hsp; subst hsp
  obtain ⟨h0, h1, h2, h3, h4, h5, h6⟩ := h.cells _ rfl (k / 7) hj
  rw [he, show smpRw l = l.flatMap smpCs from rfl, flatR_at smpCs 7 (fun _ => rfl) l _ _ hj hi] at hu
  rw [add_off]
  simp only at h0 h1 h2 h3 h4 h5 h6
  generalize hq : k % 7 = q at *
  rw [he, ← Nat.add_assoc]
  match q, hi, hu with
  | 0, _, hu => cases hu; simpa using h0
  | 1, _, hu => cases hu; exact h1
  | 2, _, hu => cases hu; exact h2
  | 3, _, hu => cases hu; exact h3
  | 4, _, hu => cases hu; exact h4
  | 5, _, hu => cases hu; exact h5
  | 6, _, hu => cases hu; exact h6
theorem LapsAt.row {w : World} {a : Addr} {l : List LapV} (h : LapsAt w (some a) l) : ∀ k u, (lapRw l)[k]? = some u → w.cell? (a.add k) = some u := fun k u hu => by
  have hk : k < (lapRw l).length := (List.getElem?_eq_some_iff.1 hu).1
  rw [lapRw_len] at hk
  obtain ⟨he, hi⟩ := row_split (c := 3) (k := k) (by omega)
  have hj : k / 3 < l.length := by omega
  have hne : l ≠ [] := fun e => by rw [e] at hj; simp at hj
  have hsp := h.spot _ rfl hne
  obtain ⟨b, o, sp⟩ := a
  simp only at hsp; subst hsp
  obtain ⟨h0, h1, h2⟩ := h.cells _ rfl (k / 3) hj
  rw [he, show lapRw l = l.flatMap lapRc from rfl, flatR_at lapRc 3 (fun _ => rfl) l _ _ hj hi] at hu
  rw [add_off]
  simp only at h0 h1 h2
  generalize hq : k % 3 = q at *
  rw [he, ← Nat.add_assoc]
  match q, hi, hu with
  | 0, _, hu => cases hu; simpa using h0
  | 1, _, hu => cases hu; exact h1
  | 2, _, hu => cases hu; exact h2
theorem TagsAt.row {w : World} {a : Addr} {l : List ByteArray} (h : TagsAt w (some a) l) : ∀ k u, (tagRw l)[k]? = some u → w.cell? (a.add k) = some u := fun k u hu => by
  have hk : k < (tagRw l).length := (List.getElem?_eq_some_iff.1 hu).1
  rw [tagRw_len, Nat.mul_one] at hk
  have hne : l ≠ [] := fun e => by rw [e] at hk; simp at hk
  have hsp := h.spot _ rfl hne
  obtain ⟨b, o, sp⟩ := a
  simp only at hsp; subst hsp
  have h0 := h.cells _ rfl k hk
  unfold tagRw at hu
  rw [List.getElem?_map, List.getElem?_eq_getElem hk] at hu
  rw [add_off]; cases hu; exact h0

theorem own_smps {w : World} {base : Nat} {v : Value} {l : List Smp} (h : w.ownsRow base 28 7 v l.length (smpRw l)) : ∃ ao cap, v = .slice ao l.length cap ∧ SmpsAt w ao l ∧ (∀ a, ao = some a → base ≤ a.block ∧ a.block < w.heap.size) := by
  have hlt := h.lt
  rcases h.2 with ⟨hv, h0⟩ | ⟨g, cap, cur, hv, hb, hg, _⟩
  · have hl : l = [] := List.eq_nil_of_length_eq_zero h0
    subst hl
    exact ⟨none, 0, hv, ⟨fun _ => rfl, fun a h => by simp at h, fun a h => by simp at h⟩, fun a h => by simp at h⟩
  · refine ⟨some ⟨g, 0, none⟩, cap, hv, ⟨fun h => by simp at h, fun a ha _ => by cases ha; rfl, fun a ha i hi => ?_⟩, fun a ha => by cases ha; exact hlt g (by rw [hv]; rfl)⟩
    cases ha
    have q : ∀ (k : Nat) (u : Value), k < 7 → (smpCs l[i])[k]? = some u → w.cell? ⟨g, 0 + i * 7 + k, none⟩ = some u := fun k u hk hu => by
      have := h.cells (g := g) (by rw [hv]; rfl) (i * 7 + k) u (by rw [show smpRw l = l.flatMap smpCs from rfl, flatR_at smpCs 7 (fun _ => rfl) l i k hi hk]; exact hu)
      rw [add_off] at this; simpa [Nat.add_assoc] using this
    exact ⟨q 0 _ (by omega) rfl, q 1 _ (by omega) rfl, q 2 _ (by omega) rfl, q 3 _ (by omega) rfl, q 4 _ (by omega) rfl, q 5 _ (by omega) rfl, q 6 _ (by omega) rfl⟩
theorem own_lapsR {w : World} {base : Nat} {v : Value} {l : List LapV} (h : w.ownsRow base 77 3 v l.length (lapRw l)) (hz : ∀ i (h : i < l.length), l[i].name.size ≤ 140737488355328) : ∃ ao cap, v = .slice ao l.length cap ∧ LapsAt w ao l ∧ (∀ a, ao = some a → base ≤ a.block ∧ a.block < w.heap.size) := by
  have hlt := h.lt
  rcases h.2 with ⟨hv, h0⟩ | ⟨g, cap, cur, hv, hb, hg, _⟩
  · have hl : l = [] := List.eq_nil_of_length_eq_zero h0
    subst hl
    exact ⟨none, 0, hv, ⟨fun _ => rfl, fun a h => by simp at h, fun a h => by simp at h, hz⟩, fun a h => by simp at h⟩
  · refine ⟨some ⟨g, 0, none⟩, cap, hv, ⟨fun h => by simp at h, fun a ha _ => by cases ha; rfl, fun a ha i hi => ?_, hz⟩, fun a ha => by cases ha; exact hlt g (by rw [hv]; rfl)⟩
    cases ha
    have q : ∀ (k : Nat) (u : Value), k < 3 → (lapRc l[i])[k]? = some u → w.cell? ⟨g, 0 + i * 3 + k, none⟩ = some u := fun k u hk hu => by
      have := h.cells (g := g) (by rw [hv]; rfl) (i * 3 + k) u (by rw [show lapRw l = l.flatMap lapRc from rfl, flatR_at lapRc 3 (fun _ => rfl) l i k hi hk]; exact hu)
      rw [add_off] at this; simpa [Nat.add_assoc] using this
    exact ⟨q 0 _ (by omega) rfl, q 1 _ (by omega) rfl, q 2 _ (by omega) rfl⟩
theorem own_tags {w : World} {base : Nat} {v : Value} {l : List ByteArray} (h : w.ownsRow base 9 1 v l.length (tagRw l)) (hz : ∀ i (h : i < l.length), l[i].size ≤ 140737488355328) : ∃ ao cap, v = .slice ao l.length cap ∧ TagsAt w ao l ∧ (∀ a, ao = some a → base ≤ a.block ∧ a.block < w.heap.size) := by
  have hlt := h.lt
  rcases h.2 with ⟨hv, h0⟩ | ⟨g, cap, cur, hv, hb, hg, _⟩
  · have hl : l = [] := List.eq_nil_of_length_eq_zero h0
    subst hl
    exact ⟨none, 0, hv, ⟨fun _ => rfl, fun a h => by simp at h, fun a h => by simp at h, hz⟩, fun a h => by simp at h⟩
  · refine ⟨some ⟨g, 0, none⟩, cap, hv, ⟨fun h => by simp at h, fun a ha _ => by cases ha; rfl, fun a ha i hi => ?_, hz⟩, fun a ha => by cases ha; exact hlt g (by rw [hv]; rfl)⟩
    cases ha
    have := h.cells (g := g) (by rw [hv]; rfl) i (.string l[i]) (by unfold tagRw; rw [List.getElem?_map, List.getElem?_eq_getElem hi]; rfl)
    rw [add_off] at this; simpa using this

/-- A value is an activity of this content. -/
def ActIs (w : World) (v : Value) (c : Act) : Prop := ∃ so sc lo lc to_ tc, v = (⟨c.name, c.sport, c.start, so, sc, c.ss, lo, lc, c.ls, to_, tc, c.ts⟩ : Act).val ∧ ActAt w ⟨c.name, c.sport, c.start, so, sc, c.ss, lo, lc, c.ls, to_, tc, c.ts⟩
theorem ActIs.grown {w w' : World} {v : Value} {c : Act} (h : ActIs w v c) (g : w.grownBy w' none) : ActIs w' v c := by
  obtain ⟨so, sc, lo, lc, to_, tc, hv, ha⟩ := h
  exact ⟨so, sc, lo, lc, to_, tc, hv, ha.grown g⟩
theorem ActAt.is {w : World} {a : Act} (h : ActAt w a) : ActIs w a.val a := ⟨a.so, a.sc, a.lo, a.lc, a.to_, a.tc, rfl, h⟩
def act0 : Act := ⟨⟨#[]⟩, 0, 0, none, 0, [], none, 0, [], none, 0, []⟩
theorem act0_at (w : World) : ActAt w act0 := by
  have q : ∀ a : Addr, ¬ ((none : Option Addr) = some a) := fun a h => by simp at h
  refine ⟨by show (0 : Nat) ≤ _; omega, by show ((0 : Nat) : Int) ≤ _; omega, by show ((0 : Nat) : Int) ≤ _; omega, by show ((0 : Nat) : Int) ≤ _; omega, ⟨fun _ => rfl, fun a h => absurd h (q a), fun a h => absurd h (q a)⟩, ⟨fun _ => rfl, fun a h => absurd h (q a), fun a h => absurd h (q a), fun i h => absurd h (Nat.not_lt_zero i)⟩, ⟨fun _ => rfl, fun a h => absurd h (q a), fun a h => absurd h (q a), fun i h => absurd h (Nat.not_lt_zero i)⟩⟩
theorem act0_is (w : World) : ActIs w (.agg #[.string ⟨#[]⟩, .int .i64 0, .int .i64 0, .slice none 0 0, .slice none 0 0, .slice none 0 0]) act0 := (act0_at w).is
end Go.Proofs.Ytgkhhfojioepgaa
namespace Go.Proofs.Ytgkhhfojioepgaa
open Go.RowKit
set_option linter.unusedSimpArgs false
set_option linter.unusedVariables false

/-- Where somebody was at a second. -/
noncomputable def sampV (ss : List Smp) (s : Int) : Smp := atV ss s (idxV ss s)
def cntR (sp step : Int) : Nat := ((sp + step - 1) / step).toNat
noncomputable def resK (ss : List Smp) (step : Int) (k : Nat) : List Smp := (List.range k).map fun (j : Nat) => sampV ss ((j : Int) * step)
theorem resK_zero (ss : List Smp) (step : Int) : resK ss step 0 = [] := rfl
theorem resK_succ (ss : List Smp) (step : Int) (k : Nat) : resK ss step (k + 1) = resK ss step k ++ [sampV ss ((k : Int) * step)] := by
  unfold resK; rw [List.range_succ, List.map_append]; rfl
theorem resK_len (ss : List Smp) (step : Int) (k : Nat) : (resK ss step k).length = k := by unfold resK; simp
theorem cntR_val {sp step : Int} (h0 : 0 ≤ sp) (h1 : 1 ≤ step) : (cntR sp step : Int) = (sp + step - 1) / step := by
  have : 0 ≤ (sp + step - 1) / step := Int.ediv_nonneg (by omega) (by omega)
  unfold cntR; omega
theorem cntR_lt {sp step : Int} (h0 : 0 ≤ sp) (h1 : 1 ≤ step) (k : Nat) : (k : Int) * step < sp ↔ k < cntR sp step := by
  have hv := cntR_val h0 h1
  have h := Int.le_ediv_iff_mul_le (a := (k : Int) + 1) (b := sp + step - 1) (c := step) (by omega)
  rw [← hv] at h
  have e : ((k : Int) + 1) * step = (k : Int) * step + step := by rw [Int.add_mul, Int.one_mul]
  rw [e] at h
  constructor
  · intro q; have := h.2 (by omega); omega
  · intro q; have := h.1 (by omega); omega
theorem span_bd2 {ss : List Smp} (h : SOk ss) : 0 ≤ spanL ss ∧ spanL ss ≤ 1000000 := by
  by_cases h0 : ss.length = 0
  · have e : ss = [] := List.eq_nil_of_length_eq_zero h0
    subst e; exact ⟨Int.le_refl _, by decide⟩
  · rw [span_last h0]
    have := h.inn (ss.length - 1) (by omega)
    omega
noncomputable def resL (ss : List Smp) (step : Int) : List Smp := resK ss step (cntR (spanL ss) step) ++ [sampV ss (spanL ss)]
theorem resL_len (ss : List Smp) (step : Int) : (resL ss step).length = cntR (spanL ss) step + 1 := by unfold resL; simp [resK_len]
open Classical in
/-- What Resample returns: the content of an activity, and an error. -/
noncomputable def resO (a : Act) (step : Int) : Act × Int :=
  if chkE a = 0 then
    if 1 ≤ step ∧ step ≤ 1000000 then
      if (cntR (spanL a.ss) step : Int) + 1 ≤ 20000 then
        if a.ss.length = 0 then (a, 0) else ({ a with ss := resL a.ss step }, 0)
      else (act0, 3)
    else (act0, 9)
  else (act0, chkE a)
end Go.Proofs.Ytgkhhfojioepgaa
