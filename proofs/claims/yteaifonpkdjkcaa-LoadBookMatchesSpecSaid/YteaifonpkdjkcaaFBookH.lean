/- The contracts of Ratio, of both sides' books. -/
import Derived.Test.YteaifonpkdjkcaaFBookG
import Derived.Test.YteaifonpkdjkcaaFRatio
namespace Go.Proofs.Yteaifonpkdjkcaa
open Go.RowKit Go.Maps
set_option linter.unusedSimpArgs false
set_option linter.unusedVariables false

/-- Sums of the loads of so many days up to a day; of the first seven, and of all. -/
def sumN (F : Int → Int) (day : Int) : Nat → Int
  | 0 => 0
  | k + 1 => sumN F day k + F (day - k)
theorem sumN_bd {F : Int → Int} (hF : ∀ d, 0 ≤ F d ∧ F d ≤ 10000) (day : Int) : ∀ k : Nat, 0 ≤ sumN F day k ∧ sumN F day k ≤ 10000 * k
  | 0 => by simp [sumN]
  | k + 1 => by
    have h := sumN_bd hF day k
    have h2 := hF (day - k)
    unfold sumN
    constructor
    · omega
    · have : (10000 : Int) * ((k + 1 : Nat) : Int) = 10000 * k + 10000 := by omega
      omega
theorem sumN_le {F : Int → Int} (hF : ∀ d, 0 ≤ F d ∧ F d ≤ 10000) (day : Int) : ∀ j k : Nat, j ≤ k → sumN F day j ≤ sumN F day k
  | j, 0, h => by
    obtain rfl : j = 0 := by omega
    exact Int.le_refl _
  | j, k + 1, h => by
    by_cases e : j = k + 1
    · subst e; exact Int.le_refl _
    · have q := sumN_le hF day j k (by omega)
      have h2 := hF (day - k)
      rw [show sumN F day (k + 1) = sumN F day k + F (day - k) from rfl]
      omega
theorem gcd_one {Q S : Int} (hS : 1 ≤ S) : 1 ≤ S.tdiv (gcdI (Q * 4) S) := by
  have hG := gcdI_pos (num := Q * 4) hS
  have hle : (gcdI (Q * 4) S : Int) ≤ S := by
    unfold gcdI
    have := Nat.gcd_le_right (Q * 4).natAbs (n := S.natAbs) (by omega)
    omega
  rw [Int.tdiv_eq_ediv_of_nonneg (by omega)]
  exact Int.le_ediv_of_mul_le (by omega) (by omega)
/-- What Ratio returns: the ratio's numbers, whether there is one, and the error. -/
structure RatV where
  p : Int
  q : Int
  ok : Bool
  e : Int
def ratV (F : Int → Int) (first day : Int) : RatV :=
  if HasD first day then
    if sumN F day 28 = 0 then ⟨0, 1, false, 0⟩ else ⟨(sumN F day 7 * 4).tdiv (gcdI (sumN F day 7 * 4) (sumN F day 28)), (sumN F day 28).tdiv (gcdI (sumN F day 7 * 4) (sumN F day 28)), true, 0⟩
  else ⟨0, 0, false, 9⟩
theorem sum_eq {F : Int → Int} {day : Int} {k : Nat} {x y z : Int} (h : sumN F day k = x) (h2 : F (day - k) = y) (h3 : x + y = z) : sumN F day (k + 1) = z := by unfold sumN; omega
/-- A ratio in a block of its own. -/
theorem rb_res {w : World} {X : Nat} {a b : Int} (h : RBox w X a b) (p q : Int) : RBox ((w.setCell ⟨X, 0, none⟩ (.int .i64 p)).setCell ⟨X, 1, none⟩ (.int .i64 q)) X p q := h.set p q

set_option maxRecDepth 100000 in
set_option maxHeartbeats 6400000 in
theorem ratio_is {w : World} {B g : Nat} {first f0 g0 : Int} {L : List Int} {ao : Option Addr} {cap : Nat} {F : Int → Int} (h : PBk w B g first f0 g0 L ao cap) (hFL : ∀ d, F d = ldA L (d - first)) (hf : 0 ≤ first ∧ first ≤ 999999) (hF : ∀ d, 0 ≤ F d ∧ F d ≤ 10000) (day : Int) {v : RatV} (hv : Hid (ratV F first day = v)) :
    Calls Try.prog 76 #[.pointer (some ⟨g, 0, none⟩), .int .i64 day] w fun e w' => e = .returned (.tuple #[.agg #[.int .i64 v.p, .int .i64 v.q], .bool v.ok, .int .i64 v.e]) ∧ w.grownBy w' none := by
  have hv2 := hv.out
  unfold ratV at hv2
  have HB0 := Lib.hid h; have HF := Lib.hid hf; have HFB := Lib.hid hF; have HFL := Lib.hid hFL
  have G0 : Hid (w.grownBy (w.alloc (.cells #[.int .i64 0, .int .i64 0] 111)) none) := World.grownBy_alloc w _ none
  have X0 : Hid (RBox (w.alloc (.cells #[.int .i64 0, .int .i64 0] 111)) w.heap.size 0 0) := RBox.new w 0 0
  have H0 := Lib.hid (HB0.out.grown G0.out)
  clear hv h hFL
  by_cases d1 : HasD first day
  · rw [if_pos d1] at hv2
    have D1 := Lib.hid d1
    have hd1 := d1
    unfold HasD at hd1
    have hday : 0 ≤ day ∧ day ≤ 999999 := by omega
    have HDAY := Lib.hid hday
    have HV := Lib.hid hv2
    clear d1 hd1 hv2 hf hF hday
    go_enter Try.func76, Try.ntmps76
    go_wp2_with fail
    refine (has_is H0.out HF.out day).mono ?_; rintro e w1 ⟨rfl, hg1⟩
    simp only [show decide (HasD first day) = true from decide_eq_true D1.out]
    have X1 := Lib.hid (X0.out.grown hg1); have H1 := Lib.hid (H0.out.grown hg1); have G1 := Lib.hid (G0.out.trans hg1)
    clear hg1 X0 H0 G0
    go_wp2_with fail
    go_loopw [7, 8, 17] (fun fv mv iv wr => ∃ (k : Nat), k ≤ 28 ∧ iv = .int .i64 k ∧ fv = .int .i64 (sumN F day (min k 7)) ∧ mv = .int .i64 (sumN F day k) ∧ Hid (RBox wr w.heap.size 0 0) ∧ Hid (PBk wr B g first f0 g0 L ao cap) ∧ Hid (w.grownBy wr none))
      (fun _ _ iv _ => 28 - (intOf iv).toNat)
    case atStart => exact ⟨0, by omega, rfl, rfl, rfl, X1, H1, G1⟩
    case round =>
      clear X1 H1 G1
      obtain ⟨k, hk, rfl, rfl, rfl, hX, hB, hG⟩ := hrel
      have b1 := sumN_bd HFB.out day k
      have b2 := sumN_bd HFB.out day (min k 7)
      by_cases hlt : k < 28
      · obtain ⟨lv, hlv⟩ : ∃ x, F (day - k) = x := ⟨_, rfl⟩
        have HLV := Lib.hid hlv
        have hlb := HFB.out (day - k)
        rw [hlv] at hlb
        obtain ⟨S, hS⟩ : ∃ s, sumN F day k = s := ⟨_, rfl⟩
        obtain ⟨Q, hQ⟩ : ∃ s, sumN F day (min k 7) = s := ⟨_, rfl⟩
        rw [hS] at b1
        rw [hQ] at b2
        simp only [hS, hQ]
        have HN : Hid (sumN F day (k + 1) = S + lv) := sum_eq hS hlv rfl
        have r1 : IntKind.i64.wrap (day - (k : Int)) = day - (k : Int) := IntWalk.i64_in _ (by have := HDAY.out; omega)
        have r2 : IntKind.i64.wrap (S + lv) = S + lv := IntWalk.i64_in _ (by omega)
        have HLT := Lib.hid hlt
        have b23 : (min k 7 : Nat) ≤ 28 := by omega
        have b22 : Q ≤ 280000 := by omega
        by_cases h7 : k < 7
        · have HQN : Hid (sumN F day (min (k + 1) 7) = Q + lv) := by
            have e1 : min k 7 = k := by omega
            have e2 : min (k + 1) 7 = k + 1 := by omega
            rw [e1] at hQ
            show _ = _; rw [e2]; exact sum_eq hQ hlv rfl
          have r3 : IntKind.i64.wrap (Q + lv) = Q + lv := IntWalk.i64_in _ (by omega)
          have g7 : decide ((k : Int) < 7) = true := decide_eq_true (by omega)
          clear hS hQ hlv h7
          go_wp2_with fail
          refine (load_is (v := lv) hB.out HF.out (day - k) (by have := HDAY.out; omega) (Lib.hid (by rw [← HFL.out]; exact HLV.out))).mono ?_; rintro e w2 ⟨rfl, rfl⟩
          go_wp2_with fail
          go_roundw
          case rel => exact ⟨k + 1, HLT.out, by go_num, by rw [HQN.out], by rw [HN.out], hX, hB, hG⟩
          case measure => have := HLT.out; simp [intOf]; omega
        · have HQN : Hid (sumN F day (min (k + 1) 7) = Q) := by
            have e1 : min k 7 = 7 := by omega
            have e2 : min (k + 1) 7 = 7 := by omega
            rw [e1] at hQ
            show _ = _; rw [e2]; exact hQ
          have g7 : decide ((k : Int) < 7) = false := decide_eq_false (by omega)
          clear hS hQ hlv h7
          go_wp2_with fail
          refine (load_is (v := lv) hB.out HF.out (day - k) (by have := HDAY.out; omega) (Lib.hid (by rw [← HFL.out]; exact HLV.out))).mono ?_; rintro e w2 ⟨rfl, rfl⟩
          go_wp2_with fail
          go_roundw
          case rel => exact ⟨k + 1, HLT.out, by go_num, by rw [HQN.out], by rw [HN.out], hX, hB, hG⟩
          case measure => have := HLT.out; simp [intOf]; omega
      · obtain rfl : k = 28 := by omega
        have e7 : sumN F day (min 28 7) = sumN F day 7 := rfl
        rw [e7] at b2 ⊢
        have b3 := sumN_le HFB.out day 7 28 (by omega)
        obtain ⟨S, hS⟩ : ∃ s, sumN F day 28 = s := ⟨_, rfl⟩
        obtain ⟨Q, hQ⟩ : ∃ s, sumN F day 7 = s := ⟨_, rfl⟩
        have hv3 := HV.out
        rw [hS, hQ] at hv3
        rw [hS] at b1 b3
        rw [hQ] at b2 b3
        simp only [hS, hQ]
        clear hS hQ e7
        have c0 := hX.out.c0; have c1 := hX.out.c1; have e0 := hX.out.f 0; have e1 := hX.out.f 1
        have r4 : IntKind.i64.wrap (Q * 4) = Q * 4 := IntWalk.i64_in _ (by omega)
        by_cases hz : S = 0
        · rw [if_pos hz] at hv3
          have HV3 := Lib.hid hv3
          subst hz
          obtain rfl : Q = 0 := by omega
          clear hv3 c0 c1 e0 e1
          go_wp2_with fail
          refine (ratioOf_zero 0 _).mono ?_; rintro e w3 ⟨rfl, hg3⟩
          have X3 := Lib.hid (hX.out.grown hg3); have G3 := Lib.hid (hG.out.trans hg3)
          have X4 := Lib.hid (X3.out.grown (World.grownBy_alloc w3 (.cells #[.int .i64 0, .int .i64 0] 111) none)); have G4 := Lib.hid (G3.out.trans (World.grownBy_alloc w3 (.cells #[.int .i64 0, .int .i64 0] 111) none))
          clear hg3 X3 G3 hX hG
          have c0 := X4.out.c0; have c1 := X4.out.c1; have e0 := X4.out.f 0; have e1 := X4.out.f 1
          go_wp2_with fail
          have r2 := X4.out.set 0 1
          have r20 := r2.c0; have r21 := r2.c1
          refine bodyPost_ret (v := .tuple #[.agg #[.int .i64 0, .int .i64 1], .bool false, .int .i64 0]) (by simp [results, Try.results76, go_sem, c0, c1, r20, r21]) rfl ⟨?_, egrown_set (egrown_set G4.out (Nat.le_refl _) _ _) (Nat.le_refl _) _ _⟩
          rw [← HV3.out]
        · rw [if_neg hz] at hv3
          have hS1 : 1 ≤ S := by omega
          have hq1 := gcd_one (Q := Q) hS1
          obtain ⟨p, hp⟩ : ∃ p, (Q * 4).tdiv (gcdI (Q * 4) S) = p := ⟨_, rfl⟩
          obtain ⟨q, hq⟩ : ∃ q, S.tdiv (gcdI (Q * 4) S) = q := ⟨_, rfl⟩
          rw [hp, hq] at hv3
          rw [hq] at hq1
          have HV3 := Lib.hid hv3; have HP := Lib.hid hp; have HQ := Lib.hid hq
          have gq : (q == 0) = false := beq_eq_false_iff_ne.2 (by omega)
          have gq2 : ¬ q = 0 := by omega
          clear hv3 c0 c1 e0 e1 hp hq
          go_wp2_with fail
          refine (ratioOf_is (Q * 4) S (by omega) (by omega) hS1 (by omega) _ HP HQ).mono ?_; rintro e w3 ⟨rfl, hg3⟩
          have X3 := Lib.hid (hX.out.grown hg3); have G3 := Lib.hid (hG.out.trans hg3)
          have X4 := Lib.hid (X3.out.grown (World.grownBy_alloc w3 (.cells #[.int .i64 p, .int .i64 q] 111) none)); have G4 := Lib.hid (G3.out.trans (World.grownBy_alloc w3 (.cells #[.int .i64 p, .int .i64 q] 111) none))
          clear hg3 X3 G3 hX hG
          have c0 := X4.out.c0; have c1 := X4.out.c1; have e0 := X4.out.f 0; have e1 := X4.out.f 1
          go_wp2_with fail
          have r2 := X4.out.set p q
          have r20 := r2.c0; have r21 := r2.c1
          refine bodyPost_ret (v := .tuple #[.agg #[.int .i64 p, .int .i64 q], .bool true, .int .i64 0]) (by simp [results, Try.results76, go_sem, c0, c1, r20, r21]) rfl ⟨?_, egrown_set (egrown_set G4.out (Nat.le_refl _) _ _) (Nat.le_refl _) _ _⟩
          rw [← HV3.out]
  · rw [if_neg d1] at hv2
    have D1 := Lib.hid d1
    have HV := Lib.hid hv2
    clear d1 hv2 hf hF
    go_enter Try.func76, Try.ntmps76
    go_wp2_with fail
    refine (has_is H0.out HF.out day).mono ?_; rintro e w1 ⟨rfl, hg1⟩
    simp only [show decide (HasD first day) = false from decide_eq_false D1.out]
    have X1 := Lib.hid (X0.out.grown hg1); have G1 := Lib.hid (G0.out.trans hg1)
    clear hg1 X0 H0 G0
    have c0 := X1.out.c0; have c1 := X1.out.c1; have e0 := X1.out.f 0; have e1 := X1.out.f 1
    go_wp2_with fail
    have r2 := X1.out.set 0 0
    have r20 := r2.c0; have r21 := r2.c1
    refine bodyPost_ret (v := .tuple #[.agg #[.int .i64 0, .int .i64 0], .bool false, .int .i64 9]) (by simp [results, Try.results76, go_sem, c0, c1, r20, r21]) rfl ⟨?_, egrown_set (egrown_set G1.out (Nat.le_refl _) _ _) (Nat.le_refl _) _ _⟩
    rw [← HV.out]

set_option maxRecDepth 100000 in
set_option maxHeartbeats 6400000 in
theorem rRatioB_is {w : World} {B rb bm n : Nat} {first f0 g0 : Int} {F : Int → Int} (h : RBk w B rb bm n first f0 g0 F) (hf : 0 ≤ first ∧ first ≤ 999999) (hF : ∀ d, 0 ≤ F d ∧ F d ≤ 10000) (day : Int) {v : RatV} (hv : Hid (ratV F first day = v)) :
    Calls Try.prog 77 #[.pointer (some ⟨rb, 0, none⟩), .int .i64 day] w fun e w' => e = .returned (.tuple #[.agg #[.int .i64 v.p, .int .i64 v.q], .bool v.ok, .int .i64 v.e]) ∧ w.grownBy w' none := by
  have hv2 := hv.out
  unfold ratV at hv2
  have HB0 := Lib.hid h; have HF := Lib.hid hf; have HFB := Lib.hid hF
  have G0 : Hid (w.grownBy (w.alloc (.cells #[.int .i64 0, .int .i64 0] 111)) none) := World.grownBy_alloc w _ none
  have X0 : Hid (RBox (w.alloc (.cells #[.int .i64 0, .int .i64 0] 111)) w.heap.size 0 0) := RBox.new w 0 0
  have H0 := Lib.hid (HB0.out.grown G0.out)
  clear hv h
  by_cases d1 : HasD first day
  · rw [if_pos d1] at hv2
    have D1 := Lib.hid d1
    have hd1 := d1
    unfold HasD at hd1
    have hday : 0 ≤ day ∧ day ≤ 999999 := by omega
    have HDAY := Lib.hid hday
    have HV := Lib.hid hv2
    clear d1 hd1 hv2 hf hF hday
    go_enter Try.func77, Try.ntmps77
    go_wp2_with fail
    refine (dayFault_is H0.out HF.out day (Lib.hid (if_pos D1.out : (if HasD first day then (0 : Int) else 9) = 0))).mono ?_; rintro e w1 ⟨rfl, hg1⟩
    have X1 := Lib.hid (X0.out.grown hg1); have H1 := Lib.hid (H0.out.grown hg1); have G1 := Lib.hid (G0.out.trans hg1)
    clear hg1 X0 H0 G0
    go_wp2_with fail
    go_loopw [8, 9, 18] (fun fv mv iv wr => ∃ (k : Nat), k ≤ 28 ∧ iv = .int .i64 k ∧ fv = .int .i64 (sumN F day (min k 7)) ∧ mv = .int .i64 (sumN F day k) ∧ Hid (RBox wr w.heap.size 0 0) ∧ Hid (RBk wr B rb bm n first f0 g0 F) ∧ Hid (w.grownBy wr none))
      (fun _ _ iv _ => 28 - (intOf iv).toNat)
    case atStart => exact ⟨0, by omega, rfl, rfl, rfl, X1, H1, G1⟩
    case round =>
      clear X1 H1 G1
      obtain ⟨k, hk, rfl, rfl, rfl, hX, hB, hG⟩ := hrel
      have b1 := sumN_bd HFB.out day k
      have b2 := sumN_bd HFB.out day (min k 7)
      by_cases hlt : k < 28
      · obtain ⟨lv, hlv⟩ : ∃ x, F (day - k) = x := ⟨_, rfl⟩
        have HLV := Lib.hid hlv
        have hlb := HFB.out (day - k)
        rw [hlv] at hlb
        obtain ⟨S, hS⟩ : ∃ s, sumN F day k = s := ⟨_, rfl⟩
        obtain ⟨Q, hQ⟩ : ∃ s, sumN F day (min k 7) = s := ⟨_, rfl⟩
        rw [hS] at b1
        rw [hQ] at b2
        simp only [hS, hQ]
        have HN : Hid (sumN F day (k + 1) = S + lv) := sum_eq hS hlv rfl
        have r1 : IntKind.i64.wrap (day - (k : Int)) = day - (k : Int) := IntWalk.i64_in _ (by have := HDAY.out; omega)
        have r2 : IntKind.i64.wrap (S + lv) = S + lv := IntWalk.i64_in _ (by omega)
        have HLT := Lib.hid hlt
        have b23 : (min k 7 : Nat) ≤ 28 := by omega
        have b22 : Q ≤ 280000 := by omega
        have c3 := blk_cell hB.out.r 3 _ rfl
        have HWF : Hid ((Lit.int .i64 (day - (k : Int))).wf = true) := wf_of (by have := HDAY.out; omega)
        obtain ⟨D, hm1, _, hD1⟩ := hB.out.m
        have MK := Lib.hid hm1
        have HDK : Hid (D.atKey (.int .i64 (day - (k : Int))) (.lit (.int .i64 0)) = .lit (.int .i64 lv)) := by show _ = _; rw [← HLV.out]; exact hD1 _ HWF.out
        clear hm1 hD1
        by_cases h7 : k < 7
        · have HQN : Hid (sumN F day (min (k + 1) 7) = Q + lv) := by
            have e1 : min k 7 = k := by omega
            have e2 : min (k + 1) 7 = k + 1 := by omega
            rw [e1] at hQ
            show _ = _; rw [e2]; exact sum_eq hQ hlv rfl
          have r3 : IntKind.i64.wrap (Q + lv) = Q + lv := IntWalk.i64_in _ (by omega)
          have g7 : decide ((k : Int) < 7) = true := decide_eq_true (by omega)
          clear hS hQ hlv h7
          go_wp2_with (at_lookup; go_loud (refine wpList_lookup_own_int _ rfl _ _ 170 rfl 3 3 .i64 klaw Try.underlying170 Try.underlying3 (kzero _) bm n _ rfl MK.out _ _ rfl (keyOf_int_mk Try.underlying3 HWF.out) ?_); intro c hat _; obtain rfl := lit_same hat HDK.out; clear hat)
          go_roundw
          case rel => exact ⟨k + 1, HLT.out, by go_num, by rw [HQN.out], by rw [HN.out], hX, hB, hG⟩
          case measure => have := HLT.out; simp [intOf]; omega
        · have HQN : Hid (sumN F day (min (k + 1) 7) = Q) := by
            have e1 : min k 7 = 7 := by omega
            have e2 : min (k + 1) 7 = 7 := by omega
            rw [e1] at hQ
            show _ = _; rw [e2]; exact hQ
          have g7 : decide ((k : Int) < 7) = false := decide_eq_false (by omega)
          clear hS hQ hlv h7
          go_wp2_with (at_lookup; go_loud (refine wpList_lookup_own_int _ rfl _ _ 170 rfl 3 3 .i64 klaw Try.underlying170 Try.underlying3 (kzero _) bm n _ rfl MK.out _ _ rfl (keyOf_int_mk Try.underlying3 HWF.out) ?_); intro c hat _; obtain rfl := lit_same hat HDK.out; clear hat)
          go_roundw
          case rel => exact ⟨k + 1, HLT.out, by go_num, by rw [HQN.out], by rw [HN.out], hX, hB, hG⟩
          case measure => have := HLT.out; simp [intOf]; omega
      · obtain rfl : k = 28 := by omega
        have e7 : sumN F day (min 28 7) = sumN F day 7 := rfl
        rw [e7] at b2 ⊢
        have b3 := sumN_le HFB.out day 7 28 (by omega)
        obtain ⟨S, hS⟩ : ∃ s, sumN F day 28 = s := ⟨_, rfl⟩
        obtain ⟨Q, hQ⟩ : ∃ s, sumN F day 7 = s := ⟨_, rfl⟩
        have hv3 := HV.out
        rw [hS, hQ] at hv3
        rw [hS] at b1 b3
        rw [hQ] at b2 b3
        simp only [hS, hQ]
        clear hS hQ e7
        have c0 := hX.out.c0; have c1 := hX.out.c1; have e0 := hX.out.f 0; have e1 := hX.out.f 1
        have r4 : IntKind.i64.wrap (4 * Q) = Q * 4 := by rw [Int.mul_comm]; exact IntWalk.i64_in _ (by omega)
        by_cases hz : S = 0
        · rw [if_pos hz] at hv3
          have HV3 := Lib.hid hv3
          subst hz
          clear hv3
          go_wp2_with fail
          have r2 := hX.out.set 0 1
          have r20 := r2.c0; have r21 := r2.c1
          refine bodyPost_ret (v := .tuple #[.agg #[.int .i64 0, .int .i64 1], .bool false, .int .i64 0]) (by simp [results, Try.results77, go_sem, c0, c1, r20, r21]) rfl ⟨?_, egrown_set (egrown_set hG.out (Nat.le_refl _) _ _) (Nat.le_refl _) _ _⟩
          rw [← HV3.out]
        · rw [if_neg hz] at hv3
          have hS1 : 1 ≤ S := by omega
          obtain ⟨p, hp⟩ : ∃ p, (Q * 4).tdiv (gcdI (Q * 4) S) = p := ⟨_, rfl⟩
          obtain ⟨q, hq⟩ : ∃ q, S.tdiv (gcdI (Q * 4) S) = q := ⟨_, rfl⟩
          rw [hp, hq] at hv3
          have HV3 := Lib.hid hv3; have HP := Lib.hid hp; have HQ := Lib.hid hq
          have gS : (S == 0) = false := beq_eq_false_iff_ne.2 hz
          clear hv3 c0 c1 e0 e1 hp hq hz
          go_wp2_with fail
          refine (rratio_is (Q * 4) S (by omega) (by omega) hS1 (by omega) _ HP HQ).mono ?_; rintro e w3 ⟨rfl, hg3⟩
          have X4 := Lib.hid (hX.out.grown hg3); have G4 := Lib.hid (hG.out.trans hg3)
          clear hg3 hX hG
          have c0 := X4.out.c0; have c1 := X4.out.c1; have e0 := X4.out.f 0; have e1 := X4.out.f 1
          go_wp2_with fail
          have r2 := X4.out.set p q
          have r20 := r2.c0; have r21 := r2.c1
          refine bodyPost_ret (v := .tuple #[.agg #[.int .i64 p, .int .i64 q], .bool true, .int .i64 0]) (by simp [results, Try.results77, go_sem, c0, c1, r20, r21]) rfl ⟨?_, egrown_set (egrown_set G4.out (Nat.le_refl _) _ _) (Nat.le_refl _) _ _⟩
          rw [← HV3.out]
  · rw [if_neg d1] at hv2
    have D1 := Lib.hid d1
    have HV := Lib.hid hv2
    clear d1 hv2 hf hF
    go_enter Try.func77, Try.ntmps77
    go_wp2_with fail
    refine (dayFault_is H0.out HF.out day (Lib.hid (if_neg D1.out : (if HasD first day then (0 : Int) else 9) = 9))).mono ?_; rintro e w1 ⟨rfl, hg1⟩
    have X1 := Lib.hid (X0.out.grown hg1); have G1 := Lib.hid (G0.out.trans hg1)
    clear hg1 X0 H0 G0
    have c0 := X1.out.c0; have c1 := X1.out.c1; have e0 := X1.out.f 0; have e1 := X1.out.f 1
    go_wp2_with fail
    have r2 := X1.out.set 0 0
    have r20 := r2.c0; have r21 := r2.c1
    refine bodyPost_ret (v := .tuple #[.agg #[.int .i64 0, .int .i64 0], .bool false, .int .i64 9]) (by simp [results, Try.results77, go_sem, c0, c1, r20, r21]) rfl ⟨?_, egrown_set (egrown_set G1.out (Nat.le_refl _) _ _) (Nat.le_refl _) _ _⟩
    rw [← HV.out]

end Go.Proofs.Yteaifonpkdjkcaa
