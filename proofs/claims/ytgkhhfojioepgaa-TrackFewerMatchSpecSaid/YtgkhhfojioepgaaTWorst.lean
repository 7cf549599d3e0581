/- The sample between two others that they miss by the most. -/
import Derived.Test.YtgkhhfojioepgaaTMiss
namespace Go.Proofs.Ytgkhhfojioepgaa
open Go.RowKit
set_option linter.unusedSimpArgs false
set_option linter.unusedVariables false

attribute [local go_sem] Oper.semAt_some

/-- The first sample of the greatest miss among the first m behind i, and this miss; (0, 0) if none is missed. -/
noncomputable def wstV (ss : List Smp) (i j : Nat) : Nat → Nat × Int
  | 0 => (0, 0)
  | m + 1 => if (wstV ss i j m).2 < missV (smpD ss i) (smpD ss j) (smpD ss (i + 1 + m)) then (i + 1 + m, missV (smpD ss i) (smpD ss j) (smpD ss (i + 1 + m))) else wstV ss i j m
theorem wst_bd {ss : List Smp} (HS : SOk ss) {i j : Nat} (hj : j < ss.length) : ∀ m, i + 1 + m ≤ j ∨ m = 0 → 0 ≤ (wstV ss i j m).2 ∧ (wstV ss i j m).2 ≤ 80000000000000000 ∧ (wstV ss i j m).1 ≤ j ∧ (0 < (wstV ss i j m).2 → i < (wstV ss i j m).1 ∧ (wstV ss i j m).1 < i + 1 + m ∧ (wstV ss i j m).2 = missV (smpD ss i) (smpD ss j) (smpD ss (wstV ss i j m).1)) ∧ (∀ n, i < n → n < i + 1 + m → missV (smpD ss i) (smpD ss j) (smpD ss n) ≤ (wstV ss i j m).2) ∧ (0 < (wstV ss i j m).2 → ∀ n, i < n → n < (wstV ss i j m).1 → missV (smpD ss i) (smpD ss j) (smpD ss n) < (wstV ss i j m).2)
  | 0, _ => by unfold wstV; exact ⟨by simp, by simp, by simp, fun h => absurd h (by simp), fun n a b => absurd b (by omega), fun h => absurd h (by simp)⟩
  | m + 1, h => by
    have hm : i + 1 + (m + 1) ≤ j := by omega
    obtain ⟨q1, q2, q3, q4, q5, q6⟩ := wst_bd HS (i := i) hj m (Or.inl (by omega))
    have b := miss_bd (smpIn_of HS (show i < ss.length by omega)) (smpIn_of HS hj) (smpIn_of HS (show i + 1 + m < ss.length by omega)) (times_le HS (show i ≤ i + 1 + m by omega) (by omega)) (times_le HS (show i + 1 + m ≤ j by omega) hj) (times_lt HS (show i < j by omega) hj)
    unfold wstV
    split
    · rename_i hlt
      refine ⟨b.1, b.2, by simp only; omega, fun _ => ⟨by simp only; omega, by simp only; omega, rfl⟩, fun n a c => ?_, fun _ n a c => ?_⟩
      · simp only
        rcases Nat.lt_or_ge n (i + 1 + m) with e | e
        · have := q5 n a e; omega
        · obtain rfl : n = i + 1 + m := by omega
          omega
      · simp only at c ⊢
        have := q5 n a c; omega
    · rename_i hlt
      refine ⟨q1, q2, q3, fun h => ?_, fun n a c => ?_, q6⟩
      · obtain ⟨x, y, z⟩ := q4 h
        exact ⟨x, by omega, z⟩
      · rcases Nat.lt_or_ge n (i + 1 + m) with e | e
        · exact q5 n a e
        · obtain rfl : n = i + 1 + m := by omega
          omega

set_option maxRecDepth 100000 in
set_option maxHeartbeats 1600000 in
theorem worst_is (b off cap : Nat) (ss : List Smp) (HS : Hid (SOk ss)) (i j : Nat) (hij : i ≤ j) (hj : j < ss.length) (w : World) (hs : SmpsAt w (some ⟨b, off, none⟩) ss) {A : Nat} {B : Int} (hr : Hid (wstV ss i j (j - 1 - i) = (A, B))) :
    Calls Try.prog 100 #[.slice (some ⟨b, off, none⟩) ss.length cap, .int .i64 (i : Nat), .int .i64 (j : Nat)] w fun e w' => e = .returned (.tuple #[.int .i64 (A : Nat), .int .i64 B]) ∧ w.grownBy w' none := by
  have hl : (ss.length : Int) ≤ 20000 := HS.out.len
  have HA := Lib.hid hs
  have hi : i < ss.length := by omega
  have i1 : (i : Int) < (ss.length : Int) := by omega
  have j1 : (j : Int) < (ss.length : Int) := by omega
  have i2 : (0 : Int) ≤ (i : Int) := by omega
  have j2 : (0 : Int) ≤ (j : Int) := by omega
  clear hs
  go_enter Try.func100, Try.ntmps100
  go_wp2_with fail
  go_loopw [6, 7, 8] (fun av bv iv wr => ∃ (m : Nat) (a : Nat) (f : Int), av = .int .i64 (a : Nat) ∧ bv = .int .i64 f ∧ iv = .int .i64 ((i : Int) + 1 + m) ∧ Hid (i + 1 + m ≤ j ∨ m = 0) ∧ Hid (wstV ss i j m = (a, f)) ∧ Hid (w.grownBy wr none))
    (fun _ _ iv _ => j - (intOf iv).toNat)
  case atStart => exact ⟨0, 0, 0, by go_num, by go_num, by go_num, Or.inr rfl, rfl, grown_refl _ _⟩
  case round =>
    obtain ⟨m, a, f, rfl, rfl, rfl, hmj, hW, hG⟩ := hrel
    have hb := wst_bd HS.out hj m hmj.out
    rw [hW.out] at hb
    obtain ⟨f0, f1, a1, -, -, -⟩ := hb
    simp only at f0 f1 a1
    by_cases hlt : i + 1 + m < j
    · obtain ⟨k, hk0⟩ : ∃ k, i + 1 + m = k := ⟨_, rfl⟩
      have hkI : (i : Int) + 1 + (m : Int) = (k : Int) := by omega
      have hk : k < ss.length := by omega
      have k1 : (k : Int) < (ss.length : Int) := by omega
      have k2 : (0 : Int) ≤ (k : Int) := by omega
      have hik : i < k := by omega
      obtain ⟨v, hv⟩ : ∃ v, missV (smpD ss i) (smpD ss j) (smpD ss k) = v := ⟨_, rfl⟩
      have HMV := Lib.hid hv
      have SR := Lib.hid (HA.out.grown hG.out)
      have HK := Lib.hid hk0
      have hkj : k < j := by omega
      have HLT := Lib.hid hkj
      have hij2 : i < j := by omega
      have hvb := miss_bd (smpIn_of HS.out hi) (smpIn_of HS.out hj) (smpIn_of HS.out hk) (times_le HS.out (Nat.le_of_lt hik) hk) (times_le HS.out (Nat.le_of_lt hkj) hj) (times_lt HS.out hij2 hj)
      rw [hv] at hvb
      have HW2 : Hid (wstV ss i j (m + 1) = if f < v then (k, v) else (a, f)) := by
        show _ = _; rw [wstV, hk0, hv, hW.out]
      have KM : Hid (∀ V : World, Calls Try.prog 145 #[.agg #[.int .i64 (smpD ss i).t, .int .i64 (smpD ss i).x, .int .i64 (smpD ss i).y, .int .i64 (smpD ss i).z, .int .i64 (smpD ss i).p, .int .i64 (smpD ss i).q, .int .i64 (smpD ss i).s], .agg #[.int .i64 (smpD ss j).t, .int .i64 (smpD ss j).x, .int .i64 (smpD ss j).y, .int .i64 (smpD ss j).z, .int .i64 (smpD ss j).p, .int .i64 (smpD ss j).q, .int .i64 (smpD ss j).s], .agg #[.int .i64 (smpD ss k).t, .int .i64 (smpD ss k).x, .int .i64 (smpD ss k).y, .int .i64 (smpD ss k).z, .int .i64 (smpD ss k).p, .int .i64 (smpD ss k).q, .int .i64 (smpD ss k).s]] V fun e w' => e = .returned (.int .i64 v) ∧ V.grownBy w' none) := fun V => miss_is (smpD ss i) (smpD ss j) (smpD ss k) (smpIn_of HS.out hi) (smpIn_of HS.out hj) (smpIn_of HS.out hk) (times_le HS.out (Nat.le_of_lt hik) hk) (times_le HS.out (Nat.le_of_lt hkj) hj) (times_lt HS.out hij2 hj) V HMV
      rw [hkI]
      clear hv hW hk0 hlt
      go_wp2_with fail
      have SD : Hid (SmpsAt wr.drew (some ⟨b, off, none⟩) ss) := SR.out.grown (grown_drewN wr none 1)
      have GD : Hid (w.grownBy wr.drew none) := grown_trans hG.out (grown_drewN wr none 1)
      refine region_late (lateK (fun V => SmpsAt V (some ⟨b, off, none⟩) ss) []) (by kernel_rfl) SD.out (fun hC0 hS0 => ?_)
      clear hG SR
      generalize wr.drew = V1 at *
      refine wpAnyS_take (i := 0) (oi := ?oi1) (v := .slice (some ⟨b, off, none⟩) ss.length cap) ?hi1 (by kernel_rfl) (by kernel_rfl) (by kernel_rfl) (lateK_iff (by rfl)) ?hq1 ?hy1 hC0 hS0 ?rest1
      case hi1 => simp only [List.getElem?_toArray, List.getElem?_cons_succ, List.getElem?_cons_zero, Option.some.injEq]; rfl
      case hq1 => exact fun _ _ _ h => h
      case hy1 =>
        refine Or.inl ⟨by kernel_rfl, fun V hV => ?_⟩
        clear hV
        go_simp
      intro hC1 hS1
      clear hC0 hS0
      try simp only [Go.Act.put, List.setIfInBounds_toArray, List.set_cons_zero, List.set_cons_succ]
      refine wpAnyS_take (i := 1) (oi := ?oi2) (v := .int .i64 (i : Nat)) ?hi2 (by kernel_rfl) (by kernel_rfl) (by kernel_rfl) (lateK_iff (by rfl)) ?hq2 ?hy2 hC1 hS1 ?rest2
      case hi2 => simp only [List.getElem?_toArray, List.getElem?_cons_succ, List.getElem?_cons_zero, Option.some.injEq]; rfl
      case hq2 => exact fun _ _ _ h => h
      case hy2 =>
        refine Or.inl ⟨by kernel_rfl, fun V hV => ?_⟩
        clear hV
        go_simp
      intro hC2 hS2
      clear hC1 hS1
      try simp only [Go.Act.put, List.setIfInBounds_toArray, List.set_cons_zero, List.set_cons_succ]
      refine wpAnyS_take (i := 2) (oi := ?oi3) (v := .pointer (some ⟨b, off + i * 7, none⟩)) ?hi3 (by kernel_rfl) (by kernel_rfl) (by kernel_rfl) (lateK_iff (by rfl)) ?hq3 ?hy3 hC2 hS2 ?rest3
      case hi3 => simp only [List.getElem?_toArray, List.getElem?_cons_succ, List.getElem?_cons_zero, Option.some.injEq]; rfl
      case hq3 => exact fun _ _ _ h => h
      case hy3 =>
        refine Or.inl ⟨by kernel_rfl, fun V hV => ?_⟩
        clear hV
        go_simp
      intro hC3 hS3
      clear hC2 hS2
      try simp only [Go.Act.put, List.setIfInBounds_toArray, List.set_cons_zero, List.set_cons_succ]
      refine wpAnyS_take (i := 3) (oi := ?oi4) (v := .agg #[.int .i64 (smpD ss i).t, .int .i64 (smpD ss i).x, .int .i64 (smpD ss i).y, .int .i64 (smpD ss i).z, .int .i64 (smpD ss i).p, .int .i64 (smpD ss i).q, .int .i64 (smpD ss i).s]) ?hi4 (by kernel_rfl) (by kernel_rfl) (by kernel_rfl) (lateK_iff (by rfl)) ?hq4 ?hy4 hC3 hS3 ?rest4
      case hi4 => simp only [List.getElem?_toArray, List.getElem?_cons_succ, List.getElem?_cons_zero, Option.some.injEq]; rfl
      case hq4 => exact fun _ _ _ h => h
      case hy4 =>
        refine Or.inl ⟨by kernel_rfl, fun V hV => ?_⟩
        obtain ⟨p0, p1, p2, p3, p4, p5, p6⟩ := (lateK_g hV).cells _ rfl i hi; rw [← smpD_at hi] at p0 p1 p2 p3 p4 p5 p6; simp only at p0 p1 p2 p3 p4 p5 p6; clear hV
        go_simp
      intro hC4 hS4
      clear hC3 hS3
      try simp only [Go.Act.put, List.setIfInBounds_toArray, List.set_cons_zero, List.set_cons_succ]
      refine wpAnyS_take (i := 4) (oi := ?oi5) (v := .slice (some ⟨b, off, none⟩) ss.length cap) ?hi5 (by kernel_rfl) (by kernel_rfl) (by kernel_rfl) (lateK_iff (by rfl)) ?hq5 ?hy5 hC4 hS4 ?rest5
      case hi5 => simp only [List.getElem?_toArray, List.getElem?_cons_succ, List.getElem?_cons_zero, Option.some.injEq]; rfl
      case hq5 => exact fun _ _ _ h => h
      case hy5 =>
        refine Or.inl ⟨by kernel_rfl, fun V hV => ?_⟩
        clear hV
        go_simp
      intro hC5 hS5
      clear hC4 hS4
      try simp only [Go.Act.put, List.setIfInBounds_toArray, List.set_cons_zero, List.set_cons_succ]
      refine wpAnyS_take (i := 5) (oi := ?oi6) (v := .int .i64 (j : Nat)) ?hi6 (by kernel_rfl) (by kernel_rfl) (by kernel_rfl) (lateK_iff (by rfl)) ?hq6 ?hy6 hC5 hS5 ?rest6
      case hi6 => simp only [List.getElem?_toArray, List.getElem?_cons_succ, List.getElem?_cons_zero, Option.some.injEq]; rfl
      case hq6 => exact fun _ _ _ h => h
      case hy6 =>
        refine Or.inl ⟨by kernel_rfl, fun V hV => ?_⟩
        clear hV
        go_simp
      intro hC6 hS6
      clear hC5 hS5
      try simp only [Go.Act.put, List.setIfInBounds_toArray, List.set_cons_zero, List.set_cons_succ]
      refine wpAnyS_take (i := 6) (oi := ?oi7) (v := .pointer (some ⟨b, off + j * 7, none⟩)) ?hi7 (by kernel_rfl) (by kernel_rfl) (by kernel_rfl) (lateK_iff (by rfl)) ?hq7 ?hy7 hC6 hS6 ?rest7
      case hi7 => simp only [List.getElem?_toArray, List.getElem?_cons_succ, List.getElem?_cons_zero, Option.some.injEq]; rfl
      case hq7 => exact fun _ _ _ h => h
      case hy7 =>
        refine Or.inl ⟨by kernel_rfl, fun V hV => ?_⟩
        clear hV
        go_simp
      intro hC7 hS7
      clear hC6 hS6
      try simp only [Go.Act.put, List.setIfInBounds_toArray, List.set_cons_zero, List.set_cons_succ]
      refine wpAnyS_take (i := 7) (oi := ?oi8) (v := .agg #[.int .i64 (smpD ss j).t, .int .i64 (smpD ss j).x, .int .i64 (smpD ss j).y, .int .i64 (smpD ss j).z, .int .i64 (smpD ss j).p, .int .i64 (smpD ss j).q, .int .i64 (smpD ss j).s]) ?hi8 (by kernel_rfl) (by kernel_rfl) (by kernel_rfl) (lateK_iff (by rfl)) ?hq8 ?hy8 hC7 hS7 ?rest8
      case hi8 => simp only [List.getElem?_toArray, List.getElem?_cons_succ, List.getElem?_cons_zero, Option.some.injEq]; rfl
      case hq8 => exact fun _ _ _ h => h
      case hy8 =>
        refine Or.inl ⟨by kernel_rfl, fun V hV => ?_⟩
        obtain ⟨q0, q1, q2, q3, q4, q5, q6⟩ := (lateK_g hV).cells _ rfl j hj; rw [← smpD_at hj] at q0 q1 q2 q3 q4 q5 q6; simp only at q0 q1 q2 q3 q4 q5 q6; clear hV
        go_simp
      intro hC8 hS8
      clear hC7 hS7
      try simp only [Go.Act.put, List.setIfInBounds_toArray, List.set_cons_zero, List.set_cons_succ]
      refine wpAnyS_take (i := 8) (oi := ?oi9) (v := .slice (some ⟨b, off, none⟩) ss.length cap) ?hi9 (by kernel_rfl) (by kernel_rfl) (by kernel_rfl) (lateK_iff (by rfl)) ?hq9 ?hy9 hC8 hS8 ?rest9
      case hi9 => simp only [List.getElem?_toArray, List.getElem?_cons_succ, List.getElem?_cons_zero, Option.some.injEq]; rfl
      case hq9 => exact fun _ _ _ h => h
      case hy9 =>
        refine Or.inl ⟨by kernel_rfl, fun V hV => ?_⟩
        clear hV
        go_simp
      intro hC9 hS9
      clear hC8 hS8
      try simp only [Go.Act.put, List.setIfInBounds_toArray, List.set_cons_zero, List.set_cons_succ]
      refine wpAnyS_take (i := 9) (oi := ?oi10) (v := .int .i64 (k : Nat)) ?hi10 (by kernel_rfl) (by kernel_rfl) (by kernel_rfl) (lateK_iff (by rfl)) ?hq10 ?hy10 hC9 hS9 ?rest10
      case hi10 => simp only [List.getElem?_toArray, List.getElem?_cons_succ, List.getElem?_cons_zero, Option.some.injEq]; rfl
      case hq10 => exact fun _ _ _ h => h
      case hy10 =>
        refine Or.inl ⟨by kernel_rfl, fun V hV => ?_⟩
        clear hV
        go_simp
      intro hC10 hS10
      clear hC9 hS9
      try simp only [Go.Act.put, List.setIfInBounds_toArray, List.set_cons_zero, List.set_cons_succ]
      refine wpAnyS_take (i := 10) (oi := ?oi11) (v := .pointer (some ⟨b, off + k * 7, none⟩)) ?hi11 (by kernel_rfl) (by kernel_rfl) (by kernel_rfl) (lateK_iff (by rfl)) ?hq11 ?hy11 hC10 hS10 ?rest11
      case hi11 => simp only [List.getElem?_toArray, List.getElem?_cons_succ, List.getElem?_cons_zero, Option.some.injEq]; rfl
      case hq11 => exact fun _ _ _ h => h
      case hy11 =>
        refine Or.inl ⟨by kernel_rfl, fun V hV => ?_⟩
        clear hV
        go_simp
      intro hC11 hS11
      clear hC10 hS10
      try simp only [Go.Act.put, List.setIfInBounds_toArray, List.set_cons_zero, List.set_cons_succ]
      refine wpAnyS_take (i := 11) (oi := ?oi12) (v := .agg #[.int .i64 (smpD ss k).t, .int .i64 (smpD ss k).x, .int .i64 (smpD ss k).y, .int .i64 (smpD ss k).z, .int .i64 (smpD ss k).p, .int .i64 (smpD ss k).q, .int .i64 (smpD ss k).s]) ?hi12 (by kernel_rfl) (by kernel_rfl) (by kernel_rfl) (lateK_iff (by rfl)) ?hq12 ?hy12 hC11 hS11 ?rest12
      case hi12 => simp only [List.getElem?_toArray, List.getElem?_cons_succ, List.getElem?_cons_zero, Option.some.injEq]; rfl
      case hq12 => exact fun _ _ _ h => h
      case hy12 =>
        refine Or.inl ⟨by kernel_rfl, fun V hV => ?_⟩
        obtain ⟨x0, x1, x2, x3, x4, x5, x6⟩ := (lateK_g hV).cells _ rfl k hk; rw [← smpD_at hk] at x0 x1 x2 x3 x4 x5 x6; simp only at x0 x1 x2 x3 x4 x5 x6; clear hV
        go_simp
      intro hC12 hS12
      clear hC11 hS11
      try simp only [Go.Act.put, List.setIfInBounds_toArray, List.set_cons_zero, List.set_cons_succ]
      refine wpAnyS_ready (rs := [12]) (by kernel_rfl) (by simp) ?_
      refine AllReadyS.cons rfl hC12 (fun K hK => ?_) AllReadyS.nil
      go_simp
      refine (KM.out _).mono ?_
      rintro e w5 ⟨rfl, hg5⟩
      have S5 := Lib.hid (SD.out.grown hg5)
      have G5 := Lib.hid (grown_trans GD.out hg5)
      refine hK.out _ _ S5.out (fun hC13 hS13 => ?_)
      clear hK hC12 hS12 K
      clear hg5 SD GD
      try simp only [Go.Act.put, List.setIfInBounds_toArray, List.set_cons_zero, List.set_cons_succ]
      refine wpAnyS_take (i := 13) (oi := ?oi14) (v := .int .i64 v) ?hi14 (by kernel_rfl) (by kernel_rfl) (by kernel_rfl) (lateK_iff (by rfl)) ?hq14 ?hy14 hC13 hS13 ?rest14
      case hi14 => simp only [List.getElem?_toArray, List.getElem?_cons_succ, List.getElem?_cons_zero, Option.some.injEq]; rfl
      case hq14 => exact fun _ _ _ h => h
      case hy14 =>
        refine Or.inl ⟨by kernel_rfl, fun V hV => ?_⟩
        clear hV
        go_simp
      intro hC14 hS14
      clear hC13 hS13
      try simp only [Go.Act.put, List.setIfInBounds_toArray, List.set_cons_zero, List.set_cons_succ]
      refine wpAnyS_done (by kernel_rfl) ?_ _
      clear hC14 hS14
      clear S5
      by_cases hfv : f < v
      · have HW3 : Hid (wstV ss i j (m + 1) = (k, v)) := by show _ = _; rw [HW2.out, if_pos hfv]
        have gd : decide (f < v) = true := by simp; omega
        clear HW2
        go_wp2_with fail
        go_roundw
        case rel => exact ⟨m + 1, k, v, by go_num, by go_num, by go_num, by have := HLT.out; have := HK.out; show _ ∨ _; omega, HW3, G5⟩
        case measure => have := HLT.out; simp [intOf]; omega
      · have HW3 : Hid (wstV ss i j (m + 1) = (a, f)) := by show _ = _; rw [HW2.out, if_neg hfv]
        have gd : decide (f < v) = false := by simp; omega
        clear HW2
        go_wp2_with fail
        go_roundw
        case rel => exact ⟨m + 1, a, f, by go_num, by go_num, by go_num, by have := HLT.out; have := HK.out; show _ ∨ _; omega, HW3, G5⟩
        case measure => have := HLT.out; simp [intOf]; omega
    · have hmE : m = j - 1 - i := by have := hmj.out; omega
      have hE : (a, f) = (A, B) := by rw [← hW.out, hmE]; exact hr.out
      injection hE with e1 e2
      subst e1 e2
      clear hW hmE
      go_wp2_with fail
      go_ret2
      exact ⟨rfl, hG.out⟩

end Go.Proofs.Ytgkhhfojioepgaa
