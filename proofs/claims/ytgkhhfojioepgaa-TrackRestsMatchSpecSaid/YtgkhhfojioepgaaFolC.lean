/- Texts that all laws of this seat use, one behind the other. -/
import Derived.Test.YtgkhhfojioepgaaFolB
import Derived.Test.YtgkhhfojioepgaaFolA
import Derived.Deep.RegionHeld3
import Derived.Test.YtgkhhfojioepgaaBaseA
import Derived.Deep.DeepCutAuto
import Derived.Deep.CutBlock
import Derived.Deep.AppendLies
namespace Go.Proofs.Ytgkhhfojioepgaa
open Go.RowKit
set_option linter.unusedSimpArgs false
set_option linter.unusedVariables false

theorem wayN_up {ss : List Smp} (hp : ∀ x ∈ ss, inPlane x) (k : Nat) : wayN ss k ≤ wayN ss (k + 1) := by
  have := stepW_bd (smpD_plane hp k) (smpD_plane hp (k + 1))
  show wayN ss k ≤ wayN ss k + stepW (smpD ss k) (smpD ss (k + 1)); omega
/-- How many splits there are up to a sample. -/
noncomputable def cntN (ss : List Smp) (way : Int) (k : Nat) : Nat := (wayN ss k / way).toNat
theorem cnt_iff {ss : List Smp} (hp : ∀ x ∈ ss, inPlane x) {way : Int} (hw : 1 ≤ way) (k j : Nat) : j < cntN ss way k ↔ ((j : Int) + 1) * way ≤ wayN ss k := by
  have h0 := (wayN_bd hp k).1
  have h1 : 0 ≤ wayN ss k / way := Int.ediv_nonneg h0 (by omega)
  unfold cntN
  rw [← Int.le_ediv_iff_mul_le (by omega : 0 < way)]
  omega
theorem cnt_up {ss : List Smp} (hp : ∀ x ∈ ss, inPlane x) {way : Int} (hw : 1 ≤ way) (k : Nat) : cntN ss way k ≤ cntN ss way (k + 1) := by
  rcases Nat.lt_or_ge (cntN ss way (k + 1)) (cntN ss way k) with h | h
  · have q := (cnt_iff hp hw k _).1 h
    have := (cnt_iff hp hw (k + 1) _).2 (Int.le_trans q (wayN_up hp k))
    omega
  · exact h
theorem cnt_mono {ss : List Smp} (hp : ∀ x ∈ ss, inPlane x) {way : Int} (hw : 1 ≤ way) {a b : Nat} (h : a ≤ b) : cntN ss way a ≤ cntN ss way b := by
  induction h with
  | refl => exact Nat.le_refl _
  | step _ ih => exact Nat.le_trans ih (cnt_up hp hw _)
theorem cnt_zero (ss : List Smp) (way : Int) : cntN ss way 0 = 0 := by unfold cntN wayN; simp

/-- When a way was gone within a step: thousandths of a second. -/
noncomputable def atD (ss : List Smp) (i : Nat) (d : Int) : Int := 1000 * (smpD ss i).t + (scaleV (d - wayN ss i) (1000 * ((smpD ss (i + 1)).t - (smpD ss i).t)) (wayN ss (i + 1) - wayN ss i) 2).1
/-- The first step from one on at whose end there are more than so many splits. -/
def stepOf (c : Nat → Nat) (j : Nat) : Nat → Nat → Nat
  | 0, i => i
  | f + 1, i => if j < c (i + 1) then i else stepOf c j f (i + 1)
theorem stepOf_is (c : Nat → Nat) (j k : Nat) (hk : j < c (k + 1)) : ∀ (f i : Nat), i ≤ k → k < i + f → (∀ i', i ≤ i' → i' < k → ¬ j < c (i' + 1)) → stepOf c j f i = k
  | 0, i, h1, h2, _ => by omega
  | f + 1, i, h1, h2, h3 => by
    rw [stepOf]
    by_cases e : i = k
    · subst e; rw [if_pos hk]
    · rw [if_neg (h3 i (Nat.le_refl _) (by omega))]
      exact stepOf_is c j k hk f (i + 1) (by omega) (by omega) (fun i' a b => h3 i' (by omega) b)
/-- A split. -/
noncomputable def spl (ss : List Smp) (way : Int) (j : Nat) : Int × Int := (((j : Int) + 1) * way, atD ss (stepOf (cntN ss way) j ss.length 0) (((j : Int) + 1) * way))
theorem spl_at {ss : List Smp} (hp : ∀ x ∈ ss, inPlane x) {way : Int} (hw : 1 ≤ way) {k j : Nat} (hk : k + 1 < ss.length) (h1 : cntN ss way k ≤ j) (h2 : j < cntN ss way (k + 1)) : spl ss way j = (((j : Int) + 1) * way, atD ss k (((j : Int) + 1) * way)) := by
  unfold spl
  rw [stepOf_is (cntN ss way) j k h2 ss.length 0 (Nat.zero_le _) (by omega) (fun i' _ h => by
    have := cnt_mono hp hw (a := i' + 1) (b := k) (by omega)
    omega)]
def splCs (x : Int × Int) : List Value := [.int .i64 x.1, .int .i64 x.2]
noncomputable def splVs (ss : List Smp) (way : Int) (n : Nat) : List Value := (List.range n).flatMap fun j => splCs (spl ss way j)
theorem splVs_succ (ss : List Smp) (way : Int) (n : Nat) : splVs ss way (n + 1) = splVs ss way n ++ splCs (spl ss way n) := by simp [splVs, List.range_succ]

/-- What Splits returns: how many, and the error. -/
noncomputable def splitsE (a : Act) (way : Int) : Nat × Int :=
  if chkE a = 0 then (if 1 ≤ way ∧ way ≤ 1000000000 then (if cntN a.ss way (a.ss.length - 1) ≤ 10000 then (cntN a.ss way (a.ss.length - 1), 0) else (0, 3)) else (0, 9)) else (0, chkE a)

/-- A split lies within its step. -/
theorem scale_up {a num den : Int} (h0 : 0 ≤ a) (h1 : a ≤ den) (hd : 1 ≤ den) (hn0 : 0 ≤ num) (hn : num ≤ 1000000000) : 0 ≤ (scaleV a num den 2).1 ∧ (scaleV a num den 2).1 ≤ num ∧ (scaleV a num den 2).2 = 0 ∧ (scaleV a num den 2).1 = -(-(a * num) / den) := by
  have hm : a * num ≤ den * num := Int.mul_le_mul_of_nonneg_right h1 hn0
  have hp : 0 ≤ a * num := Int.mul_nonneg h0 hn0
  have q1 : -(den * num) / den ≤ -(a * num) / den := Int.ediv_le_ediv (by omega) (by omega)
  have q2 : -(den * num) / den = -num := by rw [← Int.mul_neg, Int.mul_ediv_cancel_left _ (by omega)]
  have q3 : -(a * num) / den ≤ 0 := by
    have := Int.ediv_le_ediv (c := den) (by omega) (show -(a * num) ≤ 0 by omega)
    simpa using this
  have e : rndV 2 (a * num) den = -(-(a * num) / den) := by
    unfold rndV upB
    by_cases hz : (a * num) % den = 0
    · have := (neg_div_of (a * num) den (by omega) hz).1
      rw [this, hz]; simp
    · have := (neg_div_of' (a * num) den (by omega) hz).1
      have hpos := Int.emod_nonneg (a * num) (show den ≠ 0 by omega)
      rw [this]
      simp only [show ¬ (2 : Int) = 1 by decide, if_false, if_true, decide_eq_true_eq]
      rw [if_pos (by omega)]; omega
  have e2 : scaleV a num den 2 = (-(-(a * num) / den), 0) := by
    unfold scaleV big
    rw [if_neg (by omega), if_neg (by omega), e, if_neg (by omega)]
  rw [e2]
  exact ⟨by simp only; omega, by simp only; omega, rfl, rfl⟩
end Go.Proofs.Ytgkhhfojioepgaa
namespace Go.Proofs.Ytgkhhfojioepgaa
open Go.RowKit
set_option linter.unusedSimpArgs false
set_option linter.unusedVariables false

theorem spl_step {ss : List Smp} {way : Int} : ∀ (m j : Nat), j < cntN ss way m → ∃ k, k < m ∧ cntN ss way k ≤ j ∧ j < cntN ss way (k + 1)
  | 0, j, h => by rw [cnt_zero] at h; omega
  | m + 1, j, h => by
    rcases Nat.lt_or_ge j (cntN ss way m) with q | q
    · obtain ⟨k, a, b⟩ := spl_step m j q
      exact ⟨k, by omega, b⟩
    · exact ⟨m, by omega, q, h⟩
section
variable {ss : List Smp} (hp : ∀ x ∈ ss, inPlane x) {way : Int} (hw : 1 ≤ way)
include hp hw
theorem spl_in {k j : Nat} (h1 : cntN ss way k ≤ j) (h2 : j < cntN ss way (k + 1)) : wayN ss k < ((j : Int) + 1) * way ∧ ((j : Int) + 1) * way ≤ wayN ss (k + 1) := by
  refine ⟨?_, (cnt_iff hp hw (k + 1) j).1 h2⟩
  rcases Int.lt_or_le (wayN ss k) (((j : Int) + 1) * way) with q | q
  · exact q
  · have := (cnt_iff hp hw k j).2 q; omega
/-- Where in its step a split lies. -/
theorem spl_scale {k j : Nat} (h1 : cntN ss way k ≤ j) (h2 : j < cntN ss way (k + 1)) (ht0 : (smpD ss k).t ≤ (smpD ss (k + 1)).t) (ht1 : (smpD ss (k + 1)).t - (smpD ss k).t ≤ 1000000) :
    0 ≤ (scaleV (((j : Int) + 1) * way - wayN ss k) (1000 * ((smpD ss (k + 1)).t - (smpD ss k).t)) (wayN ss (k + 1) - wayN ss k) 2).1 ∧ (scaleV (((j : Int) + 1) * way - wayN ss k) (1000 * ((smpD ss (k + 1)).t - (smpD ss k).t)) (wayN ss (k + 1) - wayN ss k) 2).1 ≤ 1000 * ((smpD ss (k + 1)).t - (smpD ss k).t) ∧ (scaleV (((j : Int) + 1) * way - wayN ss k) (1000 * ((smpD ss (k + 1)).t - (smpD ss k).t)) (wayN ss (k + 1) - wayN ss k) 2).2 = 0 ∧ (scaleV (((j : Int) + 1) * way - wayN ss k) (1000 * ((smpD ss (k + 1)).t - (smpD ss k).t)) (wayN ss (k + 1) - wayN ss k) 2).1 = -(-((((j : Int) + 1) * way - wayN ss k) * (1000 * ((smpD ss (k + 1)).t - (smpD ss k).t))) / (wayN ss (k + 1) - wayN ss k)) := by
  obtain ⟨a, b⟩ := spl_in hp hw h1 h2
  exact scale_up (by omega) (by omega) (by omega) (by omega) (by omega)
theorem spl_bd {k j : Nat} (hk : k + 1 < ss.length) (h1 : cntN ss way k ≤ j) (h2 : j < cntN ss way (k + 1)) (ht0 : (smpD ss k).t ≤ (smpD ss (k + 1)).t) (ht1 : (smpD ss (k + 1)).t - (smpD ss k).t ≤ 1000000) :
    1000 * (smpD ss k).t ≤ (spl ss way j).2 ∧ (spl ss way j).2 ≤ 1000 * (smpD ss (k + 1)).t := by
  have q := spl_scale hp hw h1 h2 ht0 ht1
  rw [spl_at hp hw hk h1 h2]
  unfold atD
  simp only
  omega
/-- Within a step a later split is not earlier. -/
theorem spl_up {k i j : Nat} (hk : k + 1 < ss.length) (hij : i ≤ j) (h1 : cntN ss way k ≤ i) (h2 : j < cntN ss way (k + 1)) (ht0 : (smpD ss k).t ≤ (smpD ss (k + 1)).t) (ht1 : (smpD ss (k + 1)).t - (smpD ss k).t ≤ 1000000) :
    (spl ss way i).2 ≤ (spl ss way j).2 := by
  have q := (spl_scale hp hw h1 (by omega : i < cntN ss way (k + 1)) ht0 ht1).2.2.2
  have r := (spl_scale hp hw (by omega : cntN ss way k ≤ j) h2 ht0 ht1).2.2.2
  obtain ⟨a, b⟩ := spl_in hp hw h1 (by omega : i < cntN ss way (k + 1))
  rw [spl_at hp hw hk h1 (by omega), spl_at hp hw hk (by omega) h2]
  unfold atD
  simp only
  rw [q, r]
  have hm : ((i : Int) + 1) * way ≤ ((j : Int) + 1) * way := Int.mul_le_mul_of_nonneg_right (by omega) (by omega)
  have hd : 0 < wayN ss (k + 1) - wayN ss k := by omega
  generalize wayN ss (k + 1) - wayN ss k = den at *
  have hn : 0 ≤ 1000 * ((smpD ss (k + 1)).t - (smpD ss k).t) := by omega
  generalize 1000 * ((smpD ss (k + 1)).t - (smpD ss k).t) = num at *
  have h3 : (((i : Int) + 1) * way - wayN ss k) * num ≤ (((j : Int) + 1) * way - wayN ss k) * num := Int.mul_le_mul_of_nonneg_right (by omega) hn
  have h4 := Int.ediv_le_ediv hd (show -((((j : Int) + 1) * way - wayN ss k) * num) ≤ -((((i : Int) + 1) * way - wayN ss k) * num) by omega)
  omega
end
/-- Of the splits of an activity a later one is not earlier, and none is behind the end. -/
theorem spl_rise {ss : List Smp} (hp : ∀ x ∈ ss, inPlane x) {way : Int} (hw : 1 ≤ way) (ht : ∀ i, i + 1 < ss.length → (smpD ss i).t < (smpD ss (i + 1)).t) (hb : ∀ i, i < ss.length → 0 ≤ (smpD ss i).t ∧ (smpD ss i).t ≤ 1000000) {j : Nat} (hj : j < cntN ss way (ss.length - 1)) :
    0 ≤ (spl ss way j).2 ∧ (spl ss way j).2 ≤ 1000 * (smpD ss (ss.length - 1)).t ∧ (∀ i, i + 1 = j → (spl ss way i).2 ≤ (spl ss way j).2) := by
  have hmono : ∀ (b a : Nat), a ≤ b → b < ss.length → (smpD ss a).t ≤ (smpD ss b).t := fun b => by
    induction b with
    | zero => intro a h _; obtain rfl : a = 0 := (by omega); exact Int.le_refl _
    | succ b ih =>
      intro a h hl
      rcases Nat.lt_or_ge a (b + 1) with q | q
      · have := ih a (by omega) (by omega); have := ht b hl; omega
      · obtain rfl : a = b + 1 := by omega
        exact Int.le_refl _
  obtain ⟨k, hk, h1, h2⟩ := spl_step _ j hj
  have hkl : k + 1 < ss.length := by omega
  have t0 := ht k hkl
  have b0 := hb k (by omega); have b1 := hb (k + 1) hkl
  have q := spl_bd hp hw hkl h1 h2 (by omega) (by omega)
  have hm := hmono (ss.length - 1) (k + 1) (by omega) (by omega)
  refine ⟨by omega, by omega, fun i hi => ?_⟩
  obtain ⟨k', hk', g1, g2⟩ := spl_step _ i (show i < cntN ss way (ss.length - 1) by omega)
  rcases Nat.lt_or_ge k' k with r | r
  · have t1 := ht k' (by omega)
    have c0 := hb k' (by omega); have c1 := hb (k' + 1) (by omega)
    have p := spl_bd hp hw (show k' + 1 < ss.length by omega) g1 g2 (by omega) (by omega)
    have := hmono k (k' + 1) (by omega) (by omega)
    omega
  · rcases Nat.lt_or_ge k k' with s | s
    · have := cnt_mono hp hw (a := k + 1) (b := k') (by omega)
      omega
    · obtain rfl : k' = k := by omega
      exact spl_up hp hw hkl (by omega) g1 h2 (by omega) (by omega)
end Go.Proofs.Ytgkhhfojioepgaa
namespace Go.Proofs.Ytgkhhfojioepgaa
open Go.RowKit Go.Shelf
set_option linter.unusedSimpArgs false
set_option linter.unusedVariables false

/-- How many splits there are when so far was gone. -/
noncomputable def nP (way g : Int) : Nat := (g / way).toNat
/-- A split within a step. -/
noncomputable def evV (ss : List Smp) (way g : Int) (k j : Nat) : Int × Int := (((j : Int) + 1) * way, 1000 * (smpD ss k).t + (scaleV (((j : Int) + 1) * way - g) (1000 * ((smpD ss (k + 1)).t - (smpD ss k).t)) (stepW (smpD ss k) (smpD ss (k + 1))) 2).1)
noncomputable def evVs (ss : List Smp) (way g : Int) (k n m : Nat) : List Value := (List.range m).flatMap fun i => splCs (evV ss way g k (n + i))
theorem evVs_succ (ss : List Smp) (way g : Int) (k n m : Nat) : evVs ss way g k n (m + 1) = evVs ss way g k n m ++ splCs (evV ss way g k (n + m)) := by simp [evVs, List.range_succ]
noncomputable def sP (ss : List Smp) (way : Int) (pre : List (StepNo ss)) : Int × List Value :=
  pre.foldl (fun s x => (s.1 + stepW (smpD ss x.1) (smpD ss (x.1 + 1)), s.2 ++ evVs ss way s.1 x.1 (nP way s.1) (nP way (s.1 + stepW (smpD ss x.1) (smpD ss (x.1 + 1))) - nP way s.1))) (0, [])
theorem sP_snoc (ss : List Smp) (way : Int) (pre : List (StepNo ss)) (x : StepNo ss) : sP ss way (pre ++ [x]) = ((sP ss way pre).1 + stepW (smpD ss x.1) (smpD ss (x.1 + 1)), (sP ss way pre).2 ++ evVs ss way (sP ss way pre).1 x.1 (nP way (sP ss way pre).1) (nP way ((sP ss way pre).1 + stepW (smpD ss x.1) (smpD ss (x.1 + 1))) - nP way (sP ss way pre).1)) := by simp [sP]
theorem sP_bd {ss : List Smp} (hp : ∀ x ∈ ss, inPlane x) (way : Int) : ∀ (pre : List (StepNo ss)), 0 ≤ (sP ss way pre).1 ∧ (sP ss way pre).1 ≤ pre.length * 300000000 := by
  intro pre
  induction h : pre.length generalizing pre with
  | zero =>
    have := List.eq_nil_of_length_eq_zero h
    subst this
    simp [sP]
  | succ m ih =>
    rcases List.eq_nil_or_concat pre with rfl | ⟨ini, x, rfl⟩
    · simp at h
    · rw [List.concat_eq_append] at h ⊢
      have := ih ini (by simpa using h)
      have := stepW_bd (smpD_plane hp x.1) (smpD_plane hp (x.1 + 1))
      rw [sP_snoc]
      simp only
      omega
theorem sP_done {ss : List Smp} (hp : ∀ x ∈ ss, inPlane x) {way : Int} (hw : 1 ≤ way) : ∀ (m : Nat) (pre : List (StepNo ss)), pre.map (·.1) = List.range m → sP ss way pre = (wayN ss m, splVs ss way (cntN ss way m)) := by
  intro m
  induction m with
  | zero =>
    intro pre h
    have : pre = [] := List.eq_nil_of_length_eq_zero (by have := congrArg List.length h; rwa [List.length_map, List.length_range] at this)
    subst this
    rw [cnt_zero]
    simp [sP, wayN, splVs]
  | succ m ih =>
    intro pre h
    rcases List.eq_nil_or_concat pre with rfl | ⟨ini, x, rfl⟩
    · have := congrArg List.length h; rw [List.length_map, List.length_range] at this; simp at this
    · rw [List.concat_eq_append] at h ⊢
      rw [List.map_append, List.range_succ] at h
      have hx := List.append_inj_right' h rfl
      have hi := List.append_inj_left' h rfl
      simp only [List.map_cons, List.map_nil, List.cons.injEq, and_true] at hx
      have hxl := x.2
      rw [sP_snoc, ih ini hi, hx]
      rw [hx] at hxl
      simp only
      have hn : ∀ k, nP way (wayN ss k) = cntN ss way k := fun k => rfl
      have hs : wayN ss m + stepW (smpD ss m) (smpD ss (m + 1)) = wayN ss (m + 1) := rfl
      rw [hs, hn, hn]
      have hc := cnt_up hp hw m
      refine Prod.ext rfl ?_
      show splVs ss way (cntN ss way m) ++ evVs ss way (wayN ss m) m (cntN ss way m) (cntN ss way (m + 1) - cntN ss way m) = splVs ss way (cntN ss way (m + 1))
      obtain ⟨d, hd⟩ : ∃ d, cntN ss way (m + 1) = cntN ss way m + d := ⟨cntN ss way (m + 1) - cntN ss way m, by omega⟩
      rw [hd, Nat.add_sub_cancel_left]
      have key : ∀ e, e ≤ d → splVs ss way (cntN ss way m) ++ evVs ss way (wayN ss m) m (cntN ss way m) e = splVs ss way (cntN ss way m + e) := fun e => by
        induction e with
        | zero => intro _; simp [evVs]
        | succ e ihe =>
          intro he
          rw [evVs_succ, ← List.append_assoc, ihe (by omega), show cntN ss way m + (e + 1) = (cntN ss way m + e) + 1 by omega, splVs_succ]
          congr 2
          rw [spl_at hp hw hxl (show cntN ss way m ≤ cntN ss way m + e by omega) (by omega)]
          unfold evV atD
          rw [show wayN ss (m + 1) - wayN ss m = stepW (smpD ss m) (smpD ss (m + 1)) by omega]
      exact key d (Nat.le_refl _)

/-- The boxes of Splits. -/
structure SpB (w : World) (Bl Bg Bn Bs : Nat) (sl : Value) (way gone next : Int) (v : Value) (W : World) : Prop where
  y : Boxed W (w.heap.size + 1) 3 (.int .i64 way)
  r4 : Boxed W (w.heap.size + 2) 62 (.slice none 0 0)
  r5 : Boxed W (w.heap.size + 3) 29 (.int .i64 0)
  l : Boxed W Bl 62 v
  g : Boxed W Bg 3 (.int .i64 gone)
  x : Boxed W Bn 3 (.int .i64 next)
  s : Boxed W Bs 22 sl
  b : Below w.heap.size w W
/-- Where they lie. -/
def SpD (n0 Bl Bg Bn Bs base : Nat) : Prop := n0 + 3 < Bl ∧ Bl < Bg ∧ Bl < Bn ∧ Bg ≠ Bn ∧ Bg < Bs ∧ Bn < Bs ∧ Bs < base
theorem sp_keep {W W' : World} {row : Option Nat} {B base : Nat} {t : TypeId} {v : Value} (h : Boxed W B t v) (hg : W.grownBy W' row) (hB : B < base) (hr : ∀ r, row = some r → base ≤ r) : Boxed W' B t v :=
  (hg.block B (Array.getElem?_eq_some_iff.1 h).1 (fun e => by have := hr B e.symm; omega)).trans h
section
variable {w : World} {Bl Bg Bn Bs base : Nat} {sl : Value} {way gone next : Int} {v : Value} {W W' : World}
theorem SpB.grown (h : SpB w Bl Bg Bn Bs sl way gone next v W) (D : SpD w.heap.size Bl Bg Bn Bs base) {row : Option Nat} (hg : W.grownBy W' row) (hr : ∀ r, row = some r → base ≤ r) : SpB w Bl Bg Bn Bs sl way gone next v W' := by
  obtain ⟨d1, d2, d3, d4, d5, d6, d7⟩ := D
  exact ⟨sp_keep h.y hg (by omega) hr, sp_keep h.r4 hg (by omega) hr, sp_keep h.r5 hg (by omega) hr, sp_keep h.l hg (by omega) hr, sp_keep h.g hg (by omega) hr, sp_keep h.x hg (by omega) hr, sp_keep h.s hg (by omega) hr, h.b.grown hg h.b.size (fun k e => by have := hr k e; omega)⟩
theorem SpB.own (h : SpB w Bl Bg Bn Bs sl way gone next v W) {row : Option Nat} {B : Nat} (hB : w.heap.size ≤ B) (hg : W.grownBy W' row) (hr : ∀ r, row = some r → B ≤ r ∧ ∃ o : Obj, W.heap[r]? = some o ∧ o.isCells = false) : SpB w Bl Bg Bn Bs sl way gone next v W' := by
  have k : ∀ {C : Nat} {t : TypeId} {u : Value}, Boxed W C t u → Boxed W' C t u := fun {C t u} hb => hb.kept hg (fun e => by
    obtain ⟨_, o, ho, hc⟩ := hr C e.symm
    rw [show W.heap[C]? = _ from hb] at ho; cases ho; cases hc)
  exact ⟨k h.y, k h.r4, k h.r5, k h.l, k h.g, k h.x, k h.s, h.b.grown hg h.b.size (fun r e => Nat.le_trans hB (hr r e).1)⟩
theorem SpB.setL (h : SpB w Bl Bg Bn Bs sl way gone next v W) (D : SpD w.heap.size Bl Bg Bn Bs base) (u : Value) : SpB w Bl Bg Bn Bs sl way gone next u (W.setCell ⟨Bl, 0, none⟩ u) := by
  obtain ⟨d1, d2, d3, d4, d5, d6, d7⟩ := D
  refine ⟨h.y.other (by omega) _, h.r4.other (by omega) _, h.r5.other (by omega) _, ?_, h.g.other (by omega) _, h.x.other (by omega) _, h.s.other (by omega) _, h.b.setCell (by show _ ≤ Bl; omega) _⟩
  exact h.l.set u
theorem SpB.setG (h : SpB w Bl Bg Bn Bs sl way gone next v W) (D : SpD w.heap.size Bl Bg Bn Bs base) (u : Int) : SpB w Bl Bg Bn Bs sl way u next v (W.setCell ⟨Bg, 0, none⟩ (.int .i64 u)) := by
  obtain ⟨d1, d2, d3, d4, d5, d6, d7⟩ := D
  refine ⟨h.y.other (by omega) _, h.r4.other (by omega) _, h.r5.other (by omega) _, h.l.other (by omega) _, ?_, h.x.other (by omega) _, h.s.other (by omega) _, h.b.setCell (by show _ ≤ Bg; omega) _⟩
  exact h.g.set _
theorem SpB.setN (h : SpB w Bl Bg Bn Bs sl way gone next v W) (D : SpD w.heap.size Bl Bg Bn Bs base) (u : Int) : SpB w Bl Bg Bn Bs sl way gone u v (W.setCell ⟨Bn, 0, none⟩ (.int .i64 u)) := by
  obtain ⟨d1, d2, d3, d4, d5, d6, d7⟩ := D
  refine ⟨h.y.other (by omega) _, h.r4.other (by omega) _, h.r5.other (by omega) _, h.l.other (by omega) _, h.g.other (by omega) _, ?_, h.s.other (by omega) _, h.b.setCell (by show _ ≤ Bn; omega) _⟩
  exact h.x.set _
end
/-- An own row, kept where a box is set, or where what is no row of cells grows. -/
theorem own_box {w : World} {base : Nat} {e : TypeId} {size n : Nat} {v : Value} {xs : List Value} (h : w.ownsRow base e size v n xs) {B : Nat} (hB : B < base) (u : Value) : (w.setCell ⟨B, 0, none⟩ u).ownsRow base e size v n xs :=
  h.kept (grownBy_setCell' w B u) (by
    by_cases hv : v.ownBlock = none
    · exact .inl hv
    · refine .inr (fun e => ?_)
      have := (h.lt B e).1
      omega)
theorem own_cells {w w' : World} {base : Nat} {e : TypeId} {size n : Nat} {v : Value} {xs : List Value} (h : w.ownsRow base e size v n xs) {row : Option Nat} (hg : w.grownBy w' row) (hr : ∀ r, row = some r → ∃ o : Obj, w.heap[r]? = some o ∧ o.isCells = false) : w'.ownsRow base e size v n xs :=
  h.kept hg (by
    rcases h.2 with ⟨hv, _⟩ | ⟨g, cap, cur, rfl, hb, hgg, rest⟩
    · exact .inl (by rw [hv]; rfl)
    · refine .inr (fun e' => ?_)
      obtain ⟨o, ho, hc⟩ := hr g (by rw [← e']; rfl)
      rw [hgg] at ho; cases ho; cases hc)
/-- The row's block is not a box of another type. -/
theorem own_far {w : World} {base : Nat} {e t : TypeId} {size n : Nat} {v : Value} {xs : List Value} (h : w.ownsRow base e size v n xs) {B : Nat} {cs : Array Value} {f : Nat × Nat} (hB : w.heap[B]? = some (.cells cs t f)) (hne : t ≠ e) : v.ownBlock ≠ some B := fun he => by
  rcases h.2 with ⟨hv, _⟩ | ⟨g, cap, cur, rfl, hb, hgg, rest⟩
  · rw [hv] at he; cases he
  · have : g = B := by simpa [Value.ownBlock] using he
    subst this
    rw [hgg] at hB; cases hB; exact hne rfl

section
variable {P : Program} {ops : Array Oper} {Q : Exit → Go.Act → World → Prop} {md : Region.Mode} {n : Nat}
theorem operIn_wide {o : Oper} {K : Go.Act → World → Prop} {a : Go.Act} {w : World} (hd : ∀ c, o.op ≠ .defer c) (h : o.wp P a w K Q) : o.wpIn Fence.wide n P a w K Q := by
  unfold Oper.wp at h
  unfold Oper.wpIn
  refine ⟨fun _ _ => trivial, ?_⟩
  rw [Oper.semAt_plain _ _ _ hd]
  generalize (execOp a.eval o).run P w = r at *
  cases r with
  | ok x w' =>
    cases x with
    | value v => exact h
    | skip => exact h
    | defer d => exact h
    | enter f args => exact ⟨fun q => by simp [Fence.wide] at q, callsIn_wide.2 h⟩
    | row r args => exact ⟨fun q => by simp [Fence.wide] at q, rowsIn_wide h⟩
    | _ => exact h.elim
  | halt x w' =>
    cases x <;> first | exact h | exact h.elim
theorem opIn_wide {i : Nat} {K : Go.Act → World → Prop} {a : Go.Act} {w : World} (hd : ∀ (j : Nat) (o : Oper), ops[j]? = some o → ∀ c, o.op ≠ .defer c) (hno : ¬ LetsOut Q) (h : wpOp P ops Q i K a w) : wpOpIn Fence.wide n P ops Q i K a w := by
  unfold wpOp at h
  unfold wpOpIn
  cases ho : ops[i]? with
  | none => simpa [ho] using h
  | some o =>
    simp only [ho] at h ⊢
    by_cases hw : Region.wanted o (yielded ops a.tmps) = true
    · rw [if_pos hw] at h ⊢
      rcases h with h | h
      · exact operIn_wide (hd i o ho) h
      · exact absurd h.2 hno
    · rw [if_neg hw] at h ⊢
      exact ⟨fun _ _ => trivial, h⟩
theorem anyIn_wide (hd : ∀ (j : Nat) (o : Oper), ops[j]? = some o → ∀ c, o.op ≠ .defer c) (hno : ¬ LetsOut Q) : ∀ (fuel : Nat) (listed : Array Bool) (a : Go.Act) (w : World), wpAny P md ops Q fuel listed a w → wpAnyIn Fence.wide n P md ops Q fuel listed a w
  | 0, _, _, _, h => h
  | fuel + 1, listed, a, w, h => ⟨h.1, fun i hi => opIn_wide hd hno (wpOp_mono (fun a' w' h' => anyIn_wide hd hno fuel _ a' w' h') (h.2 i hi))⟩
/-- A region outside of rounds, under the wide fence: from the world behind the draw, a condition being kept. -/
theorem region_in_wide {S : World → Prop} {id : Nat} {a : Go.Act} {w : World} (hm : P.follows .mixedOrders = true) (hd : noDefer ops = true) (hno : ¬ LetsOut (NoPanic Q)) (hS : S w.drew)
    (h : S w.drew → wpAnyH P .any ops (NoPanic Q) S ops.size (Array.replicate ops.size false) a w.drew) : (Code.region id ops true).wpIn Fence.wide n P Q a w :=
  Code.wpIn_mono NoPanic.imp (wpIn_region_any hm (anyIn_wide (noDefer_spec hd) hno _ _ _ _ (wpAny_of_held _ _ _ _ (h hS))))
end

/-- The memory of Splits behind its variables. -/
structure Sp0 (w : World) (Bl Bg Bn : Nat) (so : Option Addr) (sn sc : Nat) (way : Int) (W : World) : Prop where
  b3 : W.cell? ⟨w.heap.size, 3, none⟩ = some (.slice so sn sc)
  y : Boxed W (w.heap.size + 1) 3 (.int .i64 way)
  r4 : Boxed W (w.heap.size + 2) 62 (.slice none 0 0)
  r5 : Boxed W (w.heap.size + 3) 29 (.int .i64 0)
  l : Boxed W Bl 62 (.slice none 0 0)
  g : Boxed W Bg 3 (.int .i64 0)
  x : Boxed W Bn 3 (.int .i64 way)
  b : Below w.heap.size w W
  d : w.heap.size + 3 < Bl ∧ Bl < Bg ∧ Bl < Bn ∧ Bg ≠ Bn
theorem sp0_two {w V : World} {Bl : Nat} {so : Option Addr} {sn sc : Nat} {way : Int} (b3 : V.cell? ⟨w.heap.size, 3, none⟩ = some (.slice so sn sc)) (y : Boxed V (w.heap.size + 1) 3 (.int .i64 way)) (r4 : Boxed V (w.heap.size + 2) 62 (.slice none 0 0)) (r5 : Boxed V (w.heap.size + 3) 29 (.int .i64 0)) (l : Boxed V Bl 62 (.slice none 0 0)) (b : Below w.heap.size w V) (d : w.heap.size + 3 < Bl) :
    Sp0 w Bl V.heap.size (V.heap.size + 1) so sn sc way ((V.alloc (.cells #[.int .i64 0] 3)).alloc (.cells #[.int .i64 way] 3)) ∧
    Sp0 w Bl (V.heap.size + 1) V.heap.size so sn sc way ((V.alloc (.cells #[.int .i64 way] 3)).alloc (.cells #[.int .i64 0] 3)) := by
  have hl := l.lt
  have n1 : ∀ (u u' : Int), Boxed ((V.alloc (.cells #[.int .i64 u] 3)).alloc (.cells #[.int .i64 u'] 3)) V.heap.size 3 (.int .i64 u) := fun u u' => (Boxed.new V _ _).alloc _
  have n2 : ∀ (u u' : Int), Boxed ((V.alloc (.cells #[.int .i64 u] 3)).alloc (.cells #[.int .i64 u'] 3)) (V.heap.size + 1) 3 (.int .i64 u') := fun u u' => by
    have := Boxed.new (V.alloc (.cells #[.int .i64 u] 3)) 3 (.int .i64 u')
    simpa using this
  have bb : ∀ (u u' : Int), Below w.heap.size w ((V.alloc (.cells #[.int .i64 u] 3)).alloc (.cells #[.int .i64 u'] 3)) := fun u u' => (b.alloc (by omega : w.heap.size ≤ V.heap.size) _).alloc (by simp; omega) _
  have c3 : ∀ (u u' : Int), ((V.alloc (.cells #[.int .i64 u] 3)).alloc (.cells #[.int .i64 u'] 3)).cell? ⟨w.heap.size, 3, none⟩ = some (.slice so sn sc) := fun u u' => grown_cell (grown_trans (World.grownBy_alloc V _ none) (World.grownBy_alloc _ _ none)) b3
  exact ⟨⟨c3 _ _, (y.alloc _).alloc _, (r4.alloc _).alloc _, (r5.alloc _).alloc _, (l.alloc _).alloc _, n1 _ _, n2 _ _, bb _ _, d, hl, by omega, by omega⟩, ⟨c3 _ _, (y.alloc _).alloc _, (r4.alloc _).alloc _, (r5.alloc _).alloc _, (l.alloc _).alloc _, n2 _ _, n1 _ _, bb _ _, d, by omega, hl, by omega⟩⟩
theorem Sp0.grown {w : World} {Bl Bg Bn : Nat} {so : Option Addr} {sn sc : Nat} {way : Int} {W W' : World} (h : Sp0 w Bl Bg Bn so sn sc way W) (hg : W.grownBy W' none) : Sp0 w Bl Bg Bn so sn sc way W' :=
  ⟨grown_cell hg h.b3, h.y.kept hg (by simp), h.r4.kept hg (by simp), h.r5.kept hg (by simp), h.l.kept hg (by simp), h.g.kept hg (by simp), h.x.kept hg (by simp), h.b.grown hg h.b.size (fun k e => by cases e), h.d⟩

theorem grown_box {w w1 : World} {b : Nat} (h : w.grownBy w1 none) (hb : w.heap.size ≤ b) (v : Value) : w.grownBy (w1.setCell ⟨b, 0, none⟩ v) none :=
  ⟨h.os, h.tape, h.output, Nat.le_trans h.size (by simp [World.setCell]), fun i hi hne => by
    rw [Below.heap_setCell _ _ _ _ (by show i ≠ b; omega)]; exact h.block i hi hne⟩
/-- What a box holds, as a number. -/
def cellI (W : World) (B : Nat) : Int := match W.cell? ⟨B, 0, none⟩ with | some v => intOf v | none => 0
theorem cellI_is {W : World} {B : Nat} {t : TypeId} {n : Int} (h : Boxed W B t (.int .i64 n)) : cellI W B = n := by unfold cellI; rw [h.cell]; rfl
theorem nP_iff {way g : Int} (hw : 1 ≤ way) (hg : 0 ≤ g) (j : Nat) : j < nP way g ↔ ((j : Int) + 1) * way ≤ g := by
  have h1 : 0 ≤ g / way := Int.ediv_nonneg hg (by omega)
  unfold nP
  rw [← Int.le_ediv_iff_mul_le (by omega : 0 < way)]
  omega
theorem nP_zero {way : Int} : nP way 0 = 0 := by unfold nP; simp
theorem nP_up {way g h : Int} (hw : 1 ≤ way) (hg : 0 ≤ g) (hh : g ≤ h) : nP way g ≤ nP way h := by
  rcases Nat.lt_or_ge (nP way h) (nP way g) with q | q
  · have := (nP_iff hw hg _).1 q
    have := (nP_iff hw (by omega) (nP way h)).2 (Int.le_trans this hh)
    omega
  · exact q
/-- The next split's way. -/
def nxW (way : Int) (m : Nat) : Int := ((m : Int) + 1) * way
theorem nxW_bd {way : Int} (h0 : 1 ≤ way) (h1 : way ≤ 1000000000) {m : Nat} (hm : m ≤ 10000) : 1 ≤ nxW way m ∧ nxW way m ≤ 10001000000000 := by
  unfold nxW
  have a : (1 : Int) * 1 ≤ ((m : Int) + 1) * way := Int.mul_le_mul (by omega) h0 (by omega) (by omega)
  have b : ((m : Int) + 1) * way ≤ 10001 * 1000000000 := Int.mul_le_mul (by omega) h1 (by omega) (by omega)
  omega
theorem nxW_succ (way : Int) (m : Nat) : nxW way (m + 1) = nxW way m + way := by
  unfold nxW; push_cast; rw [Int.add_mul _ 1, Int.one_mul]
theorem own_slice {w : World} {base : Nat} {e : TypeId} {size n : Nat} {v : Value} {xs : List Value} (h : w.ownsRow base e size v n xs) : ∃ ao cap, v = .slice ao n cap := by
  rcases h.2 with ⟨hv, h0⟩ | ⟨g, cap, cur, rfl, _⟩
  · exact ⟨none, 0, by rw [hv, h0]⟩
  · exact ⟨_, _, rfl⟩
theorem step_cells {W : World} {ss : List Smp} {k Bx : Nat} {t : TypeId} (h : W.heap[Bx]? = some (.cells (stepC ss k) t (0, 0))) (i : Nat) (v : Value) (hi : (stepC ss k)[i]? = some v) : W.cell? ⟨Bx, i, none⟩ = some v := by
  simp [World.cell?, h, hi]
end Go.Proofs.Ytgkhhfojioepgaa
namespace Go.Proofs.Ytgkhhfojioepgaa
open Go.RowKit Go.Shelf
set_option linter.unusedSimpArgs false
set_option linter.unusedVariables false

attribute [local go_sem] Oper.semAt_some

theorem info_split : (Try.prog.info? 67).map (fun i => (i.zero, i.size, i.bytes)) = some (some (.agg #[.int .i64 0, .int .i64 0]), 2, 16) := by kernel_rfl
theorem seconds_is (k : Int) (p q : Smp) (h : -1000000 ≤ q.t - p.t ∧ q.t - p.t ≤ 1000000) (w : World) :
    Calls Try.prog 70 #[.agg #[.int .i64 k, .int .i64 p.t, .int .i64 p.x, .int .i64 p.y, .int .i64 p.z, .int .i64 p.p, .int .i64 p.q, .int .i64 p.s, .int .i64 q.t, .int .i64 q.x, .int .i64 q.y, .int .i64 q.z, .int .i64 q.p, .int .i64 q.q, .int .i64 q.s]] w fun e w' => e = .returned (.int .i64 (q.t - p.t)) ∧ w.grownBy w' none := by
  have rd : IntKind.i64.wrap (q.t - p.t) = q.t - p.t := IntWalk.i64_in _ (by omega)
  obtain ⟨pt, px, py, pz, pp, pq, ps⟩ := p
  obtain ⟨qt, qx, qy, qz, qp, qq, qs⟩ := q
  simp only at rd ⊢
  go_enter Try.func70, Try.ntmps70
  go_wp2_with fail
  go_ret
  exact ⟨rfl, World.grownBy_alloc _ _ _⟩

set_option maxRecDepth 100000 in
set_option maxHeartbeats 8000000 in
theorem Splits_ok (nm : ByteArray) (sp st : Int) (so : Option Addr) (sc : Nat) (ss : List Smp) (lo : Option Addr) (lc : Nat) (ls : List LapV) (to_ : Option Addr) (tc : Nat) (ts : List ByteArray) (way : Int) (w0 : 1 ≤ way) (w1 : way ≤ 1000000000) (w : World)
    (HA : Hid (ActAt w ⟨nm, sp, st, so, sc, ss, lo, lc, ls, to_, tc, ts⟩)) (HCE : Hid (chkE ⟨nm, sp, st, so, sc, ss, lo, lc, ls, to_, tc, ts⟩ = 0)) (HS : Hid (SOk ss)) (HP : Hid (∀ x ∈ ss, inPlane x)) :
    Calls Try.prog 49 #[.agg #[.string nm, .int .i64 sp, .int .i64 st, .slice so ss.length sc, .slice lo ls.length lc, .slice to_ ts.length tc], .int .i64 way] w fun x w' => (∃ v E n, x = .returned (.tuple #[v, .int .i64 E]) ∧ (n, E) = splitsE ⟨nm, sp, st, so, sc, ss, lo, lc, ls, to_, tc, ts⟩ way ∧ w'.ownsRow w.heap.size 67 2 v n (splVs ss way n)) ∧ w.grownBy w' none := by
  have hl : (ss.length : Int) ≤ 20000 := HS.out.len
  have hll : ss.length ≤ 20000 := by omega
  obtain ⟨i0, hi, hz0, hz1, hz2⟩ := info_parts info_split
  have HI0 := Lib.hid hi; have HZ0 := Lib.hid hz0; have HZ1 := Lib.hid hz1; have HZ2 := Lib.hid hz2
  clear hi hz0 hz1 hz2
  refine (callsIn_wide (n := 4)).1 ?_
  refine callsIn_of_wp_marks Try.func49 rfl trivial ?_ rfl
  simp only [Try.ntmps49, List.size_toArray, List.length_cons, List.length_nil, Nat.reduceAdd, Nat.reduceSub, Array.replicate_succ, Array.replicate_zero, List.push_toArray, List.append_toArray, List.nil_append, List.cons_append]
  have G4 : Hid (w.grownBy ((((w.alloc (.cells #[.string nm, .int .i64 sp, .int .i64 st, .slice so ss.length sc, .slice lo ls.length lc, .slice to_ ts.length tc] 26)).alloc (.cells #[.int .i64 way] 3)).alloc (.cells #[.slice none 0 0] 62)).alloc (.cells #[.int .i64 0] 29)) none) := grown_trans (grown_trans (grown_trans (World.grownBy_alloc _ _ _) (World.grownBy_alloc _ _ _)) (World.grownBy_alloc _ _ _)) (World.grownBy_alloc _ _ _)
  have HM4 : Hid (((((w.alloc (.cells #[.string nm, .int .i64 sp, .int .i64 st, .slice so ss.length sc, .slice lo ls.length lc, .slice to_ ts.length tc] 26)).alloc (.cells #[.int .i64 way] 3)).alloc (.cells #[.slice none 0 0] 62)).alloc (.cells #[.int .i64 0] 29)).cell? ⟨w.heap.size, 3, none⟩ = some (.slice so ss.length sc) ∧ Boxed ((((w.alloc (.cells #[.string nm, .int .i64 sp, .int .i64 st, .slice so ss.length sc, .slice lo ls.length lc, .slice to_ ts.length tc] 26)).alloc (.cells #[.int .i64 way] 3)).alloc (.cells #[.slice none 0 0] 62)).alloc (.cells #[.int .i64 0] 29)) (w.heap.size + 1) 3 (.int .i64 way) ∧ Boxed ((((w.alloc (.cells #[.string nm, .int .i64 sp, .int .i64 st, .slice so ss.length sc, .slice lo ls.length lc, .slice to_ ts.length tc] 26)).alloc (.cells #[.int .i64 way] 3)).alloc (.cells #[.slice none 0 0] 62)).alloc (.cells #[.int .i64 0] 29)) (w.heap.size + 2) 62 (.slice none 0 0) ∧ Boxed ((((w.alloc (.cells #[.string nm, .int .i64 sp, .int .i64 st, .slice so ss.length sc, .slice lo ls.length lc, .slice to_ ts.length tc] 26)).alloc (.cells #[.int .i64 way] 3)).alloc (.cells #[.slice none 0 0] 62)).alloc (.cells #[.int .i64 0] 29)) (w.heap.size + 3) 29 (.int .i64 0)) := by
    have b1 := Boxed.new (w.alloc (.cells #[.string nm, .int .i64 sp, .int .i64 st, .slice so ss.length sc, .slice lo ls.length lc, .slice to_ ts.length tc] 26)) 3 (.int .i64 way)
    have b2 := Boxed.new ((w.alloc (.cells #[.string nm, .int .i64 sp, .int .i64 st, .slice so ss.length sc, .slice lo ls.length lc, .slice to_ ts.length tc] 26)).alloc (.cells #[.int .i64 way] 3)) 62 (.slice none 0 0)
    have b3 := Boxed.new (((w.alloc (.cells #[.string nm, .int .i64 sp, .int .i64 st, .slice so ss.length sc, .slice lo ls.length lc, .slice to_ ts.length tc] 26)).alloc (.cells #[.int .i64 way] 3)).alloc (.cells #[.slice none 0 0] 62)) 29 (.int .i64 0)
    refine ⟨by go_simp, ?_, ?_, ?_⟩
    · have := (b1.alloc (.cells #[.slice none 0 0] 62)).alloc (.cells #[.int .i64 0] 29); simpa using this
    · have := b2.alloc (.cells #[.int .i64 0] 29); simpa using this
    · simpa using b3
  have hmx : Try.prog.follows .mixedOrders = true := by kernel_rfl
  gi_wp2_with (refine ⟨trivial, ?_⟩; first
    | (gi_at_call 54; refine (callsIn_wide.2 (check_any ⟨nm, sp, st, so, sc, ss, lo, lc, ls, to_, tc, ts⟩ _ (HA.out.grown G4.out) HCE)).mono ?_; rintro e w2 ⟨rfl, hg2⟩; have HG2 := Lib.hid hg2; have y1 : w2.cell? ⟨w.heap.size + 1, 0, none⟩ = some (.int .i64 way) := grown_cell hg2 HM4.out.2.1.cell; have y2 : (w2.alloc (.cells #[.slice none 0 0] 62)).cell? ⟨w.heap.size + 1, 0, none⟩ = some (.int .i64 way) := grown_cell (World.grownBy_alloc _ _ _) y1; clear hg2)
    | (gi_at_call 55; refine (callsIn_wide.2 (twithin_yes _ _ _ w0 w1 _)).mono ?_; rintro e w' ⟨rfl, rfl⟩))
  have hsz : (w2.alloc (.cells #[.slice none 0 0] 62)).drew.heap.size = w2.heap.size + 1 := by simp [World.drew]
  have hl2 := (sp0_two (w := w) (V := (w2.alloc (.cells #[.slice none 0 0] 62)).drew) (Bl := w2.heap.size) (so := so) (sn := ss.length) (sc := sc) (way := way)
    (grown_cell (grown_trans HG2.out (grown_trans (World.grownBy_alloc _ _ none) (grown_drewN _ _ 1))) HM4.out.1) (HM4.out.2.1.kept (grown_trans HG2.out (grown_trans (World.grownBy_alloc _ _ none) (grown_drewN _ _ 1))) (by simp)) (HM4.out.2.2.1.kept (grown_trans HG2.out (grown_trans (World.grownBy_alloc _ _ none) (grown_drewN _ _ 1))) (by simp)) (HM4.out.2.2.2.kept (grown_trans HG2.out (grown_trans (World.grownBy_alloc _ _ none) (grown_drewN _ _ 1))) (by simp))
    ((Boxed.new w2 62 (.slice none 0 0)).kept (row := none) (grown_drewN _ _ 1) (by simp)) (below_grown (grown_trans G4.out (grown_trans HG2.out (grown_trans (World.grownBy_alloc _ _ none) (grown_drewN _ _ 1)))))
    (by have h1 := HG2.out.size; simp at h1; omega))
  rw [hsz] at hl2
  have HL := Lib.hid hl2
  clear hl2
  obtain ⟨Bl, hBl⟩ : ∃ Bl, Bl = w2.heap.size := ⟨_, rfl⟩
  have HBL := Lib.hid hBl
  rename_i KK hKK
  have REST : ∀ (Bg Bn : Nat) (V : World), Hid (Sp0 w Bl Bg Bn so ss.length sc way V) → KK { tmps := (.agg #[.string nm, .int .i64 sp, .int .i64 st, .slice so ss.length sc, .slice lo ls.length lc, .slice to_ ts.length tc] :: .int .i64 way :: .pointer (some ⟨w.heap.size, 0, none⟩) :: .pointer (some ⟨w.heap.size + 1, 0, none⟩) :: .pointer (some ⟨w.heap.size + 1 + 1, 0, none⟩) :: .pointer (some ⟨w.heap.size + 1 + 1 + 1, 0, none⟩) :: .int .i64 0 :: .pointer (some ⟨Bl, 0, none⟩) :: .pointer (some ⟨Bg, 0, none⟩) :: .pointer (some ⟨Bn, 0, none⟩) :: undef :: undef :: undef :: undef :: .agg #[.string nm, .int .i64 sp, .int .i64 st, .slice so ss.length sc, .slice lo ls.length lc, .slice to_ ts.length tc] :: .int .i64 0 :: .int .i64 0 :: .bool false :: undef :: .int .i64 way :: .bool true :: .bool false :: .int .i64 way :: undef :: undef :: undef :: undef :: undef :: undef :: undef :: undef :: undef :: undef :: undef :: undef :: undef :: undef :: undef :: undef :: undef :: undef :: undef :: undef :: undef :: undef :: undef :: undef :: undef :: undef :: undef :: undef :: undef :: undef :: undef :: undef :: undef :: undef :: undef :: undef :: undef :: undef :: undef :: undef :: undef :: undef :: undef :: []).toArray, defers := [] } V := by
    intro Bg Bn V H0
    clear HL y1 y2 hBl HBL HG2 HM4 G4
    refine hKK _ _ ?_
    have b3 := H0.out.b3
    gi_wp2_with (refine ⟨trivial, ?_⟩; gi_at_call 111; refine (callsIn_wide.2 (steps_any _ _ _ _)).mono ?_; rintro e w' ⟨rfl, rfl⟩)
    have hV := H0.out
    obtain ⟨W0, hW0⟩ : ∃ W0, V.alloc (.cells #[.slice so ss.length sc] 22) = W0 := ⟨_, rfl⟩
    obtain ⟨Bs, hBs⟩ : ∃ Bs, V.heap.size = Bs := ⟨_, rfl⟩
    have hsz0 : W0.heap.size = Bs + 1 := by rw [← hW0, ← hBs]; simp
    have h00 : Sp0 w Bl Bg Bn so ss.length sc way W0 := by rw [← hW0]; exact hV.grown (World.grownBy_alloc _ _ _)
    have bS : Boxed W0 Bs 22 (.slice so ss.length sc) := by rw [← hW0, ← hBs]; exact Boxed.new _ _ _
    have D : SpD w.heap.size Bl Bg Bn Bs W0.heap.size := by
      have l1 := hV.g.lt; have l2 := hV.x.lt
      obtain ⟨d1, d2, d3, d4⟩ := hV.d
      exact ⟨d1, d2, d3, d4, by omega, by omega, by omega⟩
    have hnx0 : nxW way 0 = way := by unfold nxW; simp
    have hB0 : SpB w Bl Bg Bn Bs (.slice so ss.length sc) way 0 (nxW way 0) (.slice none 0 0) W0 := ⟨h00.y, h00.r4, h00.r5, h00.l, h00.g, by rw [hnx0]; exact h00.x, bS, h00.b⟩
    have hs0 : SmpsAt W0 so ss := (HA.out.hs).grown (grown_below h00.b)
    have HAO := Lib.hid ((HA.out.hs).block)
    have DH := Lib.hid D; have HS0 := Lib.hid hs0; have HB0 := Lib.hid hB0
    have hn0s : w.heap.size ≤ W0.heap.size := h00.b.size
    rw [hW0, hBs]
    clear hW0 hBs b3 hV h00 D H0 hs0
    refine wpIn_rangeFunc_ownH (α := StepNo ss) rfl (by omega) (gf := 148) (lb := #[.pointer (some ⟨Bs, 0, none⟩)]) rfl trivial (enters_of Try.func148 (by kernel_rfl) rfl)
      (encs := fun x => #[stepV ss x.1]) (Kp := KpB w.heap.size Bs) (S := fun ys => ys.map (·.1) = List.range (ss.length - 1)) (Sp := fun pre => ∃ k, k < ss.length ∧ pre.map (·.1) = List.range k) (N := ss.length) (w0 := W0) ?seq kpB_t ?kb (Below.refl _ _) (fun _ => rfl)
      (fun pre W => ∃ v, SpB w Bl Bg Bn Bs (.slice so ss.length sc) way (sP ss way pre).1 (nxW way (nP way (sP ss way pre).1)) v W ∧ W.ownsRow W0.heap.size 67 2 v (nP way (sP ss way pre).1) (sP ss way pre).2 ∧ nP way (sP ss way pre).1 ≤ 10000)
      (fun c pre W => c = .ret ∧ 10000 < nP way (sP ss way pre).1 ∧ Boxed W (w.heap.size + 2) 62 (.slice none 0 0) ∧ Boxed W (w.heap.size + 3) 29 (.int .i64 3) ∧ Below w.heap.size w W)
      (fun pre X Y row hs hg hr => by
        obtain ⟨v, h1, h2, h3⟩ := hs
        exact ⟨v, h1.own hn0s hg hr, own_cells h2 hg (fun r e => (hr r e).2), h3⟩)
      (fun c pre X Y row hs hg hr => by
        obtain ⟨h1, h2, h3, h4, h5⟩ := hs
        have k : ∀ {C : Nat} {t : TypeId} {u : Value}, Boxed X C t u → Boxed Y C t u := fun {C t u} hb => hb.kept hg (fun e => by
          obtain ⟨_, o, ho, hc⟩ := hr C e.symm
          rw [show X.heap[C]? = _ from hb] at ho; cases ho; cases hc)
        exact ⟨h1, h2, k h3, k h4, h5.grown hg h5.size (fun r e => Nat.le_trans hn0s (hr r e).1)⟩)
      ⟨.slice none 0 0, by show SpB w Bl Bg Bn Bs _ way 0 (nxW way (nP way 0)) _ W0; rw [nP_zero]; exact hB0, by show World.ownsRow _ _ _ _ _ (nP way 0) []; rw [nP_zero]; exact World.ownsRow_nil _ _ _ _, by show nP way 0 ≤ 10000; rw [nP_zero]; omega⟩
      (fun x a' W => ∃ Bx, W0.heap.size ≤ Bx ∧ W.heap[Bx]? = some (.cells (stepC ss x.1) 85 (0, 0)) ∧ a' = { tmps := (.agg #[.string nm, .int .i64 sp, .int .i64 st, .slice so ss.length sc, .slice lo ls.length lc, .slice to_ ts.length tc] :: .int .i64 way :: .pointer (some ⟨w.heap.size, 0, none⟩) :: .pointer (some ⟨w.heap.size + 1, 0, none⟩) :: .pointer (some ⟨w.heap.size + 1 + 1, 0, none⟩) :: .pointer (some ⟨w.heap.size + 1 + 1 + 1, 0, none⟩) :: .int .i64 0 :: .pointer (some ⟨Bl, 0, none⟩) :: .pointer (some ⟨Bg, 0, none⟩) :: .pointer (some ⟨Bn, 0, none⟩) :: .pointer (some ⟨Bx, 0, none⟩) :: undef :: undef :: undef :: .agg #[.string nm, .int .i64 sp, .int .i64 st, .slice so ss.length sc, .slice lo ls.length lc, .slice to_ ts.length tc] :: .int .i64 0 :: .int .i64 0 :: .bool false :: undef :: .int .i64 way :: .bool true :: .bool false :: .int .i64 way :: .pointer (some ⟨w.heap.size, 3, none⟩) :: .slice so ss.length sc :: .func (.func 148) #[] #[.pointer (some ⟨Bs, 0, none⟩)] :: stepV ss x.1 :: undef :: undef :: undef :: undef :: undef :: undef :: undef :: undef :: undef :: undef :: undef :: undef :: undef :: undef :: undef :: undef :: undef :: undef :: undef :: undef :: undef :: undef :: undef :: undef :: undef :: undef :: undef :: undef :: undef :: undef :: undef :: undef :: undef :: undef :: undef :: undef :: undef :: undef :: undef :: []).toArray, defers := [] })
      (fun x a' _ X Y row hs hg hr => by obtain ⟨Bx, h1, h2, h3⟩ := hs; exact ⟨Bx, h1, block_kept h2 rfl hg (fun r e => (hr r e).2), h3⟩)
      ?assign ?body ?done ?stop
    case seq =>
      intro l J Jx W hW hJ _ hY h0
      have hbW : W.heap[Bs]? = W0.heap[Bs]? := hW.block _ (by omega)
      refine (steps1_in 3 (by omega) l Bs w.heap.size so sc ss hl HAO.out J Jx (fun pre V m hj => hJ pre V _ none hj (grown_drewN V none m) (fun r h => by cases h)) hY W ((World.cell?_of_block (a := ⟨Bs, 0, none⟩) hbW).trans HB0.out.s.cell) (HS0.out.grown (grown_below hW)) h0).mono ?_
      rintro e W' ⟨he, h | ⟨pre, hk, hj⟩⟩
      · exact ⟨he, .inl h⟩
      · exact ⟨he, .inr ⟨pre, hk, hj⟩⟩
    case kb =>
      intro W l o o' hlW ho hc hwk
      exact ⟨belowK_b (w := W0) (by omega) W l o o' hlW ho hc hwk, World.putObj_heap_other (by omega)⟩
    case assign =>
      rintro l pre x W K ⟨v, hB1, hO1, hn1⟩ hK
      unfold stepV at *
      gi_wp2
      have hls := hB1.s.lt
      refine hK _ _ ((KeepsOthers.alloc _ _).from _) ⟨(Below.refl _ W).alloc hB1.b.size _, ?_⟩ ⟨v, hB1.grown DH.out (World.grownBy_alloc _ _ none) (fun r e => by cases e), own_cells hO1 (World.grownBy_alloc _ _ none) (fun r e => by cases e), hn1⟩ ⟨W.heap.size, by omega, World.alloc_heap_new W _, rfl⟩
      exact Below.heap_alloc _ _ _ hls
    case body =>
      rintro l pre x a' W hlr ⟨r, hr⟩ ⟨v, hB, hO, hn⟩ ⟨Bx, hBx, bX, rfl⟩ hlt
      have HSZ := Lib.hid hsz0
      clear hsz0
      obtain ⟨k, hk⟩ : ∃ k, x.1 = k := ⟨_, rfl⟩
      have hkl : k + 1 < ss.length := by rw [← hk]; exact x.2
      have hsn := sP_snoc ss way pre x
      have hgb := sP_bd HP.out way pre
      rw [hk] at bX hsn
      obtain ⟨⟨g0, xs0⟩, hs0⟩ : ∃ s, sP ss way pre = s := ⟨_, rfl⟩
      rw [hs0] at hB hO hn hsn hgb
      simp only at hB hO hn hsn hgb
      have hsw := stepW_bd (smpD_plane HP.out k) (smpD_plane HP.out (k + 1))
      have hin0 := HS.out.inn k (by omega); have hin1 := HS.out.inn (k + 1) hkl; have hup := HS.out.up k hkl
      obtain ⟨lg, hlg⟩ : ∃ v, stepW (smpD ss k) (smpD ss (k + 1)) = v := ⟨_, rfl⟩
      rw [hlg] at hsn hsw
      have HLG := Lib.hid hlg
      have hg6 : g0 ≤ 6000000000000 := by omega
      have hg0 : 0 ≤ g0 := hgb.1
      have HSN := Lib.hid hsn
      have bt0 : 0 ≤ (smpD ss k).t ∧ (smpD ss k).t ≤ 1000000 := ⟨hin0.1, hin0.2.1⟩
      have bt1 : 0 < (smpD ss (k + 1)).t - (smpD ss k).t ∧ (smpD ss (k + 1)).t - (smpD ss k).t ≤ 1000000 := by have := hin1.1; have := hin1.2.1; omega
      obtain ⟨x0, x1, x2, x3, x4, x5, x6, x7, x8, x9, x10, x11, x12, x13, x14⟩ : W.cell? ⟨Bx, 0, none⟩ = some (.int .i64 k) ∧ W.cell? ⟨Bx, 1, none⟩ = some (.int .i64 (smpD ss k).t) ∧ W.cell? ⟨Bx, 2, none⟩ = some (.int .i64 (smpD ss k).x) ∧ W.cell? ⟨Bx, 3, none⟩ = some (.int .i64 (smpD ss k).y) ∧ W.cell? ⟨Bx, 4, none⟩ = some (.int .i64 (smpD ss k).z) ∧ W.cell? ⟨Bx, 5, none⟩ = some (.int .i64 (smpD ss k).p) ∧ W.cell? ⟨Bx, 6, none⟩ = some (.int .i64 (smpD ss k).q) ∧ W.cell? ⟨Bx, 7, none⟩ = some (.int .i64 (smpD ss k).s) ∧ W.cell? ⟨Bx, 8, none⟩ = some (.int .i64 (smpD ss (k + 1)).t) ∧ W.cell? ⟨Bx, 9, none⟩ = some (.int .i64 (smpD ss (k + 1)).x) ∧ W.cell? ⟨Bx, 10, none⟩ = some (.int .i64 (smpD ss (k + 1)).y) ∧ W.cell? ⟨Bx, 11, none⟩ = some (.int .i64 (smpD ss (k + 1)).z) ∧ W.cell? ⟨Bx, 12, none⟩ = some (.int .i64 (smpD ss (k + 1)).p) ∧ W.cell? ⟨Bx, 13, none⟩ = some (.int .i64 (smpD ss (k + 1)).q) ∧ W.cell? ⟨Bx, 14, none⟩ = some (.int .i64 (smpD ss (k + 1)).s) := ⟨step_cells bX 0 _ rfl, step_cells bX 1 _ rfl, step_cells bX 2 _ rfl, step_cells bX 3 _ rfl, step_cells bX 4 _ rfl, step_cells bX 5 _ rfl, step_cells bX 6 _ rfl, step_cells bX 7 _ rfl, step_cells bX 8 _ rfl, step_cells bX 9 _ rfl, step_cells bX 10 _ rfl, step_cells bX 11 _ rfl, step_cells bX 12 _ rfl, step_cells bX 13 _ rfl, step_cells bX 14 _ rfl⟩
      have HX := Lib.hid bX; have HB := Lib.hid hB; have HO := Lib.hid hO
      unfold stepV
      rw [hk]
      clear hk hs0 hlg hr hlt hlr hgb hsn hin0 hin1 hup bX hB hO
      gi_wp2
      refine ⟨trivial, CallsIn.inRound l (callsIn_wide.2 ((way_is (k : Int) (smpD ss k) (smpD ss (k + 1)) (smpD_plane HP.out k) (smpD_plane HP.out (k + 1)) _ HLG).mono ?_))⟩
      rintro e w2 ⟨rfl, hg2⟩
      clear x0 x1 x2 x3 x4 x5 x6 x7 x8 x9 x10 x11 x12 x13 x14
      have HB2 := Lib.hid (HB.out.grown DH.out hg2 (fun r e => by cases e))
      have HO2 := Lib.hid (own_cells HO.out hg2 (fun r e => by cases e))
      have HX2 : Hid (w2.heap[Bx]? = some (.cells (stepC ss k) 85 (0, 0))) := (hg2.block _ (lt_of_block HX.out) (by simp)).trans HX.out
      have HKO : Hid (KeepsOthers W w2) := KeepsOthers.of_grownBy hg2 (fun j o e => by cases e)
      have HKP : Hid (KpB w.heap.size Bs W w2) := ⟨(below_grown hg2).mono HB.out.b.size, hg2.block _ HB.out.s.lt (by simp)⟩
      clear hg2
      gi_wp2
      gi_loopw [] (fun wr => ∃ (m : Nat) (v : Value), nP way g0 ≤ m ∧ m ≤ 10000 ∧ m ≤ nP way (g0 + lg) ∧ Hid (SpB w Bl Bg Bn Bs (.slice so ss.length sc) way g0 (nxW way m) v wr) ∧ Hid (wr.ownsRow W0.heap.size 67 2 v m (xs0 ++ evVs ss way g0 k (nP way g0) (m - nP way g0))) ∧ Hid (wr.heap[Bx]? = some (.cells (stepC ss k) 85 (0, 0))) ∧ Hid (KeepsOthers W wr) ∧ Hid (KpB w.heap.size Bs W wr))
        (fun wr => (g0 + lg + 1 - cellI wr Bn).toNat)
      case atStart => exact ⟨nP way g0, v, Nat.le_refl _, hn, nP_up w0 hg0 (by omega), HB2.out, by show World.ownsRow _ _ _ _ _ _ _; rw [Nat.sub_self]; simpa [evVs] using HO2.out, HX2.out, HKO.out, HKP.out⟩
      case round =>
        obtain ⟨m, v, h1, h2, h3, hB, hO, hX, hKO, hKP⟩ := hrel
        have cN := hB.out.x.cell; have cG := hB.out.g.cell; have cL := hB.out.l.cell; have cY := hB.out.y.cell
        have nb := nxW_bd w0 w1 h2
        have rs : IntKind.i64.wrap (g0 + lg) = g0 + lg := IntWalk.i64_in _ (by omega)
        have hgm : g0 < nxW way m := by
          rcases Int.lt_or_le g0 (nxW way m) with q | q
          · exact q
          · have := (nP_iff w0 hg0 m).2 q; omega
        by_cases hle : nxW way m ≤ g0 + lg
        · have hlt : m < nP way (g0 + lg) := (nP_iff w0 (by omega) m).2 hle
          obtain ⟨nx, hnx⟩ : ∃ nx, nxW way m = nx := ⟨_, rfl⟩
          rw [hnx] at cN nb hgm hle
          have HNX := Lib.hid hnx
          obtain ⟨vo, vc, rfl⟩ := own_slice hO.out
          by_cases hm : m = 10000
          · have e4 := hB.out.r4.frozen; have e5 := hB.out.r5.frozen; have d4 := hB.out.r4.cell; have d5 := hB.out.r5.cell
            have d5' := (hB.out.r5.other (B' := w.heap.size + 2) (by omega) (.slice none 0 0)).cell
            have e5' := (hB.out.r5.other (B' := w.heap.size + 2) (by omega) (.slice none 0 0)).frozen
            have hm2 : (m : Int) = 10000 := by omega
            have HW : Hid (Boxed ((wr.setCell ⟨w.heap.size + 2, 0, none⟩ (.slice none 0 0)).setCell ⟨w.heap.size + 3, 0, none⟩ (.int .i64 3)) (w.heap.size + 2) 62 (.slice none 0 0) ∧ Boxed ((wr.setCell ⟨w.heap.size + 2, 0, none⟩ (.slice none 0 0)).setCell ⟨w.heap.size + 3, 0, none⟩ (.int .i64 3)) (w.heap.size + 3) 29 (.int .i64 3) ∧ Below w.heap.size w ((wr.setCell ⟨w.heap.size + 2, 0, none⟩ (.slice none 0 0)).setCell ⟨w.heap.size + 3, 0, none⟩ (.int .i64 3))) :=
              ⟨(hB.out.r4.set _).other (by omega) _, (hB.out.r5.other (by omega) _).set _, (hB.out.b.setCell (by show _ ≤ w.heap.size + 2; omega) _).setCell (by show _ ≤ w.heap.size + 3; omega) _⟩
            have HKO3 : Hid (KeepsOthers W ((wr.setCell ⟨w.heap.size + 2, 0, none⟩ (.slice none 0 0)).setCell ⟨w.heap.size + 3, 0, none⟩ (.int .i64 3))) := (hKO.out.trans (KeepsOthers.setCell _ _ _)).trans (KeepsOthers.setCell _ _ _)
            gi_wp2
            refine ⟨HKO3.out.from _, rfl, ?_, HW.out.1, HW.out.2.1, HW.out.2.2⟩
            rw [HSN.out]; show 10000 < nP way (g0 + lg); omega
          · have hm9 : m < 10000 := by omega
            have hme : ((m : Int) == 10000) = false := by simp; omega
            have HC : Hid (∀ V, wr.drew.grownBy V none → V.cell? ⟨Bn, 0, none⟩ = some (.int .i64 nx) ∧ V.cell? ⟨Bg, 0, none⟩ = some (.int .i64 g0) ∧ V.cell? ⟨Bx, 0, none⟩ = some (.int .i64 k) ∧ V.cell? ⟨Bx, 1, none⟩ = some (.int .i64 (smpD ss k).t) ∧ V.cell? ⟨Bx, 2, none⟩ = some (.int .i64 (smpD ss k).x) ∧ V.cell? ⟨Bx, 3, none⟩ = some (.int .i64 (smpD ss k).y) ∧ V.cell? ⟨Bx, 4, none⟩ = some (.int .i64 (smpD ss k).z) ∧ V.cell? ⟨Bx, 5, none⟩ = some (.int .i64 (smpD ss k).p) ∧ V.cell? ⟨Bx, 6, none⟩ = some (.int .i64 (smpD ss k).q) ∧ V.cell? ⟨Bx, 7, none⟩ = some (.int .i64 (smpD ss k).s) ∧ V.cell? ⟨Bx, 8, none⟩ = some (.int .i64 (smpD ss (k + 1)).t) ∧ V.cell? ⟨Bx, 9, none⟩ = some (.int .i64 (smpD ss (k + 1)).x) ∧ V.cell? ⟨Bx, 10, none⟩ = some (.int .i64 (smpD ss (k + 1)).y) ∧ V.cell? ⟨Bx, 11, none⟩ = some (.int .i64 (smpD ss (k + 1)).z) ∧ V.cell? ⟨Bx, 12, none⟩ = some (.int .i64 (smpD ss (k + 1)).p) ∧ V.cell? ⟨Bx, 13, none⟩ = some (.int .i64 (smpD ss (k + 1)).q) ∧ V.cell? ⟨Bx, 14, none⟩ = some (.int .i64 (smpD ss (k + 1)).s)) := fun V hV => by
              have q := fun (i : Nat) (u : Value) (hi : (stepC ss k)[i]? = some u) => grown_cell (w := wr.drew) hV (step_cells (t := 85) hX.out i u hi)
              exact ⟨grown_cell (w := wr.drew) hV cN, grown_cell (w := wr.drew) hV cG, q 0 _ rfl, q 1 _ rfl, q 2 _ rfl, q 3 _ rfl, q 4 _ rfl, q 5 _ rfl, q 6 _ rfl, q 7 _ rfl, q 8 _ rfl, q 9 _ rfl, q 10 _ rfl, q 11 _ rfl, q 12 _ rfl, q 13 _ rfl, q 14 _ rfl⟩
            have rsub : IntKind.i64.wrap (nx - g0) = nx - g0 := IntWalk.i64_in _ (by omega)
            obtain ⟨dt, hdt⟩ : ∃ dt, (smpD ss (k + 1)).t - (smpD ss k).t = dt := ⟨_, rfl⟩
            have bdt : 0 < dt ∧ dt ≤ 1000000 := by rw [← hdt]; exact bt1
            have rmul : IntKind.i64.wrap (1000 * dt) = 1000 * dt := IntWalk.i64_in _ (by omega)
            obtain ⟨sc0, sc1, sc2, _⟩ := scale_up (a := nx - g0) (num := 1000 * dt) (den := lg) (by omega) (by omega) (by omega) (by omega) (by omega)
            obtain ⟨b, hb⟩ : ∃ b, (scaleV (nx - g0) (1000 * dt) lg 2).1 = b := ⟨_, rfl⟩
            rw [hb] at sc0 sc1
            have HSC := Lib.hid sc2; have HBV := Lib.hid hb; have HDT := Lib.hid hdt
            have rat0 : IntKind.i64.wrap (1000 * (smpD ss k).t) = 1000 * (smpD ss k).t := IntWalk.i64_in _ (by omega)
            have rat : IntKind.i64.wrap (1000 * (smpD ss k).t + b) = 1000 * (smpD ss k).t + b := IntWalk.i64_in _ (by omega)
            have HEV : Hid (splCs (evV ss way g0 k m) = [.int .i64 nx, .int .i64 (1000 * (smpD ss k).t + b)]) := by
              show _ = _
              unfold splCs evV
              rw [HLG.out, hdt, show ((m : Int) + 1) * way = nx from hnx, hb]
            have HVS : Hid (xs0 ++ evVs ss way g0 k (nP way g0) (m + 1 - nP way g0) = (xs0 ++ evVs ss way g0 k (nP way g0) (m - nP way g0)) ++ [.int .i64 nx, .int .i64 (1000 * (smpD ss k).t + b)]) := by
              show _ = _
              rw [show m + 1 - nP way g0 = (m - nP way g0) + 1 by omega, evVs_succ, show nP way g0 + (m - nP way g0) = m by omega, HEV.out, List.append_assoc]
            have rn : IntKind.i64.wrap (nx + way) = nx + way := IntWalk.i64_in _ (by omega)
            have hnx2 : Hid (nxW way (m + 1) = nx + way) := by show _ = _; rw [nxW_succ, hnx]
            have rdt : IntKind.i64.wrap ((smpD ss (k + 1)).t - (smpD ss k).t) = dt := by rw [hdt]; exact IntWalk.i64_in _ (by omega)
            have hS0 : wr.drew.grownBy wr.drew none := World.grownBy.refl _ _
            clear hnx hb sc2 hdt
            gi_wp2
            refine region_in_round (S := fun V => wr.drew.grownBy V none) hmx (by kernel_rfl) (fun ⟨_, _, h⟩ => h) hS0 (fun hHeld => ?_)
            refine wpAnyH_take (i := 0) (oi := ?oia0) (v := .int .i64 nx) ?hia0 (by kernel_rfl) (by kernel_rfl) (by kernel_rfl) ?hqa0 ?hya0 hHeld ?resta0
            case hia0 => simp only [List.getElem?_toArray, List.getElem?_cons_succ, List.getElem?_cons_zero, Option.some.injEq]; rfl
            case hqa0 => exact fun _ _ _ h => h
            case hya0 =>
              refine Or.inl ⟨by rfl, fun V hV => ?_⟩
              have q1 := (HC.out V hV).1; clear hV
              go_simp
            try simp only [Go.Act.put, List.setIfInBounds_toArray, List.set_cons_zero, List.set_cons_succ]
            refine wpAnyH_take (i := 1) (oi := ?oia1) (v := .int .i64 g0) ?hia1 (by kernel_rfl) (by kernel_rfl) (by kernel_rfl) ?hqa1 ?hya1 hHeld ?resta1
            case hia1 => simp only [List.getElem?_toArray, List.getElem?_cons_succ, List.getElem?_cons_zero, Option.some.injEq]; rfl
            case hqa1 => exact fun _ _ _ h => h
            case hya1 =>
              refine Or.inl ⟨by rfl, fun V hV => ?_⟩
              have q1 := (HC.out V hV).2.1; clear hV
              go_simp
            try simp only [Go.Act.put, List.setIfInBounds_toArray, List.set_cons_zero, List.set_cons_succ]
            refine wpAnyH_take (i := 2) (oi := ?oia2) (v := .int .i64 (nx - g0)) ?hia2 (by kernel_rfl) (by kernel_rfl) (by kernel_rfl) ?hqa2 ?hya2 hHeld ?resta2
            case hia2 => simp only [List.getElem?_toArray, List.getElem?_cons_succ, List.getElem?_cons_zero, Option.some.injEq]; rfl
            case hqa2 => exact fun _ _ _ h => h
            case hya2 =>
              refine Or.inl ⟨by rfl, fun V hV => ?_⟩
              clear hV
              go_simp
            try simp only [Go.Act.put, List.setIfInBounds_toArray, List.set_cons_zero, List.set_cons_succ]
            refine wpAnyH_take (i := 3) (oi := ?oia3) (v := .agg #[.int .i64 k, .int .i64 (smpD ss k).t, .int .i64 (smpD ss k).x, .int .i64 (smpD ss k).y, .int .i64 (smpD ss k).z, .int .i64 (smpD ss k).p, .int .i64 (smpD ss k).q, .int .i64 (smpD ss k).s, .int .i64 (smpD ss (k + 1)).t, .int .i64 (smpD ss (k + 1)).x, .int .i64 (smpD ss (k + 1)).y, .int .i64 (smpD ss (k + 1)).z, .int .i64 (smpD ss (k + 1)).p, .int .i64 (smpD ss (k + 1)).q, .int .i64 (smpD ss (k + 1)).s]) ?hia3 (by kernel_rfl) (by kernel_rfl) (by kernel_rfl) ?hqa3 ?hya3 hHeld ?resta3
            case hia3 => simp only [List.getElem?_toArray, List.getElem?_cons_succ, List.getElem?_cons_zero, Option.some.injEq]; rfl
            case hqa3 => exact fun _ _ _ h => h
            case hya3 =>
              refine Or.inl ⟨by rfl, fun V hV => ?_⟩
              obtain ⟨_, _, z0, z1, z2, z3, z4, z5, z6, z7, z8, z9, z10, z11, z12, z13, z14⟩ := HC.out V hV; clear hV
              go_simp
            try simp only [Go.Act.put, List.setIfInBounds_toArray, List.set_cons_zero, List.set_cons_succ]
            refine wpAnyH_take (i := 6) (oi := ?oia6) (v := .int .i64 lg) ?hia6 (by kernel_rfl) (by kernel_rfl) (by kernel_rfl) ?hqa6 ?hya6 hHeld ?resta6
            case hia6 => simp only [List.getElem?_toArray, List.getElem?_cons_succ, List.getElem?_cons_zero, Option.some.injEq]; rfl
            case hqa6 => exact fun _ _ _ h => h
            case hya6 =>
              refine Or.inl ⟨by rfl, fun V hV => ?_⟩
              clear hV
              go_simp
            try simp only [Go.Act.put, List.setIfInBounds_toArray, List.set_cons_zero, List.set_cons_succ]
            refine wpAnyH_ready (rs := [4]) (by kernel_rfl) (by simp) ?_
            refine AllReadyH.cons rfl (fun K hK => ?_) AllReadyH.nil
            go_simp
            refine (seconds_is (k : Int) (smpD ss k) (smpD ss (k + 1)) (by omega) _).mono ?_
            rintro e w5 ⟨rfl, hg5⟩
            refine hK.out _ _ (grown_trans hHeld hg5) (fun hHeld1 => ?_)
            clear hK K
            try simp only [Go.Act.put, List.setIfInBounds_toArray, List.set_cons_zero, List.set_cons_succ]
            have rmul2 : IntKind.i64.wrap (1000 * ((smpD ss (k + 1)).t - (smpD ss k).t)) = 1000 * dt := by rw [HDT.out]; exact rmul
            refine wpAnyH_take (i := 5) (oi := ?oia5) (v := .int .i64 (1000 * dt)) ?hia5 (by kernel_rfl) (by kernel_rfl) (by kernel_rfl) ?hqa5 ?hya5 hHeld1 ?resta5
            case hia5 => simp only [List.getElem?_toArray, List.getElem?_cons_succ, List.getElem?_cons_zero, Option.some.injEq]; rfl
            case hqa5 => exact fun _ _ _ h => h
            case hya5 =>
              refine Or.inl ⟨by rfl, fun V hV => ?_⟩
              clear hV
              go_simp
            try simp only [Go.Act.put, List.setIfInBounds_toArray, List.set_cons_zero, List.set_cons_succ]
            refine wpAnyH_ready (rs := [7]) (by kernel_rfl) (by simp) ?_
            refine AllReadyH.cons rfl (fun K hK => ?_) AllReadyH.nil
            go_simp
            refine (scale_any (nx - g0) (1000 * dt) lg 2 (by omega) (by omega) (by omega) (by omega) (by omega) (by omega) _).mono ?_
            rintro e w6 ⟨rfl, hg6⟩
            refine hK.out _ _ (grown_trans hHeld1 hg6) (fun hHeld2 => ?_)
            clear hK K
            rw [HBV.out, HSC.out]
            try simp only [Go.Act.put, List.setIfInBounds_toArray, List.set_cons_zero, List.set_cons_succ]
            refine wpAnyH_take (i := 8) (oi := ?oia8) (v := .tuple #[.int .i64 b, .int .i64 0]) ?hia8 (by kernel_rfl) (by kernel_rfl) (by kernel_rfl) ?hqa8 ?hya8 hHeld2 ?resta8
            case hia8 => simp only [List.getElem?_toArray, List.getElem?_cons_succ, List.getElem?_cons_zero, Option.some.injEq]; rfl
            case hqa8 => exact fun _ _ _ h => h
            case hya8 =>
              refine Or.inl ⟨by rfl, fun V hV => ?_⟩
              clear hV
              go_simp
            try simp only [Go.Act.put, List.setIfInBounds_toArray, List.set_cons_zero, List.set_cons_succ]
            refine wpAnyH_take (i := 9) (oi := ?oia9) (v := .int .i64 b) ?hia9 (by kernel_rfl) (by kernel_rfl) (by kernel_rfl) ?hqa9 ?hya9 hHeld2 ?resta9
            case hia9 => simp only [List.getElem?_toArray, List.getElem?_cons_succ, List.getElem?_cons_zero, Option.some.injEq]; rfl
            case hqa9 => exact fun _ _ _ h => h
            case hya9 =>
              refine Or.inl ⟨by rfl, fun V hV => ?_⟩
              clear hV
              go_simp
            try simp only [Go.Act.put, List.setIfInBounds_toArray, List.set_cons_zero, List.set_cons_succ]
            refine wpAnyH_take (i := 10) (oi := ?oia10) (v := .int .i64 0) ?hia10 (by kernel_rfl) (by kernel_rfl) (by kernel_rfl) ?hqa10 ?hya10 hHeld2 ?resta10
            case hia10 => simp only [List.getElem?_toArray, List.getElem?_cons_succ, List.getElem?_cons_zero, Option.some.injEq]; rfl
            case hqa10 => exact fun _ _ _ h => h
            case hya10 =>
              refine Or.inl ⟨by rfl, fun V hV => ?_⟩
              clear hV
              go_simp
            try simp only [Go.Act.put, List.setIfInBounds_toArray, List.set_cons_zero, List.set_cons_succ]
            refine wpAnyH_take (i := 11) (oi := ?oia11) (v := .int .i64 b) ?hia11 (by kernel_rfl) (by kernel_rfl) (by kernel_rfl) ?hqa11 ?hya11 hHeld2 ?resta11
            case hia11 => simp only [List.getElem?_toArray, List.getElem?_cons_succ, List.getElem?_cons_zero, Option.some.injEq]; rfl
            case hqa11 => exact fun _ _ _ h => h
            case hya11 =>
              refine Or.inl ⟨by rfl, fun V hV => ?_⟩
              clear hV
              go_simp
            try simp only [Go.Act.put, List.setIfInBounds_toArray, List.set_cons_zero, List.set_cons_succ]
            refine wpAnyH_take (i := 12) (oi := ?oia12) (v := .int .i64 0) ?hia12 (by kernel_rfl) (by kernel_rfl) (by kernel_rfl) ?hqa12 ?hya12 hHeld2 ?resta12
            case hia12 => simp only [List.getElem?_toArray, List.getElem?_cons_succ, List.getElem?_cons_zero, Option.some.injEq]; rfl
            case hqa12 => exact fun _ _ _ h => h
            case hya12 =>
              refine Or.inl ⟨by rfl, fun V hV => ?_⟩
              clear hV
              go_simp
            try simp only [Go.Act.put, List.setIfInBounds_toArray, List.set_cons_zero, List.set_cons_succ]
            refine wpAnyH_done (by kernel_rfl) ?_ _
            have hgr : wr.grownBy w6 none := grown_trans (grown_drewN _ _ 1) hHeld2
            have HB6 := Lib.hid (hB.out.grown DH.out hgr (fun r e => by cases e))
            have HO6 := Lib.hid (own_cells hO.out hgr (fun r e => by cases e))
            have HX6 : Hid (w6.heap[Bx]? = some (.cells (stepC ss k) 85 (0, 0))) := (hgr.block _ (lt_of_block hX.out) (by simp)).trans hX.out
            have HKO6 : Hid (KeepsOthers W w6) := hKO.out.trans (KeepsOthers.of_grownBy hgr (fun j o e => by cases e))
            have HKP6 : Hid (KpB w.heap.size Bs W w6) := ⟨hKP.out.1.trans ((below_grown hgr).mono hB.out.b.size), (hgr.block _ hB.out.s.lt (by simp)).trans hKP.out.2⟩
            have HMC := Lib.hid (cellI_is hB.out.x)
            clear hB hO hX hKO hKP cN cG cL cY hHeld hHeld1 hHeld2 hg5 hg6 hgr HC hS0
            generalize Value.slice vo m vc = v at *
            have cL := HB6.out.l.cell; have cN := HB6.out.x.cell
            rw [HNX.out] at cN
            have x1 : w6.cell? ⟨Bx, 1, none⟩ = some (.int .i64 (smpD ss k).t) := step_cells HX6.out 1 _ rfl
            have hi := HI0.out; have hz0 := HZ0.out; have hz1 := HZ1.out; have hz2 := HZ2.out
            have HDB := DH.out
            have hb6 : W0.heap.size ≤ w6.heap.size := Nat.le_trans (Nat.le_of_lt_succ (by have := HB6.out.s.lt; have := HSZ.out; omega)) (Nat.le_refl _)
            have HB60 := Lib.hid hb6
            clear hb6
            gi_wp2_with (gi_at_builtin; refine wpListIn_append_own _ rfl _ _ 62 rfl W0.heap.size 67 i0 (.agg #[.int .i64 0, .int .i64 0]) 2 16 Try.underlying62 hi hz0 hz1 hz2 rfl (by decide) v m _ rfl (HO6.out.alloc _) ⟨w6.heap.size, 0, none⟩ 1 1 [.int .i64 nx, .int .i64 (1000 * (smpD ss k).t + b)] rfl rfl (World.news_of_block (cs := #[.int .i64 nx, .int .i64 (1000 * (smpD ss k).t + b)]) (t := 67) (fr := (0, 0)) (heap_alloc_new w6 _)) (by simp [Value.oneCell']) (by unfold maxLen; omega) (by omega) (by have := HB60.out; simp; omega) ?_; intro v' w8 hown' hgrow' _; obtain ⟨g', cap', rfl⟩ := ownsRow_succ hown'; have hrow : ∀ r, v.ownBlock = some r → W0.heap.size ≤ r := fun r e => (HO6.out.lt r e).1; have HB8 := Lib.hid ((HB6.out.grown HDB (World.grownBy_alloc _ _ none) (fun r e => by cases e)).grown HDB hgrow' hrow); have cL8 := HB8.out.l.cell; have fL8 := HB8.out.l.frozen; have HB9 := Lib.hid (HB8.out.setL HDB (.slice (some ⟨g', 0, none⟩) (m + 1) cap')); have cN9 := HB9.out.x.cell; rw [HNX.out] at cN9; have cY9 := HB9.out.y.cell; have fN9 := HB9.out.x.frozen)
            have HO10 : Hid (((w8.setCell ⟨Bl, 0, none⟩ (.slice (some ⟨g', 0, none⟩) (m + 1) cap')).setCell ⟨Bn, 0, none⟩ (.int .i64 (nx + way))).ownsRow W0.heap.size 67 2 (.slice (some ⟨g', 0, none⟩) (m + 1) cap') (m + 1) (xs0 ++ evVs ss way g0 k (nP way g0) (m + 1 - nP way g0))) := by
              obtain ⟨d1, d2, d3, d4, d5, d6, d7⟩ := HDB
              show World.ownsRow _ _ _ _ _ _ _
              rw [HVS.out]
              exact own_box (own_box hown' (by omega) _) (by omega) _
            have HB10 : Hid (SpB w Bl Bg Bn Bs (.slice so ss.length sc) way g0 (nxW way (m + 1)) (.slice (some ⟨g', 0, none⟩) (m + 1) cap') ((w8.setCell ⟨Bl, 0, none⟩ (.slice (some ⟨g', 0, none⟩) (m + 1) cap')).setCell ⟨Bn, 0, none⟩ (.int .i64 (nx + way)))) := by
              show SpB _ _ _ _ _ _ _ _ _ _ _
              rw [hnx2.out]; exact HB9.out.setN HDB _
            have hne : v.ownBlock ≠ some Bx := own_far HO6.out HX6.out (by decide)
            have HX10 : Hid (((w8.setCell ⟨Bl, 0, none⟩ (.slice (some ⟨g', 0, none⟩) (m + 1) cap')).setCell ⟨Bn, 0, none⟩ (.int .i64 (nx + way))).heap[Bx]? = some (.cells (stepC ss k) 85 (0, 0))) := by
              obtain ⟨d1, d2, d3, d4, d5, d6, d7⟩ := HDB
              have hl := lt_of_block HX6.out
              show _ = _
              rw [Below.heap_setCell _ _ _ _ (by show Bx ≠ Bn; omega), Below.heap_setCell _ _ _ _ (by show Bx ≠ Bl; omega), hgrow'.block Bx (by simp; omega) (fun e => hne e.symm), Below.heap_alloc _ _ _ hl]
              exact HX6.out
            have HKO10 : Hid (KeepsOthers W ((w8.setCell ⟨Bl, 0, none⟩ (.slice (some ⟨g', 0, none⟩) (m + 1) cap')).setCell ⟨Bn, 0, none⟩ (.int .i64 (nx + way)))) := by
              refine (((HKO6.out.trans (KeepsOthers.alloc _ _)).trans (KeepsOthers.of_grownBy hgrow' (fun j o e ho => ?_))).trans (KeepsOthers.setCell _ _ _)).trans (KeepsOthers.setCell _ _ _)
              rcases (HO6.out.alloc _).2 with ⟨hv, _⟩ | ⟨g', cap, cur, hv, hb, hgg, _⟩
              · rw [hv] at e; cases e
              · have : g' = j := by rw [hv] at e; simpa [Value.ownBlock] using e
                subst this
                rw [hgg] at ho; cases ho; rfl
            have HKP10 : Hid (KpB w.heap.size Bs W ((w8.setCell ⟨Bl, 0, none⟩ (.slice (some ⟨g', 0, none⟩) (m + 1) cap')).setCell ⟨Bn, 0, none⟩ (.int .i64 (nx + way)))) := by
              obtain ⟨d1, d2, d3, d4, d5, d6, d7⟩ := HDB
              have hl := HB6.out.s.lt
              refine ⟨?_, ?_⟩
              · exact (((HKP6.out.1.alloc (by omega) _).grown hgrow' (by simp; omega) (fun r e => by have := hrow r e; omega)).setCell (by show _ ≤ Bl; omega) _).setCell (by show _ ≤ Bn; omega) _
              · rw [Below.heap_setCell _ _ _ _ (by show Bs ≠ Bn; omega), Below.heap_setCell _ _ _ _ (by show Bs ≠ Bl; omega), hgrow'.block Bs (by simp; omega) (fun e => by have := hrow Bs e.symm; omega), Below.heap_alloc _ _ _ hl]
                exact HKP6.out.2
            have HME : Hid ((g0 + lg + 1 - cellI ((w8.setCell ⟨Bl, 0, none⟩ (.slice (some ⟨g', 0, none⟩) (m + 1) cap')).setCell ⟨Bn, 0, none⟩ (.int .i64 (nx + way))) Bn).toNat < (g0 + lg + 1 - cellI wr Bn).toNat) := by
              show _ < _
              rw [HMC.out, cellI_is HB10.out.x, hnx2.out, HNX.out]; omega
            clear hown' hgrow' hrow cL8 fL8 cN9 cY9 fN9 hne
            gi_wp2
            go_roundw
            case rel => exact ⟨m + 1, (.slice (some ⟨g', 0, none⟩) (m + 1) cap'), by omega, by omega, by omega, HB10.out, HO10.out, HX10.out, HKO10.out, HKP10.out⟩
            case measure => exact HME.out
        · obtain rfl : m = nP way (g0 + lg) := by
            rcases Nat.lt_or_ge m (nP way (g0 + lg)) with q | q
            · exact absurd ((nP_iff w0 (by omega) m).1 q) hle
            · omega
          have fG := hB.out.g.frozen
          have HBE : Hid (SpB w Bl Bg Bn Bs (.slice so ss.length sc) way (g0 + lg) (nxW way (nP way (g0 + lg))) v (wr.setCell ⟨Bg, 0, none⟩ (.int .i64 (g0 + lg)))) := hB.out.setG DH.out _
          have HOE : Hid ((wr.setCell ⟨Bg, 0, none⟩ (.int .i64 (g0 + lg))).ownsRow W0.heap.size 67 2 v (nP way (g0 + lg)) (xs0 ++ evVs ss way g0 k (nP way g0) (nP way (g0 + lg) - nP way g0))) := own_box hO.out (by obtain ⟨_, _, _, _, d5, d6, d7⟩ := DH.out; omega) _
          have HKE : Hid (KeepsOthers W (wr.setCell ⟨Bg, 0, none⟩ (.int .i64 (g0 + lg)))) := hKO.out.trans (KeepsOthers.setCell _ _ _)
          have HKQ : Hid (KpB w.heap.size Bs W (wr.setCell ⟨Bg, 0, none⟩ (.int .i64 (g0 + lg)))) := by
            obtain ⟨d1, d2, d3, d4, d5, d6, d7⟩ := DH.out
            exact ⟨hKP.out.1.setCell (by show _ ≤ Bg; omega) _, (Below.heap_setCell _ _ _ _ (by show Bs ≠ Bg; omega)).trans hKP.out.2⟩
          clear hB hO hX hKO hKP
          gi_wp2
          refine ⟨HKE.out.from _, HKQ.out, v, ?_, ?_, ?_⟩
          · rw [HSN.out]; exact HBE.out
          · rw [HSN.out]; exact HOE.out
          · rw [HSN.out]; exact h2
    case done =>
      rintro D ys W hD hS ⟨v, hB, hO, hn⟩ hK
      rw [sP_done HP.out w0 (ss.length - 1) ys hS] at hB hO hn
      simp only at hB hO hn
      have HE : Hid ((cntN ss way (ss.length - 1), (0 : Int)) = splitsE ⟨nm, sp, st, so, sc, ss, lo, lc, ls, to_, tc, ts⟩ way) := by
        show _ = _
        unfold splitsE
        rw [if_pos HCE.out, if_pos ⟨w0, w1⟩, if_pos (show cntN ss way (ss.length - 1) ≤ 10000 from hn)]
      have e2 : nP way (wayN ss (ss.length - 1)) = cntN ss way (ss.length - 1) := rfl
      rw [e2] at hO
      obtain ⟨vo, vc, rfl⟩ := own_slice hO
      have cL := hB.l.cell
      have d4 := hB.r4.cell; have f4 := hB.r4.frozen
      have d5 := (hB.r5.other (B' := w.heap.size + 2) (by omega) (.slice vo (cntN ss way (ss.length - 1)) vc)).cell
      have f5 := (hB.r5.other (B' := w.heap.size + 2) (by omega) (.slice vo (cntN ss way (ss.length - 1)) vc)).frozen
      have r4 : Boxed ((W.setCell ⟨w.heap.size + 2, 0, none⟩ (.slice vo (cntN ss way (ss.length - 1)) vc)).setCell ⟨w.heap.size + 3, 0, none⟩ (.int .i64 0)) (w.heap.size + 2) 62 (.slice vo (cntN ss way (ss.length - 1)) vc) := (hB.r4.set _).other (by omega) _
      have r5 : Boxed ((W.setCell ⟨w.heap.size + 2, 0, none⟩ (.slice vo (cntN ss way (ss.length - 1)) vc)).setCell ⟨w.heap.size + 3, 0, none⟩ (.int .i64 0)) (w.heap.size + 3) 29 (.int .i64 0) := (hB.r5.other (by omega) _).set _
      have HG : Below w.heap.size w ((W.setCell ⟨w.heap.size + 2, 0, none⟩ (.slice vo (cntN ss way (ss.length - 1)) vc)).setCell ⟨w.heap.size + 3, 0, none⟩ (.int .i64 0)) := (hB.b.setCell (by show _ ≤ w.heap.size + 2; omega) _).setCell (by show _ ≤ w.heap.size + 3; omega) _
      have HOB : ((W.setCell ⟨w.heap.size + 2, 0, none⟩ (.slice vo (cntN ss way (ss.length - 1)) vc)).setCell ⟨w.heap.size + 3, 0, none⟩ (.int .i64 0)).ownsRow w.heap.size 67 2 (.slice vo (cntN ss way (ss.length - 1)) vc) (cntN ss way (ss.length - 1)) (splVs ss way (cntN ss way (ss.length - 1))) := by
        obtain ⟨d1, d2, d3, d4, d5, d6, d7⟩ := DH.out
        have q := own_box (own_box hO (B := w.heap.size + 2) (by omega) (.slice vo (cntN ss way (ss.length - 1)) vc)) (B := w.heap.size + 3) (by omega) (.int .i64 0)
        exact ⟨q.1, q.2.imp id fun ⟨g, cap, cur, h1, h2, h3⟩ => ⟨g, cap, cur, h1, Nat.le_trans hn0s h2, h3⟩⟩
      have hKD : ((W.setCell ⟨w.heap.size + 2, 0, none⟩ (.slice vo (cntN ss way (ss.length - 1)) vc)).setCell ⟨w.heap.size + 3, 0, none⟩ (.int .i64 0)).heap[D]? = some (.deferred (some [])) := by
        obtain ⟨d1, d2, d3, d4, d5, d6, d7⟩ := DH.out
        rw [Below.heap_setCell _ _ _ _ (by show D ≠ w.heap.size + 3; omega), Below.heap_setCell _ _ _ _ (by show D ≠ w.heap.size + 2; omega)]; exact hK
      have DD : w.heap.size + 3 < D := by obtain ⟨d1, d2, d3, d4, d5, d6, d7⟩ := DH.out; omega
      have R4 := Lib.hid r4; have R5 := Lib.hid r5; have HGH := Lib.hid HG; have HOBH := Lib.hid HOB; have HKD := Lib.hid hKD
      clear hB hO hS hn hK e2 r4 r5 HG HOB hKD hsz0
      gi_wp2
      obtain ⟨W1, hW1⟩ : ∃ W1, ((W.setCell ⟨w.heap.size + 2, 0, none⟩ (.slice vo (cntN ss way (ss.length - 1)) vc)).setCell ⟨w.heap.size + 3, 0, none⟩ (.int .i64 0)) = W1 := ⟨_, rfl⟩
      have r4 := R4.out; have r5 := R5.out; have hg := HGH.out; have ho := HOBH.out; have hkd := HKD.out
      rw [hW1] at r4 r5 hg ho hkd
      try rw [hW1]
      refine ⟨by simp, .inl ⟨_, _, rfl, run_takeDeferred hkd, ?_⟩⟩
      have z4 : ∀ o, (W1.putObj D o).cell? ⟨w.heap.size + 2, 0, none⟩ = some (.slice vo (cntN ss way (ss.length - 1)) vc) := fun o => by
        have : (W1.putObj D o).heap[w.heap.size + 2]? = _ := (World.putObj_heap_other (by omega)).trans r4
        simp [World.cell?, this]
      have z5 : ∀ o, (W1.putObj D o).cell? ⟨w.heap.size + 3, 0, none⟩ = some (.int .i64 0) := fun o => by
        have : (W1.putObj D o).heap[w.heap.size + 3]? = _ := (World.putObj_heap_other (by omega)).trans r5
        simp [World.cell?, this]
      refine ⟨.tuple #[.slice vo (cntN ss way (ss.length - 1)) vc, .int .i64 0], ?_, ⟨⟨_, 0, rfl, _, HE.out, ownsRow_putObj ho _ hkd rfl⟩, grown_below (hg.trans (belowK_b (w := w) (Nat.le_refl _) W1 D _ _ (by omega) hkd rfl rfl))⟩⟩
      simp [results, Try.results49, go_sem, z4, z5]
    case stop =>
      rintro D c pre W hD ⟨k, hkl, hpre⟩ ⟨rfl, h1, r4, r5, hg⟩ hkd
      rw [sP_done HP.out w0 k pre hpre] at h1
      simp only at h1
      have HE : Hid ((0, (3 : Int)) = splitsE ⟨nm, sp, st, so, sc, ss, lo, lc, ls, to_, tc, ts⟩ way) := by
        have hm := cnt_mono HP.out w0 (a := k) (b := ss.length - 1) (by omega)
        have e2 : nP way (wayN ss k) = cntN ss way k := rfl
        show _ = _
        unfold splitsE
        rw [if_pos HCE.out, if_pos ⟨w0, w1⟩, if_neg (by show ¬ cntN ss way (ss.length - 1) ≤ 10000; omega)]
      have DD : w.heap.size + 3 < D := by obtain ⟨d1, d2, d3, d4, d5, d6, d7⟩ := DH.out; omega
      have R4 := Lib.hid r4; have R5 := Lib.hid r5; have HGH := Lib.hid hg; have HKD := Lib.hid hkd
      clear r4 r5 hg hkd h1 hpre hsz0
      gi_wp2
      refine ⟨by simp, .inl ⟨_, _, rfl, run_takeDeferred HKD.out, ?_⟩⟩
      have z4 : ∀ o, (W.putObj D o).cell? ⟨w.heap.size + 2, 0, none⟩ = some (.slice none 0 0) := fun o => by
        have : (W.putObj D o).heap[w.heap.size + 2]? = _ := (World.putObj_heap_other (by omega)).trans R4.out
        simp [World.cell?, this]
      have z5 : ∀ o, (W.putObj D o).cell? ⟨w.heap.size + 3, 0, none⟩ = some (.int .i64 3) := fun o => by
        have : (W.putObj D o).heap[w.heap.size + 3]? = _ := (World.putObj_heap_other (by omega)).trans R5.out
        simp [World.cell?, this]
      refine ⟨.tuple #[.slice none 0 0, .int .i64 3], ?_, ⟨⟨_, 3, rfl, 0, HE.out, World.ownsRow_nil _ _ _ _⟩, grown_below (HGH.out.trans (belowK_b (w := w) (Nat.le_refl _) W D _ _ (by omega) HKD.out rfl rfl))⟩⟩
      simp [results, Try.results49, go_sem, z4, z5]
  have hS0 : (w2.alloc (.cells #[.slice none 0 0] 62)).drew.grownBy (w2.alloc (.cells #[.slice none 0 0] 62)).drew none := World.grownBy.refl _ _
  have y3 : (w2.alloc (.cells #[.slice none 0 0] 62)).drew.cell? ⟨w.heap.size + 1, 0, none⟩ = some (.int .i64 way) := y2
  refine region_in_wide (S := fun V => (w2.alloc (.cells #[.slice none 0 0] 62)).drew.grownBy V none) hmx (by kernel_rfl) (by rintro ⟨a, w', h⟩; obtain ⟨⟨v, E, n, h1, _⟩, _⟩ := h; cases h1) hS0 (fun hHeld => ?_)
  refine wpAnyH_take (i := 0) (oi := ?oi0) (v := .int .i64 way) ?hi0 (by kernel_rfl) (by kernel_rfl) (by kernel_rfl) ?hq0 ?hy0 hHeld ?rest0
  case hi0 => simp only [List.getElem?_toArray, List.getElem?_cons_succ, List.getElem?_cons_zero, Option.some.injEq]; rfl
  case hq0 => exact fun _ _ _ h => h
  case hy0 =>
    refine Or.inl ⟨by rfl, fun V hV => ?_⟩
    have q1 := grown_cell hV y3; clear hV
    go_simp
  try simp only [Go.Act.put, List.setIfInBounds_toArray, List.set_cons_zero, List.set_cons_succ]
  refine wpAnyH_ready (rs := [1, 2]) (by kernel_rfl) (by simp) ?_
  refine AllReadyH.cons rfl (fun K hK => ?_) (AllReadyH.cons rfl (fun K hK => ?_) AllReadyH.nil)
  · go_simp
    refine hK.out _ _ ?_ (fun hHeld1 => ?_)
    · exact grown_trans hS0 (World.grownBy_alloc _ _ _)
    clear hK K
    try simp only [Go.Act.put, List.setIfInBounds_toArray, List.set_cons_zero, List.set_cons_succ]
    refine wpAnyH_ready (rs := [2]) (by kernel_rfl) (by simp) ?_
    refine AllReadyH.cons rfl (fun K hK => ?_) AllReadyH.nil
    go_simp
    refine hK.out _ _ ?_ (fun hHeld2 => ?_)
    · exact grown_trans hHeld1 (World.grownBy_alloc _ _ _)
    clear hK K
    try simp only [Go.Act.put, List.setIfInBounds_toArray, List.set_cons_zero, List.set_cons_succ]
    refine wpAnyH_ready (rs := [3]) (by kernel_rfl) (by simp) ?_
    refine AllReadyH.cons rfl (fun K hK => ?_) AllReadyH.nil
    go_simp
    refine hK.out _ _ ?_ (fun hHeld3 => ?_)
    · exact grown_trans (World.grownBy_alloc (w2.alloc (.cells #[.slice none 0 0] 62)).drew _ none) (World.grownBy_alloc _ _ none)
    clear hK K
    try simp only [Go.Act.put, List.setIfInBounds_toArray, List.set_cons_zero, List.set_cons_succ]
    refine wpAnyH_ready (rs := [4]) (by kernel_rfl) (by simp) ?_
    refine AllReadyH.cons rfl (fun K hK => ?_) AllReadyH.nil
    go_simp
    refine hK.out _ _ ?_ (fun hHeld4 => ?_)
    · exact grown_trans (World.grownBy_alloc (w2.alloc (.cells #[.slice none 0 0] 62)).drew _ none) (World.grownBy_alloc _ _ none)
    clear hK K
    try simp only [Go.Act.put, List.setIfInBounds_toArray, List.set_cons_zero, List.set_cons_succ]
    refine wpAnyH_done (by kernel_rfl) ?_ _
    refine NoPanic.normal ?_
    rw [hBl] at REST
    exact REST _ _ _ (Lib.hid HL.out.1)
  · go_simp
    refine hK.out _ _ ?_ (fun hHeld1 => ?_)
    · exact grown_trans hS0 (World.grownBy_alloc _ _ _)
    clear hK K
    try simp only [Go.Act.put, List.setIfInBounds_toArray, List.set_cons_zero, List.set_cons_succ]
    refine wpAnyH_ready (rs := [1]) (by kernel_rfl) (by simp) ?_
    refine AllReadyH.cons rfl (fun K hK => ?_) AllReadyH.nil
    go_simp
    refine hK.out _ _ ?_ (fun hHeld2 => ?_)
    · exact grown_trans hHeld1 (World.grownBy_alloc _ _ _)
    clear hK K
    try simp only [Go.Act.put, List.setIfInBounds_toArray, List.set_cons_zero, List.set_cons_succ]
    refine wpAnyH_ready (rs := [3]) (by kernel_rfl) (by simp) ?_
    refine AllReadyH.cons rfl (fun K hK => ?_) AllReadyH.nil
    go_simp
    refine hK.out _ _ ?_ (fun hHeld3 => ?_)
    · exact grown_trans (World.grownBy_alloc (w2.alloc (.cells #[.slice none 0 0] 62)).drew _ none) (World.grownBy_alloc _ _ none)
    clear hK K
    try simp only [Go.Act.put, List.setIfInBounds_toArray, List.set_cons_zero, List.set_cons_succ]
    refine wpAnyH_ready (rs := [4]) (by kernel_rfl) (by simp) ?_
    refine AllReadyH.cons rfl (fun K hK => ?_) AllReadyH.nil
    go_simp
    refine hK.out _ _ ?_ (fun hHeld4 => ?_)
    · exact grown_trans (World.grownBy_alloc (w2.alloc (.cells #[.slice none 0 0] 62)).drew _ none) (World.grownBy_alloc _ _ none)
    clear hK K
    try simp only [Go.Act.put, List.setIfInBounds_toArray, List.set_cons_zero, List.set_cons_succ]
    refine wpAnyH_done (by kernel_rfl) ?_ _
    refine NoPanic.normal ?_
    rw [hBl] at REST
    exact REST _ _ _ (Lib.hid HL.out.2)
end Go.Proofs.Ytgkhhfojioepgaa
namespace Go.Proofs.Ytgkhhfojioepgaa
open Go.RowKit Go.Shelf
set_option linter.unusedSimpArgs false
set_option linter.unusedVariables false

/-- When a sample is. -/
def tmS (ss : List Smp) (k : Nat) : Int := (smpD ss k).t
def rP {ss : List Smp} (M : Nat → Bool) (pre : List (StepNo ss)) : List SpV := pre.foldl (fun acc x => rowS (tmS ss) acc x.1 (M x.1)) []
theorem rP_snoc {ss : List Smp} (M : Nat → Bool) (pre : List (StepNo ss)) (x : StepNo ss) : rP M (pre ++ [x]) = rowS (tmS ss) (rP M pre) x.1 (M x.1) := by simp [rP]
theorem rowS_len (T : Nat → Int) (acc : List SpV) (k : Nat) (m : Bool) : (rowS T acc k m).length ≤ acc.length + 1 := by
  unfold rowS
  split
  · split
    · simp
    · simp
  · omega
theorem rP_len' {ss : List Smp} (M : Nat → Bool) : ∀ (pre : List (StepNo ss)) (acc : List SpV), (pre.foldl (fun acc x => rowS (tmS ss) acc x.1 (M x.1)) acc).length ≤ acc.length + pre.length
  | [], acc => by simp
  | x :: r, acc => by
    have := rP_len' M r (rowS (tmS ss) acc x.1 (M x.1))
    have := rowS_len (tmS ss) acc x.1 (M x.1)
    simp only [List.foldl_cons, List.length_cons]; omega
theorem rP_len {ss : List Smp} (M : Nat → Bool) (pre : List (StepNo ss)) : (rP M pre).length ≤ pre.length := by
  have := rP_len' M pre []
  simpa [rP] using this
theorem rP_done {ss : List Smp} (M : Nat → Bool) : ∀ (m : Nat) (pre : List (StepNo ss)), pre.map (·.1) = List.range m → rP M pre = rowL (tmS ss) M m
  | 0, pre, h => by
    have e : pre = [] := List.map_eq_nil_iff.1 (h.trans rfl)
    subst e; rfl
  | m + 1, pre, h => by
    rw [List.range_succ] at h
    obtain ⟨a, b, hab, ha, hb⟩ := List.map_eq_append_iff.1 h
    obtain ⟨x, hx, hx2⟩ := List.map_eq_singleton_iff.1 hb
    rw [hab, hx, rP_snoc, rP_done M m a ha, hx2]
    rfl
/-- The boxes of rows. -/
structure RwB (w : World) (sl : Value) (least : Int) (mv v : Value) (W : World) : Prop where
  y : Boxed W w.heap.size 3 (.int .i64 least)
  m : Boxed W (w.heap.size + 1) 87 mv
  l : Boxed W (w.heap.size + 2) 37 v
  s : Boxed W (w.heap.size + 3) 22 sl
  b : Below w.heap.size w W
section
variable {w : World} {sl : Value} {least : Int} {mv v : Value} {W W' : World}
theorem rwB_new (w : World) (sl : Value) (least : Int) (mv : Value) : RwB w sl least mv (.slice none 0 0) ((((w.alloc (.cells #[.int .i64 least] 3)).alloc (.cells #[mv] 87)).alloc (.cells #[.slice none 0 0] 37)).alloc (.cells #[sl] 22)) := by
  refine ⟨?_, ?_, ?_, ?_, ?_⟩
  · exact (((Boxed.new w _ _).alloc _).alloc _).alloc _
  · have := ((Boxed.new (w.alloc (.cells #[.int .i64 least] 3)) 87 mv).alloc (.cells #[.slice none 0 0] 37)).alloc (.cells #[sl] 22); simpa using this
  · have := (Boxed.new ((w.alloc (.cells #[.int .i64 least] 3)).alloc (.cells #[mv] 87)) 37 (.slice none 0 0)).alloc (.cells #[sl] 22); simpa using this
  · have := Boxed.new (((w.alloc (.cells #[.int .i64 least] 3)).alloc (.cells #[mv] 87)).alloc (.cells #[.slice none 0 0] 37)) 22 sl; simpa using this
  · exact below_grown (grown_trans (grown_trans (grown_trans (World.grownBy_alloc _ _ _) (World.grownBy_alloc _ _ _)) (World.grownBy_alloc _ _ _)) (World.grownBy_alloc _ _ _))
theorem RwB.grown (h : RwB w sl least mv v W) {row : Option Nat} (hg : W.grownBy W' row) (hr : ∀ r, row = some r → w.heap.size + 4 ≤ r) : RwB w sl least mv v W' :=
  ⟨sp_keep (base := w.heap.size + 4) h.y hg (by omega) hr, sp_keep (base := w.heap.size + 4) h.m hg (by omega) hr, sp_keep (base := w.heap.size + 4) h.l hg (by omega) hr, sp_keep (base := w.heap.size + 4) h.s hg (by omega) hr, h.b.grown hg h.b.size (fun k e => by have := hr k e; omega)⟩
theorem RwB.own (h : RwB w sl least mv v W) {row : Option Nat} {B : Nat} (hB : w.heap.size ≤ B) (hg : W.grownBy W' row) (hr : ∀ r, row = some r → B ≤ r ∧ ∃ o : Obj, W.heap[r]? = some o ∧ o.isCells = false) : RwB w sl least mv v W' := by
  have k : ∀ {C : Nat} {t : TypeId} {u : Value}, Boxed W C t u → Boxed W' C t u := fun {C t u} hb => hb.kept hg (fun e => by
    obtain ⟨_, o, ho, hc⟩ := hr C e.symm
    rw [show W.heap[C]? = _ from hb] at ho; cases ho; cases hc)
  exact ⟨k h.y, k h.m, k h.l, k h.s, h.b.grown hg h.b.size (fun r e => Nat.le_trans hB (hr r e).1)⟩
theorem RwB.setL (h : RwB w sl least mv v W) (u : Value) : RwB w sl least mv u (W.setCell ⟨w.heap.size + 2, 0, none⟩ u) :=
  ⟨h.y.other (by omega) _, h.m.other (by omega) _, h.l.set u, h.s.other (by omega) _, h.b.setCell (by show _ ≤ w.heap.size + 2; omega) _⟩
theorem RwB.setR (h : RwB w sl least mv v W) {g : Nat} (hg : w.heap.size + 4 ≤ g) (i : Nat) (u : Value) : RwB w sl least mv v (W.setCell ⟨g, i, none⟩ u) := by
  have k : ∀ {C : Nat} {t : TypeId} {z : Value}, Boxed W C t z → C ≠ g → Boxed (W.setCell ⟨g, i, none⟩ u) C t z := fun {C t z} hb hne => (Below.heap_setCell _ _ _ _ (by show C ≠ g; exact hne)).trans hb
  exact ⟨k h.y (by omega), k h.m (by omega), k h.l (by omega), k h.s (by omega), h.b.setCell (by show _ ≤ g; omega) _⟩
end
theorem sp_set : ∀ (L : List SpV) (m : Nat) (h : m < L.length) (u : Int), (L.set m ⟨L[m].fr, u⟩).flatMap spCs = (L.flatMap spCs).set (m * 2 + 1) (.int .i64 u)
  | [], m, h, _ => absurd h (by simp)
  | x :: r, 0, _, u => by simp [spCs]
  | x :: r, m + 1, h, u => by
    have ih := sp_set r m (by simpa using h) u
    rw [List.set_cons_succ, List.flatMap_cons, List.flatMap_cons]
    simp only [List.getElem_cons_succ]
    rw [ih, List.set_append_right _ _ (by simp [spCs]; omega)]
    congr 2
    simp [spCs]; omega
theorem own_baseR {w : World} {base b2 s n : Nat} {e : TypeId} {v : Value} {xs : List Value} (h : w.ownsRow base e s v n xs) (hb : b2 ≤ base) : w.ownsRow b2 e s v n xs := by
  refine ⟨h.1, ?_⟩
  rcases h.2 with q | ⟨g, cap, cur, e1, e2, rest⟩
  · exact .inl q
  · exact .inr ⟨g, cap, cur, e1, Nat.le_trans hb e2, rest⟩
/-- What DeleteFunc is asked: is a span too short? -/
theorem short_is (f t least : Int) (B : Nat) (hf : -2000000 ≤ f ∧ f ≤ 2000000) (ht : -2000000 ≤ t ∧ t ≤ 2000000) (hl : least ≤ 2000000) (w : World) (hb : w.cell? ⟨B, 0, none⟩ = some (.int .i64 least)) :
    Calls Try.prog 132 (#[.agg #[.int .i64 f, .int .i64 t]] ++ #[.pointer (some ⟨B, 0, none⟩)]) w fun e w' => e = .returned (.bool (decide (t - f + 1 < least))) ∧ w.grownBy w' none := by
  have r1 : IntKind.i64.wrap (t - f) = t - f := IntWalk.i64_in _ (by omega)
  have r2 : IntKind.i64.wrap (t - f + 1) = t - f + 1 := IntWalk.i64_in _ (by omega)
  have hb2 : (w.alloc (.cells #[.int .i64 f, .int .i64 t] 45)).cell? ⟨B, 0, none⟩ = some (.int .i64 least) := grown_cell (World.grownBy_alloc _ _ _) hb
  show Calls Try.prog 132 #[.agg #[.int .i64 f, .int .i64 t], .pointer (some ⟨B, 0, none⟩)] w _
  go_enter Try.func132, Try.ntmps132
  go_wp2_with fail
  go_ret
  exact ⟨by first | rfl | simp, World.grownBy_alloc _ _ _⟩
end Go.Proofs.Ytgkhhfojioepgaa
