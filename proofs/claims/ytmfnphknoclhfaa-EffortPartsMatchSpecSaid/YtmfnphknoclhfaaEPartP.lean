/- What an activity was from a second on, before another one: purely. -/
import Derived.Test.YtmfnphknoclhfaaEShare
import Derived.Test.YtmfnphknoclhfaaTOk
import Derived.Test.YtmfnphknoclhfaaTSmp
namespace Go.Proofs.Ytmfnphknoclhfaa
open Go.RowKit

/-- A second, put into a step. -/
def inStep (p q : Smp) (x : Int) : Int := if x < p.t then p.t else if q.t < x then q.t else x
/-- What there is of an amount ahead of a second; of a measured value; of its seconds. -/
noncomputable def gA (kind : Int) (p q : Smp) (x : Int) : Int := upto (amtE p q kind) (q.t - p.t) (inStep p q x - p.t)
def gV (kind : Int) (p q : Smp) (x : Int) : Int := if valE p q kind < 0 then 0 else valE p q kind * (inStep p q x - p.t)
def gK (kind : Int) (p q : Smp) (x : Int) : Int := if valE p q kind < 0 then 0 else inStep p q x - p.t
theorem gA_eq (kind : Int) (p q : Smp) (x : Int) : gA kind p q x = upto (amtE p q kind) (q.t - p.t) (inStep p q x - p.t) := rfl
theorem gV_eq (kind : Int) (p q : Smp) (x : Int) : gV kind p q x = if valE p q kind < 0 then 0 else valE p q kind * (inStep p q x - p.t) := rfl
theorem gK_eq (kind : Int) (p q : Smp) (x : Int) : gK kind p q x = if valE p q kind < 0 then 0 else inStep p q x - p.t := rfl
/-- The first steps together. -/
noncomputable def sumG (g : Smp → Smp → Int → Int) (ss : List Smp) (x : Int) : Nat → Int
  | 0 => 0
  | i + 1 => sumG g ss x i + g (smpD ss i) (smpD ss (i + 1)) x

theorem upto_mono {A s a b : Int} (hA : 0 ≤ A) (hs : 1 ≤ s) (ha : 0 ≤ a) (hab : a ≤ b) : upto A s a ≤ upto A s b := by
  unfold upto
  rw [Int.tdiv_eq_ediv_of_nonneg (Int.mul_nonneg hA ha), Int.tdiv_eq_ediv_of_nonneg (Int.mul_nonneg hA (by omega))]
  exact Int.ediv_le_ediv (by omega) (Int.mul_le_mul_of_nonneg_left hab hA)
theorem upto_bd {A s a : Int} (hA : 0 ≤ A) (hs : 1 ≤ s) (ha : 0 ≤ a) (has : a ≤ s) : 0 ≤ upto A s a ∧ upto A s a ≤ A := by
  unfold upto
  rw [Int.tdiv_eq_ediv_of_nonneg (Int.mul_nonneg hA ha)]
  refine ⟨Int.ediv_nonneg (Int.mul_nonneg hA ha) (by omega), ?_⟩
  have h := Int.mul_le_mul_of_nonneg_left has hA
  have h2 := Int.ediv_le_ediv (by omega : 0 < s) h
  rwa [Int.mul_ediv_cancel _ (by omega)] at h2
theorem inStep_bd {p q : Smp} (h : TimesOk p q) (x : Int) : 0 ≤ inStep p q x - p.t ∧ inStep p q x - p.t ≤ q.t - p.t := by
  have a := h.pq
  unfold inStep
  split
  · omega
  · split <;> omega
/-- Where a part lies in a step. -/
theorem inStep_cut {p q : Smp} (h : TimesOk p q) {f t : Int} (hft : f ≤ t) :
    (max f p.t - p.t < min t q.t - p.t → inStep p q f - p.t = max f p.t - p.t ∧ inStep p q t - p.t = min t q.t - p.t) ∧ (¬ max f p.t - p.t < min t q.t - p.t → inStep p q f = inStep p q t) := by
  have a := h.pq
  refine ⟨fun hc => ?_, fun hc => ?_⟩
  · unfold inStep; split <;> split <;> (try split) <;> (try split) <;> omega
  · unfold inStep; split <;> split <;> (try split) <;> (try split) <;> omega

/-- A list of samples that are in order and in the plane. -/
structure SmpsIn (ss : List Smp) : Prop where
  len : (ss.length : Int) ≤ 20000
  step : ∀ i, i + 1 < ss.length → StepIn (smpD ss i) (smpD ss (i + 1))
  val : ∀ i, i < ss.length → (smpD ss i).p ≤ 3000 ∧ (smpD ss i).q ≤ 3000 ∧ (smpD ss i).s ≤ 3000
theorem val_le {ss : List Smp} (h : SmpsIn ss) {i : Nat} (hi : i + 1 < ss.length) (kind : Int) : valE (smpD ss i) (smpD ss (i + 1)) kind ≤ 3000 := by
  have := h.val i (by omega)
  unfold valE
  split
  · omega
  · split
    · omega
    · split <;> omega

theorem sumA_bd {ss : List Smp} (h : SmpsIn ss) (kind f t : Int) (hft : f ≤ t) : ∀ i, i < ss.length → 0 ≤ sumG (gA kind) ss t i - sumG (gA kind) ss f i ∧ sumG (gA kind) ss t i - sumG (gA kind) ss f i ≤ i * 300000000
  | 0, _ => by simp [sumG]
  | i + 1, hi => by
    have ih := sumA_bd h kind f t hft i (by omega)
    have hs := h.step i hi
    have hA := amtE_bd hs kind
    have b1 := inStep_bd hs.t f
    have b2 := inStep_bd hs.t t
    have hp := hs.t.pq
    have u1 := upto_bd hA.1 (by omega : 1 ≤ (smpD ss (i + 1)).t - (smpD ss i).t) b2.1 b2.2
    have u2 := upto_bd hA.1 (by omega : 1 ≤ (smpD ss (i + 1)).t - (smpD ss i).t) b1.1 b1.2
    have hm : inStep (smpD ss i) (smpD ss (i + 1)) f - (smpD ss i).t ≤ inStep (smpD ss i) (smpD ss (i + 1)) t - (smpD ss i).t := by
      unfold inStep; split <;> split <;> (try split) <;> (try split) <;> omega
    have m := upto_mono hA.1 (by omega : 1 ≤ (smpD ss (i + 1)).t - (smpD ss i).t) b1.1 hm
    rw [sumG, sumG]
    simp only [gA_eq]
    omega
theorem sumK_bd {ss : List Smp} (h : SmpsIn ss) (kind f t : Int) (hft : f ≤ t) : ∀ i, i < ss.length → 0 ≤ sumG (gK kind) ss t i - sumG (gK kind) ss f i ∧ sumG (gK kind) ss t i - sumG (gK kind) ss f i ≤ i * 1000000
  | 0, _ => by simp [sumG]
  | i + 1, hi => by
    have ih := sumK_bd h kind f t hft i (by omega)
    have hs := h.step i hi
    have b1 := inStep_bd hs.t f
    have b2 := inStep_bd hs.t t
    have hp := hs.t.pq; have hq := hs.t.q1; have hr := hs.t.p0
    have hm : inStep (smpD ss i) (smpD ss (i + 1)) f - (smpD ss i).t ≤ inStep (smpD ss i) (smpD ss (i + 1)) t - (smpD ss i).t := by
      unfold inStep; split <;> split <;> (try split) <;> (try split) <;> omega
    rw [sumG, sumG]
    simp only [gK_eq]
    split <;> omega
theorem sumV_bd {ss : List Smp} (h : SmpsIn ss) (kind f t : Int) (hft : f ≤ t) : ∀ i, i < ss.length → 0 ≤ sumG (gV kind) ss t i - sumG (gV kind) ss f i ∧ sumG (gV kind) ss t i - sumG (gV kind) ss f i ≤ i * 3000000000
  | 0, _ => by simp [sumG]
  | i + 1, hi => by
    have ih := sumV_bd h kind f t hft i (by omega)
    have hs := h.step i hi
    have b1 := inStep_bd hs.t f
    have b2 := inStep_bd hs.t t
    have hp := hs.t.pq; have hq := hs.t.q1; have hr := hs.t.p0
    have hm : inStep (smpD ss i) (smpD ss (i + 1)) f - (smpD ss i).t ≤ inStep (smpD ss i) (smpD ss (i + 1)) t - (smpD ss i).t := by
      unfold inStep; split <;> split <;> (try split) <;> (try split) <;> omega
    have hv := val_le h hi kind
    rw [sumG, sumG]
    simp only [gV_eq]
    split
    · omega
    · have e : ∀ v a b : Int, v * b - v * a = v * (b - a) := fun v a b => by rw [Int.mul_sub]
      generalize valE (smpD ss i) (smpD ss (i + 1)) kind = v at *
      generalize inStep (smpD ss i) (smpD ss (i + 1)) t - (smpD ss i).t = b at *
      generalize inStep (smpD ss i) (smpD ss (i + 1)) f - (smpD ss i).t = a at *
      have hd : 0 ≤ v * (b - a) := Int.mul_nonneg (by omega) (by omega)
      have hu : v * (b - a) ≤ 3000 * 1000000 := Int.mul_le_mul hv (by omega) (by omega) (by omega)
      have := e v a b
      omega

end Go.Proofs.Ytmfnphknoclhfaa
