/- Where somebody was between two samples: purely, and the contracts of between on both sides. -/
import Derived.Test.YtgkhhfojioepgaaTSOk
import Derived.Test.YtgkhhfojioepgaaQScale
import Derived.Test.YtgkhhfojioepgaaQRef
namespace Go.Proofs.Ytgkhhfojioepgaa
open Go.RowKit
set_option linter.unusedSimpArgs false
set_option linter.unusedVariables false

/-- A number after a part of the whole. -/
noncomputable def btwV (p q part whole : Int) : Int := p + (scaleV (q - p) part whole 4).1
theorem scale_near {a num den : Int} (a0 : -200000000 ≤ a) (a1 : a ≤ 200000000) (h0 : 0 ≤ num) (h1 : num ≤ den) (hd : 1 ≤ den) (hd1 : den ≤ 1000000) : -200000001 ≤ (scaleV a num den 4).1 ∧ (scaleV a num den 4).1 ≤ 200000001 ∧ (scaleV a num den 4).2 = 0 := by
  have b0 : -200000000 * den ≤ a * num := by
    rcases Int.lt_or_le a 0 with h | h
    · have q1 : a * den ≤ a * num := Int.mul_le_mul_of_nonpos_left (by omega) h1
      have q2 : -200000000 * den ≤ a * den := Int.mul_le_mul_of_nonneg_right a0 (by omega)
      omega
    · have := Int.mul_nonneg h h0; omega
  have b1 : a * num ≤ 200000000 * den := by
    rcases Int.lt_or_le a 0 with h | h
    · have := Int.mul_nonneg (show 0 ≤ -a by omega) h0
      rw [Int.neg_mul] at this; omega
    · have q1 : a * num ≤ a * den := Int.mul_le_mul_of_nonneg_left h1 h
      have q2 : a * den ≤ 200000000 * den := Int.mul_le_mul_of_nonneg_right a1 (by omega)
      omega
  have d0 : -200000000 ≤ a * num / den := by rw [Int.le_ediv_iff_mul_le (by omega)]; exact b0
  have d1 : a * num / den ≤ 200000000 := by
    have := Int.ediv_le_ediv (c := den) (by omega) b1
    rwa [Int.mul_ediv_cancel _ (by omega)] at this
  have e : rndV 4 (a * num) den = a * num / den ∨ rndV 4 (a * num) den = a * num / den + 1 := by
    unfold rndV; split <;> simp
  have e2 : scaleV a num den 4 = (rndV 4 (a * num) den, 0) := by
    unfold scaleV big
    rw [if_neg (by omega), if_neg (by omega), if_neg (by omega)]
  rw [e2]
  exact ⟨by simp only; omega, by simp only; omega, rfl⟩

set_option maxHeartbeats 800000 in
theorem between_is (p q part whole : Int) (p0 : -100000000 ≤ p) (p1 : p ≤ 100000000) (q0 : -100000000 ≤ q) (q1 : q ≤ 100000000) (h0 : 0 ≤ part) (h1 : part ≤ whole) (hd : 1 ≤ whole) (hd1 : whole ≤ 1000000) (w : World) {n : Int} (h : Hid (btwV p q part whole = n)) :
    Calls Try.prog 162 #[.int .i64 p, .int .i64 q, .int .i64 part, .int .i64 whole] w fun e w' => e = .returned (.int .i64 n) ∧ w.grownBy w' none := by
  obtain ⟨b0, b1, b2⟩ := scale_near (a := q - p) (num := part) (den := whole) (by omega) (by omega) h0 h1 hd hd1
  have hv := h.out
  unfold btwV at hv
  obtain ⟨s, hs⟩ : ∃ s, (scaleV (q - p) part whole 4).1 = s := ⟨_, rfl⟩
  rw [hs] at b0 b1 hv
  have HS := Lib.hid hs; have HE := Lib.hid b2; have HV := Lib.hid hv
  have rs : IntKind.i64.wrap (q - p) = q - p := IntWalk.i64_in _ (by omega)
  have ra : IntKind.i64.wrap (p + s) = p + s := IntWalk.i64_in _ (by omega)
  clear h hv hs b2
  go_enter Try.func162, Try.ntmps162
  go_wp2_with fail
  refine (scale_any (q - p) part whole 4 (by omega) (by omega) (by omega) (by omega) (by omega) (by omega) _).mono ?_; rintro e w1 ⟨rfl, hg1⟩
  rw [HS.out, HE.out]
  have G := Lib.hid hg1
  clear hg1
  go_wp2_with fail
  go_ret
  exact ⟨ret_int HV.out, G.out⟩

set_option maxHeartbeats 800000 in
theorem rbetween_is (p q part whole : Int) (p0 : -100000000 ≤ p) (p1 : p ≤ 100000000) (q0 : -100000000 ≤ q) (q1 : q ≤ 100000000) (h0 : 0 ≤ part) (h1 : part ≤ whole) (hd : 1 ≤ whole) (hd1 : whole ≤ 1000000) (w : World) {n : Int} (h : Hid (btwV p q part whole = n)) :
    Calls Try.prog 97 #[.int .i64 p, .int .i64 q, .int .i64 part, .int .i64 whole] w fun e w' => e = .returned (.int .i64 n) ∧ w.grownBy w' none := by
  obtain ⟨b0, b1, b2⟩ := scale_near (a := q - p) (num := part) (den := whole) (by omega) (by omega) h0 h1 hd hd1
  have hv := h.out
  unfold btwV at hv
  obtain ⟨s, hs⟩ : ∃ s, (scaleV (q - p) part whole 4).1 = s := ⟨_, rfl⟩
  rw [hs] at b0 b1 hv
  have HS := Lib.hid hs; have HE := Lib.hid b2; have HV := Lib.hid hv
  have rs : IntKind.i64.wrap (q - p) = q - p := IntWalk.i64_in _ (by omega)
  have ra : IntKind.i64.wrap (p + s) = p + s := IntWalk.i64_in _ (by omega)
  clear h hv hs b2
  go_enter Try.func97, Try.ntmps97
  go_wp2_with fail
  refine (refScale_any (q - p) part whole 4 (by omega) (by omega) (by omega) (by omega) (by omega) (by omega) _).mono ?_; rintro e w1 ⟨rfl, hg1⟩
  rw [HS.out, HE.out]
  have G := Lib.hid hg1
  clear hg1
  go_wp2_with fail
  go_ret
  exact ⟨ret_int HV.out, G.out⟩

/-- What is asked of a sample: its place, its height, its time. -/
def SmpIn (x : Smp) : Prop := (0 ≤ x.t ∧ x.t ≤ 1000000) ∧ inPlane x ∧ -100000 ≤ x.z ∧ x.z ≤ 100000
/-- Where somebody was at a second between two samples. -/
noncomputable def onV (p q : Smp) (s : Int) : Smp := ⟨s, btwV p.x q.x (s - p.t) (q.t - p.t), btwV p.y q.y (s - p.t) (q.t - p.t), btwV p.z q.z (s - p.t) (q.t - p.t), p.p, p.q, p.s⟩
def smpVal (x : Smp) : Value := .agg #[.int .i64 x.t, .int .i64 x.x, .int .i64 x.y, .int .i64 x.z, .int .i64 x.p, .int .i64 x.q, .int .i64 x.s]
end Go.Proofs.Ytgkhhfojioepgaa
