/- Fill, purely: a field of samples, with its gaps filled. -/
import Derived.Test.YtgkhhfojioepgaaTMissP
import Derived.Test.YtgkhhfojioepgaaBaseF
namespace Go.Proofs.Ytgkhhfojioepgaa
open Go.RowKit
set_option linter.unusedSimpArgs false
set_option linter.unusedVariables false

def smpGet (c : Nat) (x : Smp) : Int := if c = 4 then x.p else if c = 5 then x.q else if c = 6 then x.s else x.z
def smpSet (c : Nat) (x : Smp) (y : Int) : Smp := if c = 4 then { x with p := y } else if c = 5 then { x with q := y } else if c = 6 then { x with s := y } else { x with z := y }
def fldB (c : Nat) : Int := if c = 5 then 3000 else 300
/-- Pulse, power and steps. -/
def Fld (c : Nat) : Prop := c = 4 ∨ c = 5 ∨ c = 6
theorem get_set (c : Nat) (x : Smp) (y : Int) : smpGet c (smpSet c x y) = y := by
  unfold smpGet smpSet; split
  · rfl
  · split
    · rfl
    · split <;> rfl
theorem set_t (c : Nat) (x : Smp) (y : Int) : (smpSet c x y).t = x.t := by
  unfold smpSet; split
  · rfl
  · split
    · rfl
    · split <;> rfl
theorem set_xy (c : Nat) (x : Smp) (y : Int) : (smpSet c x y).x = x.x ∧ (smpSet c x y).y = x.y := by
  unfold smpSet; split
  · exact ⟨rfl, rfl⟩
  · split
    · exact ⟨rfl, rfl⟩
    · split <;> exact ⟨rfl, rfl⟩
theorem set_z {c : Nat} (hc : Fld c) (x : Smp) (y : Int) : (smpSet c x y).z = x.z := by
  rcases hc with rfl | rfl | rfl <;> rfl
theorem get_other {c d : Nat} (hc : Fld c) (hd : Fld d) (h : d ≠ c) (x : Smp) (y : Int) : smpGet d (smpSet c x y) = smpGet d x := by
  rcases hc with rfl | rfl | rfl <;> rcases hd with rfl | rfl | rfl <;> first | rfl | exact absurd rfl h
theorem get_bd {ss : List Smp} (HS : SOk ss) {c : Nat} (hc : Fld c) {i : Nat} (hi : i < ss.length) : -1 ≤ smpGet c (smpD ss i) ∧ smpGet c (smpD ss i) ≤ fldB c := by
  have h := (HS.inn i hi).2.2.2.2
  rcases hc with rfl | rfl | rfl
  · exact h.1
  · exact h.2.1
  · exact h.2.2
theorem smpD_set (L : List Smp) (i m : Nat) (x : Smp) : smpD (L.set i x) m = if i = m ∧ i < L.length then x else smpD L m := by
  unfold smpD
  rw [List.getD_eq_getElem?_getD, List.getD_eq_getElem?_getD, List.getElem?_set]
  by_cases h : i = m
  · subst h
    by_cases h2 : i < L.length
    · simp [h2]
    · simp [h2]
  · simp [h]

theorem btw_pos {p q part whole H : Int} (p0 : 0 ≤ p) (p1 : p ≤ H) (q0 : 0 ≤ q) (q1 : q ≤ H) (hH : H ≤ 3000) (h0 : 0 ≤ part) (h1 : part ≤ whole) (hd : 1 ≤ whole) (hd1 : whole ≤ 1000000) : 0 ≤ btwV p q part whole ∧ btwV p q part whole ≤ H := by
  have hs := scale_near (a := q - p) (num := part) (den := whole) (by omega) (by omega) h0 h1 hd hd1
  have e : (scaleV (q - p) part whole 4).1 = rndV 4 ((q - p) * part) whole := by
    have h2 := hs.2.2
    unfold scaleV at h2 ⊢
    rw [if_neg (by omega), if_neg (by omega)] at h2 ⊢
    split at h2
    · simp at h2
    · rename_i hn; rw [if_neg hn]
  unfold btwV
  rw [e]
  rcases Int.lt_or_le (q - p) 0 with c | c
  · have a1 : (q - p) * part ≤ 0 := Int.mul_nonpos_of_nonpos_of_nonneg (by omega) h0
    have a2 : -((p - q) * whole) ≤ (q - p) * part := by
      have r1 : (q - p) * whole ≤ (q - p) * part := Int.mul_le_mul_of_nonpos_left (by omega) h1
      have r2 : -((p - q) * whole) = (q - p) * whole := by rw [← Int.neg_mul]; congr 1; omega
      rw [r2]; exact r1
    have := rnd_in_neg hd a1 a2
    omega
  · have a1 : 0 ≤ (q - p) * part := Int.mul_nonneg c h0
    have a2 : (q - p) * part ≤ (q - p) * whole := Int.mul_le_mul_of_nonneg_left h1 c
    have := rnd_in hd a1 a2
    omega

/-- The number of the last one ahead of k that is known, or -1. -/
def knA (c : Nat) (A : List Smp) : Nat → Int
  | 0 => -1
  | k + 1 => if smpGet c (smpD A k) < 0 then knA c A k else (k : Int)
theorem kn_is (c : Nat) (A : List Smp) : ∀ k, (-1 ≤ knA c A k ∧ knA c A k < (k : Int)) ∧ (0 ≤ knA c A k → 0 ≤ smpGet c (smpD A (knA c A k).toNat)) ∧ ∀ m : Nat, knA c A k < (m : Int) → m < k → smpGet c (smpD A m) < 0
  | 0 => ⟨⟨by simp [knA], by simp [knA]⟩, fun h => by simp [knA] at h, fun m _ h => absurd h (Nat.not_lt_zero m)⟩
  | k + 1 => by
    obtain ⟨⟨a, b⟩, d, e⟩ := kn_is c A k
    unfold knA
    by_cases h : smpGet c (smpD A k) < 0
    · rw [if_pos h]
      refine ⟨⟨a, by omega⟩, d, fun m h1 h2 => ?_⟩
      rcases Nat.lt_or_ge m k with q | q
      · exact e m h1 q
      · obtain rfl : m = k := by omega
        exact h
    · rw [if_neg h]
      refine ⟨⟨by omega, by omega⟩, fun _ => ?_, fun m h1 h2 => by omega⟩
      rw [Int.toNat_natCast]; omega
/-- What is between. -/
noncomputable def btA (c : Nat) (A : List Smp) (i j k : Nat) : Int := btwV (smpGet c (smpD A i)) (smpGet c (smpD A j)) ((smpD A k).t - (smpD A i).t) ((smpD A j).t - (smpD A i).t)
/-- A gap is filled, up to m of its samples. -/
noncomputable def brA (c : Nat) (A L : List Smp) (i j : Nat) : Nat → List Smp
  | 0 => L
  | m + 1 => (brA c A L i j m).set (i + 1 + m) (smpSet c (smpD (brA c A L i j m) (i + 1 + m)) (btA c A i j (i + 1 + m)))
/-- One field, up to k samples. -/
noncomputable def fiA (c : Nat) (gap : Int) (A L : List Smp) : Nat → List Smp
  | 0 => L
  | k + 1 => if smpGet c (smpD A k) < 0 then fiA c gap A L k else if 0 ≤ knA c A k ∧ (smpD A k).t - (smpD A (knA c A k).toNat).t ≤ gap then brA c A (fiA c gap A L k) (knA c A k).toNat k (k - (knA c A k).toNat - 1) else fiA c gap A L k
theorem br_len (c : Nat) (A L : List Smp) (i j : Nat) : ∀ m, (brA c A L i j m).length = L.length
  | 0 => rfl
  | m + 1 => by unfold brA; rw [List.length_set, br_len c A L i j m]
theorem fi_len (c : Nat) (gap : Int) (A L : List Smp) : ∀ k, (fiA c gap A L k).length = L.length
  | 0 => rfl
  | k + 1 => by
    unfold fiA; split
    · exact fi_len c gap A L k
    · split
      · rw [br_len]; exact fi_len c gap A L k
      · exact fi_len c gap A L k
theorem br_at (c : Nat) (A L : List Smp) (i j : Nat) (hj : j ≤ L.length) : ∀ m, i + 1 + m ≤ j → ∀ k, smpD (brA c A L i j m) k = if i < k ∧ k < i + 1 + m then smpSet c (smpD L k) (btA c A i j k) else smpD L k
  | 0, _, k => by unfold brA; rw [if_neg (by omega)]
  | m + 1, hm, k => by
    unfold brA
    rw [smpD_set, br_len, br_at c A L i j hj m (by omega) (i + 1 + m), if_neg (by omega : ¬ (i < i + 1 + m ∧ i + 1 + m < i + 1 + m))]
    by_cases h : i + 1 + m = k
    · rw [if_pos ⟨h, by omega⟩, if_pos (by omega), h]
    · rw [if_neg (fun q => h q.1), br_at c A L i j hj m (by omega) k]
      by_cases h2 : i < k ∧ k < i + 1 + m
      · rw [if_pos h2, if_pos (by omega)]
      · rw [if_neg h2, if_neg (by omega)]
/-- A list that has the seconds, and this field, of another one, but where the field lacked there. -/
structure Agr (c : Nat) (A L : List Smp) (k : Nat) : Prop where
  len : L.length = A.length
  t : ∀ m, (smpD L m).t = (smpD A m).t
  f : ∀ m, (k ≤ m ∨ 0 ≤ smpGet c (smpD A m)) → smpGet c (smpD L m) = smpGet c (smpD A m)
theorem bt_bd {A : List Smp} (HS : SOk A) {c : Nat} (hc : Fld c) {i j k : Nat} (hik : i < k) (hkj : k < j) (hj : j < A.length) (gi : 0 ≤ smpGet c (smpD A i)) (gj : 0 ≤ smpGet c (smpD A j)) : 0 ≤ btA c A i j k ∧ btA c A i j k ≤ fldB c := by
  have a := get_bd HS hc (i := i) (by omega)
  have b := get_bd HS hc (i := j) hj
  have t1 := times_lt HS hik (by omega)
  have t2 := times_lt HS hkj hj
  have u := (HS.inn i (by omega)).1
  have v := (HS.inn j hj).2.1
  unfold btA
  exact btw_pos gi a.2 gj b.2 (by unfold fldB; split <;> omega) (by omega) (by omega) (by omega) (by omega)
/-- What one field's filling changes. -/
structure FiR (c : Nat) (A L M : List Smp) (k : Nat) : Prop where
  len : M.length = L.length
  at_ : ∀ m, smpD M m = smpD L m ∨ (m < k ∧ smpGet c (smpD A m) < 0 ∧ ∃ y, 0 ≤ y ∧ y ≤ fldB c ∧ smpD M m = smpSet c (smpD L m) y)
theorem fi_inv {A L : List Smp} (HS : SOk A) {c : Nat} (hc : Fld c) (gap : Int) (hl : L.length = A.length) : ∀ k, k ≤ A.length → FiR c A L (fiA c gap A L k) k
  | 0, _ => ⟨rfl, fun m => .inl rfl⟩
  | k + 1, hk => by
    have ih := fi_inv HS hc gap hl k (by omega)
    have up : FiR c A L (fiA c gap A L k) (k + 1) := ⟨ih.len, fun m => (ih.at_ m).imp_right fun ⟨a, b⟩ => ⟨by omega, b⟩⟩
    unfold fiA; split
    · exact up
    · rename_i h1
      split
      · rename_i h2
        obtain ⟨⟨_, b⟩, d, e⟩ := kn_is c A k
        have d := d h2.1
        obtain ⟨i, hi⟩ : ∃ i : Nat, knA c A k = (i : Int) := ⟨(knA c A k).toNat, by omega⟩
        rw [hi] at b d e ⊢
        rw [Int.toNat_natCast] at d ⊢
        refine ⟨by rw [br_len]; exact ih.len, fun m => ?_⟩
        rw [br_at c A _ i k (by rw [ih.len, hl]; omega) (k - i - 1) (by omega) m]
        by_cases h3 : i < m ∧ m < i + 1 + (k - i - 1)
        · rw [if_pos h3]
          have hy := bt_bd HS hc h3.1 (show m < k by omega) (by omega) d (by omega)
          have hm := e m (by omega) (by omega)
          refine .inr ⟨by omega, hm, _, hy.1, hy.2, ?_⟩
          rcases ih.at_ m with q | ⟨_, _, z, _, _, q⟩
          · rw [q]
          · rw [q]; rcases hc with rfl | rfl | rfl <;> rfl
        · rw [if_neg h3]; exact up.at_ m
      · exact up
theorem FiR.agr {c : Nat} {A L M : List Smp} {k : Nat} (h : FiR c A L M k) (ha : Agr c A L 0) : Agr c A M k :=
  ⟨by rw [h.len]; exact ha.len, fun m => by
    rcases h.at_ m with q | ⟨_, _, y, _, _, q⟩
    · rw [q]; exact ha.t m
    · rw [q, set_t]; exact ha.t m, fun m hm => by
    rcases h.at_ m with q | ⟨q1, q2, _⟩
    · rw [q]; exact ha.f m (.inl (Nat.zero_le _))
    · exfalso; rcases hm with q3 | q3 <;> omega⟩
theorem FiR.next {c d : Nat} (hc : Fld c) (hd : Fld d) (hcd : d ≠ c) {A L M : List Smp} {k : Nat} (h : FiR c A L M k) (ha : Agr d A L 0) : Agr d A M 0 :=
  ⟨by rw [h.len]; exact ha.len, fun m => by
    rcases h.at_ m with q | ⟨_, _, y, _, _, q⟩
    · rw [q]; exact ha.t m
    · rw [q, set_t]; exact ha.t m, fun m hm => by
    rcases h.at_ m with q | ⟨_, _, y, _, _, q⟩
    · rw [q]; exact ha.f m hm
    · rw [q, get_other hc hd hcd]; exact ha.f m hm⟩
theorem Agr.refl (c : Nat) (A : List Smp) : Agr c A A 0 := ⟨rfl, fun _ => rfl, fun _ _ => rfl⟩
/-- Fill of all three. -/
noncomputable def fill1 (gap : Int) (A : List Smp) : List Smp := fiA 4 gap A A A.length
noncomputable def fill2 (gap : Int) (A : List Smp) : List Smp := fiA 5 gap A (fill1 gap A) A.length
noncomputable def fill3 (gap : Int) (A : List Smp) : List Smp := fiA 6 gap A (fill2 gap A) A.length
theorem agr2 {A : List Smp} (HS : SOk A) (gap : Int) : Agr 5 A (fill1 gap A) 0 :=
  (fi_inv HS (.inl rfl) gap rfl A.length (Nat.le_refl _)).next (.inl rfl) (.inr (.inl rfl)) (by decide) (Agr.refl 5 A)
theorem agr3 {A : List Smp} (HS : SOk A) (gap : Int) : Agr 6 A (fill2 gap A) 0 :=
  (fi_inv HS (.inr (.inl rfl)) gap (agr2 HS gap).len A.length (Nat.le_refl _)).next (.inr (.inl rfl)) (.inr (.inr rfl)) (by decide)
    ((fi_inv HS (.inl rfl) gap rfl A.length (Nat.le_refl _)).next (.inl rfl) (.inr (.inr rfl)) (by decide) (Agr.refl 6 A))

theorem smpRw_setF (L : List Smp) (k c : Nat) (y : Int) (hk : k < L.length) (hc : 3 ≤ c ∧ c ≤ 6) : (smpRw L).set (k * 7 + c) (.int .i64 y) = smpRw (L.set k (smpSet c L[k] y)) := by
  have e : ∀ i, i < 7 → (smpCs (smpSet c L[k] y))[i]? = ((smpCs L[k]).set c (.int .i64 y))[i]? := fun i hi => by
    have : c = 3 ∨ c = 4 ∨ c = 5 ∨ c = 6 := by omega
    rcases this with rfl | rfl | rfl | rfl <;> simp [smpSet, smpCs]
  refine List.ext_getElem? (fun n => ?_)
  rcases Nat.lt_or_ge n (L.length * 7) with hn | hn
  · obtain ⟨he, hi⟩ := row_split (c := 7) (k := n) (by omega)
    have hj : n / 7 < L.length := by omega
    rw [List.getElem?_set]
    rw [he, show smpRw (L.set k (smpSet c L[k] y)) = (L.set k (smpSet c L[k] y)).flatMap smpCs from rfl, flatR_at smpCs 7 (fun _ => rfl) _ (n / 7) (n % 7) (by rw [List.length_set]; exact hj) hi, List.getElem_set]
    rw [show smpRw L = L.flatMap smpCs from rfl, flatR_at smpCs 7 (fun _ => rfl) _ (n / 7) (n % 7) hj hi]
    by_cases hk2 : k = n / 7
    · rw [if_pos hk2, e _ hi, List.getElem?_set]
      by_cases hc2 : c = n % 7
      · rw [if_pos (by omega), if_pos hc2]
        have l1 : k * 7 + c < (L.flatMap smpCs).length := by have := smpRw_len L; unfold smpRw at this; omega
        rw [if_pos (by omega), if_pos (by show c < 7; omega)]
      · rw [if_neg (by omega), if_neg hc2]
        subst hk2; rfl
    · rw [if_neg (by omega), if_neg hk2]
  · rw [List.getElem?_eq_none (by rw [List.length_set, smpRw_len]; exact hn), List.getElem?_eq_none (by rw [smpRw_len, List.length_set]; exact hn)]
/-- One sample's field in a row is set. -/
theorem own_field {w : World} {base : Nat} {g cap : Nat} {L : List Smp} (h : w.ownsRow base 28 7 (.slice (some ⟨g, 0, none⟩) L.length cap) L.length (smpRw L)) {k c : Nat} (hk : k < L.length) (hc : 3 ≤ c ∧ c ≤ 6) (y : Int) :
    (w.setCell ⟨g, k * 7 + c, none⟩ (.int .i64 y)).ownsRow base 28 7 (.slice (some ⟨g, 0, none⟩) L.length cap) L.length (smpRw (L.set k (smpSet c L[k] y))) := by
  rcases h.2 with ⟨hv, _⟩ | ⟨g', cap', cur, hv, hb, hg, h1, h2, h3, h4⟩
  · cases hv
  · injection hv with e1 e2 e3
    injection e1 with e1; injection e1 with e1 _ _
    subst e1; subst e3
    refine ⟨by rw [smpRw_len]; simp, .inr ⟨g, cap, cur.setIfInBounds (k * 7 + c) (.int .i64 y), rfl, hb, block_set hg _, h1, h2, by rw [Array.size_setIfInBounds]; exact h3, ?_⟩⟩
    rw [Array.toList_setIfInBounds, List.take_set, h4, smpRw_setF L k c y hk hc]
end Go.Proofs.Ytgkhhfojioepgaa
