/- What Fill leaves as it was, purely: known values, heights; and what it makes is filled already. -/
import Derived.Test.YtgkhhfojioepgaaTFill
namespace Go.Proofs.Ytgkhhfojioepgaa
open Go.RowKit
set_option linter.unusedSimpArgs false
set_option linter.unusedVariables false

/-- A pass fills a sample: it lies between two known ones that are near enough. -/
def FilledBy (c : Nat) (gap : Int) (A : List Smp) (m k : Nat) : Prop := ∃ j, j < k ∧ ¬ smpGet c (smpD A j) < 0 ∧ 0 ≤ knA c A j ∧ knA c A j < (m : Int) ∧ m < j ∧ (smpD A j).t - (smpD A (knA c A j).toNat).t ≤ gap
theorem fi_char {A L : List Smp} (HS : SOk A) {c : Nat} (hc : Fld c) (gap : Int) (hl : L.length = A.length) : ∀ k, k ≤ A.length → ∀ m, (FilledBy c gap A m k → 0 ≤ smpGet c (smpD (fiA c gap A L k) m)) ∧ (¬ FilledBy c gap A m k → smpD (fiA c gap A L k) m = smpD L m)
  | 0, _, m => ⟨fun ⟨j, hj, _⟩ => absurd hj (Nat.not_lt_zero j), fun _ => rfl⟩
  | k + 1, hk, m => by
    have ih := fi_char HS hc gap hl k (by omega) m
    have same : ¬ (¬ smpGet c (smpD A k) < 0 ∧ 0 ≤ knA c A k ∧ knA c A k < (m : Int) ∧ m < k ∧ (smpD A k).t - (smpD A (knA c A k).toNat).t ≤ gap) → (FilledBy c gap A m (k + 1) ↔ FilledBy c gap A m k) := fun h => by
      refine ⟨fun ⟨j, hj, q⟩ => ⟨j, ?_, q⟩, fun ⟨j, hj, q⟩ => ⟨j, by omega, q⟩⟩
      rcases Nat.lt_or_ge j k with r | r
      · exact r
      · obtain rfl : j = k := by omega
        exact absurd q h
    unfold fiA
    by_cases h1 : smpGet c (smpD A k) < 0
    · rw [if_pos h1, same (fun q => q.1 h1)]; exact ih
    · rw [if_neg h1]
      by_cases h2 : 0 ≤ knA c A k ∧ (smpD A k).t - (smpD A (knA c A k).toNat).t ≤ gap
      · rw [if_pos h2]
        have hk2 := (kn_is c A k).1
        have hkn := (kn_is c A k).2.1 h2.1
        obtain ⟨i, hi⟩ : ∃ i : Nat, knA c A k = (i : Int) := ⟨(knA c A k).toNat, by omega⟩
        have hfl : (fiA c gap A L k).length = A.length := (fi_len _ _ _ _ _).trans hl
        rw [hi] at h2 hk2 hkn same ⊢
        rw [Int.toNat_natCast] at h2 hkn same ⊢
        rw [br_at c A _ i k (by rw [hfl]; omega) (k - i - 1) (by omega) m]
        by_cases h3 : i < m ∧ m < i + 1 + (k - i - 1)
        · rw [if_pos h3]
          have hf : FilledBy c gap A m (k + 1) := ⟨k, by omega, h1, by rw [hi]; omega, by rw [hi]; omega, by omega, by rw [hi, Int.toNat_natCast]; exact h2.2⟩
          refine ⟨fun _ => ?_, fun h => absurd hf h⟩
          rw [get_set]
          exact (bt_bd HS hc h3.1 (show m < k by omega) (by omega) hkn (by omega)).1
        · rw [if_neg h3, same (fun q => h3 ⟨by omega, by omega⟩)]; exact ih
      · rw [if_neg h2, same (fun q => h2 ⟨q.2.1, q.2.2.2.2⟩)]; exact ih

theorem fi_same {X : List Smp} {c : Nat} {gap : Int} (h : ∀ k, k < X.length → ¬ smpGet c (smpD X k) < 0 → 0 ≤ knA c X k → (smpD X k).t - (smpD X (knA c X k).toNat).t ≤ gap → (k : Int) = knA c X k + 1) : ∀ k, k ≤ X.length → fiA c gap X X k = X
  | 0, _ => rfl
  | k + 1, hk => by
    have ih := fi_same h k (by omega)
    unfold fiA
    split
    · exact ih
    · rename_i h1
      split
      · rename_i h2
        have := h k (by omega) h1 h2.1 h2.2
        rw [show k - (knA c X k).toNat - 1 = 0 by omega, brA]; exact ih
      · exact ih
theorem kn_one {c : Nat} {A : List Smp} {i : Nat} (hi : ¬ smpGet c (smpD A i) < 0) : ∀ k, i < k → (∀ q, i < q → q < k → smpGet c (smpD A q) < 0) → knA c A k = (i : Int)
  | 0, h, _ => absurd h (Nat.not_lt_zero i)
  | k + 1, h, hq => by
    unfold knA
    rcases Nat.lt_or_ge i k with r | r
    · rw [if_pos (hq k r (by omega))]; exact kn_one hi k r (fun q a b => hq q a (by omega))
    · obtain rfl : i = k := by omega
      rw [if_neg hi]

/-- A list that is filled in one field: as it was where it was known, or not filled. -/
structure FilX (c : Nat) (gap : Int) (A X : List Smp) : Prop where
  len : X.length = A.length
  t : ∀ m, (smpD X m).t = (smpD A m).t
  yes : ∀ m, FilledBy c gap A m A.length → 0 ≤ smpGet c (smpD X m)
  no : ∀ m, ¬ FilledBy c gap A m A.length → smpGet c (smpD X m) = smpGet c (smpD A m)
theorem filled_unk {c : Nat} {gap : Int} {A : List Smp} {m k : Nat} (h : FilledBy c gap A m k) : smpGet c (smpD A m) < 0 := by
  obtain ⟨j, _, _, h2, h3, h4, _⟩ := h
  exact (kn_is c A j).2.2 m h3 h4
theorem filx_same {c : Nat} {gap : Int} {A X : List Smp} (H : FilX c gap A X) : fiA c gap X X X.length = X := by
  refine fi_same (fun k hk g0 g1 g2 => ?_) _ (Nat.le_refl _)
  obtain ⟨⟨_, k1⟩, k2, k3⟩ := kn_is c X k
  have k2 := k2 g1
  obtain ⟨i, hi⟩ : ∃ i : Nat, knA c X k = (i : Int) := ⟨(knA c X k).toNat, by omega⟩
  rw [hi] at k1 k2 k3 g2 ⊢
  rw [Int.toNat_natCast] at k2 g2
  rcases Nat.lt_or_ge (i + 1) k with r | r
  case inr => omega
  exfalso
  have hkA : k < A.length := by rw [← H.len]; exact hk
  have km := k3 (i + 1) (by omega) r
  have nf : ¬ FilledBy c gap A (i + 1) A.length := fun h => by have := H.yes _ h; omega
  have am : smpGet c (smpD A (i + 1)) < 0 := by rw [← H.no _ nf]; exact km
  have unk : ∀ q, i < q → q < k → smpGet c (smpD A q) < 0 := fun q a b => by
    have x := k3 q (by omega) b
    by_cases f : FilledBy c gap A q A.length
    · exact filled_unk f
    · rw [← H.no _ f]; exact x
  have ai : ¬ smpGet c (smpD A i) < 0 := fun h => by
    by_cases f : FilledBy c gap A i A.length
    · obtain ⟨j, h0, h1, h2, h3, h4, h5⟩ := f
      rcases Nat.lt_or_ge (i + 1) j with s | s
      · exact nf ⟨j, h0, h1, h2, by omega, s, h5⟩
      · obtain rfl : j = i + 1 := by omega
        exact h1 am
    · have := H.no _ f; omega
  have ak : ¬ smpGet c (smpD A k) < 0 := fun h => by
    by_cases f : FilledBy c gap A k A.length
    · obtain ⟨j, h0, h1, h2, h3, h4, h5⟩ := f
      obtain ⟨q, hq⟩ : ∃ q : Nat, knA c A j = (q : Int) := ⟨(knA c A j).toNat, by omega⟩
      rcases Nat.lt_or_ge q (i + 1) with s | s
      · exact nf ⟨j, h0, h1, h2, by omega, by omega, h5⟩
      · have z := (kn_is c A j).2.1 h2
        rw [hq, Int.toNat_natCast] at z
        have := unk q (by omega) (by omega)
        omega
    · have := H.no _ f; omega
  have hkn := kn_one ai k (by omega) unk
  exact nf ⟨k, hkA, ak, by rw [hkn]; omega, by rw [hkn]; omega, r, by rw [hkn, Int.toNat_natCast, ← H.t, ← H.t]; exact g2⟩

theorem fil_step {A L : List Smp} (HS : SOk A) {c : Nat} (hc : Fld c) (gap : Int) (hL : Agr c A L 0) : FilX c gap A (fiA c gap A L A.length) :=
  ⟨(fi_len _ _ _ _ _).trans hL.len, fun m => ((fi_inv HS hc gap hL.len A.length (Nat.le_refl _)).agr hL).t m, fun m h => (fi_char HS hc gap hL.len A.length (Nat.le_refl _) m).1 h, fun m h => by
    rw [(fi_char HS hc gap hL.len A.length (Nat.le_refl _) m).2 h]; exact hL.f m (.inl (Nat.zero_le _))⟩
/-- How a sample of the filled list comes from the one that was there. -/
theorem fill3_at {A : List Smp} (HS : SOk A) (gap : Int) (m : Nat) : ∃ p q s, smpD (fill3 gap A) m = { smpD A m with p := p, q := q, s := s } ∧ smpGet 4 (smpD (fill1 gap A) m) = p ∧ smpGet 5 (smpD (fill2 gap A) m) = q ∧ smpGet 6 (smpD (fill3 gap A) m) = s ∧ (p = (smpD A m).p ∨ ((smpD A m).p < 0 ∧ 0 ≤ p ∧ p ≤ 300)) ∧ (q = (smpD A m).q ∨ ((smpD A m).q < 0 ∧ 0 ≤ q ∧ q ≤ 3000)) ∧ (s = (smpD A m).s ∨ ((smpD A m).s < 0 ∧ 0 ≤ s ∧ s ≤ 300)) := by
  have h1 := (fi_inv HS (c := 4) (.inl rfl) gap rfl A.length (Nat.le_refl _)).at_ m
  have h2 := (fi_inv HS (c := 5) (.inr (.inl rfl)) gap (fill1_len gap A) A.length (Nat.le_refl _)).at_ m
  have h3 := (fi_inv HS (c := 6) (.inr (.inr rfl)) gap (fill2_len gap A) A.length (Nat.le_refl _)).at_ m
  have e1 : smpD (fill1 gap A) m = smpD (fiA 4 gap A A A.length) m := rfl
  have e2 : smpD (fill2 gap A) m = smpD (fiA 5 gap A (fill1 gap A) A.length) m := rfl
  have e3 : smpD (fill3 gap A) m = smpD (fiA 6 gap A (fill2 gap A) A.length) m := rfl
  rw [← e1] at h1; rw [← e2] at h2; rw [← e3] at h3
  clear e1 e2 e3
  obtain ⟨x, hx⟩ : ∃ x, smpD A m = x := ⟨_, rfl⟩
  obtain ⟨y1, hy1⟩ : ∃ y, smpD (fill1 gap A) m = y := ⟨_, rfl⟩
  obtain ⟨y2, hy2⟩ : ∃ y, smpD (fill2 gap A) m = y := ⟨_, rfl⟩
  obtain ⟨y3, hy3⟩ : ∃ y, smpD (fill3 gap A) m = y := ⟨_, rfl⟩
  rw [hx, hy1] at h1
  rw [hx, hy1, hy2] at h2
  rw [hx, hy2, hy3] at h3
  rw [hx, hy1, hy2, hy3]
  rcases h1 with rfl | ⟨_, n1, u, u0, u1, rfl⟩ <;> rcases h2 with rfl | ⟨_, n2, v, v0, v1, rfl⟩ <;> rcases h3 with rfl | ⟨_, n3, z, z0, z1, rfl⟩ <;>
    exact ⟨_, _, _, rfl, rfl, rfl, rfl, by first | exact .inl rfl | exact .inr ⟨n1, u0, u1⟩, by first | exact .inl rfl | exact .inr ⟨n2, v0, v1⟩, by first | exact .inl rfl | exact .inr ⟨n3, z0, z1⟩⟩
theorem fill3_x {A : List Smp} (HS : SOk A) (gap : Int) {c : Nat} (hc : Fld c) : FilX c gap A (fill3 gap A) := by
  have a1 := fil_step HS (c := 4) (.inl rfl) gap (Agr.refl 4 A)
  have a2 := fil_step HS (c := 5) (.inr (.inl rfl)) gap (agr2 HS gap)
  have a3 := fil_step HS (c := 6) (.inr (.inr rfl)) gap (agr3 HS gap)
  have ht : ∀ m, (smpD (fill3 gap A) m).t = (smpD A m).t := fun m => by
    obtain ⟨p, q, s, e, _⟩ := fill3_at HS gap m; rw [e]
  rcases hc with rfl | rfl | rfl
  · have g : ∀ m, smpGet 4 (smpD (fill3 gap A) m) = smpGet 4 (smpD (fill1 gap A) m) := fun m => by
      obtain ⟨p, q, s, e, e1, _⟩ := fill3_at HS gap m
      rw [e1, e]; rfl
    exact ⟨fill3_len gap A, ht, fun m h => by rw [g]; exact a1.yes m h, fun m h => by rw [g]; exact a1.no m h⟩
  · have g : ∀ m, smpGet 5 (smpD (fill3 gap A) m) = smpGet 5 (smpD (fill2 gap A) m) := fun m => by
      obtain ⟨p, q, s, e, _, e1, _⟩ := fill3_at HS gap m
      rw [e1, e]; rfl
    exact ⟨fill3_len gap A, ht, fun m h => by rw [g]; exact a2.yes m h, fun m h => by rw [g]; exact a2.no m h⟩
  · exact ⟨fill3_len gap A, ht, a3.yes, a3.no⟩
theorem fill3_same {A : List Smp} (HS : SOk A) (gap : Int) : fill3 gap (fill3 gap A) = fill3 gap A := by
  obtain ⟨X, hX⟩ : ∃ X, fill3 gap A = X := ⟨_, rfl⟩
  have x4 := filx_same (fill3_x HS gap (c := 4) (.inl rfl))
  have x5 := filx_same (fill3_x HS gap (c := 5) (.inr (.inl rfl)))
  have x6 := filx_same (fill3_x HS gap (c := 6) (.inr (.inr rfl)))
  rw [hX] at x4 x5 x6 ⊢
  show fiA 6 gap X (fiA 5 gap X (fiA 4 gap X X X.length) X.length) X.length = X
  rw [x4, x5, x6]
theorem smps_like {st : Int} : ∀ (L A : List Smp) (o : Option Int), L.length = A.length → (∀ m, m < A.length → (smpD L m).t = (smpD A m).t ∧ (smpIn st (smpD A m) → smpIn st (smpD L m))) → smpsE st o A = 0 → smpsE st o L = 0
  | [], [], _, _, _, _ => rfl
  | [], _ :: _, _, h, _, _ => by simp at h
  | _ :: _, [], _, h, _, _ => by simp at h
  | y :: l, x :: a, o, h, hm, h0 => by
    have q := hm 0 (by simp)
    have q1 : y.t = x.t := q.1
    have q2 : smpIn st x → smpIn st y := q.2
    unfold smpsE at h0 ⊢
    split at h0
    · omega
    · rename_i e1
      split at h0
      · rename_i e2
        rw [q1, if_neg e1, if_pos (q2 e2)]
        exact smps_like l a _ (by simpa using h) (fun m hm2 => hm (m + 1) (by simpa using hm2)) h0
      · omega
theorem fill3_ok {a : Act} (h : chkE a = 0) (gap : Int) : chkE { a with ss := fill3 gap a.ss } = 0 := by
  have ok := chk_ok h
  have HS := sok_of ok
  have hl := fill3_len gap a.ss
  have hs : smpsE a.start none (fill3 gap a.ss) = 0 := by
    refine smps_like _ a.ss none hl (fun m hm => ?_) ok.smps
    obtain ⟨p, q, s, e, _, _, _, b1, b2, b3⟩ := fill3_at HS gap m
    rw [e]
    refine ⟨rfl, fun hi => ?_⟩
    obtain ⟨i1, i2, i3, i4, i5, i6, i7, i8⟩ := hi
    refine ⟨i1, i2, i3, i4, i5, ?_, ?_, ?_⟩
    · rcases b1 with b | b <;> simp only <;> omega
    · rcases b2 with b | b <;> simp only <;> omega
    · rcases b3 with b | b <;> simp only <;> omega
  have hsp : spanL (fill3 gap a.ss) = spanL a.ss := by
    rcases Nat.eq_zero_or_pos a.ss.length with z | z
    · have z2 : a.ss = [] := List.eq_nil_of_length_eq_zero z
      have z3 : fill3 gap a.ss = [] := List.eq_nil_of_length_eq_zero (by rw [hl]; exact z)
      rw [z3, z2]
    · rw [spanL_at (n := a.ss.length - 1) (by omega), spanL_at (l := a.ss) (n := a.ss.length - 1) (by omega), ← smpD_at, ← smpD_at]
      obtain ⟨p, q, s, e, _⟩ := fill3_at HS gap (a.ss.length - 1)
      rw [e]
  unfold chkE
  simp only
  rw [if_pos ok.name, if_pos ⟨ok.sp0, ok.sp1⟩, if_pos ⟨ok.st0, ok.st1⟩, hl, if_pos ⟨ok.sl, ok.ll, ok.tl⟩, if_pos hs, hsp, if_pos ok.laps]
  exact ok.tags
/-- Fill of what Fill makes is the same. -/
theorem fill_twice {a : Act} (h : chkE a = 0) {gap : Int} (hg : 0 ≤ gap ∧ gap ≤ 1000000) : fillO { a with ss := fill3 gap a.ss } gap = ({ a with ss := fill3 gap a.ss }, 0) := by
  unfold fillO
  rw [if_pos (fill3_ok h gap), if_pos hg]
  simp only [fill3_same (sok_of (chk_ok h)) gap]
end Go.Proofs.Ytgkhhfojioepgaa
