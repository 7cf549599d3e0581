/- Loads and states by days, purely: no program. -/
import Derived.Test.YteaifonpkdjkcaaEInts
namespace Go.Proofs.Yteaifonpkdjkcaa

/-- The state behind a day. -/
def stepF (s x c : Int) : Int := (s * (c - 1) + x * 1000) / c
theorem stepF_eq {s x c : Int} (hc : 1 ≤ c) : stepF s x c = s + (x * 1000 - s) / c := by
  unfold stepF
  have e : s * (c - 1) + x * 1000 = (x * 1000 - s) + s * c := by rw [Int.mul_sub]; omega
  rw [e, Int.add_mul_ediv_right _ _ (by omega)]; omega
theorem stepF_bd {s x c : Int} (hs : 0 ≤ s ∧ s ≤ 10000000) (hx : 0 ≤ x ∧ x ≤ 10000) (hc : 1 ≤ c) : 0 ≤ stepF s x c ∧ stepF s x c ≤ 10000000 := by
  have h0 : 0 ≤ s * (c - 1) := Int.mul_nonneg hs.1 (by omega)
  have h1 : s * (c - 1) ≤ 10000000 * (c - 1) := Int.mul_le_mul_of_nonneg_right hs.2 (by omega)
  unfold stepF
  refine ⟨Int.ediv_nonneg (by omega) (by omega), ?_⟩
  have : (s * (c - 1) + x * 1000) ≤ 10000000 * c := by omega
  have := Int.ediv_le_ediv (by omega : 0 < c) this
  rwa [Int.mul_ediv_cancel _ (by omega)] at this
theorem stepF_mono {s s' x x' c : Int} (hs : s ≤ s') (hx : x ≤ x') (hc : 1 ≤ c) : stepF s x c ≤ stepF s' x' c := by
  unfold stepF
  have h1 : s * (c - 1) ≤ s' * (c - 1) := Int.mul_le_mul_of_nonneg_right hs (by omega)
  exact Int.ediv_le_ediv (by omega) (by omega)

/-- The state behind so many days of a row. -/
def stN (l : List Int) (c first : Int) : Nat → Int
  | 0 => first
  | k + 1 => stepF (stN l c first k) (nthI l k) c
theorem stN_bd {l : List Int} {c first : Int} (hf : 0 ≤ first ∧ first ≤ 10000000) (hc : 1 ≤ c) : ∀ k, (∀ j, j < k → 0 ≤ nthI l j ∧ nthI l j ≤ 10000) → 0 ≤ stN l c first k ∧ stN l c first k ≤ 10000000
  | 0, _ => hf
  | k + 1, h => stepF_bd (stN_bd hf hc k fun j hj => h j (by omega)) (h k (by omega)) hc

/-- What is wrong with a row of loads; 0 for nothing. -/
def seriesE (l : List Int) (c first : Int) : Int :=
  if (l.length : Int) ≤ 5000 then (if (0 ≤ first ∧ first ≤ 10000000) ∧ 1 ≤ c ∧ c ≤ 1000 then eachE 0 10000 l else 9) else 3
def seriesN (l : List Int) (c first : Int) : Nat := if seriesE l c first = 0 then l.length else 0
structure SeriesOk (l : List Int) (c first : Int) : Prop where
  len : (l.length : Int) ≤ 5000
  f0 : 0 ≤ first
  f1 : first ≤ 10000000
  c0 : 1 ≤ c
  c1 : c ≤ 1000
  each : ∀ j, j < l.length → 0 ≤ nthI l j ∧ nthI l j ≤ 10000
theorem series_ok {l : List Int} {c first : Int} (h : seriesE l c first = 0) : SeriesOk l c first := by
  unfold seriesE at h
  split at h
  · rename_i h1
    split at h
    · rename_i h2
      exact ⟨h1, h2.1.1, h2.1.2, h2.2.1, h2.2.2, fun j hj => each_nth h hj⟩
    · omega
  · omega
theorem eachE_cases (lo hi : Int) : ∀ l : List Int, eachE lo hi l = 0 ∨ eachE lo hi l = 9
  | [] => .inl rfl
  | x :: r => by
    unfold eachE
    split
    · exact eachE_cases lo hi r
    · exact .inr rfl
theorem eachE_all {lo hi : Int} : ∀ {l : List Int}, (∀ j, j < l.length → lo ≤ nthI l j ∧ nthI l j ≤ hi) → eachE lo hi l = 0
  | [], _ => rfl
  | x :: r, h => by
    unfold eachE
    have h0 := h 0 (by simp)
    simp only [nthI, List.getD_cons_zero] at h0
    rw [if_pos h0]
    exact eachE_all fun j hj => by
      have := h (j + 1) (by simp; omega)
      simpa [nthI] using this
theorem seriesE_of {l : List Int} {c first : Int} (h : SeriesOk l c first) : seriesE l c first = 0 := by
  unfold seriesE
  rw [if_pos h.len, if_pos ⟨⟨h.f0, h.f1⟩, h.c0, h.c1⟩]
  exact eachE_all h.each

/-- The first place of the greatest. -/
def pkN (F : Nat → Int) : Nat → Nat
  | 0 => 0
  | k + 1 => if F (pkN F k) < F k then k else pkN F k
theorem pkN_lt (F : Nat → Int) : ∀ k, pkN F k ≤ k
  | 0 => Nat.le_refl _
  | k + 1 => by unfold pkN; split <;> have := pkN_lt F k <;> omega
theorem pkN_lt' (F : Nat → Int) : ∀ k, 0 < k → pkN F k < k
  | k + 1, _ => by
    unfold pkN
    split
    · omega
    · have := pkN_lt F k; omega
theorem pkN_top (F : Nat → Int) : ∀ k j, j < k → F j ≤ F (pkN F k)
  | k + 1, j, h => by
    unfold pkN
    rcases Nat.lt_or_ge j k with hj | hj
    · have := pkN_top F k j hj
      split <;> omega
    · obtain rfl : j = k := by omega
      split <;> omega
theorem pkN_first (F : Nat → Int) : ∀ k j, j < pkN F k → F j < F (pkN F k)
  | k + 1, j, h => by
    unfold pkN at h ⊢
    split
    · rename_i hk
      rw [if_pos hk] at h
      have := pkN_top F k j h
      omega
    · rename_i hk
      rw [if_neg hk] at h
      exact pkN_first F k j h
/-- A place that is at the top, with all ahead of it less, is that place. -/
theorem pkN_one {F : Nat → Int} {n k : Nat} (hk : k < n) (h1 : ∀ j, j < n → F j ≤ F k) (h2 : ∀ j, j < k → F j < F k) : pkN F n = k := by
  have a := pkN_lt' F n (by omega)
  have b := pkN_top F n k hk
  have c := h1 _ a
  rcases Nat.lt_trichotomy (pkN F n) k with h | h | h
  · have := h2 _ h; omega
  · exact h
  · have := pkN_first F n k h; omega

/-- What is wrong with the numbers of one step; what it returns. -/
def fstepE (s x c : Int) : Int := if (0 ≤ s ∧ s ≤ 10000000) ∧ (0 ≤ x ∧ x ≤ 10000) ∧ 1 ≤ c ∧ c ≤ 1000 then 0 else 9
def fstepV (s x c : Int) : Int := if fstepE s x c = 0 then stepF s x c else 0

/-- More on one day makes no state less. -/
theorem stN_mono {l m : List Int} {c f : Int} (hc : 1 ≤ c) : ∀ k, (∀ j, j < k → nthI l j ≤ nthI m j) → stN l c f k ≤ stN m c f k
  | 0, _ => Int.le_refl _
  | k + 1, h => stepF_mono (stN_mono hc k fun j hj => h j (by omega)) (h k (by omega)) hc
theorem stN_same {l m : List Int} {c f : Int} : ∀ k, (∀ j, j < k → nthI l j = nthI m j) → stN l c f k = stN m c f k
  | 0, _ => rfl
  | k + 1, h => by rw [stN, stN, stN_same k fun j hj => h j (by omega), h k (by omega)]

/-- The state behind so many days with one load. -/
def bhN (s x c : Int) : Nat → Int
  | 0 => s
  | k + 1 => stepF (bhN s x c k) x c
theorem bhN_bd {s x c : Int} (hs : 0 ≤ s ∧ s ≤ 10000000) (hx : 0 ≤ x ∧ x ≤ 10000) (hc : 1 ≤ c) : ∀ k, 0 ≤ bhN s x c k ∧ bhN s x c k ≤ 10000000
  | 0 => hs
  | k + 1 => stepF_bd (bhN_bd hs hx hc k) hx hc
theorem bhN_mono {s x x' c : Int} (hx : x ≤ x') (hc : 1 ≤ c) : ∀ k, bhN s x c k ≤ bhN s x' c k
  | 0 => Int.le_refl _
  | k + 1 => stepF_mono (bhN_mono hx hc k) hx hc
/-- Is the aim reached with this load? -/
def enough (s c : Int) (days : Nat) (aim : Int) (x : Nat) : Bool := decide (aim ≤ bhN s x c days)
theorem enough_up {s c : Int} {days : Nat} {aim : Int} (hc : 1 ≤ c) {a b : Nat} (h : a ≤ b) (ha : enough s c days aim a = true) : enough s c days aim b = true := by
  unfold enough at *
  have := bhN_mono (s := s) (x := a) (x' := b) (c := c) (by omega) hc days
  simp only [decide_eq_true_eq] at *; omega

/-- Where a row of answers turns: all below n are no, all from there on are yes. -/
def TurnsAt (p : Nat → Bool) (top n : Nat) : Prop := n ≤ top ∧ (∀ t, t < n → p t = false) ∧ (∀ t, n ≤ t → t < top → p t = true)
theorem turns_one {p : Nat → Bool} {top n m : Nat} (h : TurnsAt p top n) (h' : TurnsAt p top m) : n = m := by
  rcases Nat.lt_trichotomy n m with q | q | q
  · have a := h.2.2 n (Nat.le_refl _) (by have := h'.1; omega)
    rw [h'.2.1 n q] at a; cases a
  · exact q
  · have a := h'.2.2 m (Nat.le_refl _) (by have := h.1; omega)
    rw [h.2.1 m q] at a; cases a
theorem turns_some {p : Nat → Bool} (hm : ∀ a b, a ≤ b → p a = true → p b = true) : ∀ top, ∃ n, TurnsAt p top n
  | 0 => ⟨0, Nat.le_refl _, fun t h => absurd h (Nat.not_lt_zero _), fun t _ h => absurd h (Nat.not_lt_zero _)⟩
  | top + 1 => by
    obtain ⟨n, h1, h2, h3⟩ := turns_some hm top
    by_cases hp : p n = true
    · exact ⟨n, by omega, h2, fun t a b => hm n t a hp⟩
    · have hn : n = top := by
        rcases Nat.lt_or_ge n top with q | q
        · exact absurd (h3 n (Nat.le_refl _) q) hp
        · omega
      exact ⟨n + 1, by omega, fun t ht => by
        rcases Nat.lt_or_ge t n with q | q
        · exact h2 t q
        · obtain rfl : t = n := by omega
          exact Bool.eq_false_iff.2 hp, fun t a b => by omega⟩

/-- What is wrong with the numbers of Needed. -/
def neededE (s c days aim : Int) : Int := if (0 ≤ s ∧ s ≤ 10000000) ∧ (1 ≤ c ∧ c ≤ 1000) ∧ (0 ≤ days ∧ days ≤ 5000) ∧ 0 ≤ aim ∧ aim ≤ 10000000 then 0 else 9

end Go.Proofs.Yteaifonpkdjkcaa
