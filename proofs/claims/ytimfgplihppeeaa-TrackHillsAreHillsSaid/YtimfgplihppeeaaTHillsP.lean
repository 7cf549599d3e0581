/- Hills, plainly: the list that the program makes is the one that the reference makes, and what it has are hills. No program. -/
import Derived.Test.YtimfgplihppeeaaTAct
namespace Go.Proofs.Ytimfgplihppeeaa

/-- From a beginning upwards: the last highest one so far, and where it ends. -/
def ascP (Z : Nat → Int) (dip : Int) (fr : Nat) : Nat → Nat → Nat → Nat × Nat
  | 0, p, e => (p, e)
  | f + 1, p, e => if Z e < Z fr ∨ dip < Z p - Z e then (p, e) else ascP Z dip fr f (if Z p ≤ Z e then e else p) (e + 1)
def asc (Z : Nat → Int) (n : Nat) (dip : Int) (fr : Nat) : Nat × Nat := ascP Z dip fr (n - (fr + 1)) fr (fr + 1)

theorem ascP_at {Z : Nat → Int} {n : Nat} {dip : Int} {fr p e : Nat} (h : e < n) : ascP Z dip fr (n - e) p e = if Z e < Z fr ∨ dip < Z p - Z e then (p, e) else ascP Z dip fr (n - (e + 1)) (if Z p ≤ Z e then e else p) (e + 1) := by
  rw [show n - e = (n - (e + 1)) + 1 by omega, ascP]
theorem ascP_end {Z : Nat → Int} {n : Nat} {dip : Int} {fr p e : Nat} (h : n ≤ e) : ascP Z dip fr (n - e) p e = (p, e) := by
  rw [show n - e = 0 by omega, ascP]

/-- What holds on the way. -/
structure AscI (Z : Nat → Int) (n : Nat) (dip : Int) (fr p e : Nat) : Prop where
  fp : fr ≤ p
  pe : p < e
  en : e ≤ n
  lo : ∀ j, fr ≤ j → j < e → Z fr ≤ Z j
  hi : ∀ j, fr ≤ j → j < e → Z j ≤ Z p
  dp : ∀ j k, fr ≤ j → j ≤ k → k < e → Z j - Z k ≤ dip
  la : ∀ j, p < j → j < e → Z j < Z p

theorem asc_facts {Z : Nat → Int} {n : Nat} {dip : Int} {fr : Nat} (hd : 0 ≤ dip) : ∀ (f : Nat) (p e : Nat), n - e = f → AscI Z n dip fr p e →
    AscI Z n dip fr (ascP Z dip fr f p e).1 (ascP Z dip fr f p e).2 ∧ ((ascP Z dip fr f p e).2 = n ∨ Z (ascP Z dip fr f p e).2 < Z fr ∨ dip < Z (ascP Z dip fr f p e).1 - Z (ascP Z dip fr f p e).2)
  | 0, p, e, hf, h => ⟨h, .inl (by have := h.en; show e = n; omega)⟩
  | f + 1, p, e, hf, h => by
    rw [ascP]
    split
    · rename_i hc; exact ⟨h, .inr hc⟩
    · rename_i hc
      obtain ⟨h1, h2⟩ := not_or.1 hc
      refine asc_facts hd f _ (e + 1) (by omega) ?_
      have hfp := h.fp; have hpe := h.pe
      split
      · rename_i hz
        refine ⟨by omega, by omega, by omega, fun j a b => ?_, fun j a b => ?_, fun j k a b c => ?_, fun j a b => by omega⟩
        · rcases Nat.lt_or_ge j e with hj | hj
          · exact h.lo j a hj
          · obtain rfl : j = e := by omega
            omega
        · rcases Nat.lt_or_ge j e with hj | hj
          · have := h.hi j a hj; omega
          · obtain rfl : j = e := by omega
            exact Int.le_refl _
        · rcases Nat.lt_or_ge k e with hk | hk
          · exact h.dp j k a b hk
          · obtain rfl : k = e := by omega
            rcases Nat.lt_or_ge j k with hj | hj
            · have := h.hi j a hj; omega
            · obtain rfl : j = k := by omega
              omega
      · rename_i hz
        refine ⟨by omega, by omega, by omega, fun j a b => ?_, fun j a b => ?_, fun j k a b c => ?_, fun j a b => ?_⟩
        · rcases Nat.lt_or_ge j e with hj | hj
          · exact h.lo j a hj
          · obtain rfl : j = e := by omega
            omega
        · rcases Nat.lt_or_ge j e with hj | hj
          · exact h.hi j a hj
          · obtain rfl : j = e := by omega
            omega
        · rcases Nat.lt_or_ge k e with hk | hk
          · exact h.dp j k a b hk
          · obtain rfl : k = e := by omega
            rcases Nat.lt_or_ge j k with hj | hj
            · have := h.hi j a hj; omega
            · obtain rfl : j = k := by omega
              omega
        · rcases Nat.lt_or_ge j e with hj | hj
          · exact h.la j a hj
          · obtain rfl : j = e := by omega
            omega

theorem asc_is {Z : Nat → Int} {n : Nat} {dip : Int} {fr : Nat} (hd : 0 ≤ dip) (hf : fr < n) :
    AscI Z n dip fr (asc Z n dip fr).1 (asc Z n dip fr).2 ∧ ((asc Z n dip fr).2 = n ∨ Z (asc Z n dip fr).2 < Z fr ∨ dip < Z (asc Z n dip fr).1 - Z (asc Z n dip fr).2) := by
  unfold asc
  refine asc_facts hd _ fr (fr + 1) rfl ⟨Nat.le_refl _, by omega, by omega, fun j a b => ?_, fun j a b => ?_, fun j k a b c => ?_, fun j a b => by omega⟩
  · obtain rfl : j = fr := by omega
    exact Int.le_refl _
  · obtain rfl : j = fr := by omega
    exact Int.le_refl _
  · obtain rfl : j = fr := by omega
    obtain rfl : k = j := by omega
    omega

/-- Where somebody goes up to, the ascent has not ended. -/
theorem asc_reach {Z : Nat → Int} {n : Nat} {dip : Int} {fr t : Nat} (hd : 0 ≤ dip) (hf : fr ≤ t) (ht : t < n) (lo : ∀ j, fr ≤ j → j ≤ t → Z fr ≤ Z j) (dp : ∀ j k, fr ≤ j → j ≤ k → k ≤ t → Z j - Z k ≤ dip) : t < (asc Z n dip fr).2 := by
  obtain ⟨h, hs⟩ := asc_is (Z := Z) (n := n) hd (fr := fr) (by omega)
  refine Classical.byContradiction fun hc => ?_
  have h1 := h.fp; have h2 := h.pe
  rcases hs with hs | hs | hs
  · omega
  · have := lo _ (by omega) (Nat.le_of_not_lt hc); omega
  · have := dp (asc Z n dip fr).1 (asc Z n dip fr).2 h1 (by omega) (Nat.le_of_not_lt hc); omega

/-- A hill: its first and last number, how much it rises, and the way. -/
structure HillV where
  fr : Int
  to_ : Int
  rise : Int
  way : Int
  deriving DecidableEq, Inhabited
def hillV (Z W : Nat → Int) (fr p : Nat) : HillV := ⟨fr, p, Z p - Z fr, W p - W fr⟩

/-- The hills from a number on, as the program finds them, and as the reference does. -/
def hillsP (Z W : Nat → Int) (n : Nat) (least dip : Int) : Nat → Nat → List HillV
  | 0, _ => []
  | f + 1, fr => if n ≤ fr then [] else if Z (asc Z n dip fr).1 - Z fr < least then hillsP Z W n least dip f (asc Z n dip fr).2 else hillV Z W fr (asc Z n dip fr).1 :: hillsP Z W n least dip f ((asc Z n dip fr).1 + 1)
def hillsR (Z W : Nat → Int) (n : Nat) (least dip : Int) : Nat → Nat → List HillV
  | 0, _ => []
  | f + 1, fr => if n ≤ fr then [] else if Z (asc Z n dip fr).1 - Z fr < least then hillsR Z W n least dip f (fr + 1) else hillV Z W fr (asc Z n dip fr).1 :: hillsR Z W n least dip f ((asc Z n dip fr).1 + 1)

section
variable {Z W : Nat → Int} {n : Nat} {least dip : Int}
theorem asc_fwd (hd : 0 ≤ dip) {fr : Nat} (h : fr < n) : fr ≤ (asc Z n dip fr).1 ∧ (asc Z n dip fr).1 < (asc Z n dip fr).2 ∧ (asc Z n dip fr).2 ≤ n := by
  obtain ⟨q, _⟩ := asc_is (Z := Z) (n := n) hd h
  exact ⟨q.fp, q.pe, q.en⟩
theorem hillsR_fuel (hd : 0 ≤ dip) : ∀ (f fr : Nat), n - fr ≤ f → ∀ g, n - fr ≤ g → hillsR Z W n least dip f fr = hillsR Z W n least dip g fr
  | 0, fr, hf, g, hg => by
    cases g with
    | zero => rfl
    | succ g => rw [hillsR, hillsR, if_pos (by omega)]
  | f + 1, fr, hf, g, hg => by
    rcases Nat.lt_or_ge fr n with h | h
    · obtain ⟨a, b, c⟩ := asc_fwd (Z := Z) hd h
      cases g with
      | zero => omega
      | succ g =>
        by_cases hl : Z (asc Z n dip fr).1 - Z fr < least
        · simp only [hillsR, if_neg (show ¬ n ≤ fr by omega), if_pos hl]
          exact hillsR_fuel hd f _ (by omega) g (by omega)
        · simp only [hillsR, if_neg (show ¬ n ≤ fr by omega), if_neg hl]
          rw [hillsR_fuel hd f _ (by omega) g (by omega)]
    · cases g with
      | zero => rw [hillsR, hillsR, if_pos (by omega)]
      | succ g => simp only [hillsR, if_pos h]
theorem hillsP_fuel (hd : 0 ≤ dip) : ∀ (f fr : Nat), n - fr ≤ f → ∀ g, n - fr ≤ g → hillsP Z W n least dip f fr = hillsP Z W n least dip g fr
  | 0, fr, hf, g, hg => by
    cases g with
    | zero => rfl
    | succ g => rw [hillsP, hillsP, if_pos (by omega)]
  | f + 1, fr, hf, g, hg => by
    rcases Nat.lt_or_ge fr n with h | h
    · obtain ⟨a, b, c⟩ := asc_fwd (Z := Z) hd h
      cases g with
      | zero => omega
      | succ g =>
        by_cases hl : Z (asc Z n dip fr).1 - Z fr < least
        · simp only [hillsP, if_neg (show ¬ n ≤ fr by omega), if_pos hl]
          exact hillsP_fuel hd f _ (by omega) g (by omega)
        · simp only [hillsP, if_neg (show ¬ n ≤ fr by omega), if_neg hl]
          rw [hillsP_fuel hd f _ (by omega) g (by omega)]
    · cases g with
      | zero => rw [hillsP, hillsP, if_pos (by omega)]
      | succ g => simp only [hillsP, if_pos h]

/-- From within an ascent nobody goes farther, or up by more. -/
theorem asc_within (hd : 0 ≤ dip) {fr i : Nat} (h : fr < n) (h1 : fr ≤ i) (h2 : i < (asc Z n dip fr).2) : Z (asc Z n dip i).1 - Z i ≤ Z (asc Z n dip fr).1 - Z fr := by
  obtain ⟨q, hs⟩ := asc_is (Z := Z) (n := n) hd h
  have hin : i < n := by have := q.en; omega
  obtain ⟨r, hr⟩ := asc_is (Z := Z) (n := n) hd hin
  have hle : (asc Z n dip i).2 ≤ (asc Z n dip fr).2 := by
    refine Classical.byContradiction fun hc => ?_
    have hc' : (asc Z n dip fr).2 < (asc Z n dip i).2 := by omega
    have a := r.lo _ (by omega) hc'
    have b := q.lo i h1 h2
    rcases hs with hs | hs | hs
    · have := r.en; omega
    · omega
    · rcases Nat.lt_or_ge (asc Z n dip fr).1 i with hp | hp
      · have := q.dp (asc Z n dip fr).1 i q.fp (by omega) h2; omega
      · have := r.dp (asc Z n dip fr).1 (asc Z n dip fr).2 hp (by have := q.pe; omega) hc'; omega
  have a := q.hi (asc Z n dip i).1 (by have := r.fp; omega) (by have := r.pe; omega)
  have b := q.lo i h1 h2
  omega
theorem hillsR_skip (hd : 0 ≤ dip) {fr : Nat} (h : fr < n) (hl : Z (asc Z n dip fr).1 - Z fr < least) : ∀ (d i : Nat), i + d = (asc Z n dip fr).2 → fr ≤ i → ∀ f, n - i ≤ f → hillsR Z W n least dip f i = hillsR Z W n least dip f (asc Z n dip fr).2
  | 0, i, hi, _, f, _ => by rw [← hi, Nat.add_zero]
  | d + 1, i, hi, h1, f, hf => by
    have hen := (asc_fwd (Z := Z) hd h).2.2
    have hw := asc_within (Z := Z) hd h h1 (by omega)
    cases f with
    | zero => omega
    | succ f =>
      rw [hillsR, if_neg (by omega), if_pos (by omega), hillsR_skip hd h hl d (i + 1) (by omega) (by omega) f (by omega)]
      exact hillsR_fuel hd f _ (by omega) (f + 1) (by omega)
theorem hills_same (hd : 0 ≤ dip) : ∀ (f fr : Nat), n - fr ≤ f → hillsP Z W n least dip f fr = hillsR Z W n least dip f fr
  | 0, fr, _ => by rw [hillsP, hillsR]
  | f + 1, fr, hf => by
    rcases Nat.lt_or_ge fr n with h | h
    · obtain ⟨a, b, c⟩ := asc_fwd (Z := Z) hd h
      by_cases hl : Z (asc Z n dip fr).1 - Z fr < least
      · rw [hillsR_skip hd h hl ((asc Z n dip fr).2 - fr) fr (by omega) (Nat.le_refl _) (f + 1) hf, hillsP, if_neg (by omega), if_pos hl, hills_same hd f _ (by omega)]
        exact hillsR_fuel hd f _ (by omega) (f + 1) (by omega)
      · simp only [hillsP, hillsR, if_neg (show ¬ n ≤ fr by omega), if_neg hl]
        rw [hills_same hd f _ (by omega)]
    · simp only [hillsP, hillsR, if_pos h]

/-- A hill, by the document's words. -/
def IsHill (Z : Nat → Int) (least dip : Int) (fr t : Nat) : Prop := (∀ i, fr ≤ i → i ≤ t → Z fr ≤ Z i ∧ Z i ≤ Z t ∧ ∀ k, i ≤ k → k ≤ t → Z i - Z k ≤ dip) ∧ least ≤ Z t - Z fr
theorem asc_hill (hd : 0 ≤ dip) {fr : Nat} (h : fr < n) (hl : ¬ Z (asc Z n dip fr).1 - Z fr < least) : IsHill Z least dip fr (asc Z n dip fr).1 := by
  obtain ⟨q, _⟩ := asc_is (Z := Z) (n := n) hd h
  have := q.pe
  exact ⟨fun i a b => ⟨q.lo i a (by omega), q.hi i a (by omega), fun k c d => q.dp i k a c (by omega)⟩, by omega⟩

/-- All hills of a list are hills, apart from each other, from a number on. -/
def HillsOk (Z W : Nat → Int) (n : Nat) (least dip : Int) : Nat → List HillV → Prop
  | _, [] => True
  | lo, h :: r => ∃ a b : Nat, lo ≤ a ∧ a ≤ b ∧ b < n ∧ h = hillV Z W a b ∧ IsHill Z least dip a b ∧ HillsOk Z W n least dip (b + 1) r
theorem hillsOk_lo : ∀ (l : List HillV) {lo lo' : Nat}, lo' ≤ lo → HillsOk Z W n least dip lo l → HillsOk Z W n least dip lo' l
  | [], _, _, _, _ => trivial
  | h :: r, lo, lo', hle, ⟨a, b, h1, h2⟩ => ⟨a, b, by omega, h2⟩
theorem hillsP_ok (hd : 0 ≤ dip) : ∀ (f fr : Nat), HillsOk Z W n least dip fr (hillsP Z W n least dip f fr)
  | 0, _ => trivial
  | f + 1, fr => by
    rw [hillsP]
    split
    · trivial
    · rename_i h
      have h' : fr < n := by omega
      obtain ⟨a, b, c⟩ := asc_fwd (Z := Z) hd h'
      split
      · exact hillsOk_lo _ (by omega) (hillsP_ok hd f _)
      · rename_i hl
        exact ⟨fr, (asc Z n dip fr).1, Nat.le_refl _, a, by omega, rfl, asc_hill hd h' hl, hillsP_ok hd f _⟩

/-- Each hill lies in one of those that are found. -/
theorem hillsR_all (hd : 0 ≤ dip) {x y : Nat} (hxy : x ≤ y) (hy : y < n) (hh : IsHill Z least dip x y) : ∀ (f fr : Nat), n - fr ≤ f → fr ≤ x → ∃ h ∈ hillsR Z W n least dip f fr, h.fr ≤ x ∧ (y : Int) ≤ h.to_
  | 0, fr, hf, hx => by omega
  | f + 1, fr, hf, hx => by
    have h' : fr < n := by omega
    obtain ⟨q, _⟩ := asc_is (Z := Z) (n := n) hd h'
    have q1 := q.fp; have q2 := q.pe; have q3 := q.en
    have low := hh.1
    -- a hill that begins here, and ends within the ascent, ends no later than its peak
    have key : fr = x ∨ x ≤ (asc Z n dip fr).1 → y ≤ (asc Z n dip fr).1 := fun hc => by
      refine Classical.byContradiction fun hn => ?_
      have hye : y < (asc Z n dip fr).2 := by
        refine asc_reach hd (by omega) hy (fun j a b => ?_) (fun j k a b c => ?_)
        · rcases Nat.lt_or_ge j x with hj | hj
          · exact q.lo j a (by omega)
          · have h1 := (low j hj b).1
            have h2 := q.lo x hx (by omega)
            omega
        · rcases Nat.lt_or_ge j x with hj | hj
          · rcases Nat.lt_or_ge k (asc Z n dip fr).2 with hk | hk
            · exact q.dp j k a b hk
            · have h1 := q.hi j a (by omega)
              have h2 := (low (asc Z n dip fr).1 (by omega) (by omega)).2.2 k (by omega) c
              omega
          · exact (low j hj (by omega)).2.2 k b c
      have h1 := q.la y (by omega) hye
      have h2 := (low (asc Z n dip fr).1 (by omega) (by omega)).2.1
      omega
    rw [hillsR, if_neg (by omega)]
    split
    · rename_i hl
      rcases Nat.lt_or_ge fr x with hlt | hge
      · exact hillsR_all hd hxy hy hh f (fr + 1) (by omega) (by omega)
      · exfalso
        obtain rfl : fr = x := by omega
        have h1 := key (.inl rfl)
        have h2 := q.hi y hxy (by omega)
        have h3 := hh.2
        omega
    · rcases Nat.lt_or_ge (asc Z n dip fr).1 x with hp | hp
      · obtain ⟨h, hm, hr⟩ := hillsR_all hd hxy hy hh f ((asc Z n dip fr).1 + 1) (by omega) (by omega)
        exact ⟨h, List.mem_cons_of_mem _ hm, hr⟩
      · have h1 := key (.inr hp)
        refine ⟨_, List.mem_cons_self, ?_, ?_⟩
        · show (fr : Int) ≤ x; omega
        · show (y : Int) ≤ ((asc Z n dip fr).1 : Nat); omega
end
end Go.Proofs.Ytimfgplihppeeaa
