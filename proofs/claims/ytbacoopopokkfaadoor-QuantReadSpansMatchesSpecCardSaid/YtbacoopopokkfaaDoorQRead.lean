
/- The plain reading of texts: what a taker takes, what numbers, pairs, digits, words and sixties are read, said of the list of bytes that is left. No program. -/
namespace Go.Proofs.YtbacoopopokkfaaDoor
set_option linter.unusedSimpArgs false
set_option linter.unusedVariables false

/-- The next byte, if it lies from lo to hi. -/
def tkV (lo hi : Int) : List Nat → Option Nat
  | [] => none
  | c :: _ => if lo ≤ (c : Int) ∧ (c : Int) ≤ hi then some c else none

/-- What is read: the value, whether all was there, how many bytes were taken. -/
structure Got where
  val : Int
  ok : Bool
  used : Nat

/-- More digits of a number that is to stay at most 'most'. -/
def numMore (most : Int) : List Nat → Int → Int × Nat
  | [], n => (n, 0)
  | c :: r, n => if 0 < n ∧ 10 * n ≤ most ∧ 48 ≤ (c : Int) ∧ (c : Int) ≤ 48 + min (most - 10 * n) 9 then ((numMore most r (10 * n + ((c : Int) - 48))).1, (numMore most r (10 * n + ((c : Int) - 48))).2 + 1) else (n, 0)

def numV (least most : Int) (R : List Nat) : Got :=
  match tkV (48 + least) 57 R with
  | none => ⟨0, false, 0⟩
  | some c => ⟨(numMore most R.tail ((c : Int) - 48)).1, true, (numMore most R.tail ((c : Int) - 48)).2 + 1⟩

def wordV : List Nat → List Nat → Bool × Nat
  | [], _ => (true, 0)
  | _ :: _, [] => (false, 0)
  | c :: w, d :: r => if d = c then ((wordV w r).1, (wordV w r).2 + 1) else (false, 0)

def pairV (most : Int) (R : List Nat) : Got :=
  match tkV 48 (48 + most / 10) R with
  | none => ⟨0, false, 0⟩
  | some t =>
    match tkV 48 (if (t : Int) = 48 + most / 10 then 48 + most % 10 else 57) R.tail with
    | none => ⟨0, false, 1⟩
    | some o => ⟨10 * ((t : Int) - 48) + ((o : Int) - 48), true, 2⟩

/-- The rounds of a time with colons: so many pairs are to come; whether all was there so far; so many seconds; so many bytes taken. -/
def sixtyV : Nat → Bool → List Nat → Int → Nat → Got
  | 0, ok, _, n, u => ⟨n, ok, u⟩
  | _ + 1, false, _, _, u => ⟨0, false, u⟩
  | p + 1, true, R, n, u =>
    if (wordV [58] R).1 then sixtyV p (pairV 59 (R.drop (wordV [58] R).2)).ok (R.drop ((wordV [58] R).2 + (pairV 59 (R.drop (wordV [58] R).2)).used)) (60 * n + (pairV 59 (R.drop (wordV [58] R).2)).val) (u + (wordV [58] R).2 + (pairV 59 (R.drop (wordV [58] R).2)).used)
    else ⟨0, false, u + (wordV [58] R).2⟩

def inSixtiesV (least most : Int) (pairs : Nat) (R : List Nat) : Got :=
  sixtyV pairs (numV least most R).ok (R.drop (numV least most R).used) (numV least most R).val (numV least most R).used

def letterAt (j : Nat) : Nat := if j = 0 then 104 else if j = 1 then 109 else 115
def sizeAt (j : Nat) : Int := if j = 0 then 3600 else if j = 1 then 60 else 1

/-- The first letter from the j-th one on that stands here; 3: none. -/
def findV (j : Nat) (R : List Nat) : Nat :=
  if j < 3 then (if (wordV [letterAt j] R).1 then j else findV (j + 1) R) else j
termination_by 3 - j

theorem findV_ge (j : Nat) (R : List Nat) : j ≤ findV j R := by
  unfold findV; split
  · split
    · omega
    · have := findV_ge (j + 1) R; omega
  · omega
termination_by 3 - j

/-- Numbers with letters, from the j-th letter on. -/
def partsV (j : Nat) (R : List Nat) (sec : Int) (u : Nat) : Got :=
  if j < 3 then
    if (numV 0 9999999 R).ok then
      if findV j (R.drop (numV 0 9999999 R).used) < 3 then
        partsV (findV j (R.drop (numV 0 9999999 R).used) + 1) (R.drop ((numV 0 9999999 R).used + 1)) (sec + (numV 0 9999999 R).val * sizeAt (findV j (R.drop (numV 0 9999999 R).used))) (u + (numV 0 9999999 R).used + 1)
      else ⟨0, false, u + (numV 0 9999999 R).used⟩
    else ⟨sec, decide (0 < j), u⟩
  else ⟨sec, true, u⟩
termination_by 3 - j
decreasing_by have := findV_ge j (R.drop (numV 0 9999999 R).used); omega

theorem tkV_bd {lo hi : Int} {R : List Nat} {c : Nat} (h : tkV lo hi R = some c) : lo ≤ (c : Int) ∧ (c : Int) ≤ hi ∧ R = c :: R.tail := by
  cases R with
  | nil => simp [tkV] at h
  | cons d r =>
    simp only [tkV] at h
    split at h
    · simp at h; subst h; simp_all
    · simp at h

theorem numMore_le (most : Int) : ∀ (R : List Nat) (n : Int), (numMore most R n).2 ≤ R.length
  | [], n => by simp [numMore]
  | c :: r, n => by
    unfold numMore; split
    · have := numMore_le most r (10 * n + ((c : Int) - 48)); simp; omega
    · simp

theorem numMore_bd (most : Int) : ∀ (R : List Nat) (n : Int), 0 ≤ n → n ≤ most → 0 ≤ (numMore most R n).1 ∧ (numMore most R n).1 ≤ most
  | [], n, h0, h1 => by simp [numMore]; omega
  | c :: r, n, h0, h1 => by
    unfold numMore; split
    · exact numMore_bd most r (10 * n + ((c : Int) - 48)) (by omega) (by omega)
    · exact ⟨h0, h1⟩

theorem numV_le (least most : Int) (R : List Nat) : (numV least most R).used ≤ R.length := by
  unfold numV; split
  · simp
  · rename_i c h
    have := (tkV_bd h).2.2
    have h2 := numMore_le most R.tail ((c : Int) - 48)
    rw [this]; simp; simpa using h2

theorem numV_bd (least most : Int) (R : List Nat) (h0 : 0 ≤ least) (h9 : 9 ≤ most) : 0 ≤ (numV least most R).val ∧ (numV least most R).val ≤ most := by
  unfold numV; split
  · simp; omega
  · rename_i c h
    have := tkV_bd h
    exact numMore_bd most R.tail _ (by omega) (by omega)

theorem wordV_le : ∀ (w R : List Nat), (wordV w R).2 ≤ R.length
  | [], R => by simp [wordV]
  | _ :: _, [] => by simp [wordV]
  | c :: w, d :: r => by
    unfold wordV; split
    · have := wordV_le w r; simp; omega
    · simp

theorem pairV_le (most : Int) (R : List Nat) : (pairV most R).used ≤ R.length := by
  unfold pairV; split
  · simp
  · rename_i t h
    have h1 := (tkV_bd h).2.2
    split
    · rw [h1]; simp
    · rename_i o h'
      have h2 := (tkV_bd h').2.2
      rw [h1, h2]; simp

theorem pairV_bd (most : Int) (R : List Nat) (h0 : 0 ≤ most) (h9 : most ≤ 99) : 0 ≤ (pairV most R).val ∧ (pairV most R).val ≤ most := by
  unfold pairV; split
  · simp; omega
  · rename_i t h
    have h1 := tkV_bd h
    split
    · simp; omega
    · rename_i o h'
      have h2 := tkV_bd h'
      simp only
      split at h2 <;> omega

theorem wordV_no {c : Nat} {w R : List Nat} (h : tkV c c R = none) : wordV (c :: w) R = (false, 0) := by
  cases R with
  | nil => rfl
  | cons d r =>
    simp only [tkV] at h
    split at h
    · simp at h
    · unfold wordV; rw [if_neg (by omega)]
theorem wordV_yes {c x : Nat} {w R : List Nat} (h : tkV c c R = some x) : wordV (c :: w) R = ((wordV w R.tail).1, (wordV w R.tail).2 + 1) := by
  cases R with
  | nil => simp [tkV] at h
  | cons d r =>
    simp only [tkV] at h
    split at h
    · rw [wordV, if_pos (by omega)]; rfl
    · simp at h
theorem numMore_no {most n : Int} {R : List Nat} (h : 0 < n → 10 * n ≤ most → tkV 48 (48 + min (most - 10 * n) 9) R = none) : numMore most R n = (n, 0) := by
  cases R with
  | nil => rfl
  | cons c r =>
    unfold numMore; rw [if_neg]
    rintro ⟨h1, h2, h3, h4⟩
    have := h h1 h2
    simp only [tkV] at this
    rw [if_pos ⟨h3, h4⟩] at this; simp at this
theorem numMore_yes {most n : Int} {R : List Nat} {c : Nat} (h1 : 0 < n) (h2 : 10 * n ≤ most) (h : tkV 48 (48 + min (most - 10 * n) 9) R = some c) :
    numMore most R n = ((numMore most R.tail (10 * n + ((c : Int) - 48))).1, (numMore most R.tail (10 * n + ((c : Int) - 48))).2 + 1) := by
  cases R with
  | nil => simp [tkV] at h
  | cons d r =>
    simp only [tkV] at h
    split at h
    · rename_i h3; simp at h; subst h
      rw [numMore, if_pos ⟨h1, h2, h3.1, h3.2⟩]; rfl
    · simp at h

theorem findV_yes {j : Nat} {R : List Nat} (hj : j < 3) (h : (wordV [letterAt j] R).1 = true) : findV j R = j := by rw [findV, if_pos hj, if_pos h]
theorem findV_no {j : Nat} {R : List Nat} (hj : j < 3) (h : (wordV [letterAt j] R).1 = false) : findV j R = findV (j + 1) R := by rw [findV, if_pos hj, if_neg (by simp [h])]
theorem findV_end (R : List Nat) : findV 3 R = 3 := by rw [findV, if_neg (by omega)]
theorem word1_no {c : Nat} {R : List Nat} (h : (wordV [c] R).1 = false) : wordV [c] R = (false, 0) := by
  cases R with
  | nil => rfl
  | cons d r =>
    unfold wordV at h ⊢
    split
    · rename_i e; rw [if_pos e] at h; simp [wordV] at h
    · rfl
theorem word1_yes {c : Nat} {R : List Nat} (h : (wordV [c] R).1 = true) : wordV [c] R = (true, 1) := by
  cases R with
  | nil => simp [wordV] at h
  | cons d r =>
    unfold wordV at h ⊢
    split
    · simp [wordV]
    · rename_i e; rw [if_neg e] at h; simp at h
theorem numV_no {least most : Int} {R : List Nat} (h : (numV least most R).ok = false) : (numV least most R).used = 0 := by
  unfold numV at h ⊢; split
  · rfl
  · rename_i h'; rw [h'] at h; simp at h

end Go.Proofs.YtbacoopopokkfaaDoor
