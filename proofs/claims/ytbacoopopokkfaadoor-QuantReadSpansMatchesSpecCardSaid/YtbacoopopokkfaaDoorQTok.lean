/- The reference's forms, said of the list of bytes that is left; digits; the form of a date in two ways. No program. -/
import Derived.Test.YtbacoopopokkfaaDoorQRead
namespace Go.Proofs.YtbacoopopokkfaaDoor
set_option linter.unusedSimpArgs false
set_option linter.unusedVariables false

/-- Digits, so many at most, behind a number. -/
def digitsV : Nat → List Nat → Int → Int × Nat
  | 0, _, n => (n, 0)
  | _ + 1, [], n => (n, 0)
  | m + 1, c :: r, n => if 48 ≤ c ∧ c ≤ 57 then ((digitsV m r (10 * n + ((c : Int) - 48))).1, (digitsV m r (10 * n + ((c : Int) - 48))).2 + 1) else (n, 0)

inductive Tok where
  | lit (t : List Nat)
  | two (high : Int)
  | num (low high : Int) (digits : Nat)
  | frac (digits : Nat)

def fracUp : Nat → Int → Int
  | 0, n => n
  | k + 1, n => fracUp k (n * 10)

def Tok.V : Tok → List Nat → Got
  | .lit t, R => ⟨0, (wordV t R).1, (wordV t R).2⟩
  | .two h, R => pairV h R
  | .num lo hi _, R => numV lo hi R
  | .frac ds, R => ⟨fracUp (ds - (digitsV ds R 0).2) (digitsV ds R 0).1, decide (0 < (digitsV ds R 0).2), (digitsV ds R 0).2⟩

def Tok.isLit : Tok → Bool
  | .lit _ => true
  | _ => false

structure Seq where
  used : Nat
  vals : List Int
  ok : Bool

/-- A form: how far it comes, its values, and whether all of it was there. -/
def seqV : List Tok → List Nat → Seq
  | [], _ => ⟨0, [], true⟩
  | t :: ts, R =>
    if (t.V R).ok then ⟨(t.V R).used + (seqV ts (R.drop (t.V R).used)).used, (if t.isLit then [] else [(t.V R).val]) ++ (seqV ts (R.drop (t.V R).used)).vals, (seqV ts (R.drop (t.V R).used)).ok⟩
    else ⟨(t.V R).used, [], false⟩

theorem digitsV_le : ∀ (m : Nat) (R : List Nat) (n : Int), (digitsV m R n).2 ≤ R.length ∧ (digitsV m R n).2 ≤ m
  | 0, R, n => by simp [digitsV]
  | _ + 1, [], n => by simp [digitsV]
  | m + 1, c :: r, n => by
    unfold digitsV; split
    · have := digitsV_le m r (10 * n + ((c : Int) - 48)); simp; omega
    · simp

theorem digitsV_no {m : Nat} {R : List Nat} {n : Int} (h : tkV 48 57 R = none) : digitsV (m + 1) R n = (n, 0) := by
  cases R with
  | nil => rfl
  | cons c r =>
    simp only [tkV] at h
    split at h
    · simp at h
    · rw [digitsV, if_neg (by omega)]
theorem digitsV_yes {m : Nat} {R : List Nat} {n : Int} {c : Nat} (h : tkV 48 57 R = some c) : digitsV (m + 1) R n = ((digitsV m R.tail (10 * n + ((c : Int) - 48))).1, (digitsV m R.tail (10 * n + ((c : Int) - 48))).2 + 1) := by
  cases R with
  | nil => simp [tkV] at h
  | cons d r =>
    simp only [tkV] at h
    split at h
    · simp at h; subst h
      rw [digitsV, if_pos (by omega)]; rfl
    · simp at h

/-- The form of a date: year, month, date; whether all was there; how many bytes were taken. -/
structure DateGot where
  y : Int
  m : Int
  d : Int
  ok : Bool
  used : Nat

def dateFV (R : List Nat) : DateGot :=
  if (digitsV 4 R 0).2 < 4 then ⟨(digitsV 4 R 0).1, 0, 0, false, (digitsV 4 R 0).2⟩
  else if (wordV [45] (R.drop 4)).1 = false then ⟨(digitsV 4 R 0).1, 0, 0, false, 4⟩
  else if (pairV 99 (R.drop 5)).ok = false then ⟨(digitsV 4 R 0).1, (pairV 99 (R.drop 5)).val, 0, false, 5 + (pairV 99 (R.drop 5)).used⟩
  else if (wordV [45] (R.drop 7)).1 = false then ⟨(digitsV 4 R 0).1, (pairV 99 (R.drop 5)).val, 0, false, 7⟩
  else ⟨(digitsV 4 R 0).1, (pairV 99 (R.drop 5)).val, (pairV 99 (R.drop 8)).val, (pairV 99 (R.drop 8)).ok, 8 + (pairV 99 (R.drop 8)).used⟩

def dateToks : List Tok := [.two 99, .two 99, .lit [45], .two 99, .lit [45], .two 99]

def isDig (c : Nat) : Bool := decide (48 ≤ c) && decide (c ≤ 57)
theorem pair99_nil : pairV 99 [] = ⟨0, false, 0⟩ := rfl
theorem pair99_no {c : Nat} {r : List Nat} (h : isDig c = false) : pairV 99 (c :: r) = ⟨0, false, 0⟩ := by
  simp only [isDig, Bool.and_eq_false_iff, decide_eq_false_iff_not] at h
  simp only [pairV, tkV]
  rw [if_neg (by omega)]
theorem pair99_one {c : Nat} (h : isDig c = true) : pairV 99 [c] = ⟨0, false, 1⟩ := by
  simp only [isDig, Bool.and_eq_true, decide_eq_true_eq] at h
  simp only [pairV, tkV]
  rw [if_pos (by omega)]; rfl
theorem pair99_onex {c d : Nat} {r : List Nat} (h : isDig c = true) (h' : isDig d = false) : pairV 99 (c :: d :: r) = ⟨0, false, 1⟩ := by
  simp only [isDig, Bool.and_eq_true, decide_eq_true_eq] at h
  simp only [isDig, Bool.and_eq_false_iff, decide_eq_false_iff_not] at h'
  simp only [pairV, tkV]
  rw [if_pos (by omega)]
  simp only [List.tail_cons]
  rw [if_neg]
  split <;> omega
theorem pair99_two {c d : Nat} {r : List Nat} (h : isDig c = true) (h' : isDig d = true) : pairV 99 (c :: d :: r) = ⟨10 * ((c : Int) - 48) + ((d : Int) - 48), true, 2⟩ := by
  simp only [isDig, Bool.and_eq_true, decide_eq_true_eq] at h h'
  simp only [pairV, tkV]
  rw [if_pos (by omega)]
  simp only [List.tail_cons]
  rw [if_pos]
  split <;> omega
theorem dig_no {m c : Nat} {r : List Nat} {n : Int} (h : isDig c = false) : digitsV (m + 1) (c :: r) n = (n, 0) := by
  simp only [isDig, Bool.and_eq_false_iff, decide_eq_false_iff_not] at h
  rw [digitsV, if_neg (by omega)]
theorem dig_yes {m c : Nat} {r : List Nat} {n : Int} (h : isDig c = true) : digitsV (m + 1) (c :: r) n = ((digitsV m r (10 * n + ((c : Int) - 48))).1, (digitsV m r (10 * n + ((c : Int) - 48))).2 + 1) := by
  simp only [isDig, Bool.and_eq_true, decide_eq_true_eq] at h
  rw [digitsV, if_pos h]

/-- Four digits are two pairs. -/
theorem four (R : List Nat) :
    ((digitsV 4 R 0).2 < 4 ∧ (seqV dateToks R).used = (digitsV 4 R 0).2 ∧ (seqV dateToks R).ok = false) ∨
    ((digitsV 4 R 0).2 = 4 ∧ ∃ a b : Int, (digitsV 4 R 0).1 = 100 * a + b ∧ (seqV dateToks R).used = 4 + (seqV (dateToks.drop 2) (R.drop 4)).used ∧ (seqV dateToks R).ok = (seqV (dateToks.drop 2) (R.drop 4)).ok ∧ (seqV dateToks R).vals = [a, b] ++ (seqV (dateToks.drop 2) (R.drop 4)).vals ∧ 0 ≤ a ∧ a ≤ 99 ∧ 0 ≤ b ∧ b ≤ 99) := by
  have n4 : ∀ n, digitsV 4 [] n = (n, 0) := fun _ => rfl
  have n3 : ∀ n, digitsV 3 [] n = (n, 0) := fun _ => rfl
  have n2 : ∀ n, digitsV 2 [] n = (n, 0) := fun _ => rfl
  have n1 : ∀ n, digitsV 1 [] n = (n, 0) := fun _ => rfl
  have n0 : ∀ R n, digitsV 0 R n = (n, 0) := fun R _ => by simp [digitsV]
  match R with
  | [] => left; simp [n4, dateToks, seqV, Tok.V, pair99_nil]
  | c1 :: r =>
    rcases h1 : isDig c1 with _ | _
    · left; simp [dig_no h1, dateToks, seqV, Tok.V, pair99_no h1]
    · match r with
      | [] => left; simp [dig_yes h1, n3, dateToks, seqV, Tok.V, pair99_one h1]
      | c2 :: r =>
        rcases h2 : isDig c2 with _ | _
        · left; simp [dig_yes h1, dig_no h2, dateToks, seqV, Tok.V, pair99_onex h1 h2]
        · match r with
          | [] => left; simp [dig_yes h1, dig_yes h2, n2, dateToks, seqV, Tok.V, pair99_two h1 h2, pair99_nil]
          | c3 :: r =>
            rcases h3 : isDig c3 with _ | _
            · left; simp [dig_yes h1, dig_yes h2, dig_no h3, dateToks, seqV, Tok.V, pair99_two h1 h2, pair99_no h3]
            · match r with
              | [] => left; simp [dig_yes h1, dig_yes h2, dig_yes h3, n1, dateToks, seqV, Tok.V, pair99_two h1 h2, pair99_one h3]
              | c4 :: r =>
                rcases h4 : isDig c4 with _ | _
                · left; simp [dig_yes h1, dig_yes h2, dig_yes h3, dig_no h4, dateToks, seqV, Tok.V, pair99_two h1 h2, pair99_onex h3 h4]
                · right
                  refine ⟨by simp [dig_yes h1, dig_yes h2, dig_yes h3, dig_yes h4, n0], 10 * ((c1 : Int) - 48) + ((c2 : Int) - 48), 10 * ((c3 : Int) - 48) + ((c4 : Int) - 48), ?_, ?_, ?_, ?_, ?_⟩
                  · simp only [dig_yes h1, dig_yes h2, dig_yes h3, dig_yes h4, n0]; omega
                  · rw [dateToks, seqV, Tok.V, pair99_two h1 h2]
                    simp only [if_true, List.drop_succ_cons, List.drop_zero]
                    rw [seqV, Tok.V, pair99_two h3 h4]
                    simp only [if_true, List.drop_succ_cons, List.drop_zero]
                    omega
                  · rw [dateToks, seqV, Tok.V, pair99_two h1 h2]
                    simp only [if_true, List.drop_succ_cons, List.drop_zero]
                    rw [seqV, Tok.V, pair99_two h3 h4]
                    simp only [if_true, List.drop_succ_cons, List.drop_zero]
                  · rw [dateToks, seqV, Tok.V, pair99_two h1 h2]
                    simp only [if_true, List.drop_succ_cons, List.drop_zero]
                    rw [seqV, Tok.V, pair99_two h3 h4]
                    simp [Tok.isLit]
                  · simp only [isDig, Bool.and_eq_true, decide_eq_true_eq] at h1 h2 h3 h4
                    omega
theorem pairV_used (most : Int) (R : List Nat) (h : (pairV most R).ok = true) : (pairV most R).used = 2 := by
  unfold pairV at h ⊢
  split
  · rename_i h'; rw [h'] at h; simp at h
  · rename_i h'; rw [h'] at h; simp only at h
    split
    · rename_i h''; rw [h''] at h; simp at h
    · rfl

theorem seq_no {t : Tok} {ts : List Tok} {R : List Nat} {g : Got} (h : t.V R = g) (ho : g.ok = false) : seqV (t :: ts) R = ⟨g.used, [], false⟩ := by
  rw [seqV, h, if_neg (by simp [ho])]
theorem seq_yes {t : Tok} {ts : List Tok} {R : List Nat} {g : Got} (h : t.V R = g) (ho : g.ok = true) : seqV (t :: ts) R = ⟨g.used + (seqV ts (R.drop g.used)).used, (if t.isLit then [] else [g.val]) ++ (seqV ts (R.drop g.used)).vals, (seqV ts (R.drop g.used)).ok⟩ := by
  rw [seqV, h, if_pos ho]

/-- The two ways agree. -/
theorem dateFV_seq (R : List Nat) : (seqV dateToks R).used = (dateFV R).used ∧ (seqV dateToks R).ok = (dateFV R).ok ∧
    ((dateFV R).ok = true → ∃ a b, (seqV dateToks R).vals = [a, b, (dateFV R).m, (dateFV R).d] ∧ 100 * a + b = (dateFV R).y ∧ 0 ≤ a ∧ a ≤ 99 ∧ 0 ≤ b ∧ b ≤ 99) := by
  rcases four R with ⟨h1, h2, h3⟩ | ⟨h1, a, b, h2, h3, h4, h5, h6⟩
  · unfold dateFV
    rw [if_pos h1, h2, h3]
    exact ⟨rfl, rfl, fun h => by simp at h⟩
  · have e2 : dateToks.drop 2 = [.lit [45], .two 99, .lit [45], .two 99] := rfl
    rw [e2] at h3 h4 h5
    unfold dateFV
    rw [if_neg (by omega), h3, h4, h5]
    rcases hw : (wordV [45] (R.drop 4)).1 with _ | _
    · have hw1 := word1_no hw
      rw [seq_no (g := ⟨0, false, 0⟩) (by simp [Tok.V, hw1]) rfl]
      simp
    · have hw2 := word1_yes hw
      rw [seq_yes (g := ⟨0, true, 1⟩) (by simp [Tok.V, hw2]) rfl, List.drop_drop]
      rcases hp : (pairV 99 (R.drop 5)).ok with _ | _
      · rw [seq_no (g := pairV 99 (R.drop 5)) rfl hp]
        simp; omega
      · have hpu := pairV_used 99 _ hp
        rw [seq_yes (g := pairV 99 (R.drop 5)) rfl hp, hpu, List.drop_drop]
        rcases hx : (wordV [45] (R.drop 7)).1 with _ | _
        · have hx1 := word1_no hx
          rw [seq_no (g := ⟨0, false, 0⟩) (by simp [Tok.V, hx1]) rfl]
          simp
        · have hx2 := word1_yes hx
          rw [seq_yes (g := ⟨0, true, 1⟩) (by simp [Tok.V, hx2]) rfl, List.drop_drop]
          rcases hq : (pairV 99 (R.drop 8)).ok with _ | _
          · rw [seq_no (g := pairV 99 (R.drop 8)) rfl hq]
            simp; omega
          · rw [seq_yes (g := pairV 99 (R.drop 8)) rfl hq]
            refine ⟨by simp [seqV]; omega, by simp [seqV], fun _ => ⟨a, b, by simp [seqV, Tok.isLit], by simp; omega, h6⟩⟩
end Go.Proofs.YtbacoopopokkfaaDoor
