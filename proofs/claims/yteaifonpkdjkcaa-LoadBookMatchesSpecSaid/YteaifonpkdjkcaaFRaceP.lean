/- Races and predictions, purely: no program. -/
import Derived.Test.YteaifonpkdjkcaaFPure
namespace Go.Proofs.Yteaifonpkdjkcaa

structure RaceV where
  way : Int
  sec : Int
def raceD (l : List RaceV) (i : Nat) : RaceV := l.getD i ⟨0, 0⟩
theorem raceD_at {l : List RaceV} {i : Nat} (h : i < l.length) : raceD l i = l[i] := by
  unfold raceD; rw [List.getD_eq_getElem?_getD, List.getElem?_eq_getElem h]; rfl

def RaceV.Ok (x : RaceV) : Prop := (1000 ≤ x.way ∧ x.way ≤ 10000000) ∧ 1 ≤ x.sec ∧ x.sec ≤ 1000000
instance (x : RaceV) : Decidable x.Ok := by unfold RaceV.Ok; exact inferInstance
/-- Is a race not beyond the one before? -/
def soonR : Option RaceV → RaceV → Bool
  | none, _ => false
  | some q, x => decide (x.way ≤ q.way ∨ x.sec ≤ q.sec)
def racesL : Option RaceV → List RaceV → Int
  | _, [] => 0
  | p, x :: r => if x.Ok then (if soonR p x = true then 10 else racesL (some x) r) else 9
def prevR (l : List RaceV) : Nat → Option RaceV
  | 0 => none
  | k + 1 => some (raceD l k)
theorem racesL_end {p : Option RaceV} {l : List RaceV} {k : Nat} (h : l.length ≤ k) : racesL p (l.drop k) = 0 := by
  rw [List.drop_eq_nil_of_le h]; cases p <;> rfl
theorem racesL_at {p : Option RaceV} {l : List RaceV} {k : Nat} (h : k < l.length) : racesL p (l.drop k) = if (raceD l k).Ok then (if soonR p (raceD l k) = true then 10 else racesL (prevR l (k + 1)) (l.drop (k + 1))) else 9 := by
  rw [List.drop_eq_getElem_cons h, racesL, prevR, raceD_at h]
/-- What CheckRaces returns. -/
def racesE (l : List RaceV) : Int := if l.length = 0 then 13 else if (l.length : Int) ≤ 50 then racesL none l else 3

/-- Races that are right and rise behind one. -/
inductive RaceUp : RaceV → List RaceV → Prop
  | nil (a) : RaceUp a []
  | cons {a x r} : x.Ok → a.way < x.way → a.sec < x.sec → RaceUp x r → RaceUp a (x :: r)
theorem racesL_up : ∀ (l : List RaceV) (p : Option RaceV) (a : RaceV), (∀ q, p = some q → q = a) → (p = none → a.way < 1000 ∧ a.sec < 1) → racesL p l = 0 → RaceUp a l
  | [], _, a, _, _, _ => .nil a
  | x :: r, p, a, h1, h2, h => by
    unfold racesL at h
    split at h
    · rename_i hx
      split at h
      · omega
      · rename_i hs
        have hy := racesL_up r (some x) x (fun q e => by cases e; rfl) (fun e => by cases e) h
        cases p with
        | none =>
          have := h2 rfl
          exact .cons hx (by have := hx.1.1; omega) (by have := hx.2.1; omega) hy
        | some q =>
          obtain rfl := h1 q rfl
          simp only [soonR, decide_eq_true_eq, not_or, Int.not_le] at hs
          exact .cons hx hs.1 hs.2 hy
    · omega

/-- The seconds of a way on the line from a to b. -/
def btwR (a b : RaceV) (way : Int) : Int := a.sec + ((way - a.way) * (b.sec - a.sec)) / (b.way - a.way)
def dblR (x : RaceV) (slower : Int) : RaceV := ⟨2 * x.way, 2 * x.sec + (2 * x.sec * slower) / 1000⟩
theorem btw_at {a b : RaceV} : btwR a b a.way = a.sec := by unfold btwR; simp
theorem btw_end {a b : RaceV} (h : a.way < b.way) : btwR a b b.way = b.sec := by
  unfold btwR
  rw [Int.mul_ediv_cancel_left _ (by omega)]; omega
theorem btw_mono {a b : RaceV} (h : a.way < b.way) (hs : a.sec ≤ b.sec) {x y : Int} (hxy : x ≤ y) : btwR a b x ≤ btwR a b y := by
  unfold btwR
  have h1 : (x - a.way) * (b.sec - a.sec) ≤ (y - a.way) * (b.sec - a.sec) := Int.mul_le_mul_of_nonneg_right (by omega) (by omega)
  have := Int.ediv_le_ediv (by omega : 0 < b.way - a.way) h1
  omega
theorem btw_lo {a b : RaceV} (h : a.way < b.way) (hs : a.sec ≤ b.sec) {x : Int} (hx : a.way ≤ x) : a.sec ≤ btwR a b x := by
  have := btw_mono h hs hx; rwa [btw_at] at this
theorem btw_hi {a b : RaceV} (h : a.way < b.way) (hs : a.sec ≤ b.sec) {x : Int} (hx : x ≤ b.way) : btwR a b x ≤ b.sec := by
  have := btw_mono h hs hx; rwa [btw_end h] at this

/-- Beyond the last race: by doubling. -/
def tailR (slower way : Int) : Nat → RaceV → Int
  | 0, a => a.sec
  | n + 1, a => if (dblR a slower).way ≤ way then tailR slower way n (dblR a slower) else btwR a (dblR a slower) way
def predR (slower way : Int) : RaceV → List RaceV → Int
  | a, [] => tailR slower way 24 a
  | a, x :: r => if way < x.way then max (btwR a x way) 1 else predR slower way x r
theorem predR_end {s way : Int} {a : RaceV} {l : List RaceV} {k : Nat} (h : l.length ≤ k) : predR s way a (l.drop k) = tailR s way 24 a := by
  rw [List.drop_eq_nil_of_le h, predR]
theorem predR_at {s way : Int} {a : RaceV} {l : List RaceV} {k : Nat} (h : k < l.length) : predR s way a (l.drop k) = if way < (raceD l k).way then max (btwR a (raceD l k) way) 1 else predR s way (raceD l k) (l.drop (k + 1)) := by
  rw [List.drop_eq_getElem_cons h, predR, raceD_at h]

/-- A race that doubling has reached: the seconds stay small. -/
def sTop : Nat → Int
  | 0 => 1000000
  | n + 1 => 2 * sTop n + 2 * sTop n * 200 / 1000
structure Dbl (k : Nat) (a : RaceV) : Prop where
  w : 1000 * 2 ^ k ≤ a.way
  s0 : 1 ≤ a.sec
  s1 : a.sec ≤ sTop k
theorem dbl_next {k : Nat} {a : RaceV} {s : Int} (h : Dbl k a) (hs : 0 ≤ s ∧ s ≤ 200) : Dbl (k + 1) (dblR a s) := by
  have h0 := h.s0
  have h1 := h.s1
  have m0 : 0 ≤ 2 * a.sec * s := Int.mul_nonneg (by omega) hs.1
  have m1 : 2 * a.sec * s ≤ 2 * sTop k * 200 := Int.le_trans (Int.mul_le_mul_of_nonneg_left hs.2 (by omega)) (Int.mul_le_mul_of_nonneg_right (by omega) (by omega))
  have d0 : 0 ≤ 2 * a.sec * s / 1000 := Int.ediv_nonneg m0 (by omega)
  have d1 := Int.ediv_le_ediv (by omega : (0 : Int) < 1000) m1
  refine ⟨?_, ?_, ?_⟩
  · have := h.w
    show 1000 * 2 ^ (k + 1) ≤ 2 * a.way
    rw [Int.pow_succ]; omega
  · show 1 ≤ 2 * a.sec + 2 * a.sec * s / 1000
    omega
  · show 2 * a.sec + 2 * a.sec * s / 1000 ≤ sTop (k + 1)
    rw [sTop]; omega
theorem dbl_few {k : Nat} {a : RaceV} (h : Dbl k a) (hw : a.way ≤ 10000000) : k ≤ 13 := by
  have h1 := h.w
  rcases Nat.lt_or_ge 13 k with q | q
  · have h2 : (2 : Int) ^ 14 ≤ 2 ^ k := by
      have := Nat.pow_le_pow_right (n := 2) (by omega) (show 14 ≤ k by omega)
      exact_mod_cast this
    have h3 : (2 : Int) ^ 14 = 16384 := by decide
    omega
  · exact q
theorem sTop_mono : ∀ k, sTop k ≤ sTop (k + 1) ∧ 0 ≤ sTop k
  | 0 => by decide
  | k + 1 => by
    have ⟨a, b⟩ := sTop_mono k
    refine ⟨?_, by omega⟩
    have : 0 ≤ 2 * sTop (k + 1) * 200 / 1000 := by omega
    rw [show sTop (k + 1 + 1) = 2 * sTop (k + 1) + 2 * sTop (k + 1) * 200 / 1000 from rfl]; omega
theorem sTop_le {k n : Nat} (h : k ≤ n) : sTop k ≤ sTop n := by
  induction h with
  | refl => exact Int.le_refl _
  | step _ ih => exact Int.le_trans ih (sTop_mono _).1
theorem sTop_13 : sTop 13 ≤ 100000000000 := by decide
theorem dbl_sec {k : Nat} {a : RaceV} (h : Dbl k a) (hw : a.way ≤ 10000000) : a.sec ≤ 100000000000 := by
  have := dbl_few h hw
  have := sTop_le this
  have := sTop_13
  have := h.s1
  omega
theorem dbl_pos {k : Nat} {a : RaceV} (h : Dbl k a) : 1000 ≤ a.way := by
  have := h.w
  have h2 : (1 : Int) ≤ 2 ^ k := by
    have := Nat.one_le_two_pow (n := k)
    exact_mod_cast this
  omega
theorem dbl_up {k : Nat} {a : RaceV} {s : Int} (h : Dbl k a) (hs : 0 ≤ s) : a.way < (dblR a s).way ∧ a.sec ≤ (dblR a s).sec := by
  have h1 := dbl_pos h
  have h2 := h.s0
  have m0 : 0 ≤ 2 * a.sec * s := Int.mul_nonneg (by omega) hs
  have d0 : 0 ≤ 2 * a.sec * s / 1000 := Int.ediv_nonneg m0 (by omega)
  refine ⟨?_, ?_⟩
  · show a.way < 2 * a.way; omega
  · show a.sec ≤ 2 * a.sec + 2 * a.sec * s / 1000; omega

/-- More fuel makes no difference, where there is enough. -/
theorem tail_step {s way : Int} : ∀ n k (a : RaceV), Dbl k a → 0 ≤ s ∧ s ≤ 200 → way ≤ 10000000 → 14 ≤ n + k → tailR s way (n + 1) a = tailR s way n a ∨ way < a.way
  | 0, k, a, h, _, hw, hn => .inr (by
    rcases (by omega : way < a.way ∨ a.way ≤ way) with q | q
    · exact q
    · have := dbl_few h (by omega); omega)
  | n + 1, k, a, h, hs, hw, hn => by
    rcases tail_step n (k + 1) (dblR a s) (dbl_next h hs) hs hw (by omega) with q | q
    · left
      show (if (dblR a s).way ≤ way then tailR s way (n + 1) (dblR a s) else btwR a (dblR a s) way) = (if (dblR a s).way ≤ way then tailR s way n (dblR a s) else btwR a (dblR a s) way)
      rw [q]
    · left
      show (if (dblR a s).way ≤ way then tailR s way (n + 1) (dblR a s) else btwR a (dblR a s) way) = (if (dblR a s).way ≤ way then tailR s way n (dblR a s) else btwR a (dblR a s) way)
      rw [if_neg (by omega), if_neg (by omega)]
theorem tail_lo {s way : Int} : ∀ n k (a : RaceV), Dbl k a → 0 ≤ s ∧ s ≤ 200 → a.way ≤ way → a.sec ≤ tailR s way n a
  | 0, _, a, _, _, _ => Int.le_refl _
  | n + 1, k, a, h, hs, hw => by
    have u := dbl_up h hs.1
    unfold tailR
    split
    · rename_i q
      exact Int.le_trans u.2 (tail_lo n (k + 1) _ (dbl_next h hs) hs q)
    · exact btw_lo u.1 u.2 hw
theorem tail_mono {s x y : Int} (hxy : x ≤ y) : ∀ n k (a : RaceV), Dbl k a → 0 ≤ s ∧ s ≤ 200 → tailR s x n a ≤ tailR s y n a
  | 0, _, a, _, _ => Int.le_refl _
  | n + 1, k, a, h, hs => by
    have u := dbl_up h hs.1
    have hn := dbl_next h hs
    unfold tailR
    by_cases h1 : (dblR a s).way ≤ x
    · rw [if_pos h1, if_pos (by omega)]
      exact tail_mono hxy n (k + 1) _ hn hs
    · rw [if_neg h1]
      by_cases h2 : (dblR a s).way ≤ y
      · rw [if_pos h2]
        exact Int.le_trans (btw_hi u.1 u.2 (by omega)) (tail_lo n (k + 1) _ hn hs h2)
      · rw [if_neg h2]
        exact btw_mono u.1 u.2 hxy

theorem ok_dbl {x : RaceV} (h : x.Ok) : Dbl 0 x := ⟨by have := h.1.1; simpa using this, h.2.1, by have := h.2.2; simpa [sTop] using this⟩
/-- What is so of the race that lies behind: none yet, or a right one. -/
def BackOk (a : RaceV) : Prop := (a.way = 0 ∧ a.sec = 0) ∨ a.Ok
theorem pred_lo {s way : Int} (hs : 0 ≤ s ∧ s ≤ 200) : ∀ (l : List RaceV) (a : RaceV), a.Ok → RaceUp a l → a.way ≤ way → a.sec ≤ predR s way a l
  | [], a, ha, _, hw => tail_lo 24 0 a (ok_dbl ha) hs hw
  | x :: r, a, ha, h, hw => by
    cases h with
    | cons hx h1 h2 hr =>
      unfold predR
      split
      · have := btw_lo h1 (Int.le_of_lt h2) hw; omega
      · rename_i q
        exact Int.le_trans (Int.le_of_lt h2) (pred_lo hs r x hx hr (by omega))
theorem pred_mono {s x y : Int} (hs : 0 ≤ s ∧ s ≤ 200) (hxy : x ≤ y) : ∀ (l : List RaceV) (a : RaceV), (l = [] → a.Ok) → RaceUp a l → predR s x a l ≤ predR s y a l
  | [], a, ha, _ => tail_mono hxy 24 0 a (ok_dbl (ha rfl)) hs
  | z :: r, a, ha, h => by
    cases h with
    | cons hz h1 h2 hr =>
      unfold predR
      by_cases q1 : x < z.way
      · rw [if_pos q1]
        by_cases q2 : y < z.way
        · rw [if_pos q2]
          have := btw_mono h1 (Int.le_of_lt h2) hxy; omega
        · rw [if_neg q2]
          have := btw_hi h1 (Int.le_of_lt h2) (Int.le_of_lt q1)
          have := pred_lo hs r z hz hr (way := y) (by omega)
          have := hz.2.1
          omega
      · rw [if_neg q1, if_neg (by omega)]
        exact pred_mono hs hxy r z (fun _ => hz) hr

/-- What Predict returns. -/
def predE (l : List RaceV) (way slower : Int) : Int := if racesE l = 0 then (if (1 ≤ way ∧ way ≤ 10000000) ∧ 0 ≤ slower ∧ slower ≤ 200 then 0 else 9) else racesE l
def predV (l : List RaceV) (way slower : Int) : Int := if predE l way slower = 0 then predR slower way ⟨0, 0⟩ l else 0
structure RacesOk (l : List RaceV) : Prop where
  ne : l ≠ []
  len : (l.length : Int) ≤ 50
  up : RaceUp ⟨0, 0⟩ l
theorem races_ok {l : List RaceV} (h : racesE l = 0) : RacesOk l := by
  unfold racesE at h
  split at h
  · omega
  · rename_i h0
    split at h
    · rename_i h1
      exact ⟨fun e => h0 (by rw [e]; rfl), h1, racesL_up l none ⟨0, 0⟩ (fun q e => by cases e) (fun _ => ⟨by decide, by decide⟩) h⟩
    · omega
theorem pred_up {l : List RaceV} (h : RacesOk l) {s x y : Int} (hs : 0 ≤ s ∧ s ≤ 200) (hxy : x ≤ y) : predR s x ⟨0, 0⟩ l ≤ predR s y ⟨0, 0⟩ l :=
  pred_mono hs hxy l ⟨0, 0⟩ (fun e => absurd e h.ne) h.up

/-- The races from one place on, with the one before. -/
def backR (l : List RaceV) : Nat → RaceV
  | 0 => ⟨0, 0⟩
  | k + 1 => raceD l k
theorem up_at {l : List RaceV} (h : RaceUp ⟨0, 0⟩ l) : ∀ k, k ≤ l.length → RaceUp (backR l k) (l.drop k)
  | 0, _ => h
  | k + 1, hk => by
    have := up_at h k (by omega)
    rw [List.drop_eq_getElem_cons (by omega : k < l.length)] at this
    cases this with
    | cons _ _ _ hr => show RaceUp (raceD l k) _; rw [raceD_at (by omega)]; exact hr
theorem up_one {l : List RaceV} (h : RaceUp ⟨0, 0⟩ l) {k : Nat} (hk : k < l.length) : (raceD l k).Ok ∧ (backR l k).way < (raceD l k).way ∧ (backR l k).sec < (raceD l k).sec := by
  have := up_at h k (by omega)
  rw [List.drop_eq_getElem_cons hk] at this
  cases this with
  | cons a b c _ => rw [raceD_at hk]; exact ⟨a, b, c⟩

/-- The greatest way that takes no more than so many seconds: how many of the ways from 1 on take no more. -/
def slow (l : List RaceV) (slower seconds : Int) (i : Nat) : Bool := decide (seconds < predR slower ((i : Int) + 1) ⟨0, 0⟩ l)
theorem slow_up {l : List RaceV} (h : RacesOk l) {s sec : Int} (hs : 0 ≤ s ∧ s ≤ 200) {a b : Nat} (hab : a ≤ b) (ha : slow l s sec a = true) : slow l s sec b = true := by
  unfold slow at *
  have := pred_up h hs (x := (a : Int) + 1) (y := (b : Int) + 1) (by omega)
  simp only [decide_eq_true_eq] at *; omega
def reachE0 (l : List RaceV) (seconds slower : Int) : Int := if racesE l = 0 then (if (1 ≤ seconds ∧ seconds ≤ 1000000000) ∧ 0 ≤ slower ∧ slower ≤ 200 then 0 else 9) else racesE l

end Go.Proofs.Yteaifonpkdjkcaa
