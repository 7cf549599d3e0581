
/- Activities and tracks, plainly: what Check returns; ways; the lines that are worth most. No program. -/
namespace Go.Proofs.YtbacoopopokkfaaDoor
set_option linter.unusedSimpArgs false
set_option linter.unusedVariables false

/-- A byte of a name. -/
def okC (c : Nat) : Bool := (decide (97 ≤ c) && decide (c ≤ 122)) || (decide (65 ≤ c) && decide (c ≤ 90)) || (decide (48 ≤ c) && decide (c ≤ 57)) || decide (c = 45) || decide (c = 95) || decide (c = 46)
def nameB (s : ByteArray) : Bool := decide (1 ≤ s.size) && decide (s.size ≤ 60) && s.data.toList.all fun c => okC c.toNat
def lapC (c : Nat) : Bool := decide (32 ≤ c) && decide (c ≤ 126)
def lapNameB (s : ByteArray) : Bool := decide (s.size ≤ 60) && s.data.toList.all fun c => lapC c.toNat

theorem all_at {p : UInt8 → Bool} {s : ByteArray} : s.data.toList.all p = true ↔ ∀ j (h : j < s.size), p s[j] = true := by
  rw [List.all_eq_true]
  constructor
  · intro h j hj
    exact h _ (by rw [ByteArray.getElem_eq_getElem_data]; simp)
  · intro h x hx
    obtain ⟨j, hj, rfl⟩ := List.getElem_of_mem hx
    have := h j (by simpa using hj)
    rw [ByteArray.getElem_eq_getElem_data] at this
    simpa using this
theorem all_not {p : UInt8 → Bool} {s : ByteArray} {j : Nat} (hj : j < s.size) (h : p s[j] = false) : s.data.toList.all p = false := by
  rw [Bool.eq_false_iff]
  intro h'
  have := all_at.1 h' j hj
  rw [h] at this; cases this

theorem name_short {s : ByteArray} (h : s.size < 1 ∨ 60 < s.size) : nameB s = false := by
  unfold nameB
  rcases h with h | h
  · rw [decide_eq_false (by omega)]; rfl
  · rw [decide_eq_false (p := s.size ≤ 60) (by omega)]; simp
theorem name_bad {s : ByteArray} {j : Nat} (hj : j < s.size) (h : okC s[j].toNat = false) : nameB s = false := by
  unfold nameB
  rw [all_not (p := fun c => okC c.toNat) hj h]; simp
theorem name_good {s : ByteArray} (h1 : 1 ≤ s.size) (h2 : s.size ≤ 60) (h : ∀ j (hj : j < s.size), okC s[j].toNat = true) : nameB s = true := by
  unfold nameB
  rw [decide_eq_true h1, decide_eq_true h2, all_at.2 h]; rfl
theorem lapName_long {s : ByteArray} (h : 60 < s.size) : lapNameB s = false := by
  unfold lapNameB
  rw [decide_eq_false (by omega)]; rfl
theorem lapName_bad {s : ByteArray} {j : Nat} (hj : j < s.size) (h : lapC s[j].toNat = false) : lapNameB s = false := by
  unfold lapNameB
  rw [all_not (p := fun c => lapC c.toNat) hj h]; simp
theorem lapName_good {s : ByteArray} (h2 : s.size ≤ 60) (h : ∀ j (hj : j < s.size), lapC s[j].toNat = true) : lapNameB s = true := by
  unfold lapNameB
  rw [decide_eq_true h2, all_at.2 h]; rfl

/-- A sample; a lap. -/
structure Smp where
  t : Int
  x : Int
  y : Int
  z : Int
  p : Int
  q : Int
  s : Int
  deriving DecidableEq, Inhabited
structure LapV where
  fr : Int
  to_ : Int
  name : ByteArray

/-- The sample's numbers are in their ranges. -/
def smpIn (start : Int) (x : Smp) : Prop :=
  x.t ≤ 1000000 ∧ start + x.t ≤ 86399999999 ∧ (-100000000 ≤ x.x ∧ x.x ≤ 100000000) ∧ (-100000000 ≤ x.y ∧ x.y ≤ 100000000) ∧ (-100000 ≤ x.z ∧ x.z ≤ 100000) ∧ (-1 ≤ x.p ∧ x.p ≤ 300) ∧ (-1 ≤ x.q ∧ x.q ≤ 3000) ∧ (-1 ≤ x.s ∧ x.s ≤ 300)
instance (start : Int) (x : Smp) : Decidable (smpIn start x) := by unfold smpIn; exact inferInstance

/-- A sample comes too early behind the one before. -/
def early : Option Int → Int → Prop
  | none, t => t ≠ 0
  | some b, t => t ≤ b
instance (b : Option Int) (t : Int) : Decidable (early b t) := by cases b <;> (unfold early; exact inferInstance)

def smpsE (start : Int) : Option Int → List Smp → Int
  | _, [] => 0
  | b, x :: r => if early b x.t then 10 else if smpIn start x then smpsE start (some x.t) r else 9

def lapsE (span : Int) : Int → List LapV → Int
  | _, [] => 0
  | e, x :: r => if x.fr < 0 ∨ x.to_ ≤ x.fr ∨ span < x.to_ then 9 else if x.fr < e then 10 else if lapNameB x.name = true then lapsE span x.to_ r else 8

end Go.Proofs.YtbacoopopokkfaaDoor
