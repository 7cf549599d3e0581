/- Texts that all laws of this seat use, one behind the other. -/
import Derived.Test.YtgkhhfojioepgaaProg
import Derived.WalkKit
import Derived.WalkSpells
import Derived.WalkLawsBesides
import Derived.Handy
import Derived.Lib.Hide
import Derived.Deep.QuietTactic
import Derived.BigQuiet
import Derived.Deep.RegionWith
import Derived.IntWalk
import Derived.Deep.RegionHeld3
/- Activities and tracks, plainly: what Check returns; ways; the lines that are worth most. No program. -/
namespace Go.Proofs.Ytgkhhfojioepgaa
set_option linter.unusedSimpArgs false
set_option linter.unusedVariables false

/-- A byte of a name. -/
def okC (c : Nat) : Bool := (decide (97 ≤ c) && decide (c ≤ 122)) || (decide (65 ≤ c) && decide (c ≤ 90)) || (decide (48 ≤ c) && decide (c ≤ 57)) || decide (c = 45) || decide (c = 95) || decide (c = 46)
def nameB (s : ByteArray) : Bool := decide (1 ≤ s.size) && decide (s.size ≤ 60) && s.data.toList.all fun c => okC c.toNat
def lapC (c : Nat) : Bool := decide (32 ≤ c) && decide (c ≤ 126)
def lapNameB (s : ByteArray) : Bool := decide (s.size ≤ 60) && s.data.toList.all fun c => lapC c.toNat

theorem all_at {p : UInt8 → Bool} {s : ByteArray} : s.data.toList.all p = true ↔ ∀ j (h : j < s.size), p s[j] = true := by
  rw [List.all_eq_true]
  constructor
  · intro h j hj
    exact h _ (by rw [ByteArray.getElem_eq_getElem_data]; simp)
  · intro h x hx
    obtain ⟨j, hj, rfl⟩ := List.getElem_of_mem hx
    have := h j (by simpa using hj)
    rw [ByteArray.getElem_eq_getElem_data] at this
    simpa using this
theorem all_not {p : UInt8 → Bool} {s : ByteArray} {j : Nat} (hj : j < s.size) (h : p s[j] = false) : s.data.toList.all p = false := by
  rw [Bool.eq_false_iff]
  intro h'
  have := all_at.1 h' j hj
  rw [h] at this; cases this

theorem name_short {s : ByteArray} (h : s.size < 1 ∨ 60 < s.size) : nameB s = false := by
  unfold nameB
  rcases h with h | h
  · rw [decide_eq_false (by omega)]; rfl
  · rw [decide_eq_false (p := s.size ≤ 60) (by omega)]; simp
theorem name_bad {s : ByteArray} {j : Nat} (hj : j < s.size) (h : okC s[j].toNat = false) : nameB s = false := by
  unfold nameB
  rw [all_not (p := fun c => okC c.toNat) hj h]; simp
theorem name_good {s : ByteArray} (h1 : 1 ≤ s.size) (h2 : s.size ≤ 60) (h : ∀ j (hj : j < s.size), okC s[j].toNat = true) : nameB s = true := by
  unfold nameB
  rw [decide_eq_true h1, decide_eq_true h2, all_at.2 h]; rfl
theorem lapName_long {s : ByteArray} (h : 60 < s.size) : lapNameB s = false := by
  unfold lapNameB
  rw [decide_eq_false (by omega)]; rfl
theorem lapName_bad {s : ByteArray} {j : Nat} (hj : j < s.size) (h : lapC s[j].toNat = false) : lapNameB s = false := by
  unfold lapNameB
  rw [all_not (p := fun c => lapC c.toNat) hj h]; simp
theorem lapName_good {s : ByteArray} (h2 : s.size ≤ 60) (h : ∀ j (hj : j < s.size), lapC s[j].toNat = true) : lapNameB s = true := by
  unfold lapNameB
  rw [decide_eq_true h2, all_at.2 h]; rfl

/-- A sample; a lap. -/
structure Smp where
  t : Int
  x : Int
  y : Int
  z : Int
  p : Int
  q : Int
  s : Int
  deriving DecidableEq, Inhabited
structure LapV where
  fr : Int
  to_ : Int
  name : ByteArray

/-- The sample's numbers are in their ranges. -/
def smpIn (start : Int) (x : Smp) : Prop :=
  x.t ≤ 1000000 ∧ start + x.t ≤ 86399999999 ∧ (-100000000 ≤ x.x ∧ x.x ≤ 100000000) ∧ (-100000000 ≤ x.y ∧ x.y ≤ 100000000) ∧ (-100000 ≤ x.z ∧ x.z ≤ 100000) ∧ (-1 ≤ x.p ∧ x.p ≤ 300) ∧ (-1 ≤ x.q ∧ x.q ≤ 3000) ∧ (-1 ≤ x.s ∧ x.s ≤ 300)
instance (start : Int) (x : Smp) : Decidable (smpIn start x) := by unfold smpIn; exact inferInstance

/-- A sample comes too early behind the one before. -/
def early : Option Int → Int → Prop
  | none, t => t ≠ 0
  | some b, t => t ≤ b
instance (b : Option Int) (t : Int) : Decidable (early b t) := by cases b <;> (unfold early; exact inferInstance)

def smpsE (start : Int) : Option Int → List Smp → Int
  | _, [] => 0
  | b, x :: r => if early b x.t then 10 else if smpIn start x then smpsE start (some x.t) r else 9

def lapsE (span : Int) : Int → List LapV → Int
  | _, [] => 0
  | e, x :: r => if x.fr < 0 ∨ x.to_ ≤ x.fr ∨ span < x.to_ then 9 else if x.fr < e then 10 else if lapNameB x.name = true then lapsE span x.to_ r else 8

end Go.Proofs.Ytgkhhfojioepgaa
namespace Go.Proofs.Ytgkhhfojioepgaa
open Go.RowKit
set_option linter.unusedSimpArgs false
set_option linter.unusedVariables false

theorem ret_bool {a b : Bool} (h : a = b) : Ending.returned (.bool a) = .returned (.bool b) := by rw [h]
theorem ret_int {k : IntKind} {a b : Int} (h : a = b) : Ending.returned (.int k a) = .returned (.int k b) := by rw [h]
theorem ret_ib {k : IntKind} {a b : Int} {c d : Bool} (h : a = b) (h' : c = d) : Ending.returned (.tuple #[.int k a, .bool c]) = .returned (.tuple #[.int k b, .bool d]) := by rw [h, h']
theorem ret_ii {k k' : IntKind} {a b c d : Int} (h : a = b) (h' : c = d) : Ending.returned (.tuple #[.int k a, .int k' c]) = .returned (.tuple #[.int k b, .int k' d]) := by rw [h, h']
theorem grown_trans {w1 w2 w3 : World} {r : Option Nat} (h : w1.grownBy w2 r) (h' : w2.grownBy w3 r) : w1.grownBy w3 r :=
  ⟨h'.os.trans h.os, h'.tape.trans h.tape, h'.output.trans h.output, Nat.le_trans h.size h'.size, fun k hk hne => (h'.block k (Nat.lt_of_lt_of_le hk h.size) hne).trans (h.block k hk hne)⟩
theorem grown_refl (w : World) (r : Option Nat) : w.grownBy w r := ⟨rfl, rfl, rfl, Nat.le_refl _, fun _ _ _ => rfl⟩
theorem grown_drewN (w : World) (r : Option Nat) (n : Nat) : w.grownBy (w.drewN n) r := ⟨rfl, rfl, rfl, Nat.le_refl _, fun _ _ _ => rfl⟩
theorem grown_cell {w w' : World} (g : w.grownBy w' none) {p : Addr} {v : Value} (h : w.cell? p = some v) : w'.cell? p = some v := g.cell h (by simp)
theorem grown_below {w w' : World} (g : Below w.heap.size w w') : w.grownBy w' none := ⟨g.os, g.tape, g.output, g.size, fun k hk _ => g.block k hk⟩
theorem below_grown {w w' : World} (g : w.grownBy w' none) : Below w.heap.size w w' := ⟨g.os, g.tape, g.output, g.size, fun k hk => g.block k hk (by simp)⟩

/-- The order of texts. -/
def leT (a b : ByteArray) : Bool := Op.bytesLess a.toList b.toList || a.toList == b.toList

def soonT : Option ByteArray → ByteArray → Bool
  | none, _ => false
  | some b, x => leT x b
def tagsE : Option ByteArray → List ByteArray → Int
  | _, [] => 0
  | b, x :: r => if nameB x = true then (if soonT b x = true then 10 else tagsE (some x) r) else 8

/-- An activity: its values, and where its lists lie. -/
structure Act where
  name : ByteArray
  sport : Int
  start : Int
  so : Option Addr
  sc : Nat
  ss : List Smp
  lo : Option Addr
  lc : Nat
  ls : List LapV
  to_ : Option Addr
  tc : Nat
  ts : List ByteArray
abbrev Act.val (a : Act) : Value := .agg #[.string a.name, .int .i64 a.sport, .int .i64 a.start, .slice a.so a.ss.length a.sc, .slice a.lo a.ls.length a.lc, .slice a.to_ a.ts.length a.tc]

def spanL : List Smp → Int
  | [] => 0
  | [x] => x.t
  | _ :: y :: r => spanL (y :: r)

def chkE (a : Act) : Int :=
  if nameB a.name = true then
    if 1 ≤ a.sport ∧ a.sport ≤ 5 then
      if 0 ≤ a.start ∧ a.start ≤ 86399999999 then
        if (a.ss.length : Int) ≤ 20000 ∧ (a.ls.length : Int) ≤ 200 ∧ (a.ts.length : Int) ≤ 20 then
          if smpsE a.start none a.ss = 0 then
            if lapsE (spanL a.ss) 0 a.ls = 0 then tagsE none a.ts else lapsE (spanL a.ss) 0 a.ls
          else smpsE a.start none a.ss
        else 3
      else 9
    else 7
  else 8

/-- Samples lie at an address. -/
structure SmpsAt (w : World) (ao : Option Addr) (l : List Smp) : Prop where
  nil : ao = none → l = []
  spot : ∀ a, ao = some a → l ≠ [] → a.spot = none
  cells : ∀ a, ao = some a → ∀ i (h : i < l.length), w.cell? ⟨a.block, a.off + i * 7, none⟩ = some (.int .i64 l[i].t) ∧ w.cell? ⟨a.block, a.off + i * 7 + 1, none⟩ = some (.int .i64 l[i].x) ∧ w.cell? ⟨a.block, a.off + i * 7 + 2, none⟩ = some (.int .i64 l[i].y) ∧ w.cell? ⟨a.block, a.off + i * 7 + 3, none⟩ = some (.int .i64 l[i].z) ∧ w.cell? ⟨a.block, a.off + i * 7 + 4, none⟩ = some (.int .i64 l[i].p) ∧ w.cell? ⟨a.block, a.off + i * 7 + 5, none⟩ = some (.int .i64 l[i].q) ∧ w.cell? ⟨a.block, a.off + i * 7 + 6, none⟩ = some (.int .i64 l[i].s)
/-- Laps lie at an address. -/
structure LapsAt (w : World) (ao : Option Addr) (l : List LapV) : Prop where
  nil : ao = none → l = []
  spot : ∀ a, ao = some a → l ≠ [] → a.spot = none
  cells : ∀ a, ao = some a → ∀ i (h : i < l.length), w.cell? ⟨a.block, a.off + i * 3, none⟩ = some (.int .i64 l[i].fr) ∧ w.cell? ⟨a.block, a.off + i * 3 + 1, none⟩ = some (.int .i64 l[i].to_) ∧ w.cell? ⟨a.block, a.off + i * 3 + 2, none⟩ = some (.string l[i].name)
  sizes : ∀ i (h : i < l.length), l[i].name.size ≤ 140737488355328
/-- Tags lie at an address. -/
structure TagsAt (w : World) (ao : Option Addr) (l : List ByteArray) : Prop where
  nil : ao = none → l = []
  spot : ∀ a, ao = some a → l ≠ [] → a.spot = none
  cells : ∀ a, ao = some a → ∀ i (h : i < l.length), w.cell? ⟨a.block, a.off + i, none⟩ = some (.string l[i])
  sizes : ∀ i (h : i < l.length), l[i].size ≤ 140737488355328

theorem SmpsAt.grown {w w' : World} {ao : Option Addr} {l : List Smp} (h : SmpsAt w ao l) (g : w.grownBy w' none) : SmpsAt w' ao l :=
  ⟨h.nil, h.spot, fun a ha i hi => by
    obtain ⟨h0, h1, h2, h3, h4, h5, h6⟩ := h.cells a ha i hi
    exact ⟨grown_cell g h0, grown_cell g h1, grown_cell g h2, grown_cell g h3, grown_cell g h4, grown_cell g h5, grown_cell g h6⟩⟩
theorem LapsAt.grown {w w' : World} {ao : Option Addr} {l : List LapV} (h : LapsAt w ao l) (g : w.grownBy w' none) : LapsAt w' ao l :=
  ⟨h.nil, h.spot, fun a ha i hi => by
    obtain ⟨h0, h1, h2⟩ := h.cells a ha i hi
    exact ⟨grown_cell g h0, grown_cell g h1, grown_cell g h2⟩, h.sizes⟩
theorem TagsAt.grown {w w' : World} {ao : Option Addr} {l : List ByteArray} (h : TagsAt w ao l) (g : w.grownBy w' none) : TagsAt w' ao l :=
  ⟨h.nil, h.spot, fun a ha i hi => grown_cell g (h.cells a ha i hi), h.sizes⟩

structure ActAt (w : World) (a : Act) : Prop where
  ns : a.name.size ≤ 140737488355328
  sl : (a.ss.length : Int) ≤ 9223372036854775807
  ll : (a.ls.length : Int) ≤ 9223372036854775807
  tl : (a.ts.length : Int) ≤ 9223372036854775807
  hs : SmpsAt w a.so a.ss
  hl : LapsAt w a.lo a.ls
  ht : TagsAt w a.to_ a.ts
theorem ActAt.grown {w w' : World} {a : Act} (h : ActAt w a) (g : w.grownBy w' none) : ActAt w' a :=
  ⟨h.ns, h.sl, h.ll, h.tl, h.hs.grown g, h.hl.grown g, h.ht.grown g⟩

end Go.Proofs.Ytgkhhfojioepgaa
namespace Go.Proofs.Ytgkhhfojioepgaa
set_option linter.unusedSimpArgs false
set_option linter.unusedVariables false

structure Ln where
  up : Int
  down : Int
  turns : Int
  z : Int
  deriving DecidableEq

def Ln.go (l : Ln) (z : Int) : Ln := if l.z < z then ⟨l.up + (z - l.z), l.down, l.turns, z⟩ else ⟨l.up, l.down + (l.z - z), l.turns, z⟩
def Ln.worth (th : Int) (l : Ln) : Int := l.up + l.down - th * l.turns
def Ln.more (l : Ln) : Ln := ⟨l.up, l.down, l.turns + 1, l.z⟩
def Ln.key (th how : Int) (l : Ln) : Int := l.worth th + how * l.z
def betterL (th how : Int) (l m : Ln) : Ln := if m.key th how < l.key th how ∨ l.key th how = m.key th how ∧ l.turns ≤ m.turns then l else m

structure St where
  best : Ln
  low : Ln
  high : Ln
def St.next (th : Int) (s : St) (z : Int) : St :=
  ⟨betterL th 0 (s.low.go z) (s.high.go z),
   betterL th (-1) s.low (betterL th 0 (s.low.go z) (s.high.go z)).more,
   betterL th 1 s.high (betterL th 0 (s.low.go z) (s.high.go z)).more⟩
def climbS (th : Int) : St → List Smp → St
  | s, [] => s
  | s, x :: r => climbS th (s.next th x.z) r
def Ln.first (z : Int) : Ln := ⟨0, 0, 0, z⟩
def climbL (th : Int) : List Smp → Ln
  | [] => Ln.first 0
  | x :: r => (climbS th ⟨Ln.first x.z, Ln.first x.z, Ln.first x.z⟩ r).best

/-- The reference's states: sums and turns. -/
structure Wt where
  sum : Int
  turns : Int
def better2 (a b : Wt) : Bool := decide (b.sum < a.sum ∨ a.sum = b.sum ∧ a.turns < b.turns)
def pickC2 (a b : Wt) : Wt := if better2 a b = true then a else b
structure RSt where
  rising : Wt
  falling : Wt
  last : Wt
def RSt.next (th : Int) (s : RSt) (z : Int) : RSt :=
  let last := pickC2 ⟨s.falling.sum - z, s.falling.turns⟩ ⟨s.rising.sum + z, s.rising.turns⟩
  ⟨pickC2 ⟨last.sum - th - z, last.turns + 1⟩ s.rising, pickC2 ⟨last.sum - th + z, last.turns + 1⟩ s.falling, last⟩
def climbR (th : Int) : RSt → List Smp → RSt
  | s, [] => s
  | s, x :: r => climbR th (s.next th x.z) r

/-- What a line has of its own: its numbers are at least 0; what it rose less what it fell is where it is less where it began. -/
def Ln.ok (z0 : Int) (l : Ln) : Prop := 0 ≤ l.up ∧ 0 ≤ l.down ∧ 0 ≤ l.turns ∧ l.up - l.down = l.z - z0

/-- The two states tell the same. -/
structure Same2 (th z0 : Int) (s : St) (r : RSt) : Prop where
  hr : r.rising = ⟨s.low.key th (-1), s.low.turns⟩
  hf : r.falling = ⟨s.high.key th 1, s.high.turns⟩
  lo : s.high.key th (-1) < s.low.key th (-1) ∨ s.high.key th (-1) = s.low.key th (-1) ∧ s.low.turns ≤ s.high.turns
  hi : s.low.key th 1 < s.high.key th 1 ∨ s.low.key th 1 = s.high.key th 1 ∧ s.high.turns ≤ s.low.turns
  ol : s.low.ok z0
  oh : s.high.ok z0

theorem go_ok {z0 z : Int} {l : Ln} (h : l.ok z0) : (l.go z).ok z0 := by
  unfold Ln.go Ln.ok at *
  split
  · simp only; omega
  · simp only; omega
theorem go_z (z : Int) (l : Ln) : (l.go z).z = z := by unfold Ln.go; split <;> rfl
theorem go_up {z : Int} {l : Ln} (h : l.z < z) : (l.go z) = ⟨l.up + (z - l.z), l.down, l.turns, z⟩ := by unfold Ln.go; rw [if_pos h]
theorem go_down {z : Int} {l : Ln} (h : ¬ l.z < z) : (l.go z) = ⟨l.up, l.down + (l.z - z), l.turns, z⟩ := by unfold Ln.go; rw [if_neg h]
theorem go_worth (th z : Int) (l : Ln) : (l.z < z → (l.go z).worth th = l.worth th + (z - l.z)) ∧ (¬ l.z < z → (l.go z).worth th = l.worth th + (l.z - z)) := by
  refine ⟨fun h => ?_, fun h => ?_⟩
  · rw [go_up h]; unfold Ln.worth; simp only; omega
  · rw [go_down h]; unfold Ln.worth; simp only; omega
theorem go_turns (z : Int) (l : Ln) : (l.go z).turns = l.turns := by
  unfold Ln.go; split <;> rfl
theorem more_worth (th : Int) (l : Ln) : l.more.worth th = l.worth th - th := by
  unfold Ln.more Ln.worth
  simp only
  rw [Int.mul_add]; omega
theorem more_ok {z0 : Int} {l : Ln} (h : l.ok z0) : l.more.ok z0 := by
  unfold Ln.more Ln.ok at *; simp only; omega
theorem better_or (th how : Int) (l m : Ln) : betterL th how l m = l ∨ betterL th how l m = m := by
  unfold betterL; split <;> simp
theorem better_ge (th how : Int) (l m : Ln) : (l.key th how < (betterL th how l m).key th how ∨ l.key th how = (betterL th how l m).key th how ∧ (betterL th how l m).turns ≤ l.turns) ∧
    (m.key th how < (betterL th how l m).key th how ∨ m.key th how = (betterL th how l m).key th how ∧ (betterL th how l m).turns ≤ m.turns) := by
  by_cases h : m.key th how < l.key th how ∨ l.key th how = m.key th how ∧ l.turns ≤ m.turns
  · have e : betterL th how l m = l := if_pos h
    rw [e]; omega
  · have e : betterL th how l m = m := if_neg h
    rw [e]; omega
theorem pick_better (th how : Int) (l m : Ln) : pickC2 ⟨m.key th how, m.turns⟩ ⟨l.key th how, l.turns⟩ = ⟨(betterL th how l m).key th how, (betterL th how l m).turns⟩ := by
  by_cases h : m.key th how < l.key th how ∨ l.key th how = m.key th how ∧ l.turns ≤ m.turns
  · have e : betterL th how l m = l := if_pos h
    rw [e]; unfold pickC2 better2
    rw [if_neg (by simp only [decide_eq_true_eq]; omega)]
  · have e : betterL th how l m = m := if_neg h
    rw [e]; unfold pickC2 better2
    rw [if_pos (by simp only [decide_eq_true_eq]; omega)]

theorem last_eq {a b c d zl zh z x y : Int} (hx : (zl < z → x = a + (z - zl)) ∧ (¬ zl < z → x = a + (zl - z))) (hy : (zh < z → y = b + (z - zh)) ∧ (¬ zh < z → y = b + (zh - z)))
    (lo : b - zh < a - zl ∨ b - zh = a - zl ∧ c ≤ d) (hi : a + zl < b + zh ∨ a + zl = b + zh ∧ d ≤ c) :
    pickC2 ⟨b + zh - z, d⟩ ⟨a - zl + z, c⟩ = if y < x ∨ x = y ∧ c ≤ d then ⟨x, c⟩ else ⟨y, d⟩ := by
  unfold pickC2 better2
  simp only [decide_eq_true_eq]
  by_cases c1 : zl < z <;> by_cases c2 : zh < z
  · have e1 := hx.1 c1; have e2 := hy.1 c2; clear hx hy; subst e1 e2
    split <;> split <;> rw [Wt.mk.injEq] <;> constructor <;> omega
  · have e1 := hx.1 c1; have e2 := hy.2 c2; clear hx hy; subst e1 e2
    split <;> split <;> rw [Wt.mk.injEq] <;> constructor <;> omega
  · have e1 := hx.2 c1; have e2 := hy.1 c2; clear hx hy; subst e1 e2
    split <;> split <;> rw [Wt.mk.injEq] <;> constructor <;> omega
  · have e1 := hx.2 c1; have e2 := hy.2 c2; clear hx hy; subst e1 e2
    split <;> split <;> rw [Wt.mk.injEq] <;> constructor <;> omega

theorem key_m1 (th : Int) (l : Ln) : l.key th (-1) = l.worth th - l.z := by unfold Ln.key; omega
theorem key_1 (th : Int) (l : Ln) : l.key th 1 = l.worth th + l.z := by unfold Ln.key; omega
theorem key_0 (th : Int) (l : Ln) : l.key th 0 = l.worth th := by unfold Ln.key; omega

theorem next_last {th z0 : Int} {s : St} {r : RSt} (h : Same2 th z0 s r) (z : Int) : (r.next th z).last = ⟨(s.next th z).best.worth th, (s.next th z).best.turns⟩ := by
  have e : (r.next th z).last = pickC2 ⟨r.falling.sum - z, r.falling.turns⟩ ⟨r.rising.sum + z, r.rising.turns⟩ := rfl
  have e2 : (s.next th z).best = betterL th 0 (s.low.go z) (s.high.go z) := rfl
  have lo := h.lo; have hi := h.hi
  rw [key_m1, key_m1] at lo
  rw [key_1, key_1] at hi
  have q := last_eq (go_worth th z s.low) (go_worth th z s.high) lo hi
  rw [e, e2, h.hr, h.hf, key_m1, key_1, q]
  by_cases c : (s.high.go z).key th 0 < (s.low.go z).key th 0 ∨ (s.low.go z).key th 0 = (s.high.go z).key th 0 ∧ (s.low.go z).turns ≤ (s.high.go z).turns
  · have eb : betterL th 0 (s.low.go z) (s.high.go z) = s.low.go z := if_pos c
    rw [eb, if_pos (by simpa only [key_0, go_turns] using c), go_turns]
  · have eb : betterL th 0 (s.low.go z) (s.high.go z) = s.high.go z := if_neg c
    rw [eb, if_neg (by simpa only [key_0, go_turns] using c), go_turns]

theorem best_ok {th z0 : Int} {s : St} (h : s.low.ok z0) (h' : s.high.ok z0) (z : Int) : (s.next th z).best.ok z0 ∧ (s.next th z).best.z = z := by
  have e2 : (s.next th z).best = betterL th 0 (s.low.go z) (s.high.go z) := rfl
  rw [e2]
  rcases better_or th 0 (s.low.go z) (s.high.go z) with e | e
  · rw [e]; exact ⟨go_ok h, go_z _ _⟩
  · rw [e]; exact ⟨go_ok h', go_z _ _⟩

theorem same_next {th z0 : Int} {s : St} {r : RSt} (h : Same2 th z0 s r) (z : Int) : Same2 th z0 (s.next th z) (r.next th z) := by
  have hl := next_last h z
  have hb := (best_ok (th := th) h.ol h.oh z).1
  have mk : ∀ how, (s.next th z).best.more.key th how = (s.next th z).best.worth th - th + how * z := fun how => by
    unfold Ln.key; rw [more_worth]
    have : (s.next th z).best.more.z = z := (best_ok (th := th) h.ol h.oh z).2
    rw [this]
  have mt : (s.next th z).best.more.turns = (s.next th z).best.turns + 1 := rfl
  have e1 : (r.next th z).rising = pickC2 ⟨(r.next th z).last.sum - th - z, (r.next th z).last.turns + 1⟩ r.rising := rfl
  have e2 : (r.next th z).falling = pickC2 ⟨(r.next th z).last.sum - th + z, (r.next th z).last.turns + 1⟩ r.falling := rfl
  have e3 : (s.next th z).low = betterL th (-1) s.low (s.next th z).best.more := rfl
  have e4 : (s.next th z).high = betterL th 1 s.high (s.next th z).best.more := rfl
  have g1 := better_ge th (-1) s.low (s.next th z).best.more
  have g2 := better_ge th 1 s.high (s.next th z).best.more
  have o1 := better_or th (-1) s.low (s.next th z).best.more
  have o2 := better_or th 1 s.high (s.next th z).best.more
  have p1 := pick_better th (-1) s.low (s.next th z).best.more
  have p2 := pick_better th 1 s.high (s.next th z).best.more
  rw [← e3] at g1 o1 p1
  rw [← e4] at g2 o2 p2
  have lo := h.lo; have hi := h.hi
  refine ⟨?_, ?_, ?_, ?_, ?_, ?_⟩
  · rw [← p1, e1, hl, h.hr, mk, mt]
    dsimp only
    congr 2; omega
  · rw [← p2, e2, hl, h.hf, mk, mt]
    dsimp only
    congr 2; omega
  · rcases o2 with e | e
    · rw [e]; omega
    · rw [e]; exact g1.2
  · rcases o1 with e | e
    · rw [e]; omega
    · rw [e]; exact g2.2
  · rcases o1 with e | e
    · rw [e]; exact h.ol
    · rw [e]; exact more_ok hb
  · rcases o2 with e | e
    · rw [e]; exact h.oh
    · rw [e]; exact more_ok hb

/-- How great a line's numbers can be behind so many rounds. -/
structure Ln.bd (k : Int) (l : Ln) : Prop where
  u0 : 0 ≤ l.up
  u1 : l.up ≤ k * 200000
  d0 : 0 ≤ l.down
  d1 : l.down ≤ k * 200000
  t0 : 0 ≤ l.turns
  t1 : l.turns ≤ k
  z0 : -100000 ≤ l.z
  z1 : l.z ≤ 100000
theorem bd_go {k : Int} {l : Ln} (h : l.bd k) {z : Int} (z0 : -100000 ≤ z) (z1 : z ≤ 100000) : (l.go z).bd (k + 1) ∧ (l.go z).turns ≤ k := by
  obtain ⟨a, b, c, d, e, f, g, i⟩ := h
  unfold Ln.go
  split
  · exact ⟨⟨by simp only; omega, by simp only; omega, by simp only; omega, by simp only; omega, e, by simp only; omega, z0, z1⟩, f⟩
  · exact ⟨⟨by simp only; omega, by simp only; omega, by simp only; omega, by simp only; omega, e, by simp only; omega, z0, z1⟩, f⟩
theorem bd_more {k : Int} {l : Ln} (h : l.bd (k + 1)) (ht : l.turns ≤ k) : l.more.bd (k + 1) := by
  obtain ⟨a, b, c, d, e, f, g, i⟩ := h
  exact ⟨a, b, c, d, by unfold Ln.more; simp only; omega, by unfold Ln.more; simp only; omega, g, i⟩
theorem bd_succ {k : Int} {l : Ln} (h : l.bd k) : l.bd (k + 1) := by
  obtain ⟨a, b, c, d, e, f, g, i⟩ := h
  exact ⟨a, by omega, c, by omega, e, by omega, g, i⟩
theorem bd_better {k th how : Int} {l m : Ln} (h : l.bd k) (h' : m.bd k) : (betterL th how l m).bd k := by
  rcases better_or th how l m with e | e
  · rw [e]; exact h
  · rw [e]; exact h'
theorem bd_next {k th : Int} {s : St} (hl : s.low.bd k) (hh : s.high.bd k) {z : Int} (z0 : -100000 ≤ z) (z1 : z ≤ 100000) :
    (s.low.go z).bd (k + 1) ∧ (s.high.go z).bd (k + 1) ∧ (s.next th z).best.bd (k + 1) ∧ (s.next th z).best.more.bd (k + 1) ∧ (s.next th z).low.bd (k + 1) ∧ (s.next th z).high.bd (k + 1) := by
  obtain ⟨a, ta⟩ := bd_go hl z0 z1
  obtain ⟨b, tb⟩ := bd_go hh z0 z1
  have hb : (s.next th z).best.bd (k + 1) := bd_better a b
  have ht : (s.next th z).best.turns ≤ k := by
    have e2 : (s.next th z).best = betterL th 0 (s.low.go z) (s.high.go z) := rfl
    rw [e2]
    rcases better_or th 0 (s.low.go z) (s.high.go z) with e | e
    · rw [e]; exact ta
    · rw [e]; exact tb
  have hm := bd_more hb ht
  exact ⟨a, b, hb, hm, bd_better (bd_succ hl) hm, bd_better (bd_succ hh) hm⟩

end Go.Proofs.Ytgkhhfojioepgaa
namespace Go.Proofs.Ytgkhhfojioepgaa
open Go.RowKit
set_option linter.unusedSimpArgs false
set_option linter.unusedVariables false

theorem grown_set {w w1 : World} (h : w.grownBy w1 none) {b : Nat} (hb : w.heap.size ≤ b) (i : Nat) (v : Value) : w.grownBy (w1.setCell ⟨b, i, none⟩ v) none :=
  ⟨h.os, h.tape, h.output, by have := h.size; simp [World.setCell]; omega, fun k hk _ => by
    rw [Below.heap_setCell _ _ _ _ (by show k ≠ b; omega)]; exact h.block k hk (by simp)⟩
abbrev Ln.val (l : Ln) : Value := .agg #[.int .i64 l.up, .int .i64 l.down, .int .i64 l.turns, .int .i64 l.z]
/-- A line's numbers are not too great. -/
structure Ln.fits (l : Ln) : Prop where
  u0 : 0 ≤ l.up
  u1 : l.up ≤ 10000000000
  d0 : 0 ≤ l.down
  d1 : l.down ≤ 10000000000
  t0 : 0 ≤ l.turns
  t1 : l.turns ≤ 100000
  z0 : -100000 ≤ l.z
  z1 : l.z ≤ 100000
theorem prod_bd {th t : Int} (h0 : 0 ≤ th) (h1 : th ≤ 200000) (t0 : 0 ≤ t) (t1 : t ≤ 100000) : 0 ≤ th * t ∧ th * t ≤ 20000000000 := by
  refine ⟨Int.mul_nonneg h0 t0, ?_⟩
  have : th * t ≤ 200000 * 100000 := Int.mul_le_mul h1 t1 t0 (by omega)
  omega

theorem worth_is (l : Ln) (th : Int) (h0 : 0 ≤ th) (h1 : th ≤ 200000) (hf : l.fits) (w : World) {n : Int} (hn : Hid (l.worth th = n)) :
    Calls Try.prog 129 #[.agg #[.int .i64 l.up, .int .i64 l.down, .int .i64 l.turns, .int .i64 l.z], .int .i64 th] w fun e w' => e = .returned (.int .i64 n) ∧ w.grownBy w' none := by
  have hb := prod_bd h0 h1 hf.t0 hf.t1
  have hv := hn.out
  unfold Ln.worth at hv
  obtain ⟨u0, u1, d0, d1, t0, t1, z0, z1⟩ := hf
  obtain ⟨up, dn, tn, z⟩ := l
  simp only at *
  obtain ⟨P, hP⟩ : ∃ P, th * tn = P := ⟨_, rfl⟩
  rw [hP] at hb hv
  obtain ⟨b0, b1⟩ := hb
  have rp : IntKind.i64.wrap (th * tn) = P := by rw [hP]; exact IntWalk.i64_in _ (by omega)
  have HV := Lib.hid hv
  clear hv hP hn
  go_enter Try.func129, Try.ntmps129
  go_wp2
  go_ret
  exact ⟨ret_int HV.out, World.grownBy_alloc _ _ _⟩

theorem to_is (l : Ln) (z : Int) (hf : l.fits) (z0 : -100000 ≤ z) (z1 : z ≤ 100000) (w : World) {m : Ln} (hm : Hid (l.go z = m)) :
    Calls Try.prog 130 #[.agg #[.int .i64 l.up, .int .i64 l.down, .int .i64 l.turns, .int .i64 l.z], .int .i64 z] w fun e w' => e = .returned (.agg #[.int .i64 m.up, .int .i64 m.down, .int .i64 m.turns, .int .i64 m.z]) ∧ w.grownBy w' none := by
  obtain ⟨u0, u1, d0, d1, t0, t1, y0, y1⟩ := hf
  obtain ⟨up, dn, tn, lz⟩ := l
  by_cases c : lz < z
  · have hv : m = ⟨up + (z - lz), dn, tn, z⟩ := by rw [← hm.out]; exact go_up c
    clear hm
    subst hv
    simp only at *
    go_enter Try.func130, Try.ntmps130
    go_wp2
    refine bodyPost_ret (v := .agg #[.int .i64 (up + (z - lz)), .int .i64 dn, .int .i64 tn, .int .i64 z]) (by simp [results, Try.results130, go_sem]) rfl ⟨rfl, ?_⟩
    exact grown_trans (World.grownBy_alloc _ _ _) (World.grownBy_alloc _ _ _)
  · have hv : m = ⟨up, dn + (lz - z), tn, z⟩ := by rw [← hm.out]; exact go_down c
    clear hm
    subst hv
    simp only at *
    go_enter Try.func130, Try.ntmps130
    go_wp2
    refine bodyPost_ret (v := .agg #[.int .i64 up, .int .i64 (dn + (lz - z)), .int .i64 tn, .int .i64 z]) (by simp [results, Try.results130, go_sem]) rfl ⟨rfl, ?_⟩
    exact grown_trans (World.grownBy_alloc _ _ _) (World.grownBy_alloc _ _ _)
end Go.Proofs.Ytgkhhfojioepgaa
namespace Go.Proofs.Ytgkhhfojioepgaa
open Go.RowKit
set_option linter.unusedSimpArgs false
set_option linter.unusedVariables false

set_option maxRecDepth 100000 in
set_option maxHeartbeats 3200000 in
theorem better_is (l m : Ln) (how th : Int) (hh : how = -1 ∨ how = 0 ∨ how = 1) (h0 : 0 ≤ th) (h1 : th ≤ 200000) (hl : l.fits) (hm : m.fits) (T : Nat) (w : World) (hT : w.cell? ⟨T, 0, none⟩ = some (.int .i64 th)) {r : Ln} (hr : Hid (betterL th how l m = r)) :
    Calls Try.prog 128 #[.agg #[.int .i64 l.up, .int .i64 l.down, .int .i64 l.turns, .int .i64 l.z], .agg #[.int .i64 m.up, .int .i64 m.down, .int .i64 m.turns, .int .i64 m.z], .int .i64 how, .pointer (some ⟨T, 0, none⟩)] w fun e w' => e = .returned (.agg #[.int .i64 r.up, .int .i64 r.down, .int .i64 r.turns, .int .i64 r.z]) ∧ w.grownBy w' none := by
  have hv := hr.out
  unfold betterL at hv
  obtain ⟨W1, hW1⟩ : ∃ x, l.worth th = x := ⟨_, rfl⟩
  obtain ⟨W2, hW2⟩ : ∃ x, m.worth th = x := ⟨_, rfl⟩
  have b1 := prod_bd h0 h1 hl.t0 hl.t1
  have b2 := prod_bd h0 h1 hm.t0 hm.t1
  have w1b : -20000000000 ≤ W1 ∧ W1 ≤ 20000000000 := by rw [← hW1]; unfold Ln.worth; have := hl.u0; have := hl.u1; have := hl.d0; have := hl.d1; omega
  have w2b : -20000000000 ≤ W2 ∧ W2 ≤ 20000000000 := by rw [← hW2]; unfold Ln.worth; have := hm.u0; have := hm.u1; have := hm.d0; have := hm.d1; omega
  have HLF := Lib.hid hl; have HMF := Lib.hid hm
  have zl := And.intro hl.z0 hl.z1
  have zm := And.intro hm.z0 hm.z1
  clear hl hm b1 b2
  obtain ⟨lu, ld, lt, lz⟩ := l
  obtain ⟨mu, md, mt, mz⟩ := m
  unfold Ln.key at hv
  rw [hW1, hW2] at hv
  have HW1 := Lib.hid hW1; have HW2 := Lib.hid hW2
  simp only at *
  obtain ⟨Q1, hQ1⟩ : ∃ x, how * lz = x := ⟨_, rfl⟩
  obtain ⟨Q2, hQ2⟩ : ∃ x, how * mz = x := ⟨_, rfl⟩
  have q1 : -100000 ≤ Q1 ∧ Q1 ≤ 100000 := by rw [← hQ1]; rcases hh with rfl | rfl | rfl <;> omega
  have q2 : -100000 ≤ Q2 ∧ Q2 ≤ 100000 := by rw [← hQ2]; rcases hh with rfl | rfl | rfl <;> omega
  rw [hQ1, hQ2] at hv
  have rq1 : IntKind.i64.wrap (how * lz) = Q1 := by rw [hQ1]; exact IntWalk.i64_in _ (by omega)
  have rq2 : IntKind.i64.wrap (how * mz) = Q2 := by rw [hQ2]; exact IntWalk.i64_in _ (by omega)
  obtain ⟨K1, hK1⟩ : ∃ x, W1 + Q1 = x := ⟨_, rfl⟩
  obtain ⟨K2, hK2⟩ : ∃ x, W2 + Q2 = x := ⟨_, rfl⟩
  rw [hK1, hK2] at hv
  have rk1 : IntKind.i64.wrap (W1 + Q1) = K1 := by rw [hK1]; exact IntWalk.i64_in _ (by omega)
  have rk2 : IntKind.i64.wrap (W2 + Q2) = K2 := by rw [hK2]; exact IntWalk.i64_in _ (by omega)
  have HWL : Hid (∀ W : World, Calls Try.prog 129 #[.agg #[.int .i64 lu, .int .i64 ld, .int .i64 lt, .int .i64 lz], .int .i64 th] W fun e w' => e = .returned (.int .i64 W1) ∧ W.grownBy w' none) := fun W => worth_is ⟨lu, ld, lt, lz⟩ th h0 h1 HLF.out W HW1
  have HWM : Hid (∀ W : World, Calls Try.prog 129 #[.agg #[.int .i64 mu, .int .i64 md, .int .i64 mt, .int .i64 mz], .int .i64 th] W fun e w' => e = .returned (.int .i64 W2) ∧ W.grownBy w' none) := fun W => worth_is ⟨mu, md, mt, mz⟩ th h0 h1 HMF.out W HW2
  clear hW1 hW2 hQ1 hQ2 hK1 hK2 q1 q2 w1b w2b hr hh zl zm
  by_cases c1 : K2 < K1
  · have HV : Hid (r = ⟨lu, ld, lt, lz⟩) := by show _ = _; rw [← hv, if_pos (.inl c1)]
    have d1 : decide (K2 < K1) = true := by simpa using c1
    clear hv c1
    have hS0 : (World.grownBy w (((w.alloc (.cells #[.int .i64 lu, .int .i64 ld, .int .i64 lt, .int .i64 lz] 139)).alloc (.cells #[.int .i64 mu, .int .i64 md, .int .i64 mt, .int .i64 mz] 139)).alloc (.cells #[.int .i64 0, .int .i64 0, .int .i64 0, .int .i64 0] 139)) none ∧ World.cell? (((w.alloc (.cells #[.int .i64 lu, .int .i64 ld, .int .i64 lt, .int .i64 lz] 139)).alloc (.cells #[.int .i64 mu, .int .i64 md, .int .i64 mt, .int .i64 mz] 139)).alloc (.cells #[.int .i64 0, .int .i64 0, .int .i64 0, .int .i64 0] 139)) ⟨T, 0, none⟩ = some (.int .i64 th) ∧ World.cell? (((w.alloc (.cells #[.int .i64 lu, .int .i64 ld, .int .i64 lt, .int .i64 lz] 139)).alloc (.cells #[.int .i64 mu, .int .i64 md, .int .i64 mt, .int .i64 mz] 139)).alloc (.cells #[.int .i64 0, .int .i64 0, .int .i64 0, .int .i64 0] 139)) ⟨w.heap.size, 0, none⟩ = some (.int .i64 lu) ∧ World.cell? (((w.alloc (.cells #[.int .i64 lu, .int .i64 ld, .int .i64 lt, .int .i64 lz] 139)).alloc (.cells #[.int .i64 mu, .int .i64 md, .int .i64 mt, .int .i64 mz] 139)).alloc (.cells #[.int .i64 0, .int .i64 0, .int .i64 0, .int .i64 0] 139)) ⟨w.heap.size, 1, none⟩ = some (.int .i64 ld) ∧ World.cell? (((w.alloc (.cells #[.int .i64 lu, .int .i64 ld, .int .i64 lt, .int .i64 lz] 139)).alloc (.cells #[.int .i64 mu, .int .i64 md, .int .i64 mt, .int .i64 mz] 139)).alloc (.cells #[.int .i64 0, .int .i64 0, .int .i64 0, .int .i64 0] 139)) ⟨w.heap.size, 2, none⟩ = some (.int .i64 lt) ∧ World.cell? (((w.alloc (.cells #[.int .i64 lu, .int .i64 ld, .int .i64 lt, .int .i64 lz] 139)).alloc (.cells #[.int .i64 mu, .int .i64 md, .int .i64 mt, .int .i64 mz] 139)).alloc (.cells #[.int .i64 0, .int .i64 0, .int .i64 0, .int .i64 0] 139)) ⟨w.heap.size, 3, none⟩ = some (.int .i64 lz) ∧ World.cell? (((w.alloc (.cells #[.int .i64 lu, .int .i64 ld, .int .i64 lt, .int .i64 lz] 139)).alloc (.cells #[.int .i64 mu, .int .i64 md, .int .i64 mt, .int .i64 mz] 139)).alloc (.cells #[.int .i64 0, .int .i64 0, .int .i64 0, .int .i64 0] 139)) ⟨w.heap.size + 1, 0, none⟩ = some (.int .i64 mu) ∧ World.cell? (((w.alloc (.cells #[.int .i64 lu, .int .i64 ld, .int .i64 lt, .int .i64 lz] 139)).alloc (.cells #[.int .i64 mu, .int .i64 md, .int .i64 mt, .int .i64 mz] 139)).alloc (.cells #[.int .i64 0, .int .i64 0, .int .i64 0, .int .i64 0] 139)) ⟨w.heap.size + 1, 1, none⟩ = some (.int .i64 md) ∧ World.cell? (((w.alloc (.cells #[.int .i64 lu, .int .i64 ld, .int .i64 lt, .int .i64 lz] 139)).alloc (.cells #[.int .i64 mu, .int .i64 md, .int .i64 mt, .int .i64 mz] 139)).alloc (.cells #[.int .i64 0, .int .i64 0, .int .i64 0, .int .i64 0] 139)) ⟨w.heap.size + 1, 2, none⟩ = some (.int .i64 mt) ∧ World.cell? (((w.alloc (.cells #[.int .i64 lu, .int .i64 ld, .int .i64 lt, .int .i64 lz] 139)).alloc (.cells #[.int .i64 mu, .int .i64 md, .int .i64 mt, .int .i64 mz] 139)).alloc (.cells #[.int .i64 0, .int .i64 0, .int .i64 0, .int .i64 0] 139)) ⟨w.heap.size + 1, 3, none⟩ = some (.int .i64 mz) ∧ (((w.alloc (.cells #[.int .i64 lu, .int .i64 ld, .int .i64 lt, .int .i64 lz] 139)).alloc (.cells #[.int .i64 mu, .int .i64 md, .int .i64 mt, .int .i64 mz] 139)).alloc (.cells #[.int .i64 0, .int .i64 0, .int .i64 0, .int .i64 0] 139)).grownBy (((w.alloc (.cells #[.int .i64 lu, .int .i64 ld, .int .i64 lt, .int .i64 lz] 139)).alloc (.cells #[.int .i64 mu, .int .i64 md, .int .i64 mt, .int .i64 mz] 139)).alloc (.cells #[.int .i64 0, .int .i64 0, .int .i64 0, .int .i64 0] 139)) none) := ⟨grown_trans (grown_trans (World.grownBy_alloc _ _ _) (World.grownBy_alloc _ _ _)) (World.grownBy_alloc _ _ _), grown_cell (grown_trans (grown_trans (World.grownBy_alloc _ _ _) (World.grownBy_alloc _ _ _)) (World.grownBy_alloc _ _ _)) hT, by go_simp, by go_simp, by go_simp, by go_simp, by go_simp, by go_simp, by go_simp, by go_simp, grown_refl _ _⟩
    have hstep : ∀ W W' : World, (World.grownBy w W none ∧ World.cell? W ⟨T, 0, none⟩ = some (.int .i64 th) ∧ World.cell? W ⟨w.heap.size, 0, none⟩ = some (.int .i64 lu) ∧ World.cell? W ⟨w.heap.size, 1, none⟩ = some (.int .i64 ld) ∧ World.cell? W ⟨w.heap.size, 2, none⟩ = some (.int .i64 lt) ∧ World.cell? W ⟨w.heap.size, 3, none⟩ = some (.int .i64 lz) ∧ World.cell? W ⟨w.heap.size + 1, 0, none⟩ = some (.int .i64 mu) ∧ World.cell? W ⟨w.heap.size + 1, 1, none⟩ = some (.int .i64 md) ∧ World.cell? W ⟨w.heap.size + 1, 2, none⟩ = some (.int .i64 mt) ∧ World.cell? W ⟨w.heap.size + 1, 3, none⟩ = some (.int .i64 mz) ∧ (((w.alloc (.cells #[.int .i64 lu, .int .i64 ld, .int .i64 lt, .int .i64 lz] 139)).alloc (.cells #[.int .i64 mu, .int .i64 md, .int .i64 mt, .int .i64 mz] 139)).alloc (.cells #[.int .i64 0, .int .i64 0, .int .i64 0, .int .i64 0] 139)).grownBy W none) → W.grownBy W' none → (World.grownBy w W' none ∧ World.cell? W' ⟨T, 0, none⟩ = some (.int .i64 th) ∧ World.cell? W' ⟨w.heap.size, 0, none⟩ = some (.int .i64 lu) ∧ World.cell? W' ⟨w.heap.size, 1, none⟩ = some (.int .i64 ld) ∧ World.cell? W' ⟨w.heap.size, 2, none⟩ = some (.int .i64 lt) ∧ World.cell? W' ⟨w.heap.size, 3, none⟩ = some (.int .i64 lz) ∧ World.cell? W' ⟨w.heap.size + 1, 0, none⟩ = some (.int .i64 mu) ∧ World.cell? W' ⟨w.heap.size + 1, 1, none⟩ = some (.int .i64 md) ∧ World.cell? W' ⟨w.heap.size + 1, 2, none⟩ = some (.int .i64 mt) ∧ World.cell? W' ⟨w.heap.size + 1, 3, none⟩ = some (.int .i64 mz) ∧ (((w.alloc (.cells #[.int .i64 lu, .int .i64 ld, .int .i64 lt, .int .i64 lz] 139)).alloc (.cells #[.int .i64 mu, .int .i64 md, .int .i64 mt, .int .i64 mz] 139)).alloc (.cells #[.int .i64 0, .int .i64 0, .int .i64 0, .int .i64 0] 139)).grownBy W' none) := fun W W' h g => ⟨grown_trans h.1 g, grown_cell g h.2.1, grown_cell g h.2.2.1, grown_cell g h.2.2.2.1, grown_cell g h.2.2.2.2.1, grown_cell g h.2.2.2.2.2.1, grown_cell g h.2.2.2.2.2.2.1, grown_cell g h.2.2.2.2.2.2.2.1, grown_cell g h.2.2.2.2.2.2.2.2.1, grown_cell g h.2.2.2.2.2.2.2.2.2.1, grown_trans h.2.2.2.2.2.2.2.2.2.2 g⟩
    have hSd : (World.grownBy w (((w.alloc (.cells #[.int .i64 lu, .int .i64 ld, .int .i64 lt, .int .i64 lz] 139)).alloc (.cells #[.int .i64 mu, .int .i64 md, .int .i64 mt, .int .i64 mz] 139)).alloc (.cells #[.int .i64 0, .int .i64 0, .int .i64 0, .int .i64 0] 139)).drew none ∧ World.cell? (((w.alloc (.cells #[.int .i64 lu, .int .i64 ld, .int .i64 lt, .int .i64 lz] 139)).alloc (.cells #[.int .i64 mu, .int .i64 md, .int .i64 mt, .int .i64 mz] 139)).alloc (.cells #[.int .i64 0, .int .i64 0, .int .i64 0, .int .i64 0] 139)).drew ⟨T, 0, none⟩ = some (.int .i64 th) ∧ World.cell? (((w.alloc (.cells #[.int .i64 lu, .int .i64 ld, .int .i64 lt, .int .i64 lz] 139)).alloc (.cells #[.int .i64 mu, .int .i64 md, .int .i64 mt, .int .i64 mz] 139)).alloc (.cells #[.int .i64 0, .int .i64 0, .int .i64 0, .int .i64 0] 139)).drew ⟨w.heap.size, 0, none⟩ = some (.int .i64 lu) ∧ World.cell? (((w.alloc (.cells #[.int .i64 lu, .int .i64 ld, .int .i64 lt, .int .i64 lz] 139)).alloc (.cells #[.int .i64 mu, .int .i64 md, .int .i64 mt, .int .i64 mz] 139)).alloc (.cells #[.int .i64 0, .int .i64 0, .int .i64 0, .int .i64 0] 139)).drew ⟨w.heap.size, 1, none⟩ = some (.int .i64 ld) ∧ World.cell? (((w.alloc (.cells #[.int .i64 lu, .int .i64 ld, .int .i64 lt, .int .i64 lz] 139)).alloc (.cells #[.int .i64 mu, .int .i64 md, .int .i64 mt, .int .i64 mz] 139)).alloc (.cells #[.int .i64 0, .int .i64 0, .int .i64 0, .int .i64 0] 139)).drew ⟨w.heap.size, 2, none⟩ = some (.int .i64 lt) ∧ World.cell? (((w.alloc (.cells #[.int .i64 lu, .int .i64 ld, .int .i64 lt, .int .i64 lz] 139)).alloc (.cells #[.int .i64 mu, .int .i64 md, .int .i64 mt, .int .i64 mz] 139)).alloc (.cells #[.int .i64 0, .int .i64 0, .int .i64 0, .int .i64 0] 139)).drew ⟨w.heap.size, 3, none⟩ = some (.int .i64 lz) ∧ World.cell? (((w.alloc (.cells #[.int .i64 lu, .int .i64 ld, .int .i64 lt, .int .i64 lz] 139)).alloc (.cells #[.int .i64 mu, .int .i64 md, .int .i64 mt, .int .i64 mz] 139)).alloc (.cells #[.int .i64 0, .int .i64 0, .int .i64 0, .int .i64 0] 139)).drew ⟨w.heap.size + 1, 0, none⟩ = some (.int .i64 mu) ∧ World.cell? (((w.alloc (.cells #[.int .i64 lu, .int .i64 ld, .int .i64 lt, .int .i64 lz] 139)).alloc (.cells #[.int .i64 mu, .int .i64 md, .int .i64 mt, .int .i64 mz] 139)).alloc (.cells #[.int .i64 0, .int .i64 0, .int .i64 0, .int .i64 0] 139)).drew ⟨w.heap.size + 1, 1, none⟩ = some (.int .i64 md) ∧ World.cell? (((w.alloc (.cells #[.int .i64 lu, .int .i64 ld, .int .i64 lt, .int .i64 lz] 139)).alloc (.cells #[.int .i64 mu, .int .i64 md, .int .i64 mt, .int .i64 mz] 139)).alloc (.cells #[.int .i64 0, .int .i64 0, .int .i64 0, .int .i64 0] 139)).drew ⟨w.heap.size + 1, 2, none⟩ = some (.int .i64 mt) ∧ World.cell? (((w.alloc (.cells #[.int .i64 lu, .int .i64 ld, .int .i64 lt, .int .i64 lz] 139)).alloc (.cells #[.int .i64 mu, .int .i64 md, .int .i64 mt, .int .i64 mz] 139)).alloc (.cells #[.int .i64 0, .int .i64 0, .int .i64 0, .int .i64 0] 139)).drew ⟨w.heap.size + 1, 3, none⟩ = some (.int .i64 mz) ∧ (((w.alloc (.cells #[.int .i64 lu, .int .i64 ld, .int .i64 lt, .int .i64 lz] 139)).alloc (.cells #[.int .i64 mu, .int .i64 md, .int .i64 mt, .int .i64 mz] 139)).alloc (.cells #[.int .i64 0, .int .i64 0, .int .i64 0, .int .i64 0] 139)).grownBy (((w.alloc (.cells #[.int .i64 lu, .int .i64 ld, .int .i64 lt, .int .i64 lz] 139)).alloc (.cells #[.int .i64 mu, .int .i64 md, .int .i64 mt, .int .i64 mz] 139)).alloc (.cells #[.int .i64 0, .int .i64 0, .int .i64 0, .int .i64 0] 139)).drew none) := hstep _ _ hS0 (grown_drewN _ _ 1)
    have HSTEP := Lib.hid hstep; have HSD := Lib.hid hSd
    clear hS0 hstep hSd hT
    go_enter Try.func128, Try.ntmps128
    go_wp2_with fail
    go_region_held3 (fun W => (w.grownBy W none ∧ W.cell? ⟨T, 0, none⟩ = some (.int .i64 th) ∧ W.cell? ⟨w.heap.size, 0, none⟩ = some (.int .i64 lu) ∧ W.cell? ⟨w.heap.size, 1, none⟩ = some (.int .i64 ld) ∧ W.cell? ⟨w.heap.size, 2, none⟩ = some (.int .i64 lt) ∧ W.cell? ⟨w.heap.size, 3, none⟩ = some (.int .i64 lz) ∧ W.cell? ⟨w.heap.size + 1, 0, none⟩ = some (.int .i64 mu) ∧ W.cell? ⟨w.heap.size + 1, 1, none⟩ = some (.int .i64 md) ∧ W.cell? ⟨w.heap.size + 1, 2, none⟩ = some (.int .i64 mt) ∧ W.cell? ⟨w.heap.size + 1, 3, none⟩ = some (.int .i64 mz) ∧ (((w.alloc (.cells #[.int .i64 lu, .int .i64 ld, .int .i64 lt, .int .i64 lz] 139)).alloc (.cells #[.int .i64 mu, .int .i64 md, .int .i64 mt, .int .i64 mz] 139)).alloc (.cells #[.int .i64 0, .int .i64 0, .int .i64 0, .int .i64 0] 139)).grownBy W none)) (first | exact HSD.out | (refine HSTEP.out _ _ ?_ (by assumption) <;> assumption)) (first
      | (go_at_call 129; first | ((with_reducible refine (HWL.out _).mono ?_); rintro x w7 ⟨rfl, hg7⟩) | ((with_reducible refine (HWM.out _).mono ?_); rintro x w7 ⟨rfl, hg7⟩)))
    all_goals
      rename_i hfin
      obtain ⟨G9, c0, l0, l1, l2, l3, m0, m1, m2, m3, GB⟩ := hfin
      have kz : w7.heap[w.heap.size + 1 + 1]? = some (.cells #[.int .i64 0, .int .i64 0, .int .i64 0, .int .i64 0] 139 (0, 0)) := by
        rw [GB.block _ (by simp) (by simp)]
        have q := heap_alloc_new ((w.alloc (.cells #[.int .i64 lu, .int .i64 ld, .int .i64 lt, .int .i64 lz] 139)).alloc (.cells #[.int .i64 mu, .int .i64 md, .int .i64 mt, .int .i64 mz] 139)) (.cells #[.int .i64 0, .int .i64 0, .int .i64 0, .int .i64 0] 139)
        simpa using q
      have z0 : w7.cell? ⟨w.heap.size + 1 + 1, 0, none⟩ = some (.int .i64 0) := by simp [World.cell?, kz]
      have z1 : w7.cell? ⟨w.heap.size + 1 + 1, 1, none⟩ = some (.int .i64 0) := by simp [World.cell?, kz]
      have z2 : w7.cell? ⟨w.heap.size + 1 + 1, 2, none⟩ = some (.int .i64 0) := by simp [World.cell?, kz]
      have z3 : w7.cell? ⟨w.heap.size + 1 + 1, 3, none⟩ = some (.int .i64 0) := by simp [World.cell?, kz]
      have y0 : w7.frozen? ⟨w.heap.size + 1 + 1, 0, none⟩ = false := by simp [World.frozen?, kz]
      have y1 : w7.frozen? ⟨w.heap.size + 1 + 1, 1, none⟩ = false := by simp [World.frozen?, kz]
      have y2 : w7.frozen? ⟨w.heap.size + 1 + 1, 2, none⟩ = false := by simp [World.frozen?, kz]
      have y3 : w7.frozen? ⟨w.heap.size + 1 + 1, 3, none⟩ = false := by simp [World.frozen?, kz]
      clear kz HSTEP HSD
      go_wp2_with fail
      refine bodyPost_ret (v := .agg #[.int .i64 lu, .int .i64 ld, .int .i64 lt, .int .i64 lz]) (by simp [results, Try.results128, go_sem, z0, z1, z2, z3]) rfl ⟨by rw [HV.out], ?_⟩
      exact grown_set (grown_set (grown_set (grown_set G9 (by omega) _ _) (by omega) _ _) (by omega) _ _) (by omega) _ _
  have d1 : decide (K2 < K1) = false := by simpa using c1
  by_cases c2 : K1 = K2
  · have d2 : (K1 == K2) = true := by simpa using c2
    by_cases c3 : lt ≤ mt
    · have HV : Hid (r = ⟨lu, ld, lt, lz⟩) := by show _ = _; rw [← hv, if_pos (.inr ⟨c2, c3⟩)]
      have d3 : decide (lt ≤ mt) = true := by simpa using c3
      have C2 := Lib.hid c2
      clear hv c2 c3 c1
      have hS0 : (World.grownBy w (((w.alloc (.cells #[.int .i64 lu, .int .i64 ld, .int .i64 lt, .int .i64 lz] 139)).alloc (.cells #[.int .i64 mu, .int .i64 md, .int .i64 mt, .int .i64 mz] 139)).alloc (.cells #[.int .i64 0, .int .i64 0, .int .i64 0, .int .i64 0] 139)) none ∧ World.cell? (((w.alloc (.cells #[.int .i64 lu, .int .i64 ld, .int .i64 lt, .int .i64 lz] 139)).alloc (.cells #[.int .i64 mu, .int .i64 md, .int .i64 mt, .int .i64 mz] 139)).alloc (.cells #[.int .i64 0, .int .i64 0, .int .i64 0, .int .i64 0] 139)) ⟨T, 0, none⟩ = some (.int .i64 th) ∧ World.cell? (((w.alloc (.cells #[.int .i64 lu, .int .i64 ld, .int .i64 lt, .int .i64 lz] 139)).alloc (.cells #[.int .i64 mu, .int .i64 md, .int .i64 mt, .int .i64 mz] 139)).alloc (.cells #[.int .i64 0, .int .i64 0, .int .i64 0, .int .i64 0] 139)) ⟨w.heap.size, 0, none⟩ = some (.int .i64 lu) ∧ World.cell? (((w.alloc (.cells #[.int .i64 lu, .int .i64 ld, .int .i64 lt, .int .i64 lz] 139)).alloc (.cells #[.int .i64 mu, .int .i64 md, .int .i64 mt, .int .i64 mz] 139)).alloc (.cells #[.int .i64 0, .int .i64 0, .int .i64 0, .int .i64 0] 139)) ⟨w.heap.size, 1, none⟩ = some (.int .i64 ld) ∧ World.cell? (((w.alloc (.cells #[.int .i64 lu, .int .i64 ld, .int .i64 lt, .int .i64 lz] 139)).alloc (.cells #[.int .i64 mu, .int .i64 md, .int .i64 mt, .int .i64 mz] 139)).alloc (.cells #[.int .i64 0, .int .i64 0, .int .i64 0, .int .i64 0] 139)) ⟨w.heap.size, 2, none⟩ = some (.int .i64 lt) ∧ World.cell? (((w.alloc (.cells #[.int .i64 lu, .int .i64 ld, .int .i64 lt, .int .i64 lz] 139)).alloc (.cells #[.int .i64 mu, .int .i64 md, .int .i64 mt, .int .i64 mz] 139)).alloc (.cells #[.int .i64 0, .int .i64 0, .int .i64 0, .int .i64 0] 139)) ⟨w.heap.size, 3, none⟩ = some (.int .i64 lz) ∧ World.cell? (((w.alloc (.cells #[.int .i64 lu, .int .i64 ld, .int .i64 lt, .int .i64 lz] 139)).alloc (.cells #[.int .i64 mu, .int .i64 md, .int .i64 mt, .int .i64 mz] 139)).alloc (.cells #[.int .i64 0, .int .i64 0, .int .i64 0, .int .i64 0] 139)) ⟨w.heap.size + 1, 0, none⟩ = some (.int .i64 mu) ∧ World.cell? (((w.alloc (.cells #[.int .i64 lu, .int .i64 ld, .int .i64 lt, .int .i64 lz] 139)).alloc (.cells #[.int .i64 mu, .int .i64 md, .int .i64 mt, .int .i64 mz] 139)).alloc (.cells #[.int .i64 0, .int .i64 0, .int .i64 0, .int .i64 0] 139)) ⟨w.heap.size + 1, 1, none⟩ = some (.int .i64 md) ∧ World.cell? (((w.alloc (.cells #[.int .i64 lu, .int .i64 ld, .int .i64 lt, .int .i64 lz] 139)).alloc (.cells #[.int .i64 mu, .int .i64 md, .int .i64 mt, .int .i64 mz] 139)).alloc (.cells #[.int .i64 0, .int .i64 0, .int .i64 0, .int .i64 0] 139)) ⟨w.heap.size + 1, 2, none⟩ = some (.int .i64 mt) ∧ World.cell? (((w.alloc (.cells #[.int .i64 lu, .int .i64 ld, .int .i64 lt, .int .i64 lz] 139)).alloc (.cells #[.int .i64 mu, .int .i64 md, .int .i64 mt, .int .i64 mz] 139)).alloc (.cells #[.int .i64 0, .int .i64 0, .int .i64 0, .int .i64 0] 139)) ⟨w.heap.size + 1, 3, none⟩ = some (.int .i64 mz) ∧ (((w.alloc (.cells #[.int .i64 lu, .int .i64 ld, .int .i64 lt, .int .i64 lz] 139)).alloc (.cells #[.int .i64 mu, .int .i64 md, .int .i64 mt, .int .i64 mz] 139)).alloc (.cells #[.int .i64 0, .int .i64 0, .int .i64 0, .int .i64 0] 139)).grownBy (((w.alloc (.cells #[.int .i64 lu, .int .i64 ld, .int .i64 lt, .int .i64 lz] 139)).alloc (.cells #[.int .i64 mu, .int .i64 md, .int .i64 mt, .int .i64 mz] 139)).alloc (.cells #[.int .i64 0, .int .i64 0, .int .i64 0, .int .i64 0] 139)) none) := ⟨grown_trans (grown_trans (World.grownBy_alloc _ _ _) (World.grownBy_alloc _ _ _)) (World.grownBy_alloc _ _ _), grown_cell (grown_trans (grown_trans (World.grownBy_alloc _ _ _) (World.grownBy_alloc _ _ _)) (World.grownBy_alloc _ _ _)) hT, by go_simp, by go_simp, by go_simp, by go_simp, by go_simp, by go_simp, by go_simp, by go_simp, grown_refl _ _⟩
      have hstep : ∀ W W' : World, (World.grownBy w W none ∧ World.cell? W ⟨T, 0, none⟩ = some (.int .i64 th) ∧ World.cell? W ⟨w.heap.size, 0, none⟩ = some (.int .i64 lu) ∧ World.cell? W ⟨w.heap.size, 1, none⟩ = some (.int .i64 ld) ∧ World.cell? W ⟨w.heap.size, 2, none⟩ = some (.int .i64 lt) ∧ World.cell? W ⟨w.heap.size, 3, none⟩ = some (.int .i64 lz) ∧ World.cell? W ⟨w.heap.size + 1, 0, none⟩ = some (.int .i64 mu) ∧ World.cell? W ⟨w.heap.size + 1, 1, none⟩ = some (.int .i64 md) ∧ World.cell? W ⟨w.heap.size + 1, 2, none⟩ = some (.int .i64 mt) ∧ World.cell? W ⟨w.heap.size + 1, 3, none⟩ = some (.int .i64 mz) ∧ (((w.alloc (.cells #[.int .i64 lu, .int .i64 ld, .int .i64 lt, .int .i64 lz] 139)).alloc (.cells #[.int .i64 mu, .int .i64 md, .int .i64 mt, .int .i64 mz] 139)).alloc (.cells #[.int .i64 0, .int .i64 0, .int .i64 0, .int .i64 0] 139)).grownBy W none) → W.grownBy W' none → (World.grownBy w W' none ∧ World.cell? W' ⟨T, 0, none⟩ = some (.int .i64 th) ∧ World.cell? W' ⟨w.heap.size, 0, none⟩ = some (.int .i64 lu) ∧ World.cell? W' ⟨w.heap.size, 1, none⟩ = some (.int .i64 ld) ∧ World.cell? W' ⟨w.heap.size, 2, none⟩ = some (.int .i64 lt) ∧ World.cell? W' ⟨w.heap.size, 3, none⟩ = some (.int .i64 lz) ∧ World.cell? W' ⟨w.heap.size + 1, 0, none⟩ = some (.int .i64 mu) ∧ World.cell? W' ⟨w.heap.size + 1, 1, none⟩ = some (.int .i64 md) ∧ World.cell? W' ⟨w.heap.size + 1, 2, none⟩ = some (.int .i64 mt) ∧ World.cell? W' ⟨w.heap.size + 1, 3, none⟩ = some (.int .i64 mz) ∧ (((w.alloc (.cells #[.int .i64 lu, .int .i64 ld, .int .i64 lt, .int .i64 lz] 139)).alloc (.cells #[.int .i64 mu, .int .i64 md, .int .i64 mt, .int .i64 mz] 139)).alloc (.cells #[.int .i64 0, .int .i64 0, .int .i64 0, .int .i64 0] 139)).grownBy W' none) := fun W W' h g => ⟨grown_trans h.1 g, grown_cell g h.2.1, grown_cell g h.2.2.1, grown_cell g h.2.2.2.1, grown_cell g h.2.2.2.2.1, grown_cell g h.2.2.2.2.2.1, grown_cell g h.2.2.2.2.2.2.1, grown_cell g h.2.2.2.2.2.2.2.1, grown_cell g h.2.2.2.2.2.2.2.2.1, grown_cell g h.2.2.2.2.2.2.2.2.2.1, grown_trans h.2.2.2.2.2.2.2.2.2.2 g⟩
      have hSd : (World.grownBy w (((w.alloc (.cells #[.int .i64 lu, .int .i64 ld, .int .i64 lt, .int .i64 lz] 139)).alloc (.cells #[.int .i64 mu, .int .i64 md, .int .i64 mt, .int .i64 mz] 139)).alloc (.cells #[.int .i64 0, .int .i64 0, .int .i64 0, .int .i64 0] 139)).drew none ∧ World.cell? (((w.alloc (.cells #[.int .i64 lu, .int .i64 ld, .int .i64 lt, .int .i64 lz] 139)).alloc (.cells #[.int .i64 mu, .int .i64 md, .int .i64 mt, .int .i64 mz] 139)).alloc (.cells #[.int .i64 0, .int .i64 0, .int .i64 0, .int .i64 0] 139)).drew ⟨T, 0, none⟩ = some (.int .i64 th) ∧ World.cell? (((w.alloc (.cells #[.int .i64 lu, .int .i64 ld, .int .i64 lt, .int .i64 lz] 139)).alloc (.cells #[.int .i64 mu, .int .i64 md, .int .i64 mt, .int .i64 mz] 139)).alloc (.cells #[.int .i64 0, .int .i64 0, .int .i64 0, .int .i64 0] 139)).drew ⟨w.heap.size, 0, none⟩ = some (.int .i64 lu) ∧ World.cell? (((w.alloc (.cells #[.int .i64 lu, .int .i64 ld, .int .i64 lt, .int .i64 lz] 139)).alloc (.cells #[.int .i64 mu, .int .i64 md, .int .i64 mt, .int .i64 mz] 139)).alloc (.cells #[.int .i64 0, .int .i64 0, .int .i64 0, .int .i64 0] 139)).drew ⟨w.heap.size, 1, none⟩ = some (.int .i64 ld) ∧ World.cell? (((w.alloc (.cells #[.int .i64 lu, .int .i64 ld, .int .i64 lt, .int .i64 lz] 139)).alloc (.cells #[.int .i64 mu, .int .i64 md, .int .i64 mt, .int .i64 mz] 139)).alloc (.cells #[.int .i64 0, .int .i64 0, .int .i64 0, .int .i64 0] 139)).drew ⟨w.heap.size, 2, none⟩ = some (.int .i64 lt) ∧ World.cell? (((w.alloc (.cells #[.int .i64 lu, .int .i64 ld, .int .i64 lt, .int .i64 lz] 139)).alloc (.cells #[.int .i64 mu, .int .i64 md, .int .i64 mt, .int .i64 mz] 139)).alloc (.cells #[.int .i64 0, .int .i64 0, .int .i64 0, .int .i64 0] 139)).drew ⟨w.heap.size, 3, none⟩ = some (.int .i64 lz) ∧ World.cell? (((w.alloc (.cells #[.int .i64 lu, .int .i64 ld, .int .i64 lt, .int .i64 lz] 139)).alloc (.cells #[.int .i64 mu, .int .i64 md, .int .i64 mt, .int .i64 mz] 139)).alloc (.cells #[.int .i64 0, .int .i64 0, .int .i64 0, .int .i64 0] 139)).drew ⟨w.heap.size + 1, 0, none⟩ = some (.int .i64 mu) ∧ World.cell? (((w.alloc (.cells #[.int .i64 lu, .int .i64 ld, .int .i64 lt, .int .i64 lz] 139)).alloc (.cells #[.int .i64 mu, .int .i64 md, .int .i64 mt, .int .i64 mz] 139)).alloc (.cells #[.int .i64 0, .int .i64 0, .int .i64 0, .int .i64 0] 139)).drew ⟨w.heap.size + 1, 1, none⟩ = some (.int .i64 md) ∧ World.cell? (((w.alloc (.cells #[.int .i64 lu, .int .i64 ld, .int .i64 lt, .int .i64 lz] 139)).alloc (.cells #[.int .i64 mu, .int .i64 md, .int .i64 mt, .int .i64 mz] 139)).alloc (.cells #[.int .i64 0, .int .i64 0, .int .i64 0, .int .i64 0] 139)).drew ⟨w.heap.size + 1, 2, none⟩ = some (.int .i64 mt) ∧ World.cell? (((w.alloc (.cells #[.int .i64 lu, .int .i64 ld, .int .i64 lt, .int .i64 lz] 139)).alloc (.cells #[.int .i64 mu, .int .i64 md, .int .i64 mt, .int .i64 mz] 139)).alloc (.cells #[.int .i64 0, .int .i64 0, .int .i64 0, .int .i64 0] 139)).drew ⟨w.heap.size + 1, 3, none⟩ = some (.int .i64 mz) ∧ (((w.alloc (.cells #[.int .i64 lu, .int .i64 ld, .int .i64 lt, .int .i64 lz] 139)).alloc (.cells #[.int .i64 mu, .int .i64 md, .int .i64 mt, .int .i64 mz] 139)).alloc (.cells #[.int .i64 0, .int .i64 0, .int .i64 0, .int .i64 0] 139)).grownBy (((w.alloc (.cells #[.int .i64 lu, .int .i64 ld, .int .i64 lt, .int .i64 lz] 139)).alloc (.cells #[.int .i64 mu, .int .i64 md, .int .i64 mt, .int .i64 mz] 139)).alloc (.cells #[.int .i64 0, .int .i64 0, .int .i64 0, .int .i64 0] 139)).drew none) := hstep _ _ hS0 (grown_drewN _ _ 1)
      have HSTEP := Lib.hid hstep; have HSD := Lib.hid hSd
      clear hS0 hstep hSd hT
      go_enter Try.func128, Try.ntmps128
      go_wp2_with fail
      go_region_held3 (fun W => (w.grownBy W none ∧ W.cell? ⟨T, 0, none⟩ = some (.int .i64 th) ∧ W.cell? ⟨w.heap.size, 0, none⟩ = some (.int .i64 lu) ∧ W.cell? ⟨w.heap.size, 1, none⟩ = some (.int .i64 ld) ∧ W.cell? ⟨w.heap.size, 2, none⟩ = some (.int .i64 lt) ∧ W.cell? ⟨w.heap.size, 3, none⟩ = some (.int .i64 lz) ∧ W.cell? ⟨w.heap.size + 1, 0, none⟩ = some (.int .i64 mu) ∧ W.cell? ⟨w.heap.size + 1, 1, none⟩ = some (.int .i64 md) ∧ W.cell? ⟨w.heap.size + 1, 2, none⟩ = some (.int .i64 mt) ∧ W.cell? ⟨w.heap.size + 1, 3, none⟩ = some (.int .i64 mz) ∧ (((w.alloc (.cells #[.int .i64 lu, .int .i64 ld, .int .i64 lt, .int .i64 lz] 139)).alloc (.cells #[.int .i64 mu, .int .i64 md, .int .i64 mt, .int .i64 mz] 139)).alloc (.cells #[.int .i64 0, .int .i64 0, .int .i64 0, .int .i64 0] 139)).grownBy W none)) (first | exact HSD.out | (refine HSTEP.out _ _ ?_ (by assumption) <;> assumption)) (first
        | (go_at_call 129; first | ((with_reducible refine (HWL.out _).mono ?_); rintro x w7 ⟨rfl, hg7⟩) | ((with_reducible refine (HWM.out _).mono ?_); rintro x w7 ⟨rfl, hg7⟩)))
      all_goals
        rename_i hfin
        obtain ⟨G9, c0, l0, l1, l2, l3, m0, m1, m2, m3, GB⟩ := hfin
        have kz : w7.heap[w.heap.size + 1 + 1]? = some (.cells #[.int .i64 0, .int .i64 0, .int .i64 0, .int .i64 0] 139 (0, 0)) := by
          rw [GB.block _ (by simp) (by simp)]
          have q := heap_alloc_new ((w.alloc (.cells #[.int .i64 lu, .int .i64 ld, .int .i64 lt, .int .i64 lz] 139)).alloc (.cells #[.int .i64 mu, .int .i64 md, .int .i64 mt, .int .i64 mz] 139)) (.cells #[.int .i64 0, .int .i64 0, .int .i64 0, .int .i64 0] 139)
          simpa using q
        have z0 : w7.cell? ⟨w.heap.size + 1 + 1, 0, none⟩ = some (.int .i64 0) := by simp [World.cell?, kz]
        have z1 : w7.cell? ⟨w.heap.size + 1 + 1, 1, none⟩ = some (.int .i64 0) := by simp [World.cell?, kz]
        have z2 : w7.cell? ⟨w.heap.size + 1 + 1, 2, none⟩ = some (.int .i64 0) := by simp [World.cell?, kz]
        have z3 : w7.cell? ⟨w.heap.size + 1 + 1, 3, none⟩ = some (.int .i64 0) := by simp [World.cell?, kz]
        have y0 : w7.frozen? ⟨w.heap.size + 1 + 1, 0, none⟩ = false := by simp [World.frozen?, kz]
        have y1 : w7.frozen? ⟨w.heap.size + 1 + 1, 1, none⟩ = false := by simp [World.frozen?, kz]
        have y2 : w7.frozen? ⟨w.heap.size + 1 + 1, 2, none⟩ = false := by simp [World.frozen?, kz]
        have y3 : w7.frozen? ⟨w.heap.size + 1 + 1, 3, none⟩ = false := by simp [World.frozen?, kz]
        clear kz HSTEP HSD
        go_wp2_with fail
        refine bodyPost_ret (v := .agg #[.int .i64 lu, .int .i64 ld, .int .i64 lt, .int .i64 lz]) (by simp [results, Try.results128, go_sem, z0, z1, z2, z3]) rfl ⟨by rw [HV.out], ?_⟩
        exact grown_set (grown_set (grown_set (grown_set G9 (by omega) _ _) (by omega) _ _) (by omega) _ _) (by omega) _ _
    · have HV : Hid (r = ⟨mu, md, mt, mz⟩) := by show _ = _; rw [← hv, if_neg (by omega)]
      have d3 : decide (lt ≤ mt) = false := by simpa using c3
      have C2 := Lib.hid c2
      clear hv c2 c3 c1
      have hS0 : (World.grownBy w (((w.alloc (.cells #[.int .i64 lu, .int .i64 ld, .int .i64 lt, .int .i64 lz] 139)).alloc (.cells #[.int .i64 mu, .int .i64 md, .int .i64 mt, .int .i64 mz] 139)).alloc (.cells #[.int .i64 0, .int .i64 0, .int .i64 0, .int .i64 0] 139)) none ∧ World.cell? (((w.alloc (.cells #[.int .i64 lu, .int .i64 ld, .int .i64 lt, .int .i64 lz] 139)).alloc (.cells #[.int .i64 mu, .int .i64 md, .int .i64 mt, .int .i64 mz] 139)).alloc (.cells #[.int .i64 0, .int .i64 0, .int .i64 0, .int .i64 0] 139)) ⟨T, 0, none⟩ = some (.int .i64 th) ∧ World.cell? (((w.alloc (.cells #[.int .i64 lu, .int .i64 ld, .int .i64 lt, .int .i64 lz] 139)).alloc (.cells #[.int .i64 mu, .int .i64 md, .int .i64 mt, .int .i64 mz] 139)).alloc (.cells #[.int .i64 0, .int .i64 0, .int .i64 0, .int .i64 0] 139)) ⟨w.heap.size, 0, none⟩ = some (.int .i64 lu) ∧ World.cell? (((w.alloc (.cells #[.int .i64 lu, .int .i64 ld, .int .i64 lt, .int .i64 lz] 139)).alloc (.cells #[.int .i64 mu, .int .i64 md, .int .i64 mt, .int .i64 mz] 139)).alloc (.cells #[.int .i64 0, .int .i64 0, .int .i64 0, .int .i64 0] 139)) ⟨w.heap.size, 1, none⟩ = some (.int .i64 ld) ∧ World.cell? (((w.alloc (.cells #[.int .i64 lu, .int .i64 ld, .int .i64 lt, .int .i64 lz] 139)).alloc (.cells #[.int .i64 mu, .int .i64 md, .int .i64 mt, .int .i64 mz] 139)).alloc (.cells #[.int .i64 0, .int .i64 0, .int .i64 0, .int .i64 0] 139)) ⟨w.heap.size, 2, none⟩ = some (.int .i64 lt) ∧ World.cell? (((w.alloc (.cells #[.int .i64 lu, .int .i64 ld, .int .i64 lt, .int .i64 lz] 139)).alloc (.cells #[.int .i64 mu, .int .i64 md, .int .i64 mt, .int .i64 mz] 139)).alloc (.cells #[.int .i64 0, .int .i64 0, .int .i64 0, .int .i64 0] 139)) ⟨w.heap.size, 3, none⟩ = some (.int .i64 lz) ∧ World.cell? (((w.alloc (.cells #[.int .i64 lu, .int .i64 ld, .int .i64 lt, .int .i64 lz] 139)).alloc (.cells #[.int .i64 mu, .int .i64 md, .int .i64 mt, .int .i64 mz] 139)).alloc (.cells #[.int .i64 0, .int .i64 0, .int .i64 0, .int .i64 0] 139)) ⟨w.heap.size + 1, 0, none⟩ = some (.int .i64 mu) ∧ World.cell? (((w.alloc (.cells #[.int .i64 lu, .int .i64 ld, .int .i64 lt, .int .i64 lz] 139)).alloc (.cells #[.int .i64 mu, .int .i64 md, .int .i64 mt, .int .i64 mz] 139)).alloc (.cells #[.int .i64 0, .int .i64 0, .int .i64 0, .int .i64 0] 139)) ⟨w.heap.size + 1, 1, none⟩ = some (.int .i64 md) ∧ World.cell? (((w.alloc (.cells #[.int .i64 lu, .int .i64 ld, .int .i64 lt, .int .i64 lz] 139)).alloc (.cells #[.int .i64 mu, .int .i64 md, .int .i64 mt, .int .i64 mz] 139)).alloc (.cells #[.int .i64 0, .int .i64 0, .int .i64 0, .int .i64 0] 139)) ⟨w.heap.size + 1, 2, none⟩ = some (.int .i64 mt) ∧ World.cell? (((w.alloc (.cells #[.int .i64 lu, .int .i64 ld, .int .i64 lt, .int .i64 lz] 139)).alloc (.cells #[.int .i64 mu, .int .i64 md, .int .i64 mt, .int .i64 mz] 139)).alloc (.cells #[.int .i64 0, .int .i64 0, .int .i64 0, .int .i64 0] 139)) ⟨w.heap.size + 1, 3, none⟩ = some (.int .i64 mz) ∧ (((w.alloc (.cells #[.int .i64 lu, .int .i64 ld, .int .i64 lt, .int .i64 lz] 139)).alloc (.cells #[.int .i64 mu, .int .i64 md, .int .i64 mt, .int .i64 mz] 139)).alloc (.cells #[.int .i64 0, .int .i64 0, .int .i64 0, .int .i64 0] 139)).grownBy (((w.alloc (.cells #[.int .i64 lu, .int .i64 ld, .int .i64 lt, .int .i64 lz] 139)).alloc (.cells #[.int .i64 mu, .int .i64 md, .int .i64 mt, .int .i64 mz] 139)).alloc (.cells #[.int .i64 0, .int .i64 0, .int .i64 0, .int .i64 0] 139)) none) := ⟨grown_trans (grown_trans (World.grownBy_alloc _ _ _) (World.grownBy_alloc _ _ _)) (World.grownBy_alloc _ _ _), grown_cell (grown_trans (grown_trans (World.grownBy_alloc _ _ _) (World.grownBy_alloc _ _ _)) (World.grownBy_alloc _ _ _)) hT, by go_simp, by go_simp, by go_simp, by go_simp, by go_simp, by go_simp, by go_simp, by go_simp, grown_refl _ _⟩
      have hstep : ∀ W W' : World, (World.grownBy w W none ∧ World.cell? W ⟨T, 0, none⟩ = some (.int .i64 th) ∧ World.cell? W ⟨w.heap.size, 0, none⟩ = some (.int .i64 lu) ∧ World.cell? W ⟨w.heap.size, 1, none⟩ = some (.int .i64 ld) ∧ World.cell? W ⟨w.heap.size, 2, none⟩ = some (.int .i64 lt) ∧ World.cell? W ⟨w.heap.size, 3, none⟩ = some (.int .i64 lz) ∧ World.cell? W ⟨w.heap.size + 1, 0, none⟩ = some (.int .i64 mu) ∧ World.cell? W ⟨w.heap.size + 1, 1, none⟩ = some (.int .i64 md) ∧ World.cell? W ⟨w.heap.size + 1, 2, none⟩ = some (.int .i64 mt) ∧ World.cell? W ⟨w.heap.size + 1, 3, none⟩ = some (.int .i64 mz) ∧ (((w.alloc (.cells #[.int .i64 lu, .int .i64 ld, .int .i64 lt, .int .i64 lz] 139)).alloc (.cells #[.int .i64 mu, .int .i64 md, .int .i64 mt, .int .i64 mz] 139)).alloc (.cells #[.int .i64 0, .int .i64 0, .int .i64 0, .int .i64 0] 139)).grownBy W none) → W.grownBy W' none → (World.grownBy w W' none ∧ World.cell? W' ⟨T, 0, none⟩ = some (.int .i64 th) ∧ World.cell? W' ⟨w.heap.size, 0, none⟩ = some (.int .i64 lu) ∧ World.cell? W' ⟨w.heap.size, 1, none⟩ = some (.int .i64 ld) ∧ World.cell? W' ⟨w.heap.size, 2, none⟩ = some (.int .i64 lt) ∧ World.cell? W' ⟨w.heap.size, 3, none⟩ = some (.int .i64 lz) ∧ World.cell? W' ⟨w.heap.size + 1, 0, none⟩ = some (.int .i64 mu) ∧ World.cell? W' ⟨w.heap.size + 1, 1, none⟩ = some (.int .i64 md) ∧ World.cell? W' ⟨w.heap.size + 1, 2, none⟩ = some (.int .i64 mt) ∧ World.cell? W' ⟨w.heap.size + 1, 3, none⟩ = some (.int .i64 mz) ∧ (((w.alloc (.cells #[.int .i64 lu, .int .i64 ld, .int .i64 lt, .int .i64 lz] 139)).alloc (.cells #[.int .i64 mu, .int .i64 md, .int .i64 mt, .int .i64 mz] 139)).alloc (.cells #[.int .i64 0, .int .i64 0, .int .i64 0, .int .i64 0] 139)).grownBy W' none) := fun W W' h g => ⟨grown_trans h.1 g, grown_cell g h.2.1, grown_cell g h.2.2.1, grown_cell g h.2.2.2.1, grown_cell g h.2.2.2.2.1, grown_cell g h.2.2.2.2.2.1, grown_cell g h.2.2.2.2.2.2.1, grown_cell g h.2.2.2.2.2.2.2.1, grown_cell g h.2.2.2.2.2.2.2.2.1, grown_cell g h.2.2.2.2.2.2.2.2.2.1, grown_trans h.2.2.2.2.2.2.2.2.2.2 g⟩
      have hSd : (World.grownBy w (((w.alloc (.cells #[.int .i64 lu, .int .i64 ld, .int .i64 lt, .int .i64 lz] 139)).alloc (.cells #[.int .i64 mu, .int .i64 md, .int .i64 mt, .int .i64 mz] 139)).alloc (.cells #[.int .i64 0, .int .i64 0, .int .i64 0, .int .i64 0] 139)).drew none ∧ World.cell? (((w.alloc (.cells #[.int .i64 lu, .int .i64 ld, .int .i64 lt, .int .i64 lz] 139)).alloc (.cells #[.int .i64 mu, .int .i64 md, .int .i64 mt, .int .i64 mz] 139)).alloc (.cells #[.int .i64 0, .int .i64 0, .int .i64 0, .int .i64 0] 139)).drew ⟨T, 0, none⟩ = some (.int .i64 th) ∧ World.cell? (((w.alloc (.cells #[.int .i64 lu, .int .i64 ld, .int .i64 lt, .int .i64 lz] 139)).alloc (.cells #[.int .i64 mu, .int .i64 md, .int .i64 mt, .int .i64 mz] 139)).alloc (.cells #[.int .i64 0, .int .i64 0, .int .i64 0, .int .i64 0] 139)).drew ⟨w.heap.size, 0, none⟩ = some (.int .i64 lu) ∧ World.cell? (((w.alloc (.cells #[.int .i64 lu, .int .i64 ld, .int .i64 lt, .int .i64 lz] 139)).alloc (.cells #[.int .i64 mu, .int .i64 md, .int .i64 mt, .int .i64 mz] 139)).alloc (.cells #[.int .i64 0, .int .i64 0, .int .i64 0, .int .i64 0] 139)).drew ⟨w.heap.size, 1, none⟩ = some (.int .i64 ld) ∧ World.cell? (((w.alloc (.cells #[.int .i64 lu, .int .i64 ld, .int .i64 lt, .int .i64 lz] 139)).alloc (.cells #[.int .i64 mu, .int .i64 md, .int .i64 mt, .int .i64 mz] 139)).alloc (.cells #[.int .i64 0, .int .i64 0, .int .i64 0, .int .i64 0] 139)).drew ⟨w.heap.size, 2, none⟩ = some (.int .i64 lt) ∧ World.cell? (((w.alloc (.cells #[.int .i64 lu, .int .i64 ld, .int .i64 lt, .int .i64 lz] 139)).alloc (.cells #[.int .i64 mu, .int .i64 md, .int .i64 mt, .int .i64 mz] 139)).alloc (.cells #[.int .i64 0, .int .i64 0, .int .i64 0, .int .i64 0] 139)).drew ⟨w.heap.size, 3, none⟩ = some (.int .i64 lz) ∧ World.cell? (((w.alloc (.cells #[.int .i64 lu, .int .i64 ld, .int .i64 lt, .int .i64 lz] 139)).alloc (.cells #[.int .i64 mu, .int .i64 md, .int .i64 mt, .int .i64 mz] 139)).alloc (.cells #[.int .i64 0, .int .i64 0, .int .i64 0, .int .i64 0] 139)).drew ⟨w.heap.size + 1, 0, none⟩ = some (.int .i64 mu) ∧ World.cell? (((w.alloc (.cells #[.int .i64 lu, .int .i64 ld, .int .i64 lt, .int .i64 lz] 139)).alloc (.cells #[.int .i64 mu, .int .i64 md, .int .i64 mt, .int .i64 mz] 139)).alloc (.cells #[.int .i64 0, .int .i64 0, .int .i64 0, .int .i64 0] 139)).drew ⟨w.heap.size + 1, 1, none⟩ = some (.int .i64 md) ∧ World.cell? (((w.alloc (.cells #[.int .i64 lu, .int .i64 ld, .int .i64 lt, .int .i64 lz] 139)).alloc (.cells #[.int .i64 mu, .int .i64 md, .int .i64 mt, .int .i64 mz] 139)).alloc (.cells #[.int .i64 0, .int .i64 0, .int .i64 0, .int .i64 0] 139)).drew ⟨w.heap.size + 1, 2, none⟩ = some (.int .i64 mt) ∧ World.cell? (((w.alloc (.cells #[.int .i64 lu, .int .i64 ld, .int .i64 lt, .int .i64 lz] 139)).alloc (.cells #[.int .i64 mu, .int .i64 md, .int .i64 mt, .int .i64 mz] 139)).alloc (.cells #[.int .i64 0, .int .i64 0, .int .i64 0, .int .i64 0] 139)).drew ⟨w.heap.size + 1, 3, none⟩ = some (.int .i64 mz) ∧ (((w.alloc (.cells #[.int .i64 lu, .int .i64 ld, .int .i64 lt, .int .i64 lz] 139)).alloc (.cells #[.int .i64 mu, .int .i64 md, .int .i64 mt, .int .i64 mz] 139)).alloc (.cells #[.int .i64 0, .int .i64 0, .int .i64 0, .int .i64 0] 139)).grownBy (((w.alloc (.cells #[.int .i64 lu, .int .i64 ld, .int .i64 lt, .int .i64 lz] 139)).alloc (.cells #[.int .i64 mu, .int .i64 md, .int .i64 mt, .int .i64 mz] 139)).alloc (.cells #[.int .i64 0, .int .i64 0, .int .i64 0, .int .i64 0] 139)).drew none) := hstep _ _ hS0 (grown_drewN _ _ 1)
      have HSTEP := Lib.hid hstep; have HSD := Lib.hid hSd
      clear hS0 hstep hSd hT
      go_enter Try.func128, Try.ntmps128
      go_wp2_with fail
      go_region_held3 (fun W => (w.grownBy W none ∧ W.cell? ⟨T, 0, none⟩ = some (.int .i64 th) ∧ W.cell? ⟨w.heap.size, 0, none⟩ = some (.int .i64 lu) ∧ W.cell? ⟨w.heap.size, 1, none⟩ = some (.int .i64 ld) ∧ W.cell? ⟨w.heap.size, 2, none⟩ = some (.int .i64 lt) ∧ W.cell? ⟨w.heap.size, 3, none⟩ = some (.int .i64 lz) ∧ W.cell? ⟨w.heap.size + 1, 0, none⟩ = some (.int .i64 mu) ∧ W.cell? ⟨w.heap.size + 1, 1, none⟩ = some (.int .i64 md) ∧ W.cell? ⟨w.heap.size + 1, 2, none⟩ = some (.int .i64 mt) ∧ W.cell? ⟨w.heap.size + 1, 3, none⟩ = some (.int .i64 mz) ∧ (((w.alloc (.cells #[.int .i64 lu, .int .i64 ld, .int .i64 lt, .int .i64 lz] 139)).alloc (.cells #[.int .i64 mu, .int .i64 md, .int .i64 mt, .int .i64 mz] 139)).alloc (.cells #[.int .i64 0, .int .i64 0, .int .i64 0, .int .i64 0] 139)).grownBy W none)) (first | exact HSD.out | (refine HSTEP.out _ _ ?_ (by assumption) <;> assumption)) (first
        | (go_at_call 129; first | ((with_reducible refine (HWL.out _).mono ?_); rintro x w7 ⟨rfl, hg7⟩) | ((with_reducible refine (HWM.out _).mono ?_); rintro x w7 ⟨rfl, hg7⟩)))
      all_goals
        rename_i hfin
        obtain ⟨G9, c0, l0, l1, l2, l3, m0, m1, m2, m3, GB⟩ := hfin
        have kz : w7.heap[w.heap.size + 1 + 1]? = some (.cells #[.int .i64 0, .int .i64 0, .int .i64 0, .int .i64 0] 139 (0, 0)) := by
          rw [GB.block _ (by simp) (by simp)]
          have q := heap_alloc_new ((w.alloc (.cells #[.int .i64 lu, .int .i64 ld, .int .i64 lt, .int .i64 lz] 139)).alloc (.cells #[.int .i64 mu, .int .i64 md, .int .i64 mt, .int .i64 mz] 139)) (.cells #[.int .i64 0, .int .i64 0, .int .i64 0, .int .i64 0] 139)
          simpa using q
        have z0 : w7.cell? ⟨w.heap.size + 1 + 1, 0, none⟩ = some (.int .i64 0) := by simp [World.cell?, kz]
        have z1 : w7.cell? ⟨w.heap.size + 1 + 1, 1, none⟩ = some (.int .i64 0) := by simp [World.cell?, kz]
        have z2 : w7.cell? ⟨w.heap.size + 1 + 1, 2, none⟩ = some (.int .i64 0) := by simp [World.cell?, kz]
        have z3 : w7.cell? ⟨w.heap.size + 1 + 1, 3, none⟩ = some (.int .i64 0) := by simp [World.cell?, kz]
        have y0 : w7.frozen? ⟨w.heap.size + 1 + 1, 0, none⟩ = false := by simp [World.frozen?, kz]
        have y1 : w7.frozen? ⟨w.heap.size + 1 + 1, 1, none⟩ = false := by simp [World.frozen?, kz]
        have y2 : w7.frozen? ⟨w.heap.size + 1 + 1, 2, none⟩ = false := by simp [World.frozen?, kz]
        have y3 : w7.frozen? ⟨w.heap.size + 1 + 1, 3, none⟩ = false := by simp [World.frozen?, kz]
        clear kz HSTEP HSD
        go_wp2_with fail
        refine bodyPost_ret (v := .agg #[.int .i64 mu, .int .i64 md, .int .i64 mt, .int .i64 mz]) (by simp [results, Try.results128, go_sem, z0, z1, z2, z3]) rfl ⟨by rw [HV.out], ?_⟩
        exact grown_set (grown_set (grown_set (grown_set G9 (by omega) _ _) (by omega) _ _) (by omega) _ _) (by omega) _ _
  · have HV : Hid (r = ⟨mu, md, mt, mz⟩) := by show _ = _; rw [← hv, if_neg (by omega)]
    have d2 : (K1 == K2) = false := by simpa using c2
    clear hv c2 c1
    have hS0 : (World.grownBy w (((w.alloc (.cells #[.int .i64 lu, .int .i64 ld, .int .i64 lt, .int .i64 lz] 139)).alloc (.cells #[.int .i64 mu, .int .i64 md, .int .i64 mt, .int .i64 mz] 139)).alloc (.cells #[.int .i64 0, .int .i64 0, .int .i64 0, .int .i64 0] 139)) none ∧ World.cell? (((w.alloc (.cells #[.int .i64 lu, .int .i64 ld, .int .i64 lt, .int .i64 lz] 139)).alloc (.cells #[.int .i64 mu, .int .i64 md, .int .i64 mt, .int .i64 mz] 139)).alloc (.cells #[.int .i64 0, .int .i64 0, .int .i64 0, .int .i64 0] 139)) ⟨T, 0, none⟩ = some (.int .i64 th) ∧ World.cell? (((w.alloc (.cells #[.int .i64 lu, .int .i64 ld, .int .i64 lt, .int .i64 lz] 139)).alloc (.cells #[.int .i64 mu, .int .i64 md, .int .i64 mt, .int .i64 mz] 139)).alloc (.cells #[.int .i64 0, .int .i64 0, .int .i64 0, .int .i64 0] 139)) ⟨w.heap.size, 0, none⟩ = some (.int .i64 lu) ∧ World.cell? (((w.alloc (.cells #[.int .i64 lu, .int .i64 ld, .int .i64 lt, .int .i64 lz] 139)).alloc (.cells #[.int .i64 mu, .int .i64 md, .int .i64 mt, .int .i64 mz] 139)).alloc (.cells #[.int .i64 0, .int .i64 0, .int .i64 0, .int .i64 0] 139)) ⟨w.heap.size, 1, none⟩ = some (.int .i64 ld) ∧ World.cell? (((w.alloc (.cells #[.int .i64 lu, .int .i64 ld, .int .i64 lt, .int .i64 lz] 139)).alloc (.cells #[.int .i64 mu, .int .i64 md, .int .i64 mt, .int .i64 mz] 139)).alloc (.cells #[.int .i64 0, .int .i64 0, .int .i64 0, .int .i64 0] 139)) ⟨w.heap.size, 2, none⟩ = some (.int .i64 lt) ∧ World.cell? (((w.alloc (.cells #[.int .i64 lu, .int .i64 ld, .int .i64 lt, .int .i64 lz] 139)).alloc (.cells #[.int .i64 mu, .int .i64 md, .int .i64 mt, .int .i64 mz] 139)).alloc (.cells #[.int .i64 0, .int .i64 0, .int .i64 0, .int .i64 0] 139)) ⟨w.heap.size, 3, none⟩ = some (.int .i64 lz) ∧ World.cell? (((w.alloc (.cells #[.int .i64 lu, .int .i64 ld, .int .i64 lt, .int .i64 lz] 139)).alloc (.cells #[.int .i64 mu, .int .i64 md, .int .i64 mt, .int .i64 mz] 139)).alloc (.cells #[.int .i64 0, .int .i64 0, .int .i64 0, .int .i64 0] 139)) ⟨w.heap.size + 1, 0, none⟩ = some (.int .i64 mu) ∧ World.cell? (((w.alloc (.cells #[.int .i64 lu, .int .i64 ld, .int .i64 lt, .int .i64 lz] 139)).alloc (.cells #[.int .i64 mu, .int .i64 md, .int .i64 mt, .int .i64 mz] 139)).alloc (.cells #[.int .i64 0, .int .i64 0, .int .i64 0, .int .i64 0] 139)) ⟨w.heap.size + 1, 1, none⟩ = some (.int .i64 md) ∧ World.cell? (((w.alloc (.cells #[.int .i64 lu, .int .i64 ld, .int .i64 lt, .int .i64 lz] 139)).alloc (.cells #[.int .i64 mu, .int .i64 md, .int .i64 mt, .int .i64 mz] 139)).alloc (.cells #[.int .i64 0, .int .i64 0, .int .i64 0, .int .i64 0] 139)) ⟨w.heap.size + 1, 2, none⟩ = some (.int .i64 mt) ∧ World.cell? (((w.alloc (.cells #[.int .i64 lu, .int .i64 ld, .int .i64 lt, .int .i64 lz] 139)).alloc (.cells #[.int .i64 mu, .int .i64 md, .int .i64 mt, .int .i64 mz] 139)).alloc (.cells #[.int .i64 0, .int .i64 0, .int .i64 0, .int .i64 0] 139)) ⟨w.heap.size + 1, 3, none⟩ = some (.int .i64 mz) ∧ (((w.alloc (.cells #[.int .i64 lu, .int .i64 ld, .int .i64 lt, .int .i64 lz] 139)).alloc (.cells #[.int .i64 mu, .int .i64 md, .int .i64 mt, .int .i64 mz] 139)).alloc (.cells #[.int .i64 0, .int .i64 0, .int .i64 0, .int .i64 0] 139)).grownBy (((w.alloc (.cells #[.int .i64 lu, .int .i64 ld, .int .i64 lt, .int .i64 lz] 139)).alloc (.cells #[.int .i64 mu, .int .i64 md, .int .i64 mt, .int .i64 mz] 139)).alloc (.cells #[.int .i64 0, .int .i64 0, .int .i64 0, .int .i64 0] 139)) none) := ⟨grown_trans (grown_trans (World.grownBy_alloc _ _ _) (World.grownBy_alloc _ _ _)) (World.grownBy_alloc _ _ _), grown_cell (grown_trans (grown_trans (World.grownBy_alloc _ _ _) (World.grownBy_alloc _ _ _)) (World.grownBy_alloc _ _ _)) hT, by go_simp, by go_simp, by go_simp, by go_simp, by go_simp, by go_simp, by go_simp, by go_simp, grown_refl _ _⟩
    have hstep : ∀ W W' : World, (World.grownBy w W none ∧ World.cell? W ⟨T, 0, none⟩ = some (.int .i64 th) ∧ World.cell? W ⟨w.heap.size, 0, none⟩ = some (.int .i64 lu) ∧ World.cell? W ⟨w.heap.size, 1, none⟩ = some (.int .i64 ld) ∧ World.cell? W ⟨w.heap.size, 2, none⟩ = some (.int .i64 lt) ∧ World.cell? W ⟨w.heap.size, 3, none⟩ = some (.int .i64 lz) ∧ World.cell? W ⟨w.heap.size + 1, 0, none⟩ = some (.int .i64 mu) ∧ World.cell? W ⟨w.heap.size + 1, 1, none⟩ = some (.int .i64 md) ∧ World.cell? W ⟨w.heap.size + 1, 2, none⟩ = some (.int .i64 mt) ∧ World.cell? W ⟨w.heap.size + 1, 3, none⟩ = some (.int .i64 mz) ∧ (((w.alloc (.cells #[.int .i64 lu, .int .i64 ld, .int .i64 lt, .int .i64 lz] 139)).alloc (.cells #[.int .i64 mu, .int .i64 md, .int .i64 mt, .int .i64 mz] 139)).alloc (.cells #[.int .i64 0, .int .i64 0, .int .i64 0, .int .i64 0] 139)).grownBy W none) → W.grownBy W' none → (World.grownBy w W' none ∧ World.cell? W' ⟨T, 0, none⟩ = some (.int .i64 th) ∧ World.cell? W' ⟨w.heap.size, 0, none⟩ = some (.int .i64 lu) ∧ World.cell? W' ⟨w.heap.size, 1, none⟩ = some (.int .i64 ld) ∧ World.cell? W' ⟨w.heap.size, 2, none⟩ = some (.int .i64 lt) ∧ World.cell? W' ⟨w.heap.size, 3, none⟩ = some (.int .i64 lz) ∧ World.cell? W' ⟨w.heap.size + 1, 0, none⟩ = some (.int .i64 mu) ∧ World.cell? W' ⟨w.heap.size + 1, 1, none⟩ = some (.int .i64 md) ∧ World.cell? W' ⟨w.heap.size + 1, 2, none⟩ = some (.int .i64 mt) ∧ World.cell? W' ⟨w.heap.size + 1, 3, none⟩ = some (.int .i64 mz) ∧ (((w.alloc (.cells #[.int .i64 lu, .int .i64 ld, .int .i64 lt, .int .i64 lz] 139)).alloc (.cells #[.int .i64 mu, .int .i64 md, .int .i64 mt, .int .i64 mz] 139)).alloc (.cells #[.int .i64 0, .int .i64 0, .int .i64 0, .int .i64 0] 139)).grownBy W' none) := fun W W' h g => ⟨grown_trans h.1 g, grown_cell g h.2.1, grown_cell g h.2.2.1, grown_cell g h.2.2.2.1, grown_cell g h.2.2.2.2.1, grown_cell g h.2.2.2.2.2.1, grown_cell g h.2.2.2.2.2.2.1, grown_cell g h.2.2.2.2.2.2.2.1, grown_cell g h.2.2.2.2.2.2.2.2.1, grown_cell g h.2.2.2.2.2.2.2.2.2.1, grown_trans h.2.2.2.2.2.2.2.2.2.2 g⟩
    have hSd : (World.grownBy w (((w.alloc (.cells #[.int .i64 lu, .int .i64 ld, .int .i64 lt, .int .i64 lz] 139)).alloc (.cells #[.int .i64 mu, .int .i64 md, .int .i64 mt, .int .i64 mz] 139)).alloc (.cells #[.int .i64 0, .int .i64 0, .int .i64 0, .int .i64 0] 139)).drew none ∧ World.cell? (((w.alloc (.cells #[.int .i64 lu, .int .i64 ld, .int .i64 lt, .int .i64 lz] 139)).alloc (.cells #[.int .i64 mu, .int .i64 md, .int .i64 mt, .int .i64 mz] 139)).alloc (.cells #[.int .i64 0, .int .i64 0, .int .i64 0, .int .i64 0] 139)).drew ⟨T, 0, none⟩ = some (.int .i64 th) ∧ World.cell? (((w.alloc (.cells #[.int .i64 lu, .int .i64 ld, .int .i64 lt, .int .i64 lz] 139)).alloc (.cells #[.int .i64 mu, .int .i64 md, .int .i64 mt, .int .i64 mz] 139)).alloc (.cells #[.int .i64 0, .int .i64 0, .int .i64 0, .int .i64 0] 139)).drew ⟨w.heap.size, 0, none⟩ = some (.int .i64 lu) ∧ World.cell? (((w.alloc (.cells #[.int .i64 lu, .int .i64 ld, .int .i64 lt, .int .i64 lz] 139)).alloc (.cells #[.int .i64 mu, .int .i64 md, .int .i64 mt, .int .i64 mz] 139)).alloc (.cells #[.int .i64 0, .int .i64 0, .int .i64 0, .int .i64 0] 139)).drew ⟨w.heap.size, 1, none⟩ = some (.int .i64 ld) ∧ World.cell? (((w.alloc (.cells #[.int .i64 lu, .int .i64 ld, .int .i64 lt, .int .i64 lz] 139)).alloc (.cells #[.int .i64 mu, .int .i64 md, .int .i64 mt, .int .i64 mz] 139)).alloc (.cells #[.int .i64 0, .int .i64 0, .int .i64 0, .int .i64 0] 139)).drew ⟨w.heap.size, 2, none⟩ = some (.int .i64 lt) ∧ World.cell? (((w.alloc (.cells #[.int .i64 lu, .int .i64 ld, .int .i64 lt, .int .i64 lz] 139)).alloc (.cells #[.int .i64 mu, .int .i64 md, .int .i64 mt, .int .i64 mz] 139)).alloc (.cells #[.int .i64 0, .int .i64 0, .int .i64 0, .int .i64 0] 139)).drew ⟨w.heap.size, 3, none⟩ = some (.int .i64 lz) ∧ World.cell? (((w.alloc (.cells #[.int .i64 lu, .int .i64 ld, .int .i64 lt, .int .i64 lz] 139)).alloc (.cells #[.int .i64 mu, .int .i64 md, .int .i64 mt, .int .i64 mz] 139)).alloc (.cells #[.int .i64 0, .int .i64 0, .int .i64 0, .int .i64 0] 139)).drew ⟨w.heap.size + 1, 0, none⟩ = some (.int .i64 mu) ∧ World.cell? (((w.alloc (.cells #[.int .i64 lu, .int .i64 ld, .int .i64 lt, .int .i64 lz] 139)).alloc (.cells #[.int .i64 mu, .int .i64 md, .int .i64 mt, .int .i64 mz] 139)).alloc (.cells #[.int .i64 0, .int .i64 0, .int .i64 0, .int .i64 0] 139)).drew ⟨w.heap.size + 1, 1, none⟩ = some (.int .i64 md) ∧ World.cell? (((w.alloc (.cells #[.int .i64 lu, .int .i64 ld, .int .i64 lt, .int .i64 lz] 139)).alloc (.cells #[.int .i64 mu, .int .i64 md, .int .i64 mt, .int .i64 mz] 139)).alloc (.cells #[.int .i64 0, .int .i64 0, .int .i64 0, .int .i64 0] 139)).drew ⟨w.heap.size + 1, 2, none⟩ = some (.int .i64 mt) ∧ World.cell? (((w.alloc (.cells #[.int .i64 lu, .int .i64 ld, .int .i64 lt, .int .i64 lz] 139)).alloc (.cells #[.int .i64 mu, .int .i64 md, .int .i64 mt, .int .i64 mz] 139)).alloc (.cells #[.int .i64 0, .int .i64 0, .int .i64 0, .int .i64 0] 139)).drew ⟨w.heap.size + 1, 3, none⟩ = some (.int .i64 mz) ∧ (((w.alloc (.cells #[.int .i64 lu, .int .i64 ld, .int .i64 lt, .int .i64 lz] 139)).alloc (.cells #[.int .i64 mu, .int .i64 md, .int .i64 mt, .int .i64 mz] 139)).alloc (.cells #[.int .i64 0, .int .i64 0, .int .i64 0, .int .i64 0] 139)).grownBy (((w.alloc (.cells #[.int .i64 lu, .int .i64 ld, .int .i64 lt, .int .i64 lz] 139)).alloc (.cells #[.int .i64 mu, .int .i64 md, .int .i64 mt, .int .i64 mz] 139)).alloc (.cells #[.int .i64 0, .int .i64 0, .int .i64 0, .int .i64 0] 139)).drew none) := hstep _ _ hS0 (grown_drewN _ _ 1)
    have HSTEP := Lib.hid hstep; have HSD := Lib.hid hSd
    clear hS0 hstep hSd hT
    go_enter Try.func128, Try.ntmps128
    go_wp2_with fail
    go_region_held3 (fun W => (w.grownBy W none ∧ W.cell? ⟨T, 0, none⟩ = some (.int .i64 th) ∧ W.cell? ⟨w.heap.size, 0, none⟩ = some (.int .i64 lu) ∧ W.cell? ⟨w.heap.size, 1, none⟩ = some (.int .i64 ld) ∧ W.cell? ⟨w.heap.size, 2, none⟩ = some (.int .i64 lt) ∧ W.cell? ⟨w.heap.size, 3, none⟩ = some (.int .i64 lz) ∧ W.cell? ⟨w.heap.size + 1, 0, none⟩ = some (.int .i64 mu) ∧ W.cell? ⟨w.heap.size + 1, 1, none⟩ = some (.int .i64 md) ∧ W.cell? ⟨w.heap.size + 1, 2, none⟩ = some (.int .i64 mt) ∧ W.cell? ⟨w.heap.size + 1, 3, none⟩ = some (.int .i64 mz) ∧ (((w.alloc (.cells #[.int .i64 lu, .int .i64 ld, .int .i64 lt, .int .i64 lz] 139)).alloc (.cells #[.int .i64 mu, .int .i64 md, .int .i64 mt, .int .i64 mz] 139)).alloc (.cells #[.int .i64 0, .int .i64 0, .int .i64 0, .int .i64 0] 139)).grownBy W none)) (first | exact HSD.out | (refine HSTEP.out _ _ ?_ (by assumption) <;> assumption)) (first
      | (go_at_call 129; first | ((with_reducible refine (HWL.out _).mono ?_); rintro x w7 ⟨rfl, hg7⟩) | ((with_reducible refine (HWM.out _).mono ?_); rintro x w7 ⟨rfl, hg7⟩)))
    all_goals
      rename_i hfin
      obtain ⟨G9, c0, l0, l1, l2, l3, m0, m1, m2, m3, GB⟩ := hfin
      have kz : w7.heap[w.heap.size + 1 + 1]? = some (.cells #[.int .i64 0, .int .i64 0, .int .i64 0, .int .i64 0] 139 (0, 0)) := by
        rw [GB.block _ (by simp) (by simp)]
        have q := heap_alloc_new ((w.alloc (.cells #[.int .i64 lu, .int .i64 ld, .int .i64 lt, .int .i64 lz] 139)).alloc (.cells #[.int .i64 mu, .int .i64 md, .int .i64 mt, .int .i64 mz] 139)) (.cells #[.int .i64 0, .int .i64 0, .int .i64 0, .int .i64 0] 139)
        simpa using q
      have z0 : w7.cell? ⟨w.heap.size + 1 + 1, 0, none⟩ = some (.int .i64 0) := by simp [World.cell?, kz]
      have z1 : w7.cell? ⟨w.heap.size + 1 + 1, 1, none⟩ = some (.int .i64 0) := by simp [World.cell?, kz]
      have z2 : w7.cell? ⟨w.heap.size + 1 + 1, 2, none⟩ = some (.int .i64 0) := by simp [World.cell?, kz]
      have z3 : w7.cell? ⟨w.heap.size + 1 + 1, 3, none⟩ = some (.int .i64 0) := by simp [World.cell?, kz]
      have y0 : w7.frozen? ⟨w.heap.size + 1 + 1, 0, none⟩ = false := by simp [World.frozen?, kz]
      have y1 : w7.frozen? ⟨w.heap.size + 1 + 1, 1, none⟩ = false := by simp [World.frozen?, kz]
      have y2 : w7.frozen? ⟨w.heap.size + 1 + 1, 2, none⟩ = false := by simp [World.frozen?, kz]
      have y3 : w7.frozen? ⟨w.heap.size + 1 + 1, 3, none⟩ = false := by simp [World.frozen?, kz]
      clear kz HSTEP HSD
      go_wp2_with fail
      refine bodyPost_ret (v := .agg #[.int .i64 mu, .int .i64 md, .int .i64 mt, .int .i64 mz]) (by simp [results, Try.results128, go_sem, z0, z1, z2, z3]) rfl ⟨by rw [HV.out], ?_⟩
      exact grown_set (grown_set (grown_set (grown_set G9 (by omega) _ _) (by omega) _ _) (by omega) _ _) (by omega) _ _

end Go.Proofs.Ytgkhhfojioepgaa
namespace Go.Proofs.Ytgkhhfojioepgaa
open Go.RowKit
set_option linter.unusedSimpArgs false
set_option linter.unusedVariables false

def letC (c : Nat) : Bool := (decide (97 ≤ c) && decide (c ≤ 122)) || (decide (65 ≤ c) && decide (c ≤ 90))
def digC (c : Nat) : Bool := decide (48 ≤ c) && decide (c ≤ 57)
theorem byte_cases (n : Nat) (h : n < 256) : (okC n = true ∧ ((97 ≤ (n : Int) ∧ (n : Int) ≤ 122) ∨ (65 ≤ (n : Int) ∧ (n : Int) ≤ 90) ∨ (48 ≤ (n : Int) ∧ (n : Int) ≤ 57) ∨ (45 ≤ (n : Int) ∧ (n : Int) ≤ 45) ∨ (95 ≤ (n : Int) ∧ (n : Int) ≤ 95) ∨ (46 ≤ (n : Int) ∧ (n : Int) ≤ 46))) ∨
    (okC n = false ∧ ((0 ≤ (n : Int) ∧ (n : Int) ≤ 44) ∨ (47 ≤ (n : Int) ∧ (n : Int) ≤ 47) ∨ (58 ≤ (n : Int) ∧ (n : Int) ≤ 64) ∨ (91 ≤ (n : Int) ∧ (n : Int) ≤ 94) ∨ (96 ≤ (n : Int) ∧ (n : Int) ≤ 96) ∨ (123 ≤ (n : Int) ∧ (n : Int) ≤ 255))) := by
  by_cases ho : okC n = true
  · refine .inl ⟨ho, ?_⟩
    unfold okC at ho
    simp only [Bool.or_eq_true, Bool.and_eq_true, decide_eq_true_eq] at ho
    omega
  · refine .inr ⟨by simpa using ho, ?_⟩
    unfold okC at ho
    simp only [Bool.or_eq_true, Bool.and_eq_true, decide_eq_true_eq] at ho
    omega

theorem okC_parts (c : Nat) : okC c = (letC c || digC c || decide (c = 45) || decide (c = 95) || decide (c = 46)) := rfl

set_option maxHeartbeats 1600000 in
theorem letter_is (n : Nat) (hn : n < 256) (w : World) {b : Bool} (hb : Hid (letC n = b)) :
    Calls Try.prog 183 #[.int .u8 (n : Int)] w fun e w' => e = .returned (.bool b) ∧ w = w' := by
  rcases (show (0 ≤ (n : Int) ∧ (n : Int) ≤ 64) ∨ (65 ≤ (n : Int) ∧ (n : Int) ≤ 90) ∨ (91 ≤ (n : Int) ∧ (n : Int) ≤ 96) ∨ (97 ≤ (n : Int) ∧ (n : Int) ≤ 122) ∨ (123 ≤ (n : Int) ∧ (n : Int) ≤ 255) by omega) with hc | hc | hc | hc | hc
  · obtain ⟨c1, c2⟩ := hc
    have d97 : decide (97 ≤ (n : Int)) = false := by simp; omega
    have d122 : decide ((n : Int) ≤ 122) = true := by simp; omega
    have d65 : decide (65 ≤ (n : Int)) = false := by simp; omega
    have d90 : decide ((n : Int) ≤ 90) = true := by simp; omega
    have HV : Hid (b = false) := by show _ = _; rw [← hb.out]; unfold letC; simp; omega
    clear c1 c2
    go_enter Try.func183, Try.ntmps183
    go_wp2
    go_ret
    exact ⟨ret_bool HV.out.symm, rfl⟩
  · obtain ⟨c1, c2⟩ := hc
    have d97 : decide (97 ≤ (n : Int)) = false := by simp; omega
    have d122 : decide ((n : Int) ≤ 122) = true := by simp; omega
    have d65 : decide (65 ≤ (n : Int)) = true := by simp; omega
    have d90 : decide ((n : Int) ≤ 90) = true := by simp; omega
    have HV : Hid (b = true) := by show _ = _; rw [← hb.out]; unfold letC; simp; omega
    clear c1 c2
    go_enter Try.func183, Try.ntmps183
    go_wp2
    go_ret
    exact ⟨ret_bool HV.out.symm, rfl⟩
  · obtain ⟨c1, c2⟩ := hc
    have d97 : decide (97 ≤ (n : Int)) = false := by simp; omega
    have d122 : decide ((n : Int) ≤ 122) = true := by simp; omega
    have d65 : decide (65 ≤ (n : Int)) = true := by simp; omega
    have d90 : decide ((n : Int) ≤ 90) = false := by simp; omega
    have HV : Hid (b = false) := by show _ = _; rw [← hb.out]; unfold letC; simp; omega
    clear c1 c2
    go_enter Try.func183, Try.ntmps183
    go_wp2
    go_ret
    exact ⟨ret_bool HV.out.symm, rfl⟩
  · obtain ⟨c1, c2⟩ := hc
    have d97 : decide (97 ≤ (n : Int)) = true := by simp; omega
    have d122 : decide ((n : Int) ≤ 122) = true := by simp; omega
    have d65 : decide (65 ≤ (n : Int)) = true := by simp; omega
    have d90 : decide ((n : Int) ≤ 90) = false := by simp; omega
    have HV : Hid (b = true) := by show _ = _; rw [← hb.out]; unfold letC; simp; omega
    clear c1 c2
    go_enter Try.func183, Try.ntmps183
    go_wp2
    go_ret
    exact ⟨ret_bool HV.out.symm, rfl⟩
  · obtain ⟨c1, c2⟩ := hc
    have d97 : decide (97 ≤ (n : Int)) = true := by simp; omega
    have d122 : decide ((n : Int) ≤ 122) = false := by simp; omega
    have d65 : decide (65 ≤ (n : Int)) = true := by simp; omega
    have d90 : decide ((n : Int) ≤ 90) = false := by simp; omega
    have HV : Hid (b = false) := by show _ = _; rw [← hb.out]; unfold letC; simp; omega
    clear c1 c2
    go_enter Try.func183, Try.ntmps183
    go_wp2
    go_ret
    exact ⟨ret_bool HV.out.symm, rfl⟩

set_option maxHeartbeats 1600000 in
theorem digit_is (n : Nat) (hn : n < 256) (w : World) {b : Bool} (hb : Hid (digC n = b)) :
    Calls Try.prog 184 #[.int .u8 (n : Int)] w fun e w' => e = .returned (.bool b) ∧ w = w' := by
  rcases (show (0 ≤ (n : Int) ∧ (n : Int) ≤ 47) ∨ (48 ≤ (n : Int) ∧ (n : Int) ≤ 57) ∨ (58 ≤ (n : Int) ∧ (n : Int) ≤ 255) by omega) with hc | hc | hc
  · obtain ⟨c1, c2⟩ := hc
    have d48 : decide (48 ≤ (n : Int)) = false := by simp; omega
    have d57 : decide ((n : Int) ≤ 57) = true := by simp; omega
    have HV : Hid (b = false) := by show _ = _; rw [← hb.out]; unfold digC; simp; omega
    clear c1 c2
    go_enter Try.func184, Try.ntmps184
    go_wp2
    go_ret
    exact ⟨ret_bool HV.out.symm, rfl⟩
  · obtain ⟨c1, c2⟩ := hc
    have d48 : decide (48 ≤ (n : Int)) = true := by simp; omega
    have d57 : decide ((n : Int) ≤ 57) = true := by simp; omega
    have HV : Hid (b = true) := by show _ = _; rw [← hb.out]; unfold digC; simp; omega
    clear c1 c2
    go_enter Try.func184, Try.ntmps184
    go_wp2
    go_ret
    exact ⟨ret_bool HV.out.symm, rfl⟩
  · obtain ⟨c1, c2⟩ := hc
    have d48 : decide (48 ≤ (n : Int)) = true := by simp; omega
    have d57 : decide ((n : Int) ≤ 57) = false := by simp; omega
    have HV : Hid (b = false) := by show _ = _; rw [← hb.out]; unfold digC; simp; omega
    clear c1 c2
    go_enter Try.func184, Try.ntmps184
    go_wp2
    go_ret
    exact ⟨ret_bool HV.out.symm, rfl⟩

set_option maxHeartbeats 1600000 in
theorem nameByte_is (n : Nat) (hn : n < 256) (w : World) {b : Bool} (hb : Hid (okC n = b)) :
    Calls Try.prog 156 #[.int .u8 (n : Int)] w fun e w' => e = .returned (.bool b) ∧ w = w' := by
  obtain ⟨L, hL⟩ : ∃ L, letC n = L := ⟨_, rfl⟩
  obtain ⟨D, hD⟩ : ∃ D, digC n = D := ⟨_, rfl⟩
  have hb2 := hb.out
  rw [okC_parts, hL, hD] at hb2
  have HL := Lib.hid hL; have HD := Lib.hid hD
  clear hL hD hb
  cases L with
  | true =>
    have HV : Hid (b = true) := by show _ = _; rw [← hb2]; simp
    clear hb2
    go_enter Try.func156, Try.ntmps156
    go_wp2_with (first | (go_at_call 183; refine (letter_is _ hn _ HL).mono ?_; rintro e w1 ⟨rfl, rfl⟩) | (go_at_call 184; refine (digit_is _ hn _ HD).mono ?_; rintro e w1 ⟨rfl, rfl⟩))
    go_ret
    exact ⟨ret_bool HV.out.symm, rfl⟩
  | false =>
    cases D with
    | true =>
      have HV : Hid (b = true) := by show _ = _; rw [← hb2]; simp
      clear hb2
      go_enter Try.func156, Try.ntmps156
      go_wp2_with (first | (go_at_call 183; refine (letter_is _ hn _ HL).mono ?_; rintro e w1 ⟨rfl, rfl⟩) | (go_at_call 184; refine (digit_is _ hn _ HD).mono ?_; rintro e w1 ⟨rfl, rfl⟩))
      go_ret
      exact ⟨ret_bool HV.out.symm, rfl⟩
    | false =>
      by_cases e1 : n = 45
      · have m45 : ((n : Int) == 45) = true := by simp; omega
        have m95 : ((n : Int) == 95) = false := by simp; omega
        have m46 : ((n : Int) == 46) = false := by simp; omega
        have HV : Hid (b = true) := by show _ = _; rw [← hb2]; simp; try omega
        clear hb2
        clear e1
        go_enter Try.func156, Try.ntmps156
        go_wp2_with (first | (go_at_call 183; refine (letter_is _ hn _ HL).mono ?_; rintro e w1 ⟨rfl, rfl⟩) | (go_at_call 184; refine (digit_is _ hn _ HD).mono ?_; rintro e w1 ⟨rfl, rfl⟩))
        go_ret
        exact ⟨ret_bool HV.out.symm, rfl⟩
      · by_cases e2 : n = 95
        · have m45 : ((n : Int) == 45) = false := by simp; omega
          have m95 : ((n : Int) == 95) = true := by simp; omega
          have m46 : ((n : Int) == 46) = false := by simp; omega
          have HV : Hid (b = true) := by show _ = _; rw [← hb2]; simp; try omega
          clear hb2
          clear e1 e2
          go_enter Try.func156, Try.ntmps156
          go_wp2_with (first | (go_at_call 183; refine (letter_is _ hn _ HL).mono ?_; rintro e w1 ⟨rfl, rfl⟩) | (go_at_call 184; refine (digit_is _ hn _ HD).mono ?_; rintro e w1 ⟨rfl, rfl⟩))
          go_ret
          exact ⟨ret_bool HV.out.symm, rfl⟩
        · by_cases e3 : n = 46
          · have m45 : ((n : Int) == 45) = false := by simp; omega
            have m95 : ((n : Int) == 95) = false := by simp; omega
            have m46 : ((n : Int) == 46) = true := by simp; omega
            have HV : Hid (b = true) := by show _ = _; rw [← hb2]; simp; try omega
            clear hb2
            clear e1 e2 e3
            go_enter Try.func156, Try.ntmps156
            go_wp2_with (first | (go_at_call 183; refine (letter_is _ hn _ HL).mono ?_; rintro e w1 ⟨rfl, rfl⟩) | (go_at_call 184; refine (digit_is _ hn _ HD).mono ?_; rintro e w1 ⟨rfl, rfl⟩))
            go_ret
            exact ⟨ret_bool HV.out.symm, rfl⟩
          · have m45 : ((n : Int) == 45) = false := by simp; omega
            have m95 : ((n : Int) == 95) = false := by simp; omega
            have m46 : ((n : Int) == 46) = false := by simp; omega
            have HV : Hid (b = false) := by show _ = _; rw [← hb2]; simp; try omega
            clear hb2
            clear e1 e2 e3
            go_enter Try.func156, Try.ntmps156
            go_wp2_with (first | (go_at_call 183; refine (letter_is _ hn _ HL).mono ?_; rintro e w1 ⟨rfl, rfl⟩) | (go_at_call 184; refine (digit_is _ hn _ HD).mono ?_; rintro e w1 ⟨rfl, rfl⟩))
            go_ret
            exact ⟨ret_bool HV.out.symm, rfl⟩

set_option maxHeartbeats 1600000 in
theorem isName_is (s : ByteArray) (hs : s.size ≤ 140737488355328) (w : World) {b : Bool} (hb : Hid (nameB s = b)) :
    Calls Try.prog 114 #[.string s] w fun e w' => e = .returned (.bool b) ∧ w = w' := by
  have hs2 : (s.size : Int) ≤ 140737488355328 := by omega
  by_cases h1 : (s.size : Int) < 1
  · have HV : Hid (b = false) := by show _ = _; rw [← hb.out]; exact name_short (.inl (by omega))
    go_enter Try.func114, Try.ntmps114
    go_wp2
    go_ret
    exact ⟨ret_bool HV.out.symm, rfl⟩
  by_cases h2 : 60 < (s.size : Int)
  · have HV : Hid (b = false) := by show _ = _; rw [← hb.out]; exact name_short (.inr (by omega))
    go_enter Try.func114, Try.ntmps114
    go_wp2
    go_ret
    exact ⟨ret_bool HV.out.symm, rfl⟩
  go_enter Try.func114, Try.ntmps114
  go_wp2
  go_loopw [14] (fun iv wr => ∃ k : Nat, k ≤ s.size ∧ iv = .int .i64 k ∧ w = wr ∧ Hid (∀ j (h : j < s.size), j < k → okC s[j].toNat = true)) (fun iv _ => s.size - (intOf iv).toNat)
  case atStart => exact ⟨0, Nat.zero_le _, rfl, rfl, fun j _ h => absurd h (by omega)⟩
  case round =>
    obtain ⟨k, hk, rfl, rfl, hinv⟩ := hrel
    by_cases hlt : k < s.size
    · have hn : s[k].toNat < 256 := s[k].toNat_lt
      obtain ⟨B, hB⟩ : ∃ B, okC s[k].toNat = B := ⟨_, rfl⟩
      cases B with
      | true =>
        have HI : Hid (∀ j (h : j < s.size), j < k + 1 → okC s[j].toNat = true) := fun j hj hlt => by
          by_cases e : j = k
          · subst e; exact hB
          · exact hinv.out j hj (by omega)
        have HB := Lib.hid hB
        clear hB hinv
        go_wp2_with (go_at_call 156; refine (nameByte_is _ hn _ HB).mono ?_; rintro e w1 ⟨rfl, rfl⟩)
        go_roundw
        case rel => exact ⟨k + 1, by omega, by go_num, by first | rfl | trivial, HI⟩
        case measure => simp [intOf]; omega
      | false =>
        have HV : Hid (b = false) := by show _ = _; rw [← hb.out]; exact name_bad hlt hB
        have HB := Lib.hid hB
        clear hB hinv
        go_wp2_with (go_at_call 156; refine (nameByte_is _ hn _ HB).mono ?_; rintro e w1 ⟨rfl, rfl⟩)
        go_ret
        exact ⟨ret_bool HV.out.symm, rfl⟩
    · have HV : Hid (b = true) := by show _ = _; rw [← hb.out]; exact name_good (by omega) (by omega) (fun j hj => hinv.out j hj (by omega))
      go_wp2
      go_ret
      exact ⟨ret_bool HV.out.symm, rfl⟩

end Go.Proofs.Ytgkhhfojioepgaa
namespace Go.Proofs.Ytgkhhfojioepgaa
open Go.RowKit
set_option linter.unusedSimpArgs false
set_option linter.unusedVariables false

theorem within_yes (n lo hi : Int) (h0 : lo ≤ n) (h1 : n ≤ hi) (w : World) : Calls Try.prog 185 #[.int .i64 n, .int .i64 lo, .int .i64 hi] w fun e w' => e = .returned (.bool true) ∧ w = w' := by
  go_enter Try.func185, Try.ntmps185
  go_wp2
  go_ret
  exact ⟨ret_bool (by first | rfl | (simp; omega)), rfl⟩
theorem within_no (n lo hi : Int) (h : n < lo ∨ hi < n) (w : World) : Calls Try.prog 185 #[.int .i64 n, .int .i64 lo, .int .i64 hi] w fun e w' => e = .returned (.bool false) ∧ w = w' := by
  by_cases h0 : n < lo
  · have h2 : decide (lo ≤ n) = false := by simp; omega
    clear h
    go_enter Try.func185, Try.ntmps185
    go_wp2
    go_ret
    exact ⟨ret_bool (by first | rfl | (simp; omega)), rfl⟩
  · have h1 : lo ≤ n := by omega
    have h2 : decide (n ≤ hi) = false := by simp; omega
    clear h
    go_enter Try.func185, Try.ntmps185
    go_wp2
    go_ret
    exact ⟨ret_bool (by first | rfl | (simp; omega)), rfl⟩

theorem isPlaced_yes (x : Smp) (h1 : -100000000 ≤ x.x ∧ x.x ≤ 100000000) (h2 : -100000000 ≤ x.y ∧ x.y ≤ 100000000) (h3 : -100000 ≤ x.z ∧ x.z ≤ 100000) (w : World) :
    Calls Try.prog 157 #[.agg #[.int .i64 x.t, .int .i64 x.x, .int .i64 x.y, .int .i64 x.z, .int .i64 x.p, .int .i64 x.q, .int .i64 x.s]] w fun e w' => e = .returned (.bool true) ∧ w.grownBy w' none := by
  obtain ⟨t, x, y, z, p, q, s⟩ := x
  simp only at h1 h2 h3 ⊢
  have H1 := Lib.hid h1; have H2 := Lib.hid h2; have H3 := Lib.hid h3; clear h1 h2 h3
  go_enter Try.func157, Try.ntmps157
  go_wp2_with fail
  refine (within_yes _ _ _ H1.out.1 H1.out.2 _).mono ?_; rintro e w1 ⟨rfl, rfl⟩
  go_wp2_with fail
  refine (within_yes _ _ _ H2.out.1 H2.out.2 _).mono ?_; rintro e w1 ⟨rfl, rfl⟩
  go_wp2_with fail
  refine (within_yes _ _ _ H3.out.1 H3.out.2 _).mono ?_; rintro e w1 ⟨rfl, rfl⟩
  go_wp2_with fail
  go_ret
  exact ⟨rfl, World.grownBy_alloc _ _ _⟩
theorem isPlaced_no (x : Smp) (h : ¬ ((-100000000 ≤ x.x ∧ x.x ≤ 100000000) ∧ (-100000000 ≤ x.y ∧ x.y ≤ 100000000) ∧ (-100000 ≤ x.z ∧ x.z ≤ 100000))) (w : World) :
    Calls Try.prog 157 #[.agg #[.int .i64 x.t, .int .i64 x.x, .int .i64 x.y, .int .i64 x.z, .int .i64 x.p, .int .i64 x.q, .int .i64 x.s]] w fun e w' => e = .returned (.bool false) ∧ w.grownBy w' none := by
  obtain ⟨t, x, y, z, p, q, s⟩ := x
  simp only at h ⊢
  by_cases h1 : -100000000 ≤ x ∧ x ≤ 100000000
  · by_cases h2 : -100000000 ≤ y ∧ y ≤ 100000000
    · have h3 : z < -100000 ∨ 100000 < z := by omega
      have H1 := Lib.hid h1; have H2 := Lib.hid h2; have H3 := Lib.hid h3; clear h h1 h2 h3
      go_enter Try.func157, Try.ntmps157
      go_wp2_with fail
      refine (within_yes _ _ _ H1.out.1 H1.out.2 _).mono ?_; rintro e w1 ⟨rfl, rfl⟩
      go_wp2_with fail
      refine (within_yes _ _ _ H2.out.1 H2.out.2 _).mono ?_; rintro e w1 ⟨rfl, rfl⟩
      go_wp2_with fail
      refine (within_no _ _ _ H3.out _).mono ?_; rintro e w1 ⟨rfl, rfl⟩
      go_wp2_with fail
      go_ret
      exact ⟨rfl, World.grownBy_alloc _ _ _⟩
    · have h3 : y < -100000000 ∨ 100000000 < y := by omega
      have H1 := Lib.hid h1; have H3 := Lib.hid h3; clear h h1 h2 h3
      go_enter Try.func157, Try.ntmps157
      go_wp2_with fail
      refine (within_yes _ _ _ H1.out.1 H1.out.2 _).mono ?_; rintro e w1 ⟨rfl, rfl⟩
      go_wp2_with fail
      refine (within_no _ _ _ H3.out _).mono ?_; rintro e w1 ⟨rfl, rfl⟩
      go_wp2_with fail
      go_ret
      exact ⟨rfl, World.grownBy_alloc _ _ _⟩
  · have h3 : x < -100000000 ∨ 100000000 < x := by omega
    have H3 := Lib.hid h3; clear h h1 h3
    go_enter Try.func157, Try.ntmps157
    go_wp2_with fail
    refine (within_no _ _ _ H3.out _).mono ?_; rintro e w1 ⟨rfl, rfl⟩
    go_wp2_with fail
    go_ret
    exact ⟨rfl, World.grownBy_alloc _ _ _⟩
theorem isMeasured_yes (x : Smp) (h1 : -1 ≤ x.p ∧ x.p ≤ 300) (h2 : -1 ≤ x.q ∧ x.q ≤ 3000) (h3 : -1 ≤ x.s ∧ x.s ≤ 300) (w : World) :
    Calls Try.prog 158 #[.agg #[.int .i64 x.t, .int .i64 x.x, .int .i64 x.y, .int .i64 x.z, .int .i64 x.p, .int .i64 x.q, .int .i64 x.s]] w fun e w' => e = .returned (.bool true) ∧ w.grownBy w' none := by
  obtain ⟨t, x, y, z, p, q, s⟩ := x
  simp only at h1 h2 h3 ⊢
  have H1 := Lib.hid h1; have H2 := Lib.hid h2; have H3 := Lib.hid h3; clear h1 h2 h3
  go_enter Try.func158, Try.ntmps158
  go_wp2_with fail
  refine (within_yes _ _ _ H1.out.1 H1.out.2 _).mono ?_; rintro e w1 ⟨rfl, rfl⟩
  go_wp2_with fail
  refine (within_yes _ _ _ H2.out.1 H2.out.2 _).mono ?_; rintro e w1 ⟨rfl, rfl⟩
  go_wp2_with fail
  refine (within_yes _ _ _ H3.out.1 H3.out.2 _).mono ?_; rintro e w1 ⟨rfl, rfl⟩
  go_wp2_with fail
  go_ret
  exact ⟨rfl, World.grownBy_alloc _ _ _⟩
theorem isMeasured_no (x : Smp) (h : ¬ ((-1 ≤ x.p ∧ x.p ≤ 300) ∧ (-1 ≤ x.q ∧ x.q ≤ 3000) ∧ (-1 ≤ x.s ∧ x.s ≤ 300))) (w : World) :
    Calls Try.prog 158 #[.agg #[.int .i64 x.t, .int .i64 x.x, .int .i64 x.y, .int .i64 x.z, .int .i64 x.p, .int .i64 x.q, .int .i64 x.s]] w fun e w' => e = .returned (.bool false) ∧ w.grownBy w' none := by
  obtain ⟨t, x, y, z, p, q, s⟩ := x
  simp only at h ⊢
  by_cases h1 : -1 ≤ p ∧ p ≤ 300
  · by_cases h2 : -1 ≤ q ∧ q ≤ 3000
    · have h3 : s < -1 ∨ 300 < s := by omega
      have H1 := Lib.hid h1; have H2 := Lib.hid h2; have H3 := Lib.hid h3; clear h h1 h2 h3
      go_enter Try.func158, Try.ntmps158
      go_wp2_with fail
      refine (within_yes _ _ _ H1.out.1 H1.out.2 _).mono ?_; rintro e w1 ⟨rfl, rfl⟩
      go_wp2_with fail
      refine (within_yes _ _ _ H2.out.1 H2.out.2 _).mono ?_; rintro e w1 ⟨rfl, rfl⟩
      go_wp2_with fail
      refine (within_no _ _ _ H3.out _).mono ?_; rintro e w1 ⟨rfl, rfl⟩
      go_wp2_with fail
      go_ret
      exact ⟨rfl, World.grownBy_alloc _ _ _⟩
    · have h3 : q < -1 ∨ 3000 < q := by omega
      have H1 := Lib.hid h1; have H3 := Lib.hid h3; clear h h1 h2 h3
      go_enter Try.func158, Try.ntmps158
      go_wp2_with fail
      refine (within_yes _ _ _ H1.out.1 H1.out.2 _).mono ?_; rintro e w1 ⟨rfl, rfl⟩
      go_wp2_with fail
      refine (within_no _ _ _ H3.out _).mono ?_; rintro e w1 ⟨rfl, rfl⟩
      go_wp2_with fail
      go_ret
      exact ⟨rfl, World.grownBy_alloc _ _ _⟩
  · have h3 : p < -1 ∨ 300 < p := by omega
    have H3 := Lib.hid h3; clear h h1 h3
    go_enter Try.func158, Try.ntmps158
    go_wp2_with fail
    refine (within_no _ _ _ H3.out _).mono ?_; rintro e w1 ⟨rfl, rfl⟩
    go_wp2_with fail
    go_ret
    exact ⟨rfl, World.grownBy_alloc _ _ _⟩

set_option maxHeartbeats 800000 in
theorem isLapName_is (s : ByteArray) (hs : s.size ≤ 140737488355328) (w : World) {b : Bool} (hb : Hid (lapNameB s = b)) :
    Calls Try.prog 159 #[.string s] w fun e w' => e = .returned (.bool b) ∧ w = w' := by
  have hs2 : (s.size : Int) ≤ 140737488355328 := by omega
  by_cases h2 : 60 < (s.size : Int)
  · have HV : Hid (b = false) := by show _ = _; rw [← hb.out]; exact lapName_long (by omega)
    go_enter Try.func159, Try.ntmps159
    go_wp2
    go_ret
    exact ⟨ret_bool HV.out.symm, rfl⟩
  go_enter Try.func159, Try.ntmps159
  go_wp2
  go_loop [9] (fun iv => ∃ k : Nat, k ≤ s.size ∧ iv = .int .i64 k ∧ Hid (∀ j (h : j < s.size), j < k → lapC s[j].toNat = true)) (fun iv => s.size - (intOf iv).toNat)
  case atStart => exact ⟨0, Nat.zero_le _, rfl, fun j _ h => absurd h (by omega)⟩
  case round =>
    obtain ⟨k, hk, rfl, hinv⟩ := hrel
    by_cases hlt : k < s.size
    · by_cases hc1 : (s[k].toNat : Int) < 32
      · have HV : Hid (b = false) := by
          show _ = _; rw [← hb.out]; refine lapName_bad hlt ?_
          unfold lapC; rw [decide_eq_false (by omega)]; rfl
        go_wp2
        go_ret
        exact ⟨ret_bool HV.out.symm, rfl⟩
      · by_cases hc2 : 126 < (s[k].toNat : Int)
        · have HV : Hid (b = false) := by
            show _ = _; rw [← hb.out]; refine lapName_bad hlt ?_
            unfold lapC; rw [decide_eq_false (p := s[k].toNat ≤ 126) (by omega)]; simp
          go_wp2
          go_ret
          exact ⟨ret_bool HV.out.symm, rfl⟩
        · have HI : Hid (∀ j (h : j < s.size), j < k + 1 → lapC s[j].toNat = true) := fun j hj hlt => by
            by_cases e : j = k
            · subst e; unfold lapC; rw [decide_eq_true (by omega), decide_eq_true (by omega)]; rfl
            · exact hinv.out j hj (by omega)
          go_wp2
          go_round
          case rel => exact ⟨k + 1, by omega, by go_num, HI⟩
          case measure => simp [intOf]; omega
    · have HV : Hid (b = true) := by show _ = _; rw [← hb.out]; exact lapName_good (by omega) (fun j hj => hinv.out j hj (by omega))
      go_wp2
      go_ret
      exact ⟨ret_bool HV.out.symm, rfl⟩

end Go.Proofs.Ytgkhhfojioepgaa
namespace Go.Proofs.Ytgkhhfojioepgaa
open Go.RowKit
set_option linter.unusedSimpArgs false
set_option linter.unusedVariables false

/-- The time of the sample before. -/
def prevT (l : List Smp) : Nat → Option Int
  | 0 => none
  | k + 1 => (l[k]?).map Smp.t

theorem prevT_succ (l : List Smp) (k : Nat) : prevT l (k + 1) = (l[k]?).map Smp.t := rfl
theorem smpsE_end {st : Int} {b : Option Int} {l : List Smp} {k : Nat} (h : l.length ≤ k) : smpsE st b (l.drop k) = 0 := by
  rw [List.drop_eq_nil_of_le h]; rfl
theorem smpsE_early {st : Int} {b : Option Int} {l : List Smp} {k : Nat} (h : k < l.length) (he : early b l[k].t) : smpsE st b (l.drop k) = 10 := by
  rw [List.drop_eq_getElem_cons h, smpsE, if_pos he]
theorem smpsE_out {st : Int} {b : Option Int} {l : List Smp} {k : Nat} (h : k < l.length) (he : ¬ early b l[k].t) (hi : ¬ smpIn st l[k]) : smpsE st b (l.drop k) = 9 := by
  rw [List.drop_eq_getElem_cons h, smpsE, if_neg he, if_neg hi]
theorem smpsE_next {st : Int} {l : List Smp} {k : Nat} {b : Option Int} (h : k < l.length) (he : ¬ early b l[k].t) (hi : smpIn st l[k]) : smpsE st b (l.drop k) = smpsE st (prevT l (k + 1)) (l.drop (k + 1)) := by
  rw [List.drop_eq_getElem_cons h, smpsE, if_neg he, if_pos hi]
  rw [prevT_succ, List.getElem?_eq_getElem h]; rfl

set_option maxRecDepth 100000 in
set_option maxHeartbeats 3200000 in
theorem chkSamples_some (start : Int) (h0 : 0 ≤ start) (h1 : start ≤ 86399999999) (b off cap : Nat) (ss : List Smp) (hl : (ss.length : Int) ≤ 9223372036854775807) (w : World) (hs : SmpsAt w (some ⟨b, off, none⟩) ss) {E : Int} (hE : Hid (smpsE start none ss = E)) :
    Calls Try.prog 115 #[.int .i64 start, .slice (some ⟨b, off, none⟩) ss.length cap] w fun e w' => e = .returned (.int .i64 E) ∧ w.grownBy w' none := by
  have HS := Lib.hid hs; clear hs
  go_enter Try.func115, Try.ntmps115
  go_wp2
  go_loopw [9] (fun iv wr => ∃ k : Nat, k ≤ ss.length ∧ iv = .int .i64 k ∧ w.grownBy wr none ∧ Hid (smpsE start (prevT ss k) (ss.drop k) = E) ∧ Hid (∀ p, prevT ss k = some p → 0 ≤ p))
    (fun iv _ => ss.length - (intOf iv).toNat)
  case atStart => exact ⟨0, Nat.zero_le _, rfl, grown_refl _ _, by show _ = _; rw [← hE.out]; rfl, fun p h => by simp [prevT] at h⟩
  case round =>
    obtain ⟨k, hk, rfl, hg, hw, hp⟩ := hrel
    by_cases hlt : k < ss.length
    · obtain ⟨c0, c1, c2, c3, c4, c5, c6⟩ := HS.out.cells _ rfl k hlt
      replace c0 := grown_cell hg c0; replace c1 := grown_cell hg c1; replace c2 := grown_cell hg c2; replace c3 := grown_cell hg c3
      replace c4 := grown_cell hg c4; replace c5 := grown_cell hg c5; replace c6 := grown_cell hg c6
      simp only at c0 c1 c2 c3 c4 c5 c6
      -- what is to be shown of the rest, for whatever stands at k
      have RE : early (prevT ss k) ss[k].t → Hid (E = 10) := fun h => by show _ = _; rw [← hw.out]; exact smpsE_early hlt h
      have RO : ¬ early (prevT ss k) ss[k].t → ¬ smpIn start ss[k] → Hid (E = 9) := fun h h' => by show _ = _; rw [← hw.out]; exact smpsE_out hlt h h'
      have RN : ¬ early (prevT ss k) ss[k].t → smpIn start ss[k] → Hid (smpsE start (prevT ss (k + 1)) (ss.drop (k + 1)) = E) := fun h h' => by show _ = _; rw [← hw.out]; exact (smpsE_next hlt h h').symm
      have RP : Hid (∀ p, prevT ss (k + 1) = some p → p = ss[k].t) := fun p h => by
        rw [prevT_succ, List.getElem?_eq_getElem hlt] at h; simpa using h.symm
      generalize ss[k] = x at *
      obtain ⟨t, px, py, pz, pp, pq, ps⟩ := x
      simp only at c0 c1 c2 c3 c4 c5 c6 RE RO RN RP
      have HWR := Lib.hid hg; have HLT := Lib.hid hlt
      by_cases hk0 : k = 0
      · have e0 : ((k : Int) == 0) = true := by simp; omega
        have e2 : decide (0 < (k : Int)) = false := by simp; omega
        have e3 : decide (0 < k) = false := by simp; omega
        have hpk : Hid (prevT ss k = none) := by subst hk0; exact rfl
        have HK := Lib.hid hk0
        clear hk0
        by_cases ht : t = 0
        · have e1 : (t != 0) = false := by simpa using ht
          have tl0 : 0 ≤ t := by omega
          have tl1 : t ≤ 0 := by omega
          have NE : Hid (¬ early (prevT ss k) t) := by show ¬ _; rw [hpk.out]; unfold early; simpa using ht
          clear ht
          have ta : ¬ 1000000 < t := by omega
          have tb : ¬ 86399999999 < start + t := by omega
          by_cases tc : (-100000000 ≤ px ∧ px ≤ 100000000) ∧ (-100000000 ≤ py ∧ py ≤ 100000000) ∧ (-100000 ≤ pz ∧ pz ≤ 100000)
          · by_cases td : (-1 ≤ pp ∧ pp ≤ 300) ∧ (-1 ≤ pq ∧ pq ≤ 3000) ∧ (-1 ≤ ps ∧ ps ≤ 300)
            · have HE := RN NE.out (by unfold smpIn; simp only; omega)
              have HC := Lib.hid tc; have HD := Lib.hid td
              have HP : Hid (∀ p, prevT ss (k + 1) = some p → 0 ≤ p) := fun p h => by rw [RP.out p h]; exact tl0
              clear RE RO RN RP tc td
              go_wp2_with fail
              go_quiet (fail)
              clear e0 e2
              go_wp2_with fail
              refine (isPlaced_yes ⟨t, px, py, pz, pp, pq, ps⟩ HC.out.1 HC.out.2.1 HC.out.2.2 _).mono ?_; rintro e w1 ⟨rfl, hg1⟩
              have b0 : w1.cell? ⟨wr.heap.size, 0, none⟩ = some (.int .i64 t) := grown_cell hg1 (by simp)
              have b1 : w1.cell? ⟨wr.heap.size, 1, none⟩ = some (.int .i64 px) := grown_cell hg1 (by simp)
              have b2 : w1.cell? ⟨wr.heap.size, 2, none⟩ = some (.int .i64 py) := grown_cell hg1 (by simp)
              have b3 : w1.cell? ⟨wr.heap.size, 3, none⟩ = some (.int .i64 pz) := grown_cell hg1 (by simp)
              have b4 : w1.cell? ⟨wr.heap.size, 4, none⟩ = some (.int .i64 pp) := grown_cell hg1 (by simp)
              have b5 : w1.cell? ⟨wr.heap.size, 5, none⟩ = some (.int .i64 pq) := grown_cell hg1 (by simp)
              have b6 : w1.cell? ⟨wr.heap.size, 6, none⟩ = some (.int .i64 ps) := grown_cell hg1 (by simp)
              go_wp2_with fail
              refine (isMeasured_yes ⟨t, px, py, pz, pp, pq, ps⟩ HD.out.1 HD.out.2.1 HD.out.2.2 _).mono ?_; rintro e w2 ⟨rfl, hg2⟩
              have G := grown_trans (grown_trans hg (grown_trans (World.grownBy_alloc _ _ _) (grown_drewN _ _ _))) (grown_trans hg1 hg2)
              clear b0 b1 b2 b3 b4 b5 b6 hg1 hg2
              go_wp2_with fail
              go_roundw
              case rel => exact ⟨k + 1, by have := HLT.out; omega, by go_num, G, HE, HP⟩
              case measure => have := HLT.out; simp [intOf]; omega
            · have HE := RO NE.out (by unfold smpIn; simp only; omega)
              have HC := Lib.hid tc; have HD := Lib.hid td
              clear RE RO RN RP tc td
              go_wp2_with fail
              go_quiet (fail)
              clear e0 e2
              go_wp2_with fail
              refine (isPlaced_yes ⟨t, px, py, pz, pp, pq, ps⟩ HC.out.1 HC.out.2.1 HC.out.2.2 _).mono ?_; rintro e w1 ⟨rfl, hg1⟩
              have b0 : w1.cell? ⟨wr.heap.size, 0, none⟩ = some (.int .i64 t) := grown_cell hg1 (by simp)
              have b1 : w1.cell? ⟨wr.heap.size, 1, none⟩ = some (.int .i64 px) := grown_cell hg1 (by simp)
              have b2 : w1.cell? ⟨wr.heap.size, 2, none⟩ = some (.int .i64 py) := grown_cell hg1 (by simp)
              have b3 : w1.cell? ⟨wr.heap.size, 3, none⟩ = some (.int .i64 pz) := grown_cell hg1 (by simp)
              have b4 : w1.cell? ⟨wr.heap.size, 4, none⟩ = some (.int .i64 pp) := grown_cell hg1 (by simp)
              have b5 : w1.cell? ⟨wr.heap.size, 5, none⟩ = some (.int .i64 pq) := grown_cell hg1 (by simp)
              have b6 : w1.cell? ⟨wr.heap.size, 6, none⟩ = some (.int .i64 ps) := grown_cell hg1 (by simp)
              go_wp2_with fail
              refine (isMeasured_no ⟨t, px, py, pz, pp, pq, ps⟩ HD.out _).mono ?_; rintro e w2 ⟨rfl, hg2⟩
              have G := grown_trans (grown_trans hg (grown_trans (World.grownBy_alloc _ _ _) (grown_drewN _ _ _))) (grown_trans hg1 hg2)
              clear b0 b1 b2 b3 b4 b5 b6 hg1 hg2
              go_wp2_with fail
              go_ret
              exact ⟨ret_int HE.out.symm, G⟩
          · have HE := RO NE.out (by unfold smpIn; simp only; omega)
            have HC := Lib.hid tc
            clear RE RO RN RP tc
            go_wp2_with fail
            go_quiet (fail)
            clear e0 e2
            go_wp2_with fail
            refine (isPlaced_no ⟨t, px, py, pz, pp, pq, ps⟩ HC.out _).mono ?_; rintro e w1 ⟨rfl, hg1⟩
            have G := grown_trans (grown_trans hg (grown_trans (World.grownBy_alloc _ _ _) (grown_drewN _ _ _))) hg1
            clear hg1
            go_wp2_with fail
            go_ret
            exact ⟨ret_int HE.out.symm, G⟩
        · have e1 : (t != 0) = true := by simpa using ht
          have HE := RE (by rw [hpk.out]; exact ht)
          clear RE RO RN RP ht
          go_wp2_with fail
          go_quiet (fail)
          go_wp2_with fail
          go_ret
          exact ⟨ret_int HE.out.symm, grown_trans hg (grown_trans (World.grownBy_alloc _ _ _) (grown_drewN _ _ _))⟩
      · obtain ⟨i, hki⟩ : ∃ i, k = i + 1 := ⟨k - 1, by omega⟩
        have hi : i < ss.length := by omega
        obtain ⟨pv, hpv⟩ : ∃ pv, ss[i].t = pv := ⟨_, rfl⟩
        have hpk : Hid (prevT ss k = some pv) := by show _ = _; rw [hki, prevT_succ, List.getElem?_eq_getElem hi, ← hpv]; rfl
        have hpv0 : 0 ≤ pv := hp.out pv hpk.out
        have q0 := (HS.out.cells _ rfl i hi).1
        rw [hpv] at q0
        simp only at q0
        have q1 : ∀ n, ((wr.alloc (.cells #[.int .i64 t, .int .i64 px, .int .i64 py, .int .i64 pz, .int .i64 pp, .int .i64 pq, .int .i64 ps] 28)).drewN n).cell? ⟨b, off + i * 7, none⟩ = some (.int .i64 pv) := fun n => grown_cell (grown_trans hg (grown_trans (World.grownBy_alloc _ _ _) (grown_drewN _ _ _))) q0
        have e0 : ((k : Int) == 0) = false := by simp; omega
        have e2 : decide (0 < (k : Int)) = true := by simp; omega
        have e3 : 0 < k := by omega
        have ea : ((k : Int) - 1).toNat = i := by omega
        have pa : (0 : Int) ≤ (k : Int) - 1 := by omega
        have pb : (1 : Int) ≤ (k : Int) := by omega
        have ba : (k : Int) - 1 < (ss.length : Int) := by omega
        have ra : IntKind.i64.wrap ((k : Int) - 1) = (k : Int) - 1 := by rw [IntKind.wrap_i64]; omega
        have HKI := Lib.hid hki
        clear hki hpv q0 hk0
        by_cases ht : t ≤ pv
        · have e1 : decide (t ≤ pv) = true := by simpa using ht
          have HE := RE (by rw [hpk.out]; exact ht)
          clear RE RO RN RP
          go_wp2_with fail
          go_quiet (fail)
          go_wp2_with fail
          go_ret
          exact ⟨ret_int HE.out.symm, grown_trans hg (grown_trans (World.grownBy_alloc _ _ _) (grown_drewN _ _ _))⟩
        · have e1 : decide (t ≤ pv) = false := by simpa using ht
          have tl0 : 0 ≤ t := by omega
          have NE : Hid (¬ early (prevT ss k) t) := by show ¬ _; rw [hpk.out]; unfold early; exact ht
          clear ht
          by_cases ta : 1000000 < t
          · have HE := RO NE.out (by unfold smpIn; simp only; omega)
            clear RE RO RN RP
            go_wp2_with fail
            go_quiet (fail)
            clear e0 e2 q1 ea pa pb ba ra
            go_wp2_with fail
            go_ret
            exact ⟨ret_int HE.out.symm, grown_trans hg (grown_trans (World.grownBy_alloc _ _ _) (grown_drewN _ _ _))⟩
          by_cases tb : 86399999999 < start + t
          · have HE := RO NE.out (by unfold smpIn; simp only; omega)
            clear RE RO RN RP
            go_wp2_with fail
            go_quiet (fail)
            clear e0 e2 q1 ea pa pb ba ra
            go_wp2_with fail
            go_ret
            exact ⟨ret_int HE.out.symm, grown_trans hg (grown_trans (World.grownBy_alloc _ _ _) (grown_drewN _ _ _))⟩
          by_cases tc : (-100000000 ≤ px ∧ px ≤ 100000000) ∧ (-100000000 ≤ py ∧ py ≤ 100000000) ∧ (-100000 ≤ pz ∧ pz ≤ 100000)
          · by_cases td : (-1 ≤ pp ∧ pp ≤ 300) ∧ (-1 ≤ pq ∧ pq ≤ 3000) ∧ (-1 ≤ ps ∧ ps ≤ 300)
            · have HE := RN NE.out (by unfold smpIn; simp only; omega)
              have HC := Lib.hid tc; have HD := Lib.hid td
              have HP : Hid (∀ p, prevT ss (k + 1) = some p → 0 ≤ p) := fun p h => by rw [RP.out p h]; exact tl0
              clear RE RO RN RP tc td
              go_wp2_with fail
              go_quiet (fail)
              clear e0 e2 q1 ea pa pb ba ra
              go_wp2_with fail
              refine (isPlaced_yes ⟨t, px, py, pz, pp, pq, ps⟩ HC.out.1 HC.out.2.1 HC.out.2.2 _).mono ?_; rintro e w1 ⟨rfl, hg1⟩
              have b0 : w1.cell? ⟨wr.heap.size, 0, none⟩ = some (.int .i64 t) := grown_cell hg1 (by simp)
              have b1 : w1.cell? ⟨wr.heap.size, 1, none⟩ = some (.int .i64 px) := grown_cell hg1 (by simp)
              have b2 : w1.cell? ⟨wr.heap.size, 2, none⟩ = some (.int .i64 py) := grown_cell hg1 (by simp)
              have b3 : w1.cell? ⟨wr.heap.size, 3, none⟩ = some (.int .i64 pz) := grown_cell hg1 (by simp)
              have b4 : w1.cell? ⟨wr.heap.size, 4, none⟩ = some (.int .i64 pp) := grown_cell hg1 (by simp)
              have b5 : w1.cell? ⟨wr.heap.size, 5, none⟩ = some (.int .i64 pq) := grown_cell hg1 (by simp)
              have b6 : w1.cell? ⟨wr.heap.size, 6, none⟩ = some (.int .i64 ps) := grown_cell hg1 (by simp)
              go_wp2_with fail
              refine (isMeasured_yes ⟨t, px, py, pz, pp, pq, ps⟩ HD.out.1 HD.out.2.1 HD.out.2.2 _).mono ?_; rintro e w2 ⟨rfl, hg2⟩
              have G := grown_trans (grown_trans hg (grown_trans (World.grownBy_alloc _ _ _) (grown_drewN _ _ _))) (grown_trans hg1 hg2)
              clear b0 b1 b2 b3 b4 b5 b6 hg1 hg2
              go_wp2_with fail
              go_roundw
              case rel => exact ⟨k + 1, by have := HLT.out; omega, by go_num, G, HE, HP⟩
              case measure => have := HLT.out; simp [intOf]; omega
            · have HE := RO NE.out (by unfold smpIn; simp only; omega)
              have HC := Lib.hid tc; have HD := Lib.hid td
              clear RE RO RN RP tc td
              go_wp2_with fail
              go_quiet (fail)
              clear e0 e2 q1 ea pa pb ba ra
              go_wp2_with fail
              refine (isPlaced_yes ⟨t, px, py, pz, pp, pq, ps⟩ HC.out.1 HC.out.2.1 HC.out.2.2 _).mono ?_; rintro e w1 ⟨rfl, hg1⟩
              have b0 : w1.cell? ⟨wr.heap.size, 0, none⟩ = some (.int .i64 t) := grown_cell hg1 (by simp)
              have b1 : w1.cell? ⟨wr.heap.size, 1, none⟩ = some (.int .i64 px) := grown_cell hg1 (by simp)
              have b2 : w1.cell? ⟨wr.heap.size, 2, none⟩ = some (.int .i64 py) := grown_cell hg1 (by simp)
              have b3 : w1.cell? ⟨wr.heap.size, 3, none⟩ = some (.int .i64 pz) := grown_cell hg1 (by simp)
              have b4 : w1.cell? ⟨wr.heap.size, 4, none⟩ = some (.int .i64 pp) := grown_cell hg1 (by simp)
              have b5 : w1.cell? ⟨wr.heap.size, 5, none⟩ = some (.int .i64 pq) := grown_cell hg1 (by simp)
              have b6 : w1.cell? ⟨wr.heap.size, 6, none⟩ = some (.int .i64 ps) := grown_cell hg1 (by simp)
              go_wp2_with fail
              refine (isMeasured_no ⟨t, px, py, pz, pp, pq, ps⟩ HD.out _).mono ?_; rintro e w2 ⟨rfl, hg2⟩
              have G := grown_trans (grown_trans hg (grown_trans (World.grownBy_alloc _ _ _) (grown_drewN _ _ _))) (grown_trans hg1 hg2)
              clear b0 b1 b2 b3 b4 b5 b6 hg1 hg2
              go_wp2_with fail
              go_ret
              exact ⟨ret_int HE.out.symm, G⟩
          · have HE := RO NE.out (by unfold smpIn; simp only; omega)
            have HC := Lib.hid tc
            clear RE RO RN RP tc
            go_wp2_with fail
            go_quiet (fail)
            clear e0 e2 q1 ea pa pb ba ra
            go_wp2_with fail
            refine (isPlaced_no ⟨t, px, py, pz, pp, pq, ps⟩ HC.out _).mono ?_; rintro e w1 ⟨rfl, hg1⟩
            have G := grown_trans (grown_trans hg (grown_trans (World.grownBy_alloc _ _ _) (grown_drewN _ _ _))) hg1
            clear hg1
            go_wp2_with fail
            go_ret
            exact ⟨ret_int HE.out.symm, G⟩
    · have HV : Hid (E = 0) := by show _ = _; rw [← hw.out]; exact smpsE_end (by omega)
      go_wp2
      go_ret
      exact ⟨ret_int HV.out.symm, hg⟩

end Go.Proofs.Ytgkhhfojioepgaa
namespace Go.Proofs.Ytgkhhfojioepgaa
open Go.RowKit
set_option linter.unusedSimpArgs false
set_option linter.unusedVariables false

theorem lapsE_end {sp e : Int} {l : List LapV} {k : Nat} (h : l.length ≤ k) : lapsE sp e (l.drop k) = 0 := by
  rw [List.drop_eq_nil_of_le h]; rfl
theorem lapsE_at {sp e : Int} {l : List LapV} {k : Nat} (h : k < l.length) : lapsE sp e (l.drop k) = if l[k].fr < 0 ∨ l[k].to_ ≤ l[k].fr ∨ sp < l[k].to_ then 9 else if l[k].fr < e then 10 else if lapNameB l[k].name = true then lapsE sp l[k].to_ (l.drop (k + 1)) else 8 := by
  rw [List.drop_eq_getElem_cons h, lapsE]

set_option maxHeartbeats 1600000 in
theorem chkLaps_some (span : Int) (b off cap : Nat) (ls : List LapV) (hl : (ls.length : Int) ≤ 9223372036854775807) (w : World) (hs : LapsAt w (some ⟨b, off, none⟩) ls) {E : Int} (hE : Hid (lapsE span 0 ls = E)) :
    Calls Try.prog 116 #[.slice (some ⟨b, off, none⟩) ls.length cap, .int .i64 span] w fun e w' => e = .returned (.int .i64 E) ∧ w.grownBy w' none := by
  have HS := Lib.hid hs; clear hs
  go_enter Try.func116, Try.ntmps116
  go_wp2
  go_loopw [5, 10] (fun ev iv wr => ∃ (k : Nat) (en : Int), k ≤ ls.length ∧ ev = .int .i64 en ∧ iv = .int .i64 k ∧ w.grownBy wr none ∧ Hid (lapsE span en (ls.drop k) = E))
    (fun _ iv _ => ls.length - (intOf iv).toNat)
  case atStart => exact ⟨0, 0, Nat.zero_le _, rfl, rfl, grown_refl _ _, hE.out⟩
  case round =>
    obtain ⟨k, en, hk, rfl, rfl, hg, hw⟩ := hrel
    by_cases hlt : k < ls.length
    · obtain ⟨c0, c1, c2⟩ := HS.out.cells _ rfl k hlt
      replace c0 := grown_cell hg c0; replace c1 := grown_cell hg c1; replace c2 := grown_cell hg c2
      simp only at c0 c1 c2
      have hsz := HS.out.sizes k hlt
      have HW : Hid (_ = E) := Lib.hid ((lapsE_at (sp := span) (e := en) hlt).symm.trans hw.out)
      generalize ls[k] = x at *
      obtain ⟨fr, tt, nm⟩ := x
      simp only at c0 c1 c2 HW hsz
      have HLT := Lib.hid hlt; have HZ := Lib.hid hsz
      clear hsz hw
      have G := grown_trans hg (World.grownBy_alloc wr (.cells #[.int .i64 fr, .int .i64 tt, .string nm] 77) none)
      by_cases a1 : fr < 0
      · have HE : Hid (E = 9) := by show _ = _; rw [← HW.out, if_pos (by omega)]
        clear HW
        go_wp2
        go_ret
        exact ⟨ret_int HE.out.symm, G⟩
      by_cases a2 : tt ≤ fr
      · have HE : Hid (E = 9) := by show _ = _; rw [← HW.out, if_pos (by omega)]
        clear HW
        go_wp2
        go_ret
        exact ⟨ret_int HE.out.symm, G⟩
      by_cases a3 : span < tt
      · have HE : Hid (E = 9) := by show _ = _; rw [← HW.out, if_pos (by omega)]
        clear HW
        go_wp2
        go_ret
        exact ⟨ret_int HE.out.symm, G⟩
      by_cases a4 : fr < en
      · have HE : Hid (E = 10) := by show _ = _; rw [← HW.out, if_neg (by omega), if_pos a4]
        clear HW
        go_wp2
        go_ret
        exact ⟨ret_int HE.out.symm, G⟩
      by_cases a5 : lapNameB nm = true
      · have HE : Hid (lapsE span tt (ls.drop (k + 1)) = E) := by show _ = _; rw [← HW.out, if_neg (by omega), if_neg a4, if_pos a5]
        have H5 := Lib.hid a5
        clear HW a5
        go_wp2_with (go_at_call 159; refine (isLapName_is nm HZ.out _ H5).mono ?_; rintro e w1 ⟨rfl, rfl⟩)
        go_roundw
        case rel => exact ⟨k + 1, tt, by have := HLT.out; omega, rfl, by go_num, G, HE⟩
        case measure => have := HLT.out; simp [intOf]; omega
      · have HE : Hid (E = 8) := by show _ = _; rw [← HW.out, if_neg (by omega), if_neg a4, if_neg a5]
        have H5 : Hid (lapNameB nm = false) := by show _ = _; simpa using a5
        clear HW a5
        go_wp2_with (go_at_call 159; refine (isLapName_is nm HZ.out _ H5).mono ?_; rintro e w1 ⟨rfl, rfl⟩)
        go_ret
        exact ⟨ret_int HE.out.symm, G⟩
    · have HV : Hid (E = 0) := by show _ = _; rw [← hw.out]; exact lapsE_end (by omega)
      go_wp2
      go_ret
      exact ⟨ret_int HV.out.symm, hg⟩

def prevG (l : List ByteArray) : Nat → Option ByteArray
  | 0 => none
  | k + 1 => l[k]?
theorem prevG_succ (l : List ByteArray) (k : Nat) : prevG l (k + 1) = l[k]? := rfl
theorem tagsE_end {e : Option ByteArray} {l : List ByteArray} {k : Nat} (h : l.length ≤ k) : tagsE e (l.drop k) = 0 := by
  rw [List.drop_eq_nil_of_le h]; rfl
theorem tagsE_at {e : Option ByteArray} {l : List ByteArray} {k : Nat} (h : k < l.length) : tagsE e (l.drop k) = if nameB l[k] = true then (if soonT e l[k] = true then 10 else tagsE (prevG l (k + 1)) (l.drop (k + 1))) else 8 := by
  rw [List.drop_eq_getElem_cons h, tagsE, prevG_succ, List.getElem?_eq_getElem h]

set_option maxHeartbeats 1600000 in
theorem chkTags_some (b off cap : Nat) (ts : List ByteArray) (hl : (ts.length : Int) ≤ 9223372036854775807) (w : World) (hs : TagsAt w (some ⟨b, off, none⟩) ts) {E : Int} (hE : Hid (tagsE none ts = E)) :
    Calls Try.prog 117 #[.slice (some ⟨b, off, none⟩) ts.length cap] w fun e w' => e = .returned (.int .i64 E) ∧ w = w' := by
  have HS := Lib.hid hs; clear hs
  go_enter Try.func117, Try.ntmps117
  go_wp2
  go_loop [7] (fun iv => ∃ (k : Nat), k ≤ ts.length ∧ iv = .int .i64 k ∧ Hid (tagsE (prevG ts k) (ts.drop k) = E))
    (fun iv => ts.length - (intOf iv).toNat)
  case atStart => exact ⟨0, Nat.zero_le _, rfl, hE.out⟩
  case round =>
    obtain ⟨k, hk, rfl, hw⟩ := hrel
    by_cases hlt : k < ts.length
    · have c0 := HS.out.cells _ rfl k hlt
      simp only at c0
      have hsz := HS.out.sizes k hlt
      have HW : Hid (_ = E) := Lib.hid ((tagsE_at (e := prevG ts k) hlt).symm.trans hw.out)
      generalize ts[k] = x at *
      have HLT := Lib.hid hlt; have HZ := Lib.hid hsz
      clear hsz hw
      by_cases a5 : nameB x = true
      · have H5 := Lib.hid a5
        by_cases hk0 : k = 0
        · have HE : Hid (tagsE (prevG ts (k + 1)) (ts.drop (k + 1)) = E) := by
            show _ = _; rw [← HW.out, if_pos a5, hk0]; rfl
          have e2 : decide (0 < (k : Int)) = false := by simp; omega
          have e3 : decide (0 < k) = false := by simp; omega
          have HK := Lib.hid hk0
          clear HW a5 hk0
          go_wp2_with (go_at_call 114; refine (isName_is x HZ.out _ H5).mono ?_; rintro e w1 ⟨rfl, rfl⟩)
          go_round
          case rel => exact ⟨k + 1, by have := HLT.out; omega, by go_num, HE⟩
          case measure => have := HLT.out; simp [intOf]; omega
        · obtain ⟨i, hki⟩ : ∃ i, k = i + 1 := ⟨k - 1, by omega⟩
          have hi : i < ts.length := by omega
          have c1 := HS.out.cells _ rfl i hi
          simp only at c1
          have hpv : prevG ts k = some ts[i] := by rw [hki, prevG_succ, List.getElem?_eq_getElem hi]
          generalize ts[i] = y at *
          have hs1 : soonT (prevG ts k) x = leT x y := by rw [hpv]; rfl
          have e2 : decide (0 < (k : Int)) = true := by simp; omega
          have e3 : 0 < k := by omega
          have ea : ((k : Int) - 1).toNat = i := by omega
          have pa : (0 : Int) ≤ (k : Int) - 1 := by omega
          have pb : (1 : Int) ≤ (k : Int) := by omega
          have ba : (k : Int) - 1 < (ts.length : Int) := by omega
          have HKI := Lib.hid hki
          clear hki hk0
          by_cases a6 : leT x y = true
          · have HE : Hid (E = 10) := by show _ = _; rw [← HW.out, if_pos a5, if_pos (hs1.trans a6)]
            have f1 : (Op.bytesLess x.toList y.toList || x.toList == y.toList) = true := a6
            clear HW a5 hpv hs1 a6
            go_wp2_with (go_at_call 114; refine (isName_is x HZ.out _ H5).mono ?_; rintro e w1 ⟨rfl, rfl⟩)
            go_ret
            exact ⟨ret_int HE.out.symm, rfl⟩
          · have HE : Hid (tagsE (prevG ts (k + 1)) (ts.drop (k + 1)) = E) := by
              show _ = _; rw [← HW.out, if_pos a5, if_neg (by rw [hs1]; exact a6)]
            have f1 : (Op.bytesLess x.toList y.toList || x.toList == y.toList) = false := by unfold leT at a6; simpa using a6
            clear HW a5 hpv hs1 a6
            go_wp2_with (go_at_call 114; refine (isName_is x HZ.out _ H5).mono ?_; rintro e w1 ⟨rfl, rfl⟩)
            go_round
            case rel => exact ⟨k + 1, by have := HLT.out; omega, by go_num, HE⟩
            case measure => have := HLT.out; simp [intOf]; omega
      · have HE : Hid (E = 8) := by show _ = _; rw [← HW.out, if_neg a5]
        have H5 : Hid (nameB x = false) := by show _ = _; simpa using a5
        clear HW a5
        go_wp2_with (go_at_call 114; refine (isName_is x HZ.out _ H5).mono ?_; rintro e w1 ⟨rfl, rfl⟩)
        go_ret
        exact ⟨ret_int HE.out.symm, rfl⟩
    · have HV : Hid (E = 0) := by show _ = _; rw [← hw.out]; exact tagsE_end (by omega)
      go_wp2
      go_ret
      exact ⟨ret_int HV.out.symm, rfl⟩

end Go.Proofs.Ytgkhhfojioepgaa
namespace Go.Proofs.Ytgkhhfojioepgaa
open Go.RowKit
set_option linter.unusedSimpArgs false
set_option linter.unusedVariables false

theorem chkSamples_any (start : Int) (h0 : 0 ≤ start) (h1 : start ≤ 86399999999) (ao : Option Addr) (cap : Nat) (ss : List Smp) (hl : (ss.length : Int) ≤ 9223372036854775807) (w : World) (hs : SmpsAt w ao ss) {E : Int} (hE : Hid (smpsE start none ss = E)) :
    Calls Try.prog 115 #[.int .i64 start, .slice ao ss.length cap] w fun e w' => e = .returned (.int .i64 E) ∧ w.grownBy w' none := by
  cases ss with
  | nil =>
    have HV : Hid (E = 0) := by show _ = _; rw [← hE.out]; rfl
    clear hs hE
    go_enter Try.func115, Try.ntmps115
    go_wp2
    refine wp_loop_rounds 1 ?_
    rw [rounds_succ]
    go_wp2
    go_ret
    exact ⟨ret_int HV.out.symm, grown_refl _ _⟩
  | cons x r =>
    match ao, hs with
    | none, hs => exact absurd (hs.nil rfl) (by simp)
    | some ⟨b, off, sp⟩, hs =>
      have h := hs.spot _ rfl (by simp)
      simp only at h
      subst h
      exact chkSamples_some start h0 h1 b off cap (x :: r) hl w hs hE
theorem chkLaps_any (span : Int) (ao : Option Addr) (cap : Nat) (ls : List LapV) (hl : (ls.length : Int) ≤ 9223372036854775807) (w : World) (hs : LapsAt w ao ls) {E : Int} (hE : Hid (lapsE span 0 ls = E)) :
    Calls Try.prog 116 #[.slice ao ls.length cap, .int .i64 span] w fun e w' => e = .returned (.int .i64 E) ∧ w.grownBy w' none := by
  cases ls with
  | nil =>
    have HV : Hid (E = 0) := by show _ = _; rw [← hE.out]; rfl
    clear hs hE
    go_enter Try.func116, Try.ntmps116
    go_wp2
    refine wp_loop_rounds 1 ?_
    rw [rounds_succ]
    go_wp2
    go_ret
    exact ⟨ret_int HV.out.symm, grown_refl _ _⟩
  | cons x r =>
    match ao, hs with
    | none, hs => exact absurd (hs.nil rfl) (by simp)
    | some ⟨b, off, sp⟩, hs =>
      have h := hs.spot _ rfl (by simp)
      simp only at h
      subst h
      exact chkLaps_some span b off cap (x :: r) hl w hs hE
theorem chkTags_any (ao : Option Addr) (cap : Nat) (ts : List ByteArray) (hl : (ts.length : Int) ≤ 9223372036854775807) (w : World) (hs : TagsAt w ao ts) {E : Int} (hE : Hid (tagsE none ts = E)) :
    Calls Try.prog 117 #[.slice ao ts.length cap] w fun e w' => e = .returned (.int .i64 E) ∧ w = w' := by
  cases ts with
  | nil =>
    have HV : Hid (E = 0) := by show _ = _; rw [← hE.out]; rfl
    clear hs hE
    go_enter Try.func117, Try.ntmps117
    go_wp2
    refine wp_loop_rounds 1 ?_
    rw [rounds_succ]
    go_wp2
    go_ret
    exact ⟨ret_int HV.out.symm, rfl⟩
  | cons x r =>
    match ao, hs with
    | none, hs => exact absurd (hs.nil rfl) (by simp)
    | some ⟨b, off, sp⟩, hs =>
      have h := hs.spot _ rfl (by simp)
      simp only at h
      subst h
      exact chkTags_some b off cap (x :: r) hl w hs hE

theorem spanL_at : ∀ {l : List Smp} {n : Nat} (h : l.length = n + 1), spanL l = (l[n]'(by omega)).t
  | [x], n, h => by
    obtain rfl : n = 0 := by simpa using h.symm
    rfl
  | _ :: y :: r, n, h => by
    obtain ⟨m, rfl⟩ : ∃ m, n = m + 1 := ⟨n - 1, by simp only [List.length_cons] at h; omega⟩
    have := spanL_at (l := y :: r) (n := m) (by simpa using h)
    simpa [spanL] using this

theorem span_some (a : Act) (b off n : Nat) (hso : a.so = some ⟨b, off, none⟩) (hn : a.ss.length = n + 1) (hl : (a.ss.length : Int) ≤ 9223372036854775807) (w : World) (hs : SmpsAt w a.so a.ss) {E : Int} (hE : Hid (spanL a.ss = E)) :
    Calls Try.prog 56 #[a.val] w fun e w' => e = .returned (.int .i64 E) ∧ w.grownBy w' none := by
  obtain ⟨nm, sp, st, so, sc, ss, lo, lc, ls, to_, tc, ts⟩ := a
  simp only [Act.val] at *
  subst hso
  have c0 := (hs.cells _ rfl n (by omega)).1
  have hv : (ss[n]'(by omega)).t = E := by rw [← hE.out]; exact (spanL_at hn).symm
  rw [hv] at c0
  simp only at c0
  have e0 : ((ss.length : Int) == 0) = false := by rw [beq_eq_false_iff_ne]; omega
  have ea : ((ss.length : Int) - 1).toNat = n := by omega
  have pa : (0 : Int) ≤ (ss.length : Int) - 1 := by omega
  have pb : (1 : Int) ≤ (ss.length : Int) := by omega
  have pc : 1 ≤ ss.length := by omega
  have HN := Lib.hid hn; have HS := Lib.hid hs
  clear hn hs hv hE
  go_enter Try.func56, Try.ntmps56
  have c1 := grown_cell (World.grownBy_alloc w (.cells #[.string nm, .int .i64 sp, .int .i64 st, .slice (some ⟨b, off, none⟩) ss.length sc, .slice lo ls.length lc, .slice to_ ts.length tc] 26) none) c0
  go_wp2
  go_ret
  exact ⟨rfl, World.grownBy_alloc _ _ _⟩
theorem span_any (a : Act) (hl : (a.ss.length : Int) ≤ 9223372036854775807) (w : World) (hs : SmpsAt w a.so a.ss) {E : Int} (hE : Hid (spanL a.ss = E)) :
    Calls Try.prog 56 #[a.val] w fun e w' => e = .returned (.int .i64 E) ∧ w.grownBy w' none := by
  obtain ⟨nm, sp, st, so, sc, ss, lo, lc, ls, to_, tc, ts⟩ := a
  cases ss with
  | nil =>
    have HV : Hid (E = 0) := by show _ = _; rw [← hE.out]; rfl
    simp only [Act.val, List.length_nil] at *
    clear hs hE hl
    go_enter Try.func56, Try.ntmps56
    go_wp2
    go_ret
    exact ⟨ret_int HV.out.symm, World.grownBy_alloc _ _ _⟩
  | cons x r =>
    match so, hs with
    | none, hs => exact absurd (hs.nil rfl) (by simp)
    | some ⟨b, off, spt⟩, hs =>
      have h := hs.spot _ rfl (by simp)
      simp only at h
      subst h
      exact span_some _ b off r.length rfl rfl hl w hs hE
end Go.Proofs.Ytgkhhfojioepgaa
