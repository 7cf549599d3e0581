/- Texts that all laws of this seat use, one behind the other. -/
import Derived.Test.YtgkhhfojioepgaaProg
import Derived.WalkKit
import Derived.WalkSpells
import Derived.WalkLawsBesides
import Derived.Handy
import Derived.Lib.Hide
import Derived.Deep.QuietTactic
import Derived.BigQuiet
import Derived.Deep.RegionWith
import Derived.Laws.BitsAllLaws
import Derived.IntWalk
import Derived.Deep.OwnRows
import Derived.Lib.SmallJoins
import Derived.Deep.Slices
import Derived.Deep.Fields
import Derived.ChangeSame
import Derived.SizedLaws
/- Activities and tracks, plainly: what Check returns; ways; the lines that are worth most. No program. -/
namespace Go.Proofs.Ytgkhhfojioepgaa
set_option linter.unusedSimpArgs false
set_option linter.unusedVariables false

/-- A byte of a name. -/
def okC (c : Nat) : Bool := (decide (97 ≤ c) && decide (c ≤ 122)) || (decide (65 ≤ c) && decide (c ≤ 90)) || (decide (48 ≤ c) && decide (c ≤ 57)) || decide (c = 45) || decide (c = 95) || decide (c = 46)
def nameB (s : ByteArray) : Bool := decide (1 ≤ s.size) && decide (s.size ≤ 60) && s.data.toList.all fun c => okC c.toNat
def lapC (c : Nat) : Bool := decide (32 ≤ c) && decide (c ≤ 126)
def lapNameB (s : ByteArray) : Bool := decide (s.size ≤ 60) && s.data.toList.all fun c => lapC c.toNat

theorem all_at {p : UInt8 → Bool} {s : ByteArray} : s.data.toList.all p = true ↔ ∀ j (h : j < s.size), p s[j] = true := by
  rw [List.all_eq_true]
  constructor
  · intro h j hj
    exact h _ (by rw [ByteArray.getElem_eq_getElem_data]; simp)
  · intro h x hx
    obtain ⟨j, hj, rfl⟩ := List.getElem_of_mem hx
    have := h j (by simpa using hj)
    rw [ByteArray.getElem_eq_getElem_data] at this
    simpa using this
theorem all_not {p : UInt8 → Bool} {s : ByteArray} {j : Nat} (hj : j < s.size) (h : p s[j] = false) : s.data.toList.all p = false := by
  rw [Bool.eq_false_iff]
  intro h'
  have := all_at.1 h' j hj
  rw [h] at this; cases this

theorem name_short {s : ByteArray} (h : s.size < 1 ∨ 60 < s.size) : nameB s = false := by
  unfold nameB
  rcases h with h | h
  · rw [decide_eq_false (by omega)]; rfl
  · rw [decide_eq_false (p := s.size ≤ 60) (by omega)]; simp
theorem name_bad {s : ByteArray} {j : Nat} (hj : j < s.size) (h : okC s[j].toNat = false) : nameB s = false := by
  unfold nameB
  rw [all_not (p := fun c => okC c.toNat) hj h]; simp
theorem name_good {s : ByteArray} (h1 : 1 ≤ s.size) (h2 : s.size ≤ 60) (h : ∀ j (hj : j < s.size), okC s[j].toNat = true) : nameB s = true := by
  unfold nameB
  rw [decide_eq_true h1, decide_eq_true h2, all_at.2 h]; rfl
theorem lapName_long {s : ByteArray} (h : 60 < s.size) : lapNameB s = false := by
  unfold lapNameB
  rw [decide_eq_false (by omega)]; rfl
theorem lapName_bad {s : ByteArray} {j : Nat} (hj : j < s.size) (h : lapC s[j].toNat = false) : lapNameB s = false := by
  unfold lapNameB
  rw [all_not (p := fun c => lapC c.toNat) hj h]; simp
theorem lapName_good {s : ByteArray} (h2 : s.size ≤ 60) (h : ∀ j (hj : j < s.size), lapC s[j].toNat = true) : lapNameB s = true := by
  unfold lapNameB
  rw [decide_eq_true h2, all_at.2 h]; rfl

/-- A sample; a lap. -/
structure Smp where
  t : Int
  x : Int
  y : Int
  z : Int
  p : Int
  q : Int
  s : Int
  deriving DecidableEq, Inhabited
structure LapV where
  fr : Int
  to_ : Int
  name : ByteArray

/-- The sample's numbers are in their ranges. -/
def smpIn (start : Int) (x : Smp) : Prop :=
  x.t ≤ 1000000 ∧ start + x.t ≤ 86399999999 ∧ (-100000000 ≤ x.x ∧ x.x ≤ 100000000) ∧ (-100000000 ≤ x.y ∧ x.y ≤ 100000000) ∧ (-100000 ≤ x.z ∧ x.z ≤ 100000) ∧ (-1 ≤ x.p ∧ x.p ≤ 300) ∧ (-1 ≤ x.q ∧ x.q ≤ 3000) ∧ (-1 ≤ x.s ∧ x.s ≤ 300)
instance (start : Int) (x : Smp) : Decidable (smpIn start x) := by unfold smpIn; exact inferInstance

/-- A sample comes too early behind the one before. -/
def early : Option Int → Int → Prop
  | none, t => t ≠ 0
  | some b, t => t ≤ b
instance (b : Option Int) (t : Int) : Decidable (early b t) := by cases b <;> (unfold early; exact inferInstance)

def smpsE (start : Int) : Option Int → List Smp → Int
  | _, [] => 0
  | b, x :: r => if early b x.t then 10 else if smpIn start x then smpsE start (some x.t) r else 9

def lapsE (span : Int) : Int → List LapV → Int
  | _, [] => 0
  | e, x :: r => if x.fr < 0 ∨ x.to_ ≤ x.fr ∨ span < x.to_ then 9 else if x.fr < e then 10 else if lapNameB x.name = true then lapsE span x.to_ r else 8

end Go.Proofs.Ytgkhhfojioepgaa
namespace Go.Proofs.Ytgkhhfojioepgaa
open Go.RowKit
set_option linter.unusedSimpArgs false
set_option linter.unusedVariables false

theorem ret_bool {a b : Bool} (h : a = b) : Ending.returned (.bool a) = .returned (.bool b) := by rw [h]
theorem ret_int {k : IntKind} {a b : Int} (h : a = b) : Ending.returned (.int k a) = .returned (.int k b) := by rw [h]
theorem ret_ib {k : IntKind} {a b : Int} {c d : Bool} (h : a = b) (h' : c = d) : Ending.returned (.tuple #[.int k a, .bool c]) = .returned (.tuple #[.int k b, .bool d]) := by rw [h, h']
theorem ret_ii {k k' : IntKind} {a b c d : Int} (h : a = b) (h' : c = d) : Ending.returned (.tuple #[.int k a, .int k' c]) = .returned (.tuple #[.int k b, .int k' d]) := by rw [h, h']
theorem grown_trans {w1 w2 w3 : World} {r : Option Nat} (h : w1.grownBy w2 r) (h' : w2.grownBy w3 r) : w1.grownBy w3 r :=
  ⟨h'.os.trans h.os, h'.tape.trans h.tape, h'.output.trans h.output, Nat.le_trans h.size h'.size, fun k hk hne => (h'.block k (Nat.lt_of_lt_of_le hk h.size) hne).trans (h.block k hk hne)⟩
theorem grown_refl (w : World) (r : Option Nat) : w.grownBy w r := ⟨rfl, rfl, rfl, Nat.le_refl _, fun _ _ _ => rfl⟩
theorem grown_drewN (w : World) (r : Option Nat) (n : Nat) : w.grownBy (w.drewN n) r := ⟨rfl, rfl, rfl, Nat.le_refl _, fun _ _ _ => rfl⟩
theorem grown_cell {w w' : World} (g : w.grownBy w' none) {p : Addr} {v : Value} (h : w.cell? p = some v) : w'.cell? p = some v := g.cell h (by simp)
theorem grown_below {w w' : World} (g : Below w.heap.size w w') : w.grownBy w' none := ⟨g.os, g.tape, g.output, g.size, fun k hk _ => g.block k hk⟩
theorem below_grown {w w' : World} (g : w.grownBy w' none) : Below w.heap.size w w' := ⟨g.os, g.tape, g.output, g.size, fun k hk => g.block k hk (by simp)⟩

/-- The order of texts. -/
def leT (a b : ByteArray) : Bool := Op.bytesLess a.toList b.toList || a.toList == b.toList

def soonT : Option ByteArray → ByteArray → Bool
  | none, _ => false
  | some b, x => leT x b
def tagsE : Option ByteArray → List ByteArray → Int
  | _, [] => 0
  | b, x :: r => if nameB x = true then (if soonT b x = true then 10 else tagsE (some x) r) else 8

/-- An activity: its values, and where its lists lie. -/
structure Act where
  name : ByteArray
  sport : Int
  start : Int
  so : Option Addr
  sc : Nat
  ss : List Smp
  lo : Option Addr
  lc : Nat
  ls : List LapV
  to_ : Option Addr
  tc : Nat
  ts : List ByteArray
abbrev Act.val (a : Act) : Value := .agg #[.string a.name, .int .i64 a.sport, .int .i64 a.start, .slice a.so a.ss.length a.sc, .slice a.lo a.ls.length a.lc, .slice a.to_ a.ts.length a.tc]

def spanL : List Smp → Int
  | [] => 0
  | [x] => x.t
  | _ :: y :: r => spanL (y :: r)

def chkE (a : Act) : Int :=
  if nameB a.name = true then
    if 1 ≤ a.sport ∧ a.sport ≤ 5 then
      if 0 ≤ a.start ∧ a.start ≤ 86399999999 then
        if (a.ss.length : Int) ≤ 20000 ∧ (a.ls.length : Int) ≤ 200 ∧ (a.ts.length : Int) ≤ 20 then
          if smpsE a.start none a.ss = 0 then
            if lapsE (spanL a.ss) 0 a.ls = 0 then tagsE none a.ts else lapsE (spanL a.ss) 0 a.ls
          else smpsE a.start none a.ss
        else 3
      else 9
    else 7
  else 8

/-- Samples lie at an address. -/
structure SmpsAt (w : World) (ao : Option Addr) (l : List Smp) : Prop where
  nil : ao = none → l = []
  spot : ∀ a, ao = some a → l ≠ [] → a.spot = none
  cells : ∀ a, ao = some a → ∀ i (h : i < l.length), w.cell? ⟨a.block, a.off + i * 7, none⟩ = some (.int .i64 l[i].t) ∧ w.cell? ⟨a.block, a.off + i * 7 + 1, none⟩ = some (.int .i64 l[i].x) ∧ w.cell? ⟨a.block, a.off + i * 7 + 2, none⟩ = some (.int .i64 l[i].y) ∧ w.cell? ⟨a.block, a.off + i * 7 + 3, none⟩ = some (.int .i64 l[i].z) ∧ w.cell? ⟨a.block, a.off + i * 7 + 4, none⟩ = some (.int .i64 l[i].p) ∧ w.cell? ⟨a.block, a.off + i * 7 + 5, none⟩ = some (.int .i64 l[i].q) ∧ w.cell? ⟨a.block, a.off + i * 7 + 6, none⟩ = some (.int .i64 l[i].s)
/-- Laps lie at an address. -/
structure LapsAt (w : World) (ao : Option Addr) (l : List LapV) : Prop where
  nil : ao = none → l = []
  spot : ∀ a, ao = some a → l ≠ [] → a.spot = none
  cells : ∀ a, ao = some a → ∀ i (h : i < l.length), w.cell? ⟨a.block, a.off + i * 3, none⟩ = some (.int .i64 l[i].fr) ∧ w.cell? ⟨a.block, a.off + i * 3 + 1, none⟩ = some (.int .i64 l[i].to_) ∧ w.cell? ⟨a.block, a.off + i * 3 + 2, none⟩ = some (.string l[i].name)
  sizes : ∀ i (h : i < l.length), l[i].name.size ≤ 140737488355328
/-- Tags lie at an address. -/
structure TagsAt (w : World) (ao : Option Addr) (l : List ByteArray) : Prop where
  nil : ao = none → l = []
  spot : ∀ a, ao = some a → l ≠ [] → a.spot = none
  cells : ∀ a, ao = some a → ∀ i (h : i < l.length), w.cell? ⟨a.block, a.off + i, none⟩ = some (.string l[i])
  sizes : ∀ i (h : i < l.length), l[i].size ≤ 140737488355328

theorem SmpsAt.grown {w w' : World} {ao : Option Addr} {l : List Smp} (h : SmpsAt w ao l) (g : w.grownBy w' none) : SmpsAt w' ao l :=
  ⟨h.nil, h.spot, fun a ha i hi => by
    obtain ⟨h0, h1, h2, h3, h4, h5, h6⟩ := h.cells a ha i hi
    exact ⟨grown_cell g h0, grown_cell g h1, grown_cell g h2, grown_cell g h3, grown_cell g h4, grown_cell g h5, grown_cell g h6⟩⟩
theorem LapsAt.grown {w w' : World} {ao : Option Addr} {l : List LapV} (h : LapsAt w ao l) (g : w.grownBy w' none) : LapsAt w' ao l :=
  ⟨h.nil, h.spot, fun a ha i hi => by
    obtain ⟨h0, h1, h2⟩ := h.cells a ha i hi
    exact ⟨grown_cell g h0, grown_cell g h1, grown_cell g h2⟩, h.sizes⟩
theorem TagsAt.grown {w w' : World} {ao : Option Addr} {l : List ByteArray} (h : TagsAt w ao l) (g : w.grownBy w' none) : TagsAt w' ao l :=
  ⟨h.nil, h.spot, fun a ha i hi => grown_cell g (h.cells a ha i hi), h.sizes⟩

structure ActAt (w : World) (a : Act) : Prop where
  ns : a.name.size ≤ 140737488355328
  sl : (a.ss.length : Int) ≤ 9223372036854775807
  ll : (a.ls.length : Int) ≤ 9223372036854775807
  tl : (a.ts.length : Int) ≤ 9223372036854775807
  hs : SmpsAt w a.so a.ss
  hl : LapsAt w a.lo a.ls
  ht : TagsAt w a.to_ a.ts
theorem ActAt.grown {w w' : World} {a : Act} (h : ActAt w a) (g : w.grownBy w' none) : ActAt w' a :=
  ⟨h.ns, h.sl, h.ll, h.tl, h.hs.grown g, h.hl.grown g, h.ht.grown g⟩

end Go.Proofs.Ytgkhhfojioepgaa
namespace Go.Proofs.Ytgkhhfojioepgaa
open Go.RowKit
set_option linter.unusedSimpArgs false
set_option linter.unusedVariables false

def letC (c : Nat) : Bool := (decide (97 ≤ c) && decide (c ≤ 122)) || (decide (65 ≤ c) && decide (c ≤ 90))
def digC (c : Nat) : Bool := decide (48 ≤ c) && decide (c ≤ 57)
theorem byte_cases (n : Nat) (h : n < 256) : (okC n = true ∧ ((97 ≤ (n : Int) ∧ (n : Int) ≤ 122) ∨ (65 ≤ (n : Int) ∧ (n : Int) ≤ 90) ∨ (48 ≤ (n : Int) ∧ (n : Int) ≤ 57) ∨ (45 ≤ (n : Int) ∧ (n : Int) ≤ 45) ∨ (95 ≤ (n : Int) ∧ (n : Int) ≤ 95) ∨ (46 ≤ (n : Int) ∧ (n : Int) ≤ 46))) ∨
    (okC n = false ∧ ((0 ≤ (n : Int) ∧ (n : Int) ≤ 44) ∨ (47 ≤ (n : Int) ∧ (n : Int) ≤ 47) ∨ (58 ≤ (n : Int) ∧ (n : Int) ≤ 64) ∨ (91 ≤ (n : Int) ∧ (n : Int) ≤ 94) ∨ (96 ≤ (n : Int) ∧ (n : Int) ≤ 96) ∨ (123 ≤ (n : Int) ∧ (n : Int) ≤ 255))) := by
  by_cases ho : okC n = true
  · refine .inl ⟨ho, ?_⟩
    unfold okC at ho
    simp only [Bool.or_eq_true, Bool.and_eq_true, decide_eq_true_eq] at ho
    omega
  · refine .inr ⟨by simpa using ho, ?_⟩
    unfold okC at ho
    simp only [Bool.or_eq_true, Bool.and_eq_true, decide_eq_true_eq] at ho
    omega

theorem okC_parts (c : Nat) : okC c = (letC c || digC c || decide (c = 45) || decide (c = 95) || decide (c = 46)) := rfl

set_option maxHeartbeats 1600000 in
theorem letter_is (n : Nat) (hn : n < 256) (w : World) {b : Bool} (hb : Hid (letC n = b)) :
    Calls Try.prog 183 #[.int .u8 (n : Int)] w fun e w' => e = .returned (.bool b) ∧ w = w' := by
  rcases (show (0 ≤ (n : Int) ∧ (n : Int) ≤ 64) ∨ (65 ≤ (n : Int) ∧ (n : Int) ≤ 90) ∨ (91 ≤ (n : Int) ∧ (n : Int) ≤ 96) ∨ (97 ≤ (n : Int) ∧ (n : Int) ≤ 122) ∨ (123 ≤ (n : Int) ∧ (n : Int) ≤ 255) by omega) with hc | hc | hc | hc | hc
  · obtain ⟨c1, c2⟩ := hc
    have d97 : decide (97 ≤ (n : Int)) = false := by simp; omega
    have d122 : decide ((n : Int) ≤ 122) = true := by simp; omega
    have d65 : decide (65 ≤ (n : Int)) = false := by simp; omega
    have d90 : decide ((n : Int) ≤ 90) = true := by simp; omega
    have HV : Hid (b = false) := by show _ = _; rw [← hb.out]; unfold letC; simp; omega
    clear c1 c2
    go_enter Try.func183, Try.ntmps183
    go_wp2
    go_ret
    exact ⟨ret_bool HV.out.symm, rfl⟩
  · obtain ⟨c1, c2⟩ := hc
    have d97 : decide (97 ≤ (n : Int)) = false := by simp; omega
    have d122 : decide ((n : Int) ≤ 122) = true := by simp; omega
    have d65 : decide (65 ≤ (n : Int)) = true := by simp; omega
    have d90 : decide ((n : Int) ≤ 90) = true := by simp; omega
    have HV : Hid (b = true) := by show _ = _; rw [← hb.out]; unfold letC; simp; omega
    clear c1 c2
    go_enter Try.func183, Try.ntmps183
    go_wp2
    go_ret
    exact ⟨ret_bool HV.out.symm, rfl⟩
  · obtain ⟨c1, c2⟩ := hc
    have d97 : decide (97 ≤ (n : Int)) = false := by simp; omega
    have d122 : decide ((n : Int) ≤ 122) = true := by simp; omega
    have d65 : decide (65 ≤ (n : Int)) = true := by simp; omega
    have d90 : decide ((n : Int) ≤ 90) = false := by simp; omega
    have HV : Hid (b = false) := by show _ = _; rw [← hb.out]; unfold letC; simp; omega
    clear c1 c2
    go_enter Try.func183, Try.ntmps183
    go_wp2
    go_ret
    exact ⟨ret_bool HV.out.symm, rfl⟩
  · obtain ⟨c1, c2⟩ := hc
    have d97 : decide (97 ≤ (n : Int)) = true := by simp; omega
    have d122 : decide ((n : Int) ≤ 122) = true := by simp; omega
    have d65 : decide (65 ≤ (n : Int)) = true := by simp; omega
    have d90 : decide ((n : Int) ≤ 90) = false := by simp; omega
    have HV : Hid (b = true) := by show _ = _; rw [← hb.out]; unfold letC; simp; omega
    clear c1 c2
    go_enter Try.func183, Try.ntmps183
    go_wp2
    go_ret
    exact ⟨ret_bool HV.out.symm, rfl⟩
  · obtain ⟨c1, c2⟩ := hc
    have d97 : decide (97 ≤ (n : Int)) = true := by simp; omega
    have d122 : decide ((n : Int) ≤ 122) = false := by simp; omega
    have d65 : decide (65 ≤ (n : Int)) = true := by simp; omega
    have d90 : decide ((n : Int) ≤ 90) = false := by simp; omega
    have HV : Hid (b = false) := by show _ = _; rw [← hb.out]; unfold letC; simp; omega
    clear c1 c2
    go_enter Try.func183, Try.ntmps183
    go_wp2
    go_ret
    exact ⟨ret_bool HV.out.symm, rfl⟩

set_option maxHeartbeats 1600000 in
theorem digit_is (n : Nat) (hn : n < 256) (w : World) {b : Bool} (hb : Hid (digC n = b)) :
    Calls Try.prog 184 #[.int .u8 (n : Int)] w fun e w' => e = .returned (.bool b) ∧ w = w' := by
  rcases (show (0 ≤ (n : Int) ∧ (n : Int) ≤ 47) ∨ (48 ≤ (n : Int) ∧ (n : Int) ≤ 57) ∨ (58 ≤ (n : Int) ∧ (n : Int) ≤ 255) by omega) with hc | hc | hc
  · obtain ⟨c1, c2⟩ := hc
    have d48 : decide (48 ≤ (n : Int)) = false := by simp; omega
    have d57 : decide ((n : Int) ≤ 57) = true := by simp; omega
    have HV : Hid (b = false) := by show _ = _; rw [← hb.out]; unfold digC; simp; omega
    clear c1 c2
    go_enter Try.func184, Try.ntmps184
    go_wp2
    go_ret
    exact ⟨ret_bool HV.out.symm, rfl⟩
  · obtain ⟨c1, c2⟩ := hc
    have d48 : decide (48 ≤ (n : Int)) = true := by simp; omega
    have d57 : decide ((n : Int) ≤ 57) = true := by simp; omega
    have HV : Hid (b = true) := by show _ = _; rw [← hb.out]; unfold digC; simp; omega
    clear c1 c2
    go_enter Try.func184, Try.ntmps184
    go_wp2
    go_ret
    exact ⟨ret_bool HV.out.symm, rfl⟩
  · obtain ⟨c1, c2⟩ := hc
    have d48 : decide (48 ≤ (n : Int)) = true := by simp; omega
    have d57 : decide ((n : Int) ≤ 57) = false := by simp; omega
    have HV : Hid (b = false) := by show _ = _; rw [← hb.out]; unfold digC; simp; omega
    clear c1 c2
    go_enter Try.func184, Try.ntmps184
    go_wp2
    go_ret
    exact ⟨ret_bool HV.out.symm, rfl⟩

set_option maxHeartbeats 1600000 in
theorem nameByte_is (n : Nat) (hn : n < 256) (w : World) {b : Bool} (hb : Hid (okC n = b)) :
    Calls Try.prog 156 #[.int .u8 (n : Int)] w fun e w' => e = .returned (.bool b) ∧ w = w' := by
  obtain ⟨L, hL⟩ : ∃ L, letC n = L := ⟨_, rfl⟩
  obtain ⟨D, hD⟩ : ∃ D, digC n = D := ⟨_, rfl⟩
  have hb2 := hb.out
  rw [okC_parts, hL, hD] at hb2
  have HL := Lib.hid hL; have HD := Lib.hid hD
  clear hL hD hb
  cases L with
  | true =>
    have HV : Hid (b = true) := by show _ = _; rw [← hb2]; simp
    clear hb2
    go_enter Try.func156, Try.ntmps156
    go_wp2_with (first | (go_at_call 183; refine (letter_is _ hn _ HL).mono ?_; rintro e w1 ⟨rfl, rfl⟩) | (go_at_call 184; refine (digit_is _ hn _ HD).mono ?_; rintro e w1 ⟨rfl, rfl⟩))
    go_ret
    exact ⟨ret_bool HV.out.symm, rfl⟩
  | false =>
    cases D with
    | true =>
      have HV : Hid (b = true) := by show _ = _; rw [← hb2]; simp
      clear hb2
      go_enter Try.func156, Try.ntmps156
      go_wp2_with (first | (go_at_call 183; refine (letter_is _ hn _ HL).mono ?_; rintro e w1 ⟨rfl, rfl⟩) | (go_at_call 184; refine (digit_is _ hn _ HD).mono ?_; rintro e w1 ⟨rfl, rfl⟩))
      go_ret
      exact ⟨ret_bool HV.out.symm, rfl⟩
    | false =>
      by_cases e1 : n = 45
      · have m45 : ((n : Int) == 45) = true := by simp; omega
        have m95 : ((n : Int) == 95) = false := by simp; omega
        have m46 : ((n : Int) == 46) = false := by simp; omega
        have HV : Hid (b = true) := by show _ = _; rw [← hb2]; simp; try omega
        clear hb2
        clear e1
        go_enter Try.func156, Try.ntmps156
        go_wp2_with (first | (go_at_call 183; refine (letter_is _ hn _ HL).mono ?_; rintro e w1 ⟨rfl, rfl⟩) | (go_at_call 184; refine (digit_is _ hn _ HD).mono ?_; rintro e w1 ⟨rfl, rfl⟩))
        go_ret
        exact ⟨ret_bool HV.out.symm, rfl⟩
      · by_cases e2 : n = 95
        · have m45 : ((n : Int) == 45) = false := by simp; omega
          have m95 : ((n : Int) == 95) = true := by simp; omega
          have m46 : ((n : Int) == 46) = false := by simp; omega
          have HV : Hid (b = true) := by show _ = _; rw [← hb2]; simp; try omega
          clear hb2
          clear e1 e2
          go_enter Try.func156, Try.ntmps156
          go_wp2_with (first | (go_at_call 183; refine (letter_is _ hn _ HL).mono ?_; rintro e w1 ⟨rfl, rfl⟩) | (go_at_call 184; refine (digit_is _ hn _ HD).mono ?_; rintro e w1 ⟨rfl, rfl⟩))
          go_ret
          exact ⟨ret_bool HV.out.symm, rfl⟩
        · by_cases e3 : n = 46
          · have m45 : ((n : Int) == 45) = false := by simp; omega
            have m95 : ((n : Int) == 95) = false := by simp; omega
            have m46 : ((n : Int) == 46) = true := by simp; omega
            have HV : Hid (b = true) := by show _ = _; rw [← hb2]; simp; try omega
            clear hb2
            clear e1 e2 e3
            go_enter Try.func156, Try.ntmps156
            go_wp2_with (first | (go_at_call 183; refine (letter_is _ hn _ HL).mono ?_; rintro e w1 ⟨rfl, rfl⟩) | (go_at_call 184; refine (digit_is _ hn _ HD).mono ?_; rintro e w1 ⟨rfl, rfl⟩))
            go_ret
            exact ⟨ret_bool HV.out.symm, rfl⟩
          · have m45 : ((n : Int) == 45) = false := by simp; omega
            have m95 : ((n : Int) == 95) = false := by simp; omega
            have m46 : ((n : Int) == 46) = false := by simp; omega
            have HV : Hid (b = false) := by show _ = _; rw [← hb2]; simp; try omega
            clear hb2
            clear e1 e2 e3
            go_enter Try.func156, Try.ntmps156
            go_wp2_with (first | (go_at_call 183; refine (letter_is _ hn _ HL).mono ?_; rintro e w1 ⟨rfl, rfl⟩) | (go_at_call 184; refine (digit_is _ hn _ HD).mono ?_; rintro e w1 ⟨rfl, rfl⟩))
            go_ret
            exact ⟨ret_bool HV.out.symm, rfl⟩

set_option maxHeartbeats 1600000 in
theorem isName_is (s : ByteArray) (hs : s.size ≤ 140737488355328) (w : World) {b : Bool} (hb : Hid (nameB s = b)) :
    Calls Try.prog 114 #[.string s] w fun e w' => e = .returned (.bool b) ∧ w = w' := by
  have hs2 : (s.size : Int) ≤ 140737488355328 := by omega
  by_cases h1 : (s.size : Int) < 1
  · have HV : Hid (b = false) := by show _ = _; rw [← hb.out]; exact name_short (.inl (by omega))
    go_enter Try.func114, Try.ntmps114
    go_wp2
    go_ret
    exact ⟨ret_bool HV.out.symm, rfl⟩
  by_cases h2 : 60 < (s.size : Int)
  · have HV : Hid (b = false) := by show _ = _; rw [← hb.out]; exact name_short (.inr (by omega))
    go_enter Try.func114, Try.ntmps114
    go_wp2
    go_ret
    exact ⟨ret_bool HV.out.symm, rfl⟩
  go_enter Try.func114, Try.ntmps114
  go_wp2
  go_loopw [14] (fun iv wr => ∃ k : Nat, k ≤ s.size ∧ iv = .int .i64 k ∧ w = wr ∧ Hid (∀ j (h : j < s.size), j < k → okC s[j].toNat = true)) (fun iv _ => s.size - (intOf iv).toNat)
  case atStart => exact ⟨0, Nat.zero_le _, rfl, rfl, fun j _ h => absurd h (by omega)⟩
  case round =>
    obtain ⟨k, hk, rfl, rfl, hinv⟩ := hrel
    by_cases hlt : k < s.size
    · have hn : s[k].toNat < 256 := s[k].toNat_lt
      obtain ⟨B, hB⟩ : ∃ B, okC s[k].toNat = B := ⟨_, rfl⟩
      cases B with
      | true =>
        have HI : Hid (∀ j (h : j < s.size), j < k + 1 → okC s[j].toNat = true) := fun j hj hlt => by
          by_cases e : j = k
          · subst e; exact hB
          · exact hinv.out j hj (by omega)
        have HB := Lib.hid hB
        clear hB hinv
        go_wp2_with (go_at_call 156; refine (nameByte_is _ hn _ HB).mono ?_; rintro e w1 ⟨rfl, rfl⟩)
        go_roundw
        case rel => exact ⟨k + 1, by omega, by go_num, by first | rfl | trivial, HI⟩
        case measure => simp [intOf]; omega
      | false =>
        have HV : Hid (b = false) := by show _ = _; rw [← hb.out]; exact name_bad hlt hB
        have HB := Lib.hid hB
        clear hB hinv
        go_wp2_with (go_at_call 156; refine (nameByte_is _ hn _ HB).mono ?_; rintro e w1 ⟨rfl, rfl⟩)
        go_ret
        exact ⟨ret_bool HV.out.symm, rfl⟩
    · have HV : Hid (b = true) := by show _ = _; rw [← hb.out]; exact name_good (by omega) (by omega) (fun j hj => hinv.out j hj (by omega))
      go_wp2
      go_ret
      exact ⟨ret_bool HV.out.symm, rfl⟩

end Go.Proofs.Ytgkhhfojioepgaa
namespace Go.Proofs.Ytgkhhfojioepgaa
open Go.RowKit
set_option linter.unusedSimpArgs false
set_option linter.unusedVariables false

theorem within_yes (n lo hi : Int) (h0 : lo ≤ n) (h1 : n ≤ hi) (w : World) : Calls Try.prog 185 #[.int .i64 n, .int .i64 lo, .int .i64 hi] w fun e w' => e = .returned (.bool true) ∧ w = w' := by
  go_enter Try.func185, Try.ntmps185
  go_wp2
  go_ret
  exact ⟨ret_bool (by first | rfl | (simp; omega)), rfl⟩
theorem within_no (n lo hi : Int) (h : n < lo ∨ hi < n) (w : World) : Calls Try.prog 185 #[.int .i64 n, .int .i64 lo, .int .i64 hi] w fun e w' => e = .returned (.bool false) ∧ w = w' := by
  by_cases h0 : n < lo
  · have h2 : decide (lo ≤ n) = false := by simp; omega
    clear h
    go_enter Try.func185, Try.ntmps185
    go_wp2
    go_ret
    exact ⟨ret_bool (by first | rfl | (simp; omega)), rfl⟩
  · have h1 : lo ≤ n := by omega
    have h2 : decide (n ≤ hi) = false := by simp; omega
    clear h
    go_enter Try.func185, Try.ntmps185
    go_wp2
    go_ret
    exact ⟨ret_bool (by first | rfl | (simp; omega)), rfl⟩

theorem isPlaced_yes (x : Smp) (h1 : -100000000 ≤ x.x ∧ x.x ≤ 100000000) (h2 : -100000000 ≤ x.y ∧ x.y ≤ 100000000) (h3 : -100000 ≤ x.z ∧ x.z ≤ 100000) (w : World) :
    Calls Try.prog 157 #[.agg #[.int .i64 x.t, .int .i64 x.x, .int .i64 x.y, .int .i64 x.z, .int .i64 x.p, .int .i64 x.q, .int .i64 x.s]] w fun e w' => e = .returned (.bool true) ∧ w.grownBy w' none := by
  obtain ⟨t, x, y, z, p, q, s⟩ := x
  simp only at h1 h2 h3 ⊢
  have H1 := Lib.hid h1; have H2 := Lib.hid h2; have H3 := Lib.hid h3; clear h1 h2 h3
  go_enter Try.func157, Try.ntmps157
  go_wp2_with fail
  refine (within_yes _ _ _ H1.out.1 H1.out.2 _).mono ?_; rintro e w1 ⟨rfl, rfl⟩
  go_wp2_with fail
  refine (within_yes _ _ _ H2.out.1 H2.out.2 _).mono ?_; rintro e w1 ⟨rfl, rfl⟩
  go_wp2_with fail
  refine (within_yes _ _ _ H3.out.1 H3.out.2 _).mono ?_; rintro e w1 ⟨rfl, rfl⟩
  go_wp2_with fail
  go_ret
  exact ⟨rfl, World.grownBy_alloc _ _ _⟩
theorem isPlaced_no (x : Smp) (h : ¬ ((-100000000 ≤ x.x ∧ x.x ≤ 100000000) ∧ (-100000000 ≤ x.y ∧ x.y ≤ 100000000) ∧ (-100000 ≤ x.z ∧ x.z ≤ 100000))) (w : World) :
    Calls Try.prog 157 #[.agg #[.int .i64 x.t, .int .i64 x.x, .int .i64 x.y, .int .i64 x.z, .int .i64 x.p, .int .i64 x.q, .int .i64 x.s]] w fun e w' => e = .returned (.bool false) ∧ w.grownBy w' none := by
  obtain ⟨t, x, y, z, p, q, s⟩ := x
  simp only at h ⊢
  by_cases h1 : -100000000 ≤ x ∧ x ≤ 100000000
  · by_cases h2 : -100000000 ≤ y ∧ y ≤ 100000000
    · have h3 : z < -100000 ∨ 100000 < z := by omega
      have H1 := Lib.hid h1; have H2 := Lib.hid h2; have H3 := Lib.hid h3; clear h h1 h2 h3
      go_enter Try.func157, Try.ntmps157
      go_wp2_with fail
      refine (within_yes _ _ _ H1.out.1 H1.out.2 _).mono ?_; rintro e w1 ⟨rfl, rfl⟩
      go_wp2_with fail
      refine (within_yes _ _ _ H2.out.1 H2.out.2 _).mono ?_; rintro e w1 ⟨rfl, rfl⟩
      go_wp2_with fail
      refine (within_no _ _ _ H3.out _).mono ?_; rintro e w1 ⟨rfl, rfl⟩
      go_wp2_with fail
      go_ret
      exact ⟨rfl, World.grownBy_alloc _ _ _⟩
    · have h3 : y < -100000000 ∨ 100000000 < y := by omega
      have H1 := Lib.hid h1; have H3 := Lib.hid h3; clear h h1 h2 h3
      go_enter Try.func157, Try.ntmps157
      go_wp2_with fail
      refine (within_yes _ _ _ H1.out.1 H1.out.2 _).mono ?_; rintro e w1 ⟨rfl, rfl⟩
      go_wp2_with fail
      refine (within_no _ _ _ H3.out _).mono ?_; rintro e w1 ⟨rfl, rfl⟩
      go_wp2_with fail
      go_ret
      exact ⟨rfl, World.grownBy_alloc _ _ _⟩
  · have h3 : x < -100000000 ∨ 100000000 < x := by omega
    have H3 := Lib.hid h3; clear h h1 h3
    go_enter Try.func157, Try.ntmps157
    go_wp2_with fail
    refine (within_no _ _ _ H3.out _).mono ?_; rintro e w1 ⟨rfl, rfl⟩
    go_wp2_with fail
    go_ret
    exact ⟨rfl, World.grownBy_alloc _ _ _⟩
theorem isMeasured_yes (x : Smp) (h1 : -1 ≤ x.p ∧ x.p ≤ 300) (h2 : -1 ≤ x.q ∧ x.q ≤ 3000) (h3 : -1 ≤ x.s ∧ x.s ≤ 300) (w : World) :
    Calls Try.prog 158 #[.agg #[.int .i64 x.t, .int .i64 x.x, .int .i64 x.y, .int .i64 x.z, .int .i64 x.p, .int .i64 x.q, .int .i64 x.s]] w fun e w' => e = .returned (.bool true) ∧ w.grownBy w' none := by
  obtain ⟨t, x, y, z, p, q, s⟩ := x
  simp only at h1 h2 h3 ⊢
  have H1 := Lib.hid h1; have H2 := Lib.hid h2; have H3 := Lib.hid h3; clear h1 h2 h3
  go_enter Try.func158, Try.ntmps158
  go_wp2_with fail
  refine (within_yes _ _ _ H1.out.1 H1.out.2 _).mono ?_; rintro e w1 ⟨rfl, rfl⟩
  go_wp2_with fail
  refine (within_yes _ _ _ H2.out.1 H2.out.2 _).mono ?_; rintro e w1 ⟨rfl, rfl⟩
  go_wp2_with fail
  refine (within_yes _ _ _ H3.out.1 H3.out.2 _).mono ?_; rintro e w1 ⟨rfl, rfl⟩
  go_wp2_with fail
  go_ret
  exact ⟨rfl, World.grownBy_alloc _ _ _⟩
theorem isMeasured_no (x : Smp) (h : ¬ ((-1 ≤ x.p ∧ x.p ≤ 300) ∧ (-1 ≤ x.q ∧ x.q ≤ 3000) ∧ (-1 ≤ x.s ∧ x.s ≤ 300))) (w : World) :
    Calls Try.prog 158 #[.agg #[.int .i64 x.t, .int .i64 x.x, .int .i64 x.y, .int .i64 x.z, .int .i64 x.p, .int .i64 x.q, .int .i64 x.s]] w fun e w' => e = .returned (.bool false) ∧ w.grownBy w' none := by
  obtain ⟨t, x, y, z, p, q, s⟩ := x
  simp only at h ⊢
  by_cases h1 : -1 ≤ p ∧ p ≤ 300
  · by_cases h2 : -1 ≤ q ∧ q ≤ 3000
    · have h3 : s < -1 ∨ 300 < s := by omega
      have H1 := Lib.hid h1; have H2 := Lib.hid h2; have H3 := Lib.hid h3; clear h h1 h2 h3
      go_enter Try.func158, Try.ntmps158
      go_wp2_with fail
      refine (within_yes _ _ _ H1.out.1 H1.out.2 _).mono ?_; rintro e w1 ⟨rfl, rfl⟩
      go_wp2_with fail
      refine (within_yes _ _ _ H2.out.1 H2.out.2 _).mono ?_; rintro e w1 ⟨rfl, rfl⟩
      go_wp2_with fail
      refine (within_no _ _ _ H3.out _).mono ?_; rintro e w1 ⟨rfl, rfl⟩
      go_wp2_with fail
      go_ret
      exact ⟨rfl, World.grownBy_alloc _ _ _⟩
    · have h3 : q < -1 ∨ 3000 < q := by omega
      have H1 := Lib.hid h1; have H3 := Lib.hid h3; clear h h1 h2 h3
      go_enter Try.func158, Try.ntmps158
      go_wp2_with fail
      refine (within_yes _ _ _ H1.out.1 H1.out.2 _).mono ?_; rintro e w1 ⟨rfl, rfl⟩
      go_wp2_with fail
      refine (within_no _ _ _ H3.out _).mono ?_; rintro e w1 ⟨rfl, rfl⟩
      go_wp2_with fail
      go_ret
      exact ⟨rfl, World.grownBy_alloc _ _ _⟩
  · have h3 : p < -1 ∨ 300 < p := by omega
    have H3 := Lib.hid h3; clear h h1 h3
    go_enter Try.func158, Try.ntmps158
    go_wp2_with fail
    refine (within_no _ _ _ H3.out _).mono ?_; rintro e w1 ⟨rfl, rfl⟩
    go_wp2_with fail
    go_ret
    exact ⟨rfl, World.grownBy_alloc _ _ _⟩

set_option maxHeartbeats 800000 in
theorem isLapName_is (s : ByteArray) (hs : s.size ≤ 140737488355328) (w : World) {b : Bool} (hb : Hid (lapNameB s = b)) :
    Calls Try.prog 159 #[.string s] w fun e w' => e = .returned (.bool b) ∧ w = w' := by
  have hs2 : (s.size : Int) ≤ 140737488355328 := by omega
  by_cases h2 : 60 < (s.size : Int)
  · have HV : Hid (b = false) := by show _ = _; rw [← hb.out]; exact lapName_long (by omega)
    go_enter Try.func159, Try.ntmps159
    go_wp2
    go_ret
    exact ⟨ret_bool HV.out.symm, rfl⟩
  go_enter Try.func159, Try.ntmps159
  go_wp2
  go_loop [9] (fun iv => ∃ k : Nat, k ≤ s.size ∧ iv = .int .i64 k ∧ Hid (∀ j (h : j < s.size), j < k → lapC s[j].toNat = true)) (fun iv => s.size - (intOf iv).toNat)
  case atStart => exact ⟨0, Nat.zero_le _, rfl, fun j _ h => absurd h (by omega)⟩
  case round =>
    obtain ⟨k, hk, rfl, hinv⟩ := hrel
    by_cases hlt : k < s.size
    · by_cases hc1 : (s[k].toNat : Int) < 32
      · have HV : Hid (b = false) := by
          show _ = _; rw [← hb.out]; refine lapName_bad hlt ?_
          unfold lapC; rw [decide_eq_false (by omega)]; rfl
        go_wp2
        go_ret
        exact ⟨ret_bool HV.out.symm, rfl⟩
      · by_cases hc2 : 126 < (s[k].toNat : Int)
        · have HV : Hid (b = false) := by
            show _ = _; rw [← hb.out]; refine lapName_bad hlt ?_
            unfold lapC; rw [decide_eq_false (p := s[k].toNat ≤ 126) (by omega)]; simp
          go_wp2
          go_ret
          exact ⟨ret_bool HV.out.symm, rfl⟩
        · have HI : Hid (∀ j (h : j < s.size), j < k + 1 → lapC s[j].toNat = true) := fun j hj hlt => by
            by_cases e : j = k
            · subst e; unfold lapC; rw [decide_eq_true (by omega), decide_eq_true (by omega)]; rfl
            · exact hinv.out j hj (by omega)
          go_wp2
          go_round
          case rel => exact ⟨k + 1, by omega, by go_num, HI⟩
          case measure => simp [intOf]; omega
    · have HV : Hid (b = true) := by show _ = _; rw [← hb.out]; exact lapName_good (by omega) (fun j hj => hinv.out j hj (by omega))
      go_wp2
      go_ret
      exact ⟨ret_bool HV.out.symm, rfl⟩

end Go.Proofs.Ytgkhhfojioepgaa
namespace Go.Proofs.Ytgkhhfojioepgaa
open Go.RowKit
set_option linter.unusedSimpArgs false
set_option linter.unusedVariables false

/-- The time of the sample before. -/
def prevT (l : List Smp) : Nat → Option Int
  | 0 => none
  | k + 1 => (l[k]?).map Smp.t

theorem prevT_succ (l : List Smp) (k : Nat) : prevT l (k + 1) = (l[k]?).map Smp.t := rfl
theorem smpsE_end {st : Int} {b : Option Int} {l : List Smp} {k : Nat} (h : l.length ≤ k) : smpsE st b (l.drop k) = 0 := by
  rw [List.drop_eq_nil_of_le h]; rfl
theorem smpsE_early {st : Int} {b : Option Int} {l : List Smp} {k : Nat} (h : k < l.length) (he : early b l[k].t) : smpsE st b (l.drop k) = 10 := by
  rw [List.drop_eq_getElem_cons h, smpsE, if_pos he]
theorem smpsE_out {st : Int} {b : Option Int} {l : List Smp} {k : Nat} (h : k < l.length) (he : ¬ early b l[k].t) (hi : ¬ smpIn st l[k]) : smpsE st b (l.drop k) = 9 := by
  rw [List.drop_eq_getElem_cons h, smpsE, if_neg he, if_neg hi]
theorem smpsE_next {st : Int} {l : List Smp} {k : Nat} {b : Option Int} (h : k < l.length) (he : ¬ early b l[k].t) (hi : smpIn st l[k]) : smpsE st b (l.drop k) = smpsE st (prevT l (k + 1)) (l.drop (k + 1)) := by
  rw [List.drop_eq_getElem_cons h, smpsE, if_neg he, if_pos hi]
  rw [prevT_succ, List.getElem?_eq_getElem h]; rfl

set_option maxRecDepth 100000 in
set_option maxHeartbeats 3200000 in
theorem chkSamples_some (start : Int) (h0 : 0 ≤ start) (h1 : start ≤ 86399999999) (b off cap : Nat) (ss : List Smp) (hl : (ss.length : Int) ≤ 9223372036854775807) (w : World) (hs : SmpsAt w (some ⟨b, off, none⟩) ss) {E : Int} (hE : Hid (smpsE start none ss = E)) :
    Calls Try.prog 115 #[.int .i64 start, .slice (some ⟨b, off, none⟩) ss.length cap] w fun e w' => e = .returned (.int .i64 E) ∧ w.grownBy w' none := by
  have HS := Lib.hid hs; clear hs
  go_enter Try.func115, Try.ntmps115
  go_wp2
  go_loopw [9] (fun iv wr => ∃ k : Nat, k ≤ ss.length ∧ iv = .int .i64 k ∧ w.grownBy wr none ∧ Hid (smpsE start (prevT ss k) (ss.drop k) = E) ∧ Hid (∀ p, prevT ss k = some p → 0 ≤ p))
    (fun iv _ => ss.length - (intOf iv).toNat)
  case atStart => exact ⟨0, Nat.zero_le _, rfl, grown_refl _ _, by show _ = _; rw [← hE.out]; rfl, fun p h => by simp [prevT] at h⟩
  case round =>
    obtain ⟨k, hk, rfl, hg, hw, hp⟩ := hrel
    by_cases hlt : k < ss.length
    · obtain ⟨c0, c1, c2, c3, c4, c5, c6⟩ := HS.out.cells _ rfl k hlt
      replace c0 := grown_cell hg c0; replace c1 := grown_cell hg c1; replace c2 := grown_cell hg c2; replace c3 := grown_cell hg c3
      replace c4 := grown_cell hg c4; replace c5 := grown_cell hg c5; replace c6 := grown_cell hg c6
      simp only at c0 c1 c2 c3 c4 c5 c6
      -- what is to be shown of the rest, for whatever stands at k
      have RE : early (prevT ss k) ss[k].t → Hid (E = 10) := fun h => by show _ = _; rw [← hw.out]; exact smpsE_early hlt h
      have RO : ¬ early (prevT ss k) ss[k].t → ¬ smpIn start ss[k] → Hid (E = 9) := fun h h' => by show _ = _; rw [← hw.out]; exact smpsE_out hlt h h'
      have RN : ¬ early (prevT ss k) ss[k].t → smpIn start ss[k] → Hid (smpsE start (prevT ss (k + 1)) (ss.drop (k + 1)) = E) := fun h h' => by show _ = _; rw [← hw.out]; exact (smpsE_next hlt h h').symm
      have RP : Hid (∀ p, prevT ss (k + 1) = some p → p = ss[k].t) := fun p h => by
        rw [prevT_succ, List.getElem?_eq_getElem hlt] at h; simpa using h.symm
      generalize ss[k] = x at *
      obtain ⟨t, px, py, pz, pp, pq, ps⟩ := x
      simp only at c0 c1 c2 c3 c4 c5 c6 RE RO RN RP
      have HWR := Lib.hid hg; have HLT := Lib.hid hlt
      by_cases hk0 : k = 0
      · have e0 : ((k : Int) == 0) = true := by simp; omega
        have e2 : decide (0 < (k : Int)) = false := by simp; omega
        have e3 : decide (0 < k) = false := by simp; omega
        have hpk : Hid (prevT ss k = none) := by subst hk0; exact rfl
        have HK := Lib.hid hk0
        clear hk0
        by_cases ht : t = 0
        · have e1 : (t != 0) = false := by simpa using ht
          have tl0 : 0 ≤ t := by omega
          have tl1 : t ≤ 0 := by omega
          have NE : Hid (¬ early (prevT ss k) t) := by show ¬ _; rw [hpk.out]; unfold early; simpa using ht
          clear ht
          have ta : ¬ 1000000 < t := by omega
          have tb : ¬ 86399999999 < start + t := by omega
          by_cases tc : (-100000000 ≤ px ∧ px ≤ 100000000) ∧ (-100000000 ≤ py ∧ py ≤ 100000000) ∧ (-100000 ≤ pz ∧ pz ≤ 100000)
          · by_cases td : (-1 ≤ pp ∧ pp ≤ 300) ∧ (-1 ≤ pq ∧ pq ≤ 3000) ∧ (-1 ≤ ps ∧ ps ≤ 300)
            · have HE := RN NE.out (by unfold smpIn; simp only; omega)
              have HC := Lib.hid tc; have HD := Lib.hid td
              have HP : Hid (∀ p, prevT ss (k + 1) = some p → 0 ≤ p) := fun p h => by rw [RP.out p h]; exact tl0
              clear RE RO RN RP tc td
              go_wp2_with fail
              go_quiet (fail)
              clear e0 e2
              go_wp2_with fail
              refine (isPlaced_yes ⟨t, px, py, pz, pp, pq, ps⟩ HC.out.1 HC.out.2.1 HC.out.2.2 _).mono ?_; rintro e w1 ⟨rfl, hg1⟩
              have b0 : w1.cell? ⟨wr.heap.size, 0, none⟩ = some (.int .i64 t) := grown_cell hg1 (by simp)
              have b1 : w1.cell? ⟨wr.heap.size, 1, none⟩ = some (.int .i64 px) := grown_cell hg1 (by simp)
              have b2 : w1.cell? ⟨wr.heap.size, 2, none⟩ = some (.int .i64 py) := grown_cell hg1 (by simp)
              have b3 : w1.cell? ⟨wr.heap.size, 3, none⟩ = some (.int .i64 pz) := grown_cell hg1 (by simp)
              have b4 : w1.cell? ⟨wr.heap.size, 4, none⟩ = some (.int .i64 pp) := grown_cell hg1 (by simp)
              have b5 : w1.cell? ⟨wr.heap.size, 5, none⟩ = some (.int .i64 pq) := grown_cell hg1 (by simp)
              have b6 : w1.cell? ⟨wr.heap.size, 6, none⟩ = some (.int .i64 ps) := grown_cell hg1 (by simp)
              go_wp2_with fail
              refine (isMeasured_yes ⟨t, px, py, pz, pp, pq, ps⟩ HD.out.1 HD.out.2.1 HD.out.2.2 _).mono ?_; rintro e w2 ⟨rfl, hg2⟩
              have G := grown_trans (grown_trans hg (grown_trans (World.grownBy_alloc _ _ _) (grown_drewN _ _ _))) (grown_trans hg1 hg2)
              clear b0 b1 b2 b3 b4 b5 b6 hg1 hg2
              go_wp2_with fail
              go_roundw
              case rel => exact ⟨k + 1, by have := HLT.out; omega, by go_num, G, HE, HP⟩
              case measure => have := HLT.out; simp [intOf]; omega
            · have HE := RO NE.out (by unfold smpIn; simp only; omega)
              have HC := Lib.hid tc; have HD := Lib.hid td
              clear RE RO RN RP tc td
              go_wp2_with fail
              go_quiet (fail)
              clear e0 e2
              go_wp2_with fail
              refine (isPlaced_yes ⟨t, px, py, pz, pp, pq, ps⟩ HC.out.1 HC.out.2.1 HC.out.2.2 _).mono ?_; rintro e w1 ⟨rfl, hg1⟩
              have b0 : w1.cell? ⟨wr.heap.size, 0, none⟩ = some (.int .i64 t) := grown_cell hg1 (by simp)
              have b1 : w1.cell? ⟨wr.heap.size, 1, none⟩ = some (.int .i64 px) := grown_cell hg1 (by simp)
              have b2 : w1.cell? ⟨wr.heap.size, 2, none⟩ = some (.int .i64 py) := grown_cell hg1 (by simp)
              have b3 : w1.cell? ⟨wr.heap.size, 3, none⟩ = some (.int .i64 pz) := grown_cell hg1 (by simp)
              have b4 : w1.cell? ⟨wr.heap.size, 4, none⟩ = some (.int .i64 pp) := grown_cell hg1 (by simp)
              have b5 : w1.cell? ⟨wr.heap.size, 5, none⟩ = some (.int .i64 pq) := grown_cell hg1 (by simp)
              have b6 : w1.cell? ⟨wr.heap.size, 6, none⟩ = some (.int .i64 ps) := grown_cell hg1 (by simp)
              go_wp2_with fail
              refine (isMeasured_no ⟨t, px, py, pz, pp, pq, ps⟩ HD.out _).mono ?_; rintro e w2 ⟨rfl, hg2⟩
              have G := grown_trans (grown_trans hg (grown_trans (World.grownBy_alloc _ _ _) (grown_drewN _ _ _))) (grown_trans hg1 hg2)
              clear b0 b1 b2 b3 b4 b5 b6 hg1 hg2
              go_wp2_with fail
              go_ret
              exact ⟨ret_int HE.out.symm, G⟩
          · have HE := RO NE.out (by unfold smpIn; simp only; omega)
            have HC := Lib.hid tc
            clear RE RO RN RP tc
            go_wp2_with fail
            go_quiet (fail)
            clear e0 e2
            go_wp2_with fail
            refine (isPlaced_no ⟨t, px, py, pz, pp, pq, ps⟩ HC.out _).mono ?_; rintro e w1 ⟨rfl, hg1⟩
            have G := grown_trans (grown_trans hg (grown_trans (World.grownBy_alloc _ _ _) (grown_drewN _ _ _))) hg1
            clear hg1
            go_wp2_with fail
            go_ret
            exact ⟨ret_int HE.out.symm, G⟩
        · have e1 : (t != 0) = true := by simpa using ht
          have HE := RE (by rw [hpk.out]; exact ht)
          clear RE RO RN RP ht
          go_wp2_with fail
          go_quiet (fail)
          go_wp2_with fail
          go_ret
          exact ⟨ret_int HE.out.symm, grown_trans hg (grown_trans (World.grownBy_alloc _ _ _) (grown_drewN _ _ _))⟩
      · obtain ⟨i, hki⟩ : ∃ i, k = i + 1 := ⟨k - 1, by omega⟩
        have hi : i < ss.length := by omega
        obtain ⟨pv, hpv⟩ : ∃ pv, ss[i].t = pv := ⟨_, rfl⟩
        have hpk : Hid (prevT ss k = some pv) := by show _ = _; rw [hki, prevT_succ, List.getElem?_eq_getElem hi, ← hpv]; rfl
        have hpv0 : 0 ≤ pv := hp.out pv hpk.out
        have q0 := (HS.out.cells _ rfl i hi).1
        rw [hpv] at q0
        simp only at q0
        have q1 : ∀ n, ((wr.alloc (.cells #[.int .i64 t, .int .i64 px, .int .i64 py, .int .i64 pz, .int .i64 pp, .int .i64 pq, .int .i64 ps] 28)).drewN n).cell? ⟨b, off + i * 7, none⟩ = some (.int .i64 pv) := fun n => grown_cell (grown_trans hg (grown_trans (World.grownBy_alloc _ _ _) (grown_drewN _ _ _))) q0
        have e0 : ((k : Int) == 0) = false := by simp; omega
        have e2 : decide (0 < (k : Int)) = true := by simp; omega
        have e3 : 0 < k := by omega
        have ea : ((k : Int) - 1).toNat = i := by omega
        have pa : (0 : Int) ≤ (k : Int) - 1 := by omega
        have pb : (1 : Int) ≤ (k : Int) := by omega
        have ba : (k : Int) - 1 < (ss.length : Int) := by omega
        have ra : IntKind.i64.wrap ((k : Int) - 1) = (k : Int) - 1 := by rw [IntKind.wrap_i64]; omega
        have HKI := Lib.hid hki
        clear hki hpv q0 hk0
        by_cases ht : t ≤ pv
        · have e1 : decide (t ≤ pv) = true := by simpa using ht
          have HE := RE (by rw [hpk.out]; exact ht)
          clear RE RO RN RP
          go_wp2_with fail
          go_quiet (fail)
          go_wp2_with fail
          go_ret
          exact ⟨ret_int HE.out.symm, grown_trans hg (grown_trans (World.grownBy_alloc _ _ _) (grown_drewN _ _ _))⟩
        · have e1 : decide (t ≤ pv) = false := by simpa using ht
          have tl0 : 0 ≤ t := by omega
          have NE : Hid (¬ early (prevT ss k) t) := by show ¬ _; rw [hpk.out]; unfold early; exact ht
          clear ht
          by_cases ta : 1000000 < t
          · have HE := RO NE.out (by unfold smpIn; simp only; omega)
            clear RE RO RN RP
            go_wp2_with fail
            go_quiet (fail)
            clear e0 e2 q1 ea pa pb ba ra
            go_wp2_with fail
            go_ret
            exact ⟨ret_int HE.out.symm, grown_trans hg (grown_trans (World.grownBy_alloc _ _ _) (grown_drewN _ _ _))⟩
          by_cases tb : 86399999999 < start + t
          · have HE := RO NE.out (by unfold smpIn; simp only; omega)
            clear RE RO RN RP
            go_wp2_with fail
            go_quiet (fail)
            clear e0 e2 q1 ea pa pb ba ra
            go_wp2_with fail
            go_ret
            exact ⟨ret_int HE.out.symm, grown_trans hg (grown_trans (World.grownBy_alloc _ _ _) (grown_drewN _ _ _))⟩
          by_cases tc : (-100000000 ≤ px ∧ px ≤ 100000000) ∧ (-100000000 ≤ py ∧ py ≤ 100000000) ∧ (-100000 ≤ pz ∧ pz ≤ 100000)
          · by_cases td : (-1 ≤ pp ∧ pp ≤ 300) ∧ (-1 ≤ pq ∧ pq ≤ 3000) ∧ (-1 ≤ ps ∧ ps ≤ 300)
            · have HE := RN NE.out (by unfold smpIn; simp only; omega)
              have HC := Lib.hid tc; have HD := Lib.hid td
              have HP : Hid (∀ p, prevT ss (k + 1) = some p → 0 ≤ p) := fun p h => by rw [RP.out p h]; exact tl0
              clear RE RO RN RP tc td
              go_wp2_with fail
              go_quiet (fail)
              clear e0 e2 q1 ea pa pb ba ra
              go_wp2_with fail
              refine (isPlaced_yes ⟨t, px, py, pz, pp, pq, ps⟩ HC.out.1 HC.out.2.1 HC.out.2.2 _).mono ?_; rintro e w1 ⟨rfl, hg1⟩
              have b0 : w1.cell? ⟨wr.heap.size, 0, none⟩ = some (.int .i64 t) := grown_cell hg1 (by simp)
              have b1 : w1.cell? ⟨wr.heap.size, 1, none⟩ = some (.int .i64 px) := grown_cell hg1 (by simp)
              have b2 : w1.cell? ⟨wr.heap.size, 2, none⟩ = some (.int .i64 py) := grown_cell hg1 (by simp)
              have b3 : w1.cell? ⟨wr.heap.size, 3, none⟩ = some (.int .i64 pz) := grown_cell hg1 (by simp)
              have b4 : w1.cell? ⟨wr.heap.size, 4, none⟩ = some (.int .i64 pp) := grown_cell hg1 (by simp)
              have b5 : w1.cell? ⟨wr.heap.size, 5, none⟩ = some (.int .i64 pq) := grown_cell hg1 (by simp)
              have b6 : w1.cell? ⟨wr.heap.size, 6, none⟩ = some (.int .i64 ps) := grown_cell hg1 (by simp)
              go_wp2_with fail
              refine (isMeasured_yes ⟨t, px, py, pz, pp, pq, ps⟩ HD.out.1 HD.out.2.1 HD.out.2.2 _).mono ?_; rintro e w2 ⟨rfl, hg2⟩
              have G := grown_trans (grown_trans hg (grown_trans (World.grownBy_alloc _ _ _) (grown_drewN _ _ _))) (grown_trans hg1 hg2)
              clear b0 b1 b2 b3 b4 b5 b6 hg1 hg2
              go_wp2_with fail
              go_roundw
              case rel => exact ⟨k + 1, by have := HLT.out; omega, by go_num, G, HE, HP⟩
              case measure => have := HLT.out; simp [intOf]; omega
            · have HE := RO NE.out (by unfold smpIn; simp only; omega)
              have HC := Lib.hid tc; have HD := Lib.hid td
              clear RE RO RN RP tc td
              go_wp2_with fail
              go_quiet (fail)
              clear e0 e2 q1 ea pa pb ba ra
              go_wp2_with fail
              refine (isPlaced_yes ⟨t, px, py, pz, pp, pq, ps⟩ HC.out.1 HC.out.2.1 HC.out.2.2 _).mono ?_; rintro e w1 ⟨rfl, hg1⟩
              have b0 : w1.cell? ⟨wr.heap.size, 0, none⟩ = some (.int .i64 t) := grown_cell hg1 (by simp)
              have b1 : w1.cell? ⟨wr.heap.size, 1, none⟩ = some (.int .i64 px) := grown_cell hg1 (by simp)
              have b2 : w1.cell? ⟨wr.heap.size, 2, none⟩ = some (.int .i64 py) := grown_cell hg1 (by simp)
              have b3 : w1.cell? ⟨wr.heap.size, 3, none⟩ = some (.int .i64 pz) := grown_cell hg1 (by simp)
              have b4 : w1.cell? ⟨wr.heap.size, 4, none⟩ = some (.int .i64 pp) := grown_cell hg1 (by simp)
              have b5 : w1.cell? ⟨wr.heap.size, 5, none⟩ = some (.int .i64 pq) := grown_cell hg1 (by simp)
              have b6 : w1.cell? ⟨wr.heap.size, 6, none⟩ = some (.int .i64 ps) := grown_cell hg1 (by simp)
              go_wp2_with fail
              refine (isMeasured_no ⟨t, px, py, pz, pp, pq, ps⟩ HD.out _).mono ?_; rintro e w2 ⟨rfl, hg2⟩
              have G := grown_trans (grown_trans hg (grown_trans (World.grownBy_alloc _ _ _) (grown_drewN _ _ _))) (grown_trans hg1 hg2)
              clear b0 b1 b2 b3 b4 b5 b6 hg1 hg2
              go_wp2_with fail
              go_ret
              exact ⟨ret_int HE.out.symm, G⟩
          · have HE := RO NE.out (by unfold smpIn; simp only; omega)
            have HC := Lib.hid tc
            clear RE RO RN RP tc
            go_wp2_with fail
            go_quiet (fail)
            clear e0 e2 q1 ea pa pb ba ra
            go_wp2_with fail
            refine (isPlaced_no ⟨t, px, py, pz, pp, pq, ps⟩ HC.out _).mono ?_; rintro e w1 ⟨rfl, hg1⟩
            have G := grown_trans (grown_trans hg (grown_trans (World.grownBy_alloc _ _ _) (grown_drewN _ _ _))) hg1
            clear hg1
            go_wp2_with fail
            go_ret
            exact ⟨ret_int HE.out.symm, G⟩
    · have HV : Hid (E = 0) := by show _ = _; rw [← hw.out]; exact smpsE_end (by omega)
      go_wp2
      go_ret
      exact ⟨ret_int HV.out.symm, hg⟩

end Go.Proofs.Ytgkhhfojioepgaa
namespace Go.Proofs.Ytgkhhfojioepgaa
open Go.RowKit
set_option linter.unusedSimpArgs false
set_option linter.unusedVariables false

def IsRoot (n r : Nat) : Prop := r * r ≤ n ∧ n < (r + 1) * (r + 1)

theorem root_exists (n : Nat) : ∃ r, IsRoot n r := by
  induction n with
  | zero => exact ⟨0, by unfold IsRoot; omega⟩
  | succ n ih =>
    obtain ⟨r, h1, h2⟩ := ih
    by_cases h : (r + 1) * (r + 1) ≤ n + 1
    · refine ⟨r + 1, h, ?_⟩
      have e : (r + 1 + 1) * (r + 1 + 1) = (r + 1) * (r + 1) + 2 * (r + 1) + 1 := by rw [Nat.add_mul, Nat.mul_add, Nat.mul_add]; omega
      omega
    · exact ⟨r, by omega, by omega⟩

theorem root_le {n r x : Nat} (h : IsRoot n r) : x * x ≤ n ↔ x ≤ r := by
  constructor
  · intro hx
    rcases Nat.lt_or_ge r x with h' | h'
    · exfalso
      have := Nat.mul_le_mul h' h'
      have h2 := h.2
      have e : (r + 1) * (r + 1) = r.succ * r.succ := rfl
      omega
    · exact h'
  · intro hx
    have := Nat.mul_le_mul hx hx
    have := h.1
    omega

theorem root_lt {n r : Nat} (h : IsRoot n r) (hn : n < 9223372036854775808) : r ≤ 3037000499 := by
  rcases Nat.lt_or_ge 3037000499 r with h' | h'
  · have := Nat.mul_le_mul h' h'
    have := h.1
    omega
  · exact h'

theorem i64_or_nat (a b : Nat) (ha : a < 9223372036854775808) (hb : b < 9223372036854775808) : bits .or .i64 (a : Int) (b : Int) = ((a ||| b : Nat) : Int) := by
  have hx : a ||| b < 2 ^ 63 := Nat.or_lt_two_pow (by omega) (by omega)
  have h1 : (BitVec.ofInt 64 (a : Int)).toNat = a := by
    rw [BitVec.ofInt_natCast, BitVec.toNat_ofNat]; exact Nat.mod_eq_of_lt (by omega)
  have h2 : (BitVec.ofInt 64 (b : Int)).toNat = b := by
    rw [BitVec.ofInt_natCast, BitVec.toNat_ofNat]; exact Nat.mod_eq_of_lt (by omega)
  show IntKind.i64.wrap ((BitVec.ofInt 64 (a : Int) ||| BitVec.ofInt 64 (b : Int)).toNat : Int) = _
  rw [BitVec.toNat_or, h1, h2]
  exact IntWalk.i64_in _ (by omega)

theorem div_sq {n x : Nat} (hx : 0 < x) : x ≤ n / x ↔ x * x ≤ n := Nat.le_div_iff_mul_le hx

def bitOf (j : Nat) : Nat := if j = 0 then 0 else 2 ^ (j - 1)
theorem bitOf_half (j : Nat) : bitOf (j + 1) / 2 = bitOf j := by
  unfold bitOf
  rw [if_neg (by omega)]
  cases j with
  | zero => rfl
  | succ m => rw [if_neg (by omega)]; simp [Nat.pow_succ]
theorem bitOf_le (j : Nat) (h : j ≤ 32) : bitOf j ≤ 2147483648 := by
  unfold bitOf; split
  · omega
  · have : (2 : Nat) ^ (j - 1) ≤ 2 ^ 31 := Nat.pow_le_pow_right (by decide) (by omega)
    omega
theorem bitOf_pos (j : Nat) : 0 < bitOf (j + 1) := by unfold bitOf; rw [if_neg (by omega)]; exact Nat.two_pow_pos _

set_option maxHeartbeats 800000 in
theorem root_any (n R : Nat) (hn : n < 9223372036854775808) (hR : Hid (IsRoot n R)) (w : World) :
    Calls Try.prog 133 #[.int .i64 n] w fun e w' => e = .returned (.tuple #[.int .i64 R, .int .i64 0]) ∧ w = w' := by
  have hRb := root_lt hR.out hn
  have hRi : (R : Int) ≤ 3037000499 := by omega
  have hni : (n : Int) ≤ 9223372036854775807 := by omega
  have HN := Lib.hid hn
  clear hRb hn
  go_enter Try.func133, Try.ntmps133
  go_wp2
  go_loop [4, 5] (fun rt bt => ∃ j root bit : Nat, j ≤ 32 ∧ rt = .int .i64 root ∧ bt = .int .i64 bit ∧ Hid (bit = bitOf j) ∧ (root : Int) ≤ (R : Int) ∧ Hid (R < root + 2 ^ j ∧ root % 2 ^ j = 0)) (fun _ bt => (intOf bt).toNat)
  case atStart => exact ⟨32, 0, 2147483648, by omega, rfl, rfl, rfl, by omega, by show _ ∧ _; omega⟩
  case round =>
    obtain ⟨j, root, bit, hj, rfl, rfl, hbit, hrt, hinv⟩ := hrel
    cases j with
    | zero =>
      have hb : bit = 0 := hbit.out
      have hi := hinv.out
      have hr : root = R := by omega
      subst hb
      have HR := Lib.hid hr
      clear hr hi
      go_wp2
      go_ret2
      exact ⟨ret_ii (by rw [HR.out]) rfl, rfl⟩
    | succ i =>
      have hb : bit = 2 ^ i := by rw [hbit.out]; unfold bitOf; rw [if_neg (by omega)]; rfl
      have hbp : 0 < bit := by rw [hb]; exact Nat.two_pow_pos _
      have hi := hinv.out
      have hpow : 2 ^ (i + 1) = 2 * bit := by rw [hb, Nat.pow_succ, Nat.mul_comm]
      have hor : root ||| bit = root + bit := nat_join (i + 1) root bit hi.2 (by omega)
      rw [hpow] at hi
      have hbl : bit ≤ 2147483648 := by rw [hbit.out]; exact bitOf_le _ hj
      have hbit2 : bit / 2 = bitOf i := by rw [hbit.out]; exact bitOf_half i
      obtain ⟨nx, hnx⟩ : ∃ x, root + bit = x := ⟨_, rfl⟩
      obtain ⟨q, hq⟩ : ∃ x, n / nx = x := ⟨_, rfl⟩
      obtain ⟨b2, hb2⟩ : ∃ x, bit / 2 = x := ⟨_, rfl⟩
      have hnp : 0 < nx := by omega
      have hnl : nx ≤ 6000000000 := by omega
      have hcmp : nx ≤ q ↔ nx ≤ R := by rw [← hq, div_sq hnp]; exact root_le hR.out
      have eOr : bits .or .i64 (root : Int) (bit : Int) = (nx : Int) := by rw [i64_or_nat _ _ (by omega) (by omega), hor, hnx]
      have hqn : q ≤ n := by rw [← hq]; exact Nat.div_le_self _ _
      have eD : (n : Int) / (nx : Int) = (q : Int) := by rw [← Int.natCast_ediv, hq]
      have eD2 : IntKind.i64.wrap ((n : Int) / (nx : Int)) = (q : Int) := by rw [eD]; exact IntWalk.i64_in _ (by have := HN.out; omega)
      have hqi : (q : Int) ≤ 9223372036854775807 := by have := HN.out; omega
      have eS : (bit : Int) / 2 = (b2 : Int) := by omega
      have hb0 : 0 < (bit : Int) := by omega
      have hz : ¬ (nx : Int) = 0 := by omega
      have hz2 : ¬ nx = 0 := by omega
      have hm0 : root % 2 ^ i = 0 := by
        have : root % bit = 0 := by have h1 := Nat.mod_mod_of_dvd root (show bit ∣ 2 * bit from Nat.dvd_mul_left _ _); rw [hi.2] at h1; simpa using h1.symm
        rw [← hb]; exact this
      have hm1 : nx % 2 ^ i = 0 := by rw [← hb, ← hnx]; have : root % bit = 0 := by rw [hb]; exact hm0
                                      simp [this]
      have hB2 : Hid (b2 = bitOf i) := by show _ = _; omega
      have hlt : b2 < bit := by omega
      have hlti : (b2 : Int) < (bit : Int) := by omega
      have F0 : R < nx → Hid (R < root + 2 ^ i ∧ root % 2 ^ i = 0) := fun h => ⟨by rw [← hb]; omega, hm0⟩
      have F1 : Hid (R < nx + 2 ^ i ∧ nx % 2 ^ i = 0) := ⟨by rw [← hb]; omega, hm1⟩
      have HF0 := Lib.hid F0; have HB := Lib.hid hb; have HLT := Lib.hid hlt
      clear hi hpow hor hbl hbit2 hnx hq hb2 hqn hm0 hm1 hb hbp hbit hinv F0 hlt
      by_cases hc : (nx : Int) ≤ (q : Int)
      · have hc2 : (nx : Int) ≤ (R : Int) := by have := hcmp.1 (by omega); omega
        clear hcmp
        go_wp2
        go_round
        case rel => exact ⟨i, nx, b2, by omega, rfl, rfl, hB2, hc2, F1⟩
        case measure => simp [intOf]; omega
      · have hc2 : Hid (R < nx) := by show _ < _; have := hcmp; omega
        clear hcmp
        go_wp2
        go_round
        case rel => exact ⟨i, root, b2, by omega, rfl, rfl, hB2, hrt, HF0.out hc2.out⟩
        case measure => simp [intOf]; omega

theorem root_neg (n : Int) (hn : n < 0) (w : World) : Calls Try.prog 133 #[.int .i64 n] w fun e w' => e = .returned (.tuple #[.int .i64 0, .int .i64 1]) ∧ w = w' := by
  go_enter Try.func133, Try.ntmps133
  go_wp2
  go_ret2
  exact ⟨rfl, rfl⟩
end Go.Proofs.Ytgkhhfojioepgaa
namespace Go.Proofs.Ytgkhhfojioepgaa
open Go.RowKit
set_option linter.unusedSimpArgs false
set_option linter.unusedVariables false

/-- A place of the plane. -/
def inPlane (x : Smp) : Prop := (-100000000 ≤ x.x ∧ x.x ≤ 100000000) ∧ (-100000000 ≤ x.y ∧ x.y ≤ 100000000)
instance (x : Smp) : Decidable (inPlane x) := by unfold inPlane; exact inferInstance
def sqP (p q : Smp) : Int := (q.x - p.x) * (q.x - p.x) + (q.y - p.y) * (q.y - p.y)
noncomputable def rootI (n : Int) : Int := (Classical.choose (root_exists n.toNat) : Nat)
theorem rootI_is (n : Int) : ∃ r : Nat, rootI n = r ∧ IsRoot n.toNat r := ⟨_, rfl, Classical.choose_spec (root_exists n.toNat)⟩
theorem root_one {n r s : Nat} (h : IsRoot n r) (h' : IsRoot n s) : r = s := by
  have h1 := (root_le h (x := s)).1 h'.1
  have h2 := (root_le h' (x := r)).1 h.1
  omega
noncomputable def stepW (p q : Smp) : Int := rootI (sqP p q)
noncomputable def stepE (p q : Smp) : Int × Int := if inPlane p ∧ inPlane q then (stepW p q, 0) else (0, 9)

theorem sq_bd {a : Int} (h0 : -200000000 ≤ a) (h1 : a ≤ 200000000) : 0 ≤ a * a ∧ a * a ≤ 40000000000000000 := by
  rcases Int.le_total 0 a with h | h
  · exact ⟨Int.mul_nonneg h h, Int.le_trans (Int.mul_le_mul h1 h1 h (by omega)) (by omega)⟩
  · have e : a * a = (-a) * (-a) := by rw [Int.neg_mul_neg]
    rw [e]
    have hm : -a * -a ≤ 200000000 * 200000000 := Int.mul_le_mul (by omega) (by omega) (by omega) (by omega)
    exact ⟨Int.mul_nonneg (by omega) (by omega), hm⟩
theorem sqP_bd {p q : Smp} (h : inPlane p) (h' : inPlane q) : 0 ≤ sqP p q ∧ sqP p q ≤ 80000000000000000 := by
  unfold inPlane at h h'
  have h1 := sq_bd (a := q.x - p.x) (by omega) (by omega)
  have h2 := sq_bd (a := q.y - p.y) (by omega) (by omega)
  unfold sqP; omega
theorem stepW_bd {p q : Smp} (h : inPlane p) (h' : inPlane q) : 0 ≤ stepW p q ∧ stepW p q ≤ 300000000 := by
  obtain ⟨r, hr, hi⟩ := rootI_is (sqP p q)
  have hb := sqP_bd h h'
  unfold stepW
  rw [hr]
  refine ⟨by omega, ?_⟩
  rcases Nat.lt_or_ge 300000000 r with hc | hc
  · have h1 := Nat.mul_le_mul (Nat.le_of_lt hc) (Nat.le_of_lt hc)
    have h2 := hi.1
    omega
  · omega

set_option maxHeartbeats 800000 in
theorem square_is (p q : Smp) (hp : inPlane p) (hq : inPlane q) (w : World) {n : Int} (h : Hid (sqP p q = n)) :
    Calls Try.prog 134 #[.agg #[.int .i64 p.t, .int .i64 p.x, .int .i64 p.y, .int .i64 p.z, .int .i64 p.p, .int .i64 p.q, .int .i64 p.s], .agg #[.int .i64 q.t, .int .i64 q.x, .int .i64 q.y, .int .i64 q.z, .int .i64 q.p, .int .i64 q.q, .int .i64 q.s]] w fun e w' => e = .returned (.int .i64 n) ∧ w.grownBy w' none := by
  obtain ⟨pt, px, py, pz, pp, pq, ps⟩ := p
  obtain ⟨qt, qx, qy, qz, qp, qq, qs⟩ := q
  unfold inPlane at hp hq
  simp only at hp hq
  have hn : (qx - px) * (qx - px) + (qy - py) * (qy - py) = n := h.out
  obtain ⟨dx, hdx⟩ : ∃ d, qx - px = d := ⟨_, rfl⟩
  obtain ⟨dy, hdy⟩ : ∃ d, qy - py = d := ⟨_, rfl⟩
  rw [hdx, hdy] at hn
  have bx := sq_bd (a := dx) (by omega) (by omega)
  have by_ := sq_bd (a := dy) (by omega) (by omega)
  have rx : IntKind.i64.wrap (qx - px) = dx := by rw [hdx]; exact IntWalk.i64_in _ (by omega)
  have ry : IntKind.i64.wrap (qy - py) = dy := by rw [hdy]; exact IntWalk.i64_in _ (by omega)
  obtain ⟨X, hX⟩ : ∃ d, dx * dx = d := ⟨_, rfl⟩
  obtain ⟨Y, hY⟩ : ∃ d, dy * dy = d := ⟨_, rfl⟩
  rw [hX, hY] at hn
  rw [hX] at bx
  rw [hY] at by_
  have mx : IntKind.i64.wrap (dx * dx) = X := by rw [hX]; exact IntWalk.i64_in _ (by omega)
  have my : IntKind.i64.wrap (dy * dy) = Y := by rw [hY]; exact IntWalk.i64_in _ (by omega)
  obtain ⟨bx0, bx1⟩ := bx
  obtain ⟨by0, by1⟩ := by_
  have HN := Lib.hid hn
  have HX := Lib.hid hX; have HY := Lib.hid hY; have HDX := Lib.hid hdx; have HDY := Lib.hid hdy; have HP := Lib.hid hp; have HQ := Lib.hid hq
  clear hX hY hdx hdy hp hq h hn
  go_enter Try.func134, Try.ntmps134
  go_wp2_with fail
  go_quiet (fail)
  go_wp2_with fail
  go_ret
  exact ⟨ret_int HN.out, grown_trans (grown_trans (World.grownBy_alloc _ _ _) (World.grownBy_alloc _ _ _)) (grown_drewN _ _ _)⟩

set_option maxHeartbeats 800000 in
theorem way_is (k : Int) (p q : Smp) (hp : inPlane p) (hq : inPlane q) (w : World) {n : Int} (h : Hid (stepW p q = n)) :
    Calls Try.prog 74 #[.agg #[.int .i64 k, .int .i64 p.t, .int .i64 p.x, .int .i64 p.y, .int .i64 p.z, .int .i64 p.p, .int .i64 p.q, .int .i64 p.s, .int .i64 q.t, .int .i64 q.x, .int .i64 q.y, .int .i64 q.z, .int .i64 q.p, .int .i64 q.q, .int .i64 q.s]] w fun e w' => e = .returned (.int .i64 n) ∧ w.grownBy w' none := by
  have hb := sqP_bd hp hq
  obtain ⟨R, hR, hi⟩ := rootI_is (sqP p q)
  obtain ⟨m, hm⟩ : ∃ m : Nat, (m : Int) = sqP p q := ⟨(sqP p q).toNat, by omega⟩
  have HM : Hid (sqP p q = (m : Int)) := hm.symm
  have hmt : (sqP p q).toNat = m := by omega
  rw [hmt] at hi
  have HI := Lib.hid hi
  have hml : m < 9223372036854775808 := by omega
  have HML := Lib.hid hml
  have HV : Hid ((R : Int) = n) := by show _ = _; rw [← h.out, ← hR]; rfl
  have HP := Lib.hid hp; have HQ := Lib.hid hq
  clear hb hR hi hm hmt hp hq h hml
  obtain ⟨pt, px, py, pz, pp, pq, ps⟩ := p
  obtain ⟨qt, qx, qy, qz, qp, qq, qs⟩ := q
  simp only
  go_enter Try.func74, Try.ntmps74
  go_wp2_with fail
  refine (square_is ⟨pt, px, py, pz, pp, pq, ps⟩ ⟨qt, qx, qy, qz, qp, qq, qs⟩ HP.out HQ.out _ HM).mono ?_; rintro e w1 ⟨rfl, hg1⟩
  have G1 := grown_trans (World.grownBy_alloc w (.cells #[.int .i64 k, .int .i64 pt, .int .i64 px, .int .i64 py, .int .i64 pz, .int .i64 pp, .int .i64 pq, .int .i64 ps, .int .i64 qt, .int .i64 qx, .int .i64 qy, .int .i64 qz, .int .i64 qp, .int .i64 qq, .int .i64 qs] 85) none) hg1
  clear hg1
  go_wp2_with fail
  refine (root_any m R HML.out HI _).mono ?_; rintro e w2 ⟨rfl, rfl⟩
  go_wp2_with fail
  go_ret
  exact ⟨ret_int HV.out, G1⟩

theorem twithin_yes (n lo hi : Int) (h0 : lo ≤ n) (h1 : n ≤ hi) (w : World) : Calls Try.prog 55 #[.int .i64 n, .int .i64 lo, .int .i64 hi] w fun e w' => e = .returned (.bool true) ∧ w = w' := by
  go_enter Try.func55, Try.ntmps55
  go_wp2
  go_ret
  exact ⟨ret_bool (by first | rfl | (simp; omega)), rfl⟩
theorem twithin_no (n lo hi : Int) (h : n < lo ∨ hi < n) (w : World) : Calls Try.prog 55 #[.int .i64 n, .int .i64 lo, .int .i64 hi] w fun e w' => e = .returned (.bool false) ∧ w = w' := by
  by_cases h0 : n < lo
  · have h2 : decide (lo ≤ n) = false := by simp; omega
    clear h
    go_enter Try.func55, Try.ntmps55
    go_wp2
    go_ret
    exact ⟨ret_bool (by first | rfl | (simp; omega)), rfl⟩
  · have h1 : lo ≤ n := by omega
    have h2 : decide (n ≤ hi) = false := by simp; omega
    clear h
    go_enter Try.func55, Try.ntmps55
    go_wp2
    go_ret
    exact ⟨ret_bool (by first | rfl | (simp; omega)), rfl⟩

theorem onPlane_yes (x : Smp) (h : inPlane x) (w : World) :
    Calls Try.prog 105 #[.agg #[.int .i64 x.t, .int .i64 x.x, .int .i64 x.y, .int .i64 x.z, .int .i64 x.p, .int .i64 x.q, .int .i64 x.s]] w fun e w' => e = .returned (.bool true) ∧ w.grownBy w' none := by
  obtain ⟨t, x, y, z, p, q, s⟩ := x
  have H := Lib.hid h; clear h
  go_enter Try.func105, Try.ntmps105
  go_wp2_with fail
  refine (twithin_yes _ _ _ H.out.1.1 H.out.1.2 _).mono ?_; rintro e w1 ⟨rfl, rfl⟩
  go_wp2_with fail
  refine (twithin_yes _ _ _ H.out.2.1 H.out.2.2 _).mono ?_; rintro e w1 ⟨rfl, rfl⟩
  go_wp2_with fail
  go_ret
  exact ⟨rfl, World.grownBy_alloc _ _ _⟩
theorem onPlane_no (x : Smp) (h : ¬ inPlane x) (w : World) :
    Calls Try.prog 105 #[.agg #[.int .i64 x.t, .int .i64 x.x, .int .i64 x.y, .int .i64 x.z, .int .i64 x.p, .int .i64 x.q, .int .i64 x.s]] w fun e w' => e = .returned (.bool false) ∧ w.grownBy w' none := by
  obtain ⟨t, x, y, z, p, q, s⟩ := x
  unfold inPlane at h
  simp only at h ⊢
  by_cases h1 : -100000000 ≤ x ∧ x ≤ 100000000
  · have h3 : y < -100000000 ∨ 100000000 < y := by omega
    have H1 := Lib.hid h1; have H3 := Lib.hid h3; clear h h1 h3
    go_enter Try.func105, Try.ntmps105
    go_wp2_with fail
    refine (twithin_yes _ _ _ H1.out.1 H1.out.2 _).mono ?_; rintro e w1 ⟨rfl, rfl⟩
    go_wp2_with fail
    refine (twithin_no _ _ _ H3.out _).mono ?_; rintro e w1 ⟨rfl, rfl⟩
    go_wp2_with fail
    go_ret
    exact ⟨rfl, World.grownBy_alloc _ _ _⟩
  · have h3 : x < -100000000 ∨ 100000000 < x := by omega
    have H3 := Lib.hid h3; clear h h1 h3
    go_enter Try.func105, Try.ntmps105
    go_wp2_with fail
    refine (twithin_no _ _ _ H3.out _).mono ?_; rintro e w1 ⟨rfl, rfl⟩
    go_wp2_with fail
    go_ret
    exact ⟨rfl, World.grownBy_alloc _ _ _⟩
set_option maxHeartbeats 800000 in
theorem step_any (p q : Smp) (w : World) {n e : Int} (h : Hid (stepE p q = (n, e))) :
    Calls Try.prog 45 #[.agg #[.int .i64 p.t, .int .i64 p.x, .int .i64 p.y, .int .i64 p.z, .int .i64 p.p, .int .i64 p.q, .int .i64 p.s], .agg #[.int .i64 q.t, .int .i64 q.x, .int .i64 q.y, .int .i64 q.z, .int .i64 q.p, .int .i64 q.q, .int .i64 q.s]] w fun x w' => x = .returned (.tuple #[.int .i64 n, .int .i64 e]) ∧ w.grownBy w' none := by
  by_cases h1 : inPlane p
  · by_cases h2 : inPlane q
    · have hv : (n, e) = (stepW p q, 0) := by rw [← h.out]; unfold stepE; rw [if_pos ⟨h1, h2⟩]
      simp only [Prod.mk.injEq] at hv
      have HV := Lib.hid hv.1
      obtain rfl := hv.2
      have H1 := Lib.hid h1; have H2 := Lib.hid h2
      clear hv h1 h2 h
      obtain ⟨pt, px, py, pz, pp, pq, ps⟩ := p
      obtain ⟨qt, qx, qy, qz, qp, qq, qs⟩ := q
      go_enter Try.func45, Try.ntmps45
      go_wp2_with fail
      refine (onPlane_yes ⟨pt, px, py, pz, pp, pq, ps⟩ H1.out _).mono ?_; rintro x w1 ⟨rfl, hg1⟩
      have G1 := grown_trans (grown_trans (World.grownBy_alloc w (.cells #[.int .i64 pt, .int .i64 px, .int .i64 py, .int .i64 pz, .int .i64 pp, .int .i64 pq, .int .i64 ps] 28) none) (World.grownBy_alloc _ (.cells #[.int .i64 qt, .int .i64 qx, .int .i64 qy, .int .i64 qz, .int .i64 qp, .int .i64 qq, .int .i64 qs] 28) none)) hg1
      have ap0 : w1.cell? ⟨w.heap.size, 0, none⟩ = some (.int .i64 pt) := grown_cell hg1 (by simp)
      have aq0 : w1.cell? ⟨w.heap.size + 1, 0, none⟩ = some (.int .i64 qt) := grown_cell hg1 (by simp)
      have ap1 : w1.cell? ⟨w.heap.size, 1, none⟩ = some (.int .i64 px) := grown_cell hg1 (by simp)
      have aq1 : w1.cell? ⟨w.heap.size + 1, 1, none⟩ = some (.int .i64 qx) := grown_cell hg1 (by simp)
      have ap2 : w1.cell? ⟨w.heap.size, 2, none⟩ = some (.int .i64 py) := grown_cell hg1 (by simp)
      have aq2 : w1.cell? ⟨w.heap.size + 1, 2, none⟩ = some (.int .i64 qy) := grown_cell hg1 (by simp)
      have ap3 : w1.cell? ⟨w.heap.size, 3, none⟩ = some (.int .i64 pz) := grown_cell hg1 (by simp)
      have aq3 : w1.cell? ⟨w.heap.size + 1, 3, none⟩ = some (.int .i64 qz) := grown_cell hg1 (by simp)
      have ap4 : w1.cell? ⟨w.heap.size, 4, none⟩ = some (.int .i64 pp) := grown_cell hg1 (by simp)
      have aq4 : w1.cell? ⟨w.heap.size + 1, 4, none⟩ = some (.int .i64 qp) := grown_cell hg1 (by simp)
      have ap5 : w1.cell? ⟨w.heap.size, 5, none⟩ = some (.int .i64 pq) := grown_cell hg1 (by simp)
      have aq5 : w1.cell? ⟨w.heap.size + 1, 5, none⟩ = some (.int .i64 qq) := grown_cell hg1 (by simp)
      have ap6 : w1.cell? ⟨w.heap.size, 6, none⟩ = some (.int .i64 ps) := grown_cell hg1 (by simp)
      have aq6 : w1.cell? ⟨w.heap.size + 1, 6, none⟩ = some (.int .i64 qs) := grown_cell hg1 (by simp)
      clear hg1
      go_wp2_with fail
      refine (onPlane_yes ⟨qt, qx, qy, qz, qp, qq, qs⟩ H2.out _).mono ?_; rintro x w2 ⟨rfl, hg1⟩
      have G2 := grown_trans G1 hg1
      replace ap0 := grown_cell hg1 ap0
      replace aq0 := grown_cell hg1 aq0
      replace ap1 := grown_cell hg1 ap1
      replace aq1 := grown_cell hg1 aq1
      replace ap2 := grown_cell hg1 ap2
      replace aq2 := grown_cell hg1 aq2
      replace ap3 := grown_cell hg1 ap3
      replace aq3 := grown_cell hg1 aq3
      replace ap4 := grown_cell hg1 ap4
      replace aq4 := grown_cell hg1 aq4
      replace ap5 := grown_cell hg1 ap5
      replace aq5 := grown_cell hg1 aq5
      replace ap6 := grown_cell hg1 ap6
      replace aq6 := grown_cell hg1 aq6
      clear hg1 G1
      go_wp2_with fail
      refine (way_is 0 ⟨pt, px, py, pz, pp, pq, ps⟩ ⟨qt, qx, qy, qz, qp, qq, qs⟩ H1.out H2.out _ (Lib.hid HV.out.symm)).mono ?_; rintro x w3 ⟨rfl, hg3⟩
      have G3 := grown_trans G2 hg3
      clear hg3 G2
      go_wp2_with fail
      go_ret2
      exact ⟨rfl, G3⟩
    · have hv : (n, e) = (0, 9) := by rw [← h.out]; unfold stepE; rw [if_neg (fun h => h2 h.2)]
      simp only [Prod.mk.injEq] at hv
      obtain ⟨rfl, rfl⟩ := hv
      have H1 := Lib.hid h1; have H2 := Lib.hid h2
      clear h1 h2 h
      obtain ⟨pt, px, py, pz, pp, pq, ps⟩ := p
      obtain ⟨qt, qx, qy, qz, qp, qq, qs⟩ := q
      go_enter Try.func45, Try.ntmps45
      go_wp2_with fail
      refine (onPlane_yes ⟨pt, px, py, pz, pp, pq, ps⟩ H1.out _).mono ?_; rintro x w1 ⟨rfl, hg1⟩
      have G1 := grown_trans (grown_trans (World.grownBy_alloc w (.cells #[.int .i64 pt, .int .i64 px, .int .i64 py, .int .i64 pz, .int .i64 pp, .int .i64 pq, .int .i64 ps] 28) none) (World.grownBy_alloc _ (.cells #[.int .i64 qt, .int .i64 qx, .int .i64 qy, .int .i64 qz, .int .i64 qp, .int .i64 qq, .int .i64 qs] 28) none)) hg1
      have ap0 : w1.cell? ⟨w.heap.size, 0, none⟩ = some (.int .i64 pt) := grown_cell hg1 (by simp)
      have aq0 : w1.cell? ⟨w.heap.size + 1, 0, none⟩ = some (.int .i64 qt) := grown_cell hg1 (by simp)
      have ap1 : w1.cell? ⟨w.heap.size, 1, none⟩ = some (.int .i64 px) := grown_cell hg1 (by simp)
      have aq1 : w1.cell? ⟨w.heap.size + 1, 1, none⟩ = some (.int .i64 qx) := grown_cell hg1 (by simp)
      have ap2 : w1.cell? ⟨w.heap.size, 2, none⟩ = some (.int .i64 py) := grown_cell hg1 (by simp)
      have aq2 : w1.cell? ⟨w.heap.size + 1, 2, none⟩ = some (.int .i64 qy) := grown_cell hg1 (by simp)
      have ap3 : w1.cell? ⟨w.heap.size, 3, none⟩ = some (.int .i64 pz) := grown_cell hg1 (by simp)
      have aq3 : w1.cell? ⟨w.heap.size + 1, 3, none⟩ = some (.int .i64 qz) := grown_cell hg1 (by simp)
      have ap4 : w1.cell? ⟨w.heap.size, 4, none⟩ = some (.int .i64 pp) := grown_cell hg1 (by simp)
      have aq4 : w1.cell? ⟨w.heap.size + 1, 4, none⟩ = some (.int .i64 qp) := grown_cell hg1 (by simp)
      have ap5 : w1.cell? ⟨w.heap.size, 5, none⟩ = some (.int .i64 pq) := grown_cell hg1 (by simp)
      have aq5 : w1.cell? ⟨w.heap.size + 1, 5, none⟩ = some (.int .i64 qq) := grown_cell hg1 (by simp)
      have ap6 : w1.cell? ⟨w.heap.size, 6, none⟩ = some (.int .i64 ps) := grown_cell hg1 (by simp)
      have aq6 : w1.cell? ⟨w.heap.size + 1, 6, none⟩ = some (.int .i64 qs) := grown_cell hg1 (by simp)
      clear hg1
      go_wp2_with fail
      refine (onPlane_no ⟨qt, qx, qy, qz, qp, qq, qs⟩ H2.out _).mono ?_; rintro x w2 ⟨rfl, hg1⟩
      have G2 := grown_trans G1 hg1
      clear hg1 G1
      go_wp2_with fail
      go_ret2
      exact ⟨rfl, G2⟩
  · have hv : (n, e) = (0, 9) := by rw [← h.out]; unfold stepE; rw [if_neg (fun h => h1 h.1)]
    simp only [Prod.mk.injEq] at hv
    obtain ⟨rfl, rfl⟩ := hv
    have H1 := Lib.hid h1
    clear h1 h
    obtain ⟨pt, px, py, pz, pp, pq, ps⟩ := p
    obtain ⟨qt, qx, qy, qz, qp, qq, qs⟩ := q
    go_enter Try.func45, Try.ntmps45
    go_wp2_with fail
    refine (onPlane_no ⟨pt, px, py, pz, pp, pq, ps⟩ H1.out _).mono ?_; rintro x w1 ⟨rfl, hg1⟩
    have G1 := grown_trans (grown_trans (World.grownBy_alloc w (.cells #[.int .i64 pt, .int .i64 px, .int .i64 py, .int .i64 pz, .int .i64 pp, .int .i64 pq, .int .i64 ps] 28) none) (World.grownBy_alloc _ (.cells #[.int .i64 qt, .int .i64 qx, .int .i64 qy, .int .i64 qz, .int .i64 qp, .int .i64 qq, .int .i64 qs] 28) none)) hg1
    clear hg1
    go_wp2_with fail
    go_ret2
    exact ⟨rfl, G1⟩
end Go.Proofs.Ytgkhhfojioepgaa
namespace Go.Proofs.Ytgkhhfojioepgaa
open Go.RowKit
set_option linter.unusedSimpArgs false
set_option linter.unusedVariables false

theorem smps_ok {st : Int} : ∀ (l : List Smp) (b : Option Int), smpsE st b l = 0 → ∀ x ∈ l, smpIn st x
  | [], _, _, x, hx => by simp at hx
  | y :: r, b, h, x, hx => by
    unfold smpsE at h
    split at h
    · omega
    · split at h
      · rename_i hi
        rcases List.mem_cons.1 hx with rfl | hx
        · exact hi
        · exact smps_ok r _ h x hx
      · omega

structure ActOk (a : Act) : Prop where
  sl : (a.ss.length : Int) ≤ 20000
  ll : (a.ls.length : Int) ≤ 200
  tl : (a.ts.length : Int) ≤ 20
  st0 : 0 ≤ a.start
  st1 : a.start ≤ 86399999999
  smps : smpsE a.start none a.ss = 0
  laps : lapsE (spanL a.ss) 0 a.ls = 0
  tags : tagsE none a.ts = 0
  name : nameB a.name = true
  sp0 : 1 ≤ a.sport
  sp1 : a.sport ≤ 5
theorem chk_ok {a : Act} (h : chkE a = 0) : ActOk a := by
  unfold chkE at h
  split at h
  · rename_i h1
    split at h
    · rename_i h2
      split at h
      · rename_i h3
        split at h
        · rename_i h4
          split at h
          · rename_i h5
            split at h
            · rename_i h6
              exact ⟨h4.1, h4.2.1, h4.2.2, h3.1, h3.2, h5, h6, h, h1, h2.1, h2.2⟩
            · rename_i h6; exact absurd h h6
          · rename_i h5; exact absurd h h5
        · omega
      · omega
    · omega
  · omega
theorem ActOk.plane {a : Act} (h : ActOk a) : ∀ x ∈ a.ss, inPlane x := fun x hx => by
  have := smps_ok _ _ h.smps x hx
  unfold smpIn at this; unfold inPlane; omega
theorem lt_of_cell {w : World} {p : Addr} {v : Value} (h : w.cell? p = some v) : p.block < w.heap.size := by
  rcases Nat.lt_or_ge p.block w.heap.size with hl | hl
  · exact hl
  · unfold World.cell? at h
    rw [Array.getElem?_eq_none hl] at h
    simp at h
theorem SmpsAt.block {w : World} {ao : Option Addr} {l : List Smp} (h : SmpsAt w ao l) : ∀ a, ao = some a → l ≠ [] → a.block < w.heap.size := fun a ha hne => by
  have hl : 0 < l.length := by
    cases l with
    | nil => exact absurd rfl hne
    | cons x r => simp
  have q := lt_of_cell (h.cells a ha 0 hl).1
  exact q
end Go.Proofs.Ytgkhhfojioepgaa
namespace Go.Proofs.Ytgkhhfojioepgaa
open Go.RowKit
set_option linter.unusedSimpArgs false
set_option linter.unusedVariables false

def smpD (ss : List Smp) (k : Nat) : Smp := ss.getD k ⟨0, 0, 0, 0, 0, 0, 0⟩
theorem smpD_at {ss : List Smp} {k : Nat} (h : k < ss.length) : smpD ss k = ss[k] := by
  unfold smpD; rw [List.getD_eq_getElem?_getD, List.getElem?_eq_getElem h]; rfl

theorem smpD_plane {ss : List Smp} (hp : ∀ x ∈ ss, inPlane x) (k : Nat) : inPlane (smpD ss k) := by
  unfold smpD
  rcases Nat.lt_or_ge k ss.length with h | h
  · rw [List.getD_eq_getElem?_getD, List.getElem?_eq_getElem h]
    exact hp _ (List.getElem_mem h)
  · rw [List.getD_eq_getElem?_getD, List.getElem?_eq_none h]
    simp only [Option.getD_none]; unfold inPlane; simp only; omega

theorem grown_own {w wr w1 : World} {o : Obj} {row : Option Nat} (h : w.grownBy wr none) (g : (wr.alloc o).grownBy w1 row) (hr : ∀ k, row = some k → w.heap.size ≤ k) : w.grownBy w1 none :=
  ⟨g.os.trans h.os, g.tape.trans h.tape, g.output.trans h.output, by have := g.size; have := h.size; simp at *; omega, fun k hk _ => by
    have hs := h.size
    rw [g.block k (by simp; omega) (fun e => by have := hr k e.symm; omega), Below.heap_alloc _ _ _ (by omega)]
    exact h.block k hk (by simp)⟩

end Go.Proofs.Ytgkhhfojioepgaa
namespace Go.Proofs.Ytgkhhfojioepgaa
open Go.RowKit
set_option linter.unusedSimpArgs false
set_option linter.unusedVariables false

theorem smps_rise {st : Int} : ∀ (l : List Smp) (b : Option Int), smpsE st b l = 0 → (∀ i (h : i + 1 < l.length), (l[i]'(by omega)).t < l[i + 1].t) ∧ (∀ (h : 0 < l.length), ¬ early b l[0].t)
  | [], _, _ => ⟨fun i h => absurd h (by simp), fun h => absurd h (by simp)⟩
  | y :: r, b, h => by
    unfold smpsE at h
    split at h
    · omega
    · rename_i he
      split at h
      · obtain ⟨h1, h2⟩ := smps_rise r _ h
        refine ⟨fun i hi => ?_, fun _ => he⟩
        cases i with
        | zero =>
          have h3 : 0 < r.length := by simp only [List.length_cons] at hi; omega
          have := h2 h3
          unfold early at this
          simp only [List.getElem_cons_zero, List.getElem_cons_succ]
          omega
        | succ i =>
          have h3 : i + 1 < r.length := by simp only [List.length_cons] at hi; omega
          have := h1 i h3
          simpa using this
      · omega

/-- What is known of the samples of an activity that is right. -/
structure SOk (ss : List Smp) : Prop where
  len : (ss.length : Int) ≤ 20000
  t0 : 0 < ss.length → (smpD ss 0).t = 0
  inn : ∀ i, i < ss.length → 0 ≤ (smpD ss i).t ∧ (smpD ss i).t ≤ 1000000 ∧ inPlane (smpD ss i) ∧ (-100000 ≤ (smpD ss i).z ∧ (smpD ss i).z ≤ 100000) ∧ (-1 ≤ (smpD ss i).p ∧ (smpD ss i).p ≤ 300) ∧ (-1 ≤ (smpD ss i).q ∧ (smpD ss i).q ≤ 3000) ∧ (-1 ≤ (smpD ss i).s ∧ (smpD ss i).s ≤ 300)
  up : ∀ i, i + 1 < ss.length → (smpD ss i).t < (smpD ss (i + 1)).t
theorem sok_of {a : Act} (h : ActOk a) : SOk a.ss := by
  obtain ⟨hr, h0⟩ := smps_rise a.ss none h.smps
  have hin := smps_ok _ _ h.smps
  have t0 : 0 < a.ss.length → (smpD a.ss 0).t = 0 := fun hl => by
    have := h0 hl
    unfold early at this
    rw [smpD_at hl]; omega
  have up : ∀ i, i + 1 < a.ss.length → (smpD a.ss i).t < (smpD a.ss (i + 1)).t := fun i hi => by
    have := hr i hi
    rw [smpD_at hi, smpD_at (by omega : i < a.ss.length)]; exact this
  have pos : ∀ i, i < a.ss.length → 0 ≤ (smpD a.ss i).t := fun i => by
    induction i with
    | zero => intro hi; rw [t0 hi]; omega
    | succ i ih => intro hi; have := ih (by omega); have := up i hi; omega
  refine ⟨h.sl, t0, fun i hi => ?_, up⟩
  have := hin (smpD a.ss i) (by rw [smpD_at hi]; exact List.getElem_mem hi)
  unfold smpIn at this
  have hp := pos i hi
  unfold inPlane
  omega
end Go.Proofs.Ytgkhhfojioepgaa
namespace Go.Proofs.Ytgkhhfojioepgaa
open Go.RowKit
set_option linter.unusedSimpArgs false
set_option linter.unusedVariables false

theorem info_int : (Try.prog.info? 3).map (fun i => (i.zero, i.size, i.bytes)) = some (some (.int .i64 0), 1, 8) := by kernel_rfl
theorem lt_of_block {w : World} {k : Nat} {o : Obj} (h : w.heap[k]? = some o) : k < w.heap.size := (Array.getElem?_eq_some_iff.1 h).1
def iRow (n : Nat) (F : Nat → Int) : Array Value := ((List.range n).map fun k => Value.int .i64 (F k)).toArray
def updI (F : Nat → Int) (i : Nat) (v : Int) : Nat → Int := fun k => if k = i then v else F k
theorem iRow_get (n : Nat) (F : Nat → Int) (k : Nat) (h : k < n) : (iRow n F)[k]? = some (.int .i64 (F k)) := by simp [iRow, h]
theorem iRow_set (n : Nat) (F : Nat → Int) (k : Nat) (v : Int) : (iRow n F).setIfInBounds k (.int .i64 v) = iRow n (updI F k v) := by
  unfold iRow
  rw [List.setIfInBounds_toArray]
  congr 1
  apply List.ext_getElem
  · simp
  · intro i h1 h2
    rw [List.getElem_set]
    simp only [List.getElem_map, List.getElem_range, updI]
    by_cases e : k = i
    · rw [if_pos e, if_pos e.symm]
    · rw [if_neg e, if_neg (fun q => e q.symm)]
theorem iRow_congr {n : Nat} {F G : Nat → Int} (h : ∀ k, k < n → F k = G k) : iRow n F = iRow n G := by
  unfold iRow
  congr 1
  exact List.map_congr_left fun k hk => by rw [h k (List.mem_range.1 hk)]
theorem iRow_zero (n : Nat) : madeCells #[Value.int .i64 0] n = iRow n (fun _ => 0) := by
  apply Array.ext
  · simp [madeCells, iRow]
  · intro i h1 h2
    simp [madeCells, iRow, Nat.mod_one]

/-- A row of numbers in block g. -/
def RowAt (w : World) (g n : Nat) (F : Nat → Int) : Prop := w.heap[g]? = some (.cells (iRow n F) 3 (0, 0))
section
variable {w : World} {g n : Nat} {F : Nat → Int}
theorem RowAt.cell (h : RowAt w g n F) {k : Nat} (hk : k < n) : w.cell? ⟨g, k, none⟩ = some (.int .i64 (F k)) := by
  have h' : w.heap[g]? = _ := h
  simp [World.cell?, h', iRow_get n F k hk]
theorem RowAt.free (h : RowAt w g n F) (k : Nat) : w.frozen? ⟨g, k, none⟩ = false := by
  have h' : w.heap[g]? = _ := h
  simp [World.frozen?, h']
theorem RowAt.set (h : RowAt w g n F) (k : Nat) (v : Int) : RowAt (w.setCell ⟨g, k, none⟩ (.int .i64 v)) g n (updI F k v) := by
  have h' : w.heap[g]? = _ := h
  show (w.setCell ⟨g, k, none⟩ (.int .i64 v)).heap[g]? = _
  simp [World.setCell, Array.getElem?_modify, h', iRow_set]
theorem RowAt.far (h : RowAt w g n F) {g' : Nat} (ne : g ≠ g') (k : Nat) (v : Value) : RowAt (w.setCell ⟨g', k, none⟩ v) g n F := by
  show (w.setCell ⟨g', k, none⟩ v).heap[g]? = _
  rw [Below.heap_setCell _ _ _ _ ne]; exact h
theorem RowAt.same (h : RowAt w g n F) {w' : World} (e : w'.heap = w.heap) : RowAt w' g n F := by
  show w'.heap[g]? = _
  rw [e]; exact h
theorem RowAt.congr (h : RowAt w g n F) {G : Nat → Int} (e : ∀ k, k < n → F k = G k) : RowAt w g n G := by
  show w.heap[g]? = _
  rw [← iRow_congr e]; exact h
theorem RowAt.grown (h : RowAt w g n F) {w' : World} (hg : w.grownBy w' none) : RowAt w' g n F := by
  have h' : w.heap[g]? = _ := h
  show w'.heap[g]? = _
  rw [hg.block g (lt_of_block h') (by simp)]; exact h
end


end Go.Proofs.Ytgkhhfojioepgaa
namespace Go.Proofs.Ytgkhhfojioepgaa
open Go.RowKit
set_option linter.unusedSimpArgs false
set_option linter.unusedVariables false

theorem mflat_len {α : Type} (f : α → List Value) (c : Nat) (hf : ∀ x, (f x).length = c) : ∀ l : List α, (l.flatMap f).length = l.length * c
  | [] => by simp
  | x :: r => by rw [List.flatMap_cons, List.length_append, hf, mflat_len f c hf r, List.length_cons, Nat.add_mul]; omega
theorem mflat_at {α : Type} (f : α → List Value) (c : Nat) (hf : ∀ x, (f x).length = c) : ∀ (l : List α) (j i : Nat) (hj : j < l.length), i < c → (l.flatMap f)[j * c + i]? = (f l[j])[i]?
  | x :: r, 0, i, _, hi => by
    rw [List.flatMap_cons, List.getElem?_append_left (by rw [hf]; omega)]; simp
  | x :: r, j + 1, i, hj, hi => by
    rw [List.flatMap_cons, List.getElem?_append_right (by rw [hf, Nat.add_mul]; omega), hf]
    have e : (j + 1) * c + i - c = j * c + i := by rw [Nat.add_mul]; omega
    rw [e]
    exact mflat_at f c hf r j i (by simpa using hj) hi
theorem mflat_snoc {α : Type} (f : α → List Value) (l : List α) (x : α) : (l ++ [x]).flatMap f = l.flatMap f ++ f x := by simp
theorem madd_off (b o k : Nat) : (⟨b, o, none⟩ : Addr).add k = ⟨b, o + k, none⟩ := by unfold Addr.add; split <;> simp_all

theorem mblock_at {W W' : World} {row : Option Nat} {b : Nat} {o : Obj} (h : W.heap[b]? = some o) (hg : W.grownBy W' row) (hne : some b ≠ row) : W'.heap[b]? = some o := (hg.block b (Array.getElem?_eq_some_iff.1 h).1 hne).trans h
theorem mblock_cell {W : World} {B : Nat} {c : Array Value} {t : TypeId} (h : W.heap[B]? = some (.cells c t (0, 0))) (k : Nat) (v : Value) (hv : c[k]? = some v) : W.cell? ⟨B, k, none⟩ = some v := by simp [World.cell?, h, hv]
theorem mblock_free {W : World} {B k : Nat} {c : Array Value} {t : TypeId} (h : W.heap[B]? = some (.cells c t (0, 0))) : W.frozen? ⟨B, k, none⟩ = false := by simp [World.frozen?, h]
theorem mheap_new (w : World) (o : Obj) : (w.alloc o).heap[w.heap.size]? = some o := heap_alloc_new w o

theorem mgrown_set {w w1 : World} {b : Nat} (h : w.grownBy w1 none) (hb : w.heap.size ≤ b) (k : Nat) (v : Value) : w.grownBy (w1.setCell ⟨b, k, none⟩ v) none :=
  ⟨h.os, h.tape, h.output, Nat.le_trans h.size (by simp [World.setCell]), fun i hi hne => by
    rw [Below.heap_setCell _ _ _ _ (by show i ≠ b; omega)]; exact h.block i hi hne⟩

theorem mblock_set {W : World} {B k : Nat} {c : Array Value} {t : TypeId} (h : W.heap[B]? = some (.cells c t (0, 0))) (v : Value) : (W.setCell ⟨B, k, none⟩ v).heap[B]? = some (.cells (c.setIfInBounds k v) t (0, 0)) := by
  simp [World.setCell, Array.getElem?_modify, h]
theorem mblock_far {W : World} {b b2 : Nat} {o : Obj} (h : W.heap[b]? = some o) (hne : b ≠ b2) (k : Nat) (v : Value) : (W.setCell ⟨b2, k, none⟩ v).heap[b]? = some o := by rw [Below.heap_setCell _ _ _ _ hne]; exact h
theorem smps_at1 {w : World} {ao : Option Addr} {l : List Smp} (h : SmpsAt w ao l) (hne : 0 < l.length) : ∃ b off, ao = some ⟨b, off, none⟩ ∧ ∀ i (h : i < l.length), w.cell? ⟨b, off + i * 7, none⟩ = some (.int .i64 l[i].t) ∧ w.cell? ⟨b, off + i * 7 + 1, none⟩ = some (.int .i64 l[i].x) ∧ w.cell? ⟨b, off + i * 7 + 2, none⟩ = some (.int .i64 l[i].y) ∧ w.cell? ⟨b, off + i * 7 + 3, none⟩ = some (.int .i64 l[i].z) ∧ w.cell? ⟨b, off + i * 7 + 4, none⟩ = some (.int .i64 l[i].p) ∧ w.cell? ⟨b, off + i * 7 + 5, none⟩ = some (.int .i64 l[i].q) ∧ w.cell? ⟨b, off + i * 7 + 6, none⟩ = some (.int .i64 l[i].s) := by
  have hn : l ≠ [] := fun e => by rw [e] at hne; simp at hne
  cases hao : ao with
  | none => exact absurd (h.nil hao) hn
  | some p =>
    obtain ⟨b, off, spot⟩ := p
    have hsp := h.spot _ hao hn
    simp only at hsp
    subst hsp
    exact ⟨b, off, rfl, fun i hi => h.cells _ hao i hi⟩

/-- Elements of K cells lie at an address. -/
structure RowsAt {α : Type} (cs : α → List Value) (K : Nat) (w : World) (ao : Option Addr) (l : List α) : Prop where
  nil : ao = none → l = []
  spot : ∀ a, ao = some a → l ≠ [] → a.spot = none
  cells : ∀ a, ao = some a → ∀ i (h : i < l.length) k v, (cs l[i])[k]? = some v → w.cell? ⟨a.block, a.off + i * K + k, none⟩ = some v
section
variable {α : Type} {cs : α → List Value} {K : Nat} {w w' : World} {ao : Option Addr} {l : List α}
theorem RowsAt.grown (h : RowsAt cs K w ao l) (g : w.grownBy w' none) : RowsAt cs K w' ao l :=
  ⟨h.nil, h.spot, fun a ha i hi k v hv => grown_cell g (h.cells a ha i hi k v hv)⟩
theorem RowsAt.kept (h : RowsAt cs K w ao l) {row : Option Nat} (g : w.grownBy w' row) (hr : ∀ a, ao = some a → l ≠ [] → some a.block ≠ row) : RowsAt cs K w' ao l :=
  ⟨h.nil, h.spot, fun a ha i hi k v hv => g.cell (h.cells a ha i hi k v hv) (hr a ha (fun e => by subst e; simp at hi))⟩
theorem rows_empty (a : Option Addr) : RowsAt cs K w a [] := ⟨fun _ => rfl, fun _ _ h => absurd rfl h, fun _ _ _ h => absurd h (Nat.not_lt_zero _)⟩
theorem rows_at (h : RowsAt cs K w ao l) (hl : 0 < l.length) : ∃ g o, ao = some ⟨g, o, none⟩ ∧ ∀ i (hi : i < l.length) k v, (cs l[i])[k]? = some v → w.cell? ⟨g, o + i * K + k, none⟩ = some v := by
  have hne : l ≠ [] := fun e => by subst e; simp at hl
  cases ao with
  | none => exact absurd (h.nil rfl) hne
  | some a =>
    have hs := h.spot a rfl hne
    obtain ⟨b, o, s⟩ := a
    simp only at hs; subst hs
    exact ⟨b, o, rfl, fun i hi k v hv => h.cells _ rfl i hi k v hv⟩
theorem rows_block {g : Nat} {t : TypeId} {c : Array Value} (hcs : ∀ x, (cs x).length = K) (h : w.heap[g]? = some (.cells c t (0, 0))) (hc : c.toList = l.flatMap cs) : RowsAt cs K w (some ⟨g, 0, none⟩) l :=
  ⟨fun h => by simp at h, fun a ha _ => by cases ha; rfl, fun a ha i hi k v hv => by
    cases ha
    have hk : k < K := by rw [← hcs l[i]]; exact (List.getElem?_eq_some_iff.1 hv).1
    refine mblock_cell h _ v ?_
    rw [← Array.getElem?_toList, hc, Nat.zero_add, mflat_at cs K hcs l i k hi hk]; exact hv⟩
theorem own_rows {base : Nat} {e : TypeId} {v : Value} (hcs : ∀ x, (cs x).length = K) (h : w.ownsRow base e K v l.length (l.flatMap cs)) : ∃ ao cap, v = .slice ao l.length cap ∧ l.length ≤ cap ∧ RowsAt cs K w ao l ∧ (∀ a, ao = some a → base ≤ a.block ∧ a.block < w.heap.size) := by
  have hlt := h.lt
  rcases h.2 with ⟨hv, h0⟩ | ⟨g, cap, cur, hv, hb, hg, hle, _⟩
  · have hl : l = [] := List.eq_nil_of_length_eq_zero h0
    subst hl
    exact ⟨none, 0, hv, Nat.le_refl _, rows_empty none, fun a h => by simp at h⟩
  · refine ⟨some ⟨g, 0, none⟩, cap, hv, hle, ⟨fun h => by simp at h, fun a ha _ => by cases ha; rfl, fun a ha i hi k u hu => ?_⟩, fun a ha => by cases ha; exact hlt g (by rw [hv]; rfl)⟩
    cases ha
    have hk : k < K := by rw [← hcs l[i]]; exact (List.getElem?_eq_some_iff.1 hu).1
    have := h.cells (g := g) (by rw [hv]; rfl) (i * K + k) u (by rw [mflat_at cs K hcs l i k hi hk]; exact hu)
    rw [madd_off] at this; simpa [Nat.add_assoc] using this
end
end Go.Proofs.Ytgkhhfojioepgaa
namespace Go.Proofs.Ytgkhhfojioepgaa
open Go.Joins Go.ChangeShapes Go.WideShapes Go.RowKit Go.Deep
set_option linter.unusedSimpArgs false
set_option linter.unusedVariables false

theorem addr_plus {a : Addr} (h : a.spot = none) (n : Nat) : a.add n = ⟨a.block, a.off + n, none⟩ := by
  obtain ⟨b, o, s⟩ := a
  simp only at h
  subst h
  unfold Addr.add
  split
  · rename_i h; subst h; rfl
  · rfl

theorem cells_smp : Try.prog.cellsOf 28 = 7 := by kernel_rfl
theorem cells_lap : Try.prog.cellsOf 77 = 3 := by kernel_rfl
theorem cells_act : Try.prog.cellsOf 26 = 6 := by kernel_rfl
theorem cells_str : Try.prog.cellsOf 9 = 1 := by kernel_rfl

section
variable {H : Type} {enc : TypeId × Value → H} {w : World} {base : Nat} {spare : Nat → Bool} {held : Bool} {P : Program}

theorem weights_all {e : TypeId} {d : DataW H} {n : Nat} (hn : n ∈ d.weights P e) : ∀ {ds : List (DataW H)}, d ∈ ds → n ∈ DataW.weightsAll P e ds
  | d0 :: r, h => by
    rcases List.mem_cons.1 h with rfl | h
    · simp only [DataW.weightsAll, List.mem_append]; exact .inl hn
    · simp only [DataW.weightsAll, List.mem_append]; exact .inr (weights_all hn h)

theorem weights_agg {t : TypeId} {fs : Array Field} (hs : P.underlying t = some (.struct fs)) {ys : List (DataW H × List MemPlace)} {j : Nat} {f : Field} {y : DataW H × List MemPlace} (hf : fs[j]? = some f) (hy : ys[j]? = some y) :
    ∀ n ∈ y.1.weights P f.type, n ∈ (DataW.agg (ys.map (·.1))).weights P t := fun n hn => by
  simp only [DataW.weights, hs]
  exact DataW.weights_mem_each (j := j) (t := f.type) (d := y.1) (by rw [List.getElem?_map, Array.getElem?_toList, hf]; rfl) (by rw [List.getElem?_map, hy]; rfl) n hn

theorem weights_slice {t e : TypeId} (hs : P.underlying t = some (.slice e)) {els sp : List (DataW H)} {d : DataW H} (hd : d ∈ els) :
    ∀ n ∈ d.weights P e, n ∈ (DataW.slice els sp).weights P t := fun n hn => by
  simp only [DataW.weights, hs, List.mem_cons, List.mem_append]
  exact .inr (.inl (weights_all hn hd))

/-- The fields of a struct of one-cell fields that was read. -/
theorem fields_in {e : TypeId} {fs : Array Field} {n : Nat} {cs : List Value} {x : DataW H × List MemPlace} (he : P.underlying e = some (.struct fs)) (hone : oneCellFields P fs = true) (hC : P.cellsOf e = fs.size)
    (h : DataW.trod enc P w base spare held n e cs = some x) :
    ∃ (ys : List (DataW H × List MemPlace)) (n' : Nat), x.1 = .agg (ys.map (·.1)) ∧ cs.length = fs.size ∧
      ∀ (j : Nat) (f : Field), fs[j]? = some f → ∃ (v : Value) (y : DataW H × List MemPlace), cs[j]? = some v ∧ ys[j]? = some y ∧ DataW.trod enc P w base spare held n' f.type [v] = some y := by
  obtain ⟨ys, n', _, hx, hlen, hyl, hf⟩ := DataW.trod_struct he h
  rw [hC] at hlen
  refine ⟨ys, n', by rw [hx], hlen, fun j f hj => ?_⟩
  obtain ⟨ho, hk⟩ := hone_of hone j f hj
  have hjl : j < fs.size := (Array.getElem?_eq_some_iff.1 hj).1
  have h1 := hf j f hj
  have hys : ys[j]? = some (ys[j]'(by omega)) := List.getElem?_eq_getElem (by omega)
  have ht : (cs.drop f.offset).take (P.cellsOf f.type) = [cs[j]'(by omega)] := by
    rw [ho, hk, List.drop_eq_getElem_cons (by omega)]; rfl
  rw [ht] at h1
  exact ⟨_, _, List.getElem?_eq_getElem (by omega), hys, h1.trans hys⟩

/-- One field: its cell. -/
theorem field_in {e : TypeId} {fs : Array Field} {n : Nat} {a : Addr} {cs : List Value} {x : DataW H × List MemPlace} (he : P.underlying e = some (.struct fs)) (hone : oneCellFields P fs = true) (hC : P.cellsOf e = fs.size)
    (hc : w.cells? base a (P.cellsOf e) = some cs) (h : DataW.trod enc P w base spare held n e cs = some x) :
    ∃ (ys : List (DataW H × List MemPlace)) (n' : Nat), x.1 = .agg (ys.map (·.1)) ∧
      ∀ (j : Nat) (f : Field), fs[j]? = some f → ∃ (v : Value) (y : DataW H × List MemPlace), w.cell? (a.add j) = some v ∧ ys[j]? = some y ∧ DataW.trod enc P w base spare held n' f.type [v] = some y := by
  obtain ⟨ys, n', hx, hlen, hf⟩ := fields_in he hone hC h
  obtain ⟨_, _, hat⟩ := World.cells?_some hc
  refine ⟨ys, n', hx, fun j f hj => ?_⟩
  obtain ⟨v, y, hv, hy, ht⟩ := hf j f hj
  have hjl : j < fs.size := (Array.getElem?_eq_some_iff.1 hj).1
  exact ⟨v, y, by rw [hat j (by omega), hv], hy, ht⟩

/-- A number's field. -/
theorem int_in {n : Nat} {v : Value} {y : DataW H × List MemPlace} (h : DataW.trod enc Try.prog w base spare held n 3 [v] = some y) : ∃ z : Int, v = .int .i64 z := by
  obtain ⟨z, hz, _, _⟩ := DataW.trod_int Try.underlying3 h
  simp only [List.cons.injEq, and_true] at hz
  exact ⟨z, hz⟩

/-- A string's field. -/
theorem str_in {n : Nat} {v : Value} {y : DataW H × List MemPlace} (h : DataW.trod enc Try.prog w base spare held n 9 [v] = some y) (hz : ∀ m ∈ y.1.weights Try.prog 9, m ≤ reachBytes) : ∃ s : ByteArray, v = .string s ∧ s.size ≤ 140737488355328 := by
  obtain ⟨s, hs, rfl, _⟩ := DataW.trod_string Try.underlying9 h
  simp only [List.cons.injEq, and_true] at hs
  refine ⟨s, hs, ?_⟩
  have := hz s.data.toList.length (by simp [DataW.weights])
  rw [Array.length_toList] at this
  exact Nat.le_trans this (by decide)

theorem samples_in {fuel : Nat} {v : Value} {y : DataW H × List MemPlace} (h : DataW.trod enc Try.prog w base spare held fuel 22 [v] = some y) :
    ∃ (ao : Option Addr) (cap : Nat) (l : List Smp), v = .slice ao l.length cap ∧ l.length ≤ cap ∧ (cap : Int) ≤ 9223372036854775807 ∧ SmpsAt w ao l := by
  rcases open_slice Try.underlying22 h with ⟨hcs, _⟩ | ⟨a, len, cap, m, n', D, Pl, hcs, hb, hl, hm, hmm, hx, hi⟩
  · simp only [List.cons.injEq, and_true] at hcs
    exact ⟨none, 0, [], hcs, Nat.le_refl _, by simp, ⟨fun _ => rfl, fun a h => by simp at h, fun a h => by simp at h⟩⟩
  · simp only [List.cons.injEq, and_true] at hcs
    subst hcs
    have hlm : len ≤ m := by rw [hmm]; split <;> omega
    have hall : ∀ i, ∃ q : Smp, i < len → w.cell? ((a.add (i * 7)).add 0) = some (.int .i64 q.t) ∧ w.cell? ((a.add (i * 7)).add 1) = some (.int .i64 q.x) ∧ w.cell? ((a.add (i * 7)).add 2) = some (.int .i64 q.y) ∧ w.cell? ((a.add (i * 7)).add 3) = some (.int .i64 q.z) ∧ w.cell? ((a.add (i * 7)).add 4) = some (.int .i64 q.p) ∧ w.cell? ((a.add (i * 7)).add 5) = some (.int .i64 q.q) ∧ w.cell? ((a.add (i * 7)).add 6) = some (.int .i64 q.s) := fun i => by
      by_cases h : i < len
      · obtain ⟨cs', hc, ht⟩ := hi i (by omega)
        obtain ⟨ys, n2, _, hf⟩ := field_in Try.underlying28 (by kernel_rfl) (by kernel_rfl) hc ht
        rw [cells_smp] at hf
        obtain ⟨v0, y0, c0, _, t0⟩ := hf 0 _ rfl
        obtain ⟨v1, y1, c1, _, t1⟩ := hf 1 _ rfl
        obtain ⟨v2, y2, c2, _, t2⟩ := hf 2 _ rfl
        obtain ⟨v3, y3, c3, _, t3⟩ := hf 3 _ rfl
        obtain ⟨v4, y4, c4, _, t4⟩ := hf 4 _ rfl
        obtain ⟨v5, y5, c5, _, t5⟩ := hf 5 _ rfl
        obtain ⟨v6, y6, c6, _, t6⟩ := hf 6 _ rfl
        obtain ⟨z0, rfl⟩ := int_in t0
        obtain ⟨z1, rfl⟩ := int_in t1
        obtain ⟨z2, rfl⟩ := int_in t2
        obtain ⟨z3, rfl⟩ := int_in t3
        obtain ⟨z4, rfl⟩ := int_in t4
        obtain ⟨z5, rfl⟩ := int_in t5
        obtain ⟨z6, rfl⟩ := int_in t6
        exact ⟨⟨z0, z1, z2, z3, z4, z5, z6⟩, fun _ => ⟨c0, c1, c2, c3, c4, c5, c6⟩⟩
      · exact ⟨⟨0, 0, 0, 0, 0, 0, 0⟩, fun h' => absurd h' h⟩
    obtain ⟨F, hF⟩ := Classical.skolem.1 hall
    have hsp : 0 < len → a.spot = none := fun h => by
      have := (hF 0 h).1
      simpa [Addr.add] using World.cell?_spot this
    refine ⟨some a, cap, (List.range len).map F, by simp, by simpa using hl, ?_, ⟨fun h => by simp at h, fun a' h hne => ?_, fun a' h i hi' => ?_⟩⟩
    · unfold maxLen at hm
      exact Int.ofNat_le.2 hm
    · cases h
      exact hsp (by cases len with | zero => simp at hne | succ n => omega)
    · cases h
      simp only [List.length_map, List.length_range] at hi'
      have hs := hsp (by omega)
      have := hF i hi'
      simp only [addr_plus hs, addr_plus (a := ⟨a.block, a.off + i * 7, none⟩) rfl] at this
      simpa [Nat.add_assoc] using this

theorem laps_in {fuel : Nat} {v : Value} {y : DataW H × List MemPlace} (h : DataW.trod enc Try.prog w base spare held fuel 23 [v] = some y) (hz : ∀ m ∈ y.1.weights Try.prog 23, m ≤ reachBytes) :
    ∃ (ao : Option Addr) (cap : Nat) (l : List LapV), v = .slice ao l.length cap ∧ l.length ≤ cap ∧ (cap : Int) ≤ 9223372036854775807 ∧ LapsAt w ao l := by
  rcases open_slice Try.underlying23 h with ⟨hcs, _⟩ | ⟨a, len, cap, m, n', D, Pl, hcs, hb, hl, hm, hmm, hx, hi⟩
  · simp only [List.cons.injEq, and_true] at hcs
    exact ⟨none, 0, [], hcs, Nat.le_refl _, by simp, ⟨fun _ => rfl, fun a h => by simp at h, fun a h => by simp at h, fun i h => by simp at h⟩⟩
  · simp only [List.cons.injEq, and_true] at hcs
    subst hcs; subst hx
    have hlm : len ≤ m := by rw [hmm]; split <;> omega
    have hall : ∀ i, ∃ q : LapV, i < len → (w.cell? ((a.add (i * 3)).add 0) = some (.int .i64 q.fr) ∧ w.cell? ((a.add (i * 3)).add 1) = some (.int .i64 q.to_) ∧ w.cell? ((a.add (i * 3)).add 2) = some (.string q.name)) ∧ q.name.size ≤ 140737488355328 := fun i => by
      by_cases h : i < len
      · obtain ⟨cs', hc, ht⟩ := hi i (by omega)
        obtain ⟨ys, n2, hx1, hf⟩ := field_in Try.underlying77 (by kernel_rfl) (by kernel_rfl) hc ht
        rw [cells_lap] at hf
        obtain ⟨v0, y0, c0, _, t0⟩ := hf 0 _ rfl
        obtain ⟨v1, y1, c1, _, t1⟩ := hf 1 _ rfl
        obtain ⟨v2, y2, c2, hy2, t2⟩ := hf 2 _ rfl
        obtain ⟨z0, rfl⟩ := int_in t0
        obtain ⟨z1, rfl⟩ := int_in t1
        obtain ⟨z2, rfl, hz2⟩ := str_in t2 (fun k hk => hz k (weights_slice Try.underlying23 (List.mem_map.2 ⟨i, List.mem_range.2 h, rfl⟩) k (by
          simp only at hx1
          rw [hx1]
          exact weights_agg Try.underlying77 (j := 2) rfl hy2 k hk)))
        exact ⟨⟨z0, z1, z2⟩, fun _ => ⟨⟨c0, c1, c2⟩, hz2⟩⟩
      · exact ⟨⟨0, 0, ByteArray.empty⟩, fun h' => absurd h' h⟩
    obtain ⟨F, hF⟩ := Classical.skolem.1 hall
    have hsp : 0 < len → a.spot = none := fun h => by
      have := (hF 0 h).1.1
      simpa [Addr.add] using World.cell?_spot this
    refine ⟨some a, cap, (List.range len).map F, by simp, by simpa using hl, ?_, ⟨fun h => by simp at h, fun a' h hne => ?_, fun a' h i hi' => ?_, fun i hi' => ?_⟩⟩
    · unfold maxLen at hm
      exact Int.ofNat_le.2 hm
    · cases h
      exact hsp (by cases len with | zero => simp at hne | succ n => omega)
    · cases h
      simp only [List.length_map, List.length_range] at hi'
      have hs := hsp (by omega)
      have := (hF i hi').1
      simp only [addr_plus hs, addr_plus (a := ⟨a.block, a.off + i * 3, none⟩) rfl] at this
      simpa [Nat.add_assoc] using this
    · simp only [List.length_map, List.length_range] at hi'
      simpa using (hF i hi').2

theorem tags_in {fuel : Nat} {v : Value} {y : DataW H × List MemPlace} (h : DataW.trod enc Try.prog w base spare held fuel 24 [v] = some y) (hz : ∀ m ∈ y.1.weights Try.prog 24, m ≤ reachBytes) :
    ∃ (ao : Option Addr) (cap : Nat) (l : List ByteArray), v = .slice ao l.length cap ∧ l.length ≤ cap ∧ (cap : Int) ≤ 9223372036854775807 ∧ TagsAt w ao l := by
  rcases open_slice1 Try.underlying24 cells_str h with ⟨hcs, _⟩ | ⟨a, len, cap, m, n', V, D, Pl, hcs, hb, hl, hm, hmm, hx, hi⟩
  · simp only [List.cons.injEq, and_true] at hcs
    exact ⟨none, 0, [], hcs, Nat.le_refl _, by simp, ⟨fun _ => rfl, fun a h => by simp at h, fun a h => by simp at h, fun i h => by simp at h⟩⟩
  · simp only [List.cons.injEq, and_true] at hcs
    subst hcs; subst hx
    have hlm : len ≤ m := by rw [hmm]; split <;> omega
    have hall : ∀ i, ∃ q : ByteArray, i < len → w.cell? (a.add i) = some (.string q) ∧ q.size ≤ 140737488355328 := fun i => by
      by_cases h : i < len
      · obtain ⟨hc, ht⟩ := hi i (by omega)
        obtain ⟨z, hz1, hz2⟩ := str_in ht (fun k hk => hz k (weights_slice Try.underlying24 (List.mem_map.2 ⟨i, List.mem_range.2 h, rfl⟩) k hk))
        exact ⟨z, fun _ => ⟨by rw [hc, hz1], hz2⟩⟩
      · exact ⟨ByteArray.empty, fun h' => absurd h' h⟩
    obtain ⟨F, hF⟩ := Classical.skolem.1 hall
    have hsp : 0 < len → a.spot = none := fun h => by
      have := (hF 0 h).1
      simpa [Addr.add] using World.cell?_spot this
    refine ⟨some a, cap, (List.range len).map F, by simp, by simpa using hl, ?_, ⟨fun h => by simp at h, fun a' h hne => ?_, fun a' h i hi' => ?_, fun i hi' => ?_⟩⟩
    · unfold maxLen at hm
      exact Int.ofNat_le.2 hm
    · cases h
      exact hsp (by cases len with | zero => simp at hne | succ n => omega)
    · cases h
      simp only [List.length_map, List.length_range] at hi'
      have hs := hsp (by omega)
      have := (hF i hi').1
      rw [addr_plus hs] at this
      simpa using this
    · simp only [List.length_map, List.length_range] at hi'
      simpa using (hF i hi').2

/-- The fields of a struct that is an argument. -/
theorem agg_in {r : Reach} {b0 : Nat} {t : TypeId} {fs : Array Field} {v : Value} {d : DataW H} {p : List MemPlace} (hs : P.underlying t = some (.struct fs)) (hone : oneCellFields P fs = true) (hC : P.cellsOf t = fs.size)
    (hv : Value.okWide P w r b0 t v) (h : DataW.Trod enc P w base spare held t v d p) :
    ∃ (l : List Value) (ys : List (DataW H × List MemPlace)) (n : Nat), v = .agg l.toArray ∧ l.length = fs.size ∧ d = .agg (ys.map (·.1)) ∧
      ∀ (j : Nat) (f : Field), fs[j]? = some f → ∃ (c : Value) (y : DataW H × List MemPlace), l[j]? = some c ∧ ys[j]? = some y ∧ DataW.trod enc P w base spare held n f.type [c] = some y := by
  obtain ⟨cs, rfl, hsz⟩ := okWide_struct hs hv
  obtain ⟨l⟩ := cs
  obtain ⟨fuel, hf⟩ := h
  obtain ⟨ys, n, hx, hlen, hg⟩ := fields_in hs hone hC hf
  exact ⟨l, ys, n, rfl, hlen, hx, hg⟩

set_option maxRecDepth 100000 in
theorem smp_in {r : Reach} {b0 : Nat} {v : Value} {d : DataW H} {p : List MemPlace} (hv : Value.okWide Try.prog w r b0 28 v) (h : DataW.Trod enc Try.prog w base spare held 28 v d p) :
    ∃ s : Smp, v = .agg #[.int .i64 s.t, .int .i64 s.x, .int .i64 s.y, .int .i64 s.z, .int .i64 s.p, .int .i64 s.q, .int .i64 s.s] := by
  obtain ⟨l, ys, n, rfl, hl, _, hf⟩ := agg_in (enc := enc) (w := w) (P := Try.prog) (t := 28) Try.underlying28 (by kernel_rfl) (by kernel_rfl) hv h
  match l, hl with
  | [v0, v1, v2, v3, v4, v5, v6], _ =>
    obtain ⟨_, y0, c0, _, t0⟩ := hf 0 _ rfl
    obtain ⟨_, y1, c1, _, t1⟩ := hf 1 _ rfl
    obtain ⟨_, y2, c2, _, t2⟩ := hf 2 _ rfl
    obtain ⟨_, y3, c3, _, t3⟩ := hf 3 _ rfl
    obtain ⟨_, y4, c4, _, t4⟩ := hf 4 _ rfl
    obtain ⟨_, y5, c5, _, t5⟩ := hf 5 _ rfl
    obtain ⟨_, y6, c6, _, t6⟩ := hf 6 _ rfl
    obtain ⟨z0, rfl⟩ := int_in t0
    obtain ⟨z1, rfl⟩ := int_in t1
    obtain ⟨z2, rfl⟩ := int_in t2
    obtain ⟨z3, rfl⟩ := int_in t3
    obtain ⟨z4, rfl⟩ := int_in t4
    obtain ⟨z5, rfl⟩ := int_in t5
    obtain ⟨z6, rfl⟩ := int_in t6
    cases c0; cases c1; cases c2; cases c3; cases c4; cases c5; cases c6
    exact ⟨⟨z0, z1, z2, z3, z4, z5, z6⟩, rfl⟩

set_option maxRecDepth 100000 in
theorem act_in {r : Reach} {b0 : Nat} {v : Value} {d : DataW H} {p : List MemPlace} (hv : Value.okWide Try.prog w r b0 26 v) (h : DataW.Trod enc Try.prog w base spare held 26 v d p)
    (hz : ∀ m ∈ d.weights Try.prog 26, m ≤ reachBytes) :
    ∃ a : Act, v = a.val ∧ ActAt w a ∧ a.ss.length ≤ a.sc ∧ (a.sc : Int) ≤ 9223372036854775807 := by
  obtain ⟨l, ys, n, rfl, hl, rfl, hf⟩ := agg_in (enc := enc) (w := w) (P := Try.prog) (t := 26) Try.underlying26 (by kernel_rfl) (by kernel_rfl) hv h
  match l, hl with
  | [v0, v1, v2, v3, v4, v5], _ =>
    obtain ⟨_, y0, c0, e0, t0⟩ := hf 0 _ rfl
    obtain ⟨_, y1, c1, _, t1⟩ := hf 1 _ rfl
    obtain ⟨_, y2, c2, _, t2⟩ := hf 2 _ rfl
    obtain ⟨_, y3, c3, _, t3⟩ := hf 3 _ rfl
    obtain ⟨_, y4, c4, e4, t4⟩ := hf 4 _ rfl
    obtain ⟨_, y5, c5, e5, t5⟩ := hf 5 _ rfl
    obtain ⟨nm, rfl, hnm⟩ := str_in t0 (fun k hk => hz k (weights_agg Try.underlying26 (j := 0) rfl e0 k hk))
    obtain ⟨z1, rfl⟩ := int_in t1
    obtain ⟨z2, rfl⟩ := int_in t2
    obtain ⟨so, sc, ss, rfl, hs1, hs2, hs3⟩ := samples_in t3
    obtain ⟨lo, lc, ls, rfl, hl1, hl2, hl3⟩ := laps_in t4 (fun k hk => hz k (weights_agg Try.underlying26 (j := 4) rfl e4 k hk))
    obtain ⟨to_, tc, ts, rfl, ht1, ht2, ht3⟩ := tags_in t5 (fun k hk => hz k (weights_agg Try.underlying26 (j := 5) rfl e5 k hk))
    cases c0; cases c1; cases c2; cases c3; cases c4; cases c5
    exact ⟨⟨nm, z1, z2, so, sc, ss, lo, lc, ls, to_, tc, ts⟩, rfl, ⟨hnm, by show (ss.length : Int) ≤ _; omega, by show (ls.length : Int) ≤ _; omega, by show (ts.length : Int) ≤ _; omega, hs3, hl3, ht3⟩, hs1, hs2⟩

theorem sized_at {ts : List TypeId} {ds : List (DataW H)} (h : (DataW.weightsEach P ts ds).all (· ≤ reachBytes) = true) {j : Nat} {t : TypeId} {d : DataW H} (ht : ts[j]? = some t) (hd : ds[j]? = some d) : ∀ m ∈ d.weights P t, m ≤ reachBytes := fun m hm => by
  simpa using List.all_eq_true.1 h m (DataW.weights_mem_each ht hd m hm)
end
end Go.Proofs.Ytgkhhfojioepgaa
namespace Go.Proofs.Ytgkhhfojioepgaa
open Go.RowKit
set_option linter.unusedSimpArgs false
set_option linter.unusedVariables false

theorem lapsE_end {sp e : Int} {l : List LapV} {k : Nat} (h : l.length ≤ k) : lapsE sp e (l.drop k) = 0 := by
  rw [List.drop_eq_nil_of_le h]; rfl
theorem lapsE_at {sp e : Int} {l : List LapV} {k : Nat} (h : k < l.length) : lapsE sp e (l.drop k) = if l[k].fr < 0 ∨ l[k].to_ ≤ l[k].fr ∨ sp < l[k].to_ then 9 else if l[k].fr < e then 10 else if lapNameB l[k].name = true then lapsE sp l[k].to_ (l.drop (k + 1)) else 8 := by
  rw [List.drop_eq_getElem_cons h, lapsE]

set_option maxHeartbeats 1600000 in
theorem chkLaps_some (span : Int) (b off cap : Nat) (ls : List LapV) (hl : (ls.length : Int) ≤ 9223372036854775807) (w : World) (hs : LapsAt w (some ⟨b, off, none⟩) ls) {E : Int} (hE : Hid (lapsE span 0 ls = E)) :
    Calls Try.prog 116 #[.slice (some ⟨b, off, none⟩) ls.length cap, .int .i64 span] w fun e w' => e = .returned (.int .i64 E) ∧ w.grownBy w' none := by
  have HS := Lib.hid hs; clear hs
  go_enter Try.func116, Try.ntmps116
  go_wp2
  go_loopw [5, 10] (fun ev iv wr => ∃ (k : Nat) (en : Int), k ≤ ls.length ∧ ev = .int .i64 en ∧ iv = .int .i64 k ∧ w.grownBy wr none ∧ Hid (lapsE span en (ls.drop k) = E))
    (fun _ iv _ => ls.length - (intOf iv).toNat)
  case atStart => exact ⟨0, 0, Nat.zero_le _, rfl, rfl, grown_refl _ _, hE.out⟩
  case round =>
    obtain ⟨k, en, hk, rfl, rfl, hg, hw⟩ := hrel
    by_cases hlt : k < ls.length
    · obtain ⟨c0, c1, c2⟩ := HS.out.cells _ rfl k hlt
      replace c0 := grown_cell hg c0; replace c1 := grown_cell hg c1; replace c2 := grown_cell hg c2
      simp only at c0 c1 c2
      have hsz := HS.out.sizes k hlt
      have HW : Hid (_ = E) := Lib.hid ((lapsE_at (sp := span) (e := en) hlt).symm.trans hw.out)
      generalize ls[k] = x at *
      obtain ⟨fr, tt, nm⟩ := x
      simp only at c0 c1 c2 HW hsz
      have HLT := Lib.hid hlt; have HZ := Lib.hid hsz
      clear hsz hw
      have G := grown_trans hg (World.grownBy_alloc wr (.cells #[.int .i64 fr, .int .i64 tt, .string nm] 77) none)
      by_cases a1 : fr < 0
      · have HE : Hid (E = 9) := by show _ = _; rw [← HW.out, if_pos (by omega)]
        clear HW
        go_wp2
        go_ret
        exact ⟨ret_int HE.out.symm, G⟩
      by_cases a2 : tt ≤ fr
      · have HE : Hid (E = 9) := by show _ = _; rw [← HW.out, if_pos (by omega)]
        clear HW
        go_wp2
        go_ret
        exact ⟨ret_int HE.out.symm, G⟩
      by_cases a3 : span < tt
      · have HE : Hid (E = 9) := by show _ = _; rw [← HW.out, if_pos (by omega)]
        clear HW
        go_wp2
        go_ret
        exact ⟨ret_int HE.out.symm, G⟩
      by_cases a4 : fr < en
      · have HE : Hid (E = 10) := by show _ = _; rw [← HW.out, if_neg (by omega), if_pos a4]
        clear HW
        go_wp2
        go_ret
        exact ⟨ret_int HE.out.symm, G⟩
      by_cases a5 : lapNameB nm = true
      · have HE : Hid (lapsE span tt (ls.drop (k + 1)) = E) := by show _ = _; rw [← HW.out, if_neg (by omega), if_neg a4, if_pos a5]
        have H5 := Lib.hid a5
        clear HW a5
        go_wp2_with (go_at_call 159; refine (isLapName_is nm HZ.out _ H5).mono ?_; rintro e w1 ⟨rfl, rfl⟩)
        go_roundw
        case rel => exact ⟨k + 1, tt, by have := HLT.out; omega, rfl, by go_num, G, HE⟩
        case measure => have := HLT.out; simp [intOf]; omega
      · have HE : Hid (E = 8) := by show _ = _; rw [← HW.out, if_neg (by omega), if_neg a4, if_neg a5]
        have H5 : Hid (lapNameB nm = false) := by show _ = _; simpa using a5
        clear HW a5
        go_wp2_with (go_at_call 159; refine (isLapName_is nm HZ.out _ H5).mono ?_; rintro e w1 ⟨rfl, rfl⟩)
        go_ret
        exact ⟨ret_int HE.out.symm, G⟩
    · have HV : Hid (E = 0) := by show _ = _; rw [← hw.out]; exact lapsE_end (by omega)
      go_wp2
      go_ret
      exact ⟨ret_int HV.out.symm, hg⟩

def prevG (l : List ByteArray) : Nat → Option ByteArray
  | 0 => none
  | k + 1 => l[k]?
theorem prevG_succ (l : List ByteArray) (k : Nat) : prevG l (k + 1) = l[k]? := rfl
theorem tagsE_end {e : Option ByteArray} {l : List ByteArray} {k : Nat} (h : l.length ≤ k) : tagsE e (l.drop k) = 0 := by
  rw [List.drop_eq_nil_of_le h]; rfl
theorem tagsE_at {e : Option ByteArray} {l : List ByteArray} {k : Nat} (h : k < l.length) : tagsE e (l.drop k) = if nameB l[k] = true then (if soonT e l[k] = true then 10 else tagsE (prevG l (k + 1)) (l.drop (k + 1))) else 8 := by
  rw [List.drop_eq_getElem_cons h, tagsE, prevG_succ, List.getElem?_eq_getElem h]

set_option maxHeartbeats 1600000 in
theorem chkTags_some (b off cap : Nat) (ts : List ByteArray) (hl : (ts.length : Int) ≤ 9223372036854775807) (w : World) (hs : TagsAt w (some ⟨b, off, none⟩) ts) {E : Int} (hE : Hid (tagsE none ts = E)) :
    Calls Try.prog 117 #[.slice (some ⟨b, off, none⟩) ts.length cap] w fun e w' => e = .returned (.int .i64 E) ∧ w = w' := by
  have HS := Lib.hid hs; clear hs
  go_enter Try.func117, Try.ntmps117
  go_wp2
  go_loop [7] (fun iv => ∃ (k : Nat), k ≤ ts.length ∧ iv = .int .i64 k ∧ Hid (tagsE (prevG ts k) (ts.drop k) = E))
    (fun iv => ts.length - (intOf iv).toNat)
  case atStart => exact ⟨0, Nat.zero_le _, rfl, hE.out⟩
  case round =>
    obtain ⟨k, hk, rfl, hw⟩ := hrel
    by_cases hlt : k < ts.length
    · have c0 := HS.out.cells _ rfl k hlt
      simp only at c0
      have hsz := HS.out.sizes k hlt
      have HW : Hid (_ = E) := Lib.hid ((tagsE_at (e := prevG ts k) hlt).symm.trans hw.out)
      generalize ts[k] = x at *
      have HLT := Lib.hid hlt; have HZ := Lib.hid hsz
      clear hsz hw
      by_cases a5 : nameB x = true
      · have H5 := Lib.hid a5
        by_cases hk0 : k = 0
        · have HE : Hid (tagsE (prevG ts (k + 1)) (ts.drop (k + 1)) = E) := by
            show _ = _; rw [← HW.out, if_pos a5, hk0]; rfl
          have e2 : decide (0 < (k : Int)) = false := by simp; omega
          have e3 : decide (0 < k) = false := by simp; omega
          have HK := Lib.hid hk0
          clear HW a5 hk0
          go_wp2_with (go_at_call 114; refine (isName_is x HZ.out _ H5).mono ?_; rintro e w1 ⟨rfl, rfl⟩)
          go_round
          case rel => exact ⟨k + 1, by have := HLT.out; omega, by go_num, HE⟩
          case measure => have := HLT.out; simp [intOf]; omega
        · obtain ⟨i, hki⟩ : ∃ i, k = i + 1 := ⟨k - 1, by omega⟩
          have hi : i < ts.length := by omega
          have c1 := HS.out.cells _ rfl i hi
          simp only at c1
          have hpv : prevG ts k = some ts[i] := by rw [hki, prevG_succ, List.getElem?_eq_getElem hi]
          generalize ts[i] = y at *
          have hs1 : soonT (prevG ts k) x = leT x y := by rw [hpv]; rfl
          have e2 : decide (0 < (k : Int)) = true := by simp; omega
          have e3 : 0 < k := by omega
          have ea : ((k : Int) - 1).toNat = i := by omega
          have pa : (0 : Int) ≤ (k : Int) - 1 := by omega
          have pb : (1 : Int) ≤ (k : Int) := by omega
          have ba : (k : Int) - 1 < (ts.length : Int) := by omega
          have HKI := Lib.hid hki
          clear hki hk0
          by_cases a6 : leT x y = true
          · have HE : Hid (E = 10) := by show _ = _; rw [← HW.out, if_pos a5, if_pos (hs1.trans a6)]
            have f1 : (Op.bytesLess x.toList y.toList || x.toList == y.toList) = true := a6
            clear HW a5 hpv hs1 a6
            go_wp2_with (go_at_call 114; refine (isName_is x HZ.out _ H5).mono ?_; rintro e w1 ⟨rfl, rfl⟩)
            go_ret
            exact ⟨ret_int HE.out.symm, rfl⟩
          · have HE : Hid (tagsE (prevG ts (k + 1)) (ts.drop (k + 1)) = E) := by
              show _ = _; rw [← HW.out, if_pos a5, if_neg (by rw [hs1]; exact a6)]
            have f1 : (Op.bytesLess x.toList y.toList || x.toList == y.toList) = false := by unfold leT at a6; simpa using a6
            clear HW a5 hpv hs1 a6
            go_wp2_with (go_at_call 114; refine (isName_is x HZ.out _ H5).mono ?_; rintro e w1 ⟨rfl, rfl⟩)
            go_round
            case rel => exact ⟨k + 1, by have := HLT.out; omega, by go_num, HE⟩
            case measure => have := HLT.out; simp [intOf]; omega
      · have HE : Hid (E = 8) := by show _ = _; rw [← HW.out, if_neg a5]
        have H5 : Hid (nameB x = false) := by show _ = _; simpa using a5
        clear HW a5
        go_wp2_with (go_at_call 114; refine (isName_is x HZ.out _ H5).mono ?_; rintro e w1 ⟨rfl, rfl⟩)
        go_ret
        exact ⟨ret_int HE.out.symm, rfl⟩
    · have HV : Hid (E = 0) := by show _ = _; rw [← hw.out]; exact tagsE_end (by omega)
      go_wp2
      go_ret
      exact ⟨ret_int HV.out.symm, rfl⟩

end Go.Proofs.Ytgkhhfojioepgaa
