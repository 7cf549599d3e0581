/- How an activity lies in memory; what Check returns for it. -/
import Derived.Test.YtbacoopopokkfaaDoorProg
import Derived.Test.YtbacoopopokkfaaDoorTPure
import Derived.WalkKit
import Derived.WalkSpells
import Derived.WalkLawsBesides
import Derived.Handy
import Derived.Lib.Hide
import Derived.Deep.QuietTactic
import Derived.BigQuiet
import Derived.Deep.RegionWith
namespace Go.Proofs.YtbacoopopokkfaaDoor
open Go.RowKit
set_option linter.unusedSimpArgs false
set_option linter.unusedVariables false

theorem ret_bool {a b : Bool} (h : a = b) : Ending.returned (.bool a) = .returned (.bool b) := by rw [h]
theorem ret_int {k : IntKind} {a b : Int} (h : a = b) : Ending.returned (.int k a) = .returned (.int k b) := by rw [h]
theorem ret_ib {k : IntKind} {a b : Int} {c d : Bool} (h : a = b) (h' : c = d) : Ending.returned (.tuple #[.int k a, .bool c]) = .returned (.tuple #[.int k b, .bool d]) := by rw [h, h']
theorem ret_ii {k k' : IntKind} {a b c d : Int} (h : a = b) (h' : c = d) : Ending.returned (.tuple #[.int k a, .int k' c]) = .returned (.tuple #[.int k b, .int k' d]) := by rw [h, h']
theorem grown_trans {w1 w2 w3 : World} {r : Option Nat} (h : w1.grownBy w2 r) (h' : w2.grownBy w3 r) : w1.grownBy w3 r :=
  ⟨h'.os.trans h.os, h'.tape.trans h.tape, h'.output.trans h.output, Nat.le_trans h.size h'.size, fun k hk hne => (h'.block k (Nat.lt_of_lt_of_le hk h.size) hne).trans (h.block k hk hne)⟩
theorem grown_refl (w : World) (r : Option Nat) : w.grownBy w r := ⟨rfl, rfl, rfl, Nat.le_refl _, fun _ _ _ => rfl⟩
theorem grown_drewN (w : World) (r : Option Nat) (n : Nat) : w.grownBy (w.drewN n) r := ⟨rfl, rfl, rfl, Nat.le_refl _, fun _ _ _ => rfl⟩
theorem grown_cell {w w' : World} (g : w.grownBy w' none) {p : Addr} {v : Value} (h : w.cell? p = some v) : w'.cell? p = some v := g.cell h (by simp)
theorem grown_below {w w' : World} (g : Below w.heap.size w w') : w.grownBy w' none := ⟨g.os, g.tape, g.output, g.size, fun k hk _ => g.block k hk⟩
theorem below_grown {w w' : World} (g : w.grownBy w' none) : Below w.heap.size w w' := ⟨g.os, g.tape, g.output, g.size, fun k hk => g.block k hk (by simp)⟩

/-- The order of texts. -/
def leT (a b : ByteArray) : Bool := Op.bytesLess a.toList b.toList || a.toList == b.toList

def soonT : Option ByteArray → ByteArray → Bool
  | none, _ => false
  | some b, x => leT x b
def tagsE : Option ByteArray → List ByteArray → Int
  | _, [] => 0
  | b, x :: r => if nameB x = true then (if soonT b x = true then 10 else tagsE (some x) r) else 8

/-- An activity: its values, and where its lists lie. -/
structure Act where
  name : ByteArray
  sport : Int
  start : Int
  so : Option Addr
  sc : Nat
  ss : List Smp
  lo : Option Addr
  lc : Nat
  ls : List LapV
  to_ : Option Addr
  tc : Nat
  ts : List ByteArray
abbrev Act.val (a : Act) : Value := .agg #[.string a.name, .int .i64 a.sport, .int .i64 a.start, .slice a.so a.ss.length a.sc, .slice a.lo a.ls.length a.lc, .slice a.to_ a.ts.length a.tc]

def spanL : List Smp → Int
  | [] => 0
  | [x] => x.t
  | _ :: y :: r => spanL (y :: r)

def chkE (a : Act) : Int :=
  if nameB a.name = true then
    if 1 ≤ a.sport ∧ a.sport ≤ 5 then
      if 0 ≤ a.start ∧ a.start ≤ 86399999999 then
        if (a.ss.length : Int) ≤ 20000 ∧ (a.ls.length : Int) ≤ 200 ∧ (a.ts.length : Int) ≤ 20 then
          if smpsE a.start none a.ss = 0 then
            if lapsE (spanL a.ss) 0 a.ls = 0 then tagsE none a.ts else lapsE (spanL a.ss) 0 a.ls
          else smpsE a.start none a.ss
        else 3
      else 9
    else 7
  else 8

/-- Samples lie at an address. -/
structure SmpsAt (w : World) (ao : Option Addr) (l : List Smp) : Prop where
  nil : ao = none → l = []
  spot : ∀ a, ao = some a → l ≠ [] → a.spot = none
  cells : ∀ a, ao = some a → ∀ i (h : i < l.length), w.cell? ⟨a.block, a.off + i * 7, none⟩ = some (.int .i64 l[i].t) ∧ w.cell? ⟨a.block, a.off + i * 7 + 1, none⟩ = some (.int .i64 l[i].x) ∧ w.cell? ⟨a.block, a.off + i * 7 + 2, none⟩ = some (.int .i64 l[i].y) ∧ w.cell? ⟨a.block, a.off + i * 7 + 3, none⟩ = some (.int .i64 l[i].z) ∧ w.cell? ⟨a.block, a.off + i * 7 + 4, none⟩ = some (.int .i64 l[i].p) ∧ w.cell? ⟨a.block, a.off + i * 7 + 5, none⟩ = some (.int .i64 l[i].q) ∧ w.cell? ⟨a.block, a.off + i * 7 + 6, none⟩ = some (.int .i64 l[i].s)
/-- Laps lie at an address. -/
structure LapsAt (w : World) (ao : Option Addr) (l : List LapV) : Prop where
  nil : ao = none → l = []
  spot : ∀ a, ao = some a → l ≠ [] → a.spot = none
  cells : ∀ a, ao = some a → ∀ i (h : i < l.length), w.cell? ⟨a.block, a.off + i * 3, none⟩ = some (.int .i64 l[i].fr) ∧ w.cell? ⟨a.block, a.off + i * 3 + 1, none⟩ = some (.int .i64 l[i].to_) ∧ w.cell? ⟨a.block, a.off + i * 3 + 2, none⟩ = some (.string l[i].name)
  sizes : ∀ i (h : i < l.length), l[i].name.size ≤ 140737488355328
/-- Tags lie at an address. -/
structure TagsAt (w : World) (ao : Option Addr) (l : List ByteArray) : Prop where
  nil : ao = none → l = []
  spot : ∀ a, ao = some a → l ≠ [] → a.spot = none
  cells : ∀ a, ao = some a → ∀ i (h : i < l.length), w.cell? ⟨a.block, a.off + i, none⟩ = some (.string l[i])
  sizes : ∀ i (h : i < l.length), l[i].size ≤ 140737488355328

theorem SmpsAt.grown {w w' : World} {ao : Option Addr} {l : List Smp} (h : SmpsAt w ao l) (g : w.grownBy w' none) : SmpsAt w' ao l :=
  ⟨h.nil, h.spot, fun a ha i hi => by
    obtain ⟨h0, h1, h2, h3, h4, h5, h6⟩ := h.cells a ha i hi
    exact ⟨grown_cell g h0, grown_cell g h1, grown_cell g h2, grown_cell g h3, grown_cell g h4, grown_cell g h5, grown_cell g h6⟩⟩
theorem LapsAt.grown {w w' : World} {ao : Option Addr} {l : List LapV} (h : LapsAt w ao l) (g : w.grownBy w' none) : LapsAt w' ao l :=
  ⟨h.nil, h.spot, fun a ha i hi => by
    obtain ⟨h0, h1, h2⟩ := h.cells a ha i hi
    exact ⟨grown_cell g h0, grown_cell g h1, grown_cell g h2⟩, h.sizes⟩
theorem TagsAt.grown {w w' : World} {ao : Option Addr} {l : List ByteArray} (h : TagsAt w ao l) (g : w.grownBy w' none) : TagsAt w' ao l :=
  ⟨h.nil, h.spot, fun a ha i hi => grown_cell g (h.cells a ha i hi), h.sizes⟩

structure ActAt (w : World) (a : Act) : Prop where
  ns : a.name.size ≤ 140737488355328
  sl : (a.ss.length : Int) ≤ 9223372036854775807
  ll : (a.ls.length : Int) ≤ 9223372036854775807
  tl : (a.ts.length : Int) ≤ 9223372036854775807
  hs : SmpsAt w a.so a.ss
  hl : LapsAt w a.lo a.ls
  ht : TagsAt w a.to_ a.ts
theorem ActAt.grown {w w' : World} {a : Act} (h : ActAt w a) (g : w.grownBy w' none) : ActAt w' a :=
  ⟨h.ns, h.sl, h.ll, h.tl, h.hs.grown g, h.hl.grown g, h.ht.grown g⟩

end Go.Proofs.YtbacoopopokkfaaDoor
