/- Texts that all laws of this seat use, one behind the other. -/
import Derived.Test.YtbacoopopokkfaaDoorProg
import Derived.WalkKit
import Derived.WalkSpells
import Derived.WalkLawsBesides
import Derived.Handy
import Derived.Lib.Hide
import Derived.Deep.QuietTactic
import Derived.BigQuiet
import Derived.Deep.RegionWith
import Derived.Deep.OwnRows
import Derived.Shelf.SlSortCmp.KitK
import Derived.Laws.AppendOwn
import Derived.Sort.OwnSorted
import Derived.Lib.SliceRun
import Derived.Lib.AppendZeros
import Derived.Deep.AppendLies
/- Activities and tracks, plainly: what Check returns; ways; the lines that are worth most. No program. -/
namespace Go.Proofs.YtbacoopopokkfaaDoor
set_option linter.unusedSimpArgs false
set_option linter.unusedVariables false

/-- A byte of a name. -/
def okC (c : Nat) : Bool := (decide (97 ≤ c) && decide (c ≤ 122)) || (decide (65 ≤ c) && decide (c ≤ 90)) || (decide (48 ≤ c) && decide (c ≤ 57)) || decide (c = 45) || decide (c = 95) || decide (c = 46)
def nameB (s : ByteArray) : Bool := decide (1 ≤ s.size) && decide (s.size ≤ 60) && s.data.toList.all fun c => okC c.toNat
def lapC (c : Nat) : Bool := decide (32 ≤ c) && decide (c ≤ 126)
def lapNameB (s : ByteArray) : Bool := decide (s.size ≤ 60) && s.data.toList.all fun c => lapC c.toNat

theorem all_at {p : UInt8 → Bool} {s : ByteArray} : s.data.toList.all p = true ↔ ∀ j (h : j < s.size), p s[j] = true := by
  rw [List.all_eq_true]
  constructor
  · intro h j hj
    exact h _ (by rw [ByteArray.getElem_eq_getElem_data]; simp)
  · intro h x hx
    obtain ⟨j, hj, rfl⟩ := List.getElem_of_mem hx
    have := h j (by simpa using hj)
    rw [ByteArray.getElem_eq_getElem_data] at this
    simpa using this
theorem all_not {p : UInt8 → Bool} {s : ByteArray} {j : Nat} (hj : j < s.size) (h : p s[j] = false) : s.data.toList.all p = false := by
  rw [Bool.eq_false_iff]
  intro h'
  have := all_at.1 h' j hj
  rw [h] at this; cases this

theorem name_short {s : ByteArray} (h : s.size < 1 ∨ 60 < s.size) : nameB s = false := by
  unfold nameB
  rcases h with h | h
  · rw [decide_eq_false (by omega)]; rfl
  · rw [decide_eq_false (p := s.size ≤ 60) (by omega)]; simp
theorem name_bad {s : ByteArray} {j : Nat} (hj : j < s.size) (h : okC s[j].toNat = false) : nameB s = false := by
  unfold nameB
  rw [all_not (p := fun c => okC c.toNat) hj h]; simp
theorem name_good {s : ByteArray} (h1 : 1 ≤ s.size) (h2 : s.size ≤ 60) (h : ∀ j (hj : j < s.size), okC s[j].toNat = true) : nameB s = true := by
  unfold nameB
  rw [decide_eq_true h1, decide_eq_true h2, all_at.2 h]; rfl
theorem lapName_long {s : ByteArray} (h : 60 < s.size) : lapNameB s = false := by
  unfold lapNameB
  rw [decide_eq_false (by omega)]; rfl
theorem lapName_bad {s : ByteArray} {j : Nat} (hj : j < s.size) (h : lapC s[j].toNat = false) : lapNameB s = false := by
  unfold lapNameB
  rw [all_not (p := fun c => lapC c.toNat) hj h]; simp
theorem lapName_good {s : ByteArray} (h2 : s.size ≤ 60) (h : ∀ j (hj : j < s.size), lapC s[j].toNat = true) : lapNameB s = true := by
  unfold lapNameB
  rw [decide_eq_true h2, all_at.2 h]; rfl

/-- A sample; a lap. -/
structure Smp where
  t : Int
  x : Int
  y : Int
  z : Int
  p : Int
  q : Int
  s : Int
  deriving DecidableEq, Inhabited
structure LapV where
  fr : Int
  to_ : Int
  name : ByteArray

/-- The sample's numbers are in their ranges. -/
def smpIn (start : Int) (x : Smp) : Prop :=
  x.t ≤ 1000000 ∧ start + x.t ≤ 86399999999 ∧ (-100000000 ≤ x.x ∧ x.x ≤ 100000000) ∧ (-100000000 ≤ x.y ∧ x.y ≤ 100000000) ∧ (-100000 ≤ x.z ∧ x.z ≤ 100000) ∧ (-1 ≤ x.p ∧ x.p ≤ 300) ∧ (-1 ≤ x.q ∧ x.q ≤ 3000) ∧ (-1 ≤ x.s ∧ x.s ≤ 300)
instance (start : Int) (x : Smp) : Decidable (smpIn start x) := by unfold smpIn; exact inferInstance

/-- A sample comes too early behind the one before. -/
def early : Option Int → Int → Prop
  | none, t => t ≠ 0
  | some b, t => t ≤ b
instance (b : Option Int) (t : Int) : Decidable (early b t) := by cases b <;> (unfold early; exact inferInstance)

def smpsE (start : Int) : Option Int → List Smp → Int
  | _, [] => 0
  | b, x :: r => if early b x.t then 10 else if smpIn start x then smpsE start (some x.t) r else 9

def lapsE (span : Int) : Int → List LapV → Int
  | _, [] => 0
  | e, x :: r => if x.fr < 0 ∨ x.to_ ≤ x.fr ∨ span < x.to_ then 9 else if x.fr < e then 10 else if lapNameB x.name = true then lapsE span x.to_ r else 8

end Go.Proofs.YtbacoopopokkfaaDoor
namespace Go.Proofs.YtbacoopopokkfaaDoor
open Go.RowKit
set_option linter.unusedSimpArgs false
set_option linter.unusedVariables false

theorem ret_bool {a b : Bool} (h : a = b) : Ending.returned (.bool a) = .returned (.bool b) := by rw [h]
theorem ret_int {k : IntKind} {a b : Int} (h : a = b) : Ending.returned (.int k a) = .returned (.int k b) := by rw [h]
theorem ret_ib {k : IntKind} {a b : Int} {c d : Bool} (h : a = b) (h' : c = d) : Ending.returned (.tuple #[.int k a, .bool c]) = .returned (.tuple #[.int k b, .bool d]) := by rw [h, h']
theorem ret_ii {k k' : IntKind} {a b c d : Int} (h : a = b) (h' : c = d) : Ending.returned (.tuple #[.int k a, .int k' c]) = .returned (.tuple #[.int k b, .int k' d]) := by rw [h, h']
theorem grown_trans {w1 w2 w3 : World} {r : Option Nat} (h : w1.grownBy w2 r) (h' : w2.grownBy w3 r) : w1.grownBy w3 r :=
  ⟨h'.os.trans h.os, h'.tape.trans h.tape, h'.output.trans h.output, Nat.le_trans h.size h'.size, fun k hk hne => (h'.block k (Nat.lt_of_lt_of_le hk h.size) hne).trans (h.block k hk hne)⟩
theorem grown_refl (w : World) (r : Option Nat) : w.grownBy w r := ⟨rfl, rfl, rfl, Nat.le_refl _, fun _ _ _ => rfl⟩
theorem grown_drewN (w : World) (r : Option Nat) (n : Nat) : w.grownBy (w.drewN n) r := ⟨rfl, rfl, rfl, Nat.le_refl _, fun _ _ _ => rfl⟩
theorem grown_cell {w w' : World} (g : w.grownBy w' none) {p : Addr} {v : Value} (h : w.cell? p = some v) : w'.cell? p = some v := g.cell h (by simp)
theorem grown_below {w w' : World} (g : Below w.heap.size w w') : w.grownBy w' none := ⟨g.os, g.tape, g.output, g.size, fun k hk _ => g.block k hk⟩
theorem below_grown {w w' : World} (g : w.grownBy w' none) : Below w.heap.size w w' := ⟨g.os, g.tape, g.output, g.size, fun k hk => g.block k hk (by simp)⟩

/-- The order of texts. -/
def leT (a b : ByteArray) : Bool := Op.bytesLess a.toList b.toList || a.toList == b.toList

def soonT : Option ByteArray → ByteArray → Bool
  | none, _ => false
  | some b, x => leT x b
def tagsE : Option ByteArray → List ByteArray → Int
  | _, [] => 0
  | b, x :: r => if nameB x = true then (if soonT b x = true then 10 else tagsE (some x) r) else 8

/-- An activity: its values, and where its lists lie. -/
structure Act where
  name : ByteArray
  sport : Int
  start : Int
  so : Option Addr
  sc : Nat
  ss : List Smp
  lo : Option Addr
  lc : Nat
  ls : List LapV
  to_ : Option Addr
  tc : Nat
  ts : List ByteArray
abbrev Act.val (a : Act) : Value := .agg #[.string a.name, .int .i64 a.sport, .int .i64 a.start, .slice a.so a.ss.length a.sc, .slice a.lo a.ls.length a.lc, .slice a.to_ a.ts.length a.tc]

def spanL : List Smp → Int
  | [] => 0
  | [x] => x.t
  | _ :: y :: r => spanL (y :: r)

def chkE (a : Act) : Int :=
  if nameB a.name = true then
    if 1 ≤ a.sport ∧ a.sport ≤ 5 then
      if 0 ≤ a.start ∧ a.start ≤ 86399999999 then
        if (a.ss.length : Int) ≤ 20000 ∧ (a.ls.length : Int) ≤ 200 ∧ (a.ts.length : Int) ≤ 20 then
          if smpsE a.start none a.ss = 0 then
            if lapsE (spanL a.ss) 0 a.ls = 0 then tagsE none a.ts else lapsE (spanL a.ss) 0 a.ls
          else smpsE a.start none a.ss
        else 3
      else 9
    else 7
  else 8

/-- Samples lie at an address. -/
structure SmpsAt (w : World) (ao : Option Addr) (l : List Smp) : Prop where
  nil : ao = none → l = []
  spot : ∀ a, ao = some a → l ≠ [] → a.spot = none
  cells : ∀ a, ao = some a → ∀ i (h : i < l.length), w.cell? ⟨a.block, a.off + i * 7, none⟩ = some (.int .i64 l[i].t) ∧ w.cell? ⟨a.block, a.off + i * 7 + 1, none⟩ = some (.int .i64 l[i].x) ∧ w.cell? ⟨a.block, a.off + i * 7 + 2, none⟩ = some (.int .i64 l[i].y) ∧ w.cell? ⟨a.block, a.off + i * 7 + 3, none⟩ = some (.int .i64 l[i].z) ∧ w.cell? ⟨a.block, a.off + i * 7 + 4, none⟩ = some (.int .i64 l[i].p) ∧ w.cell? ⟨a.block, a.off + i * 7 + 5, none⟩ = some (.int .i64 l[i].q) ∧ w.cell? ⟨a.block, a.off + i * 7 + 6, none⟩ = some (.int .i64 l[i].s)
/-- Laps lie at an address. -/
structure LapsAt (w : World) (ao : Option Addr) (l : List LapV) : Prop where
  nil : ao = none → l = []
  spot : ∀ a, ao = some a → l ≠ [] → a.spot = none
  cells : ∀ a, ao = some a → ∀ i (h : i < l.length), w.cell? ⟨a.block, a.off + i * 3, none⟩ = some (.int .i64 l[i].fr) ∧ w.cell? ⟨a.block, a.off + i * 3 + 1, none⟩ = some (.int .i64 l[i].to_) ∧ w.cell? ⟨a.block, a.off + i * 3 + 2, none⟩ = some (.string l[i].name)
  sizes : ∀ i (h : i < l.length), l[i].name.size ≤ 140737488355328
/-- Tags lie at an address. -/
structure TagsAt (w : World) (ao : Option Addr) (l : List ByteArray) : Prop where
  nil : ao = none → l = []
  spot : ∀ a, ao = some a → l ≠ [] → a.spot = none
  cells : ∀ a, ao = some a → ∀ i (h : i < l.length), w.cell? ⟨a.block, a.off + i, none⟩ = some (.string l[i])
  sizes : ∀ i (h : i < l.length), l[i].size ≤ 140737488355328

theorem SmpsAt.grown {w w' : World} {ao : Option Addr} {l : List Smp} (h : SmpsAt w ao l) (g : w.grownBy w' none) : SmpsAt w' ao l :=
  ⟨h.nil, h.spot, fun a ha i hi => by
    obtain ⟨h0, h1, h2, h3, h4, h5, h6⟩ := h.cells a ha i hi
    exact ⟨grown_cell g h0, grown_cell g h1, grown_cell g h2, grown_cell g h3, grown_cell g h4, grown_cell g h5, grown_cell g h6⟩⟩
theorem LapsAt.grown {w w' : World} {ao : Option Addr} {l : List LapV} (h : LapsAt w ao l) (g : w.grownBy w' none) : LapsAt w' ao l :=
  ⟨h.nil, h.spot, fun a ha i hi => by
    obtain ⟨h0, h1, h2⟩ := h.cells a ha i hi
    exact ⟨grown_cell g h0, grown_cell g h1, grown_cell g h2⟩, h.sizes⟩
theorem TagsAt.grown {w w' : World} {ao : Option Addr} {l : List ByteArray} (h : TagsAt w ao l) (g : w.grownBy w' none) : TagsAt w' ao l :=
  ⟨h.nil, h.spot, fun a ha i hi => grown_cell g (h.cells a ha i hi), h.sizes⟩

structure ActAt (w : World) (a : Act) : Prop where
  ns : a.name.size ≤ 140737488355328
  sl : (a.ss.length : Int) ≤ 9223372036854775807
  ll : (a.ls.length : Int) ≤ 9223372036854775807
  tl : (a.ts.length : Int) ≤ 9223372036854775807
  hs : SmpsAt w a.so a.ss
  hl : LapsAt w a.lo a.ls
  ht : TagsAt w a.to_ a.ts
theorem ActAt.grown {w w' : World} {a : Act} (h : ActAt w a) (g : w.grownBy w' none) : ActAt w' a :=
  ⟨h.ns, h.sl, h.ll, h.tl, h.hs.grown g, h.hl.grown g, h.ht.grown g⟩

end Go.Proofs.YtbacoopopokkfaaDoor
namespace Go.Proofs.YtbacoopopokkfaaDoor
open Go.RowKit
set_option linter.unusedSimpArgs false
set_option linter.unusedVariables false

theorem info_int : (Tryd.prog.info? 3).map (fun i => (i.zero, i.size, i.bytes)) = some (some (.int .i64 0), 1, 8) := by kernel_rfl
theorem lt_of_block {w : World} {k : Nat} {o : Obj} (h : w.heap[k]? = some o) : k < w.heap.size := (Array.getElem?_eq_some_iff.1 h).1
def iRow (n : Nat) (F : Nat → Int) : Array Value := ((List.range n).map fun k => Value.int .i64 (F k)).toArray
def updI (F : Nat → Int) (i : Nat) (v : Int) : Nat → Int := fun k => if k = i then v else F k
theorem iRow_get (n : Nat) (F : Nat → Int) (k : Nat) (h : k < n) : (iRow n F)[k]? = some (.int .i64 (F k)) := by simp [iRow, h]
theorem iRow_set (n : Nat) (F : Nat → Int) (k : Nat) (v : Int) : (iRow n F).setIfInBounds k (.int .i64 v) = iRow n (updI F k v) := by
  unfold iRow
  rw [List.setIfInBounds_toArray]
  congr 1
  apply List.ext_getElem
  · simp
  · intro i h1 h2
    rw [List.getElem_set]
    simp only [List.getElem_map, List.getElem_range, updI]
    by_cases e : k = i
    · rw [if_pos e, if_pos e.symm]
    · rw [if_neg e, if_neg (fun q => e q.symm)]
theorem iRow_congr {n : Nat} {F G : Nat → Int} (h : ∀ k, k < n → F k = G k) : iRow n F = iRow n G := by
  unfold iRow
  congr 1
  exact List.map_congr_left fun k hk => by rw [h k (List.mem_range.1 hk)]
theorem iRow_zero (n : Nat) : madeCells #[Value.int .i64 0] n = iRow n (fun _ => 0) := by
  apply Array.ext
  · simp [madeCells, iRow]
  · intro i h1 h2
    simp [madeCells, iRow, Nat.mod_one]

/-- A row of numbers in block g. -/
def RowAt (w : World) (g n : Nat) (F : Nat → Int) : Prop := w.heap[g]? = some (.cells (iRow n F) 3 (0, 0))
section
variable {w : World} {g n : Nat} {F : Nat → Int}
theorem RowAt.cell (h : RowAt w g n F) {k : Nat} (hk : k < n) : w.cell? ⟨g, k, none⟩ = some (.int .i64 (F k)) := by
  have h' : w.heap[g]? = _ := h
  simp [World.cell?, h', iRow_get n F k hk]
theorem RowAt.free (h : RowAt w g n F) (k : Nat) : w.frozen? ⟨g, k, none⟩ = false := by
  have h' : w.heap[g]? = _ := h
  simp [World.frozen?, h']
theorem RowAt.set (h : RowAt w g n F) (k : Nat) (v : Int) : RowAt (w.setCell ⟨g, k, none⟩ (.int .i64 v)) g n (updI F k v) := by
  have h' : w.heap[g]? = _ := h
  show (w.setCell ⟨g, k, none⟩ (.int .i64 v)).heap[g]? = _
  simp [World.setCell, Array.getElem?_modify, h', iRow_set]
theorem RowAt.far (h : RowAt w g n F) {g' : Nat} (ne : g ≠ g') (k : Nat) (v : Value) : RowAt (w.setCell ⟨g', k, none⟩ v) g n F := by
  show (w.setCell ⟨g', k, none⟩ v).heap[g]? = _
  rw [Below.heap_setCell _ _ _ _ ne]; exact h
theorem RowAt.same (h : RowAt w g n F) {w' : World} (e : w'.heap = w.heap) : RowAt w' g n F := by
  show w'.heap[g]? = _
  rw [e]; exact h
theorem RowAt.congr (h : RowAt w g n F) {G : Nat → Int} (e : ∀ k, k < n → F k = G k) : RowAt w g n G := by
  show w.heap[g]? = _
  rw [← iRow_congr e]; exact h
theorem RowAt.grown (h : RowAt w g n F) {w' : World} (hg : w.grownBy w' none) : RowAt w' g n F := by
  have h' : w.heap[g]? = _ := h
  show w'.heap[g]? = _
  rw [hg.block g (lt_of_block h') (by simp)]; exact h
end


end Go.Proofs.YtbacoopopokkfaaDoor
namespace Go.Proofs.YtbacoopopokkfaaDoor
open Go.RowKit
set_option linter.unusedSimpArgs false
set_option linter.unusedVariables false

theorem mflat_len {α : Type} (f : α → List Value) (c : Nat) (hf : ∀ x, (f x).length = c) : ∀ l : List α, (l.flatMap f).length = l.length * c
  | [] => by simp
  | x :: r => by rw [List.flatMap_cons, List.length_append, hf, mflat_len f c hf r, List.length_cons, Nat.add_mul]; omega
theorem mflat_at {α : Type} (f : α → List Value) (c : Nat) (hf : ∀ x, (f x).length = c) : ∀ (l : List α) (j i : Nat) (hj : j < l.length), i < c → (l.flatMap f)[j * c + i]? = (f l[j])[i]?
  | x :: r, 0, i, _, hi => by
    rw [List.flatMap_cons, List.getElem?_append_left (by rw [hf]; omega)]; simp
  | x :: r, j + 1, i, hj, hi => by
    rw [List.flatMap_cons, List.getElem?_append_right (by rw [hf, Nat.add_mul]; omega), hf]
    have e : (j + 1) * c + i - c = j * c + i := by rw [Nat.add_mul]; omega
    rw [e]
    exact mflat_at f c hf r j i (by simpa using hj) hi
theorem mflat_snoc {α : Type} (f : α → List Value) (l : List α) (x : α) : (l ++ [x]).flatMap f = l.flatMap f ++ f x := by simp
theorem madd_off (b o k : Nat) : (⟨b, o, none⟩ : Addr).add k = ⟨b, o + k, none⟩ := by unfold Addr.add; split <;> simp_all

theorem mblock_at {W W' : World} {row : Option Nat} {b : Nat} {o : Obj} (h : W.heap[b]? = some o) (hg : W.grownBy W' row) (hne : some b ≠ row) : W'.heap[b]? = some o := (hg.block b (Array.getElem?_eq_some_iff.1 h).1 hne).trans h
theorem mblock_cell {W : World} {B : Nat} {c : Array Value} {t : TypeId} (h : W.heap[B]? = some (.cells c t (0, 0))) (k : Nat) (v : Value) (hv : c[k]? = some v) : W.cell? ⟨B, k, none⟩ = some v := by simp [World.cell?, h, hv]
theorem mblock_free {W : World} {B k : Nat} {c : Array Value} {t : TypeId} (h : W.heap[B]? = some (.cells c t (0, 0))) : W.frozen? ⟨B, k, none⟩ = false := by simp [World.frozen?, h]
theorem mheap_new (w : World) (o : Obj) : (w.alloc o).heap[w.heap.size]? = some o := heap_alloc_new w o

theorem mgrown_set {w w1 : World} {b : Nat} (h : w.grownBy w1 none) (hb : w.heap.size ≤ b) (k : Nat) (v : Value) : w.grownBy (w1.setCell ⟨b, k, none⟩ v) none :=
  ⟨h.os, h.tape, h.output, Nat.le_trans h.size (by simp [World.setCell]), fun i hi hne => by
    rw [Below.heap_setCell _ _ _ _ (by show i ≠ b; omega)]; exact h.block i hi hne⟩

theorem mblock_set {W : World} {B k : Nat} {c : Array Value} {t : TypeId} (h : W.heap[B]? = some (.cells c t (0, 0))) (v : Value) : (W.setCell ⟨B, k, none⟩ v).heap[B]? = some (.cells (c.setIfInBounds k v) t (0, 0)) := by
  simp [World.setCell, Array.getElem?_modify, h]
theorem mblock_far {W : World} {b b2 : Nat} {o : Obj} (h : W.heap[b]? = some o) (hne : b ≠ b2) (k : Nat) (v : Value) : (W.setCell ⟨b2, k, none⟩ v).heap[b]? = some o := by rw [Below.heap_setCell _ _ _ _ hne]; exact h
theorem smps_at1 {w : World} {ao : Option Addr} {l : List Smp} (h : SmpsAt w ao l) (hne : 0 < l.length) : ∃ b off, ao = some ⟨b, off, none⟩ ∧ ∀ i (h : i < l.length), w.cell? ⟨b, off + i * 7, none⟩ = some (.int .i64 l[i].t) ∧ w.cell? ⟨b, off + i * 7 + 1, none⟩ = some (.int .i64 l[i].x) ∧ w.cell? ⟨b, off + i * 7 + 2, none⟩ = some (.int .i64 l[i].y) ∧ w.cell? ⟨b, off + i * 7 + 3, none⟩ = some (.int .i64 l[i].z) ∧ w.cell? ⟨b, off + i * 7 + 4, none⟩ = some (.int .i64 l[i].p) ∧ w.cell? ⟨b, off + i * 7 + 5, none⟩ = some (.int .i64 l[i].q) ∧ w.cell? ⟨b, off + i * 7 + 6, none⟩ = some (.int .i64 l[i].s) := by
  have hn : l ≠ [] := fun e => by rw [e] at hne; simp at hne
  cases hao : ao with
  | none => exact absurd (h.nil hao) hn
  | some p =>
    obtain ⟨b, off, spot⟩ := p
    have hsp := h.spot _ hao hn
    simp only at hsp
    subst hsp
    exact ⟨b, off, rfl, fun i hi => h.cells _ hao i hi⟩

/-- Elements of K cells lie at an address. -/
structure RowsAt {α : Type} (cs : α → List Value) (K : Nat) (w : World) (ao : Option Addr) (l : List α) : Prop where
  nil : ao = none → l = []
  spot : ∀ a, ao = some a → l ≠ [] → a.spot = none
  cells : ∀ a, ao = some a → ∀ i (h : i < l.length) k v, (cs l[i])[k]? = some v → w.cell? ⟨a.block, a.off + i * K + k, none⟩ = some v
section
variable {α : Type} {cs : α → List Value} {K : Nat} {w w' : World} {ao : Option Addr} {l : List α}
theorem RowsAt.grown (h : RowsAt cs K w ao l) (g : w.grownBy w' none) : RowsAt cs K w' ao l :=
  ⟨h.nil, h.spot, fun a ha i hi k v hv => grown_cell g (h.cells a ha i hi k v hv)⟩
theorem RowsAt.kept (h : RowsAt cs K w ao l) {row : Option Nat} (g : w.grownBy w' row) (hr : ∀ a, ao = some a → l ≠ [] → some a.block ≠ row) : RowsAt cs K w' ao l :=
  ⟨h.nil, h.spot, fun a ha i hi k v hv => g.cell (h.cells a ha i hi k v hv) (hr a ha (fun e => by subst e; simp at hi))⟩
theorem rows_empty (a : Option Addr) : RowsAt cs K w a [] := ⟨fun _ => rfl, fun _ _ h => absurd rfl h, fun _ _ _ h => absurd h (Nat.not_lt_zero _)⟩
theorem rows_at (h : RowsAt cs K w ao l) (hl : 0 < l.length) : ∃ g o, ao = some ⟨g, o, none⟩ ∧ ∀ i (hi : i < l.length) k v, (cs l[i])[k]? = some v → w.cell? ⟨g, o + i * K + k, none⟩ = some v := by
  have hne : l ≠ [] := fun e => by subst e; simp at hl
  cases ao with
  | none => exact absurd (h.nil rfl) hne
  | some a =>
    have hs := h.spot a rfl hne
    obtain ⟨b, o, s⟩ := a
    simp only at hs; subst hs
    exact ⟨b, o, rfl, fun i hi k v hv => h.cells _ rfl i hi k v hv⟩
theorem rows_block {g : Nat} {t : TypeId} {c : Array Value} (hcs : ∀ x, (cs x).length = K) (h : w.heap[g]? = some (.cells c t (0, 0))) (hc : c.toList = l.flatMap cs) : RowsAt cs K w (some ⟨g, 0, none⟩) l :=
  ⟨fun h => by simp at h, fun a ha _ => by cases ha; rfl, fun a ha i hi k v hv => by
    cases ha
    have hk : k < K := by rw [← hcs l[i]]; exact (List.getElem?_eq_some_iff.1 hv).1
    refine mblock_cell h _ v ?_
    rw [← Array.getElem?_toList, hc, Nat.zero_add, mflat_at cs K hcs l i k hi hk]; exact hv⟩
theorem own_rows {base : Nat} {e : TypeId} {v : Value} (hcs : ∀ x, (cs x).length = K) (h : w.ownsRow base e K v l.length (l.flatMap cs)) : ∃ ao cap, v = .slice ao l.length cap ∧ l.length ≤ cap ∧ RowsAt cs K w ao l ∧ (∀ a, ao = some a → base ≤ a.block ∧ a.block < w.heap.size) := by
  have hlt := h.lt
  rcases h.2 with ⟨hv, h0⟩ | ⟨g, cap, cur, hv, hb, hg, hle, _⟩
  · have hl : l = [] := List.eq_nil_of_length_eq_zero h0
    subst hl
    exact ⟨none, 0, hv, Nat.le_refl _, rows_empty none, fun a h => by simp at h⟩
  · refine ⟨some ⟨g, 0, none⟩, cap, hv, hle, ⟨fun h => by simp at h, fun a ha _ => by cases ha; rfl, fun a ha i hi k u hu => ?_⟩, fun a ha => by cases ha; exact hlt g (by rw [hv]; rfl)⟩
    cases ha
    have hk : k < K := by rw [← hcs l[i]]; exact (List.getElem?_eq_some_iff.1 hu).1
    have := h.cells (g := g) (by rw [hv]; rfl) (i * K + k) u (by rw [mflat_at cs K hcs l i k hi hk]; exact hu)
    rw [madd_off] at this; simpa [Nat.add_assoc] using this
end
end Go.Proofs.YtbacoopopokkfaaDoor
/- The mathematics of the stable sort: swaps, rotations, and merges of neighbouring runs, said of functions of places. No program. -/
namespace Go.Proofs.YtbacoopopokkfaaDoor
set_option linter.unusedSimpArgs false
set_option linter.unusedVariables false

/-- Two places swapped. -/
def swp (f : Nat → Nat) (i j : Nat) : Nat → Nat := fun k => if k = i then f j else if k = j then f i else f k
/-- Two ranges of n places swapped. -/
def swr (f : Nat → Nat) (a b n : Nat) : Nat → Nat := fun k => if a ≤ k ∧ k < a + n then f (k - a + b) else if b ≤ k ∧ k < b + n then f (k - b + a) else f k
/-- The places from m to b come ahead of those from a to m. -/
def rot (f : Nat → Nat) (a m b : Nat) : Nat → Nat := fun k => if a ≤ k ∧ k < a + (b - m) then f (k + (m - a)) else if a + (b - m) ≤ k ∧ k < b then f (k - (b - m)) else f k

theorem swr_zero (f : Nat → Nat) (a b : Nat) : swr f a b 0 = f := by
  funext k; unfold swr; rw [if_neg (by omega), if_neg (by omega)]
theorem swr_succ (f : Nat → Nat) (a b n : Nat) (h : a + n < b) : swp (swr f a b n) (a + n) (b + n) = swr f a b (n + 1) := by
  funext k; unfold swp swr
  repeat' split
  all_goals first | rfl | omega | (congr 1; omega)

theorem rot_left (f : Nat → Nat) (a b : Nat) : rot f a a b = f := by
  funext k; unfold rot
  repeat' split
  all_goals first | rfl | omega | (congr 1; omega)
theorem rot_right (f : Nat → Nat) (a b : Nat) : rot f a b b = f := by
  funext k; unfold rot
  repeat' split
  all_goals first | rfl | omega | (congr 1; omega)
theorem rot_gt (f : Nat → Nat) (m i j : Nat) (h1 : i ≤ m) (h2 : j < i) : rot f (m - i) m (m + j) = rot (swr f (m - i) m j) (m - (i - j)) m (m + j) := by
  funext k; unfold rot swr
  repeat' split
  all_goals first | rfl | omega | (congr 1; omega)
theorem rot_lt (f : Nat → Nat) (m i j : Nat) (h1 : i ≤ m) (h2 : i < j) : rot f (m - i) m (m + j) = rot (swr f (m - i) (m + j - i) i) (m - i) m (m + (j - i)) := by
  funext k; unfold rot swr
  repeat' split
  all_goals first | rfl | omega | (congr 1; omega)
theorem rot_eq (f : Nat → Nat) (m i : Nat) (h1 : i ≤ m) : rot f (m - i) m (m + i) = swr f (m - i) m i := by
  funext k; unfold rot swr
  repeat' split
  all_goals first | rfl | omega | (congr 1; omega)
theorem rot_up (f : Nat → Nat) (a k : Nat) (h : a ≤ k) : swp (rot f a (a + 1) (k + 1)) k (k + 1) = rot f a (a + 1) (k + 2) := by
  funext x; unfold swp rot
  repeat' split
  all_goals first | rfl | omega | (congr 1; omega)
theorem rot_down (f : Nat → Nat) (k m : Nat) (h : k < m) : swp (rot f (k + 1) m (m + 1)) (k + 1) k = rot f k m (m + 1) := by
  funext x; unfold swp rot
  repeat' split
  all_goals first | rfl | omega | (congr 1; omega)

/-- Greater keys first, of equal ones the smaller number. -/
def Bef (key : Nat → Int) (x y : Nat) : Prop := key y < key x ∨ (key x = key y ∧ x < y)

theorem Bef.trans {key : Nat → Int} {x y z : Nat} (h : Bef key x y) (h' : Bef key y z) : Bef key x z := by
  unfold Bef at *; omega
theorem bef_iff {key : Nat → Int} {x y : Nat} (h : x < y) : Bef key y x ↔ key x < key y := by unfold Bef; omega
theorem bef_not {key : Nat → Int} {x y : Nat} (h : x < y) : Bef key x y ↔ ¬ key x < key y := by unfold Bef; omega

def Srt (key : Nat → Int) (f : Nat → Nat) (a b : Nat) : Prop := ∀ i j, a ≤ i → i < j → j < b → Bef key (f i) (f j)

/-- g holds in [a, b) what f held there, each once, and elsewhere what f holds. -/
structure Mv (a b : Nat) (f g : Nat → Nat) : Prop where
  out : ∀ k, (k < a ∨ b ≤ k) → g k = f k
  into : ∀ k, a ≤ k → k < b → ∃ k', a ≤ k' ∧ k' < b ∧ g k = f k'
  inj : (∀ i j, f i = f j → i = j) → ∀ i j, g i = g j → i = j

theorem Mv.refl (a b : Nat) (f : Nat → Nat) : Mv a b f f := ⟨fun _ _ => rfl, fun k h1 h2 => ⟨k, h1, h2, rfl⟩, fun h => h⟩
theorem Mv.trans {a b : Nat} {f g h : Nat → Nat} (h1 : Mv a b f g) (h2 : Mv a b g h) : Mv a b f h := by
  refine ⟨fun k hk => (h2.out k hk).trans (h1.out k hk), fun k l u => ?_, fun hi => h2.inj (h1.inj hi)⟩
  obtain ⟨k1, l1, u1, e1⟩ := h2.into k l u
  obtain ⟨k2, l2, u2, e2⟩ := h1.into k1 l1 u1
  exact ⟨k2, l2, u2, e1.trans e2⟩
theorem Mv.mono {a b a' b' : Nat} {f g : Nat → Nat} (h : Mv a b f g) (h1 : a' ≤ a) (h2 : b ≤ b') : Mv a' b' f g := by
  refine ⟨fun k hk => h.out k (by omega), fun k l u => ?_, h.inj⟩
  by_cases hk : a ≤ k ∧ k < b
  · obtain ⟨k1, l1, u1, e1⟩ := h.into k hk.1 hk.2
    exact ⟨k1, by omega, by omega, e1⟩
  · exact ⟨k, l, u, h.out k (by omega)⟩
theorem Mv.rot (f : Nat → Nat) (a m b : Nat) (h1 : a ≤ m) (h2 : m ≤ b) : Mv a b f (rot f a m b) := by
  refine ⟨fun k hk => ?_, fun k l u => ?_, fun hi i j h => ?_⟩
  · unfold Go.Proofs.YtbacoopopokkfaaDoor.rot; rw [if_neg (by omega), if_neg (by omega)]
  · unfold Go.Proofs.YtbacoopopokkfaaDoor.rot
    by_cases hk : k < a + (b - m)
    · rw [if_pos ⟨l, hk⟩]; exact ⟨_, by omega, by omega, rfl⟩
    · rw [if_neg (by omega), if_pos (by omega)]; exact ⟨_, by omega, by omega, rfl⟩
  · unfold Go.Proofs.YtbacoopopokkfaaDoor.rot at h
    by_cases c1 : a ≤ i ∧ i < a + (b - m)
    · rw [if_pos c1] at h
      by_cases d1 : a ≤ j ∧ j < a + (b - m)
      · rw [if_pos d1] at h; have := hi _ _ h; omega
      · rw [if_neg d1] at h
        by_cases d2 : a + (b - m) ≤ j ∧ j < b
        · rw [if_pos d2] at h; have := hi _ _ h; omega
        · rw [if_neg d2] at h; have := hi _ _ h; omega
    · rw [if_neg c1] at h
      by_cases c2 : a + (b - m) ≤ i ∧ i < b
      · rw [if_pos c2] at h
        by_cases d1 : a ≤ j ∧ j < a + (b - m)
        · rw [if_pos d1] at h; have := hi _ _ h; omega
        · rw [if_neg d1] at h
          by_cases d2 : a + (b - m) ≤ j ∧ j < b
          · rw [if_pos d2] at h; have := hi _ _ h; omega
          · rw [if_neg d2] at h; have := hi _ _ h; omega
      · rw [if_neg c2] at h
        by_cases d1 : a ≤ j ∧ j < a + (b - m)
        · rw [if_pos d1] at h; have := hi _ _ h; omega
        · rw [if_neg d1] at h
          by_cases d2 : a + (b - m) ≤ j ∧ j < b
          · rw [if_pos d2] at h; have := hi _ _ h; omega
          · rw [if_neg d2] at h; exact hi _ _ h

theorem rot_lo {f : Nat → Nat} {a m b k : Nat} (h : k < a) (_ : a ≤ m) (_ : m ≤ b) : rot f a m b k = f k := by
  unfold rot; rw [if_neg (by omega), if_neg (by omega)]
theorem rot_1 {f : Nat → Nat} {a m b k : Nat} (h : a ≤ k) (h' : k < a + (b - m)) : rot f a m b k = f (k + (m - a)) := by
  unfold rot; rw [if_pos ⟨h, h'⟩]
theorem rot_2 {f : Nat → Nat} {a m b k : Nat} (h : a + (b - m) ≤ k) (h' : k < b) : rot f a m b k = f (k - (b - m)) := by
  unfold rot; rw [if_neg (by omega), if_pos ⟨h, h'⟩]
theorem rot_hi {f : Nat → Nat} {a m b k : Nat} (h : b ≤ k) (_ : a ≤ m) (_ : m ≤ b) : rot f a m b k = f k := by
  unfold rot; rw [if_neg (by omega), if_neg (by omega)]

/-- Runs that are to be merged: both in order, and each number on the left is smaller than each on the right. -/
structure Runs (key : Nat → Int) (f : Nat → Nat) (a m b : Nat) : Prop where
  am : a ≤ m
  mb : m ≤ b
  left : Srt key f a m
  right : Srt key f m b
  cross : ∀ i j, a ≤ i → i < m → m ≤ j → j < b → f i < f j

theorem Srt.le {key : Nat → Int} {f : Nat → Nat} {a b i j : Nat} (h : Srt key f a b) (h1 : a ≤ i) (h2 : i ≤ j) (h3 : j < b) {z : Nat} (hz : Bef key (f j) z) : Bef key (f i) z := by
  rcases Nat.lt_or_ge i j with h | h'
  · exact (h_1 h).trans hz
  · rw [show i = j by omega]; exact hz
where h_1 (q : i < j) := h i j h1 q h3
theorem Srt.ge {key : Nat → Int} {f : Nat → Nat} {a b i j : Nat} (h : Srt key f a b) (h1 : a ≤ i) (h2 : i ≤ j) (h3 : j < b) {z : Nat} (hz : Bef key z (f i)) : Bef key z (f j) := by
  rcases Nat.lt_or_ge i j with h | h'
  · exact hz.trans (h_1 h)
  · rw [show j = i by omega]; exact hz
where h_1 (q : i < j) := h i j h1 q h3

/-- One on the left: it moves to its place. -/
theorem merge_left {key : Nat → Int} {f : Nat → Nat} {a b i : Nat} (h : Runs key f a (a + 1) b) (h1 : a + 1 ≤ i) (h2 : i ≤ b)
    (hl : i = a + 1 ∨ Bef key (f (i - 1)) (f a)) (hr : i = b ∨ Bef key (f a) (f i)) : Srt key (rot f a (a + 1) i) a b := by
  intro x y hx hxy hy
  have e1 : ∀ k, a ≤ k → k < i - 1 → rot f a (a + 1) i k = f (k + 1) := fun k q1 q2 => by rw [rot_1 q1 (by omega)]; congr 1; omega
  have e2 : rot f a (a + 1) i (i - 1) = f a := by rw [rot_2 (by omega) (by omega)]; congr 1; omega
  have e3 : ∀ k, i ≤ k → rot f a (a + 1) i k = f k := fun k q => rot_hi q (by omega) (by omega)
  rcases (show x < i - 1 ∨ x = i - 1 ∨ i ≤ x by omega) with c | c | c
  · rw [e1 x hx c]
    have hxa : Bef key (f (x + 1)) (f a) := by
      rcases hl with q | q
      · omega
      · exact h.right.le (by omega) (by omega) (by omega) q
    rcases (show y < i - 1 ∨ y = i - 1 ∨ i ≤ y by omega) with d | d | d
    · rw [e1 y (by omega) d]; exact h.right _ _ (by omega) (by omega) (by omega)
    · rw [d, e2]; exact hxa
    · rw [e3 y d]; exact h.right _ _ (by omega) (by omega) (by omega)
  · rw [c, e2, e3 y (by omega)]
    rcases hr with q | q
    · omega
    · exact h.right.ge (by omega) (by omega) (by omega) q
  · rw [e3 x c, e3 y (by omega)]; exact h.right _ _ (by omega) (by omega) (by omega)

/-- One on the right: it moves to its place. -/
theorem merge_right {key : Nat → Int} {f : Nat → Nat} {a m i : Nat} (h : Runs key f a m (m + 1)) (h1 : a ≤ i) (h2 : i ≤ m)
    (hl : i = a ∨ Bef key (f (i - 1)) (f m)) (hr : i = m ∨ Bef key (f m) (f i)) : Srt key (rot f i m (m + 1)) a (m + 1) := by
  intro x y hx hxy hy
  have e0 : ∀ k, k < i → rot f i m (m + 1) k = f k := fun k q => rot_lo q (by omega) (by omega)
  have e1 : rot f i m (m + 1) i = f m := by rw [rot_1 (by omega) (by omega)]; congr 1; omega
  have e2 : ∀ k, i < k → k < m + 1 → rot f i m (m + 1) k = f (k - 1) := fun k q1 q2 => by rw [rot_2 (by omega) q2]; congr 1; omega
  rcases (show x < i ∨ x = i ∨ i < x by omega) with c | c | c
  · rw [e0 x c]
    have hxa : Bef key (f x) (f m) := by
      rcases hl with q | q
      · omega
      · exact h.left.le (by omega) (by omega) (by omega) q
    rcases (show y < i ∨ y = i ∨ i < y by omega) with d | d | d
    · rw [e0 y d]; exact h.left _ _ (by omega) (by omega) (by omega)
    · rw [d, e1]; exact hxa
    · rw [e2 y d hy]; exact h.left _ _ (by omega) (by omega) (by omega)
  · rw [c, e1, e2 y (by omega) hy]
    rcases hr with q | q
    · omega
    · exact h.left.ge (by omega) (by omega) (by omega) q
  · rw [e2 x c (by omega), e2 y (by omega) hy]; exact h.left _ _ (by omega) (by omega) (by omega)

/-- What the search of symMerge finds. -/
structure Found (key : Nat → Int) (f : Nat → Nat) (a m b start : Nat) : Prop where
  lo : a ≤ start
  lm : start ≤ m
  mid : start ≤ (a + b) / 2
  hi : (a + b) / 2 + m ≤ start + b
  below : start = a ∨ start + b = (a + b) / 2 + m ∨ Bef key (f (start - 1)) (f ((a + b) / 2 + m - start))
  above : start = m ∨ start = (a + b) / 2 ∨ Bef key (f ((a + b) / 2 + m - 1 - start)) (f start)

section
variable {key : Nat → Int} {f : Nat → Nat} {a m b s : Nat}

theorem half_low (h : Runs key f a m b) (hf : Found key f a m b s) : Runs key (rot f s m ((a + b) / 2 + m - s)) a s ((a + b) / 2) := by
  have := hf.lo; have := hf.lm; have := hf.mid; have := hf.hi; have := h.am; have := h.mb
  refine ⟨by omega, by omega, fun i j h1 h2 h3 => ?_, fun i j h1 h2 h3 => ?_, fun i j h1 h2 h3 h4 => ?_⟩
  · rw [rot_lo (by omega) (by omega) (by omega), rot_lo (by omega) (by omega) (by omega)]; exact h.left _ _ (by omega) (by omega) (by omega)
  · rw [rot_1 (by omega) (by omega), rot_1 (by omega) (by omega)]; exact h.right _ _ (by omega) (by omega) (by omega)
  · rw [rot_lo (by omega) (by omega) (by omega), rot_1 (by omega) (by omega)]; exact h.cross _ _ (by omega) (by omega) (by omega) (by omega)
theorem half_high (h : Runs key f a m b) (hf : Found key f a m b s) : Runs key (rot f s m ((a + b) / 2 + m - s)) ((a + b) / 2) ((a + b) / 2 + m - s) b := by
  have := hf.lo; have := hf.lm; have := hf.mid; have := hf.hi; have := h.am; have := h.mb
  refine ⟨by omega, by omega, fun i j h1 h2 h3 => ?_, fun i j h1 h2 h3 => ?_, fun i j h1 h2 h3 h4 => ?_⟩
  · rw [rot_2 (by omega) (by omega), rot_2 (by omega) (by omega)]; exact h.left _ _ (by omega) (by omega) (by omega)
  · rw [rot_hi (by omega) (by omega) (by omega), rot_hi (by omega) (by omega) (by omega)]; exact h.right _ _ (by omega) (by omega) (by omega)
  · rw [rot_2 (by omega) (by omega), rot_hi (by omega) (by omega) (by omega)]; exact h.cross _ _ (by omega) (by omega) (by omega) (by omega)
theorem halves (h : Runs key f a m b) (hf : Found key f a m b s) {i j : Nat} (h1 : a ≤ i) (h2 : i < (a + b) / 2) (h3 : (a + b) / 2 ≤ j) (h4 : j < b) :
    Bef key (rot f s m ((a + b) / 2 + m - s) i) (rot f s m ((a + b) / 2 + m - s) j) := by
  have := hf.lo; have := hf.lm; have := hf.mid; have := hf.hi; have := h.am; have := h.mb
  by_cases ci : i < s
  · rw [rot_lo ci (by omega) (by omega)]
    by_cases cj : j < (a + b) / 2 + m - s
    · rw [rot_2 (by omega) cj]; exact h.left _ _ (by omega) (by omega) (by omega)
    · rw [rot_hi (by omega) (by omega) (by omega)]
      rcases hf.below with q | q | q
      · omega
      · omega
      · exact h.left.le (by omega) (show i ≤ s - 1 by omega) (by omega) (h.right.ge (by omega) (show (a + b) / 2 + m - s ≤ j by omega) (by omega) q)
  · rw [rot_1 (by omega) (by omega)]
    by_cases cj : j < (a + b) / 2 + m - s
    · rw [rot_2 (by omega) cj]
      rcases hf.above with q | q | q
      · omega
      · omega
      · exact h.right.le (by omega) (show i + (m - s) ≤ (a + b) / 2 + m - 1 - s by omega) (by omega) (h.left.ge (by omega) (show s ≤ j - ((a + b) / 2 + m - s - m) by omega) (by omega) q)
    · rw [rot_hi (by omega) (by omega) (by omega)]; exact h.right _ _ (by omega) (by omega) (by omega)
theorem Runs.sorted (h : Runs key f a m b) (hq : a = m ∨ m = b) : Srt key f a b := by
  rcases hq with rfl | rfl
  · exact h.right
  · exact h.left
end

/-- Two halves in order, all of the first ahead of all of the second. -/
theorem join_halves {key : Nat → Int} {g0 g : Nat → Nat} {a c b : Nat} (h0 : ∀ i j, a ≤ i → i < c → c ≤ j → j < b → Bef key (g0 i) (g0 j))
    {g1 : Nat → Nat} (m1 : Mv a c g0 g1) (s1 : Srt key g1 a c) (m2 : Mv c b g1 g) (s2 : Srt key g c b) : Srt key g a b := by
  intro x y hx hxy hy
  by_cases cx : x < c
  · rw [m2.out x (by omega)]
    by_cases cy : y < c
    · rw [m2.out y (by omega)]; exact s1 x y hx hxy cy
    · obtain ⟨x', p1, p2, e1⟩ := m1.into x hx cx
      obtain ⟨y', q1, q2, e2⟩ := m2.into y (by omega) hy
      rw [e1, e2, m1.out y' (by omega)]
      exact h0 _ _ p1 p2 q1 q2
  · exact s2 x y (by omega) hxy hy

/-- A block that is in order, and holds its own numbers. -/
structure Blk (key : Nat → Int) (f : Nat → Nat) (a b : Nat) : Prop where
  srt : Srt key f a b
  own : ∀ k, a ≤ k → k < b → a ≤ f k ∧ f k < b

theorem Blk.runs {key : Nat → Int} {f : Nat → Nat} {a m b : Nat} (h1 : Blk key f a m) (h2 : Blk key f m b) (ham : a ≤ m) (hmb : m ≤ b) : Runs key f a m b :=
  ⟨ham, hmb, h1.srt, h2.srt, fun i j q1 q2 q3 q4 => by have := h1.own i q1 q2; have := h2.own j q3 q4; omega⟩
theorem Blk.merged {key : Nat → Int} {f g : Nat → Nat} {a m b : Nat} (h1 : Blk key f a m) (h2 : Blk key f m b) (ham : a ≤ m) (hmb : m ≤ b) (hm : Mv a b f g) (hs : Srt key g a b) : Blk key g a b := by
  refine ⟨hs, fun k l u => ?_⟩
  obtain ⟨k', l', u', e⟩ := hm.into k l u
  rw [e]
  by_cases c : k' < m
  · have := h1.own k' l' c; omega
  · have := h2.own k' (by omega) u'; omega
theorem Blk.keep {key : Nat → Int} {f g : Nat → Nat} {a b c d : Nat} (h : Blk key f a b) (hm : Mv c d f g) (hd : b ≤ c ∨ d ≤ a) : Blk key g a b := by
  have e : ∀ k, a ≤ k → k < b → g k = f k := fun k h1 h2 => hm.out k (by omega)
  refine ⟨fun i j h1 h2 h3 => ?_, fun k h1 h2 => ?_⟩
  · rw [e i h1 (by omega), e j (by omega) h3]; exact h.srt i j h1 h2 h3
  · rw [e k h1 h2]; exact h.own k h1 h2

end Go.Proofs.YtbacoopopokkfaaDoor
namespace Go.Proofs.YtbacoopopokkfaaDoor
set_option linter.unusedSimpArgs false
set_option linter.unusedVariables false

/-- All blocks of a size from lo on, before hi. -/
def Blks (key : Nat → Int) (f : Nat → Nat) (n size lo hi : Nat) : Prop := ∀ x, lo ≤ x → x < hi → size ∣ x → Blk key f x (min (x + size) n)

theorem dvd_gap {s x a : Nat} (hx : s ∣ x) (ha : s ∣ a) (h : x < a) : x + s ≤ a := by
  obtain ⟨p, rfl⟩ := hx
  obtain ⟨q, rfl⟩ := ha
  have hpq : p < q := Nat.lt_of_mul_lt_mul_left h
  have := Nat.mul_le_mul_left s hpq
  rw [Nat.mul_succ] at this
  exact this

/-- A block more is in order. -/
theorem Blks.more {key : Nat → Int} {f g : Nat → Nat} {n size a b : Nat} (h : Blks key f n size 0 a) (hd : size ∣ a) (hm : Mv a b f g) (hb : Blk key g a (min (a + size) n)) : Blks key g n size 0 (a + size) := by
  intro x _ hx hs
  rcases Nat.lt_or_ge x a with c | c
  · exact (h x (by omega) c hs).keep hm (.inl (by have := dvd_gap hs hd c; omega))
  · have : x = a := by
      rcases Nat.lt_or_ge a x with d | d
      · have := dvd_gap hd hs d; omega
      · omega
    rw [this]; exact hb

/-- Within a pass: up to a the blocks are twice as long. -/
structure Pass (key : Nat → Int) (f : Nat → Nat) (n size a : Nat) : Prop where
  dv : 2 * size ∣ a
  big : Blks key f n (2 * size) 0 a
  small : Blks key f n size a n
  pos : 0 < size
  an : a ≤ n + 2 * size

theorem Pass.start {key : Nat → Int} {f : Nat → Nat} {n size : Nat} (h : Blks key f n size 0 n) (hp : 0 < size) : Pass key f n size 0 :=
  ⟨Nat.dvd_zero _, fun x _ h => by omega, h, hp, by omega⟩
theorem Pass.dv1 {key : Nat → Int} {f : Nat → Nat} {n size a : Nat} (h : Pass key f n size a) : size ∣ a := Nat.dvd_trans (Nat.dvd_mul_left size 2) h.dv
/-- The runs that are merged next. -/
theorem Pass.runs {key : Nat → Int} {f : Nat → Nat} {n size a b : Nat} (h : Pass key f n size a) (hb : b = min (a + 2 * size) n) (hm : a + size < n) : Runs key f a (a + size) b := by
  have hp := h.pos
  have h1 := h.small a (Nat.le_refl _) (by omega) h.dv1
  have h2 := h.small (a + size) (by omega) hm (Nat.dvd_add h.dv1 (Nat.dvd_refl _))
  rw [show min (a + size) n = a + size by omega] at h1
  rw [show min (a + size + size) n = b by omega] at h2
  exact Blk.runs h1 h2 (by omega) (by omega)
theorem Pass.step {key : Nat → Int} {f g : Nat → Nat} {n size a b : Nat} (h : Pass key f n size a) (hb : b = min (a + 2 * size) n) (hm : a + size < n) (hv : Mv a b f g) (hs : Srt key g a b) : Blk key g a b := by
  have hp := h.pos
  have h1 := h.small a (Nat.le_refl _) (by omega) h.dv1
  have h2 := h.small (a + size) (by omega) hm (Nat.dvd_add h.dv1 (Nat.dvd_refl _))
  rw [show min (a + size) n = a + size by omega] at h1
  rw [show min (a + size + size) n = b by omega] at h2
  exact Blk.merged h1 h2 (by omega) (by omega) hv hs
theorem Pass.next {key : Nat → Int} {f g : Nat → Nat} {n size a : Nat} (h : Pass key f n size a) (hn : a + 2 * size ≤ n) (hv : Mv a (a + 2 * size) f g) (hs : Srt key g a (a + 2 * size)) : Pass key g n size (a + 2 * size) := by
  have hp := h.pos
  have hb := h.step (b := a + 2 * size) (by omega) (by omega) hv hs
  refine ⟨Nat.dvd_add h.dv (Nat.dvd_refl _), h.big.more h.dv hv (by rw [show min (a + 2 * size) n = a + 2 * size by omega]; exact hb), fun x h1 h2 h3 => ?_, hp, by omega⟩
  exact (h.small x (by omega) h2 h3).keep hv (.inr h1)
/-- The end of a pass, where a last pair is merged. -/
theorem Pass.last {key : Nat → Int} {f g : Nat → Nat} {n size a : Nat} (h : Pass key f n size a) (hn : n < a + 2 * size) (hm : a + size < n) (hv : Mv a n f g) (hs : Srt key g a n) : Blks key g n (2 * size) 0 n := by
  have hp := h.pos
  have hb := h.step (b := n) (by omega) hm hv hs
  intro x h1 h2 h3
  exact (h.big.more h.dv hv (by rw [show min (a + 2 * size) n = n by omega]; exact hb)) x h1 (by omega) h3
/-- The end of a pass, where nothing, or one block, is left. -/
theorem Pass.done {key : Nat → Int} {f : Nat → Nat} {n size a : Nat} (h : Pass key f n size a) (hn : n < a + 2 * size) (hm : n ≤ a + size) : Blks key f n (2 * size) 0 n := by
  have hp := h.pos
  intro x h1 h2 h3
  rcases Nat.lt_or_ge x a with c | c
  · exact h.big x h1 c h3
  · have e : x = a := by
      rcases Nat.lt_or_ge a x with d | d
      · have := dvd_gap h.dv h3 d; omega
      · omega
    subst e
    have h4 := h.small x (Nat.le_refl _) h2 h.dv1
    rw [show min (x + size) n = n by omega] at h4
    rw [show min (x + 2 * size) n = n by omega]
    exact h4
theorem Blks.all {key : Nat → Int} {f : Nat → Nat} {n size : Nat} (h : Blks key f n size 0 n) (hn : 0 < n) (hs : n ≤ size) : Srt key f 0 n := by
  have := h 0 (Nat.le_refl _) hn (Nat.dvd_zero _)
  rw [show min (0 + size) n = n by omega] at this
  exact this.srt

/-- The state of an insertion sort: from a up to i in order; from i on nothing has moved. -/
structure Ins (key : Nat → Int) (f0 f : Nat → Nat) (a i : Nat) : Prop where
  ai : a ≤ i
  mv : Mv a i f0 f
  srt : Srt key f a i
  own : ∀ k, a ≤ k → f0 k = k

theorem Ins.runs {key : Nat → Int} {f0 f : Nat → Nat} {a i : Nat} (h : Ins key f0 f a i) : Runs key f a i (i + 1) := by
  refine ⟨h.ai, by omega, h.srt, fun x y h1 h2 h3 => by omega, fun x y h1 h2 h3 h4 => ?_⟩
  obtain ⟨x', l, u, e⟩ := h.mv.into x h1 h2
  rw [e, h.own x' l, h.mv.out y (by omega), h.own y (by have := h.ai; omega)]
  omega
theorem Ins.next {key : Nat → Int} {f0 f : Nat → Nat} {a i j : Nat} (h : Ins key f0 f a i) (h1 : a ≤ j) (h2 : j ≤ i) (hl : j = a ∨ Bef key (f (j - 1)) (f i)) (hr : j = i ∨ Bef key (f i) (f j)) : Ins key f0 (rot f j i (i + 1)) a (i + 1) := by
  have := h.ai
  exact ⟨by omega, (h.mv.mono (Nat.le_refl _) (by omega)).trans ((Mv.rot f j i (i + 1) h2 (by omega)).mono h1 (by omega)), merge_right h.runs h1 h2 hl hr, h.own⟩
theorem Ins.blk {key : Nat → Int} {f0 f : Nat → Nat} {a b : Nat} (h : Ins key f0 f a b) : Blk key f a b := by
  refine ⟨h.srt, fun k l u => ?_⟩
  obtain ⟨k', l', u', e⟩ := h.mv.into k l u
  rw [e, h.own k' l']; omega
theorem Ins.start {key : Nat → Int} {f : Nat → Nat} {a : Nat} (h : ∀ k, a ≤ k → f k = k) : Ins key f f a (a + 1) :=
  ⟨by omega, Mv.refl _ _ _, fun i j h1 h2 h3 => by omega, h⟩
end Go.Proofs.YtbacoopopokkfaaDoor
namespace Go.Proofs.YtbacoopopokkfaaDoor
open Go.RowKit
set_option linter.unusedSimpArgs false
set_option linter.unusedVariables false

/-- The numbers in the first n places. -/
def fA (n : Nat) (f : Nat → Nat) : Array Nat := ((List.range n).map f).toArray
theorem fA_size (n : Nat) (f : Nat → Nat) : (fA n f).size = n := by simp [fA]
theorem fA_get {n : Nat} {f : Nat → Nat} {k : Nat} (h : k < n) : (fA n f)[k]! = f k := by
  rw [getElem!_pos _ k (by rw [fA_size]; exact h)]; simp [fA]
theorem fA_ext {n : Nat} {d : Array Nat} {f : Nat → Nat} (hs : d.size = n) (h : ∀ k, k < n → d[k]! = f k) : d = fA n f := by
  apply Array.ext
  · rw [hs, fA_size]
  · intro i h1 h2
    have q := h i (by omega)
    rw [getElem!_pos d i h1] at q
    rw [q, ← fA_get (f := f) (show i < n by omega), getElem!_pos _ i h2]
theorem fA_swp {n : Nat} {f : Nat → Nat} {i j : Nat} (hi : i < n) (hj : j < n) : Go.Sort.swp (fA n f) i j = fA n (swp f i j) := by
  apply fA_ext
  · rw [Go.Sort.size_swp, fA_size]
  · intro k hk
    rw [Go.Sort.swp_get _ (by rw [fA_size]; exact hi) (by rw [fA_size]; exact hj)]
    unfold swp
    by_cases e1 : k = i
    · by_cases e2 : k = j
      · subst e1; subst e2; simp [fA_get hk]
      · subst e1; simp [e2, fA_get hj]
    · by_cases e2 : k = j
      · subst e2; simp [e1, fA_get hi]
      · simp [e1, e2, fA_get hk]

/-- What the sort is told, once: the row at first, the comparison, and the keys (the greater ones come first). -/
structure SBase (P : Program) (enc : Nat → List Value) (K n g off : Nat) (w0 : World) (G : Nat) (CB : Array Value) (cf : Nat → Nat → Int) (key : Nat → Int) : Prop where
  row : RowK enc K w0 g off (fA n fun k => k)
  cmp : CmpLays P G CB enc K cf g off n w0
  eg : ∀ args w, (callFunc G args).run P w = .ok (.enter G args) w
  hcf : ∀ x y, x < n → y < n → (cf x y < 0 ↔ key y < key x)
  hn : n ≤ 20000

/-- A world of the sort's: place k holds element f k. -/
structure SorK (enc : Nat → List Value) (K n g off : Nat) (w0 : World) (f : Nat → Nat) (W : World) : Prop where
  S : SWK enc K w0 g off (fA n f) W
  lt : ∀ k, k < n → f k < n

section
variable {P : Program} {enc : Nat → List Value} {K n g off : Nat} {w0 W : World} {G : Nat} {CB : Array Value} {cf : Nat → Nat → Int} {key : Nat → Int} {f : Nat → Nat}
theorem SorK.start (B : SBase P enc K n g off w0 G CB cf key) : SorK enc K n g off w0 (fun k => k) w0 := ⟨SWK.start B.row.hH, fun _ h => h⟩
theorem SorK.grown (h : SorK enc K n g off w0 f W) (q : Nat) (os : Array Obj) : SorK enc K n g off w0 f (Go.Sort.grow (W.drewN q) os) := ⟨h.S.grown q os, h.lt⟩
theorem SorK.drew (h : SorK enc K n g off w0 f W) : SorK enc K n g off w0 f W.drew := ⟨h.S.drew, h.lt⟩
theorem SorK.drewN (h : SorK enc K n g off w0 f W) (q : Nat) : SorK enc K n g off w0 f (W.drewN q) := ⟨h.S.drewN q, h.lt⟩
theorem SorK.cell (h : SorK enc K n g off w0 f W) (B : SBase P enc K n g off w0 G CB cf key) {k c : Nat} (hk : k < n) (hc : c < K) :
    W.cell? ⟨g, off + k * K + c, none⟩ = some (enc (f k))[c]! := by
  have q := (Go.Sort.HoldsK.cell (h.S.holds B.row.hblk B.row.hH (by rw [fA_size, fA_size])) (i := k) (c := c) (by rw [fA_size]; exact hk) hc).1
  rwa [fA_get hk] at q
theorem SorK.free (h : SorK enc K n g off w0 f W) (B : SBase P enc K n g off w0 G CB cf key) {k c : Nat} (hk : k < n) (hc : c < K) :
    W.frozen? ⟨g, off + k * K + c, none⟩ = false :=
  (Go.Sort.HoldsK.cell (h.S.holds B.row.hblk B.row.hH (by rw [fA_size, fA_size])) (i := k) (c := c) (by rw [fA_size]; exact hk) hc).2
theorem SorK.calls (h : SorK enc K n g off w0 f W) (B : SBase P enc K n g off w0 G CB cf key) (x y : Nat) (q : Nat) (os : Array Obj) :
    Calls P G (#[.agg (enc x).toArray, .agg (enc y).toArray] ++ CB) (Go.Sort.grow (W.drewN q) os) fun e w' => e = .returned (.int .i64 (cf x y)) ∧ ∃ q' os', w' = Go.Sort.grow ((Go.Sort.grow (W.drewN q) os).drewN q') os' :=
  h.S.cmp B.cmp (fA_size n f) x y q os
theorem SorK.swap (h : SorK enc K n g off w0 f W) (B : SBase P enc K n g off w0 G CB cf key) {i j : Nat} (hi : i < n) (hj : j < n) :
    SorK enc K n g off w0 (swp f i j) ((W.drew.setCells g (off + i * K) (enc (f j))).setCells g (off + j * K) (enc (f i))) := by
  have q := h.S.swapped B.row i j (by rw [fA_size]; exact hi) (by rw [fA_size]; exact hj)
  rw [fA_get hi, fA_get hj, fA_swp hi hj] at q
  refine ⟨q, fun k hk => ?_⟩
  unfold swp
  split
  · exact h.lt _ hj
  · split
    · exact h.lt _ hi
    · exact h.lt _ hk
theorem SorK.swapD (h : SorK enc K n g off w0 f W) (B : SBase P enc K n g off w0 G CB cf key) {i j : Nat} (hi : i < n) (hj : j < n) :
    SorK enc K n g off w0 (swp f i j) (((W.setCells g (off + i * K) (enc (f j))).setCells g (off + j * K) (enc (f i)))).drew := by
  have q := h.S.swap B.row.hk B.row.hblk i j (by rw [fA_size]; exact hi) (by rw [fA_size]; exact hj)
  rw [fA_get hi, fA_get hj, fA_swp hi hj] at q
  exact ⟨q.drewN 1, (h.swap B hi hj).lt⟩
/-- A cell in the worlds of a test. -/
theorem SorK.gcell (h : SorK enc K n g off w0 f W) (B : SBase P enc K n g off w0 G CB cf key) {k c x : Nat} (hk : k < n) (hc : c < K) (hx : f k = x) (q : Nat) (os : Array Obj) :
    (Go.Sort.grow (W.drewN q) os).cell? ⟨g, off + k * K + c, none⟩ = some (enc x)[c]! := by
  have := (h.grown q os).cell B hk hc
  rwa [hx] at this
end
end Go.Proofs.YtbacoopopokkfaaDoor
namespace Go.Proofs.YtbacoopopokkfaaDoor
open Go.RowKit
set_option linter.unusedSimpArgs false
set_option linter.unusedVariables false

theorem heap_sortedV {w : World} {g n : Nat} {os : Array Obj} {cur : Array Value} {e : TypeId} {fr : Nat × Nat} (d : Array Value) (hb : w.heap[g]? = some (.cells cur e fr)) :
    (Go.Sort.grow (Go.Sort.putRow id (Go.Sort.ahead w n) g 0 d) os).heap[g]? = some (.cells (Go.Sort.putCells id 0 d cur) e fr) := by
  have hg : g < w.heap.size := (Array.getElem?_eq_some_iff.1 hb).1
  rw [Go.Sort.heap_grow_old _ _ (by simpa using hg)]
  simp [Go.Sort.putRow, Go.Sort.mapBlock, Go.Sort.ahead, Array.getElem?_modify, hb, Go.Sort.onCells]
theorem grownBy_sortedV {w : World} {g n : Nat} {os : Array Obj} (d : Array Value) : w.grownBy (Go.Sort.grow (Go.Sort.putRow id (Go.Sort.ahead w n) g 0 d) os) (some g) := by
  refine ⟨rfl, rfl, rfl, by simp, fun k hk hne => ?_⟩
  rw [Go.Sort.heap_grow_old _ _ (by simpa using hk)]
  have : g ≠ k := fun e => hne (by rw [e])
  simp [Go.Sort.putRow, Go.Sort.mapBlock, Go.Sort.ahead, Array.getElem?_modify, this]

section
variable {P : Program} {enc : Nat → List Value} {K n g : Nat} {w0 W : World} {G : Nat} {CB : Array Value} {cf : Nat → Nat → Int} {key : Nat → Int} {f : Nat → Nat}
theorem flat_at (hk : ∀ x, (enc x).length = K) (f : Nat → Nat) {j : Nat} (hj : j < n * K) : (((List.range n).map f).flatMap enc)[j]? = some (Go.Sort.flatK enc K (fA n f))[j]! := by
  have hK : 0 < K := by
    rcases Nat.eq_zero_or_pos K with h | h
    · subst h; simp at hj
    · exact h
  have h1 : j % K < K := Nat.mod_lt _ hK
  have h2 : j / K < n := Nat.div_lt_of_lt_mul (by rw [Nat.mul_comm]; exact hj)
  have he : j = j / K * K + j % K := by have := Nat.div_add_mod j K; rw [Nat.mul_comm]; exact this.symm
  rw [Go.Sort.get_flatK _ _ _ _ (by rw [fA_size]; exact hj), fA_get h2]
  rw [show (((List.range n).map f).flatMap enc)[j]? = (((List.range n).map f).flatMap enc)[j / K * K + j % K]? from by rw [← he]]
  rw [mflat_at enc K hk _ _ _ (by simpa using h2) h1]
  simp only [List.getElem_map, List.getElem_range]
  rw [List.getElem?_eq_getElem (by rw [hk]; exact h1), getElem!_pos _ _ (by rw [hk]; exact h1)]
/-- Out of a sort's world: the row is owned, and holds the elements in their new places. -/
theorem SorK.owns {base cap : Nat} {e : TypeId} {cur : Array Value} (h : SorK enc K n g 0 w0 f W) (hk : ∀ x, (enc x).length = K) (hbase : base ≤ g) (hb : w0.heap[g]? = some (.cells cur e (0, 0)))
    (h1 : n ≤ cap) (h2 : cap ≤ maxLen) (h3 : cur.size = cap * K) : W.ownsRow base e K (.slice (some ⟨g, 0, none⟩) n cap) n (((List.range n).map f).flatMap enc) := by
  obtain ⟨m, os, hW⟩ := h.S
  subst hW
  have hle : n * K ≤ cur.size := by rw [h3]; exact Nat.mul_le_mul_right K h1
  refine ⟨by rw [mflat_len enc K hk]; simp, .inr ⟨g, cap, _, rfl, hbase, heap_sortedV _ hb, h1, h2, by simp [Go.Sort.putCells, h3], ?_⟩⟩
  apply List.ext_getElem?
  intro j
  by_cases hj : j < n * K
  · rw [List.getElem?_take_of_lt hj, Array.getElem?_toList, flat_at hk f hj]
    have hs : (Go.Sort.flatK enc K (fA n f)).size = n * K := by rw [Go.Sort.size_flatK, fA_size]
    simp only [Go.Sort.putCells, Array.getElem?_mapIdx, Array.getElem?_eq_getElem (show j < cur.size by omega), Option.map_some, Nat.zero_add, Nat.zero_le, true_and, hs, hj, if_true, Nat.sub_zero, id]
  · rw [List.getElem?_take_eq_none (by omega), List.getElem?_eq_none (by rw [mflat_len enc K hk]; simp; omega)]
theorem SorK.keeps (h : SorK enc K n g 0 w0 f W) : w0.grownBy W (some g) := by
  obtain ⟨m, os, hW⟩ := h.S
  subst hW
  exact grownBy_sortedV _
/-- Into a sort's world: a row that is owned holds its elements. -/
theorem own_holds {base cap : Nat} {e : TypeId} (hk : ∀ x, (enc x).length = K) (h : w0.ownsRow base e K (.slice (some ⟨g, 0, none⟩) n cap) n ((List.range n).flatMap enc)) :
    Go.Sort.HoldsK enc K w0 g 0 (fA n fun k => k) ∧ g < w0.heap.size ∧ base ≤ g ∧ n ≤ cap ∧ cap ≤ maxLen ∧ ∃ cur, w0.heap[g]? = some (.cells cur e (0, 0)) ∧ cur.size = cap * K := by
  rcases h.2 with ⟨hv, _⟩ | ⟨g', cap', cur, hv, hbase, hg, h1, h2, h3, h4⟩
  · cases hv
  · injection hv with e1 e2 e3
    injection e1 with e1; injection e1 with e1 _ _
    subst e1; subst e3
    refine ⟨?_, (Array.getElem?_eq_some_iff.1 hg).1, hbase, h1, h2, cur, hg, h3⟩
    intro j hj
    rw [Go.Sort.size_flatK, fA_size] at hj
    refine ⟨?_, by simp [World.frozen?, hg]⟩
    have hle : n * K ≤ cur.size := by rw [h3]; exact Nat.mul_le_mul_right K h1
    have q := flat_at (n := n) hk (fun k => k) hj
    rw [show (List.range n).map (fun k => k) = List.range n from List.map_id _] at q
    rw [← h4, List.getElem?_take_of_lt hj, Array.getElem?_toList] at q
    simp only [World.cell?, hg, Nat.zero_add, Option.isSome_none, Bool.false_eq_true, if_false, id]
    exact q
end
end Go.Proofs.YtbacoopopokkfaaDoor
namespace Go.Proofs.YtbacoopopokkfaaDoor
set_option linter.unusedSimpArgs false
set_option linter.unusedVariables false

def nth (l : List Int) (i : Nat) : Int := l[i]?.getD 0
theorem nth_get {l : List Int} {i : Nat} (h : i < l.length) : nth l i = l[i] := by simp [nth, h]

def okW (w : Int) : Prop := 0 ≤ w ∧ w ≤ 1000000
def goodWs (ws : List Int) : Prop := ∀ i, i < ws.length → okW (nth ws i)

theorem sum_take_succ (l : List Int) (j : Nat) (h : j < l.length) : (l.take (j + 1)).sum = (l.take j).sum + nth l j := by
  rw [List.take_succ_eq_append_getElem h, List.sum_append, nth_get h]; simp
theorem sum_bd (l : List Int) (m : Int) (h : ∀ i, i < l.length → 0 ≤ nth l i ∧ nth l i ≤ m) : 0 ≤ l.sum ∧ l.sum ≤ m * l.length := by
  induction l with
  | nil => simp
  | cons x r ih =>
    have h0 := h 0 (by simp)
    have hr := ih fun i hi => by have := h (i + 1) (by simpa using hi); simpa [nth] using this
    simp only [nth, List.getElem?_cons_zero, Option.getD_some] at h0
    rw [List.sum_cons, List.length_cons]
    push_cast
    rw [Int.mul_add]
    omega
theorem nth_take {l : List Int} {i j : Nat} (h : i < j) : nth (l.take j) i = nth l i := by simp [nth, h]
theorem sum_take_bd (l : List Int) (j : Nat) (m : Int) (hm : 0 ≤ m) (h : ∀ i, i < l.length → 0 ≤ nth l i ∧ nth l i ≤ m) : 0 ≤ (l.take j).sum ∧ (l.take j).sum ≤ m * j := by
  have := sum_bd (l.take j) m fun i hi => by
    rw [List.length_take] at hi
    rw [nth_take (by omega)]; exact h i (by omega)
  refine ⟨this.1, Int.le_trans this.2 (Int.mul_le_mul_of_nonneg_left ?_ hm)⟩
  rw [List.length_take]; omega
theorem sum_take_le (l : List Int) (h : ∀ i, i < l.length → 0 ≤ nth l i) (j : Nat) : (l.take j).sum ≤ l.sum := by
  have e : l.sum = (l.take j).sum + (l.drop j).sum := by rw [← List.sum_append, List.take_append_drop]
  have : 0 ≤ (l.drop j).sum := by
    have : ∀ (r : List Int), (∀ i, i < r.length → 0 ≤ nth r i) → 0 ≤ r.sum := by
      intro r
      induction r with
      | nil => simp
      | cons x r ih =>
        intro hr
        have h0 := hr 0 (by simp)
        have h1 := ih fun i hi => by have := hr (i + 1) (by simpa using hi); simpa [nth] using this
        simp only [nth, List.getElem?_cons_zero, Option.getD_some] at h0
        rw [List.sum_cons]; omega
    refine this _ fun i hi => ?_
    rw [List.length_drop] at hi
    have := h (j + i) (by omega)
    simpa [nth, List.getElem?_drop] using this
  omega

def partOf (t s w : Int) : Int := t * w / s
def restOf (t s w : Int) : Int := t * w % s
def partsL (t s : Int) (ws : List Int) : List Int := ws.map (partOf t s)
def restsL (t s : Int) (ws : List Int) : List Int := ws.map (restOf t s)
def keyOf (t s : Int) (ws : List Int) (i : Nat) : Int := restOf t s (nth ws i)

theorem nth_parts {t s : Int} {ws : List Int} {i : Nat} (h : i < ws.length) : nth (partsL t s ws) i = partOf t s (nth ws i) := by simp [nth, partsL, h]
theorem nth_rests {t s : Int} {ws : List Int} {i : Nat} (h : i < ws.length) : nth (restsL t s ws) i = keyOf t s ws i := by simp [nth, restsL, h, keyOf]

theorem parts_rests (t s : Int) (ws : List Int) : s * (partsL t s ws).sum + (restsL t s ws).sum = t * ws.sum := by
  induction ws with
  | nil => simp [partsL, restsL]
  | cons w r ih =>
    have := Int.mul_ediv_add_emod (t * w) s
    simp only [partsL, restsL, List.map_cons, List.sum_cons] at ih ⊢
    rw [Int.mul_add, Int.mul_add, ← ih]
    unfold partOf restOf at *
    omega

section
variable {t s : Int} {ws : List Int}

theorem rest_bd (hs : 0 < s) (w : Int) : 0 ≤ restOf t s w ∧ restOf t s w < s := ⟨Int.emod_nonneg _ (by omega), Int.emod_lt_of_pos _ hs⟩
theorem part_bd (ht : 0 ≤ t) (hs : 0 < s) {w : Int} (hw : 0 ≤ w) (hws : w ≤ s) : 0 ≤ partOf t s w ∧ partOf t s w ≤ t := by
  refine ⟨Int.ediv_nonneg (Int.mul_nonneg ht hw) (by omega), ?_⟩
  unfold partOf
  have h1 : t * w ≤ t * s := Int.mul_le_mul_of_nonneg_left hws ht
  calc t * w / s ≤ t * s / s := Int.ediv_le_ediv hs h1
    _ = t := Int.mul_ediv_cancel _ (by omega)
theorem parts_nonneg (ht : 0 ≤ t) (hs : 0 < s) (hg : ∀ i, i < ws.length → 0 ≤ nth ws i) : ∀ i, i < (partsL t s ws).length → 0 ≤ nth (partsL t s ws) i := fun i hi => by
  have hi' : i < ws.length := by simpa [partsL] using hi
  rw [nth_parts hi']
  exact Int.ediv_nonneg (Int.mul_nonneg ht (hg i hi')) (by omega)

/-- What is left behind the first j. -/
def leftAt (t s : Int) (ws : List Int) (j : Nat) : Int := t - ((partsL t s ws).take j).sum
theorem left_zero : leftAt t s ws 0 = t := by simp [leftAt]
theorem left_succ {j : Nat} (h : j < ws.length) : leftAt t s ws (j + 1) = leftAt t s ws j - partOf t s (nth ws j) := by
  unfold leftAt
  rw [sum_take_succ _ _ (by simpa [partsL] using h), nth_parts h]; omega
theorem left_bd (ht : 0 ≤ t) (hs : 0 < s) (hg : ∀ i, i < ws.length → 0 ≤ nth ws i) (he : ws.sum = s) (j : Nat) : 0 ≤ leftAt t s ws j ∧ leftAt t s ws j ≤ t := by
  have h0 := parts_nonneg (t := t) (s := s) ht hs hg
  have h1 := sum_take_le _ h0 j
  have h3 : 0 ≤ ((partsL t s ws).take j).sum := by
    have := sum_take_le ((partsL t s ws).take j) (fun i hi => by rw [List.length_take] at hi; rw [nth_take (by omega)]; exact h0 i (by omega)) 0
    simpa using this
  have h2 : (partsL t s ws).sum ≤ t := by
    have e := parts_rests t s ws
    rw [he] at e
    have hr : 0 ≤ (restsL t s ws).sum := (sum_bd (restsL t s ws) s fun i hi => by
      have hi' : i < ws.length := by simpa [restsL] using hi
      rw [nth_rests hi']
      have := rest_bd (t := t) hs (nth ws i)
      unfold keyOf; omega).1
    have : s * (partsL t s ws).sum ≤ s * t := by rw [Int.mul_comm s t]; omega
    exact Int.le_of_mul_le_mul_left this hs
  unfold leftAt; omega
theorem left_lt (hs : 0 < s) (he : ws.sum = s) (hn : 0 < ws.length) : leftAt t s ws ws.length < ws.length := by
  have e := parts_rests t s ws
  rw [he] at e
  have hr : (restsL t s ws).sum ≤ (s - 1) * (restsL t s ws).length := (sum_bd (restsL t s ws) (s - 1) fun i hi => by
    have hi' : i < ws.length := by simpa [restsL] using hi
    rw [nth_rests hi']
    have := rest_bd (t := t) hs (nth ws i)
    unfold keyOf; omega).2
  have hl : (restsL t s ws).length = ws.length := by simp [restsL]
  rw [hl] at hr
  unfold leftAt
  rw [show (partsL t s ws).take ws.length = partsL t s ws by rw [List.take_of_length_le]; simp [partsL]]
  have hlt : s * (t - (partsL t s ws).sum) < s * ws.length := by
    rw [Int.mul_sub, Int.mul_comm s t]
    have h1 : (s - 1) * (ws.length : Int) < s * ws.length := Int.mul_lt_mul_of_pos_right (by omega) (by omega)
    omega
  exact Int.lt_of_mul_lt_mul_left hlt (by omega)
end

/-- One more for the first j of an order. -/
def bumped (ps : List Int) (f : Nat → Nat) : Nat → List Int
  | 0 => ps
  | j + 1 => (bumped ps f j).set (f j) (nth (bumped ps f j) (f j) + 1)
theorem bumped_len (ps : List Int) (f : Nat → Nat) : ∀ j, (bumped ps f j).length = ps.length
  | 0 => rfl
  | j + 1 => by rw [bumped, List.length_set]; exact bumped_len ps f j
theorem nth_set {l : List Int} {i k : Nat} {x : Int} (h : k < l.length) : nth (l.set k x) i = if k = i then x else nth l i := by
  unfold nth
  rw [List.getElem?_set]
  split
  · rfl
  · rfl
theorem sum_set {l : List Int} {k : Nat} {x : Int} (h : k < l.length) : (l.set k x).sum = l.sum + x - nth l k := by
  induction l generalizing k with
  | nil => simp at h
  | cons y r ih =>
    cases k with
    | zero => simp [nth]; omega
    | succ k =>
      have := ih (k := k) (by simpa using h)
      simp only [List.set_cons_succ, List.sum_cons, this]
      simp [nth]; omega
theorem bumped_sum (ps : List Int) (f : Nat → Nat) (hf : ∀ k, k < ps.length → f k < ps.length) : ∀ j, j ≤ ps.length → (bumped ps f j).sum = ps.sum + j
  | 0, _ => by simp [bumped]
  | j + 1, h => by
    rw [bumped, sum_set (by rw [bumped_len]; exact hf j (by omega)), bumped_sum ps f hf j (by omega)]
    push_cast; omega
theorem bumped_nth (ps : List Int) (f : Nat → Nat) (hi : ∀ i j, f i = f j → i = j) (hf : ∀ k, k < ps.length → f k < ps.length) : ∀ j, j ≤ ps.length → ∀ i,
    (nth (bumped ps f j) i = nth ps i + 1 ∧ ∃ k, k < j ∧ f k = i) ∨ (nth (bumped ps f j) i = nth ps i ∧ ∀ k, k < j → f k ≠ i)
  | 0, _, i => .inr ⟨rfl, fun k h => by omega⟩
  | j + 1, h, i => by
    have ih := bumped_nth ps f hi hf j (by omega)
    rw [bumped, nth_set (by rw [bumped_len]; exact hf j (by omega))]
    by_cases c : f j = i
    · rw [if_pos c]
      left
      rcases ih (f j) with ⟨_, k, h1, h2⟩ | ⟨h1, _⟩
      · have := hi _ _ h2; omega
      · exact ⟨by rw [h1, c], j, by omega, c⟩
    · rw [if_neg c]
      rcases ih i with ⟨h1, k, h2, h3⟩ | ⟨h1, h2⟩
      · exact .inl ⟨h1, k, by omega, h3⟩
      · refine .inr ⟨h1, fun k hk => ?_⟩
        rcases Nat.lt_or_ge k j with q | q
        · exact h2 k q
        · rw [show k = j by omega]; exact c

/-- An order of the numbers below n. -/
structure Ord (key : Nat → Int) (n : Nat) (f : Nat → Nat) : Prop where
  mv : Mv 0 n (fun k => k) f
  srt : Srt key f 0 n
theorem Ord.lt {key : Nat → Int} {n : Nat} {f : Nat → Nat} (h : Ord key n f) {k : Nat} (hk : k < n) : f k < n := by
  obtain ⟨k', _, u, e⟩ := h.mv.into k (by omega) hk
  rw [e]; exact u
theorem Ord.inj {key : Nat → Int} {n : Nat} {f : Nat → Nat} (h : Ord key n f) : ∀ i j, f i = f j → i = j := h.mv.inj fun _ _ h => h
theorem sub_len : ∀ (l m : List Nat), l.Nodup → l ⊆ m → l.length ≤ m.length
  | [], _, _, _ => by simp
  | x :: r, m, hd, hs => by
    rw [List.nodup_cons] at hd
    have hx : x ∈ m := hs (by simp)
    have h := sub_len r (m.erase x) hd.2 fun y hy => (List.mem_erase_of_ne (fun e : y = x => hd.1 (e ▸ hy))).2 (hs (List.mem_cons_of_mem _ hy))
    rw [List.length_erase_of_mem hx] at h
    have := List.length_pos_of_mem hx
    simp only [List.length_cons]
    omega
/-- Each number has its place. -/
theorem Ord.place {key : Nat → Int} {n : Nat} {f : Nat → Nat} (h : Ord key n f) {i : Nat} (hi : i < n) : ∃ k, k < n ∧ f k = i := by
  refine Classical.byContradiction fun hno => ?_
  have hall : ∀ k, k < n → f k ≠ i := fun k hk e => hno ⟨k, hk, e⟩
  have hl : ((List.range n).map f).Nodup := List.pairwise_map.2 (List.nodup_range.imp fun hab e => hab (h.inj _ _ e))
  have hs : (List.range n).map f ⊆ (List.range n).erase i := by
    intro x hx
    obtain ⟨k, hk, rfl⟩ := List.mem_map.1 hx
    have hk := List.mem_range.1 hk
    exact (List.mem_erase_of_ne (hall k hk)).2 (List.mem_range.2 (h.lt hk))
  have hle := sub_len _ _ hl hs
  rw [List.length_erase_of_mem (List.mem_range.2 hi)] at hle
  simp at hle
  omega

/-- A greater weight does not get less. -/
theorem share_order {t s : Int} {ws : List Int} {f : Nat → Nat} (ht : 0 ≤ t) (hs : 0 < s) (ho : Ord (keyOf t s ws) ws.length f) {L : Nat} (hL : L ≤ ws.length) (hL0 : t = 0 → L = 0)
    {i k : Nat} (hi : i < ws.length) (hk : k < ws.length) (hw : nth ws i < nth ws k) :
    nth (bumped (partsL t s ws) f L) i ≤ nth (bumped (partsL t s ws) f L) k := by
  have hlen : (partsL t s ws).length = ws.length := by simp [partsL]
  have bi := bumped_nth (partsL t s ws) f ho.inj (fun k hk => by rw [hlen] at hk ⊢; exact ho.lt hk) L (by omega) i
  have bk := bumped_nth (partsL t s ws) f ho.inj (fun k hk => by rw [hlen] at hk ⊢; exact ho.lt hk) L (by omega) k
  rw [nth_parts hi] at bi
  rw [nth_parts hk] at bk
  have hmul : t * nth ws i ≤ t * nth ws k := Int.mul_le_mul_of_nonneg_left (by omega) ht
  have hpart : partOf t s (nth ws i) ≤ partOf t s (nth ws k) := Int.ediv_le_ediv hs hmul
  rcases bi with ⟨e1, p, hp, hfp⟩ | ⟨e1, _⟩
  · rcases bk with ⟨e2, _⟩ | ⟨e2, hno⟩
    · omega
    · -- i is among those that get one more, k is not
      rcases (show partOf t s (nth ws i) < partOf t s (nth ws k) ∨ partOf t s (nth ws i) = partOf t s (nth ws k) by omega) with c | c
      · omega
      · exfalso
        have htp : 0 < t := by
          rcases (show t = 0 ∨ 0 < t by omega) with z | z
          · have := hL0 z; omega
          · exact z
        have hlt : t * nth ws i < t * nth ws k := Int.mul_lt_mul_of_pos_left hw htp
        have d1 := Int.mul_ediv_add_emod (t * nth ws i) s
        have d2 := Int.mul_ediv_add_emod (t * nth ws k) s
        unfold partOf at c
        rw [c] at d1
        have hrest : keyOf t s ws i < keyOf t s ws k := by unfold keyOf restOf; omega
        obtain ⟨q, hq, hfq⟩ := ho.place hk
        have hqL : L ≤ q := by
          rcases Nat.lt_or_ge q L with z | z
          · exact absurd hfq (hno q z)
          · exact z
        have := ho.srt p q (by omega) (by omega) hq
        rw [hfp, hfq] at this
        unfold Bef at this; omega
  · rcases bk with ⟨e2, _⟩ | ⟨e2, _⟩ <;> omega

end Go.Proofs.YtbacoopopokkfaaDoor
namespace Go.Proofs.YtbacoopopokkfaaDoor
set_option linter.unusedSimpArgs false
set_option linter.unusedVariables false

/-- How many of a list an element comes before. -/
def rankK {α : Type} (lt : α → α → Bool) (L : List α) (x : α) : Int := ((L.countP fun z => lt x z : Nat) : Int)
theorem countP_lt {α : Type} {p q : α → Bool} : ∀ {L : List α}, (∀ z ∈ L, p z = true → q z = true) → ∀ {y : α}, y ∈ L → p y = false → q y = true → L.countP p < L.countP q
  | [], _, _, hy, _, _ => by cases hy
  | a :: r, h, y, hy, h1, h2 => by
    have hm : r.countP p ≤ r.countP q := List.countP_mono_left fun z hz => h z (List.mem_cons_of_mem _ hz)
    rw [List.countP_cons, List.countP_cons]
    rcases List.mem_cons.1 hy with e | e
    · subst e; rw [h1, h2]; simp; omega
    · have ih := countP_lt (fun z hz => h z (List.mem_cons_of_mem _ hz)) e h1 h2
      have ha := h a (by simp)
      cases hp : p a <;> cases hq : q a <;> simp_all <;> omega
/-- Ranks tell the order. -/
theorem rank_iff {α : Type} {lt : α → α → Bool} {L : List α} (hir : ∀ x ∈ L, lt x x = false) (htr : ∀ x ∈ L, ∀ y ∈ L, ∀ z ∈ L, lt x y = true → lt y z = true → lt x z = true)
    (hnt : ∀ x ∈ L, ∀ y ∈ L, ∀ z ∈ L, lt x z = true → lt x y = true ∨ lt y z = true) {x y : α} (hx : x ∈ L) (hy : y ∈ L) : rankK lt L y < rankK lt L x ↔ lt x y = true := by
  unfold rankK
  constructor
  · intro h
    cases hc : lt x y with
    | true => rfl
    | false =>
      have : L.countP (fun z => lt x z) ≤ L.countP (fun z => lt y z) := List.countP_mono_left fun z hz e => by
        rcases hnt x hx y hy z hz e with q | q
        · rw [hc] at q; cases q
        · exact q
      omega
  · intro h
    have := countP_lt (p := fun z => lt y z) (q := fun z => lt x z) (fun z hz e => htr x hx y hy z hz h e) hy (hir y hy) h
    omega

/-- The numbers below n, in the order of their keys, each behind those of its key that are less. -/
structure Sti (key : Nat → Int) (n : Nat) (l : List Nat) : Prop where
  perm : l.Perm (List.range n)
  srt : l.Pairwise (Bef key)
theorem Bef.not {key : Nat → Int} {x y : Nat} (h : Bef key x y) : ¬ Bef key y x := by unfold Bef at *; omega
theorem Sti.one {key : Nat → Int} {n : Nat} {a b : List Nat} (ha : Sti key n a) (hb : Sti key n b) : a = b :=
  List.Perm.eq_of_pairwise (le := Bef key) (fun _ _ _ _ h1 h2 => absurd h2 h1.not) ha.srt hb.srt (ha.perm.trans hb.perm.symm)
theorem Sti.len {key : Nat → Int} {n : Nat} {l : List Nat} (h : Sti key n l) : l.length = n := by rw [h.perm.length_eq, List.length_range]
theorem Sti.lt {key : Nat → Int} {n : Nat} {l : List Nat} (h : Sti key n l) {x : Nat} (hx : x ∈ l) : x < n := List.mem_range.1 (h.perm.mem_iff.1 hx)
theorem Sti.nil (key : Nat → Int) : Sti key 0 [] := ⟨List.Perm.refl _, List.Pairwise.nil⟩
theorem Sti.ofOrd {key : Nat → Int} {n : Nat} {f : Nat → Nat} (h : Ord key n f) : Sti key n ((List.range n).map f) := by
  refine ⟨?_, ?_⟩
  · refine (List.perm_ext_iff_of_nodup ?_ List.nodup_range).2 fun x => ?_
    · exact List.pairwise_map.2 (List.nodup_range.imp fun hab e => hab (h.inj _ _ e))
    · constructor
      · intro hx
        obtain ⟨k, hk, rfl⟩ := List.mem_map.1 hx
        exact List.mem_range.2 (h.lt (List.mem_range.1 hk))
      · intro hx
        obtain ⟨k, hk, e⟩ := h.place (List.mem_range.1 hx)
        exact List.mem_map.2 ⟨k, List.mem_range.2 hk, e⟩
  · refine List.pairwise_map.2 ?_
    rw [List.pairwise_iff_getElem]
    intro i j hi hj hij
    simp only [List.length_range] at hi hj
    simp only [List.getElem_range]
    exact h.srt i j (Nat.zero_le _) hij hj
/-- One more is put where it belongs. -/
theorem Sti.put {key : Nat → Int} {n : Nat} {l : List Nat} (h : Sti key n l) {p : Nat} (hp : p ≤ n) (hl : p = 0 ∨ ¬ key (l.getD (p - 1) 0) < key n) (hr : p = n ∨ key (l.getD p 0) < key n) :
    Sti key (n + 1) (l.take p ++ n :: l.drop p) := by
  have hlen := h.len
  refine ⟨?_, ?_⟩
  · rw [List.range_succ]
    have e : (l.take p ++ n :: l.drop p).Perm (n :: (l.take p ++ l.drop p)) := List.perm_middle
    rw [List.take_append_drop] at e
    exact e.trans ((List.Perm.cons n h.perm).trans (List.perm_append_comm (l₁ := [n]) (l₂ := List.range n)))
  · have hs : (l.take p ++ l.drop p).Pairwise (Bef key) := by rw [List.take_append_drop]; exact h.srt
    obtain ⟨s1, s2, s3⟩ := List.pairwise_append.1 hs
    have hbl : ∀ x ∈ l.take p, Bef key x n := by
      intro x hx
      rcases hl with e | e
      · subst e; simp at hx
      · have hp0 : 0 < p := by rcases Nat.eq_zero_or_pos p with q | q; · subst q; simp at hx
                               · exact q
        obtain ⟨i, hi, ex⟩ := List.mem_iff_getElem.1 hx
        rw [List.length_take] at hi
        have hxn : x < n := h.lt (List.mem_of_mem_take hx)
        have hp1 : p - 1 < l.length := by omega
        rw [List.getD_eq_getElem?_getD, List.getElem?_eq_getElem hp1] at e
        simp only [Option.getD_some] at e
        have hq : Bef key l[p - 1] n := (bef_not (h.lt (List.getElem_mem hp1))).2 e
        have hxi : x = l[i] := by rw [← ex, List.getElem_take]
        rcases Nat.lt_or_ge i (p - 1) with c | c
        · have := List.pairwise_iff_getElem.1 h.srt i (p - 1) (by omega) hp1 c
          rw [hxi]; exact this.trans hq
        · have : i = p - 1 := by omega
          subst this; rw [hxi]; exact hq
    have hbr : ∀ x ∈ l.drop p, Bef key n x := by
      intro x hx
      obtain ⟨i, hi, ex⟩ := List.mem_iff_getElem.1 hx
      rw [List.length_drop] at hi
      rcases hr with e | e
      · omega
      · have hp1 : p < l.length := by omega
        rw [List.getD_eq_getElem?_getD, List.getElem?_eq_getElem hp1] at e
        simp only [Option.getD_some] at e
        have hq : Bef key n l[p] := (bef_iff (h.lt (List.getElem_mem hp1))).2 e
        have hxi : x = l[p + i] := by rw [← ex, List.getElem_drop]
        rcases Nat.eq_zero_or_pos i with c | c
        · subst c; rw [hxi]; exact hq
        · have := List.pairwise_iff_getElem.1 h.srt p (p + i) hp1 (by omega) (by omega)
          rw [hxi]; exact hq.trans this
    refine List.pairwise_append.2 ⟨s1, List.pairwise_cons.2 ⟨hbr, s2⟩, fun x hx y hy => ?_⟩
    rcases List.mem_cons.1 hy with e | e
    · subst e; exact hbl x hx
    · exact s3 x hx y e
/-- Where it belongs: ahead of those at the end that it comes before. -/
def insP (key : Nat → Int) (l : List Nat) (z : Int) : Nat → Nat
  | 0 => 0
  | p + 1 => if key (l.getD p 0) < z then insP key l z p else p + 1
theorem insP_is (key : Nat → Int) (l : List Nat) (z : Int) : ∀ p, insP key l z p ≤ p ∧ (insP key l z p = 0 ∨ ¬ key (l.getD (insP key l z p - 1) 0) < z) ∧ (∀ i, insP key l z p ≤ i → i < p → key (l.getD i 0) < z)
  | 0 => ⟨Nat.le_refl _, .inl rfl, fun i h1 h2 => by omega⟩
  | p + 1 => by
    by_cases c : key (l.getD p 0) < z
    · have e : insP key l z (p + 1) = insP key l z p := by unfold insP; rw [if_pos c]; cases p <;> rfl
      obtain ⟨h1, h2, h3⟩ := insP_is key l z p
      rw [e]
      exact ⟨by omega, h2, fun i a b => by
        rcases Nat.lt_or_ge i p with d | d
        · exact h3 i a d
        · rw [show i = p by omega]; exact c⟩
    · have e : insP key l z (p + 1) = p + 1 := by unfold insP; rw [if_neg c]
      rw [e]
      exact ⟨Nat.le_refl _, .inr (by simpa using c), fun i a b => by omega⟩
/-- The order of the numbers below n. -/
def stI (key : Nat → Int) : Nat → List Nat
  | 0 => []
  | n + 1 => (stI key n).take (insP key (stI key n) (key n) n) ++ n :: (stI key n).drop (insP key (stI key n) (key n) n)
theorem stI_is (key : Nat → Int) : ∀ n, Sti key n (stI key n)
  | 0 => Sti.nil key
  | n + 1 => by
    have h := stI_is key n
    obtain ⟨h1, h2, h3⟩ := insP_is key (stI key n) (key n) n
    exact h.put h1 h2 (by
      rcases Nat.lt_or_ge (insP key (stI key n) (key n) n) n with c | c
      · exact .inr (h3 _ (Nat.le_refl _) c)
      · exact .inl (by omega))
theorem stI_of {key : Nat → Int} {n : Nat} {l : List Nat} (h : Sti key n l) : l = stI key n := h.one (stI_is key n)
end Go.Proofs.YtbacoopopokkfaaDoor
namespace Go.Proofs.YtbacoopopokkfaaDoor
open Go.RowKit
set_option linter.unusedSimpArgs false
set_option linter.unusedVariables false

def setL : List Value → Nat → List Value → List Value
  | xs, _, [] => xs
  | xs, o, v :: r => setL (xs.set o v) (o + 1) r
theorem own_setV {w : World} {base e s g cap n : Nat} {xs : List Value} (h : w.ownsRow base e s (.slice (some ⟨g, 0, none⟩) n cap) n xs) {i : Nat} (v : Value) : (w.setCell ⟨g, i, none⟩ v).ownsRow base e s (.slice (some ⟨g, 0, none⟩) n cap) n (xs.set i v) := by
  rcases h.2 with ⟨hv, _⟩ | ⟨g', cap', cur, hv, hb, hg, h1, h2, h3, h4⟩
  · cases hv
  · injection hv with e1 e2 e3
    injection e1 with e1; injection e1 with e1 _ _
    subst e1; subst e3
    refine ⟨by rw [List.length_set]; exact h.1, .inr ⟨g, cap, cur.setIfInBounds i v, rfl, hb, mblock_set hg _, h1, h2, by rw [Array.size_setIfInBounds]; exact h3, ?_⟩⟩
    rw [Array.toList_setIfInBounds, List.take_set, h4]
theorem own_setCells {base e s g cap n : Nat} : ∀ (vs : List Value) (o : Nat) {w : World} {xs : List Value}, w.ownsRow base e s (.slice (some ⟨g, 0, none⟩) n cap) n xs → (w.setCells g o vs).ownsRow base e s (.slice (some ⟨g, 0, none⟩) n cap) n (setL xs o vs)
  | [], _, _, _, h => h
  | v :: r, o, _, _, h => own_setCells r (o + 1) (own_setV h v)
theorem setL_mid : ∀ (vs B A C : List Value), B.length = vs.length → setL (A ++ B ++ C) A.length vs = A ++ vs ++ C
  | [], [], A, C, _ => by simp [setL]
  | [], b :: B, A, C, h => by simp at h
  | v :: r, [], A, C, h => by simp at h
  | v :: r, b :: B, A, C, h => by
    have e : (A ++ b :: B ++ C).set A.length v = (A ++ [v]) ++ B ++ C := by simp
    show setL ((A ++ b :: B ++ C).set A.length v) (A.length + 1) r = _
    rw [e, show A.length + 1 = (A ++ [v]).length by simp, setL_mid r B (A ++ [v]) C (by simpa using h)]
    simp
theorem setL_flat {α : Type} (cs : α → List Value) (K : Nat) (hk : ∀ x, (cs x).length = K) (L : List α) (i : Nat) (x : α) (hi : i < L.length) : setL (L.flatMap cs) (i * K) (cs x) = (L.set i x).flatMap cs := by
  have e1 : L = L.take i ++ L[i] :: L.drop (i + 1) := by
    rw [← List.drop_eq_getElem_cons hi, List.take_append_drop]
  have e2 : L.set i x = L.take i ++ x :: L.drop (i + 1) := List.set_eq_take_append_cons_drop.trans (by rw [if_pos hi])
  have e3 : ((L.take i).flatMap cs).length = i * K := by rw [mflat_len cs K hk, List.length_take]; congr 1; omega
  rw [e2]
  have e4 : L.flatMap cs = (L.take i).flatMap cs ++ cs L[i] ++ (L.drop (i + 1)).flatMap cs := by
    have q := congrArg (List.flatMap cs) e1
    rw [List.flatMap_append, List.flatMap_cons] at q
    rw [List.append_assoc]; exact q
  rw [e4, ← e3, setL_mid _ _ _ _ (by rw [hk, hk])]
  simp
theorem setCells_grown (g : Nat) : ∀ (vs : List Value) (o : Nat) (w : World), w.grownBy (w.setCells g o vs) (some g)
  | [], _, w => World.grownBy.refl _ _
  | v :: r, o, w => by
    have h : w.grownBy (w.setCell ⟨g, o, none⟩ v) (some g) := ⟨rfl, rfl, rfl, by simp [World.setCell], fun j hj hne => Below.heap_setCell _ _ _ _ (by show j ≠ g; exact fun e => hne (by rw [e]))⟩
    exact h.trans (setCells_grown g r (o + 1) _)
section
variable {α : Type} {cs : α → List Value} {K : Nat} {w : World} {base e g cap n : Nat} {L : List α}
theorem own_set (hk : ∀ x, (cs x).length = K) (h : w.ownsRow base e K (.slice (some ⟨g, 0, none⟩) n cap) n (L.flatMap cs)) (hl : L.length = n) {i : Nat} (hi : i < n) (x : α) :
    (w.setCells g (i * K) (cs x)).ownsRow base e K (.slice (some ⟨g, 0, none⟩) n cap) n ((L.set i x).flatMap cs) := by
  have q := own_setCells (cs x) (i * K) h
  rwa [setL_flat cs K hk L i x (by omega)] at q
theorem own_cellK (hk : ∀ x, (cs x).length = K) (h : w.ownsRow base e K (.slice (some ⟨g, 0, none⟩) n cap) n (L.flatMap cs)) (hl : L.length = n) {i c : Nat} (hi : i < n) {x : α} (hx : L[i]? = some x) {v : Value} (hv : (cs x)[c]? = some v) :
    w.cell? ⟨g, i * K + c, none⟩ = some v := by
  subst hl
  obtain ⟨ao, cp, hs, _, hr, _⟩ := own_rows (cs := cs) hk h
  injection hs with e1 _ _
  subst e1
  have hx2 : L[i] = x := by rw [List.getElem?_eq_getElem hi] at hx; exact Option.some.inj hx
  have q := hr.cells _ rfl i hi c v (by rw [hx2]; exact hv)
  simpa using q
theorem own_freeK (h : w.ownsRow base e K (.slice (some ⟨g, 0, none⟩) n cap) n (L.flatMap cs)) (j : Nat) : w.frozen? ⟨g, j, none⟩ = false := by
  rcases h.2 with ⟨hv, _⟩ | ⟨g', cap', cur, hv, hb, hg, _⟩
  · cases hv
  · injection hv with e1 e2 e3
    injection e1 with e1; injection e1 with e1 _ _
    subst e1
    exact mblock_free hg
end

/-- One more number at a place. -/
def insAt (l : List Nat) (n p : Nat) : List Nat := l.take p ++ n :: l.drop p
theorem insAt_len (l : List Nat) (n p : Nat) : (insAt l n p).length = l.length + 1 := by
  unfold insAt; simp only [List.length_append, List.length_take, List.length_cons, List.length_drop]; omega
theorem insAt_end (l : List Nat) (n : Nat) : insAt l n l.length = l ++ [n] := by unfold insAt; simp
theorem insAt_at {l : List Nat} {n p : Nat} (h : p ≤ l.length) : (insAt l n p)[p]? = some n := by
  unfold insAt
  rw [List.getElem?_append_right (by rw [List.length_take]; omega), List.length_take, show p - min p l.length = 0 by omega]
  rfl
theorem insAt_before {l : List Nat} {n p i : Nat} (h : p ≤ l.length) (hi : i < p) : (insAt l n p)[i]? = some (l.getD i 0) := by
  unfold insAt
  rw [List.getElem?_append_left (by rw [List.length_take]; omega), List.getElem?_take_of_lt hi, List.getD_eq_getElem?_getD, List.getElem?_eq_getElem (by omega)]
  rfl
theorem insAt_move {α : Type} (c : Nat → α) (l : List Nat) (n p : Nat) (h : p + 1 ≤ l.length) : (((insAt l n (p + 1)).map c).set (p + 1) (c (l.getD p 0))).set p (c n) = (insAt l n p).map c := by
  have hp : l.getD p 0 = l[p] := by rw [List.getD_eq_getElem?_getD, List.getElem?_eq_getElem (by omega)]; rfl
  have e1 : l.take (p + 1) = l.take p ++ [l[p]] := List.take_succ_eq_append_getElem (by omega)
  have e2 : l.drop p = l[p] :: l.drop (p + 1) := List.drop_eq_getElem_cons (by omega)
  have e3 : insAt l n (p + 1) = l.take p ++ l[p] :: n :: l.drop (p + 1) := by unfold insAt; rw [e1, List.append_assoc]; rfl
  have e4 : insAt l n p = l.take p ++ n :: l[p] :: l.drop (p + 1) := by unfold insAt; rw [e2]
  have hl : ((l.take p).map c).length = p := by rw [List.length_map, List.length_take]; omega
  rw [e3, e4, hp]
  simp only [List.map_append, List.map_cons]
  rw [List.set_append_right _ _ (by omega), List.set_append_right _ _ (by omega), hl, show p + 1 - p = 1 by omega, Nat.sub_self]
  rfl
theorem set_behind {α : Type} (C X : List α) (k : Nat) (x : α) : (C ++ X).set (C.length + k) x = C ++ X.set k x := by
  rw [List.set_append_right _ _ (by omega), Nat.add_sub_cancel_left]
end Go.Proofs.YtbacoopopokkfaaDoor
namespace Go.Proofs.YtbacoopopokkfaaDoor
open Go.RowKit
set_option linter.unusedSimpArgs false
set_option linter.unusedVariables false

theorem flat_take {α : Type} (cs : α → List Value) {K : Nat} (hk : ∀ x, (cs x).length = K) : ∀ (l : List α) (m : Nat), m ≤ l.length → (l.flatMap cs).take (m * K) = (l.take m).flatMap cs
  | _, 0, _ => by simp
  | [], m + 1, h => by simp at h
  | x :: r, m + 1, h => by
    rw [List.flatMap_cons, List.take_succ_cons, List.flatMap_cons, ← flat_take cs hk r m (by simpa using h), List.take_append, hk x]
    have e : (m + 1) * K = K + m * K := by rw [Nat.add_mul, Nat.one_mul, Nat.add_comm]
    rw [e, List.take_of_length_le (by rw [hk x]; omega), Nat.add_sub_cancel_left]
theorem own_cutK {α : Type} {cs : α → List Value} {K : Nat} (hk : ∀ x, (cs x).length = K) {w : World} {base g n cap : Nat} {e : TypeId} {L : List α} (h : w.ownsRow base e K (.slice (some ⟨g, 0, none⟩) n cap) n (L.flatMap cs)) (hl : L.length = n) {m : Nat} (hm : m ≤ n) : w.ownsRow base e K (.slice (some ⟨g, 0, none⟩) m cap) m ((L.take m).flatMap cs) := by
  rcases h.2 with ⟨h', _⟩ | ⟨g', cap', cur, h', hb, hg, hnc, hcm, hcs, htake⟩
  · cases h'
  · simp only [Value.slice.injEq, Option.some.injEq, Addr.mk.injEq, and_true, true_and] at h'
    obtain ⟨rfl, rfl⟩ := h'
    have e2 : m * K ≤ n * K := Nat.mul_le_mul_right _ hm
    refine ⟨?_, .inr ⟨g, cap, cur, rfl, hb, hg, by omega, hcm, hcs, ?_⟩⟩
    · rw [mflat_len cs K hk, List.length_take, Nat.min_eq_left (by omega)]
    · rw [← flat_take cs hk L m (by omega), ← htake, List.take_take, Nat.min_eq_left e2]
theorem setL_len : ∀ (vs : List Value) (xs : List Value) (o : Nat), (setL xs o vs).length = xs.length
  | [], _, _ => rfl
  | v :: r, xs, o => by show (setL (xs.set o v) (o + 1) r).length = _; rw [setL_len r]; simp
theorem setL_take : ∀ (vs : List Value) (xs : List Value) (o m : Nat), m ≤ o → (setL xs o vs).take m = xs.take m
  | [], _, _, _, _ => rfl
  | v :: r, xs, o, m, h => by
    show (setL (xs.set o v) (o + 1) r).take m = _
    rw [setL_take r _ _ _ (by omega)]
    apply List.ext_getElem?
    intro i
    rw [List.getElem?_take, List.getElem?_take]
    split
    · rw [List.getElem?_set_ne (by omega)]
    · rfl
/-- Cleared behind m elements, and cut there. -/
theorem own_clear {α : Type} {cs : α → List Value} {K : Nat} (hk : ∀ x, (cs x).length = K) {w : World} {base g n cap : Nat} {e : TypeId} {L : List α} (h : w.ownsRow base e K (.slice (some ⟨g, 0, none⟩) n cap) n (L.flatMap cs)) (hl : L.length = n) {m : Nat} (hm : m ≤ n) (vs : List Value) : (w.setCells g (m * K) vs).ownsRow base e K (.slice (some ⟨g, 0, none⟩) m cap) m ((L.take m).flatMap cs) := by
  have q := own_setCells vs (m * K) h
  rcases q.2 with ⟨h', _⟩ | ⟨g', cap', cur, h', hb, hg, hnc, hcm, hcs, htake⟩
  · cases h'
  · simp only [Value.slice.injEq, Option.some.injEq, Addr.mk.injEq, and_true, true_and] at h'
    obtain ⟨rfl, rfl⟩ := h'
    have e2 : m * K ≤ n * K := Nat.mul_le_mul_right _ hm
    refine ⟨?_, .inr ⟨g, cap, cur, rfl, hb, hg, by omega, hcm, hcs, ?_⟩⟩
    · rw [mflat_len cs K hk, List.length_take, Nat.min_eq_left (by omega)]
    · rw [← flat_take cs hk L m (by omega), ← setL_take vs (L.flatMap cs) (m * K) (m * K) (Nat.le_refl _), ← htake, List.take_take, Nat.min_eq_left e2]
theorem grown_setCells {g : Nat} : ∀ (vs : List Value) (o : Nat) {w W : World}, w.grownBy W (some g) → w.grownBy (W.setCells g o vs) (some g)
  | [], _, _, _, h => h
  | v :: r, o, w, W, h => grown_setCells r (o + 1) ⟨h.os, h.tape, h.output, by have := h.size; simpa using this, fun k hk hne => by
      rw [Below.heap_setCell _ _ _ _ (fun e => hne (by rw [e]))]; exact h.block k hk hne⟩
section
variable {P : Program}
/-- 'clear(s)' on a slice of structs. -/
theorem run_clear_rows (w : World) (t e ty : TypeId) (z : Value) (ht : P.underlying t = some (.slice e)) (hv : ∀ w, (zeroValue e).run P w = .ok z w) {K : Nat} (hz : z.cells.size = K) (hK : 0 < K) (h1 : ∀ v ∈ z.cells.toList, v.oneCell' = true) (b o n c : Nat) (hn : 0 < n)
    (hc : ∀ j, j < n * K → (w.cell? ⟨b, o + j, none⟩).isSome = true) (hf : ∀ j, j < n * K → w.frozen? ⟨b, o + j, none⟩ = false) :
    (Builtin.clear_ #[t] ty #[.slice (some ⟨b, o, none⟩) n c]).run P w = .ok (.tuple #[]) (w.setCells b o (Builtin.zeroCells z.cells n).toList) := by
  have hl : (Builtin.zeroCells z.cells n).toList.length = n * K := by simp [Builtin.zeroCells, hz]
  have hst := run_storeCells_cells (P := P) b o (Builtin.zeroCells z.cells n).toList 0 w (fun j hj => hc j (by omega)) (fun j hj => hf j (by omega)) (fun v hv' => by
    simp only [Builtin.zeroCells, Array.toList_map, List.mem_map] at hv'
    obtain ⟨i, _, rfl⟩ := hv'
    have hi : i % z.cells.size < z.cells.size := Nat.mod_lt _ (by omega)
    rw [getElem!_pos z.cells _ hi]
    exact h1 _ (by simp))
  simp only [Nat.add_zero] at hst
  obtain ⟨m, rfl⟩ : ∃ m, n = m + 1 := ⟨n - 1, by omega⟩
  simp [Builtin.clear_, run_underlying ht, hv, hst]
end
end Go.Proofs.YtbacoopopokkfaaDoor
namespace Go.Proofs.YtbacoopopokkfaaDoor
open Go.RowKit
set_option linter.unusedSimpArgs false
set_option linter.unusedVariables false

/-- Where values lie that are appended. -/
def SrcAt (w : World) (ao : Option Addr) (m : Nat) (news : List Value) : Prop := (ao = none ∧ m = 0 ∧ news = []) ∨ ∃ ad, ao = some ad ∧ ∀ j u, news[j]? = some u → w.cell? (ad.add j) = some u
section
variable {P : Program} (w : World)
theorem run_app_any_nil (t ty e : TypeId) (i : TypeInfo) (ht : P.underlying t = some (.slice e)) (hi : P.info? e = some i) (s : Option Addr) (n c c' : Nat) (hn : n ≤ c) : (Builtin.append_ #[t, t] ty #[.slice s n c, .slice none 0 c']).run P w = .ok (.slice s n c) w := by
  simp [Builtin.append_, run_underlying ht, sizeOf, typeInfo, hi, Builtin.lenOf, Builtin.firstCells, hn]
  cases s <;> simp [storeCells]

/-- append of a list, wherever it lies, to a row of one's own. -/
theorem wpList_append_srcO {ops : Array Oper} {rest : List Oper} {o : Oper} {a : Go.Act} {Q : Exit → Go.Act → World → Prop} (hgd : o.guard = none) (s x : Operand) (t : TypeId)
    (ho : o.op = .call { callee := .builtin .append, args := #[s, x], argTypes := #[t, t] })
    (base : Nat) (e : TypeId) (i : TypeInfo) (z : Value) (size bytes : Nat) (ht : P.underlying t = some (.slice e)) (hi : P.info? e = some i) (hz : i.zero = some z)
    (hsize : i.size = size) (hby : i.bytes = bytes) (hzs : z.cells.size = size) (hsz : 0 < size)
    (v : Value) (n : Nat) (xs : List Value) (hs : a.eval s = v) (hown : w.ownsRow base e size v n xs)
    (ao : Option Addr) (m c : Nat) (news : List Value) (hx : a.eval x = .slice ao m c) (hr : SrcAt w ao m news) (hl : news.length = m * size) (h1 : ∀ u ∈ news, u.oneCell' = true)
    (h63 : n + m ≤ maxLen) (hbytes : (n + m) * bytes ≤ 140737488355328) (hbase : base ≤ w.heap.size)
    (h : ∀ v' w', w'.ownsRow base e size v' (n + m) (xs ++ news) → w.grownBy w' v.ownBlock → wpList P ops Q rest (a.put o.dst v') w') : wpList P ops Q (o :: rest) a w := by
  rcases hr with ⟨rfl, rfl, rfl⟩ | ⟨ad, rfl, hc⟩
  · obtain ⟨s0, n0, c0, rfl, hnc⟩ : ∃ s0 n0 c0, v = .slice s0 n0 c0 ∧ n0 ≤ c0 := by
      rcases hown.2 with ⟨e, _⟩ | ⟨g, cap, _, e, _, _, hc, _⟩
      · exact ⟨_, _, _, e, Nat.le_refl _⟩
      · exact ⟨_, _, _, e, hc⟩
    refine wpList_plain hgd fun _ hK => ?_
    have hr := run_app_any_nil (P := P) w t o.type e i ht hi s0 n0 c0 c hnc
    unfold Oper.wp execOp
    simp only [ho, resolve, invoke, builtin, Sem.run_bind, Sem.run_pure, Result.andThen_ok, List.map_toArray, List.map_cons, List.map_nil, hs, hx, hr]
    exact hK _ _ (h _ _ (by simpa using hown) (World.grownBy.refl _ _))
  · exact wpList_append_own w hgd s x t ho base e i z size bytes ht hi hz hsize hby hzs hsz v n xs hs hown ad m c news hx hl hc h1 h63 hbytes hbase fun v' w' h2 h3 _ => h v' w' h2 h3
end

/-- A row is what can be appended. -/
theorem rows_src {α : Type} {cs : α → List Value} {K : Nat} (hcs : ∀ x, (cs x).length = K) (hK : 0 < K) {w : World} {ao : Option Addr} {l : List α} (h : RowsAt cs K w ao l) : SrcAt w ao l.length (l.flatMap cs) := by
  cases ao with
  | none => have e := h.nil rfl; subst e; exact .inl ⟨rfl, rfl, rfl⟩
  | some a =>
    rcases Nat.eq_zero_or_pos l.length with h0 | h0
    · have e : l = [] := List.eq_nil_of_length_eq_zero h0
      subst e
      exact .inr ⟨a, rfl, fun j u hu => by simp at hu⟩
    · obtain ⟨g, o, e, hc⟩ := rows_at h h0
      obtain rfl := Option.some.inj e
      refine .inr ⟨_, rfl, fun j u hu => ?_⟩
      have hj : j < l.length * K := by rw [← mflat_len cs K hcs]; exact (List.getElem?_eq_some_iff.1 hu).1
      have h1 : j / K < l.length := Nat.div_lt_of_lt_mul (by rw [Nat.mul_comm]; exact hj)
      have e2 : j = j / K * K + j % K := by rw [Nat.mul_comm]; exact (Nat.div_add_mod j K).symm
      have q := mflat_at cs K hcs l (j / K) (j % K) h1 (Nat.mod_lt _ hK)
      rw [← e2] at q
      have q2 := hc (j / K) h1 (j % K) u (by rw [← q]; exact hu)
      rw [madd_off]
      rw [show o + j = o + j / K * K + j % K by omega]
      exact q2
end Go.Proofs.YtbacoopopokkfaaDoor
