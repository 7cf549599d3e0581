/- Texts that all laws of this seat use, one behind the other. -/
import Derived.Test.YtblaplnpehnjfabProg
import Derived.WalkKit
import Derived.WalkSpells
import Derived.WalkLawsBesides
import Derived.Handy
import Derived.Lib.Hide
import Derived.Deep.QuietTactic
import Derived.BigQuiet
import Derived.Deep.RegionWith
import Derived.Shelf.Abstract
import Derived.Test.YtblaplnpehnjfabShelf
import Derived.Deep.CutBlock
import Derived.Deep.DeepCutAuto
import Derived.Lib.ItoaNum
import Derived.Laws.BitsAllLaws
import Derived.Laws.EntriesVeiled
/- The plain reading of texts: what a taker takes, what numbers, pairs, digits, words and sixties are read, said of the list of bytes that is left. No program. -/
namespace Go.Proofs.Ytblaplnpehnjfab

/-- The next byte, if it lies from lo to hi. -/
def tkV (lo hi : Int) : List Nat → Option Nat
  | [] => none
  | c :: _ => if lo ≤ (c : Int) ∧ (c : Int) ≤ hi then some c else none

/-- What is read: the value, whether all was there, how many bytes were taken. -/
structure Got where
  val : Int
  ok : Bool
  used : Nat

/-- More digits of a number that is to stay at most 'most'. -/
def numMore (most : Int) : List Nat → Int → Int × Nat
  | [], n => (n, 0)
  | c :: r, n => if 0 < n ∧ 10 * n ≤ most ∧ 48 ≤ (c : Int) ∧ (c : Int) ≤ 48 + min (most - 10 * n) 9 then ((numMore most r (10 * n + ((c : Int) - 48))).1, (numMore most r (10 * n + ((c : Int) - 48))).2 + 1) else (n, 0)

def numV (least most : Int) (R : List Nat) : Got :=
  match tkV (48 + least) 57 R with
  | none => ⟨0, false, 0⟩
  | some c => ⟨(numMore most R.tail ((c : Int) - 48)).1, true, (numMore most R.tail ((c : Int) - 48)).2 + 1⟩

def wordV : List Nat → List Nat → Bool × Nat
  | [], _ => (true, 0)
  | _ :: _, [] => (false, 0)
  | c :: w, d :: r => if d = c then ((wordV w r).1, (wordV w r).2 + 1) else (false, 0)

def pairV (most : Int) (R : List Nat) : Got :=
  match tkV 48 (48 + most / 10) R with
  | none => ⟨0, false, 0⟩
  | some t =>
    match tkV 48 (if (t : Int) = 48 + most / 10 then 48 + most % 10 else 57) R.tail with
    | none => ⟨0, false, 1⟩
    | some o => ⟨10 * ((t : Int) - 48) + ((o : Int) - 48), true, 2⟩

/-- The rounds of a time with colons: so many pairs are to come; whether all was there so far; so many seconds; so many bytes taken. -/
def sixtyV : Nat → Bool → List Nat → Int → Nat → Got
  | 0, ok, _, n, u => ⟨n, ok, u⟩
  | _ + 1, false, _, _, u => ⟨0, false, u⟩
  | p + 1, true, R, n, u =>
    if (wordV [58] R).1 then sixtyV p (pairV 59 (R.drop (wordV [58] R).2)).ok (R.drop ((wordV [58] R).2 + (pairV 59 (R.drop (wordV [58] R).2)).used)) (60 * n + (pairV 59 (R.drop (wordV [58] R).2)).val) (u + (wordV [58] R).2 + (pairV 59 (R.drop (wordV [58] R).2)).used)
    else ⟨0, false, u + (wordV [58] R).2⟩

def inSixtiesV (least most : Int) (pairs : Nat) (R : List Nat) : Got :=
  sixtyV pairs (numV least most R).ok (R.drop (numV least most R).used) (numV least most R).val (numV least most R).used

def letterAt (j : Nat) : Nat := if j = 0 then 104 else if j = 1 then 109 else 115
def sizeAt (j : Nat) : Int := if j = 0 then 3600 else if j = 1 then 60 else 1

/-- The first letter from the j-th one on that stands here; 3: none. -/
def findV (j : Nat) (R : List Nat) : Nat :=
  if j < 3 then (if (wordV [letterAt j] R).1 then j else findV (j + 1) R) else j
termination_by 3 - j

theorem findV_ge (j : Nat) (R : List Nat) : j ≤ findV j R := by
  unfold findV; split
  · split
    · omega
    · have := findV_ge (j + 1) R; omega
  · omega
termination_by 3 - j

/-- Numbers with letters, from the j-th letter on. -/
def partsV (j : Nat) (R : List Nat) (sec : Int) (u : Nat) : Got :=
  if j < 3 then
    if (numV 0 9999999 R).ok then
      if findV j (R.drop (numV 0 9999999 R).used) < 3 then
        partsV (findV j (R.drop (numV 0 9999999 R).used) + 1) (R.drop ((numV 0 9999999 R).used + 1)) (sec + (numV 0 9999999 R).val * sizeAt (findV j (R.drop (numV 0 9999999 R).used))) (u + (numV 0 9999999 R).used + 1)
      else ⟨0, false, u + (numV 0 9999999 R).used⟩
    else ⟨sec, decide (0 < j), u⟩
  else ⟨sec, true, u⟩
termination_by 3 - j
decreasing_by have := findV_ge j (R.drop (numV 0 9999999 R).used); omega

theorem tkV_bd {lo hi : Int} {R : List Nat} {c : Nat} (h : tkV lo hi R = some c) : lo ≤ (c : Int) ∧ (c : Int) ≤ hi ∧ R = c :: R.tail := by
  cases R with
  | nil => simp [tkV] at h
  | cons d r =>
    simp only [tkV] at h
    split at h
    · simp at h; subst h; simp_all
    · simp at h

theorem numMore_le (most : Int) : ∀ (R : List Nat) (n : Int), (numMore most R n).2 ≤ R.length
  | [], n => by simp [numMore]
  | c :: r, n => by
    unfold numMore; split
    · have := numMore_le most r (10 * n + ((c : Int) - 48)); simp; omega
    · simp

theorem numMore_bd (most : Int) : ∀ (R : List Nat) (n : Int), 0 ≤ n → n ≤ most → 0 ≤ (numMore most R n).1 ∧ (numMore most R n).1 ≤ most
  | [], n, h0, h1 => by simp [numMore]; omega
  | c :: r, n, h0, h1 => by
    unfold numMore; split
    · exact numMore_bd most r (10 * n + ((c : Int) - 48)) (by omega) (by omega)
    · exact ⟨h0, h1⟩

theorem numV_le (least most : Int) (R : List Nat) : (numV least most R).used ≤ R.length := by
  unfold numV; split
  · simp
  · rename_i c h
    have := (tkV_bd h).2.2
    have h2 := numMore_le most R.tail ((c : Int) - 48)
    rw [this]; simp; simpa using h2

theorem numV_bd (least most : Int) (R : List Nat) (h0 : 0 ≤ least) (h9 : 9 ≤ most) : 0 ≤ (numV least most R).val ∧ (numV least most R).val ≤ most := by
  unfold numV; split
  · simp; omega
  · rename_i c h
    have := tkV_bd h
    exact numMore_bd most R.tail _ (by omega) (by omega)

theorem wordV_le : ∀ (w R : List Nat), (wordV w R).2 ≤ R.length
  | [], R => by simp [wordV]
  | _ :: _, [] => by simp [wordV]
  | c :: w, d :: r => by
    unfold wordV; split
    · have := wordV_le w r; simp; omega
    · simp

theorem pairV_le (most : Int) (R : List Nat) : (pairV most R).used ≤ R.length := by
  unfold pairV; split
  · simp
  · rename_i t h
    have h1 := (tkV_bd h).2.2
    split
    · rw [h1]; simp
    · rename_i o h'
      have h2 := (tkV_bd h').2.2
      rw [h1, h2]; simp

theorem pairV_bd (most : Int) (R : List Nat) (h0 : 0 ≤ most) (h9 : most ≤ 99) : 0 ≤ (pairV most R).val ∧ (pairV most R).val ≤ most := by
  unfold pairV; split
  · simp; omega
  · rename_i t h
    have h1 := tkV_bd h
    split
    · simp; omega
    · rename_i o h'
      have h2 := tkV_bd h'
      simp only
      split at h2 <;> omega

theorem wordV_no {c : Nat} {w R : List Nat} (h : tkV c c R = none) : wordV (c :: w) R = (false, 0) := by
  cases R with
  | nil => rfl
  | cons d r =>
    simp only [tkV] at h
    split at h
    · simp at h
    · unfold wordV; rw [if_neg (by omega)]
theorem wordV_yes {c x : Nat} {w R : List Nat} (h : tkV c c R = some x) : wordV (c :: w) R = ((wordV w R.tail).1, (wordV w R.tail).2 + 1) := by
  cases R with
  | nil => simp [tkV] at h
  | cons d r =>
    simp only [tkV] at h
    split at h
    · rw [wordV, if_pos (by omega)]; rfl
    · simp at h
theorem numMore_no {most n : Int} {R : List Nat} (h : 0 < n → 10 * n ≤ most → tkV 48 (48 + min (most - 10 * n) 9) R = none) : numMore most R n = (n, 0) := by
  cases R with
  | nil => rfl
  | cons c r =>
    unfold numMore; rw [if_neg]
    rintro ⟨h1, h2, h3, h4⟩
    have := h h1 h2
    simp only [tkV] at this
    rw [if_pos ⟨h3, h4⟩] at this; simp at this
theorem numMore_yes {most n : Int} {R : List Nat} {c : Nat} (h1 : 0 < n) (h2 : 10 * n ≤ most) (h : tkV 48 (48 + min (most - 10 * n) 9) R = some c) :
    numMore most R n = ((numMore most R.tail (10 * n + ((c : Int) - 48))).1, (numMore most R.tail (10 * n + ((c : Int) - 48))).2 + 1) := by
  cases R with
  | nil => simp [tkV] at h
  | cons d r =>
    simp only [tkV] at h
    split at h
    · rename_i h3; simp at h; subst h
      rw [numMore, if_pos ⟨h1, h2, h3.1, h3.2⟩]; rfl
    · simp at h

theorem findV_yes {j : Nat} {R : List Nat} (hj : j < 3) (h : (wordV [letterAt j] R).1 = true) : findV j R = j := by rw [findV, if_pos hj, if_pos h]
theorem findV_no {j : Nat} {R : List Nat} (hj : j < 3) (h : (wordV [letterAt j] R).1 = false) : findV j R = findV (j + 1) R := by rw [findV, if_pos hj, if_neg (by simp [h])]
theorem findV_end (R : List Nat) : findV 3 R = 3 := by rw [findV, if_neg (by omega)]
theorem word1_no {c : Nat} {R : List Nat} (h : (wordV [c] R).1 = false) : wordV [c] R = (false, 0) := by
  cases R with
  | nil => rfl
  | cons d r =>
    unfold wordV at h ⊢
    split
    · rename_i e; rw [if_pos e] at h; simp [wordV] at h
    · rfl
theorem word1_yes {c : Nat} {R : List Nat} (h : (wordV [c] R).1 = true) : wordV [c] R = (true, 1) := by
  cases R with
  | nil => simp [wordV] at h
  | cons d r =>
    unfold wordV at h ⊢
    split
    · simp [wordV]
    · rename_i e; rw [if_neg e] at h; simp at h
theorem numV_no {least most : Int} {R : List Nat} (h : (numV least most R).ok = false) : (numV least most R).used = 0 := by
  unfold numV at h ⊢; split
  · rfl
  · rename_i h'; rw [h'] at h; simp at h

end Go.Proofs.Ytblaplnpehnjfab
namespace Go.Proofs.Ytblaplnpehnjfab
open Go.RowKit

theorem ret_bool {a b : Bool} (h : a = b) : Ending.returned (.bool a) = .returned (.bool b) := by rw [h]
theorem ret_int {k : IntKind} {a b : Int} (h : a = b) : Ending.returned (.int k a) = .returned (.int k b) := by rw [h]
theorem ret_ib {k : IntKind} {a b : Int} {c d : Bool} (h : a = b) (h' : c = d) : Ending.returned (.tuple #[.int k a, .bool c]) = .returned (.tuple #[.int k b, .bool d]) := by rw [h, h']
theorem ret_ii {k k' : IntKind} {a b c d : Int} (h : a = b) (h' : c = d) : Ending.returned (.tuple #[.int k a, .int k' c]) = .returned (.tuple #[.int k b, .int k' d]) := by rw [h, h']
theorem ret_uu {a b c d : Int} (h : a = b) (h' : c = d) : Ending.returned (.tuple #[.int .u64 a, .int .u64 c]) = .returned (.tuple #[.int .u64 b, .int .u64 d]) := by rw [h, h']
theorem ret_iii {k k' k'' : IntKind} {a b c d e f : Int} (h : a = b) (h' : c = d) (h'' : e = f) : Ending.returned (.tuple #[.int k a, .int k' c, .int k'' e]) = .returned (.tuple #[.int k b, .int k' d, .int k'' f]) := by rw [h, h', h'']

/-- The place of a taker lies in block a, its text in block b. -/
structure At (w : World) (a b : Nat) (s : ByteArray) (k : Nat) : Prop where
  hA : w.heap[a]? = some (.cells #[.int .i64 k] 3 (0, 0))
  hB : w.heap[b]? = some (.cells #[.string s] 9 (0, 0))
  sz : s.size ≤ 140737488351232
  le : k ≤ s.size

structure Moved (w w' : World) (a b : Nat) (s : ByteArray) (k : Nat) : Prop where
  pos : At w' a b s k
  g : w.grownBy w' (some a)

/-- The bytes that are left from a place on. -/
def rem (s : ByteArray) (k : Nat) : List Nat := (s.data.toList.drop k).map UInt8.toNat

theorem grown_trans {w1 w2 w3 : World} {r : Option Nat} (h : w1.grownBy w2 r) (h' : w2.grownBy w3 r) : w1.grownBy w3 r :=
  ⟨h'.os.trans h.os, h'.tape.trans h.tape, h'.output.trans h.output, Nat.le_trans h.size h'.size, fun k hk hr => (h'.block k (Nat.lt_of_lt_of_le hk h.size) hr).trans (h.block k hk hr)⟩
theorem grown_refl (w : World) (r : Option Nat) : w.grownBy w r := ⟨rfl, rfl, rfl, Nat.le_refl _, fun _ _ _ => rfl⟩
theorem grown_drew (w : World) (r : Option Nat) : w.grownBy w.drew r := ⟨rfl, rfl, rfl, Nat.le_refl _, fun _ _ _ => rfl⟩
theorem grown_drewN (w : World) (r : Option Nat) (n : Nat) : w.grownBy (w.drewN n) r := ⟨rfl, rfl, rfl, Nat.le_refl _, fun _ _ _ => rfl⟩

theorem At.lt {w : World} {a b : Nat} {s : ByteArray} {k : Nat} (h : At w a b s k) : a < w.heap.size ∧ b < w.heap.size ∧ a ≠ b :=
  ⟨lt_of_block h.hA, lt_of_block h.hB, fun e => by have h1 := h.hA; have h2 := h.hB; rw [e, h2] at h1; simp at h1⟩
theorem At.refl {w : World} {a b : Nat} {s : ByteArray} {k : Nat} (h : At w a b s k) : Moved w w a b s k := ⟨h, grown_refl _ _⟩
theorem At.drewN {w : World} {a b : Nat} {s : ByteArray} {k : Nat} (h : At w a b s k) (n : Nat) : At (w.drewN n) a b s k := ⟨h.hA, h.hB, h.sz, h.le⟩
theorem Moved.drew {w w' : World} {a b : Nat} {s : ByteArray} {k : Nat} (h : Moved w w' a b s k) : Moved w w'.drew a b s k := ⟨⟨h.pos.hA, h.pos.hB, h.pos.sz, h.pos.le⟩, h.g.os, h.g.tape, h.g.output, h.g.size, h.g.block⟩
theorem Moved.drewN {w w' : World} {a b : Nat} {s : ByteArray} {k : Nat} (h : Moved w w' a b s k) (n : Nat) : Moved w (w'.drewN n) a b s k := ⟨⟨h.pos.hA, h.pos.hB, h.pos.sz, h.pos.le⟩, h.g.os, h.g.tape, h.g.output, h.g.size, h.g.block⟩
theorem At.drew {w : World} {a b : Nat} {s : ByteArray} {k : Nat} (h : At w a b s k) : At w.drew a b s k := ⟨h.hA, h.hB, h.sz, h.le⟩
theorem Moved.eq {w w' : World} {a b : Nat} {s : ByteArray} {k k' : Nat} (h : Moved w w' a b s k) (e : k = k') : Moved w w' a b s k' := e ▸ h
theorem Moved.trans {w1 w2 w3 : World} {a b : Nat} {s : ByteArray} {k k' : Nat} (h : Moved w1 w2 a b s k) (h' : Moved w2 w3 a b s k') : Moved w1 w3 a b s k' := ⟨h'.pos, grown_trans h.g h'.g⟩
theorem At.step {w : World} {a b : Nat} {s : ByteArray} {k : Nat} (h : At w a b s k) (hk : k < s.size) : Moved w (w.setCell ⟨a, 0, none⟩ (.int .i64 (k + 1 : Nat))) a b s (k + 1) := by
  have hl := h.lt
  refine ⟨⟨one_setCell h.hA, ?_, h.sz, by omega⟩, rfl, rfl, rfl, by simp [World.setCell], fun j _ hr => Below.heap_setCell _ _ _ _ (fun e => hr (by rw [e]))⟩
  rw [Below.heap_setCell _ _ _ _ (fun e => hl.2.2 e.symm)]; exact h.hB
/-- A new block leaves the place. -/
theorem At.grown {w w' : World} {a b : Nat} {s : ByteArray} {k : Nat} (h : At w a b s k) (g : w.grownBy w' none) : Moved w w' a b s k :=
  ⟨⟨by rw [g.block a h.lt.1 (by simp)]; exact h.hA, by rw [g.block b h.lt.2.1 (by simp)]; exact h.hB, h.sz, h.le⟩, g.os, g.tape, g.output, g.size, fun j hj _ => g.block j hj (by simp)⟩

theorem Moved.block {w w' : World} {a b : Nat} {s : ByteArray} {k z : Nat} {o : Obj} (h : Moved w w' a b s k) (hz : w.heap[z]? = some o) (ne : z ≠ a) : w'.heap[z]? = some o := by
  rw [h.g.block z (lt_of_block hz) (fun e => ne (by simpa using e))]; exact hz
/-- Draws on the way. -/
theorem Moved.from {w w' w1 : World} {a b : Nat} {s : ByteArray} {k k' : Nat} (h : Moved w w' a b s k) (h' : Moved w'.drew w1 a b s k') : Moved w w1 a b s k' := h.drew.trans h'

theorem rem_nil {s : ByteArray} {k : Nat} (h : s.size ≤ k) : rem s k = [] := by
  unfold rem; rw [List.drop_eq_nil_of_le (by simpa using h)]; rfl
theorem rem_cons {s : ByteArray} {k : Nat} (h : k < s.size) : rem s k = s[k].toNat :: rem s (k + 1) := by
  unfold rem
  have h' : k < s.data.toList.length := by simpa using h
  rw [List.drop_eq_getElem_cons h']; rfl
theorem rem_tail (s : ByteArray) (k : Nat) : (rem s k).tail = rem s (k + 1) := by
  unfold rem; rw [← List.map_tail, List.tail_drop]
theorem rem_drop (s : ByteArray) (k n : Nat) : (rem s k).drop n = rem s (k + n) := by
  unfold rem; rw [← List.map_drop, List.drop_drop]
theorem rem_len (s : ByteArray) (k : Nat) : (rem s k).length = s.size - k := by unfold rem; simp

set_option maxHeartbeats 400000 in
theorem take_end (s : ByteArray) (k : Nat) (lo hi : Int) (a b : Nat) (w : World) (hk : k = s.size)
    (ha : w.cell? ⟨a, 0, none⟩ = some (.int .i64 k)) (hb : w.cell? ⟨b, 0, none⟩ = some (.string s)) :
    Calls Try.prog 89 #[.int .u8 lo, .int .u8 hi, .pointer (some ⟨a, 0, none⟩), .pointer (some ⟨b, 0, none⟩)] w fun e w' => e = .returned (.tuple #[.int .u8 0, .bool false]) ∧ w = w' := by
  subst hk
  go_enter Try.func89, Try.ntmps89
  go_wp2
  go_ret2
  exact ⟨rfl, rfl⟩
set_option maxHeartbeats 400000 in
theorem take_low (s : ByteArray) (k : Nat) (lo hi : Int) (a b : Nat) (w : World)
    (hk : k < s.size) (hlo : (s[k].toNat : Int) < lo)
    (ha : w.cell? ⟨a, 0, none⟩ = some (.int .i64 k)) (hb : w.cell? ⟨b, 0, none⟩ = some (.string s)) :
    Calls Try.prog 89 #[.int .u8 lo, .int .u8 hi, .pointer (some ⟨a, 0, none⟩), .pointer (some ⟨b, 0, none⟩)] w fun e w' => e = .returned (.tuple #[.int .u8 0, .bool false]) ∧ w = w' := by
  have h1 : ((k : Int) == (s.size : Int)) = false := by simp; omega
  go_enter Try.func89, Try.ntmps89
  go_wp2
  go_ret2
  exact ⟨rfl, rfl⟩
set_option maxHeartbeats 400000 in
theorem take_high (s : ByteArray) (k : Nat) (lo hi : Int) (a b : Nat) (w : World)
    (hk : k < s.size) (hlo : ¬ (s[k].toNat : Int) < lo) (hhi : hi < (s[k].toNat : Int))
    (ha : w.cell? ⟨a, 0, none⟩ = some (.int .i64 k)) (hb : w.cell? ⟨b, 0, none⟩ = some (.string s)) :
    Calls Try.prog 89 #[.int .u8 lo, .int .u8 hi, .pointer (some ⟨a, 0, none⟩), .pointer (some ⟨b, 0, none⟩)] w fun e w' => e = .returned (.tuple #[.int .u8 0, .bool false]) ∧ w = w' := by
  have h1 : ((k : Int) == (s.size : Int)) = false := by simp; omega
  go_enter Try.func89, Try.ntmps89
  go_wp2
  go_ret2
  exact ⟨rfl, rfl⟩
set_option maxHeartbeats 400000 in
theorem take_yes (s : ByteArray) (k : Nat) (lo hi : Int) (a b : Nat) (w : World) (hs : s.size ≤ 140737488351232)
    (hk : k < s.size) (hlo : ¬ (s[k].toNat : Int) < lo) (hhi : ¬ hi < (s[k].toNat : Int)) (hab : a ≠ b)
    (ha : w.cell? ⟨a, 0, none⟩ = some (.int .i64 k)) (hf : w.frozen? ⟨a, 0, none⟩ = false) (hb : w.cell? ⟨b, 0, none⟩ = some (.string s)) :
    Calls Try.prog 89 #[.int .u8 lo, .int .u8 hi, .pointer (some ⟨a, 0, none⟩), .pointer (some ⟨b, 0, none⟩)] w fun e w' => e = .returned (.tuple #[.int .u8 s[k].toNat, .bool true]) ∧ w.setCell ⟨a, 0, none⟩ (.int .i64 (k + 1 : Nat)) = w' := by
  have h1 : ((k : Int) == (s.size : Int)) = false := by simp; omega
  go_enter Try.func89, Try.ntmps89
  go_wp2
  go_ret2
  exact ⟨rfl, rfl⟩

/-- The taker, where it takes. -/
theorem take_some {s : ByteArray} {k : Nat} {a b : Nat} {w : World} (hat : At w a b s k) (lo hi : Int) {c : Nat} (h : tkV lo hi (rem s k) = some c) :
    Calls Try.prog 89 #[.int .u8 lo, .int .u8 hi, .pointer (some ⟨a, 0, none⟩), .pointer (some ⟨b, 0, none⟩)] w fun e w' => e = .returned (.tuple #[.int .u8 c, .bool true]) ∧ Moved w w' a b s (k + 1) := by
  have hk : k < s.size := by
    rcases Nat.lt_or_ge k s.size with h' | h'
    · exact h'
    · rw [rem_nil h'] at h; simp [tkV] at h
  have hb := tkV_bd h
  rw [rem_cons hk] at hb
  simp only [List.tail_cons, List.cons.injEq, and_true] at hb
  obtain ⟨h1, h2, rfl⟩ := hb
  refine (take_yes s k lo hi a b w hat.sz hk (by omega) (by omega) hat.lt.2.2 (cell_of_one hat.hA) (free_of_one hat.hA) (cell_of_one hat.hB)).mono ?_
  rintro e w' ⟨rfl, rfl⟩
  exact ⟨rfl, hat.step hk⟩
/-- The taker, where it takes nothing. -/
theorem take_none {s : ByteArray} {k : Nat} {a b : Nat} {w : World} (hat : At w a b s k) (lo hi : Int) (h : tkV lo hi (rem s k) = none) :
    Calls Try.prog 89 #[.int .u8 lo, .int .u8 hi, .pointer (some ⟨a, 0, none⟩), .pointer (some ⟨b, 0, none⟩)] w fun e w' => e = .returned (.tuple #[.int .u8 0, .bool false]) ∧ w = w' := by
  rcases Nat.lt_or_ge k s.size with hk | hk
  · rw [rem_cons hk] at h
    simp only [tkV] at h
    split at h
    · simp at h
    · rename_i hn
      by_cases h1 : (s[k].toNat : Int) < lo
      · exact take_low s k lo hi a b w hk h1 (cell_of_one hat.hA) (cell_of_one hat.hB)
      · exact take_high s k lo hi a b w hk h1 (by omega) (cell_of_one hat.hA) (cell_of_one hat.hB)
  · exact take_end s k lo hi a b w (Nat.le_antisymm hat.le hk) (cell_of_one hat.hA) (cell_of_one hat.hB)

end Go.Proofs.Ytblaplnpehnjfab
namespace Go.Proofs.Ytblaplnpehnjfab
open Go.RowKit

set_option maxHeartbeats 800000 in
theorem pair_any (most : Int) (h0 : 0 ≤ most) (h99 : most ≤ 99) {s : ByteArray} {k : Nat} {a b : Nat} {w : World} (hat : At w a b s k) :
    Calls Try.prog 80 #[.func (.func 89) #[] #[.pointer (some ⟨a, 0, none⟩), .pointer (some ⟨b, 0, none⟩)], .int .i64 most] w fun e w' => e = .returned (.tuple #[.int .i64 (pairV most (rem s k)).val, .bool (pairV most (rem s k)).ok]) ∧ Moved w w' a b s (k + (pairV most (rem s k)).used) := by
  have hd0 : 0 ≤ most / 10 := by omega
  have hd9 : most / 10 ≤ 9 := by omega
  have hr0 : 0 ≤ most % 10 := by omega
  have hr9 : most % 10 ≤ 9 := by omega
  rcases hx : tkV 48 (48 + most / 10) (rem s k) with _ | t
  · have hv : pairV most (rem s k) = ⟨0, false, 0⟩ := by unfold pairV; rw [hx]
    have HX := Lib.hid hx; clear hx
    have HV := Lib.hid hv; clear hv
    go_enter Try.func80, Try.ntmps80
    go_wp2_with (go_at_call 89; refine (take_none hat _ _ (by exact HX.out)).mono ?_; rintro e w1 ⟨rfl, rfl⟩)
    go_ret2
    exact ⟨ret_ib (by rw [HV.out]) (by rw [HV.out]), by rw [HV.out]; exact hat.refl⟩
  · have hb := tkV_bd hx
    have hb1 : 48 ≤ (t : Int) := by omega
    have hb2 : (t : Int) ≤ 57 := by omega
    by_cases hq : (t : Int) = 48 + most / 10
    all_goals
      first | (have hq1 : ((t : Int) == 48 + most / 10) = true := by simpa using hq) | (have hq1 : ((t : Int) == 48 + most / 10) = false := by simpa using hq)
      rcases hy : tkV 48 (if (t : Int) = 48 + most / 10 then 48 + most % 10 else 57) (rem s (k + 1)) with _ | o
      · have hv : pairV most (rem s k) = ⟨0, false, 1⟩ := by unfold pairV; rw [hx]; simp only [rem_tail]; rw [hy]
        first | rw [if_pos hq] at hy | rw [if_neg hq] at hy
        have HX := Lib.hid hx; clear hx hb
        have HY := Lib.hid hy; clear hy hq
        have HV := Lib.hid hv; clear hv
        go_enter Try.func80, Try.ntmps80
        go_wp2_with fail
        refine (take_some hat _ _ (by exact HX.out)).mono ?_
        rintro e w1 ⟨rfl, hm1⟩
        go_wp2_with fail
        refine (take_none hm1.pos _ _ (by exact HY.out)).mono ?_
        rintro e w1 ⟨rfl, rfl⟩
        go_wp2
        go_ret2
        exact ⟨ret_ib (by rw [HV.out]) (by rw [HV.out]), by rw [HV.out]; exact hm1⟩
      · have hv : pairV most (rem s k) = ⟨10 * ((t : Int) - 48) + ((o : Int) - 48), true, 2⟩ := by unfold pairV; rw [hx]; simp only [rem_tail]; rw [hy]
        first | rw [if_pos hq] at hy | rw [if_neg hq] at hy
        have hb' := tkV_bd hy
        have hb3 : 48 ≤ (o : Int) := by omega
        have hb4 : (o : Int) ≤ 57 := by omega
        have HX := Lib.hid hx; clear hx hb
        have HY := Lib.hid hy; clear hy hq hb'
        have HV := Lib.hid hv; clear hv
        go_enter Try.func80, Try.ntmps80
        go_wp2_with fail
        refine (take_some hat _ _ (by exact HX.out)).mono ?_
        rintro e w1 ⟨rfl, hm1⟩
        go_wp2_with fail
        refine (take_some hm1.pos _ _ (by exact HY.out)).mono ?_
        rintro e w2 ⟨rfl, hm2⟩
        go_wp2
        go_ret2
        exact ⟨ret_ib (by rw [HV.out]) (by rw [HV.out]), by rw [HV.out]; exact (hm1.trans hm2).eq rfl⟩

/-- A text is opened: its box, then its place. -/
theorem open_any (s : ByteArray) (w : World) :
    Calls Try.prog 81 #[.string s] w fun e w' => e = .returned (.tuple #[.func (.func 89) #[] #[.pointer (some ⟨w.heap.size + 1, 0, none⟩), .pointer (some ⟨w.heap.size, 0, none⟩)], .func (.func 90) #[] #[.pointer (some ⟨w.heap.size + 1, 0, none⟩)]]) ∧ (w.alloc (.cells #[.string s] 9)).alloc (.cells #[.int .i64 0] 3) = w' := by
  have hmf : ∀ (fn : Fn) (first cap : Array Value) (w : World), (Instr.makeFunc fn first cap).run Try.prog w = .ok (.func fn first cap) w := fun _ _ _ _ => rfl
  go_enter Try.func81, Try.ntmps81
  go_wp2
  go_ret2
  exact ⟨rfl, rfl⟩

theorem opened (s : ByteArray) (w : World) (hs : s.size ≤ 140737488351232) : At ((w.alloc (.cells #[.string s] 9)).alloc (.cells #[.int .i64 0] 3)) (w.heap.size + 1) w.heap.size s 0 := by
  refine ⟨?_, ?_, hs, Nat.zero_le _⟩
  · simpa using heap_alloc_new (w.alloc (.cells #[.string s] 9)) (.cells #[.int .i64 0] 3)
  · rw [Below.heap_alloc _ _ _ (by simp)]
    exact heap_alloc_new w _

theorem place_any {s : ByteArray} {k : Nat} {a b : Nat} {w : World} (hat : At w a b s k) :
    Calls Try.prog 90 #[.pointer (some ⟨a, 0, none⟩)] w fun e w' => e = .returned (.int .i64 k) ∧ w = w' := by
  have hc := cell_of_one hat.hA
  go_enter Try.func90, Try.ntmps90
  go_wp2
  go_ret
  exact ⟨rfl, rfl⟩

end Go.Proofs.Ytblaplnpehnjfab
namespace Go.Proofs.Ytblaplnpehnjfab
open Go.RowKit

/-- A function value that reads as V says, in every world that has grown out of w0. -/
def FormIs (w0 : World) (fv : Value) (V : List Nat → Got) : Prop :=
  ∃ (n : Nat) (cap : Array Value), fv = .func (.func n) #[] cap ∧ (∀ args w, (callFunc n args).run Try.prog w = .ok (.enter n args) w) ∧ ∀ (w : World) (s : ByteArray) (a b k : Nat), w0.grownBy w none → w0.heap.size ≤ a → At w a b s k →
    Calls Try.prog n (#[.func (.func 89) #[] #[.pointer (some ⟨a, 0, none⟩), .pointer (some ⟨b, 0, none⟩)]] ++ cap) w fun e w' => e = .returned (.tuple #[.int .i64 (V (rem s k)).val, .bool (V (rem s k)).ok]) ∧ Moved w w' a b s (k + (V (rem s k)).used)

def readG : List (List Nat → Got) → List Nat → Nat → Int × Int × Int
  | [], _, far => (0, far, 6)
  | V :: Vs, L, far => if (V L).ok = true ∧ (V L).used = L.length then ((V L).val, 0, 0) else readG Vs L (max far (V L).used)

def readV (most : Int) (Vs : List (List Nat → Got)) (L : List Nat) : Int × Int × Int :=
  if most < (L.length : Int) then (0, 0, 3) else readG Vs L 0

theorem rem_zero_len (s : ByteArray) : (rem s 0).length = s.size := by rw [rem_len]; rfl

theorem Moved.none {w0 w w' : World} {a b : Nat} {s : ByteArray} {k : Nat} (h : Moved w w' a b s k) (g : w0.grownBy w none) (ha : w0.heap.size ≤ a) : w0.grownBy w' none :=
  ⟨h.g.os.trans g.os, h.g.tape.trans g.tape, h.g.output.trans g.output, Nat.le_trans g.size h.g.size, fun j hj _ => (h.g.block j (Nat.lt_of_lt_of_le hj g.size) (fun e => by have := Option.some.inj e; omega)).trans (g.block j hj (by simp))⟩

theorem grown_cell {w w' : World} (g : w.grownBy w' none) {p : Addr} {v : Value} (h : w.cell? p = some v) : w'.cell? p = some v := g.cell h (by simp)

set_option maxHeartbeats 800000 in
theorem read_any (s : ByteArray) (hs : s.size ≤ 140737488351232) (most : Int) (fs : List (Value × (List Nat → Got))) (hfl : fs.length ≤ 1000) (p C : Nat) (w : World)
    (hp : ∀ i (h : i < fs.length), w.cell? ⟨p, i, none⟩ = some fs[i].1) (hf : ∀ i (h : i < fs.length), FormIs w fs[i].1 fs[i].2) :
    Calls Try.prog 52 #[.string s, .int .i64 most, .slice (some ⟨p, 0, none⟩) fs.length C] w fun e w' => e = .returned (.tuple #[.int .i64 (readV most (fs.map (·.2)) (rem s 0)).1, .int .i64 (readV most (fs.map (·.2)) (rem s 0)).2.1, .int .i64 (readV most (fs.map (·.2)) (rem s 0)).2.2]) ∧ w.grownBy w' none := by
  have HP := Lib.hid hp; clear hp
  have HF := Lib.hid hf; clear hf
  by_cases hbig : most < (s.size : Int)
  · have hv : readV most (fs.map (·.2)) (rem s 0) = (0, 0, 3) := by unfold readV; rw [rem_zero_len, if_pos hbig]
    have HV := Lib.hid hv; clear hv
    go_enter Try.func52, Try.ntmps52
    go_wp2
    go_ret3
    exact ⟨ret_iii (by rw [HV.out]) (by rw [HV.out]) (by rw [HV.out]), grown_refl _ _⟩
  · have hv : readV most (fs.map (·.2)) (rem s 0) = readG (fs.map (·.2)) (rem s 0) 0 := by unfold readV; rw [rem_zero_len, if_neg hbig]
    have HV := Lib.hid hv; clear hv
    go_enter Try.func52, Try.ntmps52
    go_wp2
    go_loopw [10, 24] (fun fr i wr => ∃ (j far : Nat), j ≤ fs.length ∧ fr = .int .i64 far ∧ i = .int .i64 j ∧ w.grownBy wr none ∧ far ≤ s.size ∧ Hid (readV most (fs.map (·.2)) (rem s 0) = readG ((fs.drop j).map (·.2)) (rem s 0) far))
      (fun _ i _ => fs.length - (intOf i).toNat)
    case atStart => exact ⟨0, 0, Nat.zero_le _, rfl, rfl, grown_refl _ _, Nat.zero_le _, HV.out⟩
    case round =>
      obtain ⟨j, far, hj, rfl, rfl, hg, hfar, hw⟩ := hrel
      by_cases hlt : j < fs.length
      · have hd : fs.drop j = fs[j] :: fs.drop (j + 1) := List.drop_eq_getElem_cons hlt
        have hcell := grown_cell hg (HP.out j hlt)
        obtain ⟨n, cap, hfv, hen, hform⟩ := HF.out j hlt
        rw [hfv] at hcell
        have hat := opened s wr hs
        have hsz : w.heap.size ≤ wr.heap.size := hg.size
        have hga : w.grownBy ((wr.alloc (.cells #[.string s] 9)).alloc (.cells #[.int .i64 0] 3)) none := grown_trans (grown_trans hg (World.grownBy_alloc _ _ _)) (World.grownBy_alloc _ _ _)
        rcases hV : fs[j].2 (rem s 0) with ⟨v, ok, x⟩
        have hc := hform _ s (wr.heap.size + 1) wr.heap.size 0 hga (by omega) hat
        rw [hV] at hc
        have HC := Lib.hid hc; clear hc
        have HD := Lib.hid hd; clear hd hfv hform
        have HVV := Lib.hid hV; clear hV
        go_wp2_with (go_at_call 81; refine (open_any s wr).mono ?_; rintro e w1 ⟨rfl, rfl⟩)
        clear hcell
        refine (HC.out).mono ?_
        rintro e w2 ⟨rfl, hm2⟩
        have hg2 : w.grownBy w2 none := hm2.none hga (by omega)
        have hm2 := hm2.eq (Nat.zero_add x)
        have hx := hm2.pos.le
        have ht := hm2.pos
        clear hen hat hga HC hm2
        cases ok with
        | false =>
          have hr : readG ((fs.drop j).map (·.2)) (rem s 0) far = readG ((fs.drop (j + 1)).map (·.2)) (rem s 0) (max far x) := by
            rw [HD.out, List.map_cons, readG, HVV.out]; simp
          have HR := Lib.hid hr; clear hr
          by_cases hfx : far < x
          · go_wp2_with (go_at_call 90; refine (place_any ht).mono ?_; rintro e w3 ⟨rfl, rfl⟩)
            go_roundw
            case rel => exact ⟨j + 1, x, by omega, rfl, by go_num, hg2, hx, by show _ = _; rw [hw.out, HR.out, Nat.max_eq_right (by omega)]⟩
            case measure => simp [intOf]; omega
          · go_wp2_with (go_at_call 90; refine (place_any ht).mono ?_; rintro e w3 ⟨rfl, rfl⟩)
            go_roundw
            case rel => exact ⟨j + 1, far, by omega, by go_num, by go_num, hg2, hfar, by show _ = _; rw [hw.out, HR.out, Nat.max_eq_left (by omega)]⟩
            case measure => simp [intOf]; omega
        | true =>
          by_cases hxs : x = s.size
          · have hr : readG ((fs.drop j).map (·.2)) (rem s 0) far = (v, 0, 0) := by
              rw [HD.out, List.map_cons, readG, HVV.out, rem_zero_len]; simp [hxs]
            have HR := Lib.hid hr; clear hr
            have hq : ((x : Int) == (s.size : Int)) = true := by simp [hxs]
            clear hxs
            go_wp2_with (go_at_call 90; refine (place_any ht).mono ?_; rintro e w3 ⟨rfl, rfl⟩)
            go_ret3
            exact ⟨ret_iii (by rw [hw.out, HR.out]) (by rw [hw.out, HR.out]) (by rw [hw.out, HR.out]), hg2⟩
          · have hr : readG ((fs.drop j).map (·.2)) (rem s 0) far = readG ((fs.drop (j + 1)).map (·.2)) (rem s 0) (max far x) := by
              rw [HD.out, List.map_cons, readG, HVV.out, rem_zero_len]; simp [hxs]
            have HR := Lib.hid hr; clear hr
            have hq : ((x : Int) == (s.size : Int)) = false := by simp; omega
            by_cases hfx : far < x
            · go_wp2_with (go_at_call 90; refine (place_any ht).mono ?_; rintro e w3 ⟨rfl, rfl⟩)
              go_roundw
              case rel => exact ⟨j + 1, x, by omega, rfl, by go_num, hg2, hx, by show _ = _; rw [hw.out, HR.out, Nat.max_eq_right (by omega)]⟩
              case measure => simp [intOf]; omega
            · go_wp2_with (go_at_call 90; refine (place_any ht).mono ?_; rintro e w3 ⟨rfl, rfl⟩)
              go_roundw
              case rel => exact ⟨j + 1, far, by omega, by go_num, by go_num, hg2, hfar, by show _ = _; rw [hw.out, HR.out, Nat.max_eq_left (by omega)]⟩
              case measure => simp [intOf]; omega
      · have hr : readG ((fs.drop j).map (·.2)) (rem s 0) far = (0, (far : Int), 6) := by
          rw [List.drop_eq_nil_of_le (by omega)]; rfl
        have HR := Lib.hid hr; clear hr
        go_wp2
        go_ret3
        exact ⟨ret_iii (by rw [hw.out, HR.out]) (by rw [hw.out, HR.out]) (by rw [hw.out, HR.out]), hg⟩
end Go.Proofs.Ytblaplnpehnjfab
namespace Go.Proofs.Ytblaplnpehnjfab
open Go.RowKit

set_option maxHeartbeats 800000 in
theorem number_any (least most : Int) (hl : least = 0 ∨ least = 1) (hm9 : 9 ≤ most) (hmx : most ≤ 100000000000000) {s : ByteArray} {k : Nat} {a b : Nat} {w : World} (hat : At w a b s k) :
    Calls Try.prog 78 #[.func (.func 89) #[] #[.pointer (some ⟨a, 0, none⟩), .pointer (some ⟨b, 0, none⟩)], .int .i64 least, .int .i64 most] w fun e w' => e = .returned (.tuple #[.int .i64 (numV least most (rem s k)).val, .bool (numV least most (rem s k)).ok]) ∧ Moved w w' a b s (k + (numV least most (rem s k)).used) := by
  have hl1 : 0 ≤ least ∧ least ≤ 1 := by omega
  clear hl
  rcases hx : tkV (48 + least) 57 (rem s k) with _ | c
  · have hv : numV least most (rem s k) = ⟨0, false, 0⟩ := by unfold numV; rw [hx]
    have HX := Lib.hid hx; clear hx
    have HV := Lib.hid hv; clear hv
    go_enter Try.func78, Try.ntmps78
    go_wp2_with (go_at_call 89; refine (take_none hat _ _ (by exact HX.out)).mono ?_; rintro e w1 ⟨rfl, rfl⟩)
    go_ret2
    exact ⟨ret_ib (by rw [HV.out]) (by rw [HV.out]), by rw [HV.out]; exact hat.refl⟩
  · have hv : numV least most (rem s k) = ⟨(numMore most (rem s (k + 1)) ((c : Int) - 48)).1, true, (numMore most (rem s (k + 1)) ((c : Int) - 48)).2 + 1⟩ := by unfold numV; rw [hx, rem_tail]
    have hc := tkV_bd hx
    have hc1 : 48 ≤ (c : Int) := by omega
    have hc2 : (c : Int) ≤ 57 := by omega
    have HX := Lib.hid hx; clear hx hc
    have HV := Lib.hid hv; clear hv
    go_enter Try.func78, Try.ntmps78
    go_wp2_with (go_at_call 89; refine (take_some hat _ _ (by exact HX.out)).mono ?_; rintro e w1 ⟨rfl, hm1⟩)
    go_loopw [10] (fun i wr => ∃ (j : Nat) (n : Int), 0 ≤ n ∧ n ≤ most ∧ i = .int .i64 n ∧ Moved w wr a b s (k + 1 + j) ∧ Hid (numMore most (rem s (k + 1)) ((c : Int) - 48) = ((numMore most (rem s (k + 1 + j)) n).1, (numMore most (rem s (k + 1 + j)) n).2 + j)))
      (fun i _ => (most - intOf i).toNat)
    case atStart => exact ⟨0, _, by omega, by omega, rfl, hm1, rfl⟩
    case round =>
      obtain ⟨j, n, hn0, hn1, rfl, hm, hw⟩ := hrel
      by_cases h1 : 0 < n
      · by_cases h2 : 10 * n ≤ most
        · rcases hy : tkV 48 (48 + min (most - 10 * n) 9) (rem s (k + 1 + j)) with _ | x
          · have hn := numMore_no (n := n) (most := most) (R := rem s (k + 1 + j)) (fun _ _ => hy)
            have HY := Lib.hid hy; clear hy
            have HN := Lib.hid hn; clear hn
            by_cases h3 : 9 < most - 10 * n
            all_goals
              go_wp2_with (go_at_call 89; refine (take_none hm.pos _ _ (by have q := HY.out; first | rwa [show (48 + min (most - 10 * n) 9 : Int) = 57 from by omega] at q | rwa [show (48 + min (most - 10 * n) 9 : Int) = 48 + (most - 10 * n) from by omega] at q)).mono ?_; rintro e w1 ⟨rfl, rfl⟩)
              go_ret2
              refine ⟨ret_ib (by rw [HV.out]; show n = (numMore most (rem s (k + 1)) ((c : Int) - 48)).1; rw [hw.out, HN.out]) (by rw [HV.out]), ?_⟩
              rw [HV.out]
              show Moved _ _ _ _ _ (k + ((numMore most (rem s (k + 1)) ((c : Int) - 48)).2 + 1))
              rw [hw.out, HN.out]
              exact hm.eq (by omega)
          · have hn := numMore_yes (n := n) (most := most) (R := rem s (k + 1 + j)) h1 h2 hy
            rw [rem_tail] at hn
            have hb := tkV_bd hy
            have hb1 : 48 ≤ (x : Int) := by omega
            have hb2 : (x : Int) ≤ 57 := by omega
            have hb3 : (x : Int) - 48 ≤ most - 10 * n := by omega
            have HY := Lib.hid hy; clear hy hb
            have HN := Lib.hid hn; clear hn
            by_cases h3 : 9 < most - 10 * n
            all_goals
              go_wp2_with (go_at_call 89; refine (take_some hm.pos _ _ (by have q := HY.out; first | rwa [show (48 + min (most - 10 * n) 9 : Int) = 57 from by omega] at q | rwa [show (48 + min (most - 10 * n) 9 : Int) = 48 + (most - 10 * n) from by omega] at q)).mono ?_; rintro e w1 ⟨rfl, hm1⟩)
              go_roundw
              case rel => exact ⟨j + 1, 10 * n + ((x : Int) - 48), by omega, by omega, rfl, hm.trans hm1, by show _ = _; rw [hw.out, HN.out]; exact Prod.ext rfl (Nat.add_right_comm _ 1 j)⟩
              case measure => simp [intOf]; omega
        · have hn := numMore_no (n := n) (most := most) (R := rem s (k + 1 + j)) (fun _ h => absurd h h2)
          have HN := Lib.hid hn; clear hn
          go_wp2
          go_ret2
          refine ⟨ret_ib (by rw [HV.out]; show n = (numMore most (rem s (k + 1)) ((c : Int) - 48)).1; rw [hw.out, HN.out]) (by rw [HV.out]), ?_⟩
          rw [HV.out]
          show Moved _ _ _ _ _ (k + ((numMore most (rem s (k + 1)) ((c : Int) - 48)).2 + 1))
          rw [hw.out, HN.out]
          exact hm.eq (by omega)
      · have hn := numMore_no (n := n) (most := most) (R := rem s (k + 1 + j)) (fun h _ => absurd h h1)
        have HN := Lib.hid hn; clear hn
        go_wp2
        go_ret2
        refine ⟨ret_ib (by rw [HV.out]; show n = (numMore most (rem s (k + 1)) ((c : Int) - 48)).1; rw [hw.out, HN.out]) (by rw [HV.out]), ?_⟩
        rw [HV.out]
        show Moved _ _ _ _ _ (k + ((numMore most (rem s (k + 1)) ((c : Int) - 48)).2 + 1))
        rw [hw.out, HN.out]
        exact hm.eq (by omega)
end Go.Proofs.Ytblaplnpehnjfab
namespace Go.Proofs.Ytblaplnpehnjfab
open Go.RowKit

set_option maxHeartbeats 400000 in
theorem word_any (t : ByteArray) (ht : t.size ≤ 1000000) {s : ByteArray} {k : Nat} {a b : Nat} {w : World} (hat : At w a b s k) :
    Calls Try.prog 79 #[.func (.func 89) #[] #[.pointer (some ⟨a, 0, none⟩), .pointer (some ⟨b, 0, none⟩)], .string t] w fun e w' => e = .returned (.bool (wordV (rem t 0) (rem s k)).1) ∧ Moved w w' a b s (k + (wordV (rem t 0) (rem s k)).2) := by
  go_enter Try.func79, Try.ntmps79
  go_wp2
  go_loopw [10] (fun i wr => ∃ j : Nat, j ≤ t.size ∧ i = .int .i64 j ∧ Moved w wr a b s (k + j) ∧ Hid (wordV (rem t 0) (rem s k) = ((wordV (rem t j) (rem s (k + j))).1, (wordV (rem t j) (rem s (k + j))).2 + j)))
    (fun i _ => t.size - (intOf i).toNat)
  case atStart => exact ⟨0, Nat.zero_le _, rfl, hat.refl, rfl⟩
  case round =>
    obtain ⟨j, hj, rfl, hm, hw⟩ := hrel
    by_cases hlt : j < t.size
    · have hr := rem_cons hlt
      rcases hx : tkV t[j].toNat t[j].toNat (rem s (k + j)) with _ | x
      · have hn := wordV_no (w := rem t (j + 1)) hx
        have HX := Lib.hid hx; clear hx
        have HR := Lib.hid hr; clear hr
        have HN := Lib.hid hn; clear hn
        go_wp2_with fail
        go_region_with (go_at_call 89; refine (take_none (k := k + j) (by exact ⟨hm.pos.hA, hm.pos.hB, hm.pos.sz, hm.pos.le⟩) _ _ (by exact HX.out)).mono ?_; rintro e w1 ⟨rfl, rfl⟩)
        all_goals go_wp2
        all_goals
          go_ret
          refine ⟨ret_bool (by rw [hw.out, HR.out, HN.out]), ?_⟩
          rw [hw.out, HR.out, HN.out, Nat.zero_add]
          repeat (first | exact hm | refine Moved.drew ?_)
      · have hn := wordV_yes (w := rem t (j + 1)) hx
        have hb := (tkV_bd hx).2.2
        rw [rem_tail] at hn
        have HX := Lib.hid hx; clear hx hb
        have HR := Lib.hid hr; clear hr
        have HN := Lib.hid hn; clear hn
        go_wp2_with fail
        go_region_with (go_at_call 89; refine (take_some (k := k + j) (by exact ⟨hm.pos.hA, hm.pos.hB, hm.pos.sz, hm.pos.le⟩) _ _ (by exact HX.out)).mono ?_; rintro e w1 ⟨rfl, hm1⟩)
        all_goals go_wp2
        all_goals
          go_roundw
          case rel => exact ⟨j + 1, by omega, by go_num, (by first | exact hm.trans hm1 | exact hm.drew.trans hm1 | exact hm.drew.drew.trans hm1 | exact hm.drew.drew.drew.trans hm1 | exact (hm.drewN _).trans hm1), by show _ = _; rw [hw.out, HR.out, HN.out]; exact Prod.ext rfl (Nat.add_right_comm _ 1 j)⟩
          case measure => simp [intOf]; omega
    · have hj' : j = t.size := by omega
      have HJ := Lib.hid hj'; clear hj'
      go_wp2
      go_ret
      refine ⟨ret_bool (by rw [hw.out, HJ.out, rem_nil (Nat.le_refl _)]; rfl), ?_⟩
      rw [hw.out, rem_nil (by omega)]
      simpa [wordV] using hm

end Go.Proofs.Ytblaplnpehnjfab
namespace Go.Proofs.Ytblaplnpehnjfab
open Go.RowKit

theorem word_is (t : ByteArray) (ht : t.size ≤ 1000000) {s : ByteArray} {k : Nat} {a b : Nat} {w : World} (hat : At w a b s k) {ok : Bool} {v : Nat} (h : wordV (rem t 0) (rem s k) = (ok, v)) :
    Calls Try.prog 79 #[.func (.func 89) #[] #[.pointer (some ⟨a, 0, none⟩), .pointer (some ⟨b, 0, none⟩)], .string t] w fun e w' => e = .returned (.bool ok) ∧ Moved w w' a b s (k + v) := by
  have q := word_any t ht hat
  rw [h] at q; exact q
theorem number_is (least most : Int) (hl : least = 0 ∨ least = 1) (hm9 : 9 ≤ most) (hmx : most ≤ 100000000000000) {s : ByteArray} {k : Nat} {a b : Nat} {w : World} (hat : At w a b s k) {n : Int} {ok : Bool} {u : Nat} (h : numV least most (rem s k) = ⟨n, ok, u⟩) :
    Calls Try.prog 78 #[.func (.func 89) #[] #[.pointer (some ⟨a, 0, none⟩), .pointer (some ⟨b, 0, none⟩)], .int .i64 least, .int .i64 most] w fun e w' => e = .returned (.tuple #[.int .i64 n, .bool ok]) ∧ Moved w w' a b s (k + u) := by
  have q := number_any least most hl hm9 hmx hat
  rw [h] at q; exact q
theorem pair_is (most : Int) (h0 : 0 ≤ most) (h99 : most ≤ 99) {s : ByteArray} {k : Nat} {a b : Nat} {w : World} (hat : At w a b s k) {n : Int} {ok : Bool} {u : Nat} (h : pairV most (rem s k) = ⟨n, ok, u⟩) :
    Calls Try.prog 80 #[.func (.func 89) #[] #[.pointer (some ⟨a, 0, none⟩), .pointer (some ⟨b, 0, none⟩)], .int .i64 most] w fun e w' => e = .returned (.tuple #[.int .i64 n, .bool ok]) ∧ Moved w w' a b s (k + u) := by
  have q := pair_any most h0 h99 hat
  rw [h] at q; exact q

set_option maxHeartbeats 800000 in
theorem inSixties_any (least most pairs : Int) (hl : least = 0 ∨ least = 1) (hm9 : 9 ≤ most) (hmx : most ≤ 9999) (hp0 : 0 ≤ pairs) (hp2 : pairs ≤ 2) {s : ByteArray} {k : Nat} {a b : Nat} {w : World} (hat : At w a b s k) :
    Calls Try.prog 50 #[.func (.func 89) #[] #[.pointer (some ⟨a, 0, none⟩), .pointer (some ⟨b, 0, none⟩)], .int .i64 least, .int .i64 most, .int .i64 pairs] w fun e w' => e = .returned (.tuple #[.int .i64 (inSixtiesV least most pairs.toNat (rem s k)).val, .bool (inSixtiesV least most pairs.toNat (rem s k)).ok]) ∧ Moved w w' a b s (k + (inSixtiesV least most pairs.toNat (rem s k)).used) := by
  obtain ⟨P, rfl⟩ : ∃ P : Nat, (P : Int) = pairs := ⟨pairs.toNat, by omega⟩
  rw [Int.toNat_natCast]
  have hbd := numV_bd least most (rem s k) (by omega) hm9
  rcases hn : numV least most (rem s k) with ⟨n0, ok0, u0⟩
  rw [hn] at hbd
  simp only at hbd
  have hv : inSixtiesV least most P (rem s k) = sixtyV P ok0 (rem s (k + u0)) n0 u0 := by unfold inSixtiesV; rw [hn]; simp only [rem_drop]
  have HN := Lib.hid hn; clear hn
  have HV := Lib.hid hv; clear hv
  have HL := Lib.hid hl; clear hl
  go_enter Try.func50, Try.ntmps50
  go_wp2_with (go_at_call 78; refine (number_is _ _ HL.out hm9 (by omega) hat HN.out).mono ?_; rintro e w1 ⟨rfl, hm1⟩)
  go_loopw [8, 9, 19] (fun n ok i wr => ∃ (j : Nat) (m : Int) (o : Bool) (u : Nat), j ≤ P ∧ n = .int .i64 m ∧ ok = .bool o ∧ i = .int .i64 j ∧ 0 ≤ m ∧ Hid (m ≤ if j = 0 then 9999 else if j = 1 then 999999 else 99999999) ∧ Moved w wr a b s (k + u) ∧ Hid (inSixtiesV least most P (rem s k) = sixtyV (P - j) o (rem s (k + u)) m u))
    (fun _ _ i _ => P - (intOf i).toNat)
  case atStart => exact ⟨0, n0, ok0, u0, Nat.zero_le _, rfl, rfl, rfl, hbd.1, (by show _ ≤ _; rw [if_pos rfl]; omega), hm1, HV.out⟩
  case round =>
    obtain ⟨j, m, o, u, hj, rfl, rfl, rfl, hm0, hmb, hm, hw⟩ := hrel
    by_cases hlt : j < P
    · obtain ⟨q, hq⟩ : ∃ q, P - j = q + 1 := ⟨P - j - 1, by omega⟩
      have hmb1 : m ≤ 999999 := by have := hmb.out; split at this <;> (try split at this) <;> omega
      cases o with
      | false =>
        have HQ := Lib.hid hq; clear hq
        go_wp2
        go_ret2
        refine ⟨ret_ib (by rw [hw.out, HQ.out]; rfl) (by rw [hw.out, HQ.out]; rfl), ?_⟩
        rw [hw.out, HQ.out]; exact hm
      | true =>
        rcases hx : wordV [58] (rem s (k + u)) with ⟨o1, v⟩
        cases o1 with
        | false =>
          have hs : sixtyV (q + 1) true (rem s (k + u)) m u = ⟨0, false, u + v⟩ := by simp [sixtyV, hx]
          have HQ := Lib.hid hq; clear hq
          have HX := Lib.hid hx; clear hx
          have HS := Lib.hid hs; clear hs
          go_wp2_with (go_at_call 79; refine (word_is _ (by decide) hm.pos (by exact HX.out)).mono ?_; rintro e w2 ⟨rfl, hm2⟩)
          go_ret2
          refine ⟨ret_ib (by rw [hw.out, HQ.out, HS.out]) (by rw [hw.out, HQ.out, HS.out]), ?_⟩
          rw [hw.out, HQ.out, HS.out]; exact (hm.trans hm2).eq (by simp only; omega)
        | true =>
          rcases hy : pairV 59 (rem s (k + u + v)) with ⟨m1, o2, x⟩
          have hb1 := pairV_bd 59 (rem s (k + u + v)) (by omega) (by omega)
          rw [hy] at hb1
          simp only at hb1
          have hs : sixtyV (q + 1) true (rem s (k + u)) m u = sixtyV q o2 (rem s (k + (u + v + x))) (60 * m + m1) (u + v + x) := by
            simp only [sixtyV, hx, rem_drop, hy, if_true]; simp only [Nat.add_assoc]
          have HQ := Lib.hid hq; clear hq
          have HX := Lib.hid hx; clear hx
          have HY := Lib.hid hy; clear hy
          have HS := Lib.hid hs; clear hs
          go_wp2_with (first | (go_at_call 79; refine (word_is _ (by decide) hm.pos (by exact HX.out)).mono ?_; rintro e w2 ⟨rfl, hm2⟩) | (go_at_call 80; refine (pair_is _ (by omega) (by omega) (by assumption : Moved _ _ _ _ _ (k + u + v)).pos HY.out).mono ?_; rintro e w3 ⟨rfl, hm3⟩))
          go_roundw
          case rel =>
            refine ⟨j + 1, 60 * m + m1, o2, u + v + x, by omega, rfl, rfl, by go_num, by omega, ?_, ?_, ?_⟩
            · show _ ≤ _
              have := hmb.out
              rcases (show j = 0 ∨ j = 1 by omega) with rfl | rfl <;> simp at this ⊢ <;> omega
            · exact ((hm.trans (by assumption)).trans (by assumption)).eq (by omega)
            · show _ = _
              rw [hw.out, HQ.out, HS.out, show P - (j + 1) = q by have := HQ.out; omega]
          case measure => simp [intOf]; omega
    · have hz : P - j = 0 := by omega
      have HZ := Lib.hid hz; clear hz
      go_wp2
      go_ret2
      refine ⟨ret_ib (by rw [hw.out, HZ.out]; rfl) (by rw [hw.out, HZ.out]; rfl), ?_⟩
      rw [hw.out, HZ.out]; exact hm
end Go.Proofs.Ytblaplnpehnjfab
namespace Go.Proofs.Ytblaplnpehnjfab
open Go.RowKit

theorem letter0 : rem (ByteArray.extract ⟨#[104, 109, 115]⟩ 0 1) 0 = [letterAt 0] := by decide +kernel
theorem letter1 : rem (ByteArray.extract ⟨#[104, 109, 115]⟩ 1 2) 0 = [letterAt 1] := by decide +kernel
theorem letter2 : rem (ByteArray.extract ⟨#[104, 109, 115]⟩ 2 3) 0 = [letterAt 2] := by decide +kernel
theorem letters_size (i j : Nat) : (ByteArray.extract ⟨#[104, 109, 115]⟩ i j).size ≤ 1000000 := by
  rw [ByteArray.size_extract]; have : (ByteArray.mk #[104, 109, 115]).size = 3 := rfl; omega

set_option maxHeartbeats 1600000 in
theorem parts_any {s : ByteArray} {k : Nat} {a b : Nat} {w : World} (hat : At w a b s k) :
    Calls Try.prog 53 #[.func (.func 89) #[] #[.pointer (some ⟨a, 0, none⟩), .pointer (some ⟨b, 0, none⟩)]] w fun e w' => e = .returned (.tuple #[.int .i64 (partsV 0 (rem s k) 0 0).val, .bool (partsV 0 (rem s k) 0 0).ok]) ∧ Moved w w' a b s (k + (partsV 0 (rem s k) 0 0).used) := by
  go_enter Try.func53, Try.ntmps53
  go_wp2
  have hlt := hat.lt
  go_loopw [2, 6] (fun sc nx wr => ∃ (j : Nat) (sec : Int) (u : Nat), j ≤ 3 ∧ sc = .int .i64 sec ∧ nx = .int .i64 j ∧ 0 ≤ sec ∧ sec ≤ 40000000000 * (j : Int) ∧ Moved w wr a b s (k + u) ∧ wr.heap[w.heap.size]? = some (.cells #[.int .i64 3600, .int .i64 60, .int .i64 1] 136 (0, 0)) ∧ Hid (partsV 0 (rem s k) 0 0 = partsV j (rem s (k + u)) sec u))
    (fun _ nx _ => 3 - (intOf nx).toNat)
  case atStart => exact ⟨0, 0, 0, by omega, rfl, rfl, by omega, by omega, hat.grown (World.grownBy_alloc _ _ _), heap_alloc_new _ _, rfl⟩
  case round =>
    obtain ⟨j, sec, u, hj, rfl, rfl, hs0, hs1, hm, hz, hw⟩ := hrel
    by_cases hj3 : j < 3
    · rcases hn : numV 0 9999999 (rem s (k + u)) with ⟨n, ok, x⟩
      have hbd := numV_bd 0 9999999 (rem s (k + u)) (by omega) (by omega)
      have hno := @numV_no 0 9999999 (rem s (k + u))
      rw [hn] at hbd hno
      simp only at hbd hno
      cases ok with
      | false =>
        have hx0 := hno rfl
        subst hx0
        have hv : partsV j (rem s (k + u)) sec u = ⟨sec, decide (0 < j), u⟩ := by rw [partsV, if_pos hj3, hn]; rfl
        have HN := Lib.hid hn; clear hn hno
        have HV := Lib.hid hv; clear hv
        go_wp2_with (go_at_call 78; refine (number_is _ _ (.inl rfl) (by omega) (by omega) hm.pos (by exact HN.out)).mono ?_; rintro e w1 ⟨rfl, hm1⟩)
        go_ret2
        refine ⟨ret_ib (by rw [hw.out, HV.out]) (by rw [hw.out, HV.out]), ?_⟩
        rw [hw.out, HV.out]; exact (hm.trans hm1).eq rfl
      | true =>
        have HN := Lib.hid hn; clear hn hno
        go_wp2_with (go_at_call 78; refine (number_is _ _ (.inl rfl) (by omega) (by omega) hm.pos (by exact HN.out)).mono ?_; rintro e w1 ⟨rfl, hm1⟩)
        have hm2 := (hm.trans hm1).eq (Nat.add_assoc k u x).symm.symm
        have hz2 := hm1.block hz (by omega)
        clear hm hm1 hz
        obtain ⟨wo, rfl⟩ : ∃ wo : World, wo = w1 := ⟨_, rfl⟩
        go_loopw [6] (fun nx wi => ∃ j2 : Nat, j ≤ j2 ∧ j2 ≤ 3 ∧ nx = .int .i64 j2 ∧ Moved wo wi a b s (k + (u + x)) ∧ Hid (findV j (rem s (k + u + x)) = findV j2 (rem s (k + u + x))))
          (fun nx _ => 3 - (intOf nx).toNat)
        case atStart => exact ⟨j, by omega, by omega, rfl, hm2.pos.refl, rfl⟩
        case round =>
          obtain ⟨j2, hjj, hj2, rfl, hmi, hfi⟩ := hrel
          rcases (show j2 = 3 ∨ j2 = 0 ∨ j2 = 1 ∨ j2 = 2 by omega) with rfl | hsm
          · have hv : partsV j (rem s (k + u)) sec u = ⟨0, false, u + x⟩ := by
              rw [partsV, if_pos hj3, HN.out]; simp only [rem_drop, if_true]
              rw [if_neg]; rw [hfi.out, findV_end]; omega
            have HV := Lib.hid hv; clear hv
            go_wp2
            go_ret2
            refine ⟨ret_ib (by rw [hw.out, HV.out]) (by rw [hw.out, HV.out]), ?_⟩
            rw [hw.out, HV.out]; exact hm2.trans hmi
          · rcases hx : (wordV [letterAt j2] (rem s (k + u + x))).1 with _ | _
            · have hfn := findV_no (by omega) hx
              have hx1 := word1_no hx
              clear hx
              have HX := Lib.hid hx1; clear hx1
              have HF := Lib.hid hfn; clear hfn
              rcases hsm with rfl | rfl | rfl
              all_goals
                go_wp2_with fail
                refine (word_is _ (letters_size _ _) (k := k + u + x) (by rw [Nat.add_assoc]; exact hmi.pos) (by first | exact (congrArg (fun l => wordV l (rem s (k + u + x))) letter0).trans HX.out | exact (congrArg (fun l => wordV l (rem s (k + u + x))) letter1).trans HX.out | exact (congrArg (fun l => wordV l (rem s (k + u + x))) letter2).trans HX.out)).mono ?_
                rintro e w2 ⟨rfl, hm3⟩
                go_wp2
                go_roundw
                case rel => exact ⟨_, Nat.le_succ_of_le hjj, by omega, by go_num, hmi.trans (hm3.eq (by omega)), hfi.out.trans HF.out⟩
                case measure => simp [intOf]
            · have hfn := findV_yes (by omega) hx
              have hx1 := word1_yes hx
              clear hx
              have hv : partsV j (rem s (k + u)) sec u = partsV (j2 + 1) (rem s (k + (u + x + 1))) (sec + n * sizeAt j2) (u + x + 1) := by
                rw [partsV, if_pos hj3, HN.out]; simp only [rem_drop, if_true]
                rw [hfi.out, hfn, if_pos (by omega)]; simp only [Nat.add_assoc]
              have hz3 := hmi.block hz2 (by omega)
              have HX := Lib.hid hx1; clear hx1
              have HF := Lib.hid hfn; clear hfn
              have HV := Lib.hid hv; clear hv
              rcases hsm with rfl | rfl | rfl
              all_goals
                go_wp2_with fail
                refine (word_is _ (letters_size _ _) (k := k + u + x) (by rw [Nat.add_assoc]; exact hmi.pos) (by first | exact (congrArg (fun l => wordV l (rem s (k + u + x))) letter0).trans HX.out | exact (congrArg (fun l => wordV l (rem s (k + u + x))) letter1).trans HX.out | exact (congrArg (fun l => wordV l (rem s (k + u + x))) letter2).trans HX.out)).mono ?_
                rintro e w2 ⟨rfl, hm3⟩
                have hz4 := hm3.block hz3 (by omega)
                have hc0 : w2.cell? ⟨w.heap.size, 0, none⟩ = some (.int .i64 3600) := by simp [World.cell?, hz4]
                have hc1 : w2.cell? ⟨w.heap.size, 1, none⟩ = some (.int .i64 60) := by simp [World.cell?, hz4]
                have hc2 : w2.cell? ⟨w.heap.size, 2, none⟩ = some (.int .i64 1) := by simp [World.cell?, hz4]
                have hm4 := (hm2.trans hmi).trans hm3
                have HZ := Lib.hid hz4
                clear hz4 hz3 hz2
                go_wp2
              · go_roundw
                case rel => exact ⟨1, sec + n * 3600, u + x + 1, by omega, rfl, rfl, by omega, by omega, hm4.eq (by omega), HZ.out, by show _ = _; rw [hw.out, HV.out]; simp [sizeAt]⟩
                case measure => simp [intOf]; omega
              · go_roundw
                case rel => exact ⟨2, sec + n * 60, u + x + 1, by omega, rfl, rfl, by omega, by omega, hm4.eq (by omega), HZ.out, by show _ = _; rw [hw.out, HV.out]; simp [sizeAt]⟩
                case measure => simp [intOf]; omega
              · go_roundw
                case rel => exact ⟨3, sec + n, u + x + 1, by omega, rfl, rfl, by omega, by omega, hm4.eq (by omega), HZ.out, by show _ = _; rw [hw.out, HV.out]; simp [sizeAt]⟩
                case measure => simp [intOf]; omega
    · obtain rfl : j = 3 := by omega
      have hv : partsV 3 (rem s (k + u)) sec u = ⟨sec, true, u⟩ := by rw [partsV, if_neg (by omega)]
      have HV := Lib.hid hv; clear hv
      go_wp2
      go_ret2
      refine ⟨ret_ib (by rw [hw.out, HV.out]) (by rw [hw.out, HV.out]; try simp), ?_⟩
      rw [hw.out, HV.out]; exact hm
end Go.Proofs.Ytblaplnpehnjfab
namespace Go.Proofs.Ytblaplnpehnjfab
open Go.RowKit

theorem short_is (w0 : World) : FormIs w0 (.func (.func 49) #[] #[]) (inSixtiesV 0 59 1) := by
  refine ⟨_, _, rfl, enters_of Try.func49 (by kernel_rfl) rfl, fun w s a b k _ _ hat => ?_⟩
  show Calls Try.prog 49 #[.func (.func 89) #[] #[.pointer (some ⟨a, 0, none⟩), .pointer (some ⟨b, 0, none⟩)]] w _
  go_enter Try.func49, Try.ntmps49
  go_wp2_with (go_at_call 50; refine (inSixties_any 0 59 1 (.inl rfl) (by omega) (by omega) (by omega) (by omega) hat).mono ?_; rintro e w1 ⟨rfl, hm⟩)
  go_ret2
  exact ⟨rfl, hm⟩
theorem long_is (w0 : World) : FormIs w0 (.func (.func 51) #[] #[]) (inSixtiesV 1 999 2) := by
  refine ⟨_, _, rfl, enters_of Try.func51 (by kernel_rfl) rfl, fun w s a b k _ _ hat => ?_⟩
  show Calls Try.prog 51 #[.func (.func 89) #[] #[.pointer (some ⟨a, 0, none⟩), .pointer (some ⟨b, 0, none⟩)]] w _
  go_enter Try.func51, Try.ntmps51
  go_wp2_with (go_at_call 50; refine (inSixties_any 1 999 2 (.inr rfl) (by omega) (by omega) (by omega) (by omega) hat).mono ?_; rintro e w1 ⟨rfl, hm⟩)
  go_ret2
  exact ⟨rfl, hm⟩
theorem parts_is (w0 : World) : FormIs w0 (.func (.func 53) #[] #[]) (fun R => partsV 0 R 0 0) := by
  refine ⟨_, _, rfl, enters_of Try.func53 (by kernel_rfl) rfl, fun w s a b k _ _ hat => ?_⟩
  exact parts_any hat

def durForms : List (Value × (List Nat → Got)) :=
  [(.func (.func 49) #[] #[], inSixtiesV 0 59 1), (.func (.func 51) #[] #[], inSixtiesV 1 999 2), (.func (.func 53) #[] #[], fun R => partsV 0 R 0 0)]

def durR (L : List Nat) : Int × Int × Int := readV 1000 [inSixtiesV 0 59 1, inSixtiesV 1 999 2, fun R => partsV 0 R 0 0] L

def durV (L : List Nat) : Int × Int × Int := if (durR L).2.2 = 0 ∧ 3599999 < (durR L).1 then (0, 0, 9) else durR L

theorem durRead (s : ByteArray) (hs : s.size ≤ 140737488351232) (w : World) {v f e : Int} (h : durR (rem s 0) = (v, f, e)) :
    Calls Try.prog 52 #[.string s, .int .i64 1000, .slice (some ⟨w.heap.size, 0, none⟩) 3 3] (w.alloc (.cells #[.func (.func 49) #[] #[], .func (.func 51) #[] #[], .func (.func 53) #[] #[]] 132)) fun x w' => x = .returned (.tuple #[.int .i64 v, .int .i64 f, .int .i64 e]) ∧ w.grownBy w' none := by
  have hb : (w.alloc (.cells #[.func (.func 49) #[] #[], .func (.func 51) #[] #[], .func (.func 53) #[] #[]] 132)).heap[w.heap.size]? = _ := heap_alloc_new w _
  have q := read_any s hs 1000 durForms (by decide) w.heap.size 3 (w.alloc (.cells #[.func (.func 49) #[] #[], .func (.func 51) #[] #[], .func (.func 53) #[] #[]] 132))
    (fun i hi => by
      simp only [World.cell?, hb]
      match i, hi with
      | 0, _ => rfl
      | 1, _ => rfl
      | 2, _ => rfl)
    (fun i hi => by
      match i, hi with
      | 0, _ => exact short_is _
      | 1, _ => exact long_is _
      | 2, _ => exact parts_is _)
  have h' : readV 1000 (durForms.map (·.2)) (rem s 0) = (v, f, e) := h
  rw [h'] at q
  exact q.mono fun x w' ⟨h1, h2⟩ => ⟨h1, grown_trans (World.grownBy_alloc _ _ _) h2⟩

set_option maxHeartbeats 800000 in
theorem readDuration_any (s : ByteArray) (hs : s.size ≤ 140737488351232) (w : World) :
    Calls Try.prog 32 #[.string s] w fun e w' => e = .returned (.tuple #[.int .i64 (durV (rem s 0)).1, .int .i64 (durV (rem s 0)).2.1, .int .i64 (durV (rem s 0)).2.2]) ∧ w.grownBy w' none := by
  rcases hr : durR (rem s 0) with ⟨v, f, e⟩
  by_cases he : e = 0
  · subst he
    by_cases hv : 3599999 < v
    · have hd : durV (rem s 0) = (0, 0, 9) := by unfold durV; rw [hr]; simp [hv]
      have HD := Lib.hid hd; clear hd
      have HR := Lib.hid hr; clear hr
      go_enter Try.func32, Try.ntmps32
      go_wp2_with (go_at_call 52; refine (durRead s hs w HR.out).mono ?_; rintro x w1 ⟨rfl, hg⟩)
      go_ret3
      exact ⟨ret_iii (by rw [HD.out]) (by rw [HD.out]) (by rw [HD.out]), hg⟩
    · have hd : durV (rem s 0) = (v, f, 0) := by unfold durV; rw [hr]; simp [hv]
      have HD := Lib.hid hd; clear hd
      have HR := Lib.hid hr; clear hr
      go_enter Try.func32, Try.ntmps32
      go_wp2_with (go_at_call 52; refine (durRead s hs w HR.out).mono ?_; rintro x w1 ⟨rfl, hg⟩)
      go_ret3
      exact ⟨ret_iii (by rw [HD.out]) (by rw [HD.out]) (by rw [HD.out]), hg⟩
  · have hd : durV (rem s 0) = (v, f, e) := by unfold durV; rw [hr]; simp [he]
    have hq : (e == 0) = false := by simpa using he
    clear he
    have HD := Lib.hid hd; clear hd
    have HR := Lib.hid hr; clear hr
    go_enter Try.func32, Try.ntmps32
    go_wp2_with (go_at_call 52; refine (durRead s hs w HR.out).mono ?_; rintro x w1 ⟨rfl, hg⟩)
    go_ret3
    exact ⟨ret_iii (by rw [HD.out]) (by rw [HD.out]) (by rw [HD.out]), hg⟩

theorem dur_told : durV [49, 104, 53, 115] = (3605, 0, 0) := by decide +kernel
end Go.Proofs.Ytblaplnpehnjfab
/- The mathematics of the long division by two digits. No program. -/
namespace Go.Proofs.Ytblaplnpehnjfab

/-- One digit of the long division: B = 2^32, y = y1*B + y0 normalised, u < y, d < B; (q, r) stands at the head of a round. -/
structure DivInv (y1 y0 u d q r : Nat) : Prop where
  eq : q * y1 + r = u
  ge : (u * 4294967296 + d) / (y1 * 4294967296 + y0) ≤ q
  le : q ≤ 4294967297

theorem div_start (y1 y0 u : Nat) (d : Nat) (h1 : 2147483648 ≤ y1) (h0 : y0 < 4294967296) (hu : u < y1 * 4294967296 + y0) (hd : d < 4294967296) :
    DivInv y1 y0 u d (u / y1) (u - u / y1 * y1) ∧ u - u / y1 * y1 < y1 := by
  have hm := Nat.div_add_mod u y1
  have hlt := Nat.mod_lt u (show 0 < y1 by omega)
  have hc : u / y1 * y1 = y1 * (u / y1) := Nat.mul_comm _ _
  refine ⟨⟨by omega, ?_, ?_⟩, by omega⟩
  · have hy : 0 < y1 * 4294967296 + y0 := by omega
    have hs : (u * 4294967296 + d) / (y1 * 4294967296 + y0) < u / y1 + 1 := by
      rw [Nat.div_lt_iff_lt_mul hy]
      have e : (u / y1 + 1) * (y1 * 4294967296 + y0) = (y1 * (u / y1) + y1) * 4294967296 + (u / y1 + 1) * y0 := by
        rw [Nat.mul_add, Nat.add_mul, Nat.add_mul, Nat.add_mul, ← Nat.mul_assoc, Nat.mul_comm (u / y1) y1]; omega
      rw [e]
      have : 0 ≤ (u / y1 + 1) * y0 := Nat.zero_le _
      omega
    omega
  · have : u / y1 < 4294967298 := by
      rw [Nat.div_lt_iff_lt_mul (by omega)]; omega
    omega

theorem div_true1 {y1 y0 u d q r : Nat} (h : DivInv y1 y0 u d q r) (_h1 : 2147483648 ≤ y1) (hu : u < y1 * 4294967296 + y0) (hd : d < 4294967296)
    (hq : 4294967296 ≤ q) : DivInv y1 y0 u d (q - 1) (r + y1) := by
  obtain ⟨he, hg, hl⟩ := h
  refine ⟨?_, ?_, by omega⟩
  · have : (q - 1) * y1 = q * y1 - y1 := Nat.sub_one_mul q y1
    have : y1 ≤ q * y1 := Nat.le_mul_of_pos_left _ (by omega)
    omega
  · have hs : (u * 4294967296 + d) / (y1 * 4294967296 + y0) < 4294967296 := by
      rw [Nat.div_lt_iff_lt_mul (by omega)]; omega
    omega

theorem div_key {y1 y0 u q r : Nat} (he : q * y1 + r = u) (d : Nat) : q * (y1 * 4294967296 + y0) + (r * 4294967296 + d) = u * 4294967296 + d + q * y0 := by
  have e : q * (y1 * 4294967296 + y0) = q * y1 * 4294967296 + q * y0 := by rw [Nat.mul_add, ← Nat.mul_assoc]
  rw [e]; omega

theorem div_true2 {y1 y0 u d q r : Nat} (h : DivInv y1 y0 u d q r) (h1 : 2147483648 ≤ y1) 
    (hq : 4294967296 * r + d < q * y0) : DivInv y1 y0 u d (q - 1) (r + y1) := by
  obtain ⟨he, hg, hl⟩ := h
  have hpos : 0 < q := by
    rcases Nat.eq_zero_or_pos q with h0 | h0
    · subst h0; omega
    · exact h0
  refine ⟨?_, ?_, by omega⟩
  · have : (q - 1) * y1 = q * y1 - y1 := Nat.sub_one_mul q y1
    have : y1 ≤ q * y1 := Nat.le_mul_of_pos_left _ hpos
    omega
  · have hk := div_key (y0 := y0) he d
    have hs : (u * 4294967296 + d) / (y1 * 4294967296 + y0) < q := by
      rw [Nat.div_lt_iff_lt_mul (by omega)]; omega
    omega

/-- The tests say no, or the rest has outgrown B: q is the digit. -/
theorem div_end {y1 y0 u d q r : Nat} (h : DivInv y1 y0 u d q r) (h1 : 2147483648 ≤ y1) 
    (hq : q * y0 ≤ 4294967296 * r + d) : (u * 4294967296 + d) / (y1 * 4294967296 + y0) = q := by
  obtain ⟨he, hg, hl⟩ := h
  refine Nat.le_antisymm hg ?_
  have hk := div_key (y0 := y0) he d
  rw [Nat.le_div_iff_mul_le (by omega)]; omega

theorem div_break {y0 d q r : Nat} (h0 : y0 < 4294967296) (hq : q ≤ 4294967296) (hr : 4294967296 ≤ r) : q * y0 ≤ 4294967296 * r + d := by
  have : q * y0 ≤ 4294967296 * y0 := Nat.mul_le_mul_right _ hq
  omega

/-- What is left behind a digit. -/
theorem div_rest {y1 y0 u d q : Nat} (h1 : 2147483648 ≤ y1) (hq : (u * 4294967296 + d) / (y1 * 4294967296 + y0) = q) :
    (u * 4294967296 + d) - q * (y1 * 4294967296 + y0) = (u * 4294967296 + d) % (y1 * 4294967296 + y0) ∧ q * (y1 * 4294967296 + y0) ≤ u * 4294967296 + d ∧ (u * 4294967296 + d) % (y1 * 4294967296 + y0) < y1 * 4294967296 + y0 := by
  have hm := Nat.div_add_mod (u * 4294967296 + d) (y1 * 4294967296 + y0)
  have hlt := Nat.mod_lt (u * 4294967296 + d) (show 0 < y1 * 4294967296 + y0 by omega)
  rw [hq] at hm
  have : q * (y1 * 4294967296 + y0) = (y1 * 4294967296 + y0) * q := Nat.mul_comm _ _
  omega

/-- Two digits make the quotient. -/
theorem div_two (y N1 d : Nat) (hy : 0 < y) : (N1 * 4294967296 + d) / y = N1 / y * 4294967296 + (N1 % y * 4294967296 + d) / y ∧ (N1 * 4294967296 + d) % y = (N1 % y * 4294967296 + d) % y := by
  have hm := Nat.div_add_mod N1 y
  have e : N1 * 4294967296 + d = (N1 % y * 4294967296 + d) + y * (N1 / y * 4294967296) := by
    have : y * (N1 / y * 4294967296) = y * (N1 / y) * 4294967296 := by rw [Nat.mul_assoc]
    omega
  constructor
  · rw [e, Nat.add_mul_div_left _ _ hy]; omega
  · rw [e, Nat.add_mul_mod_self_left]

/-- A division shifted on both sides. -/
theorem div_shift (N y s : Nat) (_hy : 0 < y) : N * 2 ^ s / (y * 2 ^ s) = N / y ∧ N * 2 ^ s % (y * 2 ^ s) / 2 ^ s = N % y := by
  have hp : 0 < 2 ^ s := Nat.two_pow_pos s
  constructor
  · exact Nat.mul_div_mul_right _ _ hp
  · rw [Nat.mul_mod_mul_right]; exact Nat.mul_div_cancel _ hp


end Go.Proofs.Ytblaplnpehnjfab
namespace Go.Proofs.Ytblaplnpehnjfab
open Go.RowKit
set_option maxRecDepth 100000 in
set_option maxHeartbeats 3200000 in
theorem div_core (hi lo y s Y y1 y0 H U N d1 d0 q0 p0 r0 Q1 A B C U2 q2 p2 r2 Q2 F QQ A2 B2 C2 R2 RR : Nat) (w : World) (hh : 0 < hi) (hy : hi < y)
    (hs : ∀ w, Calls Try.prog 54 #[.int .u64 y] w fun e w' => e = .returned (.int .i64 s) ∧ w = w') (hs63 : s ≤ 63)
    (eY : IntKind.u64.wrap ((y : Int) * 2 ^ s) = Y) (e1 : (Y : Int) / 4294967296 = y1) (e0 : bits .and .u64 (Y : Int) 4294967295 = y0)
    (eH : IntKind.u64.wrap ((hi : Int) * 2 ^ s) = H) (eN : IntKind.u64.wrap ((lo : Int) * 2 ^ s) = N)
    (eU : bits .or .u64 (H : Int) ((lo : Int) / 2 ^ (64 - s)) = U) (eN1 : (N : Int) / 4294967296 = d1) (eN0 : bits .and .u64 (N : Int) 4294967295 = d0)
    (hyy1 : y1 < 4294967296) (hyy0 : y0 < 4294967296) (hd1 : d1 < 4294967296) (hd0 : d0 < 4294967296)
    (hy1 : 2147483648 ≤ y1) (hUY : U < y1 * 4294967296 + y0)
    (eq0 : IntKind.u64.wrap ((U : Int) / (y1 : Int)) = q0) (ep0 : IntKind.u64.wrap ((q0 : Int) * (y1 : Int)) = p0) (er0 : IntKind.u64.wrap ((U : Int) - (p0 : Int)) = r0)
    (eA : IntKind.u64.wrap ((U : Int) * 4294967296) = A) (eB : IntKind.u64.wrap ((A : Int) + (d1 : Int)) = B) (eC : IntKind.u64.wrap ((Q1 : Int) * (Y : Int)) = C) (eD : IntKind.u64.wrap ((B : Int) - (C : Int)) = U2)
    (eq2 : IntKind.u64.wrap ((U2 : Int) / (y1 : Int)) = q2) (ep2 : IntKind.u64.wrap ((q2 : Int) * (y1 : Int)) = p2) (er2 : IntKind.u64.wrap ((U2 : Int) - (p2 : Int)) = r2)
    (eF : IntKind.u64.wrap ((Q1 : Int) * 4294967296) = F) (eG : IntKind.u64.wrap ((F : Int) + (Q2 : Int)) = QQ)
    (eA2 : IntKind.u64.wrap ((U2 : Int) * 4294967296) = A2) (eB2 : IntKind.u64.wrap ((A2 : Int) + (d0 : Int)) = B2) (eC2 : IntKind.u64.wrap ((Q2 : Int) * (Y : Int)) = C2) (eD2 : IntKind.u64.wrap ((B2 : Int) - (C2 : Int)) = R2) (eE : (R2 : Int) / 2 ^ s = RR)
    (hUY2 : U2 < y1 * 4294967296 + y0) (hi2 : Hid (DivInv y1 y0 U2 d0 q2 r2)) (hr2 : r2 < 4294967296) (HQ2 : Hid ((U2 * 4294967296 + d0) / (y1 * 4294967296 + y0) = Q2))
    (hi1 : Hid (DivInv y1 y0 U d1 q0 r0)) (hr0 : r0 < 4294967296) (HQ1 : Hid ((U * 4294967296 + d1) / (y1 * 4294967296 + y0) = Q1)) :
    Calls Try.prog 35 #[.int .u64 hi, .int .u64 lo, .int .u64 y] w fun e w' => e = .returned (.tuple #[.int .u64 QQ, .int .u64 RR]) ∧ w = w' := by
  have h0 : ((y : Int) == 0) = false := by simp; omega
  have h1 : ((hi : Int) == 0) = false := by simp; omega
  have HS := Lib.hid hs; clear hs
  go_enter Try.func35, Try.ntmps35
  have hy1' : ¬ (y1 = 0) := by omega
  go_upto_block 0 with (go_at_call 54; refine (HS.out _).mono ?_; rintro e w1 ⟨rfl, rfl⟩)
  clear eY e1 e0 eH eN eU eN1 eN0
  go_cut [15] (fun qv wx => (qv = .int .u64 Q1) ∧ w = wx)
  case first =>
    go_wp2_with fail
    go_loop [15, 16] (fun qv rv => ∃ q r : Nat, qv = .int .u64 q ∧ rv = .int .u64 r ∧ Hid (DivInv y1 y0 U d1 q r) ∧ q ≤ 4294967297 ∧ r < 4294967296) (fun qv _ => (intOf qv).toNat)
    case atStart => exact ⟨q0, r0, rfl, rfl, hi1.out, by have := (hi1.out).le; omega, hr0⟩
    case round =>
      obtain ⟨q, r, rfl, rfl, hinv, hq9n, hr9n⟩ := hrel
      have hq9 : (q : Int) ≤ 4294967297 := by omega
      have hr9 : (r : Int) < 4294967296 := by omega
      clear hq9n hr9n
      obtain ⟨P, hP⟩ : ∃ P, P = q * y0 := ⟨_, rfl⟩
      have hPb : P < 18446744073709551616 := by
        rw [hP]
        have : q * y0 ≤ 4294967297 * y0 := Nat.mul_le_mul_right _ (by omega)
        omega
      have eP : IntKind.u64.wrap ((q : Int) * (y0 : Int)) = (P : Int) := by
        rw [hP, IntKind.wrap_u64, ← Int.natCast_mul]
        rw [hP] at hPb
        omega
      have HP := Lib.hid hP; clear hP hPb
      by_cases hB : (4294967296 : Int) ≤ (q : Int)
      · have hnext := div_true1 hinv.out hy1 hUY hd1 (by omega)
        have HN := Lib.hid hnext; clear hnext
        by_cases hb : (4294967296 : Int) ≤ (r : Int) + (y1 : Int)
        · have hend : (U * 4294967296 + d1) / (y1 * 4294967296 + y0) = q - 1 := div_end HN.out hy1 (div_break hyy0 (by omega) (by omega))
          have HE := Lib.hid hend; clear hend
          go_wp2_with fail
          go_meet
          exact ⟨by rw [← HQ1.out, HE.out]; exact congrArg _ (by omega), rfl⟩
        · go_wp2
          go_round
          case rel => exact ⟨q - 1, r + y1, by go_num, by go_num, HN.out, by omega, by omega⟩
          case measure => simp [intOf]; omega
      · by_cases hT : 4294967296 * (r : Int) + (d1 : Int) < (P : Int)
        · have hnext := div_true2 hinv.out hy1 (by rw [← HP.out]; omega)
          have hq1 : 1 ≤ q := by
            rcases Nat.eq_zero_or_pos q with h0 | h0
            · have := HP.out; rw [h0, Nat.zero_mul] at this; omega
            · exact h0
          have HN := Lib.hid hnext; clear hnext
          by_cases hb : (4294967296 : Int) ≤ (r : Int) + (y1 : Int)
          · have hend : (U * 4294967296 + d1) / (y1 * 4294967296 + y0) = q - 1 := div_end HN.out hy1 (div_break hyy0 (by omega) (by omega))
            have HE := Lib.hid hend; clear hend
            go_wp2_with fail
            go_meet
            exact ⟨by rw [← HQ1.out, HE.out]; exact congrArg _ (by omega), rfl⟩
          · go_wp2
            go_round
            case rel => exact ⟨q - 1, r + y1, by go_num, by go_num, HN.out, by omega, by omega⟩
            case measure => simp [intOf]; omega
        · have hend : (U * 4294967296 + d1) / (y1 * 4294967296 + y0) = q := div_end hinv.out hy1 (by rw [← HP.out]; omega)
          have HE := Lib.hid hend; clear hend
          go_wp2_with fail
          go_meet
          exact ⟨by rw [← HQ1.out, HE.out], rfl⟩
  case rest =>
    obtain ⟨rfl, rfl⟩ := hcut
    go_upto_block 2 with fail
    go_cut [18] (fun qv wy => (qv = .int .u64 Q2) ∧ w = wy)
    case first =>
      go_wp2_with fail
      go_loop [18, 16] (fun qv rv => ∃ q r : Nat, qv = .int .u64 q ∧ rv = .int .u64 r ∧ Hid (DivInv y1 y0 U2 d0 q r) ∧ q ≤ 4294967297 ∧ r < 4294967296) (fun qv _ => (intOf qv).toNat)
      case atStart => exact ⟨q2, r2, rfl, rfl, hi2.out, by have := (hi2.out).le; omega, hr2⟩
      case round =>
        obtain ⟨q, r, rfl, rfl, hinv, hq9n, hr9n⟩ := hrel
        have hq9 : (q : Int) ≤ 4294967297 := by omega
        have hr9 : (r : Int) < 4294967296 := by omega
        clear hq9n hr9n
        obtain ⟨P, hP⟩ : ∃ P, P = q * y0 := ⟨_, rfl⟩
        have hPb : P < 18446744073709551616 := by
          rw [hP]
          have : q * y0 ≤ 4294967297 * y0 := Nat.mul_le_mul_right _ (by omega)
          omega
        have eP : IntKind.u64.wrap ((q : Int) * (y0 : Int)) = (P : Int) := by
          rw [hP, IntKind.wrap_u64, ← Int.natCast_mul]
          rw [hP] at hPb
          omega
        have HP := Lib.hid hP; clear hP hPb
        by_cases hB : (4294967296 : Int) ≤ (q : Int)
        · have hnext := div_true1 hinv.out hy1 hUY2 hd0 (by omega)
          have HN := Lib.hid hnext; clear hnext
          by_cases hb : (4294967296 : Int) ≤ (r : Int) + (y1 : Int)
          · have hend : (U2 * 4294967296 + d0) / (y1 * 4294967296 + y0) = q - 1 := div_end HN.out hy1 (div_break hyy0 (by omega) (by omega))
            have HE := Lib.hid hend; clear hend
            go_wp2_with fail
            go_meet
            exact ⟨by rw [← HQ2.out, HE.out]; exact congrArg _ (by omega), rfl⟩
          · go_wp2
            go_round
            case rel => exact ⟨q - 1, r + y1, by go_num, by go_num, HN.out, by omega, by omega⟩
            case measure => simp [intOf]; omega
        · by_cases hT : 4294967296 * (r : Int) + (d0 : Int) < (P : Int)
          · have hnext := div_true2 hinv.out hy1 (by rw [← HP.out]; omega)
            have hq1 : 1 ≤ q := by
              rcases Nat.eq_zero_or_pos q with h0 | h0
              · have := HP.out; rw [h0, Nat.zero_mul] at this; omega
              · exact h0
            have HN := Lib.hid hnext; clear hnext
            by_cases hb : (4294967296 : Int) ≤ (r : Int) + (y1 : Int)
            · have hend : (U2 * 4294967296 + d0) / (y1 * 4294967296 + y0) = q - 1 := div_end HN.out hy1 (div_break hyy0 (by omega) (by omega))
              have HE := Lib.hid hend; clear hend
              go_wp2_with fail
              go_meet
              exact ⟨by rw [← HQ2.out, HE.out]; exact congrArg _ (by omega), rfl⟩
            · go_wp2
              go_round
              case rel => exact ⟨q - 1, r + y1, by go_num, by go_num, HN.out, by omega, by omega⟩
              case measure => simp [intOf]; omega
          · have hend : (U2 * 4294967296 + d0) / (y1 * 4294967296 + y0) = q := div_end hinv.out hy1 (by rw [← HP.out]; omega)
            have HE := Lib.hid hend; clear hend
            go_wp2_with fail
            go_meet
            exact ⟨by rw [← HQ2.out, HE.out], rfl⟩
    case rest =>
      obtain ⟨rfl, rfl⟩ := hcut
      go_wp2
      go_ret2
      exact ⟨rfl, rfl⟩
end Go.Proofs.Ytblaplnpehnjfab
namespace Go.Proofs.Ytblaplnpehnjfab
open Go.RowKit

theorem u64_wrap (n m : Nat) (h : n % 18446744073709551616 = m) : IntKind.u64.wrap (n : Int) = (m : Int) := by rw [IntKind.wrap_u64]; omega
theorem u64_self (n : Nat) (h : n < 18446744073709551616) : IntKind.u64.wrap (n : Int) = (n : Int) := u64_wrap n n (Nat.mod_eq_of_lt h)
theorem u64_sub (a b c : Nat) (h : (c + b) % 18446744073709551616 = a % 18446744073709551616) (hc : c < 18446744073709551616) : IntKind.u64.wrap ((a : Int) - (b : Int)) = (c : Int) := by rw [IntKind.wrap_u64]; omega

/-- What the shifts are. -/
theorem shifted (y L : Nat) (h1 : 2 ^ (L - 1) ≤ y) (h2 : y < 2 ^ L) (hL : 1 ≤ L) (h64 : L ≤ 64) :
    9223372036854775808 ≤ y * 2 ^ (64 - L) ∧ y * 2 ^ (64 - L) < 18446744073709551616 := by
  have e1 : (2 : Nat) ^ (L - 1) * 2 ^ (64 - L) = 9223372036854775808 := by rw [← Nat.pow_add, show L - 1 + (64 - L) = 63 by omega]
  have e2 : (2 : Nat) ^ L * 2 ^ (64 - L) = 18446744073709551616 := by rw [← Nat.pow_add, show L + (64 - L) = 64 by omega]
  have hp : 0 < 2 ^ (64 - L) := Nat.two_pow_pos _
  constructor
  · rw [← e1]; exact Nat.mul_le_mul_right _ h1
  · rw [← e2]; exact Nat.mul_lt_mul_of_pos_right h2 hp

theorem parted (lo L : Nat) (hl : lo < 18446744073709551616) (hL : 1 ≤ L) (h64 : L ≤ 64) :
    lo / 2 ^ L < 2 ^ (64 - L) ∧ lo * 2 ^ (64 - L) = lo / 2 ^ L * 18446744073709551616 + lo * 2 ^ (64 - L) % 18446744073709551616 := by
  have e2 : (2 : Nat) ^ (64 - L) * 2 ^ L = 18446744073709551616 := by rw [← Nat.pow_add, show 64 - L + L = 64 by omega]
  have hp : 0 < 2 ^ (64 - L) := Nat.two_pow_pos _
  constructor
  · rw [Nat.div_lt_iff_lt_mul (Nat.two_pow_pos _), e2]; exact hl
  · have : lo * 2 ^ (64 - L) / 18446744073709551616 = lo / 2 ^ L := by
      rw [← e2, Nat.mul_comm (2 ^ (64 - L)) (2 ^ L)]; exact Nat.mul_div_mul_right _ _ hp
    have hm := Nat.div_add_mod (lo * 2 ^ (64 - L)) 18446744073709551616
    rw [this] at hm
    omega

theorem or_add (a t s : Nat) (ha : a * 2 ^ s < 18446744073709551616) (ht : t < 2 ^ s) (hs : s ≤ 63) : bits .or .u64 ((a * 2 ^ s : Nat) : Int) (t : Int) = ((a * 2 ^ s + t : Nat) : Int) := by
  have hb : t < 18446744073709551616 := Nat.lt_of_lt_of_le ht (by
    have : (2 : Nat) ^ s ≤ 2 ^ 63 := Nat.pow_le_pow_right (by decide) hs
    omega)
  rw [u64_or_nat _ _ ha hb]
  rw [nat_join s _ _ (Nat.mul_mod_left _ _) ht]

theorem mask32 (n : Nat) (h : n < 18446744073709551616) : bits .and .u64 (n : Int) 4294967295 = ((n % 4294967296 : Nat) : Int) := by
  have := u64_and_nat n 4294967295 h (by decide)
  rw [nat_mask32] at this
  exact this
theorem cast_two_pow_mul (a s : Nat) : ((a * 2 ^ s : Nat) : Int) = (a : Int) * 2 ^ s := by push_cast; rfl
theorem cast_div_two_pow (a s : Nat) : (a : Int) / 2 ^ s = ((a / 2 ^ s : Nat) : Int) := by push_cast; rfl

theorem digits_of (Q1 U d1 Y : Nat) (hY : Y < 18446744073709551616) (hU : U < Y) (hd : d1 < 4294967296) (hq : (U * 4294967296 + d1) / Y = Q1) :
    Q1 < 4294967296 ∧ U * 4294967296 + d1 = Q1 * Y + (U * 4294967296 + d1) % Y ∧ (U * 4294967296 + d1) % Y < Y := by
  have hm := Nat.div_add_mod (U * 4294967296 + d1) Y
  have hl := Nat.mod_lt (U * 4294967296 + d1) (show 0 < Y by omega)
  rw [hq, Nat.mul_comm] at hm
  refine ⟨?_, by omega, hl⟩
  rw [← hq, Nat.div_lt_iff_lt_mul (by omega)]
  omega

set_option maxHeartbeats 800000 in
theorem div64_any (hi lo y : Nat) (w : World) (hy : hi < y) (hy2 : y < 18446744073709551616) (hl : lo < 18446744073709551616) :
    Calls Try.prog 35 #[.int .u64 hi, .int .u64 lo, .int .u64 y] w fun e w' => e = .returned (.tuple #[.int .u64 ((hi * 18446744073709551616 + lo) / y : Nat), .int .u64 ((hi * 18446744073709551616 + lo) % y : Nat)]) ∧ w.grownBy w' none := by
  rcases Nat.eq_zero_or_pos hi with h0 | hpos
  · subst h0
    have hb : ((y : Int) == 0) = false := by simp; omega
    have hq : (lo / y) % 18446744073709551616 = lo / y := Nat.mod_eq_of_lt (Nat.lt_of_le_of_lt (Nat.div_le_self _ _) hl)
    have eq : IntKind.u64.wrap ((lo : Int) / (y : Int)) = ((lo / y : Nat) : Int) := by rw [← Int.natCast_ediv]; exact u64_wrap _ _ hq
    clear hq
    go_enter Try.func35, Try.ntmps35
    go_wp2
    go_quiet (fail)
    go_wp2
    go_ret2
    refine ⟨ret_uu ?_ ?_, grown_drewN _ _ _⟩
    · simp
    · simp
  · obtain ⟨L, hLd⟩ : ∃ L, L = Lib.bitLen y := ⟨_, rfl⟩
    have hbd := Lib.bitLenAux_bounds 64 y hy2 (by omega)
    have hL64 : L ≤ 64 := by rw [hLd]; exact Lib.bitLen_le y 64 (by omega) (by omega)
    rw [show Lib.bitLenAux 64 y = L from hLd.symm] at hbd
    obtain ⟨hL1, hlo2, hhi2⟩ := hbd
    obtain ⟨hY1, hY2⟩ := shifted y L hlo2 hhi2 hL1 hL64
    obtain ⟨hT, hN⟩ := parted lo L hl hL1 hL64
    have hlz : ∀ w, Calls Try.prog 54 #[.int .u64 y] w fun e w' => e = .returned (.int .i64 ((64 - L : Nat) : Int)) ∧ w = w' := by
      intro w
      refine (Try.bits_LeadingZeros64 y w (by omega) (by omega)).mono ?_
      rintro e w' ⟨h1, h2⟩
      refine ⟨?_, h2.symm⟩
      rw [h1, Int.toNat_natCast, ← hLd]
      exact ret_int (by omega)
    obtain ⟨s, hs⟩ : ∃ s, s = 64 - L := ⟨_, rfl⟩
    have hsL : 64 - s = L := by omega
    rw [← hs] at hY1 hY2 hT hN hlz
    have hp : 0 < 2 ^ s := Nat.two_pow_pos _
    obtain ⟨Y, hY⟩ : ∃ Y, Y = y * 2 ^ s := ⟨_, rfl⟩
    obtain ⟨T, hTd⟩ : ∃ T, T = lo / 2 ^ L := ⟨_, rfl⟩
    obtain ⟨N, hNd⟩ : ∃ N, N = lo * 2 ^ s % 18446744073709551616 := ⟨_, rfl⟩
    have hU : hi * 2 ^ s + T < Y := by
      have : (hi + 1) * 2 ^ s ≤ y * 2 ^ s := Nat.mul_le_mul_right _ hy
      rw [Nat.add_mul] at this
      omega
    have hM : (hi * 18446744073709551616 + lo) * 2 ^ s = (hi * 2 ^ s + T) * 18446744073709551616 + N := by
      rw [Nat.add_mul, Nat.mul_right_comm, hN, ← hTd, ← hNd]; omega
    have hN64 : N < 18446744073709551616 := by rw [hNd]; exact Nat.mod_lt _ (by decide)
    have hH : hi * 2 ^ s < 18446744073709551616 := by omega
    have hor := or_add hi T s hH (by rw [hTd]; exact hT) (by omega)
    have hdiv := div_shift (hi * 18446744073709551616 + lo) y s (by omega)
    rw [hM, ← hY] at hdiv
    obtain ⟨U, hUd⟩ : ∃ U, U = hi * 2 ^ s + T := ⟨_, rfl⟩
    rw [← hUd] at hU hM hor hdiv
    rw [← hY] at hY1 hY2
    have hsp : U * 18446744073709551616 + N = (U * 4294967296 + N / 4294967296) * 4294967296 + N % 4294967296 := by omega
    obtain ⟨g1, g2, g3⟩ := digits_of _ U (N / 4294967296) Y hY2 hU (by omega) rfl
    obtain ⟨Q1, hQ1⟩ : ∃ Q, Q = (U * 4294967296 + N / 4294967296) / Y := ⟨_, rfl⟩
    obtain ⟨U2, hU2⟩ : ∃ Q, Q = (U * 4294967296 + N / 4294967296) % Y := ⟨_, rfl⟩
    rw [← hQ1] at g1 g2
    rw [← hU2] at g2 g3
    obtain ⟨k1, k2, k3⟩ := digits_of _ U2 (N % 4294967296) Y hY2 g3 (by omega) rfl
    obtain ⟨Q2, hQ2⟩ : ∃ Q, Q = (U2 * 4294967296 + N % 4294967296) / Y := ⟨_, rfl⟩
    obtain ⟨R2, hR2⟩ : ∃ Q, Q = (U2 * 4294967296 + N % 4294967296) % Y := ⟨_, rfl⟩
    rw [← hQ2] at k1 k2
    rw [← hR2] at k2 k3
    have htwo := div_two Y (U * 4294967296 + N / 4294967296) (N % 4294967296) (by omega)
    rw [← hsp, ← hQ1, ← hU2, ← hQ2, ← hR2] at htwo
    rw [htwo.1, htwo.2] at hdiv
    have hys : Y = Y / 4294967296 * 4294967296 + Y % 4294967296 := by omega
    have hst1 := div_start (Y / 4294967296) (Y % 4294967296) U (N / 4294967296) (by omega) (by omega) (by omega) (by omega)
    have hst2 := div_start (Y / 4294967296) (Y % 4294967296) U2 (N % 4294967296) (by omega) (by omega) (by omega) (by omega)
    have m1 : U / (Y / 4294967296) * (Y / 4294967296) ≤ U := Nat.div_mul_le_self _ _
    have m2 : U2 / (Y / 4294967296) * (Y / 4294967296) ≤ U2 := Nat.div_mul_le_self _ _
    have n1 : U / (Y / 4294967296) ≤ U := Nat.div_le_self _ _
    have n2 : U2 / (Y / 4294967296) ≤ U2 := Nat.div_le_self _ _
    rw [← hdiv.1, ← hdiv.2]
    refine (div_core hi lo y s Y (Y / 4294967296) (Y % 4294967296) (hi * 2 ^ s) U N (N / 4294967296) (N % 4294967296) (U / (Y / 4294967296)) (U / (Y / 4294967296) * (Y / 4294967296)) (U - U / (Y / 4294967296) * (Y / 4294967296)) Q1
      (U * 4294967296 % 18446744073709551616) ((U * 4294967296 % 18446744073709551616 + N / 4294967296) % 18446744073709551616) (Q1 * Y % 18446744073709551616) U2
      (U2 / (Y / 4294967296)) (U2 / (Y / 4294967296) * (Y / 4294967296)) (U2 - U2 / (Y / 4294967296) * (Y / 4294967296)) Q2 (Q1 * 4294967296) (Q1 * 4294967296 + Q2)
      (U2 * 4294967296 % 18446744073709551616) ((U2 * 4294967296 % 18446744073709551616 + N % 4294967296) % 18446744073709551616) (Q2 * Y % 18446744073709551616) R2 (R2 / 2 ^ s) w hpos hy hlz (hs63 := ?hs63) (eY := ?eY) (e1 := ?e1) (e0 := ?e0) (eH := ?eH) (eN := ?eN) (eU := ?eU) (eN1 := ?eN1) (eN0 := ?eN0) (hyy1 := ?hyy1) (hyy0 := ?hyy0) (hd1 := ?hd1) (hd0 := ?hd0) (hy1 := ?hy1) (hUY := ?hUY) (eq0 := ?eq0) (ep0 := ?ep0) (er0 := ?er0) (eA := ?eA) (eB := ?eB) (eC := ?eC) (eD := ?eD) (eq2 := ?eq2) (ep2 := ?ep2) (er2 := ?er2) (eF := ?eF) (eG := ?eG) (eA2 := ?eA2) (eB2 := ?eB2) (eC2 := ?eC2) (eD2 := ?eD2) (eE := ?eE) (hUY2 := ?hUY2) (hi2 := ?hi2) (hr2 := ?hr2) (HQ2 := ?HQ2) (hi1 := ?hi1) (hr0 := ?hr0) (HQ1 := ?HQ1)).mono ?_
    case hs63 => omega
    case eY => rw [← cast_two_pow_mul y s, ← hY]; exact u64_self _ hY2
    case e1 => exact (Int.natCast_ediv _ _).symm
    case e0 => exact mask32 _ hY2
    case eH => rw [← cast_two_pow_mul]; exact u64_self _ hH
    case eN => rw [← cast_two_pow_mul, hNd]; exact u64_wrap _ _ rfl
    case eU => rw [hsL, cast_div_two_pow, ← hTd]; exact hor
    case eN1 => exact (Int.natCast_ediv _ _).symm
    case eN0 => exact mask32 _ hN64
    case hyy1 => omega
    case hyy0 => omega
    case hd1 => omega
    case hd0 => omega
    case hy1 => omega
    case hUY => omega
    case eq0 => rw [← Int.natCast_ediv]; exact u64_self _ (by omega)
    case ep0 => rw [← Int.natCast_mul]; exact u64_self _ (by omega)
    case er0 => exact u64_sub _ _ _ (by omega) (by omega)
    case eA => exact u64_wrap (U * 4294967296) _ rfl
    case eB => exact u64_wrap (U * 4294967296 % 18446744073709551616 + N / 4294967296) _ rfl
    case eC => rw [← Int.natCast_mul]; exact u64_wrap _ _ rfl
    case eD => exact u64_sub _ _ _ (by omega) (by omega)
    case eq2 => rw [← Int.natCast_ediv]; exact u64_self _ (by omega)
    case ep2 => rw [← Int.natCast_mul]; exact u64_self _ (by omega)
    case er2 => exact u64_sub _ _ _ (by omega) (by omega)
    case eF => exact u64_self (Q1 * 4294967296) (by omega)
    case eG => exact u64_self (Q1 * 4294967296 + Q2) (by omega)
    case eA2 => exact u64_wrap (U2 * 4294967296) _ rfl
    case eB2 => exact u64_wrap (U2 * 4294967296 % 18446744073709551616 + N % 4294967296) _ rfl
    case eC2 => rw [← Int.natCast_mul]; exact u64_wrap _ _ rfl
    case eD2 => exact u64_sub _ _ _ (by omega) (by omega)
    case eE => exact cast_div_two_pow _ _
    case hUY2 => omega
    case hi2 => exact hst2.1
    case hr2 => omega
    case HQ2 => show _ = _; rw [← hys]; exact hQ2.symm
    case hi1 => exact hst1.1
    case hr0 => omega
    case HQ1 => show _ = _; rw [← hys]; exact hQ1.symm
    rintro e w' ⟨h1, rfl⟩
    exact ⟨h1, grown_refl _ _⟩
end Go.Proofs.Ytblaplnpehnjfab
/- Rounded quotients: as the program rounds (up from the whole number below), and as the other way has it (without a sign first). No program. -/
namespace Go.Proofs.Ytblaplnpehnjfab
def big : Int := 4611686018427387904

/-- Is the whole number above q taken? n = q * d + r. -/
def upB (how q r d : Int) : Bool :=
  if how = 1 then false
  else if how = 2 then decide (0 < r)
  else if how = 3 then decide (0 < r) && decide (q < 0)
  else if how = 4 then decide (d - r ≤ r)
  else decide (d - r < r) || (decide (r = d - r) && decide (q % 2 = 1))

def rndV (how n d : Int) : Int := n / d + (if upB how (n / d) (n % d) d then 1 else 0)

def scaleV (a num den how : Int) : Int × Int :=
  if how < 1 ∨ 5 < how then (0, 7)
  else if den < 1 ∨ num < 0 then (0, 1)
  else if rndV how (a * num) den < -big ∨ big < rndV how (a * num) den then (0, 9)
  else (rndV how (a * num) den, 0)

theorem neg_div_of (N d : Int) (hd : 0 < d) (h : N % d = 0) : -N / d = -(N / d) ∧ -N % d = 0 := by
  have hm := Int.mul_ediv_add_emod N d
  have e : -N = d * (-(N / d)) := by rw [Int.mul_neg]; omega
  constructor
  · rw [e, Int.mul_ediv_cancel_left _ (by omega)]
    
  · rw [e]; exact Int.mul_emod_right _ _

theorem neg_div_of' (N d : Int) (hd : 0 < d) (h : N % d ≠ 0) : -N / d = -(N / d) - 1 ∧ -N % d = d - N % d := by
  have hm := Int.mul_ediv_add_emod N d
  have h1 := Int.emod_nonneg N (show d ≠ 0 by omega)
  have h2 := Int.emod_lt_of_pos N hd
  have e : -N = (d - N % d) + d * (-(N / d) - 1) := by
    rw [Int.mul_sub, Int.mul_neg]; omega
  constructor
  · rw [e, Int.add_mul_ediv_left _ _ (by omega), Int.ediv_eq_zero_of_lt (by omega) (by omega)]; omega
  · rw [e, Int.add_mul_emod_self_left, Int.emod_eq_of_lt (by omega) (by omega)]

theorem rnd_near (how n d : Int) : n / d ≤ rndV how n d ∧ rndV how n d ≤ n / d + 1 := by
  unfold rndV; split <;> omega

theorem up_zero (how q d : Int) (hd : 0 < d) : upB how q 0 d = false := by
  unfold upB
  repeat' split
  all_goals simp
  all_goals omega

/-- A quotient too great is no result, however rounded. -/
theorem scale_no (a num den how : Int) (h1 : 1 ≤ how) (h5 : how ≤ 5) (hd : 1 ≤ den) (hn : 0 ≤ num) (hb : big < (a.natAbs * num) / den) : scaleV a num den how = (0, 9) := by
  unfold scaleV
  rw [if_neg (by omega), if_neg (by omega), if_pos]
  have hr := rnd_near how (a * num) den
  rcases (show a < 0 ∨ 0 ≤ a by omega) with ha | ha
  · left
    have en : (a.natAbs : Int) = -a := by omega
    have e : a * num = -((a.natAbs : Int) * num) := by rw [en, Int.neg_mul, Int.neg_neg]
    rw [e] at hr ⊢
    generalize (a.natAbs : Int) * num = N at *
    unfold rndV at hr ⊢
    by_cases hz : N % den = 0
    · obtain ⟨e1, e2⟩ := neg_div_of N den (by omega) hz
      rw [e1, e2, up_zero _ _ _ (by omega)]
      simp; omega
    · obtain ⟨e1, e2⟩ := neg_div_of' N den (by omega) hz
      rw [e1]; split <;> omega
  · right
    have e : (a.natAbs : Int) = a := by omega
    rw [e] at hb
    omega

/-- The other way of it: without a sign, and rounded up if it is to be. -/
def moreB (quo rest den : Int) (minus : Bool) (how : Int) : Bool :=
  if rest = 0 then false
  else if how = 1 then minus
  else if how = 2 then !minus
  else if how = 3 then false
  else if rest = den - rest then (if how = 4 then !minus else decide (quo % 2 = 1))
  else decide (den - rest < rest)

theorem more_pos (how q r d : Int) (h1 : 1 ≤ how) (h5 : how ≤ 5) (hq : 0 ≤ q) (h0 : 0 ≤ r) (hr : r < d) : upB how q r d = moreB q r d false how := by
  unfold upB moreB
  by_cases c0 : r = 0
  · subst c0; repeat' split
    all_goals (simp; try omega)
  rcases (show how = 1 ∨ how = 2 ∨ how = 3 ∨ how = 4 ∨ how = 5 by omega) with rfl | rfl | rfl | rfl | rfl
  · simp [c0]
  · simp [c0]; omega
  · simp [c0]; omega
  · simp [c0]; rw [Bool.eq_iff_iff]; simp; omega
  · by_cases c : r = d - r
    · have c' : ¬ d - r < r := by omega
      simp [c0, ← c]
    · simp [c0, if_neg c]; intro h; omega

theorem more_neg (how q r d : Int) (h1 : 1 ≤ how) (h5 : how ≤ 5) (hq : 0 ≤ q) (h0 : 0 < r) (hr : r < d) : upB how (-q - 1) (d - r) d = !moreB q r d true how := by
  unfold upB moreB
  have c0 : r ≠ 0 := by omega
  rcases (show how = 1 ∨ how = 2 ∨ how = 3 ∨ how = 4 ∨ how = 5 by omega) with rfl | rfl | rfl | rfl | rfl
  · simp [c0]
  · simp [c0]; omega
  · simp [c0]; omega
  · simp [c0]; rw [Bool.eq_iff_iff]; simp; omega
  · by_cases c : r = d - r
    · simp [c0]; rw [if_pos c]; rw [Bool.eq_iff_iff]; simp; omega
    · simp [c0]; rw [if_neg c]; rw [Bool.eq_iff_iff]; simp; omega

def quoV (a num den how : Int) : Int :=
  (a.natAbs * num) / den + (if moreB ((a.natAbs * num) / den) ((a.natAbs * num) % den) den (decide (a < 0)) how then 1 else 0)

theorem scale_ref (a num den how : Int) (h1 : 1 ≤ how) (h5 : how ≤ 5) (hd : 1 ≤ den) (hn : 0 ≤ num) :
    scaleV a num den how = if big < quoV a num den how then (0, 9) else ((if a < 0 then -quoV a num den how else quoV a num den how), 0) := by
  have key : rndV how (a * num) den = (if a < 0 then -quoV a num den how else quoV a num den how) ∧ 0 ≤ quoV a num den how := by
    rcases (show a < 0 ∨ 0 ≤ a by omega) with ha | ha
    · have en : (a.natAbs : Int) = -a := by omega
      have e : a * num = -((a.natAbs : Int) * num) := by rw [en, Int.neg_mul, Int.neg_neg]
      have hN : 0 ≤ (a.natAbs : Int) * num := Int.mul_nonneg (by omega) hn
      rw [e, if_pos ha]
      unfold quoV
      generalize (a.natAbs : Int) * num = N at *
      have hq : 0 ≤ N / den := Int.ediv_nonneg hN (by omega)
      have hr0 := Int.emod_nonneg N (show den ≠ 0 by omega)
      have hr1 := Int.emod_lt_of_pos N (show 0 < den by omega)
      rw [decide_eq_true ha]
      unfold rndV
      by_cases hz : N % den = 0
      · obtain ⟨e1, e2⟩ := neg_div_of N den (by omega) hz
        rw [e1, e2, up_zero _ _ _ (by omega), hz]
        simp [moreB]; omega
      · obtain ⟨e1, e2⟩ := neg_div_of' N den (by omega) hz
        rw [e1, e2, more_neg how _ _ _ h1 h5 hq (by omega) hr1]
        cases moreB (N / den) (N % den) den true how <;> simp <;> omega
    · have e : (a.natAbs : Int) = a := by omega
      have hN : 0 ≤ a * num := Int.mul_nonneg (by omega) hn
      unfold quoV
      rw [e, if_neg (by omega), decide_eq_false (by omega)]
      generalize a * num = N at *
      have hq : 0 ≤ N / den := Int.ediv_nonneg hN (by omega)
      have hr0 := Int.emod_nonneg N (show den ≠ 0 by omega)
      have hr1 := Int.emod_lt_of_pos N (show 0 < den by omega)
      unfold rndV
      rw [more_pos how _ _ _ h1 h5 hq hr0 hr1]
      exact ⟨rfl, by split <;> omega⟩
  unfold scaleV
  obtain ⟨k1, k2⟩ := key
  rw [if_neg (by omega), if_neg (by omega), k1]
  unfold big at *
  split <;> split <;> split <;> first | rfl | omega | (exfalso; omega)

end Go.Proofs.Ytblaplnpehnjfab
namespace Go.Proofs.Ytblaplnpehnjfab
open Go.RowKit

theorem back (M num : Nat) : M * num / 18446744073709551616 * 18446744073709551616 + M * num % 18446744073709551616 = M * num := by omega

/-- The quotient without a sign, from the product on. -/
theorem mul_any (x y : Nat) (hx : x < 18446744073709551616) (hy : y < 18446744073709551616) (w : World) {H L : Nat} (hH : Hid (x * y / 18446744073709551616 = H)) (hL : Hid (x * y % 18446744073709551616 = L)) :
    Calls Try.prog 33 #[.int .u64 x, .int .u64 y] w fun e w' => e = .returned (.tuple #[.int .u64 H, .int .u64 L]) ∧ w = w' := by
  refine (Try.bits_Mul64 x y hx hy w).mono ?_
  rintro e w' ⟨h1, h2⟩
  exact ⟨by rw [h1, hH.out, hL.out], h2.symm⟩
theorem div_any {hi lo y : Nat} (w : World) (hy : hi < y) (hy2 : y < 18446744073709551616) (hl : lo < 18446744073709551616) {Q R : Nat} (hQ : Hid ((hi * 18446744073709551616 + lo) / y = Q)) (hR : Hid ((hi * 18446744073709551616 + lo) % y = R)) :
    Calls Try.prog 35 #[.int .u64 hi, .int .u64 lo, .int .u64 y] w fun e w' => e = .returned (.tuple #[.int .u64 Q, .int .u64 R]) ∧ w.grownBy w' none := by
  refine (div64_any hi lo y w hy hy2 hl).mono ?_
  rintro e w' ⟨h1, h2⟩
  exact ⟨by rw [h1, hQ.out, hR.out], h2⟩


theorem neg_wrap (a : Int) (M : Nat) (hM : M = a.natAbs) (ha : a < 0) (ha0 : -9223372036854775808 ≤ a) : IntKind.u64.wrap a = (((18446744073709551616 - M : Nat) : Nat) : Int) ∧ IntKind.u64.wrap (-(((18446744073709551616 - M : Nat) : Nat) : Int)) = (M : Int) := by
  rw [IntKind.wrap_u64, IntKind.wrap_u64]; omega

def TooBig (M num den : Nat) : Prop := 4611686018427387904 < M * num / den

set_option maxHeartbeats 1600000 in
theorem quot_no (a : Int) (num den : Nat) (ha0 : -9223372036854775808 ≤ a) (ha1 : a ≤ 9223372036854775807) (hn : num ≤ 9223372036854775807) (hd0 : 1 ≤ den) (hd1 : den ≤ 9223372036854775807) (hbig : TooBig a.natAbs num den) (w : World) :
    Calls Try.prog 47 #[.int .i64 a, .int .u64 num, .int .u64 den] w fun e w' => (e = .returned (.tuple #[.int .i64 0, .int .u64 0, .bool false])) ∧ w.grownBy w' none := by
  obtain ⟨M, hM⟩ : ∃ M, M = a.natAbs := ⟨_, rfl⟩
  obtain ⟨H, hH⟩ : ∃ H, M * num / 18446744073709551616 = H := ⟨_, rfl⟩
  obtain ⟨L, hL⟩ : ∃ H, M * num % 18446744073709551616 = H := ⟨_, rfl⟩
  have hM64 : M ≤ 9223372036854775808 := by omega
  have hL64 : L < 18446744073709551616 := by rw [← hL]; exact Nat.mod_lt _ (by decide)
  have hback := back M num
  rw [hH, hL] at hback
  rw [← hM] at hbig
  obtain ⟨Q, hQ⟩ : ∃ Q, (H * 18446744073709551616 + L) / den = Q := ⟨_, rfl⟩
  obtain ⟨R, hR⟩ : ∃ Q, (H * 18446744073709551616 + L) % den = Q := ⟨_, rfl⟩
  have hQb : 4611686018427387904 < Q := by unfold TooBig at hbig; rw [← hback, hQ] at hbig; exact hbig
  have hQi : (4611686018427387904 : Int) < (Q : Int) := by omega
  have HH := Lib.hid hH; have HL := Lib.hid hL; have HB := Lib.hid hback; have HQ := Lib.hid hQ; have HR := Lib.hid hR; have HM := Lib.hid hM; have HBIG := Lib.hid hbig
  clear hH hL hback hQ hR hQb hbig
  by_cases hhd : (den : Int) ≤ (H : Int)
  · by_cases hneg : a < 0
    · obtain ⟨e1, e2⟩ := neg_wrap a M hM hneg ha0
      obtain ⟨A1, hA1⟩ : ∃ A1, 18446744073709551616 - M = A1 := ⟨_, rfl⟩
      rw [hA1] at e1 e2
      clear hA1 hM
      go_enter Try.func47, Try.ntmps47
      go_wp2_with (go_at_call 33; refine (mul_any M num (by omega) (by omega) _ HH HL).mono ?_; rintro e w1 ⟨rfl, rfl⟩)
      go_ret3
      exact ⟨rfl, grown_refl _ _⟩
    · obtain rfl : a = (M : Int) := by omega
      clear hM
      go_enter Try.func47, Try.ntmps47
      go_wp2_with (go_at_call 33; refine (mul_any M num (by omega) (by omega) _ HH HL).mono ?_; rintro e w1 ⟨rfl, rfl⟩)
      go_ret3
      exact ⟨rfl, grown_refl _ _⟩
  · by_cases hneg : a < 0
    · obtain ⟨e1, e2⟩ := neg_wrap a M hM hneg ha0
      obtain ⟨A1, hA1⟩ : ∃ A1, 18446744073709551616 - M = A1 := ⟨_, rfl⟩
      rw [hA1] at e1 e2
      clear hA1 hM
      go_enter Try.func47, Try.ntmps47
      go_wp2_with (first | (go_at_call 33; refine (mul_any M num (by omega) (by omega) _ HH HL).mono ?_; rintro e w1 ⟨rfl, rfl⟩) | (go_at_call 35; refine (div_any _ (by omega) (by omega) hL64 HQ HR).mono ?_; rintro e w2 ⟨rfl, hg⟩))
      go_ret3
      exact ⟨rfl, by assumption⟩
    · obtain rfl : a = (M : Int) := by omega
      clear hM
      go_enter Try.func47, Try.ntmps47
      go_wp2_with (first | (go_at_call 33; refine (mul_any M num (by omega) (by omega) _ HH HL).mono ?_; rintro e w1 ⟨rfl, rfl⟩) | (go_at_call 35; refine (div_any _ (by omega) (by omega) hL64 HQ HR).mono ?_; rintro e w2 ⟨rfl, hg⟩))
      go_ret3
      exact ⟨rfl, by assumption⟩

theorem ret_iub {a b c d : Int} {x y : Bool} (h : a = b) (h' : c = d) (h'' : x = y) : Ending.returned (.tuple #[.int .i64 a, .int .u64 c, .bool x]) = .returned (.tuple #[.int .i64 b, .int .u64 d, .bool y]) := by rw [h, h', h'']

set_option maxHeartbeats 1600000 in
theorem quot_yes (a : Int) (num den : Nat) (ha0 : -9223372036854775808 ≤ a) (ha1 : a ≤ 9223372036854775807) (hn : num ≤ 9223372036854775807) (hd0 : 1 ≤ den) (hd1 : den ≤ 9223372036854775807) (hbig : ¬ TooBig a.natAbs num den) (w : World) :
    Calls Try.prog 47 #[.int .i64 a, .int .u64 num, .int .u64 den] w fun e w' => (e = .returned (.tuple #[.int .i64 (a * num / den), .int .u64 (a * num % den), .bool true])) ∧ w.grownBy w' none := by
  obtain ⟨M, hM⟩ : ∃ M, M = a.natAbs := ⟨_, rfl⟩
  obtain ⟨H, hH⟩ : ∃ H, M * num / 18446744073709551616 = H := ⟨_, rfl⟩
  obtain ⟨L, hL⟩ : ∃ H, M * num % 18446744073709551616 = H := ⟨_, rfl⟩
  have hM64 : M ≤ 9223372036854775808 := by omega
  have hL64 : L < 18446744073709551616 := by rw [← hL]; exact Nat.mod_lt _ (by decide)
  have hback := back M num
  rw [hH, hL] at hback
  rw [← hM] at hbig
  obtain ⟨Q, hQ⟩ : ∃ Q, (H * 18446744073709551616 + L) / den = Q := ⟨_, rfl⟩
  obtain ⟨R, hR⟩ : ∃ Q, (H * 18446744073709551616 + L) % den = Q := ⟨_, rfl⟩
  have hQ' := hQ
  have hR' := hR
  rw [hback] at hQ' hR'
  have hQb : Q ≤ 4611686018427387904 := by unfold TooBig at hbig; rw [hQ'] at hbig; omega
  have hQi : (Q : Int) ≤ 4611686018427387904 := by omega
  have hRd : R < den := by rw [← hR]; exact Nat.mod_lt _ hd0
  have hHd : H < den := by
    rcases Nat.lt_or_ge H den with h | h
    · exact h
    · exfalso
      have h1 : den * 18446744073709551616 ≤ M * num := by omega
      have h2 : 18446744073709551616 ≤ M * num / den := by rw [Nat.le_div_iff_mul_le (by omega), Nat.mul_comm]; exact h1
      omega
  have hHi : (H : Int) < (den : Int) := by omega
  have hcast : ((M * num : Nat) : Int) = (M : Int) * (num : Int) := by push_cast; rfl
  have hq : ((M : Int) * (num : Int)) / (den : Int) = (Q : Int) := by rw [← hcast, ← Int.natCast_ediv, hQ']
  have hr : ((M : Int) * (num : Int)) % (den : Int) = (R : Int) := by rw [← hcast, ← Int.natCast_emod, hR']
  have HH := Lib.hid hH; have HL := Lib.hid hL; have HQ := Lib.hid hQ; have HR := Lib.hid hR
  have Hq := Lib.hid hq; have Hr := Lib.hid hr
  clear hH hL hback hQ hR hQb hbig hQ' hR' hcast hq hr
  by_cases hneg : a < 0
  · obtain ⟨e1, e2⟩ := neg_wrap a M hM hneg ha0
    obtain ⟨A1, hA1⟩ : ∃ A1, 18446744073709551616 - M = A1 := ⟨_, rfl⟩
    rw [hA1] at e1 e2
    have haM : a * (num : Int) = -((M : Int) * (num : Int)) := by
      have : a = -(M : Int) := by omega
      rw [this, Int.neg_mul]
    have HA := Lib.hid haM
    clear hA1 hM haM
    by_cases hz : R = 0
    · subst hz
      have hd := neg_div_of ((M : Int) * (num : Int)) den (by omega) (by rw [Hr.out]; rfl)
      have HD := Lib.hid hd; clear hd
      go_enter Try.func47, Try.ntmps47
      go_wp2_with (first | (go_at_call 33; refine (mul_any M num (by omega) (by omega) _ HH HL).mono ?_; rintro e w1 ⟨rfl, rfl⟩) | (go_at_call 35; refine (div_any _ (by omega) (by omega) hL64 HQ HR).mono ?_; rintro e w2 ⟨rfl, hg⟩))
      go_ret3
      exact ⟨ret_iub (by rw [HA.out, HD.out.1, Hq.out]) (by rw [HA.out, HD.out.2]) rfl, by assumption⟩
    · have hz1 : ((R : Int) == 0) = false := by simp; omega
      have hd := neg_div_of' ((M : Int) * (num : Int)) den (by omega) (by rw [Hr.out]; omega)
      have HD := Lib.hid hd; clear hd
      go_enter Try.func47, Try.ntmps47
      go_wp2_with (first | (go_at_call 33; refine (mul_any M num (by omega) (by omega) _ HH HL).mono ?_; rintro e w1 ⟨rfl, rfl⟩) | (go_at_call 35; refine (div_any _ (by omega) (by omega) hL64 HQ HR).mono ?_; rintro e w2 ⟨rfl, hg⟩))
      go_ret3
      exact ⟨ret_iub (by rw [HA.out, HD.out.1, Hq.out]) (by rw [HA.out, HD.out.2, Hr.out]) rfl, by assumption⟩
  · obtain rfl : a = (M : Int) := by omega
    clear hM
    go_enter Try.func47, Try.ntmps47
    go_wp2_with (first | (go_at_call 33; refine (mul_any M num (by omega) (by omega) _ HH HL).mono ?_; rintro e w1 ⟨rfl, rfl⟩) | (go_at_call 35; refine (div_any _ (by omega) (by omega) hL64 HQ HR).mono ?_; rintro e w2 ⟨rfl, hg⟩))
    go_ret3
    exact ⟨ret_iub (by rw [Hq.out]) (by rw [Hr.out]) rfl, by assumption⟩
end Go.Proofs.Ytblaplnpehnjfab
namespace Go.Proofs.Ytblaplnpehnjfab
open Go.RowKit

theorem roundings_any (w : World) :
    Calls Try.prog 48 #[] w fun e w' => e = .returned (.agg #[.nilFunc, .func (.func 73) #[] #[], .func (.func 74) #[] #[], .func (.func 75) #[] #[], .func (.func 76) #[] #[], .func (.func 77) #[] #[]]) ∧ w.grownBy w' none := by
  go_enter Try.func48, Try.ntmps48
  go_wp2
  exact bodyPost_ret (v := .agg #[.nilFunc, .func (.func 73) #[] #[], .func (.func 74) #[] #[], .func (.func 75) #[] #[], .func (.func 76) #[] #[], .func (.func 77) #[] #[]]) (by simp [results, Try.results48, go_sem]) rfl ⟨rfl, World.grownBy_alloc _ _ _⟩

theorem round1_any (q : Int) (r d : Nat) (w : World) :
    Calls Try.prog 73 #[.int .i64 q, .int .u64 r, .int .u64 d] w fun e w' => e = .returned (.bool (upB 1 q r d)) ∧ w = w' := by
  go_enter Try.func73, Try.ntmps73
  go_wp2
  go_ret
  exact ⟨rfl, rfl⟩
theorem round2_any (q : Int) (r d : Nat) (w : World) :
    Calls Try.prog 74 #[.int .i64 q, .int .u64 r, .int .u64 d] w fun e w' => e = .returned (.bool (upB 2 q r d)) ∧ w = w' := by
  go_enter Try.func74, Try.ntmps74
  go_wp2
  go_ret
  exact ⟨ret_bool (by simp [upB]), rfl⟩
theorem round3_any (q : Int) (r d : Nat) (w : World) :
    Calls Try.prog 75 #[.int .i64 q, .int .u64 r, .int .u64 d] w fun e w' => e = .returned (.bool (upB 3 q r d)) ∧ w = w' := by
  go_enter Try.func75, Try.ntmps75
  go_wp2
  all_goals go_ret
  all_goals exact ⟨ret_bool (by simp [upB, *]), rfl⟩
theorem round4_any (q : Int) (r d : Nat) (hr : (r : Int) ≤ (d : Int)) (hd : (d : Int) ≤ 9223372036854775807) (w : World) :
    Calls Try.prog 76 #[.int .i64 q, .int .u64 r, .int .u64 d] w fun e w' => e = .returned (.bool (upB 4 q r d)) ∧ w = w' := by
  go_enter Try.func76, Try.ntmps76
  go_wp2
  go_ret
  exact ⟨ret_bool (by simp [upB]), rfl⟩
theorem tmod2 (q : Int) : (q.tmod 2 != 0) = decide (q % 2 = 1) := by
  rw [Bool.eq_iff_iff, bne_iff_ne, Ne, ← Int.dvd_iff_tmod_eq_zero, decide_eq_true_iff]; omega
set_option maxHeartbeats 400000 in
theorem round5_any (q : Int) (r d : Nat) (hr : (r : Int) ≤ (d : Int)) (hd : (d : Int) ≤ 9223372036854775807) (w : World) :
    Calls Try.prog 77 #[.int .i64 q, .int .u64 r, .int .u64 d] w fun e w' => e = .returned (.bool (upB 5 q r d)) ∧ w = w' := by
  by_cases h1 : (d : Int) - (r : Int) < (r : Int)
  · go_enter Try.func77, Try.ntmps77
    go_wp2
    go_ret
    exact ⟨ret_bool (by simp [upB, h1]), rfl⟩
  · by_cases h2 : (r : Int) = (d : Int) - (r : Int)
    · have h3 : ((r : Int) == (d : Int) - (r : Int)) = true := by simpa using h2
      have H2 := Lib.hid h2; clear h2
      go_enter Try.func77, Try.ntmps77
      go_wp2
      go_ret
      exact ⟨ret_bool (by rw [tmod2]; simp [upB, ← H2.out]), rfl⟩
    · have h3 : ((r : Int) == (d : Int) - (r : Int)) = false := by simpa using h2
      have H2 := Lib.hid h2; clear h2
      go_enter Try.func77, Try.ntmps77
      go_wp2
      go_ret
      exact ⟨ret_bool (by have := H2.out; simp [upB, h1, this]), rfl⟩

theorem round1_is (q : Int) (r d : Nat) (w : World) {b : Bool} (h : Hid (upB 1 q r d = b)) :
    Calls Try.prog 73 #[.int .i64 q, .int .u64 r, .int .u64 d] w fun e w' => e = .returned (.bool b) ∧ w = w' := by
  have := round1_any q r d w
  rw [h.out] at this; exact this
theorem round2_is (q : Int) (r d : Nat) (w : World) {b : Bool} (h : Hid (upB 2 q r d = b)) :
    Calls Try.prog 74 #[.int .i64 q, .int .u64 r, .int .u64 d] w fun e w' => e = .returned (.bool b) ∧ w = w' := by
  have := round2_any q r d w
  rw [h.out] at this; exact this
theorem round3_is (q : Int) (r d : Nat) (w : World) {b : Bool} (h : Hid (upB 3 q r d = b)) :
    Calls Try.prog 75 #[.int .i64 q, .int .u64 r, .int .u64 d] w fun e w' => e = .returned (.bool b) ∧ w = w' := by
  have := round3_any q r d w
  rw [h.out] at this; exact this
theorem round4_is (q : Int) (r d : Nat) (hr : (r : Int) ≤ (d : Int)) (hd : (d : Int) ≤ 9223372036854775807) (w : World) {b : Bool} (h : Hid (upB 4 q r d = b)) :
    Calls Try.prog 76 #[.int .i64 q, .int .u64 r, .int .u64 d] w fun e w' => e = .returned (.bool b) ∧ w = w' := by
  have := round4_any q r d hr hd w
  rw [h.out] at this; exact this
theorem round5_is (q : Int) (r d : Nat) (hr : (r : Int) ≤ (d : Int)) (hd : (d : Int) ≤ 9223372036854775807) (w : World) {b : Bool} (h : Hid (upB 5 q r d = b)) :
    Calls Try.prog 77 #[.int .i64 q, .int .u64 r, .int .u64 d] w fun e w' => e = .returned (.bool b) ∧ w = w' := by
  have := round5_any q r d hr hd w
  rw [h.out] at this; exact this
theorem pick1 (w : World) : (Instr.index 99 (.agg #[.nilFunc, .func (.func 73) #[] #[], .func (.func 74) #[] #[], .func (.func 75) #[] #[], .func (.func 76) #[] #[], .func (.func 77) #[] #[]]) (.int .i64 1)).run Try.prog w = .ok (.func (.func 73) #[] #[]) w := by kernel_rfl
theorem pick2 (w : World) : (Instr.index 99 (.agg #[.nilFunc, .func (.func 73) #[] #[], .func (.func 74) #[] #[], .func (.func 75) #[] #[], .func (.func 76) #[] #[], .func (.func 77) #[] #[]]) (.int .i64 2)).run Try.prog w = .ok (.func (.func 74) #[] #[]) w := by kernel_rfl
theorem pick3 (w : World) : (Instr.index 99 (.agg #[.nilFunc, .func (.func 73) #[] #[], .func (.func 74) #[] #[], .func (.func 75) #[] #[], .func (.func 76) #[] #[], .func (.func 77) #[] #[]]) (.int .i64 3)).run Try.prog w = .ok (.func (.func 75) #[] #[]) w := by kernel_rfl
theorem pick4 (w : World) : (Instr.index 99 (.agg #[.nilFunc, .func (.func 73) #[] #[], .func (.func 74) #[] #[], .func (.func 75) #[] #[], .func (.func 76) #[] #[], .func (.func 77) #[] #[]]) (.int .i64 4)).run Try.prog w = .ok (.func (.func 76) #[] #[]) w := by kernel_rfl
theorem pick5 (w : World) : (Instr.index 99 (.agg #[.nilFunc, .func (.func 73) #[] #[], .func (.func 74) #[] #[], .func (.func 75) #[] #[], .func (.func 76) #[] #[], .func (.func 77) #[] #[]]) (.int .i64 5)).run Try.prog w = .ok (.func (.func 77) #[] #[]) w := by kernel_rfl

theorem big_is (a : Int) (num den : Nat) : TooBig a.natAbs num den ↔ big < ((a.natAbs : Int) * (num : Int)) / (den : Int) := by
  unfold TooBig big
  rw [← Int.natCast_mul, ← Int.natCast_ediv]; omega

theorem rnd_bd (a : Int) (num den : Nat) (hd : 1 ≤ den) (hb : ¬ TooBig a.natAbs num den) : -4611686018427387905 ≤ a * num / den ∧ a * num / den ≤ 4611686018427387904 := by
  rw [big_is] at hb
  unfold big at hb
  rcases (show a < 0 ∨ 0 ≤ a by omega) with ha | ha
  · have en : (a.natAbs : Int) = -a := by omega
    have e : a * num = -((a.natAbs : Int) * num) := by rw [en, Int.neg_mul, Int.neg_neg]
    have hN : 0 ≤ (a.natAbs : Int) * num := Int.mul_nonneg (by omega) (by omega)
    rw [e]
    generalize (a.natAbs : Int) * num = N at *
    have hq : 0 ≤ N / den := Int.ediv_nonneg hN (by omega)
    by_cases hz : N % den = 0
    · rw [(neg_div_of N den (by omega) hz).1]; omega
    · rw [(neg_div_of' N den (by omega) hz).1]; omega
  · have e : (a.natAbs : Int) = a := by omega
    have hN : 0 ≤ a * num := Int.mul_nonneg (by omega) (by omega)
    rw [e] at hb
    have hq : 0 ≤ a * num / den := Int.ediv_nonneg hN (by omega)
    omega

set_option maxHeartbeats 1600000 in
theorem scale_any (a num den how : Int) (ha0 : -9223372036854775808 ≤ a) (ha1 : a ≤ 9223372036854775807) (hn0 : -9223372036854775808 ≤ num) (hn1 : num ≤ 9223372036854775807) (hd0 : -9223372036854775808 ≤ den) (hd1 : den ≤ 9223372036854775807) (w : World) :
    Calls Try.prog 31 #[.int .i64 a, .int .i64 num, .int .i64 den, .int .i64 how] w fun e w' => e = .returned (.tuple #[.int .i64 (scaleV a num den how).1, .int .i64 (scaleV a num den how).2]) ∧ w.grownBy w' none := by
  by_cases hk : how < 1
  · have hv : scaleV a num den how = (0, 7) := by unfold scaleV; rw [if_pos (.inl hk)]
    have HV := Lib.hid hv; clear hv
    go_enter Try.func31, Try.ntmps31
    go_wp2
    go_ret2
    exact ⟨ret_ii (by rw [HV.out]) (by rw [HV.out]), grown_refl _ _⟩
  by_cases hk5 : 5 < how
  · have hv : scaleV a num den how = (0, 7) := by unfold scaleV; rw [if_pos (.inr hk5)]
    have HV := Lib.hid hv; clear hv
    go_enter Try.func31, Try.ntmps31
    go_wp2
    go_ret2
    exact ⟨ret_ii (by rw [HV.out]) (by rw [HV.out]), grown_refl _ _⟩
  by_cases hdn : den ≤ 0
  · have hv : scaleV a num den how = (0, 1) := by unfold scaleV; rw [if_neg (by omega), if_pos (.inl (by omega))]
    have HV := Lib.hid hv; clear hv
    go_enter Try.func31, Try.ntmps31
    go_wp2
    go_ret2
    exact ⟨ret_ii (by rw [HV.out]) (by rw [HV.out]), grown_refl _ _⟩
  by_cases hnn : num < 0
  · have hv : scaleV a num den how = (0, 1) := by unfold scaleV; rw [if_neg (by omega), if_pos (.inr (by omega))]
    have HV := Lib.hid hv; clear hv
    go_enter Try.func31, Try.ntmps31
    go_wp2
    go_ret2
    exact ⟨ret_ii (by rw [HV.out]) (by rw [HV.out]), grown_refl _ _⟩
  obtain ⟨n, rfl⟩ : ∃ n : Nat, (n : Int) = num := ⟨num.toNat, by omega⟩
  obtain ⟨d, rfl⟩ : ∃ n : Nat, (n : Int) = den := ⟨den.toNat, by omega⟩
  by_cases hbig : TooBig a.natAbs n d
  · have hv : scaleV a n d how = (0, 9) := scale_no a n d how (by omega) (by omega) (by omega) (by omega) ((big_is a n d).1 hbig)
    have HV := Lib.hid hv; clear hv
    have HB := Lib.hid hbig; clear hbig
    go_enter Try.func31, Try.ntmps31
    go_wp2_with (go_at_call 47; refine (quot_no a n d ha0 ha1 (by omega) (by omega) (by omega) HB.out _).mono ?_; rintro e w1 ⟨rfl, hg⟩)
    go_ret2
    exact ⟨ret_ii (by rw [HV.out]) (by rw [HV.out]), by assumption⟩
  have hqb := rnd_bd a n d (by omega) hbig
  obtain ⟨q, hq⟩ : ∃ q, a * n / d = q := ⟨_, rfl⟩
  obtain ⟨r, hr⟩ : ∃ r : Nat, a * n % d = (r : Int) := ⟨(a * n % d).toNat, by have := Int.emod_nonneg (a * n) (show (d : Int) ≠ 0 by omega); omega⟩
  have hrd : (r : Int) < (d : Int) := by rw [← hr]; exact Int.emod_lt_of_pos _ (by omega)
  have hquot := quot_yes a n d ha0 ha1 (by omega) (by omega) (by omega) hbig
  rw [hq] at hqb
  rw [hq, hr] at hquot
  have HQ := Lib.hid hquot; clear hquot hbig
  have i1 := pick1
  have i2 := pick2
  have i3 := pick3
  have i4 := pick4
  have i5 := pick5
  have h15 : how = 1 ∨ how = 2 ∨ how = 3 ∨ how = 4 ∨ how = 5 := by omega
  rcases hu : upB how q r d with _ | _
  · have hv : scaleV a n d how = if q < -big ∨ big < q then (0, 9) else (q, 0) := by
      unfold scaleV rndV; rw [if_neg (by omega), if_neg (by omega), hq, hr, hu]; simp
    have HU := Lib.hid hu; clear hu hq hr
    by_cases hc : q < -4611686018427387904
    · rw [if_pos (by unfold big; omega)] at hv
      have HV := Lib.hid hv; clear hv
      rcases h15 with rfl | rfl | rfl | rfl | rfl
      all_goals
        go_enter Try.func31, Try.ntmps31
        go_wp2_with (first | (go_at_call 47; refine (HQ.out _).mono ?_; rintro e w1 ⟨rfl, hg1⟩) | (go_at_call 48; refine (roundings_any _).mono ?_; rintro e w2 ⟨rfl, hg2⟩) | (go_at_call 73; refine (round1_is q r d _ HU).mono ?_; rintro e w3 ⟨rfl, rfl⟩) | (go_at_call 74; refine (round2_is q r d _ HU).mono ?_; rintro e w3 ⟨rfl, rfl⟩) | (go_at_call 75; refine (round3_is q r d _ HU).mono ?_; rintro e w3 ⟨rfl, rfl⟩) | (go_at_call 76; refine (round4_is q r d (by omega) (by omega) _ HU).mono ?_; rintro e w3 ⟨rfl, rfl⟩) | (go_at_call 77; refine (round5_is q r d (by omega) (by omega) _ HU).mono ?_; rintro e w3 ⟨rfl, rfl⟩))
        all_goals
          go_ret2
          exact ⟨ret_ii (by rw [HV.out]) (by rw [HV.out]), grown_trans (by assumption) (by assumption)⟩
    · rw [if_neg (by unfold big; omega)] at hv
      have HV := Lib.hid hv; clear hv
      rcases h15 with rfl | rfl | rfl | rfl | rfl
      all_goals
        go_enter Try.func31, Try.ntmps31
        go_wp2_with (first | (go_at_call 47; refine (HQ.out _).mono ?_; rintro e w1 ⟨rfl, hg1⟩) | (go_at_call 48; refine (roundings_any _).mono ?_; rintro e w2 ⟨rfl, hg2⟩) | (go_at_call 73; refine (round1_is q r d _ HU).mono ?_; rintro e w3 ⟨rfl, rfl⟩) | (go_at_call 74; refine (round2_is q r d _ HU).mono ?_; rintro e w3 ⟨rfl, rfl⟩) | (go_at_call 75; refine (round3_is q r d _ HU).mono ?_; rintro e w3 ⟨rfl, rfl⟩) | (go_at_call 76; refine (round4_is q r d (by omega) (by omega) _ HU).mono ?_; rintro e w3 ⟨rfl, rfl⟩) | (go_at_call 77; refine (round5_is q r d (by omega) (by omega) _ HU).mono ?_; rintro e w3 ⟨rfl, rfl⟩))
        all_goals
          go_ret2
          exact ⟨ret_ii (by rw [HV.out]) (by rw [HV.out]), grown_trans (by assumption) (by assumption)⟩
  · have hv : scaleV a n d how = if q + 1 < -big ∨ big < q + 1 then (0, 9) else (q + 1, 0) := by
      unfold scaleV rndV; rw [if_neg (by omega), if_neg (by omega), hq, hr, hu]; simp
    have HU := Lib.hid hu; clear hu hq hr
    by_cases hc : 4611686018427387904 < q + 1
    · rw [if_pos (by unfold big; omega)] at hv
      have HV := Lib.hid hv; clear hv
      rcases h15 with rfl | rfl | rfl | rfl | rfl
      all_goals
        go_enter Try.func31, Try.ntmps31
        go_wp2_with (first | (go_at_call 47; refine (HQ.out _).mono ?_; rintro e w1 ⟨rfl, hg1⟩) | (go_at_call 48; refine (roundings_any _).mono ?_; rintro e w2 ⟨rfl, hg2⟩) | (go_at_call 73; refine (round1_is q r d _ HU).mono ?_; rintro e w3 ⟨rfl, rfl⟩) | (go_at_call 74; refine (round2_is q r d _ HU).mono ?_; rintro e w3 ⟨rfl, rfl⟩) | (go_at_call 75; refine (round3_is q r d _ HU).mono ?_; rintro e w3 ⟨rfl, rfl⟩) | (go_at_call 76; refine (round4_is q r d (by omega) (by omega) _ HU).mono ?_; rintro e w3 ⟨rfl, rfl⟩) | (go_at_call 77; refine (round5_is q r d (by omega) (by omega) _ HU).mono ?_; rintro e w3 ⟨rfl, rfl⟩))
        all_goals
          go_ret2
          exact ⟨ret_ii (by rw [HV.out]) (by rw [HV.out]), grown_trans (by assumption) (by assumption)⟩
    · rw [if_neg (by unfold big; omega)] at hv
      have HV := Lib.hid hv; clear hv
      rcases h15 with rfl | rfl | rfl | rfl | rfl
      all_goals
        go_enter Try.func31, Try.ntmps31
        go_wp2_with (first | (go_at_call 47; refine (HQ.out _).mono ?_; rintro e w1 ⟨rfl, hg1⟩) | (go_at_call 48; refine (roundings_any _).mono ?_; rintro e w2 ⟨rfl, hg2⟩) | (go_at_call 73; refine (round1_is q r d _ HU).mono ?_; rintro e w3 ⟨rfl, rfl⟩) | (go_at_call 74; refine (round2_is q r d _ HU).mono ?_; rintro e w3 ⟨rfl, rfl⟩) | (go_at_call 75; refine (round3_is q r d _ HU).mono ?_; rintro e w3 ⟨rfl, rfl⟩) | (go_at_call 76; refine (round4_is q r d (by omega) (by omega) _ HU).mono ?_; rintro e w3 ⟨rfl, rfl⟩) | (go_at_call 77; refine (round5_is q r d (by omega) (by omega) _ HU).mono ?_; rintro e w3 ⟨rfl, rfl⟩))
        all_goals
          go_ret2
          exact ⟨ret_ii (by rw [HV.out]) (by rw [HV.out]), grown_trans (by assumption) (by assumption)⟩
end Go.Proofs.Ytblaplnpehnjfab
namespace Go.Proofs.Ytblaplnpehnjfab
open Go.RowKit

theorem scale_is {a num den how n e : Int} (h : scaleV a num den how = (n, e)) (ha0 : -9223372036854775808 ≤ a) (ha1 : a ≤ 9223372036854775807) (hn0 : -9223372036854775808 ≤ num) (hn1 : num ≤ 9223372036854775807) (hd0 : -9223372036854775808 ≤ den) (hd1 : den ≤ 9223372036854775807) (w : World) :
    Calls Try.prog 31 #[.int .i64 a, .int .i64 num, .int .i64 den, .int .i64 how] w fun x w' => x = .returned (.tuple #[.int .i64 n, .int .i64 e]) ∧ w.grownBy w' none := by
  have q := scale_any a num den how ha0 ha1 hn0 hn1 hd0 hd1 w
  rw [h] at q; exact q
theorem told_dur (w : World) : Calls Try.prog 32 #[.string ⟨#[49, 104, 53, 115]⟩] w fun x w' => x = .returned (.tuple #[.int .i64 3605, .int .i64 0, .int .i64 0]) ∧ w.grownBy w' none := by
  have q := readDuration_any ⟨#[49, 104, 53, 115]⟩ (by decide) w
  have h : rem ⟨#[49, 104, 53, 115]⟩ 0 = [49, 104, 53, 115] := by decide +kernel
  rw [h, dur_told] at q; exact q
theorem told_any (w : World) : Calls Try.prog 15 #[] w fun x w' => x = .returned (.bool true) ∧ w.grownBy w' none := by
  go_enter Try.func15, Try.ntmps15
  go_wp2_with (first | (go_at_call 31; refine (scale_is (n := -4) (e := 0) (by decide +kernel) (by omega) (by omega) (by omega) (by omega) (by omega) (by omega) _).mono ?_; rintro e w1 ⟨rfl, hg1⟩) | (go_at_call 32; refine (told_dur _).mono ?_; rintro e w2 ⟨rfl, hg2⟩))
  go_ret
  exact ⟨rfl, grown_trans (by assumption) (by assumption)⟩
end Go.Proofs.Ytblaplnpehnjfab
/- The mathematics of the stable sort: swaps, rotations, and merges of neighbouring runs, said of functions of places. No program. -/
namespace Go.Proofs.Ytblaplnpehnjfab

/-- Two places swapped. -/
def swp (f : Nat → Nat) (i j : Nat) : Nat → Nat := fun k => if k = i then f j else if k = j then f i else f k
/-- Two ranges of n places swapped. -/
def swr (f : Nat → Nat) (a b n : Nat) : Nat → Nat := fun k => if a ≤ k ∧ k < a + n then f (k - a + b) else if b ≤ k ∧ k < b + n then f (k - b + a) else f k
/-- The places from m to b come ahead of those from a to m. -/
def rot (f : Nat → Nat) (a m b : Nat) : Nat → Nat := fun k => if a ≤ k ∧ k < a + (b - m) then f (k + (m - a)) else if a + (b - m) ≤ k ∧ k < b then f (k - (b - m)) else f k

theorem swr_zero (f : Nat → Nat) (a b : Nat) : swr f a b 0 = f := by
  funext k; unfold swr; rw [if_neg (by omega), if_neg (by omega)]
theorem swr_succ (f : Nat → Nat) (a b n : Nat) (h : a + n < b) : swp (swr f a b n) (a + n) (b + n) = swr f a b (n + 1) := by
  funext k; unfold swp swr
  repeat' split
  all_goals first | rfl | omega | (congr 1; omega)

theorem rot_left (f : Nat → Nat) (a b : Nat) : rot f a a b = f := by
  funext k; unfold rot
  repeat' split
  all_goals first | rfl | omega | (congr 1; omega)
theorem rot_right (f : Nat → Nat) (a b : Nat) : rot f a b b = f := by
  funext k; unfold rot
  repeat' split
  all_goals first | rfl | omega | (congr 1; omega)
theorem rot_gt (f : Nat → Nat) (m i j : Nat) (h1 : i ≤ m) (h2 : j < i) : rot f (m - i) m (m + j) = rot (swr f (m - i) m j) (m - (i - j)) m (m + j) := by
  funext k; unfold rot swr
  repeat' split
  all_goals first | rfl | omega | (congr 1; omega)
theorem rot_lt (f : Nat → Nat) (m i j : Nat) (h1 : i ≤ m) (h2 : i < j) : rot f (m - i) m (m + j) = rot (swr f (m - i) (m + j - i) i) (m - i) m (m + (j - i)) := by
  funext k; unfold rot swr
  repeat' split
  all_goals first | rfl | omega | (congr 1; omega)
theorem rot_eq (f : Nat → Nat) (m i : Nat) (h1 : i ≤ m) : rot f (m - i) m (m + i) = swr f (m - i) m i := by
  funext k; unfold rot swr
  repeat' split
  all_goals first | rfl | omega | (congr 1; omega)
theorem rot_up (f : Nat → Nat) (a k : Nat) (h : a ≤ k) : swp (rot f a (a + 1) (k + 1)) k (k + 1) = rot f a (a + 1) (k + 2) := by
  funext x; unfold swp rot
  repeat' split
  all_goals first | rfl | omega | (congr 1; omega)
theorem rot_down (f : Nat → Nat) (k m : Nat) (h : k < m) : swp (rot f (k + 1) m (m + 1)) (k + 1) k = rot f k m (m + 1) := by
  funext x; unfold swp rot
  repeat' split
  all_goals first | rfl | omega | (congr 1; omega)

/-- Greater keys first, of equal ones the smaller number. -/
def Bef (key : Nat → Int) (x y : Nat) : Prop := key y < key x ∨ (key x = key y ∧ x < y)

theorem Bef.trans {key : Nat → Int} {x y z : Nat} (h : Bef key x y) (h' : Bef key y z) : Bef key x z := by
  unfold Bef at *; omega
theorem bef_iff {key : Nat → Int} {x y : Nat} (h : x < y) : Bef key y x ↔ key x < key y := by unfold Bef; omega
theorem bef_not {key : Nat → Int} {x y : Nat} (h : x < y) : Bef key x y ↔ ¬ key x < key y := by unfold Bef; omega

def Srt (key : Nat → Int) (f : Nat → Nat) (a b : Nat) : Prop := ∀ i j, a ≤ i → i < j → j < b → Bef key (f i) (f j)

/-- g holds in [a, b) what f held there, each once, and elsewhere what f holds. -/
structure Mv (a b : Nat) (f g : Nat → Nat) : Prop where
  out : ∀ k, (k < a ∨ b ≤ k) → g k = f k
  into : ∀ k, a ≤ k → k < b → ∃ k', a ≤ k' ∧ k' < b ∧ g k = f k'
  inj : (∀ i j, f i = f j → i = j) → ∀ i j, g i = g j → i = j

theorem Mv.refl (a b : Nat) (f : Nat → Nat) : Mv a b f f := ⟨fun _ _ => rfl, fun k h1 h2 => ⟨k, h1, h2, rfl⟩, fun h => h⟩
theorem Mv.trans {a b : Nat} {f g h : Nat → Nat} (h1 : Mv a b f g) (h2 : Mv a b g h) : Mv a b f h := by
  refine ⟨fun k hk => (h2.out k hk).trans (h1.out k hk), fun k l u => ?_, fun hi => h2.inj (h1.inj hi)⟩
  obtain ⟨k1, l1, u1, e1⟩ := h2.into k l u
  obtain ⟨k2, l2, u2, e2⟩ := h1.into k1 l1 u1
  exact ⟨k2, l2, u2, e1.trans e2⟩
theorem Mv.mono {a b a' b' : Nat} {f g : Nat → Nat} (h : Mv a b f g) (h1 : a' ≤ a) (h2 : b ≤ b') : Mv a' b' f g := by
  refine ⟨fun k hk => h.out k (by omega), fun k l u => ?_, h.inj⟩
  by_cases hk : a ≤ k ∧ k < b
  · obtain ⟨k1, l1, u1, e1⟩ := h.into k hk.1 hk.2
    exact ⟨k1, by omega, by omega, e1⟩
  · exact ⟨k, l, u, h.out k (by omega)⟩
theorem Mv.rot (f : Nat → Nat) (a m b : Nat) (h1 : a ≤ m) (h2 : m ≤ b) : Mv a b f (rot f a m b) := by
  refine ⟨fun k hk => ?_, fun k l u => ?_, fun hi i j h => ?_⟩
  · unfold Go.Proofs.Ytblaplnpehnjfab.rot; rw [if_neg (by omega), if_neg (by omega)]
  · unfold Go.Proofs.Ytblaplnpehnjfab.rot
    by_cases hk : k < a + (b - m)
    · rw [if_pos ⟨l, hk⟩]; exact ⟨_, by omega, by omega, rfl⟩
    · rw [if_neg (by omega), if_pos (by omega)]; exact ⟨_, by omega, by omega, rfl⟩
  · unfold Go.Proofs.Ytblaplnpehnjfab.rot at h
    by_cases c1 : a ≤ i ∧ i < a + (b - m)
    · rw [if_pos c1] at h
      by_cases d1 : a ≤ j ∧ j < a + (b - m)
      · rw [if_pos d1] at h; have := hi _ _ h; omega
      · rw [if_neg d1] at h
        by_cases d2 : a + (b - m) ≤ j ∧ j < b
        · rw [if_pos d2] at h; have := hi _ _ h; omega
        · rw [if_neg d2] at h; have := hi _ _ h; omega
    · rw [if_neg c1] at h
      by_cases c2 : a + (b - m) ≤ i ∧ i < b
      · rw [if_pos c2] at h
        by_cases d1 : a ≤ j ∧ j < a + (b - m)
        · rw [if_pos d1] at h; have := hi _ _ h; omega
        · rw [if_neg d1] at h
          by_cases d2 : a + (b - m) ≤ j ∧ j < b
          · rw [if_pos d2] at h; have := hi _ _ h; omega
          · rw [if_neg d2] at h; have := hi _ _ h; omega
      · rw [if_neg c2] at h
        by_cases d1 : a ≤ j ∧ j < a + (b - m)
        · rw [if_pos d1] at h; have := hi _ _ h; omega
        · rw [if_neg d1] at h
          by_cases d2 : a + (b - m) ≤ j ∧ j < b
          · rw [if_pos d2] at h; have := hi _ _ h; omega
          · rw [if_neg d2] at h; exact hi _ _ h

theorem rot_lo {f : Nat → Nat} {a m b k : Nat} (h : k < a) (_ : a ≤ m) (_ : m ≤ b) : rot f a m b k = f k := by
  unfold rot; rw [if_neg (by omega), if_neg (by omega)]
theorem rot_1 {f : Nat → Nat} {a m b k : Nat} (h : a ≤ k) (h' : k < a + (b - m)) : rot f a m b k = f (k + (m - a)) := by
  unfold rot; rw [if_pos ⟨h, h'⟩]
theorem rot_2 {f : Nat → Nat} {a m b k : Nat} (h : a + (b - m) ≤ k) (h' : k < b) : rot f a m b k = f (k - (b - m)) := by
  unfold rot; rw [if_neg (by omega), if_pos ⟨h, h'⟩]
theorem rot_hi {f : Nat → Nat} {a m b k : Nat} (h : b ≤ k) (_ : a ≤ m) (_ : m ≤ b) : rot f a m b k = f k := by
  unfold rot; rw [if_neg (by omega), if_neg (by omega)]

/-- Runs that are to be merged: both in order, and each number on the left is smaller than each on the right. -/
structure Runs (key : Nat → Int) (f : Nat → Nat) (a m b : Nat) : Prop where
  am : a ≤ m
  mb : m ≤ b
  left : Srt key f a m
  right : Srt key f m b
  cross : ∀ i j, a ≤ i → i < m → m ≤ j → j < b → f i < f j

theorem Srt.le {key : Nat → Int} {f : Nat → Nat} {a b i j : Nat} (h : Srt key f a b) (h1 : a ≤ i) (h2 : i ≤ j) (h3 : j < b) {z : Nat} (hz : Bef key (f j) z) : Bef key (f i) z := by
  rcases Nat.lt_or_ge i j with h | h'
  · exact (h_1 h).trans hz
  · rw [show i = j by omega]; exact hz
where h_1 (q : i < j) := h i j h1 q h3
theorem Srt.ge {key : Nat → Int} {f : Nat → Nat} {a b i j : Nat} (h : Srt key f a b) (h1 : a ≤ i) (h2 : i ≤ j) (h3 : j < b) {z : Nat} (hz : Bef key z (f i)) : Bef key z (f j) := by
  rcases Nat.lt_or_ge i j with h | h'
  · exact hz.trans (h_1 h)
  · rw [show j = i by omega]; exact hz
where h_1 (q : i < j) := h i j h1 q h3

/-- One on the left: it moves to its place. -/
theorem merge_left {key : Nat → Int} {f : Nat → Nat} {a b i : Nat} (h : Runs key f a (a + 1) b) (h1 : a + 1 ≤ i) (h2 : i ≤ b)
    (hl : i = a + 1 ∨ Bef key (f (i - 1)) (f a)) (hr : i = b ∨ Bef key (f a) (f i)) : Srt key (rot f a (a + 1) i) a b := by
  intro x y hx hxy hy
  have e1 : ∀ k, a ≤ k → k < i - 1 → rot f a (a + 1) i k = f (k + 1) := fun k q1 q2 => by rw [rot_1 q1 (by omega)]; congr 1; omega
  have e2 : rot f a (a + 1) i (i - 1) = f a := by rw [rot_2 (by omega) (by omega)]; congr 1; omega
  have e3 : ∀ k, i ≤ k → rot f a (a + 1) i k = f k := fun k q => rot_hi q (by omega) (by omega)
  rcases (show x < i - 1 ∨ x = i - 1 ∨ i ≤ x by omega) with c | c | c
  · rw [e1 x hx c]
    have hxa : Bef key (f (x + 1)) (f a) := by
      rcases hl with q | q
      · omega
      · exact h.right.le (by omega) (by omega) (by omega) q
    rcases (show y < i - 1 ∨ y = i - 1 ∨ i ≤ y by omega) with d | d | d
    · rw [e1 y (by omega) d]; exact h.right _ _ (by omega) (by omega) (by omega)
    · rw [d, e2]; exact hxa
    · rw [e3 y d]; exact h.right _ _ (by omega) (by omega) (by omega)
  · rw [c, e2, e3 y (by omega)]
    rcases hr with q | q
    · omega
    · exact h.right.ge (by omega) (by omega) (by omega) q
  · rw [e3 x c, e3 y (by omega)]; exact h.right _ _ (by omega) (by omega) (by omega)

/-- One on the right: it moves to its place. -/
theorem merge_right {key : Nat → Int} {f : Nat → Nat} {a m i : Nat} (h : Runs key f a m (m + 1)) (h1 : a ≤ i) (h2 : i ≤ m)
    (hl : i = a ∨ Bef key (f (i - 1)) (f m)) (hr : i = m ∨ Bef key (f m) (f i)) : Srt key (rot f i m (m + 1)) a (m + 1) := by
  intro x y hx hxy hy
  have e0 : ∀ k, k < i → rot f i m (m + 1) k = f k := fun k q => rot_lo q (by omega) (by omega)
  have e1 : rot f i m (m + 1) i = f m := by rw [rot_1 (by omega) (by omega)]; congr 1; omega
  have e2 : ∀ k, i < k → k < m + 1 → rot f i m (m + 1) k = f (k - 1) := fun k q1 q2 => by rw [rot_2 (by omega) q2]; congr 1; omega
  rcases (show x < i ∨ x = i ∨ i < x by omega) with c | c | c
  · rw [e0 x c]
    have hxa : Bef key (f x) (f m) := by
      rcases hl with q | q
      · omega
      · exact h.left.le (by omega) (by omega) (by omega) q
    rcases (show y < i ∨ y = i ∨ i < y by omega) with d | d | d
    · rw [e0 y d]; exact h.left _ _ (by omega) (by omega) (by omega)
    · rw [d, e1]; exact hxa
    · rw [e2 y d hy]; exact h.left _ _ (by omega) (by omega) (by omega)
  · rw [c, e1, e2 y (by omega) hy]
    rcases hr with q | q
    · omega
    · exact h.left.ge (by omega) (by omega) (by omega) q
  · rw [e2 x c (by omega), e2 y (by omega) hy]; exact h.left _ _ (by omega) (by omega) (by omega)

/-- What the search of symMerge finds. -/
structure Found (key : Nat → Int) (f : Nat → Nat) (a m b start : Nat) : Prop where
  lo : a ≤ start
  lm : start ≤ m
  mid : start ≤ (a + b) / 2
  hi : (a + b) / 2 + m ≤ start + b
  below : start = a ∨ start + b = (a + b) / 2 + m ∨ Bef key (f (start - 1)) (f ((a + b) / 2 + m - start))
  above : start = m ∨ start = (a + b) / 2 ∨ Bef key (f ((a + b) / 2 + m - 1 - start)) (f start)

section
variable {key : Nat → Int} {f : Nat → Nat} {a m b s : Nat}

theorem half_low (h : Runs key f a m b) (hf : Found key f a m b s) : Runs key (rot f s m ((a + b) / 2 + m - s)) a s ((a + b) / 2) := by
  have := hf.lo; have := hf.lm; have := hf.mid; have := hf.hi; have := h.am; have := h.mb
  refine ⟨by omega, by omega, fun i j h1 h2 h3 => ?_, fun i j h1 h2 h3 => ?_, fun i j h1 h2 h3 h4 => ?_⟩
  · rw [rot_lo (by omega) (by omega) (by omega), rot_lo (by omega) (by omega) (by omega)]; exact h.left _ _ (by omega) (by omega) (by omega)
  · rw [rot_1 (by omega) (by omega), rot_1 (by omega) (by omega)]; exact h.right _ _ (by omega) (by omega) (by omega)
  · rw [rot_lo (by omega) (by omega) (by omega), rot_1 (by omega) (by omega)]; exact h.cross _ _ (by omega) (by omega) (by omega) (by omega)
theorem half_high (h : Runs key f a m b) (hf : Found key f a m b s) : Runs key (rot f s m ((a + b) / 2 + m - s)) ((a + b) / 2) ((a + b) / 2 + m - s) b := by
  have := hf.lo; have := hf.lm; have := hf.mid; have := hf.hi; have := h.am; have := h.mb
  refine ⟨by omega, by omega, fun i j h1 h2 h3 => ?_, fun i j h1 h2 h3 => ?_, fun i j h1 h2 h3 h4 => ?_⟩
  · rw [rot_2 (by omega) (by omega), rot_2 (by omega) (by omega)]; exact h.left _ _ (by omega) (by omega) (by omega)
  · rw [rot_hi (by omega) (by omega) (by omega), rot_hi (by omega) (by omega) (by omega)]; exact h.right _ _ (by omega) (by omega) (by omega)
  · rw [rot_2 (by omega) (by omega), rot_hi (by omega) (by omega) (by omega)]; exact h.cross _ _ (by omega) (by omega) (by omega) (by omega)
theorem halves (h : Runs key f a m b) (hf : Found key f a m b s) {i j : Nat} (h1 : a ≤ i) (h2 : i < (a + b) / 2) (h3 : (a + b) / 2 ≤ j) (h4 : j < b) :
    Bef key (rot f s m ((a + b) / 2 + m - s) i) (rot f s m ((a + b) / 2 + m - s) j) := by
  have := hf.lo; have := hf.lm; have := hf.mid; have := hf.hi; have := h.am; have := h.mb
  by_cases ci : i < s
  · rw [rot_lo ci (by omega) (by omega)]
    by_cases cj : j < (a + b) / 2 + m - s
    · rw [rot_2 (by omega) cj]; exact h.left _ _ (by omega) (by omega) (by omega)
    · rw [rot_hi (by omega) (by omega) (by omega)]
      rcases hf.below with q | q | q
      · omega
      · omega
      · exact h.left.le (by omega) (show i ≤ s - 1 by omega) (by omega) (h.right.ge (by omega) (show (a + b) / 2 + m - s ≤ j by omega) (by omega) q)
  · rw [rot_1 (by omega) (by omega)]
    by_cases cj : j < (a + b) / 2 + m - s
    · rw [rot_2 (by omega) cj]
      rcases hf.above with q | q | q
      · omega
      · omega
      · exact h.right.le (by omega) (show i + (m - s) ≤ (a + b) / 2 + m - 1 - s by omega) (by omega) (h.left.ge (by omega) (show s ≤ j - ((a + b) / 2 + m - s - m) by omega) (by omega) q)
    · rw [rot_hi (by omega) (by omega) (by omega)]; exact h.right _ _ (by omega) (by omega) (by omega)
theorem Runs.sorted (h : Runs key f a m b) (hq : a = m ∨ m = b) : Srt key f a b := by
  rcases hq with rfl | rfl
  · exact h.right
  · exact h.left
end

/-- Two halves in order, all of the first ahead of all of the second. -/
theorem join_halves {key : Nat → Int} {g0 g : Nat → Nat} {a c b : Nat} (h0 : ∀ i j, a ≤ i → i < c → c ≤ j → j < b → Bef key (g0 i) (g0 j))
    {g1 : Nat → Nat} (m1 : Mv a c g0 g1) (s1 : Srt key g1 a c) (m2 : Mv c b g1 g) (s2 : Srt key g c b) : Srt key g a b := by
  intro x y hx hxy hy
  by_cases cx : x < c
  · rw [m2.out x (by omega)]
    by_cases cy : y < c
    · rw [m2.out y (by omega)]; exact s1 x y hx hxy cy
    · obtain ⟨x', p1, p2, e1⟩ := m1.into x hx cx
      obtain ⟨y', q1, q2, e2⟩ := m2.into y (by omega) hy
      rw [e1, e2, m1.out y' (by omega)]
      exact h0 _ _ p1 p2 q1 q2
  · exact s2 x y (by omega) hxy hy

/-- A block that is in order, and holds its own numbers. -/
structure Blk (key : Nat → Int) (f : Nat → Nat) (a b : Nat) : Prop where
  srt : Srt key f a b
  own : ∀ k, a ≤ k → k < b → a ≤ f k ∧ f k < b

theorem Blk.runs {key : Nat → Int} {f : Nat → Nat} {a m b : Nat} (h1 : Blk key f a m) (h2 : Blk key f m b) (ham : a ≤ m) (hmb : m ≤ b) : Runs key f a m b :=
  ⟨ham, hmb, h1.srt, h2.srt, fun i j q1 q2 q3 q4 => by have := h1.own i q1 q2; have := h2.own j q3 q4; omega⟩
theorem Blk.merged {key : Nat → Int} {f g : Nat → Nat} {a m b : Nat} (h1 : Blk key f a m) (h2 : Blk key f m b) (ham : a ≤ m) (hmb : m ≤ b) (hm : Mv a b f g) (hs : Srt key g a b) : Blk key g a b := by
  refine ⟨hs, fun k l u => ?_⟩
  obtain ⟨k', l', u', e⟩ := hm.into k l u
  rw [e]
  by_cases c : k' < m
  · have := h1.own k' l' c; omega
  · have := h2.own k' (by omega) u'; omega
theorem Blk.keep {key : Nat → Int} {f g : Nat → Nat} {a b c d : Nat} (h : Blk key f a b) (hm : Mv c d f g) (hd : b ≤ c ∨ d ≤ a) : Blk key g a b := by
  have e : ∀ k, a ≤ k → k < b → g k = f k := fun k h1 h2 => hm.out k (by omega)
  refine ⟨fun i j h1 h2 h3 => ?_, fun k h1 h2 => ?_⟩
  · rw [e i h1 (by omega), e j (by omega) h3]; exact h.srt i j h1 h2 h3
  · rw [e k h1 h2]; exact h.own k h1 h2

end Go.Proofs.Ytblaplnpehnjfab
namespace Go.Proofs.Ytblaplnpehnjfab

/-- All blocks of a size from lo on, before hi. -/
def Blks (key : Nat → Int) (f : Nat → Nat) (n size lo hi : Nat) : Prop := ∀ x, lo ≤ x → x < hi → size ∣ x → Blk key f x (min (x + size) n)

theorem dvd_gap {s x a : Nat} (hx : s ∣ x) (ha : s ∣ a) (h : x < a) : x + s ≤ a := by
  obtain ⟨p, rfl⟩ := hx
  obtain ⟨q, rfl⟩ := ha
  have hpq : p < q := Nat.lt_of_mul_lt_mul_left h
  have := Nat.mul_le_mul_left s hpq
  rw [Nat.mul_succ] at this
  exact this

/-- A block more is in order. -/
theorem Blks.more {key : Nat → Int} {f g : Nat → Nat} {n size a b : Nat} (h : Blks key f n size 0 a) (hd : size ∣ a) (hm : Mv a b f g) (hb : Blk key g a (min (a + size) n)) : Blks key g n size 0 (a + size) := by
  intro x _ hx hs
  rcases Nat.lt_or_ge x a with c | c
  · exact (h x (by omega) c hs).keep hm (.inl (by have := dvd_gap hs hd c; omega))
  · have : x = a := by
      rcases Nat.lt_or_ge a x with d | d
      · have := dvd_gap hd hs d; omega
      · omega
    rw [this]; exact hb

/-- Within a pass: up to a the blocks are twice as long. -/
structure Pass (key : Nat → Int) (f : Nat → Nat) (n size a : Nat) : Prop where
  dv : 2 * size ∣ a
  big : Blks key f n (2 * size) 0 a
  small : Blks key f n size a n
  pos : 0 < size
  an : a ≤ n + 2 * size

theorem Pass.start {key : Nat → Int} {f : Nat → Nat} {n size : Nat} (h : Blks key f n size 0 n) (hp : 0 < size) : Pass key f n size 0 :=
  ⟨Nat.dvd_zero _, fun x _ h => by omega, h, hp, by omega⟩
theorem Pass.dv1 {key : Nat → Int} {f : Nat → Nat} {n size a : Nat} (h : Pass key f n size a) : size ∣ a := Nat.dvd_trans (Nat.dvd_mul_left size 2) h.dv
/-- The runs that are merged next. -/
theorem Pass.runs {key : Nat → Int} {f : Nat → Nat} {n size a b : Nat} (h : Pass key f n size a) (hb : b = min (a + 2 * size) n) (hm : a + size < n) : Runs key f a (a + size) b := by
  have hp := h.pos
  have h1 := h.small a (Nat.le_refl _) (by omega) h.dv1
  have h2 := h.small (a + size) (by omega) hm (Nat.dvd_add h.dv1 (Nat.dvd_refl _))
  rw [show min (a + size) n = a + size by omega] at h1
  rw [show min (a + size + size) n = b by omega] at h2
  exact Blk.runs h1 h2 (by omega) (by omega)
theorem Pass.step {key : Nat → Int} {f g : Nat → Nat} {n size a b : Nat} (h : Pass key f n size a) (hb : b = min (a + 2 * size) n) (hm : a + size < n) (hv : Mv a b f g) (hs : Srt key g a b) : Blk key g a b := by
  have hp := h.pos
  have h1 := h.small a (Nat.le_refl _) (by omega) h.dv1
  have h2 := h.small (a + size) (by omega) hm (Nat.dvd_add h.dv1 (Nat.dvd_refl _))
  rw [show min (a + size) n = a + size by omega] at h1
  rw [show min (a + size + size) n = b by omega] at h2
  exact Blk.merged h1 h2 (by omega) (by omega) hv hs
theorem Pass.next {key : Nat → Int} {f g : Nat → Nat} {n size a : Nat} (h : Pass key f n size a) (hn : a + 2 * size ≤ n) (hv : Mv a (a + 2 * size) f g) (hs : Srt key g a (a + 2 * size)) : Pass key g n size (a + 2 * size) := by
  have hp := h.pos
  have hb := h.step (b := a + 2 * size) (by omega) (by omega) hv hs
  refine ⟨Nat.dvd_add h.dv (Nat.dvd_refl _), h.big.more h.dv hv (by rw [show min (a + 2 * size) n = a + 2 * size by omega]; exact hb), fun x h1 h2 h3 => ?_, hp, by omega⟩
  exact (h.small x (by omega) h2 h3).keep hv (.inr h1)
/-- The end of a pass, where a last pair is merged. -/
theorem Pass.last {key : Nat → Int} {f g : Nat → Nat} {n size a : Nat} (h : Pass key f n size a) (hn : n < a + 2 * size) (hm : a + size < n) (hv : Mv a n f g) (hs : Srt key g a n) : Blks key g n (2 * size) 0 n := by
  have hp := h.pos
  have hb := h.step (b := n) (by omega) hm hv hs
  intro x h1 h2 h3
  exact (h.big.more h.dv hv (by rw [show min (a + 2 * size) n = n by omega]; exact hb)) x h1 (by omega) h3
/-- The end of a pass, where nothing, or one block, is left. -/
theorem Pass.done {key : Nat → Int} {f : Nat → Nat} {n size a : Nat} (h : Pass key f n size a) (hn : n < a + 2 * size) (hm : n ≤ a + size) : Blks key f n (2 * size) 0 n := by
  have hp := h.pos
  intro x h1 h2 h3
  rcases Nat.lt_or_ge x a with c | c
  · exact h.big x h1 c h3
  · have e : x = a := by
      rcases Nat.lt_or_ge a x with d | d
      · have := dvd_gap h.dv h3 d; omega
      · omega
    subst e
    have h4 := h.small x (Nat.le_refl _) h2 h.dv1
    rw [show min (x + size) n = n by omega] at h4
    rw [show min (x + 2 * size) n = n by omega]
    exact h4
theorem Blks.all {key : Nat → Int} {f : Nat → Nat} {n size : Nat} (h : Blks key f n size 0 n) (hn : 0 < n) (hs : n ≤ size) : Srt key f 0 n := by
  have := h 0 (Nat.le_refl _) hn (Nat.dvd_zero _)
  rw [show min (0 + size) n = n by omega] at this
  exact this.srt

/-- The state of an insertion sort: from a up to i in order; from i on nothing has moved. -/
structure Ins (key : Nat → Int) (f0 f : Nat → Nat) (a i : Nat) : Prop where
  ai : a ≤ i
  mv : Mv a i f0 f
  srt : Srt key f a i
  own : ∀ k, a ≤ k → f0 k = k

theorem Ins.runs {key : Nat → Int} {f0 f : Nat → Nat} {a i : Nat} (h : Ins key f0 f a i) : Runs key f a i (i + 1) := by
  refine ⟨h.ai, by omega, h.srt, fun x y h1 h2 h3 => by omega, fun x y h1 h2 h3 h4 => ?_⟩
  obtain ⟨x', l, u, e⟩ := h.mv.into x h1 h2
  rw [e, h.own x' l, h.mv.out y (by omega), h.own y (by have := h.ai; omega)]
  omega
theorem Ins.next {key : Nat → Int} {f0 f : Nat → Nat} {a i j : Nat} (h : Ins key f0 f a i) (h1 : a ≤ j) (h2 : j ≤ i) (hl : j = a ∨ Bef key (f (j - 1)) (f i)) (hr : j = i ∨ Bef key (f i) (f j)) : Ins key f0 (rot f j i (i + 1)) a (i + 1) := by
  have := h.ai
  exact ⟨by omega, (h.mv.mono (Nat.le_refl _) (by omega)).trans ((Mv.rot f j i (i + 1) h2 (by omega)).mono h1 (by omega)), merge_right h.runs h1 h2 hl hr, h.own⟩
theorem Ins.blk {key : Nat → Int} {f0 f : Nat → Nat} {a b : Nat} (h : Ins key f0 f a b) : Blk key f a b := by
  refine ⟨h.srt, fun k l u => ?_⟩
  obtain ⟨k', l', u', e⟩ := h.mv.into k l u
  rw [e, h.own k' l']; omega
theorem Ins.start {key : Nat → Int} {f : Nat → Nat} {a : Nat} (h : ∀ k, a ≤ k → f k = k) : Ins key f f a (a + 1) :=
  ⟨by omega, Mv.refl _ _ _, fun i j h1 h2 h3 => by omega, h⟩
end Go.Proofs.Ytblaplnpehnjfab
