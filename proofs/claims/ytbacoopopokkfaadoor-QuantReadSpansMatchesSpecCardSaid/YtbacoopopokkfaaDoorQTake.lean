/- The contracts of the taker of quant's texts, and of word, number, pair: each is what XQRead says of the bytes that are left, and moves the place alone. -/
import Derived.Test.YtbacoopopokkfaaDoorProg
import Derived.Test.YtbacoopopokkfaaDoorQRead
import Derived.WalkKit
import Derived.WalkSpells
import Derived.WalkLawsBesides
import Derived.Handy
import Derived.Lib.Hide
import Derived.Deep.QuietTactic
import Derived.BigQuiet
import Derived.Deep.RegionWith
namespace Go.Proofs.YtbacoopopokkfaaDoor
open Go.RowKit
set_option linter.unusedSimpArgs false
set_option linter.unusedVariables false

theorem ret_bool {a b : Bool} (h : a = b) : Ending.returned (.bool a) = .returned (.bool b) := by rw [h]
theorem ret_int {k : IntKind} {a b : Int} (h : a = b) : Ending.returned (.int k a) = .returned (.int k b) := by rw [h]
theorem ret_ib {k : IntKind} {a b : Int} {c d : Bool} (h : a = b) (h' : c = d) : Ending.returned (.tuple #[.int k a, .bool c]) = .returned (.tuple #[.int k b, .bool d]) := by rw [h, h']
theorem ret_ii {k k' : IntKind} {a b c d : Int} (h : a = b) (h' : c = d) : Ending.returned (.tuple #[.int k a, .int k' c]) = .returned (.tuple #[.int k b, .int k' d]) := by rw [h, h']
theorem ret_uu {a b c d : Int} (h : a = b) (h' : c = d) : Ending.returned (.tuple #[.int .u64 a, .int .u64 c]) = .returned (.tuple #[.int .u64 b, .int .u64 d]) := by rw [h, h']
theorem ret_iii {k k' k'' : IntKind} {a b c d e f : Int} (h : a = b) (h' : c = d) (h'' : e = f) : Ending.returned (.tuple #[.int k a, .int k' c, .int k'' e]) = .returned (.tuple #[.int k b, .int k' d, .int k'' f]) := by rw [h, h', h'']

/-- The place of a taker lies in block a, its text in block b. -/
structure At (w : World) (a b : Nat) (s : ByteArray) (k : Nat) : Prop where
  hA : w.heap[a]? = some (.cells #[.int .i64 k] 3 (0, 0))
  hB : w.heap[b]? = some (.cells #[.string s] 9 (0, 0))
  sz : s.size ≤ 140737488351232
  le : k ≤ s.size

structure Moved (w w' : World) (a b : Nat) (s : ByteArray) (k : Nat) : Prop where
  pos : At w' a b s k
  g : w.grownBy w' (some a)

/-- The bytes that are left from a place on. -/
def rem (s : ByteArray) (k : Nat) : List Nat := (s.data.toList.drop k).map UInt8.toNat

theorem grown_trans {w1 w2 w3 : World} {r : Option Nat} (h : w1.grownBy w2 r) (h' : w2.grownBy w3 r) : w1.grownBy w3 r :=
  ⟨h'.os.trans h.os, h'.tape.trans h.tape, h'.output.trans h.output, Nat.le_trans h.size h'.size, fun k hk hr => (h'.block k (Nat.lt_of_lt_of_le hk h.size) hr).trans (h.block k hk hr)⟩
theorem grown_refl (w : World) (r : Option Nat) : w.grownBy w r := ⟨rfl, rfl, rfl, Nat.le_refl _, fun _ _ _ => rfl⟩
theorem grown_drew (w : World) (r : Option Nat) : w.grownBy w.drew r := ⟨rfl, rfl, rfl, Nat.le_refl _, fun _ _ _ => rfl⟩
theorem grown_drewN (w : World) (r : Option Nat) (n : Nat) : w.grownBy (w.drewN n) r := ⟨rfl, rfl, rfl, Nat.le_refl _, fun _ _ _ => rfl⟩

theorem At.lt {w : World} {a b : Nat} {s : ByteArray} {k : Nat} (h : At w a b s k) : a < w.heap.size ∧ b < w.heap.size ∧ a ≠ b :=
  ⟨lt_of_block h.hA, lt_of_block h.hB, fun e => by have h1 := h.hA; have h2 := h.hB; rw [e, h2] at h1; simp at h1⟩
theorem At.refl {w : World} {a b : Nat} {s : ByteArray} {k : Nat} (h : At w a b s k) : Moved w w a b s k := ⟨h, grown_refl _ _⟩
theorem At.drewN {w : World} {a b : Nat} {s : ByteArray} {k : Nat} (h : At w a b s k) (n : Nat) : At (w.drewN n) a b s k := ⟨h.hA, h.hB, h.sz, h.le⟩
theorem Moved.drew {w w' : World} {a b : Nat} {s : ByteArray} {k : Nat} (h : Moved w w' a b s k) : Moved w w'.drew a b s k := ⟨⟨h.pos.hA, h.pos.hB, h.pos.sz, h.pos.le⟩, h.g.os, h.g.tape, h.g.output, h.g.size, h.g.block⟩
theorem Moved.drewN {w w' : World} {a b : Nat} {s : ByteArray} {k : Nat} (h : Moved w w' a b s k) (n : Nat) : Moved w (w'.drewN n) a b s k := ⟨⟨h.pos.hA, h.pos.hB, h.pos.sz, h.pos.le⟩, h.g.os, h.g.tape, h.g.output, h.g.size, h.g.block⟩
theorem At.drew {w : World} {a b : Nat} {s : ByteArray} {k : Nat} (h : At w a b s k) : At w.drew a b s k := ⟨h.hA, h.hB, h.sz, h.le⟩
theorem Moved.eq {w w' : World} {a b : Nat} {s : ByteArray} {k k' : Nat} (h : Moved w w' a b s k) (e : k = k') : Moved w w' a b s k' := e ▸ h
theorem Moved.trans {w1 w2 w3 : World} {a b : Nat} {s : ByteArray} {k k' : Nat} (h : Moved w1 w2 a b s k) (h' : Moved w2 w3 a b s k') : Moved w1 w3 a b s k' := ⟨h'.pos, grown_trans h.g h'.g⟩
theorem At.step {w : World} {a b : Nat} {s : ByteArray} {k : Nat} (h : At w a b s k) (hk : k < s.size) : Moved w (w.setCell ⟨a, 0, none⟩ (.int .i64 (k + 1 : Nat))) a b s (k + 1) := by
  have hl := h.lt
  refine ⟨⟨one_setCell h.hA, ?_, h.sz, by omega⟩, rfl, rfl, rfl, by simp [World.setCell], fun j _ hr => Below.heap_setCell _ _ _ _ (fun e => hr (by rw [e]))⟩
  rw [Below.heap_setCell _ _ _ _ (fun e => hl.2.2 e.symm)]; exact h.hB
/-- A new block leaves the place. -/
theorem At.grown {w w' : World} {a b : Nat} {s : ByteArray} {k : Nat} (h : At w a b s k) (g : w.grownBy w' none) : Moved w w' a b s k :=
  ⟨⟨by rw [g.block a h.lt.1 (by simp)]; exact h.hA, by rw [g.block b h.lt.2.1 (by simp)]; exact h.hB, h.sz, h.le⟩, g.os, g.tape, g.output, g.size, fun j hj _ => g.block j hj (by simp)⟩

theorem Moved.block {w w' : World} {a b : Nat} {s : ByteArray} {k z : Nat} {o : Obj} (h : Moved w w' a b s k) (hz : w.heap[z]? = some o) (ne : z ≠ a) : w'.heap[z]? = some o := by
  rw [h.g.block z (lt_of_block hz) (fun e => ne (by simpa using e))]; exact hz
/-- Draws on the way. -/
theorem Moved.from {w w' w1 : World} {a b : Nat} {s : ByteArray} {k k' : Nat} (h : Moved w w' a b s k) (h' : Moved w'.drew w1 a b s k') : Moved w w1 a b s k' := h.drew.trans h'

theorem rem_nil {s : ByteArray} {k : Nat} (h : s.size ≤ k) : rem s k = [] := by
  unfold rem; rw [List.drop_eq_nil_of_le (by simpa using h)]; rfl
theorem rem_cons {s : ByteArray} {k : Nat} (h : k < s.size) : rem s k = s[k].toNat :: rem s (k + 1) := by
  unfold rem
  have h' : k < s.data.toList.length := by simpa using h
  rw [List.drop_eq_getElem_cons h']; rfl
theorem rem_tail (s : ByteArray) (k : Nat) : (rem s k).tail = rem s (k + 1) := by
  unfold rem; rw [← List.map_tail, List.tail_drop]
theorem rem_drop (s : ByteArray) (k n : Nat) : (rem s k).drop n = rem s (k + n) := by
  unfold rem; rw [← List.map_drop, List.drop_drop]
theorem rem_len (s : ByteArray) (k : Nat) : (rem s k).length = s.size - k := by unfold rem; simp

set_option maxHeartbeats 400000 in
theorem take_end (s : ByteArray) (k : Nat) (lo hi : Int) (a b : Nat) (w : World) (hk : k = s.size)
    (ha : w.cell? ⟨a, 0, none⟩ = some (.int .i64 k)) (hb : w.cell? ⟨b, 0, none⟩ = some (.string s)) :
    Calls Tryd.prog 73 #[.int .u8 lo, .int .u8 hi, .pointer (some ⟨a, 0, none⟩), .pointer (some ⟨b, 0, none⟩)] w fun e w' => e = .returned (.tuple #[.int .u8 0, .bool false]) ∧ w = w' := by
  subst hk
  go_enter Tryd.func73, Tryd.ntmps73
  go_wp2
  go_ret2
  exact ⟨rfl, rfl⟩
set_option maxHeartbeats 400000 in
theorem take_low (s : ByteArray) (k : Nat) (lo hi : Int) (a b : Nat) (w : World)
    (hk : k < s.size) (hlo : (s[k].toNat : Int) < lo)
    (ha : w.cell? ⟨a, 0, none⟩ = some (.int .i64 k)) (hb : w.cell? ⟨b, 0, none⟩ = some (.string s)) :
    Calls Tryd.prog 73 #[.int .u8 lo, .int .u8 hi, .pointer (some ⟨a, 0, none⟩), .pointer (some ⟨b, 0, none⟩)] w fun e w' => e = .returned (.tuple #[.int .u8 0, .bool false]) ∧ w = w' := by
  have h1 : ((k : Int) == (s.size : Int)) = false := by simp; omega
  go_enter Tryd.func73, Tryd.ntmps73
  go_wp2
  go_ret2
  exact ⟨rfl, rfl⟩
set_option maxHeartbeats 400000 in
theorem take_high (s : ByteArray) (k : Nat) (lo hi : Int) (a b : Nat) (w : World)
    (hk : k < s.size) (hlo : ¬ (s[k].toNat : Int) < lo) (hhi : hi < (s[k].toNat : Int))
    (ha : w.cell? ⟨a, 0, none⟩ = some (.int .i64 k)) (hb : w.cell? ⟨b, 0, none⟩ = some (.string s)) :
    Calls Tryd.prog 73 #[.int .u8 lo, .int .u8 hi, .pointer (some ⟨a, 0, none⟩), .pointer (some ⟨b, 0, none⟩)] w fun e w' => e = .returned (.tuple #[.int .u8 0, .bool false]) ∧ w = w' := by
  have h1 : ((k : Int) == (s.size : Int)) = false := by simp; omega
  go_enter Tryd.func73, Tryd.ntmps73
  go_wp2
  go_ret2
  exact ⟨rfl, rfl⟩
set_option maxHeartbeats 400000 in
theorem take_yes (s : ByteArray) (k : Nat) (lo hi : Int) (a b : Nat) (w : World) (hs : s.size ≤ 140737488351232)
    (hk : k < s.size) (hlo : ¬ (s[k].toNat : Int) < lo) (hhi : ¬ hi < (s[k].toNat : Int)) (hab : a ≠ b)
    (ha : w.cell? ⟨a, 0, none⟩ = some (.int .i64 k)) (hf : w.frozen? ⟨a, 0, none⟩ = false) (hb : w.cell? ⟨b, 0, none⟩ = some (.string s)) :
    Calls Tryd.prog 73 #[.int .u8 lo, .int .u8 hi, .pointer (some ⟨a, 0, none⟩), .pointer (some ⟨b, 0, none⟩)] w fun e w' => e = .returned (.tuple #[.int .u8 s[k].toNat, .bool true]) ∧ w.setCell ⟨a, 0, none⟩ (.int .i64 (k + 1 : Nat)) = w' := by
  have h1 : ((k : Int) == (s.size : Int)) = false := by simp; omega
  go_enter Tryd.func73, Tryd.ntmps73
  go_wp2
  go_ret2
  exact ⟨rfl, rfl⟩

/-- The taker, where it takes. -/
theorem take_some {s : ByteArray} {k : Nat} {a b : Nat} {w : World} (hat : At w a b s k) (lo hi : Int) {c : Nat} (h : tkV lo hi (rem s k) = some c) :
    Calls Tryd.prog 73 #[.int .u8 lo, .int .u8 hi, .pointer (some ⟨a, 0, none⟩), .pointer (some ⟨b, 0, none⟩)] w fun e w' => e = .returned (.tuple #[.int .u8 c, .bool true]) ∧ Moved w w' a b s (k + 1) := by
  have hk : k < s.size := by
    rcases Nat.lt_or_ge k s.size with h' | h'
    · exact h'
    · rw [rem_nil h'] at h; simp [tkV] at h
  have hb := tkV_bd h
  rw [rem_cons hk] at hb
  simp only [List.tail_cons, List.cons.injEq, and_true] at hb
  obtain ⟨h1, h2, rfl⟩ := hb
  refine (take_yes s k lo hi a b w hat.sz hk (by omega) (by omega) hat.lt.2.2 (cell_of_one hat.hA) (free_of_one hat.hA) (cell_of_one hat.hB)).mono ?_
  rintro e w' ⟨rfl, rfl⟩
  exact ⟨rfl, hat.step hk⟩
/-- The taker, where it takes nothing. -/
theorem take_none {s : ByteArray} {k : Nat} {a b : Nat} {w : World} (hat : At w a b s k) (lo hi : Int) (h : tkV lo hi (rem s k) = none) :
    Calls Tryd.prog 73 #[.int .u8 lo, .int .u8 hi, .pointer (some ⟨a, 0, none⟩), .pointer (some ⟨b, 0, none⟩)] w fun e w' => e = .returned (.tuple #[.int .u8 0, .bool false]) ∧ w = w' := by
  rcases Nat.lt_or_ge k s.size with hk | hk
  · rw [rem_cons hk] at h
    simp only [tkV] at h
    split at h
    · simp at h
    · rename_i hn
      by_cases h1 : (s[k].toNat : Int) < lo
      · exact take_low s k lo hi a b w hk h1 (cell_of_one hat.hA) (cell_of_one hat.hB)
      · exact take_high s k lo hi a b w hk h1 (by omega) (cell_of_one hat.hA) (cell_of_one hat.hB)
  · exact take_end s k lo hi a b w (Nat.le_antisymm hat.le hk) (cell_of_one hat.hA) (cell_of_one hat.hB)

end Go.Proofs.YtbacoopopokkfaaDoor
