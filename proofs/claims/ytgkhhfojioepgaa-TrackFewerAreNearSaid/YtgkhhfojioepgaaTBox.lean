/- Two boxes of an activity; lists that lie elsewhere. -/
import Derived.Test.YtgkhhfojioepgaaTClone
import Derived.Test.YtgkhhfojioepgaaBaseD
namespace Go.Proofs.Ytgkhhfojioepgaa
open Go.RowKit
set_option linter.unusedSimpArgs false
set_option linter.unusedVariables false

theorem SmpsAt.eq {w w' : World} {ao : Option Addr} {l : List Smp} (h : SmpsAt w ao l) (k : ∀ a, ao = some a → ∀ o, w'.cell? ⟨a.block, o, none⟩ = w.cell? ⟨a.block, o, none⟩) : SmpsAt w' ao l :=
  ⟨h.nil, h.spot, fun a ha i hi => by
    obtain ⟨h0, h1, h2, h3, h4, h5, h6⟩ := h.cells a ha i hi
    exact ⟨(k a ha _).trans h0, (k a ha _).trans h1, (k a ha _).trans h2, (k a ha _).trans h3, (k a ha _).trans h4, (k a ha _).trans h5, (k a ha _).trans h6⟩⟩
theorem LapsAt.eq {w w' : World} {ao : Option Addr} {l : List LapV} (h : LapsAt w ao l) (k : ∀ a, ao = some a → ∀ o, w'.cell? ⟨a.block, o, none⟩ = w.cell? ⟨a.block, o, none⟩) : LapsAt w' ao l :=
  ⟨h.nil, h.spot, fun a ha i hi => by
    obtain ⟨h0, h1, h2⟩ := h.cells a ha i hi
    exact ⟨(k a ha _).trans h0, (k a ha _).trans h1, (k a ha _).trans h2⟩, h.sizes⟩
theorem TagsAt.eq {w w' : World} {ao : Option Addr} {l : List ByteArray} (h : TagsAt w ao l) (k : ∀ a, ao = some a → ∀ o, w'.cell? ⟨a.block, o, none⟩ = w.cell? ⟨a.block, o, none⟩) : TagsAt w' ao l :=
  ⟨h.nil, h.spot, fun a ha i hi => (k a ha _).trans (h.cells a ha i hi), h.sizes⟩

/-- Two boxes of an activity. -/
structure ClB (w : World) (A Z : Array Value) (W : World) : Prop where
  a : W.heap[w.heap.size]? = some (.cells A 26 (0, 0))
  z : W.heap[w.heap.size + 1]? = some (.cells Z 26 (0, 0))
  g : w.grownBy W none
theorem ClB.new (w : World) (A Z : Array Value) : ClB w A Z ((w.alloc (.cells A 26)).alloc (.cells Z 26)) := by
  refine ⟨?_, ?_, grown_trans (World.grownBy_alloc _ _ none) (World.grownBy_alloc _ _ none)⟩
  · rw [Below.heap_alloc _ _ _ (by simp)]; exact heap_alloc_new w _
  · have := heap_alloc_new (w.alloc (.cells A 26)) (.cells Z 26); simpa using this
theorem ClB.grown {w W W' : World} {A Z : Array Value} (h : ClB w A Z W) (hg : W.grownBy W' none) : ClB w A Z W' := by
  have k : ∀ {B : Nat} {o : Obj}, W.heap[B]? = some o → W'.heap[B]? = some o := fun {B o} h => (hg.block B (Array.getElem?_eq_some_iff.1 h).1 (by simp)).trans h
  exact ⟨k h.a, k h.z, grown_trans h.g hg⟩
theorem ClB.setA {w W : World} {A Z : Array Value} (h : ClB w A Z W) (k : Nat) (v : Value) : ClB w (A.setIfInBounds k v) Z (W.setCell ⟨w.heap.size, k, none⟩ v) :=
  ⟨block_set h.a v, by rw [Below.heap_setCell _ _ _ _ (by show _ ≠ w.heap.size; omega)]; exact h.z, grown_far h.g (Nat.le_refl _) k v⟩
theorem ClB.setZ {w W : World} {A Z : Array Value} (h : ClB w A Z W) (k : Nat) (v : Value) : ClB w A (Z.setIfInBounds k v) (W.setCell ⟨w.heap.size + 1, k, none⟩ v) :=
  ⟨by rw [Below.heap_setCell _ _ _ _ (by show _ ≠ w.heap.size + 1; omega)]; exact h.a, block_set h.z v, grown_far h.g (by omega) k v⟩
theorem ClB.lt {w W : World} {A Z : Array Value} (h : ClB w A Z W) : w.heap.size + 1 < W.heap.size := lt_of_block h.z

/-- The lists of an activity lie from a block on. -/
structure ActFar (a : Act) (N : Nat) : Prop where
  s : ∀ p, a.so = some p → N ≤ p.block
  l : ∀ p, a.lo = some p → N ≤ p.block
  t : ∀ p, a.to_ = some p → N ≤ p.block
theorem ActFar.mono {a : Act} {N M : Nat} (h : ActFar a N) (hm : M ≤ N) : ActFar a M := ⟨fun p e => Nat.le_trans hm (h.s p e), fun p e => Nat.le_trans hm (h.l p e), fun p e => Nat.le_trans hm (h.t p e)⟩
theorem ActAt.far {w w' : World} {a : Act} {N : Nat} (h : ActAt w a) (hf : ActFar a N) (k : ∀ p : Addr, N ≤ p.block → w'.cell? p = w.cell? p) : ActAt w' a :=
  ⟨h.ns, h.sl, h.ll, h.tl, h.hs.eq fun p e _ => k _ (hf.s p e), h.hl.eq fun p e _ => k _ (hf.l p e), h.ht.eq fun p e _ => k _ (hf.t p e)⟩
/-- A value is an activity of this content, with lists of its own. -/
def ActNew (B : Nat) (w : World) (v : Value) (c : Act) : Prop := ∃ so sc lo lc to_ tc, v = (⟨c.name, c.sport, c.start, so, sc, c.ss, lo, lc, c.ls, to_, tc, c.ts⟩ : Act).val ∧ ActAt w ⟨c.name, c.sport, c.start, so, sc, c.ss, lo, lc, c.ls, to_, tc, c.ts⟩ ∧ ActFar ⟨c.name, c.sport, c.start, so, sc, c.ss, lo, lc, c.ls, to_, tc, c.ts⟩ B
theorem ActNew.is {B : Nat} {w : World} {v : Value} {c : Act} (h : ActNew B w v c) : ActIs w v c := by
  obtain ⟨so, sc, lo, lc, to_, tc, hv, ha, _⟩ := h
  exact ⟨so, sc, lo, lc, to_, tc, hv, ha⟩
theorem grown_rowR {w w1 w2 : World} {row : Option Nat} (h : w.grownBy w1 none) (g : w1.grownBy w2 row) (hr : ∀ r, row = some r → w.heap.size ≤ r) : w.grownBy w2 none :=
  ⟨g.os.trans h.os, g.tape.trans h.tape, g.output.trans h.output, Nat.le_trans h.size g.size, fun k hk _ => by
    rw [g.block k (Nat.lt_of_lt_of_le hk h.size) (fun e => by have := hr k e.symm; omega)]; exact h.block k hk (by simp)⟩
end Go.Proofs.Ytgkhhfojioepgaa
