/- Three boxes of an activity, and a row of samples behind them. -/
import Derived.Test.YtgkhhfojioepgaaTCloneA
import Derived.Test.YtgkhhfojioepgaaBaseG
namespace Go.Proofs.Ytgkhhfojioepgaa
open Go.RowKit
set_option linter.unusedSimpArgs false
set_option linter.unusedVariables false

theorem block_at {W W' : World} {row : Option Nat} {b : Nat} {o : Obj} (h : W.heap[b]? = some o) (hg : W.grownBy W' row) (hne : some b ≠ row) : W'.heap[b]? = some o := (hg.block b (Array.getElem?_eq_some_iff.1 h).1 hne).trans h

/-- Three boxes of an activity. -/
structure RsB (w : World) (A Z : Array Value) (B : Nat) (C : Array Value) (W : World) : Prop where
  c : ClB w A Z W
  b : W.heap[B]? = some (.cells C 26 (0, 0))
  lt : w.heap.size + 1 < B
section
variable {w W W' : World} {A Z C : Array Value} {B : Nat}
theorem RsB.grown (h : RsB w A Z B C W) (hg : W.grownBy W' none) : RsB w A Z B C W' := ⟨h.c.grown hg, block_at h.b hg (by simp), h.lt⟩
theorem RsB.kept (h : RsB w A Z B C W) {row : Option Nat} (hg : W.grownBy W' row) (hr : ∀ r, row = some r → B < r) : RsB w A Z B C W' := by
  have hl := h.lt
  have n : ∀ b, b ≤ B → some b ≠ row := fun b hb e => by have := hr b e.symm; omega
  refine ⟨⟨block_at h.c.a hg (n _ (by omega)), block_at h.c.z hg (n _ (by omega)), ?_⟩, block_at h.b hg (n _ (Nat.le_refl _)), h.lt⟩
  exact ⟨hg.os.trans h.c.g.os, hg.tape.trans h.c.g.tape, hg.output.trans h.c.g.output, Nat.le_trans h.c.g.size hg.size, fun k hk _ => by
    rw [hg.block k (Nat.lt_of_lt_of_le hk h.c.g.size) (n k (by omega))]; exact h.c.g.block k hk (by simp)⟩
theorem RsB.setB (h : RsB w A Z B C W) (k : Nat) (v : Value) : RsB w A Z B (C.setIfInBounds k v) (W.setCell ⟨B, k, none⟩ v) := by
  have hl := h.lt
  refine ⟨⟨?_, ?_, grown_far h.c.g (by omega) k v⟩, block_set h.b v, h.lt⟩
  · rw [Below.heap_setCell _ _ _ _ (by show _ ≠ B; omega)]; exact h.c.a
  · rw [Below.heap_setCell _ _ _ _ (by show _ ≠ B; omega)]; exact h.c.z
theorem RsB.setZ (h : RsB w A Z B C W) (k : Nat) (v : Value) : RsB w A (Z.setIfInBounds k v) B C (W.setCell ⟨w.heap.size + 1, k, none⟩ v) := by
  have hl := h.lt
  exact ⟨h.c.setZ k v, by rw [Below.heap_setCell _ _ _ _ (by show B ≠ w.heap.size + 1; omega)]; exact h.b, h.lt⟩
theorem RsB.bsz (h : RsB w A Z B C W) : B < W.heap.size := lt_of_block h.b
end
theorem own_setR {w : World} {base e size n : Nat} {v : Value} {xs : List Value} (h : w.ownsRow base e size v n xs) {B : Nat} (hB : B < base) (i : Nat) (u : Value) : (w.setCell ⟨B, i, none⟩ u).ownsRow base e size v n xs := by
  have hlt := h.lt
  refine h.kept (row := some B) ⟨rfl, rfl, rfl, by simp [World.setCell], fun k hk hne => Below.heap_setCell _ _ _ _ (fun e => hne (by rw [e]))⟩ ?_
  cases hv : v.ownBlock with
  | none => exact .inl rfl
  | some r => exact .inr (fun e => by have := (hlt r hv).1; injection e with e; omega)
end Go.Proofs.Ytgkhhfojioepgaa
