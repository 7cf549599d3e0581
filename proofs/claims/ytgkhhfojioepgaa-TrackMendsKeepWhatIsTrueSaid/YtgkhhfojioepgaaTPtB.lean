/- The memory of part: three boxes, the tags, and two rows elsewhere. -/
import Derived.Test.YtgkhhfojioepgaaTMove
import Derived.Test.YtgkhhfojioepgaaTChkd
namespace Go.Proofs.Ytgkhhfojioepgaa
open Go.RowKit
set_option linter.unusedSimpArgs false
set_option linter.unusedVariables false

theorem TagsAt.kept {w w' : World} {ao : Option Addr} {l : List ByteArray} (h : TagsAt w ao l) {row : Option Nat} (hg : w.grownBy w' row) (hne : ∀ a, ao = some a → l ≠ [] → some a.block ≠ row) : TagsAt w' ao l :=
  ⟨h.nil, h.spot, fun a ha i hi => hg.cell (h.cells a ha i hi) (hne a ha (fun e => by rw [e] at hi; simp at hi)), h.sizes⟩
theorem setcR_grown (W : World) (B i : Nat) (u : Value) : W.grownBy (W.setCell ⟨B, i, none⟩ u) (some B) :=
  ⟨rfl, rfl, rfl, by simp [World.setCell], fun k hk hne => Below.heap_setCell _ _ _ _ (fun e => hne (by rw [e]))⟩

structure PtB (w0 : World) (N : Nat) (A Z : Array Value) (B : Nat) (C : Array Value) (ta : Option Addr) (ts : List ByteArray) (W : World) : Prop where
  a : W.heap[N]? = some (.cells A 26 (0, 0))
  z : W.heap[N + 1]? = some (.cells Z 26 (0, 0))
  b : W.heap[B]? = some (.cells C 26 (0, 0))
  g : w0.grownBy W none
  ln : w0.heap.size ≤ N
  lt : N + 1 < B
  t : TagsAt W ta ts
  tf : ∀ p, ta = some p → ts ≠ [] → N + 1 < p.block ∧ p.block < B
section
variable {w0 W W' : World} {N B : Nat} {A Z C : Array Value} {ta : Option Addr} {ts : List ByteArray}
theorem PtB.kept (h : PtB w0 N A Z B C ta ts W) {row : Option Nat} (hg : W.grownBy W' row) (hr : ∀ r, row = some r → w0.heap.size ≤ r ∧ (r < N ∨ B < r)) : PtB w0 N A Z B C ta ts W' := by
  have hl := h.lt
  have n : ∀ b, N ≤ b → b ≤ B → some b ≠ row := fun b hb hb2 e => by have := hr b e.symm; omega
  exact ⟨block_at h.a hg (n _ (by omega) (by omega)), block_at h.z hg (n _ (by omega) (by omega)), block_at h.b hg (n _ (by omega) (by omega)), grown_rowR h.g hg (fun r e => (hr r e).1), h.ln, h.lt, h.t.kept hg (fun p e e2 => by have := h.tf p e e2; exact n _ (by omega) (by omega)), h.tf⟩
theorem PtB.grown (h : PtB w0 N A Z B C ta ts W) (hg : W.grownBy W' none) : PtB w0 N A Z B C ta ts W' := h.kept hg (fun r e => by cases e)
theorem PtB.setB (h : PtB w0 N A Z B C ta ts W) (k : Nat) (v : Value) : PtB w0 N A Z B (C.setIfInBounds k v) ta ts (W.setCell ⟨B, k, none⟩ v) := by
  have hl := h.lt; have hn := h.ln
  refine ⟨?_, ?_, block_set h.b v, grown_far h.g (by omega) k v, h.ln, h.lt, h.t.kept (setcR_grown W B k v) (fun p e e2 q => by have := h.tf p e e2; injection q with q; omega), h.tf⟩
  · rw [Below.heap_setCell _ _ _ _ (by show _ ≠ B; omega)]; exact h.a
  · rw [Below.heap_setCell _ _ _ _ (by show _ ≠ B; omega)]; exact h.z
theorem PtB.setA (h : PtB w0 N A Z B C ta ts W) (k : Nat) (v : Value) : PtB w0 N (A.setIfInBounds k v) Z B C ta ts (W.setCell ⟨N, k, none⟩ v) := by
  have hl := h.lt; have hn := h.ln
  refine ⟨block_set h.a v, ?_, ?_, grown_far h.g (by omega) k v, h.ln, h.lt, h.t.kept (setcR_grown W N k v) (fun p e e2 q => by have := h.tf p e e2; injection q with q; omega), h.tf⟩
  · rw [Below.heap_setCell _ _ _ _ (by show _ ≠ N; omega)]; exact h.z
  · rw [Below.heap_setCell _ _ _ _ (by show _ ≠ N; omega)]; exact h.b
theorem PtB.setZ (h : PtB w0 N A Z B C ta ts W) (k : Nat) (v : Value) : PtB w0 N A (Z.setIfInBounds k v) B C ta ts (W.setCell ⟨N + 1, k, none⟩ v) := by
  have hl := h.lt; have hn := h.ln
  refine ⟨?_, block_set h.z v, ?_, grown_far h.g (by omega) k v, h.ln, h.lt, h.t.kept (setcR_grown W (N + 1) k v) (fun p e e2 q => by have := h.tf p e e2; injection q with q; omega), h.tf⟩
  · rw [Below.heap_setCell _ _ _ _ (by show _ ≠ N + 1; omega)]; exact h.a
  · rw [Below.heap_setCell _ _ _ _ (by show B ≠ N + 1; omega)]; exact h.b
theorem PtB.bsz (h : PtB w0 N A Z B C ta ts W) : B < W.heap.size := lt_of_block h.b
/-- A row that lies below or above the boxes stays when one of their cells is set. -/
theorem own_out {w : World} {base e size n : Nat} {v : Value} {xs : List Value} (h : w.ownsRow base e size v n xs) {P : Nat} (hP : ∀ r, v.ownBlock = some r → r ≠ P) (i : Nat) (u : Value) : (w.setCell ⟨P, i, none⟩ u).ownsRow base e size v n xs := by
  refine h.kept (setcR_grown _ _ _ _) ?_
  cases hv : v.ownBlock with
  | none => exact .inl rfl
  | some r => exact .inr (fun e => by injection e with e; exact hP r hv e)
/-- Where part begins. -/
theorem PtB.new {w0 w w4 : World} {ta : Option Addr} {ts : List ByteArray} (g0 : w0.grownBy w none) (hc : ClB w A Z w4) (ht : TagsAt w4 ta ts) (tf : ∀ p, ta = some p → w.heap.size + 2 ≤ p.block) (C : Array Value) : PtB w0 w.heap.size A Z w4.heap.size C ta ts (w4.alloc (.cells C 26)) := by
  have hl := hc.lt
  have gg := World.grownBy_alloc w4 (.cells C 26) none
  refine ⟨block_at hc.a gg (by simp), block_at hc.z gg (by simp), heap_alloc_new _ _, grown_trans g0 (grown_trans hc.g gg), g0.size, hl, ht.grown gg, fun p e e2 => ⟨by have := tf p e; omega, ?_⟩⟩
  have hlen : 0 < ts.length := by
    cases ts with
    | nil => exact absurd rfl e2
    | cons x r => simp
  have q := lt_of_cell (ht.cells p e 0 hlen)
  exact q
end
end Go.Proofs.Ytgkhhfojioepgaa
