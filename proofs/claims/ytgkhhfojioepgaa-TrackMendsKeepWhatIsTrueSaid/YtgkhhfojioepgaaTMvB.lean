/- The memory of moved: two boxes, laps and tags that were copied, and rows behind them. -/
import Derived.Test.YtgkhhfojioepgaaTPart
namespace Go.Proofs.Ytgkhhfojioepgaa
open Go.RowKit
set_option linter.unusedSimpArgs false
set_option linter.unusedVariables false

theorem LapsAt.kept {w w' : World} {ao : Option Addr} {l : List LapV} (h : LapsAt w ao l) {row : Option Nat} (hg : w.grownBy w' row) (hne : ∀ a, ao = some a → l ≠ [] → some a.block ≠ row) : LapsAt w' ao l :=
  ⟨h.nil, h.spot, fun a ha i hi => by
    obtain ⟨h0, h1, h2⟩ := h.cells a ha i hi
    have n : some a.block ≠ row := hne a ha (fun e => by rw [e] at hi; simp at hi)
    exact ⟨hg.cell h0 n, hg.cell h1 n, hg.cell h2 n⟩, h.sizes⟩
theorem LapsAt.blk {w : World} {ao : Option Addr} {l : List LapV} (h : LapsAt w ao l) : ∀ a, ao = some a → l ≠ [] → a.block < w.heap.size := fun a ha hne => by
  have hl : 0 < l.length := by
    cases l with
    | nil => exact absurd rfl hne
    | cons x r => simp
  have q := lt_of_cell (h.cells a ha 0 hl).1
  exact q
theorem TagsAt.blk {w : World} {ao : Option Addr} {l : List ByteArray} (h : TagsAt w ao l) : ∀ a, ao = some a → l ≠ [] → a.block < w.heap.size := fun a ha hne => by
  have hl : 0 < l.length := by
    cases l with
    | nil => exact absurd rfl hne
    | cons x r => simp
  have q := lt_of_cell (h.cells a ha 0 hl)
  exact q

structure MvB (w : World) (A Z : Array Value) (K : Nat) (la : Option Addr) (ls : List LapV) (ta : Option Addr) (ts : List ByteArray) (W : World) : Prop where
  c : ClB w A Z W
  k : w.heap.size + 1 < K
  l : LapsAt W la ls
  lf : ∀ p, la = some p → ls ≠ [] → w.heap.size + 1 < p.block ∧ p.block < K
  t : TagsAt W ta ts
  tf : ∀ p, ta = some p → ts ≠ [] → w.heap.size + 1 < p.block ∧ p.block < K
section
variable {w W W' : World} {K : Nat} {A Z : Array Value} {la ta : Option Addr} {ls : List LapV} {ts : List ByteArray}
theorem MvB.kept (h : MvB w A Z K la ls ta ts W) {row : Option Nat} (hg : W.grownBy W' row) (hr : ∀ r, row = some r → K ≤ r) : MvB w A Z K la ls ta ts W' := by
  have hk := h.k
  have n : ∀ b, b < K → some b ≠ row := fun b hb e => by have := hr b e.symm; omega
  exact ⟨⟨block_at h.c.a hg (n _ (by omega)), block_at h.c.z hg (n _ (by omega)), grown_rowR h.c.g hg (fun r e => by have := hr r e; omega)⟩, h.k, h.l.kept hg (fun p e e2 => n _ (h.lf p e e2).2), h.lf, h.t.kept hg (fun p e e2 => n _ (h.tf p e e2).2), h.tf⟩
theorem MvB.grown (h : MvB w A Z K la ls ta ts W) (hg : W.grownBy W' none) : MvB w A Z K la ls ta ts W' := h.kept hg (fun r e => by cases e)
theorem MvB.setA (h : MvB w A Z K la ls ta ts W) (k : Nat) (v : Value) : MvB w (A.setIfInBounds k v) Z K la ls ta ts (W.setCell ⟨w.heap.size, k, none⟩ v) :=
  ⟨h.c.setA k v, h.k, h.l.kept (setcR_grown W _ k v) (fun p e e2 q => by have := h.lf p e e2; injection q with q; omega), h.lf, h.t.kept (setcR_grown W _ k v) (fun p e e2 q => by have := h.tf p e e2; injection q with q; omega), h.tf⟩
theorem MvB.setZ (h : MvB w A Z K la ls ta ts W) (k : Nat) (v : Value) : MvB w A (Z.setIfInBounds k v) K la ls ta ts (W.setCell ⟨w.heap.size + 1, k, none⟩ v) :=
  ⟨h.c.setZ k v, h.k, h.l.kept (setcR_grown W _ k v) (fun p e e2 q => by have := h.lf p e e2; injection q with q; omega), h.lf, h.t.kept (setcR_grown W _ k v) (fun p e e2 q => by have := h.tf p e e2; injection q with q; omega), h.tf⟩
end
end Go.Proofs.Ytgkhhfojioepgaa
