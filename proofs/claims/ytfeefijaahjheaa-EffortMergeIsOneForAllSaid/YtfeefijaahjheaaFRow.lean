/- Lists of numbers that were made: in memory, and held against each other. -/
import Derived.Test.YtfeefijaahjheaaEChk
import Derived.Test.YtfeefijaahjheaaEZoneP
import Derived.Test.YtfeefijaahjheaaShelf
import Derived.Deep.OwnRows
import Derived.OwnWalk
import Derived.Maps.AppendAt
namespace Go.Proofs.Ytfeefijaahjheaa
open Go.RowKit
set_option linter.unusedSimpArgs false
set_option linter.unusedVariables false

def FInts (w : World) (ao : Option Addr) (n : Nat) (F : Nat → Int) : Prop := ∀ j, j < n → ∃ g, ao = some ⟨g, 0, none⟩ ∧ w.cell? ⟨g, j, none⟩ = some (.int .i64 (F j))
theorem FInts.grown {w w' : World} {ao : Option Addr} {n : Nat} {F : Nat → Int} (h : FInts w ao n F) (g : w.grownBy w' none) : FInts w' ao n F := fun j hj => by
  obtain ⟨b, e, q⟩ := h j hj
  exact ⟨b, e, grown_cell g q⟩
theorem FInts.none (w : World) (ao : Option Addr) (F : Nat → Int) : FInts w ao 0 F := fun _ hj => absurd hj (Nat.not_lt_zero _)
theorem FInts.of_row {w : World} {g n : Nat} {F G : Nat → Int} (r : RowF w g n F) (h : ∀ j, j < n → F j = G j) : FInts w (some ⟨g, 0, .none⟩) n G := fun j hj => ⟨g, rfl, by rw [← h j hj]; exact r.cell hj⟩
theorem FInts.at {w : World} {ao : Option Addr} {n : Nat} {F : Nat → Int} (h : FInts w ao n F) (hn : 0 < n) : ∃ g, ao = some ⟨g, 0, .none⟩ ∧ ∀ j, j < n → w.cell? ⟨g, j, .none⟩ = some (.int .i64 (F j)) := by
  obtain ⟨g, e, _⟩ := h 0 hn
  refine ⟨g, e, fun j hj => ?_⟩
  obtain ⟨g', e', q⟩ := h j hj
  rw [e] at e'
  injection e' with e'; injection e' with e1 _ _; subst e1; exact q
def rowVs (F : Nat → Int) (k : Nat) : List Value := (List.range k).map fun j => Value.int .i64 (F j)
theorem rowVs_succ (F : Nat → Int) (k : Nat) : rowVs F (k + 1) = rowVs F k ++ [.int .i64 (F k)] := by simp [rowVs, List.range_succ]
theorem own_fints {w : World} {base n : Nat} {v : Value} {F : Nat → Int} (h : w.ownsRow base 3 1 v n (rowVs F n)) : ∃ ao cap, v = .slice ao n cap ∧ FInts w ao n F := by
  rcases h.2 with ⟨hv, h0⟩ | ⟨g, cap, cur, hv, hb, hg, rest⟩
  · subst h0
    exact ⟨.none, 0, hv, fun j hj => absurd hj (by omega)⟩
  · refine ⟨some ⟨g, 0, .none⟩, cap, hv, fun j hj => ⟨g, rfl, ?_⟩⟩
    have := h.cells (g := g) (by rw [hv]; rfl) j (.int .i64 (F j)) (by simp [rowVs, hj])
    rcases Nat.eq_zero_or_pos j with h0 | h0
    · subst h0; simpa [Addr.add] using this
    · simpa [Addr.add, Nat.ne_of_gt h0] using this
theorem fgrown_own {w wr w1 : World} {o : Obj} {row : Option Nat} (h : w.grownBy wr none) (g : (wr.alloc o).grownBy w1 row) (hr : ∀ k, row = some k → w.heap.size ≤ k) : w.grownBy w1 none :=
  ⟨g.os.trans h.os, g.tape.trans h.tape, g.output.trans h.output, by have := g.size; have := h.size; simp at *; omega, fun k hk _ => by
    have hs := h.size
    rw [g.block k (by simp; omega) (fun e => by have := hr k e.symm; omega), Below.heap_alloc _ _ _ (by omega)]
    exact h.block k hk (by simp)⟩

theorem equal_fints {w : World} {ao1 ao2 : Option Addr} {n c1 c2 : Nat} {F G : Nat → Int} (h1 : FInts w ao1 n F) (h2 : FInts w ao2 n G) (hFG : ∀ j, j < n → F j = G j) (hn : n ≤ 9223372036854775807) :
    Calls Try.prog 26 #[.slice ao1 n c1, .slice ao2 n c2] w fun e w' => e = .returned (.bool true) ∧ w.grownBy w' none := by
  rcases Nat.eq_zero_or_pos n with h0 | h0
  · subst h0
    refine (Try.slices_Equal_int_empty ao1 ao2 c1 0 c2 w (by omega)).mono ?_
    rintro e w' ⟨rfl, rfl⟩
    exact ⟨rfl, grown_refl _ _⟩
  · obtain ⟨g1, rfl, hc1⟩ := h1.at h0
    obtain ⟨g2, rfl, hc2⟩ := h2.at h0
    have hlen : ((List.range n).map F).length = n := by simp
    refine (Try.slices_Equal_int g1 0 n c1 g2 0 n c2 ((List.range n).map F) ((List.range n).map F) w (by omega) (by omega) hn hn (fun j hj => ?_) (fun j hj => ?_)).mono ?_
    · rw [hlen] at hj
      rw [List.getD_eq_getElem?_getD]
      simpa [hj] using hc1 j hj
    · rw [hlen] at hj
      rw [List.getD_eq_getElem?_getD]
      have := hc2 j hj
      rw [← hFG j hj] at this
      simpa [hj] using this
    · rintro e w' ⟨rfl, q, rfl⟩
      exact ⟨by simp, grown_drewN _ _ _⟩

end Go.Proofs.Ytfeefijaahjheaa
