/- slices.Sort and slices.Compact over a row of texts of one's own. -/
import Derived.Test.YtgkhhfojioepgaaTJoinV
import Derived.Test.YtgkhhfojioepgaaShelf2
import Derived.Test.YtgkhhfojioepgaaBaseD
import Derived.Test.YtgkhhfojioepgaaBaseE
import Derived.Sort.OwnSorted
namespace Go.Proofs.Ytgkhhfojioepgaa
open Go.RowKit Go.Shelf Go.Sort
set_option linter.unusedSimpArgs false
set_option linter.unusedVariables false

theorem compact_len (zs : List (List UInt8)) : (Lib.compact zs).length ≤ zs.length := by
  unfold Lib.compact Lib.compactUpTo
  rw [List.length_map]
  exact Nat.le_trans (List.length_filter_le _ _) (by simp)
theorem grow_none (w : World) : Sort.grow w #[] = w := by simp [Sort.grow]

theorem sort_row (base : Nat) (v : Value) (zs : List (List UInt8)) (w : World) (h : w.ownsRow base 9 1 v zs.length (zs.map encStr)) (hn : zs.length ≤ 100000) :
    Calls Try.prog 141 #[v] w fun e w' => e = .returned (.tuple #[]) ∧ w'.ownsRow base 9 1 v (zs.mergeSort fun x y => decide (x ≤ y)).length ((zs.mergeSort fun x y => decide (x ≤ y)).map encStr) ∧ w.grownBy w' v.ownBlock := by
  have hl : (zs.mergeSort fun x y => decide (x ≤ y)).length = zs.length := List.length_mergeSort _
  rcases h.2 with ⟨hv, h0⟩ | ⟨g, cap, cur, hv, hb, hg, h1, h2, h3, h4⟩
  · have hz : zs = [] := List.eq_nil_of_length_eq_zero h0
    subst hz; subst hv
    refine (Try.slices_Sort_string_none none 0 w).mono ?_
    rintro e w' ⟨rfl, rfl⟩
    exact ⟨rfl, by rw [show ([] : List (List UInt8)).mergeSort (fun x y => decide (x ≤ y)) = [] by simp]; exact World.ownsRow_nil _ _ _ _, World.grownBy.refl _ _⟩
  · subst hv
    have hH : Holds encStr w g 0 zs.toArray := holds_of_block hg (by rw [Nat.mul_one] at h4; exact h4)
    refine (Try.slices_Sort_string g 0 cap zs w hH (lt_of_block hg) (by omega)).mono ?_
    rintro e w' ⟨rfl, n, os, rfl⟩
    refine ⟨rfl, ?_, grownBy_sorted _⟩
    rw [hl]
    exact ownsRow_sorted hl hb hg h1 h2 h3

theorem compact_row (base : Nat) (v : Value) (zs : List (List UInt8)) (w : World) (h : w.ownsRow base 9 1 v zs.length (zs.map encStr)) (hn : zs.length ≤ 100000) :
    Calls Try.prog 142 #[v] w fun e w' => (∃ v', e = .returned v' ∧ w'.ownsRow base 9 1 v' (Lib.compact zs).length ((Lib.compact zs).map encStr)) ∧ w.grownBy w' v.ownBlock := by
  rcases h.2 with ⟨hv, h0⟩ | ⟨g, cap, cur, hv, hb, hg, h1, h2, h3, h4⟩
  · have hz : zs = [] := List.eq_nil_of_length_eq_zero h0
    subst hz; subst hv
    refine (Try.slices_Compact_string_empty none 0 w).mono ?_
    rintro e w' ⟨rfl, rfl⟩
    exact ⟨⟨_, rfl, by rw [show Lib.compact ([] : List (List UInt8)) = [] from rfl]; exact World.ownsRow_nil _ _ _ _⟩, World.grownBy.refl _ _⟩
  · subst hv
    have hH : Holds encStr w g 0 zs.toArray := holds_of_block hg (by rw [Nat.mul_one] at h4; exact h4)
    refine (Try.slices_Compact_string g 0 cap zs w hH (by omega) h1).mono ?_
    rintro e w' ⟨rfl, q, hw⟩
    have hcl : (Lib.compact zs).length ≤ zs.length := compact_len zs
    have hlen : (Lib.compact zs ++ List.replicate (zs.length - (Lib.compact zs).length) []).length = zs.length := by simp; omega
    have hsz : zs.length ≤ cur.size := by omega
    have hw2 : w' = Sort.grow (Sort.putRow encStr (Sort.ahead w q) g 0 (Lib.compact zs ++ List.replicate (zs.length - (Lib.compact zs).length) []).toArray) #[] := by rw [grow_none]; exact hw
    have h5 := heap_sorted (n := q) (os := #[]) (Lib.compact zs ++ List.replicate (zs.length - (Lib.compact zs).length) []).toArray hg
    have h6 := take_putCells cur (Lib.compact zs ++ List.replicate (zs.length - (Lib.compact zs).length) []) (by omega)
    rw [← hw2] at h5
    refine ⟨⟨_, rfl, by simp, .inr ⟨g, cap, _, rfl, hb, h5, by omega, h2, by simp [Sort.putCells, h3], ?_⟩⟩, by rw [hw2]; exact grownBy_sorted _⟩
    rw [Nat.mul_one]
    have h7 := congrArg (List.take (Lib.compact zs).length) h6
    rw [List.take_take, Nat.min_eq_left (by omega)] at h7
    rw [h7, ← List.map_take, List.take_left]
end Go.Proofs.Ytgkhhfojioepgaa
