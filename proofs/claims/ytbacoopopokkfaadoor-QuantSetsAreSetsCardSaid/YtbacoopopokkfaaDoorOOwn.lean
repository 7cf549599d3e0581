/- Rows of one's own that are sorted: into the worlds of a sort, and out of them. -/
import Derived.Test.YtbacoopopokkfaaDoorOKit
import Derived.Test.YtbacoopopokkfaaDoorMRows
import Derived.Sort.OwnSorted
namespace Go.Proofs.YtbacoopopokkfaaDoor
open Go.RowKit
set_option linter.unusedSimpArgs false
set_option linter.unusedVariables false

theorem heap_sortedV {w : World} {g n : Nat} {os : Array Obj} {cur : Array Value} {e : TypeId} {fr : Nat × Nat} (d : Array Value) (hb : w.heap[g]? = some (.cells cur e fr)) :
    (Go.Sort.grow (Go.Sort.putRow id (Go.Sort.ahead w n) g 0 d) os).heap[g]? = some (.cells (Go.Sort.putCells id 0 d cur) e fr) := by
  have hg : g < w.heap.size := (Array.getElem?_eq_some_iff.1 hb).1
  rw [Go.Sort.heap_grow_old _ _ (by simpa using hg)]
  simp [Go.Sort.putRow, Go.Sort.mapBlock, Go.Sort.ahead, Array.getElem?_modify, hb, Go.Sort.onCells]
theorem grownBy_sortedV {w : World} {g n : Nat} {os : Array Obj} (d : Array Value) : w.grownBy (Go.Sort.grow (Go.Sort.putRow id (Go.Sort.ahead w n) g 0 d) os) (some g) := by
  refine ⟨rfl, rfl, rfl, by simp, fun k hk hne => ?_⟩
  rw [Go.Sort.heap_grow_old _ _ (by simpa using hk)]
  have : g ≠ k := fun e => hne (by rw [e])
  simp [Go.Sort.putRow, Go.Sort.mapBlock, Go.Sort.ahead, Array.getElem?_modify, this]

section
variable {P : Program} {enc : Nat → List Value} {K n g : Nat} {w0 W : World} {G : Nat} {CB : Array Value} {cf : Nat → Nat → Int} {key : Nat → Int} {f : Nat → Nat}
theorem flat_at (hk : ∀ x, (enc x).length = K) (f : Nat → Nat) {j : Nat} (hj : j < n * K) : (((List.range n).map f).flatMap enc)[j]? = some (Go.Sort.flatK enc K (fA n f))[j]! := by
  have hK : 0 < K := by
    rcases Nat.eq_zero_or_pos K with h | h
    · subst h; simp at hj
    · exact h
  have h1 : j % K < K := Nat.mod_lt _ hK
  have h2 : j / K < n := Nat.div_lt_of_lt_mul (by rw [Nat.mul_comm]; exact hj)
  have he : j = j / K * K + j % K := by have := Nat.div_add_mod j K; rw [Nat.mul_comm]; exact this.symm
  rw [Go.Sort.get_flatK _ _ _ _ (by rw [fA_size]; exact hj), fA_get h2]
  rw [show (((List.range n).map f).flatMap enc)[j]? = (((List.range n).map f).flatMap enc)[j / K * K + j % K]? from by rw [← he]]
  rw [mflat_at enc K hk _ _ _ (by simpa using h2) h1]
  simp only [List.getElem_map, List.getElem_range]
  rw [List.getElem?_eq_getElem (by rw [hk]; exact h1), getElem!_pos _ _ (by rw [hk]; exact h1)]
/-- Out of a sort's world: the row is owned, and holds the elements in their new places. -/
theorem SorK.owns {base cap : Nat} {e : TypeId} {cur : Array Value} (h : SorK enc K n g 0 w0 f W) (hk : ∀ x, (enc x).length = K) (hbase : base ≤ g) (hb : w0.heap[g]? = some (.cells cur e (0, 0)))
    (h1 : n ≤ cap) (h2 : cap ≤ maxLen) (h3 : cur.size = cap * K) : W.ownsRow base e K (.slice (some ⟨g, 0, none⟩) n cap) n (((List.range n).map f).flatMap enc) := by
  obtain ⟨m, os, hW⟩ := h.S
  subst hW
  have hle : n * K ≤ cur.size := by rw [h3]; exact Nat.mul_le_mul_right K h1
  refine ⟨by rw [mflat_len enc K hk]; simp, .inr ⟨g, cap, _, rfl, hbase, heap_sortedV _ hb, h1, h2, by simp [Go.Sort.putCells, h3], ?_⟩⟩
  apply List.ext_getElem?
  intro j
  by_cases hj : j < n * K
  · rw [List.getElem?_take_of_lt hj, Array.getElem?_toList, flat_at hk f hj]
    have hs : (Go.Sort.flatK enc K (fA n f)).size = n * K := by rw [Go.Sort.size_flatK, fA_size]
    simp only [Go.Sort.putCells, Array.getElem?_mapIdx, Array.getElem?_eq_getElem (show j < cur.size by omega), Option.map_some, Nat.zero_add, Nat.zero_le, true_and, hs, hj, if_true, Nat.sub_zero, id]
  · rw [List.getElem?_take_eq_none (by omega), List.getElem?_eq_none (by rw [mflat_len enc K hk]; simp; omega)]
theorem SorK.keeps (h : SorK enc K n g 0 w0 f W) : w0.grownBy W (some g) := by
  obtain ⟨m, os, hW⟩ := h.S
  subst hW
  exact grownBy_sortedV _
/-- Into a sort's world: a row that is owned holds its elements. -/
theorem own_holds {base cap : Nat} {e : TypeId} (hk : ∀ x, (enc x).length = K) (h : w0.ownsRow base e K (.slice (some ⟨g, 0, none⟩) n cap) n ((List.range n).flatMap enc)) :
    Go.Sort.HoldsK enc K w0 g 0 (fA n fun k => k) ∧ g < w0.heap.size ∧ base ≤ g ∧ n ≤ cap ∧ cap ≤ maxLen ∧ ∃ cur, w0.heap[g]? = some (.cells cur e (0, 0)) ∧ cur.size = cap * K := by
  rcases h.2 with ⟨hv, _⟩ | ⟨g', cap', cur, hv, hbase, hg, h1, h2, h3, h4⟩
  · cases hv
  · injection hv with e1 e2 e3
    injection e1 with e1; injection e1 with e1 _ _
    subst e1; subst e3
    refine ⟨?_, (Array.getElem?_eq_some_iff.1 hg).1, hbase, h1, h2, cur, hg, h3⟩
    intro j hj
    rw [Go.Sort.size_flatK, fA_size] at hj
    refine ⟨?_, by simp [World.frozen?, hg]⟩
    have hle : n * K ≤ cur.size := by rw [h3]; exact Nat.mul_le_mul_right K h1
    have q := flat_at (n := n) hk (fun k => k) hj
    rw [show (List.range n).map (fun k => k) = List.range n from List.map_id _] at q
    rw [← h4, List.getElem?_take_of_lt hj, Array.getElem?_toList] at q
    simp only [World.cell?, hg, Nat.zero_add, Option.isSome_none, Bool.false_eq_true, if_false, id]
    exact q
end
end Go.Proofs.YtbacoopopokkfaaDoor
