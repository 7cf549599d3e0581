/- Rows of marks in a block. -/
import Derived.Test.YtgkhhfojioepgaaBaseC
namespace Go.Proofs.Ytgkhhfojioepgaa
open Go.RowKit
set_option linter.unusedSimpArgs false
set_option linter.unusedVariables false

theorem info_mark : (Try.prog.info? 4).map (fun i => (i.zero, i.size, i.bytes)) = some (some (.bool false), 1, 1) := by kernel_rfl
def kRow (n : Nat) (F : Nat → Bool) : Array Value := ((List.range n).map fun k => Value.bool (F k)).toArray
def updK (F : Nat → Bool) (i : Nat) (v : Bool) : Nat → Bool := fun k => if k = i then v else F k
theorem kRow_get (n : Nat) (F : Nat → Bool) (k : Nat) (h : k < n) : (kRow n F)[k]? = some (.bool (F k)) := by simp [kRow, h]
theorem kRow_set (n : Nat) (F : Nat → Bool) (k : Nat) (v : Bool) : (kRow n F).setIfInBounds k (.bool v) = kRow n (updK F k v) := by
  unfold kRow
  rw [List.setIfInBounds_toArray]
  congr 1
  apply List.ext_getElem
  · simp
  · intro i h1 h2
    rw [List.getElem_set]
    simp only [List.getElem_map, List.getElem_range, updK]
    by_cases e : k = i
    · rw [if_pos e, if_pos e.symm]
    · rw [if_neg e, if_neg (fun q => e q.symm)]
theorem kRow_congr {n : Nat} {F G : Nat → Bool} (h : ∀ k, k < n → F k = G k) : kRow n F = kRow n G := by
  unfold kRow
  congr 1
  exact List.map_congr_left fun k hk => by rw [h k (List.mem_range.1 hk)]
theorem kRow_zero (n : Nat) : madeCells #[Value.bool false] n = kRow n (fun _ => false) := by
  apply Array.ext
  · simp [madeCells, kRow]
  · intro i h1 h2
    simp [madeCells, kRow, Nat.mod_one]
/-- A row of marks in block g. -/
def MkAt (w : World) (g n : Nat) (F : Nat → Bool) : Prop := w.heap[g]? = some (.cells (kRow n F) 4 (0, 0))
section
variable {w : World} {g n : Nat} {F : Nat → Bool}
theorem MkAt.cell (h : MkAt w g n F) {k : Nat} (hk : k < n) : w.cell? ⟨g, k, none⟩ = some (.bool (F k)) := by
  have h' : w.heap[g]? = _ := h
  simp [World.cell?, h', kRow_get n F k hk]
theorem MkAt.free (h : MkAt w g n F) (k : Nat) : w.frozen? ⟨g, k, none⟩ = false := by
  have h' : w.heap[g]? = _ := h
  simp [World.frozen?, h']
theorem MkAt.set (h : MkAt w g n F) (k : Nat) (v : Bool) : MkAt (w.setCell ⟨g, k, none⟩ (.bool v)) g n (updK F k v) := by
  have h' : w.heap[g]? = _ := h
  show (w.setCell ⟨g, k, none⟩ (.bool v)).heap[g]? = _
  simp [World.setCell, Array.getElem?_modify, h', kRow_set]
theorem MkAt.congr (h : MkAt w g n F) {G : Nat → Bool} (e : ∀ k, k < n → F k = G k) : MkAt w g n G := by
  show w.heap[g]? = _
  rw [← kRow_congr e]; exact h
theorem MkAt.grown (h : MkAt w g n F) {w' : World} (hg : w.grownBy w' none) : MkAt w' g n F := by
  have h' : w.heap[g]? = _ := h
  show w'.heap[g]? = _
  rw [hg.block g (lt_of_block h') (by simp)]; exact h
theorem MkAt.lt (h : MkAt w g n F) : g < w.heap.size := lt_of_block h
end
end Go.Proofs.Ytgkhhfojioepgaa
