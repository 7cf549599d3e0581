/- Rows of numbers in a block. -/
import Derived.Test.YtbacoopopokkfaaDoorTAct
namespace Go.Proofs.YtbacoopopokkfaaDoor
open Go.RowKit
set_option linter.unusedSimpArgs false
set_option linter.unusedVariables false

theorem info_int : (Tryd.prog.info? 3).map (fun i => (i.zero, i.size, i.bytes)) = some (some (.int .i64 0), 1, 8) := by kernel_rfl
theorem lt_of_block {w : World} {k : Nat} {o : Obj} (h : w.heap[k]? = some o) : k < w.heap.size := (Array.getElem?_eq_some_iff.1 h).1
def iRow (n : Nat) (F : Nat → Int) : Array Value := ((List.range n).map fun k => Value.int .i64 (F k)).toArray
def updI (F : Nat → Int) (i : Nat) (v : Int) : Nat → Int := fun k => if k = i then v else F k
theorem iRow_get (n : Nat) (F : Nat → Int) (k : Nat) (h : k < n) : (iRow n F)[k]? = some (.int .i64 (F k)) := by simp [iRow, h]
theorem iRow_set (n : Nat) (F : Nat → Int) (k : Nat) (v : Int) : (iRow n F).setIfInBounds k (.int .i64 v) = iRow n (updI F k v) := by
  unfold iRow
  rw [List.setIfInBounds_toArray]
  congr 1
  apply List.ext_getElem
  · simp
  · intro i h1 h2
    rw [List.getElem_set]
    simp only [List.getElem_map, List.getElem_range, updI]
    by_cases e : k = i
    · rw [if_pos e, if_pos e.symm]
    · rw [if_neg e, if_neg (fun q => e q.symm)]
theorem iRow_congr {n : Nat} {F G : Nat → Int} (h : ∀ k, k < n → F k = G k) : iRow n F = iRow n G := by
  unfold iRow
  congr 1
  exact List.map_congr_left fun k hk => by rw [h k (List.mem_range.1 hk)]
theorem iRow_zero (n : Nat) : madeCells #[Value.int .i64 0] n = iRow n (fun _ => 0) := by
  apply Array.ext
  · simp [madeCells, iRow]
  · intro i h1 h2
    simp [madeCells, iRow, Nat.mod_one]

/-- A row of numbers in block g. -/
def RowAt (w : World) (g n : Nat) (F : Nat → Int) : Prop := w.heap[g]? = some (.cells (iRow n F) 3 (0, 0))
section
variable {w : World} {g n : Nat} {F : Nat → Int}
theorem RowAt.cell (h : RowAt w g n F) {k : Nat} (hk : k < n) : w.cell? ⟨g, k, none⟩ = some (.int .i64 (F k)) := by
  have h' : w.heap[g]? = _ := h
  simp [World.cell?, h', iRow_get n F k hk]
theorem RowAt.free (h : RowAt w g n F) (k : Nat) : w.frozen? ⟨g, k, none⟩ = false := by
  have h' : w.heap[g]? = _ := h
  simp [World.frozen?, h']
theorem RowAt.set (h : RowAt w g n F) (k : Nat) (v : Int) : RowAt (w.setCell ⟨g, k, none⟩ (.int .i64 v)) g n (updI F k v) := by
  have h' : w.heap[g]? = _ := h
  show (w.setCell ⟨g, k, none⟩ (.int .i64 v)).heap[g]? = _
  simp [World.setCell, Array.getElem?_modify, h', iRow_set]
theorem RowAt.far (h : RowAt w g n F) {g' : Nat} (ne : g ≠ g') (k : Nat) (v : Value) : RowAt (w.setCell ⟨g', k, none⟩ v) g n F := by
  show (w.setCell ⟨g', k, none⟩ v).heap[g]? = _
  rw [Below.heap_setCell _ _ _ _ ne]; exact h
theorem RowAt.same (h : RowAt w g n F) {w' : World} (e : w'.heap = w.heap) : RowAt w' g n F := by
  show w'.heap[g]? = _
  rw [e]; exact h
theorem RowAt.congr (h : RowAt w g n F) {G : Nat → Int} (e : ∀ k, k < n → F k = G k) : RowAt w g n G := by
  show w.heap[g]? = _
  rw [← iRow_congr e]; exact h
theorem RowAt.grown (h : RowAt w g n F) {w' : World} (hg : w.grownBy w' none) : RowAt w' g n F := by
  have h' : w.heap[g]? = _ := h
  show w'.heap[g]? = _
  rw [hg.block g (lt_of_block h') (by simp)]; exact h
end


end Go.Proofs.YtbacoopopokkfaaDoor
