/- What the reference's Climb keeps in memory. -/
import Derived.Test.YtkifmjohcmjeeaaTRBetter
namespace Go.Proofs.Ytkifmjohcmjeeaa
open Go.RowKit

/-- A worth in a block. -/
def WtAt (w : World) (g : Nat) (l : Wt) : Prop := w.heap[g]? = some (.cells #[.int .i64 l.sum, .int .i64 l.turns] 118 (0, 0))
theorem WtAt.cells {w : World} {g : Nat} {l : Wt} (h : WtAt w g l) : w.cell? ⟨g, 0, none⟩ = some (.int .i64 l.sum) ∧ w.cell? ⟨g, 1, none⟩ = some (.int .i64 l.turns) := by
  have h' : w.heap[g]? = _ := h
  refine ⟨?_, ?_⟩ <;> simp [World.cell?, h']
theorem WtAt.free {w : World} {g : Nat} {l : Wt} (h : WtAt w g l) (i : Nat) : w.frozen? ⟨g, i, none⟩ = false := by
  have h' : w.heap[g]? = _ := h
  simp [World.frozen?, h']
theorem WtAt.grown {w w' : World} {g : Nat} {l : Wt} (h : WtAt w g l) (hg : w.grownBy w' none) : WtAt w' g l :=
  (hg.block g (Array.getElem?_eq_some_iff.1 h).1 (by simp)).trans h
theorem WtAt.set {w : World} {g : Nat} {l : Wt} (h : WtAt w g l) (m : Wt) : WtAt ((w.setCell ⟨g, 0, none⟩ (.int .i64 m.sum)).setCell ⟨g, 1, none⟩ (.int .i64 m.turns)) g m := by
  have h' : w.heap[g]? = _ := h
  unfold WtAt
  simp [World.setCell, Array.getElem?_modify, h']
theorem WtAt.far {w : World} {g : Nat} {l : Wt} (h : WtAt w g l) {g' : Nat} (ne : g ≠ g') (i : Nat) (v : Value) : WtAt (w.setCell ⟨g', i, none⟩ v) g l := by
  show (w.setCell ⟨g', i, none⟩ v).heap[g]? = _
  rw [Below.heap_setCell _ _ _ _ ne]; exact h

/-- n: the block of the activity; the result, rising, falling and last lie behind it. -/
structure RcS (w : World) (so : Option Addr) (len sc : Nat) (wr : World) (A B C : Nat) (rising falling last : Wt) : Prop where
  g : w.grownBy wr none
  b3 : wr.cell? ⟨w.heap.size, 3, none⟩ = some (.slice so len sc)
  kz : wr.heap[w.heap.size + 1]? = some (.cells #[.int .i64 0, .int .i64 0, .int .i64 0] 75 (0, 0))
  a : WtAt wr A rising
  b : WtAt wr B falling
  c : WtAt wr C last
  ab : A ≠ B
  ac : A ≠ C
  bc : B ≠ C
  ha : w.heap.size + 1 < A
  hb : w.heap.size + 1 < B
  hc : w.heap.size + 1 < C

theorem RcS.grown {w : World} {so : Option Addr} {len sc : Nat} {wr wr' : World} {A B C : Nat} {n l h : Wt} (k : RcS w so len sc wr A B C n l h) (g : wr.grownBy wr' none) : RcS w so len sc wr' A B C n l h :=
  ⟨grown_trans k.g g, grown_cell g k.b3, (g.block _ (Array.getElem?_eq_some_iff.1 k.kz).1 (by simp)).trans k.kz, k.a.grown g, k.b.grown g, k.c.grown g, k.ab, k.ac, k.bc, k.ha, k.hb, k.hc⟩
theorem RcS.setA {w : World} {so : Option Addr} {len sc : Nat} {wr : World} {A B C : Nat} {n l h : Wt} (k : RcS w so len sc wr A B C n l h) (m : Wt) : RcS w so len sc ((wr.setCell ⟨A, 0, none⟩ (.int .i64 m.sum)).setCell ⟨A, 1, none⟩ (.int .i64 m.turns)) A B C m l h :=
  ⟨grown_set (grown_set k.g (by have := k.ha; omega) _ _) (by have := k.ha; omega) _ _,
   by rw [World.cell?_setCell_other, World.cell?_setCell_other]
      · exact k.b3
      all_goals (intro e; injection e with e1 _ _; have := k.ha; omega),
   by rw [Below.heap_setCell, Below.heap_setCell]
      · exact k.kz
      all_goals (show _ ≠ A; have := k.ha; omega),
   k.a.set m, (k.b.far k.ab.symm _ _).far k.ab.symm _ _, (k.c.far k.ac.symm _ _).far k.ac.symm _ _, k.ab, k.ac, k.bc, k.ha, k.hb, k.hc⟩
theorem RcS.swap {w : World} {so : Option Addr} {len sc : Nat} {wr : World} {A B C : Nat} {n l h : Wt} (k : RcS w so len sc wr A B C n l h) : RcS w so len sc wr B A C l n h := ⟨k.g, k.b3, k.kz, k.b, k.a, k.c, k.ab.symm, k.bc, k.ac, k.hb, k.ha, k.hc⟩
theorem RcS.turn {w : World} {so : Option Addr} {len sc : Nat} {wr : World} {A B C : Nat} {n l h : Wt} (k : RcS w so len sc wr A B C n l h) : RcS w so len sc wr C B A h l n := ⟨k.g, k.b3, k.kz, k.c, k.b, k.a, k.bc.symm, k.ac.symm, k.ab.symm, k.hc, k.hb, k.ha⟩
theorem RcS.setB {w : World} {so : Option Addr} {len sc : Nat} {wr : World} {A B C : Nat} {n l h : Wt} (k : RcS w so len sc wr A B C n l h) (m : Wt) : RcS w so len sc ((wr.setCell ⟨B, 0, none⟩ (.int .i64 m.sum)).setCell ⟨B, 1, none⟩ (.int .i64 m.turns)) A B C n m h := (k.swap.setA m).swap
theorem RcS.setC {w : World} {so : Option Addr} {len sc : Nat} {wr : World} {A B C : Nat} {n l h : Wt} (k : RcS w so len sc wr A B C n l h) (m : Wt) : RcS w so len sc ((wr.setCell ⟨C, 0, none⟩ (.int .i64 m.sum)).setCell ⟨C, 1, none⟩ (.int .i64 m.turns)) A B C n l m := (k.turn.setA m).turn

/-- How great a key can be. -/
theorem key_bd {th how : Int} {l : Ln} {k : Int} (h : l.bd k) (hk : k ≤ 20000) (t0 : 0 ≤ th) (t1 : th ≤ 200000) (hh : how = 1 ∨ how = -1 ∨ how = 0) : -20000000000 ≤ l.key th how ∧ l.key th how ≤ 20000000000 := by
  obtain ⟨a, b, c, d, e, f, g, i⟩ := h
  have hp := prod_bd t0 t1 e (by omega)
  have hp2 : th * l.turns ≤ 200000 * 20000 := Int.mul_le_mul t1 (by omega) e (by omega)
  unfold Ln.key Ln.worth
  rcases hh with rfl | rfl | rfl <;> omega
end Go.Proofs.Ytkifmjohcmjeeaa
