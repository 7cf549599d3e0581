/- What Turned returns, and the row of turned gates. -/
import Derived.Test.YtnjanjbjhbniiaaMSegIn
namespace Go.Proofs.Ytnjanjbjhbniiaa
open Go.RowKit
set_option linter.unusedSimpArgs false
set_option linter.unusedVariables false

theorem turn_snoc {gs : List Gt} {k : Nat} (h : k < gs.length) : (turnG gs).take (k + 1) = (turnG gs).take k ++ [gtTurn (gs[gs.length - 1 - k]'(by omega))] := by
  have hk : k < (turnG gs).length := by rw [turnG_len]; exact h
  rw [List.take_succ_eq_append_getElem hk]
  congr 1
  simp only [turnG, List.getElem_reverse, List.getElem_map, List.length_map]
theorem turn_all (gs : List Gt) : (turnG gs).take gs.length = turnG gs := by rw [List.take_of_length_le (by rw [turnG_len]; exact Nat.le_refl _)]
theorem gtRw_take {gs : List Gt} {k : Nat} (h : k < gs.length) : gtRw ((turnG gs).take (k + 1)) = gtRw ((turnG gs).take k) ++ gtCs (gtTurn (gs[gs.length - 1 - k]'(by omega))) := by
  rw [turn_snoc h, gtRw_snoc]
def tnN (s : Seg) : ByteArray := if segE s.name s.gs = 0 then s.name else ⟨#[]⟩
def tnL (s : Seg) : List Gt := if segE s.name s.gs = 0 then turnG s.gs else []
theorem gates_in {nm : ByteArray} {gs : List Gt} (h : segE nm gs = 0) : 2 ≤ gs.length ∧ gs.length ≤ 50 := by
  unfold segE at h
  split at h
  · split at h
    · assumption
    · omega
  · omega
theorem info_gt : (Try.prog.info? 73).map (fun i => (i.zero, i.size, i.bytes)) = some (some (.agg #[.int .i64 0, .int .i64 0, .int .i64 0, .int .i64 0]), 4, 32) := by kernel_rfl
theorem mown_setR {w : World} {base e size n : Nat} {v : Value} {xs : List Value} (h : w.ownsRow base e size v n xs) {B : Nat} (hB : B < base) (i : Nat) (u : Value) : (w.setCell ⟨B, i, none⟩ u).ownsRow base e size v n xs := by
  have hlt := h.lt
  refine h.kept (row := some B) ⟨rfl, rfl, rfl, by simp [World.setCell], fun k hk hne => Below.heap_setCell _ _ _ _ (fun e => hne (by rw [e]))⟩ ?_
  cases hv : v.ownBlock with
  | none => exact .inl rfl
  | some r => exact .inr (fun e => by have := (hlt r hv).1; injection e with e; omega)
theorem mgrown_row2 {w w1 w2 : World} {row : Option Nat} (h : w.grownBy w1 none) (g : w1.grownBy w2 row) (hr : ∀ r, row = some r → w.heap.size ≤ r) : w.grownBy w2 none :=
  ⟨g.os.trans h.os, g.tape.trans h.tape, g.output.trans h.output, Nat.le_trans h.size g.size, fun k hk _ => by
    rw [g.block k (Nat.lt_of_lt_of_le hk h.size) (fun e => by have := hr k e.symm; omega)]; exact h.block k hk (by simp)⟩
theorem mblock_row {W W' : World} {row : Option Nat} {b : Nat} {o : Obj} (h : W.heap[b]? = some o) (hg : W.grownBy W' row) (hr : ∀ r, row = some r → b < r) : W'.heap[b]? = some o := mblock_at h hg (fun e => by have := hr b e.symm; omega)
end Go.Proofs.Ytnjanjbjhbniiaa
