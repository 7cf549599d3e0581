/- Rows of structs of K cells, of any kind: as they lie in memory. -/
import Derived.Test.YtbacoopopokkfaaDoorTAct
import Derived.Test.YtbacoopopokkfaaDoorTRow
import Derived.Deep.OwnRows
namespace Go.Proofs.YtbacoopopokkfaaDoor
open Go.RowKit
set_option linter.unusedSimpArgs false
set_option linter.unusedVariables false

theorem mflat_len {α : Type} (f : α → List Value) (c : Nat) (hf : ∀ x, (f x).length = c) : ∀ l : List α, (l.flatMap f).length = l.length * c
  | [] => by simp
  | x :: r => by rw [List.flatMap_cons, List.length_append, hf, mflat_len f c hf r, List.length_cons, Nat.add_mul]; omega
theorem mflat_at {α : Type} (f : α → List Value) (c : Nat) (hf : ∀ x, (f x).length = c) : ∀ (l : List α) (j i : Nat) (hj : j < l.length), i < c → (l.flatMap f)[j * c + i]? = (f l[j])[i]?
  | x :: r, 0, i, _, hi => by
    rw [List.flatMap_cons, List.getElem?_append_left (by rw [hf]; omega)]; simp
  | x :: r, j + 1, i, hj, hi => by
    rw [List.flatMap_cons, List.getElem?_append_right (by rw [hf, Nat.add_mul]; omega), hf]
    have e : (j + 1) * c + i - c = j * c + i := by rw [Nat.add_mul]; omega
    rw [e]
    exact mflat_at f c hf r j i (by simpa using hj) hi
theorem mflat_snoc {α : Type} (f : α → List Value) (l : List α) (x : α) : (l ++ [x]).flatMap f = l.flatMap f ++ f x := by simp
theorem madd_off (b o k : Nat) : (⟨b, o, none⟩ : Addr).add k = ⟨b, o + k, none⟩ := by unfold Addr.add; split <;> simp_all

theorem mblock_at {W W' : World} {row : Option Nat} {b : Nat} {o : Obj} (h : W.heap[b]? = some o) (hg : W.grownBy W' row) (hne : some b ≠ row) : W'.heap[b]? = some o := (hg.block b (Array.getElem?_eq_some_iff.1 h).1 hne).trans h
theorem mblock_cell {W : World} {B : Nat} {c : Array Value} {t : TypeId} (h : W.heap[B]? = some (.cells c t (0, 0))) (k : Nat) (v : Value) (hv : c[k]? = some v) : W.cell? ⟨B, k, none⟩ = some v := by simp [World.cell?, h, hv]
theorem mblock_free {W : World} {B k : Nat} {c : Array Value} {t : TypeId} (h : W.heap[B]? = some (.cells c t (0, 0))) : W.frozen? ⟨B, k, none⟩ = false := by simp [World.frozen?, h]
theorem mheap_new (w : World) (o : Obj) : (w.alloc o).heap[w.heap.size]? = some o := heap_alloc_new w o

theorem mgrown_set {w w1 : World} {b : Nat} (h : w.grownBy w1 none) (hb : w.heap.size ≤ b) (k : Nat) (v : Value) : w.grownBy (w1.setCell ⟨b, k, none⟩ v) none :=
  ⟨h.os, h.tape, h.output, Nat.le_trans h.size (by simp [World.setCell]), fun i hi hne => by
    rw [Below.heap_setCell _ _ _ _ (by show i ≠ b; omega)]; exact h.block i hi hne⟩

theorem mblock_set {W : World} {B k : Nat} {c : Array Value} {t : TypeId} (h : W.heap[B]? = some (.cells c t (0, 0))) (v : Value) : (W.setCell ⟨B, k, none⟩ v).heap[B]? = some (.cells (c.setIfInBounds k v) t (0, 0)) := by
  simp [World.setCell, Array.getElem?_modify, h]
theorem mblock_far {W : World} {b b2 : Nat} {o : Obj} (h : W.heap[b]? = some o) (hne : b ≠ b2) (k : Nat) (v : Value) : (W.setCell ⟨b2, k, none⟩ v).heap[b]? = some o := by rw [Below.heap_setCell _ _ _ _ hne]; exact h
theorem smps_at1 {w : World} {ao : Option Addr} {l : List Smp} (h : SmpsAt w ao l) (hne : 0 < l.length) : ∃ b off, ao = some ⟨b, off, none⟩ ∧ ∀ i (h : i < l.length), w.cell? ⟨b, off + i * 7, none⟩ = some (.int .i64 l[i].t) ∧ w.cell? ⟨b, off + i * 7 + 1, none⟩ = some (.int .i64 l[i].x) ∧ w.cell? ⟨b, off + i * 7 + 2, none⟩ = some (.int .i64 l[i].y) ∧ w.cell? ⟨b, off + i * 7 + 3, none⟩ = some (.int .i64 l[i].z) ∧ w.cell? ⟨b, off + i * 7 + 4, none⟩ = some (.int .i64 l[i].p) ∧ w.cell? ⟨b, off + i * 7 + 5, none⟩ = some (.int .i64 l[i].q) ∧ w.cell? ⟨b, off + i * 7 + 6, none⟩ = some (.int .i64 l[i].s) := by
  have hn : l ≠ [] := fun e => by rw [e] at hne; simp at hne
  cases hao : ao with
  | none => exact absurd (h.nil hao) hn
  | some p =>
    obtain ⟨b, off, spot⟩ := p
    have hsp := h.spot _ hao hn
    simp only at hsp
    subst hsp
    exact ⟨b, off, rfl, fun i hi => h.cells _ hao i hi⟩

/-- Elements of K cells lie at an address. -/
structure RowsAt {α : Type} (cs : α → List Value) (K : Nat) (w : World) (ao : Option Addr) (l : List α) : Prop where
  nil : ao = none → l = []
  spot : ∀ a, ao = some a → l ≠ [] → a.spot = none
  cells : ∀ a, ao = some a → ∀ i (h : i < l.length) k v, (cs l[i])[k]? = some v → w.cell? ⟨a.block, a.off + i * K + k, none⟩ = some v
section
variable {α : Type} {cs : α → List Value} {K : Nat} {w w' : World} {ao : Option Addr} {l : List α}
theorem RowsAt.grown (h : RowsAt cs K w ao l) (g : w.grownBy w' none) : RowsAt cs K w' ao l :=
  ⟨h.nil, h.spot, fun a ha i hi k v hv => grown_cell g (h.cells a ha i hi k v hv)⟩
theorem RowsAt.kept (h : RowsAt cs K w ao l) {row : Option Nat} (g : w.grownBy w' row) (hr : ∀ a, ao = some a → l ≠ [] → some a.block ≠ row) : RowsAt cs K w' ao l :=
  ⟨h.nil, h.spot, fun a ha i hi k v hv => g.cell (h.cells a ha i hi k v hv) (hr a ha (fun e => by subst e; simp at hi))⟩
theorem rows_empty (a : Option Addr) : RowsAt cs K w a [] := ⟨fun _ => rfl, fun _ _ h => absurd rfl h, fun _ _ _ h => absurd h (Nat.not_lt_zero _)⟩
theorem rows_at (h : RowsAt cs K w ao l) (hl : 0 < l.length) : ∃ g o, ao = some ⟨g, o, none⟩ ∧ ∀ i (hi : i < l.length) k v, (cs l[i])[k]? = some v → w.cell? ⟨g, o + i * K + k, none⟩ = some v := by
  have hne : l ≠ [] := fun e => by subst e; simp at hl
  cases ao with
  | none => exact absurd (h.nil rfl) hne
  | some a =>
    have hs := h.spot a rfl hne
    obtain ⟨b, o, s⟩ := a
    simp only at hs; subst hs
    exact ⟨b, o, rfl, fun i hi k v hv => h.cells _ rfl i hi k v hv⟩
theorem rows_block {g : Nat} {t : TypeId} {c : Array Value} (hcs : ∀ x, (cs x).length = K) (h : w.heap[g]? = some (.cells c t (0, 0))) (hc : c.toList = l.flatMap cs) : RowsAt cs K w (some ⟨g, 0, none⟩) l :=
  ⟨fun h => by simp at h, fun a ha _ => by cases ha; rfl, fun a ha i hi k v hv => by
    cases ha
    have hk : k < K := by rw [← hcs l[i]]; exact (List.getElem?_eq_some_iff.1 hv).1
    refine mblock_cell h _ v ?_
    rw [← Array.getElem?_toList, hc, Nat.zero_add, mflat_at cs K hcs l i k hi hk]; exact hv⟩
theorem own_rows {base : Nat} {e : TypeId} {v : Value} (hcs : ∀ x, (cs x).length = K) (h : w.ownsRow base e K v l.length (l.flatMap cs)) : ∃ ao cap, v = .slice ao l.length cap ∧ l.length ≤ cap ∧ RowsAt cs K w ao l ∧ (∀ a, ao = some a → base ≤ a.block ∧ a.block < w.heap.size) := by
  have hlt := h.lt
  rcases h.2 with ⟨hv, h0⟩ | ⟨g, cap, cur, hv, hb, hg, hle, _⟩
  · have hl : l = [] := List.eq_nil_of_length_eq_zero h0
    subst hl
    exact ⟨none, 0, hv, Nat.le_refl _, rows_empty none, fun a h => by simp at h⟩
  · refine ⟨some ⟨g, 0, none⟩, cap, hv, hle, ⟨fun h => by simp at h, fun a ha _ => by cases ha; rfl, fun a ha i hi k u hu => ?_⟩, fun a ha => by cases ha; exact hlt g (by rw [hv]; rfl)⟩
    cases ha
    have hk : k < K := by rw [← hcs l[i]]; exact (List.getElem?_eq_some_iff.1 hu).1
    have := h.cells (g := g) (by rw [hv]; rfl) (i * K + k) u (by rw [mflat_at cs K hcs l i k hi hk]; exact hu)
    rw [madd_off] at this; simpa [Nat.add_assoc] using this
end
end Go.Proofs.YtbacoopopokkfaaDoor
