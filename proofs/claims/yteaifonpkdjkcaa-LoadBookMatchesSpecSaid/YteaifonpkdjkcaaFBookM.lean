/- Books of loads in memory: the program's, a row of numbers, and the reference's, a map. -/
import Derived.Test.YteaifonpkdjkcaaFBookP
import Derived.Test.YteaifonpkdjkcaaFRStep
import Derived.Test.YteaifonpkdjkcaaFRow
import Derived.Maps.OwnOps
import Derived.Maps.Views
namespace Go.Proofs.Yteaifonpkdjkcaa
open Go.RowKit Go.Maps
set_option linter.unusedSimpArgs false
set_option linter.unusedVariables false

theorem blk_set {W : World} {B k : Nat} {c : Array Value} {t : TypeId} (h : W.heap[B]? = some (.cells c t (0, 0))) (v : Value) : (W.setCell ⟨B, k, none⟩ v).heap[B]? = some (.cells (c.setIfInBounds k v) t (0, 0)) := by
  simp [World.setCell, Array.getElem?_modify, h]
theorem blk_free {W : World} {B k : Nat} {c : Array Value} {t : TypeId} (h : W.heap[B]? = some (.cells c t (0, 0))) : W.frozen? ⟨B, k, none⟩ = false := by
  simp [World.frozen?, h]
theorem blk_cell {W : World} {B : Nat} {c : Array Value} {t : TypeId} (h : W.heap[B]? = some (.cells c t (0, 0))) (k : Nat) (v : Value) (hv : c[k]? = some v) : W.cell? ⟨B, k, none⟩ = some v := by
  simp [World.cell?, h, hv]
theorem blk_lt {W : World} {B : Nat} {o : Obj} (h : W.heap[B]? = some o) : B < W.heap.size := (Array.getElem?_eq_some_iff.1 h).1
theorem blk_at {w w' : World} {B : Nat} {o : Obj} {row : Option Nat} (h : w.heap[B]? = some o) (g : w.grownBy w' row) (hne : some B ≠ row) : w'.heap[B]? = some o := (g.block B (blk_lt h) hne).trans h

theorem own_blk_neF {w : World} {base e s n K t : Nat} {v : Value} {xs : List Value} {C : Array Value} {fr : Nat × Nat} (h : w.ownsRow base e s v n xs) (hk : w.heap[K]? = some (.cells C t fr)) (ne : e ≠ t) : ∀ r, v.ownBlock = some r → r ≠ K := fun r hr hrk => by
  subst hrk
  rcases h.2 with ⟨hv, _⟩ | ⟨g, c, cur, hv, _, hg, _⟩
  · rw [hv] at hr; cases hr
  · rw [hv] at hr; cases hr
    rw [hg] at hk
    injection hk with hk; injection hk with _ hk _
    exact ne hk
theorem own_outF {w : World} {base e size n : Nat} {v : Value} {xs : List Value} (h : w.ownsRow base e size v n xs) {P : Nat} (hP : ∀ r, v.ownBlock = some r → r ≠ P) (i : Nat) (u : Value) : (w.setCell ⟨P, i, none⟩ u).ownsRow base e size v n xs := by
  refine h.kept (row := some P) ⟨rfl, rfl, rfl, by simp [World.setCell], fun k hk hne => Below.heap_setCell _ _ _ _ (fun e => hne (by rw [e]))⟩ ?_
  cases hv : v.ownBlock with
  | none => exact .inl rfl
  | some r => exact .inr (fun e => by injection e with e; exact hP r hv e)
/-- What a step on a book leaves: all below B, and all that is neither the book's box nor a row of numbers. -/
structure Trn (B g : Nat) (w w' : World) : Prop where
  os : w'.os = w.os
  tape : w'.tape = w.tape
  output : w'.output = w.output
  size : w.heap.size ≤ w'.heap.size
  low : ∀ k, k < B → k < w.heap.size → w'.heap[k]? = w.heap[k]?
  cells : ∀ k o, w.heap[k]? = some o → k ≠ g → (∀ c fr, o ≠ .cells c 3 fr) → w'.heap[k]? = some o
section
variable {B g : Nat} {w w1 w2 : World}
theorem Trn.refl : Trn B g w w := ⟨rfl, rfl, rfl, Nat.le_refl _, fun _ _ _ => rfl, fun _ _ h _ _ => h⟩
theorem Trn.trans (h : Trn B g w w1) (k : Trn B g w1 w2) : Trn B g w w2 :=
  ⟨k.os.trans h.os, k.tape.trans h.tape, k.output.trans h.output, Nat.le_trans h.size k.size, fun i hi hl => (k.low i hi (Nat.lt_of_lt_of_le hl h.size)).trans (h.low i hi hl), fun i o ho hg hne => k.cells i o (h.cells i o ho hg hne) hg hne⟩
theorem Trn.of_grown (h : w.grownBy w1 none) : Trn B g w w1 :=
  ⟨h.os, h.tape, h.output, h.size, fun k _ hl => h.block k hl (by simp), fun k o ho _ _ => blk_at ho h (by simp)⟩
theorem Trn.of_row {n : Nat} {v : Value} {xs : List Value} (ho : w.ownsRow B 3 1 v n xs) (h : w.grownBy w1 v.ownBlock) : Trn B g w w1 := by
  refine ⟨h.os, h.tape, h.output, h.size, fun k hk hl => h.block k hl (fun e => by have := (ho.lt k e.symm).1; omega), fun k o hk _ hne => blk_at hk h (fun e => ?_)⟩
  rcases ho.2 with ⟨hv, _⟩ | ⟨g', cap, cur, hv, _, hg, _⟩
  · rw [hv] at e; cases e
  · rw [hv] at e; cases e
    rw [hg] at hk
    injection hk with hk
    exact hne _ _ hk.symm
theorem Trn.of_set {i : Nat} {v : Value} (hg : B ≤ g) : Trn B g w (w.setCell ⟨g, i, none⟩ v) :=
  ⟨rfl, rfl, rfl, by simp [World.setCell], fun k hk _ => Below.heap_setCell _ _ _ _ (by show k ≠ g; omega), fun k o ho hne _ => (Below.heap_setCell _ _ _ _ (by exact hne)).trans ho⟩
theorem Trn.grown {w0 : World} (h : Trn B g w w1) (h0 : w0.grownBy w none) (hB : w0.heap.size ≤ B) : w0.grownBy w1 none :=
  ⟨h.os.trans h0.os, h.tape.trans h0.tape, h.output.trans h0.output, Nat.le_trans h0.size h.size, fun k hk _ => (h.low k (by omega) (Nat.lt_of_lt_of_le hk h0.size)).trans (h0.block k hk (by simp))⟩
end

/-- The program's book. -/
structure PBk (w : World) (B g : Nat) (first f0 g0 : Int) (L : List Int) (ao : Option Addr) (cap : Nat) : Prop where
  b : w.heap[g]? = some (.cells #[.int .i64 first, .int .i64 f0, .int .i64 g0, .slice ao L.length cap] 169 (0, 0))
  r : w.ownsRow B 3 1 (.slice ao L.length cap) L.length (L.map (Value.int .i64))
  ge : B ≤ g
  bd : BdA L
  len : L.length ≤ 5000
section
variable {w w1 : World} {B g : Nat} {first f0 g0 : Int} {L : List Int} {ao : Option Addr} {cap : Nat}
theorem PBk.grown (h : PBk w B g first f0 g0 L ao cap) (hg : w.grownBy w1 none) : PBk w1 B g first f0 g0 L ao cap :=
  ⟨blk_at h.b hg (by simp), h.r.kept hg (by cases (Value.slice ao L.length cap).ownBlock <;> simp), h.ge, h.bd, h.len⟩
/-- A map is turned: the program's book stays. -/
theorem PBk.keptM (h : PBk w B g first f0 g0 L ao cap) {bm n : Nat} {D : DataW Unit} (hm : w.ownsMap Try.prog 3 (plainElem Try.prog 3) bm n D) (hg : w.grownBy w1 (some bm)) : PBk w1 B g first f0 g0 L ao cap := by
  obtain ⟨es, ck, hb, _⟩ := hm
  refine ⟨blk_at h.b hg (fun e => ?_), h.r.kept hg ?_, h.ge, h.bd, h.len⟩
  · injection e with e; subst e; rw [h.b] at hb; cases hb
  · rcases h.r.2 with ⟨hv, _⟩ | ⟨g', c, cur, hv, _, hg2, _⟩
    · rw [hv]; exact .inl rfl
    · rw [hv]
      refine .inr (fun e => ?_)
      cases e
      rw [hg2] at hb; cases hb
end

/-- The reference's book. -/
structure RBk (w : World) (B rb bm n : Nat) (first f0 g0 : Int) (F : Int → Int) : Prop where
  r : w.heap[rb]? = some (.cells #[.int .i64 first, .int .i64 f0, .int .i64 g0, .map (some bm)] 172 (0, 0))
  m : ∃ D : DataW Unit, w.ownsMap Try.prog 3 (plainElem Try.prog 3) bm n D ∧ IsMap D ∧ ∀ d, (Lit.int .i64 d).wf = true → D.atKey (.int .i64 d) (.lit (.int .i64 0)) = .lit (.int .i64 (F d))
  ge1 : B ≤ rb
  ge2 : B ≤ bm
section
variable {w w1 : World} {B g rb bm n : Nat} {first f0 g0 : Int} {F : Int → Int}
theorem RBk.grown (h : RBk w B rb bm n first f0 g0 F) (hg : w.grownBy w1 none) : RBk w1 B rb bm n first f0 g0 F := by
  obtain ⟨D, hm, h2⟩ := h.m
  exact ⟨blk_at h.r hg (by simp), ⟨D, hm.kept hg (by simp), h2⟩, h.ge1, h.ge2⟩
/-- A step on the program's book: the reference's stays. -/
theorem RBk.trn (h : RBk w B rb bm n first f0 g0 F) (t : Trn B g w w1) {c : Array Value} {fr : Nat × Nat} (hg : w.heap[g]? = some (.cells c 169 fr)) : RBk w1 B rb bm n first f0 g0 F := by
  obtain ⟨D, ⟨es, ck, hb, hF, hs, hD⟩, h2⟩ := h.m
  refine ⟨t.cells _ _ h.r (fun e => ?_) (fun c fr e => ?_), ⟨D, ⟨es, ck, t.cells _ _ hb (fun e => ?_) (fun c fr e => ?_), hF, hs, hD⟩, h2⟩, h.ge1, h.ge2⟩
  · subst e; rw [h.r] at hg; injection hg with hg; injection hg with _ hg _; exact absurd hg (by decide)
  · injection e with _ e _; exact absurd e (by decide)
  · subst e; rw [hb] at hg; cases hg
  · cases e
theorem wf_of {d : Int} (h : -9223372036854775808 ≤ d ∧ d ≤ 9223372036854775807) : (Lit.int .i64 d).wf = true := by
  simp only [Lit.wf, Bool.and_eq_true, decide_eq_true_eq]; exact h
end
theorem klaw : Keyed Try.prog 3 := int_keyed Try.underlying3
theorem kzero (w : World) : (zeroValue 3).run Try.prog w = .ok (.int .i64 0) w := by kernel_rfl
end Go.Proofs.Yteaifonpkdjkcaa
