/- The boxes of rows; the fold of what an iterator yields. -/
import Derived.Test.YtgkhhfojioepgaaTDelF
import Derived.Test.YtgkhhfojioepgaaTSplitW
namespace Go.Proofs.Ytgkhhfojioepgaa
open Go.RowKit Go.Shelf
set_option linter.unusedSimpArgs false
set_option linter.unusedVariables false

/-- When a sample is. -/
def tmS (ss : List Smp) (k : Nat) : Int := (smpD ss k).t
def rP {ss : List Smp} (M : Nat → Bool) (pre : List (StepNo ss)) : List SpV := pre.foldl (fun acc x => rowS (tmS ss) acc x.1 (M x.1)) []
theorem rP_snoc {ss : List Smp} (M : Nat → Bool) (pre : List (StepNo ss)) (x : StepNo ss) : rP M (pre ++ [x]) = rowS (tmS ss) (rP M pre) x.1 (M x.1) := by simp [rP]
theorem rowS_len (T : Nat → Int) (acc : List SpV) (k : Nat) (m : Bool) : (rowS T acc k m).length ≤ acc.length + 1 := by
  unfold rowS
  split
  · split
    · simp
    · simp
  · omega
theorem rP_len' {ss : List Smp} (M : Nat → Bool) : ∀ (pre : List (StepNo ss)) (acc : List SpV), (pre.foldl (fun acc x => rowS (tmS ss) acc x.1 (M x.1)) acc).length ≤ acc.length + pre.length
  | [], acc => by simp
  | x :: r, acc => by
    have := rP_len' M r (rowS (tmS ss) acc x.1 (M x.1))
    have := rowS_len (tmS ss) acc x.1 (M x.1)
    simp only [List.foldl_cons, List.length_cons]; omega
theorem rP_len {ss : List Smp} (M : Nat → Bool) (pre : List (StepNo ss)) : (rP M pre).length ≤ pre.length := by
  have := rP_len' M pre []
  simpa [rP] using this
theorem rP_done {ss : List Smp} (M : Nat → Bool) : ∀ (m : Nat) (pre : List (StepNo ss)), pre.map (·.1) = List.range m → rP M pre = rowL (tmS ss) M m
  | 0, pre, h => by
    have e : pre = [] := List.map_eq_nil_iff.1 (h.trans rfl)
    subst e; rfl
  | m + 1, pre, h => by
    rw [List.range_succ] at h
    obtain ⟨a, b, hab, ha, hb⟩ := List.map_eq_append_iff.1 h
    obtain ⟨x, hx, hx2⟩ := List.map_eq_singleton_iff.1 hb
    rw [hab, hx, rP_snoc, rP_done M m a ha, hx2]
    rfl
/-- The boxes of rows. -/
structure RwB (w : World) (sl : Value) (least : Int) (mv v : Value) (W : World) : Prop where
  y : Boxed W w.heap.size 3 (.int .i64 least)
  m : Boxed W (w.heap.size + 1) 87 mv
  l : Boxed W (w.heap.size + 2) 37 v
  s : Boxed W (w.heap.size + 3) 22 sl
  b : Below w.heap.size w W
section
variable {w : World} {sl : Value} {least : Int} {mv v : Value} {W W' : World}
theorem rwB_new (w : World) (sl : Value) (least : Int) (mv : Value) : RwB w sl least mv (.slice none 0 0) ((((w.alloc (.cells #[.int .i64 least] 3)).alloc (.cells #[mv] 87)).alloc (.cells #[.slice none 0 0] 37)).alloc (.cells #[sl] 22)) := by
  refine ⟨?_, ?_, ?_, ?_, ?_⟩
  · exact (((Boxed.new w _ _).alloc _).alloc _).alloc _
  · have := ((Boxed.new (w.alloc (.cells #[.int .i64 least] 3)) 87 mv).alloc (.cells #[.slice none 0 0] 37)).alloc (.cells #[sl] 22); simpa using this
  · have := (Boxed.new ((w.alloc (.cells #[.int .i64 least] 3)).alloc (.cells #[mv] 87)) 37 (.slice none 0 0)).alloc (.cells #[sl] 22); simpa using this
  · have := Boxed.new (((w.alloc (.cells #[.int .i64 least] 3)).alloc (.cells #[mv] 87)).alloc (.cells #[.slice none 0 0] 37)) 22 sl; simpa using this
  · exact below_grown (grown_trans (grown_trans (grown_trans (World.grownBy_alloc _ _ _) (World.grownBy_alloc _ _ _)) (World.grownBy_alloc _ _ _)) (World.grownBy_alloc _ _ _))
theorem RwB.grown (h : RwB w sl least mv v W) {row : Option Nat} (hg : W.grownBy W' row) (hr : ∀ r, row = some r → w.heap.size + 4 ≤ r) : RwB w sl least mv v W' :=
  ⟨sp_keep (base := w.heap.size + 4) h.y hg (by omega) hr, sp_keep (base := w.heap.size + 4) h.m hg (by omega) hr, sp_keep (base := w.heap.size + 4) h.l hg (by omega) hr, sp_keep (base := w.heap.size + 4) h.s hg (by omega) hr, h.b.grown hg h.b.size (fun k e => by have := hr k e; omega)⟩
theorem RwB.own (h : RwB w sl least mv v W) {row : Option Nat} {B : Nat} (hB : w.heap.size ≤ B) (hg : W.grownBy W' row) (hr : ∀ r, row = some r → B ≤ r ∧ ∃ o : Obj, W.heap[r]? = some o ∧ o.isCells = false) : RwB w sl least mv v W' := by
  have k : ∀ {C : Nat} {t : TypeId} {u : Value}, Boxed W C t u → Boxed W' C t u := fun {C t u} hb => hb.kept hg (fun e => by
    obtain ⟨_, o, ho, hc⟩ := hr C e.symm
    rw [show W.heap[C]? = _ from hb] at ho; cases ho; cases hc)
  exact ⟨k h.y, k h.m, k h.l, k h.s, h.b.grown hg h.b.size (fun r e => Nat.le_trans hB (hr r e).1)⟩
theorem RwB.setL (h : RwB w sl least mv v W) (u : Value) : RwB w sl least mv u (W.setCell ⟨w.heap.size + 2, 0, none⟩ u) :=
  ⟨h.y.other (by omega) _, h.m.other (by omega) _, h.l.set u, h.s.other (by omega) _, h.b.setCell (by show _ ≤ w.heap.size + 2; omega) _⟩
theorem RwB.setR (h : RwB w sl least mv v W) {g : Nat} (hg : w.heap.size + 4 ≤ g) (i : Nat) (u : Value) : RwB w sl least mv v (W.setCell ⟨g, i, none⟩ u) := by
  have k : ∀ {C : Nat} {t : TypeId} {z : Value}, Boxed W C t z → C ≠ g → Boxed (W.setCell ⟨g, i, none⟩ u) C t z := fun {C t z} hb hne => (Below.heap_setCell _ _ _ _ (by show C ≠ g; exact hne)).trans hb
  exact ⟨k h.y (by omega), k h.m (by omega), k h.l (by omega), k h.s (by omega), h.b.setCell (by show _ ≤ g; omega) _⟩
end
theorem sp_set : ∀ (L : List SpV) (m : Nat) (h : m < L.length) (u : Int), (L.set m ⟨L[m].fr, u⟩).flatMap spCs = (L.flatMap spCs).set (m * 2 + 1) (.int .i64 u)
  | [], m, h, _ => absurd h (by simp)
  | x :: r, 0, _, u => by simp [spCs]
  | x :: r, m + 1, h, u => by
    have ih := sp_set r m (by simpa using h) u
    rw [List.set_cons_succ, List.flatMap_cons, List.flatMap_cons]
    simp only [List.getElem_cons_succ]
    rw [ih, List.set_append_right _ _ (by simp [spCs]; omega)]
    congr 2
    simp [spCs]; omega
theorem own_baseR {w : World} {base b2 s n : Nat} {e : TypeId} {v : Value} {xs : List Value} (h : w.ownsRow base e s v n xs) (hb : b2 ≤ base) : w.ownsRow b2 e s v n xs := by
  refine ⟨h.1, ?_⟩
  rcases h.2 with q | ⟨g, cap, cur, e1, e2, rest⟩
  · exact .inl q
  · exact .inr ⟨g, cap, cur, e1, Nat.le_trans hb e2, rest⟩
/-- What DeleteFunc is asked: is a span too short? -/
theorem short_is (f t least : Int) (B : Nat) (hf : -2000000 ≤ f ∧ f ≤ 2000000) (ht : -2000000 ≤ t ∧ t ≤ 2000000) (hl : least ≤ 2000000) (w : World) (hb : w.cell? ⟨B, 0, none⟩ = some (.int .i64 least)) :
    Calls Try.prog 132 (#[.agg #[.int .i64 f, .int .i64 t]] ++ #[.pointer (some ⟨B, 0, none⟩)]) w fun e w' => e = .returned (.bool (decide (t - f + 1 < least))) ∧ w.grownBy w' none := by
  have r1 : IntKind.i64.wrap (t - f) = t - f := IntWalk.i64_in _ (by omega)
  have r2 : IntKind.i64.wrap (t - f + 1) = t - f + 1 := IntWalk.i64_in _ (by omega)
  have hb2 : (w.alloc (.cells #[.int .i64 f, .int .i64 t] 45)).cell? ⟨B, 0, none⟩ = some (.int .i64 least) := grown_cell (World.grownBy_alloc _ _ _) hb
  show Calls Try.prog 132 #[.agg #[.int .i64 f, .int .i64 t], .pointer (some ⟨B, 0, none⟩)] w _
  go_enter Try.func132, Try.ntmps132
  go_wp2_with fail
  go_ret
  exact ⟨by first | rfl | simp, World.grownBy_alloc _ _ _⟩
end Go.Proofs.Ytgkhhfojioepgaa
