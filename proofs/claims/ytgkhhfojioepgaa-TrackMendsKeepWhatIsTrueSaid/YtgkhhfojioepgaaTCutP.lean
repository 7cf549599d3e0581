/- What Cut returns, purely. -/
import Derived.Test.YtgkhhfojioepgaaTMoved
namespace Go.Proofs.Ytgkhhfojioepgaa
open Go.RowKit
set_option linter.unusedSimpArgs false
set_option linter.unusedVariables false

theorem samp_t {ss : List Smp} (s : Int) : (sampV ss s).t = s := by
  unfold sampV atV
  split
  · assumption
  · unfold onV; rfl
def cutF (f t : Int) (x : Smp) : Bool := decide (f < x.t) && decide (x.t < t)
noncomputable def cutK (ss : List Smp) (f t : Int) (k : Nat) : List Smp := sampV ss f :: (ss.take k).filter (cutF f t)
noncomputable def cutL (ss : List Smp) (f t : Int) : List Smp := cutK ss f t ss.length ++ [sampV ss t]
theorem cutK_zero (ss : List Smp) (f t : Int) : cutK ss f t 0 = [sampV ss f] := by unfold cutK; simp
theorem cutK_in {ss : List Smp} {f t : Int} {k : Nat} (h : k < ss.length) (h1 : f < ss[k].t) (h2 : ss[k].t < t) : cutK ss f t (k + 1) = cutK ss f t k ++ [ss[k]] := by
  unfold cutK
  rw [List.take_succ_eq_append_getElem h, List.filter_append]
  have e : cutF f t ss[k] = true := by unfold cutF; simp [h1, h2]
  simp [e]
theorem cutK_out {ss : List Smp} {f t : Int} {k : Nat} (h : k < ss.length) (h1 : ¬ (f < ss[k].t ∧ ss[k].t < t)) : cutK ss f t (k + 1) = cutK ss f t k := by
  unfold cutK
  rw [List.take_succ_eq_append_getElem h, List.filter_append]
  have e : cutF f t ss[k] = false := by unfold cutF; simp; omega
  simp [e]
theorem cutK_le (ss : List Smp) (f t : Int) (k : Nat) : (cutK ss f t k).length ≤ ss.length + 1 := by
  unfold cutK
  have h1 := List.length_filter_le (cutF f t) (ss.take k)
  have h2 : (ss.take k).length ≤ ss.length := by simp; omega
  simp only [List.length_cons]; omega
theorem cutL_le (ss : List Smp) (f t : Int) : (cutL ss f t).length ≤ ss.length + 2 := by
  unfold cutL; have := cutK_le ss f t ss.length; simp; omega
theorem cutL_first (ss : List Smp) (f t : Int) : firstT (cutL ss f t) = f := by
  unfold cutL cutK; show (sampV ss f).t = f; exact samp_t f
theorem cutL_bd {ss : List Smp} (h : SOk ss) {f t : Int} (h0 : 0 ≤ f) (h1 : f < t) (h2 : t ≤ 1000000) : ∀ x ∈ cutL ss f t, 0 ≤ x.t ∧ x.t ≤ 1000000 := fun x hx => by
  unfold cutL cutK at hx
  rw [List.mem_append, List.mem_cons, List.mem_singleton] at hx
  rcases hx with (rfl | hx) | rfl
  · rw [samp_t]; omega
  · have hm := (List.mem_filter.1 hx).1
    have hm2 : x ∈ ss := List.mem_of_mem_take hm
    obtain ⟨i, hi, rfl⟩ := List.getElem_of_mem hm2
    have := h.inn i hi
    rw [smpD_at hi] at this
    omega
  · rw [samp_t]; omega
open Classical in
/-- A part, if it is right. -/
noncomputable def okV (p : Act) : Act × Int := (if chkE p = 0 then p else act0, chkE p)
open Classical in
/-- What Cut returns. -/
noncomputable def cutO (a : Act) (f t : Int) : Act × Int :=
  if chkE a = 0 then
    if a.ss.length = 0 then (act0, 13) else if 0 ≤ f ∧ f < t ∧ t ≤ spanL a.ss then okV (partV a f (cutL a.ss f t)) else (act0, 9)
  else (act0, chkE a)
theorem own_one {w : World} {base : Nat} (hb : base ≤ w.heap.size) (x : Smp) : (w.alloc (.cells #[.int .i64 x.t, .int .i64 x.x, .int .i64 x.y, .int .i64 x.z, .int .i64 x.p, .int .i64 x.q, .int .i64 x.s] 28)).ownsRow base 28 7 (.slice (some ⟨w.heap.size, 0, none⟩) 1 1) [x].length (smpRw [x]) :=
  ⟨rfl, .inr ⟨w.heap.size, 1, _, rfl, hb, heap_alloc_new w _, Nat.le_refl _, by decide, rfl, rfl⟩⟩
theorem ActNew.far {B : Nat} {w w' : World} {v : Value} {c : Act} (h : ActNew B w v c) (k : ∀ p : Addr, B ≤ p.block → w'.cell? p = w.cell? p) : ActNew B w' v c := by
  obtain ⟨so, sc, lo, lc, to_, tc, hv, ha, hf⟩ := h
  exact ⟨so, sc, lo, lc, to_, tc, hv, ha.far hf k, hf⟩
theorem own_kept {w w' : World} {base e s n : Nat} {v : Value} {xs : List Value} (h : w.ownsRow base e s v n xs) (g : w.grownBy w' none) : w'.ownsRow base e s v n xs := h.kept g (by cases v.ownBlock <;> simp)
theorem ActNew.same {B : Nat} {w : World} {v : Value} {ec : Int} {p q r : Act} (h : ActNew B w v (if ec = 0 then p else r)) (hpq : ec = 0 → (⟨p.name, p.sport, p.start, none, 0, p.ss, none, 0, p.ls, none, 0, p.ts⟩ : Act) = ⟨q.name, q.sport, q.start, none, 0, q.ss, none, 0, q.ls, none, 0, q.ts⟩) : ActNew B w v (if ec = 0 then q else r) := by
  by_cases h0 : ec = 0
  · rw [if_pos h0] at h ⊢
    have e := hpq h0
    injection e with a1 a2 a3 a4 a5 a6 a7 a8 a9 a10 a11 a12
    obtain ⟨so, sc, lo, lc, to_, tc, hv, ha, hf⟩ := h
    refine ⟨so, sc, lo, lc, to_, tc, ?_, ?_, ?_⟩
    · rw [← a1, ← a2, ← a3, ← a6, ← a9, ← a12]; exact hv
    · rw [← a1, ← a2, ← a3, ← a6, ← a9, ← a12]; exact ha
    · exact ⟨hf.s, hf.l, hf.t⟩
  · rw [if_neg h0] at h ⊢; exact h
theorem clb_row2 {w W W' : World} {A Z : Array Value} (h : ClB w A Z W) {row : Option Nat} (hg : W.grownBy W' row) (hr : ∀ r, row = some r → w.heap.size + 2 ≤ r) : ClB w A Z W' := by
  have n : ∀ b, b ≤ w.heap.size + 1 → some b ≠ row := fun b hb e => by have := hr b e.symm; omega
  exact ⟨block_at h.a hg (n _ (by omega)), block_at h.z hg (n _ (by omega)), grown_rowR h.g hg (fun r e => by have := hr r e; omega)⟩
theorem clb_row {w W W' : World} {A Z : Array Value} {o : Obj} (h : ClB w A Z W) {row : Option Nat} (hg : (W.alloc o).grownBy W' row) (hr : ∀ r, row = some r → w.heap.size + 2 ≤ r) : ClB w A Z W' := clb_row2 (h.grown (World.grownBy_alloc _ _ _)) hg hr
end Go.Proofs.Ytgkhhfojioepgaa
