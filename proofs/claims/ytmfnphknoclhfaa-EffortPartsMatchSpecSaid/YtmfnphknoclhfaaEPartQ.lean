/- A part of an activity, step by step, and how it lies in memory. -/
import Derived.Test.YtmfnphknoclhfaaEPartP
namespace Go.Proofs.Ytmfnphknoclhfaa
open Go.RowKit

structure Prt where
  way : Int
  climb : Int
  pulse : Int
  power : Int
  steps : Int
  pk : Int
  wk : Int
  sk : Int
abbrev Prt.cells (x : Prt) (f t : Int) : Array Value := #[.int .i64 f, .int .i64 t, .int .i64 x.way, .int .i64 x.climb, .int .i64 x.pulse, .int .i64 x.power, .int .i64 x.steps, .int .i64 x.pk, .int .i64 x.wk, .int .i64 x.sk]
noncomputable def prtN (ss : List Smp) (f t : Int) (i : Nat) : Prt :=
  ⟨sumG (gA 4) ss t i - sumG (gA 4) ss f i, sumG (gA 5) ss t i - sumG (gA 5) ss f i, sumG (gV 1) ss t i - sumG (gV 1) ss f i, sumG (gV 2) ss t i - sumG (gV 2) ss f i, sumG (gV 3) ss t i - sumG (gV 3) ss f i,
   sumG (gK 1) ss t i - sumG (gK 1) ss f i, sumG (gK 2) ss t i - sumG (gK 2) ss f i, sumG (gK 3) ss t i - sumG (gK 3) ss f i⟩


/-- Where a part begins and ends in a step. -/
def cutF (p : Smp) (f : Int) : Int := max f p.t - p.t
def cutE (p q : Smp) (t : Int) : Int := min t q.t - p.t
theorem prt_stay {ss : List Smp} (h : SmpsIn ss) {f t : Int} (hft : f ≤ t) {k : Nat} (hk : k + 1 < ss.length) (hc : ¬ cutF (smpD ss k) f < cutE (smpD ss k) (smpD ss (k + 1)) t) : prtN ss f t (k + 1) = prtN ss f t k := by
  have e := (inStep_cut (h.step k hk).t hft).2 hc
  unfold prtN
  simp only [sumG, gA_eq, gV_eq, gK_eq, e]
  congr 1 <;> omega
theorem prt_go {ss : List Smp} (h : SmpsIn ss) {f t : Int} (hft : f ≤ t) {k : Nat} (hk : k + 1 < ss.length) {F E : Int} (hF : cutF (smpD ss k) f = F) (hE : cutE (smpD ss k) (smpD ss (k + 1)) t = E) (hc : F < E) :
    prtN ss f t (k + 1) = ⟨(prtN ss f t k).way + (upto (amtE (smpD ss k) (smpD ss (k + 1)) 4) ((smpD ss (k + 1)).t - (smpD ss k).t) E - upto (amtE (smpD ss k) (smpD ss (k + 1)) 4) ((smpD ss (k + 1)).t - (smpD ss k).t) F),
      (prtN ss f t k).climb + (upto (amtE (smpD ss k) (smpD ss (k + 1)) 5) ((smpD ss (k + 1)).t - (smpD ss k).t) E - upto (amtE (smpD ss k) (smpD ss (k + 1)) 5) ((smpD ss (k + 1)).t - (smpD ss k).t) F),
      addS (prtN ss f t k).pulse (valE (smpD ss k) (smpD ss (k + 1)) 1) (E - F), addS (prtN ss f t k).power (valE (smpD ss k) (smpD ss (k + 1)) 2) (E - F), addS (prtN ss f t k).steps (valE (smpD ss k) (smpD ss (k + 1)) 3) (E - F),
      addK (prtN ss f t k).pk (valE (smpD ss k) (smpD ss (k + 1)) 1) (E - F), addK (prtN ss f t k).wk (valE (smpD ss k) (smpD ss (k + 1)) 2) (E - F), addK (prtN ss f t k).sk (valE (smpD ss k) (smpD ss (k + 1)) 3) (E - F)⟩ := by
  obtain ⟨e1, e2⟩ := (inStep_cut (h.step k hk).t hft).1 (by unfold cutF at hF; unfold cutE at hE; omega)
  rw [show max f (smpD ss k).t - (smpD ss k).t = F from hF] at e1
  rw [show min t (smpD ss (k + 1)).t - (smpD ss k).t = E from hE] at e2
  unfold prtN addS addK
  simp only [sumG, gA_eq, gV_eq, gK_eq, e1, e2]
  congr 1
  · omega
  · omega
  · split
    · omega
    · rw [Int.mul_sub]; omega
  · split
    · omega
    · rw [Int.mul_sub]; omega
  · split
    · omega
    · rw [Int.mul_sub]; omega
  · split <;> omega
  · split <;> omega
  · split <;> omega
structure PrtBd (x : Prt) : Prop where
  w0 : 0 ≤ x.way
  w1 : x.way ≤ 6000000000000
  c0 : 0 ≤ x.climb
  c1 : x.climb ≤ 6000000000000
  p0 : 0 ≤ x.pulse
  p1 : x.pulse ≤ 60000000000000
  q0 : 0 ≤ x.power
  q1 : x.power ≤ 60000000000000
  s0 : 0 ≤ x.steps
  s1 : x.steps ≤ 60000000000000
  pk0 : 0 ≤ x.pk
  pk1 : x.pk ≤ 20000000000
  wk0 : 0 ≤ x.wk
  wk1 : x.wk ≤ 20000000000
  sk0 : 0 ≤ x.sk
  sk1 : x.sk ≤ 20000000000
theorem prt_bd {ss : List Smp} (h : SmpsIn ss) {f t : Int} (hft : f ≤ t) {k : Nat} (hk : k < ss.length) : PrtBd (prtN ss f t k) := by
  have hl := h.len
  have a := sumA_bd h 4 f t hft k hk
  have b := sumA_bd h 5 f t hft k hk
  have c := sumV_bd h 1 f t hft k hk
  have d := sumV_bd h 2 f t hft k hk
  have e := sumV_bd h 3 f t hft k hk
  have i := sumK_bd h 1 f t hft k hk
  have j := sumK_bd h 2 f t hft k hk
  have l := sumK_bd h 3 f t hft k hk
  unfold prtN
  exact ⟨a.1, by simp only; omega, b.1, by simp only; omega, c.1, by simp only; omega, d.1, by simp only; omega, e.1, by simp only; omega, i.1, by simp only; omega, j.1, by simp only; omega, l.1, by simp only; omega⟩

/-- The memory of partOf. -/
structure PoS (w wr : World) (v : Value) (f t : Int) (x : Prt) : Prop where
  g : w.grownBy wr none
  a3 : wr.cell? ⟨w.heap.size, 3, none⟩ = some v
  r : wr.heap[w.heap.size + 1]? = some (.cells #[.int .i64 0, .int .i64 0, .int .i64 0, .int .i64 0, .int .i64 0, .int .i64 0, .int .i64 0, .int .i64 0, .int .i64 0, .int .i64 0] 44 (0, 0))
  x : wr.heap[w.heap.size + 1 + 1]? = some (.cells (x.cells f t) 44 (0, 0))
theorem PoS.grown {w wr wr' : World} {v : Value} {f t : Int} {x : Prt} (h : PoS w wr v f t x) (g : wr.grownBy wr' none) : PoS w wr' v f t x :=
  ⟨grown_trans h.g g, grown_cell g h.a3, (g.block _ (Array.getElem?_eq_some_iff.1 h.r).1 (by simp)).trans h.r, (g.block _ (Array.getElem?_eq_some_iff.1 h.x).1 (by simp)).trans h.x⟩
theorem PoS.setc {w wr : World} {v : Value} {f t : Int} {x y : Prt} (h : PoS w wr v f t x) (i : Nat) (u : Value) (e : (x.cells f t).setIfInBounds i u = y.cells f t) : PoS w (wr.setCell ⟨w.heap.size + 1 + 1, i, none⟩ u) v f t y := by
  have hx := h.x
  refine ⟨?_, ?_, ?_, ?_⟩
  · have hb : w.heap.size ≤ w.heap.size + 1 + 1 := by omega
    exact ⟨h.g.os, h.g.tape, h.g.output, by have := h.g.size; simp [World.setCell]; omega, fun k hk _ => by
      rw [Below.heap_setCell _ _ _ _ (by show k ≠ w.heap.size + 1 + 1; omega)]; exact h.g.block k hk (by simp)⟩
  · rw [World.cell?_setCell_other _ _ _ _ (fun e => by injection e with e1 _ _; omega)]; exact h.a3
  · rw [Below.heap_setCell _ _ _ _ (by show w.heap.size + 1 ≠ w.heap.size + 1 + 1; omega)]; exact h.r
  · rw [← e]
    simp [World.setCell, Array.getElem?_modify, hx]

theorem grown_setR {w w1 : World} (h : w.grownBy w1 none) (i : Nat) (v : Value) : w.grownBy (w1.setCell ⟨w.heap.size + 1, i, none⟩ v) none :=
  ⟨h.os, h.tape, h.output, by have := h.size; simp [World.setCell]; omega, fun k hk _ => by
    rw [Below.heap_setCell _ _ _ _ (by show k ≠ w.heap.size + 1; omega)]; exact h.block k hk (by simp)⟩

end Go.Proofs.Ytmfnphknoclhfaa
