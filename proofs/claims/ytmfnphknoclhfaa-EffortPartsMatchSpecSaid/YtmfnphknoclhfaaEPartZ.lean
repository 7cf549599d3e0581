/- The contract of partOf, for no sample. -/
import Derived.Test.YtmfnphknoclhfaaEPartQ
import Derived.Test.YtmfnphknoclhfaaEApp
namespace Go.Proofs.Ytmfnphknoclhfaa
open Go.RowKit

noncomputable def partP (ss : List Smp) (f t : Int) : Prt := prtN ss f t (ss.length - 1)

set_option maxRecDepth 100000 in
set_option maxHeartbeats 3200000 in
theorem partOf_no (nm : ByteArray) (sp st : Int) (so : Option Addr) (sc : Nat) (lo : Option Addr) (lc : Nat) (ls : List LapV) (to_ : Option Addr) (tc : Nat) (ts : List ByteArray) (f t : Int) (w : World) {X : Prt} (HXX : Hid ((⟨0, 0, 0, 0, 0, 0, 0, 0⟩ : Prt) = X)) :
    Calls Try.prog 97 #[.agg #[.string nm, .int .i64 sp, .int .i64 st, .slice so 0 sc, .slice lo ls.length lc, .slice to_ ts.length tc], .int .i64 f, .int .i64 t] w fun e w' => e = .returned (.agg (X.cells f t)) ∧ w.grownBy w' none := by
  have HP0 : Hid (PoS w (((w.alloc (.cells #[.string nm, .int .i64 sp, .int .i64 st, .slice so 0 sc, .slice lo ls.length lc, .slice to_ ts.length tc] 42)).alloc (.cells #[.int .i64 0, .int .i64 0, .int .i64 0, .int .i64 0, .int .i64 0, .int .i64 0, .int .i64 0, .int .i64 0, .int .i64 0, .int .i64 0] 44)).alloc (.cells #[.int .i64 f, .int .i64 t, .int .i64 0, .int .i64 0, .int .i64 0, .int .i64 0, .int .i64 0, .int .i64 0, .int .i64 0, .int .i64 0] 44)) (.slice so 0 sc) f t ((⟨0, 0, 0, 0, 0, 0, 0, 0⟩ : Prt))) := by
    refine ⟨grown_trans (grown_trans (World.grownBy_alloc _ _ _) (World.grownBy_alloc _ _ _)) (World.grownBy_alloc _ _ _), by go_simp, ?_, ?_⟩
    · rw [Below.heap_alloc _ _ _ (by simp)]
      have q := heap_alloc_new (w.alloc (.cells #[.string nm, .int .i64 sp, .int .i64 st, .slice so 0 sc, .slice lo ls.length lc, .slice to_ ts.length tc] 42)) (.cells #[.int .i64 0, .int .i64 0, .int .i64 0, .int .i64 0, .int .i64 0, .int .i64 0, .int .i64 0, .int .i64 0, .int .i64 0, .int .i64 0] 44)
      simpa using q
    · have q := heap_alloc_new ((w.alloc (.cells #[.string nm, .int .i64 sp, .int .i64 st, .slice so 0 sc, .slice lo ls.length lc, .slice to_ ts.length tc] 42)).alloc (.cells #[.int .i64 0, .int .i64 0, .int .i64 0, .int .i64 0, .int .i64 0, .int .i64 0, .int .i64 0, .int .i64 0, .int .i64 0, .int .i64 0] 44)) (.cells #[.int .i64 f, .int .i64 t, .int .i64 0, .int .i64 0, .int .i64 0, .int .i64 0, .int .i64 0, .int .i64 0, .int .i64 0, .int .i64 0] 44)
      simpa using q
  go_enter Try.func97, Try.ntmps97
  go_wp2_with fail
  go_loopw [8] (fun iv wr => iv = .int .i64 1 ∧ Hid (PoS w wr (.slice so 0 sc) f t ⟨0, 0, 0, 0, 0, 0, 0, 0⟩))
    (fun _ _ => 0)
  case atStart => exact ⟨rfl, HP0.out⟩
  case round =>
    obtain ⟨rfl, hps⟩ := hrel
    have a3 := hps.out.a3
    have HX : Hid (PoS w wr (.slice so 0 sc) f t X) := by show PoS _ _ _ _ _ _; rw [← HXX.out]; exact hps.out
    clear HXX
    obtain ⟨y0, y1, y2, y3, y4, y5, y6, y7⟩ := X
    have hxx := HX.out.x
    have hrr := HX.out.r
    have x0 : wr.cell? ⟨w.heap.size + 1 + 1, 0, none⟩ = some (.int .i64 f) := by simp [World.cell?, hxx]
    have x1 : wr.cell? ⟨w.heap.size + 1 + 1, 1, none⟩ = some (.int .i64 t) := by simp [World.cell?, hxx]
    have x2 : wr.cell? ⟨w.heap.size + 1 + 1, 2, none⟩ = some (.int .i64 y0) := by simp [World.cell?, hxx]
    have x3 : wr.cell? ⟨w.heap.size + 1 + 1, 3, none⟩ = some (.int .i64 y1) := by simp [World.cell?, hxx]
    have x4 : wr.cell? ⟨w.heap.size + 1 + 1, 4, none⟩ = some (.int .i64 y2) := by simp [World.cell?, hxx]
    have x5 : wr.cell? ⟨w.heap.size + 1 + 1, 5, none⟩ = some (.int .i64 y3) := by simp [World.cell?, hxx]
    have x6 : wr.cell? ⟨w.heap.size + 1 + 1, 6, none⟩ = some (.int .i64 y4) := by simp [World.cell?, hxx]
    have x7 : wr.cell? ⟨w.heap.size + 1 + 1, 7, none⟩ = some (.int .i64 y5) := by simp [World.cell?, hxx]
    have x8 : wr.cell? ⟨w.heap.size + 1 + 1, 8, none⟩ = some (.int .i64 y6) := by simp [World.cell?, hxx]
    have x9 : wr.cell? ⟨w.heap.size + 1 + 1, 9, none⟩ = some (.int .i64 y7) := by simp [World.cell?, hxx]
    have r0 : wr.cell? ⟨w.heap.size + 1, 0, none⟩ = some (.int .i64 0) := by simp [World.cell?, hrr]
    have r1 : wr.cell? ⟨w.heap.size + 1, 1, none⟩ = some (.int .i64 0) := by simp [World.cell?, hrr]
    have r2 : wr.cell? ⟨w.heap.size + 1, 2, none⟩ = some (.int .i64 0) := by simp [World.cell?, hrr]
    have r3 : wr.cell? ⟨w.heap.size + 1, 3, none⟩ = some (.int .i64 0) := by simp [World.cell?, hrr]
    have r4 : wr.cell? ⟨w.heap.size + 1, 4, none⟩ = some (.int .i64 0) := by simp [World.cell?, hrr]
    have r5 : wr.cell? ⟨w.heap.size + 1, 5, none⟩ = some (.int .i64 0) := by simp [World.cell?, hrr]
    have r6 : wr.cell? ⟨w.heap.size + 1, 6, none⟩ = some (.int .i64 0) := by simp [World.cell?, hrr]
    have r7 : wr.cell? ⟨w.heap.size + 1, 7, none⟩ = some (.int .i64 0) := by simp [World.cell?, hrr]
    have r8 : wr.cell? ⟨w.heap.size + 1, 8, none⟩ = some (.int .i64 0) := by simp [World.cell?, hrr]
    have r9 : wr.cell? ⟨w.heap.size + 1, 9, none⟩ = some (.int .i64 0) := by simp [World.cell?, hrr]
    have e0 : wr.frozen? ⟨w.heap.size + 1, 0, none⟩ = false := by simp [World.frozen?, hrr]
    have e1 : wr.frozen? ⟨w.heap.size + 1, 1, none⟩ = false := by simp [World.frozen?, hrr]
    have e2 : wr.frozen? ⟨w.heap.size + 1, 2, none⟩ = false := by simp [World.frozen?, hrr]
    have e3 : wr.frozen? ⟨w.heap.size + 1, 3, none⟩ = false := by simp [World.frozen?, hrr]
    have e4 : wr.frozen? ⟨w.heap.size + 1, 4, none⟩ = false := by simp [World.frozen?, hrr]
    have e5 : wr.frozen? ⟨w.heap.size + 1, 5, none⟩ = false := by simp [World.frozen?, hrr]
    have e6 : wr.frozen? ⟨w.heap.size + 1, 6, none⟩ = false := by simp [World.frozen?, hrr]
    have e7 : wr.frozen? ⟨w.heap.size + 1, 7, none⟩ = false := by simp [World.frozen?, hrr]
    have e8 : wr.frozen? ⟨w.heap.size + 1, 8, none⟩ = false := by simp [World.frozen?, hrr]
    have e9 : wr.frozen? ⟨w.heap.size + 1, 9, none⟩ = false := by simp [World.frozen?, hrr]
    have HG := Lib.hid HX.out.g
    have HRR := Lib.hid hrr
    clear hxx hrr hps HX
    go_wp2_with fail
    obtain ⟨W1, hW1⟩ : ∃ W1, ((((((((((wr.setCell ⟨w.heap.size + 1, 0, none⟩ (.int .i64 f)).setCell ⟨w.heap.size + 1, 1, none⟩ (.int .i64 t)).setCell ⟨w.heap.size + 1, 2, none⟩ (.int .i64 y0)).setCell ⟨w.heap.size + 1, 3, none⟩ (.int .i64 y1)).setCell ⟨w.heap.size + 1, 4, none⟩ (.int .i64 y2)).setCell ⟨w.heap.size + 1, 5, none⟩ (.int .i64 y3)).setCell ⟨w.heap.size + 1, 6, none⟩ (.int .i64 y4)).setCell ⟨w.heap.size + 1, 7, none⟩ (.int .i64 y5)).setCell ⟨w.heap.size + 1, 8, none⟩ (.int .i64 y6)).setCell ⟨w.heap.size + 1, 9, none⟩ (.int .i64 y7)) = W1 := ⟨_, rfl⟩
    have hR1 : W1.heap[w.heap.size + 1]? = some (.cells #[.int .i64 f, .int .i64 t, .int .i64 y0, .int .i64 y1, .int .i64 y2, .int .i64 y3, .int .i64 y4, .int .i64 y5, .int .i64 y6, .int .i64 y7] 44 (0, 0)) := by
      rw [← hW1]; have := HRR.out; simp [World.setCell, Array.getElem?_modify, this]
    have hg1 : w.grownBy W1 none := by
      rw [← hW1]; exact grown_setR (grown_setR (grown_setR (grown_setR (grown_setR (grown_setR (grown_setR (grown_setR (grown_setR (grown_setR HG.out _ _) _ _) _ _) _ _) _ _) _ _) _ _) _ _) _ _) _ _
    have z0 : W1.cell? ⟨w.heap.size + 1, 0, none⟩ = some (.int .i64 f) := by simp [World.cell?, hR1]
    have z1 : W1.cell? ⟨w.heap.size + 1, 1, none⟩ = some (.int .i64 t) := by simp [World.cell?, hR1]
    have z2 : W1.cell? ⟨w.heap.size + 1, 2, none⟩ = some (.int .i64 y0) := by simp [World.cell?, hR1]
    have z3 : W1.cell? ⟨w.heap.size + 1, 3, none⟩ = some (.int .i64 y1) := by simp [World.cell?, hR1]
    have z4 : W1.cell? ⟨w.heap.size + 1, 4, none⟩ = some (.int .i64 y2) := by simp [World.cell?, hR1]
    have z5 : W1.cell? ⟨w.heap.size + 1, 5, none⟩ = some (.int .i64 y3) := by simp [World.cell?, hR1]
    have z6 : W1.cell? ⟨w.heap.size + 1, 6, none⟩ = some (.int .i64 y4) := by simp [World.cell?, hR1]
    have z7 : W1.cell? ⟨w.heap.size + 1, 7, none⟩ = some (.int .i64 y5) := by simp [World.cell?, hR1]
    have z8 : W1.cell? ⟨w.heap.size + 1, 8, none⟩ = some (.int .i64 y6) := by simp [World.cell?, hR1]
    have z9 : W1.cell? ⟨w.heap.size + 1, 9, none⟩ = some (.int .i64 y7) := by simp [World.cell?, hR1]
    rw [hW1]
    clear hW1
    refine bodyPost_ret (v := .agg #[.int .i64 f, .int .i64 t, .int .i64 y0, .int .i64 y1, .int .i64 y2, .int .i64 y3, .int .i64 y4, .int .i64 y5, .int .i64 y6, .int .i64 y7]) (by simp [results, Try.results97, go_sem, z0, z1, z2, z3, z4, z5, z6, z7, z8, z9]) rfl ⟨rfl, hg1⟩

end Go.Proofs.Ytmfnphknoclhfaa
