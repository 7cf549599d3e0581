/- The contract of the reference's PartOf, for any activity. -/
import Derived.Test.YtmfnphknoclhfaaERStreams
import Derived.Test.YtmfnphknoclhfaaEPartE
namespace Go.Proofs.Ytmfnphknoclhfaa
open Go.RowKit

noncomputable def partR (ss : List Smp) (f t : Int) : Prt :=
  ⟨knS (segL f.toNat t.toNat (streamS 4 ss)), knS (segL f.toNat t.toNat (streamS 5 ss)), knS (segL f.toNat t.toNat (streamS 1 ss)), knS (segL f.toNat t.toNat (streamS 2 ss)), knS (segL f.toNat t.toNat (streamS 3 ss)),
   knK (segL f.toNat t.toNat (streamS 1 ss)), knK (segL f.toNat t.toNat (streamS 2 ss)), knK (segL f.toNat t.toNat (streamS 3 ss))⟩
set_option maxRecDepth 100000 in
set_option maxHeartbeats 3200000 in
theorem rPartOf_chk (nm : ByteArray) (sp st : Int) (so : Option Addr) (sc : Nat) (ss : List Smp) (lo : Option Addr) (lc : Nat) (ls : List LapV) (to_ : Option Addr) (tc : Nat) (ts : List ByteArray) (f t : Int) (w : World) (ce : Int) (hce : ce ≠ 0) (HA : Hid (ActAt w ⟨nm, sp, st, so, sc, ss, lo, lc, ls, to_, tc, ts⟩)) (HCE : Hid (chkE ⟨nm, sp, st, so, sc, ss, lo, lc, ls, to_, tc, ts⟩ = ce)) :
    Calls Try.prog 27 #[.agg #[.string nm, .int .i64 sp, .int .i64 st, .slice so ss.length sc, .slice lo ls.length lc, .slice to_ ts.length tc], .int .i64 f, .int .i64 t] w fun e w' => e = .returned (.tuple #[.agg #[.int .i64 0, .int .i64 0, .int .i64 0, .int .i64 0, .int .i64 0, .int .i64 0, .int .i64 0, .int .i64 0, .int .i64 0, .int .i64 0], .int .i64 ce]) ∧ w.grownBy w' none := by
  have hne : (ce != 0) = true := by simpa using hce
  go_enter Try.func27, Try.ntmps27
  have GB : Hid (w.grownBy (w.alloc (.cells #[.string nm, .int .i64 sp, .int .i64 st, .slice so ss.length sc, .slice lo ls.length lc, .slice to_ ts.length tc] 42)) none) := World.grownBy_alloc _ _ _
  have GC : Hid (w.grownBy ((w.alloc (.cells #[.string nm, .int .i64 sp, .int .i64 st, .slice so ss.length sc, .slice lo ls.length lc, .slice to_ ts.length tc] 42)).alloc (.cells #[.int .i64 0, .int .i64 0, .int .i64 0, .int .i64 0, .int .i64 0, .int .i64 0, .int .i64 0, .int .i64 0, .int .i64 0, .int .i64 0] 44)) none) := grown_trans (World.grownBy_alloc _ _ _) (World.grownBy_alloc _ _ _)
  have RB : Hid (((w.alloc (.cells #[.string nm, .int .i64 sp, .int .i64 st, .slice so ss.length sc, .slice lo ls.length lc, .slice to_ ts.length tc] 42)).alloc (.cells #[.int .i64 0, .int .i64 0, .int .i64 0, .int .i64 0, .int .i64 0, .int .i64 0, .int .i64 0, .int .i64 0, .int .i64 0, .int .i64 0] 44)).heap[w.heap.size + 1]? = some (.cells #[.int .i64 0, .int .i64 0, .int .i64 0, .int .i64 0, .int .i64 0, .int .i64 0, .int .i64 0, .int .i64 0, .int .i64 0, .int .i64 0] 44 (0, 0))) := by
    have q := heap_alloc_new (w.alloc (.cells #[.string nm, .int .i64 sp, .int .i64 st, .slice so ss.length sc, .slice lo ls.length lc, .slice to_ ts.length tc] 42)) (.cells #[.int .i64 0, .int .i64 0, .int .i64 0, .int .i64 0, .int .i64 0, .int .i64 0, .int .i64 0, .int .i64 0, .int .i64 0, .int .i64 0] 44)
    show _ = _
    simpa using q
  go_wp2_with fail
  refine (rcheck_any ⟨nm, sp, st, so, sc, ss, lo, lc, ls, to_, tc, ts⟩ _ (HA.out.grown GC.out) HCE).mono ?_; rintro e w1 ⟨rfl, hg1⟩
  have G1 := Lib.hid (grown_trans GC.out hg1)
  have R1 : Hid (w1.heap[w.heap.size + 1]? = some (.cells #[.int .i64 0, .int .i64 0, .int .i64 0, .int .i64 0, .int .i64 0, .int .i64 0, .int .i64 0, .int .i64 0, .int .i64 0, .int .i64 0] 44 (0, 0))) := (hg1.block _ (Array.getElem?_eq_some_iff.1 RB.out).1 (by simp)).trans RB.out
  clear hg1
  have r0 : w1.cell? ⟨w.heap.size + 1, 0, none⟩ = some (.int .i64 0) := by have := R1.out; simp [World.cell?, this]
  have e0 : w1.frozen? ⟨w.heap.size + 1, 0, none⟩ = false := by have := R1.out; simp [World.frozen?, this]
  have r1 : w1.cell? ⟨w.heap.size + 1, 1, none⟩ = some (.int .i64 0) := by have := R1.out; simp [World.cell?, this]
  have e1 : w1.frozen? ⟨w.heap.size + 1, 1, none⟩ = false := by have := R1.out; simp [World.frozen?, this]
  have r2 : w1.cell? ⟨w.heap.size + 1, 2, none⟩ = some (.int .i64 0) := by have := R1.out; simp [World.cell?, this]
  have e2 : w1.frozen? ⟨w.heap.size + 1, 2, none⟩ = false := by have := R1.out; simp [World.frozen?, this]
  have r3 : w1.cell? ⟨w.heap.size + 1, 3, none⟩ = some (.int .i64 0) := by have := R1.out; simp [World.cell?, this]
  have e3 : w1.frozen? ⟨w.heap.size + 1, 3, none⟩ = false := by have := R1.out; simp [World.frozen?, this]
  have r4 : w1.cell? ⟨w.heap.size + 1, 4, none⟩ = some (.int .i64 0) := by have := R1.out; simp [World.cell?, this]
  have e4 : w1.frozen? ⟨w.heap.size + 1, 4, none⟩ = false := by have := R1.out; simp [World.frozen?, this]
  have r5 : w1.cell? ⟨w.heap.size + 1, 5, none⟩ = some (.int .i64 0) := by have := R1.out; simp [World.cell?, this]
  have e5 : w1.frozen? ⟨w.heap.size + 1, 5, none⟩ = false := by have := R1.out; simp [World.frozen?, this]
  have r6 : w1.cell? ⟨w.heap.size + 1, 6, none⟩ = some (.int .i64 0) := by have := R1.out; simp [World.cell?, this]
  have e6 : w1.frozen? ⟨w.heap.size + 1, 6, none⟩ = false := by have := R1.out; simp [World.frozen?, this]
  have r7 : w1.cell? ⟨w.heap.size + 1, 7, none⟩ = some (.int .i64 0) := by have := R1.out; simp [World.cell?, this]
  have e7 : w1.frozen? ⟨w.heap.size + 1, 7, none⟩ = false := by have := R1.out; simp [World.frozen?, this]
  have r8 : w1.cell? ⟨w.heap.size + 1, 8, none⟩ = some (.int .i64 0) := by have := R1.out; simp [World.cell?, this]
  have e8 : w1.frozen? ⟨w.heap.size + 1, 8, none⟩ = false := by have := R1.out; simp [World.frozen?, this]
  have r9 : w1.cell? ⟨w.heap.size + 1, 9, none⟩ = some (.int .i64 0) := by have := R1.out; simp [World.cell?, this]
  have e9 : w1.frozen? ⟨w.heap.size + 1, 9, none⟩ = false := by have := R1.out; simp [World.frozen?, this]
  go_wp2_with fail
  obtain ⟨W1, hW1⟩ : ∃ W1, ((((((((((w1.setCell ⟨w.heap.size + 1, 0, none⟩ (.int .i64 0)).setCell ⟨w.heap.size + 1, 1, none⟩ (.int .i64 0)).setCell ⟨w.heap.size + 1, 2, none⟩ (.int .i64 0)).setCell ⟨w.heap.size + 1, 3, none⟩ (.int .i64 0)).setCell ⟨w.heap.size + 1, 4, none⟩ (.int .i64 0)).setCell ⟨w.heap.size + 1, 5, none⟩ (.int .i64 0)).setCell ⟨w.heap.size + 1, 6, none⟩ (.int .i64 0)).setCell ⟨w.heap.size + 1, 7, none⟩ (.int .i64 0)).setCell ⟨w.heap.size + 1, 8, none⟩ (.int .i64 0)).setCell ⟨w.heap.size + 1, 9, none⟩ (.int .i64 0)) = W1 := ⟨_, rfl⟩
  have hR1 : W1.heap[w.heap.size + 1]? = some (.cells #[.int .i64 0, .int .i64 0, .int .i64 0, .int .i64 0, .int .i64 0, .int .i64 0, .int .i64 0, .int .i64 0, .int .i64 0, .int .i64 0] 44 (0, 0)) := by
    rw [← hW1]; have := R1.out; simp [World.setCell, Array.getElem?_modify, this]
  have hg1 : w.grownBy W1 none := by rw [← hW1]; exact (grown_setR (grown_setR (grown_setR (grown_setR (grown_setR (grown_setR (grown_setR (grown_setR (grown_setR (grown_setR G1.out _ _) _ _) _ _) _ _) _ _) _ _) _ _) _ _) _ _) _ _)
  have z0 : W1.cell? ⟨w.heap.size + 1, 0, none⟩ = some (.int .i64 0) := by simp [World.cell?, hR1]
  have z1 : W1.cell? ⟨w.heap.size + 1, 1, none⟩ = some (.int .i64 0) := by simp [World.cell?, hR1]
  have z2 : W1.cell? ⟨w.heap.size + 1, 2, none⟩ = some (.int .i64 0) := by simp [World.cell?, hR1]
  have z3 : W1.cell? ⟨w.heap.size + 1, 3, none⟩ = some (.int .i64 0) := by simp [World.cell?, hR1]
  have z4 : W1.cell? ⟨w.heap.size + 1, 4, none⟩ = some (.int .i64 0) := by simp [World.cell?, hR1]
  have z5 : W1.cell? ⟨w.heap.size + 1, 5, none⟩ = some (.int .i64 0) := by simp [World.cell?, hR1]
  have z6 : W1.cell? ⟨w.heap.size + 1, 6, none⟩ = some (.int .i64 0) := by simp [World.cell?, hR1]
  have z7 : W1.cell? ⟨w.heap.size + 1, 7, none⟩ = some (.int .i64 0) := by simp [World.cell?, hR1]
  have z8 : W1.cell? ⟨w.heap.size + 1, 8, none⟩ = some (.int .i64 0) := by simp [World.cell?, hR1]
  have z9 : W1.cell? ⟨w.heap.size + 1, 9, none⟩ = some (.int .i64 0) := by simp [World.cell?, hR1]
  rw [hW1]
  clear hW1
  refine bodyPost_ret (v := .tuple #[.agg #[.int .i64 0, .int .i64 0, .int .i64 0, .int .i64 0, .int .i64 0, .int .i64 0, .int .i64 0, .int .i64 0, .int .i64 0, .int .i64 0], .int .i64 ce]) (by simp [results, Try.results27, go_sem, z0, z1, z2, z3, z4, z5, z6, z7, z8, z9]) rfl ⟨rfl, hg1⟩

set_option maxRecDepth 100000 in
set_option maxHeartbeats 3200000 in
theorem rPartOf_low (nm : ByteArray) (sp st : Int) (so : Option Addr) (sc : Nat) (ss : List Smp) (lo : Option Addr) (lc : Nat) (ls : List LapV) (to_ : Option Addr) (tc : Nat) (ts : List ByteArray) (f t : Int) (h : f < 0) (w : World) (HA : Hid (ActAt w ⟨nm, sp, st, so, sc, ss, lo, lc, ls, to_, tc, ts⟩)) (HS : Hid (SOk ss)) (HCE : Hid (chkE ⟨nm, sp, st, so, sc, ss, lo, lc, ls, to_, tc, ts⟩ = 0)) :
    Calls Try.prog 27 #[.agg #[.string nm, .int .i64 sp, .int .i64 st, .slice so ss.length sc, .slice lo ls.length lc, .slice to_ ts.length tc], .int .i64 f, .int .i64 t] w fun e w' => e = .returned (.tuple #[.agg #[.int .i64 0, .int .i64 0, .int .i64 0, .int .i64 0, .int .i64 0, .int .i64 0, .int .i64 0, .int .i64 0, .int .i64 0, .int .i64 0], .int .i64 9]) ∧ w.grownBy w' none := by
  go_enter Try.func27, Try.ntmps27
  have GB : Hid (w.grownBy (w.alloc (.cells #[.string nm, .int .i64 sp, .int .i64 st, .slice so ss.length sc, .slice lo ls.length lc, .slice to_ ts.length tc] 42)) none) := World.grownBy_alloc _ _ _
  have GC : Hid (w.grownBy ((w.alloc (.cells #[.string nm, .int .i64 sp, .int .i64 st, .slice so ss.length sc, .slice lo ls.length lc, .slice to_ ts.length tc] 42)).alloc (.cells #[.int .i64 0, .int .i64 0, .int .i64 0, .int .i64 0, .int .i64 0, .int .i64 0, .int .i64 0, .int .i64 0, .int .i64 0, .int .i64 0] 44)) none) := grown_trans (World.grownBy_alloc _ _ _) (World.grownBy_alloc _ _ _)
  have RB : Hid (((w.alloc (.cells #[.string nm, .int .i64 sp, .int .i64 st, .slice so ss.length sc, .slice lo ls.length lc, .slice to_ ts.length tc] 42)).alloc (.cells #[.int .i64 0, .int .i64 0, .int .i64 0, .int .i64 0, .int .i64 0, .int .i64 0, .int .i64 0, .int .i64 0, .int .i64 0, .int .i64 0] 44)).heap[w.heap.size + 1]? = some (.cells #[.int .i64 0, .int .i64 0, .int .i64 0, .int .i64 0, .int .i64 0, .int .i64 0, .int .i64 0, .int .i64 0, .int .i64 0, .int .i64 0] 44 (0, 0))) := by
    have q := heap_alloc_new (w.alloc (.cells #[.string nm, .int .i64 sp, .int .i64 st, .slice so ss.length sc, .slice lo ls.length lc, .slice to_ ts.length tc] 42)) (.cells #[.int .i64 0, .int .i64 0, .int .i64 0, .int .i64 0, .int .i64 0, .int .i64 0, .int .i64 0, .int .i64 0, .int .i64 0, .int .i64 0] 44)
    show _ = _
    simpa using q
  go_wp2_with fail
  refine (rcheck_any ⟨nm, sp, st, so, sc, ss, lo, lc, ls, to_, tc, ts⟩ _ (HA.out.grown GC.out) HCE).mono ?_; rintro e w1 ⟨rfl, hg1⟩
  have G1 := Lib.hid (grown_trans GC.out hg1)
  have R1 : Hid (w1.heap[w.heap.size + 1]? = some (.cells #[.int .i64 0, .int .i64 0, .int .i64 0, .int .i64 0, .int .i64 0, .int .i64 0, .int .i64 0, .int .i64 0, .int .i64 0, .int .i64 0] 44 (0, 0))) := (hg1.block _ (Array.getElem?_eq_some_iff.1 RB.out).1 (by simp)).trans RB.out
  clear hg1
  have r0 : w1.cell? ⟨w.heap.size + 1, 0, none⟩ = some (.int .i64 0) := by have := R1.out; simp [World.cell?, this]
  have e0 : w1.frozen? ⟨w.heap.size + 1, 0, none⟩ = false := by have := R1.out; simp [World.frozen?, this]
  have r1 : w1.cell? ⟨w.heap.size + 1, 1, none⟩ = some (.int .i64 0) := by have := R1.out; simp [World.cell?, this]
  have e1 : w1.frozen? ⟨w.heap.size + 1, 1, none⟩ = false := by have := R1.out; simp [World.frozen?, this]
  have r2 : w1.cell? ⟨w.heap.size + 1, 2, none⟩ = some (.int .i64 0) := by have := R1.out; simp [World.cell?, this]
  have e2 : w1.frozen? ⟨w.heap.size + 1, 2, none⟩ = false := by have := R1.out; simp [World.frozen?, this]
  have r3 : w1.cell? ⟨w.heap.size + 1, 3, none⟩ = some (.int .i64 0) := by have := R1.out; simp [World.cell?, this]
  have e3 : w1.frozen? ⟨w.heap.size + 1, 3, none⟩ = false := by have := R1.out; simp [World.frozen?, this]
  have r4 : w1.cell? ⟨w.heap.size + 1, 4, none⟩ = some (.int .i64 0) := by have := R1.out; simp [World.cell?, this]
  have e4 : w1.frozen? ⟨w.heap.size + 1, 4, none⟩ = false := by have := R1.out; simp [World.frozen?, this]
  have r5 : w1.cell? ⟨w.heap.size + 1, 5, none⟩ = some (.int .i64 0) := by have := R1.out; simp [World.cell?, this]
  have e5 : w1.frozen? ⟨w.heap.size + 1, 5, none⟩ = false := by have := R1.out; simp [World.frozen?, this]
  have r6 : w1.cell? ⟨w.heap.size + 1, 6, none⟩ = some (.int .i64 0) := by have := R1.out; simp [World.cell?, this]
  have e6 : w1.frozen? ⟨w.heap.size + 1, 6, none⟩ = false := by have := R1.out; simp [World.frozen?, this]
  have r7 : w1.cell? ⟨w.heap.size + 1, 7, none⟩ = some (.int .i64 0) := by have := R1.out; simp [World.cell?, this]
  have e7 : w1.frozen? ⟨w.heap.size + 1, 7, none⟩ = false := by have := R1.out; simp [World.frozen?, this]
  have r8 : w1.cell? ⟨w.heap.size + 1, 8, none⟩ = some (.int .i64 0) := by have := R1.out; simp [World.cell?, this]
  have e8 : w1.frozen? ⟨w.heap.size + 1, 8, none⟩ = false := by have := R1.out; simp [World.frozen?, this]
  have r9 : w1.cell? ⟨w.heap.size + 1, 9, none⟩ = some (.int .i64 0) := by have := R1.out; simp [World.cell?, this]
  have e9 : w1.frozen? ⟨w.heap.size + 1, 9, none⟩ = false := by have := R1.out; simp [World.frozen?, this]
  go_wp2_with fail
  obtain ⟨W1, hW1⟩ : ∃ W1, ((((((((((w1.setCell ⟨w.heap.size + 1, 0, none⟩ (.int .i64 0)).setCell ⟨w.heap.size + 1, 1, none⟩ (.int .i64 0)).setCell ⟨w.heap.size + 1, 2, none⟩ (.int .i64 0)).setCell ⟨w.heap.size + 1, 3, none⟩ (.int .i64 0)).setCell ⟨w.heap.size + 1, 4, none⟩ (.int .i64 0)).setCell ⟨w.heap.size + 1, 5, none⟩ (.int .i64 0)).setCell ⟨w.heap.size + 1, 6, none⟩ (.int .i64 0)).setCell ⟨w.heap.size + 1, 7, none⟩ (.int .i64 0)).setCell ⟨w.heap.size + 1, 8, none⟩ (.int .i64 0)).setCell ⟨w.heap.size + 1, 9, none⟩ (.int .i64 0)) = W1 := ⟨_, rfl⟩
  have hR1 : W1.heap[w.heap.size + 1]? = some (.cells #[.int .i64 0, .int .i64 0, .int .i64 0, .int .i64 0, .int .i64 0, .int .i64 0, .int .i64 0, .int .i64 0, .int .i64 0, .int .i64 0] 44 (0, 0)) := by
    rw [← hW1]; have := R1.out; simp [World.setCell, Array.getElem?_modify, this]
  have hg1 : w.grownBy W1 none := by rw [← hW1]; exact (grown_setR (grown_setR (grown_setR (grown_setR (grown_setR (grown_setR (grown_setR (grown_setR (grown_setR (grown_setR G1.out _ _) _ _) _ _) _ _) _ _) _ _) _ _) _ _) _ _) _ _)
  have z0 : W1.cell? ⟨w.heap.size + 1, 0, none⟩ = some (.int .i64 0) := by simp [World.cell?, hR1]
  have z1 : W1.cell? ⟨w.heap.size + 1, 1, none⟩ = some (.int .i64 0) := by simp [World.cell?, hR1]
  have z2 : W1.cell? ⟨w.heap.size + 1, 2, none⟩ = some (.int .i64 0) := by simp [World.cell?, hR1]
  have z3 : W1.cell? ⟨w.heap.size + 1, 3, none⟩ = some (.int .i64 0) := by simp [World.cell?, hR1]
  have z4 : W1.cell? ⟨w.heap.size + 1, 4, none⟩ = some (.int .i64 0) := by simp [World.cell?, hR1]
  have z5 : W1.cell? ⟨w.heap.size + 1, 5, none⟩ = some (.int .i64 0) := by simp [World.cell?, hR1]
  have z6 : W1.cell? ⟨w.heap.size + 1, 6, none⟩ = some (.int .i64 0) := by simp [World.cell?, hR1]
  have z7 : W1.cell? ⟨w.heap.size + 1, 7, none⟩ = some (.int .i64 0) := by simp [World.cell?, hR1]
  have z8 : W1.cell? ⟨w.heap.size + 1, 8, none⟩ = some (.int .i64 0) := by simp [World.cell?, hR1]
  have z9 : W1.cell? ⟨w.heap.size + 1, 9, none⟩ = some (.int .i64 0) := by simp [World.cell?, hR1]
  rw [hW1]
  clear hW1
  refine bodyPost_ret (v := .tuple #[.agg #[.int .i64 0, .int .i64 0, .int .i64 0, .int .i64 0, .int .i64 0, .int .i64 0, .int .i64 0, .int .i64 0, .int .i64 0, .int .i64 0], .int .i64 9]) (by simp [results, Try.results27, go_sem, z0, z1, z2, z3, z4, z5, z6, z7, z8, z9]) rfl ⟨rfl, hg1⟩

set_option maxRecDepth 100000 in
set_option maxHeartbeats 3200000 in
theorem rPartOf_cross (nm : ByteArray) (sp st : Int) (so : Option Addr) (sc : Nat) (ss : List Smp) (lo : Option Addr) (lc : Nat) (ls : List LapV) (to_ : Option Addr) (tc : Nat) (ts : List ByteArray) (f t : Int) (h0 : 0 ≤ f) (h : t < f) (w : World) (HA : Hid (ActAt w ⟨nm, sp, st, so, sc, ss, lo, lc, ls, to_, tc, ts⟩)) (HS : Hid (SOk ss)) (HCE : Hid (chkE ⟨nm, sp, st, so, sc, ss, lo, lc, ls, to_, tc, ts⟩ = 0)) :
    Calls Try.prog 27 #[.agg #[.string nm, .int .i64 sp, .int .i64 st, .slice so ss.length sc, .slice lo ls.length lc, .slice to_ ts.length tc], .int .i64 f, .int .i64 t] w fun e w' => e = .returned (.tuple #[.agg #[.int .i64 0, .int .i64 0, .int .i64 0, .int .i64 0, .int .i64 0, .int .i64 0, .int .i64 0, .int .i64 0, .int .i64 0, .int .i64 0], .int .i64 9]) ∧ w.grownBy w' none := by
  go_enter Try.func27, Try.ntmps27
  have GB : Hid (w.grownBy (w.alloc (.cells #[.string nm, .int .i64 sp, .int .i64 st, .slice so ss.length sc, .slice lo ls.length lc, .slice to_ ts.length tc] 42)) none) := World.grownBy_alloc _ _ _
  have GC : Hid (w.grownBy ((w.alloc (.cells #[.string nm, .int .i64 sp, .int .i64 st, .slice so ss.length sc, .slice lo ls.length lc, .slice to_ ts.length tc] 42)).alloc (.cells #[.int .i64 0, .int .i64 0, .int .i64 0, .int .i64 0, .int .i64 0, .int .i64 0, .int .i64 0, .int .i64 0, .int .i64 0, .int .i64 0] 44)) none) := grown_trans (World.grownBy_alloc _ _ _) (World.grownBy_alloc _ _ _)
  have RB : Hid (((w.alloc (.cells #[.string nm, .int .i64 sp, .int .i64 st, .slice so ss.length sc, .slice lo ls.length lc, .slice to_ ts.length tc] 42)).alloc (.cells #[.int .i64 0, .int .i64 0, .int .i64 0, .int .i64 0, .int .i64 0, .int .i64 0, .int .i64 0, .int .i64 0, .int .i64 0, .int .i64 0] 44)).heap[w.heap.size + 1]? = some (.cells #[.int .i64 0, .int .i64 0, .int .i64 0, .int .i64 0, .int .i64 0, .int .i64 0, .int .i64 0, .int .i64 0, .int .i64 0, .int .i64 0] 44 (0, 0))) := by
    have q := heap_alloc_new (w.alloc (.cells #[.string nm, .int .i64 sp, .int .i64 st, .slice so ss.length sc, .slice lo ls.length lc, .slice to_ ts.length tc] 42)) (.cells #[.int .i64 0, .int .i64 0, .int .i64 0, .int .i64 0, .int .i64 0, .int .i64 0, .int .i64 0, .int .i64 0, .int .i64 0, .int .i64 0] 44)
    show _ = _
    simpa using q
  go_wp2_with fail
  refine (rcheck_any ⟨nm, sp, st, so, sc, ss, lo, lc, ls, to_, tc, ts⟩ _ (HA.out.grown GC.out) HCE).mono ?_; rintro e w1 ⟨rfl, hg1⟩
  have G1 := Lib.hid (grown_trans GC.out hg1)
  have R1 : Hid (w1.heap[w.heap.size + 1]? = some (.cells #[.int .i64 0, .int .i64 0, .int .i64 0, .int .i64 0, .int .i64 0, .int .i64 0, .int .i64 0, .int .i64 0, .int .i64 0, .int .i64 0] 44 (0, 0))) := (hg1.block _ (Array.getElem?_eq_some_iff.1 RB.out).1 (by simp)).trans RB.out
  clear hg1
  have r0 : w1.cell? ⟨w.heap.size + 1, 0, none⟩ = some (.int .i64 0) := by have := R1.out; simp [World.cell?, this]
  have e0 : w1.frozen? ⟨w.heap.size + 1, 0, none⟩ = false := by have := R1.out; simp [World.frozen?, this]
  have r1 : w1.cell? ⟨w.heap.size + 1, 1, none⟩ = some (.int .i64 0) := by have := R1.out; simp [World.cell?, this]
  have e1 : w1.frozen? ⟨w.heap.size + 1, 1, none⟩ = false := by have := R1.out; simp [World.frozen?, this]
  have r2 : w1.cell? ⟨w.heap.size + 1, 2, none⟩ = some (.int .i64 0) := by have := R1.out; simp [World.cell?, this]
  have e2 : w1.frozen? ⟨w.heap.size + 1, 2, none⟩ = false := by have := R1.out; simp [World.frozen?, this]
  have r3 : w1.cell? ⟨w.heap.size + 1, 3, none⟩ = some (.int .i64 0) := by have := R1.out; simp [World.cell?, this]
  have e3 : w1.frozen? ⟨w.heap.size + 1, 3, none⟩ = false := by have := R1.out; simp [World.frozen?, this]
  have r4 : w1.cell? ⟨w.heap.size + 1, 4, none⟩ = some (.int .i64 0) := by have := R1.out; simp [World.cell?, this]
  have e4 : w1.frozen? ⟨w.heap.size + 1, 4, none⟩ = false := by have := R1.out; simp [World.frozen?, this]
  have r5 : w1.cell? ⟨w.heap.size + 1, 5, none⟩ = some (.int .i64 0) := by have := R1.out; simp [World.cell?, this]
  have e5 : w1.frozen? ⟨w.heap.size + 1, 5, none⟩ = false := by have := R1.out; simp [World.frozen?, this]
  have r6 : w1.cell? ⟨w.heap.size + 1, 6, none⟩ = some (.int .i64 0) := by have := R1.out; simp [World.cell?, this]
  have e6 : w1.frozen? ⟨w.heap.size + 1, 6, none⟩ = false := by have := R1.out; simp [World.frozen?, this]
  have r7 : w1.cell? ⟨w.heap.size + 1, 7, none⟩ = some (.int .i64 0) := by have := R1.out; simp [World.cell?, this]
  have e7 : w1.frozen? ⟨w.heap.size + 1, 7, none⟩ = false := by have := R1.out; simp [World.frozen?, this]
  have r8 : w1.cell? ⟨w.heap.size + 1, 8, none⟩ = some (.int .i64 0) := by have := R1.out; simp [World.cell?, this]
  have e8 : w1.frozen? ⟨w.heap.size + 1, 8, none⟩ = false := by have := R1.out; simp [World.frozen?, this]
  have r9 : w1.cell? ⟨w.heap.size + 1, 9, none⟩ = some (.int .i64 0) := by have := R1.out; simp [World.cell?, this]
  have e9 : w1.frozen? ⟨w.heap.size + 1, 9, none⟩ = false := by have := R1.out; simp [World.frozen?, this]
  go_wp2_with fail
  obtain ⟨W1, hW1⟩ : ∃ W1, ((((((((((w1.setCell ⟨w.heap.size + 1, 0, none⟩ (.int .i64 0)).setCell ⟨w.heap.size + 1, 1, none⟩ (.int .i64 0)).setCell ⟨w.heap.size + 1, 2, none⟩ (.int .i64 0)).setCell ⟨w.heap.size + 1, 3, none⟩ (.int .i64 0)).setCell ⟨w.heap.size + 1, 4, none⟩ (.int .i64 0)).setCell ⟨w.heap.size + 1, 5, none⟩ (.int .i64 0)).setCell ⟨w.heap.size + 1, 6, none⟩ (.int .i64 0)).setCell ⟨w.heap.size + 1, 7, none⟩ (.int .i64 0)).setCell ⟨w.heap.size + 1, 8, none⟩ (.int .i64 0)).setCell ⟨w.heap.size + 1, 9, none⟩ (.int .i64 0)) = W1 := ⟨_, rfl⟩
  have hR1 : W1.heap[w.heap.size + 1]? = some (.cells #[.int .i64 0, .int .i64 0, .int .i64 0, .int .i64 0, .int .i64 0, .int .i64 0, .int .i64 0, .int .i64 0, .int .i64 0, .int .i64 0] 44 (0, 0)) := by
    rw [← hW1]; have := R1.out; simp [World.setCell, Array.getElem?_modify, this]
  have hg1 : w.grownBy W1 none := by rw [← hW1]; exact (grown_setR (grown_setR (grown_setR (grown_setR (grown_setR (grown_setR (grown_setR (grown_setR (grown_setR (grown_setR G1.out _ _) _ _) _ _) _ _) _ _) _ _) _ _) _ _) _ _) _ _)
  have z0 : W1.cell? ⟨w.heap.size + 1, 0, none⟩ = some (.int .i64 0) := by simp [World.cell?, hR1]
  have z1 : W1.cell? ⟨w.heap.size + 1, 1, none⟩ = some (.int .i64 0) := by simp [World.cell?, hR1]
  have z2 : W1.cell? ⟨w.heap.size + 1, 2, none⟩ = some (.int .i64 0) := by simp [World.cell?, hR1]
  have z3 : W1.cell? ⟨w.heap.size + 1, 3, none⟩ = some (.int .i64 0) := by simp [World.cell?, hR1]
  have z4 : W1.cell? ⟨w.heap.size + 1, 4, none⟩ = some (.int .i64 0) := by simp [World.cell?, hR1]
  have z5 : W1.cell? ⟨w.heap.size + 1, 5, none⟩ = some (.int .i64 0) := by simp [World.cell?, hR1]
  have z6 : W1.cell? ⟨w.heap.size + 1, 6, none⟩ = some (.int .i64 0) := by simp [World.cell?, hR1]
  have z7 : W1.cell? ⟨w.heap.size + 1, 7, none⟩ = some (.int .i64 0) := by simp [World.cell?, hR1]
  have z8 : W1.cell? ⟨w.heap.size + 1, 8, none⟩ = some (.int .i64 0) := by simp [World.cell?, hR1]
  have z9 : W1.cell? ⟨w.heap.size + 1, 9, none⟩ = some (.int .i64 0) := by simp [World.cell?, hR1]
  rw [hW1]
  clear hW1
  refine bodyPost_ret (v := .tuple #[.agg #[.int .i64 0, .int .i64 0, .int .i64 0, .int .i64 0, .int .i64 0, .int .i64 0, .int .i64 0, .int .i64 0, .int .i64 0, .int .i64 0], .int .i64 9]) (by simp [results, Try.results27, go_sem, z0, z1, z2, z3, z4, z5, z6, z7, z8, z9]) rfl ⟨rfl, hg1⟩

set_option maxRecDepth 100000 in
set_option maxHeartbeats 3200000 in
theorem rPartOf_far (nm : ByteArray) (sp st : Int) (so : Option Addr) (sc : Nat) (ss : List Smp) (lo : Option Addr) (lc : Nat) (ls : List LapV) (to_ : Option Addr) (tc : Nat) (ts : List ByteArray) (f t : Int) (h0 : 0 ≤ f) (h1 : f ≤ t) (h : spanL ss < t) (w : World) (HA : Hid (ActAt w ⟨nm, sp, st, so, sc, ss, lo, lc, ls, to_, tc, ts⟩)) (HS : Hid (SOk ss)) (HCE : Hid (chkE ⟨nm, sp, st, so, sc, ss, lo, lc, ls, to_, tc, ts⟩ = 0)) :
    Calls Try.prog 27 #[.agg #[.string nm, .int .i64 sp, .int .i64 st, .slice so ss.length sc, .slice lo ls.length lc, .slice to_ ts.length tc], .int .i64 f, .int .i64 t] w fun e w' => e = .returned (.tuple #[.agg #[.int .i64 0, .int .i64 0, .int .i64 0, .int .i64 0, .int .i64 0, .int .i64 0, .int .i64 0, .int .i64 0, .int .i64 0, .int .i64 0], .int .i64 9]) ∧ w.grownBy w' none := by
  obtain ⟨SP, hSP⟩ : ∃ SP, spanL ss = SP := ⟨_, rfl⟩
  rw [hSP] at h
  have HSP := Lib.hid hSP
  clear hSP
  go_enter Try.func27, Try.ntmps27
  have GB : Hid (w.grownBy (w.alloc (.cells #[.string nm, .int .i64 sp, .int .i64 st, .slice so ss.length sc, .slice lo ls.length lc, .slice to_ ts.length tc] 42)) none) := World.grownBy_alloc _ _ _
  have GC : Hid (w.grownBy ((w.alloc (.cells #[.string nm, .int .i64 sp, .int .i64 st, .slice so ss.length sc, .slice lo ls.length lc, .slice to_ ts.length tc] 42)).alloc (.cells #[.int .i64 0, .int .i64 0, .int .i64 0, .int .i64 0, .int .i64 0, .int .i64 0, .int .i64 0, .int .i64 0, .int .i64 0, .int .i64 0] 44)) none) := grown_trans (World.grownBy_alloc _ _ _) (World.grownBy_alloc _ _ _)
  have RB : Hid (((w.alloc (.cells #[.string nm, .int .i64 sp, .int .i64 st, .slice so ss.length sc, .slice lo ls.length lc, .slice to_ ts.length tc] 42)).alloc (.cells #[.int .i64 0, .int .i64 0, .int .i64 0, .int .i64 0, .int .i64 0, .int .i64 0, .int .i64 0, .int .i64 0, .int .i64 0, .int .i64 0] 44)).heap[w.heap.size + 1]? = some (.cells #[.int .i64 0, .int .i64 0, .int .i64 0, .int .i64 0, .int .i64 0, .int .i64 0, .int .i64 0, .int .i64 0, .int .i64 0, .int .i64 0] 44 (0, 0))) := by
    have q := heap_alloc_new (w.alloc (.cells #[.string nm, .int .i64 sp, .int .i64 st, .slice so ss.length sc, .slice lo ls.length lc, .slice to_ ts.length tc] 42)) (.cells #[.int .i64 0, .int .i64 0, .int .i64 0, .int .i64 0, .int .i64 0, .int .i64 0, .int .i64 0, .int .i64 0, .int .i64 0, .int .i64 0] 44)
    show _ = _
    simpa using q
  go_wp2_with fail
  refine (rcheck_any ⟨nm, sp, st, so, sc, ss, lo, lc, ls, to_, tc, ts⟩ _ (HA.out.grown GC.out) HCE).mono ?_; rintro e w1 ⟨rfl, hg1⟩
  have G1 := Lib.hid (grown_trans GC.out hg1)
  have R1 : Hid (w1.heap[w.heap.size + 1]? = some (.cells #[.int .i64 0, .int .i64 0, .int .i64 0, .int .i64 0, .int .i64 0, .int .i64 0, .int .i64 0, .int .i64 0, .int .i64 0, .int .i64 0] 44 (0, 0))) := (hg1.block _ (Array.getElem?_eq_some_iff.1 RB.out).1 (by simp)).trans RB.out
  have b0 : w1.cell? ⟨w.heap.size, 0, none⟩ = some (.string nm) := grown_cell hg1 (by go_simp)
  have b1 : w1.cell? ⟨w.heap.size, 1, none⟩ = some (.int .i64 sp) := grown_cell hg1 (by go_simp)
  have b2 : w1.cell? ⟨w.heap.size, 2, none⟩ = some (.int .i64 st) := grown_cell hg1 (by go_simp)
  have b3 : w1.cell? ⟨w.heap.size, 3, none⟩ = some (.slice so ss.length sc) := grown_cell hg1 (by go_simp)
  have b4 : w1.cell? ⟨w.heap.size, 4, none⟩ = some (.slice lo ls.length lc) := grown_cell hg1 (by go_simp)
  have b5 : w1.cell? ⟨w.heap.size, 5, none⟩ = some (.slice to_ ts.length tc) := grown_cell hg1 (by go_simp)
  clear hg1
  go_wp2_with fail
  refine (rspan_any ⟨nm, sp, st, so, sc, ss, lo, lc, ls, to_, tc, ts⟩ HA.out.sl _ (HA.out.grown G1.out).hs HSP).mono ?_; rintro e w2 ⟨rfl, hg2⟩
  have G2 := Lib.hid (grown_trans G1.out hg2)
  have R2 : Hid (w2.heap[w.heap.size + 1]? = some (.cells #[.int .i64 0, .int .i64 0, .int .i64 0, .int .i64 0, .int .i64 0, .int .i64 0, .int .i64 0, .int .i64 0, .int .i64 0, .int .i64 0] 44 (0, 0))) := (hg2.block _ (Array.getElem?_eq_some_iff.1 R1.out).1 (by simp)).trans R1.out
  clear hg2 b0 b1 b2 b3 b4 b5
  have r0 : w2.cell? ⟨w.heap.size + 1, 0, none⟩ = some (.int .i64 0) := by have := R2.out; simp [World.cell?, this]
  have e0 : w2.frozen? ⟨w.heap.size + 1, 0, none⟩ = false := by have := R2.out; simp [World.frozen?, this]
  have r1 : w2.cell? ⟨w.heap.size + 1, 1, none⟩ = some (.int .i64 0) := by have := R2.out; simp [World.cell?, this]
  have e1 : w2.frozen? ⟨w.heap.size + 1, 1, none⟩ = false := by have := R2.out; simp [World.frozen?, this]
  have r2 : w2.cell? ⟨w.heap.size + 1, 2, none⟩ = some (.int .i64 0) := by have := R2.out; simp [World.cell?, this]
  have e2 : w2.frozen? ⟨w.heap.size + 1, 2, none⟩ = false := by have := R2.out; simp [World.frozen?, this]
  have r3 : w2.cell? ⟨w.heap.size + 1, 3, none⟩ = some (.int .i64 0) := by have := R2.out; simp [World.cell?, this]
  have e3 : w2.frozen? ⟨w.heap.size + 1, 3, none⟩ = false := by have := R2.out; simp [World.frozen?, this]
  have r4 : w2.cell? ⟨w.heap.size + 1, 4, none⟩ = some (.int .i64 0) := by have := R2.out; simp [World.cell?, this]
  have e4 : w2.frozen? ⟨w.heap.size + 1, 4, none⟩ = false := by have := R2.out; simp [World.frozen?, this]
  have r5 : w2.cell? ⟨w.heap.size + 1, 5, none⟩ = some (.int .i64 0) := by have := R2.out; simp [World.cell?, this]
  have e5 : w2.frozen? ⟨w.heap.size + 1, 5, none⟩ = false := by have := R2.out; simp [World.frozen?, this]
  have r6 : w2.cell? ⟨w.heap.size + 1, 6, none⟩ = some (.int .i64 0) := by have := R2.out; simp [World.cell?, this]
  have e6 : w2.frozen? ⟨w.heap.size + 1, 6, none⟩ = false := by have := R2.out; simp [World.frozen?, this]
  have r7 : w2.cell? ⟨w.heap.size + 1, 7, none⟩ = some (.int .i64 0) := by have := R2.out; simp [World.cell?, this]
  have e7 : w2.frozen? ⟨w.heap.size + 1, 7, none⟩ = false := by have := R2.out; simp [World.frozen?, this]
  have r8 : w2.cell? ⟨w.heap.size + 1, 8, none⟩ = some (.int .i64 0) := by have := R2.out; simp [World.cell?, this]
  have e8 : w2.frozen? ⟨w.heap.size + 1, 8, none⟩ = false := by have := R2.out; simp [World.frozen?, this]
  have r9 : w2.cell? ⟨w.heap.size + 1, 9, none⟩ = some (.int .i64 0) := by have := R2.out; simp [World.cell?, this]
  have e9 : w2.frozen? ⟨w.heap.size + 1, 9, none⟩ = false := by have := R2.out; simp [World.frozen?, this]
  go_wp2_with fail
  obtain ⟨W1, hW1⟩ : ∃ W1, ((((((((((w2.setCell ⟨w.heap.size + 1, 0, none⟩ (.int .i64 0)).setCell ⟨w.heap.size + 1, 1, none⟩ (.int .i64 0)).setCell ⟨w.heap.size + 1, 2, none⟩ (.int .i64 0)).setCell ⟨w.heap.size + 1, 3, none⟩ (.int .i64 0)).setCell ⟨w.heap.size + 1, 4, none⟩ (.int .i64 0)).setCell ⟨w.heap.size + 1, 5, none⟩ (.int .i64 0)).setCell ⟨w.heap.size + 1, 6, none⟩ (.int .i64 0)).setCell ⟨w.heap.size + 1, 7, none⟩ (.int .i64 0)).setCell ⟨w.heap.size + 1, 8, none⟩ (.int .i64 0)).setCell ⟨w.heap.size + 1, 9, none⟩ (.int .i64 0)) = W1 := ⟨_, rfl⟩
  have hR1 : W1.heap[w.heap.size + 1]? = some (.cells #[.int .i64 0, .int .i64 0, .int .i64 0, .int .i64 0, .int .i64 0, .int .i64 0, .int .i64 0, .int .i64 0, .int .i64 0, .int .i64 0] 44 (0, 0)) := by
    rw [← hW1]; have := R2.out; simp [World.setCell, Array.getElem?_modify, this]
  have hg1 : w.grownBy W1 none := by rw [← hW1]; exact (grown_setR (grown_setR (grown_setR (grown_setR (grown_setR (grown_setR (grown_setR (grown_setR (grown_setR (grown_setR G2.out _ _) _ _) _ _) _ _) _ _) _ _) _ _) _ _) _ _) _ _)
  have z0 : W1.cell? ⟨w.heap.size + 1, 0, none⟩ = some (.int .i64 0) := by simp [World.cell?, hR1]
  have z1 : W1.cell? ⟨w.heap.size + 1, 1, none⟩ = some (.int .i64 0) := by simp [World.cell?, hR1]
  have z2 : W1.cell? ⟨w.heap.size + 1, 2, none⟩ = some (.int .i64 0) := by simp [World.cell?, hR1]
  have z3 : W1.cell? ⟨w.heap.size + 1, 3, none⟩ = some (.int .i64 0) := by simp [World.cell?, hR1]
  have z4 : W1.cell? ⟨w.heap.size + 1, 4, none⟩ = some (.int .i64 0) := by simp [World.cell?, hR1]
  have z5 : W1.cell? ⟨w.heap.size + 1, 5, none⟩ = some (.int .i64 0) := by simp [World.cell?, hR1]
  have z6 : W1.cell? ⟨w.heap.size + 1, 6, none⟩ = some (.int .i64 0) := by simp [World.cell?, hR1]
  have z7 : W1.cell? ⟨w.heap.size + 1, 7, none⟩ = some (.int .i64 0) := by simp [World.cell?, hR1]
  have z8 : W1.cell? ⟨w.heap.size + 1, 8, none⟩ = some (.int .i64 0) := by simp [World.cell?, hR1]
  have z9 : W1.cell? ⟨w.heap.size + 1, 9, none⟩ = some (.int .i64 0) := by simp [World.cell?, hR1]
  rw [hW1]
  clear hW1
  refine bodyPost_ret (v := .tuple #[.agg #[.int .i64 0, .int .i64 0, .int .i64 0, .int .i64 0, .int .i64 0, .int .i64 0, .int .i64 0, .int .i64 0, .int .i64 0, .int .i64 0], .int .i64 9]) (by simp [results, Try.results27, go_sem, z0, z1, z2, z3, z4, z5, z6, z7, z8, z9]) rfl ⟨rfl, hg1⟩

set_option maxRecDepth 100000 in
set_option maxHeartbeats 3200000 in
theorem rPartOf_ok (nm : ByteArray) (sp st : Int) (so : Option Addr) (sc : Nat) (ss : List Smp) (lo : Option Addr) (lc : Nat) (ls : List LapV) (to_ : Option Addr) (tc : Nat) (ts : List ByteArray) (f t : Int) (h0 : 0 ≤ f) (h1 : f ≤ t) (h2 : t ≤ spanL ss) (w : World) (HA : Hid (ActAt w ⟨nm, sp, st, so, sc, ss, lo, lc, ls, to_, tc, ts⟩)) (HS : Hid (SOk ss)) (HCE : Hid (chkE ⟨nm, sp, st, so, sc, ss, lo, lc, ls, to_, tc, ts⟩ = 0)) {X : Prt} (HX : Hid (partR ss f t = X)) :
    Calls Try.prog 27 #[.agg #[.string nm, .int .i64 sp, .int .i64 st, .slice so ss.length sc, .slice lo ls.length lc, .slice to_ ts.length tc], .int .i64 f, .int .i64 t] w fun e w' => e = .returned (.tuple #[.agg (X.cells f t), .int .i64 0]) ∧ w.grownBy w' none := by
  obtain ⟨y0, y1, y2, y3, y4, y5, y6, y7⟩ := X
  obtain ⟨SP, hSP⟩ : ∃ SP, spanL ss = SP := ⟨_, rfl⟩
  have h2' := h2
  rw [hSP] at h2
  have HSP := Lib.hid hSP
  have hspl : SP ≤ 1000000 := by
    have := span_len 4 HS.out; have := streamS_len (kind := 4) HS.out; omega
  clear hSP
  obtain ⟨n, rfl⟩ := Int.eq_ofNat_of_zero_le (by omega : 0 ≤ SP)
  obtain ⟨F, rfl⟩ := Int.eq_ofNat_of_zero_le h0
  obtain ⟨T, rfl⟩ := Int.eq_ofNat_of_zero_le (by omega : 0 ≤ t)
  have HF : Hid (F ≤ T ∧ T ≤ n ∧ n ≤ 1000000) := ⟨by omega, by omega, by omega⟩
  go_enter Try.func27, Try.ntmps27
  have GB : Hid (w.grownBy (w.alloc (.cells #[.string nm, .int .i64 sp, .int .i64 st, .slice so ss.length sc, .slice lo ls.length lc, .slice to_ ts.length tc] 42)) none) := World.grownBy_alloc _ _ _
  have GC : Hid (w.grownBy ((w.alloc (.cells #[.string nm, .int .i64 sp, .int .i64 st, .slice so ss.length sc, .slice lo ls.length lc, .slice to_ ts.length tc] 42)).alloc (.cells #[.int .i64 0, .int .i64 0, .int .i64 0, .int .i64 0, .int .i64 0, .int .i64 0, .int .i64 0, .int .i64 0, .int .i64 0, .int .i64 0] 44)) none) := grown_trans (World.grownBy_alloc _ _ _) (World.grownBy_alloc _ _ _)
  have RB : Hid (((w.alloc (.cells #[.string nm, .int .i64 sp, .int .i64 st, .slice so ss.length sc, .slice lo ls.length lc, .slice to_ ts.length tc] 42)).alloc (.cells #[.int .i64 0, .int .i64 0, .int .i64 0, .int .i64 0, .int .i64 0, .int .i64 0, .int .i64 0, .int .i64 0, .int .i64 0, .int .i64 0] 44)).heap[w.heap.size + 1]? = some (.cells #[.int .i64 0, .int .i64 0, .int .i64 0, .int .i64 0, .int .i64 0, .int .i64 0, .int .i64 0, .int .i64 0, .int .i64 0, .int .i64 0] 44 (0, 0))) := by
    have q := heap_alloc_new (w.alloc (.cells #[.string nm, .int .i64 sp, .int .i64 st, .slice so ss.length sc, .slice lo ls.length lc, .slice to_ ts.length tc] 42)) (.cells #[.int .i64 0, .int .i64 0, .int .i64 0, .int .i64 0, .int .i64 0, .int .i64 0, .int .i64 0, .int .i64 0, .int .i64 0, .int .i64 0] 44)
    show _ = _
    simpa using q
  go_wp2_with fail
  refine (rcheck_any ⟨nm, sp, st, so, sc, ss, lo, lc, ls, to_, tc, ts⟩ _ (HA.out.grown GC.out) HCE).mono ?_; rintro e w1 ⟨rfl, hg1⟩
  have G1 := Lib.hid (grown_trans GC.out hg1)
  have R1 : Hid (w1.heap[w.heap.size + 1]? = some (.cells #[.int .i64 0, .int .i64 0, .int .i64 0, .int .i64 0, .int .i64 0, .int .i64 0, .int .i64 0, .int .i64 0, .int .i64 0, .int .i64 0] 44 (0, 0))) := (hg1.block _ (Array.getElem?_eq_some_iff.1 RB.out).1 (by simp)).trans RB.out
  have b0 : w1.cell? ⟨w.heap.size, 0, none⟩ = some (.string nm) := grown_cell hg1 (by go_simp)
  have b1 : w1.cell? ⟨w.heap.size, 1, none⟩ = some (.int .i64 sp) := grown_cell hg1 (by go_simp)
  have b2 : w1.cell? ⟨w.heap.size, 2, none⟩ = some (.int .i64 st) := grown_cell hg1 (by go_simp)
  have b3 : w1.cell? ⟨w.heap.size, 3, none⟩ = some (.slice so ss.length sc) := grown_cell hg1 (by go_simp)
  have b4 : w1.cell? ⟨w.heap.size, 4, none⟩ = some (.slice lo ls.length lc) := grown_cell hg1 (by go_simp)
  have b5 : w1.cell? ⟨w.heap.size, 5, none⟩ = some (.slice to_ ts.length tc) := grown_cell hg1 (by go_simp)
  clear hg1
  go_wp2_with fail
  refine (rspan_any ⟨nm, sp, st, so, sc, ss, lo, lc, ls, to_, tc, ts⟩ HA.out.sl _ (HA.out.grown G1.out).hs HSP).mono ?_; rintro e w2 ⟨rfl, hg2⟩
  have G2 := Lib.hid (grown_trans G1.out hg2)
  have R2 : Hid (w2.heap[w.heap.size + 1]? = some (.cells #[.int .i64 0, .int .i64 0, .int .i64 0, .int .i64 0, .int .i64 0, .int .i64 0, .int .i64 0, .int .i64 0, .int .i64 0, .int .i64 0] 44 (0, 0))) := (hg2.block _ (Array.getElem?_eq_some_iff.1 R1.out).1 (by simp)).trans R1.out
  have c0 : w2.cell? ⟨w.heap.size, 0, none⟩ = some (.string nm) := grown_cell hg2 b0
  have c1 : w2.cell? ⟨w.heap.size, 1, none⟩ = some (.int .i64 sp) := grown_cell hg2 b1
  have c2 : w2.cell? ⟨w.heap.size, 2, none⟩ = some (.int .i64 st) := grown_cell hg2 b2
  have c3 : w2.cell? ⟨w.heap.size, 3, none⟩ = some (.slice so ss.length sc) := grown_cell hg2 b3
  have c4 : w2.cell? ⟨w.heap.size, 4, none⟩ = some (.slice lo ls.length lc) := grown_cell hg2 b4
  have c5 : w2.cell? ⟨w.heap.size, 5, none⟩ = some (.slice to_ ts.length tc) := grown_cell hg2 b5
  clear hg2 b0 b1 b2 b3 b4 b5
  go_wp2_with fail
  refine (rstreams_any nm sp st so sc ss lo lc ls to_ tc ts n _ (Lib.hid (HA.out.grown (by first | exact G2.out | exact grown_trans G2.out (grown_drewN _ _ 1)))) HCE HS HSP).mono ?_; rintro e w3 ⟨⟨v1, v2, v3, v4, v5, rfl, d1, d2, d3, d4, d5⟩, hg3⟩
  have G23 : Hid (w2.grownBy w3 none) := by first | exact hg3 | exact grown_trans (grown_drewN _ _ 1) hg3
  obtain ⟨ao1, cc1, rfl, s1, _⟩ := d1
  have S1 := Lib.hid s1
  obtain ⟨ao2, cc2, rfl, s2, _⟩ := d2
  have S2 := Lib.hid s2
  obtain ⟨ao3, cc3, rfl, s3, _⟩ := d3
  have S3 := Lib.hid s3
  obtain ⟨ao4, cc4, rfl, s4, _⟩ := d4
  have S4 := Lib.hid s4
  obtain ⟨ao5, cc5, rfl, s5, _⟩ := d5
  have S5 := Lib.hid s5
  clear hg3 c0 c1 c2 c3 c4 c5 s1 s2 s3 s4 s5
  have HX' : Hid ((⟨knS (segL F T (streamS 4 ss)), knS (segL F T (streamS 5 ss)), knS (segL F T (streamS 1 ss)), knS (segL F T (streamS 2 ss)), knS (segL F T (streamS 3 ss)), knK (segL F T (streamS 1 ss)), knK (segL F T (streamS 2 ss)), knK (segL F T (streamS 3 ss))⟩ : Prt) = ⟨y0, y1, y2, y3, y4, y5, y6, y7⟩) := by
    show _ = _
    have := HX.out
    unfold partR at this
    simpa only [Int.toNat_natCast] using this
  go_wp2_with fail
  refine (rpartOf_any (.slice none 0 0) ao1 ao2 ao3 ao4 ao5 cc1 cc2 cc3 cc4 cc5 n (streamS 1 ss) (streamS 2 ss) (streamS 3 ss) (streamS 4 ss) (streamS 5 ss) F T HF.out.1 HF.out.2.1 HF.out.2.2 _ S1 S2 S3 S4 S5 HX').mono ?_; rintro e w4 ⟨rfl, hg4⟩
  have G24 := grown_trans G23.out hg4
  have G4 := Lib.hid (grown_trans G2.out G24)
  have R4 : Hid (w4.heap[w.heap.size + 1]? = some (.cells #[.int .i64 0, .int .i64 0, .int .i64 0, .int .i64 0, .int .i64 0, .int .i64 0, .int .i64 0, .int .i64 0, .int .i64 0, .int .i64 0] 44 (0, 0))) := (G24.block _ (Array.getElem?_eq_some_iff.1 R2.out).1 (by simp)).trans R2.out
  clear hg4 G24
  have r0 : w4.cell? ⟨w.heap.size + 1, 0, none⟩ = some (.int .i64 0) := by have := R4.out; simp [World.cell?, this]
  have e0 : w4.frozen? ⟨w.heap.size + 1, 0, none⟩ = false := by have := R4.out; simp [World.frozen?, this]
  have r1 : w4.cell? ⟨w.heap.size + 1, 1, none⟩ = some (.int .i64 0) := by have := R4.out; simp [World.cell?, this]
  have e1 : w4.frozen? ⟨w.heap.size + 1, 1, none⟩ = false := by have := R4.out; simp [World.frozen?, this]
  have r2 : w4.cell? ⟨w.heap.size + 1, 2, none⟩ = some (.int .i64 0) := by have := R4.out; simp [World.cell?, this]
  have e2 : w4.frozen? ⟨w.heap.size + 1, 2, none⟩ = false := by have := R4.out; simp [World.frozen?, this]
  have r3 : w4.cell? ⟨w.heap.size + 1, 3, none⟩ = some (.int .i64 0) := by have := R4.out; simp [World.cell?, this]
  have e3 : w4.frozen? ⟨w.heap.size + 1, 3, none⟩ = false := by have := R4.out; simp [World.frozen?, this]
  have r4 : w4.cell? ⟨w.heap.size + 1, 4, none⟩ = some (.int .i64 0) := by have := R4.out; simp [World.cell?, this]
  have e4 : w4.frozen? ⟨w.heap.size + 1, 4, none⟩ = false := by have := R4.out; simp [World.frozen?, this]
  have r5 : w4.cell? ⟨w.heap.size + 1, 5, none⟩ = some (.int .i64 0) := by have := R4.out; simp [World.cell?, this]
  have e5 : w4.frozen? ⟨w.heap.size + 1, 5, none⟩ = false := by have := R4.out; simp [World.frozen?, this]
  have r6 : w4.cell? ⟨w.heap.size + 1, 6, none⟩ = some (.int .i64 0) := by have := R4.out; simp [World.cell?, this]
  have e6 : w4.frozen? ⟨w.heap.size + 1, 6, none⟩ = false := by have := R4.out; simp [World.frozen?, this]
  have r7 : w4.cell? ⟨w.heap.size + 1, 7, none⟩ = some (.int .i64 0) := by have := R4.out; simp [World.cell?, this]
  have e7 : w4.frozen? ⟨w.heap.size + 1, 7, none⟩ = false := by have := R4.out; simp [World.frozen?, this]
  have r8 : w4.cell? ⟨w.heap.size + 1, 8, none⟩ = some (.int .i64 0) := by have := R4.out; simp [World.cell?, this]
  have e8 : w4.frozen? ⟨w.heap.size + 1, 8, none⟩ = false := by have := R4.out; simp [World.frozen?, this]
  have r9 : w4.cell? ⟨w.heap.size + 1, 9, none⟩ = some (.int .i64 0) := by have := R4.out; simp [World.cell?, this]
  have e9 : w4.frozen? ⟨w.heap.size + 1, 9, none⟩ = false := by have := R4.out; simp [World.frozen?, this]
  go_wp2_with fail
  obtain ⟨W1, hW1⟩ : ∃ W1, ((((((((((w4.setCell ⟨w.heap.size + 1, 0, none⟩ (.int .i64 (F : Int))).setCell ⟨w.heap.size + 1, 1, none⟩ (.int .i64 (T : Int))).setCell ⟨w.heap.size + 1, 2, none⟩ (.int .i64 y0)).setCell ⟨w.heap.size + 1, 3, none⟩ (.int .i64 y1)).setCell ⟨w.heap.size + 1, 4, none⟩ (.int .i64 y2)).setCell ⟨w.heap.size + 1, 5, none⟩ (.int .i64 y3)).setCell ⟨w.heap.size + 1, 6, none⟩ (.int .i64 y4)).setCell ⟨w.heap.size + 1, 7, none⟩ (.int .i64 y5)).setCell ⟨w.heap.size + 1, 8, none⟩ (.int .i64 y6)).setCell ⟨w.heap.size + 1, 9, none⟩ (.int .i64 y7)) = W1 := ⟨_, rfl⟩
  have hR1 : W1.heap[w.heap.size + 1]? = some (.cells #[.int .i64 (F : Int), .int .i64 (T : Int), .int .i64 y0, .int .i64 y1, .int .i64 y2, .int .i64 y3, .int .i64 y4, .int .i64 y5, .int .i64 y6, .int .i64 y7] 44 (0, 0)) := by
    rw [← hW1]; have := R4.out; simp [World.setCell, Array.getElem?_modify, this]
  have hg1 : w.grownBy W1 none := by rw [← hW1]; exact (grown_setR (grown_setR (grown_setR (grown_setR (grown_setR (grown_setR (grown_setR (grown_setR (grown_setR (grown_setR G4.out _ _) _ _) _ _) _ _) _ _) _ _) _ _) _ _) _ _) _ _)
  have z0 : W1.cell? ⟨w.heap.size + 1, 0, none⟩ = some (.int .i64 (F : Int)) := by simp [World.cell?, hR1]
  have z1 : W1.cell? ⟨w.heap.size + 1, 1, none⟩ = some (.int .i64 (T : Int)) := by simp [World.cell?, hR1]
  have z2 : W1.cell? ⟨w.heap.size + 1, 2, none⟩ = some (.int .i64 y0) := by simp [World.cell?, hR1]
  have z3 : W1.cell? ⟨w.heap.size + 1, 3, none⟩ = some (.int .i64 y1) := by simp [World.cell?, hR1]
  have z4 : W1.cell? ⟨w.heap.size + 1, 4, none⟩ = some (.int .i64 y2) := by simp [World.cell?, hR1]
  have z5 : W1.cell? ⟨w.heap.size + 1, 5, none⟩ = some (.int .i64 y3) := by simp [World.cell?, hR1]
  have z6 : W1.cell? ⟨w.heap.size + 1, 6, none⟩ = some (.int .i64 y4) := by simp [World.cell?, hR1]
  have z7 : W1.cell? ⟨w.heap.size + 1, 7, none⟩ = some (.int .i64 y5) := by simp [World.cell?, hR1]
  have z8 : W1.cell? ⟨w.heap.size + 1, 8, none⟩ = some (.int .i64 y6) := by simp [World.cell?, hR1]
  have z9 : W1.cell? ⟨w.heap.size + 1, 9, none⟩ = some (.int .i64 y7) := by simp [World.cell?, hR1]
  rw [hW1]
  clear hW1
  refine bodyPost_ret (v := .tuple #[.agg #[.int .i64 (F : Int), .int .i64 (T : Int), .int .i64 y0, .int .i64 y1, .int .i64 y2, .int .i64 y3, .int .i64 y4, .int .i64 y5, .int .i64 y6, .int .i64 y7], .int .i64 0]) (by simp [results, Try.results27, go_sem, z0, z1, z2, z3, z4, z5, z6, z7, z8, z9]) rfl ⟨rfl, hg1⟩

theorem rPartOf_any (a : Act) (f t : Int) (w : World) (ha : ActAt w a) {E : Int} (hE : Hid (partE a f t = E)) :
    Calls Try.prog 27 #[a.val, .int .i64 f, .int .i64 t] w fun e w' => e = .returned (.tuple #[.agg (resA E (partR a.ss f t) f t), .int .i64 E]) ∧ w.grownBy w' none := by
  have hv := hE.out
  unfold partE at hv
  obtain ⟨ce, hce⟩ : ∃ e, chkE a = e := ⟨_, rfl⟩
  rw [hce] at hv
  by_cases c1 : ce = 0
  · have hs : SOk a.ss := sok_of (chk_ok (hce.trans c1))
    rw [if_pos c1] at hv
    subst c1
    obtain ⟨nm, sp, st, so, sc, ss, lo, lc, ls, to_, tc, ts⟩ := a
    by_cases c2 : 0 ≤ f ∧ f ≤ t ∧ t ≤ spanL ss
    · rw [if_pos c2] at hv
      subst hv
      rw [resA, if_pos rfl]
      exact rPartOf_ok nm sp st so sc ss lo lc ls to_ tc ts f t c2.1 c2.2.1 c2.2.2 w (Lib.hid ha) (Lib.hid hs) (Lib.hid hce) (Lib.hid rfl)
    · rw [if_neg c2] at hv
      subst hv
      rw [resA, if_neg (by decide)]
      by_cases d0 : f < 0
      · exact rPartOf_low nm sp st so sc ss lo lc ls to_ tc ts f t d0 w (Lib.hid ha) (Lib.hid hs) (Lib.hid hce)
      by_cases d1 : t < f
      · exact rPartOf_cross nm sp st so sc ss lo lc ls to_ tc ts f t (by omega) d1 w (Lib.hid ha) (Lib.hid hs) (Lib.hid hce)
      · exact rPartOf_far nm sp st so sc ss lo lc ls to_ tc ts f t (by omega) (by omega) (by omega) w (Lib.hid ha) (Lib.hid hs) (Lib.hid hce)
  · rw [if_neg c1] at hv
    subst hv
    rw [resA, if_neg c1]
    obtain ⟨nm, sp, st, so, sc, ss, lo, lc, ls, to_, tc, ts⟩ := a
    exact rPartOf_chk nm sp st so sc ss lo lc ls to_ tc ts f t w ce c1 (Lib.hid ha) (Lib.hid hce)
end Go.Proofs.Ytmfnphknoclhfaa
