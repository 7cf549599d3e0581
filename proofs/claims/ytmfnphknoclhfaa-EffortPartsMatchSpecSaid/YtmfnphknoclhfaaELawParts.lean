/- For all activities and seconds, PartOf and Parts return what the reference returns: the walk. -/
import Derived.Test.YtmfnphknoclhfaaEParts
import Derived.Test.YtmfnphknoclhfaaEPart
import Derived.Test.YtmfnphknoclhfaaETold
namespace Go.Proofs.Ytmfnphknoclhfaa
open Go.RowKit

/-- The laps whose parts are told. -/
noncomputable def lpsOf (a : Act) : List LapV := if chkE a = 0 then a.ls else []
theorem lps_len (a : Act) : (lpsOf a).length ≤ 200 := by
  unfold lpsOf
  split
  · rename_i h
    have := (chk_ok h).ll
    omega
  · simp
theorem part_both {ss : List Smp} (h : SOk ss) {f t : Int} (f0 : 0 ≤ f) (hft : f ≤ t) : partR ss f t = partP ss f t := by
  unfold partP
  rcases Nat.eq_zero_or_pos ss.length with h0 | h0
  · rw [h0]; exact part_none h0 f t
  · exact part_same h h0 f0 hft
theorem parts_both {a : Act} (h : chkE a = 0) : partsVs (partR a.ss) a.ls = partsVs (partP a.ss) a.ls := by
  have hok := chk_ok h
  have hs := sok_of hok
  have hb := lapsE_in (Int.le_refl _) hok.laps
  unfold partsVs
  rw [List.flatMap_def, List.flatMap_def]
  congr 1
  exact List.map_congr_left fun x hx => by
    have := hb x hx
    rw [part_both hs this.1 (by omega)]
theorem resA_lit (E : Int) (X : Prt) (f t : Int) : ∃ z0 z1 z2 z3 z4 z5 z6 z7 z8 z9 : Int, resA E X f t = #[.int .i64 z0, .int .i64 z1, .int .i64 z2, .int .i64 z3, .int .i64 z4, .int .i64 z5, .int .i64 z6, .int .i64 z7, .int .i64 z8, .int .i64 z9] := by
  unfold resA
  split
  · exact ⟨_, _, _, _, _, _, _, _, _, _, rfl⟩
  · exact ⟨_, _, _, _, _, _, _, _, _, _, rfl⟩
theorem res_both {a : Act} {f t E : Int} (hE : partE a f t = E) : resA E (partR a.ss f t) f t = resA E (partP a.ss f t) f t := by
  unfold resA
  by_cases h0 : E = 0
  · rw [if_pos h0, if_pos h0]
    subst h0
    unfold partE at hE
    by_cases hc : chkE a = 0
    · rw [if_pos hc] at hE
      by_cases hr : 0 ≤ f ∧ f ≤ t ∧ t ≤ spanL a.ss
      · rw [part_both (sok_of (chk_ok hc)) hr.1 hr.2.1]
      · rw [if_neg hr] at hE; omega
    · rw [if_neg hc] at hE; exact absurd hE hc
  · rw [if_neg h0, if_neg h0]

set_option maxHeartbeats 800000 in
theorem Parts_any (a : Act) (w : World) (ha : ActAt w a) {E : Int} {lp : List LapV} (hE : Hid (chkE a = E)) (hL : Hid (lpsOf a = lp)) :
    Calls Try.prog 28 #[a.val] w fun e w' => (∃ v, e = .returned (.tuple #[v, .int .i64 E]) ∧ w'.ownsRow w.heap.size 44 10 v lp.length (partsVs (partP a.ss) lp)) ∧ w.grownBy w' none := by
  have hce := hE.out
  have hl := hL.out
  unfold lpsOf at hl
  by_cases c1 : E = 0
  · subst c1
    rw [if_pos hce] at hl
    have hok := chk_ok hce
    have hs := sok_of hok
    have hb := lapsE_in (Int.le_refl _) hok.laps
    have hll := hok.ll
    subst hl
    refine Calls.mono (R := fun e w' => (∃ v, e = .returned (.tuple #[v, .int .i64 0]) ∧ w'.ownsRow w.heap.size 44 10 v a.ls.length (partsVs (partP a.ss) a.ls)) ∧ w.grownBy w' none) ?_ (fun e w' ⟨⟨v, h1, h⟩, g⟩ => ⟨⟨v, h1, by exact h⟩, g⟩)
    obtain ⟨nm, sp, st, so, sc, ss, lo, lc, ls, to_, tc, ts⟩ := a
    exact Parts_ok nm sp st so sc ss lo lc ls to_ tc ts (by have h : (ls.length : Int) ≤ 200 := hll; omega) w (Lib.hid ha) (Lib.hid hce) (Lib.hid hs) (Lib.hid hb)
  · rw [if_neg (fun h => c1 (hce.symm.trans h))] at hl
    subst hl
    have hne : (E != 0) = true := by simpa using c1
    have HA := Lib.hid ha
    obtain ⟨nm, sp, st, so, sc, ss, lo, lc, ls, to_, tc, ts⟩ := a
    simp only [Act.val]
    clear hce ha c1 hL
    go_enter Try.func28, Try.ntmps28
    go_wp2_with fail
    refine (check_any ⟨nm, sp, st, so, sc, ss, lo, lc, ls, to_, tc, ts⟩ _ (HA.out.grown (World.grownBy_alloc _ _ _)) hE).mono ?_; rintro e w1 ⟨rfl, hg1⟩
    have G1 := Lib.hid (grown_trans (World.grownBy_alloc w (.cells #[.string nm, .int .i64 sp, .int .i64 st, .slice so ss.length sc, .slice lo ls.length lc, .slice to_ ts.length tc] 42) none) hg1)
    clear hg1
    go_wp2_with fail
    go_ret2
    exact ⟨⟨_, rfl, World.ownsRow_nil _ _ _ _⟩, G1.out⟩

set_option maxHeartbeats 800000 in
theorem rParts_any (a : Act) (w : World) (ha : ActAt w a) {E : Int} {lp : List LapV} (hE : Hid (chkE a = E)) (hL : Hid (lpsOf a = lp)) :
    Calls Try.prog 29 #[a.val] w fun e w' => (∃ v, e = .returned (.tuple #[v, .int .i64 E]) ∧ w'.ownsRow w.heap.size 44 10 v lp.length (partsVs (partP a.ss) lp)) ∧ w.grownBy w' none := by
  have hce := hE.out
  have hl := hL.out
  unfold lpsOf at hl
  by_cases c1 : E = 0
  · subst c1
    rw [if_pos hce] at hl
    have hok := chk_ok hce
    have hs := sok_of hok
    have hb := lapsE_in (Int.le_refl _) hok.laps
    have hll := hok.ll
    subst hl
    refine Calls.mono (R := fun e w' => (∃ v, e = .returned (.tuple #[v, .int .i64 0]) ∧ w'.ownsRow w.heap.size 44 10 v a.ls.length (partsVs (partR a.ss) a.ls)) ∧ w.grownBy w' none) ?_ (fun e w' ⟨⟨v, h1, h⟩, g⟩ => ⟨⟨v, h1, by rw [parts_both hce] at h; exact h⟩, g⟩)
    obtain ⟨nm, sp, st, so, sc, ss, lo, lc, ls, to_, tc, ts⟩ := a
    exact rParts_ok nm sp st so sc ss lo lc ls to_ tc ts (by have h : (ls.length : Int) ≤ 200 := hll; omega) w (Lib.hid ha) (Lib.hid hce) (Lib.hid hs) (Lib.hid hb)
  · rw [if_neg (fun h => c1 (hce.symm.trans h))] at hl
    subst hl
    have hne : (E != 0) = true := by simpa using c1
    have HA := Lib.hid ha
    obtain ⟨nm, sp, st, so, sc, ss, lo, lc, ls, to_, tc, ts⟩ := a
    simp only [Act.val]
    clear hce ha c1 hL
    go_enter Try.func29, Try.ntmps29
    go_wp2_with fail
    refine (rcheck_any ⟨nm, sp, st, so, sc, ss, lo, lc, ls, to_, tc, ts⟩ _ (HA.out.grown (World.grownBy_alloc _ _ _)) hE).mono ?_; rintro e w1 ⟨rfl, hg1⟩
    have G1 := Lib.hid (grown_trans (World.grownBy_alloc w (.cells #[.string nm, .int .i64 sp, .int .i64 st, .slice so ss.length sc, .slice lo ls.length lc, .slice to_ ts.length tc] 42) none) hg1)
    clear hg1
    go_wp2_with fail
    go_ret2
    exact ⟨⟨_, rfl, World.ownsRow_nil _ _ _ _⟩, G1.out⟩

set_option maxRecDepth 100000 in
set_option maxHeartbeats 3200000 in
theorem parts_law (a : Act) (f t : Int) (w : World) (ha : ActAt w a) (_ : a.ss.length ≤ a.sc) :
    Calls Try.prog 4 #[a.val, .int .i64 f, .int .i64 t] w fun e w' => e = .returned (.bool true) ∧ w.grownBy w' none := by
  obtain ⟨E, hE⟩ : ∃ e, partE a f t = e := ⟨_, rfl⟩
  obtain ⟨C, hC⟩ : ∃ e, chkE a = e := ⟨_, rfl⟩
  obtain ⟨lp, hlp⟩ : ∃ e, lpsOf a = e := ⟨_, rfl⟩
  have hrb := res_both hE
  obtain ⟨z0, z1, z2, z3, z4, z5, z6, z7, z8, z9, hz⟩ := resA_lit E (partP a.ss f t) f t
  rw [hz] at hrb
  have HZ := Lib.hid hz; have HR := Lib.hid hrb
  have hln := lps_len a
  rw [hlp] at hln
  have HLN := Lib.hid hln
  have HE := Lib.hid hE; have HC := Lib.hid hC; have HLP := Lib.hid hlp; have HA := Lib.hid ha
  clear hE hC hlp hrb hz hln ha
  obtain ⟨nm, sp, st, so, sc, ss, lo, lc, ls, to_, tc, ts⟩ := a
  simp only [Act.val]
  go_enter Try.func4, Try.ntmps4
  have GB : Hid (w.grownBy (w.alloc (.cells #[.string nm, .int .i64 sp, .int .i64 st, .slice so ss.length sc, .slice lo ls.length lc, .slice to_ ts.length tc] 42)) none) := World.grownBy_alloc _ _ _
  have RB : Hid ((w.alloc (.cells #[.string nm, .int .i64 sp, .int .i64 st, .slice so ss.length sc, .slice lo ls.length lc, .slice to_ ts.length tc] 42)).heap[w.heap.size]? = some (.cells #[.string nm, .int .i64 sp, .int .i64 st, .slice so ss.length sc, .slice lo ls.length lc, .slice to_ ts.length tc] 42 (0, 0))) := heap_alloc_new _ _
  go_wp2_with fail
  refine (PartOf_any ⟨nm, sp, st, so, sc, ss, lo, lc, ls, to_, tc, ts⟩ f t _ (HA.out.grown GB.out) HE).mono ?_; rintro e w1 ⟨rfl, hg1⟩
  rw [show resA E (partP (Act.mk nm sp st so sc ss lo lc ls to_ tc ts).ss f t) f t = #[.int .i64 z0, .int .i64 z1, .int .i64 z2, .int .i64 z3, .int .i64 z4, .int .i64 z5, .int .i64 z6, .int .i64 z7, .int .i64 z8, .int .i64 z9] from HZ.out]
  have GA := World.grownBy_alloc w1 (.cells #[.int .i64 z0, .int .i64 z1, .int .i64 z2, .int .i64 z3, .int .i64 z4, .int .i64 z5, .int .i64 z6, .int .i64 z7, .int .i64 z8, .int .i64 z9] 44) none
  have ka : Hid ((w1.alloc (.cells #[.int .i64 z0, .int .i64 z1, .int .i64 z2, .int .i64 z3, .int .i64 z4, .int .i64 z5, .int .i64 z6, .int .i64 z7, .int .i64 z8, .int .i64 z9] 44)).heap[w1.heap.size]? = some (.cells #[.int .i64 z0, .int .i64 z1, .int .i64 z2, .int .i64 z3, .int .i64 z4, .int .i64 z5, .int .i64 z6, .int .i64 z7, .int .i64 z8, .int .i64 z9] 44 (0, 0))) := heap_alloc_new _ _
  have K := Lib.hid (grown_trans GB.out (grown_trans hg1 GA))
  have R1 : Hid ((w1.alloc (.cells #[.int .i64 z0, .int .i64 z1, .int .i64 z2, .int .i64 z3, .int .i64 z4, .int .i64 z5, .int .i64 z6, .int .i64 z7, .int .i64 z8, .int .i64 z9] 44)).heap[w.heap.size]? = some (.cells #[.string nm, .int .i64 sp, .int .i64 st, .slice so ss.length sc, .slice lo ls.length lc, .slice to_ ts.length tc] 42 (0, 0))) := ((grown_trans hg1 GA).block _ (Array.getElem?_eq_some_iff.1 RB.out).1 (by simp)).trans RB.out
  have b0 : (w1.alloc (.cells #[.int .i64 z0, .int .i64 z1, .int .i64 z2, .int .i64 z3, .int .i64 z4, .int .i64 z5, .int .i64 z6, .int .i64 z7, .int .i64 z8, .int .i64 z9] 44)).cell? ⟨w.heap.size, 0, none⟩ = some (.string nm) := by have := R1.out; simp [World.cell?, this]
  have b1 : (w1.alloc (.cells #[.int .i64 z0, .int .i64 z1, .int .i64 z2, .int .i64 z3, .int .i64 z4, .int .i64 z5, .int .i64 z6, .int .i64 z7, .int .i64 z8, .int .i64 z9] 44)).cell? ⟨w.heap.size, 1, none⟩ = some (.int .i64 sp) := by have := R1.out; simp [World.cell?, this]
  have b2 : (w1.alloc (.cells #[.int .i64 z0, .int .i64 z1, .int .i64 z2, .int .i64 z3, .int .i64 z4, .int .i64 z5, .int .i64 z6, .int .i64 z7, .int .i64 z8, .int .i64 z9] 44)).cell? ⟨w.heap.size, 2, none⟩ = some (.int .i64 st) := by have := R1.out; simp [World.cell?, this]
  have b3 : (w1.alloc (.cells #[.int .i64 z0, .int .i64 z1, .int .i64 z2, .int .i64 z3, .int .i64 z4, .int .i64 z5, .int .i64 z6, .int .i64 z7, .int .i64 z8, .int .i64 z9] 44)).cell? ⟨w.heap.size, 3, none⟩ = some (.slice so ss.length sc) := by have := R1.out; simp [World.cell?, this]
  have b4 : (w1.alloc (.cells #[.int .i64 z0, .int .i64 z1, .int .i64 z2, .int .i64 z3, .int .i64 z4, .int .i64 z5, .int .i64 z6, .int .i64 z7, .int .i64 z8, .int .i64 z9] 44)).cell? ⟨w.heap.size, 4, none⟩ = some (.slice lo ls.length lc) := by have := R1.out; simp [World.cell?, this]
  have b5 : (w1.alloc (.cells #[.int .i64 z0, .int .i64 z1, .int .i64 z2, .int .i64 z3, .int .i64 z4, .int .i64 z5, .int .i64 z6, .int .i64 z7, .int .i64 z8, .int .i64 z9] 44)).cell? ⟨w.heap.size, 5, none⟩ = some (.slice to_ ts.length tc) := by have := R1.out; simp [World.cell?, this]
  clear hg1 GA GB RB
  go_wp2_with fail
  obtain ⟨W1, hW1⟩ : ∃ W, (w1.alloc (.cells #[.int .i64 z0, .int .i64 z1, .int .i64 z2, .int .i64 z3, .int .i64 z4, .int .i64 z5, .int .i64 z6, .int .i64 z7, .int .i64 z8, .int .i64 z9] 44)) = W := ⟨_, rfl⟩
  obtain ⟨PA, hPA⟩ : ∃ W, w1.heap.size = W := ⟨_, rfl⟩
  rw [hW1] at ka K R1 b0 b1 b2 b3 b4 b5
  rw [hPA] at ka
  rw [hW1, hPA]
  clear hW1 hPA
  refine (rPartOf_any ⟨nm, sp, st, so, sc, ss, lo, lc, ls, to_, tc, ts⟩ f t W1 (HA.out.grown K.out) HE).mono ?_; rintro e w3 ⟨rfl, hg3⟩
  rw [show resA E (partR (Act.mk nm sp st so sc ss lo lc ls to_ tc ts).ss f t) f t = #[.int .i64 z0, .int .i64 z1, .int .i64 z2, .int .i64 z3, .int .i64 z4, .int .i64 z5, .int .i64 z6, .int .i64 z7, .int .i64 z8, .int .i64 z9] from HR.out]
  have GC := World.grownBy_alloc w3 (.cells #[.int .i64 z0, .int .i64 z1, .int .i64 z2, .int .i64 z3, .int .i64 z4, .int .i64 z5, .int .i64 z6, .int .i64 z7, .int .i64 z8, .int .i64 z9] 44) none
  have kb : Hid ((w3.alloc (.cells #[.int .i64 z0, .int .i64 z1, .int .i64 z2, .int .i64 z3, .int .i64 z4, .int .i64 z5, .int .i64 z6, .int .i64 z7, .int .i64 z8, .int .i64 z9] 44)).heap[w3.heap.size]? = some (.cells #[.int .i64 z0, .int .i64 z1, .int .i64 z2, .int .i64 z3, .int .i64 z4, .int .i64 z5, .int .i64 z6, .int .i64 z7, .int .i64 z8, .int .i64 z9] 44 (0, 0))) := heap_alloc_new _ _
  replace K := Lib.hid (grown_trans K.out (grown_trans hg3 GC))
  replace ka := Lib.hid (((grown_trans hg3 GC).block _ (Array.getElem?_eq_some_iff.1 ka.out).1 (by simp)).trans ka.out)
  replace R1 := Lib.hid (((grown_trans hg3 GC).block _ (Array.getElem?_eq_some_iff.1 R1.out).1 (by simp)).trans R1.out)
  clear b0 b1 b2 b3 b4 b5
  have b0 : (w3.alloc (.cells #[.int .i64 z0, .int .i64 z1, .int .i64 z2, .int .i64 z3, .int .i64 z4, .int .i64 z5, .int .i64 z6, .int .i64 z7, .int .i64 z8, .int .i64 z9] 44)).cell? ⟨w.heap.size, 0, none⟩ = some (.string nm) := by have := R1.out; simp [World.cell?, this]
  have b1 : (w3.alloc (.cells #[.int .i64 z0, .int .i64 z1, .int .i64 z2, .int .i64 z3, .int .i64 z4, .int .i64 z5, .int .i64 z6, .int .i64 z7, .int .i64 z8, .int .i64 z9] 44)).cell? ⟨w.heap.size, 1, none⟩ = some (.int .i64 sp) := by have := R1.out; simp [World.cell?, this]
  have b2 : (w3.alloc (.cells #[.int .i64 z0, .int .i64 z1, .int .i64 z2, .int .i64 z3, .int .i64 z4, .int .i64 z5, .int .i64 z6, .int .i64 z7, .int .i64 z8, .int .i64 z9] 44)).cell? ⟨w.heap.size, 2, none⟩ = some (.int .i64 st) := by have := R1.out; simp [World.cell?, this]
  have b3 : (w3.alloc (.cells #[.int .i64 z0, .int .i64 z1, .int .i64 z2, .int .i64 z3, .int .i64 z4, .int .i64 z5, .int .i64 z6, .int .i64 z7, .int .i64 z8, .int .i64 z9] 44)).cell? ⟨w.heap.size, 3, none⟩ = some (.slice so ss.length sc) := by have := R1.out; simp [World.cell?, this]
  have b4 : (w3.alloc (.cells #[.int .i64 z0, .int .i64 z1, .int .i64 z2, .int .i64 z3, .int .i64 z4, .int .i64 z5, .int .i64 z6, .int .i64 z7, .int .i64 z8, .int .i64 z9] 44)).cell? ⟨w.heap.size, 4, none⟩ = some (.slice lo ls.length lc) := by have := R1.out; simp [World.cell?, this]
  have b5 : (w3.alloc (.cells #[.int .i64 z0, .int .i64 z1, .int .i64 z2, .int .i64 z3, .int .i64 z4, .int .i64 z5, .int .i64 z6, .int .i64 z7, .int .i64 z8, .int .i64 z9] 44)).cell? ⟨w.heap.size, 5, none⟩ = some (.slice to_ ts.length tc) := by have := R1.out; simp [World.cell?, this]
  clear hg3 GC
  go_wp2_with fail
  obtain ⟨W3, hW3⟩ : ∃ W, (w3.alloc (.cells #[.int .i64 z0, .int .i64 z1, .int .i64 z2, .int .i64 z3, .int .i64 z4, .int .i64 z5, .int .i64 z6, .int .i64 z7, .int .i64 z8, .int .i64 z9] 44)) = W := ⟨_, rfl⟩
  obtain ⟨PB, hPB⟩ : ∃ W, w3.heap.size = W := ⟨_, rfl⟩
  rw [hW3] at ka kb K R1 b0 b1 b2 b3 b4 b5
  rw [hPB] at kb
  rw [hW3, hPB]
  clear hW3 hPB
  refine (Parts_any ⟨nm, sp, st, so, sc, ss, lo, lc, ls, to_, tc, ts⟩ W3 (HA.out.grown K.out) HC HLP).mono ?_; rintro e w5 ⟨⟨v5, rfl, ho5⟩, hg5⟩
  have HO5 := Lib.hid ho5
  replace K := Lib.hid (grown_trans K.out hg5)
  replace ka := Lib.hid ((hg5.block _ (Array.getElem?_eq_some_iff.1 ka.out).1 (by simp)).trans ka.out)
  replace kb := Lib.hid ((hg5.block _ (Array.getElem?_eq_some_iff.1 kb.out).1 (by simp)).trans kb.out)
  replace R1 := Lib.hid ((hg5.block _ (Array.getElem?_eq_some_iff.1 R1.out).1 (by simp)).trans R1.out)
  clear b0 b1 b2 b3 b4 b5 ho5 hg5
  have b0 : w5.cell? ⟨w.heap.size, 0, none⟩ = some (.string nm) := by have := R1.out; simp [World.cell?, this]
  have b1 : w5.cell? ⟨w.heap.size, 1, none⟩ = some (.int .i64 sp) := by have := R1.out; simp [World.cell?, this]
  have b2 : w5.cell? ⟨w.heap.size, 2, none⟩ = some (.int .i64 st) := by have := R1.out; simp [World.cell?, this]
  have b3 : w5.cell? ⟨w.heap.size, 3, none⟩ = some (.slice so ss.length sc) := by have := R1.out; simp [World.cell?, this]
  have b4 : w5.cell? ⟨w.heap.size, 4, none⟩ = some (.slice lo ls.length lc) := by have := R1.out; simp [World.cell?, this]
  have b5 : w5.cell? ⟨w.heap.size, 5, none⟩ = some (.slice to_ ts.length tc) := by have := R1.out; simp [World.cell?, this]
  go_wp2_with fail
  refine (rParts_any ⟨nm, sp, st, so, sc, ss, lo, lc, ls, to_, tc, ts⟩ w5 (HA.out.grown K.out) HC HLP).mono ?_; rintro e w6 ⟨⟨v6, rfl, ho6⟩, hg6⟩
  have HO6 := Lib.hid ho6
  replace HO5 := Lib.hid (HO5.out.kept hg6 (Classical.em _))
  replace K := Lib.hid (grown_trans K.out hg6)
  replace ka := Lib.hid ((hg6.block _ (Array.getElem?_eq_some_iff.1 ka.out).1 (by simp)).trans ka.out)
  replace kb := Lib.hid ((hg6.block _ (Array.getElem?_eq_some_iff.1 kb.out).1 (by simp)).trans kb.out)
  clear b0 b1 b2 b3 b4 b5 ho6 hg6 R1
  have p0 : w6.cell? ⟨PA, 0, none⟩ = some (.int .i64 z0) := by have := ka.out; simp [World.cell?, this]
  have q0 : w6.cell? ⟨PB, 0, none⟩ = some (.int .i64 z0) := by have := kb.out; simp [World.cell?, this]
  have p1 : w6.cell? ⟨PA, 1, none⟩ = some (.int .i64 z1) := by have := ka.out; simp [World.cell?, this]
  have q1 : w6.cell? ⟨PB, 1, none⟩ = some (.int .i64 z1) := by have := kb.out; simp [World.cell?, this]
  have p2 : w6.cell? ⟨PA, 2, none⟩ = some (.int .i64 z2) := by have := ka.out; simp [World.cell?, this]
  have q2 : w6.cell? ⟨PB, 2, none⟩ = some (.int .i64 z2) := by have := kb.out; simp [World.cell?, this]
  have p3 : w6.cell? ⟨PA, 3, none⟩ = some (.int .i64 z3) := by have := ka.out; simp [World.cell?, this]
  have q3 : w6.cell? ⟨PB, 3, none⟩ = some (.int .i64 z3) := by have := kb.out; simp [World.cell?, this]
  have p4 : w6.cell? ⟨PA, 4, none⟩ = some (.int .i64 z4) := by have := ka.out; simp [World.cell?, this]
  have q4 : w6.cell? ⟨PB, 4, none⟩ = some (.int .i64 z4) := by have := kb.out; simp [World.cell?, this]
  have p5 : w6.cell? ⟨PA, 5, none⟩ = some (.int .i64 z5) := by have := ka.out; simp [World.cell?, this]
  have q5 : w6.cell? ⟨PB, 5, none⟩ = some (.int .i64 z5) := by have := kb.out; simp [World.cell?, this]
  have p6 : w6.cell? ⟨PA, 6, none⟩ = some (.int .i64 z6) := by have := ka.out; simp [World.cell?, this]
  have q6 : w6.cell? ⟨PB, 6, none⟩ = some (.int .i64 z6) := by have := kb.out; simp [World.cell?, this]
  have p7 : w6.cell? ⟨PA, 7, none⟩ = some (.int .i64 z7) := by have := ka.out; simp [World.cell?, this]
  have q7 : w6.cell? ⟨PB, 7, none⟩ = some (.int .i64 z7) := by have := kb.out; simp [World.cell?, this]
  have p8 : w6.cell? ⟨PA, 8, none⟩ = some (.int .i64 z8) := by have := ka.out; simp [World.cell?, this]
  have q8 : w6.cell? ⟨PB, 8, none⟩ = some (.int .i64 z8) := by have := kb.out; simp [World.cell?, this]
  have p9 : w6.cell? ⟨PA, 9, none⟩ = some (.int .i64 z9) := by have := ka.out; simp [World.cell?, this]
  have q9 : w6.cell? ⟨PB, 9, none⟩ = some (.int .i64 z9) := by have := kb.out; simp [World.cell?, this]
  go_wp2_with fail
  refine (equal_parts HO5.out HO6.out HLN.out).mono ?_; rintro e w7 ⟨rfl, hg7⟩
  replace K := Lib.hid (grown_trans K.out hg7)
  clear hg7 HO5 HO6 p0 q0 p1 q1 p2 q2 p3 q3 p4 q4 p5 q5 p6 q6 p7 q7 p8 q8 p9 q9
  go_wp2_with fail
  refine (etold_any _).mono ?_; rintro e w8 ⟨rfl, hg8⟩
  replace K := Lib.hid (grown_trans K.out hg8)
  clear hg8
  go_wp2_with fail
  go_ret
  exact ⟨by first | rfl | simp, K.out⟩
end Go.Proofs.Ytmfnphknoclhfaa
