/- For all activities and seconds, two neighbouring parts add up to what both are together: the walk. -/
import Derived.Test.YtmfnphknoclhfaaERPart
import Derived.Test.YtmfnphknoclhfaaEPart
import Derived.Test.YtmfnphknoclhfaaETold
namespace Go.Proofs.Ytmfnphknoclhfaa
open Go.RowKit

def TenCells (e : Ending) (E : Int) : Prop := ∃ x0 x1 x2 x3 x4 x5 x6 x7 x8 x9 : Int, e = .returned (.tuple #[.agg #[.int .i64 x0, .int .i64 x1, .int .i64 x2, .int .i64 x3, .int .i64 x4, .int .i64 x5, .int .i64 x6, .int .i64 x7, .int .i64 x8, .int .i64 x9], .int .i64 E])
theorem resA_ten (E : Int) (X : Prt) (f t : Int) {e : Ending} (h : e = .returned (.tuple #[.agg (resA E X f t), .int .i64 E])) : TenCells e E := by
  unfold resA at h
  split at h
  · exact ⟨_, _, _, _, _, _, _, _, _, _, h⟩
  · exact ⟨_, _, _, _, _, _, _, _, _, _, h⟩
theorem PartOf_ten (a : Act) (f t : Int) (w : World) (ha : ActAt w a) {E : Int} (hE : Hid (partE a f t = E)) :
    Calls Try.prog 26 #[a.val, .int .i64 f, .int .i64 t] w fun e w' => TenCells e E ∧ w.grownBy w' none :=
  (PartOf_any a f t w ha hE).mono fun _ _ h => ⟨resA_ten E _ f t h.1, h.2⟩
theorem rPartOf_ten (a : Act) (f t : Int) (w : World) (ha : ActAt w a) {E : Int} (hE : Hid (partE a f t = E)) :
    Calls Try.prog 27 #[a.val, .int .i64 f, .int .i64 t] w fun e w' => TenCells e E ∧ w.grownBy w' none :=
  (rPartOf_any a f t w ha hE).mono fun _ _ h => ⟨resA_ten E _ f t h.1, h.2⟩
theorem PartOf_fine (a : Act) (f t : Int) (w : World) (ha : ActAt w a) (hE : Hid (partE a f t = 0)) {x0 x1 x2 x3 x4 x5 x6 x7 : Int} (hX : Hid (partP a.ss f t = ⟨x0, x1, x2, x3, x4, x5, x6, x7⟩)) :
    Calls Try.prog 26 #[a.val, .int .i64 f, .int .i64 t] w fun e w' => e = .returned (.tuple #[.agg #[.int .i64 f, .int .i64 t, .int .i64 x0, .int .i64 x1, .int .i64 x2, .int .i64 x3, .int .i64 x4, .int .i64 x5, .int .i64 x6, .int .i64 x7], .int .i64 0]) ∧ w.grownBy w' none :=
  (PartOf_any a f t w ha hE).mono fun _ _ h => ⟨by rw [h.1, resA, if_pos rfl, hX.out], h.2⟩
theorem part_adds {ss : List Smp} (h : SOk ss) {f m t : Int} (h1 : f ≤ m) (h2 : m ≤ t) {p q r : Prt} (hp : partP ss f m = p) (hq : partP ss m t = q) (hr : partP ss f t = r) :
    (p.way + q.way = r.way ∧ p.climb + q.climb = r.climb ∧ p.pulse + q.pulse = r.pulse ∧ p.power + q.power = r.power ∧ p.steps + q.steps = r.steps ∧ p.pk + q.pk = r.pk ∧ p.wk + q.wk = r.wk ∧ p.sk + q.sk = r.sk) ∧ PrtBd r := by
  subst hp hq hr
  refine ⟨?_, ?_⟩
  · simp only [partP, prtN]
    omega
  · rcases Nat.eq_zero_or_pos ss.length with h0 | h0
    · have : ss = [] := List.eq_nil_of_length_eq_zero h0
      subst this
      simp only [partP, prtN, sumG]
      constructor <;> simp [sumG]
    · exact prt_bd h.smpsIn (Int.le_trans h1 h2) (by omega)
theorem wrap_is {x : Int} (h0 : 0 ≤ x) (h1 : x ≤ 60000000000000) : IntKind.i64.wrap x = x := IntWalk.i64_in _ (by omega)

set_option maxRecDepth 100000 in
set_option maxHeartbeats 3200000 in
theorem add_fine (a : Act) (f m t : Int) (w : World) (ha : ActAt w a) (h1 : Hid (partE a f m = 0)) (h2 : Hid (partE a m t = 0)) (h3 : Hid (partE a f t = 0)) {p0 p1 p2 p3 p4 p5 p6 p7 q0 q1 q2 q3 q4 q5 q6 q7 r0 r1 r2 r3 r4 r5 r6 r7 : Int}
    (hP : Hid (partP a.ss f m = ⟨p0, p1, p2, p3, p4, p5, p6, p7⟩)) (hQ : Hid (partP a.ss m t = ⟨q0, q1, q2, q3, q4, q5, q6, q7⟩)) (hR : Hid (partP a.ss f t = ⟨r0, r1, r2, r3, r4, r5, r6, r7⟩)) (HEQ : Hid (p0 + q0 = r0 ∧ p1 + q1 = r1 ∧ p2 + q2 = r2 ∧ p3 + q3 = r3 ∧ p4 + q4 = r4 ∧ p5 + q5 = r5 ∧ p6 + q6 = r6 ∧ p7 + q7 = r7)) (HWR : Hid (IntKind.i64.wrap r0 = r0 ∧ IntKind.i64.wrap r1 = r1 ∧ IntKind.i64.wrap r2 = r2 ∧ IntKind.i64.wrap r3 = r3 ∧ IntKind.i64.wrap r4 = r4 ∧ IntKind.i64.wrap r5 = r5 ∧ IntKind.i64.wrap r6 = r6 ∧ IntKind.i64.wrap r7 = r7)) :
    Calls Try.prog 5 #[a.val, .int .i64 f, .int .i64 m, .int .i64 t] w fun e w' => e = .returned (.bool true) ∧ w.grownBy w' none := by
  have HA := Lib.hid ha; clear ha
  obtain ⟨nm, sp, st, so, sc, ss, lo, lc, ls, to_, tc, ts⟩ := a
  simp only [Act.val]
  go_enter Try.func5, Try.ntmps5
  have GB : Hid (w.grownBy (w.alloc (.cells #[.string nm, .int .i64 sp, .int .i64 st, .slice so ss.length sc, .slice lo ls.length lc, .slice to_ ts.length tc] 42)) none) := World.grownBy_alloc _ _ _
  go_wp2_with fail
  refine (PartOf_fine ⟨nm, sp, st, so, sc, ss, lo, lc, ls, to_, tc, ts⟩ f m _ (HA.out.grown GB.out) h1 hP).mono ?_; rintro e w1 ⟨rfl, hg1⟩
  go_upto_region 2 with (fail)
  obtain ⟨V1, hV⟩ : ∃ V, (w1.alloc (.cells #[.int .i64 f, .int .i64 m, .int .i64 p0, .int .i64 p1, .int .i64 p2, .int .i64 p3, .int .i64 p4, .int .i64 p5, .int .i64 p6, .int .i64 p7] 44)) = V := ⟨_, rfl⟩
  have B1 : Hid (V1.heap[w1.heap.size]? = some (.cells #[.int .i64 f, .int .i64 m, .int .i64 p0, .int .i64 p1, .int .i64 p2, .int .i64 p3, .int .i64 p4, .int .i64 p5, .int .i64 p6, .int .i64 p7] 44 (0, 0))) := by
    show _ = _
    rw [← hV]; exact heap_alloc_new w1 _
  have g1 : w1.grownBy V1 none := by rw [← hV]; exact World.grownBy_alloc _ _ _
  have K1 := Lib.hid (grown_trans hg1 g1)
  rw [hV]
  clear hV g1 hg1
  have T1 := Lib.hid (grown_trans GB.out K1.out)
  have HX : Hid ((w.alloc (.cells #[.string nm, .int .i64 sp, .int .i64 st, .slice so ss.length sc, .slice lo ls.length lc, .slice to_ ts.length tc] 42)).grownBy V1 none) := K1.out
  have HXO := HX
  clear HX
  have a0 : V1.cell? ⟨w.heap.size, 0, none⟩ = some (.string nm) := grown_cell HXO.out (by go_simp)
  have a1 : V1.cell? ⟨w.heap.size, 1, none⟩ = some (.int .i64 sp) := grown_cell HXO.out (by go_simp)
  have a2 : V1.cell? ⟨w.heap.size, 2, none⟩ = some (.int .i64 st) := grown_cell HXO.out (by go_simp)
  have a3 : V1.cell? ⟨w.heap.size, 3, none⟩ = some (.slice so ss.length sc) := grown_cell HXO.out (by go_simp)
  have a4 : V1.cell? ⟨w.heap.size, 4, none⟩ = some (.slice lo ls.length lc) := grown_cell HXO.out (by go_simp)
  have a5 : V1.cell? ⟨w.heap.size, 5, none⟩ = some (.slice to_ ts.length tc) := grown_cell HXO.out (by go_simp)
  go_wp2_with fail
  refine (PartOf_fine ⟨nm, sp, st, so, sc, ss, lo, lc, ls, to_, tc, ts⟩ m t _ (HA.out.grown T1.out) h2 hQ).mono ?_; rintro e w2 ⟨rfl, hg2⟩
  clear a0 a1 a2 a3 a4 a5
  go_upto_region 3 with (fail)
  obtain ⟨V2, hV⟩ : ∃ V, (w2.alloc (.cells #[.int .i64 m, .int .i64 t, .int .i64 q0, .int .i64 q1, .int .i64 q2, .int .i64 q3, .int .i64 q4, .int .i64 q5, .int .i64 q6, .int .i64 q7] 44)) = V := ⟨_, rfl⟩
  have B2 : Hid (V2.heap[w2.heap.size]? = some (.cells #[.int .i64 m, .int .i64 t, .int .i64 q0, .int .i64 q1, .int .i64 q2, .int .i64 q3, .int .i64 q4, .int .i64 q5, .int .i64 q6, .int .i64 q7] 44 (0, 0))) := by
    show _ = _
    rw [← hV]; exact heap_alloc_new w2 _
  have g2 : w2.grownBy V2 none := by rw [← hV]; exact World.grownBy_alloc _ _ _
  have K2 := Lib.hid (grown_trans hg2 g2)
  rw [hV]
  clear hV g2 hg2
  replace B1 : Hid (V2.heap[w1.heap.size]? = _) := (K2.out.block _ (Array.getElem?_eq_some_iff.1 B1.out).1 (by simp)).trans B1.out
  have T2 := Lib.hid (grown_trans T1.out K2.out)
  have HX : Hid ((w.alloc (.cells #[.string nm, .int .i64 sp, .int .i64 st, .slice so ss.length sc, .slice lo ls.length lc, .slice to_ ts.length tc] 42)).grownBy V2 none) := grown_trans HXO.out K2.out
  have HXO := HX
  clear HX
  have a0 : V2.cell? ⟨w.heap.size, 0, none⟩ = some (.string nm) := grown_cell HXO.out (by go_simp)
  have a1 : V2.cell? ⟨w.heap.size, 1, none⟩ = some (.int .i64 sp) := grown_cell HXO.out (by go_simp)
  have a2 : V2.cell? ⟨w.heap.size, 2, none⟩ = some (.int .i64 st) := grown_cell HXO.out (by go_simp)
  have a3 : V2.cell? ⟨w.heap.size, 3, none⟩ = some (.slice so ss.length sc) := grown_cell HXO.out (by go_simp)
  have a4 : V2.cell? ⟨w.heap.size, 4, none⟩ = some (.slice lo ls.length lc) := grown_cell HXO.out (by go_simp)
  have a5 : V2.cell? ⟨w.heap.size, 5, none⟩ = some (.slice to_ ts.length tc) := grown_cell HXO.out (by go_simp)
  go_wp2_with fail
  refine (PartOf_fine ⟨nm, sp, st, so, sc, ss, lo, lc, ls, to_, tc, ts⟩ f t _ (HA.out.grown T2.out) h3 hR).mono ?_; rintro e w3 ⟨rfl, hg3⟩
  clear a0 a1 a2 a3 a4 a5
  go_upto_region 4 with (fail)
  obtain ⟨V3, hV⟩ : ∃ V, (w3.alloc (.cells #[.int .i64 f, .int .i64 t, .int .i64 r0, .int .i64 r1, .int .i64 r2, .int .i64 r3, .int .i64 r4, .int .i64 r5, .int .i64 r6, .int .i64 r7] 44)) = V := ⟨_, rfl⟩
  have B3 : Hid (V3.heap[w3.heap.size]? = some (.cells #[.int .i64 f, .int .i64 t, .int .i64 r0, .int .i64 r1, .int .i64 r2, .int .i64 r3, .int .i64 r4, .int .i64 r5, .int .i64 r6, .int .i64 r7] 44 (0, 0))) := by
    show _ = _
    rw [← hV]; exact heap_alloc_new w3 _
  have g3 : w3.grownBy V3 none := by rw [← hV]; exact World.grownBy_alloc _ _ _
  have K3 := Lib.hid (grown_trans hg3 g3)
  rw [hV]
  clear hV g3 hg3
  replace B1 : Hid (V3.heap[w1.heap.size]? = _) := (K3.out.block _ (Array.getElem?_eq_some_iff.1 B1.out).1 (by simp)).trans B1.out
  replace B2 : Hid (V3.heap[w2.heap.size]? = _) := (K3.out.block _ (Array.getElem?_eq_some_iff.1 B2.out).1 (by simp)).trans B2.out
  have T3 := Lib.hid (grown_trans T2.out K3.out)
  have pc0 : V3.cell? ⟨w1.heap.size, 2, none⟩ = some (.int .i64 p0) := by have := B1.out; simp [World.cell?, this]
  have pc1 : V3.cell? ⟨w1.heap.size, 3, none⟩ = some (.int .i64 p1) := by have := B1.out; simp [World.cell?, this]
  have pc2 : V3.cell? ⟨w1.heap.size, 4, none⟩ = some (.int .i64 p2) := by have := B1.out; simp [World.cell?, this]
  have pc3 : V3.cell? ⟨w1.heap.size, 5, none⟩ = some (.int .i64 p3) := by have := B1.out; simp [World.cell?, this]
  have pc4 : V3.cell? ⟨w1.heap.size, 6, none⟩ = some (.int .i64 p4) := by have := B1.out; simp [World.cell?, this]
  have pc5 : V3.cell? ⟨w1.heap.size, 7, none⟩ = some (.int .i64 p5) := by have := B1.out; simp [World.cell?, this]
  have pc6 : V3.cell? ⟨w1.heap.size, 8, none⟩ = some (.int .i64 p6) := by have := B1.out; simp [World.cell?, this]
  have pc7 : V3.cell? ⟨w1.heap.size, 9, none⟩ = some (.int .i64 p7) := by have := B1.out; simp [World.cell?, this]
  have qc0 : V3.cell? ⟨w2.heap.size, 2, none⟩ = some (.int .i64 q0) := by have := B2.out; simp [World.cell?, this]
  have qc1 : V3.cell? ⟨w2.heap.size, 3, none⟩ = some (.int .i64 q1) := by have := B2.out; simp [World.cell?, this]
  have qc2 : V3.cell? ⟨w2.heap.size, 4, none⟩ = some (.int .i64 q2) := by have := B2.out; simp [World.cell?, this]
  have qc3 : V3.cell? ⟨w2.heap.size, 5, none⟩ = some (.int .i64 q3) := by have := B2.out; simp [World.cell?, this]
  have qc4 : V3.cell? ⟨w2.heap.size, 6, none⟩ = some (.int .i64 q4) := by have := B2.out; simp [World.cell?, this]
  have qc5 : V3.cell? ⟨w2.heap.size, 7, none⟩ = some (.int .i64 q5) := by have := B2.out; simp [World.cell?, this]
  have qc6 : V3.cell? ⟨w2.heap.size, 8, none⟩ = some (.int .i64 q6) := by have := B2.out; simp [World.cell?, this]
  have qc7 : V3.cell? ⟨w2.heap.size, 9, none⟩ = some (.int .i64 q7) := by have := B2.out; simp [World.cell?, this]
  have rc0 : V3.cell? ⟨w3.heap.size, 2, none⟩ = some (.int .i64 r0) := by have := B3.out; simp [World.cell?, this]
  have rc1 : V3.cell? ⟨w3.heap.size, 3, none⟩ = some (.int .i64 r1) := by have := B3.out; simp [World.cell?, this]
  have rc2 : V3.cell? ⟨w3.heap.size, 4, none⟩ = some (.int .i64 r2) := by have := B3.out; simp [World.cell?, this]
  have rc3 : V3.cell? ⟨w3.heap.size, 5, none⟩ = some (.int .i64 r3) := by have := B3.out; simp [World.cell?, this]
  have rc4 : V3.cell? ⟨w3.heap.size, 6, none⟩ = some (.int .i64 r4) := by have := B3.out; simp [World.cell?, this]
  have rc5 : V3.cell? ⟨w3.heap.size, 7, none⟩ = some (.int .i64 r5) := by have := B3.out; simp [World.cell?, this]
  have rc6 : V3.cell? ⟨w3.heap.size, 8, none⟩ = some (.int .i64 r6) := by have := B3.out; simp [World.cell?, this]
  have rc7 : V3.cell? ⟨w3.heap.size, 9, none⟩ = some (.int .i64 r7) := by have := B3.out; simp [World.cell?, this]
  obtain ⟨eq0, eq1, eq2, eq3, eq4, eq5, eq6, eq7⟩ := HEQ.out
  obtain ⟨wr0, wr1, wr2, wr3, wr4, wr5, wr6, wr7⟩ := HWR.out
  clear B1 B2 B3 HEQ HWR
  go_wp2_with fail
  refine (etold_any _).mono ?_; rintro x w5 ⟨rfl, hg5⟩
  have T5 := Lib.hid (grown_trans T3.out hg5)
  clear hg5
  go_wp2_with fail
  go_ret
  exact ⟨by first | rfl | simp, T5.out⟩

set_option maxRecDepth 100000 in
set_option maxHeartbeats 3200000 in
theorem add_err (a : Act) (f m t : Int) (w : World) (ha : ActAt w a) {E1 E2 E3 : Int} (h1 : Hid (partE a f m = E1)) (h2 : Hid (partE a m t = E2)) (h3 : Hid (partE a f t = E3)) (hne : Hid (E1 ≠ 0 ∨ E2 ≠ 0 ∨ E3 ≠ 0)) :
    Calls Try.prog 5 #[a.val, .int .i64 f, .int .i64 m, .int .i64 t] w fun e w' => e = .returned (.bool true) ∧ w.grownBy w' none := by
  have HA := Lib.hid ha; clear ha
  obtain ⟨nm, sp, st, so, sc, ss, lo, lc, ls, to_, tc, ts⟩ := a
  simp only [Act.val]
  go_enter Try.func5, Try.ntmps5
  have GB : Hid (w.grownBy (w.alloc (.cells #[.string nm, .int .i64 sp, .int .i64 st, .slice so ss.length sc, .slice lo ls.length lc, .slice to_ ts.length tc] 42)) none) := World.grownBy_alloc _ _ _
  go_wp2_with fail
  refine (PartOf_ten ⟨nm, sp, st, so, sc, ss, lo, lc, ls, to_, tc, ts⟩ f m _ (HA.out.grown GB.out) h1).mono ?_; rintro e w1 ⟨ht, hg1⟩
  obtain ⟨p0, p1, p2, p3, p4, p5, p6, p7, p8, p9, rfl⟩ := ht
  go_upto_region 2 with (fail)
  obtain ⟨V1, hV⟩ : ∃ V, (w1.alloc (.cells #[.int .i64 p0, .int .i64 p1, .int .i64 p2, .int .i64 p3, .int .i64 p4, .int .i64 p5, .int .i64 p6, .int .i64 p7, .int .i64 p8, .int .i64 p9] 44)) = V := ⟨_, rfl⟩
  have B1 : Hid (V1.heap[w1.heap.size]? = some (.cells #[.int .i64 p0, .int .i64 p1, .int .i64 p2, .int .i64 p3, .int .i64 p4, .int .i64 p5, .int .i64 p6, .int .i64 p7, .int .i64 p8, .int .i64 p9] 44 (0, 0))) := by
    show _ = _
    rw [← hV]; exact heap_alloc_new w1 _
  have g1 : w1.grownBy V1 none := by rw [← hV]; exact World.grownBy_alloc _ _ _
  have K1 := Lib.hid (grown_trans hg1 g1)
  rw [hV]
  clear hV g1 hg1
  clear B1
  have T1 := Lib.hid (grown_trans GB.out K1.out)
  have HX : Hid ((w.alloc (.cells #[.string nm, .int .i64 sp, .int .i64 st, .slice so ss.length sc, .slice lo ls.length lc, .slice to_ ts.length tc] 42)).grownBy V1 none) := K1.out
  have HXO := HX
  clear HX
  have a0 : V1.cell? ⟨w.heap.size, 0, none⟩ = some (.string nm) := grown_cell HXO.out (by go_simp)
  have a1 : V1.cell? ⟨w.heap.size, 1, none⟩ = some (.int .i64 sp) := grown_cell HXO.out (by go_simp)
  have a2 : V1.cell? ⟨w.heap.size, 2, none⟩ = some (.int .i64 st) := grown_cell HXO.out (by go_simp)
  have a3 : V1.cell? ⟨w.heap.size, 3, none⟩ = some (.slice so ss.length sc) := grown_cell HXO.out (by go_simp)
  have a4 : V1.cell? ⟨w.heap.size, 4, none⟩ = some (.slice lo ls.length lc) := grown_cell HXO.out (by go_simp)
  have a5 : V1.cell? ⟨w.heap.size, 5, none⟩ = some (.slice to_ ts.length tc) := grown_cell HXO.out (by go_simp)
  go_wp2_with fail
  refine (PartOf_ten ⟨nm, sp, st, so, sc, ss, lo, lc, ls, to_, tc, ts⟩ m t _ (HA.out.grown T1.out) h2).mono ?_; rintro e w2 ⟨ht, hg2⟩
  obtain ⟨q0, q1, q2, q3, q4, q5, q6, q7, q8, q9, rfl⟩ := ht
  clear a0 a1 a2 a3 a4 a5
  go_upto_region 3 with (fail)
  obtain ⟨V2, hV⟩ : ∃ V, (w2.alloc (.cells #[.int .i64 q0, .int .i64 q1, .int .i64 q2, .int .i64 q3, .int .i64 q4, .int .i64 q5, .int .i64 q6, .int .i64 q7, .int .i64 q8, .int .i64 q9] 44)) = V := ⟨_, rfl⟩
  have B2 : Hid (V2.heap[w2.heap.size]? = some (.cells #[.int .i64 q0, .int .i64 q1, .int .i64 q2, .int .i64 q3, .int .i64 q4, .int .i64 q5, .int .i64 q6, .int .i64 q7, .int .i64 q8, .int .i64 q9] 44 (0, 0))) := by
    show _ = _
    rw [← hV]; exact heap_alloc_new w2 _
  have g2 : w2.grownBy V2 none := by rw [← hV]; exact World.grownBy_alloc _ _ _
  have K2 := Lib.hid (grown_trans hg2 g2)
  rw [hV]
  clear hV g2 hg2
  clear B2
  have T2 := Lib.hid (grown_trans T1.out K2.out)
  have HX : Hid ((w.alloc (.cells #[.string nm, .int .i64 sp, .int .i64 st, .slice so ss.length sc, .slice lo ls.length lc, .slice to_ ts.length tc] 42)).grownBy V2 none) := grown_trans HXO.out K2.out
  have HXO := HX
  clear HX
  have a0 : V2.cell? ⟨w.heap.size, 0, none⟩ = some (.string nm) := grown_cell HXO.out (by go_simp)
  have a1 : V2.cell? ⟨w.heap.size, 1, none⟩ = some (.int .i64 sp) := grown_cell HXO.out (by go_simp)
  have a2 : V2.cell? ⟨w.heap.size, 2, none⟩ = some (.int .i64 st) := grown_cell HXO.out (by go_simp)
  have a3 : V2.cell? ⟨w.heap.size, 3, none⟩ = some (.slice so ss.length sc) := grown_cell HXO.out (by go_simp)
  have a4 : V2.cell? ⟨w.heap.size, 4, none⟩ = some (.slice lo ls.length lc) := grown_cell HXO.out (by go_simp)
  have a5 : V2.cell? ⟨w.heap.size, 5, none⟩ = some (.slice to_ ts.length tc) := grown_cell HXO.out (by go_simp)
  go_wp2_with fail
  refine (PartOf_ten ⟨nm, sp, st, so, sc, ss, lo, lc, ls, to_, tc, ts⟩ f t _ (HA.out.grown T2.out) h3).mono ?_; rintro e w3 ⟨ht, hg3⟩
  obtain ⟨r0, r1, r2, r3, r4, r5, r6, r7, r8, r9, rfl⟩ := ht
  clear a0 a1 a2 a3 a4 a5
  go_upto_region 4 with (fail)
  obtain ⟨V3, hV⟩ : ∃ V, (w3.alloc (.cells #[.int .i64 r0, .int .i64 r1, .int .i64 r2, .int .i64 r3, .int .i64 r4, .int .i64 r5, .int .i64 r6, .int .i64 r7, .int .i64 r8, .int .i64 r9] 44)) = V := ⟨_, rfl⟩
  have B3 : Hid (V3.heap[w3.heap.size]? = some (.cells #[.int .i64 r0, .int .i64 r1, .int .i64 r2, .int .i64 r3, .int .i64 r4, .int .i64 r5, .int .i64 r6, .int .i64 r7, .int .i64 r8, .int .i64 r9] 44 (0, 0))) := by
    show _ = _
    rw [← hV]; exact heap_alloc_new w3 _
  have g3 : w3.grownBy V3 none := by rw [← hV]; exact World.grownBy_alloc _ _ _
  have K3 := Lib.hid (grown_trans hg3 g3)
  rw [hV]
  clear hV g3 hg3
  clear B3
  have T3 := Lib.hid (grown_trans T2.out K3.out)
  have HX : Hid ((w.alloc (.cells #[.string nm, .int .i64 sp, .int .i64 st, .slice so ss.length sc, .slice lo ls.length lc, .slice to_ ts.length tc] 42)).grownBy V3 none) := grown_trans HXO.out K3.out
  have HXO := HX
  clear HX
  have a0 : V3.cell? ⟨w.heap.size, 0, none⟩ = some (.string nm) := grown_cell HXO.out (by go_simp)
  have a1 : V3.cell? ⟨w.heap.size, 1, none⟩ = some (.int .i64 sp) := grown_cell HXO.out (by go_simp)
  have a2 : V3.cell? ⟨w.heap.size, 2, none⟩ = some (.int .i64 st) := grown_cell HXO.out (by go_simp)
  have a3 : V3.cell? ⟨w.heap.size, 3, none⟩ = some (.slice so ss.length sc) := grown_cell HXO.out (by go_simp)
  have a4 : V3.cell? ⟨w.heap.size, 4, none⟩ = some (.slice lo ls.length lc) := grown_cell HXO.out (by go_simp)
  have a5 : V3.cell? ⟨w.heap.size, 5, none⟩ = some (.slice to_ ts.length tc) := grown_cell HXO.out (by go_simp)
  by_cases c1 : E1 = 0
  · subst c1
    by_cases c2 : E2 = 0
    · subst c2
      have hne3 : (E3 != 0) = true := by have := hne.out; simp at this; simpa using this
      clear hne
      go_wp2_with fail
      refine (rPartOf_ten ⟨nm, sp, st, so, sc, ss, lo, lc, ls, to_, tc, ts⟩ f t _ (HA.out.grown T3.out) h3).mono ?_; rintro e w4 ⟨ht, hg4⟩
      obtain ⟨s0, s1, s2, s3, s4, s5, s6, s7, s8, s9, rfl⟩ := ht
      clear a0 a1 a2 a3 a4 a5
      have K4 := Lib.hid hg4
      clear hg4
      go_wp2_with fail
      refine (etold_any _).mono ?_; rintro x w5 ⟨rfl, hg5⟩
      have T5 := Lib.hid (grown_trans (grown_trans (grown_trans T3.out K4.out) (World.grownBy_alloc _ _ _)) hg5)
      clear hg5
      go_wp2_with fail
      go_ret
      exact ⟨by first | rfl | simp, T5.out⟩
    · have hne2 : (E2 != 0) = true := by simpa using c2
      clear hne c2
      go_wp2_with fail
      refine (rPartOf_ten ⟨nm, sp, st, so, sc, ss, lo, lc, ls, to_, tc, ts⟩ f t _ (HA.out.grown T3.out) h3).mono ?_; rintro e w4 ⟨ht, hg4⟩
      obtain ⟨s0, s1, s2, s3, s4, s5, s6, s7, s8, s9, rfl⟩ := ht
      clear a0 a1 a2 a3 a4 a5
      have K4 := Lib.hid hg4
      clear hg4
      go_wp2_with fail
      refine (etold_any _).mono ?_; rintro x w5 ⟨rfl, hg5⟩
      have T5 := Lib.hid (grown_trans (grown_trans (grown_trans T3.out K4.out) (World.grownBy_alloc _ _ _)) hg5)
      clear hg5
      go_wp2_with fail
      go_ret
      exact ⟨by first | rfl | simp, T5.out⟩
  · have hne1 : (E1 != 0) = true := by simpa using c1
    clear hne c1
    go_wp2_with fail
    refine (rPartOf_ten ⟨nm, sp, st, so, sc, ss, lo, lc, ls, to_, tc, ts⟩ f t _ (HA.out.grown T3.out) h3).mono ?_; rintro e w4 ⟨ht, hg4⟩
    obtain ⟨s0, s1, s2, s3, s4, s5, s6, s7, s8, s9, rfl⟩ := ht
    clear a0 a1 a2 a3 a4 a5
    have K4 := Lib.hid hg4
    clear hg4
    go_wp2_with fail
    refine (etold_any _).mono ?_; rintro x w5 ⟨rfl, hg5⟩
    have T5 := Lib.hid (grown_trans (grown_trans (grown_trans T3.out K4.out) (World.grownBy_alloc _ _ _)) hg5)
    clear hg5
    go_wp2_with fail
    go_ret
    exact ⟨by first | rfl | simp, T5.out⟩

theorem parts_add_law (a : Act) (f m t : Int) (w : World) (ha : ActAt w a) (hc : a.ss.length ≤ a.sc) :
    Calls Try.prog 5 #[a.val, .int .i64 f, .int .i64 m, .int .i64 t] w fun e w' => e = .returned (.bool true) ∧ w.grownBy w' none := by
  by_cases hall : partE a f m = 0 ∧ partE a m t = 0 ∧ partE a f t = 0
  · obtain ⟨h1, h2, h3⟩ := hall
    have hk : chkE a = 0 ∧ (0 ≤ f ∧ f ≤ m ∧ m ≤ spanL a.ss) := by
      unfold partE at h1
      split at h1
      · rename_i hk; exact ⟨hk, by split at h1; (· assumption); omega⟩
      · omega
    have hk2 : m ≤ t := by
      unfold partE at h2
      rw [if_pos hk.1] at h2
      split at h2
      · rename_i h; exact h.2.1
      · omega
    have hs : SOk a.ss := sok_of (chk_ok hk.1)
    rcases hp : partP a.ss f m with ⟨p0, p1, p2, p3, p4, p5, p6, p7⟩
    rcases hq : partP a.ss m t with ⟨q0, q1, q2, q3, q4, q5, q6, q7⟩
    rcases hr : partP a.ss f t with ⟨r0, r1, r2, r3, r4, r5, r6, r7⟩
    obtain ⟨he, hb⟩ := part_adds hs hk.2.2.1 hk2 hp hq hr
    refine add_fine a f m t w ha h1 h2 h3 hp hq hr he ?_
    obtain ⟨b0, b1, b2, b3, b4, b5, b6, b7, b8, b9, b10, b11, b12, b13, b14, b15⟩ := hb
    simp only at b0 b1 b2 b3 b4 b5 b6 b7 b8 b9 b10 b11 b12 b13 b14 b15
    exact ⟨wrap_is b0 (by omega), wrap_is b2 (by omega), wrap_is b4 (by omega), wrap_is b6 (by omega), wrap_is b8 (by omega), wrap_is b10 (by omega), wrap_is b12 (by omega), wrap_is b14 (by omega)⟩
  · exact add_err a f m t w ha (Lib.hid rfl) (Lib.hid rfl) (Lib.hid rfl) (by
      show _ ∨ _ ∨ _
      rcases Classical.em (partE a f m = 0) with h1 | h1
      · rcases Classical.em (partE a m t = 0) with h2 | h2
        · exact Or.inr (Or.inr fun h3 => hall ⟨h1, h2, h3⟩)
        · exact Or.inr (Or.inl h2)
      · exact Or.inl h1)
end Go.Proofs.Ytmfnphknoclhfaa
