/- The contract of onStep. -/
import Derived.Test.YtgkhhfojioepgaaTAtB
import Derived.Laws.Rows
namespace Go.Proofs.Ytgkhhfojioepgaa
open Go.RowKit
set_option linter.unusedSimpArgs false
set_option linter.unusedVariables false

/-- A block's cell is set. -/
theorem block_set {W : World} {B k : Nat} {c : Array Value} {t : TypeId} (h : W.heap[B]? = some (.cells c t (0, 0))) (v : Value) : (W.setCell ⟨B, k, none⟩ v).heap[B]? = some (.cells (c.setIfInBounds k v) t (0, 0)) := by
  simp [World.setCell, Array.getElem?_modify, h]
theorem block_free {W : World} {B k : Nat} {c : Array Value} {t : TypeId} (h : W.heap[B]? = some (.cells c t (0, 0))) : W.frozen? ⟨B, k, none⟩ = false := by
  simp [World.frozen?, h]
theorem block_cell {W : World} {B : Nat} {c : Array Value} {t : TypeId} (h : W.heap[B]? = some (.cells c t (0, 0))) (k : Nat) (v : Value) (hv : c[k]? = some v) : W.cell? ⟨B, k, none⟩ = some v := (cell_of_row _ _ k _ _ (0, 0) h).trans hv
theorem grown_far {w w1 : World} {b : Nat} (h : w.grownBy w1 none) (hb : w.heap.size ≤ b) (k : Nat) (v : Value) : w.grownBy (w1.setCell ⟨b, k, none⟩ v) none :=
  ⟨h.os, h.tape, h.output, Nat.le_trans h.size (by simp [World.setCell]), fun i hi hne => by
    rw [Below.heap_setCell _ _ _ _ (by show i ≠ b; omega)]; exact h.block i hi hne⟩

/-- The memory of onStep: two samples, what it gives back, and its own. -/
structure OnM (w : World) (P Q Z X : Array Value) (W : World) : Prop where
  p : W.heap[w.heap.size]? = some (.cells P 28 (0, 0))
  q : W.heap[w.heap.size + 1]? = some (.cells Q 28 (0, 0))
  z : W.heap[w.heap.size + 2]? = some (.cells Z 28 (0, 0))
  x : W.heap[w.heap.size + 3]? = some (.cells X 28 (0, 0))
  g : w.grownBy W none
theorem OnM.grown {w W W' : World} {P Q Z X : Array Value} (h : OnM w P Q Z X W) (hg : W.grownBy W' none) : OnM w P Q Z X W' := by
  have k : ∀ {B : Nat} {o : Obj}, W.heap[B]? = some o → W'.heap[B]? = some o := fun {B o} h => (hg.block B (Array.getElem?_eq_some_iff.1 h).1 (by simp)).trans h
  exact ⟨k h.p, k h.q, k h.z, k h.x, grown_trans h.g hg⟩
theorem OnM.set {w W : World} {P Q Z X : Array Value} (h : OnM w P Q Z X W) (k : Nat) (v : Value) : OnM w P Q Z (X.setIfInBounds k v) (W.setCell ⟨w.heap.size + 3, k, none⟩ v) := by
  refine ⟨?_, ?_, ?_, block_set h.x v, grown_far h.g (by omega) k v⟩
  · rw [Below.heap_setCell _ _ _ _ (by show _ ≠ w.heap.size + 3; omega)]; exact h.p
  · rw [Below.heap_setCell _ _ _ _ (by show _ ≠ w.heap.size + 3; omega)]; exact h.q
  · rw [Below.heap_setCell _ _ _ _ (by show _ ≠ w.heap.size + 3; omega)]; exact h.z

set_option maxHeartbeats 3200000 in
theorem onStep_is (p q : Smp) (s : Int) (hp : SmpIn p) (hq : SmpIn q) (h0 : p.t ≤ s) (h1 : s ≤ q.t) (hpq : p.t < q.t) (w : World) {x : Smp} (h : Hid (onV p q s = x)) :
    Calls Try.prog 119 #[smpVal p, smpVal q, .int .i64 s] w fun e w' => e = .returned (smpVal x) ∧ w.grownBy w' none := by
  obtain ⟨pt, px, py, pz, pp, pq, ps⟩ := p
  obtain ⟨qt, qx, qy, qz, qp, qq, qs⟩ := q
  unfold SmpIn inPlane at hp hq
  simp only at hp hq h0 h1 hpq
  obtain ⟨nx, hnx⟩ : ∃ n, btwV px qx (s - pt) (qt - pt) = n := ⟨_, rfl⟩
  obtain ⟨ny, hny⟩ : ∃ n, btwV py qy (s - pt) (qt - pt) = n := ⟨_, rfl⟩
  obtain ⟨nz, hnz⟩ : ∃ n, btwV pz qz (s - pt) (qt - pt) = n := ⟨_, rfl⟩
  have HR : Hid (smpVal x = .agg #[.int .i64 s, .int .i64 nx, .int .i64 ny, .int .i64 nz, .int .i64 pp, .int .i64 pq, .int .i64 ps]) := by
    show _ = _; rw [← h.out]; unfold onV smpVal; simp only; rw [hnx, hny, hnz]
  have r1 : IntKind.i64.wrap (s - pt) = s - pt := IntWalk.i64_in _ (by omega)
  have r2 : IntKind.i64.wrap (qt - pt) = qt - pt := IntWalk.i64_in _ (by omega)
  have KX : Hid (∀ V : World, Calls Try.prog 162 #[.int .i64 px, .int .i64 qx, .int .i64 (s - pt), .int .i64 (qt - pt)] V fun e w' => e = .returned (.int .i64 nx) ∧ V.grownBy w' none) := fun V => between_is px qx (s - pt) (qt - pt) (by omega) (by omega) (by omega) (by omega) (by omega) (by omega) (by omega) (by omega) V hnx
  have KY : Hid (∀ V : World, Calls Try.prog 162 #[.int .i64 py, .int .i64 qy, .int .i64 (s - pt), .int .i64 (qt - pt)] V fun e w' => e = .returned (.int .i64 ny) ∧ V.grownBy w' none) := fun V => between_is py qy (s - pt) (qt - pt) (by omega) (by omega) (by omega) (by omega) (by omega) (by omega) (by omega) (by omega) V hny
  have KZ : Hid (∀ V : World, Calls Try.prog 162 #[.int .i64 pz, .int .i64 qz, .int .i64 (s - pt), .int .i64 (qt - pt)] V fun e w' => e = .returned (.int .i64 nz) ∧ V.grownBy w' none) := fun V => between_is pz qz (s - pt) (qt - pt) (by omega) (by omega) (by omega) (by omega) (by omega) (by omega) (by omega) (by omega) V hnz
  clear hnx hny hnz h hp hq h0 h1 hpq
  unfold smpVal at HR ⊢
  simp only at HR ⊢
  go_enter Try.func119, Try.ntmps119
  go_wp2_with fail
  go_quiet (fail)
  obtain ⟨V0, hV0⟩ : ∃ V0, ((((w.alloc (.cells #[.int .i64 pt, .int .i64 px, .int .i64 py, .int .i64 pz, .int .i64 pp, .int .i64 pq, .int .i64 ps] 28)).alloc (.cells #[.int .i64 qt, .int .i64 qx, .int .i64 qy, .int .i64 qz, .int .i64 qp, .int .i64 qq, .int .i64 qs] 28)).alloc (.cells #[.int .i64 0, .int .i64 0, .int .i64 0, .int .i64 0, .int .i64 0, .int .i64 0, .int .i64 0] 28)).drewN nq) = V0 := ⟨_, rfl⟩
  have e0 : V0.heap = (((w.alloc (.cells #[.int .i64 pt, .int .i64 px, .int .i64 py, .int .i64 pz, .int .i64 pp, .int .i64 pq, .int .i64 ps] 28)).alloc (.cells #[.int .i64 qt, .int .i64 qx, .int .i64 qy, .int .i64 qz, .int .i64 qp, .int .i64 qq, .int .i64 qs] 28)).alloc (.cells #[.int .i64 0, .int .i64 0, .int .i64 0, .int .i64 0, .int .i64 0, .int .i64 0, .int .i64 0] 28)).heap := by rw [← hV0]; rfl
  have hs : V0.heap.size = w.heap.size + 3 := by rw [e0]; simp
  have hp0 : V0.heap[w.heap.size]? = some (.cells #[.int .i64 pt, .int .i64 px, .int .i64 py, .int .i64 pz, .int .i64 pp, .int .i64 pq, .int .i64 ps] 28 (0, 0)) := by
    rw [e0, Below.heap_alloc _ _ _ (by simp; omega), Below.heap_alloc _ _ _ (by simp)]; exact heap_alloc_new w _
  have hq0 : V0.heap[w.heap.size + 1]? = some (.cells #[.int .i64 qt, .int .i64 qx, .int .i64 qy, .int .i64 qz, .int .i64 qp, .int .i64 qq, .int .i64 qs] 28 (0, 0)) := by
    rw [e0, Below.heap_alloc _ _ _ (by simp)]
    have := heap_alloc_new (w.alloc (.cells #[.int .i64 pt, .int .i64 px, .int .i64 py, .int .i64 pz, .int .i64 pp, .int .i64 pq, .int .i64 ps] 28)) (.cells #[.int .i64 qt, .int .i64 qx, .int .i64 qy, .int .i64 qz, .int .i64 qp, .int .i64 qq, .int .i64 qs] 28); simpa using this
  have hz0 : V0.heap[w.heap.size + 2]? = some (.cells #[.int .i64 0, .int .i64 0, .int .i64 0, .int .i64 0, .int .i64 0, .int .i64 0, .int .i64 0] 28 (0, 0)) := by
    rw [e0]
    have := heap_alloc_new ((w.alloc (.cells #[.int .i64 pt, .int .i64 px, .int .i64 py, .int .i64 pz, .int .i64 pp, .int .i64 pq, .int .i64 ps] 28)).alloc (.cells #[.int .i64 qt, .int .i64 qx, .int .i64 qy, .int .i64 qz, .int .i64 qp, .int .i64 qq, .int .i64 qs] 28)) (.cells #[.int .i64 0, .int .i64 0, .int .i64 0, .int .i64 0, .int .i64 0, .int .i64 0, .int .i64 0] 28); simpa using this
  have hg0 : w.grownBy V0 none := by rw [← hV0]; exact grown_trans (grown_trans (grown_trans (World.grownBy_alloc _ _ none) (World.grownBy_alloc _ _ none)) (World.grownBy_alloc _ _ none)) (grown_drewN _ _ _)
  have M0 : Hid (OnM w #[.int .i64 pt, .int .i64 px, .int .i64 py, .int .i64 pz, .int .i64 pp, .int .i64 pq, .int .i64 ps] #[.int .i64 qt, .int .i64 qx, .int .i64 qy, .int .i64 qz, .int .i64 qp, .int .i64 qq, .int .i64 qs] #[.int .i64 0, .int .i64 0, .int .i64 0, .int .i64 0, .int .i64 0, .int .i64 0, .int .i64 0] #[.int .i64 s, .int .i64 px, .int .i64 py, .int .i64 pz, .int .i64 pp, .int .i64 pq, .int .i64 ps] (V0.alloc (.cells #[.int .i64 s, .int .i64 px, .int .i64 py, .int .i64 pz, .int .i64 pp, .int .i64 pq, .int .i64 ps] 28))) := by
    have gg := World.grownBy_alloc V0 (.cells #[.int .i64 s, .int .i64 px, .int .i64 py, .int .i64 pz, .int .i64 pp, .int .i64 pq, .int .i64 ps] 28) none
    refine ⟨(gg.block _ (lt_of_block hp0) (by simp)).trans hp0, (gg.block _ (lt_of_block hq0) (by simp)).trans hq0, (gg.block _ (lt_of_block hz0) (by simp)).trans hz0, ?_, grown_trans hg0 gg⟩
    rw [← hs]; exact heap_alloc_new V0 _
  rw [hV0]
  have p0 := block_cell hp0 0 _ rfl
  have p1 := block_cell hp0 1 _ rfl
  have p2 := block_cell hp0 2 _ rfl
  have p3 := block_cell hp0 3 _ rfl
  have p4 := block_cell hp0 4 _ rfl
  have p5 := block_cell hp0 5 _ rfl
  have p6 := block_cell hp0 6 _ rfl
  have q1 := block_cell M0.out.p 1 _ rfl
  have q2 := block_cell M0.out.q 1 _ rfl
  clear hV0 e0 hp0 hq0 hz0 hg0
  go_wp2_with fail
  refine (KX.out _).mono ?_; rintro e w1 ⟨rfl, hg1⟩
  have M1 := Lib.hid (M0.out.grown hg1)
  have s1 := block_cell M1.out.x 1 _ rfl
  have f1 := block_free (k := 1) M1.out.x
  have N1 := Lib.hid (M1.out.set 1 (.int .i64 nx))
  have a1 := block_cell N1.out.p 2 _ rfl
  have b1 := block_cell N1.out.q 2 _ rfl
  clear hg1 p0 p1 p2 p3 p4 p5 p6 q1 q2 hs
  go_wp2_with fail
  clear a1 b1 s1 f1
  refine (KY.out _).mono ?_; rintro e w2 ⟨rfl, hg2⟩
  have M2 := Lib.hid (N1.out.grown hg2)
  have s2 := block_cell M2.out.x 2 _ rfl
  have f2 := block_free (k := 2) M2.out.x
  have N2 := Lib.hid (M2.out.set 2 (.int .i64 ny))
  have a2 := block_cell N2.out.p 3 _ rfl
  have b2 := block_cell N2.out.q 3 _ rfl
  clear hg2
  go_wp2_with fail
  clear a2 b2 s2 f2
  refine (KZ.out _).mono ?_; rintro e w3 ⟨rfl, hg3⟩
  have M3 := Lib.hid (N2.out.grown hg3)
  have s3 := block_cell M3.out.x 3 _ rfl
  have f3 := block_free (k := 3) M3.out.x
  have N3 := Lib.hid (M3.out.set 3 (.int .i64 nz))
  have c0 := block_cell N3.out.x 0 _ rfl
  have z0 := block_cell N3.out.z 0 _ rfl
  have y0 := block_free (k := 0) N3.out.z
  have c1 := block_cell N3.out.x 1 _ rfl
  have z1 := block_cell N3.out.z 1 _ rfl
  have y1 := block_free (k := 1) N3.out.z
  have c2 := block_cell N3.out.x 2 _ rfl
  have z2 := block_cell N3.out.z 2 _ rfl
  have y2 := block_free (k := 2) N3.out.z
  have c3 := block_cell N3.out.x 3 _ rfl
  have z3 := block_cell N3.out.z 3 _ rfl
  have y3 := block_free (k := 3) N3.out.z
  have c4 := block_cell N3.out.x 4 _ rfl
  have z4 := block_cell N3.out.z 4 _ rfl
  have y4 := block_free (k := 4) N3.out.z
  have c5 := block_cell N3.out.x 5 _ rfl
  have z5 := block_cell N3.out.z 5 _ rfl
  have y5 := block_free (k := 5) N3.out.z
  have c6 := block_cell N3.out.x 6 _ rfl
  have z6 := block_cell N3.out.z 6 _ rfl
  have y6 := block_free (k := 6) N3.out.z
  clear hg3
  go_wp2_with fail
  refine bodyPost_ret (v := .agg #[.int .i64 s, .int .i64 nx, .int .i64 ny, .int .i64 nz, .int .i64 pp, .int .i64 pq, .int .i64 ps]) (by simp [results, Try.results119, go_sem, z0, z1, z2, z3, z4, z5, z6]) rfl ⟨by rw [HR.out], ?_⟩
  exact grown_far (grown_far (grown_far (grown_far (grown_far (grown_far (grown_far N3.out.g (by omega) _ _) (by omega) _ _) (by omega) _ _) (by omega) _ _) (by omega) _ _) (by omega) _ _) (by omega) _ _
end Go.Proofs.Ytgkhhfojioepgaa
