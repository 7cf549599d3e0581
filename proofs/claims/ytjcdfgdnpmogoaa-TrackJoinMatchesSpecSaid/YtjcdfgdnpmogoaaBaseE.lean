/- Texts that all laws of this seat use, one behind the other. -/
import Derived.Test.YtjcdfgdnpmogoaaBaseD
import Derived.Laws.Rows
import Derived.Deep.RegionHeld3
import Derived.Test.YtjcdfgdnpmogoaaShelf
namespace Go.Proofs.Ytjcdfgdnpmogoaa
open Go.RowKit

/-- A block's cell is set. -/
theorem block_set {W : World} {B k : Nat} {c : Array Value} {t : TypeId} (h : W.heap[B]? = some (.cells c t (0, 0))) (v : Value) : (W.setCell ⟨B, k, none⟩ v).heap[B]? = some (.cells (c.setIfInBounds k v) t (0, 0)) := by
  simp [World.setCell, Array.getElem?_modify, h]
theorem block_free {W : World} {B k : Nat} {c : Array Value} {t : TypeId} (h : W.heap[B]? = some (.cells c t (0, 0))) : W.frozen? ⟨B, k, none⟩ = false := by
  simp [World.frozen?, h]
theorem block_cell {W : World} {B : Nat} {c : Array Value} {t : TypeId} (h : W.heap[B]? = some (.cells c t (0, 0))) (k : Nat) (v : Value) (hv : c[k]? = some v) : W.cell? ⟨B, k, none⟩ = some v := (cell_of_row _ _ k _ _ (0, 0) h).trans hv
theorem grown_far {w w1 : World} {b : Nat} (h : w.grownBy w1 none) (hb : w.heap.size ≤ b) (k : Nat) (v : Value) : w.grownBy (w1.setCell ⟨b, k, none⟩ v) none :=
  ⟨h.os, h.tape, h.output, Nat.le_trans h.size (by simp [World.setCell]), fun i hi hne => by
    rw [Below.heap_setCell _ _ _ _ (by show i ≠ b; omega)]; exact h.block i hi hne⟩

/-- The memory of onStep: two samples, what it gives back, and its own. -/
structure OnM (w : World) (P Q Z X : Array Value) (W : World) : Prop where
  p : W.heap[w.heap.size]? = some (.cells P 28 (0, 0))
  q : W.heap[w.heap.size + 1]? = some (.cells Q 28 (0, 0))
  z : W.heap[w.heap.size + 2]? = some (.cells Z 28 (0, 0))
  x : W.heap[w.heap.size + 3]? = some (.cells X 28 (0, 0))
  g : w.grownBy W none
theorem OnM.grown {w W W' : World} {P Q Z X : Array Value} (h : OnM w P Q Z X W) (hg : W.grownBy W' none) : OnM w P Q Z X W' := by
  have k : ∀ {B : Nat} {o : Obj}, W.heap[B]? = some o → W'.heap[B]? = some o := fun {B o} h => (hg.block B (Array.getElem?_eq_some_iff.1 h).1 (by simp)).trans h
  exact ⟨k h.p, k h.q, k h.z, k h.x, grown_trans h.g hg⟩
theorem OnM.set {w W : World} {P Q Z X : Array Value} (h : OnM w P Q Z X W) (k : Nat) (v : Value) : OnM w P Q Z (X.setIfInBounds k v) (W.setCell ⟨w.heap.size + 3, k, none⟩ v) := by
  refine ⟨?_, ?_, ?_, block_set h.x v, grown_far h.g (by omega) k v⟩
  · rw [Below.heap_setCell _ _ _ _ (by show _ ≠ w.heap.size + 3; omega)]; exact h.p
  · rw [Below.heap_setCell _ _ _ _ (by show _ ≠ w.heap.size + 3; omega)]; exact h.q
  · rw [Below.heap_setCell _ _ _ _ (by show _ ≠ w.heap.size + 3; omega)]; exact h.z

set_option maxHeartbeats 3200000 in
theorem onStep_is (p q : Smp) (s : Int) (hp : SmpIn p) (hq : SmpIn q) (h0 : p.t ≤ s) (h1 : s ≤ q.t) (hpq : p.t < q.t) (w : World) {x : Smp} (h : Hid (onV p q s = x)) :
    Calls Try.prog 119 #[smpVal p, smpVal q, .int .i64 s] w fun e w' => e = .returned (smpVal x) ∧ w.grownBy w' none := by
  obtain ⟨pt, px, py, pz, pp, pq, ps⟩ := p
  obtain ⟨qt, qx, qy, qz, qp, qq, qs⟩ := q
  unfold SmpIn inPlane at hp hq
  simp only at hp hq h0 h1 hpq
  obtain ⟨nx, hnx⟩ : ∃ n, btwV px qx (s - pt) (qt - pt) = n := ⟨_, rfl⟩
  obtain ⟨ny, hny⟩ : ∃ n, btwV py qy (s - pt) (qt - pt) = n := ⟨_, rfl⟩
  obtain ⟨nz, hnz⟩ : ∃ n, btwV pz qz (s - pt) (qt - pt) = n := ⟨_, rfl⟩
  have HR : Hid (smpVal x = .agg #[.int .i64 s, .int .i64 nx, .int .i64 ny, .int .i64 nz, .int .i64 pp, .int .i64 pq, .int .i64 ps]) := by
    show _ = _; rw [← h.out]; unfold onV smpVal; simp only; rw [hnx, hny, hnz]
  have r1 : IntKind.i64.wrap (s - pt) = s - pt := IntWalk.i64_in _ (by omega)
  have r2 : IntKind.i64.wrap (qt - pt) = qt - pt := IntWalk.i64_in _ (by omega)
  have KX : Hid (∀ V : World, Calls Try.prog 161 #[.int .i64 px, .int .i64 qx, .int .i64 (s - pt), .int .i64 (qt - pt)] V fun e w' => e = .returned (.int .i64 nx) ∧ V.grownBy w' none) := fun V => between_is px qx (s - pt) (qt - pt) (by omega) (by omega) (by omega) (by omega) (by omega) (by omega) (by omega) (by omega) V hnx
  have KY : Hid (∀ V : World, Calls Try.prog 161 #[.int .i64 py, .int .i64 qy, .int .i64 (s - pt), .int .i64 (qt - pt)] V fun e w' => e = .returned (.int .i64 ny) ∧ V.grownBy w' none) := fun V => between_is py qy (s - pt) (qt - pt) (by omega) (by omega) (by omega) (by omega) (by omega) (by omega) (by omega) (by omega) V hny
  have KZ : Hid (∀ V : World, Calls Try.prog 161 #[.int .i64 pz, .int .i64 qz, .int .i64 (s - pt), .int .i64 (qt - pt)] V fun e w' => e = .returned (.int .i64 nz) ∧ V.grownBy w' none) := fun V => between_is pz qz (s - pt) (qt - pt) (by omega) (by omega) (by omega) (by omega) (by omega) (by omega) (by omega) (by omega) V hnz
  clear hnx hny hnz h hp hq h0 h1 hpq
  unfold smpVal at HR ⊢
  simp only at HR ⊢
  go_enter Try.func119, Try.ntmps119
  go_wp2_with fail
  go_quiet (fail)
  obtain ⟨V0, hV0⟩ : ∃ V0, ((((w.alloc (.cells #[.int .i64 pt, .int .i64 px, .int .i64 py, .int .i64 pz, .int .i64 pp, .int .i64 pq, .int .i64 ps] 28)).alloc (.cells #[.int .i64 qt, .int .i64 qx, .int .i64 qy, .int .i64 qz, .int .i64 qp, .int .i64 qq, .int .i64 qs] 28)).alloc (.cells #[.int .i64 0, .int .i64 0, .int .i64 0, .int .i64 0, .int .i64 0, .int .i64 0, .int .i64 0] 28)).drewN nq) = V0 := ⟨_, rfl⟩
  have e0 : V0.heap = (((w.alloc (.cells #[.int .i64 pt, .int .i64 px, .int .i64 py, .int .i64 pz, .int .i64 pp, .int .i64 pq, .int .i64 ps] 28)).alloc (.cells #[.int .i64 qt, .int .i64 qx, .int .i64 qy, .int .i64 qz, .int .i64 qp, .int .i64 qq, .int .i64 qs] 28)).alloc (.cells #[.int .i64 0, .int .i64 0, .int .i64 0, .int .i64 0, .int .i64 0, .int .i64 0, .int .i64 0] 28)).heap := by rw [← hV0]; rfl
  have hs : V0.heap.size = w.heap.size + 3 := by rw [e0]; simp
  have hp0 : V0.heap[w.heap.size]? = some (.cells #[.int .i64 pt, .int .i64 px, .int .i64 py, .int .i64 pz, .int .i64 pp, .int .i64 pq, .int .i64 ps] 28 (0, 0)) := by
    rw [e0, Below.heap_alloc _ _ _ (by simp; omega), Below.heap_alloc _ _ _ (by simp)]; exact heap_alloc_new w _
  have hq0 : V0.heap[w.heap.size + 1]? = some (.cells #[.int .i64 qt, .int .i64 qx, .int .i64 qy, .int .i64 qz, .int .i64 qp, .int .i64 qq, .int .i64 qs] 28 (0, 0)) := by
    rw [e0, Below.heap_alloc _ _ _ (by simp)]
    have := heap_alloc_new (w.alloc (.cells #[.int .i64 pt, .int .i64 px, .int .i64 py, .int .i64 pz, .int .i64 pp, .int .i64 pq, .int .i64 ps] 28)) (.cells #[.int .i64 qt, .int .i64 qx, .int .i64 qy, .int .i64 qz, .int .i64 qp, .int .i64 qq, .int .i64 qs] 28); simpa using this
  have hz0 : V0.heap[w.heap.size + 2]? = some (.cells #[.int .i64 0, .int .i64 0, .int .i64 0, .int .i64 0, .int .i64 0, .int .i64 0, .int .i64 0] 28 (0, 0)) := by
    rw [e0]
    have := heap_alloc_new ((w.alloc (.cells #[.int .i64 pt, .int .i64 px, .int .i64 py, .int .i64 pz, .int .i64 pp, .int .i64 pq, .int .i64 ps] 28)).alloc (.cells #[.int .i64 qt, .int .i64 qx, .int .i64 qy, .int .i64 qz, .int .i64 qp, .int .i64 qq, .int .i64 qs] 28)) (.cells #[.int .i64 0, .int .i64 0, .int .i64 0, .int .i64 0, .int .i64 0, .int .i64 0, .int .i64 0] 28); simpa using this
  have hg0 : w.grownBy V0 none := by rw [← hV0]; exact grown_trans (grown_trans (grown_trans (World.grownBy_alloc _ _ none) (World.grownBy_alloc _ _ none)) (World.grownBy_alloc _ _ none)) (grown_drewN _ _ _)
  have M0 : Hid (OnM w #[.int .i64 pt, .int .i64 px, .int .i64 py, .int .i64 pz, .int .i64 pp, .int .i64 pq, .int .i64 ps] #[.int .i64 qt, .int .i64 qx, .int .i64 qy, .int .i64 qz, .int .i64 qp, .int .i64 qq, .int .i64 qs] #[.int .i64 0, .int .i64 0, .int .i64 0, .int .i64 0, .int .i64 0, .int .i64 0, .int .i64 0] #[.int .i64 s, .int .i64 px, .int .i64 py, .int .i64 pz, .int .i64 pp, .int .i64 pq, .int .i64 ps] (V0.alloc (.cells #[.int .i64 s, .int .i64 px, .int .i64 py, .int .i64 pz, .int .i64 pp, .int .i64 pq, .int .i64 ps] 28))) := by
    have gg := World.grownBy_alloc V0 (.cells #[.int .i64 s, .int .i64 px, .int .i64 py, .int .i64 pz, .int .i64 pp, .int .i64 pq, .int .i64 ps] 28) none
    refine ⟨(gg.block _ (lt_of_block hp0) (by simp)).trans hp0, (gg.block _ (lt_of_block hq0) (by simp)).trans hq0, (gg.block _ (lt_of_block hz0) (by simp)).trans hz0, ?_, grown_trans hg0 gg⟩
    rw [← hs]; exact heap_alloc_new V0 _
  rw [hV0]
  have p0 := block_cell hp0 0 _ rfl
  have p1 := block_cell hp0 1 _ rfl
  have p2 := block_cell hp0 2 _ rfl
  have p3 := block_cell hp0 3 _ rfl
  have p4 := block_cell hp0 4 _ rfl
  have p5 := block_cell hp0 5 _ rfl
  have p6 := block_cell hp0 6 _ rfl
  have q1 := block_cell M0.out.p 1 _ rfl
  have q2 := block_cell M0.out.q 1 _ rfl
  clear hV0 e0 hp0 hq0 hz0 hg0
  go_wp2_with fail
  refine (KX.out _).mono ?_; rintro e w1 ⟨rfl, hg1⟩
  have M1 := Lib.hid (M0.out.grown hg1)
  have s1 := block_cell M1.out.x 1 _ rfl
  have f1 := block_free (k := 1) M1.out.x
  have N1 := Lib.hid (M1.out.set 1 (.int .i64 nx))
  have a1 := block_cell N1.out.p 2 _ rfl
  have b1 := block_cell N1.out.q 2 _ rfl
  clear hg1 p0 p1 p2 p3 p4 p5 p6 q1 q2 hs
  go_wp2_with fail
  clear a1 b1 s1 f1
  refine (KY.out _).mono ?_; rintro e w2 ⟨rfl, hg2⟩
  have M2 := Lib.hid (N1.out.grown hg2)
  have s2 := block_cell M2.out.x 2 _ rfl
  have f2 := block_free (k := 2) M2.out.x
  have N2 := Lib.hid (M2.out.set 2 (.int .i64 ny))
  have a2 := block_cell N2.out.p 3 _ rfl
  have b2 := block_cell N2.out.q 3 _ rfl
  clear hg2
  go_wp2_with fail
  clear a2 b2 s2 f2
  refine (KZ.out _).mono ?_; rintro e w3 ⟨rfl, hg3⟩
  have M3 := Lib.hid (N2.out.grown hg3)
  have s3 := block_cell M3.out.x 3 _ rfl
  have f3 := block_free (k := 3) M3.out.x
  have N3 := Lib.hid (M3.out.set 3 (.int .i64 nz))
  have c0 := block_cell N3.out.x 0 _ rfl
  have z0 := block_cell N3.out.z 0 _ rfl
  have y0 := block_free (k := 0) N3.out.z
  have c1 := block_cell N3.out.x 1 _ rfl
  have z1 := block_cell N3.out.z 1 _ rfl
  have y1 := block_free (k := 1) N3.out.z
  have c2 := block_cell N3.out.x 2 _ rfl
  have z2 := block_cell N3.out.z 2 _ rfl
  have y2 := block_free (k := 2) N3.out.z
  have c3 := block_cell N3.out.x 3 _ rfl
  have z3 := block_cell N3.out.z 3 _ rfl
  have y3 := block_free (k := 3) N3.out.z
  have c4 := block_cell N3.out.x 4 _ rfl
  have z4 := block_cell N3.out.z 4 _ rfl
  have y4 := block_free (k := 4) N3.out.z
  have c5 := block_cell N3.out.x 5 _ rfl
  have z5 := block_cell N3.out.z 5 _ rfl
  have y5 := block_free (k := 5) N3.out.z
  have c6 := block_cell N3.out.x 6 _ rfl
  have z6 := block_cell N3.out.z 6 _ rfl
  have y6 := block_free (k := 6) N3.out.z
  clear hg3
  go_wp2_with fail
  refine bodyPost_ret (v := .agg #[.int .i64 s, .int .i64 nx, .int .i64 ny, .int .i64 nz, .int .i64 pp, .int .i64 pq, .int .i64 ps]) (by simp [results, Try.results119, go_sem, z0, z1, z2, z3, z4, z5, z6]) rfl ⟨by rw [HR.out], ?_⟩
  exact grown_far (grown_far (grown_far (grown_far (grown_far (grown_far (grown_far N3.out.g (by omega) _ _) (by omega) _ _) (by omega) _ _) (by omega) _ _) (by omega) _ _) (by omega) _ _) (by omega) _ _
end Go.Proofs.Ytjcdfgdnpmogoaa
namespace Go.Proofs.Ytjcdfgdnpmogoaa
open Go.RowKit

structure AtM (w : World) (P Q : Array Value) (W : World) : Prop where
  p : W.heap[w.heap.size]? = some (.cells P 28 (0, 0))
  q : W.heap[w.heap.size + 1]? = some (.cells Q 28 (0, 0))
  z : ∃ Z : Array Value, Z.size = 7 ∧ W.heap[w.heap.size + 2]? = some (.cells Z 28 (0, 0))
  g : w.grownBy W none
theorem AtM.grown {w W W' : World} {P Q : Array Value} (h : AtM w P Q W) (hg : W.grownBy W' none) : AtM w P Q W' := by
  have k : ∀ {B : Nat} {o : Obj}, W.heap[B]? = some o → W'.heap[B]? = some o := fun {B o} h => (hg.block B (Array.getElem?_eq_some_iff.1 h).1 (by simp)).trans h
  obtain ⟨Z, h1, h2⟩ := h.z
  exact ⟨k h.p, k h.q, ⟨Z, h1, k h2⟩, grown_trans h.g hg⟩
theorem AtM.set {w W : World} {P Q : Array Value} (h : AtM w P Q W) (k : Nat) (v : Value) : AtM w P Q (W.setCell ⟨w.heap.size + 2, k, none⟩ v) := by
  obtain ⟨Z, h1, h2⟩ := h.z
  refine ⟨?_, ?_, ⟨Z.setIfInBounds k v, by simpa using h1, block_set h2 v⟩, grown_far h.g (by omega) k v⟩
  · rw [Below.heap_setCell _ _ _ _ (by show _ ≠ w.heap.size + 2; omega)]; exact h.p
  · rw [Below.heap_setCell _ _ _ _ (by show _ ≠ w.heap.size + 2; omega)]; exact h.q

set_option maxRecDepth 100000 in
set_option maxHeartbeats 3200000 in
theorem rat_is (p q : Smp) (s : Int) (hp : SmpIn p) (hq : SmpIn q) (h0 : p.t ≤ s) (h1 : s ≤ q.t) (hpq : p.t < q.t) (w : World) {x : Smp} (h : Hid (onV p q s = x)) :
    Calls Try.prog 124 #[smpVal p, smpVal q, .int .i64 s] w fun e w' => e = .returned (smpVal x) ∧ w.grownBy w' none := by
  obtain ⟨pt, px, py, pz, pp, pq, ps⟩ := p
  obtain ⟨qt, qx, qy, qz, qp, qq, qs⟩ := q
  unfold SmpIn inPlane at hp hq
  simp only at hp hq h0 h1 hpq
  obtain ⟨nx, hnx⟩ : ∃ n, btwV px qx (s - pt) (qt - pt) = n := ⟨_, rfl⟩
  obtain ⟨ny, hny⟩ : ∃ n, btwV py qy (s - pt) (qt - pt) = n := ⟨_, rfl⟩
  obtain ⟨nz, hnz⟩ : ∃ n, btwV pz qz (s - pt) (qt - pt) = n := ⟨_, rfl⟩
  have HR : Hid (smpVal x = .agg #[.int .i64 s, .int .i64 nx, .int .i64 ny, .int .i64 nz, .int .i64 pp, .int .i64 pq, .int .i64 ps]) := by
    show _ = _; rw [← h.out]; unfold onV smpVal; simp only; rw [hnx, hny, hnz]
  have r1 : IntKind.i64.wrap (s - pt) = s - pt := IntWalk.i64_in _ (by omega)
  have r2 : IntKind.i64.wrap (qt - pt) = qt - pt := IntWalk.i64_in _ (by omega)
  have KX : Hid (∀ V : World, Calls Try.prog 97 #[.int .i64 px, .int .i64 qx, .int .i64 (s - pt), .int .i64 (qt - pt)] V fun e w' => e = .returned (.int .i64 nx) ∧ V.grownBy w' none) := fun V => rbetween_is px qx (s - pt) (qt - pt) (by omega) (by omega) (by omega) (by omega) (by omega) (by omega) (by omega) (by omega) V hnx
  have KY : Hid (∀ V : World, Calls Try.prog 97 #[.int .i64 py, .int .i64 qy, .int .i64 (s - pt), .int .i64 (qt - pt)] V fun e w' => e = .returned (.int .i64 ny) ∧ V.grownBy w' none) := fun V => rbetween_is py qy (s - pt) (qt - pt) (by omega) (by omega) (by omega) (by omega) (by omega) (by omega) (by omega) (by omega) V hny
  have KZ : Hid (∀ V : World, Calls Try.prog 97 #[.int .i64 pz, .int .i64 qz, .int .i64 (s - pt), .int .i64 (qt - pt)] V fun e w' => e = .returned (.int .i64 nz) ∧ V.grownBy w' none) := fun V => rbetween_is pz qz (s - pt) (qt - pt) (by omega) (by omega) (by omega) (by omega) (by omega) (by omega) (by omega) (by omega) V hnz
  clear hnx hny hnz h hp hq h0 h1 hpq
  unfold smpVal at HR ⊢
  simp only at HR ⊢
  go_enter Try.func124, Try.ntmps124
  go_wp2_with fail
  go_quiet (fail)
  obtain ⟨V0, hV0⟩ : ∃ V0, ((((w.alloc (.cells #[.int .i64 pt, .int .i64 px, .int .i64 py, .int .i64 pz, .int .i64 pp, .int .i64 pq, .int .i64 ps] 28)).alloc (.cells #[.int .i64 qt, .int .i64 qx, .int .i64 qy, .int .i64 qz, .int .i64 qp, .int .i64 qq, .int .i64 qs] 28)).alloc (.cells #[.int .i64 0, .int .i64 0, .int .i64 0, .int .i64 0, .int .i64 0, .int .i64 0, .int .i64 0] 28)).drewN nq) = V0 := ⟨_, rfl⟩
  have e0 : V0.heap = (((w.alloc (.cells #[.int .i64 pt, .int .i64 px, .int .i64 py, .int .i64 pz, .int .i64 pp, .int .i64 pq, .int .i64 ps] 28)).alloc (.cells #[.int .i64 qt, .int .i64 qx, .int .i64 qy, .int .i64 qz, .int .i64 qp, .int .i64 qq, .int .i64 qs] 28)).alloc (.cells #[.int .i64 0, .int .i64 0, .int .i64 0, .int .i64 0, .int .i64 0, .int .i64 0, .int .i64 0] 28)).heap := by rw [← hV0]; rfl
  have M0 : AtM w #[.int .i64 pt, .int .i64 px, .int .i64 py, .int .i64 pz, .int .i64 pp, .int .i64 pq, .int .i64 ps] #[.int .i64 qt, .int .i64 qx, .int .i64 qy, .int .i64 qz, .int .i64 qp, .int .i64 qq, .int .i64 qs] V0 := by
    refine ⟨?_, ?_, ⟨#[.int .i64 0, .int .i64 0, .int .i64 0, .int .i64 0, .int .i64 0, .int .i64 0, .int .i64 0], rfl, ?_⟩, ?_⟩
    · rw [e0, Below.heap_alloc _ _ _ (by simp; omega), Below.heap_alloc _ _ _ (by simp)]; exact heap_alloc_new w _
    · rw [e0, Below.heap_alloc _ _ _ (by simp)]
      have := heap_alloc_new (w.alloc (.cells #[.int .i64 pt, .int .i64 px, .int .i64 py, .int .i64 pz, .int .i64 pp, .int .i64 pq, .int .i64 ps] 28)) (.cells #[.int .i64 qt, .int .i64 qx, .int .i64 qy, .int .i64 qz, .int .i64 qp, .int .i64 qq, .int .i64 qs] 28); simpa using this
    · rw [e0]
      have := heap_alloc_new ((w.alloc (.cells #[.int .i64 pt, .int .i64 px, .int .i64 py, .int .i64 pz, .int .i64 pp, .int .i64 pq, .int .i64 ps] 28)).alloc (.cells #[.int .i64 qt, .int .i64 qx, .int .i64 qy, .int .i64 qz, .int .i64 qp, .int .i64 qq, .int .i64 qs] 28)) (.cells #[.int .i64 0, .int .i64 0, .int .i64 0, .int .i64 0, .int .i64 0, .int .i64 0, .int .i64 0] 28); simpa using this
    · rw [← hV0]; exact grown_trans (grown_trans (grown_trans (World.grownBy_alloc _ _ none) (World.grownBy_alloc _ _ none)) (World.grownBy_alloc _ _ none)) (grown_drewN _ _ _)
  have MD := Lib.hid (M0.grown (grown_drewN V0 _ 1))
  rw [hV0]
  clear hV0 e0 M0
  go_wp2_with fail
  refine wp_region_held_drew (S := fun V => AtM w #[.int .i64 pt, .int .i64 px, .int .i64 py, .int .i64 pz, .int .i64 pp, .int .i64 pq, .int .i64 ps] #[.int .i64 qt, .int .i64 qx, .int .i64 qy, .int .i64 qz, .int .i64 qp, .int .i64 qq, .int .i64 qs] V) (by kernel_rfl) MD.out (fun hHeld => ?_)
  refine wpAnyH_take (i := 0) (oi := ?oi0) (v := .int .i64 s) ?hi0 (by kernel_rfl) (by kernel_rfl) (by kernel_rfl) ?hq0 ?hy0 hHeld ?rest0
  case hi0 => simp only [List.getElem?_toArray, List.getElem?_cons_zero, Option.some.injEq]; rfl
  case hq0 => exact fun _ _ _ h => h
  case hy0 =>
    refine Or.inl ⟨by kernel_rfl, fun V hV => ?_⟩
    clear hV
    go_simp
  try simp only [Go.Act.put, List.setIfInBounds_toArray, List.set_cons_zero, List.set_cons_succ]
  refine wpAnyH_take (i := 1) (oi := ?oi1) (v := .pointer (some ⟨w.heap.size, 1, none⟩)) ?hi1 (by kernel_rfl) (by kernel_rfl) (by kernel_rfl) ?hq1 ?hy1 hHeld ?rest1
  case hi1 => simp only [List.getElem?_toArray, List.getElem?_cons_succ, List.getElem?_cons_zero, Option.some.injEq]; rfl
  case hq1 => exact fun _ _ _ h => h
  case hy1 =>
    refine Or.inl ⟨by kernel_rfl, fun V hV => ?_⟩
    clear hV
    go_simp
  try simp only [Go.Act.put, List.setIfInBounds_toArray, List.set_cons_zero, List.set_cons_succ]
  refine wpAnyH_take (i := 2) (oi := ?oi2) (v := .int .i64 px) ?hi2 (by kernel_rfl) (by kernel_rfl) (by kernel_rfl) ?hq2 ?hy2 hHeld ?rest2
  case hi2 => simp only [List.getElem?_toArray, List.getElem?_cons_succ, List.getElem?_cons_zero, Option.some.injEq]; rfl
  case hq2 => exact fun _ _ _ h => h
  case hy2 =>
    refine Or.inl ⟨by kernel_rfl, fun V hV => ?_⟩
    have q1 := block_cell (AtM.p hV) 1 _ rfl; clear hV
    go_simp
  try simp only [Go.Act.put, List.setIfInBounds_toArray, List.set_cons_zero, List.set_cons_succ]
  refine wpAnyH_take (i := 3) (oi := ?oi3) (v := .pointer (some ⟨w.heap.size + 1, 1, none⟩)) ?hi3 (by kernel_rfl) (by kernel_rfl) (by kernel_rfl) ?hq3 ?hy3 hHeld ?rest3
  case hi3 => simp only [List.getElem?_toArray, List.getElem?_cons_succ, List.getElem?_cons_zero, Option.some.injEq]; rfl
  case hq3 => exact fun _ _ _ h => h
  case hy3 =>
    refine Or.inl ⟨by kernel_rfl, fun V hV => ?_⟩
    clear hV
    go_simp
  try simp only [Go.Act.put, List.setIfInBounds_toArray, List.set_cons_zero, List.set_cons_succ]
  refine wpAnyH_take (i := 4) (oi := ?oi4) (v := .int .i64 qx) ?hi4 (by kernel_rfl) (by kernel_rfl) (by kernel_rfl) ?hq4 ?hy4 hHeld ?rest4
  case hi4 => simp only [List.getElem?_toArray, List.getElem?_cons_succ, List.getElem?_cons_zero, Option.some.injEq]; rfl
  case hq4 => exact fun _ _ _ h => h
  case hy4 =>
    refine Or.inl ⟨by kernel_rfl, fun V hV => ?_⟩
    have q1 := block_cell (AtM.q hV) 1 _ rfl; clear hV
    go_simp
  try simp only [Go.Act.put, List.setIfInBounds_toArray, List.set_cons_zero, List.set_cons_succ]
  refine wpAnyH_take (i := 5) (oi := ?oi5) (v := .int .i64 (s - pt)) ?hi5 (by kernel_rfl) (by kernel_rfl) (by kernel_rfl) ?hq5 ?hy5 hHeld ?rest5
  case hi5 => simp only [List.getElem?_toArray, List.getElem?_cons_succ, List.getElem?_cons_zero, Option.some.injEq]; rfl
  case hq5 => exact fun _ _ _ h => h
  case hy5 =>
    refine Or.inl ⟨by kernel_rfl, fun V hV => ?_⟩
    clear hV
    go_simp
  try simp only [Go.Act.put, List.setIfInBounds_toArray, List.set_cons_zero, List.set_cons_succ]
  refine wpAnyH_take (i := 6) (oi := ?oi6) (v := .int .i64 (qt - pt)) ?hi6 (by kernel_rfl) (by kernel_rfl) (by kernel_rfl) ?hq6 ?hy6 hHeld ?rest6
  case hi6 => simp only [List.getElem?_toArray, List.getElem?_cons_succ, List.getElem?_cons_zero, Option.some.injEq]; rfl
  case hq6 => exact fun _ _ _ h => h
  case hy6 =>
    refine Or.inl ⟨by kernel_rfl, fun V hV => ?_⟩
    clear hV
    go_simp
  try simp only [Go.Act.put, List.setIfInBounds_toArray, List.set_cons_zero, List.set_cons_succ]
  refine wpAnyH_take (i := 8) (oi := ?oi8) (v := .pointer (some ⟨w.heap.size, 2, none⟩)) ?hi8 (by kernel_rfl) (by kernel_rfl) (by kernel_rfl) ?hq8 ?hy8 hHeld ?rest8
  case hi8 => simp only [List.getElem?_toArray, List.getElem?_cons_succ, List.getElem?_cons_zero, Option.some.injEq]; rfl
  case hq8 => exact fun _ _ _ h => h
  case hy8 =>
    refine Or.inl ⟨by kernel_rfl, fun V hV => ?_⟩
    clear hV
    go_simp
  try simp only [Go.Act.put, List.setIfInBounds_toArray, List.set_cons_zero, List.set_cons_succ]
  refine wpAnyH_take (i := 9) (oi := ?oi9) (v := .int .i64 py) ?hi9 (by kernel_rfl) (by kernel_rfl) (by kernel_rfl) ?hq9 ?hy9 hHeld ?rest9
  case hi9 => simp only [List.getElem?_toArray, List.getElem?_cons_succ, List.getElem?_cons_zero, Option.some.injEq]; rfl
  case hq9 => exact fun _ _ _ h => h
  case hy9 =>
    refine Or.inl ⟨by kernel_rfl, fun V hV => ?_⟩
    have q1 := block_cell (AtM.p hV) 2 _ rfl; clear hV
    go_simp
  try simp only [Go.Act.put, List.setIfInBounds_toArray, List.set_cons_zero, List.set_cons_succ]
  refine wpAnyH_take (i := 10) (oi := ?oi10) (v := .pointer (some ⟨w.heap.size + 1, 2, none⟩)) ?hi10 (by kernel_rfl) (by kernel_rfl) (by kernel_rfl) ?hq10 ?hy10 hHeld ?rest10
  case hi10 => simp only [List.getElem?_toArray, List.getElem?_cons_succ, List.getElem?_cons_zero, Option.some.injEq]; rfl
  case hq10 => exact fun _ _ _ h => h
  case hy10 =>
    refine Or.inl ⟨by kernel_rfl, fun V hV => ?_⟩
    clear hV
    go_simp
  try simp only [Go.Act.put, List.setIfInBounds_toArray, List.set_cons_zero, List.set_cons_succ]
  refine wpAnyH_take (i := 11) (oi := ?oi11) (v := .int .i64 qy) ?hi11 (by kernel_rfl) (by kernel_rfl) (by kernel_rfl) ?hq11 ?hy11 hHeld ?rest11
  case hi11 => simp only [List.getElem?_toArray, List.getElem?_cons_succ, List.getElem?_cons_zero, Option.some.injEq]; rfl
  case hq11 => exact fun _ _ _ h => h
  case hy11 =>
    refine Or.inl ⟨by kernel_rfl, fun V hV => ?_⟩
    have q1 := block_cell (AtM.q hV) 2 _ rfl; clear hV
    go_simp
  try simp only [Go.Act.put, List.setIfInBounds_toArray, List.set_cons_zero, List.set_cons_succ]
  refine wpAnyH_take (i := 12) (oi := ?oi12) (v := .int .i64 (s - pt)) ?hi12 (by kernel_rfl) (by kernel_rfl) (by kernel_rfl) ?hq12 ?hy12 hHeld ?rest12
  case hi12 => simp only [List.getElem?_toArray, List.getElem?_cons_succ, List.getElem?_cons_zero, Option.some.injEq]; rfl
  case hq12 => exact fun _ _ _ h => h
  case hy12 =>
    refine Or.inl ⟨by kernel_rfl, fun V hV => ?_⟩
    clear hV
    go_simp
  try simp only [Go.Act.put, List.setIfInBounds_toArray, List.set_cons_zero, List.set_cons_succ]
  refine wpAnyH_take (i := 13) (oi := ?oi13) (v := .int .i64 (qt - pt)) ?hi13 (by kernel_rfl) (by kernel_rfl) (by kernel_rfl) ?hq13 ?hy13 hHeld ?rest13
  case hi13 => simp only [List.getElem?_toArray, List.getElem?_cons_succ, List.getElem?_cons_zero, Option.some.injEq]; rfl
  case hq13 => exact fun _ _ _ h => h
  case hy13 =>
    refine Or.inl ⟨by kernel_rfl, fun V hV => ?_⟩
    clear hV
    go_simp
  try simp only [Go.Act.put, List.setIfInBounds_toArray, List.set_cons_zero, List.set_cons_succ]
  refine wpAnyH_take (i := 15) (oi := ?oi15) (v := .pointer (some ⟨w.heap.size, 3, none⟩)) ?hi15 (by kernel_rfl) (by kernel_rfl) (by kernel_rfl) ?hq15 ?hy15 hHeld ?rest15
  case hi15 => simp only [List.getElem?_toArray, List.getElem?_cons_succ, List.getElem?_cons_zero, Option.some.injEq]; rfl
  case hq15 => exact fun _ _ _ h => h
  case hy15 =>
    refine Or.inl ⟨by kernel_rfl, fun V hV => ?_⟩
    clear hV
    go_simp
  try simp only [Go.Act.put, List.setIfInBounds_toArray, List.set_cons_zero, List.set_cons_succ]
  refine wpAnyH_take (i := 16) (oi := ?oi16) (v := .int .i64 pz) ?hi16 (by kernel_rfl) (by kernel_rfl) (by kernel_rfl) ?hq16 ?hy16 hHeld ?rest16
  case hi16 => simp only [List.getElem?_toArray, List.getElem?_cons_succ, List.getElem?_cons_zero, Option.some.injEq]; rfl
  case hq16 => exact fun _ _ _ h => h
  case hy16 =>
    refine Or.inl ⟨by kernel_rfl, fun V hV => ?_⟩
    have q1 := block_cell (AtM.p hV) 3 _ rfl; clear hV
    go_simp
  try simp only [Go.Act.put, List.setIfInBounds_toArray, List.set_cons_zero, List.set_cons_succ]
  refine wpAnyH_take (i := 17) (oi := ?oi17) (v := .pointer (some ⟨w.heap.size + 1, 3, none⟩)) ?hi17 (by kernel_rfl) (by kernel_rfl) (by kernel_rfl) ?hq17 ?hy17 hHeld ?rest17
  case hi17 => simp only [List.getElem?_toArray, List.getElem?_cons_succ, List.getElem?_cons_zero, Option.some.injEq]; rfl
  case hq17 => exact fun _ _ _ h => h
  case hy17 =>
    refine Or.inl ⟨by kernel_rfl, fun V hV => ?_⟩
    clear hV
    go_simp
  try simp only [Go.Act.put, List.setIfInBounds_toArray, List.set_cons_zero, List.set_cons_succ]
  refine wpAnyH_take (i := 18) (oi := ?oi18) (v := .int .i64 qz) ?hi18 (by kernel_rfl) (by kernel_rfl) (by kernel_rfl) ?hq18 ?hy18 hHeld ?rest18
  case hi18 => simp only [List.getElem?_toArray, List.getElem?_cons_succ, List.getElem?_cons_zero, Option.some.injEq]; rfl
  case hq18 => exact fun _ _ _ h => h
  case hy18 =>
    refine Or.inl ⟨by kernel_rfl, fun V hV => ?_⟩
    have q1 := block_cell (AtM.q hV) 3 _ rfl; clear hV
    go_simp
  try simp only [Go.Act.put, List.setIfInBounds_toArray, List.set_cons_zero, List.set_cons_succ]
  refine wpAnyH_take (i := 19) (oi := ?oi19) (v := .int .i64 (s - pt)) ?hi19 (by kernel_rfl) (by kernel_rfl) (by kernel_rfl) ?hq19 ?hy19 hHeld ?rest19
  case hi19 => simp only [List.getElem?_toArray, List.getElem?_cons_succ, List.getElem?_cons_zero, Option.some.injEq]; rfl
  case hq19 => exact fun _ _ _ h => h
  case hy19 =>
    refine Or.inl ⟨by kernel_rfl, fun V hV => ?_⟩
    clear hV
    go_simp
  try simp only [Go.Act.put, List.setIfInBounds_toArray, List.set_cons_zero, List.set_cons_succ]
  refine wpAnyH_take (i := 20) (oi := ?oi20) (v := .int .i64 (qt - pt)) ?hi20 (by kernel_rfl) (by kernel_rfl) (by kernel_rfl) ?hq20 ?hy20 hHeld ?rest20
  case hi20 => simp only [List.getElem?_toArray, List.getElem?_cons_succ, List.getElem?_cons_zero, Option.some.injEq]; rfl
  case hq20 => exact fun _ _ _ h => h
  case hy20 =>
    refine Or.inl ⟨by kernel_rfl, fun V hV => ?_⟩
    clear hV
    go_simp
  try simp only [Go.Act.put, List.setIfInBounds_toArray, List.set_cons_zero, List.set_cons_succ]
  refine wpAnyH_take (i := 22) (oi := ?oi22) (v := .pointer (some ⟨w.heap.size, 4, none⟩)) ?hi22 (by kernel_rfl) (by kernel_rfl) (by kernel_rfl) ?hq22 ?hy22 hHeld ?rest22
  case hi22 => simp only [List.getElem?_toArray, List.getElem?_cons_succ, List.getElem?_cons_zero, Option.some.injEq]; rfl
  case hq22 => exact fun _ _ _ h => h
  case hy22 =>
    refine Or.inl ⟨by kernel_rfl, fun V hV => ?_⟩
    clear hV
    go_simp
  try simp only [Go.Act.put, List.setIfInBounds_toArray, List.set_cons_zero, List.set_cons_succ]
  refine wpAnyH_take (i := 23) (oi := ?oi23) (v := .int .i64 pp) ?hi23 (by kernel_rfl) (by kernel_rfl) (by kernel_rfl) ?hq23 ?hy23 hHeld ?rest23
  case hi23 => simp only [List.getElem?_toArray, List.getElem?_cons_succ, List.getElem?_cons_zero, Option.some.injEq]; rfl
  case hq23 => exact fun _ _ _ h => h
  case hy23 =>
    refine Or.inl ⟨by kernel_rfl, fun V hV => ?_⟩
    have q1 := block_cell (AtM.p hV) 4 _ rfl; clear hV
    go_simp
  try simp only [Go.Act.put, List.setIfInBounds_toArray, List.set_cons_zero, List.set_cons_succ]
  refine wpAnyH_take (i := 24) (oi := ?oi24) (v := .pointer (some ⟨w.heap.size, 5, none⟩)) ?hi24 (by kernel_rfl) (by kernel_rfl) (by kernel_rfl) ?hq24 ?hy24 hHeld ?rest24
  case hi24 => simp only [List.getElem?_toArray, List.getElem?_cons_succ, List.getElem?_cons_zero, Option.some.injEq]; rfl
  case hq24 => exact fun _ _ _ h => h
  case hy24 =>
    refine Or.inl ⟨by kernel_rfl, fun V hV => ?_⟩
    clear hV
    go_simp
  try simp only [Go.Act.put, List.setIfInBounds_toArray, List.set_cons_zero, List.set_cons_succ]
  refine wpAnyH_take (i := 25) (oi := ?oi25) (v := .int .i64 pq) ?hi25 (by kernel_rfl) (by kernel_rfl) (by kernel_rfl) ?hq25 ?hy25 hHeld ?rest25
  case hi25 => simp only [List.getElem?_toArray, List.getElem?_cons_succ, List.getElem?_cons_zero, Option.some.injEq]; rfl
  case hq25 => exact fun _ _ _ h => h
  case hy25 =>
    refine Or.inl ⟨by kernel_rfl, fun V hV => ?_⟩
    have q1 := block_cell (AtM.p hV) 5 _ rfl; clear hV
    go_simp
  try simp only [Go.Act.put, List.setIfInBounds_toArray, List.set_cons_zero, List.set_cons_succ]
  refine wpAnyH_take (i := 26) (oi := ?oi26) (v := .pointer (some ⟨w.heap.size, 6, none⟩)) ?hi26 (by kernel_rfl) (by kernel_rfl) (by kernel_rfl) ?hq26 ?hy26 hHeld ?rest26
  case hi26 => simp only [List.getElem?_toArray, List.getElem?_cons_succ, List.getElem?_cons_zero, Option.some.injEq]; rfl
  case hq26 => exact fun _ _ _ h => h
  case hy26 =>
    refine Or.inl ⟨by kernel_rfl, fun V hV => ?_⟩
    clear hV
    go_simp
  try simp only [Go.Act.put, List.setIfInBounds_toArray, List.set_cons_zero, List.set_cons_succ]
  refine wpAnyH_take (i := 27) (oi := ?oi27) (v := .int .i64 ps) ?hi27 (by kernel_rfl) (by kernel_rfl) (by kernel_rfl) ?hq27 ?hy27 hHeld ?rest27
  case hi27 => simp only [List.getElem?_toArray, List.getElem?_cons_succ, List.getElem?_cons_zero, Option.some.injEq]; rfl
  case hq27 => exact fun _ _ _ h => h
  case hy27 =>
    refine Or.inl ⟨by kernel_rfl, fun V hV => ?_⟩
    have q1 := block_cell (AtM.p hV) 6 _ rfl; clear hV
    go_simp
  try simp only [Go.Act.put, List.setIfInBounds_toArray, List.set_cons_zero, List.set_cons_succ]
  refine wpAnyH_ready (rs := [7]) (by kernel_rfl) (by simp) ?_
  refine AllReadyH.cons rfl (fun K hK => ?_) AllReadyH.nil
  go_simp
  refine (KX.out _).mono ?_
  rintro e w1 ⟨rfl, hgw1⟩
  refine hK.out _ _ (AtM.grown hHeld hgw1) (fun hHeld1 => ?_)
  clear hK K
  try simp only [Go.Act.put, List.setIfInBounds_toArray, List.set_cons_zero, List.set_cons_succ]
  refine wpAnyH_ready (rs := [14]) (by kernel_rfl) (by simp) ?_
  refine AllReadyH.cons rfl (fun K hK => ?_) AllReadyH.nil
  go_simp
  refine (KY.out _).mono ?_
  rintro e w2 ⟨rfl, hgw2⟩
  refine hK.out _ _ (AtM.grown hHeld1 hgw2) (fun hHeld2 => ?_)
  clear hK K
  try simp only [Go.Act.put, List.setIfInBounds_toArray, List.set_cons_zero, List.set_cons_succ]
  refine wpAnyH_ready (rs := [21]) (by kernel_rfl) (by simp) ?_
  refine AllReadyH.cons rfl (fun K hK => ?_) AllReadyH.nil
  go_simp
  refine (KZ.out _).mono ?_
  rintro e w3 ⟨rfl, hgw3⟩
  refine hK.out _ _ (AtM.grown hHeld2 hgw3) (fun hHeld3 => ?_)
  clear hK K
  try simp only [Go.Act.put, List.setIfInBounds_toArray, List.set_cons_zero, List.set_cons_succ]
  refine wpAnyH_take (i := 28) (oi := ?oi28) (v := .agg #[.int .i64 s, .int .i64 nx, .int .i64 ny, .int .i64 nz, .int .i64 pp, .int .i64 pq, .int .i64 ps]) ?hi28 (by kernel_rfl) (by kernel_rfl) (by kernel_rfl) ?hq28 ?hy28 hHeld3 ?rest28
  case hi28 => simp only [List.getElem?_toArray, List.getElem?_cons_succ, List.getElem?_cons_zero, Option.some.injEq]; rfl
  case hq28 => exact fun _ _ _ h => h
  case hy28 =>
    refine Or.inl ⟨by kernel_rfl, fun V hV => ?_⟩
    clear hV
    go_simp
  try simp only [Go.Act.put, List.setIfInBounds_toArray, List.set_cons_zero, List.set_cons_succ]
  refine wpAnyH_ready (rs := [29]) (by kernel_rfl) (by simp) ?_
  refine AllReadyH.cons rfl (fun K hK => ?_) AllReadyH.nil
  obtain ⟨Z, hZ, hz⟩ := hHeld3.z
  have z0 := block_cell hz 0 _ (Array.getElem?_eq_getElem (by omega))
  have y0 := block_free (k := 0) hz
  have z1 := block_cell hz 1 _ (Array.getElem?_eq_getElem (by omega))
  have y1 := block_free (k := 1) hz
  have z2 := block_cell hz 2 _ (Array.getElem?_eq_getElem (by omega))
  have y2 := block_free (k := 2) hz
  have z3 := block_cell hz 3 _ (Array.getElem?_eq_getElem (by omega))
  have y3 := block_free (k := 3) hz
  have z4 := block_cell hz 4 _ (Array.getElem?_eq_getElem (by omega))
  have y4 := block_free (k := 4) hz
  have z5 := block_cell hz 5 _ (Array.getElem?_eq_getElem (by omega))
  have y5 := block_free (k := 5) hz
  have z6 := block_cell hz 6 _ (Array.getElem?_eq_getElem (by omega))
  have y6 := block_free (k := 6) hz
  have HH3 := Lib.hid hHeld3
  clear hHeld3 hHeld2 hHeld1 hHeld hz
  go_simp
  refine hK.out _ _ (((((((HH3.out.set 0 _).set 1 _).set 2 _).set 3 _).set 4 _).set 5 _).set 6 _) (fun hHeld4 => ?_)
  refine wpAnyH_done (by kernel_rfl) ?_ _
  clear hK K
  have G4 := hHeld4.g
  clear hHeld4
  go_wp2_with fail
  refine bodyPost_ret (v := .agg #[.int .i64 s, .int .i64 nx, .int .i64 ny, .int .i64 nz, .int .i64 pp, .int .i64 pq, .int .i64 ps]) (by simp [results, Try.results124, go_sem, z0, z1, z2, z3, z4, z5, z6]) rfl ⟨by rw [HR.out], G4⟩
end Go.Proofs.Ytjcdfgdnpmogoaa
namespace Go.Proofs.Ytjcdfgdnpmogoaa
open Go.RowKit

/-- The number of the first sample that is not before a second. -/
def SIdx (ss : List Smp) (s : Int) (m : Nat) : Prop := m ≤ ss.length ∧ (∀ j, j < m → (smpD ss j).t < s) ∧ (∀ j, m ≤ j → j < ss.length → s ≤ (smpD ss j).t)
theorem times_le {ss : List Smp} (h : SOk ss) {i j : Nat} (hij : i ≤ j) (hj : j < ss.length) : (smpD ss i).t ≤ (smpD ss j).t := by
  induction j with
  | zero => obtain rfl : i = 0 := (by omega); exact Int.le_refl _
  | succ j ih =>
    rcases Nat.lt_or_ge i (j + 1) with q | q
    · have := ih (by omega) (by omega); have := h.up j hj; omega
    · obtain rfl : i = j + 1 := (by omega); exact Int.le_refl _
theorem sidx_any {ss : List Smp} (h : SOk ss) (s : Int) : ∃ m, SIdx ss s m := by
  have q : ∀ n, n ≤ ss.length → ∃ m, m ≤ n ∧ (∀ j, j < m → (smpD ss j).t < s) ∧ (m < n → s ≤ (smpD ss m).t) := fun n => by
    induction n with
    | zero => intro _; exact ⟨0, Nat.le_refl _, fun j hj => absurd hj (by omega), fun h => absurd h (by omega)⟩
    | succ n ih =>
      intro hn
      obtain ⟨m, h1, h2, h3⟩ := ih (by omega)
      rcases Nat.lt_or_ge m n with r | r
      · exact ⟨m, by omega, h2, fun _ => h3 r⟩
      · obtain rfl : m = n := (by omega)
        rcases Int.lt_or_le (smpD ss m).t s with c | c
        · exact ⟨m + 1, Nat.le_refl _, fun j hj => by
            rcases Nat.lt_or_ge j m with e | e
            · exact h2 j e
            · obtain rfl : j = m := (by omega); exact c, fun h => absurd h (by omega)⟩
        · exact ⟨m, by omega, h2, fun _ => c⟩
  obtain ⟨m, h1, h2, h3⟩ := q _ (Nat.le_refl _)
  exact ⟨m, h1, h2, fun j hj hl => Int.le_trans (h3 (by omega)) (times_le h hj hl)⟩
theorem sidx_one {ss : List Smp} {s : Int} {m k : Nat} (h : SIdx ss s m) (h' : SIdx ss s k) : m = k := by
  rcases Nat.lt_trichotomy m k with q | q | q
  · have a := h'.2.1 m q; have b := h.2.2 m (Nat.le_refl _) (by have := h'.1; omega); omega
  · exact q
  · have a := h.2.1 k q; have b := h'.2.2 k (Nat.le_refl _) (by have := h.1; omega); omega

theorem search1_is (x : Smp) (s : Int) (w : World) {c : Int} (h : Hid (Lib.compareInt x.t s = c)) :
    Calls Try.prog 160 #[.agg #[.int .i64 x.t, .int .i64 x.x, .int .i64 x.y, .int .i64 x.z, .int .i64 x.p, .int .i64 x.q, .int .i64 x.s], .int .i64 s] w fun e w' => e = .returned (.int .i64 c) ∧ w.grownBy w' none := by
  obtain ⟨xt, xx, xy, xz, xp, xq, xs⟩ := x
  simp only at h ⊢
  have G := Lib.hid (World.grownBy_alloc w (.cells #[.int .i64 xt, .int .i64 xx, .int .i64 xy, .int .i64 xz, .int .i64 xp, .int .i64 xq, .int .i64 xs] 28) none)
  go_enter Try.func160, Try.ntmps160
  go_wp2_with fail
  refine (Try.cmp_Compare_int xt s _).mono ?_; rintro e w1 ⟨rfl, rfl⟩
  rw [h.out]
  go_wp2_with fail
  go_ret
  exact ⟨rfl, G.out⟩

set_option maxHeartbeats 1600000 in
theorem bsearch_is (b off cap : Nat) (ss : List Smp) (hl : (ss.length : Int) ≤ 20000) (s : Int) {m : Nat} (HM : Hid (SIdx ss s m)) (w : World) (hs : SmpsAt w (some ⟨b, off, none⟩) ss) {f : Bool} (hf : Hid (decide (m < ss.length ∧ (smpD ss m).t = s) = f)) :
    Calls Try.prog 159 #[.slice (some ⟨b, off, none⟩) ss.length cap, .int .i64 s, .func (.func 160) #[] #[]] w fun e w' => e = .returned (.tuple #[.int .i64 m, .bool f]) ∧ w.grownBy w' none := by
  have HS := Lib.hid hs; clear hs
  go_enter Try.func159, Try.ntmps159
  go_wp2_with fail
  go_loopw [9, 10] (fun s5 s6 wr => ∃ (lo hi : Nat), s5 = .int .i64 lo ∧ s6 = .int .i64 hi ∧ hi ≤ ss.length ∧ Hid (lo ≤ m ∧ m ≤ hi) ∧ Hid (w.grownBy wr none))
    (fun s5 s6 _ => (intOf s6).toNat - (intOf s5).toNat)
  case atStart => exact ⟨0, ss.length, rfl, rfl, Nat.le_refl _, ⟨Nat.zero_le _, HM.out.1⟩, grown_refl _ _⟩
  case round =>
    obtain ⟨lo, hi, rfl, rfl, hin, hM, hg⟩ := hrel
    by_cases hlt : lo < hi
    · obtain ⟨mid, hmid⟩ : ∃ mid, mid = (lo + hi) / 2 := ⟨_, rfl⟩
      have hmi : ((lo : Int) + (hi : Int)) / 2 = (mid : Int) := by omega
      have hml : mid < ss.length := by omega
      have hml2 : (mid : Int) < (ss.length : Int) := by omega
      have HMID := Lib.hid hmid
      obtain ⟨p0, p1, p2, p3, p4, p5, p6⟩ := (HS.out.grown hg.out).cells _ rfl mid hml
      rw [← smpD_at hml] at p0 p1 p2 p3 p4 p5 p6
      simp only at p0 p1 p2 p3 p4 p5 p6
      by_cases hc : (smpD ss mid).t < s
      · have hcv : Hid (Lib.compareInt (smpD ss mid).t s = -1) := by show _ = _; unfold Lib.compareInt; rw [if_pos hc]
        have HM2 : Hid (mid + 1 ≤ m ∧ m ≤ hi) := by
          refine ⟨?_, hM.out.2⟩
          rcases Nat.lt_or_ge mid m with q | q
          · exact q
          · have := HM.out.2.2 mid q hml; omega
        clear hmid
        go_wp2_with fail
        refine (search1_is (smpD ss mid) s _ hcv).mono ?_; rintro e w1 ⟨rfl, hg1⟩
        have GN := Lib.hid (grown_trans hg.out hg1)
        clear hg1 hg p0 p1 p2 p3 p4 p5 p6
        go_wp2_with fail
        go_roundw
        case rel => exact ⟨mid + 1, hi, by go_num, rfl, hin, HM2.out, GN.out⟩
        case measure => have := HMID.out; simp [intOf]; omega
      · obtain ⟨c, hcc⟩ : ∃ c, Lib.compareInt (smpD ss mid).t s = c := ⟨_, rfl⟩
        have hc0 : 0 ≤ c := by rw [← hcc]; unfold Lib.compareInt; rw [if_neg hc]; split <;> omega
        have HCC := Lib.hid hcc
        have HM2 : Hid (lo ≤ m ∧ m ≤ mid) := by
          refine ⟨hM.out.1, ?_⟩
          rcases Nat.lt_or_ge mid m with q | q
          · have := HM.out.2.1 mid q; omega
          · exact q
        have hcd : decide (c < 0) = false := by simp; omega
        clear hmid hcc
        go_wp2_with fail
        refine (search1_is (smpD ss mid) s _ HCC).mono ?_; rintro e w1 ⟨rfl, hg1⟩
        have GN := Lib.hid (grown_trans hg.out hg1)
        clear hg1 hg p0 p1 p2 p3 p4 p5 p6
        go_wp2_with fail
        go_roundw
        case rel => exact ⟨lo, mid, rfl, rfl, by omega, HM2.out, GN.out⟩
        case measure => have := HMID.out; simp [intOf]; omega
    · obtain rfl : lo = m := by have := hM.out; omega
      have hf2 := hf.out
      by_cases hln : lo < ss.length
      · have hml2 : (lo : Int) < (ss.length : Int) := by omega
        obtain ⟨p0, p1, p2, p3, p4, p5, p6⟩ := (HS.out.grown hg.out).cells _ rfl lo hln
        rw [← smpD_at hln] at p0 p1 p2 p3 p4 p5 p6
        simp only at p0 p1 p2 p3 p4 p5 p6
        obtain ⟨c, hcc⟩ : ∃ c, Lib.compareInt (smpD ss lo).t s = c := ⟨_, rfl⟩
        have HCC := Lib.hid hcc
        have hfe : Hid ((c == 0) = f) := by
          show _ = _
          rw [← hf2, ← hcc]
          unfold Lib.compareInt
          by_cases e1 : (smpD ss lo).t < s
          · rw [if_pos e1]; simp; omega
          · rw [if_neg e1]
            by_cases e2 : (smpD ss lo).t > s
            · rw [if_pos e2]; simp; omega
            · rw [if_neg e2]; simp; omega
        clear hcc hf2 hf
        go_wp2_with fail
        refine (search1_is (smpD ss lo) s _ HCC).mono ?_; rintro e w1 ⟨rfl, hg1⟩
        have GN := Lib.hid (grown_trans hg.out hg1)
        clear hg1 hg p0 p1 p2 p3 p4 p5 p6
        go_wp2_with fail
        have hfe2 := hfe.out
        subst hfe2
        go_ret2
        exact ⟨rfl, GN.out⟩
      · have hfe : f = false := by rw [← hf2]; simp; omega
        subst hfe
        have hml2 : ¬ ((lo : Int) < (ss.length : Int)) := by omega
        clear hf2
        go_wp2_with fail
        go_ret2
        exact ⟨rfl, hg.out⟩

theorem searchS_is (b off cap : Nat) (ss : List Smp) (hl : (ss.length : Int) ≤ 20000) (s : Int) {m : Nat} (HM : Hid (SIdx ss s m)) (w : World) (hs : SmpsAt w (some ⟨b, off, none⟩) ss) {f : Bool} (hf : Hid (decide (m < ss.length ∧ (smpD ss m).t = s) = f)) :
    Calls Try.prog 118 #[.slice (some ⟨b, off, none⟩) ss.length cap, .int .i64 s] w fun e w' => e = .returned (.tuple #[.int .i64 m, .bool f]) ∧ w.grownBy w' none := by
  have HS := Lib.hid hs; clear hs
  go_enter Try.func118, Try.ntmps118
  go_wp2_with fail
  refine (bsearch_is b off cap ss hl s HM _ HS.out hf).mono ?_; rintro e w1 ⟨rfl, hg1⟩
  go_wp2_with fail
  go_ret2
  exact ⟨rfl, hg1⟩

/-- Where somebody was at a second, the number of the first sample not before it at hand. -/
noncomputable def atV (ss : List Smp) (s : Int) (m : Nat) : Smp := if (smpD ss m).t = s then smpD ss m else onV (smpD ss (m - 1)) (smpD ss m) s
theorem smpIn_of {ss : List Smp} (h : SOk ss) {i : Nat} (hi : i < ss.length) : SmpIn (smpD ss i) := by
  obtain ⟨a, b, c, d, _⟩ := h.inn i hi
  exact ⟨⟨a, b⟩, c, d.1, d.2⟩
end Go.Proofs.Ytjcdfgdnpmogoaa
namespace Go.Proofs.Ytjcdfgdnpmogoaa
open Go.RowKit

set_option maxRecDepth 100000 in
set_option maxHeartbeats 3200000 in
theorem sampleAt_is (b off cap : Nat) (ss : List Smp) (HS : Hid (SOk ss)) (s : Int) {m : Nat} (HM : Hid (SIdx ss s m)) (hml : m < ss.length) (hs0 : 0 ≤ s) (w : World) (hs : SmpsAt w (some ⟨b, off, none⟩) ss) {x : Smp} (hx : Hid (atV ss s m = x)) :
    Calls Try.prog 57 #[.slice (some ⟨b, off, none⟩) ss.length cap, .int .i64 s] w fun e w' => e = .returned (smpVal x) ∧ w.grownBy w' none := by
  have hl : (ss.length : Int) ≤ 20000 := HS.out.len
  have HA := Lib.hid hs
  have GA := Lib.hid (World.grownBy_alloc w (.cells #[.int .i64 0, .int .i64 0, .int .i64 0, .int .i64 0, .int .i64 0, .int .i64 0, .int .i64 0] 28) none)
  have HZ : Hid ((w.alloc (.cells #[.int .i64 0, .int .i64 0, .int .i64 0, .int .i64 0, .int .i64 0, .int .i64 0, .int .i64 0] 28)).heap[w.heap.size]? = some (.cells #[.int .i64 0, .int .i64 0, .int .i64 0, .int .i64 0, .int .i64 0, .int .i64 0, .int .i64 0] 28 (0, 0))) := heap_alloc_new w _
  have hm2 : (m : Int) < (ss.length : Int) := by omega
  obtain ⟨q0, q1, q2, q3, q4, q5, q6⟩ := hs.cells _ rfl m hml
  rw [← smpD_at hml] at q0 q1 q2 q3 q4 q5 q6
  simp only at q0 q1 q2 q3 q4 q5 q6
  have hxv := hx.out
  unfold atV at hxv
  have hle := HM.out.2.2 m (Nat.le_refl _) hml
  have hqi := smpIn_of HS.out hml
  by_cases he : (smpD ss m).t = s
  · rw [if_pos he] at hxv
    have HF : Hid (decide (m < ss.length ∧ (smpD ss m).t = s) = true) := by show _ = _; simp; exact ⟨hml, he⟩
    clear hx hs hqi hle he
    unfold smpVal
    go_enter Try.func57, Try.ntmps57
    go_wp2_with fail
    refine (searchS_is b off cap ss hl s HM _ (HA.out.grown GA.out) HF).mono ?_; rintro e w1 ⟨rfl, hg1⟩
    have GG := Lib.hid (grown_trans GA.out hg1)
    replace q0 := grown_cell GG.out q0; replace q1 := grown_cell GG.out q1; replace q2 := grown_cell GG.out q2; replace q3 := grown_cell GG.out q3; replace q4 := grown_cell GG.out q4; replace q5 := grown_cell GG.out q5; replace q6 := grown_cell GG.out q6
    have hz := (hg1.block _ (lt_of_block HZ.out) (by simp)).trans HZ.out
    have z0 := block_cell hz 0 _ rfl
    have y0 := block_free (k := 0) hz
    have z1 := block_cell hz 1 _ rfl
    have y1 := block_free (k := 1) hz
    have z2 := block_cell hz 2 _ rfl
    have y2 := block_free (k := 2) hz
    have z3 := block_cell hz 3 _ rfl
    have y3 := block_free (k := 3) hz
    have z4 := block_cell hz 4 _ rfl
    have y4 := block_free (k := 4) hz
    have z5 := block_cell hz 5 _ rfl
    have y5 := block_free (k := 5) hz
    have z6 := block_cell hz 6 _ rfl
    have y6 := block_free (k := 6) hz
    rw [hxv] at q0 q1 q2 q3 q4 q5 q6
    obtain ⟨x0, x1, x2, x3, x4, x5, x6⟩ := x
    simp only at q0 q1 q2 q3 q4 q5 q6
    clear hz hg1 hxv
    go_wp2_with fail
    refine bodyPost_ret (v := .agg #[.int .i64 x0, .int .i64 x1, .int .i64 x2, .int .i64 x3, .int .i64 x4, .int .i64 x5, .int .i64 x6]) (by simp [results, Try.results57, go_sem, z0, z1, z2, z3, z4, z5, z6]) rfl ⟨rfl, ?_⟩
    exact grown_far (grown_far (grown_far (grown_far (grown_far (grown_far (grown_far GG.out (Nat.le_refl _) _ _) (Nat.le_refl _) _ _) (Nat.le_refl _) _ _) (Nat.le_refl _) _ _) (Nat.le_refl _) _ _) (Nat.le_refl _) _ _) (Nat.le_refl _) _ _
  · rw [if_neg he] at hxv
    have HF : Hid (decide (m < ss.length ∧ (smpD ss m).t = s) = false) := by show _ = _; simp; intro _; exact he
    have hm0 : 0 < m := by
      rcases Nat.eq_zero_or_pos m with e | e
      · have h0 := HS.out.t0 (by omega)
        rw [e] at hle he
        omega
      · exact e
    obtain ⟨k, hk⟩ : ∃ k, m - 1 = k := ⟨_, rfl⟩
    have hkl : k < ss.length := by omega
    have hlt := HM.out.2.1 k (by omega)
    have hpi := smpIn_of HS.out hkl
    obtain ⟨p0, p1, p2, p3, p4, p5, p6⟩ := hs.cells _ rfl k hkl
    rw [← smpD_at hkl] at p0 p1 p2 p3 p4 p5 p6
    simp only at p0 p1 p2 p3 p4 p5 p6
    rw [hk] at hxv
    have KO : Hid (∀ V : World, Calls Try.prog 119 #[smpVal (smpD ss k), smpVal (smpD ss m), .int .i64 s] V fun e w' => e = .returned (smpVal x) ∧ V.grownBy w' none) := fun V => onStep_is (smpD ss k) (smpD ss m) s hpi hqi (by omega) hle (by omega) V (Lib.hid hxv)
    have rk : IntKind.i64.wrap ((m : Int) - 1) = (k : Int) := by rw [show (m : Int) - 1 = (k : Int) by omega]; exact IntWalk.i64_in _ (by omega)
    have hk2 : (k : Int) < (ss.length : Int) := by omega
    have hk0 : (0 : Int) ≤ (k : Int) := by omega
    have hm00 : (0 : Int) ≤ (m : Int) := by omega
    have KS : Hid (∀ V : World, SmpsAt V (some ⟨b, off, none⟩) ss → Calls Try.prog 118 #[.slice (some ⟨b, off, none⟩) ss.length cap, .int .i64 s] V fun e w' => e = .returned (.tuple #[.int .i64 m, .bool false]) ∧ V.grownBy w' none) := fun V hV => searchS_is b off cap ss hl s HM V hV HF
    clear HF
    generalize smpD ss k = P at *
    generalize smpD ss m = Q at *
    obtain ⟨pt, px, py, pz, pp, pq, ps⟩ := P
    obtain ⟨qt, qx, qy, qz, qp, qq, qs⟩ := Q
    simp only at p0 p1 p2 p3 p4 p5 p6 q0 q1 q2 q3 q4 q5 q6
    unfold smpVal at KO ⊢
    simp only at KO
    have HPQ := Lib.hid (And.intro (And.intro p0 (And.intro p1 (And.intro p2 (And.intro p3 (And.intro p4 (And.intro p5 p6)))))) (And.intro q0 (And.intro q1 (And.intro q2 (And.intro q3 (And.intro q4 (And.intro q5 q6)))))))
    clear hx hs hqi hle he hpi hlt hxv hk p0 p1 p2 p3 p4 p5 p6 q0 q1 q2 q3 q4 q5 q6
    go_enter Try.func57, Try.ntmps57
    go_wp2_with fail
    refine (KS.out _ (HA.out.grown GA.out)).mono ?_; rintro e w1 ⟨rfl, hg1⟩
    have GG := Lib.hid (grown_trans GA.out hg1)
    have HZ1 := Lib.hid ((hg1.block _ (lt_of_block HZ.out) (by simp)).trans HZ.out)
    have HC : Hid (∀ V, (w.grownBy V none ∧ ∃ c : Array Value, c.size = 7 ∧ V.heap[w.heap.size]? = some (.cells c 28 (0, 0))) → (World.cell? V ⟨b, off + k * 7, none⟩ = some (.int .i64 pt) ∧ World.cell? V ⟨b, off + k * 7 + 1, none⟩ = some (.int .i64 px) ∧ World.cell? V ⟨b, off + k * 7 + 2, none⟩ = some (.int .i64 py) ∧ World.cell? V ⟨b, off + k * 7 + 3, none⟩ = some (.int .i64 pz) ∧ World.cell? V ⟨b, off + k * 7 + 4, none⟩ = some (.int .i64 pp) ∧ World.cell? V ⟨b, off + k * 7 + 5, none⟩ = some (.int .i64 pq) ∧ World.cell? V ⟨b, off + k * 7 + 6, none⟩ = some (.int .i64 ps)) ∧ (World.cell? V ⟨b, off + m * 7, none⟩ = some (.int .i64 qt) ∧ World.cell? V ⟨b, off + m * 7 + 1, none⟩ = some (.int .i64 qx) ∧ World.cell? V ⟨b, off + m * 7 + 2, none⟩ = some (.int .i64 qy) ∧ World.cell? V ⟨b, off + m * 7 + 3, none⟩ = some (.int .i64 qz) ∧ World.cell? V ⟨b, off + m * 7 + 4, none⟩ = some (.int .i64 qp) ∧ World.cell? V ⟨b, off + m * 7 + 5, none⟩ = some (.int .i64 qq) ∧ World.cell? V ⟨b, off + m * 7 + 6, none⟩ = some (.int .i64 qs))) := fun V hV => by
      obtain ⟨⟨p0, p1, p2, p3, p4, p5, p6⟩, q0, q1, q2, q3, q4, q5, q6⟩ := HPQ.out
      exact ⟨⟨grown_cell hV.1 p0, grown_cell hV.1 p1, grown_cell hV.1 p2, grown_cell hV.1 p3, grown_cell hV.1 p4, grown_cell hV.1 p5, grown_cell hV.1 p6⟩, grown_cell hV.1 q0, grown_cell hV.1 q1, grown_cell hV.1 q2, grown_cell hV.1 q3, grown_cell hV.1 q4, grown_cell hV.1 q5, grown_cell hV.1 q6⟩
    clear hg1
    go_wp2_with fail
    refine wp_region_held_drew (S := fun V => w.grownBy V none ∧ ∃ c : Array Value, c.size = 7 ∧ V.heap[w.heap.size]? = some (.cells c 28 (0, 0))) (by kernel_rfl) ⟨grown_trans GG.out (grown_drewN _ _ 1), _, rfl, HZ1.out⟩ (fun hHeld => ?_)
    refine wpAnyH_take (i := 0) (oi := ?oi0) (v := .slice (some ⟨b, off, none⟩) ss.length cap) ?hi0 (by kernel_rfl) (by kernel_rfl) (by kernel_rfl) ?hq0 ?hy0 hHeld ?rest0
    case hi0 => simp only [List.getElem?_toArray, List.getElem?_cons_zero, Option.some.injEq]; rfl
    case hq0 => exact fun _ _ _ h => h
    case hy0 =>
      refine Or.inl ⟨by kernel_rfl, fun V hV => ?_⟩
      clear hV
      go_simp
    try simp only [Go.Act.put, List.setIfInBounds_toArray, List.set_cons_zero, List.set_cons_succ]
    refine wpAnyH_take (i := 1) (oi := ?oi1) (v := .int .i64 (m : Nat)) ?hi1 (by kernel_rfl) (by kernel_rfl) (by kernel_rfl) ?hq1 ?hy1 hHeld ?rest1
    case hi1 => simp only [List.getElem?_toArray, List.getElem?_cons_succ, List.getElem?_cons_zero, Option.some.injEq]; rfl
    case hq1 => exact fun _ _ _ h => h
    case hy1 =>
      refine Or.inl ⟨by kernel_rfl, fun V hV => ?_⟩
      clear hV
      go_simp
    try simp only [Go.Act.put, List.setIfInBounds_toArray, List.set_cons_zero, List.set_cons_succ]
    refine wpAnyH_take (i := 2) (oi := ?oi2) (v := .int .i64 (k : Nat)) ?hi2 (by kernel_rfl) (by kernel_rfl) (by kernel_rfl) ?hq2 ?hy2 hHeld ?rest2
    case hi2 => simp only [List.getElem?_toArray, List.getElem?_cons_succ, List.getElem?_cons_zero, Option.some.injEq]; rfl
    case hq2 => exact fun _ _ _ h => h
    case hy2 =>
      refine Or.inl ⟨by kernel_rfl, fun V hV => ?_⟩
      clear hV
      go_simp
    try simp only [Go.Act.put, List.setIfInBounds_toArray, List.set_cons_zero, List.set_cons_succ]
    refine wpAnyH_take (i := 3) (oi := ?oi3) (v := .pointer (some ⟨b, off + k * 7, none⟩)) ?hi3 (by kernel_rfl) (by kernel_rfl) (by kernel_rfl) ?hq3 ?hy3 hHeld ?rest3
    case hi3 => simp only [List.getElem?_toArray, List.getElem?_cons_succ, List.getElem?_cons_zero, Option.some.injEq]; rfl
    case hq3 => exact fun _ _ _ h => h
    case hy3 =>
      refine Or.inl ⟨by kernel_rfl, fun V hV => ?_⟩
      clear hV
      go_simp
    try simp only [Go.Act.put, List.setIfInBounds_toArray, List.set_cons_zero, List.set_cons_succ]
    refine wpAnyH_take (i := 4) (oi := ?oi4) (v := .agg #[.int .i64 pt, .int .i64 px, .int .i64 py, .int .i64 pz, .int .i64 pp, .int .i64 pq, .int .i64 ps]) ?hi4 (by kernel_rfl) (by kernel_rfl) (by kernel_rfl) ?hq4 ?hy4 hHeld ?rest4
    case hi4 => simp only [List.getElem?_toArray, List.getElem?_cons_succ, List.getElem?_cons_zero, Option.some.injEq]; rfl
    case hq4 => exact fun _ _ _ h => h
    case hy4 =>
      refine Or.inl ⟨by kernel_rfl, fun V hV => ?_⟩
      have H7 := (HC.out V hV).1; obtain ⟨p0, p1, p2, p3, p4, p5, p6⟩ := H7; clear hV
      go_simp
    try simp only [Go.Act.put, List.setIfInBounds_toArray, List.set_cons_zero, List.set_cons_succ]
    refine wpAnyH_take (i := 5) (oi := ?oi5) (v := .slice (some ⟨b, off, none⟩) ss.length cap) ?hi5 (by kernel_rfl) (by kernel_rfl) (by kernel_rfl) ?hq5 ?hy5 hHeld ?rest5
    case hi5 => simp only [List.getElem?_toArray, List.getElem?_cons_succ, List.getElem?_cons_zero, Option.some.injEq]; rfl
    case hq5 => exact fun _ _ _ h => h
    case hy5 =>
      refine Or.inl ⟨by kernel_rfl, fun V hV => ?_⟩
      clear hV
      go_simp
    try simp only [Go.Act.put, List.setIfInBounds_toArray, List.set_cons_zero, List.set_cons_succ]
    refine wpAnyH_take (i := 6) (oi := ?oi6) (v := .int .i64 (m : Nat)) ?hi6 (by kernel_rfl) (by kernel_rfl) (by kernel_rfl) ?hq6 ?hy6 hHeld ?rest6
    case hi6 => simp only [List.getElem?_toArray, List.getElem?_cons_succ, List.getElem?_cons_zero, Option.some.injEq]; rfl
    case hq6 => exact fun _ _ _ h => h
    case hy6 =>
      refine Or.inl ⟨by kernel_rfl, fun V hV => ?_⟩
      clear hV
      go_simp
    try simp only [Go.Act.put, List.setIfInBounds_toArray, List.set_cons_zero, List.set_cons_succ]
    refine wpAnyH_take (i := 7) (oi := ?oi7) (v := .pointer (some ⟨b, off + m * 7, none⟩)) ?hi7 (by kernel_rfl) (by kernel_rfl) (by kernel_rfl) ?hq7 ?hy7 hHeld ?rest7
    case hi7 => simp only [List.getElem?_toArray, List.getElem?_cons_succ, List.getElem?_cons_zero, Option.some.injEq]; rfl
    case hq7 => exact fun _ _ _ h => h
    case hy7 =>
      refine Or.inl ⟨by kernel_rfl, fun V hV => ?_⟩
      clear hV
      go_simp
    try simp only [Go.Act.put, List.setIfInBounds_toArray, List.set_cons_zero, List.set_cons_succ]
    refine wpAnyH_take (i := 8) (oi := ?oi8) (v := .agg #[.int .i64 qt, .int .i64 qx, .int .i64 qy, .int .i64 qz, .int .i64 qp, .int .i64 qq, .int .i64 qs]) ?hi8 (by kernel_rfl) (by kernel_rfl) (by kernel_rfl) ?hq8 ?hy8 hHeld ?rest8
    case hi8 => simp only [List.getElem?_toArray, List.getElem?_cons_succ, List.getElem?_cons_zero, Option.some.injEq]; rfl
    case hq8 => exact fun _ _ _ h => h
    case hy8 =>
      refine Or.inl ⟨by kernel_rfl, fun V hV => ?_⟩
      have H7 := (HC.out V hV).2; obtain ⟨q0, q1, q2, q3, q4, q5, q6⟩ := H7; clear hV
      go_simp
    try simp only [Go.Act.put, List.setIfInBounds_toArray, List.set_cons_zero, List.set_cons_succ]
    refine wpAnyH_take (i := 9) (oi := ?oi9) (v := .int .i64 s) ?hi9 (by kernel_rfl) (by kernel_rfl) (by kernel_rfl) ?hq9 ?hy9 hHeld ?rest9
    case hi9 => simp only [List.getElem?_toArray, List.getElem?_cons_succ, List.getElem?_cons_zero, Option.some.injEq]; rfl
    case hq9 => exact fun _ _ _ h => h
    case hy9 =>
      refine Or.inl ⟨by kernel_rfl, fun V hV => ?_⟩
      clear hV
      go_simp
    try simp only [Go.Act.put, List.setIfInBounds_toArray, List.set_cons_zero, List.set_cons_succ]
    refine wpAnyH_ready (rs := [10]) (by kernel_rfl) (by simp) ?_
    refine AllReadyH.cons rfl (fun K hK => ?_) AllReadyH.nil
    go_simp
    refine (KO.out _).mono ?_
    rintro e w5 ⟨rfl, hg5⟩
    refine hK.out _ _ ?_ (fun hHeld1 => ?_)
    · obtain ⟨h1, c, h2, h3⟩ := hHeld
      exact ⟨grown_trans h1 hg5, c, h2, (hg5.block _ (lt_of_block h3) (by simp)).trans h3⟩
    clear hK K
    try simp only [Go.Act.put, List.setIfInBounds_toArray, List.set_cons_zero, List.set_cons_succ]
    refine wpAnyH_ready (rs := [11]) (by kernel_rfl) (by simp) ?_
    refine AllReadyH.cons rfl (fun K hK => ?_) AllReadyH.nil
    obtain ⟨g5, c, hc, hz⟩ := hHeld1
    have z0 := block_cell hz 0 _ (Array.getElem?_eq_getElem (show 0 < c.size from hc.symm ▸ (by decide : 0 < 7)))
    have y0 := block_free (k := 0) hz
    have z1 := block_cell hz 1 _ (Array.getElem?_eq_getElem (show 1 < c.size from hc.symm ▸ (by decide : 1 < 7)))
    have y1 := block_free (k := 1) hz
    have z2 := block_cell hz 2 _ (Array.getElem?_eq_getElem (show 2 < c.size from hc.symm ▸ (by decide : 2 < 7)))
    have y2 := block_free (k := 2) hz
    have z3 := block_cell hz 3 _ (Array.getElem?_eq_getElem (show 3 < c.size from hc.symm ▸ (by decide : 3 < 7)))
    have y3 := block_free (k := 3) hz
    have z4 := block_cell hz 4 _ (Array.getElem?_eq_getElem (show 4 < c.size from hc.symm ▸ (by decide : 4 < 7)))
    have y4 := block_free (k := 4) hz
    have z5 := block_cell hz 5 _ (Array.getElem?_eq_getElem (show 5 < c.size from hc.symm ▸ (by decide : 5 < 7)))
    have y5 := block_free (k := 5) hz
    have z6 := block_cell hz 6 _ (Array.getElem?_eq_getElem (show 6 < c.size from hc.symm ▸ (by decide : 6 < 7)))
    have y6 := block_free (k := 6) hz
    have G5 := Lib.hid g5; have HZ5 := Lib.hid hz; have HC7 := Lib.hid hc
    clear hHeld g5 hz hg5
    go_simp
    refine hK.out _ _ ⟨grown_far (grown_far (grown_far (grown_far (grown_far (grown_far (grown_far G5.out (Nat.le_refl _) _ _) (Nat.le_refl _) _ _) (Nat.le_refl _) _ _) (Nat.le_refl _) _ _) (Nat.le_refl _) _ _) (Nat.le_refl _) _ _) (Nat.le_refl _) _ _, _, ?_, block_set (block_set (block_set (block_set (block_set (block_set (block_set HZ5.out _) _) _) _) _) _) _⟩ (fun hHeld4 => ?_)
    · simpa using HC7.out
    refine wpAnyH_done (by kernel_rfl) ?_ _
    clear hK K
    have G6 := hHeld4.1
    clear hHeld4
    go_wp2_with fail
    refine bodyPost_ret (v := .agg #[.int .i64 x.t, .int .i64 x.x, .int .i64 x.y, .int .i64 x.z, .int .i64 x.p, .int .i64 x.q, .int .i64 x.s]) (by simp [results, Try.results57, go_sem, z0, z1, z2, z3, z4, z5, z6]) rfl ⟨rfl, G6⟩
end Go.Proofs.Ytjcdfgdnpmogoaa
namespace Go.Proofs.Ytjcdfgdnpmogoaa
open Go.RowKit

set_option maxRecDepth 100000 in
set_option maxHeartbeats 3200000 in
theorem where_is (nm : ByteArray) (sp st : Int) (b off sc : Nat) (ss : List Smp) (lo : Option Addr) (lc : Nat) (ls : List LapV) (to_ : Option Addr) (tc : Nat) (ts : List ByteArray) (HS : Hid (SOk ss)) (s : Int) {m : Nat} (HM : Hid (SIdx ss s m)) (hml : m < ss.length) (hs0 : 0 ≤ s) (w : World) (hs : SmpsAt w (some ⟨b, off, none⟩) ss) {x : Smp} (hx : Hid (atV ss s m = x)) :
    Calls Try.prog 61 #[.agg #[.string nm, .int .i64 sp, .int .i64 st, .slice (some ⟨b, off, none⟩) ss.length sc, .slice lo ls.length lc, .slice to_ ts.length tc], .int .i64 s] w fun e w' => e = .returned (smpVal x) ∧ w.grownBy w' none := by
  have hl : (ss.length : Int) ≤ 20000 := HS.out.len
  have HA := Lib.hid hs
  have G2 := Lib.hid (grown_trans (World.grownBy_alloc w (.cells #[.string nm, .int .i64 sp, .int .i64 st, .slice (some ⟨b, off, none⟩) ss.length sc, .slice lo ls.length lc, .slice to_ ts.length tc] 26) none) (World.grownBy_alloc _ (.cells #[.int .i64 0, .int .i64 0, .int .i64 0, .int .i64 0, .int .i64 0, .int .i64 0, .int .i64 0] 28) none))
  have HZ : Hid (((w.alloc (.cells #[.string nm, .int .i64 sp, .int .i64 st, .slice (some ⟨b, off, none⟩) ss.length sc, .slice lo ls.length lc, .slice to_ ts.length tc] 26)).alloc (.cells #[.int .i64 0, .int .i64 0, .int .i64 0, .int .i64 0, .int .i64 0, .int .i64 0, .int .i64 0] 28)).heap[w.heap.size + 1]? = some (.cells #[.int .i64 0, .int .i64 0, .int .i64 0, .int .i64 0, .int .i64 0, .int .i64 0, .int .i64 0] 28 (0, 0))) := by
    have := heap_alloc_new (w.alloc (.cells #[.string nm, .int .i64 sp, .int .i64 st, .slice (some ⟨b, off, none⟩) ss.length sc, .slice lo ls.length lc, .slice to_ ts.length tc] 26)) (.cells #[.int .i64 0, .int .i64 0, .int .i64 0, .int .i64 0, .int .i64 0, .int .i64 0, .int .i64 0] 28); show _ = _; simpa using this
  have HB3 : Hid (((w.alloc (.cells #[.string nm, .int .i64 sp, .int .i64 st, .slice (some ⟨b, off, none⟩) ss.length sc, .slice lo ls.length lc, .slice to_ ts.length tc] 26)).alloc (.cells #[.int .i64 0, .int .i64 0, .int .i64 0, .int .i64 0, .int .i64 0, .int .i64 0, .int .i64 0] 28)).cell? ⟨w.heap.size, 3, none⟩ = some (.slice (some ⟨b, off, none⟩) ss.length sc)) := by show _ = _; go_simp
  have rl : IntKind.i64.wrap ((ss.length : Int) - 1) = (ss.length : Int) - 1 := IntWalk.i64_in _ (by omega)
  unfold smpVal
  go_enter Try.func61, Try.ntmps61
  go_wp2_with fail
  go_quiet (fail)
  have GD := Lib.hid (grown_trans G2.out (grown_drewN _ _ nq))
  have HZD := Lib.hid (((grown_drewN ((w.alloc (.cells #[.string nm, .int .i64 sp, .int .i64 st, .slice (some ⟨b, off, none⟩) ss.length sc, .slice lo ls.length lc, .slice to_ ts.length tc] 26)).alloc (.cells #[.int .i64 0, .int .i64 0, .int .i64 0, .int .i64 0, .int .i64 0, .int .i64 0, .int .i64 0] 28)) none nq).block _ (lt_of_block HZ.out) (by simp)).trans HZ.out)
  have HBD := Lib.hid (grown_cell (grown_drewN ((w.alloc (.cells #[.string nm, .int .i64 sp, .int .i64 st, .slice (some ⟨b, off, none⟩) ss.length sc, .slice lo ls.length lc, .slice to_ ts.length tc] 26)).alloc (.cells #[.int .i64 0, .int .i64 0, .int .i64 0, .int .i64 0, .int .i64 0, .int .i64 0, .int .i64 0] 28)) none nq) HB3.out)
  obtain ⟨V0, hV0⟩ : ∃ V0, ((w.alloc (.cells #[.string nm, .int .i64 sp, .int .i64 st, .slice (some ⟨b, off, none⟩) ss.length sc, .slice lo ls.length lc, .slice to_ ts.length tc] 26)).alloc (.cells #[.int .i64 0, .int .i64 0, .int .i64 0, .int .i64 0, .int .i64 0, .int .i64 0, .int .i64 0] 28)).drewN nq = V0 := ⟨_, rfl⟩
  rw [hV0] at GD HZD HBD ⊢
  clear hV0 HZ HB3 G2
  go_wp2_with fail
  go_loopw [5, 6] (fun s5 s6 wr => ∃ (lo hi : Nat), s5 = .int .i64 lo ∧ s6 = .int .i64 hi ∧ hi < ss.length ∧ lo ≤ hi ∧ Hid (lo ≤ m ∧ m ≤ hi) ∧ wr = V0)
    (fun s5 s6 _ => (intOf s6).toNat - (intOf s5).toNat)
  case atStart => exact ⟨0, ss.length - 1, rfl, by congr 1; omega, by omega, by omega, ⟨Nat.zero_le _, by omega⟩, rfl⟩
  case round =>
    obtain ⟨lo, hi, rfl, rfl, hin, hlh, hM, rfl⟩ := hrel
    have b3 := HBD.out
    by_cases hlt : lo < hi
    · obtain ⟨mid, hmid⟩ : ∃ mid, mid = (lo + hi) / 2 := ⟨_, rfl⟩
      have hmi : ((lo : Int) + (hi : Int)) / 2 = (mid : Int) := by omega
      have hmt : ((lo : Int) + (hi : Int)).tdiv 2 = (mid : Int) := by rw [Int.tdiv_eq_ediv_of_nonneg (by omega)]; exact hmi
      have hmidl : mid < ss.length := by omega
      have hml2 : (mid : Int) < (ss.length : Int) := by omega
      have HMID := Lib.hid hmid
      have p0 := ((HA.out.grown GD.out).cells _ rfl mid hmidl).1
      rw [← smpD_at hmidl] at p0
      simp only at p0
      by_cases hc : (smpD ss mid).t < s
      · have HM2 : Hid (mid + 1 ≤ m ∧ m ≤ hi) := by
          refine ⟨?_, hM.out.2⟩
          rcases Nat.lt_or_ge mid m with q | q
          · exact q
          · have := HM.out.2.2 mid q hmidl; omega
        clear hmid
        go_wp2_with fail
        go_roundw
        case rel => exact ⟨mid + 1, hi, by go_num, rfl, hin, by have := HMID.out; omega, HM2.out, by first | rfl | trivial⟩
        case measure => have := HMID.out; simp [intOf]; omega
      · have HM2 : Hid (lo ≤ m ∧ m ≤ mid) := by
          refine ⟨hM.out.1, ?_⟩
          rcases Nat.lt_or_ge mid m with q | q
          · have := HM.out.2.1 mid q; omega
          · exact q
        clear hmid
        go_wp2_with fail
        go_roundw
        case rel => exact ⟨lo, mid, rfl, rfl, by omega, by have := HMID.out; omega, HM2.out, by first | rfl | trivial⟩
        case measure => have := HMID.out; simp [intOf]; omega
    · obtain rfl : lo = m := by have := hM.out; omega
      have hlo2 : (lo : Int) < (ss.length : Int) := by omega
      obtain ⟨q0, q1, q2, q3, q4, q5, q6⟩ := (HA.out.grown GD.out).cells _ rfl lo hml
      rw [← smpD_at hml] at q0 q1 q2 q3 q4 q5 q6
      simp only at q0 q1 q2 q3 q4 q5 q6
      have hxv := hx.out
      unfold atV at hxv
      have hle := HM.out.2.2 lo (Nat.le_refl _) hml
      have hqi := smpIn_of HS.out hml
      have hnlt : ¬ ((lo : Int) < (hi : Int)) := by omega
      by_cases he : (smpD ss lo).t = s
      · rw [if_pos he] at hxv
        rw [hxv] at q0 q1 q2 q3 q4 q5 q6 he
        have hz := HZD.out
        have z0 := block_cell hz 0 _ rfl
        have y0 := block_free (k := 0) hz
        have z1 := block_cell hz 1 _ rfl
        have y1 := block_free (k := 1) hz
        have z2 := block_cell hz 2 _ rfl
        have y2 := block_free (k := 2) hz
        have z3 := block_cell hz 3 _ rfl
        have y3 := block_free (k := 3) hz
        have z4 := block_cell hz 4 _ rfl
        have y4 := block_free (k := 4) hz
        have z5 := block_cell hz 5 _ rfl
        have y5 := block_free (k := 5) hz
        have z6 := block_cell hz 6 _ rfl
        have y6 := block_free (k := 6) hz
        obtain ⟨x0, x1, x2, x3, x4, x5, x6⟩ := x
        simp only at q0 q1 q2 q3 q4 q5 q6 he
        subst he
        have GG := GD
        clear hz hxv hx hs hle hqi HZD
        go_wp2_with fail
        refine bodyPost_ret (v := .agg #[.int .i64 x0, .int .i64 x1, .int .i64 x2, .int .i64 x3, .int .i64 x4, .int .i64 x5, .int .i64 x6]) (by simp [results, Try.results61, go_sem, z0, z1, z2, z3, z4, z5, z6]) rfl ⟨rfl, ?_⟩
        exact grown_far (grown_far (grown_far (grown_far (grown_far (grown_far (grown_far GG.out (by omega) _ _) (by omega) _ _) (by omega) _ _) (by omega) _ _) (by omega) _ _) (by omega) _ _) (by omega) _ _
      · rw [if_neg he] at hxv
        have hm0 : 0 < lo := by
          rcases Nat.eq_zero_or_pos lo with e | e
          · have h0 := HS.out.t0 (by omega)
            rw [e] at hle he
            omega
          · exact e
        obtain ⟨k, hk⟩ : ∃ k, lo - 1 = k := ⟨_, rfl⟩
        have hkl : k < ss.length := by omega
        have hlt' := HM.out.2.1 k (by omega)
        have hpi := smpIn_of HS.out hkl
        obtain ⟨p0, p1, p2, p3, p4, p5, p6⟩ := HA.out.cells _ rfl k hkl
        rw [← smpD_at hkl] at p0 p1 p2 p3 p4 p5 p6
        obtain ⟨v0, v1, v2, v3, v4, v5, v6⟩ := HA.out.cells _ rfl lo hml
        rw [← smpD_at hml] at v0 v1 v2 v3 v4 v5 v6
        simp only at v0 v1 v2 v3 v4 v5 v6
        simp only at p0 p1 p2 p3 p4 p5 p6
        rw [hk] at hxv
        have KO : Hid (∀ V : World, Calls Try.prog 124 #[smpVal (smpD ss k), smpVal (smpD ss lo), .int .i64 s] V fun e w' => e = .returned (smpVal x) ∧ V.grownBy w' none) := fun V => rat_is (smpD ss k) (smpD ss lo) s hpi hqi (by omega) hle (by omega) V (Lib.hid hxv)
        have rk : IntKind.i64.wrap ((lo : Int) - 1) = (k : Int) := by rw [show (lo : Int) - 1 = (k : Int) by omega]; exact IntWalk.i64_in _ (by omega)
        have hk2 : (k : Int) < (ss.length : Int) := by omega
        have hk0 : (0 : Int) ≤ (k : Int) := by omega
        have hm00 : (0 : Int) ≤ (lo : Int) := by omega
        generalize smpD ss k = P at *
        generalize smpD ss lo = Q at *
        obtain ⟨pt, px, py, pz, pp, pq, ps⟩ := P
        obtain ⟨qt, qx, qy, qz, qp, qq, qs⟩ := Q
        simp only at p0 p1 p2 p3 p4 p5 p6 q0 q1 q2 q3 q4 q5 q6 v0 v1 v2 v3 v4 v5 v6 he
        have heq : (qt == s) = false := beq_eq_false_iff_ne.2 he
        unfold smpVal at KO
        simp only at KO
        have HPQ := Lib.hid (And.intro (And.intro p0 (And.intro p1 (And.intro p2 (And.intro p3 (And.intro p4 (And.intro p5 p6)))))) (And.intro v0 (And.intro v1 (And.intro v2 (And.intro v3 (And.intro v4 (And.intro v5 v6)))))))
        clear v0 v1 v2 v3 v4 v5 v6 hx hs hqi hle hpi hlt' hxv hk p0 p1 p2 p3 p4 p5 p6 q1 q2 q3 q4 q5 q6
        have HC : Hid (∀ V, (w.grownBy V none ∧ V.cell? ⟨w.heap.size, 3, none⟩ = some (.slice (some ⟨b, off, none⟩) ss.length sc) ∧ ∃ c : Array Value, c.size = 7 ∧ V.heap[w.heap.size + 1]? = some (.cells c 28 (0, 0))) → (World.cell? V ⟨b, off + k * 7, none⟩ = some (.int .i64 pt) ∧ World.cell? V ⟨b, off + k * 7 + 1, none⟩ = some (.int .i64 px) ∧ World.cell? V ⟨b, off + k * 7 + 2, none⟩ = some (.int .i64 py) ∧ World.cell? V ⟨b, off + k * 7 + 3, none⟩ = some (.int .i64 pz) ∧ World.cell? V ⟨b, off + k * 7 + 4, none⟩ = some (.int .i64 pp) ∧ World.cell? V ⟨b, off + k * 7 + 5, none⟩ = some (.int .i64 pq) ∧ World.cell? V ⟨b, off + k * 7 + 6, none⟩ = some (.int .i64 ps)) ∧ (World.cell? V ⟨b, off + lo * 7, none⟩ = some (.int .i64 qt) ∧ World.cell? V ⟨b, off + lo * 7 + 1, none⟩ = some (.int .i64 qx) ∧ World.cell? V ⟨b, off + lo * 7 + 2, none⟩ = some (.int .i64 qy) ∧ World.cell? V ⟨b, off + lo * 7 + 3, none⟩ = some (.int .i64 qz) ∧ World.cell? V ⟨b, off + lo * 7 + 4, none⟩ = some (.int .i64 qp) ∧ World.cell? V ⟨b, off + lo * 7 + 5, none⟩ = some (.int .i64 qq) ∧ World.cell? V ⟨b, off + lo * 7 + 6, none⟩ = some (.int .i64 qs))) := fun V hV => by
          obtain ⟨⟨p0, p1, p2, p3, p4, p5, p6⟩, q0, q1, q2, q3, q4, q5, q6⟩ := HPQ.out
          exact ⟨⟨grown_cell hV.1 p0, grown_cell hV.1 p1, grown_cell hV.1 p2, grown_cell hV.1 p3, grown_cell hV.1 p4, grown_cell hV.1 p5, grown_cell hV.1 p6⟩, grown_cell hV.1 q0, grown_cell hV.1 q1, grown_cell hV.1 q2, grown_cell hV.1 q3, grown_cell hV.1 q4, grown_cell hV.1 q5, grown_cell hV.1 q6⟩
        go_wp2_with fail
        clear q0
        refine wp_region_held_drew (S := fun V => w.grownBy V none ∧ V.cell? ⟨w.heap.size, 3, none⟩ = some (.slice (some ⟨b, off, none⟩) ss.length sc) ∧ ∃ c : Array Value, c.size = 7 ∧ V.heap[w.heap.size + 1]? = some (.cells c 28 (0, 0))) (by kernel_rfl) ⟨grown_trans GD.out (grown_drewN _ _ 1), b3, _, rfl, HZD.out⟩ (fun hHeld => ?_)
        refine wpAnyH_take (i := 0) (oi := ?oi0) (v := .pointer (some ⟨w.heap.size, 3, none⟩)) ?hi0 (by kernel_rfl) (by kernel_rfl) (by kernel_rfl) ?hq0 ?hy0 hHeld ?rest0
        case hi0 => simp only [List.getElem?_toArray, List.getElem?_cons_zero, Option.some.injEq]; rfl
        case hq0 => exact fun _ _ _ h => h
        case hy0 =>
          refine Or.inl ⟨by kernel_rfl, fun V hV => ?_⟩
          clear hV
          go_simp
        try simp only [Go.Act.put, List.setIfInBounds_toArray, List.set_cons_zero, List.set_cons_succ]
        refine wpAnyH_take (i := 1) (oi := ?oi1) (v := .slice (some ⟨b, off, none⟩) ss.length sc) ?hi1 (by kernel_rfl) (by kernel_rfl) (by kernel_rfl) ?hq1 ?hy1 hHeld ?rest1
        case hi1 => simp only [List.getElem?_toArray, List.getElem?_cons_succ, List.getElem?_cons_zero, Option.some.injEq]; rfl
        case hq1 => exact fun _ _ _ h => h
        case hy1 =>
          refine Or.inl ⟨by kernel_rfl, fun V hV => ?_⟩
          have q9 := hV.2.1; clear hV
          go_simp
        try simp only [Go.Act.put, List.setIfInBounds_toArray, List.set_cons_zero, List.set_cons_succ]
        refine wpAnyH_take (i := 2) (oi := ?oi2) (v := .int .i64 (lo : Nat)) ?hi2 (by kernel_rfl) (by kernel_rfl) (by kernel_rfl) ?hq2 ?hy2 hHeld ?rest2
        case hi2 => simp only [List.getElem?_toArray, List.getElem?_cons_succ, List.getElem?_cons_zero, Option.some.injEq]; rfl
        case hq2 => exact fun _ _ _ h => h
        case hy2 =>
          refine Or.inl ⟨by kernel_rfl, fun V hV => ?_⟩
          clear hV
          go_simp
        try simp only [Go.Act.put, List.setIfInBounds_toArray, List.set_cons_zero, List.set_cons_succ]
        refine wpAnyH_take (i := 3) (oi := ?oi3) (v := .int .i64 (k : Nat)) ?hi3 (by kernel_rfl) (by kernel_rfl) (by kernel_rfl) ?hq3 ?hy3 hHeld ?rest3
        case hi3 => simp only [List.getElem?_toArray, List.getElem?_cons_succ, List.getElem?_cons_zero, Option.some.injEq]; rfl
        case hq3 => exact fun _ _ _ h => h
        case hy3 =>
          refine Or.inl ⟨by kernel_rfl, fun V hV => ?_⟩
          clear hV
          go_simp
        try simp only [Go.Act.put, List.setIfInBounds_toArray, List.set_cons_zero, List.set_cons_succ]
        refine wpAnyH_take (i := 4) (oi := ?oi4) (v := .pointer (some ⟨b, off + k * 7, none⟩)) ?hi4 (by kernel_rfl) (by kernel_rfl) (by kernel_rfl) ?hq4 ?hy4 hHeld ?rest4
        case hi4 => simp only [List.getElem?_toArray, List.getElem?_cons_succ, List.getElem?_cons_zero, Option.some.injEq]; rfl
        case hq4 => exact fun _ _ _ h => h
        case hy4 =>
          refine Or.inl ⟨by kernel_rfl, fun V hV => ?_⟩
          clear hV
          go_simp
        try simp only [Go.Act.put, List.setIfInBounds_toArray, List.set_cons_zero, List.set_cons_succ]
        refine wpAnyH_take (i := 5) (oi := ?oi5) (v := .agg #[.int .i64 pt, .int .i64 px, .int .i64 py, .int .i64 pz, .int .i64 pp, .int .i64 pq, .int .i64 ps]) ?hi5 (by kernel_rfl) (by kernel_rfl) (by kernel_rfl) ?hq5 ?hy5 hHeld ?rest5
        case hi5 => simp only [List.getElem?_toArray, List.getElem?_cons_succ, List.getElem?_cons_zero, Option.some.injEq]; rfl
        case hq5 => exact fun _ _ _ h => h
        case hy5 =>
          refine Or.inl ⟨by kernel_rfl, fun V hV => ?_⟩
          have H7 := (HC.out V hV).1; obtain ⟨p0, p1, p2, p3, p4, p5, p6⟩ := H7; clear hV
          go_simp
        try simp only [Go.Act.put, List.setIfInBounds_toArray, List.set_cons_zero, List.set_cons_succ]
        refine wpAnyH_take (i := 6) (oi := ?oi6) (v := .pointer (some ⟨w.heap.size, 3, none⟩)) ?hi6 (by kernel_rfl) (by kernel_rfl) (by kernel_rfl) ?hq6 ?hy6 hHeld ?rest6
        case hi6 => simp only [List.getElem?_toArray, List.getElem?_cons_succ, List.getElem?_cons_zero, Option.some.injEq]; rfl
        case hq6 => exact fun _ _ _ h => h
        case hy6 =>
          refine Or.inl ⟨by kernel_rfl, fun V hV => ?_⟩
          clear hV
          go_simp
        try simp only [Go.Act.put, List.setIfInBounds_toArray, List.set_cons_zero, List.set_cons_succ]
        refine wpAnyH_take (i := 7) (oi := ?oi7) (v := .slice (some ⟨b, off, none⟩) ss.length sc) ?hi7 (by kernel_rfl) (by kernel_rfl) (by kernel_rfl) ?hq7 ?hy7 hHeld ?rest7
        case hi7 => simp only [List.getElem?_toArray, List.getElem?_cons_succ, List.getElem?_cons_zero, Option.some.injEq]; rfl
        case hq7 => exact fun _ _ _ h => h
        case hy7 =>
          refine Or.inl ⟨by kernel_rfl, fun V hV => ?_⟩
          have q9 := hV.2.1; clear hV
          go_simp
        try simp only [Go.Act.put, List.setIfInBounds_toArray, List.set_cons_zero, List.set_cons_succ]
        refine wpAnyH_take (i := 8) (oi := ?oi8) (v := .int .i64 (lo : Nat)) ?hi8 (by kernel_rfl) (by kernel_rfl) (by kernel_rfl) ?hq8 ?hy8 hHeld ?rest8
        case hi8 => simp only [List.getElem?_toArray, List.getElem?_cons_succ, List.getElem?_cons_zero, Option.some.injEq]; rfl
        case hq8 => exact fun _ _ _ h => h
        case hy8 =>
          refine Or.inl ⟨by kernel_rfl, fun V hV => ?_⟩
          clear hV
          go_simp
        try simp only [Go.Act.put, List.setIfInBounds_toArray, List.set_cons_zero, List.set_cons_succ]
        refine wpAnyH_take (i := 9) (oi := ?oi9) (v := .pointer (some ⟨b, off + lo * 7, none⟩)) ?hi9 (by kernel_rfl) (by kernel_rfl) (by kernel_rfl) ?hq9 ?hy9 hHeld ?rest9
        case hi9 => simp only [List.getElem?_toArray, List.getElem?_cons_succ, List.getElem?_cons_zero, Option.some.injEq]; rfl
        case hq9 => exact fun _ _ _ h => h
        case hy9 =>
          refine Or.inl ⟨by kernel_rfl, fun V hV => ?_⟩
          clear hV
          go_simp
        try simp only [Go.Act.put, List.setIfInBounds_toArray, List.set_cons_zero, List.set_cons_succ]
        refine wpAnyH_take (i := 10) (oi := ?oi10) (v := .agg #[.int .i64 qt, .int .i64 qx, .int .i64 qy, .int .i64 qz, .int .i64 qp, .int .i64 qq, .int .i64 qs]) ?hi10 (by kernel_rfl) (by kernel_rfl) (by kernel_rfl) ?hq10 ?hy10 hHeld ?rest10
        case hi10 => simp only [List.getElem?_toArray, List.getElem?_cons_succ, List.getElem?_cons_zero, Option.some.injEq]; rfl
        case hq10 => exact fun _ _ _ h => h
        case hy10 =>
          refine Or.inl ⟨by kernel_rfl, fun V hV => ?_⟩
          have H7 := (HC.out V hV).2; obtain ⟨q0, q1, q2, q3, q4, q5, q6⟩ := H7; clear hV
          go_simp
        try simp only [Go.Act.put, List.setIfInBounds_toArray, List.set_cons_zero, List.set_cons_succ]
        refine wpAnyH_take (i := 11) (oi := ?oi11) (v := .int .i64 s) ?hi11 (by kernel_rfl) (by kernel_rfl) (by kernel_rfl) ?hq11 ?hy11 hHeld ?rest11
        case hi11 => simp only [List.getElem?_toArray, List.getElem?_cons_succ, List.getElem?_cons_zero, Option.some.injEq]; rfl
        case hq11 => exact fun _ _ _ h => h
        case hy11 =>
          refine Or.inl ⟨by kernel_rfl, fun V hV => ?_⟩
          clear hV
          go_simp
        try simp only [Go.Act.put, List.setIfInBounds_toArray, List.set_cons_zero, List.set_cons_succ]
        refine wpAnyH_ready (rs := [12]) (by kernel_rfl) (by simp) ?_
        refine AllReadyH.cons rfl (fun K hK => ?_) AllReadyH.nil
        go_simp
        refine (KO.out _).mono ?_
        rintro e w5 ⟨rfl, hg5⟩
        refine hK.out _ _ ?_ (fun hHeld1 => ?_)
        · obtain ⟨h1, hb, c, h2, h3⟩ := hHeld
          exact ⟨grown_trans h1 hg5, grown_cell hg5 hb, c, h2, (hg5.block _ (lt_of_block h3) (by simp)).trans h3⟩
        clear hK K
        try simp only [Go.Act.put, List.setIfInBounds_toArray, List.set_cons_zero, List.set_cons_succ]
        refine wpAnyH_ready (rs := [13]) (by kernel_rfl) (by simp) ?_
        refine AllReadyH.cons rfl (fun K hK => ?_) AllReadyH.nil
        obtain ⟨g5, hb5, c, hc, hz⟩ := hHeld1
        have z0 := block_cell hz 0 _ (Array.getElem?_eq_getElem (show 0 < c.size from hc.symm ▸ (by decide : 0 < 7)))
        have y0 := block_free (k := 0) hz
        have z1 := block_cell hz 1 _ (Array.getElem?_eq_getElem (show 1 < c.size from hc.symm ▸ (by decide : 1 < 7)))
        have y1 := block_free (k := 1) hz
        have z2 := block_cell hz 2 _ (Array.getElem?_eq_getElem (show 2 < c.size from hc.symm ▸ (by decide : 2 < 7)))
        have y2 := block_free (k := 2) hz
        have z3 := block_cell hz 3 _ (Array.getElem?_eq_getElem (show 3 < c.size from hc.symm ▸ (by decide : 3 < 7)))
        have y3 := block_free (k := 3) hz
        have z4 := block_cell hz 4 _ (Array.getElem?_eq_getElem (show 4 < c.size from hc.symm ▸ (by decide : 4 < 7)))
        have y4 := block_free (k := 4) hz
        have z5 := block_cell hz 5 _ (Array.getElem?_eq_getElem (show 5 < c.size from hc.symm ▸ (by decide : 5 < 7)))
        have y5 := block_free (k := 5) hz
        have z6 := block_cell hz 6 _ (Array.getElem?_eq_getElem (show 6 < c.size from hc.symm ▸ (by decide : 6 < 7)))
        have y6 := block_free (k := 6) hz
        have G5 := Lib.hid g5; have HZ5 := Lib.hid hz; have HC7 := Lib.hid hc; have HB5 := Lib.hid hb5
        clear hHeld g5 hz hg5 hb5
        go_simp
        refine hK.out _ _ ⟨grown_far (grown_far (grown_far (grown_far (grown_far (grown_far (grown_far G5.out (by omega) _ _) (by omega) _ _) (by omega) _ _) (by omega) _ _) (by omega) _ _) (by omega) _ _) (by omega) _ _, ?_, _, ?_, block_set (block_set (block_set (block_set (block_set (block_set (block_set HZ5.out _) _) _) _) _) _) _⟩ (fun hHeld4 => ?_)
        · iterate 7 rw [World.cell?_setCell_other _ _ _ _ (fun e => by injection e with e; omega)]
          exact HB5.out
        · simpa using HC7.out
        refine wpAnyH_done (by kernel_rfl) ?_ _
        clear hK K
        have G6 := hHeld4.1
        clear hHeld4
        go_wp2_with fail
        refine bodyPost_ret (v := .agg #[.int .i64 x.t, .int .i64 x.x, .int .i64 x.y, .int .i64 x.z, .int .i64 x.p, .int .i64 x.q, .int .i64 x.s]) (by simp [results, Try.results61, go_sem, z0, z1, z2, z3, z4, z5, z6]) rfl ⟨rfl, G6⟩
end Go.Proofs.Ytjcdfgdnpmogoaa
namespace Go.Proofs.Ytjcdfgdnpmogoaa
open Go.RowKit

open Classical in
/-- The number of the first sample not before a second. -/
noncomputable def idxV (ss : List Smp) (s : Int) : Nat := if h : ∃ m, SIdx ss s m then Classical.choose h else 0
theorem idx_is {ss : List Smp} (h : SOk ss) (s : Int) : SIdx ss s (idxV ss s) := by
  unfold idxV; rw [dif_pos (sidx_any h s)]; exact Classical.choose_spec (sidx_any h s)
def smp0 : Smp := ⟨0, 0, 0, 0, 0, 0, 0⟩
/-- What At returns. -/
noncomputable def atO (a : Act) (s : Int) : Smp × Int := if chkE a = 0 then (if a.ss.length = 0 then (smp0, 13) else (if 0 ≤ s ∧ s ≤ spanL a.ss then (atV a.ss s (idxV a.ss s), 0) else (smp0, 9))) else (smp0, chkE a)
theorem span_last {ss : List Smp} (h : ss.length ≠ 0) : spanL ss = (smpD ss (ss.length - 1)).t := by
  rw [spanL_at (n := ss.length - 1) (by omega), ← smpD_at]
theorem idx_lt {ss : List Smp} (h : SOk ss) (hn : ss.length ≠ 0) {s : Int} (hs : s ≤ spanL ss) : idxV ss s < ss.length := by
  have q := idx_is h s
  rcases Nat.lt_or_ge (idxV ss s) ss.length with r | r
  · exact r
  · have := q.2.1 (ss.length - 1) (by omega)
    rw [span_last hn] at hs; omega
/-- The memory of At. -/
structure AtB (w : World) (A : Array Value) (W : World) : Prop where
  a : W.heap[w.heap.size]? = some (.cells A 26 (0, 0))
  z : W.heap[w.heap.size + 1]? = some (.cells #[.int .i64 0, .int .i64 0, .int .i64 0, .int .i64 0, .int .i64 0, .int .i64 0, .int .i64 0] 28 (0, 0))
  g : w.grownBy W none
theorem AtB.grown {w W W' : World} {A : Array Value} (h : AtB w A W) (hg : W.grownBy W' none) : AtB w A W' := by
  have k : ∀ {B : Nat} {o : Obj}, W.heap[B]? = some o → W'.heap[B]? = some o := fun {B o} h => (hg.block B (Array.getElem?_eq_some_iff.1 h).1 (by simp)).trans h
  exact ⟨k h.a, k h.z, grown_trans h.g hg⟩

set_option maxRecDepth 100000 in
set_option maxHeartbeats 3200000 in
theorem At_any (a : Act) (s : Int) (w : World) (ha : ActAt w a) {x : Smp} {E : Int} (hE : Hid (atO a s = (x, E))) :
    Calls Try.prog 15 #[a.val, .int .i64 s] w fun e w' => e = .returned (.tuple #[smpVal x, .int .i64 E]) ∧ w.grownBy w' none := by
  obtain ⟨ce, hce⟩ : ∃ e, chkE a = e := ⟨_, rfl⟩
  have hv := hE.out
  unfold atO at hv
  rw [hce] at hv
  have HCE := Lib.hid hce; have HA := Lib.hid ha
  by_cases c1 : ce = 0
  · rw [if_pos c1] at hv
    subst c1
    have hok := chk_ok hce
    by_cases c2 : a.ss.length = 0
    · rw [if_pos c2] at hv
      simp only [Prod.mk.injEq] at hv
      obtain ⟨rfl, rfl⟩ := hv
      obtain ⟨nm, sp, st, so, sc, ss, lo, lc, ls, to_, tc, ts⟩ := a
      simp only [Act.val] at *
      have C2 := Lib.hid c2
      clear hE hce hok ha c2
      have M0 : Hid (AtB w #[.string nm, .int .i64 sp, .int .i64 st, .slice so ss.length sc, .slice lo ls.length lc, .slice to_ ts.length tc] ((w.alloc (.cells #[.string nm, .int .i64 sp, .int .i64 st, .slice so ss.length sc, .slice lo ls.length lc, .slice to_ ts.length tc] 26)).alloc (.cells #[.int .i64 0, .int .i64 0, .int .i64 0, .int .i64 0, .int .i64 0, .int .i64 0, .int .i64 0] 28))) := by
        refine ⟨?_, ?_, grown_trans (World.grownBy_alloc _ _ none) (World.grownBy_alloc _ _ none)⟩
        · rw [Below.heap_alloc _ _ _ (by simp)]; exact heap_alloc_new w _
        · have := heap_alloc_new (w.alloc (.cells #[.string nm, .int .i64 sp, .int .i64 st, .slice so ss.length sc, .slice lo ls.length lc, .slice to_ ts.length tc] 26)) (.cells #[.int .i64 0, .int .i64 0, .int .i64 0, .int .i64 0, .int .i64 0, .int .i64 0, .int .i64 0] 28); simpa using this
      go_enter Try.func15, Try.ntmps15
      go_wp2_with fail
      refine (check_any ⟨nm, sp, st, so, sc, ss, lo, lc, ls, to_, tc, ts⟩ _ (HA.out.grown M0.out.g) HCE).mono ?_; rintro e w1 ⟨rfl, hg1⟩
      have M1 := Lib.hid (M0.out.grown hg1)
      clear hg1
      have hz : ((ss.length : Int) == 0) = true := beq_iff_eq.2 (by have := C2.out; omega)
      have z0 := block_cell M1.out.z 0 _ rfl
      have y0 := block_free (k := 0) M1.out.z
      have z1 := block_cell M1.out.z 1 _ rfl
      have y1 := block_free (k := 1) M1.out.z
      have z2 := block_cell M1.out.z 2 _ rfl
      have y2 := block_free (k := 2) M1.out.z
      have z3 := block_cell M1.out.z 3 _ rfl
      have y3 := block_free (k := 3) M1.out.z
      have z4 := block_cell M1.out.z 4 _ rfl
      have y4 := block_free (k := 4) M1.out.z
      have z5 := block_cell M1.out.z 5 _ rfl
      have y5 := block_free (k := 5) M1.out.z
      have z6 := block_cell M1.out.z 6 _ rfl
      have y6 := block_free (k := 6) M1.out.z
      have a0 := block_cell M1.out.a 0 _ rfl
      have a1 := block_cell M1.out.a 1 _ rfl
      have a2 := block_cell M1.out.a 2 _ rfl
      have a3 := block_cell M1.out.a 3 _ rfl
      have a4 := block_cell M1.out.a 4 _ rfl
      have a5 := block_cell M1.out.a 5 _ rfl
      go_wp2_with fail
      refine bodyPost_ret (v := .tuple #[.agg #[.int .i64 0, .int .i64 0, .int .i64 0, .int .i64 0, .int .i64 0, .int .i64 0, .int .i64 0], .int .i64 13]) (by simp [results, Try.results15, go_sem, z0, z1, z2, z3, z4, z5, z6]) rfl ⟨by first | rfl | (unfold smpVal; rfl), ?_⟩
      exact grown_far (grown_far (grown_far (grown_far (grown_far (grown_far (grown_far M1.out.g (by omega) _ _) (by omega) _ _) (by omega) _ _) (by omega) _ _) (by omega) _ _) (by omega) _ _) (by omega) _ _
    · rw [if_neg c2] at hv
      have hl : (a.ss.length : Int) ≤ 20000 := hok.sl
      have HS := Lib.hid (sok_of hok)
      obtain ⟨sv, hsv⟩ : ∃ e, spanL a.ss = e := ⟨_, rfl⟩
      have HSV := Lib.hid hsv
      by_cases c3 : 0 ≤ s ∧ s ≤ spanL a.ss
      · rw [if_pos c3] at hv
        simp only [Prod.mk.injEq] at hv
        obtain ⟨hx, rfl⟩ := hv
        have HX := Lib.hid hx
        have HM := Lib.hid (idx_is HS.out s)
        have hml := idx_lt HS.out c2 c3.2
        have hs0 := c3.1
        have hs1 := c3.2
        rw [hsv] at hs1
        obtain ⟨nm, sp, st, so, sc, ss, lo, lc, ls, to_, tc, ts⟩ := a
        simp only [Act.val] at *
        obtain ⟨b, off, rfl⟩ : ∃ b off, so = some ⟨b, off, none⟩ := by
          have hne : ss ≠ [] := fun h => c2 (by rw [h]; rfl)
          cases so with
          | none => exact absurd (ha.hs.nil rfl) hne
          | some p =>
            obtain ⟨b, off, spot⟩ := p
            have hsp := ha.hs.spot _ rfl hne
            simp only at hsp
            subst hsp
            exact ⟨b, off, rfl⟩
        have hz : ((ss.length : Int) == 0) = false := beq_eq_false_iff_ne.2 (by omega)
        clear hE hce hok ha hx hsv c3
        have M0 : Hid (AtB w #[.string nm, .int .i64 sp, .int .i64 st, .slice (some ⟨b, off, none⟩) ss.length sc, .slice lo ls.length lc, .slice to_ ts.length tc] ((w.alloc (.cells #[.string nm, .int .i64 sp, .int .i64 st, .slice (some ⟨b, off, none⟩) ss.length sc, .slice lo ls.length lc, .slice to_ ts.length tc] 26)).alloc (.cells #[.int .i64 0, .int .i64 0, .int .i64 0, .int .i64 0, .int .i64 0, .int .i64 0, .int .i64 0] 28))) := by
          refine ⟨?_, ?_, grown_trans (World.grownBy_alloc _ _ none) (World.grownBy_alloc _ _ none)⟩
          · rw [Below.heap_alloc _ _ _ (by simp)]; exact heap_alloc_new w _
          · have := heap_alloc_new (w.alloc (.cells #[.string nm, .int .i64 sp, .int .i64 st, .slice (some ⟨b, off, none⟩) ss.length sc, .slice lo ls.length lc, .slice to_ ts.length tc] 26)) (.cells #[.int .i64 0, .int .i64 0, .int .i64 0, .int .i64 0, .int .i64 0, .int .i64 0, .int .i64 0] 28); simpa using this
        go_enter Try.func15, Try.ntmps15
        go_wp2_with fail
        refine (check_any ⟨nm, sp, st, some ⟨b, off, none⟩, sc, ss, lo, lc, ls, to_, tc, ts⟩ _ (HA.out.grown M0.out.g) HCE).mono ?_; rintro e w1 ⟨rfl, hg1⟩
        have M1 := Lib.hid (M0.out.grown hg1)
        clear hg1
        have a0 := block_cell M1.out.a 0 _ rfl
        have a1 := block_cell M1.out.a 1 _ rfl
        have a2 := block_cell M1.out.a 2 _ rfl
        have a3 := block_cell M1.out.a 3 _ rfl
        have a4 := block_cell M1.out.a 4 _ rfl
        have a5 := block_cell M1.out.a 5 _ rfl
        go_wp2_with fail
        refine (span_any ⟨nm, sp, st, some ⟨b, off, none⟩, sc, ss, lo, lc, ls, to_, tc, ts⟩ (by show (ss.length : Int) ≤ _; omega) _ (HA.out.hs.grown M1.out.g) HSV).mono ?_; rintro e w2 ⟨rfl, hg2⟩
        have M2 := Lib.hid (M1.out.grown hg2)
        clear hg2 a0 a1 a2 a3 a4 a5
        go_wp2_with fail
        refine (twithin_yes _ _ _ hs0 hs1 _).mono ?_; rintro e w3 ⟨rfl, rfl⟩
        have M3 := M2
        have a0 := block_cell M3.out.a 0 _ rfl
        have a1 := block_cell M3.out.a 1 _ rfl
        have a2 := block_cell M3.out.a 2 _ rfl
        have a3 := block_cell M3.out.a 3 _ rfl
        have a4 := block_cell M3.out.a 4 _ rfl
        have a5 := block_cell M3.out.a 5 _ rfl
        go_wp2_with fail
        refine (sampleAt_is b off sc ss HS s HM hml hs0 _ (HA.out.hs.grown M3.out.g) HX).mono ?_; rintro e w4 ⟨rfl, hg4⟩
        have M4 := Lib.hid (M3.out.grown hg4)
        clear hg4 a0 a1 a2 a3 a4 a5
        have z0 := block_cell M4.out.z 0 _ rfl
        have y0 := block_free (k := 0) M4.out.z
        have z1 := block_cell M4.out.z 1 _ rfl
        have y1 := block_free (k := 1) M4.out.z
        have z2 := block_cell M4.out.z 2 _ rfl
        have y2 := block_free (k := 2) M4.out.z
        have z3 := block_cell M4.out.z 3 _ rfl
        have y3 := block_free (k := 3) M4.out.z
        have z4 := block_cell M4.out.z 4 _ rfl
        have y4 := block_free (k := 4) M4.out.z
        have z5 := block_cell M4.out.z 5 _ rfl
        have y5 := block_free (k := 5) M4.out.z
        have z6 := block_cell M4.out.z 6 _ rfl
        have y6 := block_free (k := 6) M4.out.z
        unfold smpVal
        go_wp2_with fail
        refine bodyPost_ret (v := .tuple #[.agg #[.int .i64 x.t, .int .i64 x.x, .int .i64 x.y, .int .i64 x.z, .int .i64 x.p, .int .i64 x.q, .int .i64 x.s], .int .i64 0]) (by simp [results, Try.results15, go_sem, z0, z1, z2, z3, z4, z5, z6]) rfl ⟨by first | rfl | (unfold smpVal; rfl), ?_⟩
        exact grown_far (grown_far (grown_far (grown_far (grown_far (grown_far (grown_far M4.out.g (by omega) _ _) (by omega) _ _) (by omega) _ _) (by omega) _ _) (by omega) _ _) (by omega) _ _) (by omega) _ _
      · rw [if_neg c3] at hv
        simp only [Prod.mk.injEq] at hv
        obtain ⟨rfl, rfl⟩ := hv
        have C3 : Hid (s < 0 ∨ sv < s) := by rw [hsv] at c3; show _ ∨ _; omega
        obtain ⟨nm, sp, st, so, sc, ss, lo, lc, ls, to_, tc, ts⟩ := a
        simp only [Act.val] at *
        have hz : ((ss.length : Int) == 0) = false := beq_eq_false_iff_ne.2 (by omega)
        clear hE hce hok ha hsv c3
        have M0 : Hid (AtB w #[.string nm, .int .i64 sp, .int .i64 st, .slice so ss.length sc, .slice lo ls.length lc, .slice to_ ts.length tc] ((w.alloc (.cells #[.string nm, .int .i64 sp, .int .i64 st, .slice so ss.length sc, .slice lo ls.length lc, .slice to_ ts.length tc] 26)).alloc (.cells #[.int .i64 0, .int .i64 0, .int .i64 0, .int .i64 0, .int .i64 0, .int .i64 0, .int .i64 0] 28))) := by
          refine ⟨?_, ?_, grown_trans (World.grownBy_alloc _ _ none) (World.grownBy_alloc _ _ none)⟩
          · rw [Below.heap_alloc _ _ _ (by simp)]; exact heap_alloc_new w _
          · have := heap_alloc_new (w.alloc (.cells #[.string nm, .int .i64 sp, .int .i64 st, .slice so ss.length sc, .slice lo ls.length lc, .slice to_ ts.length tc] 26)) (.cells #[.int .i64 0, .int .i64 0, .int .i64 0, .int .i64 0, .int .i64 0, .int .i64 0, .int .i64 0] 28); simpa using this
        go_enter Try.func15, Try.ntmps15
        go_wp2_with fail
        refine (check_any ⟨nm, sp, st, so, sc, ss, lo, lc, ls, to_, tc, ts⟩ _ (HA.out.grown M0.out.g) HCE).mono ?_; rintro e w1 ⟨rfl, hg1⟩
        have M1 := Lib.hid (M0.out.grown hg1)
        clear hg1
        have a0 := block_cell M1.out.a 0 _ rfl
        have a1 := block_cell M1.out.a 1 _ rfl
        have a2 := block_cell M1.out.a 2 _ rfl
        have a3 := block_cell M1.out.a 3 _ rfl
        have a4 := block_cell M1.out.a 4 _ rfl
        have a5 := block_cell M1.out.a 5 _ rfl
        go_wp2_with fail
        refine (span_any ⟨nm, sp, st, so, sc, ss, lo, lc, ls, to_, tc, ts⟩ (by show (ss.length : Int) ≤ _; omega) _ (HA.out.hs.grown M1.out.g) HSV).mono ?_; rintro e w2 ⟨rfl, hg2⟩
        have M2 := Lib.hid (M1.out.grown hg2)
        clear hg2 a0 a1 a2 a3 a4 a5
        go_wp2_with fail
        refine (twithin_no _ _ _ C3.out _).mono ?_; rintro e w3 ⟨rfl, rfl⟩
        have z0 := block_cell M2.out.z 0 _ rfl
        have y0 := block_free (k := 0) M2.out.z
        have z1 := block_cell M2.out.z 1 _ rfl
        have y1 := block_free (k := 1) M2.out.z
        have z2 := block_cell M2.out.z 2 _ rfl
        have y2 := block_free (k := 2) M2.out.z
        have z3 := block_cell M2.out.z 3 _ rfl
        have y3 := block_free (k := 3) M2.out.z
        have z4 := block_cell M2.out.z 4 _ rfl
        have y4 := block_free (k := 4) M2.out.z
        have z5 := block_cell M2.out.z 5 _ rfl
        have y5 := block_free (k := 5) M2.out.z
        have z6 := block_cell M2.out.z 6 _ rfl
        have y6 := block_free (k := 6) M2.out.z
        go_wp2_with fail
        refine bodyPost_ret (v := .tuple #[.agg #[.int .i64 0, .int .i64 0, .int .i64 0, .int .i64 0, .int .i64 0, .int .i64 0, .int .i64 0], .int .i64 9]) (by simp [results, Try.results15, go_sem, z0, z1, z2, z3, z4, z5, z6]) rfl ⟨by first | rfl | (unfold smpVal; rfl), ?_⟩
        exact grown_far (grown_far (grown_far (grown_far (grown_far (grown_far (grown_far M2.out.g (by omega) _ _) (by omega) _ _) (by omega) _ _) (by omega) _ _) (by omega) _ _) (by omega) _ _) (by omega) _ _
  · rw [if_neg c1] at hv
    simp only [Prod.mk.injEq] at hv
    obtain ⟨rfl, rfl⟩ := hv
    have hne : (ce != 0) = true := by simpa using c1
    obtain ⟨nm, sp, st, so, sc, ss, lo, lc, ls, to_, tc, ts⟩ := a
    simp only [Act.val] at *
    clear hE hce ha c1
    have M0 : Hid (AtB w #[.string nm, .int .i64 sp, .int .i64 st, .slice so ss.length sc, .slice lo ls.length lc, .slice to_ ts.length tc] ((w.alloc (.cells #[.string nm, .int .i64 sp, .int .i64 st, .slice so ss.length sc, .slice lo ls.length lc, .slice to_ ts.length tc] 26)).alloc (.cells #[.int .i64 0, .int .i64 0, .int .i64 0, .int .i64 0, .int .i64 0, .int .i64 0, .int .i64 0] 28))) := by
      refine ⟨?_, ?_, grown_trans (World.grownBy_alloc _ _ none) (World.grownBy_alloc _ _ none)⟩
      · rw [Below.heap_alloc _ _ _ (by simp)]; exact heap_alloc_new w _
      · have := heap_alloc_new (w.alloc (.cells #[.string nm, .int .i64 sp, .int .i64 st, .slice so ss.length sc, .slice lo ls.length lc, .slice to_ ts.length tc] 26)) (.cells #[.int .i64 0, .int .i64 0, .int .i64 0, .int .i64 0, .int .i64 0, .int .i64 0, .int .i64 0] 28); simpa using this
    go_enter Try.func15, Try.ntmps15
    go_wp2_with fail
    refine (check_any ⟨nm, sp, st, so, sc, ss, lo, lc, ls, to_, tc, ts⟩ _ (HA.out.grown M0.out.g) HCE).mono ?_; rintro e w1 ⟨rfl, hg1⟩
    have M1 := Lib.hid (M0.out.grown hg1)
    clear hg1
    have z0 := block_cell M1.out.z 0 _ rfl
    have y0 := block_free (k := 0) M1.out.z
    have z1 := block_cell M1.out.z 1 _ rfl
    have y1 := block_free (k := 1) M1.out.z
    have z2 := block_cell M1.out.z 2 _ rfl
    have y2 := block_free (k := 2) M1.out.z
    have z3 := block_cell M1.out.z 3 _ rfl
    have y3 := block_free (k := 3) M1.out.z
    have z4 := block_cell M1.out.z 4 _ rfl
    have y4 := block_free (k := 4) M1.out.z
    have z5 := block_cell M1.out.z 5 _ rfl
    have y5 := block_free (k := 5) M1.out.z
    have z6 := block_cell M1.out.z 6 _ rfl
    have y6 := block_free (k := 6) M1.out.z
    go_wp2_with fail
    refine bodyPost_ret (v := .tuple #[.agg #[.int .i64 0, .int .i64 0, .int .i64 0, .int .i64 0, .int .i64 0, .int .i64 0, .int .i64 0], .int .i64 ce]) (by simp [results, Try.results15, go_sem, z0, z1, z2, z3, z4, z5, z6]) rfl ⟨by first | rfl | (unfold smpVal; rfl), ?_⟩
    exact grown_far (grown_far (grown_far (grown_far (grown_far (grown_far (grown_far M1.out.g (by omega) _ _) (by omega) _ _) (by omega) _ _) (by omega) _ _) (by omega) _ _) (by omega) _ _) (by omega) _ _

set_option maxRecDepth 100000 in
set_option maxHeartbeats 3200000 in
theorem rAt_any (a : Act) (s : Int) (w : World) (ha : ActAt w a) {x : Smp} {E : Int} (hE : Hid (atO a s = (x, E))) :
    Calls Try.prog 16 #[a.val, .int .i64 s] w fun e w' => e = .returned (.tuple #[smpVal x, .int .i64 E]) ∧ w.grownBy w' none := by
  obtain ⟨ce, hce⟩ : ∃ e, chkE a = e := ⟨_, rfl⟩
  have hv := hE.out
  unfold atO at hv
  rw [hce] at hv
  have HCE := Lib.hid hce; have HA := Lib.hid ha
  by_cases c1 : ce = 0
  · rw [if_pos c1] at hv
    subst c1
    have hok := chk_ok hce
    by_cases c2 : a.ss.length = 0
    · rw [if_pos c2] at hv
      simp only [Prod.mk.injEq] at hv
      obtain ⟨rfl, rfl⟩ := hv
      obtain ⟨nm, sp, st, so, sc, ss, lo, lc, ls, to_, tc, ts⟩ := a
      simp only [Act.val] at *
      have C2 := Lib.hid c2
      clear hE hce hok ha c2
      have M0 : Hid (AtB w #[.string nm, .int .i64 sp, .int .i64 st, .slice so ss.length sc, .slice lo ls.length lc, .slice to_ ts.length tc] ((w.alloc (.cells #[.string nm, .int .i64 sp, .int .i64 st, .slice so ss.length sc, .slice lo ls.length lc, .slice to_ ts.length tc] 26)).alloc (.cells #[.int .i64 0, .int .i64 0, .int .i64 0, .int .i64 0, .int .i64 0, .int .i64 0, .int .i64 0] 28))) := by
        refine ⟨?_, ?_, grown_trans (World.grownBy_alloc _ _ none) (World.grownBy_alloc _ _ none)⟩
        · rw [Below.heap_alloc _ _ _ (by simp)]; exact heap_alloc_new w _
        · have := heap_alloc_new (w.alloc (.cells #[.string nm, .int .i64 sp, .int .i64 st, .slice so ss.length sc, .slice lo ls.length lc, .slice to_ ts.length tc] 26)) (.cells #[.int .i64 0, .int .i64 0, .int .i64 0, .int .i64 0, .int .i64 0, .int .i64 0, .int .i64 0] 28); simpa using this
      go_enter Try.func16, Try.ntmps16
      go_wp2_with fail
      refine (rcheck_any ⟨nm, sp, st, so, sc, ss, lo, lc, ls, to_, tc, ts⟩ _ (HA.out.grown M0.out.g) HCE).mono ?_; rintro e w1 ⟨rfl, hg1⟩
      have M1 := Lib.hid (M0.out.grown hg1)
      clear hg1
      have hz : ((ss.length : Int) == 0) = true := beq_iff_eq.2 (by have := C2.out; omega)
      have z0 := block_cell M1.out.z 0 _ rfl
      have y0 := block_free (k := 0) M1.out.z
      have z1 := block_cell M1.out.z 1 _ rfl
      have y1 := block_free (k := 1) M1.out.z
      have z2 := block_cell M1.out.z 2 _ rfl
      have y2 := block_free (k := 2) M1.out.z
      have z3 := block_cell M1.out.z 3 _ rfl
      have y3 := block_free (k := 3) M1.out.z
      have z4 := block_cell M1.out.z 4 _ rfl
      have y4 := block_free (k := 4) M1.out.z
      have z5 := block_cell M1.out.z 5 _ rfl
      have y5 := block_free (k := 5) M1.out.z
      have z6 := block_cell M1.out.z 6 _ rfl
      have y6 := block_free (k := 6) M1.out.z
      have a0 := block_cell M1.out.a 0 _ rfl
      have a1 := block_cell M1.out.a 1 _ rfl
      have a2 := block_cell M1.out.a 2 _ rfl
      have a3 := block_cell M1.out.a 3 _ rfl
      have a4 := block_cell M1.out.a 4 _ rfl
      have a5 := block_cell M1.out.a 5 _ rfl
      go_wp2_with fail
      refine bodyPost_ret (v := .tuple #[.agg #[.int .i64 0, .int .i64 0, .int .i64 0, .int .i64 0, .int .i64 0, .int .i64 0, .int .i64 0], .int .i64 13]) (by simp [results, Try.results16, go_sem, z0, z1, z2, z3, z4, z5, z6]) rfl ⟨by first | rfl | (unfold smpVal; rfl), ?_⟩
      exact grown_far (grown_far (grown_far (grown_far (grown_far (grown_far (grown_far M1.out.g (by omega) _ _) (by omega) _ _) (by omega) _ _) (by omega) _ _) (by omega) _ _) (by omega) _ _) (by omega) _ _
    · rw [if_neg c2] at hv
      have hl : (a.ss.length : Int) ≤ 20000 := hok.sl
      have HS := Lib.hid (sok_of hok)
      obtain ⟨sv, hsv⟩ : ∃ e, spanL a.ss = e := ⟨_, rfl⟩
      have HSV := Lib.hid hsv
      by_cases c3 : 0 ≤ s ∧ s ≤ spanL a.ss
      · rw [if_pos c3] at hv
        simp only [Prod.mk.injEq] at hv
        obtain ⟨hx, rfl⟩ := hv
        have HX := Lib.hid hx
        have HM := Lib.hid (idx_is HS.out s)
        have hml := idx_lt HS.out c2 c3.2
        have hs0 := c3.1
        have hs1 := c3.2
        rw [hsv] at hs1
        obtain ⟨nm, sp, st, so, sc, ss, lo, lc, ls, to_, tc, ts⟩ := a
        simp only [Act.val] at *
        obtain ⟨b, off, rfl⟩ : ∃ b off, so = some ⟨b, off, none⟩ := by
          have hne : ss ≠ [] := fun h => c2 (by rw [h]; rfl)
          cases so with
          | none => exact absurd (ha.hs.nil rfl) hne
          | some p =>
            obtain ⟨b, off, spot⟩ := p
            have hsp := ha.hs.spot _ rfl hne
            simp only at hsp
            subst hsp
            exact ⟨b, off, rfl⟩
        have hz : ((ss.length : Int) == 0) = false := beq_eq_false_iff_ne.2 (by omega)
        clear hE hce hok ha hx hsv c3
        have M0 : Hid (AtB w #[.string nm, .int .i64 sp, .int .i64 st, .slice (some ⟨b, off, none⟩) ss.length sc, .slice lo ls.length lc, .slice to_ ts.length tc] ((w.alloc (.cells #[.string nm, .int .i64 sp, .int .i64 st, .slice (some ⟨b, off, none⟩) ss.length sc, .slice lo ls.length lc, .slice to_ ts.length tc] 26)).alloc (.cells #[.int .i64 0, .int .i64 0, .int .i64 0, .int .i64 0, .int .i64 0, .int .i64 0, .int .i64 0] 28))) := by
          refine ⟨?_, ?_, grown_trans (World.grownBy_alloc _ _ none) (World.grownBy_alloc _ _ none)⟩
          · rw [Below.heap_alloc _ _ _ (by simp)]; exact heap_alloc_new w _
          · have := heap_alloc_new (w.alloc (.cells #[.string nm, .int .i64 sp, .int .i64 st, .slice (some ⟨b, off, none⟩) ss.length sc, .slice lo ls.length lc, .slice to_ ts.length tc] 26)) (.cells #[.int .i64 0, .int .i64 0, .int .i64 0, .int .i64 0, .int .i64 0, .int .i64 0, .int .i64 0] 28); simpa using this
        go_enter Try.func16, Try.ntmps16
        go_wp2_with fail
        refine (rcheck_any ⟨nm, sp, st, some ⟨b, off, none⟩, sc, ss, lo, lc, ls, to_, tc, ts⟩ _ (HA.out.grown M0.out.g) HCE).mono ?_; rintro e w1 ⟨rfl, hg1⟩
        have M1 := Lib.hid (M0.out.grown hg1)
        clear hg1
        have a0 := block_cell M1.out.a 0 _ rfl
        have a1 := block_cell M1.out.a 1 _ rfl
        have a2 := block_cell M1.out.a 2 _ rfl
        have a3 := block_cell M1.out.a 3 _ rfl
        have a4 := block_cell M1.out.a 4 _ rfl
        have a5 := block_cell M1.out.a 5 _ rfl
        go_wp2_with fail
        refine (rspan_any ⟨nm, sp, st, some ⟨b, off, none⟩, sc, ss, lo, lc, ls, to_, tc, ts⟩ (by show (ss.length : Int) ≤ _; omega) _ (HA.out.hs.grown M1.out.g) HSV).mono ?_; rintro e w2 ⟨rfl, hg2⟩
        have M2 := Lib.hid (M1.out.grown hg2)
        clear hg2 a0 a1 a2 a3 a4 a5
        go_wp2_with fail
        refine (rout_no _ _ _ hs0 hs1 _).mono ?_; rintro e w3 ⟨rfl, rfl⟩
        have M3 := M2
        have a0 := block_cell M3.out.a 0 _ rfl
        have a1 := block_cell M3.out.a 1 _ rfl
        have a2 := block_cell M3.out.a 2 _ rfl
        have a3 := block_cell M3.out.a 3 _ rfl
        have a4 := block_cell M3.out.a 4 _ rfl
        have a5 := block_cell M3.out.a 5 _ rfl
        go_wp2_with fail
        refine (where_is nm sp st b off sc ss lo lc ls to_ tc ts HS s HM hml hs0 _ (HA.out.hs.grown M3.out.g) HX).mono ?_; rintro e w4 ⟨rfl, hg4⟩
        have M4 := Lib.hid (M3.out.grown hg4)
        clear hg4 a0 a1 a2 a3 a4 a5
        have z0 := block_cell M4.out.z 0 _ rfl
        have y0 := block_free (k := 0) M4.out.z
        have z1 := block_cell M4.out.z 1 _ rfl
        have y1 := block_free (k := 1) M4.out.z
        have z2 := block_cell M4.out.z 2 _ rfl
        have y2 := block_free (k := 2) M4.out.z
        have z3 := block_cell M4.out.z 3 _ rfl
        have y3 := block_free (k := 3) M4.out.z
        have z4 := block_cell M4.out.z 4 _ rfl
        have y4 := block_free (k := 4) M4.out.z
        have z5 := block_cell M4.out.z 5 _ rfl
        have y5 := block_free (k := 5) M4.out.z
        have z6 := block_cell M4.out.z 6 _ rfl
        have y6 := block_free (k := 6) M4.out.z
        unfold smpVal
        go_wp2_with fail
        refine bodyPost_ret (v := .tuple #[.agg #[.int .i64 x.t, .int .i64 x.x, .int .i64 x.y, .int .i64 x.z, .int .i64 x.p, .int .i64 x.q, .int .i64 x.s], .int .i64 0]) (by simp [results, Try.results16, go_sem, z0, z1, z2, z3, z4, z5, z6]) rfl ⟨by first | rfl | (unfold smpVal; rfl), ?_⟩
        exact grown_far (grown_far (grown_far (grown_far (grown_far (grown_far (grown_far M4.out.g (by omega) _ _) (by omega) _ _) (by omega) _ _) (by omega) _ _) (by omega) _ _) (by omega) _ _) (by omega) _ _
      · rw [if_neg c3] at hv
        simp only [Prod.mk.injEq] at hv
        obtain ⟨rfl, rfl⟩ := hv
        have C3 : Hid (s < 0 ∨ sv < s) := by rw [hsv] at c3; show _ ∨ _; omega
        obtain ⟨nm, sp, st, so, sc, ss, lo, lc, ls, to_, tc, ts⟩ := a
        simp only [Act.val] at *
        have hz : ((ss.length : Int) == 0) = false := beq_eq_false_iff_ne.2 (by omega)
        clear hE hce hok ha hsv c3
        have M0 : Hid (AtB w #[.string nm, .int .i64 sp, .int .i64 st, .slice so ss.length sc, .slice lo ls.length lc, .slice to_ ts.length tc] ((w.alloc (.cells #[.string nm, .int .i64 sp, .int .i64 st, .slice so ss.length sc, .slice lo ls.length lc, .slice to_ ts.length tc] 26)).alloc (.cells #[.int .i64 0, .int .i64 0, .int .i64 0, .int .i64 0, .int .i64 0, .int .i64 0, .int .i64 0] 28))) := by
          refine ⟨?_, ?_, grown_trans (World.grownBy_alloc _ _ none) (World.grownBy_alloc _ _ none)⟩
          · rw [Below.heap_alloc _ _ _ (by simp)]; exact heap_alloc_new w _
          · have := heap_alloc_new (w.alloc (.cells #[.string nm, .int .i64 sp, .int .i64 st, .slice so ss.length sc, .slice lo ls.length lc, .slice to_ ts.length tc] 26)) (.cells #[.int .i64 0, .int .i64 0, .int .i64 0, .int .i64 0, .int .i64 0, .int .i64 0, .int .i64 0] 28); simpa using this
        go_enter Try.func16, Try.ntmps16
        go_wp2_with fail
        refine (rcheck_any ⟨nm, sp, st, so, sc, ss, lo, lc, ls, to_, tc, ts⟩ _ (HA.out.grown M0.out.g) HCE).mono ?_; rintro e w1 ⟨rfl, hg1⟩
        have M1 := Lib.hid (M0.out.grown hg1)
        clear hg1
        have a0 := block_cell M1.out.a 0 _ rfl
        have a1 := block_cell M1.out.a 1 _ rfl
        have a2 := block_cell M1.out.a 2 _ rfl
        have a3 := block_cell M1.out.a 3 _ rfl
        have a4 := block_cell M1.out.a 4 _ rfl
        have a5 := block_cell M1.out.a 5 _ rfl
        go_wp2_with fail
        refine (rspan_any ⟨nm, sp, st, so, sc, ss, lo, lc, ls, to_, tc, ts⟩ (by show (ss.length : Int) ≤ _; omega) _ (HA.out.hs.grown M1.out.g) HSV).mono ?_; rintro e w2 ⟨rfl, hg2⟩
        have M2 := Lib.hid (M1.out.grown hg2)
        clear hg2 a0 a1 a2 a3 a4 a5
        go_wp2_with fail
        refine (rout_yes _ _ _ C3.out _).mono ?_; rintro e w3 ⟨rfl, rfl⟩
        have z0 := block_cell M2.out.z 0 _ rfl
        have y0 := block_free (k := 0) M2.out.z
        have z1 := block_cell M2.out.z 1 _ rfl
        have y1 := block_free (k := 1) M2.out.z
        have z2 := block_cell M2.out.z 2 _ rfl
        have y2 := block_free (k := 2) M2.out.z
        have z3 := block_cell M2.out.z 3 _ rfl
        have y3 := block_free (k := 3) M2.out.z
        have z4 := block_cell M2.out.z 4 _ rfl
        have y4 := block_free (k := 4) M2.out.z
        have z5 := block_cell M2.out.z 5 _ rfl
        have y5 := block_free (k := 5) M2.out.z
        have z6 := block_cell M2.out.z 6 _ rfl
        have y6 := block_free (k := 6) M2.out.z
        go_wp2_with fail
        refine bodyPost_ret (v := .tuple #[.agg #[.int .i64 0, .int .i64 0, .int .i64 0, .int .i64 0, .int .i64 0, .int .i64 0, .int .i64 0], .int .i64 9]) (by simp [results, Try.results16, go_sem, z0, z1, z2, z3, z4, z5, z6]) rfl ⟨by first | rfl | (unfold smpVal; rfl), ?_⟩
        exact grown_far (grown_far (grown_far (grown_far (grown_far (grown_far (grown_far M2.out.g (by omega) _ _) (by omega) _ _) (by omega) _ _) (by omega) _ _) (by omega) _ _) (by omega) _ _) (by omega) _ _
  · rw [if_neg c1] at hv
    simp only [Prod.mk.injEq] at hv
    obtain ⟨rfl, rfl⟩ := hv
    have hne : (ce != 0) = true := by simpa using c1
    obtain ⟨nm, sp, st, so, sc, ss, lo, lc, ls, to_, tc, ts⟩ := a
    simp only [Act.val] at *
    clear hE hce ha c1
    have M0 : Hid (AtB w #[.string nm, .int .i64 sp, .int .i64 st, .slice so ss.length sc, .slice lo ls.length lc, .slice to_ ts.length tc] ((w.alloc (.cells #[.string nm, .int .i64 sp, .int .i64 st, .slice so ss.length sc, .slice lo ls.length lc, .slice to_ ts.length tc] 26)).alloc (.cells #[.int .i64 0, .int .i64 0, .int .i64 0, .int .i64 0, .int .i64 0, .int .i64 0, .int .i64 0] 28))) := by
      refine ⟨?_, ?_, grown_trans (World.grownBy_alloc _ _ none) (World.grownBy_alloc _ _ none)⟩
      · rw [Below.heap_alloc _ _ _ (by simp)]; exact heap_alloc_new w _
      · have := heap_alloc_new (w.alloc (.cells #[.string nm, .int .i64 sp, .int .i64 st, .slice so ss.length sc, .slice lo ls.length lc, .slice to_ ts.length tc] 26)) (.cells #[.int .i64 0, .int .i64 0, .int .i64 0, .int .i64 0, .int .i64 0, .int .i64 0, .int .i64 0] 28); simpa using this
    go_enter Try.func16, Try.ntmps16
    go_wp2_with fail
    refine (rcheck_any ⟨nm, sp, st, so, sc, ss, lo, lc, ls, to_, tc, ts⟩ _ (HA.out.grown M0.out.g) HCE).mono ?_; rintro e w1 ⟨rfl, hg1⟩
    have M1 := Lib.hid (M0.out.grown hg1)
    clear hg1
    have z0 := block_cell M1.out.z 0 _ rfl
    have y0 := block_free (k := 0) M1.out.z
    have z1 := block_cell M1.out.z 1 _ rfl
    have y1 := block_free (k := 1) M1.out.z
    have z2 := block_cell M1.out.z 2 _ rfl
    have y2 := block_free (k := 2) M1.out.z
    have z3 := block_cell M1.out.z 3 _ rfl
    have y3 := block_free (k := 3) M1.out.z
    have z4 := block_cell M1.out.z 4 _ rfl
    have y4 := block_free (k := 4) M1.out.z
    have z5 := block_cell M1.out.z 5 _ rfl
    have y5 := block_free (k := 5) M1.out.z
    have z6 := block_cell M1.out.z 6 _ rfl
    have y6 := block_free (k := 6) M1.out.z
    go_wp2_with fail
    refine bodyPost_ret (v := .tuple #[.agg #[.int .i64 0, .int .i64 0, .int .i64 0, .int .i64 0, .int .i64 0, .int .i64 0, .int .i64 0], .int .i64 ce]) (by simp [results, Try.results16, go_sem, z0, z1, z2, z3, z4, z5, z6]) rfl ⟨by first | rfl | (unfold smpVal; rfl), ?_⟩
    exact grown_far (grown_far (grown_far (grown_far (grown_far (grown_far (grown_far M1.out.g (by omega) _ _) (by omega) _ _) (by omega) _ _) (by omega) _ _) (by omega) _ _) (by omega) _ _) (by omega) _ _

end Go.Proofs.Ytjcdfgdnpmogoaa
namespace Go.Proofs.Ytjcdfgdnpmogoaa
open Go.RowKit

/-- Where somebody was at a second. -/
noncomputable def sampV (ss : List Smp) (s : Int) : Smp := atV ss s (idxV ss s)
def cntR (sp step : Int) : Nat := ((sp + step - 1) / step).toNat
noncomputable def resK (ss : List Smp) (step : Int) (k : Nat) : List Smp := (List.range k).map fun (j : Nat) => sampV ss ((j : Int) * step)
theorem resK_zero (ss : List Smp) (step : Int) : resK ss step 0 = [] := rfl
theorem resK_succ (ss : List Smp) (step : Int) (k : Nat) : resK ss step (k + 1) = resK ss step k ++ [sampV ss ((k : Int) * step)] := by
  unfold resK; rw [List.range_succ, List.map_append]; rfl
theorem resK_len (ss : List Smp) (step : Int) (k : Nat) : (resK ss step k).length = k := by unfold resK; simp
theorem cntR_val {sp step : Int} (h0 : 0 ≤ sp) (h1 : 1 ≤ step) : (cntR sp step : Int) = (sp + step - 1) / step := by
  have : 0 ≤ (sp + step - 1) / step := Int.ediv_nonneg (by omega) (by omega)
  unfold cntR; omega
theorem cntR_lt {sp step : Int} (h0 : 0 ≤ sp) (h1 : 1 ≤ step) (k : Nat) : (k : Int) * step < sp ↔ k < cntR sp step := by
  have hv := cntR_val h0 h1
  have h := Int.le_ediv_iff_mul_le (a := (k : Int) + 1) (b := sp + step - 1) (c := step) (by omega)
  rw [← hv] at h
  have e : ((k : Int) + 1) * step = (k : Int) * step + step := by rw [Int.add_mul, Int.one_mul]
  rw [e] at h
  constructor
  · intro q; have := h.2 (by omega); omega
  · intro q; have := h.1 (by omega); omega
theorem span_bd2 {ss : List Smp} (h : SOk ss) : 0 ≤ spanL ss ∧ spanL ss ≤ 1000000 := by
  by_cases h0 : ss.length = 0
  · have e : ss = [] := List.eq_nil_of_length_eq_zero h0
    subst e; exact ⟨Int.le_refl _, by decide⟩
  · rw [span_last h0]
    have := h.inn (ss.length - 1) (by omega)
    omega
noncomputable def resL (ss : List Smp) (step : Int) : List Smp := resK ss step (cntR (spanL ss) step) ++ [sampV ss (spanL ss)]
theorem resL_len (ss : List Smp) (step : Int) : (resL ss step).length = cntR (spanL ss) step + 1 := by unfold resL; simp [resK_len]
open Classical in
/-- What Resample returns: the content of an activity, and an error. -/
noncomputable def resO (a : Act) (step : Int) : Act × Int :=
  if chkE a = 0 then
    if 1 ≤ step ∧ step ≤ 1000000 then
      if (cntR (spanL a.ss) step : Int) + 1 ≤ 20000 then
        if a.ss.length = 0 then (a, 0) else ({ a with ss := resL a.ss step }, 0)
      else (act0, 3)
    else (act0, 9)
  else (act0, chkE a)
end Go.Proofs.Ytjcdfgdnpmogoaa
