/- The contract of the reference's at. -/
import Derived.Test.YtgkhhfojioepgaaTOnStep
import Derived.Deep.RegionHeld3
namespace Go.Proofs.Ytgkhhfojioepgaa
open Go.RowKit
set_option linter.unusedSimpArgs false
set_option linter.unusedVariables false

structure AtM (w : World) (P Q : Array Value) (W : World) : Prop where
  p : W.heap[w.heap.size]? = some (.cells P 28 (0, 0))
  q : W.heap[w.heap.size + 1]? = some (.cells Q 28 (0, 0))
  z : ∃ Z : Array Value, Z.size = 7 ∧ W.heap[w.heap.size + 2]? = some (.cells Z 28 (0, 0))
  g : w.grownBy W none
theorem AtM.grown {w W W' : World} {P Q : Array Value} (h : AtM w P Q W) (hg : W.grownBy W' none) : AtM w P Q W' := by
  have k : ∀ {B : Nat} {o : Obj}, W.heap[B]? = some o → W'.heap[B]? = some o := fun {B o} h => (hg.block B (Array.getElem?_eq_some_iff.1 h).1 (by simp)).trans h
  obtain ⟨Z, h1, h2⟩ := h.z
  exact ⟨k h.p, k h.q, ⟨Z, h1, k h2⟩, grown_trans h.g hg⟩
theorem AtM.set {w W : World} {P Q : Array Value} (h : AtM w P Q W) (k : Nat) (v : Value) : AtM w P Q (W.setCell ⟨w.heap.size + 2, k, none⟩ v) := by
  obtain ⟨Z, h1, h2⟩ := h.z
  refine ⟨?_, ?_, ⟨Z.setIfInBounds k v, by simpa using h1, block_set h2 v⟩, grown_far h.g (by omega) k v⟩
  · rw [Below.heap_setCell _ _ _ _ (by show _ ≠ w.heap.size + 2; omega)]; exact h.p
  · rw [Below.heap_setCell _ _ _ _ (by show _ ≠ w.heap.size + 2; omega)]; exact h.q

set_option maxRecDepth 100000 in
set_option maxHeartbeats 3200000 in
theorem rat_is (p q : Smp) (s : Int) (hp : SmpIn p) (hq : SmpIn q) (h0 : p.t ≤ s) (h1 : s ≤ q.t) (hpq : p.t < q.t) (w : World) {x : Smp} (h : Hid (onV p q s = x)) :
    Calls Try.prog 124 #[smpVal p, smpVal q, .int .i64 s] w fun e w' => e = .returned (smpVal x) ∧ w.grownBy w' none := by
  obtain ⟨pt, px, py, pz, pp, pq, ps⟩ := p
  obtain ⟨qt, qx, qy, qz, qp, qq, qs⟩ := q
  unfold SmpIn inPlane at hp hq
  simp only at hp hq h0 h1 hpq
  obtain ⟨nx, hnx⟩ : ∃ n, btwV px qx (s - pt) (qt - pt) = n := ⟨_, rfl⟩
  obtain ⟨ny, hny⟩ : ∃ n, btwV py qy (s - pt) (qt - pt) = n := ⟨_, rfl⟩
  obtain ⟨nz, hnz⟩ : ∃ n, btwV pz qz (s - pt) (qt - pt) = n := ⟨_, rfl⟩
  have HR : Hid (smpVal x = .agg #[.int .i64 s, .int .i64 nx, .int .i64 ny, .int .i64 nz, .int .i64 pp, .int .i64 pq, .int .i64 ps]) := by
    show _ = _; rw [← h.out]; unfold onV smpVal; simp only; rw [hnx, hny, hnz]
  have r1 : IntKind.i64.wrap (s - pt) = s - pt := IntWalk.i64_in _ (by omega)
  have r2 : IntKind.i64.wrap (qt - pt) = qt - pt := IntWalk.i64_in _ (by omega)
  have KX : Hid (∀ V : World, Calls Try.prog 97 #[.int .i64 px, .int .i64 qx, .int .i64 (s - pt), .int .i64 (qt - pt)] V fun e w' => e = .returned (.int .i64 nx) ∧ V.grownBy w' none) := fun V => rbetween_is px qx (s - pt) (qt - pt) (by omega) (by omega) (by omega) (by omega) (by omega) (by omega) (by omega) (by omega) V hnx
  have KY : Hid (∀ V : World, Calls Try.prog 97 #[.int .i64 py, .int .i64 qy, .int .i64 (s - pt), .int .i64 (qt - pt)] V fun e w' => e = .returned (.int .i64 ny) ∧ V.grownBy w' none) := fun V => rbetween_is py qy (s - pt) (qt - pt) (by omega) (by omega) (by omega) (by omega) (by omega) (by omega) (by omega) (by omega) V hny
  have KZ : Hid (∀ V : World, Calls Try.prog 97 #[.int .i64 pz, .int .i64 qz, .int .i64 (s - pt), .int .i64 (qt - pt)] V fun e w' => e = .returned (.int .i64 nz) ∧ V.grownBy w' none) := fun V => rbetween_is pz qz (s - pt) (qt - pt) (by omega) (by omega) (by omega) (by omega) (by omega) (by omega) (by omega) (by omega) V hnz
  clear hnx hny hnz h hp hq h0 h1 hpq
  unfold smpVal at HR ⊢
  simp only at HR ⊢
  go_enter Try.func124, Try.ntmps124
  go_wp2_with fail
  go_quiet (fail)
  obtain ⟨V0, hV0⟩ : ∃ V0, ((((w.alloc (.cells #[.int .i64 pt, .int .i64 px, .int .i64 py, .int .i64 pz, .int .i64 pp, .int .i64 pq, .int .i64 ps] 28)).alloc (.cells #[.int .i64 qt, .int .i64 qx, .int .i64 qy, .int .i64 qz, .int .i64 qp, .int .i64 qq, .int .i64 qs] 28)).alloc (.cells #[.int .i64 0, .int .i64 0, .int .i64 0, .int .i64 0, .int .i64 0, .int .i64 0, .int .i64 0] 28)).drewN nq) = V0 := ⟨_, rfl⟩
  have e0 : V0.heap = (((w.alloc (.cells #[.int .i64 pt, .int .i64 px, .int .i64 py, .int .i64 pz, .int .i64 pp, .int .i64 pq, .int .i64 ps] 28)).alloc (.cells #[.int .i64 qt, .int .i64 qx, .int .i64 qy, .int .i64 qz, .int .i64 qp, .int .i64 qq, .int .i64 qs] 28)).alloc (.cells #[.int .i64 0, .int .i64 0, .int .i64 0, .int .i64 0, .int .i64 0, .int .i64 0, .int .i64 0] 28)).heap := by rw [← hV0]; rfl
  have M0 : AtM w #[.int .i64 pt, .int .i64 px, .int .i64 py, .int .i64 pz, .int .i64 pp, .int .i64 pq, .int .i64 ps] #[.int .i64 qt, .int .i64 qx, .int .i64 qy, .int .i64 qz, .int .i64 qp, .int .i64 qq, .int .i64 qs] V0 := by
    refine ⟨?_, ?_, ⟨#[.int .i64 0, .int .i64 0, .int .i64 0, .int .i64 0, .int .i64 0, .int .i64 0, .int .i64 0], rfl, ?_⟩, ?_⟩
    · rw [e0, Below.heap_alloc _ _ _ (by simp; omega), Below.heap_alloc _ _ _ (by simp)]; exact heap_alloc_new w _
    · rw [e0, Below.heap_alloc _ _ _ (by simp)]
      have := heap_alloc_new (w.alloc (.cells #[.int .i64 pt, .int .i64 px, .int .i64 py, .int .i64 pz, .int .i64 pp, .int .i64 pq, .int .i64 ps] 28)) (.cells #[.int .i64 qt, .int .i64 qx, .int .i64 qy, .int .i64 qz, .int .i64 qp, .int .i64 qq, .int .i64 qs] 28); simpa using this
    · rw [e0]
      have := heap_alloc_new ((w.alloc (.cells #[.int .i64 pt, .int .i64 px, .int .i64 py, .int .i64 pz, .int .i64 pp, .int .i64 pq, .int .i64 ps] 28)).alloc (.cells #[.int .i64 qt, .int .i64 qx, .int .i64 qy, .int .i64 qz, .int .i64 qp, .int .i64 qq, .int .i64 qs] 28)) (.cells #[.int .i64 0, .int .i64 0, .int .i64 0, .int .i64 0, .int .i64 0, .int .i64 0, .int .i64 0] 28); simpa using this
    · rw [← hV0]; exact grown_trans (grown_trans (grown_trans (World.grownBy_alloc _ _ none) (World.grownBy_alloc _ _ none)) (World.grownBy_alloc _ _ none)) (grown_drewN _ _ _)
  have MD := Lib.hid (M0.grown (grown_drewN V0 _ 1))
  rw [hV0]
  clear hV0 e0 M0
  go_wp2_with fail
  refine wp_region_held_drew (S := fun V => AtM w #[.int .i64 pt, .int .i64 px, .int .i64 py, .int .i64 pz, .int .i64 pp, .int .i64 pq, .int .i64 ps] #[.int .i64 qt, .int .i64 qx, .int .i64 qy, .int .i64 qz, .int .i64 qp, .int .i64 qq, .int .i64 qs] V) (by kernel_rfl) MD.out (fun hHeld => ?_)
  refine wpAnyH_take (i := 0) (oi := ?oi0) (v := .int .i64 s) ?hi0 (by kernel_rfl) (by kernel_rfl) (by kernel_rfl) ?hq0 ?hy0 hHeld ?rest0
  case hi0 => simp only [List.getElem?_toArray, List.getElem?_cons_zero, Option.some.injEq]; rfl
  case hq0 => exact fun _ _ _ h => h
  case hy0 =>
    refine Or.inl ⟨by kernel_rfl, fun V hV => ?_⟩
    clear hV
    go_simp
  try simp only [Go.Act.put, List.setIfInBounds_toArray, List.set_cons_zero, List.set_cons_succ]
  refine wpAnyH_take (i := 1) (oi := ?oi1) (v := .pointer (some ⟨w.heap.size, 1, none⟩)) ?hi1 (by kernel_rfl) (by kernel_rfl) (by kernel_rfl) ?hq1 ?hy1 hHeld ?rest1
  case hi1 => simp only [List.getElem?_toArray, List.getElem?_cons_succ, List.getElem?_cons_zero, Option.some.injEq]; rfl
  case hq1 => exact fun _ _ _ h => h
  case hy1 =>
    refine Or.inl ⟨by kernel_rfl, fun V hV => ?_⟩
    clear hV
    go_simp
  try simp only [Go.Act.put, List.setIfInBounds_toArray, List.set_cons_zero, List.set_cons_succ]
  refine wpAnyH_take (i := 2) (oi := ?oi2) (v := .int .i64 px) ?hi2 (by kernel_rfl) (by kernel_rfl) (by kernel_rfl) ?hq2 ?hy2 hHeld ?rest2
  case hi2 => simp only [List.getElem?_toArray, List.getElem?_cons_succ, List.getElem?_cons_zero, Option.some.injEq]; rfl
  case hq2 => exact fun _ _ _ h => h
  case hy2 =>
    refine Or.inl ⟨by kernel_rfl, fun V hV => ?_⟩
    have q1 := block_cell (AtM.p hV) 1 _ rfl; clear hV
    go_simp
  try simp only [Go.Act.put, List.setIfInBounds_toArray, List.set_cons_zero, List.set_cons_succ]
  refine wpAnyH_take (i := 3) (oi := ?oi3) (v := .pointer (some ⟨w.heap.size + 1, 1, none⟩)) ?hi3 (by kernel_rfl) (by kernel_rfl) (by kernel_rfl) ?hq3 ?hy3 hHeld ?rest3
  case hi3 => simp only [List.getElem?_toArray, List.getElem?_cons_succ, List.getElem?_cons_zero, Option.some.injEq]; rfl
  case hq3 => exact fun _ _ _ h => h
  case hy3 =>
    refine Or.inl ⟨by kernel_rfl, fun V hV => ?_⟩
    clear hV
    go_simp
  try simp only [Go.Act.put, List.setIfInBounds_toArray, List.set_cons_zero, List.set_cons_succ]
  refine wpAnyH_take (i := 4) (oi := ?oi4) (v := .int .i64 qx) ?hi4 (by kernel_rfl) (by kernel_rfl) (by kernel_rfl) ?hq4 ?hy4 hHeld ?rest4
  case hi4 => simp only [List.getElem?_toArray, List.getElem?_cons_succ, List.getElem?_cons_zero, Option.some.injEq]; rfl
  case hq4 => exact fun _ _ _ h => h
  case hy4 =>
    refine Or.inl ⟨by kernel_rfl, fun V hV => ?_⟩
    have q1 := block_cell (AtM.q hV) 1 _ rfl; clear hV
    go_simp
  try simp only [Go.Act.put, List.setIfInBounds_toArray, List.set_cons_zero, List.set_cons_succ]
  refine wpAnyH_take (i := 5) (oi := ?oi5) (v := .int .i64 (s - pt)) ?hi5 (by kernel_rfl) (by kernel_rfl) (by kernel_rfl) ?hq5 ?hy5 hHeld ?rest5
  case hi5 => simp only [List.getElem?_toArray, List.getElem?_cons_succ, List.getElem?_cons_zero, Option.some.injEq]; rfl
  case hq5 => exact fun _ _ _ h => h
  case hy5 =>
    refine Or.inl ⟨by kernel_rfl, fun V hV => ?_⟩
    clear hV
    go_simp
  try simp only [Go.Act.put, List.setIfInBounds_toArray, List.set_cons_zero, List.set_cons_succ]
  refine wpAnyH_take (i := 6) (oi := ?oi6) (v := .int .i64 (qt - pt)) ?hi6 (by kernel_rfl) (by kernel_rfl) (by kernel_rfl) ?hq6 ?hy6 hHeld ?rest6
  case hi6 => simp only [List.getElem?_toArray, List.getElem?_cons_succ, List.getElem?_cons_zero, Option.some.injEq]; rfl
  case hq6 => exact fun _ _ _ h => h
  case hy6 =>
    refine Or.inl ⟨by kernel_rfl, fun V hV => ?_⟩
    clear hV
    go_simp
  try simp only [Go.Act.put, List.setIfInBounds_toArray, List.set_cons_zero, List.set_cons_succ]
  refine wpAnyH_take (i := 8) (oi := ?oi8) (v := .pointer (some ⟨w.heap.size, 2, none⟩)) ?hi8 (by kernel_rfl) (by kernel_rfl) (by kernel_rfl) ?hq8 ?hy8 hHeld ?rest8
  case hi8 => simp only [List.getElem?_toArray, List.getElem?_cons_succ, List.getElem?_cons_zero, Option.some.injEq]; rfl
  case hq8 => exact fun _ _ _ h => h
  case hy8 =>
    refine Or.inl ⟨by kernel_rfl, fun V hV => ?_⟩
    clear hV
    go_simp
  try simp only [Go.Act.put, List.setIfInBounds_toArray, List.set_cons_zero, List.set_cons_succ]
  refine wpAnyH_take (i := 9) (oi := ?oi9) (v := .int .i64 py) ?hi9 (by kernel_rfl) (by kernel_rfl) (by kernel_rfl) ?hq9 ?hy9 hHeld ?rest9
  case hi9 => simp only [List.getElem?_toArray, List.getElem?_cons_succ, List.getElem?_cons_zero, Option.some.injEq]; rfl
  case hq9 => exact fun _ _ _ h => h
  case hy9 =>
    refine Or.inl ⟨by kernel_rfl, fun V hV => ?_⟩
    have q1 := block_cell (AtM.p hV) 2 _ rfl; clear hV
    go_simp
  try simp only [Go.Act.put, List.setIfInBounds_toArray, List.set_cons_zero, List.set_cons_succ]
  refine wpAnyH_take (i := 10) (oi := ?oi10) (v := .pointer (some ⟨w.heap.size + 1, 2, none⟩)) ?hi10 (by kernel_rfl) (by kernel_rfl) (by kernel_rfl) ?hq10 ?hy10 hHeld ?rest10
  case hi10 => simp only [List.getElem?_toArray, List.getElem?_cons_succ, List.getElem?_cons_zero, Option.some.injEq]; rfl
  case hq10 => exact fun _ _ _ h => h
  case hy10 =>
    refine Or.inl ⟨by kernel_rfl, fun V hV => ?_⟩
    clear hV
    go_simp
  try simp only [Go.Act.put, List.setIfInBounds_toArray, List.set_cons_zero, List.set_cons_succ]
  refine wpAnyH_take (i := 11) (oi := ?oi11) (v := .int .i64 qy) ?hi11 (by kernel_rfl) (by kernel_rfl) (by kernel_rfl) ?hq11 ?hy11 hHeld ?rest11
  case hi11 => simp only [List.getElem?_toArray, List.getElem?_cons_succ, List.getElem?_cons_zero, Option.some.injEq]; rfl
  case hq11 => exact fun _ _ _ h => h
  case hy11 =>
    refine Or.inl ⟨by kernel_rfl, fun V hV => ?_⟩
    have q1 := block_cell (AtM.q hV) 2 _ rfl; clear hV
    go_simp
  try simp only [Go.Act.put, List.setIfInBounds_toArray, List.set_cons_zero, List.set_cons_succ]
  refine wpAnyH_take (i := 12) (oi := ?oi12) (v := .int .i64 (s - pt)) ?hi12 (by kernel_rfl) (by kernel_rfl) (by kernel_rfl) ?hq12 ?hy12 hHeld ?rest12
  case hi12 => simp only [List.getElem?_toArray, List.getElem?_cons_succ, List.getElem?_cons_zero, Option.some.injEq]; rfl
  case hq12 => exact fun _ _ _ h => h
  case hy12 =>
    refine Or.inl ⟨by kernel_rfl, fun V hV => ?_⟩
    clear hV
    go_simp
  try simp only [Go.Act.put, List.setIfInBounds_toArray, List.set_cons_zero, List.set_cons_succ]
  refine wpAnyH_take (i := 13) (oi := ?oi13) (v := .int .i64 (qt - pt)) ?hi13 (by kernel_rfl) (by kernel_rfl) (by kernel_rfl) ?hq13 ?hy13 hHeld ?rest13
  case hi13 => simp only [List.getElem?_toArray, List.getElem?_cons_succ, List.getElem?_cons_zero, Option.some.injEq]; rfl
  case hq13 => exact fun _ _ _ h => h
  case hy13 =>
    refine Or.inl ⟨by kernel_rfl, fun V hV => ?_⟩
    clear hV
    go_simp
  try simp only [Go.Act.put, List.setIfInBounds_toArray, List.set_cons_zero, List.set_cons_succ]
  refine wpAnyH_take (i := 15) (oi := ?oi15) (v := .pointer (some ⟨w.heap.size, 3, none⟩)) ?hi15 (by kernel_rfl) (by kernel_rfl) (by kernel_rfl) ?hq15 ?hy15 hHeld ?rest15
  case hi15 => simp only [List.getElem?_toArray, List.getElem?_cons_succ, List.getElem?_cons_zero, Option.some.injEq]; rfl
  case hq15 => exact fun _ _ _ h => h
  case hy15 =>
    refine Or.inl ⟨by kernel_rfl, fun V hV => ?_⟩
    clear hV
    go_simp
  try simp only [Go.Act.put, List.setIfInBounds_toArray, List.set_cons_zero, List.set_cons_succ]
  refine wpAnyH_take (i := 16) (oi := ?oi16) (v := .int .i64 pz) ?hi16 (by kernel_rfl) (by kernel_rfl) (by kernel_rfl) ?hq16 ?hy16 hHeld ?rest16
  case hi16 => simp only [List.getElem?_toArray, List.getElem?_cons_succ, List.getElem?_cons_zero, Option.some.injEq]; rfl
  case hq16 => exact fun _ _ _ h => h
  case hy16 =>
    refine Or.inl ⟨by kernel_rfl, fun V hV => ?_⟩
    have q1 := block_cell (AtM.p hV) 3 _ rfl; clear hV
    go_simp
  try simp only [Go.Act.put, List.setIfInBounds_toArray, List.set_cons_zero, List.set_cons_succ]
  refine wpAnyH_take (i := 17) (oi := ?oi17) (v := .pointer (some ⟨w.heap.size + 1, 3, none⟩)) ?hi17 (by kernel_rfl) (by kernel_rfl) (by kernel_rfl) ?hq17 ?hy17 hHeld ?rest17
  case hi17 => simp only [List.getElem?_toArray, List.getElem?_cons_succ, List.getElem?_cons_zero, Option.some.injEq]; rfl
  case hq17 => exact fun _ _ _ h => h
  case hy17 =>
    refine Or.inl ⟨by kernel_rfl, fun V hV => ?_⟩
    clear hV
    go_simp
  try simp only [Go.Act.put, List.setIfInBounds_toArray, List.set_cons_zero, List.set_cons_succ]
  refine wpAnyH_take (i := 18) (oi := ?oi18) (v := .int .i64 qz) ?hi18 (by kernel_rfl) (by kernel_rfl) (by kernel_rfl) ?hq18 ?hy18 hHeld ?rest18
  case hi18 => simp only [List.getElem?_toArray, List.getElem?_cons_succ, List.getElem?_cons_zero, Option.some.injEq]; rfl
  case hq18 => exact fun _ _ _ h => h
  case hy18 =>
    refine Or.inl ⟨by kernel_rfl, fun V hV => ?_⟩
    have q1 := block_cell (AtM.q hV) 3 _ rfl; clear hV
    go_simp
  try simp only [Go.Act.put, List.setIfInBounds_toArray, List.set_cons_zero, List.set_cons_succ]
  refine wpAnyH_take (i := 19) (oi := ?oi19) (v := .int .i64 (s - pt)) ?hi19 (by kernel_rfl) (by kernel_rfl) (by kernel_rfl) ?hq19 ?hy19 hHeld ?rest19
  case hi19 => simp only [List.getElem?_toArray, List.getElem?_cons_succ, List.getElem?_cons_zero, Option.some.injEq]; rfl
  case hq19 => exact fun _ _ _ h => h
  case hy19 =>
    refine Or.inl ⟨by kernel_rfl, fun V hV => ?_⟩
    clear hV
    go_simp
  try simp only [Go.Act.put, List.setIfInBounds_toArray, List.set_cons_zero, List.set_cons_succ]
  refine wpAnyH_take (i := 20) (oi := ?oi20) (v := .int .i64 (qt - pt)) ?hi20 (by kernel_rfl) (by kernel_rfl) (by kernel_rfl) ?hq20 ?hy20 hHeld ?rest20
  case hi20 => simp only [List.getElem?_toArray, List.getElem?_cons_succ, List.getElem?_cons_zero, Option.some.injEq]; rfl
  case hq20 => exact fun _ _ _ h => h
  case hy20 =>
    refine Or.inl ⟨by kernel_rfl, fun V hV => ?_⟩
    clear hV
    go_simp
  try simp only [Go.Act.put, List.setIfInBounds_toArray, List.set_cons_zero, List.set_cons_succ]
  refine wpAnyH_take (i := 22) (oi := ?oi22) (v := .pointer (some ⟨w.heap.size, 4, none⟩)) ?hi22 (by kernel_rfl) (by kernel_rfl) (by kernel_rfl) ?hq22 ?hy22 hHeld ?rest22
  case hi22 => simp only [List.getElem?_toArray, List.getElem?_cons_succ, List.getElem?_cons_zero, Option.some.injEq]; rfl
  case hq22 => exact fun _ _ _ h => h
  case hy22 =>
    refine Or.inl ⟨by kernel_rfl, fun V hV => ?_⟩
    clear hV
    go_simp
  try simp only [Go.Act.put, List.setIfInBounds_toArray, List.set_cons_zero, List.set_cons_succ]
  refine wpAnyH_take (i := 23) (oi := ?oi23) (v := .int .i64 pp) ?hi23 (by kernel_rfl) (by kernel_rfl) (by kernel_rfl) ?hq23 ?hy23 hHeld ?rest23
  case hi23 => simp only [List.getElem?_toArray, List.getElem?_cons_succ, List.getElem?_cons_zero, Option.some.injEq]; rfl
  case hq23 => exact fun _ _ _ h => h
  case hy23 =>
    refine Or.inl ⟨by kernel_rfl, fun V hV => ?_⟩
    have q1 := block_cell (AtM.p hV) 4 _ rfl; clear hV
    go_simp
  try simp only [Go.Act.put, List.setIfInBounds_toArray, List.set_cons_zero, List.set_cons_succ]
  refine wpAnyH_take (i := 24) (oi := ?oi24) (v := .pointer (some ⟨w.heap.size, 5, none⟩)) ?hi24 (by kernel_rfl) (by kernel_rfl) (by kernel_rfl) ?hq24 ?hy24 hHeld ?rest24
  case hi24 => simp only [List.getElem?_toArray, List.getElem?_cons_succ, List.getElem?_cons_zero, Option.some.injEq]; rfl
  case hq24 => exact fun _ _ _ h => h
  case hy24 =>
    refine Or.inl ⟨by kernel_rfl, fun V hV => ?_⟩
    clear hV
    go_simp
  try simp only [Go.Act.put, List.setIfInBounds_toArray, List.set_cons_zero, List.set_cons_succ]
  refine wpAnyH_take (i := 25) (oi := ?oi25) (v := .int .i64 pq) ?hi25 (by kernel_rfl) (by kernel_rfl) (by kernel_rfl) ?hq25 ?hy25 hHeld ?rest25
  case hi25 => simp only [List.getElem?_toArray, List.getElem?_cons_succ, List.getElem?_cons_zero, Option.some.injEq]; rfl
  case hq25 => exact fun _ _ _ h => h
  case hy25 =>
    refine Or.inl ⟨by kernel_rfl, fun V hV => ?_⟩
    have q1 := block_cell (AtM.p hV) 5 _ rfl; clear hV
    go_simp
  try simp only [Go.Act.put, List.setIfInBounds_toArray, List.set_cons_zero, List.set_cons_succ]
  refine wpAnyH_take (i := 26) (oi := ?oi26) (v := .pointer (some ⟨w.heap.size, 6, none⟩)) ?hi26 (by kernel_rfl) (by kernel_rfl) (by kernel_rfl) ?hq26 ?hy26 hHeld ?rest26
  case hi26 => simp only [List.getElem?_toArray, List.getElem?_cons_succ, List.getElem?_cons_zero, Option.some.injEq]; rfl
  case hq26 => exact fun _ _ _ h => h
  case hy26 =>
    refine Or.inl ⟨by kernel_rfl, fun V hV => ?_⟩
    clear hV
    go_simp
  try simp only [Go.Act.put, List.setIfInBounds_toArray, List.set_cons_zero, List.set_cons_succ]
  refine wpAnyH_take (i := 27) (oi := ?oi27) (v := .int .i64 ps) ?hi27 (by kernel_rfl) (by kernel_rfl) (by kernel_rfl) ?hq27 ?hy27 hHeld ?rest27
  case hi27 => simp only [List.getElem?_toArray, List.getElem?_cons_succ, List.getElem?_cons_zero, Option.some.injEq]; rfl
  case hq27 => exact fun _ _ _ h => h
  case hy27 =>
    refine Or.inl ⟨by kernel_rfl, fun V hV => ?_⟩
    have q1 := block_cell (AtM.p hV) 6 _ rfl; clear hV
    go_simp
  try simp only [Go.Act.put, List.setIfInBounds_toArray, List.set_cons_zero, List.set_cons_succ]
  refine wpAnyH_ready (rs := [7]) (by kernel_rfl) (by simp) ?_
  refine AllReadyH.cons rfl (fun K hK => ?_) AllReadyH.nil
  go_simp
  refine (KX.out _).mono ?_
  rintro e w1 ⟨rfl, hgw1⟩
  refine hK.out _ _ (AtM.grown hHeld hgw1) (fun hHeld1 => ?_)
  clear hK K
  try simp only [Go.Act.put, List.setIfInBounds_toArray, List.set_cons_zero, List.set_cons_succ]
  refine wpAnyH_ready (rs := [14]) (by kernel_rfl) (by simp) ?_
  refine AllReadyH.cons rfl (fun K hK => ?_) AllReadyH.nil
  go_simp
  refine (KY.out _).mono ?_
  rintro e w2 ⟨rfl, hgw2⟩
  refine hK.out _ _ (AtM.grown hHeld1 hgw2) (fun hHeld2 => ?_)
  clear hK K
  try simp only [Go.Act.put, List.setIfInBounds_toArray, List.set_cons_zero, List.set_cons_succ]
  refine wpAnyH_ready (rs := [21]) (by kernel_rfl) (by simp) ?_
  refine AllReadyH.cons rfl (fun K hK => ?_) AllReadyH.nil
  go_simp
  refine (KZ.out _).mono ?_
  rintro e w3 ⟨rfl, hgw3⟩
  refine hK.out _ _ (AtM.grown hHeld2 hgw3) (fun hHeld3 => ?_)
  clear hK K
  try simp only [Go.Act.put, List.setIfInBounds_toArray, List.set_cons_zero, List.set_cons_succ]
  refine wpAnyH_take (i := 28) (oi := ?oi28) (v := .agg #[.int .i64 s, .int .i64 nx, .int .i64 ny, .int .i64 nz, .int .i64 pp, .int .i64 pq, .int .i64 ps]) ?hi28 (by kernel_rfl) (by kernel_rfl) (by kernel_rfl) ?hq28 ?hy28 hHeld3 ?rest28
  case hi28 => simp only [List.getElem?_toArray, List.getElem?_cons_succ, List.getElem?_cons_zero, Option.some.injEq]; rfl
  case hq28 => exact fun _ _ _ h => h
  case hy28 =>
    refine Or.inl ⟨by kernel_rfl, fun V hV => ?_⟩
    clear hV
    go_simp
  try simp only [Go.Act.put, List.setIfInBounds_toArray, List.set_cons_zero, List.set_cons_succ]
  refine wpAnyH_ready (rs := [29]) (by kernel_rfl) (by simp) ?_
  refine AllReadyH.cons rfl (fun K hK => ?_) AllReadyH.nil
  obtain ⟨Z, hZ, hz⟩ := hHeld3.z
  have z0 := block_cell hz 0 _ (Array.getElem?_eq_getElem (by omega))
  have y0 := block_free (k := 0) hz
  have z1 := block_cell hz 1 _ (Array.getElem?_eq_getElem (by omega))
  have y1 := block_free (k := 1) hz
  have z2 := block_cell hz 2 _ (Array.getElem?_eq_getElem (by omega))
  have y2 := block_free (k := 2) hz
  have z3 := block_cell hz 3 _ (Array.getElem?_eq_getElem (by omega))
  have y3 := block_free (k := 3) hz
  have z4 := block_cell hz 4 _ (Array.getElem?_eq_getElem (by omega))
  have y4 := block_free (k := 4) hz
  have z5 := block_cell hz 5 _ (Array.getElem?_eq_getElem (by omega))
  have y5 := block_free (k := 5) hz
  have z6 := block_cell hz 6 _ (Array.getElem?_eq_getElem (by omega))
  have y6 := block_free (k := 6) hz
  have HH3 := Lib.hid hHeld3
  clear hHeld3 hHeld2 hHeld1 hHeld hz
  go_simp
  refine hK.out _ _ (((((((HH3.out.set 0 _).set 1 _).set 2 _).set 3 _).set 4 _).set 5 _).set 6 _) (fun hHeld4 => ?_)
  refine wpAnyH_done (by kernel_rfl) ?_ _
  clear hK K
  have G4 := hHeld4.g
  clear hHeld4
  go_wp2_with fail
  refine bodyPost_ret (v := .agg #[.int .i64 s, .int .i64 nx, .int .i64 ny, .int .i64 nz, .int .i64 pp, .int .i64 pq, .int .i64 ps]) (by simp [results, Try.results124, go_sem, z0, z1, z2, z3, z4, z5, z6]) rfl ⟨by rw [HR.out], G4⟩
end Go.Proofs.Ytgkhhfojioepgaa
