/- Texts that all laws of this seat use, one behind the other. -/
import Derived.Test.YtgkhhfojioepgaaBaseD
import Derived.Deep.RegionHeld3
import Derived.Test.YtgkhhfojioepgaaShelf
import Derived.Lib.SliceRun
import Derived.Maps.AppendAt
import Derived.Laws.AppendOwn
import Derived.Deep.CutBlock
import Derived.Deep.DeepCutAuto
import Derived.Test.YtgkhhfojioepgaaBaseB
namespace Go.Proofs.Ytgkhhfojioepgaa
open Go.RowKit
set_option linter.unusedSimpArgs false
set_option linter.unusedVariables false

structure AtM (w : World) (P Q : Array Value) (W : World) : Prop where
  p : W.heap[w.heap.size]? = some (.cells P 28 (0, 0))
  q : W.heap[w.heap.size + 1]? = some (.cells Q 28 (0, 0))
  z : ∃ Z : Array Value, Z.size = 7 ∧ W.heap[w.heap.size + 2]? = some (.cells Z 28 (0, 0))
  g : w.grownBy W none
theorem AtM.grown {w W W' : World} {P Q : Array Value} (h : AtM w P Q W) (hg : W.grownBy W' none) : AtM w P Q W' := by
  have k : ∀ {B : Nat} {o : Obj}, W.heap[B]? = some o → W'.heap[B]? = some o := fun {B o} h => (hg.block B (Array.getElem?_eq_some_iff.1 h).1 (by simp)).trans h
  obtain ⟨Z, h1, h2⟩ := h.z
  exact ⟨k h.p, k h.q, ⟨Z, h1, k h2⟩, grown_trans h.g hg⟩
theorem AtM.set {w W : World} {P Q : Array Value} (h : AtM w P Q W) (k : Nat) (v : Value) : AtM w P Q (W.setCell ⟨w.heap.size + 2, k, none⟩ v) := by
  obtain ⟨Z, h1, h2⟩ := h.z
  refine ⟨?_, ?_, ⟨Z.setIfInBounds k v, by simpa using h1, block_set h2 v⟩, grown_far h.g (by omega) k v⟩
  · rw [Below.heap_setCell _ _ _ _ (by show _ ≠ w.heap.size + 2; omega)]; exact h.p
  · rw [Below.heap_setCell _ _ _ _ (by show _ ≠ w.heap.size + 2; omega)]; exact h.q

set_option maxRecDepth 100000 in
set_option maxHeartbeats 3200000 in
theorem rat_is (p q : Smp) (s : Int) (hp : SmpIn p) (hq : SmpIn q) (h0 : p.t ≤ s) (h1 : s ≤ q.t) (hpq : p.t < q.t) (w : World) {x : Smp} (h : Hid (onV p q s = x)) :
    Calls Try.prog 124 #[smpVal p, smpVal q, .int .i64 s] w fun e w' => e = .returned (smpVal x) ∧ w.grownBy w' none := by
  obtain ⟨pt, px, py, pz, pp, pq, ps⟩ := p
  obtain ⟨qt, qx, qy, qz, qp, qq, qs⟩ := q
  unfold SmpIn inPlane at hp hq
  simp only at hp hq h0 h1 hpq
  obtain ⟨nx, hnx⟩ : ∃ n, btwV px qx (s - pt) (qt - pt) = n := ⟨_, rfl⟩
  obtain ⟨ny, hny⟩ : ∃ n, btwV py qy (s - pt) (qt - pt) = n := ⟨_, rfl⟩
  obtain ⟨nz, hnz⟩ : ∃ n, btwV pz qz (s - pt) (qt - pt) = n := ⟨_, rfl⟩
  have HR : Hid (smpVal x = .agg #[.int .i64 s, .int .i64 nx, .int .i64 ny, .int .i64 nz, .int .i64 pp, .int .i64 pq, .int .i64 ps]) := by
    show _ = _; rw [← h.out]; unfold onV smpVal; simp only; rw [hnx, hny, hnz]
  have r1 : IntKind.i64.wrap (s - pt) = s - pt := IntWalk.i64_in _ (by omega)
  have r2 : IntKind.i64.wrap (qt - pt) = qt - pt := IntWalk.i64_in _ (by omega)
  have KX : Hid (∀ V : World, Calls Try.prog 97 #[.int .i64 px, .int .i64 qx, .int .i64 (s - pt), .int .i64 (qt - pt)] V fun e w' => e = .returned (.int .i64 nx) ∧ V.grownBy w' none) := fun V => rbetween_is px qx (s - pt) (qt - pt) (by omega) (by omega) (by omega) (by omega) (by omega) (by omega) (by omega) (by omega) V hnx
  have KY : Hid (∀ V : World, Calls Try.prog 97 #[.int .i64 py, .int .i64 qy, .int .i64 (s - pt), .int .i64 (qt - pt)] V fun e w' => e = .returned (.int .i64 ny) ∧ V.grownBy w' none) := fun V => rbetween_is py qy (s - pt) (qt - pt) (by omega) (by omega) (by omega) (by omega) (by omega) (by omega) (by omega) (by omega) V hny
  have KZ : Hid (∀ V : World, Calls Try.prog 97 #[.int .i64 pz, .int .i64 qz, .int .i64 (s - pt), .int .i64 (qt - pt)] V fun e w' => e = .returned (.int .i64 nz) ∧ V.grownBy w' none) := fun V => rbetween_is pz qz (s - pt) (qt - pt) (by omega) (by omega) (by omega) (by omega) (by omega) (by omega) (by omega) (by omega) V hnz
  clear hnx hny hnz h hp hq h0 h1 hpq
  unfold smpVal at HR ⊢
  simp only at HR ⊢
  go_enter Try.func124, Try.ntmps124
  go_wp2_with fail
  go_quiet (fail)
  obtain ⟨V0, hV0⟩ : ∃ V0, ((((w.alloc (.cells #[.int .i64 pt, .int .i64 px, .int .i64 py, .int .i64 pz, .int .i64 pp, .int .i64 pq, .int .i64 ps] 28)).alloc (.cells #[.int .i64 qt, .int .i64 qx, .int .i64 qy, .int .i64 qz, .int .i64 qp, .int .i64 qq, .int .i64 qs] 28)).alloc (.cells #[.int .i64 0, .int .i64 0, .int .i64 0, .int .i64 0, .int .i64 0, .int .i64 0, .int .i64 0] 28)).drewN nq) = V0 := ⟨_, rfl⟩
  have e0 : V0.heap = (((w.alloc (.cells #[.int .i64 pt, .int .i64 px, .int .i64 py, .int .i64 pz, .int .i64 pp, .int .i64 pq, .int .i64 ps] 28)).alloc (.cells #[.int .i64 qt, .int .i64 qx, .int .i64 qy, .int .i64 qz, .int .i64 qp, .int .i64 qq, .int .i64 qs] 28)).alloc (.cells #[.int .i64 0, .int .i64 0, .int .i64 0, .int .i64 0, .int .i64 0, .int .i64 0, .int .i64 0] 28)).heap := by rw [← hV0]; rfl
  have M0 : AtM w #[.int .i64 pt, .int .i64 px, .int .i64 py, .int .i64 pz, .int .i64 pp, .int .i64 pq, .int .i64 ps] #[.int .i64 qt, .int .i64 qx, .int .i64 qy, .int .i64 qz, .int .i64 qp, .int .i64 qq, .int .i64 qs] V0 := by
    refine ⟨?_, ?_, ⟨#[.int .i64 0, .int .i64 0, .int .i64 0, .int .i64 0, .int .i64 0, .int .i64 0, .int .i64 0], rfl, ?_⟩, ?_⟩
    · rw [e0, Below.heap_alloc _ _ _ (by simp; omega), Below.heap_alloc _ _ _ (by simp)]; exact heap_alloc_new w _
    · rw [e0, Below.heap_alloc _ _ _ (by simp)]
      have := heap_alloc_new (w.alloc (.cells #[.int .i64 pt, .int .i64 px, .int .i64 py, .int .i64 pz, .int .i64 pp, .int .i64 pq, .int .i64 ps] 28)) (.cells #[.int .i64 qt, .int .i64 qx, .int .i64 qy, .int .i64 qz, .int .i64 qp, .int .i64 qq, .int .i64 qs] 28); simpa using this
    · rw [e0]
      have := heap_alloc_new ((w.alloc (.cells #[.int .i64 pt, .int .i64 px, .int .i64 py, .int .i64 pz, .int .i64 pp, .int .i64 pq, .int .i64 ps] 28)).alloc (.cells #[.int .i64 qt, .int .i64 qx, .int .i64 qy, .int .i64 qz, .int .i64 qp, .int .i64 qq, .int .i64 qs] 28)) (.cells #[.int .i64 0, .int .i64 0, .int .i64 0, .int .i64 0, .int .i64 0, .int .i64 0, .int .i64 0] 28); simpa using this
    · rw [← hV0]; exact grown_trans (grown_trans (grown_trans (World.grownBy_alloc _ _ none) (World.grownBy_alloc _ _ none)) (World.grownBy_alloc _ _ none)) (grown_drewN _ _ _)
  have MD := Lib.hid (M0.grown (grown_drewN V0 _ 1))
  rw [hV0]
  clear hV0 e0 M0
  go_wp2_with fail
  refine wp_region_held_drew (S := fun V => AtM w #[.int .i64 pt, .int .i64 px, .int .i64 py, .int .i64 pz, .int .i64 pp, .int .i64 pq, .int .i64 ps] #[.int .i64 qt, .int .i64 qx, .int .i64 qy, .int .i64 qz, .int .i64 qp, .int .i64 qq, .int .i64 qs] V) (by kernel_rfl) MD.out (fun hHeld => ?_)
  refine wpAnyH_take (i := 0) (oi := ?oi0) (v := .int .i64 s) ?hi0 (by kernel_rfl) (by kernel_rfl) (by kernel_rfl) ?hq0 ?hy0 hHeld ?rest0
  case hi0 => simp only [List.getElem?_toArray, List.getElem?_cons_zero, Option.some.injEq]; rfl
  case hq0 => exact fun _ _ _ h => h
  case hy0 =>
    refine Or.inl ⟨by kernel_rfl, fun V hV => ?_⟩
    clear hV
    go_simp
  try simp only [Go.Act.put, List.setIfInBounds_toArray, List.set_cons_zero, List.set_cons_succ]
  refine wpAnyH_take (i := 1) (oi := ?oi1) (v := .pointer (some ⟨w.heap.size, 1, none⟩)) ?hi1 (by kernel_rfl) (by kernel_rfl) (by kernel_rfl) ?hq1 ?hy1 hHeld ?rest1
  case hi1 => simp only [List.getElem?_toArray, List.getElem?_cons_succ, List.getElem?_cons_zero, Option.some.injEq]; rfl
  case hq1 => exact fun _ _ _ h => h
  case hy1 =>
    refine Or.inl ⟨by kernel_rfl, fun V hV => ?_⟩
    clear hV
    go_simp
  try simp only [Go.Act.put, List.setIfInBounds_toArray, List.set_cons_zero, List.set_cons_succ]
  refine wpAnyH_take (i := 2) (oi := ?oi2) (v := .int .i64 px) ?hi2 (by kernel_rfl) (by kernel_rfl) (by kernel_rfl) ?hq2 ?hy2 hHeld ?rest2
  case hi2 => simp only [List.getElem?_toArray, List.getElem?_cons_succ, List.getElem?_cons_zero, Option.some.injEq]; rfl
  case hq2 => exact fun _ _ _ h => h
  case hy2 =>
    refine Or.inl ⟨by kernel_rfl, fun V hV => ?_⟩
    have q1 := block_cell (AtM.p hV) 1 _ rfl; clear hV
    go_simp
  try simp only [Go.Act.put, List.setIfInBounds_toArray, List.set_cons_zero, List.set_cons_succ]
  refine wpAnyH_take (i := 3) (oi := ?oi3) (v := .pointer (some ⟨w.heap.size + 1, 1, none⟩)) ?hi3 (by kernel_rfl) (by kernel_rfl) (by kernel_rfl) ?hq3 ?hy3 hHeld ?rest3
  case hi3 => simp only [List.getElem?_toArray, List.getElem?_cons_succ, List.getElem?_cons_zero, Option.some.injEq]; rfl
  case hq3 => exact fun _ _ _ h => h
  case hy3 =>
    refine Or.inl ⟨by kernel_rfl, fun V hV => ?_⟩
    clear hV
    go_simp
  try simp only [Go.Act.put, List.setIfInBounds_toArray, List.set_cons_zero, List.set_cons_succ]
  refine wpAnyH_take (i := 4) (oi := ?oi4) (v := .int .i64 qx) ?hi4 (by kernel_rfl) (by kernel_rfl) (by kernel_rfl) ?hq4 ?hy4 hHeld ?rest4
  case hi4 => simp only [List.getElem?_toArray, List.getElem?_cons_succ, List.getElem?_cons_zero, Option.some.injEq]; rfl
  case hq4 => exact fun _ _ _ h => h
  case hy4 =>
    refine Or.inl ⟨by kernel_rfl, fun V hV => ?_⟩
    have q1 := block_cell (AtM.q hV) 1 _ rfl; clear hV
    go_simp
  try simp only [Go.Act.put, List.setIfInBounds_toArray, List.set_cons_zero, List.set_cons_succ]
  refine wpAnyH_take (i := 5) (oi := ?oi5) (v := .int .i64 (s - pt)) ?hi5 (by kernel_rfl) (by kernel_rfl) (by kernel_rfl) ?hq5 ?hy5 hHeld ?rest5
  case hi5 => simp only [List.getElem?_toArray, List.getElem?_cons_succ, List.getElem?_cons_zero, Option.some.injEq]; rfl
  case hq5 => exact fun _ _ _ h => h
  case hy5 =>
    refine Or.inl ⟨by kernel_rfl, fun V hV => ?_⟩
    clear hV
    go_simp
  try simp only [Go.Act.put, List.setIfInBounds_toArray, List.set_cons_zero, List.set_cons_succ]
  refine wpAnyH_take (i := 6) (oi := ?oi6) (v := .int .i64 (qt - pt)) ?hi6 (by kernel_rfl) (by kernel_rfl) (by kernel_rfl) ?hq6 ?hy6 hHeld ?rest6
  case hi6 => simp only [List.getElem?_toArray, List.getElem?_cons_succ, List.getElem?_cons_zero, Option.some.injEq]; rfl
  case hq6 => exact fun _ _ _ h => h
  case hy6 =>
    refine Or.inl ⟨by kernel_rfl, fun V hV => ?_⟩
    clear hV
    go_simp
  try simp only [Go.Act.put, List.setIfInBounds_toArray, List.set_cons_zero, List.set_cons_succ]
  refine wpAnyH_take (i := 8) (oi := ?oi8) (v := .pointer (some ⟨w.heap.size, 2, none⟩)) ?hi8 (by kernel_rfl) (by kernel_rfl) (by kernel_rfl) ?hq8 ?hy8 hHeld ?rest8
  case hi8 => simp only [List.getElem?_toArray, List.getElem?_cons_succ, List.getElem?_cons_zero, Option.some.injEq]; rfl
  case hq8 => exact fun _ _ _ h => h
  case hy8 =>
    refine Or.inl ⟨by kernel_rfl, fun V hV => ?_⟩
    clear hV
    go_simp
  try simp only [Go.Act.put, List.setIfInBounds_toArray, List.set_cons_zero, List.set_cons_succ]
  refine wpAnyH_take (i := 9) (oi := ?oi9) (v := .int .i64 py) ?hi9 (by kernel_rfl) (by kernel_rfl) (by kernel_rfl) ?hq9 ?hy9 hHeld ?rest9
  case hi9 => simp only [List.getElem?_toArray, List.getElem?_cons_succ, List.getElem?_cons_zero, Option.some.injEq]; rfl
  case hq9 => exact fun _ _ _ h => h
  case hy9 =>
    refine Or.inl ⟨by kernel_rfl, fun V hV => ?_⟩
    have q1 := block_cell (AtM.p hV) 2 _ rfl; clear hV
    go_simp
  try simp only [Go.Act.put, List.setIfInBounds_toArray, List.set_cons_zero, List.set_cons_succ]
  refine wpAnyH_take (i := 10) (oi := ?oi10) (v := .pointer (some ⟨w.heap.size + 1, 2, none⟩)) ?hi10 (by kernel_rfl) (by kernel_rfl) (by kernel_rfl) ?hq10 ?hy10 hHeld ?rest10
  case hi10 => simp only [List.getElem?_toArray, List.getElem?_cons_succ, List.getElem?_cons_zero, Option.some.injEq]; rfl
  case hq10 => exact fun _ _ _ h => h
  case hy10 =>
    refine Or.inl ⟨by kernel_rfl, fun V hV => ?_⟩
    clear hV
    go_simp
  try simp only [Go.Act.put, List.setIfInBounds_toArray, List.set_cons_zero, List.set_cons_succ]
  refine wpAnyH_take (i := 11) (oi := ?oi11) (v := .int .i64 qy) ?hi11 (by kernel_rfl) (by kernel_rfl) (by kernel_rfl) ?hq11 ?hy11 hHeld ?rest11
  case hi11 => simp only [List.getElem?_toArray, List.getElem?_cons_succ, List.getElem?_cons_zero, Option.some.injEq]; rfl
  case hq11 => exact fun _ _ _ h => h
  case hy11 =>
    refine Or.inl ⟨by kernel_rfl, fun V hV => ?_⟩
    have q1 := block_cell (AtM.q hV) 2 _ rfl; clear hV
    go_simp
  try simp only [Go.Act.put, List.setIfInBounds_toArray, List.set_cons_zero, List.set_cons_succ]
  refine wpAnyH_take (i := 12) (oi := ?oi12) (v := .int .i64 (s - pt)) ?hi12 (by kernel_rfl) (by kernel_rfl) (by kernel_rfl) ?hq12 ?hy12 hHeld ?rest12
  case hi12 => simp only [List.getElem?_toArray, List.getElem?_cons_succ, List.getElem?_cons_zero, Option.some.injEq]; rfl
  case hq12 => exact fun _ _ _ h => h
  case hy12 =>
    refine Or.inl ⟨by kernel_rfl, fun V hV => ?_⟩
    clear hV
    go_simp
  try simp only [Go.Act.put, List.setIfInBounds_toArray, List.set_cons_zero, List.set_cons_succ]
  refine wpAnyH_take (i := 13) (oi := ?oi13) (v := .int .i64 (qt - pt)) ?hi13 (by kernel_rfl) (by kernel_rfl) (by kernel_rfl) ?hq13 ?hy13 hHeld ?rest13
  case hi13 => simp only [List.getElem?_toArray, List.getElem?_cons_succ, List.getElem?_cons_zero, Option.some.injEq]; rfl
  case hq13 => exact fun _ _ _ h => h
  case hy13 =>
    refine Or.inl ⟨by kernel_rfl, fun V hV => ?_⟩
    clear hV
    go_simp
  try simp only [Go.Act.put, List.setIfInBounds_toArray, List.set_cons_zero, List.set_cons_succ]
  refine wpAnyH_take (i := 15) (oi := ?oi15) (v := .pointer (some ⟨w.heap.size, 3, none⟩)) ?hi15 (by kernel_rfl) (by kernel_rfl) (by kernel_rfl) ?hq15 ?hy15 hHeld ?rest15
  case hi15 => simp only [List.getElem?_toArray, List.getElem?_cons_succ, List.getElem?_cons_zero, Option.some.injEq]; rfl
  case hq15 => exact fun _ _ _ h => h
  case hy15 =>
    refine Or.inl ⟨by kernel_rfl, fun V hV => ?_⟩
    clear hV
    go_simp
  try simp only [Go.Act.put, List.setIfInBounds_toArray, List.set_cons_zero, List.set_cons_succ]
  refine wpAnyH_take (i := 16) (oi := ?oi16) (v := .int .i64 pz) ?hi16 (by kernel_rfl) (by kernel_rfl) (by kernel_rfl) ?hq16 ?hy16 hHeld ?rest16
  case hi16 => simp only [List.getElem?_toArray, List.getElem?_cons_succ, List.getElem?_cons_zero, Option.some.injEq]; rfl
  case hq16 => exact fun _ _ _ h => h
  case hy16 =>
    refine Or.inl ⟨by kernel_rfl, fun V hV => ?_⟩
    have q1 := block_cell (AtM.p hV) 3 _ rfl; clear hV
    go_simp
  try simp only [Go.Act.put, List.setIfInBounds_toArray, List.set_cons_zero, List.set_cons_succ]
  refine wpAnyH_take (i := 17) (oi := ?oi17) (v := .pointer (some ⟨w.heap.size + 1, 3, none⟩)) ?hi17 (by kernel_rfl) (by kernel_rfl) (by kernel_rfl) ?hq17 ?hy17 hHeld ?rest17
  case hi17 => simp only [List.getElem?_toArray, List.getElem?_cons_succ, List.getElem?_cons_zero, Option.some.injEq]; rfl
  case hq17 => exact fun _ _ _ h => h
  case hy17 =>
    refine Or.inl ⟨by kernel_rfl, fun V hV => ?_⟩
    clear hV
    go_simp
  try simp only [Go.Act.put, List.setIfInBounds_toArray, List.set_cons_zero, List.set_cons_succ]
  refine wpAnyH_take (i := 18) (oi := ?oi18) (v := .int .i64 qz) ?hi18 (by kernel_rfl) (by kernel_rfl) (by kernel_rfl) ?hq18 ?hy18 hHeld ?rest18
  case hi18 => simp only [List.getElem?_toArray, List.getElem?_cons_succ, List.getElem?_cons_zero, Option.some.injEq]; rfl
  case hq18 => exact fun _ _ _ h => h
  case hy18 =>
    refine Or.inl ⟨by kernel_rfl, fun V hV => ?_⟩
    have q1 := block_cell (AtM.q hV) 3 _ rfl; clear hV
    go_simp
  try simp only [Go.Act.put, List.setIfInBounds_toArray, List.set_cons_zero, List.set_cons_succ]
  refine wpAnyH_take (i := 19) (oi := ?oi19) (v := .int .i64 (s - pt)) ?hi19 (by kernel_rfl) (by kernel_rfl) (by kernel_rfl) ?hq19 ?hy19 hHeld ?rest19
  case hi19 => simp only [List.getElem?_toArray, List.getElem?_cons_succ, List.getElem?_cons_zero, Option.some.injEq]; rfl
  case hq19 => exact fun _ _ _ h => h
  case hy19 =>
    refine Or.inl ⟨by kernel_rfl, fun V hV => ?_⟩
    clear hV
    go_simp
  try simp only [Go.Act.put, List.setIfInBounds_toArray, List.set_cons_zero, List.set_cons_succ]
  refine wpAnyH_take (i := 20) (oi := ?oi20) (v := .int .i64 (qt - pt)) ?hi20 (by kernel_rfl) (by kernel_rfl) (by kernel_rfl) ?hq20 ?hy20 hHeld ?rest20
  case hi20 => simp only [List.getElem?_toArray, List.getElem?_cons_succ, List.getElem?_cons_zero, Option.some.injEq]; rfl
  case hq20 => exact fun _ _ _ h => h
  case hy20 =>
    refine Or.inl ⟨by kernel_rfl, fun V hV => ?_⟩
    clear hV
    go_simp
  try simp only [Go.Act.put, List.setIfInBounds_toArray, List.set_cons_zero, List.set_cons_succ]
  refine wpAnyH_take (i := 22) (oi := ?oi22) (v := .pointer (some ⟨w.heap.size, 4, none⟩)) ?hi22 (by kernel_rfl) (by kernel_rfl) (by kernel_rfl) ?hq22 ?hy22 hHeld ?rest22
  case hi22 => simp only [List.getElem?_toArray, List.getElem?_cons_succ, List.getElem?_cons_zero, Option.some.injEq]; rfl
  case hq22 => exact fun _ _ _ h => h
  case hy22 =>
    refine Or.inl ⟨by kernel_rfl, fun V hV => ?_⟩
    clear hV
    go_simp
  try simp only [Go.Act.put, List.setIfInBounds_toArray, List.set_cons_zero, List.set_cons_succ]
  refine wpAnyH_take (i := 23) (oi := ?oi23) (v := .int .i64 pp) ?hi23 (by kernel_rfl) (by kernel_rfl) (by kernel_rfl) ?hq23 ?hy23 hHeld ?rest23
  case hi23 => simp only [List.getElem?_toArray, List.getElem?_cons_succ, List.getElem?_cons_zero, Option.some.injEq]; rfl
  case hq23 => exact fun _ _ _ h => h
  case hy23 =>
    refine Or.inl ⟨by kernel_rfl, fun V hV => ?_⟩
    have q1 := block_cell (AtM.p hV) 4 _ rfl; clear hV
    go_simp
  try simp only [Go.Act.put, List.setIfInBounds_toArray, List.set_cons_zero, List.set_cons_succ]
  refine wpAnyH_take (i := 24) (oi := ?oi24) (v := .pointer (some ⟨w.heap.size, 5, none⟩)) ?hi24 (by kernel_rfl) (by kernel_rfl) (by kernel_rfl) ?hq24 ?hy24 hHeld ?rest24
  case hi24 => simp only [List.getElem?_toArray, List.getElem?_cons_succ, List.getElem?_cons_zero, Option.some.injEq]; rfl
  case hq24 => exact fun _ _ _ h => h
  case hy24 =>
    refine Or.inl ⟨by kernel_rfl, fun V hV => ?_⟩
    clear hV
    go_simp
  try simp only [Go.Act.put, List.setIfInBounds_toArray, List.set_cons_zero, List.set_cons_succ]
  refine wpAnyH_take (i := 25) (oi := ?oi25) (v := .int .i64 pq) ?hi25 (by kernel_rfl) (by kernel_rfl) (by kernel_rfl) ?hq25 ?hy25 hHeld ?rest25
  case hi25 => simp only [List.getElem?_toArray, List.getElem?_cons_succ, List.getElem?_cons_zero, Option.some.injEq]; rfl
  case hq25 => exact fun _ _ _ h => h
  case hy25 =>
    refine Or.inl ⟨by kernel_rfl, fun V hV => ?_⟩
    have q1 := block_cell (AtM.p hV) 5 _ rfl; clear hV
    go_simp
  try simp only [Go.Act.put, List.setIfInBounds_toArray, List.set_cons_zero, List.set_cons_succ]
  refine wpAnyH_take (i := 26) (oi := ?oi26) (v := .pointer (some ⟨w.heap.size, 6, none⟩)) ?hi26 (by kernel_rfl) (by kernel_rfl) (by kernel_rfl) ?hq26 ?hy26 hHeld ?rest26
  case hi26 => simp only [List.getElem?_toArray, List.getElem?_cons_succ, List.getElem?_cons_zero, Option.some.injEq]; rfl
  case hq26 => exact fun _ _ _ h => h
  case hy26 =>
    refine Or.inl ⟨by kernel_rfl, fun V hV => ?_⟩
    clear hV
    go_simp
  try simp only [Go.Act.put, List.setIfInBounds_toArray, List.set_cons_zero, List.set_cons_succ]
  refine wpAnyH_take (i := 27) (oi := ?oi27) (v := .int .i64 ps) ?hi27 (by kernel_rfl) (by kernel_rfl) (by kernel_rfl) ?hq27 ?hy27 hHeld ?rest27
  case hi27 => simp only [List.getElem?_toArray, List.getElem?_cons_succ, List.getElem?_cons_zero, Option.some.injEq]; rfl
  case hq27 => exact fun _ _ _ h => h
  case hy27 =>
    refine Or.inl ⟨by kernel_rfl, fun V hV => ?_⟩
    have q1 := block_cell (AtM.p hV) 6 _ rfl; clear hV
    go_simp
  try simp only [Go.Act.put, List.setIfInBounds_toArray, List.set_cons_zero, List.set_cons_succ]
  refine wpAnyH_ready (rs := [7]) (by kernel_rfl) (by simp) ?_
  refine AllReadyH.cons rfl (fun K hK => ?_) AllReadyH.nil
  go_simp
  refine (KX.out _).mono ?_
  rintro e w1 ⟨rfl, hgw1⟩
  refine hK.out _ _ (AtM.grown hHeld hgw1) (fun hHeld1 => ?_)
  clear hK K
  try simp only [Go.Act.put, List.setIfInBounds_toArray, List.set_cons_zero, List.set_cons_succ]
  refine wpAnyH_ready (rs := [14]) (by kernel_rfl) (by simp) ?_
  refine AllReadyH.cons rfl (fun K hK => ?_) AllReadyH.nil
  go_simp
  refine (KY.out _).mono ?_
  rintro e w2 ⟨rfl, hgw2⟩
  refine hK.out _ _ (AtM.grown hHeld1 hgw2) (fun hHeld2 => ?_)
  clear hK K
  try simp only [Go.Act.put, List.setIfInBounds_toArray, List.set_cons_zero, List.set_cons_succ]
  refine wpAnyH_ready (rs := [21]) (by kernel_rfl) (by simp) ?_
  refine AllReadyH.cons rfl (fun K hK => ?_) AllReadyH.nil
  go_simp
  refine (KZ.out _).mono ?_
  rintro e w3 ⟨rfl, hgw3⟩
  refine hK.out _ _ (AtM.grown hHeld2 hgw3) (fun hHeld3 => ?_)
  clear hK K
  try simp only [Go.Act.put, List.setIfInBounds_toArray, List.set_cons_zero, List.set_cons_succ]
  refine wpAnyH_take (i := 28) (oi := ?oi28) (v := .agg #[.int .i64 s, .int .i64 nx, .int .i64 ny, .int .i64 nz, .int .i64 pp, .int .i64 pq, .int .i64 ps]) ?hi28 (by kernel_rfl) (by kernel_rfl) (by kernel_rfl) ?hq28 ?hy28 hHeld3 ?rest28
  case hi28 => simp only [List.getElem?_toArray, List.getElem?_cons_succ, List.getElem?_cons_zero, Option.some.injEq]; rfl
  case hq28 => exact fun _ _ _ h => h
  case hy28 =>
    refine Or.inl ⟨by kernel_rfl, fun V hV => ?_⟩
    clear hV
    go_simp
  try simp only [Go.Act.put, List.setIfInBounds_toArray, List.set_cons_zero, List.set_cons_succ]
  refine wpAnyH_ready (rs := [29]) (by kernel_rfl) (by simp) ?_
  refine AllReadyH.cons rfl (fun K hK => ?_) AllReadyH.nil
  obtain ⟨Z, hZ, hz⟩ := hHeld3.z
  have z0 := block_cell hz 0 _ (Array.getElem?_eq_getElem (by omega))
  have y0 := block_free (k := 0) hz
  have z1 := block_cell hz 1 _ (Array.getElem?_eq_getElem (by omega))
  have y1 := block_free (k := 1) hz
  have z2 := block_cell hz 2 _ (Array.getElem?_eq_getElem (by omega))
  have y2 := block_free (k := 2) hz
  have z3 := block_cell hz 3 _ (Array.getElem?_eq_getElem (by omega))
  have y3 := block_free (k := 3) hz
  have z4 := block_cell hz 4 _ (Array.getElem?_eq_getElem (by omega))
  have y4 := block_free (k := 4) hz
  have z5 := block_cell hz 5 _ (Array.getElem?_eq_getElem (by omega))
  have y5 := block_free (k := 5) hz
  have z6 := block_cell hz 6 _ (Array.getElem?_eq_getElem (by omega))
  have y6 := block_free (k := 6) hz
  have HH3 := Lib.hid hHeld3
  clear hHeld3 hHeld2 hHeld1 hHeld hz
  go_simp
  refine hK.out _ _ (((((((HH3.out.set 0 _).set 1 _).set 2 _).set 3 _).set 4 _).set 5 _).set 6 _) (fun hHeld4 => ?_)
  refine wpAnyH_done (by kernel_rfl) ?_ _
  clear hK K
  have G4 := hHeld4.g
  clear hHeld4
  go_wp2_with fail
  refine bodyPost_ret (v := .agg #[.int .i64 s, .int .i64 nx, .int .i64 ny, .int .i64 nz, .int .i64 pp, .int .i64 pq, .int .i64 ps]) (by simp [results, Try.results124, go_sem, z0, z1, z2, z3, z4, z5, z6]) rfl ⟨by rw [HR.out], G4⟩
end Go.Proofs.Ytgkhhfojioepgaa
namespace Go.Proofs.Ytgkhhfojioepgaa
open Go.RowKit
set_option linter.unusedSimpArgs false
set_option linter.unusedVariables false

/-- The number of the first sample that is not before a second. -/
def SIdx (ss : List Smp) (s : Int) (m : Nat) : Prop := m ≤ ss.length ∧ (∀ j, j < m → (smpD ss j).t < s) ∧ (∀ j, m ≤ j → j < ss.length → s ≤ (smpD ss j).t)
theorem times_le {ss : List Smp} (h : SOk ss) {i j : Nat} (hij : i ≤ j) (hj : j < ss.length) : (smpD ss i).t ≤ (smpD ss j).t := by
  induction j with
  | zero => obtain rfl : i = 0 := (by omega); exact Int.le_refl _
  | succ j ih =>
    rcases Nat.lt_or_ge i (j + 1) with q | q
    · have := ih (by omega) (by omega); have := h.up j hj; omega
    · obtain rfl : i = j + 1 := (by omega); exact Int.le_refl _
theorem sidx_any {ss : List Smp} (h : SOk ss) (s : Int) : ∃ m, SIdx ss s m := by
  have q : ∀ n, n ≤ ss.length → ∃ m, m ≤ n ∧ (∀ j, j < m → (smpD ss j).t < s) ∧ (m < n → s ≤ (smpD ss m).t) := fun n => by
    induction n with
    | zero => intro _; exact ⟨0, Nat.le_refl _, fun j hj => absurd hj (by omega), fun h => absurd h (by omega)⟩
    | succ n ih =>
      intro hn
      obtain ⟨m, h1, h2, h3⟩ := ih (by omega)
      rcases Nat.lt_or_ge m n with r | r
      · exact ⟨m, by omega, h2, fun _ => h3 r⟩
      · obtain rfl : m = n := (by omega)
        rcases Int.lt_or_le (smpD ss m).t s with c | c
        · exact ⟨m + 1, Nat.le_refl _, fun j hj => by
            rcases Nat.lt_or_ge j m with e | e
            · exact h2 j e
            · obtain rfl : j = m := (by omega); exact c, fun h => absurd h (by omega)⟩
        · exact ⟨m, by omega, h2, fun _ => c⟩
  obtain ⟨m, h1, h2, h3⟩ := q _ (Nat.le_refl _)
  exact ⟨m, h1, h2, fun j hj hl => Int.le_trans (h3 (by omega)) (times_le h hj hl)⟩
theorem sidx_one {ss : List Smp} {s : Int} {m k : Nat} (h : SIdx ss s m) (h' : SIdx ss s k) : m = k := by
  rcases Nat.lt_trichotomy m k with q | q | q
  · have a := h'.2.1 m q; have b := h.2.2 m (Nat.le_refl _) (by have := h'.1; omega); omega
  · exact q
  · have a := h.2.1 k q; have b := h'.2.2 k (Nat.le_refl _) (by have := h.1; omega); omega

theorem search1_is (x : Smp) (s : Int) (w : World) {c : Int} (h : Hid (Lib.compareInt x.t s = c)) :
    Calls Try.prog 161 #[.agg #[.int .i64 x.t, .int .i64 x.x, .int .i64 x.y, .int .i64 x.z, .int .i64 x.p, .int .i64 x.q, .int .i64 x.s], .int .i64 s] w fun e w' => e = .returned (.int .i64 c) ∧ w.grownBy w' none := by
  obtain ⟨xt, xx, xy, xz, xp, xq, xs⟩ := x
  simp only at h ⊢
  have G := Lib.hid (World.grownBy_alloc w (.cells #[.int .i64 xt, .int .i64 xx, .int .i64 xy, .int .i64 xz, .int .i64 xp, .int .i64 xq, .int .i64 xs] 28) none)
  go_enter Try.func161, Try.ntmps161
  go_wp2_with fail
  refine (Try.cmp_Compare_int xt s _).mono ?_; rintro e w1 ⟨rfl, rfl⟩
  rw [h.out]
  go_wp2_with fail
  go_ret
  exact ⟨rfl, G.out⟩

set_option maxHeartbeats 1600000 in
theorem bsearch_is (b off cap : Nat) (ss : List Smp) (hl : (ss.length : Int) ≤ 20000) (s : Int) {m : Nat} (HM : Hid (SIdx ss s m)) (w : World) (hs : SmpsAt w (some ⟨b, off, none⟩) ss) {f : Bool} (hf : Hid (decide (m < ss.length ∧ (smpD ss m).t = s) = f)) :
    Calls Try.prog 160 #[.slice (some ⟨b, off, none⟩) ss.length cap, .int .i64 s, .func (.func 161) #[] #[]] w fun e w' => e = .returned (.tuple #[.int .i64 m, .bool f]) ∧ w.grownBy w' none := by
  have HS := Lib.hid hs; clear hs
  go_enter Try.func160, Try.ntmps160
  go_wp2_with fail
  go_loopw [9, 10] (fun s5 s6 wr => ∃ (lo hi : Nat), s5 = .int .i64 lo ∧ s6 = .int .i64 hi ∧ hi ≤ ss.length ∧ Hid (lo ≤ m ∧ m ≤ hi) ∧ Hid (w.grownBy wr none))
    (fun s5 s6 _ => (intOf s6).toNat - (intOf s5).toNat)
  case atStart => exact ⟨0, ss.length, rfl, rfl, Nat.le_refl _, ⟨Nat.zero_le _, HM.out.1⟩, grown_refl _ _⟩
  case round =>
    obtain ⟨lo, hi, rfl, rfl, hin, hM, hg⟩ := hrel
    by_cases hlt : lo < hi
    · obtain ⟨mid, hmid⟩ : ∃ mid, mid = (lo + hi) / 2 := ⟨_, rfl⟩
      have hmi : ((lo : Int) + (hi : Int)) / 2 = (mid : Int) := by omega
      have hml : mid < ss.length := by omega
      have hml2 : (mid : Int) < (ss.length : Int) := by omega
      have HMID := Lib.hid hmid
      obtain ⟨p0, p1, p2, p3, p4, p5, p6⟩ := (HS.out.grown hg.out).cells _ rfl mid hml
      rw [← smpD_at hml] at p0 p1 p2 p3 p4 p5 p6
      simp only at p0 p1 p2 p3 p4 p5 p6
      by_cases hc : (smpD ss mid).t < s
      · have hcv : Hid (Lib.compareInt (smpD ss mid).t s = -1) := by show _ = _; unfold Lib.compareInt; rw [if_pos hc]
        have HM2 : Hid (mid + 1 ≤ m ∧ m ≤ hi) := by
          refine ⟨?_, hM.out.2⟩
          rcases Nat.lt_or_ge mid m with q | q
          · exact q
          · have := HM.out.2.2 mid q hml; omega
        clear hmid
        go_wp2_with fail
        refine (search1_is (smpD ss mid) s _ hcv).mono ?_; rintro e w1 ⟨rfl, hg1⟩
        have GN := Lib.hid (grown_trans hg.out hg1)
        clear hg1 hg p0 p1 p2 p3 p4 p5 p6
        go_wp2_with fail
        go_roundw
        case rel => exact ⟨mid + 1, hi, by go_num, rfl, hin, HM2.out, GN.out⟩
        case measure => have := HMID.out; simp [intOf]; omega
      · obtain ⟨c, hcc⟩ : ∃ c, Lib.compareInt (smpD ss mid).t s = c := ⟨_, rfl⟩
        have hc0 : 0 ≤ c := by rw [← hcc]; unfold Lib.compareInt; rw [if_neg hc]; split <;> omega
        have HCC := Lib.hid hcc
        have HM2 : Hid (lo ≤ m ∧ m ≤ mid) := by
          refine ⟨hM.out.1, ?_⟩
          rcases Nat.lt_or_ge mid m with q | q
          · have := HM.out.2.1 mid q; omega
          · exact q
        have hcd : decide (c < 0) = false := by simp; omega
        clear hmid hcc
        go_wp2_with fail
        refine (search1_is (smpD ss mid) s _ HCC).mono ?_; rintro e w1 ⟨rfl, hg1⟩
        have GN := Lib.hid (grown_trans hg.out hg1)
        clear hg1 hg p0 p1 p2 p3 p4 p5 p6
        go_wp2_with fail
        go_roundw
        case rel => exact ⟨lo, mid, rfl, rfl, by omega, HM2.out, GN.out⟩
        case measure => have := HMID.out; simp [intOf]; omega
    · obtain rfl : lo = m := by have := hM.out; omega
      have hf2 := hf.out
      by_cases hln : lo < ss.length
      · have hml2 : (lo : Int) < (ss.length : Int) := by omega
        obtain ⟨p0, p1, p2, p3, p4, p5, p6⟩ := (HS.out.grown hg.out).cells _ rfl lo hln
        rw [← smpD_at hln] at p0 p1 p2 p3 p4 p5 p6
        simp only at p0 p1 p2 p3 p4 p5 p6
        obtain ⟨c, hcc⟩ : ∃ c, Lib.compareInt (smpD ss lo).t s = c := ⟨_, rfl⟩
        have HCC := Lib.hid hcc
        have hfe : Hid ((c == 0) = f) := by
          show _ = _
          rw [← hf2, ← hcc]
          unfold Lib.compareInt
          by_cases e1 : (smpD ss lo).t < s
          · rw [if_pos e1]; simp; omega
          · rw [if_neg e1]
            by_cases e2 : (smpD ss lo).t > s
            · rw [if_pos e2]; simp; omega
            · rw [if_neg e2]; simp; omega
        clear hcc hf2 hf
        go_wp2_with fail
        refine (search1_is (smpD ss lo) s _ HCC).mono ?_; rintro e w1 ⟨rfl, hg1⟩
        have GN := Lib.hid (grown_trans hg.out hg1)
        clear hg1 hg p0 p1 p2 p3 p4 p5 p6
        go_wp2_with fail
        have hfe2 := hfe.out
        subst hfe2
        go_ret2
        exact ⟨rfl, GN.out⟩
      · have hfe : f = false := by rw [← hf2]; simp; omega
        subst hfe
        have hml2 : ¬ ((lo : Int) < (ss.length : Int)) := by omega
        clear hf2
        go_wp2_with fail
        go_ret2
        exact ⟨rfl, hg.out⟩

theorem searchS_is (b off cap : Nat) (ss : List Smp) (hl : (ss.length : Int) ≤ 20000) (s : Int) {m : Nat} (HM : Hid (SIdx ss s m)) (w : World) (hs : SmpsAt w (some ⟨b, off, none⟩) ss) {f : Bool} (hf : Hid (decide (m < ss.length ∧ (smpD ss m).t = s) = f)) :
    Calls Try.prog 118 #[.slice (some ⟨b, off, none⟩) ss.length cap, .int .i64 s] w fun e w' => e = .returned (.tuple #[.int .i64 m, .bool f]) ∧ w.grownBy w' none := by
  have HS := Lib.hid hs; clear hs
  go_enter Try.func118, Try.ntmps118
  go_wp2_with fail
  refine (bsearch_is b off cap ss hl s HM _ HS.out hf).mono ?_; rintro e w1 ⟨rfl, hg1⟩
  go_wp2_with fail
  go_ret2
  exact ⟨rfl, hg1⟩

/-- Where somebody was at a second, the number of the first sample not before it at hand. -/
noncomputable def atV (ss : List Smp) (s : Int) (m : Nat) : Smp := if (smpD ss m).t = s then smpD ss m else onV (smpD ss (m - 1)) (smpD ss m) s
theorem smpIn_of {ss : List Smp} (h : SOk ss) {i : Nat} (hi : i < ss.length) : SmpIn (smpD ss i) := by
  obtain ⟨a, b, c, d, _⟩ := h.inn i hi
  exact ⟨⟨a, b⟩, c, d.1, d.2⟩
end Go.Proofs.Ytgkhhfojioepgaa
namespace Go.Proofs.Ytgkhhfojioepgaa
open Go.RowKit
set_option linter.unusedSimpArgs false
set_option linter.unusedVariables false

set_option maxRecDepth 100000 in
set_option maxHeartbeats 3200000 in
theorem sampleAt_is (b off cap : Nat) (ss : List Smp) (HS : Hid (SOk ss)) (s : Int) {m : Nat} (HM : Hid (SIdx ss s m)) (hml : m < ss.length) (hs0 : 0 ≤ s) (w : World) (hs : SmpsAt w (some ⟨b, off, none⟩) ss) {x : Smp} (hx : Hid (atV ss s m = x)) :
    Calls Try.prog 57 #[.slice (some ⟨b, off, none⟩) ss.length cap, .int .i64 s] w fun e w' => e = .returned (smpVal x) ∧ w.grownBy w' none := by
  have hl : (ss.length : Int) ≤ 20000 := HS.out.len
  have HA := Lib.hid hs
  have GA := Lib.hid (World.grownBy_alloc w (.cells #[.int .i64 0, .int .i64 0, .int .i64 0, .int .i64 0, .int .i64 0, .int .i64 0, .int .i64 0] 28) none)
  have HZ : Hid ((w.alloc (.cells #[.int .i64 0, .int .i64 0, .int .i64 0, .int .i64 0, .int .i64 0, .int .i64 0, .int .i64 0] 28)).heap[w.heap.size]? = some (.cells #[.int .i64 0, .int .i64 0, .int .i64 0, .int .i64 0, .int .i64 0, .int .i64 0, .int .i64 0] 28 (0, 0))) := heap_alloc_new w _
  have hm2 : (m : Int) < (ss.length : Int) := by omega
  obtain ⟨q0, q1, q2, q3, q4, q5, q6⟩ := hs.cells _ rfl m hml
  rw [← smpD_at hml] at q0 q1 q2 q3 q4 q5 q6
  simp only at q0 q1 q2 q3 q4 q5 q6
  have hxv := hx.out
  unfold atV at hxv
  have hle := HM.out.2.2 m (Nat.le_refl _) hml
  have hqi := smpIn_of HS.out hml
  by_cases he : (smpD ss m).t = s
  · rw [if_pos he] at hxv
    have HF : Hid (decide (m < ss.length ∧ (smpD ss m).t = s) = true) := by show _ = _; simp; exact ⟨hml, he⟩
    clear hx hs hqi hle he
    unfold smpVal
    go_enter Try.func57, Try.ntmps57
    go_wp2_with fail
    refine (searchS_is b off cap ss hl s HM _ (HA.out.grown GA.out) HF).mono ?_; rintro e w1 ⟨rfl, hg1⟩
    have GG := Lib.hid (grown_trans GA.out hg1)
    replace q0 := grown_cell GG.out q0; replace q1 := grown_cell GG.out q1; replace q2 := grown_cell GG.out q2; replace q3 := grown_cell GG.out q3; replace q4 := grown_cell GG.out q4; replace q5 := grown_cell GG.out q5; replace q6 := grown_cell GG.out q6
    have hz := (hg1.block _ (lt_of_block HZ.out) (by simp)).trans HZ.out
    have z0 := block_cell hz 0 _ rfl
    have y0 := block_free (k := 0) hz
    have z1 := block_cell hz 1 _ rfl
    have y1 := block_free (k := 1) hz
    have z2 := block_cell hz 2 _ rfl
    have y2 := block_free (k := 2) hz
    have z3 := block_cell hz 3 _ rfl
    have y3 := block_free (k := 3) hz
    have z4 := block_cell hz 4 _ rfl
    have y4 := block_free (k := 4) hz
    have z5 := block_cell hz 5 _ rfl
    have y5 := block_free (k := 5) hz
    have z6 := block_cell hz 6 _ rfl
    have y6 := block_free (k := 6) hz
    rw [hxv] at q0 q1 q2 q3 q4 q5 q6
    obtain ⟨x0, x1, x2, x3, x4, x5, x6⟩ := x
    simp only at q0 q1 q2 q3 q4 q5 q6
    clear hz hg1 hxv
    go_wp2_with fail
    refine bodyPost_ret (v := .agg #[.int .i64 x0, .int .i64 x1, .int .i64 x2, .int .i64 x3, .int .i64 x4, .int .i64 x5, .int .i64 x6]) (by simp [results, Try.results57, go_sem, z0, z1, z2, z3, z4, z5, z6]) rfl ⟨rfl, ?_⟩
    exact grown_far (grown_far (grown_far (grown_far (grown_far (grown_far (grown_far GG.out (Nat.le_refl _) _ _) (Nat.le_refl _) _ _) (Nat.le_refl _) _ _) (Nat.le_refl _) _ _) (Nat.le_refl _) _ _) (Nat.le_refl _) _ _) (Nat.le_refl _) _ _
  · rw [if_neg he] at hxv
    have HF : Hid (decide (m < ss.length ∧ (smpD ss m).t = s) = false) := by show _ = _; simp; intro _; exact he
    have hm0 : 0 < m := by
      rcases Nat.eq_zero_or_pos m with e | e
      · have h0 := HS.out.t0 (by omega)
        rw [e] at hle he
        omega
      · exact e
    obtain ⟨k, hk⟩ : ∃ k, m - 1 = k := ⟨_, rfl⟩
    have hkl : k < ss.length := by omega
    have hlt := HM.out.2.1 k (by omega)
    have hpi := smpIn_of HS.out hkl
    obtain ⟨p0, p1, p2, p3, p4, p5, p6⟩ := hs.cells _ rfl k hkl
    rw [← smpD_at hkl] at p0 p1 p2 p3 p4 p5 p6
    simp only at p0 p1 p2 p3 p4 p5 p6
    rw [hk] at hxv
    have KO : Hid (∀ V : World, Calls Try.prog 119 #[smpVal (smpD ss k), smpVal (smpD ss m), .int .i64 s] V fun e w' => e = .returned (smpVal x) ∧ V.grownBy w' none) := fun V => onStep_is (smpD ss k) (smpD ss m) s hpi hqi (by omega) hle (by omega) V (Lib.hid hxv)
    have rk : IntKind.i64.wrap ((m : Int) - 1) = (k : Int) := by rw [show (m : Int) - 1 = (k : Int) by omega]; exact IntWalk.i64_in _ (by omega)
    have hk2 : (k : Int) < (ss.length : Int) := by omega
    have hk0 : (0 : Int) ≤ (k : Int) := by omega
    have hm00 : (0 : Int) ≤ (m : Int) := by omega
    have KS : Hid (∀ V : World, SmpsAt V (some ⟨b, off, none⟩) ss → Calls Try.prog 118 #[.slice (some ⟨b, off, none⟩) ss.length cap, .int .i64 s] V fun e w' => e = .returned (.tuple #[.int .i64 m, .bool false]) ∧ V.grownBy w' none) := fun V hV => searchS_is b off cap ss hl s HM V hV HF
    clear HF
    generalize smpD ss k = P at *
    generalize smpD ss m = Q at *
    obtain ⟨pt, px, py, pz, pp, pq, ps⟩ := P
    obtain ⟨qt, qx, qy, qz, qp, qq, qs⟩ := Q
    simp only at p0 p1 p2 p3 p4 p5 p6 q0 q1 q2 q3 q4 q5 q6
    unfold smpVal at KO ⊢
    simp only at KO
    have HPQ := Lib.hid (And.intro (And.intro p0 (And.intro p1 (And.intro p2 (And.intro p3 (And.intro p4 (And.intro p5 p6)))))) (And.intro q0 (And.intro q1 (And.intro q2 (And.intro q3 (And.intro q4 (And.intro q5 q6)))))))
    clear hx hs hqi hle he hpi hlt hxv hk p0 p1 p2 p3 p4 p5 p6 q0 q1 q2 q3 q4 q5 q6
    go_enter Try.func57, Try.ntmps57
    go_wp2_with fail
    refine (KS.out _ (HA.out.grown GA.out)).mono ?_; rintro e w1 ⟨rfl, hg1⟩
    have GG := Lib.hid (grown_trans GA.out hg1)
    have HZ1 := Lib.hid ((hg1.block _ (lt_of_block HZ.out) (by simp)).trans HZ.out)
    have HC : Hid (∀ V, (w.grownBy V none ∧ ∃ c : Array Value, c.size = 7 ∧ V.heap[w.heap.size]? = some (.cells c 28 (0, 0))) → (World.cell? V ⟨b, off + k * 7, none⟩ = some (.int .i64 pt) ∧ World.cell? V ⟨b, off + k * 7 + 1, none⟩ = some (.int .i64 px) ∧ World.cell? V ⟨b, off + k * 7 + 2, none⟩ = some (.int .i64 py) ∧ World.cell? V ⟨b, off + k * 7 + 3, none⟩ = some (.int .i64 pz) ∧ World.cell? V ⟨b, off + k * 7 + 4, none⟩ = some (.int .i64 pp) ∧ World.cell? V ⟨b, off + k * 7 + 5, none⟩ = some (.int .i64 pq) ∧ World.cell? V ⟨b, off + k * 7 + 6, none⟩ = some (.int .i64 ps)) ∧ (World.cell? V ⟨b, off + m * 7, none⟩ = some (.int .i64 qt) ∧ World.cell? V ⟨b, off + m * 7 + 1, none⟩ = some (.int .i64 qx) ∧ World.cell? V ⟨b, off + m * 7 + 2, none⟩ = some (.int .i64 qy) ∧ World.cell? V ⟨b, off + m * 7 + 3, none⟩ = some (.int .i64 qz) ∧ World.cell? V ⟨b, off + m * 7 + 4, none⟩ = some (.int .i64 qp) ∧ World.cell? V ⟨b, off + m * 7 + 5, none⟩ = some (.int .i64 qq) ∧ World.cell? V ⟨b, off + m * 7 + 6, none⟩ = some (.int .i64 qs))) := fun V hV => by
      obtain ⟨⟨p0, p1, p2, p3, p4, p5, p6⟩, q0, q1, q2, q3, q4, q5, q6⟩ := HPQ.out
      exact ⟨⟨grown_cell hV.1 p0, grown_cell hV.1 p1, grown_cell hV.1 p2, grown_cell hV.1 p3, grown_cell hV.1 p4, grown_cell hV.1 p5, grown_cell hV.1 p6⟩, grown_cell hV.1 q0, grown_cell hV.1 q1, grown_cell hV.1 q2, grown_cell hV.1 q3, grown_cell hV.1 q4, grown_cell hV.1 q5, grown_cell hV.1 q6⟩
    clear hg1
    go_wp2_with fail
    refine wp_region_held_drew (S := fun V => w.grownBy V none ∧ ∃ c : Array Value, c.size = 7 ∧ V.heap[w.heap.size]? = some (.cells c 28 (0, 0))) (by kernel_rfl) ⟨grown_trans GG.out (grown_drewN _ _ 1), _, rfl, HZ1.out⟩ (fun hHeld => ?_)
    refine wpAnyH_take (i := 0) (oi := ?oi0) (v := .slice (some ⟨b, off, none⟩) ss.length cap) ?hi0 (by kernel_rfl) (by kernel_rfl) (by kernel_rfl) ?hq0 ?hy0 hHeld ?rest0
    case hi0 => simp only [List.getElem?_toArray, List.getElem?_cons_zero, Option.some.injEq]; rfl
    case hq0 => exact fun _ _ _ h => h
    case hy0 =>
      refine Or.inl ⟨by kernel_rfl, fun V hV => ?_⟩
      clear hV
      go_simp
    try simp only [Go.Act.put, List.setIfInBounds_toArray, List.set_cons_zero, List.set_cons_succ]
    refine wpAnyH_take (i := 1) (oi := ?oi1) (v := .int .i64 (m : Nat)) ?hi1 (by kernel_rfl) (by kernel_rfl) (by kernel_rfl) ?hq1 ?hy1 hHeld ?rest1
    case hi1 => simp only [List.getElem?_toArray, List.getElem?_cons_succ, List.getElem?_cons_zero, Option.some.injEq]; rfl
    case hq1 => exact fun _ _ _ h => h
    case hy1 =>
      refine Or.inl ⟨by kernel_rfl, fun V hV => ?_⟩
      clear hV
      go_simp
    try simp only [Go.Act.put, List.setIfInBounds_toArray, List.set_cons_zero, List.set_cons_succ]
    refine wpAnyH_take (i := 2) (oi := ?oi2) (v := .int .i64 (k : Nat)) ?hi2 (by kernel_rfl) (by kernel_rfl) (by kernel_rfl) ?hq2 ?hy2 hHeld ?rest2
    case hi2 => simp only [List.getElem?_toArray, List.getElem?_cons_succ, List.getElem?_cons_zero, Option.some.injEq]; rfl
    case hq2 => exact fun _ _ _ h => h
    case hy2 =>
      refine Or.inl ⟨by kernel_rfl, fun V hV => ?_⟩
      clear hV
      go_simp
    try simp only [Go.Act.put, List.setIfInBounds_toArray, List.set_cons_zero, List.set_cons_succ]
    refine wpAnyH_take (i := 3) (oi := ?oi3) (v := .pointer (some ⟨b, off + k * 7, none⟩)) ?hi3 (by kernel_rfl) (by kernel_rfl) (by kernel_rfl) ?hq3 ?hy3 hHeld ?rest3
    case hi3 => simp only [List.getElem?_toArray, List.getElem?_cons_succ, List.getElem?_cons_zero, Option.some.injEq]; rfl
    case hq3 => exact fun _ _ _ h => h
    case hy3 =>
      refine Or.inl ⟨by kernel_rfl, fun V hV => ?_⟩
      clear hV
      go_simp
    try simp only [Go.Act.put, List.setIfInBounds_toArray, List.set_cons_zero, List.set_cons_succ]
    refine wpAnyH_take (i := 4) (oi := ?oi4) (v := .agg #[.int .i64 pt, .int .i64 px, .int .i64 py, .int .i64 pz, .int .i64 pp, .int .i64 pq, .int .i64 ps]) ?hi4 (by kernel_rfl) (by kernel_rfl) (by kernel_rfl) ?hq4 ?hy4 hHeld ?rest4
    case hi4 => simp only [List.getElem?_toArray, List.getElem?_cons_succ, List.getElem?_cons_zero, Option.some.injEq]; rfl
    case hq4 => exact fun _ _ _ h => h
    case hy4 =>
      refine Or.inl ⟨by kernel_rfl, fun V hV => ?_⟩
      have H7 := (HC.out V hV).1; obtain ⟨p0, p1, p2, p3, p4, p5, p6⟩ := H7; clear hV
      go_simp
    try simp only [Go.Act.put, List.setIfInBounds_toArray, List.set_cons_zero, List.set_cons_succ]
    refine wpAnyH_take (i := 5) (oi := ?oi5) (v := .slice (some ⟨b, off, none⟩) ss.length cap) ?hi5 (by kernel_rfl) (by kernel_rfl) (by kernel_rfl) ?hq5 ?hy5 hHeld ?rest5
    case hi5 => simp only [List.getElem?_toArray, List.getElem?_cons_succ, List.getElem?_cons_zero, Option.some.injEq]; rfl
    case hq5 => exact fun _ _ _ h => h
    case hy5 =>
      refine Or.inl ⟨by kernel_rfl, fun V hV => ?_⟩
      clear hV
      go_simp
    try simp only [Go.Act.put, List.setIfInBounds_toArray, List.set_cons_zero, List.set_cons_succ]
    refine wpAnyH_take (i := 6) (oi := ?oi6) (v := .int .i64 (m : Nat)) ?hi6 (by kernel_rfl) (by kernel_rfl) (by kernel_rfl) ?hq6 ?hy6 hHeld ?rest6
    case hi6 => simp only [List.getElem?_toArray, List.getElem?_cons_succ, List.getElem?_cons_zero, Option.some.injEq]; rfl
    case hq6 => exact fun _ _ _ h => h
    case hy6 =>
      refine Or.inl ⟨by kernel_rfl, fun V hV => ?_⟩
      clear hV
      go_simp
    try simp only [Go.Act.put, List.setIfInBounds_toArray, List.set_cons_zero, List.set_cons_succ]
    refine wpAnyH_take (i := 7) (oi := ?oi7) (v := .pointer (some ⟨b, off + m * 7, none⟩)) ?hi7 (by kernel_rfl) (by kernel_rfl) (by kernel_rfl) ?hq7 ?hy7 hHeld ?rest7
    case hi7 => simp only [List.getElem?_toArray, List.getElem?_cons_succ, List.getElem?_cons_zero, Option.some.injEq]; rfl
    case hq7 => exact fun _ _ _ h => h
    case hy7 =>
      refine Or.inl ⟨by kernel_rfl, fun V hV => ?_⟩
      clear hV
      go_simp
    try simp only [Go.Act.put, List.setIfInBounds_toArray, List.set_cons_zero, List.set_cons_succ]
    refine wpAnyH_take (i := 8) (oi := ?oi8) (v := .agg #[.int .i64 qt, .int .i64 qx, .int .i64 qy, .int .i64 qz, .int .i64 qp, .int .i64 qq, .int .i64 qs]) ?hi8 (by kernel_rfl) (by kernel_rfl) (by kernel_rfl) ?hq8 ?hy8 hHeld ?rest8
    case hi8 => simp only [List.getElem?_toArray, List.getElem?_cons_succ, List.getElem?_cons_zero, Option.some.injEq]; rfl
    case hq8 => exact fun _ _ _ h => h
    case hy8 =>
      refine Or.inl ⟨by kernel_rfl, fun V hV => ?_⟩
      have H7 := (HC.out V hV).2; obtain ⟨q0, q1, q2, q3, q4, q5, q6⟩ := H7; clear hV
      go_simp
    try simp only [Go.Act.put, List.setIfInBounds_toArray, List.set_cons_zero, List.set_cons_succ]
    refine wpAnyH_take (i := 9) (oi := ?oi9) (v := .int .i64 s) ?hi9 (by kernel_rfl) (by kernel_rfl) (by kernel_rfl) ?hq9 ?hy9 hHeld ?rest9
    case hi9 => simp only [List.getElem?_toArray, List.getElem?_cons_succ, List.getElem?_cons_zero, Option.some.injEq]; rfl
    case hq9 => exact fun _ _ _ h => h
    case hy9 =>
      refine Or.inl ⟨by kernel_rfl, fun V hV => ?_⟩
      clear hV
      go_simp
    try simp only [Go.Act.put, List.setIfInBounds_toArray, List.set_cons_zero, List.set_cons_succ]
    refine wpAnyH_ready (rs := [10]) (by kernel_rfl) (by simp) ?_
    refine AllReadyH.cons rfl (fun K hK => ?_) AllReadyH.nil
    go_simp
    refine (KO.out _).mono ?_
    rintro e w5 ⟨rfl, hg5⟩
    refine hK.out _ _ ?_ (fun hHeld1 => ?_)
    · obtain ⟨h1, c, h2, h3⟩ := hHeld
      exact ⟨grown_trans h1 hg5, c, h2, (hg5.block _ (lt_of_block h3) (by simp)).trans h3⟩
    clear hK K
    try simp only [Go.Act.put, List.setIfInBounds_toArray, List.set_cons_zero, List.set_cons_succ]
    refine wpAnyH_ready (rs := [11]) (by kernel_rfl) (by simp) ?_
    refine AllReadyH.cons rfl (fun K hK => ?_) AllReadyH.nil
    obtain ⟨g5, c, hc, hz⟩ := hHeld1
    have z0 := block_cell hz 0 _ (Array.getElem?_eq_getElem (show 0 < c.size from hc.symm ▸ (by decide : 0 < 7)))
    have y0 := block_free (k := 0) hz
    have z1 := block_cell hz 1 _ (Array.getElem?_eq_getElem (show 1 < c.size from hc.symm ▸ (by decide : 1 < 7)))
    have y1 := block_free (k := 1) hz
    have z2 := block_cell hz 2 _ (Array.getElem?_eq_getElem (show 2 < c.size from hc.symm ▸ (by decide : 2 < 7)))
    have y2 := block_free (k := 2) hz
    have z3 := block_cell hz 3 _ (Array.getElem?_eq_getElem (show 3 < c.size from hc.symm ▸ (by decide : 3 < 7)))
    have y3 := block_free (k := 3) hz
    have z4 := block_cell hz 4 _ (Array.getElem?_eq_getElem (show 4 < c.size from hc.symm ▸ (by decide : 4 < 7)))
    have y4 := block_free (k := 4) hz
    have z5 := block_cell hz 5 _ (Array.getElem?_eq_getElem (show 5 < c.size from hc.symm ▸ (by decide : 5 < 7)))
    have y5 := block_free (k := 5) hz
    have z6 := block_cell hz 6 _ (Array.getElem?_eq_getElem (show 6 < c.size from hc.symm ▸ (by decide : 6 < 7)))
    have y6 := block_free (k := 6) hz
    have G5 := Lib.hid g5; have HZ5 := Lib.hid hz; have HC7 := Lib.hid hc
    clear hHeld g5 hz hg5
    go_simp
    refine hK.out _ _ ⟨grown_far (grown_far (grown_far (grown_far (grown_far (grown_far (grown_far G5.out (Nat.le_refl _) _ _) (Nat.le_refl _) _ _) (Nat.le_refl _) _ _) (Nat.le_refl _) _ _) (Nat.le_refl _) _ _) (Nat.le_refl _) _ _) (Nat.le_refl _) _ _, _, ?_, block_set (block_set (block_set (block_set (block_set (block_set (block_set HZ5.out _) _) _) _) _) _) _⟩ (fun hHeld4 => ?_)
    · simpa using HC7.out
    refine wpAnyH_done (by kernel_rfl) ?_ _
    clear hK K
    have G6 := hHeld4.1
    clear hHeld4
    go_wp2_with fail
    refine bodyPost_ret (v := .agg #[.int .i64 x.t, .int .i64 x.x, .int .i64 x.y, .int .i64 x.z, .int .i64 x.p, .int .i64 x.q, .int .i64 x.s]) (by simp [results, Try.results57, go_sem, z0, z1, z2, z3, z4, z5, z6]) rfl ⟨rfl, G6⟩
end Go.Proofs.Ytgkhhfojioepgaa
namespace Go.Proofs.Ytgkhhfojioepgaa
open Go.RowKit
set_option linter.unusedSimpArgs false
set_option linter.unusedVariables false

attribute [local go_sem] Oper.semAt_some

theorem cinfo_smps : (Try.prog.info? 28).map (fun i => (i.zero, i.size, i.bytes)) = some (some (.agg #[.int .i64 0, .int .i64 0, .int .i64 0, .int .i64 0, .int .i64 0, .int .i64 0, .int .i64 0]), 7, 56) := by kernel_rfl
set_option maxHeartbeats 2000000 in
set_option maxRecDepth 100000 in
theorem clone_smps (ao : Option Addr) (cap : Nat) (L : List Smp) (hn : L.length ≤ 20000) (w : World) (h : SmpsAt w ao L) :
    Calls Try.prog 125 #[.slice ao L.length cap] w fun e w' => (∃ v, e = .returned v ∧ w'.ownsRow w.heap.size 28 7 v L.length (smpRw L)) ∧ w.grownBy w' none := by
  have q22 : ∀ (w : World) (a : Option Addr) (n c n' c' : Nat), (binOp .eql 22 (.slice a n c) (.slice none n' c')).run Try.prog w = .ok (.bool a.isNone) w := fun w a n c n' c' => Lib.run_eql_slice_nil w _ _ a n c n' c' Try.underlying22
  obtain ⟨i0, hi, hz0, hz1, hz2⟩ := info_parts cinfo_smps
  have A := Lib.hid h
  clear h
  cases ao with
  | none =>
    have hl : L = [] := A.out.nil rfl
    subst hl
    clear A hi hz0 hz1 hz2
    simp only [List.length_nil]
    go_enter Try.func125, Try.ntmps125
    go_wp2_with fail
    go_ret
    exact ⟨⟨_, rfl, World.ownsRow_nil _ _ _ _⟩, grown_refl _ _⟩
  | some ad =>
    have HN := Lib.hid hn
    go_enter Try.func125, Try.ntmps125
    go_wp2_with (at_builtin; refine wpList_append_own _ rfl _ _ 22 rfl w.heap.size 28 i0 (.agg #[.int .i64 0, .int .i64 0, .int .i64 0, .int .i64 0, .int .i64 0, .int .i64 0, .int .i64 0]) 7 56 Try.underlying22 hi hz0 hz1 hz2 rfl (by decide) _ _ _ rfl (World.ownsRow_made w #[] 0 (Nat.le_refl _) (Nat.zero_le _) rfl) ad L.length cap (smpRw L) rfl (smpRw_len L) (A.out.grown (World.grownBy_alloc _ _ _)).row (smpRw_one L) (by have := HN.out; unfold maxLen; omega) (by have := HN.out; omega) (by simp) ?_)
    intro v' w1 hown hgrow hnil
    have HO := Lib.hid hown; have HG := Lib.hid hgrow
    clear hown hgrow hnil hi hz0 hz1 hz2
    go_wp2_with fail
    go_ret
    refine ⟨⟨v', rfl, by simpa using HO.out⟩, ?_⟩
    exact grown_own (grown_refl w none) HG.out (fun k hk => by simp [Value.ownBlock] at hk; omega)

theorem cinfo_laps : (Try.prog.info? 77).map (fun i => (i.zero, i.size, i.bytes)) = some (some (.agg #[.int .i64 0, .int .i64 0, .string ⟨#[]⟩]), 3, 32) := by kernel_rfl
set_option maxHeartbeats 2000000 in
set_option maxRecDepth 100000 in
theorem clone_laps (ao : Option Addr) (cap : Nat) (L : List LapV) (hn : L.length ≤ 20000) (w : World) (h : LapsAt w ao L) :
    Calls Try.prog 126 #[.slice ao L.length cap] w fun e w' => (∃ v, e = .returned v ∧ w'.ownsRow w.heap.size 77 3 v L.length (lapRw L)) ∧ w.grownBy w' none := by
  have q22 : ∀ (w : World) (a : Option Addr) (n c n' c' : Nat), (binOp .eql 23 (.slice a n c) (.slice none n' c')).run Try.prog w = .ok (.bool a.isNone) w := fun w a n c n' c' => Lib.run_eql_slice_nil w _ _ a n c n' c' Try.underlying23
  obtain ⟨i0, hi, hz0, hz1, hz2⟩ := info_parts cinfo_laps
  have A := Lib.hid h
  clear h
  cases ao with
  | none =>
    have hl : L = [] := A.out.nil rfl
    subst hl
    clear A hi hz0 hz1 hz2
    simp only [List.length_nil]
    go_enter Try.func126, Try.ntmps126
    go_wp2_with fail
    go_ret
    exact ⟨⟨_, rfl, World.ownsRow_nil _ _ _ _⟩, grown_refl _ _⟩
  | some ad =>
    have HN := Lib.hid hn
    go_enter Try.func126, Try.ntmps126
    go_wp2_with (at_builtin; refine wpList_append_own _ rfl _ _ 23 rfl w.heap.size 77 i0 (.agg #[.int .i64 0, .int .i64 0, .string ⟨#[]⟩]) 3 32 Try.underlying23 hi hz0 hz1 hz2 rfl (by decide) _ _ _ rfl (World.ownsRow_made w #[] 0 (Nat.le_refl _) (Nat.zero_le _) rfl) ad L.length cap (lapRw L) rfl (lapRw_len L) (A.out.grown (World.grownBy_alloc _ _ _)).row (lapRw_one L) (by have := HN.out; unfold maxLen; omega) (by have := HN.out; omega) (by simp) ?_)
    intro v' w1 hown hgrow hnil
    have HO := Lib.hid hown; have HG := Lib.hid hgrow
    clear hown hgrow hnil hi hz0 hz1 hz2
    go_wp2_with fail
    go_ret
    refine ⟨⟨v', rfl, by simpa using HO.out⟩, ?_⟩
    exact grown_own (grown_refl w none) HG.out (fun k hk => by simp [Value.ownBlock] at hk; omega)

theorem cinfo_tags : (Try.prog.info? 9).map (fun i => (i.zero, i.size, i.bytes)) = some (some (.string ⟨#[]⟩), 1, 16) := by kernel_rfl
set_option maxHeartbeats 2000000 in
set_option maxRecDepth 100000 in
theorem clone_tags (ao : Option Addr) (cap : Nat) (L : List ByteArray) (hn : L.length ≤ 20000) (w : World) (h : TagsAt w ao L) :
    Calls Try.prog 127 #[.slice ao L.length cap] w fun e w' => (∃ v, e = .returned v ∧ w'.ownsRow w.heap.size 9 1 v L.length (tagRw L)) ∧ w.grownBy w' none := by
  have q22 : ∀ (w : World) (a : Option Addr) (n c n' c' : Nat), (binOp .eql 24 (.slice a n c) (.slice none n' c')).run Try.prog w = .ok (.bool a.isNone) w := fun w a n c n' c' => Lib.run_eql_slice_nil w _ _ a n c n' c' Try.underlying24
  obtain ⟨i0, hi, hz0, hz1, hz2⟩ := info_parts cinfo_tags
  have A := Lib.hid h
  clear h
  cases ao with
  | none =>
    have hl : L = [] := A.out.nil rfl
    subst hl
    clear A hi hz0 hz1 hz2
    simp only [List.length_nil]
    go_enter Try.func127, Try.ntmps127
    go_wp2_with fail
    go_ret
    exact ⟨⟨_, rfl, World.ownsRow_nil _ _ _ _⟩, grown_refl _ _⟩
  | some ad =>
    have HN := Lib.hid hn
    go_enter Try.func127, Try.ntmps127
    go_wp2_with (at_builtin; refine wpList_append_own _ rfl _ _ 24 rfl w.heap.size 9 i0 (.string ⟨#[]⟩) 1 16 Try.underlying24 hi hz0 hz1 hz2 rfl (by decide) _ _ _ rfl (World.ownsRow_made w #[] 0 (Nat.le_refl _) (Nat.zero_le _) rfl) ad L.length cap (tagRw L) rfl (tagRw_len L) (A.out.grown (World.grownBy_alloc _ _ _)).row (tagRw_one L) (by have := HN.out; unfold maxLen; omega) (by have := HN.out; omega) (by simp) ?_)
    intro v' w1 hown hgrow hnil
    have HO := Lib.hid hown; have HG := Lib.hid hgrow
    clear hown hgrow hnil hi hz0 hz1 hz2
    go_wp2_with fail
    go_ret
    refine ⟨⟨v', rfl, by simpa using HO.out⟩, ?_⟩
    exact grown_own (grown_refl w none) HG.out (fun k hk => by simp [Value.ownBlock] at hk; omega)

end Go.Proofs.Ytgkhhfojioepgaa
namespace Go.Proofs.Ytgkhhfojioepgaa
set_option linter.unusedSimpArgs false
set_option linter.unusedVariables false

section
variable {P : Program} {ops : Array Oper} {Q : Exit → Go.Act → World → Prop} {md : Region.Mode} {S : Array Bool → World → Prop}

/-- What has come up came up behind all that it waits for. -/
def ClosedL (md : Region.Mode) (ops : Array Oper) (L : Array Bool) : Prop := ∀ j oj, ops[j]? = some oj → L.getD j false = true → ∀ e ∈ oj.after, Region.binds md e = true → L.getD e.on false = true
theorem closed_none : ClosedL md ops (Array.replicate ops.size false) := fun j oj hj h => by
  by_cases hlt : j < ops.size
  · simp [hlt] at h
  · simp [hlt] at h
theorem closed_next {L : Array Bool} {j : Nat} (hL : ClosedL md ops L) (hj : j ∈ Region.ready md ops L) : ClosedL md ops (L.setIfInBounds j true) := fun k ok hk h e he hb => by
  by_cases hjk : j = k
  · subst hjk
    obtain ⟨_, o, ho, hall⟩ := mem_ready.1 hj
    rw [ho] at hk; cases hk
    exact getD_set_true (hall e he hb)
  · rw [getD_set_ne false hjk] at h
    exact getD_set_true (hL k ok hk h e he hb)

/-- Whatever order is picked from here on, and S holds behind every operation, of what has come up. -/
def wpAnyS (P : Program) (md : Region.Mode) (ops : Array Oper) (Q : Exit → Go.Act → World → Prop) (S : Array Bool → World → Prop) : Nat → Array Bool → Go.Act → World → Prop
  | 0, listed, a, w => Region.ready md ops listed = [] ∧ Q .normal a w
  | fuel + 1, listed, a, w =>
    (Region.ready md ops listed = [] → Q .normal a w) ∧
    ∀ i ∈ Region.ready md ops listed, wpOp P ops Q i (fun a' w' => S (listed.setIfInBounds i true) w' ∧ wpAnyS P md ops Q S fuel (listed.setIfInBounds i true) a' w') a w

theorem wpAny_of_late : ∀ (fuel : Nat) (listed : Array Bool) (a : Go.Act) (w : World), wpAnyS P md ops Q S fuel listed a w → wpAny P md ops Q fuel listed a w
  | 0, _, _, _, h => h
  | fuel + 1, _, _, _, h => ⟨h.1, fun i hi => wpOp_mono (fun a' w' h' => wpAny_of_late fuel _ a' w' h'.2) (h.2 i hi)⟩

/-- The worlds in which operation i may come up. -/
def Before (md : Region.Mode) (ops : Array Oper) (S : Array Bool → World → Prop) (i : Nat) (w : World) : Prop := ∃ L, ClosedL md ops L ∧ L.getD i false = false ∧ S L w

theorem wpAnyS_first {i : Nat} {oi : Oper} {v : Value} (hi : ops[i]? = some oi) (hsel : ∀ (j : Nat) (o : Oper) cs b, ops[j]? = some o → o.op ≠ .select cs b)
    (hQ : ∀ c a w, Q (.panic c) (a.put oi.dst v) w → Q (.panic c) a w) (hSi : ∀ L w, S (L.setIfInBounds i true) w ↔ S L w) :
    ∀ (fuel : Nat) (listed : Array Bool) (a : Go.Act) (w : World),
      (∀ j oj, ops[j]? = some oj → j ≠ i → listed.getD j true = false → (∀ e ∈ oj.after, Region.binds md e = true → e.on ≠ i) → oi.apart ops oj = true) →
      i ∈ Region.ready md ops listed → ClosedL md ops listed → YieldsIf P ops (Before md ops S i) oi v a → S listed w →
      wpAnyS P md ops Q S fuel (listed.setIfInBounds i true) (a.put oi.dst v) w → wpAnyS P md ops Q S (fuel + 1) listed a w := by
  have hmay : ∀ (L : Array Bool) (j : Nat), j ∈ Region.ready md ops L → L.getD j false = false := fun L j hj => by
    have h0 := (mem_ready.1 hj).1
    rcases Nat.lt_or_ge j L.size with h' | h'
    · simp [h'] at h0 ⊢; exact h0
    · simp [h'] at h0 ⊢
  intro fuel
  induction fuel with
  | zero =>
    intro listed a w _ hr hc hy hS H
    refine ⟨fun h => (by rw [h] at hr; cases hr), fun j hj => ?_⟩
    by_cases hji : j = i
    · subst hji; exact hy.wpOp hi ⟨listed, hc, hmay listed _ hr, hS⟩ ⟨(hSi _ _).2 hS, H⟩
    · have := ready_mono hj hji
      rw [H.1] at this
      cases this
  | succ fuel ih =>
    intro listed a w hfree hr hc hy hS H
    refine ⟨fun h => (by rw [h] at hr; cases hr), fun j hj => ?_⟩
    by_cases hji : j = i
    · subst hji; exact hy.wpOp hi ⟨listed, hc, hmay listed _ hr, hS⟩ ⟨(hSi _ _).2 hS, H⟩
    · have h1 := H.2 j (ready_mono hj hji)
      obtain ⟨hjun, oj, hoj, hall⟩ := mem_ready.1 hj
      have hnot : ∀ e ∈ oj.after, Region.binds md e = true → e.on ≠ i := fun e he hb heq => by
        have h1 := hall e he hb
        have h0 := hmay listed i hr
        rw [heq, h0] at h1
        cases h1
      have h2 := wpOp_putIf hoj (hfree j oj hoj hji hjun hnot) (fun cs b => hsel i oi cs b hi) (fun cs b => hsel j oj cs b hoj) hQ hy h1
      have hfree' : ∀ k ok, ops[k]? = some ok → k ≠ i → (listed.setIfInBounds j true).getD k true = false →
          (∀ e ∈ ok.after, Region.binds md e = true → e.on ≠ i) → oi.apart ops ok = true := fun k ok hk hki hun hno => by
        refine hfree k ok hk hki ?_ hno
        by_cases hjk : j = k
        · subst hjk; exact hjun
        · rw [getD_set_ne true hjk] at hun; exact hun
      refine wpOp_mono (fun a' w' h3 => ?_) h2
      have hSj : S (listed.setIfInBounds j true) w' := by
        have := h3.2.1
        rw [← Array.setIfInBounds_comm _ _ hji] at this
        exact (hSi _ _).1 this
      refine ⟨hSj, ih (listed.setIfInBounds j true) a' w' hfree' (ready_mono hr (Ne.symm hji)) (closed_next hc hj) h3.1 hSj ?_⟩
      rw [Array.setIfInBounds_comm _ _ hji]
      exact h3.2.2

theorem wpAnyS_take {i : Nat} {oi : Oper} {v : Value} {fuel : Nat} {listed : Array Bool} {a : Go.Act} {w : World} (hi : ops[i]? = some oi)
    (hs : Region.noSelect ops = true) (hf : Region.free md ops listed i = true) (hr : (Region.ready md ops listed).contains i = true) (hSi : ∀ L w, S (L.setIfInBounds i true) w ↔ S L w)
    (hQ : ∀ c a w, Q (.panic c) (a.put oi.dst v) w → Q (.panic c) a w) (hy : YieldsIf P ops (Before md ops S i) oi v a) (hc : ClosedL md ops listed) (hS : S listed w)
    (h : ClosedL md ops (listed.setIfInBounds i true) → S (listed.setIfInBounds i true) w → wpAnyS P md ops Q S fuel (listed.setIfInBounds i true) (a.put oi.dst v) w) : wpAnyS P md ops Q S (fuel + 1) listed a w :=
  wpAnyS_first hi (Region.noSelect_spec hs) hQ hSi fuel listed a w (Region.free_spec hi hf) (by simpa using hr) hc hy hS (h (closed_next hc (by simpa using hr)) ((hSi _ _).2 hS))

theorem wpAnyS_done {listed : Array Bool} {a : Go.Act} {w : World} (hr : Region.ready md ops listed = []) (h : Q .normal a w) :
    ∀ fuel, wpAnyS P md ops Q S fuel listed a w
  | 0 => ⟨hr, h⟩
  | _ + 1 => ⟨fun _ => h, by rw [hr]; simp⟩

/-- Each of the operations rs comes up next. -/
def AllReadyS (P : Program) (md : Region.Mode) (ops : Array Oper) (Q : Exit → Go.Act → World → Prop) (S : Array Bool → World → Prop) (fuel : Nat) (listed : Array Bool) (a : Go.Act) (w : World) (rs : List Nat) : Prop :=
  ∀ i ∈ rs, i ∈ Region.ready md ops listed → wpOp P ops Q i (fun a' w' => S (listed.setIfInBounds i true) w' ∧ wpAnyS P md ops Q S fuel (listed.setIfInBounds i true) a' w') a w
theorem AllReadyS.nil {fuel : Nat} {listed : Array Bool} {a : Go.Act} {w : World} : AllReadyS P md ops Q S fuel listed a w [] := fun _ h => by cases h
theorem AllReadyS.cons {fuel : Nat} {listed : Array Bool} {a : Go.Act} {w : World} {i : Nat} {o : Oper} {rs : List Nat} (ho : ops[i]? = some o) (hc : ClosedL md ops listed)
    (h : ∀ K' : Go.Act → World → Prop, Shut (∀ a w, S (listed.setIfInBounds i true) w → (ClosedL md ops (listed.setIfInBounds i true) → S (listed.setIfInBounds i true) w → wpAnyS P md ops Q S fuel (listed.setIfInBounds i true) a w) → K' a w) → if Region.wanted o (yielded ops a.tmps) = true then Oper.wp P o a w K' Q else K' (a.put o.dst undef) w)
    (hs : AllReadyS P md ops Q S fuel listed a w rs) : AllReadyS P md ops Q S fuel listed a w (i :: rs) := fun j hj hr => by
  rcases List.mem_cons.1 hj with rfl | hj
  · exact wpOp_step ho (fun K' hK => h K' (fun a w hS hW => hK a w ⟨hS, hW (closed_next hc hr) hS⟩))
  · exact hs j hj hr
theorem wpAnyS_ready {rs : List Nat} {fuel : Nat} {listed : Array Bool} {a : Go.Act} {w : World} (hr : Region.ready md ops listed = rs) (hne : rs ≠ [])
    (h : AllReadyS P md ops Q S fuel listed a w rs) : wpAnyS P md ops Q S (fuel + 1) listed a w :=
  ⟨fun h0 => absurd (hr ▸ h0) hne, fun i hi => h i (hr ▸ hi) hi⟩

/-- The beginning. -/
theorem region_late {id : Nat} {a : Go.Act} {w : World} (S : Array Bool → World → Prop) (hm : P.follows .mixedOrders = true) (hS : S (Array.replicate ops.size false) w.drew)
    (h : ClosedL .any ops (Array.replicate ops.size false) → S (Array.replicate ops.size false) w.drew → wpAnyS P .any ops Q S ops.size (Array.replicate ops.size false) a w.drew) : (Code.region id ops true).wp P Q a w :=
  wp_region_any hm (wpAny_of_late _ _ _ _ (h closed_none hS))

/-- What waits for something that has not come up has not come up. -/
theorem closed_not {L : Array Bool} {j k : Nat} {ok : Oper} (hL : ClosedL md ops L) (hk : ops[k]? = some ok) (he : (ok.after.any fun e => Region.binds md e && e.on == j) = true) (hj : L.getD j false = false) : L.getD k false = false := by
  obtain ⟨e, hm, h2⟩ := Array.any_eq_true'.1 he
  simp only [Bool.and_eq_true, beq_iff_eq] at h2
  cases h : L.getD k false with
  | false => rfl
  | true =>
    have := hL k ok hk h e hm h2.1
    rw [h2.2, hj] at this
    cases this

/-- What is kept is told by whether the operations p and q have come up. -/
theorem late_iff {T : Bool → Bool → World → Prop} {p q i : Nat} (h1 : i ≠ p) (h2 : i ≠ q) (L : Array Bool) (w : World) : T ((L.setIfInBounds i true).getD p false) ((L.setIfInBounds i true).getD q false) w ↔ T (L.getD p false) (L.getD q false) w := by
  rw [getD_set_ne false h1, getD_set_ne false h2]
end
end Go.Proofs.Ytgkhhfojioepgaa
namespace Go.Proofs.Ytgkhhfojioepgaa
set_option linter.unusedSimpArgs false
set_option linter.unusedVariables false

def lateK (G : World → Prop) : List (Nat × Addr × Value) → Array Bool → World → Prop
  | [], _, V => G V
  | c :: r, L, V => (L.getD c.1 false = false → V.cell? c.2.1 = some c.2.2) ∧ lateK G r L V
section
variable {P : Program} {ops : Array Oper} {Q : Exit → Go.Act → World → Prop} {md : Region.Mode} {G : World → Prop} {W : World}
theorem lateK_iff : ∀ {cs : List (Nat × Addr × Value)} {i : Nat}, (cs.all fun c => c.1 != i) = true → ∀ (L : Array Bool) (V : World), lateK G cs (L.setIfInBounds i true) V ↔ lateK G cs L V
  | [], _, _, _, _ => Iff.rfl
  | c :: r, i, h, L, V => by
    simp only [List.all_cons, Bool.and_eq_true, bne_iff_ne, ne_eq] at h
    unfold lateK
    rw [getD_set_ne false (Ne.symm h.1), lateK_iff (cs := r) (by simpa using h.2) L V]
theorem lateK_get : ∀ {cs : List (Nat × Addr × Value)} {L : Array Bool} {V : World} {j p : Nat} {A : Addr} {v : Value}, lateK G cs L V → cs[j]? = some (p, A, v) → L.getD p false = false → V.cell? A = some v
  | c :: r, L, V, 0, p, A, v, h, hc, hf => by
    simp only [List.getElem?_cons_zero, Option.some.injEq] at hc
    subst hc; exact h.1 hf
  | c :: r, L, V, j + 1, p, A, v, h, hc, hf => lateK_get (cs := r) h.2 (by simpa using hc) hf
theorem lateK_fact : ∀ {cs : List (Nat × Addr × Value)} {L : Array Bool} {V : World}, lateK G cs L V → G V
  | [], _, _, h => h
  | _ :: r, _, _, h => lateK_fact (cs := r) h.2
theorem lateK_cell {cs : List (Nat × Addr × Value)} {i : Nat} (j : Nat) {p : Nat} {A : Addr} {v : Value} {op : Oper} (h : Before md ops (lateK G cs) i W) (hc : cs[j]? = some (p, A, v)) (ho : ops[p]? = some op) (he : (op.after.any fun e => Region.binds md e && e.on == i) = true) : W.cell? A = some v := by
  obtain ⟨L, hcl, hf, hs⟩ := h
  exact lateK_get hs hc (closed_not hcl ho he hf)
theorem lateK_g {cs : List (Nat × Addr × Value)} {i : Nat} (h : Before md ops (lateK G cs) i W) : G W := by
  obtain ⟨L, _, _, hs⟩ := h
  exact lateK_fact hs
theorem lateUp {L : Array Bool} {p : Nat} {X : Prop} (h : L.getD p false = true) : L.getD p false = false → X := fun e => absurd (h.symm.trans e) (by decide)
end
end Go.Proofs.Ytgkhhfojioepgaa
namespace Go.Proofs.Ytgkhhfojioepgaa
open Go.RowKit
set_option linter.unusedSimpArgs false
set_option linter.unusedVariables false

theorem SmpsAt.eq {w w' : World} {ao : Option Addr} {l : List Smp} (h : SmpsAt w ao l) (k : ∀ a, ao = some a → ∀ o, w'.cell? ⟨a.block, o, none⟩ = w.cell? ⟨a.block, o, none⟩) : SmpsAt w' ao l :=
  ⟨h.nil, h.spot, fun a ha i hi => by
    obtain ⟨h0, h1, h2, h3, h4, h5, h6⟩ := h.cells a ha i hi
    exact ⟨(k a ha _).trans h0, (k a ha _).trans h1, (k a ha _).trans h2, (k a ha _).trans h3, (k a ha _).trans h4, (k a ha _).trans h5, (k a ha _).trans h6⟩⟩
theorem LapsAt.eq {w w' : World} {ao : Option Addr} {l : List LapV} (h : LapsAt w ao l) (k : ∀ a, ao = some a → ∀ o, w'.cell? ⟨a.block, o, none⟩ = w.cell? ⟨a.block, o, none⟩) : LapsAt w' ao l :=
  ⟨h.nil, h.spot, fun a ha i hi => by
    obtain ⟨h0, h1, h2⟩ := h.cells a ha i hi
    exact ⟨(k a ha _).trans h0, (k a ha _).trans h1, (k a ha _).trans h2⟩, h.sizes⟩
theorem TagsAt.eq {w w' : World} {ao : Option Addr} {l : List ByteArray} (h : TagsAt w ao l) (k : ∀ a, ao = some a → ∀ o, w'.cell? ⟨a.block, o, none⟩ = w.cell? ⟨a.block, o, none⟩) : TagsAt w' ao l :=
  ⟨h.nil, h.spot, fun a ha i hi => (k a ha _).trans (h.cells a ha i hi), h.sizes⟩

/-- Two boxes of an activity. -/
structure ClB (w : World) (A Z : Array Value) (W : World) : Prop where
  a : W.heap[w.heap.size]? = some (.cells A 26 (0, 0))
  z : W.heap[w.heap.size + 1]? = some (.cells Z 26 (0, 0))
  g : w.grownBy W none
theorem ClB.new (w : World) (A Z : Array Value) : ClB w A Z ((w.alloc (.cells A 26)).alloc (.cells Z 26)) := by
  refine ⟨?_, ?_, grown_trans (World.grownBy_alloc _ _ none) (World.grownBy_alloc _ _ none)⟩
  · rw [Below.heap_alloc _ _ _ (by simp)]; exact heap_alloc_new w _
  · have := heap_alloc_new (w.alloc (.cells A 26)) (.cells Z 26); simpa using this
theorem ClB.grown {w W W' : World} {A Z : Array Value} (h : ClB w A Z W) (hg : W.grownBy W' none) : ClB w A Z W' := by
  have k : ∀ {B : Nat} {o : Obj}, W.heap[B]? = some o → W'.heap[B]? = some o := fun {B o} h => (hg.block B (Array.getElem?_eq_some_iff.1 h).1 (by simp)).trans h
  exact ⟨k h.a, k h.z, grown_trans h.g hg⟩
theorem ClB.setA {w W : World} {A Z : Array Value} (h : ClB w A Z W) (k : Nat) (v : Value) : ClB w (A.setIfInBounds k v) Z (W.setCell ⟨w.heap.size, k, none⟩ v) :=
  ⟨block_set h.a v, by rw [Below.heap_setCell _ _ _ _ (by show _ ≠ w.heap.size; omega)]; exact h.z, grown_far h.g (Nat.le_refl _) k v⟩
theorem ClB.setZ {w W : World} {A Z : Array Value} (h : ClB w A Z W) (k : Nat) (v : Value) : ClB w A (Z.setIfInBounds k v) (W.setCell ⟨w.heap.size + 1, k, none⟩ v) :=
  ⟨by rw [Below.heap_setCell _ _ _ _ (by show _ ≠ w.heap.size + 1; omega)]; exact h.a, block_set h.z v, grown_far h.g (by omega) k v⟩
theorem ClB.lt {w W : World} {A Z : Array Value} (h : ClB w A Z W) : w.heap.size + 1 < W.heap.size := lt_of_block h.z

/-- The lists of an activity lie from a block on. -/
structure ActFar (a : Act) (N : Nat) : Prop where
  s : ∀ p, a.so = some p → N ≤ p.block
  l : ∀ p, a.lo = some p → N ≤ p.block
  t : ∀ p, a.to_ = some p → N ≤ p.block
theorem ActFar.mono {a : Act} {N M : Nat} (h : ActFar a N) (hm : M ≤ N) : ActFar a M := ⟨fun p e => Nat.le_trans hm (h.s p e), fun p e => Nat.le_trans hm (h.l p e), fun p e => Nat.le_trans hm (h.t p e)⟩
theorem ActAt.far {w w' : World} {a : Act} {N : Nat} (h : ActAt w a) (hf : ActFar a N) (k : ∀ p : Addr, N ≤ p.block → w'.cell? p = w.cell? p) : ActAt w' a :=
  ⟨h.ns, h.sl, h.ll, h.tl, h.hs.eq fun p e _ => k _ (hf.s p e), h.hl.eq fun p e _ => k _ (hf.l p e), h.ht.eq fun p e _ => k _ (hf.t p e)⟩
/-- A value is an activity of this content, with lists of its own. -/
def ActNew (B : Nat) (w : World) (v : Value) (c : Act) : Prop := ∃ so sc lo lc to_ tc, v = (⟨c.name, c.sport, c.start, so, sc, c.ss, lo, lc, c.ls, to_, tc, c.ts⟩ : Act).val ∧ ActAt w ⟨c.name, c.sport, c.start, so, sc, c.ss, lo, lc, c.ls, to_, tc, c.ts⟩ ∧ ActFar ⟨c.name, c.sport, c.start, so, sc, c.ss, lo, lc, c.ls, to_, tc, c.ts⟩ B
theorem ActNew.is {B : Nat} {w : World} {v : Value} {c : Act} (h : ActNew B w v c) : ActIs w v c := by
  obtain ⟨so, sc, lo, lc, to_, tc, hv, ha, _⟩ := h
  exact ⟨so, sc, lo, lc, to_, tc, hv, ha⟩
theorem grown_rowR {w w1 w2 : World} {row : Option Nat} (h : w.grownBy w1 none) (g : w1.grownBy w2 row) (hr : ∀ r, row = some r → w.heap.size ≤ r) : w.grownBy w2 none :=
  ⟨g.os.trans h.os, g.tape.trans h.tape, g.output.trans h.output, Nat.le_trans h.size g.size, fun k hk _ => by
    rw [g.block k (Nat.lt_of_lt_of_le hk h.size) (fun e => by have := hr k e.symm; omega)]; exact h.block k hk (by simp)⟩
end Go.Proofs.Ytgkhhfojioepgaa
namespace Go.Proofs.Ytgkhhfojioepgaa
open Go.RowKit
set_option linter.unusedSimpArgs false
set_option linter.unusedVariables false

attribute [local go_sem] Oper.semAt_some

set_option maxRecDepth 100000 in
set_option maxHeartbeats 3200000 in
theorem clone_any (a : Act) (n1 : a.ss.length ≤ 20000) (n2 : a.ls.length ≤ 20000) (n3 : a.ts.length ≤ 20000) (w : World) (ha : ActAt w a) :
    Calls Try.prog 62 #[a.val] w fun e w' => (∃ v, e = .returned v ∧ ActNew w.heap.size w' v a) ∧ w.grownBy w' none := by
  obtain ⟨nm, sp, st, so, sc, ss, lo, lc, ls, to_, tc, ts⟩ := a
  simp only [Act.val] at *
  have HA := Lib.hid ha
  have N1 := Lib.hid n1; have N2 := Lib.hid n2; have N3 := Lib.hid n3
  have M0 := Lib.hid (ClB.new w #[.string nm, .int .i64 sp, .int .i64 st, .slice so ss.length sc, .slice lo ls.length lc, .slice to_ ts.length tc] #[.string ⟨#[]⟩, .int .i64 0, .int .i64 0, .slice none 0 0, .slice none 0 0, .slice none 0 0])
  clear ha n1 n2 n3
  go_enter Try.func62, Try.ntmps62
  go_wp2_with fail
  obtain ⟨W, hW⟩ : ∃ W, ((w.alloc (.cells #[.string nm, .int .i64 sp, .int .i64 st, .slice so ss.length sc, .slice lo ls.length lc, .slice to_ ts.length tc] 26)).alloc (.cells #[.string ⟨#[]⟩, .int .i64 0, .int .i64 0, .slice none 0 0, .slice none 0 0, .slice none 0 0] 26)) = W := ⟨_, rfl⟩
  rw [hW] at M0 ⊢
  clear hW
  have M1 : Hid (ClB w #[.string nm, .int .i64 sp, .int .i64 st, .slice so ss.length sc, .slice lo ls.length lc, .slice to_ ts.length tc] #[.string ⟨#[]⟩, .int .i64 0, .int .i64 0, .slice none 0 0, .slice none 0 0, .slice none 0 0] W.drew) := M0.out.grown (grown_drewN W none 1)
  refine region_late (lateK (fun _ => True) [(10, ⟨w.heap.size, 3, none⟩, .slice so ss.length sc), (12, ⟨w.heap.size, 4, none⟩, .slice lo ls.length lc), (14, ⟨w.heap.size, 5, none⟩, .slice to_ ts.length tc)]) (by kernel_rfl) ⟨fun _ => block_cell M1.out.a 3 _ rfl, fun _ => block_cell M1.out.a 4 _ rfl, fun _ => block_cell M1.out.a 5 _ rfl, trivial⟩ (fun hC0 hS0 => ?_)
  clear M0
  generalize W.drew = V1 at *
  refine wpAnyS_take (i := 0) (oi := ?oi1) (v := .pointer (some ⟨w.heap.size, 3, none⟩)) ?hi1 (by kernel_rfl) (by kernel_rfl) (by kernel_rfl) (lateK_iff (by rfl)) ?hq1 ?hy1 hC0 hS0 ?rest1
  case hi1 => simp only [List.getElem?_toArray, List.getElem?_cons_zero, Option.some.injEq]; rfl
  case hq1 => exact fun _ _ _ h => h
  case hy1 =>
    refine Or.inl ⟨by kernel_rfl, fun V hV => ?_⟩
    clear hV
    go_simp
  intro hC1 hS1
  clear hC0 hS0
  try simp only [Go.Act.put, List.setIfInBounds_toArray, List.set_cons_zero, List.set_cons_succ]
  refine wpAnyS_take (i := 1) (oi := ?oi2) (v := .slice so ss.length sc) ?hi2 (by kernel_rfl) (by kernel_rfl) (by kernel_rfl) (lateK_iff (by rfl)) ?hq2 ?hy2 hC1 hS1 ?rest2
  case hi2 => simp only [List.getElem?_toArray, List.getElem?_cons_succ, List.getElem?_cons_zero, Option.some.injEq]; rfl
  case hq2 => exact fun _ _ _ h => h
  case hy2 =>
    refine Or.inl ⟨by kernel_rfl, fun V hV => ?_⟩
    have q1 := lateK_cell 0 hV rfl rfl (by kernel_rfl); clear hV
    go_simp
  intro hC2 hS2
  clear hC1 hS1
  try simp only [Go.Act.put, List.setIfInBounds_toArray, List.set_cons_zero, List.set_cons_succ]
  refine wpAnyS_take (i := 3) (oi := ?oi3) (v := .pointer (some ⟨w.heap.size, 4, none⟩)) ?hi3 (by kernel_rfl) (by kernel_rfl) (by kernel_rfl) (lateK_iff (by rfl)) ?hq3 ?hy3 hC2 hS2 ?rest3
  case hi3 => simp only [List.getElem?_toArray, List.getElem?_cons_succ, List.getElem?_cons_zero, Option.some.injEq]; rfl
  case hq3 => exact fun _ _ _ h => h
  case hy3 =>
    refine Or.inl ⟨by kernel_rfl, fun V hV => ?_⟩
    clear hV
    go_simp
  intro hC3 hS3
  clear hC2 hS2
  try simp only [Go.Act.put, List.setIfInBounds_toArray, List.set_cons_zero, List.set_cons_succ]
  refine wpAnyS_take (i := 4) (oi := ?oi4) (v := .slice lo ls.length lc) ?hi4 (by kernel_rfl) (by kernel_rfl) (by kernel_rfl) (lateK_iff (by rfl)) ?hq4 ?hy4 hC3 hS3 ?rest4
  case hi4 => simp only [List.getElem?_toArray, List.getElem?_cons_succ, List.getElem?_cons_zero, Option.some.injEq]; rfl
  case hq4 => exact fun _ _ _ h => h
  case hy4 =>
    refine Or.inl ⟨by kernel_rfl, fun V hV => ?_⟩
    have q1 := lateK_cell 1 hV rfl rfl (by kernel_rfl); clear hV
    go_simp
  intro hC4 hS4
  clear hC3 hS3
  try simp only [Go.Act.put, List.setIfInBounds_toArray, List.set_cons_zero, List.set_cons_succ]
  refine wpAnyS_take (i := 6) (oi := ?oi5) (v := .pointer (some ⟨w.heap.size, 5, none⟩)) ?hi5 (by kernel_rfl) (by kernel_rfl) (by kernel_rfl) (lateK_iff (by rfl)) ?hq5 ?hy5 hC4 hS4 ?rest5
  case hi5 => simp only [List.getElem?_toArray, List.getElem?_cons_succ, List.getElem?_cons_zero, Option.some.injEq]; rfl
  case hq5 => exact fun _ _ _ h => h
  case hy5 =>
    refine Or.inl ⟨by kernel_rfl, fun V hV => ?_⟩
    clear hV
    go_simp
  intro hC5 hS5
  clear hC4 hS4
  try simp only [Go.Act.put, List.setIfInBounds_toArray, List.set_cons_zero, List.set_cons_succ]
  refine wpAnyS_take (i := 7) (oi := ?oi6) (v := .slice to_ ts.length tc) ?hi6 (by kernel_rfl) (by kernel_rfl) (by kernel_rfl) (lateK_iff (by rfl)) ?hq6 ?hy6 hC5 hS5 ?rest6
  case hi6 => simp only [List.getElem?_toArray, List.getElem?_cons_succ, List.getElem?_cons_zero, Option.some.injEq]; rfl
  case hq6 => exact fun _ _ _ h => h
  case hy6 =>
    refine Or.inl ⟨by kernel_rfl, fun V hV => ?_⟩
    have q1 := lateK_cell 2 hV rfl rfl (by kernel_rfl); clear hV
    go_simp
  intro hC6 hS6
  clear hC5 hS5
  try simp only [Go.Act.put, List.setIfInBounds_toArray, List.set_cons_zero, List.set_cons_succ]
  refine wpAnyS_ready (rs := [2]) (by kernel_rfl) (by simp) ?_
  refine AllReadyS.cons rfl hC6 (fun K hK => ?_) AllReadyS.nil
  go_simp
  refine (clone_smps so sc ss N1.out _ (HA.out.hs.grown M1.out.g)).mono ?_
  rintro e w1 ⟨⟨v1, rfl, ho1⟩, hg1⟩
  obtain ⟨a1, c1, rfl, hs1, hb1⟩ := own_smps ho1
  have HS1 := Lib.hid hs1; have HB1 := Lib.hid hb1; have G1 := Lib.hid hg1
  have M2 := Lib.hid (M1.out.grown hg1)
  refine hK.out _ _ ⟨fun _ => block_cell M2.out.a 3 _ rfl, fun _ => block_cell M2.out.a 4 _ rfl, fun _ => block_cell M2.out.a 5 _ rfl, trivial⟩ (fun hC7 hS7 => ?_)
  clear hK hC6 hS6 K
  clear ho1 hg1 hs1 hb1
  try simp only [Go.Act.put, List.setIfInBounds_toArray, List.set_cons_zero, List.set_cons_succ]
  refine wpAnyS_take (i := 9) (oi := ?oi8) (v := .pointer (some ⟨w.heap.size, 3, none⟩)) ?hi8 (by kernel_rfl) (by kernel_rfl) (by kernel_rfl) (lateK_iff (by rfl)) ?hq8 ?hy8 hC7 hS7 ?rest8
  case hi8 => simp only [List.getElem?_toArray, List.getElem?_cons_succ, List.getElem?_cons_zero, Option.some.injEq]; rfl
  case hq8 => exact fun _ _ _ h => h
  case hy8 =>
    refine Or.inl ⟨by kernel_rfl, fun V hV => ?_⟩
    clear hV
    go_simp
  intro hC8 hS8
  clear hC7 hS7
  try simp only [Go.Act.put, List.setIfInBounds_toArray, List.set_cons_zero, List.set_cons_succ]
  refine wpAnyS_ready (rs := [5]) (by kernel_rfl) (by simp) ?_
  refine AllReadyS.cons rfl hC8 (fun K hK => ?_) AllReadyS.nil
  go_simp
  refine (clone_laps lo lc ls N2.out _ (HA.out.hl.grown M2.out.g)).mono ?_
  rintro e w2 ⟨⟨v2, rfl, ho2⟩, hg2⟩
  obtain ⟨a2, c2, rfl, hs2, hb2⟩ := own_lapsR ho2 HA.out.hl.sizes
  have HS2 := Lib.hid hs2; have HB2 := Lib.hid hb2; have G2 := Lib.hid hg2
  have M3 := Lib.hid (M2.out.grown hg2)
  refine hK.out _ _ ⟨fun _ => block_cell M3.out.a 3 _ rfl, fun _ => block_cell M3.out.a 4 _ rfl, fun _ => block_cell M3.out.a 5 _ rfl, trivial⟩ (fun hC9 hS9 => ?_)
  clear hK hC8 hS8 K
  clear ho2 hg2 hs2 hb2
  try simp only [Go.Act.put, List.setIfInBounds_toArray, List.set_cons_zero, List.set_cons_succ]
  refine wpAnyS_ready (rs := [8]) (by kernel_rfl) (by simp) ?_
  refine AllReadyS.cons rfl hC9 (fun K hK => ?_) AllReadyS.nil
  go_simp
  refine (clone_tags to_ tc ts N3.out _ (HA.out.ht.grown M3.out.g)).mono ?_
  rintro e w3 ⟨⟨v3, rfl, ho3⟩, hg3⟩
  obtain ⟨a3, c3, rfl, hs3, hb3⟩ := own_tags ho3 HA.out.ht.sizes
  have HS3 := Lib.hid hs3; have HB3 := Lib.hid hb3
  have M4 := Lib.hid (M3.out.grown hg3)
  have HL1 := Lib.hid (HS1.out.grown (grown_trans G2.out hg3)); have HL2 := Lib.hid (HS2.out.grown hg3)
  have z1 := M1.out.lt; have z2 := G1.out.size; have z3 := G2.out.size
  refine hK.out _ _ ⟨fun _ => block_cell M4.out.a 3 _ rfl, fun _ => block_cell M4.out.a 4 _ rfl, fun _ => block_cell M4.out.a 5 _ rfl, trivial⟩ (fun hC10 hS10 => ?_)
  clear hK hC9 hS9 K
  clear ho3 hg3 hs3 hb3 M1 M2 M3 HS1 HS2
  try simp only [Go.Act.put, List.setIfInBounds_toArray, List.set_cons_zero, List.set_cons_succ]
  refine wpAnyS_ready (rs := [10]) (by kernel_rfl) (by simp) ?_
  refine AllReadyS.cons rfl hC10 (fun K hK => ?_) AllReadyS.nil
  have x3 := block_cell M4.out.a 3 _ rfl; have f3 := block_free (k := 3) M4.out.a
  go_simp
  have M5 := Lib.hid (M4.out.setA 3 (.slice a1 ss.length c1))
  refine hK.out _ _ ⟨lateUp (by rfl), fun _ => block_cell M5.out.a 4 _ rfl, fun _ => block_cell M5.out.a 5 _ rfl, trivial⟩ (fun hC11 hS11 => ?_)
  clear hK hC10 hS10 K
  clear x3 f3
  try simp only [Go.Act.put, List.setIfInBounds_toArray, List.set_cons_zero, List.set_cons_succ]
  refine wpAnyS_take (i := 11) (oi := ?oi12) (v := .pointer (some ⟨w.heap.size, 4, none⟩)) ?hi12 (by kernel_rfl) (by kernel_rfl) (by kernel_rfl) (lateK_iff (by rfl)) ?hq12 ?hy12 hC11 hS11 ?rest12
  case hi12 => simp only [List.getElem?_toArray, List.getElem?_cons_succ, List.getElem?_cons_zero, Option.some.injEq]; rfl
  case hq12 => exact fun _ _ _ h => h
  case hy12 =>
    refine Or.inl ⟨by kernel_rfl, fun V hV => ?_⟩
    clear hV
    go_simp
  intro hC12 hS12
  clear hC11 hS11
  try simp only [Go.Act.put, List.setIfInBounds_toArray, List.set_cons_zero, List.set_cons_succ]
  refine wpAnyS_ready (rs := [12]) (by kernel_rfl) (by simp) ?_
  refine AllReadyS.cons rfl hC12 (fun K hK => ?_) AllReadyS.nil
  have x4 := block_cell M5.out.a 4 _ rfl; have f4 := block_free (k := 4) M5.out.a
  go_simp
  have M6 := Lib.hid (M5.out.setA 4 (.slice a2 ls.length c2))
  refine hK.out _ _ ⟨lateUp (by rfl), lateUp (by rfl), fun _ => block_cell M6.out.a 5 _ rfl, trivial⟩ (fun hC13 hS13 => ?_)
  clear hK hC12 hS12 K
  clear x4 f4
  try simp only [Go.Act.put, List.setIfInBounds_toArray, List.set_cons_zero, List.set_cons_succ]
  refine wpAnyS_take (i := 13) (oi := ?oi14) (v := .pointer (some ⟨w.heap.size, 5, none⟩)) ?hi14 (by kernel_rfl) (by kernel_rfl) (by kernel_rfl) (lateK_iff (by rfl)) ?hq14 ?hy14 hC13 hS13 ?rest14
  case hi14 => simp only [List.getElem?_toArray, List.getElem?_cons_succ, List.getElem?_cons_zero, Option.some.injEq]; rfl
  case hq14 => exact fun _ _ _ h => h
  case hy14 =>
    refine Or.inl ⟨by kernel_rfl, fun V hV => ?_⟩
    clear hV
    go_simp
  intro hC14 hS14
  clear hC13 hS13
  try simp only [Go.Act.put, List.setIfInBounds_toArray, List.set_cons_zero, List.set_cons_succ]
  refine wpAnyS_ready (rs := [14]) (by kernel_rfl) (by simp) ?_
  refine AllReadyS.cons rfl hC14 (fun K hK => ?_) AllReadyS.nil
  have x5 := block_cell M6.out.a 5 _ rfl; have f5 := block_free (k := 5) M6.out.a
  go_simp
  have M7 := Lib.hid (M6.out.setA 5 (.slice a3 ts.length c3))
  refine hK.out _ _ ⟨lateUp (by rfl), lateUp (by rfl), lateUp (by rfl), trivial⟩ (fun hC15 hS15 => ?_)
  clear hK hC14 hS14 K
  clear x5 f5
  try simp only [Go.Act.put, List.setIfInBounds_toArray, List.set_cons_zero, List.set_cons_succ]
  refine wpAnyS_done (by kernel_rfl) ?_ _
  clear hC15 hS15
  have HE : Hid (∀ p : Addr, p.block ≠ w.heap.size → (((w3.setCell ⟨w.heap.size, 3, none⟩ (.slice a1 ss.length c1)).setCell ⟨w.heap.size, 4, none⟩ (.slice a2 ls.length c2)).setCell ⟨w.heap.size, 5, none⟩ (.slice a3 ts.length c3)).cell? p = w3.cell? p) := fun p hp => by
    iterate 3 rw [World.cell?_setCell_other _ _ _ _ (fun e => hp (by subst e; rfl))]
  have HF1 := Lib.hid (HL1.out.eq (w' := ((w3.setCell ⟨w.heap.size, 3, none⟩ (.slice a1 ss.length c1)).setCell ⟨w.heap.size, 4, none⟩ (.slice a2 ls.length c2)).setCell ⟨w.heap.size, 5, none⟩ (.slice a3 ts.length c3)) fun a ha o => HE.out _ (by have := (HB1.out a ha).1; show a.block ≠ _; omega))
  have HF2 := Lib.hid (HL2.out.eq (w' := ((w3.setCell ⟨w.heap.size, 3, none⟩ (.slice a1 ss.length c1)).setCell ⟨w.heap.size, 4, none⟩ (.slice a2 ls.length c2)).setCell ⟨w.heap.size, 5, none⟩ (.slice a3 ts.length c3)) fun a ha o => HE.out _ (by have := (HB2.out a ha).1; show a.block ≠ _; omega))
  have HF3 := Lib.hid (HS3.out.eq (w' := ((w3.setCell ⟨w.heap.size, 3, none⟩ (.slice a1 ss.length c1)).setCell ⟨w.heap.size, 4, none⟩ (.slice a2 ls.length c2)).setCell ⟨w.heap.size, 5, none⟩ (.slice a3 ts.length c3)) fun a ha o => HE.out _ (by have := (HB3.out a ha).1; show a.block ≠ _; omega))
  clear HE HL1 HL2 HS3 M4 M5 M6 G1 G2
  generalize ((w3.setCell ⟨w.heap.size, 3, none⟩ (.slice a1 ss.length c1)).setCell ⟨w.heap.size, 4, none⟩ (.slice a2 ls.length c2)).setCell ⟨w.heap.size, 5, none⟩ (.slice a3 ts.length c3) = W7 at *
  have u0 := block_cell M7.out.a 0 _ rfl
  have z0 := block_cell M7.out.z 0 _ rfl
  have y0 := block_free (k := 0) M7.out.z
  have u1 := block_cell M7.out.a 1 _ rfl
  have z1 := block_cell M7.out.z 1 _ rfl
  have y1 := block_free (k := 1) M7.out.z
  have u2 := block_cell M7.out.a 2 _ rfl
  have z2 := block_cell M7.out.z 2 _ rfl
  have y2 := block_free (k := 2) M7.out.z
  have u3 := block_cell M7.out.a 3 _ rfl
  have z3 := block_cell M7.out.z 3 _ rfl
  have y3 := block_free (k := 3) M7.out.z
  have u4 := block_cell M7.out.a 4 _ rfl
  have z4 := block_cell M7.out.z 4 _ rfl
  have y4 := block_free (k := 4) M7.out.z
  have u5 := block_cell M7.out.a 5 _ rfl
  have z5 := block_cell M7.out.z 5 _ rfl
  have y5 := block_free (k := 5) M7.out.z
  go_wp2_with fail
  refine bodyPost_ret (v := .agg #[.string nm, .int .i64 sp, .int .i64 st, .slice a1 ss.length c1, .slice a2 ls.length c2, .slice a3 ts.length c3]) (by simp [results, Try.results62, go_sem, z0, z1, z2, z3, z4, z5]) rfl ⟨⟨_, rfl, a1, c1, a2, c2, a3, c3, rfl, ?_, ⟨fun a ha => by have := (HB1.out a ha).1; omega, fun a ha => by have := (HB2.out a ha).1; omega, fun a ha => by have := (HB3.out a ha).1; omega⟩⟩, ?_⟩
  · refine ⟨HA.out.ns, HA.out.sl, HA.out.ll, HA.out.tl, HF1.out.eq fun a ha o => ?_, HF2.out.eq fun a ha o => ?_, HF3.out.eq fun a ha o => ?_⟩
    · have hb := (HB1.out a ha).1
      iterate 6 rw [World.cell?_setCell_other _ _ _ _ (fun e => by injection e with e; omega)]
    · have hb := (HB2.out a ha).1
      iterate 6 rw [World.cell?_setCell_other _ _ _ _ (fun e => by injection e with e; omega)]
    · have hb := (HB3.out a ha).1
      iterate 6 rw [World.cell?_setCell_other _ _ _ _ (fun e => by injection e with e; omega)]
  · exact (((((((M7.out.setZ 0 _).setZ 1 _).setZ 2 _).setZ 3 _).setZ 4 _).setZ 5 _)).g

theorem SmpsAt.src {w : World} {ao : Option Addr} {l : List Smp} (h : SmpsAt w ao l) : SrcAt w ao l.length (smpRw l) := by
  cases ao with
  | none => have e := h.nil rfl; subst e; exact .inl ⟨rfl, rfl, rfl⟩
  | some a => exact .inr ⟨a, rfl, h.row⟩

theorem LapsAt.src {w : World} {ao : Option Addr} {l : List LapV} (h : LapsAt w ao l) : SrcAt w ao l.length (lapRw l) := by
  cases ao with
  | none => have e := h.nil rfl; subst e; exact .inl ⟨rfl, rfl, rfl⟩
  | some a => exact .inr ⟨a, rfl, h.row⟩

theorem TagsAt.src {w : World} {ao : Option Addr} {l : List ByteArray} (h : TagsAt w ao l) : SrcAt w ao l.length (tagRw l) := by
  cases ao with
  | none => have e := h.nil rfl; subst e; exact .inl ⟨rfl, rfl, rfl⟩
  | some a => exact .inr ⟨a, rfl, h.row⟩

set_option maxRecDepth 100000 in
set_option maxHeartbeats 3200000 in
theorem copied_any (a : Act) (n1 : a.ss.length ≤ 20000) (n2 : a.ls.length ≤ 20000) (n3 : a.ts.length ≤ 20000) (w : World) (ha : ActAt w a) :
    Calls Try.prog 63 #[a.val] w fun e w' => (∃ v, e = .returned v ∧ ActNew w.heap.size w' v a) ∧ w.grownBy w' none := by
  obtain ⟨nm, sp, st, so, sc, ss, lo, lc, ls, to_, tc, ts⟩ := a
  simp only [Act.val] at *
  have HA := Lib.hid ha
  have N1 := Lib.hid n1; have N2 := Lib.hid n2; have N3 := Lib.hid n3
  have M0 := Lib.hid (ClB.new w #[.string nm, .int .i64 sp, .int .i64 st, .slice so ss.length sc, .slice lo ls.length lc, .slice to_ ts.length tc] #[.string ⟨#[]⟩, .int .i64 0, .int .i64 0, .slice none 0 0, .slice none 0 0, .slice none 0 0])
  clear ha n1 n2 n3
  obtain ⟨i0, p0, q0, r0, s0⟩ := info_parts cinfo_smps
  obtain ⟨i1, p1, q1, r1, s1⟩ := info_parts cinfo_laps
  obtain ⟨i2, p2, q2, r2, s2⟩ := info_parts cinfo_tags
  have P0 := Lib.hid p0; have Q0 := Lib.hid q0; have R0 := Lib.hid r0; have S0 := Lib.hid s0
  clear p0 q0 r0 s0
  have P1 := Lib.hid p1; have Q1 := Lib.hid q1; have R1 := Lib.hid r1; have S1 := Lib.hid s1
  clear p1 q1 r1 s1
  have P2 := Lib.hid p2; have Q2 := Lib.hid q2; have R2 := Lib.hid r2; have S2 := Lib.hid s2
  clear p2 q2 r2 s2
  go_enter Try.func63, Try.ntmps63
  have Z0 := M0.out.lt
  have x0 := block_cell M0.out.a 3 _ rfl
  go_upto_region 2 with (at_builtin; refine wpList_append_src _ rfl _ _ 22 rfl (w.heap.size + 2) 28 i0 (.agg #[.int .i64 0, .int .i64 0, .int .i64 0, .int .i64 0, .int .i64 0, .int .i64 0, .int .i64 0]) 7 56 Try.underlying22 P0.out Q0.out R0.out S0.out rfl (by decide) rfl so ss.length sc (smpRw ss) rfl (HA.out.hs.grown M0.out.g).src (smpRw_len ss) (smpRw_one ss) (by have := N1.out; unfold maxLen; omega) (by have := N1.out; omega) (by have := M0.out.lt; omega) ?_; intro v' w0 ho hg; obtain ⟨a1, c1, rfl, hs0, hb0⟩ := own_smps ho; have HB1 := Lib.hid hb0; have HS0 := Lib.hid hs0; have K0 := Lib.hid (M0.out.grown hg); have f0 := block_free (k := 3) K0.out.a; have g0 := block_cell K0.out.a 3 _ rfl; have GG0 := Lib.hid hg; have Y0 := hg.size; clear ho hg hs0 hb0 x0)
  have M1 := Lib.hid (K0.out.setA 3 (.slice a1 ss.length c1))
  clear f0 g0
  obtain ⟨W1, hW⟩ : ∃ W, w0.setCell ⟨w.heap.size, 3, none⟩ (.slice a1 ss.length c1) = W := ⟨_, rfl⟩
  have E0 : Hid (∀ p : Addr, p.block ≠ w.heap.size → W1.cell? p = w0.cell? p) := fun p hp => by rw [← hW]; rw [World.cell?_setCell_other _ _ _ _ (fun e => hp (by subst e; rfl))]
  have X0 : W1.heap.size = w0.heap.size := by rw [← hW]; simp [World.setCell]
  rw [hW] at M1 ⊢
  clear hW
  have Z1 : w0.heap.size ≤ W1.heap.size := by omega
  clear X0
  have x1 := block_cell M1.out.a 4 _ rfl
  go_upto_region 3 with (at_builtin; refine wpList_append_src _ rfl _ _ 23 rfl (w.heap.size + 2) 77 i1 (.agg #[.int .i64 0, .int .i64 0, .string ⟨#[]⟩]) 3 32 Try.underlying23 P1.out Q1.out R1.out S1.out rfl (by decide) rfl lo ls.length lc (lapRw ls) rfl (HA.out.hl.grown M1.out.g).src (lapRw_len ls) (lapRw_one ls) (by have := N2.out; unfold maxLen; omega) (by have := N2.out; omega) (by have := M1.out.lt; omega) ?_; intro v' w1 ho hg; obtain ⟨a2, c2, rfl, hs1, hb1⟩ := own_lapsR ho HA.out.hl.sizes; have HB2 := Lib.hid hb1; have HS1 := Lib.hid hs1; have K1 := Lib.hid (M1.out.grown hg); have f1 := block_free (k := 4) K1.out.a; have g1 := block_cell K1.out.a 4 _ rfl; have GG1 := Lib.hid hg; have Y1 := hg.size; clear ho hg hs1 hb1 x1)
  have M2 := Lib.hid (K1.out.setA 4 (.slice a2 ls.length c2))
  clear f1 g1
  obtain ⟨W2, hW⟩ : ∃ W, w1.setCell ⟨w.heap.size, 4, none⟩ (.slice a2 ls.length c2) = W := ⟨_, rfl⟩
  have E1 : Hid (∀ p : Addr, p.block ≠ w.heap.size → W2.cell? p = w1.cell? p) := fun p hp => by rw [← hW]; rw [World.cell?_setCell_other _ _ _ _ (fun e => hp (by subst e; rfl))]
  have X1 : W2.heap.size = w1.heap.size := by rw [← hW]; simp [World.setCell]
  rw [hW] at M2 ⊢
  clear hW
  have Z2 : w1.heap.size ≤ W2.heap.size := by omega
  clear X1
  have x2 := block_cell M2.out.a 5 _ rfl
  go_upto_region 4 with (at_builtin; refine wpList_append_src _ rfl _ _ 24 rfl (w.heap.size + 2) 9 i2 (.string ⟨#[]⟩) 1 16 Try.underlying24 P2.out Q2.out R2.out S2.out rfl (by decide) rfl to_ ts.length tc (tagRw ts) rfl (HA.out.ht.grown M2.out.g).src (tagRw_len ts) (tagRw_one ts) (by have := N3.out; unfold maxLen; omega) (by have := N3.out; omega) (by have := M2.out.lt; omega) ?_; intro v' w2 ho hg; obtain ⟨a3, c3, rfl, hs2, hb2⟩ := own_tags ho HA.out.ht.sizes; have HB3 := Lib.hid hb2; have HS2 := Lib.hid hs2; have K2 := Lib.hid (M2.out.grown hg); have f2 := block_free (k := 5) K2.out.a; have g2 := block_cell K2.out.a 5 _ rfl; have GG2 := Lib.hid hg; have Y2 := hg.size; clear ho hg hs2 hb2 x2)
  have M3 := Lib.hid (K2.out.setA 5 (.slice a3 ts.length c3))
  clear f2 g2
  obtain ⟨W3, hW⟩ : ∃ W, w2.setCell ⟨w.heap.size, 5, none⟩ (.slice a3 ts.length c3) = W := ⟨_, rfl⟩
  have E2 : Hid (∀ p : Addr, p.block ≠ w.heap.size → W3.cell? p = w2.cell? p) := fun p hp => by rw [← hW]; rw [World.cell?_setCell_other _ _ _ _ (fun e => hp (by subst e; rfl))]
  have X2 : W3.heap.size = w2.heap.size := by rw [← hW]; simp [World.setCell]
  rw [hW] at M3 ⊢
  clear hW
  have Z3 : w2.heap.size ≤ W3.heap.size := by omega
  clear X2
  have HF1 := Lib.hid (((HS0.out.eq fun a ha o => E0.out _ (by have := (HB1.out a ha).1; show a.block ≠ _; omega)).grown GG1.out).eq (w' := W2) fun a ha o => E1.out _ (by have := (HB1.out a ha).1; show a.block ≠ _; omega))
  have HF1 := Lib.hid ((HF1.out.grown GG2.out).eq (w' := W3) fun a ha o => E2.out _ (by have := (HB1.out a ha).1; show a.block ≠ _; omega))
  have HF2 := Lib.hid (((HS1.out.eq fun a ha o => E1.out _ (by have := (HB2.out a ha).1; show a.block ≠ _; omega)).grown GG2.out).eq (w' := W3) fun a ha o => E2.out _ (by have := (HB2.out a ha).1; show a.block ≠ _; omega))
  have HF3 := Lib.hid (HS2.out.eq (w' := W3) fun a ha o => E2.out _ (by have := (HB3.out a ha).1; show a.block ≠ _; omega))
  clear HS0 HS1 HS2 E0 E1 E2 GG0 GG1 GG2 K0 K1 K2 M0 M1 M2
  have u0 := block_cell M3.out.a 0 _ rfl
  have z0 := block_cell M3.out.z 0 _ rfl
  have y0 := block_free (k := 0) M3.out.z
  have u1 := block_cell M3.out.a 1 _ rfl
  have z1 := block_cell M3.out.z 1 _ rfl
  have y1 := block_free (k := 1) M3.out.z
  have u2 := block_cell M3.out.a 2 _ rfl
  have z2 := block_cell M3.out.z 2 _ rfl
  have y2 := block_free (k := 2) M3.out.z
  have u3 := block_cell M3.out.a 3 _ rfl
  have z3 := block_cell M3.out.z 3 _ rfl
  have y3 := block_free (k := 3) M3.out.z
  have u4 := block_cell M3.out.a 4 _ rfl
  have z4 := block_cell M3.out.z 4 _ rfl
  have y4 := block_free (k := 4) M3.out.z
  have u5 := block_cell M3.out.a 5 _ rfl
  have z5 := block_cell M3.out.z 5 _ rfl
  have y5 := block_free (k := 5) M3.out.z
  go_wp2_with fail
  refine bodyPost_ret (v := .agg #[.string nm, .int .i64 sp, .int .i64 st, .slice a1 ss.length c1, .slice a2 ls.length c2, .slice a3 ts.length c3]) (by simp [results, Try.results63, go_sem, z0, z1, z2, z3, z4, z5]) rfl ⟨⟨_, rfl, a1, c1, a2, c2, a3, c3, rfl, ?_, ⟨fun a ha => by have := (HB1.out a ha).1; omega, fun a ha => by have := (HB2.out a ha).1; omega, fun a ha => by have := (HB3.out a ha).1; omega⟩⟩, ?_⟩
  · refine ⟨HA.out.ns, HA.out.sl, HA.out.ll, HA.out.tl, HF1.out.eq fun a ha o => ?_, HF2.out.eq fun a ha o => ?_, HF3.out.eq fun a ha o => ?_⟩
    · have hb := (HB1.out a ha).1
      iterate 6 rw [World.cell?_setCell_other _ _ _ _ (fun e => by injection e with e; omega)]
    · have hb := (HB2.out a ha).1
      iterate 6 rw [World.cell?_setCell_other _ _ _ _ (fun e => by injection e with e; omega)]
    · have hb := (HB3.out a ha).1
      iterate 6 rw [World.cell?_setCell_other _ _ _ _ (fun e => by injection e with e; omega)]
  · exact (((((((M3.out.setZ 0 _).setZ 1 _).setZ 2 _).setZ 3 _).setZ 4 _).setZ 5 _)).g

end Go.Proofs.Ytgkhhfojioepgaa
namespace Go.Proofs.Ytgkhhfojioepgaa
open Go.RowKit
set_option linter.unusedSimpArgs false
set_option linter.unusedVariables false

set_option maxHeartbeats 800000 in
theorem refRoot_any (n R : Nat) (hn : n < 9223372036854775808) (hR : Hid (IsRoot n R)) (w : World) :
    Calls Try.prog 107 #[.int .i64 n] w fun e w' => e = .returned (.tuple #[.int .i64 R, .int .i64 0]) ∧ w = w' := by
  have hRb := root_lt hR.out hn
  have hRi : (R : Int) ≤ 3037000499 := by omega
  have hni : (n : Int) ≤ 9223372036854775807 := by omega
  clear hRb hn
  go_enter Try.func107, Try.ntmps107
  go_wp2
  go_loop [4, 5] (fun lv hv => ∃ lo hi : Nat, lv = .int .i64 lo ∧ hv = .int .i64 hi ∧ (lo : Int) ≤ (R : Int) ∧ (R : Int) ≤ (hi : Int) ∧ (hi : Int) ≤ 3037000499) (fun lv hv => (intOf hv - intOf lv).toNat)
  case atStart => exact ⟨0, 3037000499, rfl, rfl, by omega, by omega, by omega⟩
  case round =>
    obtain ⟨lo, hi, rfl, rfl, h1, h2, h3⟩ := hrel
    by_cases hlt : (lo : Int) < (hi : Int)
    · obtain ⟨mid, hmid⟩ : ∃ m, (lo + hi + 1) / 2 = m := ⟨_, rfl⟩
      have hm1 : lo < mid := by omega
      have hm2 : mid ≤ hi := by omega
      have eM : ((lo : Int) + (hi : Int) + 1) / 2 = (mid : Int) := by omega
      obtain ⟨sq, hsq⟩ : ∃ m, mid * mid = m := ⟨_, rfl⟩
      have hsb : sq ≤ 3037000499 * 3037000499 := by rw [← hsq]; exact Nat.mul_le_mul (by omega) (by omega)
      have eQ : IntKind.i64.wrap ((mid : Int) * (mid : Int)) = (sq : Int) := by rw [← Int.natCast_mul, hsq]; exact IntWalk.i64_in _ (by omega)
      have hcmp : sq ≤ n ↔ mid ≤ R := by rw [← hsq]; exact root_le hR.out
      have hm1i : (lo : Int) < (mid : Int) := by omega
      have hm2i : (mid : Int) ≤ (hi : Int) := by omega
      by_cases hc : (sq : Int) ≤ (n : Int)
      · have hc2 : (mid : Int) ≤ (R : Int) := by have := hcmp.1 (by omega); omega
        clear hcmp hmid hsq hsb hm1 hm2
        go_wp2
        go_round
        case rel => exact ⟨mid, hi, by first | rfl | rw [eM], rfl, hc2, h2, h3⟩
        case measure => simp [intOf]; omega
      · have hc2 : (R : Int) ≤ ((mid - 1 : Nat) : Int) := by have := hcmp; omega
        have hm0 : Hid (0 < mid) := by show _ < _; omega
        have hm3 : Hid (((mid - 1 : Nat) : Int) ≤ 3037000499) := by show _ ≤ _; omega
        have HC := Lib.hid hc2
        clear hcmp hmid hsq hsb hm1 hm2 hc2
        go_wp2
        go_round
        case rel => exact ⟨lo, mid - 1, rfl, by have := hm0.out; first | go_num | (rw [eM]; go_num), h1, HC.out, hm3.out⟩
        case measure => simp [intOf]; omega
    · have hr : lo = R := by omega
      have HR := Lib.hid hr; clear hr
      go_wp2
      go_ret2
      exact ⟨ret_ii (by rw [HR.out]) rfl, rfl⟩

theorem refRoot_neg (n : Int) (hn : n < 0) (w : World) : Calls Try.prog 107 #[.int .i64 n] w fun e w' => e = .returned (.tuple #[.int .i64 0, .int .i64 1]) ∧ w = w' := by
  go_enter Try.func107, Try.ntmps107
  go_wp2
  go_ret2
  exact ⟨rfl, rfl⟩
/-- Both Roots return the same. -/
theorem roots (n : Int) (h0 : -9223372036854775808 ≤ n) (h1 : n ≤ 9223372036854775807) : ∃ r e : Int,
    (∀ w, Calls Try.prog 133 #[.int .i64 n] w fun x w' => x = .returned (.tuple #[.int .i64 r, .int .i64 e]) ∧ w = w') ∧
    (∀ w, Calls Try.prog 107 #[.int .i64 n] w fun x w' => x = .returned (.tuple #[.int .i64 r, .int .i64 e]) ∧ w = w') := by
  by_cases hn : n < 0
  · exact ⟨0, 1, root_neg n hn, refRoot_neg n hn⟩
  · obtain ⟨m, rfl⟩ : ∃ m : Nat, (m : Int) = n := ⟨n.toNat, by omega⟩
    obtain ⟨R, hR⟩ := root_exists m
    exact ⟨R, 0, root_any m R (by omega) hR, refRoot_any m R (by omega) hR⟩

end Go.Proofs.Ytgkhhfojioepgaa
namespace Go.Proofs.Ytgkhhfojioepgaa
open Go.RowKit
set_option linter.unusedSimpArgs false
set_option linter.unusedVariables false

theorem rout_no (n lo hi : Int) (h0 : lo ≤ n) (h1 : n ≤ hi) (w : World) : Calls Try.prog 59 #[.int .i64 n, .int .i64 lo, .int .i64 hi] w fun e w' => e = .returned (.bool false) ∧ w = w' := by
  have h2 : decide (n < lo) = false := by simp; omega
  have h3 : decide (hi < n) = false := by simp; omega
  go_enter Try.func59, Try.ntmps59
  go_wp2
  go_ret
  exact ⟨ret_bool (by first | rfl | (simp; omega)), rfl⟩
theorem rout_yes (n lo hi : Int) (h : n < lo ∨ hi < n) (w : World) : Calls Try.prog 59 #[.int .i64 n, .int .i64 lo, .int .i64 hi] w fun e w' => e = .returned (.bool true) ∧ w = w' := by
  by_cases h0 : n < lo
  · clear h
    go_enter Try.func59, Try.ntmps59
    go_wp2
    go_ret
    exact ⟨ret_bool (by first | rfl | (simp; omega)), rfl⟩
  · have h1 : hi < n := by omega
    have h2 : decide (n < lo) = false := by simp; omega
    clear h
    go_enter Try.func59, Try.ntmps59
    go_wp2
    go_ret
    exact ⟨ret_bool (by first | rfl | (simp; omega)), rfl⟩

theorem isPlace_yes (x : Smp) (h : inPlane x) (w : World) :
    Calls Try.prog 106 #[.agg #[.int .i64 x.t, .int .i64 x.x, .int .i64 x.y, .int .i64 x.z, .int .i64 x.p, .int .i64 x.q, .int .i64 x.s]] w fun e w' => e = .returned (.bool true) ∧ w.grownBy w' none := by
  obtain ⟨t, x, y, z, p, q, s⟩ := x
  have H := Lib.hid h; clear h
  go_enter Try.func106, Try.ntmps106
  go_wp2_with fail
  refine (rout_no _ _ _ H.out.1.1 H.out.1.2 _).mono ?_; rintro e w1 ⟨rfl, rfl⟩
  go_wp2_with fail
  refine (rout_no _ _ _ H.out.2.1 H.out.2.2 _).mono ?_; rintro e w1 ⟨rfl, rfl⟩
  go_wp2_with fail
  go_ret
  exact ⟨rfl, World.grownBy_alloc _ _ _⟩
theorem isPlace_no (x : Smp) (h : ¬ inPlane x) (w : World) :
    Calls Try.prog 106 #[.agg #[.int .i64 x.t, .int .i64 x.x, .int .i64 x.y, .int .i64 x.z, .int .i64 x.p, .int .i64 x.q, .int .i64 x.s]] w fun e w' => e = .returned (.bool false) ∧ w.grownBy w' none := by
  obtain ⟨t, x, y, z, p, q, s⟩ := x
  unfold inPlane at h
  simp only at h ⊢
  by_cases h1 : -100000000 ≤ x ∧ x ≤ 100000000
  · have h3 : y < -100000000 ∨ 100000000 < y := by omega
    have H1 := Lib.hid h1; have H3 := Lib.hid h3; clear h h1 h3
    go_enter Try.func106, Try.ntmps106
    go_wp2_with fail
    refine (rout_no _ _ _ H1.out.1 H1.out.2 _).mono ?_; rintro e w1 ⟨rfl, rfl⟩
    go_wp2_with fail
    refine (rout_yes _ _ _ H3.out _).mono ?_; rintro e w1 ⟨rfl, rfl⟩
    go_wp2_with fail
    go_ret
    exact ⟨rfl, World.grownBy_alloc _ _ _⟩
  · have h3 : x < -100000000 ∨ 100000000 < x := by omega
    have H3 := Lib.hid h3; clear h h1 h3
    go_enter Try.func106, Try.ntmps106
    go_wp2_with fail
    refine (rout_yes _ _ _ H3.out _).mono ?_; rintro e w1 ⟨rfl, rfl⟩
    go_wp2_with fail
    go_ret
    exact ⟨rfl, World.grownBy_alloc _ _ _⟩
theorem rsquare_is (a : Int) (h0 : -200000000 ≤ a) (h1 : a ≤ 200000000) (w : World) {n : Int} (h : Hid (a * a = n)) :
    Calls Try.prog 147 #[.int .i64 a] w fun e w' => e = .returned (.int .i64 n) ∧ w' = w := by
  have b := sq_bd h0 h1
  have m : IntKind.i64.wrap (a * a) = n := by rw [h.out]; exact IntWalk.i64_in _ (by rw [← h.out]; omega)
  clear b
  go_enter Try.func147, Try.ntmps147
  go_wp2_with fail
  go_ret
  exact ⟨rfl, rfl⟩
set_option maxRecDepth 100000 in
set_option maxHeartbeats 800000 in
theorem apart_is (p q : Smp) (hp : inPlane p) (hq : inPlane q) (w : World) {n : Int} (h : Hid (sqP p q = n)) :
    Calls Try.prog 108 #[.agg #[.int .i64 p.t, .int .i64 p.x, .int .i64 p.y, .int .i64 p.z, .int .i64 p.p, .int .i64 p.q, .int .i64 p.s], .agg #[.int .i64 q.t, .int .i64 q.x, .int .i64 q.y, .int .i64 q.z, .int .i64 q.p, .int .i64 q.q, .int .i64 q.s]] w fun e w' => e = .returned (.int .i64 n) ∧ w.grownBy w' none := by
  obtain ⟨pt, px, py, pz, pp, pq, ps⟩ := p
  obtain ⟨qt, qx, qy, qz, qp, qq, qs⟩ := q
  unfold inPlane at hp hq
  simp only at hp hq
  have hn : (qx - px) * (qx - px) + (qy - py) * (qy - py) = n := h.out
  obtain ⟨dx, hdx⟩ : ∃ d, px - qx = d := ⟨_, rfl⟩
  obtain ⟨dy, hdy⟩ : ∃ d, py - qy = d := ⟨_, rfl⟩
  have ex : qx - px = -dx := by omega
  have ey : qy - py = -dy := by omega
  rw [ex, ey, Int.neg_mul_neg, Int.neg_mul_neg] at hn
  have bx := sq_bd (a := dx) (by omega) (by omega)
  have by_ := sq_bd (a := dy) (by omega) (by omega)
  have rx : IntKind.i64.wrap (px - qx) = dx := by rw [hdx]; exact IntWalk.i64_in _ (by omega)
  have ry : IntKind.i64.wrap (py - qy) = dy := by rw [hdy]; exact IntWalk.i64_in _ (by omega)
  have dx0 : -200000000 ≤ dx := by omega
  have dx1 : dx ≤ 200000000 := by omega
  have dy0 : -200000000 ≤ dy := by omega
  have dy1 : dy ≤ 200000000 := by omega
  obtain ⟨X, hX⟩ : ∃ d, dx * dx = d := ⟨_, rfl⟩
  obtain ⟨Y, hY⟩ : ∃ d, dy * dy = d := ⟨_, rfl⟩
  rw [hX, hY] at hn
  rw [hX] at bx
  rw [hY] at by_
  have sm : IntKind.i64.wrap (X + Y) = n := by rw [hn]; exact IntWalk.i64_in _ (by omega)
  have HX := Lib.hid hX; have HY := Lib.hid hY; have HDX := Lib.hid hdx; have HDY := Lib.hid hdy; have HP := Lib.hid hp; have HQ := Lib.hid hq; have HBX := Lib.hid bx; have HBY := Lib.hid by_
  have D0 := Lib.hid dx0; have D1 := Lib.hid dx1; have D2 := Lib.hid dy0; have D3 := Lib.hid dy1
  clear hX hY hdx hdy hp hq h hn ex ey bx by_ dx0 dx1 dy0 dy1
  go_enter Try.func108, Try.ntmps108
  go_wp2_with fail
  go_quiet ((go_at_call 147; first | exact Calls.quiet_of_same (rsquare_is dx D0.out D1.out _ HX) | exact Calls.quiet_of_same (rsquare_is dy D2.out D3.out _ HY)))
  go_wp2_with fail
  go_ret
  exact ⟨rfl, grown_trans (grown_trans (World.grownBy_alloc _ _ _) (World.grownBy_alloc _ _ _)) (grown_drewN _ _ _)⟩

set_option maxHeartbeats 800000 in
theorem rstep_any (p q : Smp) (w : World) {n e : Int} (h : Hid (stepE p q = (n, e))) :
    Calls Try.prog 46 #[.agg #[.int .i64 p.t, .int .i64 p.x, .int .i64 p.y, .int .i64 p.z, .int .i64 p.p, .int .i64 p.q, .int .i64 p.s], .agg #[.int .i64 q.t, .int .i64 q.x, .int .i64 q.y, .int .i64 q.z, .int .i64 q.p, .int .i64 q.q, .int .i64 q.s]] w fun x w' => x = .returned (.tuple #[.int .i64 n, .int .i64 e]) ∧ w.grownBy w' none := by
  by_cases h1 : inPlane p
  · by_cases h2 : inPlane q
    · have hv : (n, e) = (stepW p q, 0) := by rw [← h.out]; unfold stepE; rw [if_pos ⟨h1, h2⟩]
      simp only [Prod.mk.injEq] at hv
      have HV := Lib.hid hv.1
      obtain rfl := hv.2
      have H1 := Lib.hid h1; have H2 := Lib.hid h2
      clear hv h1 h2 h
      obtain ⟨pt, px, py, pz, pp, pq, ps⟩ := p
      obtain ⟨qt, qx, qy, qz, qp, qq, qs⟩ := q
      go_enter Try.func46, Try.ntmps46
      go_wp2_with fail
      refine (isPlace_yes ⟨pt, px, py, pz, pp, pq, ps⟩ H1.out _).mono ?_; rintro x w1 ⟨rfl, hg1⟩
      have G1 := grown_trans (grown_trans (World.grownBy_alloc w (.cells #[.int .i64 pt, .int .i64 px, .int .i64 py, .int .i64 pz, .int .i64 pp, .int .i64 pq, .int .i64 ps] 28) none) (World.grownBy_alloc _ (.cells #[.int .i64 qt, .int .i64 qx, .int .i64 qy, .int .i64 qz, .int .i64 qp, .int .i64 qq, .int .i64 qs] 28) none)) hg1
      have ap0 : w1.cell? ⟨w.heap.size, 0, none⟩ = some (.int .i64 pt) := grown_cell hg1 (by simp)
      have aq0 : w1.cell? ⟨w.heap.size + 1, 0, none⟩ = some (.int .i64 qt) := grown_cell hg1 (by simp)
      have ap1 : w1.cell? ⟨w.heap.size, 1, none⟩ = some (.int .i64 px) := grown_cell hg1 (by simp)
      have aq1 : w1.cell? ⟨w.heap.size + 1, 1, none⟩ = some (.int .i64 qx) := grown_cell hg1 (by simp)
      have ap2 : w1.cell? ⟨w.heap.size, 2, none⟩ = some (.int .i64 py) := grown_cell hg1 (by simp)
      have aq2 : w1.cell? ⟨w.heap.size + 1, 2, none⟩ = some (.int .i64 qy) := grown_cell hg1 (by simp)
      have ap3 : w1.cell? ⟨w.heap.size, 3, none⟩ = some (.int .i64 pz) := grown_cell hg1 (by simp)
      have aq3 : w1.cell? ⟨w.heap.size + 1, 3, none⟩ = some (.int .i64 qz) := grown_cell hg1 (by simp)
      have ap4 : w1.cell? ⟨w.heap.size, 4, none⟩ = some (.int .i64 pp) := grown_cell hg1 (by simp)
      have aq4 : w1.cell? ⟨w.heap.size + 1, 4, none⟩ = some (.int .i64 qp) := grown_cell hg1 (by simp)
      have ap5 : w1.cell? ⟨w.heap.size, 5, none⟩ = some (.int .i64 pq) := grown_cell hg1 (by simp)
      have aq5 : w1.cell? ⟨w.heap.size + 1, 5, none⟩ = some (.int .i64 qq) := grown_cell hg1 (by simp)
      have ap6 : w1.cell? ⟨w.heap.size, 6, none⟩ = some (.int .i64 ps) := grown_cell hg1 (by simp)
      have aq6 : w1.cell? ⟨w.heap.size + 1, 6, none⟩ = some (.int .i64 qs) := grown_cell hg1 (by simp)
      clear hg1
      go_wp2_with fail
      refine (isPlace_yes ⟨qt, qx, qy, qz, qp, qq, qs⟩ H2.out _).mono ?_; rintro x w2 ⟨rfl, hg1⟩
      have G2 := grown_trans G1 hg1
      replace ap0 := grown_cell hg1 ap0
      replace aq0 := grown_cell hg1 aq0
      replace ap1 := grown_cell hg1 ap1
      replace aq1 := grown_cell hg1 aq1
      replace ap2 := grown_cell hg1 ap2
      replace aq2 := grown_cell hg1 aq2
      replace ap3 := grown_cell hg1 ap3
      replace aq3 := grown_cell hg1 aq3
      replace ap4 := grown_cell hg1 ap4
      replace aq4 := grown_cell hg1 aq4
      replace ap5 := grown_cell hg1 ap5
      replace aq5 := grown_cell hg1 aq5
      replace ap6 := grown_cell hg1 ap6
      replace aq6 := grown_cell hg1 aq6
      clear hg1 G1
      go_wp2_with fail
      have hb := sqP_bd H1.out H2.out
      obtain ⟨R, hR, hi⟩ := rootI_is (sqP ⟨pt, px, py, pz, pp, pq, ps⟩ ⟨qt, qx, qy, qz, qp, qq, qs⟩)
      obtain ⟨m, hm⟩ : ∃ m : Nat, (m : Int) = sqP ⟨pt, px, py, pz, pp, pq, ps⟩ ⟨qt, qx, qy, qz, qp, qq, qs⟩ := ⟨(sqP ⟨pt, px, py, pz, pp, pq, ps⟩ ⟨qt, qx, qy, qz, qp, qq, qs⟩).toNat, by omega⟩
      have HM : Hid (sqP ⟨pt, px, py, pz, pp, pq, ps⟩ ⟨qt, qx, qy, qz, qp, qq, qs⟩ = (m : Int)) := hm.symm
      have hmt : (sqP ⟨pt, px, py, pz, pp, pq, ps⟩ ⟨qt, qx, qy, qz, qp, qq, qs⟩).toNat = m := by omega
      rw [hmt] at hi
      have HI := Lib.hid hi
      have hml : m < 9223372036854775808 := by omega
      have HML := Lib.hid hml
      have HV2 : Hid ((R : Int) = n) := by show _ = _; rw [HV.out, ← hR]; rfl
      clear hb hR hi hm hmt hml
      refine (apart_is ⟨pt, px, py, pz, pp, pq, ps⟩ ⟨qt, qx, qy, qz, qp, qq, qs⟩ H1.out H2.out _ HM).mono ?_; rintro x w3 ⟨rfl, hg3⟩
      have G3 := grown_trans G2 hg3
      clear hg3 G2
      go_wp2_with fail
      refine (refRoot_any m R HML.out HI _).mono ?_; rintro e w4 ⟨rfl, rfl⟩
      go_wp2_with fail
      go_ret2
      exact ⟨ret_ii HV2.out rfl, G3⟩
    · have hv : (n, e) = (0, 9) := by rw [← h.out]; unfold stepE; rw [if_neg (fun h => h2 h.2)]
      simp only [Prod.mk.injEq] at hv
      obtain ⟨rfl, rfl⟩ := hv
      have H1 := Lib.hid h1; have H2 := Lib.hid h2
      clear h1 h2 h
      obtain ⟨pt, px, py, pz, pp, pq, ps⟩ := p
      obtain ⟨qt, qx, qy, qz, qp, qq, qs⟩ := q
      go_enter Try.func46, Try.ntmps46
      go_wp2_with fail
      refine (isPlace_yes ⟨pt, px, py, pz, pp, pq, ps⟩ H1.out _).mono ?_; rintro x w1 ⟨rfl, hg1⟩
      have G1 := grown_trans (grown_trans (World.grownBy_alloc w (.cells #[.int .i64 pt, .int .i64 px, .int .i64 py, .int .i64 pz, .int .i64 pp, .int .i64 pq, .int .i64 ps] 28) none) (World.grownBy_alloc _ (.cells #[.int .i64 qt, .int .i64 qx, .int .i64 qy, .int .i64 qz, .int .i64 qp, .int .i64 qq, .int .i64 qs] 28) none)) hg1
      have ap0 : w1.cell? ⟨w.heap.size, 0, none⟩ = some (.int .i64 pt) := grown_cell hg1 (by simp)
      have aq0 : w1.cell? ⟨w.heap.size + 1, 0, none⟩ = some (.int .i64 qt) := grown_cell hg1 (by simp)
      have ap1 : w1.cell? ⟨w.heap.size, 1, none⟩ = some (.int .i64 px) := grown_cell hg1 (by simp)
      have aq1 : w1.cell? ⟨w.heap.size + 1, 1, none⟩ = some (.int .i64 qx) := grown_cell hg1 (by simp)
      have ap2 : w1.cell? ⟨w.heap.size, 2, none⟩ = some (.int .i64 py) := grown_cell hg1 (by simp)
      have aq2 : w1.cell? ⟨w.heap.size + 1, 2, none⟩ = some (.int .i64 qy) := grown_cell hg1 (by simp)
      have ap3 : w1.cell? ⟨w.heap.size, 3, none⟩ = some (.int .i64 pz) := grown_cell hg1 (by simp)
      have aq3 : w1.cell? ⟨w.heap.size + 1, 3, none⟩ = some (.int .i64 qz) := grown_cell hg1 (by simp)
      have ap4 : w1.cell? ⟨w.heap.size, 4, none⟩ = some (.int .i64 pp) := grown_cell hg1 (by simp)
      have aq4 : w1.cell? ⟨w.heap.size + 1, 4, none⟩ = some (.int .i64 qp) := grown_cell hg1 (by simp)
      have ap5 : w1.cell? ⟨w.heap.size, 5, none⟩ = some (.int .i64 pq) := grown_cell hg1 (by simp)
      have aq5 : w1.cell? ⟨w.heap.size + 1, 5, none⟩ = some (.int .i64 qq) := grown_cell hg1 (by simp)
      have ap6 : w1.cell? ⟨w.heap.size, 6, none⟩ = some (.int .i64 ps) := grown_cell hg1 (by simp)
      have aq6 : w1.cell? ⟨w.heap.size + 1, 6, none⟩ = some (.int .i64 qs) := grown_cell hg1 (by simp)
      clear hg1
      go_wp2_with fail
      refine (isPlace_no ⟨qt, qx, qy, qz, qp, qq, qs⟩ H2.out _).mono ?_; rintro x w2 ⟨rfl, hg1⟩
      have G2 := grown_trans G1 hg1
      clear hg1 G1
      go_wp2_with fail
      go_ret2
      exact ⟨rfl, G2⟩
  · have hv : (n, e) = (0, 9) := by rw [← h.out]; unfold stepE; rw [if_neg (fun h => h1 h.1)]
    simp only [Prod.mk.injEq] at hv
    obtain ⟨rfl, rfl⟩ := hv
    have H1 := Lib.hid h1
    clear h1 h
    obtain ⟨pt, px, py, pz, pp, pq, ps⟩ := p
    obtain ⟨qt, qx, qy, qz, qp, qq, qs⟩ := q
    go_enter Try.func46, Try.ntmps46
    go_wp2_with fail
    refine (isPlace_no ⟨pt, px, py, pz, pp, pq, ps⟩ H1.out _).mono ?_; rintro x w1 ⟨rfl, hg1⟩
    have G1 := grown_trans (grown_trans (World.grownBy_alloc w (.cells #[.int .i64 pt, .int .i64 px, .int .i64 py, .int .i64 pz, .int .i64 pp, .int .i64 pq, .int .i64 ps] 28) none) (World.grownBy_alloc _ (.cells #[.int .i64 qt, .int .i64 qx, .int .i64 qy, .int .i64 qz, .int .i64 qp, .int .i64 qq, .int .i64 qs] 28) none)) hg1
    clear hg1
    go_wp2_with fail
    go_ret2
    exact ⟨rfl, G1⟩
set_option maxHeartbeats 800000 in
theorem length_is (p q : Smp) (hp : inPlane p) (hq : inPlane q) (w : World) {n : Int} (h : Hid (stepW p q = n)) :
    Calls Try.prog 75 #[.agg #[.int .i64 p.t, .int .i64 p.x, .int .i64 p.y, .int .i64 p.z, .int .i64 p.p, .int .i64 p.q, .int .i64 p.s], .agg #[.int .i64 q.t, .int .i64 q.x, .int .i64 q.y, .int .i64 q.z, .int .i64 q.p, .int .i64 q.q, .int .i64 q.s]] w fun e w' => e = .returned (.int .i64 n) ∧ w.grownBy w' none := by
  have HS : Hid (stepE p q = (n, 0)) := by show _ = _; unfold stepE; rw [if_pos ⟨hp, hq⟩, h.out]
  clear hp hq h
  obtain ⟨pt, px, py, pz, pp, pq, ps⟩ := p
  obtain ⟨qt, qx, qy, qz, qp, qq, qs⟩ := q
  go_enter Try.func75, Try.ntmps75
  go_wp2_with fail
  refine (rstep_any ⟨pt, px, py, pz, pp, pq, ps⟩ ⟨qt, qx, qy, qz, qp, qq, qs⟩ _ HS).mono ?_; rintro x w1 ⟨rfl, hg1⟩
  have G1 := grown_trans (grown_trans (World.grownBy_alloc w (.cells #[.int .i64 pt, .int .i64 px, .int .i64 py, .int .i64 pz, .int .i64 pp, .int .i64 pq, .int .i64 ps] 28) none) (World.grownBy_alloc _ (.cells #[.int .i64 qt, .int .i64 qx, .int .i64 qy, .int .i64 qz, .int .i64 qp, .int .i64 qq, .int .i64 qs] 28) none)) hg1
  clear hg1
  go_wp2_with fail
  go_ret
  exact ⟨rfl, G1⟩

end Go.Proofs.Ytgkhhfojioepgaa
namespace Go.Proofs.Ytgkhhfojioepgaa
open Go.RowKit
set_option linter.unusedSimpArgs false
set_option linter.unusedVariables false

set_option maxRecDepth 100000 in
set_option maxHeartbeats 3200000 in
theorem where_is (nm : ByteArray) (sp st : Int) (b off sc : Nat) (ss : List Smp) (lo : Option Addr) (lc : Nat) (ls : List LapV) (to_ : Option Addr) (tc : Nat) (ts : List ByteArray) (HS : Hid (SOk ss)) (s : Int) {m : Nat} (HM : Hid (SIdx ss s m)) (hml : m < ss.length) (hs0 : 0 ≤ s) (w : World) (hs : SmpsAt w (some ⟨b, off, none⟩) ss) {x : Smp} (hx : Hid (atV ss s m = x)) :
    Calls Try.prog 61 #[.agg #[.string nm, .int .i64 sp, .int .i64 st, .slice (some ⟨b, off, none⟩) ss.length sc, .slice lo ls.length lc, .slice to_ ts.length tc], .int .i64 s] w fun e w' => e = .returned (smpVal x) ∧ w.grownBy w' none := by
  have hl : (ss.length : Int) ≤ 20000 := HS.out.len
  have HA := Lib.hid hs
  have G2 := Lib.hid (grown_trans (World.grownBy_alloc w (.cells #[.string nm, .int .i64 sp, .int .i64 st, .slice (some ⟨b, off, none⟩) ss.length sc, .slice lo ls.length lc, .slice to_ ts.length tc] 26) none) (World.grownBy_alloc _ (.cells #[.int .i64 0, .int .i64 0, .int .i64 0, .int .i64 0, .int .i64 0, .int .i64 0, .int .i64 0] 28) none))
  have HZ : Hid (((w.alloc (.cells #[.string nm, .int .i64 sp, .int .i64 st, .slice (some ⟨b, off, none⟩) ss.length sc, .slice lo ls.length lc, .slice to_ ts.length tc] 26)).alloc (.cells #[.int .i64 0, .int .i64 0, .int .i64 0, .int .i64 0, .int .i64 0, .int .i64 0, .int .i64 0] 28)).heap[w.heap.size + 1]? = some (.cells #[.int .i64 0, .int .i64 0, .int .i64 0, .int .i64 0, .int .i64 0, .int .i64 0, .int .i64 0] 28 (0, 0))) := by
    have := heap_alloc_new (w.alloc (.cells #[.string nm, .int .i64 sp, .int .i64 st, .slice (some ⟨b, off, none⟩) ss.length sc, .slice lo ls.length lc, .slice to_ ts.length tc] 26)) (.cells #[.int .i64 0, .int .i64 0, .int .i64 0, .int .i64 0, .int .i64 0, .int .i64 0, .int .i64 0] 28); show _ = _; simpa using this
  have HB3 : Hid (((w.alloc (.cells #[.string nm, .int .i64 sp, .int .i64 st, .slice (some ⟨b, off, none⟩) ss.length sc, .slice lo ls.length lc, .slice to_ ts.length tc] 26)).alloc (.cells #[.int .i64 0, .int .i64 0, .int .i64 0, .int .i64 0, .int .i64 0, .int .i64 0, .int .i64 0] 28)).cell? ⟨w.heap.size, 3, none⟩ = some (.slice (some ⟨b, off, none⟩) ss.length sc)) := by show _ = _; go_simp
  have rl : IntKind.i64.wrap ((ss.length : Int) - 1) = (ss.length : Int) - 1 := IntWalk.i64_in _ (by omega)
  unfold smpVal
  go_enter Try.func61, Try.ntmps61
  go_wp2_with fail
  go_quiet (fail)
  have GD := Lib.hid (grown_trans G2.out (grown_drewN _ _ nq))
  have HZD := Lib.hid (((grown_drewN ((w.alloc (.cells #[.string nm, .int .i64 sp, .int .i64 st, .slice (some ⟨b, off, none⟩) ss.length sc, .slice lo ls.length lc, .slice to_ ts.length tc] 26)).alloc (.cells #[.int .i64 0, .int .i64 0, .int .i64 0, .int .i64 0, .int .i64 0, .int .i64 0, .int .i64 0] 28)) none nq).block _ (lt_of_block HZ.out) (by simp)).trans HZ.out)
  have HBD := Lib.hid (grown_cell (grown_drewN ((w.alloc (.cells #[.string nm, .int .i64 sp, .int .i64 st, .slice (some ⟨b, off, none⟩) ss.length sc, .slice lo ls.length lc, .slice to_ ts.length tc] 26)).alloc (.cells #[.int .i64 0, .int .i64 0, .int .i64 0, .int .i64 0, .int .i64 0, .int .i64 0, .int .i64 0] 28)) none nq) HB3.out)
  obtain ⟨V0, hV0⟩ : ∃ V0, ((w.alloc (.cells #[.string nm, .int .i64 sp, .int .i64 st, .slice (some ⟨b, off, none⟩) ss.length sc, .slice lo ls.length lc, .slice to_ ts.length tc] 26)).alloc (.cells #[.int .i64 0, .int .i64 0, .int .i64 0, .int .i64 0, .int .i64 0, .int .i64 0, .int .i64 0] 28)).drewN nq = V0 := ⟨_, rfl⟩
  rw [hV0] at GD HZD HBD ⊢
  clear hV0 HZ HB3 G2
  go_wp2_with fail
  go_loopw [5, 6] (fun s5 s6 wr => ∃ (lo hi : Nat), s5 = .int .i64 lo ∧ s6 = .int .i64 hi ∧ hi < ss.length ∧ lo ≤ hi ∧ Hid (lo ≤ m ∧ m ≤ hi) ∧ wr = V0)
    (fun s5 s6 _ => (intOf s6).toNat - (intOf s5).toNat)
  case atStart => exact ⟨0, ss.length - 1, rfl, by congr 1; omega, by omega, by omega, ⟨Nat.zero_le _, by omega⟩, rfl⟩
  case round =>
    obtain ⟨lo, hi, rfl, rfl, hin, hlh, hM, rfl⟩ := hrel
    have b3 := HBD.out
    by_cases hlt : lo < hi
    · obtain ⟨mid, hmid⟩ : ∃ mid, mid = (lo + hi) / 2 := ⟨_, rfl⟩
      have hmi : ((lo : Int) + (hi : Int)) / 2 = (mid : Int) := by omega
      have hmt : ((lo : Int) + (hi : Int)).tdiv 2 = (mid : Int) := by rw [Int.tdiv_eq_ediv_of_nonneg (by omega)]; exact hmi
      have hmidl : mid < ss.length := by omega
      have hml2 : (mid : Int) < (ss.length : Int) := by omega
      have HMID := Lib.hid hmid
      have p0 := ((HA.out.grown GD.out).cells _ rfl mid hmidl).1
      rw [← smpD_at hmidl] at p0
      simp only at p0
      by_cases hc : (smpD ss mid).t < s
      · have HM2 : Hid (mid + 1 ≤ m ∧ m ≤ hi) := by
          refine ⟨?_, hM.out.2⟩
          rcases Nat.lt_or_ge mid m with q | q
          · exact q
          · have := HM.out.2.2 mid q hmidl; omega
        clear hmid
        go_wp2_with fail
        go_roundw
        case rel => exact ⟨mid + 1, hi, by go_num, rfl, hin, by have := HMID.out; omega, HM2.out, by first | rfl | trivial⟩
        case measure => have := HMID.out; simp [intOf]; omega
      · have HM2 : Hid (lo ≤ m ∧ m ≤ mid) := by
          refine ⟨hM.out.1, ?_⟩
          rcases Nat.lt_or_ge mid m with q | q
          · have := HM.out.2.1 mid q; omega
          · exact q
        clear hmid
        go_wp2_with fail
        go_roundw
        case rel => exact ⟨lo, mid, rfl, rfl, by omega, by have := HMID.out; omega, HM2.out, by first | rfl | trivial⟩
        case measure => have := HMID.out; simp [intOf]; omega
    · obtain rfl : lo = m := by have := hM.out; omega
      have hlo2 : (lo : Int) < (ss.length : Int) := by omega
      obtain ⟨q0, q1, q2, q3, q4, q5, q6⟩ := (HA.out.grown GD.out).cells _ rfl lo hml
      rw [← smpD_at hml] at q0 q1 q2 q3 q4 q5 q6
      simp only at q0 q1 q2 q3 q4 q5 q6
      have hxv := hx.out
      unfold atV at hxv
      have hle := HM.out.2.2 lo (Nat.le_refl _) hml
      have hqi := smpIn_of HS.out hml
      have hnlt : ¬ ((lo : Int) < (hi : Int)) := by omega
      by_cases he : (smpD ss lo).t = s
      · rw [if_pos he] at hxv
        rw [hxv] at q0 q1 q2 q3 q4 q5 q6 he
        have hz := HZD.out
        have z0 := block_cell hz 0 _ rfl
        have y0 := block_free (k := 0) hz
        have z1 := block_cell hz 1 _ rfl
        have y1 := block_free (k := 1) hz
        have z2 := block_cell hz 2 _ rfl
        have y2 := block_free (k := 2) hz
        have z3 := block_cell hz 3 _ rfl
        have y3 := block_free (k := 3) hz
        have z4 := block_cell hz 4 _ rfl
        have y4 := block_free (k := 4) hz
        have z5 := block_cell hz 5 _ rfl
        have y5 := block_free (k := 5) hz
        have z6 := block_cell hz 6 _ rfl
        have y6 := block_free (k := 6) hz
        obtain ⟨x0, x1, x2, x3, x4, x5, x6⟩ := x
        simp only at q0 q1 q2 q3 q4 q5 q6 he
        subst he
        have GG := GD
        clear hz hxv hx hs hle hqi HZD
        go_wp2_with fail
        refine bodyPost_ret (v := .agg #[.int .i64 x0, .int .i64 x1, .int .i64 x2, .int .i64 x3, .int .i64 x4, .int .i64 x5, .int .i64 x6]) (by simp [results, Try.results61, go_sem, z0, z1, z2, z3, z4, z5, z6]) rfl ⟨rfl, ?_⟩
        exact grown_far (grown_far (grown_far (grown_far (grown_far (grown_far (grown_far GG.out (by omega) _ _) (by omega) _ _) (by omega) _ _) (by omega) _ _) (by omega) _ _) (by omega) _ _) (by omega) _ _
      · rw [if_neg he] at hxv
        have hm0 : 0 < lo := by
          rcases Nat.eq_zero_or_pos lo with e | e
          · have h0 := HS.out.t0 (by omega)
            rw [e] at hle he
            omega
          · exact e
        obtain ⟨k, hk⟩ : ∃ k, lo - 1 = k := ⟨_, rfl⟩
        have hkl : k < ss.length := by omega
        have hlt' := HM.out.2.1 k (by omega)
        have hpi := smpIn_of HS.out hkl
        obtain ⟨p0, p1, p2, p3, p4, p5, p6⟩ := HA.out.cells _ rfl k hkl
        rw [← smpD_at hkl] at p0 p1 p2 p3 p4 p5 p6
        obtain ⟨v0, v1, v2, v3, v4, v5, v6⟩ := HA.out.cells _ rfl lo hml
        rw [← smpD_at hml] at v0 v1 v2 v3 v4 v5 v6
        simp only at v0 v1 v2 v3 v4 v5 v6
        simp only at p0 p1 p2 p3 p4 p5 p6
        rw [hk] at hxv
        have KO : Hid (∀ V : World, Calls Try.prog 124 #[smpVal (smpD ss k), smpVal (smpD ss lo), .int .i64 s] V fun e w' => e = .returned (smpVal x) ∧ V.grownBy w' none) := fun V => rat_is (smpD ss k) (smpD ss lo) s hpi hqi (by omega) hle (by omega) V (Lib.hid hxv)
        have rk : IntKind.i64.wrap ((lo : Int) - 1) = (k : Int) := by rw [show (lo : Int) - 1 = (k : Int) by omega]; exact IntWalk.i64_in _ (by omega)
        have hk2 : (k : Int) < (ss.length : Int) := by omega
        have hk0 : (0 : Int) ≤ (k : Int) := by omega
        have hm00 : (0 : Int) ≤ (lo : Int) := by omega
        generalize smpD ss k = P at *
        generalize smpD ss lo = Q at *
        obtain ⟨pt, px, py, pz, pp, pq, ps⟩ := P
        obtain ⟨qt, qx, qy, qz, qp, qq, qs⟩ := Q
        simp only at p0 p1 p2 p3 p4 p5 p6 q0 q1 q2 q3 q4 q5 q6 v0 v1 v2 v3 v4 v5 v6 he
        have heq : (qt == s) = false := beq_eq_false_iff_ne.2 he
        unfold smpVal at KO
        simp only at KO
        have HPQ := Lib.hid (And.intro (And.intro p0 (And.intro p1 (And.intro p2 (And.intro p3 (And.intro p4 (And.intro p5 p6)))))) (And.intro v0 (And.intro v1 (And.intro v2 (And.intro v3 (And.intro v4 (And.intro v5 v6)))))))
        clear v0 v1 v2 v3 v4 v5 v6 hx hs hqi hle hpi hlt' hxv hk p0 p1 p2 p3 p4 p5 p6 q1 q2 q3 q4 q5 q6
        have HC : Hid (∀ V, (w.grownBy V none ∧ V.cell? ⟨w.heap.size, 3, none⟩ = some (.slice (some ⟨b, off, none⟩) ss.length sc) ∧ ∃ c : Array Value, c.size = 7 ∧ V.heap[w.heap.size + 1]? = some (.cells c 28 (0, 0))) → (World.cell? V ⟨b, off + k * 7, none⟩ = some (.int .i64 pt) ∧ World.cell? V ⟨b, off + k * 7 + 1, none⟩ = some (.int .i64 px) ∧ World.cell? V ⟨b, off + k * 7 + 2, none⟩ = some (.int .i64 py) ∧ World.cell? V ⟨b, off + k * 7 + 3, none⟩ = some (.int .i64 pz) ∧ World.cell? V ⟨b, off + k * 7 + 4, none⟩ = some (.int .i64 pp) ∧ World.cell? V ⟨b, off + k * 7 + 5, none⟩ = some (.int .i64 pq) ∧ World.cell? V ⟨b, off + k * 7 + 6, none⟩ = some (.int .i64 ps)) ∧ (World.cell? V ⟨b, off + lo * 7, none⟩ = some (.int .i64 qt) ∧ World.cell? V ⟨b, off + lo * 7 + 1, none⟩ = some (.int .i64 qx) ∧ World.cell? V ⟨b, off + lo * 7 + 2, none⟩ = some (.int .i64 qy) ∧ World.cell? V ⟨b, off + lo * 7 + 3, none⟩ = some (.int .i64 qz) ∧ World.cell? V ⟨b, off + lo * 7 + 4, none⟩ = some (.int .i64 qp) ∧ World.cell? V ⟨b, off + lo * 7 + 5, none⟩ = some (.int .i64 qq) ∧ World.cell? V ⟨b, off + lo * 7 + 6, none⟩ = some (.int .i64 qs))) := fun V hV => by
          obtain ⟨⟨p0, p1, p2, p3, p4, p5, p6⟩, q0, q1, q2, q3, q4, q5, q6⟩ := HPQ.out
          exact ⟨⟨grown_cell hV.1 p0, grown_cell hV.1 p1, grown_cell hV.1 p2, grown_cell hV.1 p3, grown_cell hV.1 p4, grown_cell hV.1 p5, grown_cell hV.1 p6⟩, grown_cell hV.1 q0, grown_cell hV.1 q1, grown_cell hV.1 q2, grown_cell hV.1 q3, grown_cell hV.1 q4, grown_cell hV.1 q5, grown_cell hV.1 q6⟩
        go_wp2_with fail
        clear q0
        refine wp_region_held_drew (S := fun V => w.grownBy V none ∧ V.cell? ⟨w.heap.size, 3, none⟩ = some (.slice (some ⟨b, off, none⟩) ss.length sc) ∧ ∃ c : Array Value, c.size = 7 ∧ V.heap[w.heap.size + 1]? = some (.cells c 28 (0, 0))) (by kernel_rfl) ⟨grown_trans GD.out (grown_drewN _ _ 1), b3, _, rfl, HZD.out⟩ (fun hHeld => ?_)
        refine wpAnyH_take (i := 0) (oi := ?oi0) (v := .pointer (some ⟨w.heap.size, 3, none⟩)) ?hi0 (by kernel_rfl) (by kernel_rfl) (by kernel_rfl) ?hq0 ?hy0 hHeld ?rest0
        case hi0 => simp only [List.getElem?_toArray, List.getElem?_cons_zero, Option.some.injEq]; rfl
        case hq0 => exact fun _ _ _ h => h
        case hy0 =>
          refine Or.inl ⟨by kernel_rfl, fun V hV => ?_⟩
          clear hV
          go_simp
        try simp only [Go.Act.put, List.setIfInBounds_toArray, List.set_cons_zero, List.set_cons_succ]
        refine wpAnyH_take (i := 1) (oi := ?oi1) (v := .slice (some ⟨b, off, none⟩) ss.length sc) ?hi1 (by kernel_rfl) (by kernel_rfl) (by kernel_rfl) ?hq1 ?hy1 hHeld ?rest1
        case hi1 => simp only [List.getElem?_toArray, List.getElem?_cons_succ, List.getElem?_cons_zero, Option.some.injEq]; rfl
        case hq1 => exact fun _ _ _ h => h
        case hy1 =>
          refine Or.inl ⟨by kernel_rfl, fun V hV => ?_⟩
          have q9 := hV.2.1; clear hV
          go_simp
        try simp only [Go.Act.put, List.setIfInBounds_toArray, List.set_cons_zero, List.set_cons_succ]
        refine wpAnyH_take (i := 2) (oi := ?oi2) (v := .int .i64 (lo : Nat)) ?hi2 (by kernel_rfl) (by kernel_rfl) (by kernel_rfl) ?hq2 ?hy2 hHeld ?rest2
        case hi2 => simp only [List.getElem?_toArray, List.getElem?_cons_succ, List.getElem?_cons_zero, Option.some.injEq]; rfl
        case hq2 => exact fun _ _ _ h => h
        case hy2 =>
          refine Or.inl ⟨by kernel_rfl, fun V hV => ?_⟩
          clear hV
          go_simp
        try simp only [Go.Act.put, List.setIfInBounds_toArray, List.set_cons_zero, List.set_cons_succ]
        refine wpAnyH_take (i := 3) (oi := ?oi3) (v := .int .i64 (k : Nat)) ?hi3 (by kernel_rfl) (by kernel_rfl) (by kernel_rfl) ?hq3 ?hy3 hHeld ?rest3
        case hi3 => simp only [List.getElem?_toArray, List.getElem?_cons_succ, List.getElem?_cons_zero, Option.some.injEq]; rfl
        case hq3 => exact fun _ _ _ h => h
        case hy3 =>
          refine Or.inl ⟨by kernel_rfl, fun V hV => ?_⟩
          clear hV
          go_simp
        try simp only [Go.Act.put, List.setIfInBounds_toArray, List.set_cons_zero, List.set_cons_succ]
        refine wpAnyH_take (i := 4) (oi := ?oi4) (v := .pointer (some ⟨b, off + k * 7, none⟩)) ?hi4 (by kernel_rfl) (by kernel_rfl) (by kernel_rfl) ?hq4 ?hy4 hHeld ?rest4
        case hi4 => simp only [List.getElem?_toArray, List.getElem?_cons_succ, List.getElem?_cons_zero, Option.some.injEq]; rfl
        case hq4 => exact fun _ _ _ h => h
        case hy4 =>
          refine Or.inl ⟨by kernel_rfl, fun V hV => ?_⟩
          clear hV
          go_simp
        try simp only [Go.Act.put, List.setIfInBounds_toArray, List.set_cons_zero, List.set_cons_succ]
        refine wpAnyH_take (i := 5) (oi := ?oi5) (v := .agg #[.int .i64 pt, .int .i64 px, .int .i64 py, .int .i64 pz, .int .i64 pp, .int .i64 pq, .int .i64 ps]) ?hi5 (by kernel_rfl) (by kernel_rfl) (by kernel_rfl) ?hq5 ?hy5 hHeld ?rest5
        case hi5 => simp only [List.getElem?_toArray, List.getElem?_cons_succ, List.getElem?_cons_zero, Option.some.injEq]; rfl
        case hq5 => exact fun _ _ _ h => h
        case hy5 =>
          refine Or.inl ⟨by kernel_rfl, fun V hV => ?_⟩
          have H7 := (HC.out V hV).1; obtain ⟨p0, p1, p2, p3, p4, p5, p6⟩ := H7; clear hV
          go_simp
        try simp only [Go.Act.put, List.setIfInBounds_toArray, List.set_cons_zero, List.set_cons_succ]
        refine wpAnyH_take (i := 6) (oi := ?oi6) (v := .pointer (some ⟨w.heap.size, 3, none⟩)) ?hi6 (by kernel_rfl) (by kernel_rfl) (by kernel_rfl) ?hq6 ?hy6 hHeld ?rest6
        case hi6 => simp only [List.getElem?_toArray, List.getElem?_cons_succ, List.getElem?_cons_zero, Option.some.injEq]; rfl
        case hq6 => exact fun _ _ _ h => h
        case hy6 =>
          refine Or.inl ⟨by kernel_rfl, fun V hV => ?_⟩
          clear hV
          go_simp
        try simp only [Go.Act.put, List.setIfInBounds_toArray, List.set_cons_zero, List.set_cons_succ]
        refine wpAnyH_take (i := 7) (oi := ?oi7) (v := .slice (some ⟨b, off, none⟩) ss.length sc) ?hi7 (by kernel_rfl) (by kernel_rfl) (by kernel_rfl) ?hq7 ?hy7 hHeld ?rest7
        case hi7 => simp only [List.getElem?_toArray, List.getElem?_cons_succ, List.getElem?_cons_zero, Option.some.injEq]; rfl
        case hq7 => exact fun _ _ _ h => h
        case hy7 =>
          refine Or.inl ⟨by kernel_rfl, fun V hV => ?_⟩
          have q9 := hV.2.1; clear hV
          go_simp
        try simp only [Go.Act.put, List.setIfInBounds_toArray, List.set_cons_zero, List.set_cons_succ]
        refine wpAnyH_take (i := 8) (oi := ?oi8) (v := .int .i64 (lo : Nat)) ?hi8 (by kernel_rfl) (by kernel_rfl) (by kernel_rfl) ?hq8 ?hy8 hHeld ?rest8
        case hi8 => simp only [List.getElem?_toArray, List.getElem?_cons_succ, List.getElem?_cons_zero, Option.some.injEq]; rfl
        case hq8 => exact fun _ _ _ h => h
        case hy8 =>
          refine Or.inl ⟨by kernel_rfl, fun V hV => ?_⟩
          clear hV
          go_simp
        try simp only [Go.Act.put, List.setIfInBounds_toArray, List.set_cons_zero, List.set_cons_succ]
        refine wpAnyH_take (i := 9) (oi := ?oi9) (v := .pointer (some ⟨b, off + lo * 7, none⟩)) ?hi9 (by kernel_rfl) (by kernel_rfl) (by kernel_rfl) ?hq9 ?hy9 hHeld ?rest9
        case hi9 => simp only [List.getElem?_toArray, List.getElem?_cons_succ, List.getElem?_cons_zero, Option.some.injEq]; rfl
        case hq9 => exact fun _ _ _ h => h
        case hy9 =>
          refine Or.inl ⟨by kernel_rfl, fun V hV => ?_⟩
          clear hV
          go_simp
        try simp only [Go.Act.put, List.setIfInBounds_toArray, List.set_cons_zero, List.set_cons_succ]
        refine wpAnyH_take (i := 10) (oi := ?oi10) (v := .agg #[.int .i64 qt, .int .i64 qx, .int .i64 qy, .int .i64 qz, .int .i64 qp, .int .i64 qq, .int .i64 qs]) ?hi10 (by kernel_rfl) (by kernel_rfl) (by kernel_rfl) ?hq10 ?hy10 hHeld ?rest10
        case hi10 => simp only [List.getElem?_toArray, List.getElem?_cons_succ, List.getElem?_cons_zero, Option.some.injEq]; rfl
        case hq10 => exact fun _ _ _ h => h
        case hy10 =>
          refine Or.inl ⟨by kernel_rfl, fun V hV => ?_⟩
          have H7 := (HC.out V hV).2; obtain ⟨q0, q1, q2, q3, q4, q5, q6⟩ := H7; clear hV
          go_simp
        try simp only [Go.Act.put, List.setIfInBounds_toArray, List.set_cons_zero, List.set_cons_succ]
        refine wpAnyH_take (i := 11) (oi := ?oi11) (v := .int .i64 s) ?hi11 (by kernel_rfl) (by kernel_rfl) (by kernel_rfl) ?hq11 ?hy11 hHeld ?rest11
        case hi11 => simp only [List.getElem?_toArray, List.getElem?_cons_succ, List.getElem?_cons_zero, Option.some.injEq]; rfl
        case hq11 => exact fun _ _ _ h => h
        case hy11 =>
          refine Or.inl ⟨by kernel_rfl, fun V hV => ?_⟩
          clear hV
          go_simp
        try simp only [Go.Act.put, List.setIfInBounds_toArray, List.set_cons_zero, List.set_cons_succ]
        refine wpAnyH_ready (rs := [12]) (by kernel_rfl) (by simp) ?_
        refine AllReadyH.cons rfl (fun K hK => ?_) AllReadyH.nil
        go_simp
        refine (KO.out _).mono ?_
        rintro e w5 ⟨rfl, hg5⟩
        refine hK.out _ _ ?_ (fun hHeld1 => ?_)
        · obtain ⟨h1, hb, c, h2, h3⟩ := hHeld
          exact ⟨grown_trans h1 hg5, grown_cell hg5 hb, c, h2, (hg5.block _ (lt_of_block h3) (by simp)).trans h3⟩
        clear hK K
        try simp only [Go.Act.put, List.setIfInBounds_toArray, List.set_cons_zero, List.set_cons_succ]
        refine wpAnyH_ready (rs := [13]) (by kernel_rfl) (by simp) ?_
        refine AllReadyH.cons rfl (fun K hK => ?_) AllReadyH.nil
        obtain ⟨g5, hb5, c, hc, hz⟩ := hHeld1
        have z0 := block_cell hz 0 _ (Array.getElem?_eq_getElem (show 0 < c.size from hc.symm ▸ (by decide : 0 < 7)))
        have y0 := block_free (k := 0) hz
        have z1 := block_cell hz 1 _ (Array.getElem?_eq_getElem (show 1 < c.size from hc.symm ▸ (by decide : 1 < 7)))
        have y1 := block_free (k := 1) hz
        have z2 := block_cell hz 2 _ (Array.getElem?_eq_getElem (show 2 < c.size from hc.symm ▸ (by decide : 2 < 7)))
        have y2 := block_free (k := 2) hz
        have z3 := block_cell hz 3 _ (Array.getElem?_eq_getElem (show 3 < c.size from hc.symm ▸ (by decide : 3 < 7)))
        have y3 := block_free (k := 3) hz
        have z4 := block_cell hz 4 _ (Array.getElem?_eq_getElem (show 4 < c.size from hc.symm ▸ (by decide : 4 < 7)))
        have y4 := block_free (k := 4) hz
        have z5 := block_cell hz 5 _ (Array.getElem?_eq_getElem (show 5 < c.size from hc.symm ▸ (by decide : 5 < 7)))
        have y5 := block_free (k := 5) hz
        have z6 := block_cell hz 6 _ (Array.getElem?_eq_getElem (show 6 < c.size from hc.symm ▸ (by decide : 6 < 7)))
        have y6 := block_free (k := 6) hz
        have G5 := Lib.hid g5; have HZ5 := Lib.hid hz; have HC7 := Lib.hid hc; have HB5 := Lib.hid hb5
        clear hHeld g5 hz hg5 hb5
        go_simp
        refine hK.out _ _ ⟨grown_far (grown_far (grown_far (grown_far (grown_far (grown_far (grown_far G5.out (by omega) _ _) (by omega) _ _) (by omega) _ _) (by omega) _ _) (by omega) _ _) (by omega) _ _) (by omega) _ _, ?_, _, ?_, block_set (block_set (block_set (block_set (block_set (block_set (block_set HZ5.out _) _) _) _) _) _) _⟩ (fun hHeld4 => ?_)
        · iterate 7 rw [World.cell?_setCell_other _ _ _ _ (fun e => by injection e with e; omega)]
          exact HB5.out
        · simpa using HC7.out
        refine wpAnyH_done (by kernel_rfl) ?_ _
        clear hK K
        have G6 := hHeld4.1
        clear hHeld4
        go_wp2_with fail
        refine bodyPost_ret (v := .agg #[.int .i64 x.t, .int .i64 x.x, .int .i64 x.y, .int .i64 x.z, .int .i64 x.p, .int .i64 x.q, .int .i64 x.s]) (by simp [results, Try.results61, go_sem, z0, z1, z2, z3, z4, z5, z6]) rfl ⟨rfl, G6⟩
end Go.Proofs.Ytgkhhfojioepgaa
