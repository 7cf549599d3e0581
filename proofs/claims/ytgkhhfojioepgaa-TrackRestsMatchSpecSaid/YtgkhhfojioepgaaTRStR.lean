/- Region 10 of the reference's Still: two samples into boxes. -/
import Derived.Test.YtgkhhfojioepgaaTRIdle
import Derived.Test.YtgkhhfojioepgaaRgOf
namespace Go.Proofs.Ytgkhhfojioepgaa
open Go.RowKit
set_option linter.unusedSimpArgs false
set_option linter.unusedVariables false

attribute [local go_sem] Oper.semAt_some
set_option maxRecDepth 100000 in
set_option maxHeartbeats 3200000 in
theorem rst_r10 (v0 v1 v2 v4 v5 v6 v7 v8 v9 v11 v12 v13 v14 v15 v16 v17 v18 v19 v20 v21 v22 v23 v24 v25 v26 v27 v28 v29 v30 v31 v32 v33 v34 v35 v36 v37 v38 v39 v40 v41 v42 v43 v44 v45 v46 v47 v48 v49 v50 v51 v52 v53 v54 v55 v56 v57 v58 v59 : Value) {Qx : Exit → Go.Act → World → Prop} (W : World) (AB gb ob n sc k : Nat) (p q : Smp) (hk1 : k + 1 < n) (hn : (n : Int) ≤ 20000) (hab : AB < W.heap.size) (hgb : gb < W.heap.size)
    (b3 : Hid (W.cell? ⟨AB, 3, none⟩ = some (.slice (some ⟨gb, ob, none⟩) n sc)))
    (p0 : Hid (W.cell? ⟨gb, ob + k * 7, none⟩ = some (.int .i64 p.t))) (p1 : Hid (W.cell? ⟨gb, ob + k * 7 + 1, none⟩ = some (.int .i64 p.x))) (p2 : Hid (W.cell? ⟨gb, ob + k * 7 + 2, none⟩ = some (.int .i64 p.y))) (p3 : Hid (W.cell? ⟨gb, ob + k * 7 + 3, none⟩ = some (.int .i64 p.z))) (p4 : Hid (W.cell? ⟨gb, ob + k * 7 + 4, none⟩ = some (.int .i64 p.p))) (p5 : Hid (W.cell? ⟨gb, ob + k * 7 + 5, none⟩ = some (.int .i64 p.q))) (p6 : Hid (W.cell? ⟨gb, ob + k * 7 + 6, none⟩ = some (.int .i64 p.s)))
    (q0 : Hid (W.cell? ⟨gb, ob + (k + 1) * 7, none⟩ = some (.int .i64 q.t))) (q1 : Hid (W.cell? ⟨gb, ob + (k + 1) * 7 + 1, none⟩ = some (.int .i64 q.x))) (q2 : Hid (W.cell? ⟨gb, ob + (k + 1) * 7 + 2, none⟩ = some (.int .i64 q.y))) (q3 : Hid (W.cell? ⟨gb, ob + (k + 1) * 7 + 3, none⟩ = some (.int .i64 q.z))) (q4 : Hid (W.cell? ⟨gb, ob + (k + 1) * 7 + 4, none⟩ = some (.int .i64 q.p))) (q5 : Hid (W.cell? ⟨gb, ob + (k + 1) * 7 + 5, none⟩ = some (.int .i64 q.q))) (q6 : Hid (W.cell? ⟨gb, ob + (k + 1) * 7 + 6, none⟩ = some (.int .i64 q.s)))
    (hk : ∀ (x31 x32 x33 x34 x35 x36 x37 x38 x39 x40 x41 : Value) (P Q : Nat) (V : World), W.grownBy V none → V.heap[P]? = some (.cells #[.int .i64 p.t, .int .i64 p.x, .int .i64 p.y, .int .i64 p.z, .int .i64 p.p, .int .i64 p.q, .int .i64 p.s] 28 (0, 0)) → V.heap[Q]? = some (.cells #[.int .i64 q.t, .int .i64 q.x, .int .i64 q.y, .int .i64 q.z, .int .i64 q.p, .int .i64 q.q, .int .i64 q.s] 28 (0, 0)) → Qx .normal { tmps := (v0 :: v1 :: v2 :: (.pointer (some ⟨AB, 0, none⟩)) :: v4 :: v5 :: v6 :: v7 :: v8 :: v9 :: (.int .i64 ((k : Int) + 1)) :: (.pointer (some ⟨P, 0, none⟩)) :: (.pointer (some ⟨Q, 0, none⟩)) :: v13 :: v14 :: v15 :: v16 :: v17 :: v18 :: v19 :: v20 :: v21 :: v22 :: v23 :: v24 :: v25 :: v26 :: v27 :: v28 :: v29 :: v30 :: x31 :: x32 :: x33 :: x34 :: x35 :: x36 :: x37 :: x38 :: x39 :: x40 :: x41 :: v42 :: v43 :: v44 :: v45 :: v46 :: v47 :: v48 :: v49 :: v50 :: v51 :: v52 :: v53 :: v54 :: v55 :: v56 :: v57 :: v58 :: v59 :: []).toArray, defers := [] } V) :
    (rgOf 10 Try.f24).wp Try.prog Qx { tmps := (v0 :: v1 :: v2 :: (.pointer (some ⟨AB, 0, none⟩)) :: v4 :: v5 :: v6 :: v7 :: v8 :: v9 :: (.int .i64 ((k : Int) + 1)) :: v11 :: v12 :: v13 :: v14 :: v15 :: v16 :: v17 :: v18 :: v19 :: v20 :: v21 :: v22 :: v23 :: v24 :: v25 :: v26 :: v27 :: v28 :: v29 :: v30 :: v31 :: v32 :: v33 :: v34 :: v35 :: v36 :: v37 :: v38 :: v39 :: v40 :: v41 :: v42 :: v43 :: v44 :: v45 :: v46 :: v47 :: v48 :: v49 :: v50 :: v51 :: v52 :: v53 :: v54 :: v55 :: v56 :: v57 :: v58 :: v59 :: []).toArray, defers := [] } W := by
  conv => arg 2; whnf
  have HKK := Lib.hid hk
  clear hk
  have w2 : IntKind.i64.wrap ((k : Int) + 1 - 1) = (k : Int) := by rw [show (k : Int) + 1 - 1 = (k : Int) by omega]; exact IntWalk.i64_in _ (by omega)
  have w3 : IntKind.i64.wrap (k : Int) = (k : Int) := IntWalk.i64_in _ (by omega)
  have q1' : (0 : Int) ≤ (k : Int) := by omega
  have q2' : (k : Int) < (n : Int) := by omega
  have q3' : (0 : Int) ≤ (k : Int) + 1 := by omega
  have q4' : (k : Int) + 1 < (n : Int) := by omega
  have e1 : ((k + 1 : Nat) : Int) = (k : Int) + 1 := by omega
  refine wp_region_noPanic ?_
  refine wp_region_held_drew (S := fun V => World.grownBy W V none) (by kernel_rfl) (⟨rfl, rfl, rfl, Nat.le_refl _, fun _ _ _ => rfl⟩) (fun hHeld => ?_)
  refine wpAnyH_take (i := 0) (oi := ?oia0) (v := .pointer (some ⟨AB, 3, none⟩)) ?hia0 (by kernel_rfl) (by kernel_rfl) (by kernel_rfl) ?hqa0 ?hya0 hHeld ?resta0
  case hia0 => simp only [List.getElem?_toArray, List.getElem?_cons_succ, List.getElem?_cons_zero, Option.some.injEq]; rfl
  case hqa0 => exact fun _ _ _ h => h
  case hya0 =>
    refine Or.inl ⟨by kernel_rfl, fun V hV => ?_⟩
    clear hV
    clear hHeld
    go_simp
  try simp only [Go.Act.put, List.setIfInBounds_toArray, List.set_cons_zero, List.set_cons_succ]
  refine wpAnyH_take (i := 1) (oi := ?oia1) (v := .slice (some ⟨gb, ob, none⟩) n sc) ?hia1 (by kernel_rfl) (by kernel_rfl) (by kernel_rfl) ?hqa1 ?hya1 hHeld ?resta1
  case hia1 => simp only [List.getElem?_toArray, List.getElem?_cons_succ, List.getElem?_cons_zero, Option.some.injEq]; rfl
  case hqa1 => exact fun _ _ _ h => h
  case hya1 =>
    refine Or.inl ⟨by kernel_rfl, fun V hV => ?_⟩
    have qq := hV.cell b3.out (by simp); clear hV
    clear hHeld
    go_simp
  try simp only [Go.Act.put, List.setIfInBounds_toArray, List.set_cons_zero, List.set_cons_succ]
  refine wpAnyH_take (i := 2) (oi := ?oia2) (v := .int .i64 ((k : Int) + 1)) ?hia2 (by kernel_rfl) (by kernel_rfl) (by kernel_rfl) ?hqa2 ?hya2 hHeld ?resta2
  case hia2 => simp only [List.getElem?_toArray, List.getElem?_cons_succ, List.getElem?_cons_zero, Option.some.injEq]; rfl
  case hqa2 => exact fun _ _ _ h => h
  case hya2 =>
    refine Or.inl ⟨by kernel_rfl, fun V hV => ?_⟩
    clear hV
    clear hHeld
    go_simp
  try simp only [Go.Act.put, List.setIfInBounds_toArray, List.set_cons_zero, List.set_cons_succ]
  refine wpAnyH_take (i := 3) (oi := ?oia3) (v := .int .i64 (k : Int)) ?hia3 (by kernel_rfl) (by kernel_rfl) (by kernel_rfl) ?hqa3 ?hya3 hHeld ?resta3
  case hia3 => simp only [List.getElem?_toArray, List.getElem?_cons_succ, List.getElem?_cons_zero, Option.some.injEq]; rfl
  case hqa3 => exact fun _ _ _ h => h
  case hya3 =>
    refine Or.inl ⟨by kernel_rfl, fun V hV => ?_⟩
    clear hV
    clear hHeld
    go_simp
  try simp only [Go.Act.put, List.setIfInBounds_toArray, List.set_cons_zero, List.set_cons_succ]
  refine wpAnyH_take (i := 4) (oi := ?oia4) (v := .pointer (some ⟨gb, ob + k * 7, none⟩)) ?hia4 (by kernel_rfl) (by kernel_rfl) (by kernel_rfl) ?hqa4 ?hya4 hHeld ?resta4
  case hia4 => simp only [List.getElem?_toArray, List.getElem?_cons_succ, List.getElem?_cons_zero, Option.some.injEq]; rfl
  case hqa4 => exact fun _ _ _ h => h
  case hya4 =>
    refine Or.inl ⟨by kernel_rfl, fun V hV => ?_⟩
    clear hV
    clear hHeld
    go_simp
  try simp only [Go.Act.put, List.setIfInBounds_toArray, List.set_cons_zero, List.set_cons_succ]
  refine wpAnyH_take (i := 5) (oi := ?oia5) (v := .agg #[.int .i64 p.t, .int .i64 p.x, .int .i64 p.y, .int .i64 p.z, .int .i64 p.p, .int .i64 p.q, .int .i64 p.s]) ?hia5 (by kernel_rfl) (by kernel_rfl) (by kernel_rfl) ?hqa5 ?hya5 hHeld ?resta5
  case hia5 => simp only [List.getElem?_toArray, List.getElem?_cons_succ, List.getElem?_cons_zero, Option.some.injEq]; rfl
  case hqa5 => exact fun _ _ _ h => h
  case hya5 =>
    refine Or.inl ⟨by kernel_rfl, fun V hV => ?_⟩
    have r0 := hV.cell p0.out (by simp); have r1 := hV.cell p1.out (by simp); have r2 := hV.cell p2.out (by simp); have r3 := hV.cell p3.out (by simp); have r4 := hV.cell p4.out (by simp); have r5 := hV.cell p5.out (by simp); have r6 := hV.cell p6.out (by simp); clear hV
    clear hHeld
    go_simp
  try simp only [Go.Act.put, List.setIfInBounds_toArray, List.set_cons_zero, List.set_cons_succ]
  refine wpAnyH_take (i := 6) (oi := ?oia6) (v := .pointer (some ⟨AB, 3, none⟩)) ?hia6 (by kernel_rfl) (by kernel_rfl) (by kernel_rfl) ?hqa6 ?hya6 hHeld ?resta6
  case hia6 => simp only [List.getElem?_toArray, List.getElem?_cons_succ, List.getElem?_cons_zero, Option.some.injEq]; rfl
  case hqa6 => exact fun _ _ _ h => h
  case hya6 =>
    refine Or.inl ⟨by kernel_rfl, fun V hV => ?_⟩
    clear hV
    clear hHeld
    go_simp
  try simp only [Go.Act.put, List.setIfInBounds_toArray, List.set_cons_zero, List.set_cons_succ]
  refine wpAnyH_take (i := 7) (oi := ?oia7) (v := .slice (some ⟨gb, ob, none⟩) n sc) ?hia7 (by kernel_rfl) (by kernel_rfl) (by kernel_rfl) ?hqa7 ?hya7 hHeld ?resta7
  case hia7 => simp only [List.getElem?_toArray, List.getElem?_cons_succ, List.getElem?_cons_zero, Option.some.injEq]; rfl
  case hqa7 => exact fun _ _ _ h => h
  case hya7 =>
    refine Or.inl ⟨by kernel_rfl, fun V hV => ?_⟩
    have qq := hV.cell b3.out (by simp); clear hV
    clear hHeld
    go_simp
  try simp only [Go.Act.put, List.setIfInBounds_toArray, List.set_cons_zero, List.set_cons_succ]
  refine wpAnyH_take (i := 8) (oi := ?oia8) (v := .int .i64 ((k : Int) + 1)) ?hia8 (by kernel_rfl) (by kernel_rfl) (by kernel_rfl) ?hqa8 ?hya8 hHeld ?resta8
  case hia8 => simp only [List.getElem?_toArray, List.getElem?_cons_succ, List.getElem?_cons_zero, Option.some.injEq]; rfl
  case hqa8 => exact fun _ _ _ h => h
  case hya8 =>
    refine Or.inl ⟨by kernel_rfl, fun V hV => ?_⟩
    clear hV
    clear hHeld
    go_simp
  try simp only [Go.Act.put, List.setIfInBounds_toArray, List.set_cons_zero, List.set_cons_succ]
  refine wpAnyH_take (i := 9) (oi := ?oia9) (v := .pointer (some ⟨gb, ob + (k + 1) * 7, none⟩)) ?hia9 (by kernel_rfl) (by kernel_rfl) (by kernel_rfl) ?hqa9 ?hya9 hHeld ?resta9
  case hia9 => simp only [List.getElem?_toArray, List.getElem?_cons_succ, List.getElem?_cons_zero, Option.some.injEq]; rfl
  case hqa9 => exact fun _ _ _ h => h
  case hya9 =>
    refine Or.inl ⟨by kernel_rfl, fun V hV => ?_⟩
    clear hV
    clear hHeld
    go_simp
  try simp only [Go.Act.put, List.setIfInBounds_toArray, List.set_cons_zero, List.set_cons_succ]
  refine wpAnyH_take (i := 10) (oi := ?oia10) (v := .agg #[.int .i64 q.t, .int .i64 q.x, .int .i64 q.y, .int .i64 q.z, .int .i64 q.p, .int .i64 q.q, .int .i64 q.s]) ?hia10 (by kernel_rfl) (by kernel_rfl) (by kernel_rfl) ?hqa10 ?hya10 hHeld ?resta10
  case hia10 => simp only [List.getElem?_toArray, List.getElem?_cons_succ, List.getElem?_cons_zero, Option.some.injEq]; rfl
  case hqa10 => exact fun _ _ _ h => h
  case hya10 =>
    refine Or.inl ⟨by kernel_rfl, fun V hV => ?_⟩
    have r0 := hV.cell q0.out (by simp); have r1 := hV.cell q1.out (by simp); have r2 := hV.cell q2.out (by simp); have r3 := hV.cell q3.out (by simp); have r4 := hV.cell q4.out (by simp); have r5 := hV.cell q5.out (by simp); have r6 := hV.cell q6.out (by simp); clear hV
    clear hHeld
    go_simp
  try simp only [Go.Act.put, List.setIfInBounds_toArray, List.set_cons_zero, List.set_cons_succ]
  clear p0 q0 p1 q1 p2 q2 p3 q3 p4 q4 p5 q5 p6 q6 b3 w2 w3 q1' q2' q3' q4' e1
  refine wpAnyH_ready (rs := [11, 12]) (by kernel_rfl) (by simp) ?_
  refine AllReadyH.cons rfl (fun K hK => ?_) (AllReadyH.cons rfl (fun K hK => ?_) AllReadyH.nil)
  · go_simp
    refine hK.out _ _ (grown_trans (show W.grownBy W.drew none from ⟨rfl, rfl, rfl, Nat.le_refl _, fun _ _ _ => rfl⟩) (World.grownBy_alloc _ _ _)) (fun hH1 => ?_)
    clear hK K
    try simp only [Go.Act.put, List.setIfInBounds_toArray, List.set_cons_zero, List.set_cons_succ]
    refine wpAnyH_ready (rs := [12]) (by kernel_rfl) (by simp) ?_
    refine AllReadyH.cons rfl (fun K hK => ?_) AllReadyH.nil
    go_simp
    refine hK.out _ _ (grown_trans hH1 (World.grownBy_alloc _ _ _)) (fun hH2 => ?_)
    clear hK K
    try simp only [Go.Act.put, List.setIfInBounds_toArray, List.set_cons_zero, List.set_cons_succ]
    have z1 : (((W.alloc (.cells #[.int .i64 0, .int .i64 0, .int .i64 0, .int .i64 0, .int .i64 0, .int .i64 0, .int .i64 0] 28)).alloc (.cells #[.int .i64 0, .int .i64 0, .int .i64 0, .int .i64 0, .int .i64 0, .int .i64 0, .int .i64 0] 28)).drew).heap[W.heap.size]? = some (.cells #[.int .i64 0, .int .i64 0, .int .i64 0, .int .i64 0, .int .i64 0, .int .i64 0, .int .i64 0] 28 (0, 0)) := by
      show ((W.alloc (.cells #[.int .i64 0, .int .i64 0, .int .i64 0, .int .i64 0, .int .i64 0, .int .i64 0, .int .i64 0] 28)).alloc (.cells #[.int .i64 0, .int .i64 0, .int .i64 0, .int .i64 0, .int .i64 0, .int .i64 0, .int .i64 0] 28)).heap[W.heap.size]? = _
      exact mblock_at (row := none) (World.alloc_heap_new W _) (World.grownBy_alloc _ _ none) (by simp)
    have z2 : (((W.alloc (.cells #[.int .i64 0, .int .i64 0, .int .i64 0, .int .i64 0, .int .i64 0, .int .i64 0, .int .i64 0] 28)).alloc (.cells #[.int .i64 0, .int .i64 0, .int .i64 0, .int .i64 0, .int .i64 0, .int .i64 0, .int .i64 0] 28)).drew).heap[W.heap.size + 1]? = some (.cells #[.int .i64 0, .int .i64 0, .int .i64 0, .int .i64 0, .int .i64 0, .int .i64 0, .int .i64 0] 28 (0, 0)) := by
      show ((W.alloc (.cells #[.int .i64 0, .int .i64 0, .int .i64 0, .int .i64 0, .int .i64 0, .int .i64 0, .int .i64 0] 28)).alloc (.cells #[.int .i64 0, .int .i64 0, .int .i64 0, .int .i64 0, .int .i64 0, .int .i64 0, .int .i64 0] 28)).heap[W.heap.size + 1]? = _
      have q := World.alloc_heap_new (W.alloc (.cells #[.int .i64 0, .int .i64 0, .int .i64 0, .int .i64 0, .int .i64 0, .int .i64 0, .int .i64 0] 28)) (.cells #[.int .i64 0, .int .i64 0, .int .i64 0, .int .i64 0, .int .i64 0, .int .i64 0, .int .i64 0] 28)
      rwa [show (W.alloc (.cells #[.int .i64 0, .int .i64 0, .int .i64 0, .int .i64 0, .int .i64 0, .int .i64 0, .int .i64 0] 28)).heap.size = W.heap.size + 1 from by simp] at q
    clear hH1 hHeld
    generalize ((W.alloc (.cells #[.int .i64 0, .int .i64 0, .int .i64 0, .int .i64 0, .int .i64 0, .int .i64 0, .int .i64 0] 28)).alloc (.cells #[.int .i64 0, .int .i64 0, .int .i64 0, .int .i64 0, .int .i64 0, .int .i64 0, .int .i64 0] 28)).drew = V2 at *
    obtain ⟨PB, hPB⟩ : ∃ b, b = W.heap.size := ⟨_, rfl⟩
    obtain ⟨QB, hQB⟩ : ∃ b, b = W.heap.size + 1 := ⟨_, rfl⟩
    have zP : V2.heap[PB]? = some (.cells #[.int .i64 0, .int .i64 0, .int .i64 0, .int .i64 0, .int .i64 0, .int .i64 0, .int .i64 0] 28 (0, 0)) := by rw [hPB]; exact z1
    have zQ : V2.heap[QB]? = some (.cells #[.int .i64 0, .int .i64 0, .int .i64 0, .int .i64 0, .int .i64 0, .int .i64 0, .int .i64 0] 28 (0, 0)) := by rw [hQB]; exact z2
    have nPQ : PB ≠ QB := by omega
    have lP : W.heap.size ≤ PB := by omega
    have lQ : W.heap.size ≤ QB := by omega
    rw [← hQB, ← hPB]
    clear z1 z2 hPB hQB
    have f0 : V2.frozen? ⟨PB, 0, none⟩ = false := mblock_free zP
    have c0 : V2.cell? ⟨PB, 0, none⟩ = some (.int .i64 0) := mblock_cell zP 0 _ rfl
    have f1 : V2.frozen? ⟨PB, 1, none⟩ = false := mblock_free zP
    have c1 : V2.cell? ⟨PB, 1, none⟩ = some (.int .i64 0) := mblock_cell zP 1 _ rfl
    have f2 : V2.frozen? ⟨PB, 2, none⟩ = false := mblock_free zP
    have c2 : V2.cell? ⟨PB, 2, none⟩ = some (.int .i64 0) := mblock_cell zP 2 _ rfl
    have f3 : V2.frozen? ⟨PB, 3, none⟩ = false := mblock_free zP
    have c3 : V2.cell? ⟨PB, 3, none⟩ = some (.int .i64 0) := mblock_cell zP 3 _ rfl
    have f4 : V2.frozen? ⟨PB, 4, none⟩ = false := mblock_free zP
    have c4 : V2.cell? ⟨PB, 4, none⟩ = some (.int .i64 0) := mblock_cell zP 4 _ rfl
    have f5 : V2.frozen? ⟨PB, 5, none⟩ = false := mblock_free zP
    have c5 : V2.cell? ⟨PB, 5, none⟩ = some (.int .i64 0) := mblock_cell zP 5 _ rfl
    have f6 : V2.frozen? ⟨PB, 6, none⟩ = false := mblock_free zP
    have c6 : V2.cell? ⟨PB, 6, none⟩ = some (.int .i64 0) := mblock_cell zP 6 _ rfl
    have hg3 : W.grownBy (((((((V2.setCell ⟨PB, 0, none⟩ (.int .i64 p.t)).setCell ⟨PB, 1, none⟩ (.int .i64 p.x)).setCell ⟨PB, 2, none⟩ (.int .i64 p.y)).setCell ⟨PB, 3, none⟩ (.int .i64 p.z)).setCell ⟨PB, 4, none⟩ (.int .i64 p.p)).setCell ⟨PB, 5, none⟩ (.int .i64 p.q)).setCell ⟨PB, 6, none⟩ (.int .i64 p.s)) none := mgrown_set (mgrown_set (mgrown_set (mgrown_set (mgrown_set (mgrown_set (mgrown_set (hH2) lP _ _) lP _ _) lP _ _) lP _ _) lP _ _) lP _ _) lP _ _
    have hP3 : (((((((V2.setCell ⟨PB, 0, none⟩ (.int .i64 p.t)).setCell ⟨PB, 1, none⟩ (.int .i64 p.x)).setCell ⟨PB, 2, none⟩ (.int .i64 p.y)).setCell ⟨PB, 3, none⟩ (.int .i64 p.z)).setCell ⟨PB, 4, none⟩ (.int .i64 p.p)).setCell ⟨PB, 5, none⟩ (.int .i64 p.q)).setCell ⟨PB, 6, none⟩ (.int .i64 p.s)).heap[PB]? = some (.cells #[.int .i64 p.t, .int .i64 p.x, .int .i64 p.y, .int .i64 p.z, .int .i64 p.p, .int .i64 p.q, .int .i64 p.s] 28 (0, 0)) := by
      have q := mblock_set (k := 6) (mblock_set (k := 5) (mblock_set (k := 4) (mblock_set (k := 3) (mblock_set (k := 2) (mblock_set (k := 1) (mblock_set (k := 0) (zP) (.int .i64 p.t)) (.int .i64 p.x)) (.int .i64 p.y)) (.int .i64 p.z)) (.int .i64 p.p)) (.int .i64 p.q)) (.int .i64 p.s)
      simpa using q
    have hQ3 : (((((((V2.setCell ⟨PB, 0, none⟩ (.int .i64 p.t)).setCell ⟨PB, 1, none⟩ (.int .i64 p.x)).setCell ⟨PB, 2, none⟩ (.int .i64 p.y)).setCell ⟨PB, 3, none⟩ (.int .i64 p.z)).setCell ⟨PB, 4, none⟩ (.int .i64 p.p)).setCell ⟨PB, 5, none⟩ (.int .i64 p.q)).setCell ⟨PB, 6, none⟩ (.int .i64 p.s)).heap[QB]? = some (.cells #[.int .i64 0, .int .i64 0, .int .i64 0, .int .i64 0, .int .i64 0, .int .i64 0, .int .i64 0] 28 (0, 0)) := mblock_far (mblock_far (mblock_far (mblock_far (mblock_far (mblock_far (mblock_far (zQ) nPQ.symm _ _) nPQ.symm _ _) nPQ.symm _ _) nPQ.symm _ _) nPQ.symm _ _) nPQ.symm _ _) nPQ.symm _ _
    refine wpAnyH_ready (rs := [13]) (by kernel_rfl) (by simp) ?_
    refine AllReadyH.cons rfl (fun K hK => ?_) AllReadyH.nil
    go_simp
    refine hK.out _ _ hg3 (fun hH3 => ?_)
    clear hK K hg3 zP zQ hH2 f0 c0 f1 c1 f2 c2 f3 c3 f4 c4 f5 c5 f6 c6
    generalize (((((((V2.setCell ⟨PB, 0, none⟩ (.int .i64 p.t)).setCell ⟨PB, 1, none⟩ (.int .i64 p.x)).setCell ⟨PB, 2, none⟩ (.int .i64 p.y)).setCell ⟨PB, 3, none⟩ (.int .i64 p.z)).setCell ⟨PB, 4, none⟩ (.int .i64 p.p)).setCell ⟨PB, 5, none⟩ (.int .i64 p.q)).setCell ⟨PB, 6, none⟩ (.int .i64 p.s)) = V3 at *
    try simp only [Go.Act.put, List.setIfInBounds_toArray, List.set_cons_zero, List.set_cons_succ]
    have f0 : V3.frozen? ⟨QB, 0, none⟩ = false := mblock_free hQ3
    have c0 : V3.cell? ⟨QB, 0, none⟩ = some (.int .i64 0) := mblock_cell hQ3 0 _ rfl
    have f1 : V3.frozen? ⟨QB, 1, none⟩ = false := mblock_free hQ3
    have c1 : V3.cell? ⟨QB, 1, none⟩ = some (.int .i64 0) := mblock_cell hQ3 1 _ rfl
    have f2 : V3.frozen? ⟨QB, 2, none⟩ = false := mblock_free hQ3
    have c2 : V3.cell? ⟨QB, 2, none⟩ = some (.int .i64 0) := mblock_cell hQ3 2 _ rfl
    have f3 : V3.frozen? ⟨QB, 3, none⟩ = false := mblock_free hQ3
    have c3 : V3.cell? ⟨QB, 3, none⟩ = some (.int .i64 0) := mblock_cell hQ3 3 _ rfl
    have f4 : V3.frozen? ⟨QB, 4, none⟩ = false := mblock_free hQ3
    have c4 : V3.cell? ⟨QB, 4, none⟩ = some (.int .i64 0) := mblock_cell hQ3 4 _ rfl
    have f5 : V3.frozen? ⟨QB, 5, none⟩ = false := mblock_free hQ3
    have c5 : V3.cell? ⟨QB, 5, none⟩ = some (.int .i64 0) := mblock_cell hQ3 5 _ rfl
    have f6 : V3.frozen? ⟨QB, 6, none⟩ = false := mblock_free hQ3
    have c6 : V3.cell? ⟨QB, 6, none⟩ = some (.int .i64 0) := mblock_cell hQ3 6 _ rfl
    have hg4 : W.grownBy (((((((V3.setCell ⟨QB, 0, none⟩ (.int .i64 q.t)).setCell ⟨QB, 1, none⟩ (.int .i64 q.x)).setCell ⟨QB, 2, none⟩ (.int .i64 q.y)).setCell ⟨QB, 3, none⟩ (.int .i64 q.z)).setCell ⟨QB, 4, none⟩ (.int .i64 q.p)).setCell ⟨QB, 5, none⟩ (.int .i64 q.q)).setCell ⟨QB, 6, none⟩ (.int .i64 q.s)) none := mgrown_set (mgrown_set (mgrown_set (mgrown_set (mgrown_set (mgrown_set (mgrown_set (hH3) lQ _ _) lQ _ _) lQ _ _) lQ _ _) lQ _ _) lQ _ _) lQ _ _
    have hQ4 : (((((((V3.setCell ⟨QB, 0, none⟩ (.int .i64 q.t)).setCell ⟨QB, 1, none⟩ (.int .i64 q.x)).setCell ⟨QB, 2, none⟩ (.int .i64 q.y)).setCell ⟨QB, 3, none⟩ (.int .i64 q.z)).setCell ⟨QB, 4, none⟩ (.int .i64 q.p)).setCell ⟨QB, 5, none⟩ (.int .i64 q.q)).setCell ⟨QB, 6, none⟩ (.int .i64 q.s)).heap[QB]? = some (.cells #[.int .i64 q.t, .int .i64 q.x, .int .i64 q.y, .int .i64 q.z, .int .i64 q.p, .int .i64 q.q, .int .i64 q.s] 28 (0, 0)) := by
      have q := mblock_set (k := 6) (mblock_set (k := 5) (mblock_set (k := 4) (mblock_set (k := 3) (mblock_set (k := 2) (mblock_set (k := 1) (mblock_set (k := 0) (hQ3) (.int .i64 q.t)) (.int .i64 q.x)) (.int .i64 q.y)) (.int .i64 q.z)) (.int .i64 q.p)) (.int .i64 q.q)) (.int .i64 q.s)
      simpa using q
    have hP4 : (((((((V3.setCell ⟨QB, 0, none⟩ (.int .i64 q.t)).setCell ⟨QB, 1, none⟩ (.int .i64 q.x)).setCell ⟨QB, 2, none⟩ (.int .i64 q.y)).setCell ⟨QB, 3, none⟩ (.int .i64 q.z)).setCell ⟨QB, 4, none⟩ (.int .i64 q.p)).setCell ⟨QB, 5, none⟩ (.int .i64 q.q)).setCell ⟨QB, 6, none⟩ (.int .i64 q.s)).heap[PB]? = some (.cells #[.int .i64 p.t, .int .i64 p.x, .int .i64 p.y, .int .i64 p.z, .int .i64 p.p, .int .i64 p.q, .int .i64 p.s] 28 (0, 0)) := mblock_far (mblock_far (mblock_far (mblock_far (mblock_far (mblock_far (mblock_far (hP3) nPQ _ _) nPQ _ _) nPQ _ _) nPQ _ _) nPQ _ _) nPQ _ _) nPQ _ _
    refine wpAnyH_ready (rs := [14]) (by kernel_rfl) (by simp) ?_
    refine AllReadyH.cons rfl (fun K hK => ?_) AllReadyH.nil
    go_simp
    refine hK.out _ _ hg4 (fun hH4 => ?_)
    clear hK K hP3 hQ3 hH3 f0 c0 f1 c1 f2 c2 f3 c3 f4 c4 f5 c5 f6 c6
    try simp only [Go.Act.put, List.setIfInBounds_toArray, List.set_cons_zero, List.set_cons_succ]
    refine wpAnyH_done (by kernel_rfl) ?_ _
    refine NoPanic.normal ?_
    exact HKK.out _ _ _ _ _ _ _ _ _ _ _ PB QB _ hg4 hP4 hQ4
  · go_simp
    refine hK.out _ _ (grown_trans (show W.grownBy W.drew none from ⟨rfl, rfl, rfl, Nat.le_refl _, fun _ _ _ => rfl⟩) (World.grownBy_alloc _ _ _)) (fun hH1 => ?_)
    clear hK K
    try simp only [Go.Act.put, List.setIfInBounds_toArray, List.set_cons_zero, List.set_cons_succ]
    refine wpAnyH_ready (rs := [11]) (by kernel_rfl) (by simp) ?_
    refine AllReadyH.cons rfl (fun K hK => ?_) AllReadyH.nil
    go_simp
    refine hK.out _ _ (grown_trans hH1 (World.grownBy_alloc _ _ _)) (fun hH2 => ?_)
    clear hK K
    try simp only [Go.Act.put, List.setIfInBounds_toArray, List.set_cons_zero, List.set_cons_succ]
    have z1 : (((W.alloc (.cells #[.int .i64 0, .int .i64 0, .int .i64 0, .int .i64 0, .int .i64 0, .int .i64 0, .int .i64 0] 28)).alloc (.cells #[.int .i64 0, .int .i64 0, .int .i64 0, .int .i64 0, .int .i64 0, .int .i64 0, .int .i64 0] 28)).drew).heap[W.heap.size]? = some (.cells #[.int .i64 0, .int .i64 0, .int .i64 0, .int .i64 0, .int .i64 0, .int .i64 0, .int .i64 0] 28 (0, 0)) := by
      show ((W.alloc (.cells #[.int .i64 0, .int .i64 0, .int .i64 0, .int .i64 0, .int .i64 0, .int .i64 0, .int .i64 0] 28)).alloc (.cells #[.int .i64 0, .int .i64 0, .int .i64 0, .int .i64 0, .int .i64 0, .int .i64 0, .int .i64 0] 28)).heap[W.heap.size]? = _
      exact mblock_at (row := none) (World.alloc_heap_new W _) (World.grownBy_alloc _ _ none) (by simp)
    have z2 : (((W.alloc (.cells #[.int .i64 0, .int .i64 0, .int .i64 0, .int .i64 0, .int .i64 0, .int .i64 0, .int .i64 0] 28)).alloc (.cells #[.int .i64 0, .int .i64 0, .int .i64 0, .int .i64 0, .int .i64 0, .int .i64 0, .int .i64 0] 28)).drew).heap[W.heap.size + 1]? = some (.cells #[.int .i64 0, .int .i64 0, .int .i64 0, .int .i64 0, .int .i64 0, .int .i64 0, .int .i64 0] 28 (0, 0)) := by
      show ((W.alloc (.cells #[.int .i64 0, .int .i64 0, .int .i64 0, .int .i64 0, .int .i64 0, .int .i64 0, .int .i64 0] 28)).alloc (.cells #[.int .i64 0, .int .i64 0, .int .i64 0, .int .i64 0, .int .i64 0, .int .i64 0, .int .i64 0] 28)).heap[W.heap.size + 1]? = _
      have q := World.alloc_heap_new (W.alloc (.cells #[.int .i64 0, .int .i64 0, .int .i64 0, .int .i64 0, .int .i64 0, .int .i64 0, .int .i64 0] 28)) (.cells #[.int .i64 0, .int .i64 0, .int .i64 0, .int .i64 0, .int .i64 0, .int .i64 0, .int .i64 0] 28)
      rwa [show (W.alloc (.cells #[.int .i64 0, .int .i64 0, .int .i64 0, .int .i64 0, .int .i64 0, .int .i64 0, .int .i64 0] 28)).heap.size = W.heap.size + 1 from by simp] at q
    clear hH1 hHeld
    generalize ((W.alloc (.cells #[.int .i64 0, .int .i64 0, .int .i64 0, .int .i64 0, .int .i64 0, .int .i64 0, .int .i64 0] 28)).alloc (.cells #[.int .i64 0, .int .i64 0, .int .i64 0, .int .i64 0, .int .i64 0, .int .i64 0, .int .i64 0] 28)).drew = V2 at *
    obtain ⟨PB, hPB⟩ : ∃ b, b = W.heap.size + 1 := ⟨_, rfl⟩
    obtain ⟨QB, hQB⟩ : ∃ b, b = W.heap.size := ⟨_, rfl⟩
    have zP : V2.heap[PB]? = some (.cells #[.int .i64 0, .int .i64 0, .int .i64 0, .int .i64 0, .int .i64 0, .int .i64 0, .int .i64 0] 28 (0, 0)) := by rw [hPB]; exact z2
    have zQ : V2.heap[QB]? = some (.cells #[.int .i64 0, .int .i64 0, .int .i64 0, .int .i64 0, .int .i64 0, .int .i64 0, .int .i64 0] 28 (0, 0)) := by rw [hQB]; exact z1
    have nPQ : PB ≠ QB := by omega
    have lP : W.heap.size ≤ PB := by omega
    have lQ : W.heap.size ≤ QB := by omega
    rw [← hPB, ← hQB]
    clear z1 z2 hPB hQB
    have f0 : V2.frozen? ⟨PB, 0, none⟩ = false := mblock_free zP
    have c0 : V2.cell? ⟨PB, 0, none⟩ = some (.int .i64 0) := mblock_cell zP 0 _ rfl
    have f1 : V2.frozen? ⟨PB, 1, none⟩ = false := mblock_free zP
    have c1 : V2.cell? ⟨PB, 1, none⟩ = some (.int .i64 0) := mblock_cell zP 1 _ rfl
    have f2 : V2.frozen? ⟨PB, 2, none⟩ = false := mblock_free zP
    have c2 : V2.cell? ⟨PB, 2, none⟩ = some (.int .i64 0) := mblock_cell zP 2 _ rfl
    have f3 : V2.frozen? ⟨PB, 3, none⟩ = false := mblock_free zP
    have c3 : V2.cell? ⟨PB, 3, none⟩ = some (.int .i64 0) := mblock_cell zP 3 _ rfl
    have f4 : V2.frozen? ⟨PB, 4, none⟩ = false := mblock_free zP
    have c4 : V2.cell? ⟨PB, 4, none⟩ = some (.int .i64 0) := mblock_cell zP 4 _ rfl
    have f5 : V2.frozen? ⟨PB, 5, none⟩ = false := mblock_free zP
    have c5 : V2.cell? ⟨PB, 5, none⟩ = some (.int .i64 0) := mblock_cell zP 5 _ rfl
    have f6 : V2.frozen? ⟨PB, 6, none⟩ = false := mblock_free zP
    have c6 : V2.cell? ⟨PB, 6, none⟩ = some (.int .i64 0) := mblock_cell zP 6 _ rfl
    have hg3 : W.grownBy (((((((V2.setCell ⟨PB, 0, none⟩ (.int .i64 p.t)).setCell ⟨PB, 1, none⟩ (.int .i64 p.x)).setCell ⟨PB, 2, none⟩ (.int .i64 p.y)).setCell ⟨PB, 3, none⟩ (.int .i64 p.z)).setCell ⟨PB, 4, none⟩ (.int .i64 p.p)).setCell ⟨PB, 5, none⟩ (.int .i64 p.q)).setCell ⟨PB, 6, none⟩ (.int .i64 p.s)) none := mgrown_set (mgrown_set (mgrown_set (mgrown_set (mgrown_set (mgrown_set (mgrown_set (hH2) lP _ _) lP _ _) lP _ _) lP _ _) lP _ _) lP _ _) lP _ _
    have hP3 : (((((((V2.setCell ⟨PB, 0, none⟩ (.int .i64 p.t)).setCell ⟨PB, 1, none⟩ (.int .i64 p.x)).setCell ⟨PB, 2, none⟩ (.int .i64 p.y)).setCell ⟨PB, 3, none⟩ (.int .i64 p.z)).setCell ⟨PB, 4, none⟩ (.int .i64 p.p)).setCell ⟨PB, 5, none⟩ (.int .i64 p.q)).setCell ⟨PB, 6, none⟩ (.int .i64 p.s)).heap[PB]? = some (.cells #[.int .i64 p.t, .int .i64 p.x, .int .i64 p.y, .int .i64 p.z, .int .i64 p.p, .int .i64 p.q, .int .i64 p.s] 28 (0, 0)) := by
      have q := mblock_set (k := 6) (mblock_set (k := 5) (mblock_set (k := 4) (mblock_set (k := 3) (mblock_set (k := 2) (mblock_set (k := 1) (mblock_set (k := 0) (zP) (.int .i64 p.t)) (.int .i64 p.x)) (.int .i64 p.y)) (.int .i64 p.z)) (.int .i64 p.p)) (.int .i64 p.q)) (.int .i64 p.s)
      simpa using q
    have hQ3 : (((((((V2.setCell ⟨PB, 0, none⟩ (.int .i64 p.t)).setCell ⟨PB, 1, none⟩ (.int .i64 p.x)).setCell ⟨PB, 2, none⟩ (.int .i64 p.y)).setCell ⟨PB, 3, none⟩ (.int .i64 p.z)).setCell ⟨PB, 4, none⟩ (.int .i64 p.p)).setCell ⟨PB, 5, none⟩ (.int .i64 p.q)).setCell ⟨PB, 6, none⟩ (.int .i64 p.s)).heap[QB]? = some (.cells #[.int .i64 0, .int .i64 0, .int .i64 0, .int .i64 0, .int .i64 0, .int .i64 0, .int .i64 0] 28 (0, 0)) := mblock_far (mblock_far (mblock_far (mblock_far (mblock_far (mblock_far (mblock_far (zQ) nPQ.symm _ _) nPQ.symm _ _) nPQ.symm _ _) nPQ.symm _ _) nPQ.symm _ _) nPQ.symm _ _) nPQ.symm _ _
    refine wpAnyH_ready (rs := [13]) (by kernel_rfl) (by simp) ?_
    refine AllReadyH.cons rfl (fun K hK => ?_) AllReadyH.nil
    go_simp
    refine hK.out _ _ hg3 (fun hH3 => ?_)
    clear hK K hg3 zP zQ hH2 f0 c0 f1 c1 f2 c2 f3 c3 f4 c4 f5 c5 f6 c6
    generalize (((((((V2.setCell ⟨PB, 0, none⟩ (.int .i64 p.t)).setCell ⟨PB, 1, none⟩ (.int .i64 p.x)).setCell ⟨PB, 2, none⟩ (.int .i64 p.y)).setCell ⟨PB, 3, none⟩ (.int .i64 p.z)).setCell ⟨PB, 4, none⟩ (.int .i64 p.p)).setCell ⟨PB, 5, none⟩ (.int .i64 p.q)).setCell ⟨PB, 6, none⟩ (.int .i64 p.s)) = V3 at *
    try simp only [Go.Act.put, List.setIfInBounds_toArray, List.set_cons_zero, List.set_cons_succ]
    have f0 : V3.frozen? ⟨QB, 0, none⟩ = false := mblock_free hQ3
    have c0 : V3.cell? ⟨QB, 0, none⟩ = some (.int .i64 0) := mblock_cell hQ3 0 _ rfl
    have f1 : V3.frozen? ⟨QB, 1, none⟩ = false := mblock_free hQ3
    have c1 : V3.cell? ⟨QB, 1, none⟩ = some (.int .i64 0) := mblock_cell hQ3 1 _ rfl
    have f2 : V3.frozen? ⟨QB, 2, none⟩ = false := mblock_free hQ3
    have c2 : V3.cell? ⟨QB, 2, none⟩ = some (.int .i64 0) := mblock_cell hQ3 2 _ rfl
    have f3 : V3.frozen? ⟨QB, 3, none⟩ = false := mblock_free hQ3
    have c3 : V3.cell? ⟨QB, 3, none⟩ = some (.int .i64 0) := mblock_cell hQ3 3 _ rfl
    have f4 : V3.frozen? ⟨QB, 4, none⟩ = false := mblock_free hQ3
    have c4 : V3.cell? ⟨QB, 4, none⟩ = some (.int .i64 0) := mblock_cell hQ3 4 _ rfl
    have f5 : V3.frozen? ⟨QB, 5, none⟩ = false := mblock_free hQ3
    have c5 : V3.cell? ⟨QB, 5, none⟩ = some (.int .i64 0) := mblock_cell hQ3 5 _ rfl
    have f6 : V3.frozen? ⟨QB, 6, none⟩ = false := mblock_free hQ3
    have c6 : V3.cell? ⟨QB, 6, none⟩ = some (.int .i64 0) := mblock_cell hQ3 6 _ rfl
    have hg4 : W.grownBy (((((((V3.setCell ⟨QB, 0, none⟩ (.int .i64 q.t)).setCell ⟨QB, 1, none⟩ (.int .i64 q.x)).setCell ⟨QB, 2, none⟩ (.int .i64 q.y)).setCell ⟨QB, 3, none⟩ (.int .i64 q.z)).setCell ⟨QB, 4, none⟩ (.int .i64 q.p)).setCell ⟨QB, 5, none⟩ (.int .i64 q.q)).setCell ⟨QB, 6, none⟩ (.int .i64 q.s)) none := mgrown_set (mgrown_set (mgrown_set (mgrown_set (mgrown_set (mgrown_set (mgrown_set (hH3) lQ _ _) lQ _ _) lQ _ _) lQ _ _) lQ _ _) lQ _ _) lQ _ _
    have hQ4 : (((((((V3.setCell ⟨QB, 0, none⟩ (.int .i64 q.t)).setCell ⟨QB, 1, none⟩ (.int .i64 q.x)).setCell ⟨QB, 2, none⟩ (.int .i64 q.y)).setCell ⟨QB, 3, none⟩ (.int .i64 q.z)).setCell ⟨QB, 4, none⟩ (.int .i64 q.p)).setCell ⟨QB, 5, none⟩ (.int .i64 q.q)).setCell ⟨QB, 6, none⟩ (.int .i64 q.s)).heap[QB]? = some (.cells #[.int .i64 q.t, .int .i64 q.x, .int .i64 q.y, .int .i64 q.z, .int .i64 q.p, .int .i64 q.q, .int .i64 q.s] 28 (0, 0)) := by
      have q := mblock_set (k := 6) (mblock_set (k := 5) (mblock_set (k := 4) (mblock_set (k := 3) (mblock_set (k := 2) (mblock_set (k := 1) (mblock_set (k := 0) (hQ3) (.int .i64 q.t)) (.int .i64 q.x)) (.int .i64 q.y)) (.int .i64 q.z)) (.int .i64 q.p)) (.int .i64 q.q)) (.int .i64 q.s)
      simpa using q
    have hP4 : (((((((V3.setCell ⟨QB, 0, none⟩ (.int .i64 q.t)).setCell ⟨QB, 1, none⟩ (.int .i64 q.x)).setCell ⟨QB, 2, none⟩ (.int .i64 q.y)).setCell ⟨QB, 3, none⟩ (.int .i64 q.z)).setCell ⟨QB, 4, none⟩ (.int .i64 q.p)).setCell ⟨QB, 5, none⟩ (.int .i64 q.q)).setCell ⟨QB, 6, none⟩ (.int .i64 q.s)).heap[PB]? = some (.cells #[.int .i64 p.t, .int .i64 p.x, .int .i64 p.y, .int .i64 p.z, .int .i64 p.p, .int .i64 p.q, .int .i64 p.s] 28 (0, 0)) := mblock_far (mblock_far (mblock_far (mblock_far (mblock_far (mblock_far (mblock_far (hP3) nPQ _ _) nPQ _ _) nPQ _ _) nPQ _ _) nPQ _ _) nPQ _ _) nPQ _ _
    refine wpAnyH_ready (rs := [14]) (by kernel_rfl) (by simp) ?_
    refine AllReadyH.cons rfl (fun K hK => ?_) AllReadyH.nil
    go_simp
    refine hK.out _ _ hg4 (fun hH4 => ?_)
    clear hK K hP3 hQ3 hH3 f0 c0 f1 c1 f2 c2 f3 c3 f4 c4 f5 c5 f6 c6
    try simp only [Go.Act.put, List.setIfInBounds_toArray, List.set_cons_zero, List.set_cons_succ]
    refine wpAnyH_done (by kernel_rfl) ?_ _
    refine NoPanic.normal ?_
    exact HKK.out _ _ _ _ _ _ _ _ _ _ _ PB QB _ hg4 hP4 hQ4
end Go.Proofs.Ytgkhhfojioepgaa
