/- The region of partOf that adds to the way. -/
import Derived.Test.YtmfnphknoclhfaaEPartG
namespace Go.Proofs.Ytmfnphknoclhfaa
open Go.RowKit

set_option maxRecDepth 100000 in
set_option maxHeartbeats 6400000 in
theorem part_reg8 (v0 v1 v2 v3 v4 v5 v6 v8 v12 v13 v14 v15 v16 v17 v18 v19 v20 v21 v22 v23 v24 v25 v26 v27 v28 v29 v30 v31 v32 v33 v34 v35 v36 v37 v38 v39 v40 v41 v42 v43 v44 v45 v46 v47 v48 v49 v50 v51 v52 v53 v54 v55 v56 v57 v58 v59 v60 v61 v62 v63 v64 v65 v66 v67 v68 v69 v70 v71 v72 v73 v74 v75 v76 v77 v78 v79 v80 v81 v82 v83 v84 v85 v86 v87 v88 v89 v90 v91 v92 v93 v94 v95 v96 v97 v98 v99 : Value) {K : Go.Act → World → Prop} {Qx : Exit → Go.Act → World → Prop} (w wc : World) (vS : Value) (B X : Nat) (HX : Hid (X = w.heap.size + 1 + 1)) (F E f t : Int) (pt px py pz pp pq ps qt qx qy qz qp qq qs : Int) (y0 y1 y2 y3 y4 y5 y6 y7 A u : Int)
    (HST : Hid (StepIn ⟨pt, px, py, pz, pp, pq, ps⟩ ⟨qt, qx, qy, qz, qp, qq, qs⟩)) (HAM : Hid (amtE ⟨pt, px, py, pz, pp, pq, ps⟩ ⟨qt, qx, qy, qz, qp, qq, qs⟩ 4 = A)) (HSH : Hid (upto A (qt - pt) E - upto A (qt - pt) F = u))
    (hA0 : 0 ≤ A) (hA1 : A ≤ 300000000) (hF0 : 0 ≤ F) (hF1 : F ≤ 1000000) (hE0 : 0 ≤ E) (hE1 : E ≤ 1000000) (rw_ : IntKind.i64.wrap (y0 + u) = y0 + u)
    (HPS : Hid (PoS w wc vS f t ⟨y0, y1, y2, y3, y4, y5, y6, y7⟩)) (HB : Hid (wc.heap[B]? = some (.cells #[.int .i64 pt, .int .i64 px, .int .i64 py, .int .i64 pz, .int .i64 pp, .int .i64 pq, .int .i64 ps, .int .i64 qt, .int .i64 qx, .int .i64 qy, .int .i64 qz, .int .i64 qp, .int .i64 qq, .int .i64 qs] 188 (0, 0)))) (HBX : Hid (X < B))
    (hk : ∀ (x55 x56 x57 x58 x59 x60 x61 x62 x63 x64 : Value) (wx : World), PoS w wx vS f t ⟨y0 + u, y1, y2, y3, y4, y5, y6, y7⟩ → wx.heap[B]? = some (.cells #[.int .i64 pt, .int .i64 px, .int .i64 py, .int .i64 pz, .int .i64 pp, .int .i64 pq, .int .i64 ps, .int .i64 qt, .int .i64 qx, .int .i64 qy, .int .i64 qz, .int .i64 qp, .int .i64 qq, .int .i64 qs] 188 (0, 0)) → K { tmps := (v0 :: v1 :: v2 :: v3 :: v4 :: v5 :: v6 :: (.pointer (some ⟨X, 0, none⟩)) :: v8 :: (.pointer (some ⟨B, 0, none⟩)) :: (.int .i64 F) :: (.int .i64 E) :: v12 :: v13 :: v14 :: v15 :: v16 :: v17 :: v18 :: v19 :: v20 :: v21 :: v22 :: v23 :: v24 :: v25 :: v26 :: v27 :: v28 :: v29 :: v30 :: v31 :: v32 :: v33 :: v34 :: v35 :: v36 :: v37 :: v38 :: v39 :: v40 :: v41 :: v42 :: v43 :: v44 :: v45 :: v46 :: v47 :: v48 :: v49 :: v50 :: v51 :: v52 :: v53 :: v54 :: x55 :: x56 :: x57 :: x58 :: x59 :: x60 :: x61 :: x62 :: x63 :: x64 :: v65 :: v66 :: v67 :: v68 :: v69 :: v70 :: v71 :: v72 :: v73 :: v74 :: v75 :: v76 :: v77 :: v78 :: v79 :: v80 :: v81 :: v82 :: v83 :: v84 :: v85 :: v86 :: v87 :: v88 :: v89 :: v90 :: v91 :: v92 :: v93 :: v94 :: v95 :: v96 :: v97 :: v98 :: v99 :: []).toArray, defers := [] } wx) :
    (regOf 8 Try.f97).wp Try.prog (Exit.then K Qx) { tmps := (v0 :: v1 :: v2 :: v3 :: v4 :: v5 :: v6 :: (.pointer (some ⟨X, 0, none⟩)) :: v8 :: (.pointer (some ⟨B, 0, none⟩)) :: (.int .i64 F) :: (.int .i64 E) :: v12 :: v13 :: v14 :: v15 :: v16 :: v17 :: v18 :: v19 :: v20 :: v21 :: v22 :: v23 :: v24 :: v25 :: v26 :: v27 :: v28 :: v29 :: v30 :: v31 :: v32 :: v33 :: v34 :: v35 :: v36 :: v37 :: v38 :: v39 :: v40 :: v41 :: v42 :: v43 :: v44 :: v45 :: v46 :: v47 :: v48 :: v49 :: v50 :: v51 :: v52 :: v53 :: v54 :: v55 :: v56 :: v57 :: v58 :: v59 :: v60 :: v61 :: v62 :: v63 :: v64 :: v65 :: v66 :: v67 :: v68 :: v69 :: v70 :: v71 :: v72 :: v73 :: v74 :: v75 :: v76 :: v77 :: v78 :: v79 :: v80 :: v81 :: v82 :: v83 :: v84 :: v85 :: v86 :: v87 :: v88 :: v89 :: v90 :: v91 :: v92 :: v93 :: v94 :: v95 :: v96 :: v97 :: v98 :: v99 :: []).toArray, defers := [] } wc := by
  conv => arg 2; whnf
  have HKK := Lib.hid hk
  clear hk
  have hmx : Try.prog.follows .mixedOrders = true := by kernel_rfl
  have hx0 : wc.drew.cell? ⟨X, 2, none⟩ = some (.int .i64 y0) := by
    have q := HPS.out.x
    rw [← HX.out] at q
    exact grown_cell (grown_drewN wc none 1) (by simp [World.cell?, q])
  have hb0 : wc.drew.heap[B]? = some (.cells #[.int .i64 pt, .int .i64 px, .int .i64 py, .int .i64 pz, .int .i64 pp, .int .i64 pq, .int .i64 ps, .int .i64 qt, .int .i64 qx, .int .i64 qy, .int .i64 qz, .int .i64 qp, .int .i64 qq, .int .i64 qs] 188 (0, 0)) := HB.out
  have hg0 : wc.grownBy wc.drew (some X) := grown_none (grown_drewN wc none 1)
  refine wp_region_noPanic ?_
  refine region_late (S := latePt X 2 y0 B #[.int .i64 pt, .int .i64 px, .int .i64 py, .int .i64 pz, .int .i64 pp, .int .i64 pq, .int .i64 ps, .int .i64 qt, .int .i64 qx, .int .i64 qy, .int .i64 qz, .int .i64 qp, .int .i64 qq, .int .i64 qs] 188 wc) hmx ⟨fun _ => hx0, hg0, hb0⟩ (fun hC0 hS0 => ?_)
  clear hmx hx0 hb0 hg0
  have HG0 : Hid (wc.grownBy wc.drew none) := grown_drewN wc none 1
  generalize wc.drew = W0 at *
  refine wpAnyS_take (i := 0) (v := .pointer (some ⟨X, 2, none⟩)) rfl (by kernel_rfl) (by kernel_rfl) (by kernel_rfl) (latePt_iff (by decide)) (fun _ _ _ h => h) (Or.inl ⟨by rfl, fun V hV => ?_⟩) hC0 hS0 (fun hC1 hS1 => ?_)
  · clear hV
    go_simp
  clear hC0 hS0
  try simp only [Go.Act.put, List.setIfInBounds_toArray, List.set_cons_zero, List.set_cons_succ]
  refine wpAnyS_take (i := 1) (v := .int .i64 y0) rfl (by kernel_rfl) (by kernel_rfl) (by kernel_rfl) (latePt_iff (by decide)) (fun _ _ _ h => h) (Or.inl ⟨by rfl, fun V hV => ?_⟩) hC1 hS1 (fun hC2 hS2 => ?_)
  · have q1 := latePt_c hV rfl (by kernel_rfl)
    clear hV
    go_simp
  clear hC1 hS1
  try simp only [Go.Act.put, List.setIfInBounds_toArray, List.set_cons_zero, List.set_cons_succ]
  refine wpAnyS_take (i := 2) (v := .agg #[.int .i64 pt, .int .i64 px, .int .i64 py, .int .i64 pz, .int .i64 pp, .int .i64 pq, .int .i64 ps, .int .i64 qt, .int .i64 qx, .int .i64 qy, .int .i64 qz, .int .i64 qp, .int .i64 qq, .int .i64 qs]) rfl (by kernel_rfl) (by kernel_rfl) (by kernel_rfl) (latePt_iff (by decide)) (fun _ _ _ h => h) (Or.inl ⟨by rfl, fun V hV => ?_⟩) hC2 hS2 (fun hC3 hS3 => ?_)
  · have hb := latePt_b hV; have c0 : V.cell? ⟨B, 0, none⟩ = some (.int .i64 pt) := (by simp [World.cell?, hb]); have c1 : V.cell? ⟨B, 1, none⟩ = some (.int .i64 px) := (by simp [World.cell?, hb]); have c2 : V.cell? ⟨B, 2, none⟩ = some (.int .i64 py) := (by simp [World.cell?, hb]); have c3 : V.cell? ⟨B, 3, none⟩ = some (.int .i64 pz) := (by simp [World.cell?, hb]); have c4 : V.cell? ⟨B, 4, none⟩ = some (.int .i64 pp) := (by simp [World.cell?, hb]); have c5 : V.cell? ⟨B, 5, none⟩ = some (.int .i64 pq) := (by simp [World.cell?, hb]); have c6 : V.cell? ⟨B, 6, none⟩ = some (.int .i64 ps) := (by simp [World.cell?, hb]); have c7 : V.cell? ⟨B, 7, none⟩ = some (.int .i64 qt) := (by simp [World.cell?, hb]); have c8 : V.cell? ⟨B, 8, none⟩ = some (.int .i64 qx) := (by simp [World.cell?, hb]); have c9 : V.cell? ⟨B, 9, none⟩ = some (.int .i64 qy) := (by simp [World.cell?, hb]); have c10 : V.cell? ⟨B, 10, none⟩ = some (.int .i64 qz) := (by simp [World.cell?, hb]); have c11 : V.cell? ⟨B, 11, none⟩ = some (.int .i64 qp) := (by simp [World.cell?, hb]); have c12 : V.cell? ⟨B, 12, none⟩ = some (.int .i64 qq) := (by simp [World.cell?, hb]); have c13 : V.cell? ⟨B, 13, none⟩ = some (.int .i64 qs) := (by simp [World.cell?, hb]); clear hb
    clear hV
    go_simp
  clear hC2 hS2
  try simp only [Go.Act.put, List.setIfInBounds_toArray, List.set_cons_zero, List.set_cons_succ]
  refine wpAnyS_take (i := 3) (v := .agg #[.int .i64 pt, .int .i64 px, .int .i64 py, .int .i64 pz, .int .i64 pp, .int .i64 pq, .int .i64 ps, .int .i64 qt, .int .i64 qx, .int .i64 qy, .int .i64 qz, .int .i64 qp, .int .i64 qq, .int .i64 qs]) rfl (by kernel_rfl) (by kernel_rfl) (by kernel_rfl) (latePt_iff (by decide)) (fun _ _ _ h => h) (Or.inl ⟨by rfl, fun V hV => ?_⟩) hC3 hS3 (fun hC4 hS4 => ?_)
  · have hb := latePt_b hV; have c0 : V.cell? ⟨B, 0, none⟩ = some (.int .i64 pt) := (by simp [World.cell?, hb]); have c1 : V.cell? ⟨B, 1, none⟩ = some (.int .i64 px) := (by simp [World.cell?, hb]); have c2 : V.cell? ⟨B, 2, none⟩ = some (.int .i64 py) := (by simp [World.cell?, hb]); have c3 : V.cell? ⟨B, 3, none⟩ = some (.int .i64 pz) := (by simp [World.cell?, hb]); have c4 : V.cell? ⟨B, 4, none⟩ = some (.int .i64 pp) := (by simp [World.cell?, hb]); have c5 : V.cell? ⟨B, 5, none⟩ = some (.int .i64 pq) := (by simp [World.cell?, hb]); have c6 : V.cell? ⟨B, 6, none⟩ = some (.int .i64 ps) := (by simp [World.cell?, hb]); have c7 : V.cell? ⟨B, 7, none⟩ = some (.int .i64 qt) := (by simp [World.cell?, hb]); have c8 : V.cell? ⟨B, 8, none⟩ = some (.int .i64 qx) := (by simp [World.cell?, hb]); have c9 : V.cell? ⟨B, 9, none⟩ = some (.int .i64 qy) := (by simp [World.cell?, hb]); have c10 : V.cell? ⟨B, 10, none⟩ = some (.int .i64 qz) := (by simp [World.cell?, hb]); have c11 : V.cell? ⟨B, 11, none⟩ = some (.int .i64 qp) := (by simp [World.cell?, hb]); have c12 : V.cell? ⟨B, 12, none⟩ = some (.int .i64 qq) := (by simp [World.cell?, hb]); have c13 : V.cell? ⟨B, 13, none⟩ = some (.int .i64 qs) := (by simp [World.cell?, hb]); clear hb
    clear hV
    go_simp
  clear hC3 hS3
  try simp only [Go.Act.put, List.setIfInBounds_toArray, List.set_cons_zero, List.set_cons_succ]
  refine wpAnyS_take (i := 5) (v := .int .i64 F) rfl (by kernel_rfl) (by kernel_rfl) (by kernel_rfl) (latePt_iff (by decide)) (fun _ _ _ h => h) (Or.inl ⟨by rfl, fun V hV => ?_⟩) hC4 hS4 (fun hC5 hS5 => ?_)
  · clear hV
    go_simp
  clear hC4 hS4
  try simp only [Go.Act.put, List.setIfInBounds_toArray, List.set_cons_zero, List.set_cons_succ]
  refine wpAnyS_take (i := 6) (v := .int .i64 E) rfl (by kernel_rfl) (by kernel_rfl) (by kernel_rfl) (latePt_iff (by decide)) (fun _ _ _ h => h) (Or.inl ⟨by rfl, fun V hV => ?_⟩) hC5 hS5 (fun hC6 hS6 => ?_)
  · clear hV
    go_simp
  clear hC5 hS5
  try simp only [Go.Act.put, List.setIfInBounds_toArray, List.set_cons_zero, List.set_cons_succ]
  refine wpAnyS_ready (rs := [4]) (by kernel_rfl) (by simp) ?_
  refine AllReadyS.cons rfl hC6 (fun K1 hK => ?_) AllReadyS.nil
  go_simp
  refine (amount_is ⟨pt, px, py, pz, pp, pq, ps⟩ ⟨qt, qx, qy, qz, qp, qq, qs⟩ HST.out 4 _ HAM).mono ?_; rintro e w1 ⟨rfl, hg⟩
  refine hK.out _ _ ((latePt_iff (by decide) _ _).2 (latePt_more hS6 hg)) (fun hC7 hS7 => ?_)
  have HGw1 : Hid (wc.grownBy w1 none) := grown_trans HG0.out hg
  clear hK K1 hg hC6 hS6
  try simp only [Go.Act.put, List.setIfInBounds_toArray, List.set_cons_zero, List.set_cons_succ]
  refine wpAnyS_ready (rs := [7]) (by kernel_rfl) (by simp) ?_
  refine AllReadyS.cons rfl hC7 (fun K1 hK => ?_) AllReadyS.nil
  go_simp
  refine (share_is ⟨pt, px, py, pz, pp, pq, ps⟩ ⟨qt, qx, qy, qz, qp, qq, qs⟩ HST.out.t A F E hA0 hA1 hF0 hF1 hE0 hE1 _ HSH).mono ?_; rintro e w2 ⟨rfl, hg⟩
  refine hK.out _ _ ((latePt_iff (by decide) _ _).2 (latePt_more hS7 hg)) (fun hC8 hS8 => ?_)
  have HGw2 : Hid (wc.grownBy w2 none) := grown_trans HGw1.out hg
  clear hK K1 hg hC7 hS7
  try simp only [Go.Act.put, List.setIfInBounds_toArray, List.set_cons_zero, List.set_cons_succ]
  refine wpAnyS_take (i := 8) (v := .int .i64 (y0 + u)) rfl (by kernel_rfl) (by kernel_rfl) (by kernel_rfl) (latePt_iff (by decide)) (fun _ _ _ h => h) (Or.inl ⟨by rfl, fun V hV => ?_⟩) hC8 hS8 (fun hC9 hS9 => ?_)
  · clear hV
    go_simp
  clear hC8 hS8
  try simp only [Go.Act.put, List.setIfInBounds_toArray, List.set_cons_zero, List.set_cons_succ]
  refine wpAnyS_take (i := 9) (v := .pointer (some ⟨X, 2, none⟩)) rfl (by kernel_rfl) (by kernel_rfl) (by kernel_rfl) (latePt_iff (by decide)) (fun _ _ _ h => h) (Or.inl ⟨by rfl, fun V hV => ?_⟩) hC9 hS9 (fun hC10 hS10 => ?_)
  · clear hV
    go_simp
  clear hC9 hS9
  try simp only [Go.Act.put, List.setIfInBounds_toArray, List.set_cons_zero, List.set_cons_succ]
  refine wpAnyS_ready (rs := [10]) (by kernel_rfl) (by simp) ?_
  refine AllReadyS.cons rfl hC10 (fun K1 hK => ?_) AllReadyS.nil
  have hP2 := HPS.out.grown HGw2.out
  have hx2 := hP2.x
  rw [← HX.out] at hx2
  have cl : w2.cell? ⟨X, 2, none⟩ = some (.int .i64 y0) := by simp [World.cell?, hx2]
  have cf : w2.frozen? ⟨X, 2, none⟩ = false := by simp [World.frozen?, hx2]
  clear hx2
  go_simp
  have hbn : B ≠ X := by have := HBX.out; omega
  have HS2 : Hid (PoS w (w2.setCell ⟨X, 2, none⟩ (.int .i64 (y0 + u))) vS f t ⟨y0 + u, y1, y2, y3, y4, y5, y6, y7⟩) := by
    show PoS _ _ _ _ _ _
    rw [HX.out]; exact hP2.setc 2 _ rfl
  have HB2 : Hid ((w2.setCell ⟨X, 2, none⟩ (.int .i64 (y0 + u))).heap[B]? = some (.cells #[.int .i64 pt, .int .i64 px, .int .i64 py, .int .i64 pz, .int .i64 pp, .int .i64 pq, .int .i64 ps, .int .i64 qt, .int .i64 qx, .int .i64 qy, .int .i64 qz, .int .i64 qp, .int .i64 qq, .int .i64 qs] 188 (0, 0))) := by
    show _ = _
    rw [Below.heap_setCell _ _ _ _ hbn]; exact hS10.2.2
  refine hK.out _ _ ⟨fun e => absurd e (by decide), ⟨hS10.2.1.os, hS10.2.1.tape, hS10.2.1.output, by have := hS10.2.1.size; simp [World.setCell]; omega, fun i hi hne => by
      rw [Below.heap_setCell _ _ _ _ (fun e => hne (by rw [e]))]; exact hS10.2.1.block i hi hne⟩, HB2.out⟩ (fun hC11 hS11 => ?_)
  clear hK K1 hC10 hS10 hC11 hS11 cl cf hP2
  try simp only [Go.Act.put, List.setIfInBounds_toArray, List.set_cons_zero, List.set_cons_succ]
  refine wpAnyS_done (by kernel_rfl) ?_ _
  refine NoPanic.normal ?_
  exact HKK.out _ _ _ _ _ _ _ _ _ _ _ HS2.out HB2.out
end Go.Proofs.Ytmfnphknoclhfaa
