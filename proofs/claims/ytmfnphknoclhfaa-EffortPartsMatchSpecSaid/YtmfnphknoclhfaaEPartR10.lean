/- The region of partOf that adds a known value of kind 1. -/
import Derived.Test.YtmfnphknoclhfaaEPartG
namespace Go.Proofs.Ytmfnphknoclhfaa
open Go.RowKit

set_option maxRecDepth 100000 in
set_option maxHeartbeats 6400000 in
theorem part_reg10 (v0 v1 v2 v3 v4 v5 v6 v8 v12 v13 v14 v15 v16 v17 v18 v19 v20 v21 v22 v23 v24 v25 v26 v27 v28 v29 v30 v31 v32 v33 v34 v35 v36 v37 v38 v39 v40 v41 v42 v43 v44 v45 v46 v47 v48 v49 v50 v51 v52 v53 v54 v55 v56 v57 v58 v59 v60 v61 v62 v63 v64 v65 v66 v67 v68 v69 v70 v71 v72 v73 v74 v75 v76 v77 v78 v79 v80 v81 v82 v83 v84 v85 v86 v87 v88 v89 v90 v91 v92 v93 v94 v95 v96 v97 v98 v99 : Value) {K : Go.Act → World → Prop} {Qx : Exit → Go.Act → World → Prop} (w wc : World) (vS : Value) (B X : Nat) (HX : Hid (X = w.heap.size + 1 + 1)) (F E f t : Int) (pt px py pz pp pq ps qt qx qy qz qp qq qs : Int) (y0 y1 y2 y3 y4 y5 y6 y7 u : Int)
    (HST : Hid (StepIn ⟨pt, px, py, pz, pp, pq, ps⟩ ⟨qt, qx, qy, qz, qp, qq, qs⟩)) (HV : Hid (valE ⟨pt, px, py, pz, pp, pq, ps⟩ ⟨qt, qx, qy, qz, qp, qq, qs⟩ 1 = u)) (hu : u ≤ 3000) (hFE : F < E)
    (hs0 : 0 ≤ y2) (hs1 : y2 ≤ 60000000000000) (hk0 : 0 ≤ y5) (hk1 : y5 ≤ 20000000000) (hF0 : 0 ≤ F) (hF1 : F ≤ 1000000) (hE0 : 0 ≤ E) (hE1 : E ≤ 1000000)
    (HPS : Hid (PoS w wc vS f t ⟨y0, y1, y2, y3, y4, y5, y6, y7⟩)) (HB : Hid (wc.heap[B]? = some (.cells #[.int .i64 pt, .int .i64 px, .int .i64 py, .int .i64 pz, .int .i64 pp, .int .i64 pq, .int .i64 ps, .int .i64 qt, .int .i64 qx, .int .i64 qy, .int .i64 qz, .int .i64 qp, .int .i64 qq, .int .i64 qs] 188 (0, 0)))) (HBX : Hid (X < B))
    (hk : ∀ (x75 x76 x77 x78 x79 x80 x81 x82 : Value) (wx : World), PoS w wx vS f t ⟨y0, y1, addS y2 u (E - F), y3, y4, addK y5 u (E - F), y6, y7⟩ → wx.heap[B]? = some (.cells #[.int .i64 pt, .int .i64 px, .int .i64 py, .int .i64 pz, .int .i64 pp, .int .i64 pq, .int .i64 ps, .int .i64 qt, .int .i64 qx, .int .i64 qy, .int .i64 qz, .int .i64 qp, .int .i64 qq, .int .i64 qs] 188 (0, 0)) → K { tmps := (v0 :: v1 :: v2 :: v3 :: v4 :: v5 :: v6 :: (.pointer (some ⟨X, 0, none⟩)) :: v8 :: (.pointer (some ⟨B, 0, none⟩)) :: (.int .i64 F) :: (.int .i64 E) :: v12 :: v13 :: v14 :: v15 :: v16 :: v17 :: v18 :: v19 :: v20 :: v21 :: v22 :: v23 :: v24 :: v25 :: v26 :: v27 :: v28 :: v29 :: v30 :: v31 :: v32 :: v33 :: v34 :: v35 :: v36 :: v37 :: v38 :: v39 :: v40 :: v41 :: v42 :: v43 :: v44 :: v45 :: v46 :: v47 :: v48 :: v49 :: v50 :: v51 :: v52 :: v53 :: v54 :: v55 :: v56 :: v57 :: v58 :: v59 :: v60 :: v61 :: v62 :: v63 :: v64 :: v65 :: v66 :: v67 :: v68 :: v69 :: v70 :: v71 :: v72 :: v73 :: v74 :: x75 :: x76 :: x77 :: x78 :: x79 :: x80 :: x81 :: x82 :: v83 :: v84 :: v85 :: v86 :: v87 :: v88 :: v89 :: v90 :: v91 :: v92 :: v93 :: v94 :: v95 :: v96 :: v97 :: v98 :: v99 :: []).toArray, defers := [] } wx) :
    (regOf 10 Try.f97).wp Try.prog (Exit.then K Qx) { tmps := (v0 :: v1 :: v2 :: v3 :: v4 :: v5 :: v6 :: (.pointer (some ⟨X, 0, none⟩)) :: v8 :: (.pointer (some ⟨B, 0, none⟩)) :: (.int .i64 F) :: (.int .i64 E) :: v12 :: v13 :: v14 :: v15 :: v16 :: v17 :: v18 :: v19 :: v20 :: v21 :: v22 :: v23 :: v24 :: v25 :: v26 :: v27 :: v28 :: v29 :: v30 :: v31 :: v32 :: v33 :: v34 :: v35 :: v36 :: v37 :: v38 :: v39 :: v40 :: v41 :: v42 :: v43 :: v44 :: v45 :: v46 :: v47 :: v48 :: v49 :: v50 :: v51 :: v52 :: v53 :: v54 :: v55 :: v56 :: v57 :: v58 :: v59 :: v60 :: v61 :: v62 :: v63 :: v64 :: v65 :: v66 :: v67 :: v68 :: v69 :: v70 :: v71 :: v72 :: v73 :: v74 :: v75 :: v76 :: v77 :: v78 :: v79 :: v80 :: v81 :: v82 :: v83 :: v84 :: v85 :: v86 :: v87 :: v88 :: v89 :: v90 :: v91 :: v92 :: v93 :: v94 :: v95 :: v96 :: v97 :: v98 :: v99 :: []).toArray, defers := [] } wc := by
  conv => arg 2; whnf
  have HKK := Lib.hid hk
  clear hk
  have c0 : wc.cell? ⟨B, 0, none⟩ = some (.int .i64 pt) := by have := HB.out; simp [World.cell?, this]
  have c1 : wc.cell? ⟨B, 1, none⟩ = some (.int .i64 px) := by have := HB.out; simp [World.cell?, this]
  have c2 : wc.cell? ⟨B, 2, none⟩ = some (.int .i64 py) := by have := HB.out; simp [World.cell?, this]
  have c3 : wc.cell? ⟨B, 3, none⟩ = some (.int .i64 pz) := by have := HB.out; simp [World.cell?, this]
  have c4 : wc.cell? ⟨B, 4, none⟩ = some (.int .i64 pp) := by have := HB.out; simp [World.cell?, this]
  have c5 : wc.cell? ⟨B, 5, none⟩ = some (.int .i64 pq) := by have := HB.out; simp [World.cell?, this]
  have c6 : wc.cell? ⟨B, 6, none⟩ = some (.int .i64 ps) := by have := HB.out; simp [World.cell?, this]
  have c7 : wc.cell? ⟨B, 7, none⟩ = some (.int .i64 qt) := by have := HB.out; simp [World.cell?, this]
  have c8 : wc.cell? ⟨B, 8, none⟩ = some (.int .i64 qx) := by have := HB.out; simp [World.cell?, this]
  have c9 : wc.cell? ⟨B, 9, none⟩ = some (.int .i64 qy) := by have := HB.out; simp [World.cell?, this]
  have c10 : wc.cell? ⟨B, 10, none⟩ = some (.int .i64 qz) := by have := HB.out; simp [World.cell?, this]
  have c11 : wc.cell? ⟨B, 11, none⟩ = some (.int .i64 qp) := by have := HB.out; simp [World.cell?, this]
  have c12 : wc.cell? ⟨B, 12, none⟩ = some (.int .i64 qq) := by have := HB.out; simp [World.cell?, this]
  have c13 : wc.cell? ⟨B, 13, none⟩ = some (.int .i64 qs) := by have := HB.out; simp [World.cell?, this]
  go_wp2_with fail
  refine (value_is ⟨pt, px, py, pz, pp, pq, ps⟩ ⟨qt, qx, qy, qz, qp, qq, qs⟩ HST.out.t 1 _ HV).mono ?_; rintro e w1 ⟨rfl, hg1⟩
  replace HPS := Lib.hid (HPS.out.grown hg1)
  replace HB := Lib.hid ((hg1.block B (Array.getElem?_eq_some_iff.1 HB.out).1 (by simp)).trans HB.out)
  have hx1 := HPS.out.x
  rw [← HX.out] at hx1
  have ci : w1.cell? ⟨X, 4, none⟩ = some (.int .i64 y2) := by simp [World.cell?, hx1]
  have cj : w1.cell? ⟨X, 7, none⟩ = some (.int .i64 y5) := by simp [World.cell?, hx1]
  have fi : w1.frozen? ⟨X, 4, none⟩ = false := by simp [World.frozen?, hx1]
  have fj : w1.frozen? ⟨X, 7, none⟩ = false := by simp [World.frozen?, hx1]
  have CI := Lib.hid ci; have CJ := Lib.hid cj; have FI := Lib.hid fi; have FJ := Lib.hid fj
  clear c0 c1 c2 c3 c4 c5 c6 c7 c8 c9 c10 c11 c12 c13 hg1 hx1 ci cj fi fj
  go_wp2_with fail
  refine (addKnown_is X 4 7 (by omega) y2 y5 u (E - F) (by omega) (by omega) (by omega) (by omega) (by omega) (by omega) (by omega) w1 CI.out CJ.out FI.out FJ.out).mono ?_; rintro e w2 ⟨rfl, hw2⟩
  have hbn : B ≠ X := by have := HBX.out; omega
  have HPN : Hid (PoS w w2 vS f t ⟨y0, y1, addS y2 u (E - F), y3, y4, addK y5 u (E - F), y6, y7⟩) := by
    show PoS _ _ _ _ _ _
    rw [hw2, HX.out]
    unfold addS addK
    by_cases hneg : u < 0
    · rw [if_pos hneg, if_pos hneg, if_pos hneg]; exact HPS.out
    · rw [if_neg hneg, if_neg hneg, if_neg hneg]; exact (HPS.out.setc (y := ⟨y0, y1, y2 + u * (E - F), y3, y4, y5, y6, y7⟩) 4 _ rfl).setc 7 _ rfl
  have HBN : Hid (w2.heap[B]? = some (.cells #[.int .i64 pt, .int .i64 px, .int .i64 py, .int .i64 pz, .int .i64 pp, .int .i64 pq, .int .i64 ps, .int .i64 qt, .int .i64 qx, .int .i64 qy, .int .i64 qz, .int .i64 qp, .int .i64 qq, .int .i64 qs] 188 (0, 0))) := by
    show _ = _
    rw [hw2]
    by_cases hneg : u < 0
    · rw [if_pos hneg]; exact HB.out
    · rw [if_neg hneg, Below.heap_setCell _ _ _ _ hbn, Below.heap_setCell _ _ _ _ hbn]; exact HB.out
  clear hw2 CI CJ FI FJ
  go_wp2_with fail
  exact HKK.out _ _ _ _ _ _ _ _ _ HPN.out HBN.out
end Go.Proofs.Ytmfnphknoclhfaa
