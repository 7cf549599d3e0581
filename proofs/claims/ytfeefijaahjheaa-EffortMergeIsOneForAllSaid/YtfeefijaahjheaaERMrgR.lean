/- Two curves merged by the reference: the regions that append. -/
import Derived.Test.YtfeefijaahjheaaEMrg
import Derived.Test.YtfeefijaahjheaaRgOf
import Derived.Deep.RegionHeld3
import Derived.Deep.AppendLies
namespace Go.Proofs.Ytfeefijaahjheaa
open Go.RowKit
set_option linter.unusedSimpArgs false
set_option linter.unusedVariables false

attribute [local go_sem] Oper.semAt_some
theorem grown_low9 {w w' : World} {r : Option Nat} (h : w.grownBy w' none) : w.grownBy w' r := ⟨h.os, h.tape, h.output, h.size, fun k hk _ => h.block k hk (by simp)⟩
set_option maxRecDepth 100000 in
set_option maxHeartbeats 3200000 in
theorem mrg_r11 (v1 v2 v3 v4 v5 v6 v8 v9 v10 v11 v12 v13 v14 v15 v16 v17 v18 v19 v20 v21 v22 v23 v24 v25 v26 v27 v28 v29 v30 v31 v32 v33 v34 v35 v36 v37 v38 v39 v40 v41 v42 v43 v44 v45 v46 v47 v48 v49 v50 v51 v52 v53 v54 v55 v56 v57 v58 v59 v60 v61 v62 v63 v64 v65 v66 v67 v68 v69 v70 v71 v72 v73 v74 v75 v76 v77 v78 v79 v80 v81 v82 v83 v84 v85 v86 v87 v88 v89 v90 v91 v92 v93 v94 v95 v96 : Value) {Qx : Exit → Go.Act → World → Prop} (W : World) (base : Nat) (g o n c1 : Nat) (nx : Option Addr) (v : Value) (M : List BestV) (sz bs ba : Int) (bf : Bool)
    (P0 : Hid (W.cell? ⟨g, o, none⟩ = some (.int .i64 sz))) (P1 : Hid (W.cell? ⟨g, o + 1, none⟩ = some (.int .i64 bs))) (P2 : Hid (W.cell? ⟨g, o + 2, none⟩ = some (.int .i64 ba))) (P3 : Hid (W.cell? ⟨g, o + 3, none⟩ = some (.bool bf)))
    (NB : Hid (some g ≠ v.ownBlock)) (hn : n + 1 ≤ c1) (hnx : (if c1 = 1 then some (⟨g, o, none⟩ : Addr) else some ⟨g, o + 4, none⟩) = nx) (HOW : Hid (W.ownsRow base 24 4 v M.length (M.flatMap bestCs))) (hM200 : M.length ≤ 200) (hbW : base ≤ W.heap.size)
    (hk : ∀ (x62 x63 x64 x65 x66 x67 x68 x69 : Value) (gg cap2 : Nat) (w4 : World), w4.ownsRow base 24 4 (.slice (some ⟨gg, 0, none⟩) (M.length + 1) cap2) (M ++ [(⟨sz, bs, ba, bf⟩ : BestV)]).length ((M ++ [(⟨sz, bs, ba, bf⟩ : BestV)]).flatMap bestCs) → W.grownBy w4 v.ownBlock → Qx .normal { tmps := ((.slice nx n (c1 - 1)) :: v1 :: v2 :: v3 :: v4 :: v5 :: v6 :: (.slice (some ⟨gg, 0, none⟩) (M.length + 1) cap2) :: v8 :: v9 :: v10 :: v11 :: v12 :: v13 :: v14 :: v15 :: v16 :: v17 :: v18 :: v19 :: v20 :: v21 :: v22 :: v23 :: v24 :: v25 :: v26 :: v27 :: v28 :: v29 :: v30 :: v31 :: v32 :: v33 :: v34 :: v35 :: v36 :: v37 :: v38 :: v39 :: v40 :: v41 :: v42 :: v43 :: v44 :: v45 :: v46 :: v47 :: v48 :: v49 :: v50 :: v51 :: v52 :: v53 :: v54 :: v55 :: v56 :: v57 :: v58 :: v59 :: v60 :: v61 :: x62 :: x63 :: x64 :: x65 :: x66 :: x67 :: x68 :: x69 :: v70 :: v71 :: v72 :: v73 :: v74 :: v75 :: v76 :: v77 :: v78 :: v79 :: v80 :: v81 :: v82 :: v83 :: v84 :: v85 :: v86 :: v87 :: v88 :: v89 :: v90 :: v91 :: v92 :: v93 :: v94 :: v95 :: v96 :: []).toArray, defers := [] } w4) :
    (rgOf 11 Try.f28).wp Try.prog Qx { tmps := ((.slice (some ⟨g, o, none⟩) (n + 1) c1) :: v1 :: v2 :: v3 :: v4 :: v5 :: v6 :: (v) :: v8 :: v9 :: v10 :: v11 :: v12 :: v13 :: v14 :: v15 :: v16 :: v17 :: v18 :: v19 :: v20 :: v21 :: v22 :: v23 :: v24 :: v25 :: v26 :: v27 :: v28 :: v29 :: v30 :: v31 :: v32 :: v33 :: v34 :: v35 :: v36 :: v37 :: v38 :: v39 :: v40 :: v41 :: v42 :: v43 :: v44 :: v45 :: v46 :: v47 :: v48 :: v49 :: v50 :: v51 :: v52 :: v53 :: v54 :: v55 :: v56 :: v57 :: v58 :: v59 :: v60 :: v61 :: v62 :: v63 :: v64 :: v65 :: v66 :: v67 :: v68 :: v69 :: v70 :: v71 :: v72 :: v73 :: v74 :: v75 :: v76 :: v77 :: v78 :: v79 :: v80 :: v81 :: v82 :: v83 :: v84 :: v85 :: v86 :: v87 :: v88 :: v89 :: v90 :: v91 :: v92 :: v93 :: v94 :: v95 :: v96 :: []).toArray, defers := [] } W := by
  conv => arg 2; whnf
  have HKK := Lib.hid hk
  clear hk
  obtain ⟨j0, ji, jz0, jz1, jz2⟩ := info_parts info_best
  refine wp_region_noPanic ?_
  refine wp_region_held_drew (S := fun V => World.grownBy W V v.ownBlock) (by kernel_rfl) (⟨rfl, rfl, rfl, Nat.le_refl _, fun _ _ _ => rfl⟩) (fun hHeld => ?_)
  have h1n : (1 : Int) ≤ (n : Int) + 1 := by omega
  refine wpAnyH_take (i := 0) (v := v) rfl (by kernel_rfl) (by kernel_rfl) (by kernel_rfl) (fun _ _ _ h => h) (Or.inl ⟨by rfl, fun V hV => ?_⟩) (by assumption) ?_
  · clear hV
    clear hHeld
    go_simp
  simp only [Go.Act.put, List.getElem_toArray, List.getElem_cons_zero, List.getElem_cons_succ, List.setIfInBounds_toArray, List.set_cons_zero, List.set_cons_succ]
  refine wpAnyH_take (i := 1) (v := .slice (some ⟨g, o, none⟩) (n + 1) c1) rfl (by kernel_rfl) (by kernel_rfl) (by kernel_rfl) (fun _ _ _ h => h) (Or.inl ⟨by rfl, fun V hV => ?_⟩) (by assumption) ?_
  · clear hV
    clear hHeld
    go_simp
  simp only [Go.Act.put, List.getElem_toArray, List.getElem_cons_zero, List.getElem_cons_succ, List.setIfInBounds_toArray, List.set_cons_zero, List.set_cons_succ]
  refine wpAnyH_take (i := 2) (v := .pointer (some ⟨g, o, none⟩)) rfl (by kernel_rfl) (by kernel_rfl) (by kernel_rfl) (fun _ _ _ h => h) (Or.inl ⟨by rfl, fun V hV => ?_⟩) (by assumption) ?_
  · clear hV
    clear hHeld
    go_simp
  simp only [Go.Act.put, List.getElem_toArray, List.getElem_cons_zero, List.getElem_cons_succ, List.setIfInBounds_toArray, List.set_cons_zero, List.set_cons_succ]
  refine wpAnyH_take (i := 3) (v := .agg #[.int .i64 sz, .int .i64 bs, .int .i64 ba, .bool bf]) rfl (by kernel_rfl) (by kernel_rfl) (by kernel_rfl) (fun _ _ _ h => h) (Or.inl ⟨by rfl, fun V hV => ?_⟩) (by assumption) ?_
  · have r0 := hV.cell P0.out NB.out; have r1 := hV.cell P1.out NB.out; have r2 := hV.cell P2.out NB.out; have r3 := hV.cell P3.out NB.out; clear hV
    clear hHeld
    go_simp
  simp only [Go.Act.put, List.getElem_toArray, List.getElem_cons_zero, List.getElem_cons_succ, List.setIfInBounds_toArray, List.set_cons_zero, List.set_cons_succ]
  refine wpAnyH_take (i := 6) (v := .slice (some ⟨g, o, none⟩) (n + 1) c1) rfl (by kernel_rfl) (by kernel_rfl) (by kernel_rfl) (fun _ _ _ h => h) (Or.inl ⟨by rfl, fun V hV => ?_⟩) (by assumption) ?_
  · clear hV
    clear hHeld
    go_simp
  simp only [Go.Act.put, List.getElem_toArray, List.getElem_cons_zero, List.getElem_cons_succ, List.setIfInBounds_toArray, List.set_cons_zero, List.set_cons_succ]
  refine wpAnyH_take (i := 7) (v := .slice nx n (c1 - 1)) rfl (by kernel_rfl) (by kernel_rfl) (by kernel_rfl) (fun _ _ _ h => h) (Or.inl ⟨by rfl, fun V hV => ?_⟩) (by assumption) ?_
  · clear hV
    clear hHeld
    go_simp
  simp only [Go.Act.put, List.getElem_toArray, List.getElem_cons_zero, List.getElem_cons_succ, List.setIfInBounds_toArray, List.set_cons_zero, List.set_cons_succ]
  refine wpAnyH_ready (rs := [4]) (by kernel_rfl) (by simp) ?_
  refine AllReadyH.cons rfl (fun K hK => ?_) AllReadyH.nil
  go_simp
  have hgX : W.grownBy (W.drew.alloc (.cells #[.int .i64 sz, .int .i64 bs, .int .i64 ba, .bool bf] 24)) none := grown_trans (show W.grownBy W.drew none from ⟨rfl, rfl, rfl, Nat.le_refl _, fun _ _ _ => rfl⟩) (grown_al _ _)
  refine hK.out _ _ (grown_low9 hgX) (fun hHeld1 => ?_)
  have HO1 := Lib.hid (kept_own HOW.out hgX)
  have HBX := Lib.hid (heap_alloc_new W.drew (.cells #[.int .i64 sz, .int .i64 bs, .int .i64 ba, .bool bf] 24))
  have hsw : W.drew.heap.size = W.heap.size := rfl
  try simp only [Go.Act.put, List.getElem_toArray, List.getElem_cons_zero, List.getElem_cons_succ, List.setIfInBounds_toArray, List.set_cons_zero, List.set_cons_succ]
  refine wpAnyH_ready (rs := [5]) (by kernel_rfl) (by simp) ?_
  refine AllReadyH.cons rfl (fun K hK => ?_) AllReadyH.nil
  refine step_append_lies _ (by rfl) _ _ _ (by rfl) base 24 j0 (.agg #[.int .i64 0, .int .i64 0, .int .i64 0, .bool false]) 4 32 Try.underlying35 ji jz0 jz1 jz2 rfl (by omega) v M.length (M.flatMap bestCs) (by rfl) HO1.out
    ⟨W.heap.size, 0, none⟩ 1 1 [.int .i64 sz, .int .i64 bs, .int .i64 ba, .bool bf] (by rfl) (by rfl) (World.news_of_block HBX.out) (bestCs_one ⟨sz, ⟨bs, ba, bf⟩⟩)
    (by omega) (by unfold maxLen; omega) (by omega) (by simp; omega) _ rfl ?_
  intro gg cap2 w4 hown1 hgrow hat hlt4
  refine hK.out _ _ (World.grownBy.trans hHeld1 hgrow) (fun hHeld => ?_)
  have HN2 : w4.ownsRow base 24 4 (.slice (some ⟨gg, 0, none⟩) (M.length + 1) cap2) (M ++ [(⟨sz, bs, ba, bf⟩ : BestV)]).length ((M ++ [(⟨sz, bs, ba, bf⟩ : BestV)]).flatMap bestCs) := by
    rw [mflat_snoc, List.length_append]; exact hown1
  have HG2 : W.grownBy w4 v.ownBlock := hHeld
  clear hK hHeld1 hown1 hgrow hat hlt4 hgX
  try simp only [Go.Act.put, List.getElem_toArray, List.getElem_cons_zero, List.getElem_cons_succ, List.setIfInBounds_toArray, List.set_cons_zero, List.set_cons_succ]
  refine wpAnyH_take (i := 8) (v := .slice (some ⟨gg, 0, none⟩) (M.length + 1) cap2) rfl (by kernel_rfl) (by kernel_rfl) (by kernel_rfl) (fun _ _ _ h => h) (Or.inl ⟨by rfl, fun V hV => ?_⟩) (by assumption) ?_
  · clear hV
    clear hHeld
    go_simp
  simp only [Go.Act.put, List.getElem_toArray, List.getElem_cons_zero, List.getElem_cons_succ, List.setIfInBounds_toArray, List.set_cons_zero, List.set_cons_succ]
  refine wpAnyH_take (i := 9) (v := .slice nx n (c1 - 1)) rfl (by kernel_rfl) (by kernel_rfl) (by kernel_rfl) (fun _ _ _ h => h) (Or.inl ⟨by rfl, fun V hV => ?_⟩) (by assumption) ?_
  · clear hV
    clear hHeld
    go_simp
  simp only [Go.Act.put, List.getElem_toArray, List.getElem_cons_zero, List.getElem_cons_succ, List.setIfInBounds_toArray, List.set_cons_zero, List.set_cons_succ]
  refine wpAnyH_done (by kernel_rfl) ?_ _
  refine NoPanic.normal ?_
  exact HKK.out _ _ _ _ _ _ _ _ _ _ _ HN2 HG2
set_option maxRecDepth 100000 in
set_option maxHeartbeats 3200000 in
theorem mrg_r13 (v0 v2 v3 v4 v5 v6 v8 v9 v10 v11 v12 v13 v14 v15 v16 v17 v18 v19 v20 v21 v22 v23 v24 v25 v26 v27 v28 v29 v30 v31 v32 v33 v34 v35 v36 v37 v38 v39 v40 v41 v42 v43 v44 v45 v46 v47 v48 v49 v50 v51 v52 v53 v54 v55 v56 v57 v58 v59 v60 v61 v62 v63 v64 v65 v66 v67 v68 v69 v70 v71 v72 v73 v74 v75 v76 v77 v78 v79 v80 v81 v82 v83 v84 v85 v86 v87 v88 v89 v90 v91 v92 v93 v94 v95 v96 : Value) {Qx : Exit → Go.Act → World → Prop} (W : World) (base : Nat) (g o n c1 : Nat) (nx : Option Addr) (v : Value) (M : List BestV) (sz bs ba : Int) (bf : Bool)
    (P0 : Hid (W.cell? ⟨g, o, none⟩ = some (.int .i64 sz))) (P1 : Hid (W.cell? ⟨g, o + 1, none⟩ = some (.int .i64 bs))) (P2 : Hid (W.cell? ⟨g, o + 2, none⟩ = some (.int .i64 ba))) (P3 : Hid (W.cell? ⟨g, o + 3, none⟩ = some (.bool bf)))
    (NB : Hid (some g ≠ v.ownBlock)) (hn : n + 1 ≤ c1) (hnx : (if c1 = 1 then some (⟨g, o, none⟩ : Addr) else some ⟨g, o + 4, none⟩) = nx) (HOW : Hid (W.ownsRow base 24 4 v M.length (M.flatMap bestCs))) (hM200 : M.length ≤ 200) (hbW : base ≤ W.heap.size)
    (hk : ∀ (x85 x86 x87 x88 x89 x90 x91 x92 : Value) (gg cap2 : Nat) (w4 : World), w4.ownsRow base 24 4 (.slice (some ⟨gg, 0, none⟩) (M.length + 1) cap2) (M ++ [(⟨sz, bs, ba, bf⟩ : BestV)]).length ((M ++ [(⟨sz, bs, ba, bf⟩ : BestV)]).flatMap bestCs) → W.grownBy w4 v.ownBlock → Qx .normal { tmps := (v0 :: (.slice nx n (c1 - 1)) :: v2 :: v3 :: v4 :: v5 :: v6 :: (.slice (some ⟨gg, 0, none⟩) (M.length + 1) cap2) :: v8 :: v9 :: v10 :: v11 :: v12 :: v13 :: v14 :: v15 :: v16 :: v17 :: v18 :: v19 :: v20 :: v21 :: v22 :: v23 :: v24 :: v25 :: v26 :: v27 :: v28 :: v29 :: v30 :: v31 :: v32 :: v33 :: v34 :: v35 :: v36 :: v37 :: v38 :: v39 :: v40 :: v41 :: v42 :: v43 :: v44 :: v45 :: v46 :: v47 :: v48 :: v49 :: v50 :: v51 :: v52 :: v53 :: v54 :: v55 :: v56 :: v57 :: v58 :: v59 :: v60 :: v61 :: v62 :: v63 :: v64 :: v65 :: v66 :: v67 :: v68 :: v69 :: v70 :: v71 :: v72 :: v73 :: v74 :: v75 :: v76 :: v77 :: v78 :: v79 :: v80 :: v81 :: v82 :: v83 :: v84 :: x85 :: x86 :: x87 :: x88 :: x89 :: x90 :: x91 :: x92 :: v93 :: v94 :: v95 :: v96 :: []).toArray, defers := [] } w4) :
    (rgOf 13 Try.f28).wp Try.prog Qx { tmps := (v0 :: (.slice (some ⟨g, o, none⟩) (n + 1) c1) :: v2 :: v3 :: v4 :: v5 :: v6 :: (v) :: v8 :: v9 :: v10 :: v11 :: v12 :: v13 :: v14 :: v15 :: v16 :: v17 :: v18 :: v19 :: v20 :: v21 :: v22 :: v23 :: v24 :: v25 :: v26 :: v27 :: v28 :: v29 :: v30 :: v31 :: v32 :: v33 :: v34 :: v35 :: v36 :: v37 :: v38 :: v39 :: v40 :: v41 :: v42 :: v43 :: v44 :: v45 :: v46 :: v47 :: v48 :: v49 :: v50 :: v51 :: v52 :: v53 :: v54 :: v55 :: v56 :: v57 :: v58 :: v59 :: v60 :: v61 :: v62 :: v63 :: v64 :: v65 :: v66 :: v67 :: v68 :: v69 :: v70 :: v71 :: v72 :: v73 :: v74 :: v75 :: v76 :: v77 :: v78 :: v79 :: v80 :: v81 :: v82 :: v83 :: v84 :: v85 :: v86 :: v87 :: v88 :: v89 :: v90 :: v91 :: v92 :: v93 :: v94 :: v95 :: v96 :: []).toArray, defers := [] } W := by
  conv => arg 2; whnf
  have HKK := Lib.hid hk
  clear hk
  obtain ⟨j0, ji, jz0, jz1, jz2⟩ := info_parts info_best
  refine wp_region_noPanic ?_
  refine wp_region_held_drew (S := fun V => World.grownBy W V v.ownBlock) (by kernel_rfl) (⟨rfl, rfl, rfl, Nat.le_refl _, fun _ _ _ => rfl⟩) (fun hHeld => ?_)
  have h1n : (1 : Int) ≤ (n : Int) + 1 := by omega
  refine wpAnyH_take (i := 0) (v := v) rfl (by kernel_rfl) (by kernel_rfl) (by kernel_rfl) (fun _ _ _ h => h) (Or.inl ⟨by rfl, fun V hV => ?_⟩) (by assumption) ?_
  · clear hV
    clear hHeld
    go_simp
  simp only [Go.Act.put, List.getElem_toArray, List.getElem_cons_zero, List.getElem_cons_succ, List.setIfInBounds_toArray, List.set_cons_zero, List.set_cons_succ]
  refine wpAnyH_take (i := 1) (v := .slice (some ⟨g, o, none⟩) (n + 1) c1) rfl (by kernel_rfl) (by kernel_rfl) (by kernel_rfl) (fun _ _ _ h => h) (Or.inl ⟨by rfl, fun V hV => ?_⟩) (by assumption) ?_
  · clear hV
    clear hHeld
    go_simp
  simp only [Go.Act.put, List.getElem_toArray, List.getElem_cons_zero, List.getElem_cons_succ, List.setIfInBounds_toArray, List.set_cons_zero, List.set_cons_succ]
  refine wpAnyH_take (i := 2) (v := .pointer (some ⟨g, o, none⟩)) rfl (by kernel_rfl) (by kernel_rfl) (by kernel_rfl) (fun _ _ _ h => h) (Or.inl ⟨by rfl, fun V hV => ?_⟩) (by assumption) ?_
  · clear hV
    clear hHeld
    go_simp
  simp only [Go.Act.put, List.getElem_toArray, List.getElem_cons_zero, List.getElem_cons_succ, List.setIfInBounds_toArray, List.set_cons_zero, List.set_cons_succ]
  refine wpAnyH_take (i := 3) (v := .agg #[.int .i64 sz, .int .i64 bs, .int .i64 ba, .bool bf]) rfl (by kernel_rfl) (by kernel_rfl) (by kernel_rfl) (fun _ _ _ h => h) (Or.inl ⟨by rfl, fun V hV => ?_⟩) (by assumption) ?_
  · have r0 := hV.cell P0.out NB.out; have r1 := hV.cell P1.out NB.out; have r2 := hV.cell P2.out NB.out; have r3 := hV.cell P3.out NB.out; clear hV
    clear hHeld
    go_simp
  simp only [Go.Act.put, List.getElem_toArray, List.getElem_cons_zero, List.getElem_cons_succ, List.setIfInBounds_toArray, List.set_cons_zero, List.set_cons_succ]
  refine wpAnyH_take (i := 6) (v := .slice (some ⟨g, o, none⟩) (n + 1) c1) rfl (by kernel_rfl) (by kernel_rfl) (by kernel_rfl) (fun _ _ _ h => h) (Or.inl ⟨by rfl, fun V hV => ?_⟩) (by assumption) ?_
  · clear hV
    clear hHeld
    go_simp
  simp only [Go.Act.put, List.getElem_toArray, List.getElem_cons_zero, List.getElem_cons_succ, List.setIfInBounds_toArray, List.set_cons_zero, List.set_cons_succ]
  refine wpAnyH_take (i := 7) (v := .slice nx n (c1 - 1)) rfl (by kernel_rfl) (by kernel_rfl) (by kernel_rfl) (fun _ _ _ h => h) (Or.inl ⟨by rfl, fun V hV => ?_⟩) (by assumption) ?_
  · clear hV
    clear hHeld
    go_simp
  simp only [Go.Act.put, List.getElem_toArray, List.getElem_cons_zero, List.getElem_cons_succ, List.setIfInBounds_toArray, List.set_cons_zero, List.set_cons_succ]
  refine wpAnyH_ready (rs := [4]) (by kernel_rfl) (by simp) ?_
  refine AllReadyH.cons rfl (fun K hK => ?_) AllReadyH.nil
  go_simp
  have hgX : W.grownBy (W.drew.alloc (.cells #[.int .i64 sz, .int .i64 bs, .int .i64 ba, .bool bf] 24)) none := grown_trans (show W.grownBy W.drew none from ⟨rfl, rfl, rfl, Nat.le_refl _, fun _ _ _ => rfl⟩) (grown_al _ _)
  refine hK.out _ _ (grown_low9 hgX) (fun hHeld1 => ?_)
  have HO1 := Lib.hid (kept_own HOW.out hgX)
  have HBX := Lib.hid (heap_alloc_new W.drew (.cells #[.int .i64 sz, .int .i64 bs, .int .i64 ba, .bool bf] 24))
  have hsw : W.drew.heap.size = W.heap.size := rfl
  try simp only [Go.Act.put, List.getElem_toArray, List.getElem_cons_zero, List.getElem_cons_succ, List.setIfInBounds_toArray, List.set_cons_zero, List.set_cons_succ]
  refine wpAnyH_ready (rs := [5]) (by kernel_rfl) (by simp) ?_
  refine AllReadyH.cons rfl (fun K hK => ?_) AllReadyH.nil
  refine step_append_lies _ (by rfl) _ _ _ (by rfl) base 24 j0 (.agg #[.int .i64 0, .int .i64 0, .int .i64 0, .bool false]) 4 32 Try.underlying35 ji jz0 jz1 jz2 rfl (by omega) v M.length (M.flatMap bestCs) (by rfl) HO1.out
    ⟨W.heap.size, 0, none⟩ 1 1 [.int .i64 sz, .int .i64 bs, .int .i64 ba, .bool bf] (by rfl) (by rfl) (World.news_of_block HBX.out) (bestCs_one ⟨sz, ⟨bs, ba, bf⟩⟩)
    (by omega) (by unfold maxLen; omega) (by omega) (by simp; omega) _ rfl ?_
  intro gg cap2 w4 hown1 hgrow hat hlt4
  refine hK.out _ _ (World.grownBy.trans hHeld1 hgrow) (fun hHeld => ?_)
  have HN2 : w4.ownsRow base 24 4 (.slice (some ⟨gg, 0, none⟩) (M.length + 1) cap2) (M ++ [(⟨sz, bs, ba, bf⟩ : BestV)]).length ((M ++ [(⟨sz, bs, ba, bf⟩ : BestV)]).flatMap bestCs) := by
    rw [mflat_snoc, List.length_append]; exact hown1
  have HG2 : W.grownBy w4 v.ownBlock := hHeld
  clear hK hHeld1 hown1 hgrow hat hlt4 hgX
  try simp only [Go.Act.put, List.getElem_toArray, List.getElem_cons_zero, List.getElem_cons_succ, List.setIfInBounds_toArray, List.set_cons_zero, List.set_cons_succ]
  refine wpAnyH_take (i := 8) (v := .slice (some ⟨gg, 0, none⟩) (M.length + 1) cap2) rfl (by kernel_rfl) (by kernel_rfl) (by kernel_rfl) (fun _ _ _ h => h) (Or.inl ⟨by rfl, fun V hV => ?_⟩) (by assumption) ?_
  · clear hV
    clear hHeld
    go_simp
  simp only [Go.Act.put, List.getElem_toArray, List.getElem_cons_zero, List.getElem_cons_succ, List.setIfInBounds_toArray, List.set_cons_zero, List.set_cons_succ]
  refine wpAnyH_take (i := 9) (v := .slice nx n (c1 - 1)) rfl (by kernel_rfl) (by kernel_rfl) (by kernel_rfl) (fun _ _ _ h => h) (Or.inl ⟨by rfl, fun V hV => ?_⟩) (by assumption) ?_
  · clear hV
    clear hHeld
    go_simp
  simp only [Go.Act.put, List.getElem_toArray, List.getElem_cons_zero, List.getElem_cons_succ, List.setIfInBounds_toArray, List.set_cons_zero, List.set_cons_succ]
  refine wpAnyH_done (by kernel_rfl) ?_ _
  refine NoPanic.normal ?_
  exact HKK.out _ _ _ _ _ _ _ _ _ _ _ HN2 HG2
set_option maxRecDepth 100000 in
set_option maxHeartbeats 3200000 in
theorem mrg_r9 (v2 v3 v4 v5 v6 v9 v10 v11 v12 v13 v14 v15 v16 v17 v18 v19 v20 v21 v22 v23 v24 v25 v26 v27 v28 v29 v30 v31 v32 v33 v34 v35 v36 v37 v38 v39 v40 v41 v42 v43 v44 v45 v46 v47 v48 v49 v50 v51 v52 v53 v54 v55 v56 v57 v58 v59 v60 v61 v62 v63 v64 v65 v66 v67 v68 v69 v70 v71 v72 v73 v74 v75 v76 v77 v78 v79 v80 v81 v82 v83 v84 v85 v86 v87 v88 v89 v90 v91 v92 v93 v94 v95 v96 : Value) {Qx : Exit → Go.Act → World → Prop} (W : World) (base : Nat) (g o n c1 g2 o2 n2 c2 X : Nat) (nx ny : Option Addr) (v : Value) (M : List BestV) (sz bs ba : Int) (bf : Bool)
    (P0 : Hid (W.cell? ⟨X, 0, none⟩ = some (.int .i64 sz))) (P1 : Hid (W.cell? ⟨X, 1, none⟩ = some (.int .i64 bs))) (P2 : Hid (W.cell? ⟨X, 2, none⟩ = some (.int .i64 ba))) (P3 : Hid (W.cell? ⟨X, 3, none⟩ = some (.bool bf)))
    (NB : Hid (some X ≠ v.ownBlock)) (hn : n + 1 ≤ c1) (hnx : (if c1 = 1 then some (⟨g, o, none⟩ : Addr) else some ⟨g, o + 4, none⟩) = nx) (hn2 : n2 + 1 ≤ c2) (hny : (if c2 = 1 then some (⟨g2, o2, none⟩ : Addr) else some ⟨g2, o2 + 4, none⟩) = ny) (HOW : Hid (W.ownsRow base 24 4 v M.length (M.flatMap bestCs))) (hM200 : M.length ≤ 200) (hbW : base ≤ W.heap.size)
    (hk : ∀ (x34 x35 x36 x37 x38 x39 x40 x41 : Value) (gg cap2 : Nat) (w4 : World), w4.ownsRow base 24 4 (.slice (some ⟨gg, 0, none⟩) (M.length + 1) cap2) (M ++ [(⟨sz, bs, ba, bf⟩ : BestV)]).length ((M ++ [(⟨sz, bs, ba, bf⟩ : BestV)]).flatMap bestCs) → W.grownBy w4 v.ownBlock → Qx .normal { tmps := ((.slice nx n (c1 - 1)) :: (.slice ny n2 (c2 - 1)) :: v2 :: v3 :: v4 :: v5 :: v6 :: (.slice (some ⟨gg, 0, none⟩) (M.length + 1) cap2) :: (.pointer (some ⟨X, 0, none⟩)) :: v9 :: v10 :: v11 :: v12 :: v13 :: v14 :: v15 :: v16 :: v17 :: v18 :: v19 :: v20 :: v21 :: v22 :: v23 :: v24 :: v25 :: v26 :: v27 :: v28 :: v29 :: v30 :: v31 :: v32 :: v33 :: x34 :: x35 :: x36 :: x37 :: x38 :: x39 :: x40 :: x41 :: v42 :: v43 :: v44 :: v45 :: v46 :: v47 :: v48 :: v49 :: v50 :: v51 :: v52 :: v53 :: v54 :: v55 :: v56 :: v57 :: v58 :: v59 :: v60 :: v61 :: v62 :: v63 :: v64 :: v65 :: v66 :: v67 :: v68 :: v69 :: v70 :: v71 :: v72 :: v73 :: v74 :: v75 :: v76 :: v77 :: v78 :: v79 :: v80 :: v81 :: v82 :: v83 :: v84 :: v85 :: v86 :: v87 :: v88 :: v89 :: v90 :: v91 :: v92 :: v93 :: v94 :: v95 :: v96 :: []).toArray, defers := [] } w4) :
    (rgOf 9 Try.f28).wp Try.prog Qx { tmps := ((.slice (some ⟨g, o, none⟩) (n + 1) c1) :: (.slice (some ⟨g2, o2, none⟩) (n2 + 1) c2) :: v2 :: v3 :: v4 :: v5 :: v6 :: (v) :: (.pointer (some ⟨X, 0, none⟩)) :: v9 :: v10 :: v11 :: v12 :: v13 :: v14 :: v15 :: v16 :: v17 :: v18 :: v19 :: v20 :: v21 :: v22 :: v23 :: v24 :: v25 :: v26 :: v27 :: v28 :: v29 :: v30 :: v31 :: v32 :: v33 :: v34 :: v35 :: v36 :: v37 :: v38 :: v39 :: v40 :: v41 :: v42 :: v43 :: v44 :: v45 :: v46 :: v47 :: v48 :: v49 :: v50 :: v51 :: v52 :: v53 :: v54 :: v55 :: v56 :: v57 :: v58 :: v59 :: v60 :: v61 :: v62 :: v63 :: v64 :: v65 :: v66 :: v67 :: v68 :: v69 :: v70 :: v71 :: v72 :: v73 :: v74 :: v75 :: v76 :: v77 :: v78 :: v79 :: v80 :: v81 :: v82 :: v83 :: v84 :: v85 :: v86 :: v87 :: v88 :: v89 :: v90 :: v91 :: v92 :: v93 :: v94 :: v95 :: v96 :: []).toArray, defers := [] } W := by
  conv => arg 2; whnf
  have HKK := Lib.hid hk
  clear hk
  obtain ⟨j0, ji, jz0, jz1, jz2⟩ := info_parts info_best
  refine wp_region_noPanic ?_
  refine wp_region_held_drew (S := fun V => World.grownBy W V v.ownBlock) (by kernel_rfl) (⟨rfl, rfl, rfl, Nat.le_refl _, fun _ _ _ => rfl⟩) (fun hHeld => ?_)
  have h1n : (1 : Int) ≤ (n : Int) + 1 := by omega
  have h1n2 : (1 : Int) ≤ (n2 : Int) + 1 := by omega
  refine wpAnyH_take (i := 0) (v := v) rfl (by kernel_rfl) (by kernel_rfl) (by kernel_rfl) (fun _ _ _ h => h) (Or.inl ⟨by rfl, fun V hV => ?_⟩) (by assumption) ?_
  · clear hV
    clear hHeld
    go_simp
  simp only [Go.Act.put, List.getElem_toArray, List.getElem_cons_zero, List.getElem_cons_succ, List.setIfInBounds_toArray, List.set_cons_zero, List.set_cons_succ]
  refine wpAnyH_take (i := 1) (v := .agg #[.int .i64 sz, .int .i64 bs, .int .i64 ba, .bool bf]) rfl (by kernel_rfl) (by kernel_rfl) (by kernel_rfl) (fun _ _ _ h => h) (Or.inl ⟨by rfl, fun V hV => ?_⟩) (by assumption) ?_
  · have r0 := hV.cell P0.out NB.out; have r1 := hV.cell P1.out NB.out; have r2 := hV.cell P2.out NB.out; have r3 := hV.cell P3.out NB.out; clear hV
    clear hHeld
    go_simp
  simp only [Go.Act.put, List.getElem_toArray, List.getElem_cons_zero, List.getElem_cons_succ, List.setIfInBounds_toArray, List.set_cons_zero, List.set_cons_succ]
  refine wpAnyH_take (i := 4) (v := .slice (some ⟨g, o, none⟩) (n + 1) c1) rfl (by kernel_rfl) (by kernel_rfl) (by kernel_rfl) (fun _ _ _ h => h) (Or.inl ⟨by rfl, fun V hV => ?_⟩) (by assumption) ?_
  · clear hV
    clear hHeld
    go_simp
  simp only [Go.Act.put, List.getElem_toArray, List.getElem_cons_zero, List.getElem_cons_succ, List.setIfInBounds_toArray, List.set_cons_zero, List.set_cons_succ]
  refine wpAnyH_take (i := 5) (v := .slice nx n (c1 - 1)) rfl (by kernel_rfl) (by kernel_rfl) (by kernel_rfl) (fun _ _ _ h => h) (Or.inl ⟨by rfl, fun V hV => ?_⟩) (by assumption) ?_
  · clear hV
    clear hHeld
    go_simp
  simp only [Go.Act.put, List.getElem_toArray, List.getElem_cons_zero, List.getElem_cons_succ, List.setIfInBounds_toArray, List.set_cons_zero, List.set_cons_succ]
  refine wpAnyH_take (i := 6) (v := .slice (some ⟨g2, o2, none⟩) (n2 + 1) c2) rfl (by kernel_rfl) (by kernel_rfl) (by kernel_rfl) (fun _ _ _ h => h) (Or.inl ⟨by rfl, fun V hV => ?_⟩) (by assumption) ?_
  · clear hV
    clear hHeld
    go_simp
  simp only [Go.Act.put, List.getElem_toArray, List.getElem_cons_zero, List.getElem_cons_succ, List.setIfInBounds_toArray, List.set_cons_zero, List.set_cons_succ]
  refine wpAnyH_take (i := 7) (v := .slice ny n2 (c2 - 1)) rfl (by kernel_rfl) (by kernel_rfl) (by kernel_rfl) (fun _ _ _ h => h) (Or.inl ⟨by rfl, fun V hV => ?_⟩) (by assumption) ?_
  · clear hV
    clear hHeld
    go_simp
  simp only [Go.Act.put, List.getElem_toArray, List.getElem_cons_zero, List.getElem_cons_succ, List.setIfInBounds_toArray, List.set_cons_zero, List.set_cons_succ]
  refine wpAnyH_ready (rs := [2]) (by kernel_rfl) (by simp) ?_
  refine AllReadyH.cons rfl (fun K hK => ?_) AllReadyH.nil
  go_simp
  have hgX : W.grownBy (W.drew.alloc (.cells #[.int .i64 sz, .int .i64 bs, .int .i64 ba, .bool bf] 24)) none := grown_trans (show W.grownBy W.drew none from ⟨rfl, rfl, rfl, Nat.le_refl _, fun _ _ _ => rfl⟩) (grown_al _ _)
  refine hK.out _ _ (grown_low9 hgX) (fun hHeld1 => ?_)
  have HO1 := Lib.hid (kept_own HOW.out hgX)
  have HBX := Lib.hid (heap_alloc_new W.drew (.cells #[.int .i64 sz, .int .i64 bs, .int .i64 ba, .bool bf] 24))
  have hsw : W.drew.heap.size = W.heap.size := rfl
  try simp only [Go.Act.put, List.getElem_toArray, List.getElem_cons_zero, List.getElem_cons_succ, List.setIfInBounds_toArray, List.set_cons_zero, List.set_cons_succ]
  refine wpAnyH_ready (rs := [3]) (by kernel_rfl) (by simp) ?_
  refine AllReadyH.cons rfl (fun K hK => ?_) AllReadyH.nil
  refine step_append_lies _ (by rfl) _ _ _ (by rfl) base 24 j0 (.agg #[.int .i64 0, .int .i64 0, .int .i64 0, .bool false]) 4 32 Try.underlying35 ji jz0 jz1 jz2 rfl (by omega) v M.length (M.flatMap bestCs) (by rfl) HO1.out
    ⟨W.heap.size, 0, none⟩ 1 1 [.int .i64 sz, .int .i64 bs, .int .i64 ba, .bool bf] (by rfl) (by rfl) (World.news_of_block HBX.out) (bestCs_one ⟨sz, ⟨bs, ba, bf⟩⟩)
    (by omega) (by unfold maxLen; omega) (by omega) (by simp; omega) _ rfl ?_
  intro gg cap2 w4 hown1 hgrow hat hlt4
  refine hK.out _ _ (World.grownBy.trans hHeld1 hgrow) (fun hHeld => ?_)
  have HN2 : w4.ownsRow base 24 4 (.slice (some ⟨gg, 0, none⟩) (M.length + 1) cap2) (M ++ [(⟨sz, bs, ba, bf⟩ : BestV)]).length ((M ++ [(⟨sz, bs, ba, bf⟩ : BestV)]).flatMap bestCs) := by
    rw [mflat_snoc, List.length_append]; exact hown1
  have HG2 : W.grownBy w4 v.ownBlock := hHeld
  clear hK hHeld1 hown1 hgrow hat hlt4 hgX
  try simp only [Go.Act.put, List.getElem_toArray, List.getElem_cons_zero, List.getElem_cons_succ, List.setIfInBounds_toArray, List.set_cons_zero, List.set_cons_succ]
  refine wpAnyH_take (i := 8) (v := .slice (some ⟨gg, 0, none⟩) (M.length + 1) cap2) rfl (by kernel_rfl) (by kernel_rfl) (by kernel_rfl) (fun _ _ _ h => h) (Or.inl ⟨by rfl, fun V hV => ?_⟩) (by assumption) ?_
  · clear hV
    clear hHeld
    go_simp
  simp only [Go.Act.put, List.getElem_toArray, List.getElem_cons_zero, List.getElem_cons_succ, List.setIfInBounds_toArray, List.set_cons_zero, List.set_cons_succ]
  refine wpAnyH_take (i := 9) (v := .slice nx n (c1 - 1)) rfl (by kernel_rfl) (by kernel_rfl) (by kernel_rfl) (fun _ _ _ h => h) (Or.inl ⟨by rfl, fun V hV => ?_⟩) (by assumption) ?_
  · clear hV
    clear hHeld
    go_simp
  simp only [Go.Act.put, List.getElem_toArray, List.getElem_cons_zero, List.getElem_cons_succ, List.setIfInBounds_toArray, List.set_cons_zero, List.set_cons_succ]
  refine wpAnyH_take (i := 10) (v := .slice ny n2 (c2 - 1)) rfl (by kernel_rfl) (by kernel_rfl) (by kernel_rfl) (fun _ _ _ h => h) (Or.inl ⟨by rfl, fun V hV => ?_⟩) (by assumption) ?_
  · clear hV
    clear hHeld
    go_simp
  simp only [Go.Act.put, List.getElem_toArray, List.getElem_cons_zero, List.getElem_cons_succ, List.setIfInBounds_toArray, List.set_cons_zero, List.set_cons_succ]
  refine wpAnyH_done (by kernel_rfl) ?_ _
  refine NoPanic.normal ?_
  exact HKK.out _ _ _ _ _ _ _ _ _ _ _ HN2 HG2
end Go.Proofs.Ytfeefijaahjheaa
