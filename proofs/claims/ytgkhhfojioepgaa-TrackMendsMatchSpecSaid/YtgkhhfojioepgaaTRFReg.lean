/- Region 20 of the reference's Fill: one sample's field is set. -/
import Derived.Test.YtgkhhfojioepgaaTFill
import Derived.Test.YtgkhhfojioepgaaTRFld
namespace Go.Proofs.Ytgkhhfojioepgaa
open Go.RowKit
set_option linter.unusedSimpArgs false
set_option linter.unusedVariables false

attribute [local go_sem] Oper.semAt_some
/-- The region with a number within a code. -/
def findRegF (n : Nat) : Code → Option Code
  | .region m ops b => match Nat.beq m n with
    | true => some (.region m ops b)
    | false => none
  | .seq a b => match findRegF n a with
    | some c => some c
    | none => findRegF n b
  | .cond _ a b => match findRegF n a with
    | some c => some c
    | none => findRegF n b
  | .block _ c => findRegF n c
  | .loop c => findRegF n c
  | .rangeFunc _ _ a b => match findRegF n a with
    | some c => some c
    | none => findRegF n b
  | .scope c => findRegF n c
  | _ => none
def regOfF (n : Nat) (f : Func) : Code := match f.body with
  | some c => (match findRegF n c with
    | some r => r
    | none => .skip)
  | none => .skip

set_option maxRecDepth 100000 in
set_option maxHeartbeats 6400000 in
theorem rfil_reg (v0 v1 v2 v3 v4 v5 v6 v9 v10 v14 v15 v16 v17 v18 v19 v20 v21 v22 v23 v24 v25 v26 v27 v28 v29 v30 v31 v32 v33 v34 v35 v36 v37 v38 v39 v40 v41 v42 v43 v44 v45 v46 v47 v48 v49 v50 v51 v52 v53 v54 v55 v56 v57 v58 v59 v60 v61 v62 v63 v64 v65 v66 v67 v68 v69 v70 v71 v72 v73 v74 v75 v76 v77 v78 v79 v80 v81 v82 v83 v84 v85 v86 v87 v88 v89 v90 v91 v92 v93 v94 v95 v96 v97 : Value) {Qx : Exit → Go.Act → World → Prop} (wr : World) (c m fb qb pb g k1 n : Nat) (x p : Smp) (u v y : Int) {z : Value} {cur : Array Value} (hc : c ≤ 2)
    (kF0 : wr.cell? ⟨fb, 3, none⟩ = some (.slice (some ⟨g, 0, none⟩) n k1)) (BQ : wr.heap[qb]? = some (.cells #[.int .i64 x.t, .int .i64 x.x, .int .i64 x.y, .int .i64 x.z, .int .i64 x.p, .int .i64 x.q, .int .i64 x.s] 28 (0, 0))) (BP : wr.heap[pb]? = some (.cells #[.int .i64 p.t, .int .i64 p.x, .int .i64 p.y, .int .i64 p.z, .int .i64 p.p, .int .i64 p.q, .int .i64 p.s] 28 (0, 0))) (q0 : wr.cell? ⟨g, m * 7, none⟩ = some (.int .i64 u)) (q1 : wr.cell? ⟨g, m * 7 + (c + 4), none⟩ = some z) (HC0 : wr.heap[g]? = some (.cells cur 28 (0, 0)))
    (HY : Hid (smpGet (c + 4) x = y)) (HB : Hid (btwV (smpGet (c + 4) p) y (u - p.t) (x.t - p.t) = v)) (bp : 0 ≤ smpGet (c + 4) p ∧ smpGet (c + 4) p ≤ 3000) (by_ : 0 ≤ y ∧ y ≤ 3000) (hu0 : p.t < u ∧ u < x.t) (pt0 : 0 ≤ p.t) (xt0 : x.t ≤ 1000000) (il1 : (m : Int) < (n : Int)) (nfg : fb ≠ g) (nqg : qb ≠ g) (npg : pb ≠ g)
    (hk : ∀ (x68 x69 x70 x71 x72 x73 x74 x75 x76 x77 x78 x79 x80 x81 x82 x83 x84 x85 x86 x87 x88 x89 x90 x91 x92 x93 x94 : Value) (w22 : World), wr.grownBy w22 none → Qx .normal { tmps := (v0 :: v1 :: v2 :: v3 :: v4 :: v5 :: v6 :: (.pointer (some ⟨fb, 0, none⟩)) :: (.int .i64 (c : Int)) :: v9 :: v10 :: (.pointer (some ⟨qb, 0, none⟩)) :: (.pointer (some ⟨pb, 0, none⟩)) :: (.int .i64 (m : Int)) :: v14 :: v15 :: v16 :: v17 :: v18 :: v19 :: v20 :: v21 :: v22 :: v23 :: v24 :: v25 :: v26 :: v27 :: v28 :: v29 :: v30 :: v31 :: v32 :: v33 :: v34 :: v35 :: v36 :: v37 :: v38 :: v39 :: v40 :: v41 :: v42 :: v43 :: v44 :: v45 :: v46 :: v47 :: v48 :: v49 :: v50 :: v51 :: v52 :: v53 :: v54 :: v55 :: v56 :: v57 :: v58 :: v59 :: v60 :: v61 :: v62 :: v63 :: v64 :: v65 :: v66 :: v67 :: x68 :: x69 :: x70 :: x71 :: x72 :: x73 :: x74 :: x75 :: x76 :: x77 :: x78 :: x79 :: x80 :: x81 :: x82 :: x83 :: x84 :: x85 :: x86 :: x87 :: x88 :: x89 :: x90 :: x91 :: x92 :: x93 :: x94 :: v95 :: v96 :: v97 :: []).toArray, defers := [] } (w22.setCell ⟨g, m * 7 + (c + 4), none⟩ (.int .i64 v))) :
    (regOfF 20 Try.f37).wp Try.prog Qx { tmps := (v0 :: v1 :: v2 :: v3 :: v4 :: v5 :: v6 :: (.pointer (some ⟨fb, 0, none⟩)) :: (.int .i64 (c : Int)) :: v9 :: v10 :: (.pointer (some ⟨qb, 0, none⟩)) :: (.pointer (some ⟨pb, 0, none⟩)) :: (.int .i64 (m : Int)) :: v14 :: v15 :: v16 :: v17 :: v18 :: v19 :: v20 :: v21 :: v22 :: v23 :: v24 :: v25 :: v26 :: v27 :: v28 :: v29 :: v30 :: v31 :: v32 :: v33 :: v34 :: v35 :: v36 :: v37 :: v38 :: v39 :: v40 :: v41 :: v42 :: v43 :: v44 :: v45 :: v46 :: v47 :: v48 :: v49 :: v50 :: v51 :: v52 :: v53 :: v54 :: v55 :: v56 :: v57 :: v58 :: v59 :: v60 :: v61 :: v62 :: v63 :: v64 :: v65 :: v66 :: v67 :: v68 :: v69 :: v70 :: v71 :: v72 :: v73 :: v74 :: v75 :: v76 :: v77 :: v78 :: v79 :: v80 :: v81 :: v82 :: v83 :: v84 :: v85 :: v86 :: v87 :: v88 :: v89 :: v90 :: v91 :: v92 :: v93 :: v94 :: v95 :: v96 :: v97 :: []).toArray, defers := [] } wr := by
  conv => arg 2; whnf
  have HKK := Lib.hid hk
  clear hk
  have HC2 := Lib.hid hc
  have HC := Lib.hid HC0
  have r2 : IntKind.i64.wrap (u - p.t) = u - p.t := IntWalk.i64_in _ (by omega)
  have r3 : IntKind.i64.wrap (x.t - p.t) = x.t - p.t := IntWalk.i64_in _ (by omega)
  have il2 : (0 : Int) ≤ (m : Int) := by omega
  have gd : wr.grownBy wr.drew none := grown_drewN wr none 1
  have G1 := Lib.hid gd
  have kF := grown_cell gd kF0
  have kQ := Lib.hid (block_at (row := none) BQ gd (by simp))
  have kP := Lib.hid (block_at (row := none) BP gd (by simp))
  have kt := grown_cell gd q0
  have kz := grown_cell gd q1
  clear gd q0 q1 kF0 BQ BP HC0 hc
  refine wp_region_noPanic ?_
  refine region_late (lateK (fun V => V.cell? ⟨fb, 3, none⟩ = some (.slice (some ⟨g, 0, none⟩) n k1) ∧ V.heap[qb]? = some (.cells #[.int .i64 x.t, .int .i64 x.x, .int .i64 x.y, .int .i64 x.z, .int .i64 x.p, .int .i64 x.q, .int .i64 x.s] 28 (0, 0)) ∧ V.heap[pb]? = some (.cells #[.int .i64 p.t, .int .i64 p.x, .int .i64 p.y, .int .i64 p.z, .int .i64 p.p, .int .i64 p.q, .int .i64 p.s] 28 (0, 0)) ∧ V.cell? ⟨g, m * 7, none⟩ = some (.int .i64 u)) []) (by kernel_rfl) ⟨kF, kQ.out, kP.out, kt⟩ (fun hCz0 hSz0 => ?_)
  generalize wr.drew = V11 at *
  refine wpAnyS_take (i := 0) (oi := ?oiz1) (v := .pointer (some ⟨fb, 3, none⟩)) ?hiz1 (by kernel_rfl) (by kernel_rfl) (by kernel_rfl) (lateK_iff (by rfl)) ?hqz1 ?hyz1 hCz0 hSz0 ?restz1
  case hiz1 => simp only [List.getElem?_toArray, List.getElem?_cons_succ, List.getElem?_cons_zero, Option.some.injEq]; rfl
  case hqz1 => exact fun _ _ _ h => h
  case hyz1 =>
    refine Or.inl ⟨by kernel_rfl, fun V hV => ?_⟩
    clear hV
    go_simp
  intro hCz1 hSz1
  clear hCz0 hSz0
  try simp only [Go.Act.put, List.setIfInBounds_toArray, List.set_cons_zero, List.set_cons_succ]
  refine wpAnyS_take (i := 1) (oi := ?oiz2) (v := .slice (some ⟨g, 0, none⟩) n k1) ?hiz2 (by kernel_rfl) (by kernel_rfl) (by kernel_rfl) (lateK_iff (by rfl)) ?hqz2 ?hyz2 hCz1 hSz1 ?restz2
  case hiz2 => simp only [List.getElem?_toArray, List.getElem?_cons_succ, List.getElem?_cons_zero, Option.some.injEq]; rfl
  case hqz2 => exact fun _ _ _ h => h
  case hyz2 =>
    refine Or.inl ⟨by kernel_rfl, fun V hV => ?_⟩
    have z3 := (lateK_g hV).1; clear hV
    go_simp
  intro hCz2 hSz2
  clear hCz1 hSz1
  try simp only [Go.Act.put, List.setIfInBounds_toArray, List.set_cons_zero, List.set_cons_succ]
  refine wpAnyS_take (i := 2) (oi := ?oiz3) (v := .int .i64 (m : Int)) ?hiz3 (by kernel_rfl) (by kernel_rfl) (by kernel_rfl) (lateK_iff (by rfl)) ?hqz3 ?hyz3 hCz2 hSz2 ?restz3
  case hiz3 => simp only [List.getElem?_toArray, List.getElem?_cons_succ, List.getElem?_cons_zero, Option.some.injEq]; rfl
  case hqz3 => exact fun _ _ _ h => h
  case hyz3 =>
    refine Or.inl ⟨by kernel_rfl, fun V hV => ?_⟩
    clear hV
    go_simp
  intro hCz3 hSz3
  clear hCz2 hSz2
  try simp only [Go.Act.put, List.setIfInBounds_toArray, List.set_cons_zero, List.set_cons_succ]
  refine wpAnyS_take (i := 3) (oi := ?oiz4) (v := .pointer (some ⟨g, m * 7, none⟩)) ?hiz4 (by kernel_rfl) (by kernel_rfl) (by kernel_rfl) (lateK_iff (by rfl)) ?hqz4 ?hyz4 hCz3 hSz3 ?restz4
  case hiz4 => simp only [List.getElem?_toArray, List.getElem?_cons_succ, List.getElem?_cons_zero, Option.some.injEq]; rfl
  case hqz4 => exact fun _ _ _ h => h
  case hyz4 =>
    refine Or.inl ⟨by kernel_rfl, fun V hV => ?_⟩
    clear hV
    go_simp
  intro hCz4 hSz4
  clear hCz3 hSz3
  try simp only [Go.Act.put, List.setIfInBounds_toArray, List.set_cons_zero, List.set_cons_succ]
  refine wpAnyS_take (i := 4) (oi := ?oiz5) (v := .int .i64 (c : Int)) ?hiz5 (by kernel_rfl) (by kernel_rfl) (by kernel_rfl) (lateK_iff (by rfl)) ?hqz5 ?hyz5 hCz4 hSz4 ?restz5
  case hiz5 => simp only [List.getElem?_toArray, List.getElem?_cons_succ, List.getElem?_cons_zero, Option.some.injEq]; rfl
  case hqz5 => exact fun _ _ _ h => h
  case hyz5 =>
    refine Or.inl ⟨by kernel_rfl, fun V hV => ?_⟩
    clear hV
    go_simp
  intro hCz5 hSz5
  clear hCz4 hSz4
  try simp only [Go.Act.put, List.setIfInBounds_toArray, List.set_cons_zero, List.set_cons_succ]
  refine wpAnyS_take (i := 5) (oi := ?oiz6) (v := .agg #[.int .i64 p.t, .int .i64 p.x, .int .i64 p.y, .int .i64 p.z, .int .i64 p.p, .int .i64 p.q, .int .i64 p.s]) ?hiz6 (by kernel_rfl) (by kernel_rfl) (by kernel_rfl) (lateK_iff (by rfl)) ?hqz6 ?hyz6 hCz5 hSz5 ?restz6
  case hiz6 => simp only [List.getElem?_toArray, List.getElem?_cons_succ, List.getElem?_cons_zero, Option.some.injEq]; rfl
  case hqz6 => exact fun _ _ _ h => h
  case hyz6 =>
    refine Or.inl ⟨by kernel_rfl, fun V hV => ?_⟩
    have gV := (lateK_g hV).2.2.1; have z0 := block_cell gV 0 _ rfl; have z1 := block_cell gV 1 _ rfl; have z2 := block_cell gV 2 _ rfl; have z3 := block_cell gV 3 _ rfl; have z4 := block_cell gV 4 _ rfl; have z5 := block_cell gV 5 _ rfl; have z6 := block_cell gV 6 _ rfl; clear gV; clear hV
    go_simp
  intro hCz6 hSz6
  clear hCz5 hSz5
  try simp only [Go.Act.put, List.setIfInBounds_toArray, List.set_cons_zero, List.set_cons_succ]
  refine wpAnyS_take (i := 6) (oi := ?oiz7) (v := .int .i64 (c : Int)) ?hiz7 (by kernel_rfl) (by kernel_rfl) (by kernel_rfl) (lateK_iff (by rfl)) ?hqz7 ?hyz7 hCz6 hSz6 ?restz7
  case hiz7 => simp only [List.getElem?_toArray, List.getElem?_cons_succ, List.getElem?_cons_zero, Option.some.injEq]; rfl
  case hqz7 => exact fun _ _ _ h => h
  case hyz7 =>
    refine Or.inl ⟨by kernel_rfl, fun V hV => ?_⟩
    clear hV
    go_simp
  intro hCz7 hSz7
  clear hCz6 hSz6
  try simp only [Go.Act.put, List.setIfInBounds_toArray, List.set_cons_zero, List.set_cons_succ]
  refine wpAnyS_take (i := 8) (oi := ?oiz8) (v := .agg #[.int .i64 x.t, .int .i64 x.x, .int .i64 x.y, .int .i64 x.z, .int .i64 x.p, .int .i64 x.q, .int .i64 x.s]) ?hiz8 (by kernel_rfl) (by kernel_rfl) (by kernel_rfl) (lateK_iff (by rfl)) ?hqz8 ?hyz8 hCz7 hSz7 ?restz8
  case hiz8 => simp only [List.getElem?_toArray, List.getElem?_cons_succ, List.getElem?_cons_zero, Option.some.injEq]; rfl
  case hqz8 => exact fun _ _ _ h => h
  case hyz8 =>
    refine Or.inl ⟨by kernel_rfl, fun V hV => ?_⟩
    have gV := (lateK_g hV).2.1; have z0 := block_cell gV 0 _ rfl; have z1 := block_cell gV 1 _ rfl; have z2 := block_cell gV 2 _ rfl; have z3 := block_cell gV 3 _ rfl; have z4 := block_cell gV 4 _ rfl; have z5 := block_cell gV 5 _ rfl; have z6 := block_cell gV 6 _ rfl; clear gV; clear hV
    go_simp
  intro hCz8 hSz8
  clear hCz7 hSz7
  try simp only [Go.Act.put, List.setIfInBounds_toArray, List.set_cons_zero, List.set_cons_succ]
  refine wpAnyS_take (i := 9) (oi := ?oiz9) (v := .int .i64 (c : Int)) ?hiz9 (by kernel_rfl) (by kernel_rfl) (by kernel_rfl) (lateK_iff (by rfl)) ?hqz9 ?hyz9 hCz8 hSz8 ?restz9
  case hiz9 => simp only [List.getElem?_toArray, List.getElem?_cons_succ, List.getElem?_cons_zero, Option.some.injEq]; rfl
  case hqz9 => exact fun _ _ _ h => h
  case hyz9 =>
    refine Or.inl ⟨by kernel_rfl, fun V hV => ?_⟩
    clear hV
    go_simp
  intro hCz9 hSz9
  clear hCz8 hSz8
  try simp only [Go.Act.put, List.setIfInBounds_toArray, List.set_cons_zero, List.set_cons_succ]
  refine wpAnyS_take (i := 11) (oi := ?oiz10) (v := .pointer (some ⟨fb, 3, none⟩)) ?hiz10 (by kernel_rfl) (by kernel_rfl) (by kernel_rfl) (lateK_iff (by rfl)) ?hqz10 ?hyz10 hCz9 hSz9 ?restz10
  case hiz10 => simp only [List.getElem?_toArray, List.getElem?_cons_succ, List.getElem?_cons_zero, Option.some.injEq]; rfl
  case hqz10 => exact fun _ _ _ h => h
  case hyz10 =>
    refine Or.inl ⟨by kernel_rfl, fun V hV => ?_⟩
    clear hV
    go_simp
  intro hCz10 hSz10
  clear hCz9 hSz9
  try simp only [Go.Act.put, List.setIfInBounds_toArray, List.set_cons_zero, List.set_cons_succ]
  refine wpAnyS_take (i := 12) (oi := ?oiz11) (v := .slice (some ⟨g, 0, none⟩) n k1) ?hiz11 (by kernel_rfl) (by kernel_rfl) (by kernel_rfl) (lateK_iff (by rfl)) ?hqz11 ?hyz11 hCz10 hSz10 ?restz11
  case hiz11 => simp only [List.getElem?_toArray, List.getElem?_cons_succ, List.getElem?_cons_zero, Option.some.injEq]; rfl
  case hqz11 => exact fun _ _ _ h => h
  case hyz11 =>
    refine Or.inl ⟨by kernel_rfl, fun V hV => ?_⟩
    have z3 := (lateK_g hV).1; clear hV
    go_simp
  intro hCz11 hSz11
  clear hCz10 hSz10
  try simp only [Go.Act.put, List.setIfInBounds_toArray, List.set_cons_zero, List.set_cons_succ]
  refine wpAnyS_take (i := 13) (oi := ?oiz12) (v := .int .i64 (m : Int)) ?hiz12 (by kernel_rfl) (by kernel_rfl) (by kernel_rfl) (lateK_iff (by rfl)) ?hqz12 ?hyz12 hCz11 hSz11 ?restz12
  case hiz12 => simp only [List.getElem?_toArray, List.getElem?_cons_succ, List.getElem?_cons_zero, Option.some.injEq]; rfl
  case hqz12 => exact fun _ _ _ h => h
  case hyz12 =>
    refine Or.inl ⟨by kernel_rfl, fun V hV => ?_⟩
    clear hV
    go_simp
  intro hCz12 hSz12
  clear hCz11 hSz11
  try simp only [Go.Act.put, List.setIfInBounds_toArray, List.set_cons_zero, List.set_cons_succ]
  refine wpAnyS_take (i := 14) (oi := ?oiz13) (v := .pointer (some ⟨g, m * 7, none⟩)) ?hiz13 (by kernel_rfl) (by kernel_rfl) (by kernel_rfl) (lateK_iff (by rfl)) ?hqz13 ?hyz13 hCz12 hSz12 ?restz13
  case hiz13 => simp only [List.getElem?_toArray, List.getElem?_cons_succ, List.getElem?_cons_zero, Option.some.injEq]; rfl
  case hqz13 => exact fun _ _ _ h => h
  case hyz13 =>
    refine Or.inl ⟨by kernel_rfl, fun V hV => ?_⟩
    clear hV
    go_simp
  intro hCz13 hSz13
  clear hCz12 hSz12
  try simp only [Go.Act.put, List.setIfInBounds_toArray, List.set_cons_zero, List.set_cons_succ]
  refine wpAnyS_take (i := 15) (oi := ?oiz14) (v := .pointer (some ⟨g, m * 7, none⟩)) ?hiz14 (by kernel_rfl) (by kernel_rfl) (by kernel_rfl) (lateK_iff (by rfl)) ?hqz14 ?hyz14 hCz13 hSz13 ?restz14
  case hiz14 => simp only [List.getElem?_toArray, List.getElem?_cons_succ, List.getElem?_cons_zero, Option.some.injEq]; rfl
  case hqz14 => exact fun _ _ _ h => h
  case hyz14 =>
    refine Or.inl ⟨by kernel_rfl, fun V hV => ?_⟩
    clear hV
    go_simp
  intro hCz14 hSz14
  clear hCz13 hSz13
  try simp only [Go.Act.put, List.setIfInBounds_toArray, List.set_cons_zero, List.set_cons_succ]
  refine wpAnyS_take (i := 16) (oi := ?oiz15) (v := .int .i64 u) ?hiz15 (by kernel_rfl) (by kernel_rfl) (by kernel_rfl) (lateK_iff (by rfl)) ?hqz15 ?hyz15 hCz14 hSz14 ?restz15
  case hiz15 => simp only [List.getElem?_toArray, List.getElem?_cons_succ, List.getElem?_cons_zero, Option.some.injEq]; rfl
  case hqz15 => exact fun _ _ _ h => h
  case hyz15 =>
    refine Or.inl ⟨by kernel_rfl, fun V hV => ?_⟩
    have zt := (lateK_g hV).2.2.2; clear hV
    go_simp
  intro hCz15 hSz15
  clear hCz14 hSz14
  try simp only [Go.Act.put, List.setIfInBounds_toArray, List.set_cons_zero, List.set_cons_succ]
  refine wpAnyS_take (i := 17) (oi := ?oiz16) (v := .pointer (some ⟨pb, 0, none⟩)) ?hiz16 (by kernel_rfl) (by kernel_rfl) (by kernel_rfl) (lateK_iff (by rfl)) ?hqz16 ?hyz16 hCz15 hSz15 ?restz16
  case hiz16 => simp only [List.getElem?_toArray, List.getElem?_cons_succ, List.getElem?_cons_zero, Option.some.injEq]; rfl
  case hqz16 => exact fun _ _ _ h => h
  case hyz16 =>
    refine Or.inl ⟨by kernel_rfl, fun V hV => ?_⟩
    clear hV
    go_simp
  intro hCz16 hSz16
  clear hCz15 hSz15
  try simp only [Go.Act.put, List.setIfInBounds_toArray, List.set_cons_zero, List.set_cons_succ]
  refine wpAnyS_take (i := 18) (oi := ?oiz17) (v := .int .i64 p.t) ?hiz17 (by kernel_rfl) (by kernel_rfl) (by kernel_rfl) (lateK_iff (by rfl)) ?hqz17 ?hyz17 hCz16 hSz16 ?restz17
  case hiz17 => simp only [List.getElem?_toArray, List.getElem?_cons_succ, List.getElem?_cons_zero, Option.some.injEq]; rfl
  case hqz17 => exact fun _ _ _ h => h
  case hyz17 =>
    refine Or.inl ⟨by kernel_rfl, fun V hV => ?_⟩
    have gV := (lateK_g hV).2.2.1; have z0 := block_cell gV 0 _ rfl; have z1 := block_cell gV 1 _ rfl; have z2 := block_cell gV 2 _ rfl; have z3 := block_cell gV 3 _ rfl; have z4 := block_cell gV 4 _ rfl; have z5 := block_cell gV 5 _ rfl; have z6 := block_cell gV 6 _ rfl; clear gV; clear hV
    go_simp
  intro hCz17 hSz17
  clear hCz16 hSz16
  try simp only [Go.Act.put, List.setIfInBounds_toArray, List.set_cons_zero, List.set_cons_succ]
  refine wpAnyS_take (i := 19) (oi := ?oiz18) (v := .int .i64 (u - p.t)) ?hiz18 (by kernel_rfl) (by kernel_rfl) (by kernel_rfl) (lateK_iff (by rfl)) ?hqz18 ?hyz18 hCz17 hSz17 ?restz18
  case hiz18 => simp only [List.getElem?_toArray, List.getElem?_cons_succ, List.getElem?_cons_zero, Option.some.injEq]; rfl
  case hqz18 => exact fun _ _ _ h => h
  case hyz18 =>
    refine Or.inl ⟨by kernel_rfl, fun V hV => ?_⟩
    clear hV
    go_simp
  intro hCz18 hSz18
  clear hCz17 hSz17
  try simp only [Go.Act.put, List.setIfInBounds_toArray, List.set_cons_zero, List.set_cons_succ]
  refine wpAnyS_take (i := 20) (oi := ?oiz19) (v := .pointer (some ⟨qb, 0, none⟩)) ?hiz19 (by kernel_rfl) (by kernel_rfl) (by kernel_rfl) (lateK_iff (by rfl)) ?hqz19 ?hyz19 hCz18 hSz18 ?restz19
  case hiz19 => simp only [List.getElem?_toArray, List.getElem?_cons_succ, List.getElem?_cons_zero, Option.some.injEq]; rfl
  case hqz19 => exact fun _ _ _ h => h
  case hyz19 =>
    refine Or.inl ⟨by kernel_rfl, fun V hV => ?_⟩
    clear hV
    go_simp
  intro hCz19 hSz19
  clear hCz18 hSz18
  try simp only [Go.Act.put, List.setIfInBounds_toArray, List.set_cons_zero, List.set_cons_succ]
  refine wpAnyS_take (i := 21) (oi := ?oiz20) (v := .int .i64 x.t) ?hiz20 (by kernel_rfl) (by kernel_rfl) (by kernel_rfl) (lateK_iff (by rfl)) ?hqz20 ?hyz20 hCz19 hSz19 ?restz20
  case hiz20 => simp only [List.getElem?_toArray, List.getElem?_cons_succ, List.getElem?_cons_zero, Option.some.injEq]; rfl
  case hqz20 => exact fun _ _ _ h => h
  case hyz20 =>
    refine Or.inl ⟨by kernel_rfl, fun V hV => ?_⟩
    have gV := (lateK_g hV).2.1; have z0 := block_cell gV 0 _ rfl; have z1 := block_cell gV 1 _ rfl; have z2 := block_cell gV 2 _ rfl; have z3 := block_cell gV 3 _ rfl; have z4 := block_cell gV 4 _ rfl; have z5 := block_cell gV 5 _ rfl; have z6 := block_cell gV 6 _ rfl; clear gV; clear hV
    go_simp
  intro hCz20 hSz20
  clear hCz19 hSz19
  try simp only [Go.Act.put, List.setIfInBounds_toArray, List.set_cons_zero, List.set_cons_succ]
  refine wpAnyS_take (i := 22) (oi := ?oiz21) (v := .pointer (some ⟨pb, 0, none⟩)) ?hiz21 (by kernel_rfl) (by kernel_rfl) (by kernel_rfl) (lateK_iff (by rfl)) ?hqz21 ?hyz21 hCz20 hSz20 ?restz21
  case hiz21 => simp only [List.getElem?_toArray, List.getElem?_cons_succ, List.getElem?_cons_zero, Option.some.injEq]; rfl
  case hqz21 => exact fun _ _ _ h => h
  case hyz21 =>
    refine Or.inl ⟨by kernel_rfl, fun V hV => ?_⟩
    clear hV
    go_simp
  intro hCz21 hSz21
  clear hCz20 hSz20
  try simp only [Go.Act.put, List.setIfInBounds_toArray, List.set_cons_zero, List.set_cons_succ]
  refine wpAnyS_take (i := 23) (oi := ?oiz22) (v := .int .i64 p.t) ?hiz22 (by kernel_rfl) (by kernel_rfl) (by kernel_rfl) (lateK_iff (by rfl)) ?hqz22 ?hyz22 hCz21 hSz21 ?restz22
  case hiz22 => simp only [List.getElem?_toArray, List.getElem?_cons_succ, List.getElem?_cons_zero, Option.some.injEq]; rfl
  case hqz22 => exact fun _ _ _ h => h
  case hyz22 =>
    refine Or.inl ⟨by kernel_rfl, fun V hV => ?_⟩
    have gV := (lateK_g hV).2.2.1; have z0 := block_cell gV 0 _ rfl; have z1 := block_cell gV 1 _ rfl; have z2 := block_cell gV 2 _ rfl; have z3 := block_cell gV 3 _ rfl; have z4 := block_cell gV 4 _ rfl; have z5 := block_cell gV 5 _ rfl; have z6 := block_cell gV 6 _ rfl; clear gV; clear hV
    go_simp
  intro hCz22 hSz22
  clear hCz21 hSz21
  try simp only [Go.Act.put, List.setIfInBounds_toArray, List.set_cons_zero, List.set_cons_succ]
  refine wpAnyS_take (i := 24) (oi := ?oiz23) (v := .int .i64 (x.t - p.t)) ?hiz23 (by kernel_rfl) (by kernel_rfl) (by kernel_rfl) (lateK_iff (by rfl)) ?hqz23 ?hyz23 hCz22 hSz22 ?restz23
  case hiz23 => simp only [List.getElem?_toArray, List.getElem?_cons_succ, List.getElem?_cons_zero, Option.some.injEq]; rfl
  case hqz23 => exact fun _ _ _ h => h
  case hyz23 =>
    refine Or.inl ⟨by kernel_rfl, fun V hV => ?_⟩
    clear hV
    go_simp
  intro hCz23 hSz23
  clear hCz22 hSz22
  try simp only [Go.Act.put, List.setIfInBounds_toArray, List.set_cons_zero, List.set_cons_succ]
  refine wpAnyS_ready (rs := [7]) (by kernel_rfl) (by simp) ?_
  refine AllReadyS.cons rfl hCz23 (fun K hK => ?_) AllReadyS.nil
  go_simp
  refine (rfield_is c HC2.out p _).mono ?_
  rintro e w20 ⟨rfl, hg⟩
  replace kF := grown_cell hg kF; replace kt := grown_cell hg kt; replace kz := grown_cell hg kz; replace kQ := Lib.hid (block_at (row := none) kQ.out hg (by simp)); replace kP := Lib.hid (block_at (row := none) kP.out hg (by simp)); replace G1 := Lib.hid (grown_trans G1.out hg); clear hg
  refine hK.out _ _ ⟨kF, kQ.out, kP.out, kt⟩ (fun hCz24 hSz24 => ?_)
  clear hK hCz23 hSz23 K
  try simp only [Go.Act.put, List.setIfInBounds_toArray, List.set_cons_zero, List.set_cons_succ]
  refine wpAnyS_ready (rs := [10]) (by kernel_rfl) (by simp) ?_
  refine AllReadyS.cons rfl hCz24 (fun K hK => ?_) AllReadyS.nil
  go_simp
  refine (rfield_is c HC2.out x _).mono ?_
  rintro e w21 ⟨rfl, hg⟩
  rw [HY.out]
  replace kF := grown_cell hg kF; replace kt := grown_cell hg kt; replace kz := grown_cell hg kz; replace kQ := Lib.hid (block_at (row := none) kQ.out hg (by simp)); replace kP := Lib.hid (block_at (row := none) kP.out hg (by simp)); replace G1 := Lib.hid (grown_trans G1.out hg); clear hg
  refine hK.out _ _ ⟨kF, kQ.out, kP.out, kt⟩ (fun hCz25 hSz25 => ?_)
  clear hK hCz24 hSz24 K
  try simp only [Go.Act.put, List.setIfInBounds_toArray, List.set_cons_zero, List.set_cons_succ]
  refine wpAnyS_ready (rs := [25]) (by kernel_rfl) (by simp) ?_
  refine AllReadyS.cons rfl hCz25 (fun K hK => ?_) AllReadyS.nil
  go_simp
  refine (rbetween_is (smpGet (c + 4) p) y (u - p.t) (x.t - p.t) (by omega) (by omega) (by omega) (by omega) (by omega) (by omega) (by omega) (by omega) _ HB).mono ?_
  rintro e w22 ⟨rfl, hg⟩
  replace kF := grown_cell hg kF; replace kt := grown_cell hg kt; replace kz := grown_cell hg kz; replace kQ := Lib.hid (block_at (row := none) kQ.out hg (by simp)); replace kP := Lib.hid (block_at (row := none) kP.out hg (by simp)); replace G1 := Lib.hid (grown_trans G1.out hg); clear hg
  refine hK.out _ _ ⟨kF, kQ.out, kP.out, kt⟩ (fun hCz26 hSz26 => ?_)
  clear hK hCz25 hSz25 K
  try simp only [Go.Act.put, List.setIfInBounds_toArray, List.set_cons_zero, List.set_cons_succ]
  refine wpAnyS_ready (rs := [26]) (by kernel_rfl) (by simp) ?_
  refine AllReadyS.cons rfl hCz26 (fun K hK => ?_) AllReadyS.nil
  have ff : w22.frozen? ⟨g, m * 7 + (c + 4), none⟩ = false := block_free (block_at HC.out G1.out (by simp))
  go_simp
  refine (rset_is c HC2.out g (m * 7) v _ kz ff).mono ?_
  rintro e w23 ⟨rfl, rfl⟩
  have kF2 : (w22.setCell ⟨g, m * 7 + (c + 4), none⟩ (.int .i64 v)).cell? ⟨fb, 3, none⟩ = some (.slice (some ⟨g, 0, none⟩) n k1) := by rw [World.cell?_setCell_other _ _ _ _ (fun e => by injection e with e; exact nfg e.symm)]; exact kF
  have kt2 : (w22.setCell ⟨g, m * 7 + (c + 4), none⟩ (.int .i64 v)).cell? ⟨g, m * 7, none⟩ = some (.int .i64 u) := by rw [World.cell?_setCell_other _ _ _ _ (fun e => by injection e with _ e; omega)]; exact kt
  clear kF kt kz ff
  refine hK.out _ _ ⟨kF2, blk_far4 kQ.out nqg _ _, blk_far4 kP.out npg _ _, kt2⟩ (fun hCz27 hSz27 => ?_)
  clear hK hCz26 hSz26 K
  try simp only [Go.Act.put, List.setIfInBounds_toArray, List.set_cons_zero, List.set_cons_succ]
  refine wpAnyS_done (by kernel_rfl) ?_ _
  clear hCz27 hSz27
  refine NoPanic.normal ?_
  exact HKK.out _ _ _ _ _ _ _ _ _ _ _ _ _ _ _ _ _ _ _ _ _ _ _ _ _ _ _ _ G1.out
end Go.Proofs.Ytgkhhfojioepgaa
