/- bridge of Fill, for one field: what lies between two samples is filled. -/
import Derived.Test.YtgkhhfojioepgaaTFld
import Derived.Test.YtgkhhfojioepgaaBaseD
import Derived.Test.YtgkhhfojioepgaaBaseE
import Derived.Deep.CutBlock
import Derived.Deep.DeepCutAuto
namespace Go.Proofs.Ytgkhhfojioepgaa
open Go.RowKit
set_option linter.unusedSimpArgs false
set_option linter.unusedVariables false

attribute [local go_sem] Oper.semAt_some
theorem fld4_zero (X : Nat) (w : World) : Calls Try.prog 92 #[.pointer (some ⟨X, 0, none⟩)] w fun e w' => e = .returned (.pointer (some ⟨X, 4, none⟩)) ∧ w' = w := by
  simpa using fld4_is X 0 w
theorem grown_row4 {w W W' : World} {g : Nat} (h : w.grownBy W (some g)) (h' : W.grownBy W' none) : w.grownBy W' (some g) :=
  ⟨h'.os.trans h.os, h'.tape.trans h.tape, h'.output.trans h.output, Nat.le_trans h.size h'.size, fun k hk hne => (h'.block k (Nat.lt_of_lt_of_le hk h.size) (by simp)).trans (h.block k hk hne)⟩
theorem own_fieldN4 {w : World} {base : Nat} {g cap n : Nat} {L : List Smp} (h : w.ownsRow base 28 7 (.slice (some ⟨g, 0, none⟩) n cap) n (smpRw L)) (hl : L.length = n) {k c : Nat} (hk : k < n) (hc : 3 ≤ c ∧ c ≤ 6) (y : Int) :
    (w.setCell ⟨g, k * 7 + c, none⟩ (.int .i64 y)).ownsRow base 28 7 (.slice (some ⟨g, 0, none⟩) n cap) n (smpRw (L.set k (smpSet c (smpD L k) y))) := by
  subst hl
  rw [smpD_at hk]
  exact own_field h hk hc y
theorem grown_some4 {w W : World} {g : Nat} (h : w.grownBy W none) : w.grownBy W (some g) := ⟨h.os, h.tape, h.output, h.size, fun k hk _ => h.block k hk (by simp)⟩
theorem grown_set4 {w W : World} {g : Nat} (h : w.grownBy W (some g)) (k : Nat) (v : Value) : w.grownBy (W.setCell ⟨g, k, none⟩ v) (some g) :=
  ⟨h.os, h.tape, h.output, by have := h.size; simpa [World.setCell] using this, fun i hi hne => (Below.heap_setCell _ _ _ _ (fun e => hne (by rw [e]))).trans (h.block i hi hne)⟩
theorem blk_far4 {W : World} {b b2 : Nat} {o : Obj} (h : W.heap[b]? = some o) (hne : b ≠ b2) (k : Nat) (v : Value) : (W.setCell ⟨b2, k, none⟩ v).heap[b]? = some o := by rw [Below.heap_setCell _ _ _ _ hne]; exact h
theorem brg4_cells {W : World} {base g cap : Nat} {L : List Smp} (h : W.ownsRow base 28 7 (.slice (some ⟨g, 0, none⟩) L.length cap) L.length (smpRw L)) {k : Nat} (hk : k < L.length) {x : Smp} (hx : smpD L k = x) :
    W.cell? ⟨g, k * 7, none⟩ = some (.int .i64 x.t) ∧ W.cell? ⟨g, k * 7 + 1, none⟩ = some (.int .i64 x.x) ∧ W.cell? ⟨g, k * 7 + 2, none⟩ = some (.int .i64 x.y) ∧ W.cell? ⟨g, k * 7 + 3, none⟩ = some (.int .i64 x.z) ∧ W.cell? ⟨g, k * 7 + 4, none⟩ = some (.int .i64 x.p) ∧ W.cell? ⟨g, k * 7 + 5, none⟩ = some (.int .i64 x.q) ∧ W.cell? ⟨g, k * 7 + 6, none⟩ = some (.int .i64 x.s) := by
  obtain ⟨ao, cp, hv, hs, _⟩ := own_smps h
  injection hv with e1 _ _
  have q := hs.cells _ e1.symm k hk
  rw [← smpD_at hk, hx] at q
  simpa only [Nat.zero_add] using q

set_option maxRecDepth 100000 in
set_option maxHeartbeats 3200000 in
theorem brg4_is (base g cap kc : Nat) (A M : List Smp) (HS : Hid (SOk A)) (i j n : Nat) (hij : i < j) (hj : j < A.length) (hn : i + n = j + 1) (hM : Hid (Agr 4 A M j)) (gi : 0 ≤ (smpD A i).p) (gj : 0 ≤ (smpD A j).p) (w : World) (ho : Hid (World.ownsRow w base 28 7 (.slice (some ⟨g, 0, none⟩) M.length cap) M.length (smpRw (M)))) :
    Calls Try.prog 144 #[.slice (some ⟨g, i * 7, none⟩) n kc, .func (.func 90) #[] #[], .func (.func 92) #[] #[]] w fun e w' => e = .returned (.tuple #[]) ∧ Hid (World.ownsRow w' base 28 7 (.slice (some ⟨g, 0, none⟩) M.length cap) M.length (smpRw (brA 4 A M i j (n - 2)))) ∧ w.grownBy w' (some g) := by
  have hml : Hid (M.length = A.length) := hM.out.len
  obtain ⟨p, hp⟩ : ∃ p, smpD M i = p := ⟨_, rfl⟩
  obtain ⟨q, hq⟩ : ∃ q, smpD M j = q := ⟨_, rfl⟩
  have hlen : (A.length : Int) ≤ 20000 := HS.out.len
  have pt : Hid (p.t = (smpD A i).t) := by show _ = _; rw [← hp]; exact hM.out.t i
  have qt : Hid (q.t = (smpD A j).t) := by show _ = _; rw [← hq]; exact hM.out.t j
  have pf : Hid (p.p = (smpD A i).p) := by have := hM.out.f i (.inr gi); rw [hp] at this; exact this
  have qf : Hid (q.p = (smpD A j).p) := by have := hM.out.f j (.inl (Nat.le_refl _)); rw [hq] at this; exact this
  have bp : 0 ≤ p.p ∧ p.p ≤ 3000 := by
    have b := (get_bd HS.out (c := 4) (by unfold Fld; omega) (i := i) (by omega)).2
    have e := pf.out
    have b2 : (smpD A i).p ≤ 3000 := Int.le_trans b (by decide)
    omega
  have bq : 0 ≤ q.p ∧ q.p ≤ 3000 := by
    have b := (get_bd HS.out (c := 4) (by unfold Fld; omega) (i := j) hj).2
    have e := qf.out
    have b2 : (smpD A j).p ≤ 3000 := Int.le_trans b (by decide)
    omega
  have hT : 0 ≤ p.t ∧ p.t < q.t ∧ q.t ≤ 1000000 := by
    have a := (HS.out.inn i (by omega)).1
    have b := times_lt HS.out hij hj
    have c := (HS.out.inn j hj).2.1
    have e1 := pt.out; have e2 := qt.out
    omega
  obtain ⟨c0, c1, c2, c3, c4, c5, c6⟩ := brg4_cells ho.out (k := i) (by have := hml.out; omega) hp
  obtain ⟨d0, d1, d2, d3, d4, d5, d6⟩ := brg4_cells ho.out (k := j) (by have := hml.out; omega) hq
  obtain ⟨m1, hm1⟩ : ∃ m1, n - 1 = m1 := ⟨_, rfl⟩
  have ej : j * 7 = i * 7 + m1 * 7 := by omega
  rw [ej] at d0 d1 d2 d3 d4 d5 d6
  have r1 : IntKind.i64.wrap ((n : Int) - 1) = (m1 : Int) := by rw [show (n : Int) - 1 = (m1 : Int) by omega]; exact IntWalk.i64_in _ (by omega)
  have l1 : (m1 : Int) < (n : Int) := by omega
  have l0 : (0 : Int) < (n : Int) := by omega
  have l2 : (0 : Int) ≤ (m1 : Int) := by omega
  have l3 : ¬ n = 0 := by omega
  have HM1 : Hid (n = m1 + 1 ∧ j = i + m1 ∧ 1 ≤ m1) := by show _ ∧ _ ∧ _; omega
  have HJ := Lib.hid hj
  clear hp hq ej hm1 hij hj hn
  go_enter Try.func144, Try.ntmps144
  go_upto_region 0 with (fail)
  go_cut [6, 7] (fun s6 s7 wx => ∃ X Y, s6 = .pointer (some ⟨X, 0, none⟩) ∧ s7 = .pointer (some ⟨Y, 0, none⟩) ∧ Hid (wx.heap[X]? = some (.cells #[.int .i64 p.t, .int .i64 p.x, .int .i64 p.y, .int .i64 p.z, .int .i64 p.p, .int .i64 p.q, .int .i64 p.s] 28 (0, 0))) ∧ Hid (wx.heap[Y]? = some (.cells #[.int .i64 q.t, .int .i64 q.x, .int .i64 q.y, .int .i64 q.z, .int .i64 q.p, .int .i64 q.q, .int .i64 q.s] 28 (0, 0))) ∧ w.heap.size ≤ X ∧ w.heap.size ≤ Y ∧ w.grownBy wx none)
  case first =>
    clear hM gi gj pt qt pf qf bp bq hT HM1 HJ
    have gd : w.grownBy w.drew none := grown_drewN w none 1
    refine region_late (lateK (fun V => w.grownBy V none) []) (by kernel_rfl) gd (fun hC0 hS0 => ?_)
    have gd := Lib.hid gd
    generalize w.drew = wd at *
    refine wpAnyS_take (i := 0) (oi := ?oi1) (v := .slice (some ⟨g, i * 7, none⟩) n kc) ?hi1 (by kernel_rfl) (by kernel_rfl) (by kernel_rfl) (lateK_iff (by rfl)) ?hq1 ?hy1 hC0 hS0 ?rest1
    case hi1 => simp only [List.getElem?_toArray, List.getElem?_cons_zero, Option.some.injEq]; rfl
    case hq1 => exact fun _ _ _ h => h
    case hy1 =>
      refine Or.inl ⟨by kernel_rfl, fun V hV => ?_⟩
      clear hV
      go_simp
    intro hC1 hS1
    clear hC0 hS0
    try simp only [Go.Act.put, List.setIfInBounds_toArray, List.set_cons_zero, List.set_cons_succ]
    refine wpAnyS_take (i := 1) (oi := ?oi2) (v := .pointer (some ⟨g, i * 7, none⟩)) ?hi2 (by kernel_rfl) (by kernel_rfl) (by kernel_rfl) (lateK_iff (by rfl)) ?hq2 ?hy2 hC1 hS1 ?rest2
    case hi2 => simp only [List.getElem?_toArray, List.getElem?_cons_succ, List.getElem?_cons_zero, Option.some.injEq]; rfl
    case hq2 => exact fun _ _ _ h => h
    case hy2 =>
      refine Or.inl ⟨by kernel_rfl, fun V hV => ?_⟩
      clear hV
      go_simp
    intro hC2 hS2
    clear hC1 hS1
    try simp only [Go.Act.put, List.setIfInBounds_toArray, List.set_cons_zero, List.set_cons_succ]
    refine wpAnyS_take (i := 2) (oi := ?oi3) (v := .agg #[.int .i64 p.t, .int .i64 p.x, .int .i64 p.y, .int .i64 p.z, .int .i64 p.p, .int .i64 p.q, .int .i64 p.s]) ?hi3 (by kernel_rfl) (by kernel_rfl) (by kernel_rfl) (lateK_iff (by rfl)) ?hq3 ?hy3 hC2 hS2 ?rest3
    case hi3 => simp only [List.getElem?_toArray, List.getElem?_cons_succ, List.getElem?_cons_zero, Option.some.injEq]; rfl
    case hq3 => exact fun _ _ _ h => h
    case hy3 =>
      refine Or.inl ⟨by kernel_rfl, fun V hV => ?_⟩
      have gV := lateK_g hV; have z0 := grown_cell gV c0; have z1 := grown_cell gV c1; have z2 := grown_cell gV c2; have z3 := grown_cell gV c3; have z4 := grown_cell gV c4; have z5 := grown_cell gV c5; have z6 := grown_cell gV c6; clear gV; clear hV
      go_simp
    intro hC3 hS3
    clear hC2 hS2
    try simp only [Go.Act.put, List.setIfInBounds_toArray, List.set_cons_zero, List.set_cons_succ]
    refine wpAnyS_take (i := 3) (oi := ?oi4) (v := .slice (some ⟨g, i * 7, none⟩) n kc) ?hi4 (by kernel_rfl) (by kernel_rfl) (by kernel_rfl) (lateK_iff (by rfl)) ?hq4 ?hy4 hC3 hS3 ?rest4
    case hi4 => simp only [List.getElem?_toArray, List.getElem?_cons_succ, List.getElem?_cons_zero, Option.some.injEq]; rfl
    case hq4 => exact fun _ _ _ h => h
    case hy4 =>
      refine Or.inl ⟨by kernel_rfl, fun V hV => ?_⟩
      clear hV
      go_simp
    intro hC4 hS4
    clear hC3 hS3
    try simp only [Go.Act.put, List.setIfInBounds_toArray, List.set_cons_zero, List.set_cons_succ]
    refine wpAnyS_take (i := 4) (oi := ?oi5) (v := .slice (some ⟨g, i * 7, none⟩) n kc) ?hi5 (by kernel_rfl) (by kernel_rfl) (by kernel_rfl) (lateK_iff (by rfl)) ?hq5 ?hy5 hC4 hS4 ?rest5
    case hi5 => simp only [List.getElem?_toArray, List.getElem?_cons_succ, List.getElem?_cons_zero, Option.some.injEq]; rfl
    case hq5 => exact fun _ _ _ h => h
    case hy5 =>
      refine Or.inl ⟨by kernel_rfl, fun V hV => ?_⟩
      clear hV
      go_simp
    intro hC5 hS5
    clear hC4 hS4
    try simp only [Go.Act.put, List.setIfInBounds_toArray, List.set_cons_zero, List.set_cons_succ]
    refine wpAnyS_take (i := 5) (oi := ?oi6) (v := .int .i64 n) ?hi6 (by kernel_rfl) (by kernel_rfl) (by kernel_rfl) (lateK_iff (by rfl)) ?hq6 ?hy6 hC5 hS5 ?rest6
    case hi6 => simp only [List.getElem?_toArray, List.getElem?_cons_succ, List.getElem?_cons_zero, Option.some.injEq]; rfl
    case hq6 => exact fun _ _ _ h => h
    case hy6 =>
      refine Or.inl ⟨by kernel_rfl, fun V hV => ?_⟩
      clear hV
      go_simp
    intro hC6 hS6
    clear hC5 hS5
    try simp only [Go.Act.put, List.setIfInBounds_toArray, List.set_cons_zero, List.set_cons_succ]
    refine wpAnyS_take (i := 6) (oi := ?oi7) (v := .int .i64 m1) ?hi7 (by kernel_rfl) (by kernel_rfl) (by kernel_rfl) (lateK_iff (by rfl)) ?hq7 ?hy7 hC6 hS6 ?rest7
    case hi7 => simp only [List.getElem?_toArray, List.getElem?_cons_succ, List.getElem?_cons_zero, Option.some.injEq]; rfl
    case hq7 => exact fun _ _ _ h => h
    case hy7 =>
      refine Or.inl ⟨by kernel_rfl, fun V hV => ?_⟩
      clear hV
      go_simp
    intro hC7 hS7
    clear hC6 hS6
    try simp only [Go.Act.put, List.setIfInBounds_toArray, List.set_cons_zero, List.set_cons_succ]
    refine wpAnyS_take (i := 7) (oi := ?oi8) (v := .pointer (some ⟨g, i * 7 + m1 * 7, none⟩)) ?hi8 (by kernel_rfl) (by kernel_rfl) (by kernel_rfl) (lateK_iff (by rfl)) ?hq8 ?hy8 hC7 hS7 ?rest8
    case hi8 => simp only [List.getElem?_toArray, List.getElem?_cons_succ, List.getElem?_cons_zero, Option.some.injEq]; rfl
    case hq8 => exact fun _ _ _ h => h
    case hy8 =>
      refine Or.inl ⟨by kernel_rfl, fun V hV => ?_⟩
      clear hV
      go_simp
    intro hC8 hS8
    clear hC7 hS7
    try simp only [Go.Act.put, List.setIfInBounds_toArray, List.set_cons_zero, List.set_cons_succ]
    refine wpAnyS_take (i := 8) (oi := ?oi9) (v := .agg #[.int .i64 q.t, .int .i64 q.x, .int .i64 q.y, .int .i64 q.z, .int .i64 q.p, .int .i64 q.q, .int .i64 q.s]) ?hi9 (by kernel_rfl) (by kernel_rfl) (by kernel_rfl) (lateK_iff (by rfl)) ?hq9 ?hy9 hC8 hS8 ?rest9
    case hi9 => simp only [List.getElem?_toArray, List.getElem?_cons_succ, List.getElem?_cons_zero, Option.some.injEq]; rfl
    case hq9 => exact fun _ _ _ h => h
    case hy9 =>
      refine Or.inl ⟨by kernel_rfl, fun V hV => ?_⟩
      have gV := lateK_g hV; have z0 := grown_cell gV d0; have z1 := grown_cell gV d1; have z2 := grown_cell gV d2; have z3 := grown_cell gV d3; have z4 := grown_cell gV d4; have z5 := grown_cell gV d5; have z6 := grown_cell gV d6; clear gV; clear hV
      go_simp
    intro hC9 hS9
    clear hC8 hS8
    try simp only [Go.Act.put, List.setIfInBounds_toArray, List.set_cons_zero, List.set_cons_succ]
    refine wpAnyS_ready (rs := [9, 10]) (by kernel_rfl) (by simp) ?_
    refine AllReadyS.cons rfl hC9 (fun K hK => ?b9) (AllReadyS.cons rfl hC9 (fun K hK => ?b10) AllReadyS.nil)
    case b9 =>
      go_simp
      obtain ⟨X, hX⟩ : ∃ B, wd.heap.size = B := ⟨_, rfl⟩
      obtain ⟨V1, hV1⟩ : ∃ V, wd.alloc (.cells #[.int .i64 0, .int .i64 0, .int .i64 0, .int .i64 0, .int .i64 0, .int .i64 0, .int .i64 0] 28) = V := ⟨_, rfl⟩
      have B1 : Hid (V1.heap[X]? = some (.cells #[.int .i64 0, .int .i64 0, .int .i64 0, .int .i64 0, .int .i64 0, .int .i64 0, .int .i64 0] 28 (0, 0))) := by show _; rw [← hV1, ← hX]; exact heap_alloc_new _ _
      have G1 : Hid (w.grownBy V1 none) := by show _; rw [← hV1]; exact grown_trans gd.out (World.grownBy_alloc _ _ _)
      have P1 : Hid (w.heap.size ≤ X) := by have := gd.out.size; show _ ≤ _; omega
      rw [hV1, hX]
      clear hV1 hX
      refine hK.out _ _ G1.out (fun hCa1 hSa1 => ?_)
      clear hK K hC9 hS9
      try simp only [Go.Act.put, List.setIfInBounds_toArray, List.set_cons_zero, List.set_cons_succ]
      refine wpAnyS_ready (rs := [10]) (by kernel_rfl) (by simp) ?_
      refine AllReadyS.cons rfl hCa1 (fun K hK => ?_) AllReadyS.nil
      go_simp
      obtain ⟨Y, hY⟩ : ∃ B, V1.heap.size = B := ⟨_, rfl⟩
      obtain ⟨V2, hV2⟩ : ∃ V, V1.alloc (.cells #[.int .i64 0, .int .i64 0, .int .i64 0, .int .i64 0, .int .i64 0, .int .i64 0, .int .i64 0] 28) = V := ⟨_, rfl⟩
      have B2 : Hid (V2.heap[Y]? = some (.cells #[.int .i64 0, .int .i64 0, .int .i64 0, .int .i64 0, .int .i64 0, .int .i64 0, .int .i64 0] 28 (0, 0))) := by show _; rw [← hV2, ← hY]; exact heap_alloc_new _ _
      have NE : Hid (X ≠ Y) := by have := lt_of_block B1.out; show _ ≠ _; omega
      replace B1 : Hid (V2.heap[X]? = some (.cells #[.int .i64 0, .int .i64 0, .int .i64 0, .int .i64 0, .int .i64 0, .int .i64 0, .int .i64 0] 28 (0, 0))) := by show _; rw [← hV2]; exact block_at (row := none) B1.out (World.grownBy_alloc _ _ _) (by simp)
      have P2 : Hid (w.heap.size ≤ Y) := by have := G1.out.size; show _ ≤ _; omega
      replace G1 : Hid (w.grownBy V2 none) := by show _; rw [← hV2]; exact grown_trans G1.out (World.grownBy_alloc _ _ _)
      rw [hV2, hY]
      clear hV2 hY
      refine hK.out _ _ G1.out (fun hCa2 hSa2 => ?_)
      clear hK K hCa1 hSa1
      try simp only [Go.Act.put, List.setIfInBounds_toArray, List.set_cons_zero, List.set_cons_succ]
      refine wpAnyS_ready (rs := [11]) (by kernel_rfl) (by simp) ?_
      refine AllReadyS.cons rfl hCa2 (fun K hK => ?_) AllReadyS.nil
      have z0 := block_cell B1.out 0 _ rfl
      have y0 := block_free (k := 0) B1.out
      have z1 := block_cell B1.out 1 _ rfl
      have y1 := block_free (k := 1) B1.out
      have z2 := block_cell B1.out 2 _ rfl
      have y2 := block_free (k := 2) B1.out
      have z3 := block_cell B1.out 3 _ rfl
      have y3 := block_free (k := 3) B1.out
      have z4 := block_cell B1.out 4 _ rfl
      have y4 := block_free (k := 4) B1.out
      have z5 := block_cell B1.out 5 _ rfl
      have y5 := block_free (k := 5) B1.out
      have z6 := block_cell B1.out 6 _ rfl
      have y6 := block_free (k := 6) B1.out
      go_simp
      obtain ⟨V3, hV⟩ : ∃ V, (((((((V2.setCell ⟨X, 0, none⟩ (.int .i64 p.t)).setCell ⟨X, 1, none⟩ (.int .i64 p.x)).setCell ⟨X, 2, none⟩ (.int .i64 p.y)).setCell ⟨X, 3, none⟩ (.int .i64 p.z)).setCell ⟨X, 4, none⟩ (.int .i64 p.p)).setCell ⟨X, 5, none⟩ (.int .i64 p.q)).setCell ⟨X, 6, none⟩ (.int .i64 p.s)) = V := ⟨_, rfl⟩
      replace B1 : Hid (V3.heap[X]? = some (.cells #[.int .i64 p.t, .int .i64 p.x, .int .i64 p.y, .int .i64 p.z, .int .i64 p.p, .int .i64 p.q, .int .i64 p.s] 28 (0, 0))) := by show _; rw [← hV]; exact (block_set (block_set (block_set (block_set (block_set (block_set (block_set B1.out _) _) _) _) _) _) _)
      replace B2 : Hid (V3.heap[Y]? = some (.cells #[.int .i64 0, .int .i64 0, .int .i64 0, .int .i64 0, .int .i64 0, .int .i64 0, .int .i64 0] 28 (0, 0))) := by show _; rw [← hV]; exact (blk_far4 (blk_far4 (blk_far4 (blk_far4 (blk_far4 (blk_far4 (blk_far4 B2.out (Ne.symm NE.out) _ _) (Ne.symm NE.out) _ _) (Ne.symm NE.out) _ _) (Ne.symm NE.out) _ _) (Ne.symm NE.out) _ _) (Ne.symm NE.out) _ _) (Ne.symm NE.out) _ _)
      replace G1 : Hid (w.grownBy V3 none) := by show _; rw [← hV]; exact (grown_far (grown_far (grown_far (grown_far (grown_far (grown_far (grown_far G1.out P1.out _ _) P1.out _ _) P1.out _ _) P1.out _ _) P1.out _ _) P1.out _ _) P1.out _ _)
      rw [hV]
      clear hV z0 y0 z1 y1 z2 y2 z3 y3 z4 y4 z5 y5 z6 y6
      refine hK.out _ _ G1.out (fun hCa3 hSa3 => ?_)
      clear hK K hCa2 hSa2
      try simp only [Go.Act.put, List.setIfInBounds_toArray, List.set_cons_zero, List.set_cons_succ]
      refine wpAnyS_ready (rs := [12]) (by kernel_rfl) (by simp) ?_
      refine AllReadyS.cons rfl hCa3 (fun K hK => ?_) AllReadyS.nil
      have z0 := block_cell B2.out 0 _ rfl
      have y0 := block_free (k := 0) B2.out
      have z1 := block_cell B2.out 1 _ rfl
      have y1 := block_free (k := 1) B2.out
      have z2 := block_cell B2.out 2 _ rfl
      have y2 := block_free (k := 2) B2.out
      have z3 := block_cell B2.out 3 _ rfl
      have y3 := block_free (k := 3) B2.out
      have z4 := block_cell B2.out 4 _ rfl
      have y4 := block_free (k := 4) B2.out
      have z5 := block_cell B2.out 5 _ rfl
      have y5 := block_free (k := 5) B2.out
      have z6 := block_cell B2.out 6 _ rfl
      have y6 := block_free (k := 6) B2.out
      go_simp
      obtain ⟨V4, hV⟩ : ∃ V, (((((((V3.setCell ⟨Y, 0, none⟩ (.int .i64 q.t)).setCell ⟨Y, 1, none⟩ (.int .i64 q.x)).setCell ⟨Y, 2, none⟩ (.int .i64 q.y)).setCell ⟨Y, 3, none⟩ (.int .i64 q.z)).setCell ⟨Y, 4, none⟩ (.int .i64 q.p)).setCell ⟨Y, 5, none⟩ (.int .i64 q.q)).setCell ⟨Y, 6, none⟩ (.int .i64 q.s)) = V := ⟨_, rfl⟩
      replace B2 : Hid (V4.heap[Y]? = some (.cells #[.int .i64 q.t, .int .i64 q.x, .int .i64 q.y, .int .i64 q.z, .int .i64 q.p, .int .i64 q.q, .int .i64 q.s] 28 (0, 0))) := by show _; rw [← hV]; exact (block_set (block_set (block_set (block_set (block_set (block_set (block_set B2.out _) _) _) _) _) _) _)
      replace B1 : Hid (V4.heap[X]? = some (.cells #[.int .i64 p.t, .int .i64 p.x, .int .i64 p.y, .int .i64 p.z, .int .i64 p.p, .int .i64 p.q, .int .i64 p.s] 28 (0, 0))) := by show _; rw [← hV]; exact (blk_far4 (blk_far4 (blk_far4 (blk_far4 (blk_far4 (blk_far4 (blk_far4 B1.out NE.out _ _) NE.out _ _) NE.out _ _) NE.out _ _) NE.out _ _) NE.out _ _) NE.out _ _)
      replace G1 : Hid (w.grownBy V4 none) := by show _; rw [← hV]; exact (grown_far (grown_far (grown_far (grown_far (grown_far (grown_far (grown_far G1.out P2.out _ _) P2.out _ _) P2.out _ _) P2.out _ _) P2.out _ _) P2.out _ _) P2.out _ _)
      rw [hV]
      clear hV z0 y0 z1 y1 z2 y2 z3 y3 z4 y4 z5 y5 z6 y6
      refine hK.out _ _ G1.out (fun hCa4 hSa4 => ?_)
      clear hK K hCa3 hSa3
      try simp only [Go.Act.put, List.setIfInBounds_toArray, List.set_cons_zero, List.set_cons_succ]
      refine wpAnyS_done (by kernel_rfl) ?_ _
      clear hCa4 hSa4
      go_wp2_with fail
      go_meet
      exact ⟨X, Y, rfl, rfl, B1, B2, P1.out, P2.out, G1.out⟩
    case b10 =>
      go_simp
      obtain ⟨Y, hY⟩ : ∃ B, wd.heap.size = B := ⟨_, rfl⟩
      obtain ⟨V1, hV1⟩ : ∃ V, wd.alloc (.cells #[.int .i64 0, .int .i64 0, .int .i64 0, .int .i64 0, .int .i64 0, .int .i64 0, .int .i64 0] 28) = V := ⟨_, rfl⟩
      have B1 : Hid (V1.heap[Y]? = some (.cells #[.int .i64 0, .int .i64 0, .int .i64 0, .int .i64 0, .int .i64 0, .int .i64 0, .int .i64 0] 28 (0, 0))) := by show _; rw [← hV1, ← hY]; exact heap_alloc_new _ _
      have G1 : Hid (w.grownBy V1 none) := by show _; rw [← hV1]; exact grown_trans gd.out (World.grownBy_alloc _ _ _)
      have P1 : Hid (w.heap.size ≤ Y) := by have := gd.out.size; show _ ≤ _; omega
      rw [hV1, hY]
      clear hV1 hY
      refine hK.out _ _ G1.out (fun hCb1 hSb1 => ?_)
      clear hK K hC9 hS9
      try simp only [Go.Act.put, List.setIfInBounds_toArray, List.set_cons_zero, List.set_cons_succ]
      refine wpAnyS_ready (rs := [9]) (by kernel_rfl) (by simp) ?_
      refine AllReadyS.cons rfl hCb1 (fun K hK => ?_) AllReadyS.nil
      go_simp
      obtain ⟨X, hX⟩ : ∃ B, V1.heap.size = B := ⟨_, rfl⟩
      obtain ⟨V2, hV2⟩ : ∃ V, V1.alloc (.cells #[.int .i64 0, .int .i64 0, .int .i64 0, .int .i64 0, .int .i64 0, .int .i64 0, .int .i64 0] 28) = V := ⟨_, rfl⟩
      have B2 : Hid (V2.heap[X]? = some (.cells #[.int .i64 0, .int .i64 0, .int .i64 0, .int .i64 0, .int .i64 0, .int .i64 0, .int .i64 0] 28 (0, 0))) := by show _; rw [← hV2, ← hX]; exact heap_alloc_new _ _
      have NE : Hid (Y ≠ X) := by have := lt_of_block B1.out; show _ ≠ _; omega
      replace B1 : Hid (V2.heap[Y]? = some (.cells #[.int .i64 0, .int .i64 0, .int .i64 0, .int .i64 0, .int .i64 0, .int .i64 0, .int .i64 0] 28 (0, 0))) := by show _; rw [← hV2]; exact block_at (row := none) B1.out (World.grownBy_alloc _ _ _) (by simp)
      have P2 : Hid (w.heap.size ≤ X) := by have := G1.out.size; show _ ≤ _; omega
      replace G1 : Hid (w.grownBy V2 none) := by show _; rw [← hV2]; exact grown_trans G1.out (World.grownBy_alloc _ _ _)
      rw [hV2, hX]
      clear hV2 hX
      refine hK.out _ _ G1.out (fun hCb2 hSb2 => ?_)
      clear hK K hCb1 hSb1
      try simp only [Go.Act.put, List.setIfInBounds_toArray, List.set_cons_zero, List.set_cons_succ]
      refine wpAnyS_ready (rs := [11]) (by kernel_rfl) (by simp) ?_
      refine AllReadyS.cons rfl hCb2 (fun K hK => ?_) AllReadyS.nil
      have z0 := block_cell B2.out 0 _ rfl
      have y0 := block_free (k := 0) B2.out
      have z1 := block_cell B2.out 1 _ rfl
      have y1 := block_free (k := 1) B2.out
      have z2 := block_cell B2.out 2 _ rfl
      have y2 := block_free (k := 2) B2.out
      have z3 := block_cell B2.out 3 _ rfl
      have y3 := block_free (k := 3) B2.out
      have z4 := block_cell B2.out 4 _ rfl
      have y4 := block_free (k := 4) B2.out
      have z5 := block_cell B2.out 5 _ rfl
      have y5 := block_free (k := 5) B2.out
      have z6 := block_cell B2.out 6 _ rfl
      have y6 := block_free (k := 6) B2.out
      go_simp
      obtain ⟨V3, hV⟩ : ∃ V, (((((((V2.setCell ⟨X, 0, none⟩ (.int .i64 p.t)).setCell ⟨X, 1, none⟩ (.int .i64 p.x)).setCell ⟨X, 2, none⟩ (.int .i64 p.y)).setCell ⟨X, 3, none⟩ (.int .i64 p.z)).setCell ⟨X, 4, none⟩ (.int .i64 p.p)).setCell ⟨X, 5, none⟩ (.int .i64 p.q)).setCell ⟨X, 6, none⟩ (.int .i64 p.s)) = V := ⟨_, rfl⟩
      replace B2 : Hid (V3.heap[X]? = some (.cells #[.int .i64 p.t, .int .i64 p.x, .int .i64 p.y, .int .i64 p.z, .int .i64 p.p, .int .i64 p.q, .int .i64 p.s] 28 (0, 0))) := by show _; rw [← hV]; exact (block_set (block_set (block_set (block_set (block_set (block_set (block_set B2.out _) _) _) _) _) _) _)
      replace B1 : Hid (V3.heap[Y]? = some (.cells #[.int .i64 0, .int .i64 0, .int .i64 0, .int .i64 0, .int .i64 0, .int .i64 0, .int .i64 0] 28 (0, 0))) := by show _; rw [← hV]; exact (blk_far4 (blk_far4 (blk_far4 (blk_far4 (blk_far4 (blk_far4 (blk_far4 B1.out NE.out _ _) NE.out _ _) NE.out _ _) NE.out _ _) NE.out _ _) NE.out _ _) NE.out _ _)
      replace G1 : Hid (w.grownBy V3 none) := by show _; rw [← hV]; exact (grown_far (grown_far (grown_far (grown_far (grown_far (grown_far (grown_far G1.out P2.out _ _) P2.out _ _) P2.out _ _) P2.out _ _) P2.out _ _) P2.out _ _) P2.out _ _)
      rw [hV]
      clear hV z0 y0 z1 y1 z2 y2 z3 y3 z4 y4 z5 y5 z6 y6
      refine hK.out _ _ G1.out (fun hCb3 hSb3 => ?_)
      clear hK K hCb2 hSb2
      try simp only [Go.Act.put, List.setIfInBounds_toArray, List.set_cons_zero, List.set_cons_succ]
      refine wpAnyS_ready (rs := [12]) (by kernel_rfl) (by simp) ?_
      refine AllReadyS.cons rfl hCb3 (fun K hK => ?_) AllReadyS.nil
      have z0 := block_cell B1.out 0 _ rfl
      have y0 := block_free (k := 0) B1.out
      have z1 := block_cell B1.out 1 _ rfl
      have y1 := block_free (k := 1) B1.out
      have z2 := block_cell B1.out 2 _ rfl
      have y2 := block_free (k := 2) B1.out
      have z3 := block_cell B1.out 3 _ rfl
      have y3 := block_free (k := 3) B1.out
      have z4 := block_cell B1.out 4 _ rfl
      have y4 := block_free (k := 4) B1.out
      have z5 := block_cell B1.out 5 _ rfl
      have y5 := block_free (k := 5) B1.out
      have z6 := block_cell B1.out 6 _ rfl
      have y6 := block_free (k := 6) B1.out
      go_simp
      obtain ⟨V4, hV⟩ : ∃ V, (((((((V3.setCell ⟨Y, 0, none⟩ (.int .i64 q.t)).setCell ⟨Y, 1, none⟩ (.int .i64 q.x)).setCell ⟨Y, 2, none⟩ (.int .i64 q.y)).setCell ⟨Y, 3, none⟩ (.int .i64 q.z)).setCell ⟨Y, 4, none⟩ (.int .i64 q.p)).setCell ⟨Y, 5, none⟩ (.int .i64 q.q)).setCell ⟨Y, 6, none⟩ (.int .i64 q.s)) = V := ⟨_, rfl⟩
      replace B1 : Hid (V4.heap[Y]? = some (.cells #[.int .i64 q.t, .int .i64 q.x, .int .i64 q.y, .int .i64 q.z, .int .i64 q.p, .int .i64 q.q, .int .i64 q.s] 28 (0, 0))) := by show _; rw [← hV]; exact (block_set (block_set (block_set (block_set (block_set (block_set (block_set B1.out _) _) _) _) _) _) _)
      replace B2 : Hid (V4.heap[X]? = some (.cells #[.int .i64 p.t, .int .i64 p.x, .int .i64 p.y, .int .i64 p.z, .int .i64 p.p, .int .i64 p.q, .int .i64 p.s] 28 (0, 0))) := by show _; rw [← hV]; exact (blk_far4 (blk_far4 (blk_far4 (blk_far4 (blk_far4 (blk_far4 (blk_far4 B2.out (Ne.symm NE.out) _ _) (Ne.symm NE.out) _ _) (Ne.symm NE.out) _ _) (Ne.symm NE.out) _ _) (Ne.symm NE.out) _ _) (Ne.symm NE.out) _ _) (Ne.symm NE.out) _ _)
      replace G1 : Hid (w.grownBy V4 none) := by show _; rw [← hV]; exact (grown_far (grown_far (grown_far (grown_far (grown_far (grown_far (grown_far G1.out P1.out _ _) P1.out _ _) P1.out _ _) P1.out _ _) P1.out _ _) P1.out _ _) P1.out _ _)
      rw [hV]
      clear hV z0 y0 z1 y1 z2 y2 z3 y3 z4 y4 z5 y5 z6 y6
      refine hK.out _ _ G1.out (fun hCb4 hSb4 => ?_)
      clear hK K hCb3 hSb3
      try simp only [Go.Act.put, List.setIfInBounds_toArray, List.set_cons_zero, List.set_cons_succ]
      refine wpAnyS_done (by kernel_rfl) ?_ _
      clear hCb4 hSb4
      go_wp2_with fail
      go_meet
      exact ⟨X, Y, rfl, rfl, B2, B1, P2.out, P1.out, G1.out⟩
  case rest =>
    obtain ⟨X, Y, rfl, rfl, BX, BY, PX, PY, hG⟩ := hcut
    have HR0 := Lib.hid (ho.out.kept hG (by cases (Value.slice (some ⟨g, 0, none⟩) M.length cap).ownBlock <;> simp))
    have hgb : Hid (g < w.heap.size) := (ho.out.lt g rfl).2
    have HG0 := Lib.hid (grown_some4 (g := g) hG)
    have NX : Hid (X ≠ g) := by have := hgb.out; show _ ≠ _; omega
    have NY : Hid (Y ≠ g) := by have := hgb.out; show _ ≠ _; omega
    clear hG PX PY c0 c1 c2 c3 c4 c5 c6 d0 d1 d2 d3 d4 d5 d6 l0 l1 l2 l3 ho hgb
    go_wp2_with fail
    go_loopw [8] (fun iv wr => ∃ (n1 : Nat), iv = .int .i64 n1 ∧ 1 ≤ n1 ∧ n1 ≤ m1 ∧ Hid (World.ownsRow wr base 28 7 (.slice (some ⟨g, 0, none⟩) M.length cap) M.length (smpRw (brA 4 A M i j (n1 - 1)))) ∧ Hid (wr.heap[X]? = some (.cells #[.int .i64 p.t, .int .i64 p.x, .int .i64 p.y, .int .i64 p.z, .int .i64 p.p, .int .i64 p.q, .int .i64 p.s] 28 (0, 0))) ∧ Hid (wr.heap[Y]? = some (.cells #[.int .i64 q.t, .int .i64 q.x, .int .i64 q.y, .int .i64 q.z, .int .i64 q.p, .int .i64 q.q, .int .i64 q.s] 28 (0, 0))) ∧ Hid (w.grownBy wr (some g))) (fun iv _ => m1 - (intOf iv).toNat)
    case atStart => exact ⟨1, rfl, Nat.le_refl _, HM1.out.2.2, HR0, BX, BY, HG0⟩
    case round =>
      obtain ⟨n1, rfl, hn1, hm, hR, hX, hY, hGr⟩ := hrel
      have hnm := HM1.out; have hjl := HJ.out
      have r1 : IntKind.i64.wrap ((n : Int) - 1) = (m1 : Int) := by rw [show (n : Int) - 1 = (m1 : Int) by omega]; exact IntWalk.i64_in _ (by omega)
      have rn : IntKind.i64.wrap ((n1 : Int) + 1) = ((n1 + 1 : Nat) : Int) := by rw [show (n1 : Int) + 1 = ((n1 + 1 : Nat) : Int) by omega]; exact IntWalk.i64_in _ (by omega)
      by_cases hlt : n1 < m1
      · have hl : (brA 4 A M i j (n1 - 1)).length = M.length := br_len _ _ _ _ _ _
        have hkM : i + n1 < M.length := by have := hml.out; have := HJ.out; omega
        have hR2 : World.ownsRow wr base 28 7 (.slice (some ⟨g, 0, none⟩) (brA 4 A M i j (n1 - 1)).length cap) (brA 4 A M i j (n1 - 1)).length (smpRw (brA 4 A M i j (n1 - 1))) := by rw [hl]; exact hR.out
        obtain ⟨u, hu⟩ : ∃ u, smpD M (i + n1) = u := ⟨_, rfl⟩
        have hu2 : smpD (brA 4 A M i j (n1 - 1)) (i + n1) = u := by
          rw [br_at 4 A M i j (by have := HJ.out; have := hml.out; omega) (n1 - 1) (by omega), if_neg (by omega)]; exact hu
        obtain ⟨c0, c1, c2, c3, c4, c5, c6⟩ := brg4_cells hR2 (k := i + n1) (by omega) hu2
        have ek : (i + n1) * 7 = i * 7 + n1 * 7 := by omega
        rw [ek] at c0 c1 c2 c3 c4 c5 c6
        have ut : u.t = (smpD A (i + n1)).t := by rw [← hu]; exact hM.out.t _
        have hu0 : p.t < u.t ∧ u.t < q.t := by
          have a := times_lt HS.out (i := i) (j := i + n1) (by omega) (by have := HJ.out; omega)
          have b := times_lt HS.out (i := i + n1) (j := j) (by omega) HJ.out
          have e1 := pt.out; have e2 := qt.out
          omega
        obtain ⟨y, hy⟩ : ∃ y, btA 4 A i j (i + n1) = y := ⟨_, rfl⟩
        have HB : Hid (btwV p.p q.p (u.t - p.t) (q.t - p.t) = y) := by
          show _ = _
          rw [← hy, ut, pt.out, qt.out, pf.out, qf.out]; rfl
        have HN : Hid (∀ V : World, wr.grownBy V none → Hid (World.ownsRow (V.setCell ⟨g, i * 7 + n1 * 7 + 4, none⟩ (.int .i64 y)) base 28 7 (.slice (some ⟨g, 0, none⟩) M.length cap) M.length (smpRw (brA 4 A M i j (n1 + 1 - 1))))) := fun V hV => by
          have q := own_fieldN4 (hR.out.kept hV (by cases (Value.slice (some ⟨g, 0, none⟩) M.length cap).ownBlock <;> simp)) hl (k := i + n1) (c := 4) (by omega) ⟨by omega, by omega⟩ y
          rw [ek] at q
          have e : brA 4 A M i j (n1 + 1 - 1) = (brA 4 A M i j (n1 - 1)).set (i + n1) (smpSet 4 (smpD (brA 4 A M i j (n1 - 1)) (i + n1)) y) := by
            obtain ⟨z, rfl⟩ : ∃ z, n1 = z + 1 := ⟨n1 - 1, by omega⟩
            show brA 4 A M i j (z + 1) = _
            rw [brA, show i + 1 + z = i + (z + 1) by omega, hy]
            rfl
          show World.ownsRow _ _ _ _ _ _ _
          rw [e]; exact q
        obtain ⟨cur, hcur⟩ := own_head hR.out
        have HC := Lib.hid hcur
        have r2 : IntKind.i64.wrap (u.t - p.t) = u.t - p.t := IntWalk.i64_in _ (by omega)
        have r3 : IntKind.i64.wrap (q.t - p.t) = q.t - p.t := IntWalk.i64_in _ (by omega)
        have l1 : (n1 : Int) < (n : Int) := by omega
        have l2 : (0 : Int) ≤ (n1 : Int) := by omega
        have l4 : (n1 : Int) < (m1 : Int) := by omega
        have l5 : n1 < n := by omega
        have HLT := Lib.hid hlt
        clear hl hkM hR2 hu hu2 ek ut hy hcur hR hnm hjl
        go_upto_region 4 with (fail)
        have gd : wr.grownBy wr.drew none := grown_drewN wr none 1
        have k0 := grown_cell gd c0; have k1 := grown_cell gd c1; have k2 := grown_cell gd c2; have k3 := grown_cell gd c3; have k4 := grown_cell gd c4; have k5 := grown_cell gd c5; have k6 := grown_cell gd c6
        have BX1 : Hid (wr.drew.heap[X]? = some (.cells #[.int .i64 p.t, .int .i64 p.x, .int .i64 p.y, .int .i64 p.z, .int .i64 p.p, .int .i64 p.q, .int .i64 p.s] 28 (0, 0))) := block_at hX.out gd (by simp)
        have BY1 : Hid (wr.drew.heap[Y]? = some (.cells #[.int .i64 q.t, .int .i64 q.x, .int .i64 q.y, .int .i64 q.z, .int .i64 q.p, .int .i64 q.q, .int .i64 q.s] 28 (0, 0))) := block_at hY.out gd (by simp)
        have G1 := Lib.hid gd
        clear c0 c1 c2 c3 c4 c5 c6 gd
        refine region_late (lateK (fun V => V.heap[X]? = some (.cells #[.int .i64 p.t, .int .i64 p.x, .int .i64 p.y, .int .i64 p.z, .int .i64 p.p, .int .i64 p.q, .int .i64 p.s] 28 (0, 0)) ∧ V.heap[Y]? = some (.cells #[.int .i64 q.t, .int .i64 q.x, .int .i64 q.y, .int .i64 q.z, .int .i64 q.p, .int .i64 q.q, .int .i64 q.s] 28 (0, 0))) [(32, ⟨g, i * 7 + n1 * 7, none⟩, .int .i64 u.t), (32, ⟨g, i * 7 + n1 * 7 + 1, none⟩, .int .i64 u.x), (32, ⟨g, i * 7 + n1 * 7 + 2, none⟩, .int .i64 u.y), (32, ⟨g, i * 7 + n1 * 7 + 3, none⟩, .int .i64 u.z), (32, ⟨g, i * 7 + n1 * 7 + 4, none⟩, .int .i64 u.p), (32, ⟨g, i * 7 + n1 * 7 + 5, none⟩, .int .i64 u.q), (32, ⟨g, i * 7 + n1 * 7 + 6, none⟩, .int .i64 u.s)]) (by kernel_rfl) ⟨fun _ => k0, fun _ => k1, fun _ => k2, fun _ => k3, fun _ => k4, fun _ => k5, fun _ => k6, BX1.out, BY1.out⟩ (fun hCz0 hSz0 => ?_)
        generalize wr.drew = V1 at *
        refine wpAnyS_take (i := 0) (oi := ?oiz1) (v := .func (.func 92) #[] #[]) ?hiz1 (by kernel_rfl) (by kernel_rfl) (by kernel_rfl) (lateK_iff (by rfl)) ?hqz1 ?hyz1 hCz0 hSz0 ?restz1
        case hiz1 => simp only [List.getElem?_toArray, List.getElem?_cons_zero, Option.some.injEq]; rfl
        case hqz1 => exact fun _ _ _ h => h
        case hyz1 =>
          refine Or.inl ⟨by kernel_rfl, fun V hV => ?_⟩
          clear hV
          go_simp
        intro hCz1 hSz1
        clear hCz0 hSz0
        try simp only [Go.Act.put, List.setIfInBounds_toArray, List.set_cons_zero, List.set_cons_succ]
        refine wpAnyS_take (i := 5) (oi := ?oiz2) (v := .func (.func 92) #[] #[]) ?hiz2 (by kernel_rfl) (by kernel_rfl) (by kernel_rfl) (lateK_iff (by rfl)) ?hqz2 ?hyz2 hCz1 hSz1 ?restz2
        case hiz2 => simp only [List.getElem?_toArray, List.getElem?_cons_succ, List.getElem?_cons_zero, Option.some.injEq]; rfl
        case hqz2 => exact fun _ _ _ h => h
        case hyz2 =>
          refine Or.inl ⟨by kernel_rfl, fun V hV => ?_⟩
          clear hV
          go_simp
        intro hCz2 hSz2
        clear hCz1 hSz1
        try simp only [Go.Act.put, List.setIfInBounds_toArray, List.set_cons_zero, List.set_cons_succ]
        refine wpAnyS_take (i := 9) (oi := ?oiz3) (v := .func (.func 92) #[] #[]) ?hiz3 (by kernel_rfl) (by kernel_rfl) (by kernel_rfl) (lateK_iff (by rfl)) ?hqz3 ?hyz3 hCz2 hSz2 ?restz3
        case hiz3 => simp only [List.getElem?_toArray, List.getElem?_cons_succ, List.getElem?_cons_zero, Option.some.injEq]; rfl
        case hqz3 => exact fun _ _ _ h => h
        case hyz3 =>
          refine Or.inl ⟨by kernel_rfl, fun V hV => ?_⟩
          clear hV
          go_simp
        intro hCz3 hSz3
        clear hCz2 hSz2
        try simp only [Go.Act.put, List.setIfInBounds_toArray, List.set_cons_zero, List.set_cons_succ]
        refine wpAnyS_take (i := 13) (oi := ?oiz4) (v := .func (.func 90) #[] #[]) ?hiz4 (by kernel_rfl) (by kernel_rfl) (by kernel_rfl) (lateK_iff (by rfl)) ?hqz4 ?hyz4 hCz3 hSz3 ?restz4
        case hiz4 => simp only [List.getElem?_toArray, List.getElem?_cons_succ, List.getElem?_cons_zero, Option.some.injEq]; rfl
        case hqz4 => exact fun _ _ _ h => h
        case hyz4 =>
          refine Or.inl ⟨by kernel_rfl, fun V hV => ?_⟩
          clear hV
          go_simp
        intro hCz4 hSz4
        clear hCz3 hSz3
        try simp only [Go.Act.put, List.setIfInBounds_toArray, List.set_cons_zero, List.set_cons_succ]
        refine wpAnyS_take (i := 19) (oi := ?oiz5) (v := .func (.func 90) #[] #[]) ?hiz5 (by kernel_rfl) (by kernel_rfl) (by kernel_rfl) (lateK_iff (by rfl)) ?hqz5 ?hyz5 hCz4 hSz4 ?restz5
        case hiz5 => simp only [List.getElem?_toArray, List.getElem?_cons_succ, List.getElem?_cons_zero, Option.some.injEq]; rfl
        case hqz5 => exact fun _ _ _ h => h
        case hyz5 =>
          refine Or.inl ⟨by kernel_rfl, fun V hV => ?_⟩
          clear hV
          go_simp
        intro hCz5 hSz5
        clear hCz4 hSz4
        try simp only [Go.Act.put, List.setIfInBounds_toArray, List.set_cons_zero, List.set_cons_succ]
        refine wpAnyS_take (i := 23) (oi := ?oiz6) (v := .func (.func 90) #[] #[]) ?hiz6 (by kernel_rfl) (by kernel_rfl) (by kernel_rfl) (lateK_iff (by rfl)) ?hqz6 ?hyz6 hCz5 hSz5 ?restz6
        case hiz6 => simp only [List.getElem?_toArray, List.getElem?_cons_succ, List.getElem?_cons_zero, Option.some.injEq]; rfl
        case hqz6 => exact fun _ _ _ h => h
        case hyz6 =>
          refine Or.inl ⟨by kernel_rfl, fun V hV => ?_⟩
          clear hV
          go_simp
        intro hCz6 hSz6
        clear hCz5 hSz5
        try simp only [Go.Act.put, List.setIfInBounds_toArray, List.set_cons_zero, List.set_cons_succ]
        refine wpAnyS_take (i := 26) (oi := ?oiz7) (v := .func (.func 90) #[] #[]) ?hiz7 (by kernel_rfl) (by kernel_rfl) (by kernel_rfl) (lateK_iff (by rfl)) ?hqz7 ?hyz7 hCz6 hSz6 ?restz7
        case hiz7 => simp only [List.getElem?_toArray, List.getElem?_cons_succ, List.getElem?_cons_zero, Option.some.injEq]; rfl
        case hqz7 => exact fun _ _ _ h => h
        case hyz7 =>
          refine Or.inl ⟨by kernel_rfl, fun V hV => ?_⟩
          clear hV
          go_simp
        intro hCz7 hSz7
        clear hCz6 hSz6
        try simp only [Go.Act.put, List.setIfInBounds_toArray, List.set_cons_zero, List.set_cons_succ]
        refine wpAnyS_take (i := 1) (oi := ?oiz8) (v := .slice (some ⟨g, i * 7, none⟩) n kc) ?hiz8 (by kernel_rfl) (by kernel_rfl) (by kernel_rfl) (lateK_iff (by rfl)) ?hqz8 ?hyz8 hCz7 hSz7 ?restz8
        case hiz8 => simp only [List.getElem?_toArray, List.getElem?_cons_succ, List.getElem?_cons_zero, Option.some.injEq]; rfl
        case hqz8 => exact fun _ _ _ h => h
        case hyz8 =>
          refine Or.inl ⟨by kernel_rfl, fun V hV => ?_⟩
          clear hV
          go_simp
        intro hCz8 hSz8
        clear hCz7 hSz7
        try simp only [Go.Act.put, List.setIfInBounds_toArray, List.set_cons_zero, List.set_cons_succ]
        refine wpAnyS_take (i := 2) (oi := ?oiz9) (v := .int .i64 n1) ?hiz9 (by kernel_rfl) (by kernel_rfl) (by kernel_rfl) (lateK_iff (by rfl)) ?hqz9 ?hyz9 hCz8 hSz8 ?restz9
        case hiz9 => simp only [List.getElem?_toArray, List.getElem?_cons_succ, List.getElem?_cons_zero, Option.some.injEq]; rfl
        case hqz9 => exact fun _ _ _ h => h
        case hyz9 =>
          refine Or.inl ⟨by kernel_rfl, fun V hV => ?_⟩
          clear hV
          go_simp
        intro hCz9 hSz9
        clear hCz8 hSz8
        try simp only [Go.Act.put, List.setIfInBounds_toArray, List.set_cons_zero, List.set_cons_succ]
        refine wpAnyS_take (i := 3) (oi := ?oiz10) (v := .pointer (some ⟨g, i * 7 + n1 * 7, none⟩)) ?hiz10 (by kernel_rfl) (by kernel_rfl) (by kernel_rfl) (lateK_iff (by rfl)) ?hqz10 ?hyz10 hCz9 hSz9 ?restz10
        case hiz10 => simp only [List.getElem?_toArray, List.getElem?_cons_succ, List.getElem?_cons_zero, Option.some.injEq]; rfl
        case hqz10 => exact fun _ _ _ h => h
        case hyz10 =>
          refine Or.inl ⟨by kernel_rfl, fun V hV => ?_⟩
          clear hV
          go_simp
        intro hCz10 hSz10
        clear hCz9 hSz9
        try simp only [Go.Act.put, List.setIfInBounds_toArray, List.set_cons_zero, List.set_cons_succ]
        refine wpAnyS_take (i := 14) (oi := ?oiz11) (v := .slice (some ⟨g, i * 7, none⟩) n kc) ?hiz11 (by kernel_rfl) (by kernel_rfl) (by kernel_rfl) (lateK_iff (by rfl)) ?hqz11 ?hyz11 hCz10 hSz10 ?restz11
        case hiz11 => simp only [List.getElem?_toArray, List.getElem?_cons_succ, List.getElem?_cons_zero, Option.some.injEq]; rfl
        case hqz11 => exact fun _ _ _ h => h
        case hyz11 =>
          refine Or.inl ⟨by kernel_rfl, fun V hV => ?_⟩
          clear hV
          go_simp
        intro hCz11 hSz11
        clear hCz10 hSz10
        try simp only [Go.Act.put, List.setIfInBounds_toArray, List.set_cons_zero, List.set_cons_succ]
        refine wpAnyS_take (i := 15) (oi := ?oiz12) (v := .int .i64 n1) ?hiz12 (by kernel_rfl) (by kernel_rfl) (by kernel_rfl) (lateK_iff (by rfl)) ?hqz12 ?hyz12 hCz11 hSz11 ?restz12
        case hiz12 => simp only [List.getElem?_toArray, List.getElem?_cons_succ, List.getElem?_cons_zero, Option.some.injEq]; rfl
        case hqz12 => exact fun _ _ _ h => h
        case hyz12 =>
          refine Or.inl ⟨by kernel_rfl, fun V hV => ?_⟩
          clear hV
          go_simp
        intro hCz12 hSz12
        clear hCz11 hSz11
        try simp only [Go.Act.put, List.setIfInBounds_toArray, List.set_cons_zero, List.set_cons_succ]
        refine wpAnyS_take (i := 16) (oi := ?oiz13) (v := .pointer (some ⟨g, i * 7 + n1 * 7, none⟩)) ?hiz13 (by kernel_rfl) (by kernel_rfl) (by kernel_rfl) (lateK_iff (by rfl)) ?hqz13 ?hyz13 hCz12 hSz12 ?restz13
        case hiz13 => simp only [List.getElem?_toArray, List.getElem?_cons_succ, List.getElem?_cons_zero, Option.some.injEq]; rfl
        case hqz13 => exact fun _ _ _ h => h
        case hyz13 =>
          refine Or.inl ⟨by kernel_rfl, fun V hV => ?_⟩
          clear hV
          go_simp
        intro hCz13 hSz13
        clear hCz12 hSz12
        try simp only [Go.Act.put, List.setIfInBounds_toArray, List.set_cons_zero, List.set_cons_succ]
        refine wpAnyS_take (i := 17) (oi := ?oiz14) (v := .agg #[.int .i64 u.t, .int .i64 u.x, .int .i64 u.y, .int .i64 u.z, .int .i64 u.p, .int .i64 u.q, .int .i64 u.s]) ?hiz14 (by kernel_rfl) (by kernel_rfl) (by kernel_rfl) (lateK_iff (by rfl)) ?hqz14 ?hyz14 hCz13 hSz13 ?restz14
        case hiz14 => simp only [List.getElem?_toArray, List.getElem?_cons_succ, List.getElem?_cons_zero, Option.some.injEq]; rfl
        case hqz14 => exact fun _ _ _ h => h
        case hyz14 =>
          refine Or.inl ⟨by kernel_rfl, fun V hV => ?_⟩
          have z0 := lateK_cell 0 hV rfl rfl (by kernel_rfl); have z1 := lateK_cell 1 hV rfl rfl (by kernel_rfl); have z2 := lateK_cell 2 hV rfl rfl (by kernel_rfl); have z3 := lateK_cell 3 hV rfl rfl (by kernel_rfl); have z4 := lateK_cell 4 hV rfl rfl (by kernel_rfl); have z5 := lateK_cell 5 hV rfl rfl (by kernel_rfl); have z6 := lateK_cell 6 hV rfl rfl (by kernel_rfl); clear hV
          go_simp
        intro hCz14 hSz14
        clear hCz13 hSz13
        try simp only [Go.Act.put, List.setIfInBounds_toArray, List.set_cons_zero, List.set_cons_succ]
        refine wpAnyS_take (i := 20) (oi := ?oiz15) (v := .agg #[.int .i64 p.t, .int .i64 p.x, .int .i64 p.y, .int .i64 p.z, .int .i64 p.p, .int .i64 p.q, .int .i64 p.s]) ?hiz15 (by kernel_rfl) (by kernel_rfl) (by kernel_rfl) (lateK_iff (by rfl)) ?hqz15 ?hyz15 hCz14 hSz14 ?restz15
        case hiz15 => simp only [List.getElem?_toArray, List.getElem?_cons_succ, List.getElem?_cons_zero, Option.some.injEq]; rfl
        case hqz15 => exact fun _ _ _ h => h
        case hyz15 =>
          refine Or.inl ⟨by kernel_rfl, fun V hV => ?_⟩
          have gV := (lateK_g hV).1; have z0 := block_cell gV 0 _ rfl; have z1 := block_cell gV 1 _ rfl; have z2 := block_cell gV 2 _ rfl; have z3 := block_cell gV 3 _ rfl; have z4 := block_cell gV 4 _ rfl; have z5 := block_cell gV 5 _ rfl; have z6 := block_cell gV 6 _ rfl; clear gV; clear hV
          go_simp
        intro hCz15 hSz15
        clear hCz14 hSz14
        try simp only [Go.Act.put, List.setIfInBounds_toArray, List.set_cons_zero, List.set_cons_succ]
        refine wpAnyS_take (i := 24) (oi := ?oiz16) (v := .agg #[.int .i64 q.t, .int .i64 q.x, .int .i64 q.y, .int .i64 q.z, .int .i64 q.p, .int .i64 q.q, .int .i64 q.s]) ?hiz16 (by kernel_rfl) (by kernel_rfl) (by kernel_rfl) (lateK_iff (by rfl)) ?hqz16 ?hyz16 hCz15 hSz15 ?restz16
        case hiz16 => simp only [List.getElem?_toArray, List.getElem?_cons_succ, List.getElem?_cons_zero, Option.some.injEq]; rfl
        case hqz16 => exact fun _ _ _ h => h
        case hyz16 =>
          refine Or.inl ⟨by kernel_rfl, fun V hV => ?_⟩
          have gV := (lateK_g hV).2; have z0 := block_cell gV 0 _ rfl; have z1 := block_cell gV 1 _ rfl; have z2 := block_cell gV 2 _ rfl; have z3 := block_cell gV 3 _ rfl; have z4 := block_cell gV 4 _ rfl; have z5 := block_cell gV 5 _ rfl; have z6 := block_cell gV 6 _ rfl; clear gV; clear hV
          go_simp
        intro hCz16 hSz16
        clear hCz15 hSz15
        try simp only [Go.Act.put, List.setIfInBounds_toArray, List.set_cons_zero, List.set_cons_succ]
        refine wpAnyS_take (i := 27) (oi := ?oiz17) (v := .agg #[.int .i64 p.t, .int .i64 p.x, .int .i64 p.y, .int .i64 p.z, .int .i64 p.p, .int .i64 p.q, .int .i64 p.s]) ?hiz17 (by kernel_rfl) (by kernel_rfl) (by kernel_rfl) (lateK_iff (by rfl)) ?hqz17 ?hyz17 hCz16 hSz16 ?restz17
        case hiz17 => simp only [List.getElem?_toArray, List.getElem?_cons_succ, List.getElem?_cons_zero, Option.some.injEq]; rfl
        case hqz17 => exact fun _ _ _ h => h
        case hyz17 =>
          refine Or.inl ⟨by kernel_rfl, fun V hV => ?_⟩
          have gV := (lateK_g hV).1; have z0 := block_cell gV 0 _ rfl; have z1 := block_cell gV 1 _ rfl; have z2 := block_cell gV 2 _ rfl; have z3 := block_cell gV 3 _ rfl; have z4 := block_cell gV 4 _ rfl; have z5 := block_cell gV 5 _ rfl; have z6 := block_cell gV 6 _ rfl; clear gV; clear hV
          go_simp
        intro hCz17 hSz17
        clear hCz16 hSz16
        try simp only [Go.Act.put, List.setIfInBounds_toArray, List.set_cons_zero, List.set_cons_succ]
        refine wpAnyS_ready (rs := [4]) (by kernel_rfl) (by simp) ?_
        refine AllReadyS.cons rfl hCz17 (fun K hK => ?_) AllReadyS.nil
        go_simp
        refine (fld4_is g (i * 7 + n1 * 7) _).mono ?_
        rintro e w4 ⟨rfl, rfl⟩
        refine hK.out _ _ ⟨fun _ => k0, fun _ => k1, fun _ => k2, fun _ => k3, fun _ => k4, fun _ => k5, fun _ => k6, BX1.out, BY1.out⟩ (fun hCz18 hSz18 => ?_)
        clear hK hCz17 hSz17 K
        try simp only [Go.Act.put, List.setIfInBounds_toArray, List.set_cons_zero, List.set_cons_succ]
        refine wpAnyS_ready (rs := [6]) (by kernel_rfl) (by simp) ?_
        refine AllReadyS.cons rfl hCz18 (fun K hK => ?_) AllReadyS.nil
        go_simp
        refine (fld4_zero X _).mono ?_
        rintro e w4 ⟨rfl, rfl⟩
        refine hK.out _ _ ⟨fun _ => k0, fun _ => k1, fun _ => k2, fun _ => k3, fun _ => k4, fun _ => k5, fun _ => k6, BX1.out, BY1.out⟩ (fun hCz19 hSz19 => ?_)
        clear hK hCz18 hSz18 K
        try simp only [Go.Act.put, List.setIfInBounds_toArray, List.set_cons_zero, List.set_cons_succ]
        refine wpAnyS_take (i := 7) (oi := ?oiz20) (v := .pointer (some ⟨X, 4, none⟩)) ?hiz20 (by kernel_rfl) (by kernel_rfl) (by kernel_rfl) (lateK_iff (by rfl)) ?hqz20 ?hyz20 hCz19 hSz19 ?restz20
        case hiz20 => simp only [List.getElem?_toArray, List.getElem?_cons_succ, List.getElem?_cons_zero, Option.some.injEq]; rfl
        case hqz20 => exact fun _ _ _ h => h
        case hyz20 =>
          refine Or.inl ⟨by kernel_rfl, fun V hV => ?_⟩
          clear hV
          go_simp
        intro hCz20 hSz20
        clear hCz19 hSz19
        try simp only [Go.Act.put, List.setIfInBounds_toArray, List.set_cons_zero, List.set_cons_succ]
        refine wpAnyS_take (i := 8) (oi := ?oiz21) (v := .int .i64 p.p) ?hiz21 (by kernel_rfl) (by kernel_rfl) (by kernel_rfl) (lateK_iff (by rfl)) ?hqz21 ?hyz21 hCz20 hSz20 ?restz21
        case hiz21 => simp only [List.getElem?_toArray, List.getElem?_cons_succ, List.getElem?_cons_zero, Option.some.injEq]; rfl
        case hqz21 => exact fun _ _ _ h => h
        case hyz21 =>
          refine Or.inl ⟨by kernel_rfl, fun V hV => ?_⟩
          have gV := (lateK_g hV).1; have z4 := block_cell gV 4 _ rfl; clear gV; clear hV
          go_simp
        intro hCz21 hSz21
        clear hCz20 hSz20
        try simp only [Go.Act.put, List.setIfInBounds_toArray, List.set_cons_zero, List.set_cons_succ]
        refine wpAnyS_ready (rs := [10]) (by kernel_rfl) (by simp) ?_
        refine AllReadyS.cons rfl hCz21 (fun K hK => ?_) AllReadyS.nil
        go_simp
        refine (fld4_zero Y _).mono ?_
        rintro e w4 ⟨rfl, rfl⟩
        refine hK.out _ _ ⟨fun _ => k0, fun _ => k1, fun _ => k2, fun _ => k3, fun _ => k4, fun _ => k5, fun _ => k6, BX1.out, BY1.out⟩ (fun hCz22 hSz22 => ?_)
        clear hK hCz21 hSz21 K
        try simp only [Go.Act.put, List.setIfInBounds_toArray, List.set_cons_zero, List.set_cons_succ]
        refine wpAnyS_take (i := 11) (oi := ?oiz23) (v := .pointer (some ⟨Y, 4, none⟩)) ?hiz23 (by kernel_rfl) (by kernel_rfl) (by kernel_rfl) (lateK_iff (by rfl)) ?hqz23 ?hyz23 hCz22 hSz22 ?restz23
        case hiz23 => simp only [List.getElem?_toArray, List.getElem?_cons_succ, List.getElem?_cons_zero, Option.some.injEq]; rfl
        case hqz23 => exact fun _ _ _ h => h
        case hyz23 =>
          refine Or.inl ⟨by kernel_rfl, fun V hV => ?_⟩
          clear hV
          go_simp
        intro hCz23 hSz23
        clear hCz22 hSz22
        try simp only [Go.Act.put, List.setIfInBounds_toArray, List.set_cons_zero, List.set_cons_succ]
        refine wpAnyS_take (i := 12) (oi := ?oiz24) (v := .int .i64 q.p) ?hiz24 (by kernel_rfl) (by kernel_rfl) (by kernel_rfl) (lateK_iff (by rfl)) ?hqz24 ?hyz24 hCz23 hSz23 ?restz24
        case hiz24 => simp only [List.getElem?_toArray, List.getElem?_cons_succ, List.getElem?_cons_zero, Option.some.injEq]; rfl
        case hqz24 => exact fun _ _ _ h => h
        case hyz24 =>
          refine Or.inl ⟨by kernel_rfl, fun V hV => ?_⟩
          have gV := (lateK_g hV).2; have z4 := block_cell gV 4 _ rfl; clear gV; clear hV
          go_simp
        intro hCz24 hSz24
        clear hCz23 hSz23
        try simp only [Go.Act.put, List.setIfInBounds_toArray, List.set_cons_zero, List.set_cons_succ]
        refine wpAnyS_ready (rs := [18]) (by kernel_rfl) (by simp) ?_
        refine AllReadyS.cons rfl hCz24 (fun K hK => ?_) AllReadyS.nil
        go_simp
        refine (at_is u _).mono ?_
        rintro e w18 ⟨rfl, hg⟩
        replace k0 := grown_cell hg k0; replace k1 := grown_cell hg k1; replace k2 := grown_cell hg k2; replace k3 := grown_cell hg k3; replace k4 := grown_cell hg k4; replace k5 := grown_cell hg k5; replace k6 := grown_cell hg k6
        replace BX1 := Lib.hid (block_at BX1.out hg (by simp)); replace BY1 := Lib.hid (block_at BY1.out hg (by simp)); replace G1 := Lib.hid (grown_trans G1.out hg); clear hg
        refine hK.out _ _ ⟨fun _ => k0, fun _ => k1, fun _ => k2, fun _ => k3, fun _ => k4, fun _ => k5, fun _ => k6, BX1.out, BY1.out⟩ (fun hCz25 hSz25 => ?_)
        clear hK hCz24 hSz24 K
        try simp only [Go.Act.put, List.setIfInBounds_toArray, List.set_cons_zero, List.set_cons_succ]
        refine wpAnyS_ready (rs := [21]) (by kernel_rfl) (by simp) ?_
        refine AllReadyS.cons rfl hCz25 (fun K hK => ?_) AllReadyS.nil
        go_simp
        refine (at_is p _).mono ?_
        rintro e w21 ⟨rfl, hg⟩
        replace k0 := grown_cell hg k0; replace k1 := grown_cell hg k1; replace k2 := grown_cell hg k2; replace k3 := grown_cell hg k3; replace k4 := grown_cell hg k4; replace k5 := grown_cell hg k5; replace k6 := grown_cell hg k6
        replace BX1 := Lib.hid (block_at BX1.out hg (by simp)); replace BY1 := Lib.hid (block_at BY1.out hg (by simp)); replace G1 := Lib.hid (grown_trans G1.out hg); clear hg
        refine hK.out _ _ ⟨fun _ => k0, fun _ => k1, fun _ => k2, fun _ => k3, fun _ => k4, fun _ => k5, fun _ => k6, BX1.out, BY1.out⟩ (fun hCz26 hSz26 => ?_)
        clear hK hCz25 hSz25 K
        try simp only [Go.Act.put, List.setIfInBounds_toArray, List.set_cons_zero, List.set_cons_succ]
        refine wpAnyS_take (i := 22) (oi := ?oiz27) (v := .int .i64 (u.t - p.t)) ?hiz27 (by kernel_rfl) (by kernel_rfl) (by kernel_rfl) (lateK_iff (by rfl)) ?hqz27 ?hyz27 hCz26 hSz26 ?restz27
        case hiz27 => simp only [List.getElem?_toArray, List.getElem?_cons_succ, List.getElem?_cons_zero, Option.some.injEq]; rfl
        case hqz27 => exact fun _ _ _ h => h
        case hyz27 =>
          refine Or.inl ⟨by kernel_rfl, fun V hV => ?_⟩
          clear hV
          go_simp
        intro hCz27 hSz27
        clear hCz26 hSz26
        try simp only [Go.Act.put, List.setIfInBounds_toArray, List.set_cons_zero, List.set_cons_succ]
        refine wpAnyS_ready (rs := [25]) (by kernel_rfl) (by simp) ?_
        refine AllReadyS.cons rfl hCz27 (fun K hK => ?_) AllReadyS.nil
        go_simp
        refine (at_is q _).mono ?_
        rintro e w25 ⟨rfl, hg⟩
        replace k0 := grown_cell hg k0; replace k1 := grown_cell hg k1; replace k2 := grown_cell hg k2; replace k3 := grown_cell hg k3; replace k4 := grown_cell hg k4; replace k5 := grown_cell hg k5; replace k6 := grown_cell hg k6
        replace BX1 := Lib.hid (block_at BX1.out hg (by simp)); replace BY1 := Lib.hid (block_at BY1.out hg (by simp)); replace G1 := Lib.hid (grown_trans G1.out hg); clear hg
        refine hK.out _ _ ⟨fun _ => k0, fun _ => k1, fun _ => k2, fun _ => k3, fun _ => k4, fun _ => k5, fun _ => k6, BX1.out, BY1.out⟩ (fun hCz28 hSz28 => ?_)
        clear hK hCz27 hSz27 K
        try simp only [Go.Act.put, List.setIfInBounds_toArray, List.set_cons_zero, List.set_cons_succ]
        refine wpAnyS_ready (rs := [28]) (by kernel_rfl) (by simp) ?_
        refine AllReadyS.cons rfl hCz28 (fun K hK => ?_) AllReadyS.nil
        go_simp
        refine (at_is p _).mono ?_
        rintro e w28 ⟨rfl, hg⟩
        replace k0 := grown_cell hg k0; replace k1 := grown_cell hg k1; replace k2 := grown_cell hg k2; replace k3 := grown_cell hg k3; replace k4 := grown_cell hg k4; replace k5 := grown_cell hg k5; replace k6 := grown_cell hg k6
        replace BX1 := Lib.hid (block_at BX1.out hg (by simp)); replace BY1 := Lib.hid (block_at BY1.out hg (by simp)); replace G1 := Lib.hid (grown_trans G1.out hg); clear hg
        refine hK.out _ _ ⟨fun _ => k0, fun _ => k1, fun _ => k2, fun _ => k3, fun _ => k4, fun _ => k5, fun _ => k6, BX1.out, BY1.out⟩ (fun hCz29 hSz29 => ?_)
        clear hK hCz28 hSz28 K
        try simp only [Go.Act.put, List.setIfInBounds_toArray, List.set_cons_zero, List.set_cons_succ]
        refine wpAnyS_take (i := 29) (oi := ?oiz30) (v := .int .i64 (q.t - p.t)) ?hiz30 (by kernel_rfl) (by kernel_rfl) (by kernel_rfl) (lateK_iff (by rfl)) ?hqz30 ?hyz30 hCz29 hSz29 ?restz30
        case hiz30 => simp only [List.getElem?_toArray, List.getElem?_cons_succ, List.getElem?_cons_zero, Option.some.injEq]; rfl
        case hqz30 => exact fun _ _ _ h => h
        case hyz30 =>
          refine Or.inl ⟨by kernel_rfl, fun V hV => ?_⟩
          clear hV
          go_simp
        intro hCz30 hSz30
        clear hCz29 hSz29
        try simp only [Go.Act.put, List.setIfInBounds_toArray, List.set_cons_zero, List.set_cons_succ]
        refine wpAnyS_ready (rs := [30]) (by kernel_rfl) (by simp) ?_
        refine AllReadyS.cons rfl hCz30 (fun K hK => ?_) AllReadyS.nil
        go_simp
        refine (between_is p.p q.p (u.t - p.t) (q.t - p.t) (by omega) (by omega) (by omega) (by omega) (by omega) (by omega) (by omega) (by omega) _ HB).mono ?_
        rintro e w30 ⟨rfl, hg⟩
        replace k0 := grown_cell hg k0; replace k1 := grown_cell hg k1; replace k2 := grown_cell hg k2; replace k3 := grown_cell hg k3; replace k4 := grown_cell hg k4; replace k5 := grown_cell hg k5; replace k6 := grown_cell hg k6
        replace BX1 := Lib.hid (block_at BX1.out hg (by simp)); replace BY1 := Lib.hid (block_at BY1.out hg (by simp)); replace G1 := Lib.hid (grown_trans G1.out hg); clear hg
        refine hK.out _ _ ⟨fun _ => k0, fun _ => k1, fun _ => k2, fun _ => k3, fun _ => k4, fun _ => k5, fun _ => k6, BX1.out, BY1.out⟩ (fun hCz31 hSz31 => ?_)
        clear hK hCz30 hSz30 K
        try simp only [Go.Act.put, List.setIfInBounds_toArray, List.set_cons_zero, List.set_cons_succ]
        refine wpAnyS_take (i := 31) (oi := ?oiz32) (v := .pointer (some ⟨g, i * 7 + n1 * 7 + 4, none⟩)) ?hiz32 (by kernel_rfl) (by kernel_rfl) (by kernel_rfl) (lateK_iff (by rfl)) ?hqz32 ?hyz32 hCz31 hSz31 ?restz32
        case hiz32 => simp only [List.getElem?_toArray, List.getElem?_cons_succ, List.getElem?_cons_zero, Option.some.injEq]; rfl
        case hqz32 => exact fun _ _ _ h => h
        case hyz32 =>
          refine Or.inl ⟨by kernel_rfl, fun V hV => ?_⟩
          clear hV
          go_simp
        intro hCz32 hSz32
        clear hCz31 hSz31
        try simp only [Go.Act.put, List.setIfInBounds_toArray, List.set_cons_zero, List.set_cons_succ]
        refine wpAnyS_ready (rs := [32]) (by kernel_rfl) (by simp) ?_
        refine AllReadyS.cons rfl hCz32 (fun K hK => ?_) AllReadyS.nil
        have f4 : w30.frozen? ⟨g, i * 7 + n1 * 7 + 4, none⟩ = false := block_free (block_at HC.out G1.out (by simp))
        go_simp
        replace BX1 : Hid ((w30.setCell ⟨g, i * 7 + n1 * 7 + 4, none⟩ (.int .i64 y)).heap[X]? = some (.cells #[.int .i64 p.t, .int .i64 p.x, .int .i64 p.y, .int .i64 p.z, .int .i64 p.p, .int .i64 p.q, .int .i64 p.s] 28 (0, 0))) := blk_far4 BX1.out NX.out _ _
        replace BY1 : Hid ((w30.setCell ⟨g, i * 7 + n1 * 7 + 4, none⟩ (.int .i64 y)).heap[Y]? = some (.cells #[.int .i64 q.t, .int .i64 q.x, .int .i64 q.y, .int .i64 q.z, .int .i64 q.p, .int .i64 q.q, .int .i64 q.s] 28 (0, 0))) := blk_far4 BY1.out NY.out _ _
        have HO := Lib.hid (HN.out _ G1.out).out
        have GF : Hid (w.grownBy (w30.setCell ⟨g, i * 7 + n1 * 7 + 4, none⟩ (.int .i64 y)) (some g)) := grown_set4 (grown_row4 hGr.out G1.out) _ _
        clear k0 k1 k2 k3 k4 k5 k6 f4
        refine hK.out _ _ ⟨lateUp (by rfl), lateUp (by rfl), lateUp (by rfl), lateUp (by rfl), lateUp (by rfl), lateUp (by rfl), lateUp (by rfl), BX1.out, BY1.out⟩ (fun hCz33 hSz33 => ?_)
        clear hK hCz32 hSz32 K
        try simp only [Go.Act.put, List.setIfInBounds_toArray, List.set_cons_zero, List.set_cons_succ]
        refine wpAnyS_done (by kernel_rfl) ?_ _
        clear hCz33 hSz33
        generalize w30.setCell ⟨g, i * 7 + n1 * 7 + 4, none⟩ (.int .i64 y) = V9 at *
        go_wp2_with fail
        go_roundw
        case rel => exact ⟨n1 + 1, by go_num, by omega, HLT.out, HO, BX1, BY1, GF⟩
        case measure => have := HLT.out; simp [intOf]; omega
      · obtain rfl : n1 = m1 := by omega
        go_wp2_with fail
        refine bodyPost_end (results_none rfl _ _ _) rfl ?_
        have e : n - 2 = n1 - 1 := by omega
        rw [e]
        exact ⟨rfl, hR, hGr.out⟩
end Go.Proofs.Ytgkhhfojioepgaa
