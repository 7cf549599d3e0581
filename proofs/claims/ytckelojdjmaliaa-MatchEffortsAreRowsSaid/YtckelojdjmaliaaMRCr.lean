/- The contracts of the reference's side, crosses, less and checkBoth. -/
import Derived.Test.YtckelojdjmaliaaMSort
import Derived.Test.YtckelojdjmaliaaTRChk
namespace Go.Proofs.Ytckelojdjmaliaa
open Go.RowKit
set_option linter.unusedSimpArgs false
set_option linter.unusedVariables false

attribute [local go_sem] Oper.semAt_some

theorem rside_is (f t p : Pt) (hf : onP f) (ht : onP t) (hp : onP p) (w : World) {n : Int} (h : Hid (sideV f t p = n)) :
    Calls Try.prog 50 #[.agg #[.int .i64 f.x, .int .i64 f.y], .agg #[.int .i64 t.x, .int .i64 t.y], .agg #[.int .i64 p.x, .int .i64 p.y]] w fun e w' => e = .returned (.int .i64 n) ∧ w.grownBy w' none := by
  obtain ⟨fx, fy⟩ := f
  obtain ⟨tx, ty⟩ := t
  obtain ⟨px, py⟩ := p
  unfold onP at hf ht hp
  simp only at hf ht hp
  have hn : (tx - fx) * (py - fy) - (ty - fy) * (px - fx) = n := h.out
  clear h
  obtain ⟨a, ha⟩ : ∃ d, tx - fx = d := ⟨_, rfl⟩
  obtain ⟨b, hb⟩ : ∃ d, py - fy = d := ⟨_, rfl⟩
  obtain ⟨c, hc⟩ : ∃ d, ty - fy = d := ⟨_, rfl⟩
  obtain ⟨d, hd⟩ : ∃ d, px - fx = d := ⟨_, rfl⟩
  rw [ha, hb, hc, hd] at hn
  have b1 := mul_bdM (a := a) (b := b) (by omega) (by omega) (by omega) (by omega)
  have b2 := mul_bdM (a := c) (b := d) (by omega) (by omega) (by omega) (by omega)
  have ra : IntKind.i64.wrap (tx - fx) = a := by rw [ha]; exact IntWalk.i64_in _ (by omega)
  have rb : IntKind.i64.wrap (py - fy) = b := by rw [hb]; exact IntWalk.i64_in _ (by omega)
  have rc : IntKind.i64.wrap (ty - fy) = c := by rw [hc]; exact IntWalk.i64_in _ (by omega)
  have rd : IntKind.i64.wrap (px - fx) = d := by rw [hd]; exact IntWalk.i64_in _ (by omega)
  obtain ⟨X, hX⟩ : ∃ d, a * b = d := ⟨_, rfl⟩
  obtain ⟨Y, hY⟩ : ∃ e, c * d = e := ⟨_, rfl⟩
  rw [hX, hY] at hn
  rw [hX] at b1; rw [hY] at b2
  have r1 : IntKind.i64.wrap (a * b) = X := by rw [hX]; exact IntWalk.i64_in _ (by omega)
  have r2 : IntKind.i64.wrap (c * d) = Y := by rw [hY]; exact IntWalk.i64_in _ (by omega)
  have r3 : IntKind.i64.wrap (X - Y) = n := by rw [← hn]; exact IntWalk.i64_in _ (by omega)
  clear ha hb hc hd hX hY b1 b2 hn hf ht hp
  go_enter Try.func50, Try.ntmps50
  go_wp2_with fail
  go_ret
  exact ⟨rfl, grown_trans (grown_trans (World.grownBy_alloc _ _ _) (World.grownBy_alloc _ _ _)) (World.grownBy_alloc _ _ _)⟩


set_option maxRecDepth 100000 in
set_option maxHeartbeats 1600000 in
theorem rcrosses_is (g : Gt) (p q : Pt) (hA : onP g.A) (hB : onP g.B) (hp : onP p) (hq : onP q) (w : World) {r : Bool} (h : Hid (crosB g p q = r)) :
    Calls Try.prog 48 #[.agg #[.int .i64 g.ax, .int .i64 g.ay, .int .i64 g.bx, .int .i64 g.by_], .agg #[.int .i64 p.x, .int .i64 p.y], .agg #[.int .i64 q.x, .int .i64 q.y]] w fun e w' => e = .returned (.bool r) ∧ w.grownBy w' none := by
  obtain ⟨ax, ay, bx, by_⟩ := g
  obtain ⟨px, py⟩ := p
  obtain ⟨qx, qy⟩ := q
  have hv := h.out
  unfold crosB metB at hv
  obtain ⟨sP, hsp⟩ : ∃ n, sideV (Gt.A ⟨ax, ay, bx, by_⟩) (Gt.B ⟨ax, ay, bx, by_⟩) ⟨px, py⟩ = n := ⟨_, rfl⟩
  obtain ⟨sQ, hsq⟩ : ∃ n, sideV (Gt.A ⟨ax, ay, bx, by_⟩) (Gt.B ⟨ax, ay, bx, by_⟩) ⟨qx, qy⟩ = n := ⟨_, rfl⟩
  obtain ⟨a, ha⟩ : ∃ n, sideV ⟨px, py⟩ ⟨qx, qy⟩ (Gt.A ⟨ax, ay, bx, by_⟩) = n := ⟨_, rfl⟩
  obtain ⟨b, hb⟩ : ∃ n, sideV ⟨px, py⟩ ⟨qx, qy⟩ (Gt.B ⟨ax, ay, bx, by_⟩) = n := ⟨_, rfl⟩
  rw [hsp, hsq, ha, hb] at hv
  have HAA := Lib.hid ha; have HBB := Lib.hid hb; have HSP := Lib.hid hsp; have HSQ := Lib.hid hsq
  have PA := Lib.hid hA; have PB := Lib.hid hB; have PP := Lib.hid hp; have PQ := Lib.hid hq
  have HV := Lib.hid hv
  clear hA hB hp hq h hv ha hb hsp hsq
  go_enter Try.func48, Try.ntmps48
  go_upto_region 1 with (fail)
  have z0 : (((w.alloc (.cells #[.int .i64 ax, .int .i64 ay, .int .i64 bx, .int .i64 by_] 73)).alloc (.cells #[.int .i64 px, .int .i64 py] 64)).alloc (.cells #[.int .i64 qx, .int .i64 qy] 64)).cell? ⟨w.heap.size, 0, none⟩ = some (.int .i64 ax) := by go_simp
  have z1 : (((w.alloc (.cells #[.int .i64 ax, .int .i64 ay, .int .i64 bx, .int .i64 by_] 73)).alloc (.cells #[.int .i64 px, .int .i64 py] 64)).alloc (.cells #[.int .i64 qx, .int .i64 qy] 64)).cell? ⟨w.heap.size, 1, none⟩ = some (.int .i64 ay) := by go_simp
  have z2 : (((w.alloc (.cells #[.int .i64 ax, .int .i64 ay, .int .i64 bx, .int .i64 by_] 73)).alloc (.cells #[.int .i64 px, .int .i64 py] 64)).alloc (.cells #[.int .i64 qx, .int .i64 qy] 64)).cell? ⟨w.heap.size, 2, none⟩ = some (.int .i64 bx) := by go_simp
  have z3 : (((w.alloc (.cells #[.int .i64 ax, .int .i64 ay, .int .i64 bx, .int .i64 by_] 73)).alloc (.cells #[.int .i64 px, .int .i64 py] 64)).alloc (.cells #[.int .i64 qx, .int .i64 qy] 64)).cell? ⟨w.heap.size, 3, none⟩ = some (.int .i64 by_) := by go_simp
  have z4 : (((w.alloc (.cells #[.int .i64 ax, .int .i64 ay, .int .i64 bx, .int .i64 by_] 73)).alloc (.cells #[.int .i64 px, .int .i64 py] 64)).alloc (.cells #[.int .i64 qx, .int .i64 qy] 64)).cell? ⟨w.heap.size + 1, 0, none⟩ = some (.int .i64 px) := by go_simp
  have z5 : (((w.alloc (.cells #[.int .i64 ax, .int .i64 ay, .int .i64 bx, .int .i64 by_] 73)).alloc (.cells #[.int .i64 px, .int .i64 py] 64)).alloc (.cells #[.int .i64 qx, .int .i64 qy] 64)).cell? ⟨w.heap.size + 1, 1, none⟩ = some (.int .i64 py) := by go_simp
  have z6 : (((w.alloc (.cells #[.int .i64 ax, .int .i64 ay, .int .i64 bx, .int .i64 by_] 73)).alloc (.cells #[.int .i64 px, .int .i64 py] 64)).alloc (.cells #[.int .i64 qx, .int .i64 qy] 64)).cell? ⟨w.heap.size + 1 + 1, 0, none⟩ = some (.int .i64 qx) := by go_simp
  have z7 : (((w.alloc (.cells #[.int .i64 ax, .int .i64 ay, .int .i64 bx, .int .i64 by_] 73)).alloc (.cells #[.int .i64 px, .int .i64 py] 64)).alloc (.cells #[.int .i64 qx, .int .i64 qy] 64)).cell? ⟨w.heap.size + 1 + 1, 1, none⟩ = some (.int .i64 qy) := by go_simp
  have GW : Hid (w.grownBy (((w.alloc (.cells #[.int .i64 ax, .int .i64 ay, .int .i64 bx, .int .i64 by_] 73)).alloc (.cells #[.int .i64 px, .int .i64 py] 64)).alloc (.cells #[.int .i64 qx, .int .i64 qy] 64)) none) := grown_trans (grown_trans (World.grownBy_alloc _ _ _) (World.grownBy_alloc _ _ _)) (World.grownBy_alloc _ _ _)
  generalize (((w.alloc (.cells #[.int .i64 ax, .int .i64 ay, .int .i64 bx, .int .i64 by_] 73)).alloc (.cells #[.int .i64 px, .int .i64 py] 64)).alloc (.cells #[.int .i64 qx, .int .i64 qy] 64)) = W1 at *
  go_wp2_with fail
  refine (rside_is ⟨ax, ay⟩ ⟨bx, by_⟩ ⟨px, py⟩ PA.out PB.out PP.out _ HSP).mono ?_; rintro e w7 ⟨rfl, hg7⟩
  have G1 := Lib.hid (grown_trans GW.out hg7)
  replace z0 := grown_cell hg7 z0; replace z1 := grown_cell hg7 z1; replace z2 := grown_cell hg7 z2; replace z3 := grown_cell hg7 z3; replace z4 := grown_cell hg7 z4; replace z5 := grown_cell hg7 z5; replace z6 := grown_cell hg7 z6; replace z7 := grown_cell hg7 z7
  clear hg7 GW
  by_cases c1 : 0 ≤ sP
  · have d1 : decide (0 ≤ sP) = true := decide_eq_true c1
    obtain rfl : false = r := by have hv := HV.out; rw [← hv]; simp; omega
    go_wp2_with fail
    go_ret
    exact ⟨rfl, G1.out⟩
  · have d1 : decide (0 ≤ sP) = false := decide_eq_false c1
    have HN := Lib.hid c1
    go_wp2_with fail
    refine (rside_is ⟨ax, ay⟩ ⟨bx, by_⟩ ⟨qx, qy⟩ PA.out PB.out PQ.out _ HSQ).mono ?_; rintro e w8 ⟨rfl, hg8⟩
    have G2 := Lib.hid (grown_trans G1.out hg8)
    have y0 := grown_cell hg8 z0; have y1 := grown_cell hg8 z1; have y2 := grown_cell hg8 z2; have y3 := grown_cell hg8 z3; have y4 := grown_cell hg8 z4; have y5 := grown_cell hg8 z5; have y6 := grown_cell hg8 z6; have y7 := grown_cell hg8 z7
    clear hg8 G1 z0 z1 z2 z3 z4 z5 z6 z7
    by_cases c2 : sQ < 0
    · have d2 : decide (sQ < 0) = true := decide_eq_true c2
      obtain rfl : false = r := by have hv := HV.out; rw [← hv]; simp; omega
      go_wp2_with fail
      go_ret
      exact ⟨rfl, G2.out⟩
    · have d2 : decide (sQ < 0) = false := decide_eq_false c2
      have HC : Hid (sP < 0 ∧ 0 ≤ sQ) := by have := HN.out; show _ ∧ _; omega
      clear c1 HN
      go_upto_region 3 with (fail)
      clear c2 d1 d2
      have gW : w8.grownBy w8.drew none := grown_drewN w8 none 1
      refine region_late (lateK (fun V => w8.grownBy V none) []) (by kernel_rfl) gW (fun hCm0 hSm0 => ?_)
      generalize w8.drew = wd at *
      refine wpAnyS_take (i := 0) (oi := ?oim1) (v := .agg #[.int .i64 px, .int .i64 py]) ?him1 (by kernel_rfl) (by kernel_rfl) (by kernel_rfl) (lateK_iff (by rfl)) ?hqm1 ?hym1 hCm0 hSm0 ?restm1
      case him1 => simp only [List.getElem?_toArray, List.getElem?_cons_succ, List.getElem?_cons_zero, Option.some.injEq]; rfl
      case hqm1 => exact fun _ _ _ h => h
      case hym1 =>
        refine Or.inl ⟨by kernel_rfl, fun V hV => ?_⟩
        have gV := lateK_g hV; have x4 := grown_cell gV y4; have x5 := grown_cell gV y5; clear gV; clear hV
        go_simp
      intro hCm1 hSm1
      clear hCm0 hSm0
      try simp only [Go.Act.put, List.setIfInBounds_toArray, List.set_cons_zero, List.set_cons_succ]
      refine wpAnyS_take (i := 1) (oi := ?oim2) (v := .agg #[.int .i64 qx, .int .i64 qy]) ?him2 (by kernel_rfl) (by kernel_rfl) (by kernel_rfl) (lateK_iff (by rfl)) ?hqm2 ?hym2 hCm1 hSm1 ?restm2
      case him2 => simp only [List.getElem?_toArray, List.getElem?_cons_succ, List.getElem?_cons_zero, Option.some.injEq]; rfl
      case hqm2 => exact fun _ _ _ h => h
      case hym2 =>
        refine Or.inl ⟨by kernel_rfl, fun V hV => ?_⟩
        have gV := lateK_g hV; have x6 := grown_cell gV y6; have x7 := grown_cell gV y7; clear gV; clear hV
        go_simp
      intro hCm2 hSm2
      clear hCm1 hSm1
      try simp only [Go.Act.put, List.setIfInBounds_toArray, List.set_cons_zero, List.set_cons_succ]
      refine wpAnyS_take (i := 2) (oi := ?oim3) (v := .pointer (some ⟨w.heap.size, 0, none⟩)) ?him3 (by kernel_rfl) (by kernel_rfl) (by kernel_rfl) (lateK_iff (by rfl)) ?hqm3 ?hym3 hCm2 hSm2 ?restm3
      case him3 => simp only [List.getElem?_toArray, List.getElem?_cons_succ, List.getElem?_cons_zero, Option.some.injEq]; rfl
      case hqm3 => exact fun _ _ _ h => h
      case hym3 =>
        refine Or.inl ⟨by kernel_rfl, fun V hV => ?_⟩
        clear hV
        go_simp
      intro hCm3 hSm3
      clear hCm2 hSm2
      try simp only [Go.Act.put, List.setIfInBounds_toArray, List.set_cons_zero, List.set_cons_succ]
      refine wpAnyS_take (i := 3) (oi := ?oim4) (v := .agg #[.int .i64 ax, .int .i64 ay]) ?him4 (by kernel_rfl) (by kernel_rfl) (by kernel_rfl) (lateK_iff (by rfl)) ?hqm4 ?hym4 hCm3 hSm3 ?restm4
      case him4 => simp only [List.getElem?_toArray, List.getElem?_cons_succ, List.getElem?_cons_zero, Option.some.injEq]; rfl
      case hqm4 => exact fun _ _ _ h => h
      case hym4 =>
        refine Or.inl ⟨by kernel_rfl, fun V hV => ?_⟩
        have gV := lateK_g hV; have x0 := grown_cell gV y0; have x1 := grown_cell gV y1; clear gV; clear hV
        go_simp
      intro hCm4 hSm4
      clear hCm3 hSm3
      try simp only [Go.Act.put, List.setIfInBounds_toArray, List.set_cons_zero, List.set_cons_succ]
      refine wpAnyS_take (i := 5) (oi := ?oim5) (v := .agg #[.int .i64 px, .int .i64 py]) ?him5 (by kernel_rfl) (by kernel_rfl) (by kernel_rfl) (lateK_iff (by rfl)) ?hqm5 ?hym5 hCm4 hSm4 ?restm5
      case him5 => simp only [List.getElem?_toArray, List.getElem?_cons_succ, List.getElem?_cons_zero, Option.some.injEq]; rfl
      case hqm5 => exact fun _ _ _ h => h
      case hym5 =>
        refine Or.inl ⟨by kernel_rfl, fun V hV => ?_⟩
        have gV := lateK_g hV; have x4 := grown_cell gV y4; have x5 := grown_cell gV y5; clear gV; clear hV
        go_simp
      intro hCm5 hSm5
      clear hCm4 hSm4
      try simp only [Go.Act.put, List.setIfInBounds_toArray, List.set_cons_zero, List.set_cons_succ]
      refine wpAnyS_take (i := 6) (oi := ?oim6) (v := .agg #[.int .i64 qx, .int .i64 qy]) ?him6 (by kernel_rfl) (by kernel_rfl) (by kernel_rfl) (lateK_iff (by rfl)) ?hqm6 ?hym6 hCm5 hSm5 ?restm6
      case him6 => simp only [List.getElem?_toArray, List.getElem?_cons_succ, List.getElem?_cons_zero, Option.some.injEq]; rfl
      case hqm6 => exact fun _ _ _ h => h
      case hym6 =>
        refine Or.inl ⟨by kernel_rfl, fun V hV => ?_⟩
        have gV := lateK_g hV; have x6 := grown_cell gV y6; have x7 := grown_cell gV y7; clear gV; clear hV
        go_simp
      intro hCm6 hSm6
      clear hCm5 hSm5
      try simp only [Go.Act.put, List.setIfInBounds_toArray, List.set_cons_zero, List.set_cons_succ]
      refine wpAnyS_take (i := 7) (oi := ?oim7) (v := .pointer (some ⟨w.heap.size, 2, none⟩)) ?him7 (by kernel_rfl) (by kernel_rfl) (by kernel_rfl) (lateK_iff (by rfl)) ?hqm7 ?hym7 hCm6 hSm6 ?restm7
      case him7 => simp only [List.getElem?_toArray, List.getElem?_cons_succ, List.getElem?_cons_zero, Option.some.injEq]; rfl
      case hqm7 => exact fun _ _ _ h => h
      case hym7 =>
        refine Or.inl ⟨by kernel_rfl, fun V hV => ?_⟩
        clear hV
        go_simp
      intro hCm7 hSm7
      clear hCm6 hSm6
      try simp only [Go.Act.put, List.setIfInBounds_toArray, List.set_cons_zero, List.set_cons_succ]
      refine wpAnyS_take (i := 8) (oi := ?oim8) (v := .agg #[.int .i64 bx, .int .i64 by_]) ?him8 (by kernel_rfl) (by kernel_rfl) (by kernel_rfl) (lateK_iff (by rfl)) ?hqm8 ?hym8 hCm7 hSm7 ?restm8
      case him8 => simp only [List.getElem?_toArray, List.getElem?_cons_succ, List.getElem?_cons_zero, Option.some.injEq]; rfl
      case hqm8 => exact fun _ _ _ h => h
      case hym8 =>
        refine Or.inl ⟨by kernel_rfl, fun V hV => ?_⟩
        have gV := lateK_g hV; have x2 := grown_cell gV y2; have x3 := grown_cell gV y3; clear gV; clear hV
        go_simp
      intro hCm8 hSm8
      clear hCm7 hSm7
      try simp only [Go.Act.put, List.setIfInBounds_toArray, List.set_cons_zero, List.set_cons_succ]
      refine wpAnyS_ready (rs := [4]) (by kernel_rfl) (by simp) ?_
      refine AllReadyS.cons rfl hCm8 (fun K hK => ?_) AllReadyS.nil
      go_simp
      refine (rside_is ⟨px, py⟩ ⟨qx, qy⟩ ⟨ax, ay⟩ PP.out PQ.out PA.out _ HAA).mono ?_; rintro e w9 ⟨rfl, hg9⟩
      refine hK.out _ _ (grown_trans gW hg9) (fun hCm9 hSm9 => ?_)
      clear hK hCm8 hSm8 K
      try simp only [Go.Act.put, List.setIfInBounds_toArray, List.set_cons_zero, List.set_cons_succ]
      refine wpAnyS_ready (rs := [9]) (by kernel_rfl) (by simp) ?_
      refine AllReadyS.cons rfl hCm9 (fun K hK => ?_) AllReadyS.nil
      go_simp
      refine (rside_is ⟨px, py⟩ ⟨qx, qy⟩ ⟨bx, by_⟩ PP.out PQ.out PB.out _ HBB).mono ?_; rintro e w10 ⟨rfl, hg10⟩
      refine hK.out _ _ (grown_trans (grown_trans gW hg9) hg10) (fun hCm10 hSm10 => ?_)
      clear hK hCm9 hSm9 K
      try simp only [Go.Act.put, List.setIfInBounds_toArray, List.set_cons_zero, List.set_cons_succ]
      refine wpAnyS_take (i := 10) (oi := ?oim11) (v := .int .i64 a) ?him11 (by kernel_rfl) (by kernel_rfl) (by kernel_rfl) (lateK_iff (by rfl)) ?hqm11 ?hym11 hCm10 hSm10 ?restm11
      case him11 => simp only [List.getElem?_toArray, List.getElem?_cons_succ, List.getElem?_cons_zero, Option.some.injEq]; rfl
      case hqm11 => exact fun _ _ _ h => h
      case hym11 =>
        refine Or.inl ⟨by kernel_rfl, fun V hV => ?_⟩
        clear hV
        go_simp
      intro hCm11 hSm11
      clear hCm10 hSm10
      try simp only [Go.Act.put, List.setIfInBounds_toArray, List.set_cons_zero, List.set_cons_succ]
      refine wpAnyS_take (i := 11) (oi := ?oim12) (v := .int .i64 b) ?him12 (by kernel_rfl) (by kernel_rfl) (by kernel_rfl) (lateK_iff (by rfl)) ?hqm12 ?hym12 hCm11 hSm11 ?restm12
      case him12 => simp only [List.getElem?_toArray, List.getElem?_cons_succ, List.getElem?_cons_zero, Option.some.injEq]; rfl
      case hqm12 => exact fun _ _ _ h => h
      case hym12 =>
        refine Or.inl ⟨by kernel_rfl, fun V hV => ?_⟩
        clear hV
        go_simp
      intro hCm12 hSm12
      clear hCm11 hSm11
      try simp only [Go.Act.put, List.setIfInBounds_toArray, List.set_cons_zero, List.set_cons_succ]
      refine wpAnyS_done (by kernel_rfl) ?_ _
      clear hCm12 hSm12
      have HG9 := Lib.hid (grown_trans G2.out (grown_trans (grown_trans gW hg9) hg10))
      clear y0 y1 y2 y3 y4 y5 y6 y7 gW hg9 hg10 G2
      have hv := HV.out
      rcases (by omega : 0 < a ∨ a < 0 ∨ a = 0) with o1 | o1 | o1
      · have e1 : decide (0 < a) = true := decide_eq_true (by omega)
        have e2 : decide (a < 0) = false := decide_eq_false (by omega)
        by_cases o2 : 0 < b
        · have e3 : decide (0 < b) = true := decide_eq_true (by omega)
          obtain rfl : false = r := by have hc := HC.out; rw [← hv]; simp; omega
          clear hv o1 o2
          go_wp2_with fail
          go_ret
          exact ⟨rfl, HG9.out⟩
        · have e3 : decide (0 < b) = false := decide_eq_false (by omega)
          obtain rfl : true = r := by have hc := HC.out; rw [← hv]; simp; omega
          clear hv o1 o2
          go_wp2_with fail
          go_ret
          exact ⟨rfl, HG9.out⟩
      · have e1 : decide (0 < a) = false := decide_eq_false (by omega)
        have e2 : decide (a < 0) = true := decide_eq_true (by omega)
        by_cases o2 : b < 0
        · have e3 : decide (b < 0) = true := decide_eq_true (by omega)
          obtain rfl : false = r := by have hc := HC.out; rw [← hv]; simp; omega
          clear hv o1 o2
          go_wp2_with fail
          go_ret
          exact ⟨rfl, HG9.out⟩
        · have e3 : decide (b < 0) = false := decide_eq_false (by omega)
          obtain rfl : true = r := by have hc := HC.out; rw [← hv]; simp; omega
          clear hv o1 o2
          go_wp2_with fail
          go_ret
          exact ⟨rfl, HG9.out⟩
      · have e1 : decide (0 < a) = false := decide_eq_false (by omega)
        have e2 : decide (a < 0) = false := decide_eq_false (by omega)
        obtain rfl : true = r := by have hc := HC.out; rw [← hv]; simp; omega
        clear hv o1
        go_wp2_with fail
        go_ret
        exact ⟨rfl, HG9.out⟩
end Go.Proofs.Ytckelojdjmaliaa
