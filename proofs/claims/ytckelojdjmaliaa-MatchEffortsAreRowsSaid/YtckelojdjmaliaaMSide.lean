/- The contracts of placeOf, sideOf and isMet. -/
import Derived.Test.YtckelojdjmaliaaMPlane
import Derived.Test.YtckelojdjmaliaaBaseA
import Derived.Test.YtckelojdjmaliaaTLate
namespace Go.Proofs.Ytckelojdjmaliaa
open Go.RowKit
set_option linter.unusedSimpArgs false
set_option linter.unusedVariables false

attribute [local go_sem] Oper.semAt_some

def sideV (f t p : Pt) : Int := (t.x - f.x) * (p.y - f.y) - (t.y - f.y) * (p.x - f.x)
theorem mul_bdM {a b : Int} (a0 : -200000000 ≤ a) (a1 : a ≤ 200000000) (b0 : -200000000 ≤ b) (b1 : b ≤ 200000000) : -40000000000000000 ≤ a * b ∧ a * b ≤ 40000000000000000 := by
  have h : (a * b).natAbs ≤ 200000000 * 200000000 := by rw [Int.natAbs_mul]; exact Nat.mul_le_mul (by omega) (by omega)
  omega
theorem sideV_bd {f t p : Pt} (hf : onP f) (ht : onP t) (hp : onP p) : -80000000000000000 ≤ sideV f t p ∧ sideV f t p ≤ 80000000000000000 := by
  unfold onP at *
  have h1 := mul_bdM (a := t.x - f.x) (b := p.y - f.y) (by omega) (by omega) (by omega) (by omega)
  have h2 := mul_bdM (a := t.y - f.y) (b := p.x - f.x) (by omega) (by omega) (by omega) (by omega)
  unfold sideV; omega
def Gt.A (g : Gt) : Pt := ⟨g.ax, g.ay⟩
def Gt.B (g : Gt) : Pt := ⟨g.bx, g.by_⟩
def metB (g : Gt) (p q : Pt) : Bool := decide (min (sideV p q g.A) (sideV p q g.B) ≤ 0) && decide (0 ≤ max (sideV p q g.A) (sideV p q g.B))
def smpPt (s : Smp) : Pt := ⟨s.x, s.y⟩

theorem placeOf_is (s : Smp) (w : World) : Calls Try.prog 45 #[.agg #[.int .i64 s.t, .int .i64 s.x, .int .i64 s.y, .int .i64 s.z, .int .i64 s.p, .int .i64 s.q, .int .i64 s.s]] w fun e w' => e = .returned (.agg #[.int .i64 s.x, .int .i64 s.y]) ∧ w.grownBy w' none := by
  obtain ⟨t, x, y, z, p, q, s⟩ := s
  go_enter Try.func45, Try.ntmps45
  go_wp2_with fail
  have c0 : ((w.alloc (.cells #[.int .i64 t, .int .i64 x, .int .i64 y, .int .i64 z, .int .i64 p, .int .i64 q, .int .i64 s] 79)).alloc (.cells #[.int .i64 x, .int .i64 y] 64)).cell? ⟨w.heap.size + 1, 0, none⟩ = some (.int .i64 x) := by go_simp
  have c1 : ((w.alloc (.cells #[.int .i64 t, .int .i64 x, .int .i64 y, .int .i64 z, .int .i64 p, .int .i64 q, .int .i64 s] 79)).alloc (.cells #[.int .i64 x, .int .i64 y] 64)).cell? ⟨w.heap.size + 1, 1, none⟩ = some (.int .i64 y) := by go_simp
  have g1 : w.grownBy ((w.alloc (.cells #[.int .i64 t, .int .i64 x, .int .i64 y, .int .i64 z, .int .i64 p, .int .i64 q, .int .i64 s] 79)).alloc (.cells #[.int .i64 x, .int .i64 y] 64)) none := grown_trans (World.grownBy_alloc _ _ _) (World.grownBy_alloc _ _ _)
  generalize ((w.alloc (.cells #[.int .i64 t, .int .i64 x, .int .i64 y, .int .i64 z, .int .i64 p, .int .i64 q, .int .i64 s] 79)).alloc (.cells #[.int .i64 x, .int .i64 y] 64)) = W1 at *
  refine bodyPost_ret (v := .agg #[.int .i64 x, .int .i64 y]) (by simp [results, Try.results45, go_sem, c0, c1]) rfl ⟨rfl, g1⟩

theorem sideOf_is (f t p : Pt) (hf : onP f) (ht : onP t) (hp : onP p) (w : World) {n : Int} (h : Hid (sideV f t p = n)) :
    Calls Try.prog 75 #[.agg #[.int .i64 f.x, .int .i64 f.y], .agg #[.int .i64 t.x, .int .i64 t.y], .agg #[.int .i64 p.x, .int .i64 p.y]] w fun e w' => e = .returned (.int .i64 n) ∧ w.grownBy w' none := by
  obtain ⟨fx, fy⟩ := f
  obtain ⟨tx, ty⟩ := t
  obtain ⟨px, py⟩ := p
  unfold onP at hf ht hp
  simp only at hf ht hp
  have hn : (tx - fx) * (py - fy) - (ty - fy) * (px - fx) = n := h.out
  clear h
  obtain ⟨a, ha⟩ : ∃ d, tx - fx = d := ⟨_, rfl⟩
  obtain ⟨b, hb⟩ : ∃ d, py - fy = d := ⟨_, rfl⟩
  obtain ⟨c, hc⟩ : ∃ d, ty - fy = d := ⟨_, rfl⟩
  obtain ⟨d, hd⟩ : ∃ d, px - fx = d := ⟨_, rfl⟩
  rw [ha, hb, hc, hd] at hn
  have b1 := mul_bdM (a := a) (b := b) (by omega) (by omega) (by omega) (by omega)
  have b2 := mul_bdM (a := c) (b := d) (by omega) (by omega) (by omega) (by omega)
  have ra : IntKind.i64.wrap (tx - fx) = a := by rw [ha]; exact IntWalk.i64_in _ (by omega)
  have rb : IntKind.i64.wrap (py - fy) = b := by rw [hb]; exact IntWalk.i64_in _ (by omega)
  have rc : IntKind.i64.wrap (ty - fy) = c := by rw [hc]; exact IntWalk.i64_in _ (by omega)
  have rd : IntKind.i64.wrap (px - fx) = d := by rw [hd]; exact IntWalk.i64_in _ (by omega)
  obtain ⟨X, hX⟩ : ∃ d, a * b = d := ⟨_, rfl⟩
  obtain ⟨Y, hY⟩ : ∃ e, c * d = e := ⟨_, rfl⟩
  rw [hX, hY] at hn
  rw [hX] at b1; rw [hY] at b2
  have r1 : IntKind.i64.wrap (a * b) = X := by rw [hX]; exact IntWalk.i64_in _ (by omega)
  have r2 : IntKind.i64.wrap (c * d) = Y := by rw [hY]; exact IntWalk.i64_in _ (by omega)
  have r3 : IntKind.i64.wrap (X - Y) = n := by rw [← hn]; exact IntWalk.i64_in _ (by omega)
  clear ha hb hc hd hX hY b1 b2 hn hf ht hp
  go_enter Try.func75, Try.ntmps75
  go_wp2_with fail
  go_ret
  exact ⟨rfl, grown_trans (grown_trans (World.grownBy_alloc _ _ _) (World.grownBy_alloc _ _ _)) (World.grownBy_alloc _ _ _)⟩

set_option maxRecDepth 100000 in
set_option maxHeartbeats 3200000 in
theorem isMet_is (g : Gt) (p q : Pt) (hA : onP g.A) (hB : onP g.B) (hp : onP p) (hq : onP q) (w : World) {r : Bool} (h : Hid (metB g p q = r)) :
    Calls Try.prog 76 #[.agg #[.int .i64 g.ax, .int .i64 g.ay, .int .i64 g.bx, .int .i64 g.by_], .agg #[.int .i64 p.x, .int .i64 p.y], .agg #[.int .i64 q.x, .int .i64 q.y]] w fun e w' => e = .returned (.bool r) ∧ w.grownBy w' none := by
  obtain ⟨ax, ay, bx, by_⟩ := g
  obtain ⟨px, py⟩ := p
  obtain ⟨qx, qy⟩ := q
  have hv := h.out
  unfold metB at hv
  obtain ⟨a, ha⟩ : ∃ n, sideV ⟨px, py⟩ ⟨qx, qy⟩ (Gt.A ⟨ax, ay, bx, by_⟩) = n := ⟨_, rfl⟩
  obtain ⟨b, hb⟩ : ∃ n, sideV ⟨px, py⟩ ⟨qx, qy⟩ (Gt.B ⟨ax, ay, bx, by_⟩) = n := ⟨_, rfl⟩
  rw [ha, hb] at hv
  have HAA := Lib.hid ha; have HBB := Lib.hid hb
  have PA := Lib.hid hA; have PB := Lib.hid hB; have PP := Lib.hid hp; have PQ := Lib.hid hq
  have HV := Lib.hid hv
  clear hA hB hp hq h hv ha hb
  go_enter Try.func76, Try.ntmps76
  go_wp2_with fail
  have z0 : (((w.alloc (.cells #[.int .i64 ax, .int .i64 ay, .int .i64 bx, .int .i64 by_] 73)).alloc (.cells #[.int .i64 px, .int .i64 py] 64)).alloc (.cells #[.int .i64 qx, .int .i64 qy] 64)).cell? ⟨w.heap.size, 0, none⟩ = some (.int .i64 ax) := by go_simp
  have z1 : (((w.alloc (.cells #[.int .i64 ax, .int .i64 ay, .int .i64 bx, .int .i64 by_] 73)).alloc (.cells #[.int .i64 px, .int .i64 py] 64)).alloc (.cells #[.int .i64 qx, .int .i64 qy] 64)).cell? ⟨w.heap.size, 1, none⟩ = some (.int .i64 ay) := by go_simp
  have z2 : (((w.alloc (.cells #[.int .i64 ax, .int .i64 ay, .int .i64 bx, .int .i64 by_] 73)).alloc (.cells #[.int .i64 px, .int .i64 py] 64)).alloc (.cells #[.int .i64 qx, .int .i64 qy] 64)).cell? ⟨w.heap.size, 2, none⟩ = some (.int .i64 bx) := by go_simp
  have z3 : (((w.alloc (.cells #[.int .i64 ax, .int .i64 ay, .int .i64 bx, .int .i64 by_] 73)).alloc (.cells #[.int .i64 px, .int .i64 py] 64)).alloc (.cells #[.int .i64 qx, .int .i64 qy] 64)).cell? ⟨w.heap.size, 3, none⟩ = some (.int .i64 by_) := by go_simp
  have z4 : (((w.alloc (.cells #[.int .i64 ax, .int .i64 ay, .int .i64 bx, .int .i64 by_] 73)).alloc (.cells #[.int .i64 px, .int .i64 py] 64)).alloc (.cells #[.int .i64 qx, .int .i64 qy] 64)).cell? ⟨w.heap.size + 1, 0, none⟩ = some (.int .i64 px) := by go_simp
  have z5 : (((w.alloc (.cells #[.int .i64 ax, .int .i64 ay, .int .i64 bx, .int .i64 by_] 73)).alloc (.cells #[.int .i64 px, .int .i64 py] 64)).alloc (.cells #[.int .i64 qx, .int .i64 qy] 64)).cell? ⟨w.heap.size + 1, 1, none⟩ = some (.int .i64 py) := by go_simp
  have z6 : (((w.alloc (.cells #[.int .i64 ax, .int .i64 ay, .int .i64 bx, .int .i64 by_] 73)).alloc (.cells #[.int .i64 px, .int .i64 py] 64)).alloc (.cells #[.int .i64 qx, .int .i64 qy] 64)).cell? ⟨w.heap.size + 1 + 1, 0, none⟩ = some (.int .i64 qx) := by go_simp
  have z7 : (((w.alloc (.cells #[.int .i64 ax, .int .i64 ay, .int .i64 bx, .int .i64 by_] 73)).alloc (.cells #[.int .i64 px, .int .i64 py] 64)).alloc (.cells #[.int .i64 qx, .int .i64 qy] 64)).cell? ⟨w.heap.size + 1 + 1, 1, none⟩ = some (.int .i64 qy) := by go_simp
  have GW : Hid (w.grownBy (((w.alloc (.cells #[.int .i64 ax, .int .i64 ay, .int .i64 bx, .int .i64 by_] 73)).alloc (.cells #[.int .i64 px, .int .i64 py] 64)).alloc (.cells #[.int .i64 qx, .int .i64 qy] 64)) none) := grown_trans (grown_trans (World.grownBy_alloc _ _ _) (World.grownBy_alloc _ _ _)) (World.grownBy_alloc _ _ _)
  generalize (((w.alloc (.cells #[.int .i64 ax, .int .i64 ay, .int .i64 bx, .int .i64 by_] 73)).alloc (.cells #[.int .i64 px, .int .i64 py] 64)).alloc (.cells #[.int .i64 qx, .int .i64 qy] 64)) = W1 at *
  have gW : W1.grownBy W1.drew none := grown_drewN W1 none 1
  refine region_late (lateK (fun V => W1.grownBy V none) []) (by kernel_rfl) gW (fun hCm0 hSm0 => ?_)
  generalize W1.drew = wd at *
  refine wpAnyS_take (i := 0) (oi := ?oim1) (v := .agg #[.int .i64 px, .int .i64 py]) ?him1 (by kernel_rfl) (by kernel_rfl) (by kernel_rfl) (lateK_iff (by rfl)) ?hqm1 ?hym1 hCm0 hSm0 ?restm1
  case him1 => simp only [List.getElem?_toArray, List.getElem?_cons_succ, List.getElem?_cons_zero, Option.some.injEq]; rfl
  case hqm1 => exact fun _ _ _ h => h
  case hym1 =>
    refine Or.inl ⟨by kernel_rfl, fun V hV => ?_⟩
    have gV := lateK_g hV; have y4 := grown_cell gV z4; have y5 := grown_cell gV z5; clear gV; clear hV
    go_simp
  intro hCm1 hSm1
  clear hCm0 hSm0
  try simp only [Go.Act.put, List.setIfInBounds_toArray, List.set_cons_zero, List.set_cons_succ]
  refine wpAnyS_take (i := 1) (oi := ?oim2) (v := .agg #[.int .i64 qx, .int .i64 qy]) ?him2 (by kernel_rfl) (by kernel_rfl) (by kernel_rfl) (lateK_iff (by rfl)) ?hqm2 ?hym2 hCm1 hSm1 ?restm2
  case him2 => simp only [List.getElem?_toArray, List.getElem?_cons_succ, List.getElem?_cons_zero, Option.some.injEq]; rfl
  case hqm2 => exact fun _ _ _ h => h
  case hym2 =>
    refine Or.inl ⟨by kernel_rfl, fun V hV => ?_⟩
    have gV := lateK_g hV; have y6 := grown_cell gV z6; have y7 := grown_cell gV z7; clear gV; clear hV
    go_simp
  intro hCm2 hSm2
  clear hCm1 hSm1
  try simp only [Go.Act.put, List.setIfInBounds_toArray, List.set_cons_zero, List.set_cons_succ]
  refine wpAnyS_take (i := 2) (oi := ?oim3) (v := .pointer (some ⟨w.heap.size, 0, none⟩)) ?him3 (by kernel_rfl) (by kernel_rfl) (by kernel_rfl) (lateK_iff (by rfl)) ?hqm3 ?hym3 hCm2 hSm2 ?restm3
  case him3 => simp only [List.getElem?_toArray, List.getElem?_cons_succ, List.getElem?_cons_zero, Option.some.injEq]; rfl
  case hqm3 => exact fun _ _ _ h => h
  case hym3 =>
    refine Or.inl ⟨by kernel_rfl, fun V hV => ?_⟩
    clear hV
    go_simp
  intro hCm3 hSm3
  clear hCm2 hSm2
  try simp only [Go.Act.put, List.setIfInBounds_toArray, List.set_cons_zero, List.set_cons_succ]
  refine wpAnyS_take (i := 3) (oi := ?oim4) (v := .agg #[.int .i64 ax, .int .i64 ay]) ?him4 (by kernel_rfl) (by kernel_rfl) (by kernel_rfl) (lateK_iff (by rfl)) ?hqm4 ?hym4 hCm3 hSm3 ?restm4
  case him4 => simp only [List.getElem?_toArray, List.getElem?_cons_succ, List.getElem?_cons_zero, Option.some.injEq]; rfl
  case hqm4 => exact fun _ _ _ h => h
  case hym4 =>
    refine Or.inl ⟨by kernel_rfl, fun V hV => ?_⟩
    have gV := lateK_g hV; have y0 := grown_cell gV z0; have y1 := grown_cell gV z1; clear gV; clear hV
    go_simp
  intro hCm4 hSm4
  clear hCm3 hSm3
  try simp only [Go.Act.put, List.setIfInBounds_toArray, List.set_cons_zero, List.set_cons_succ]
  refine wpAnyS_take (i := 5) (oi := ?oim5) (v := .agg #[.int .i64 px, .int .i64 py]) ?him5 (by kernel_rfl) (by kernel_rfl) (by kernel_rfl) (lateK_iff (by rfl)) ?hqm5 ?hym5 hCm4 hSm4 ?restm5
  case him5 => simp only [List.getElem?_toArray, List.getElem?_cons_succ, List.getElem?_cons_zero, Option.some.injEq]; rfl
  case hqm5 => exact fun _ _ _ h => h
  case hym5 =>
    refine Or.inl ⟨by kernel_rfl, fun V hV => ?_⟩
    have gV := lateK_g hV; have y4 := grown_cell gV z4; have y5 := grown_cell gV z5; clear gV; clear hV
    go_simp
  intro hCm5 hSm5
  clear hCm4 hSm4
  try simp only [Go.Act.put, List.setIfInBounds_toArray, List.set_cons_zero, List.set_cons_succ]
  refine wpAnyS_take (i := 6) (oi := ?oim6) (v := .agg #[.int .i64 qx, .int .i64 qy]) ?him6 (by kernel_rfl) (by kernel_rfl) (by kernel_rfl) (lateK_iff (by rfl)) ?hqm6 ?hym6 hCm5 hSm5 ?restm6
  case him6 => simp only [List.getElem?_toArray, List.getElem?_cons_succ, List.getElem?_cons_zero, Option.some.injEq]; rfl
  case hqm6 => exact fun _ _ _ h => h
  case hym6 =>
    refine Or.inl ⟨by kernel_rfl, fun V hV => ?_⟩
    have gV := lateK_g hV; have y6 := grown_cell gV z6; have y7 := grown_cell gV z7; clear gV; clear hV
    go_simp
  intro hCm6 hSm6
  clear hCm5 hSm5
  try simp only [Go.Act.put, List.setIfInBounds_toArray, List.set_cons_zero, List.set_cons_succ]
  refine wpAnyS_take (i := 7) (oi := ?oim7) (v := .pointer (some ⟨w.heap.size, 2, none⟩)) ?him7 (by kernel_rfl) (by kernel_rfl) (by kernel_rfl) (lateK_iff (by rfl)) ?hqm7 ?hym7 hCm6 hSm6 ?restm7
  case him7 => simp only [List.getElem?_toArray, List.getElem?_cons_succ, List.getElem?_cons_zero, Option.some.injEq]; rfl
  case hqm7 => exact fun _ _ _ h => h
  case hym7 =>
    refine Or.inl ⟨by kernel_rfl, fun V hV => ?_⟩
    clear hV
    go_simp
  intro hCm7 hSm7
  clear hCm6 hSm6
  try simp only [Go.Act.put, List.setIfInBounds_toArray, List.set_cons_zero, List.set_cons_succ]
  refine wpAnyS_take (i := 8) (oi := ?oim8) (v := .agg #[.int .i64 bx, .int .i64 by_]) ?him8 (by kernel_rfl) (by kernel_rfl) (by kernel_rfl) (lateK_iff (by rfl)) ?hqm8 ?hym8 hCm7 hSm7 ?restm8
  case him8 => simp only [List.getElem?_toArray, List.getElem?_cons_succ, List.getElem?_cons_zero, Option.some.injEq]; rfl
  case hqm8 => exact fun _ _ _ h => h
  case hym8 =>
    refine Or.inl ⟨by kernel_rfl, fun V hV => ?_⟩
    have gV := lateK_g hV; have y2 := grown_cell gV z2; have y3 := grown_cell gV z3; clear gV; clear hV
    go_simp
  intro hCm8 hSm8
  clear hCm7 hSm7
  try simp only [Go.Act.put, List.setIfInBounds_toArray, List.set_cons_zero, List.set_cons_succ]
  refine wpAnyS_ready (rs := [4]) (by kernel_rfl) (by simp) ?_
  refine AllReadyS.cons rfl hCm8 (fun K hK => ?_) AllReadyS.nil
  go_simp
  refine (sideOf_is ⟨px, py⟩ ⟨qx, qy⟩ ⟨ax, ay⟩ PP.out PQ.out PA.out _ HAA).mono ?_; rintro e w7 ⟨rfl, hg7⟩
  refine hK.out _ _ (grown_trans gW hg7) (fun hCm9 hSm9 => ?_)
  clear hK hCm8 hSm8 K
  try simp only [Go.Act.put, List.setIfInBounds_toArray, List.set_cons_zero, List.set_cons_succ]
  refine wpAnyS_ready (rs := [9]) (by kernel_rfl) (by simp) ?_
  refine AllReadyS.cons rfl hCm9 (fun K hK => ?_) AllReadyS.nil
  go_simp
  refine (sideOf_is ⟨px, py⟩ ⟨qx, qy⟩ ⟨bx, by_⟩ PP.out PQ.out PB.out _ HBB).mono ?_; rintro e w8 ⟨rfl, hg8⟩
  refine hK.out _ _ (grown_trans (grown_trans gW hg7) hg8) (fun hCm10 hSm10 => ?_)
  clear hK hCm9 hSm9 K
  try simp only [Go.Act.put, List.setIfInBounds_toArray, List.set_cons_zero, List.set_cons_succ]
  refine wpAnyS_take (i := 10) (oi := ?oim11) (v := .int .i64 a) ?him11 (by kernel_rfl) (by kernel_rfl) (by kernel_rfl) (lateK_iff (by rfl)) ?hqm11 ?hym11 hCm10 hSm10 ?restm11
  case him11 => simp only [List.getElem?_toArray, List.getElem?_cons_succ, List.getElem?_cons_zero, Option.some.injEq]; rfl
  case hqm11 => exact fun _ _ _ h => h
  case hym11 =>
    refine Or.inl ⟨by kernel_rfl, fun V hV => ?_⟩
    clear hV
    go_simp
  intro hCm11 hSm11
  clear hCm10 hSm10
  try simp only [Go.Act.put, List.setIfInBounds_toArray, List.set_cons_zero, List.set_cons_succ]
  refine wpAnyS_take (i := 11) (oi := ?oim12) (v := .int .i64 b) ?him12 (by kernel_rfl) (by kernel_rfl) (by kernel_rfl) (lateK_iff (by rfl)) ?hqm12 ?hym12 hCm11 hSm11 ?restm12
  case him12 => simp only [List.getElem?_toArray, List.getElem?_cons_succ, List.getElem?_cons_zero, Option.some.injEq]; rfl
  case hqm12 => exact fun _ _ _ h => h
  case hym12 =>
    refine Or.inl ⟨by kernel_rfl, fun V hV => ?_⟩
    clear hV
    go_simp
  intro hCm12 hSm12
  clear hCm11 hSm11
  try simp only [Go.Act.put, List.setIfInBounds_toArray, List.set_cons_zero, List.set_cons_succ]
  refine wpAnyS_done (by kernel_rfl) ?_ _
  clear hCm12 hSm12
  have HG9 := Lib.hid (grown_trans GW.out (grown_trans (grown_trans gW hg7) hg8))
  clear z0 z1 z2 z3 z4 z5 z6 z7 gW hg7 hg8
  have hv := HV.out
  rcases (by omega : b < a ∨ a < b ∨ a = b) with o1 | o1 | o1
  · have q1 : b < a := by omega
    have q2 : ¬ a < b := by omega
    by_cases d1 : b ≤ 0
    · have e1 : decide (b ≤ 0) = true := decide_eq_true (by omega)
      by_cases d2 : 0 ≤ a
      · have e2 : decide (0 ≤ a) = true := decide_eq_true (by omega)
        obtain rfl : true = r := by rw [← hv]; simp; omega
        clear hv o1 d1 d2
        go_wp2_with fail
        go_ret
        exact ⟨rfl, HG9.out⟩
      · have e2 : decide (0 ≤ a) = false := decide_eq_false (by omega)
        obtain rfl : false = r := by rw [← hv]; simp; omega
        clear hv o1 d1 d2
        go_wp2_with fail
        go_ret
        exact ⟨rfl, HG9.out⟩
    · have e1 : decide (b ≤ 0) = false := decide_eq_false (by omega)
      obtain rfl : false = r := by rw [← hv]; simp; omega
      clear hv o1 d1
      go_wp2_with fail
      go_ret
      exact ⟨rfl, HG9.out⟩
  · have q1 : ¬ b < a := by omega
    have q2 : a < b := by omega
    by_cases d1 : a ≤ 0
    · have e1 : decide (a ≤ 0) = true := decide_eq_true (by omega)
      by_cases d2 : 0 ≤ b
      · have e2 : decide (0 ≤ b) = true := decide_eq_true (by omega)
        obtain rfl : true = r := by rw [← hv]; simp; omega
        clear hv o1 d1 d2
        go_wp2_with fail
        go_ret
        exact ⟨rfl, HG9.out⟩
      · have e2 : decide (0 ≤ b) = false := decide_eq_false (by omega)
        obtain rfl : false = r := by rw [← hv]; simp; omega
        clear hv o1 d1 d2
        go_wp2_with fail
        go_ret
        exact ⟨rfl, HG9.out⟩
    · have e1 : decide (a ≤ 0) = false := decide_eq_false (by omega)
      obtain rfl : false = r := by rw [← hv]; simp; omega
      clear hv o1 d1
      go_wp2_with fail
      go_ret
      exact ⟨rfl, HG9.out⟩
  · have q1 : ¬ b < a := by omega
    have q2 : ¬ a < b := by omega
    by_cases d1 : a ≤ 0
    · have e1 : decide (a ≤ 0) = true := decide_eq_true (by omega)
      by_cases d2 : 0 ≤ a
      · have e2 : decide (0 ≤ a) = true := decide_eq_true (by omega)
        obtain rfl : true = r := by rw [← hv]; simp; omega
        clear hv o1 d1 d2
        go_wp2_with fail
        go_ret
        exact ⟨rfl, HG9.out⟩
      · have e2 : decide (0 ≤ a) = false := decide_eq_false (by omega)
        obtain rfl : false = r := by rw [← hv]; simp; omega
        clear hv o1 d1 d2
        go_wp2_with fail
        go_ret
        exact ⟨rfl, HG9.out⟩
    · have e1 : decide (a ≤ 0) = false := decide_eq_false (by omega)
      obtain rfl : false = r := by rw [← hv]; simp; omega
      clear hv o1 d1
      go_wp2_with fail
      go_ret
      exact ⟨rfl, HG9.out⟩
end Go.Proofs.Ytckelojdjmaliaa
