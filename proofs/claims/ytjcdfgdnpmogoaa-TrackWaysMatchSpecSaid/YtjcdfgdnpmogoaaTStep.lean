/- The contracts of one step, of both sides: its length. -/
import Derived.Test.YtjcdfgdnpmogoaaTRoot
namespace Go.Proofs.Ytjcdfgdnpmogoaa
open Go.RowKit

/-- A place of the plane. -/
def inPlane (x : Smp) : Prop := (-100000000 ≤ x.x ∧ x.x ≤ 100000000) ∧ (-100000000 ≤ x.y ∧ x.y ≤ 100000000)
instance (x : Smp) : Decidable (inPlane x) := by unfold inPlane; exact inferInstance
def sqP (p q : Smp) : Int := (q.x - p.x) * (q.x - p.x) + (q.y - p.y) * (q.y - p.y)
noncomputable def rootI (n : Int) : Int := (Classical.choose (root_exists n.toNat) : Nat)
theorem rootI_is (n : Int) : ∃ r : Nat, rootI n = r ∧ IsRoot n.toNat r := ⟨_, rfl, Classical.choose_spec (root_exists n.toNat)⟩
theorem root_one {n r s : Nat} (h : IsRoot n r) (h' : IsRoot n s) : r = s := by
  have h1 := (root_le h (x := s)).1 h'.1
  have h2 := (root_le h' (x := r)).1 h.1
  omega
noncomputable def stepW (p q : Smp) : Int := rootI (sqP p q)
noncomputable def stepE (p q : Smp) : Int × Int := if inPlane p ∧ inPlane q then (stepW p q, 0) else (0, 9)

theorem sq_bd {a : Int} (h0 : -200000000 ≤ a) (h1 : a ≤ 200000000) : 0 ≤ a * a ∧ a * a ≤ 40000000000000000 := by
  rcases Int.le_total 0 a with h | h
  · exact ⟨Int.mul_nonneg h h, Int.le_trans (Int.mul_le_mul h1 h1 h (by omega)) (by omega)⟩
  · have e : a * a = (-a) * (-a) := by rw [Int.neg_mul_neg]
    rw [e]
    have hm : -a * -a ≤ 200000000 * 200000000 := Int.mul_le_mul (by omega) (by omega) (by omega) (by omega)
    exact ⟨Int.mul_nonneg (by omega) (by omega), hm⟩
theorem sqP_bd {p q : Smp} (h : inPlane p) (h' : inPlane q) : 0 ≤ sqP p q ∧ sqP p q ≤ 80000000000000000 := by
  unfold inPlane at h h'
  have h1 := sq_bd (a := q.x - p.x) (by omega) (by omega)
  have h2 := sq_bd (a := q.y - p.y) (by omega) (by omega)
  unfold sqP; omega
theorem stepW_bd {p q : Smp} (h : inPlane p) (h' : inPlane q) : 0 ≤ stepW p q ∧ stepW p q ≤ 300000000 := by
  obtain ⟨r, hr, hi⟩ := rootI_is (sqP p q)
  have hb := sqP_bd h h'
  unfold stepW
  rw [hr]
  refine ⟨by omega, ?_⟩
  rcases Nat.lt_or_ge 300000000 r with hc | hc
  · have h1 := Nat.mul_le_mul (Nat.le_of_lt hc) (Nat.le_of_lt hc)
    have h2 := hi.1
    omega
  · omega

set_option maxHeartbeats 800000 in
theorem square_is (p q : Smp) (hp : inPlane p) (hq : inPlane q) (w : World) {n : Int} (h : Hid (sqP p q = n)) :
    Calls Try.prog 134 #[.agg #[.int .i64 p.t, .int .i64 p.x, .int .i64 p.y, .int .i64 p.z, .int .i64 p.p, .int .i64 p.q, .int .i64 p.s], .agg #[.int .i64 q.t, .int .i64 q.x, .int .i64 q.y, .int .i64 q.z, .int .i64 q.p, .int .i64 q.q, .int .i64 q.s]] w fun e w' => e = .returned (.int .i64 n) ∧ w.grownBy w' none := by
  obtain ⟨pt, px, py, pz, pp, pq, ps⟩ := p
  obtain ⟨qt, qx, qy, qz, qp, qq, qs⟩ := q
  unfold inPlane at hp hq
  simp only at hp hq
  have hn : (qx - px) * (qx - px) + (qy - py) * (qy - py) = n := h.out
  obtain ⟨dx, hdx⟩ : ∃ d, qx - px = d := ⟨_, rfl⟩
  obtain ⟨dy, hdy⟩ : ∃ d, qy - py = d := ⟨_, rfl⟩
  rw [hdx, hdy] at hn
  have bx := sq_bd (a := dx) (by omega) (by omega)
  have by_ := sq_bd (a := dy) (by omega) (by omega)
  have rx : IntKind.i64.wrap (qx - px) = dx := by rw [hdx]; exact IntWalk.i64_in _ (by omega)
  have ry : IntKind.i64.wrap (qy - py) = dy := by rw [hdy]; exact IntWalk.i64_in _ (by omega)
  obtain ⟨X, hX⟩ : ∃ d, dx * dx = d := ⟨_, rfl⟩
  obtain ⟨Y, hY⟩ : ∃ d, dy * dy = d := ⟨_, rfl⟩
  rw [hX, hY] at hn
  rw [hX] at bx
  rw [hY] at by_
  have mx : IntKind.i64.wrap (dx * dx) = X := by rw [hX]; exact IntWalk.i64_in _ (by omega)
  have my : IntKind.i64.wrap (dy * dy) = Y := by rw [hY]; exact IntWalk.i64_in _ (by omega)
  obtain ⟨bx0, bx1⟩ := bx
  obtain ⟨by0, by1⟩ := by_
  have HN := Lib.hid hn
  have HX := Lib.hid hX; have HY := Lib.hid hY; have HDX := Lib.hid hdx; have HDY := Lib.hid hdy; have HP := Lib.hid hp; have HQ := Lib.hid hq
  clear hX hY hdx hdy hp hq h hn
  go_enter Try.func134, Try.ntmps134
  go_wp2_with fail
  go_quiet (fail)
  go_wp2_with fail
  go_ret
  exact ⟨ret_int HN.out, grown_trans (grown_trans (World.grownBy_alloc _ _ _) (World.grownBy_alloc _ _ _)) (grown_drewN _ _ _)⟩

set_option maxHeartbeats 800000 in
theorem way_is (k : Int) (p q : Smp) (hp : inPlane p) (hq : inPlane q) (w : World) {n : Int} (h : Hid (stepW p q = n)) :
    Calls Try.prog 74 #[.agg #[.int .i64 k, .int .i64 p.t, .int .i64 p.x, .int .i64 p.y, .int .i64 p.z, .int .i64 p.p, .int .i64 p.q, .int .i64 p.s, .int .i64 q.t, .int .i64 q.x, .int .i64 q.y, .int .i64 q.z, .int .i64 q.p, .int .i64 q.q, .int .i64 q.s]] w fun e w' => e = .returned (.int .i64 n) ∧ w.grownBy w' none := by
  have hb := sqP_bd hp hq
  obtain ⟨R, hR, hi⟩ := rootI_is (sqP p q)
  obtain ⟨m, hm⟩ : ∃ m : Nat, (m : Int) = sqP p q := ⟨(sqP p q).toNat, by omega⟩
  have HM : Hid (sqP p q = (m : Int)) := hm.symm
  have hmt : (sqP p q).toNat = m := by omega
  rw [hmt] at hi
  have HI := Lib.hid hi
  have hml : m < 9223372036854775808 := by omega
  have HML := Lib.hid hml
  have HV : Hid ((R : Int) = n) := by show _ = _; rw [← h.out, ← hR]; rfl
  have HP := Lib.hid hp; have HQ := Lib.hid hq
  clear hb hR hi hm hmt hp hq h hml
  obtain ⟨pt, px, py, pz, pp, pq, ps⟩ := p
  obtain ⟨qt, qx, qy, qz, qp, qq, qs⟩ := q
  simp only
  go_enter Try.func74, Try.ntmps74
  go_wp2_with fail
  refine (square_is ⟨pt, px, py, pz, pp, pq, ps⟩ ⟨qt, qx, qy, qz, qp, qq, qs⟩ HP.out HQ.out _ HM).mono ?_; rintro e w1 ⟨rfl, hg1⟩
  have G1 := grown_trans (World.grownBy_alloc w (.cells #[.int .i64 k, .int .i64 pt, .int .i64 px, .int .i64 py, .int .i64 pz, .int .i64 pp, .int .i64 pq, .int .i64 ps, .int .i64 qt, .int .i64 qx, .int .i64 qy, .int .i64 qz, .int .i64 qp, .int .i64 qq, .int .i64 qs] 85) none) hg1
  clear hg1
  go_wp2_with fail
  refine (root_any m R HML.out HI _).mono ?_; rintro e w2 ⟨rfl, rfl⟩
  go_wp2_with fail
  go_ret
  exact ⟨ret_int HV.out, G1⟩

theorem twithin_yes (n lo hi : Int) (h0 : lo ≤ n) (h1 : n ≤ hi) (w : World) : Calls Try.prog 55 #[.int .i64 n, .int .i64 lo, .int .i64 hi] w fun e w' => e = .returned (.bool true) ∧ w = w' := by
  go_enter Try.func55, Try.ntmps55
  go_wp2
  go_ret
  exact ⟨ret_bool (by first | rfl | (simp; omega)), rfl⟩
theorem twithin_no (n lo hi : Int) (h : n < lo ∨ hi < n) (w : World) : Calls Try.prog 55 #[.int .i64 n, .int .i64 lo, .int .i64 hi] w fun e w' => e = .returned (.bool false) ∧ w = w' := by
  by_cases h0 : n < lo
  · have h2 : decide (lo ≤ n) = false := by simp; omega
    clear h
    go_enter Try.func55, Try.ntmps55
    go_wp2
    go_ret
    exact ⟨ret_bool (by first | rfl | (simp; omega)), rfl⟩
  · have h1 : lo ≤ n := by omega
    have h2 : decide (n ≤ hi) = false := by simp; omega
    clear h
    go_enter Try.func55, Try.ntmps55
    go_wp2
    go_ret
    exact ⟨ret_bool (by first | rfl | (simp; omega)), rfl⟩

theorem onPlane_yes (x : Smp) (h : inPlane x) (w : World) :
    Calls Try.prog 105 #[.agg #[.int .i64 x.t, .int .i64 x.x, .int .i64 x.y, .int .i64 x.z, .int .i64 x.p, .int .i64 x.q, .int .i64 x.s]] w fun e w' => e = .returned (.bool true) ∧ w.grownBy w' none := by
  obtain ⟨t, x, y, z, p, q, s⟩ := x
  have H := Lib.hid h; clear h
  go_enter Try.func105, Try.ntmps105
  go_wp2_with fail
  refine (twithin_yes _ _ _ H.out.1.1 H.out.1.2 _).mono ?_; rintro e w1 ⟨rfl, rfl⟩
  go_wp2_with fail
  refine (twithin_yes _ _ _ H.out.2.1 H.out.2.2 _).mono ?_; rintro e w1 ⟨rfl, rfl⟩
  go_wp2_with fail
  go_ret
  exact ⟨rfl, World.grownBy_alloc _ _ _⟩
theorem onPlane_no (x : Smp) (h : ¬ inPlane x) (w : World) :
    Calls Try.prog 105 #[.agg #[.int .i64 x.t, .int .i64 x.x, .int .i64 x.y, .int .i64 x.z, .int .i64 x.p, .int .i64 x.q, .int .i64 x.s]] w fun e w' => e = .returned (.bool false) ∧ w.grownBy w' none := by
  obtain ⟨t, x, y, z, p, q, s⟩ := x
  unfold inPlane at h
  simp only at h ⊢
  by_cases h1 : -100000000 ≤ x ∧ x ≤ 100000000
  · have h3 : y < -100000000 ∨ 100000000 < y := by omega
    have H1 := Lib.hid h1; have H3 := Lib.hid h3; clear h h1 h3
    go_enter Try.func105, Try.ntmps105
    go_wp2_with fail
    refine (twithin_yes _ _ _ H1.out.1 H1.out.2 _).mono ?_; rintro e w1 ⟨rfl, rfl⟩
    go_wp2_with fail
    refine (twithin_no _ _ _ H3.out _).mono ?_; rintro e w1 ⟨rfl, rfl⟩
    go_wp2_with fail
    go_ret
    exact ⟨rfl, World.grownBy_alloc _ _ _⟩
  · have h3 : x < -100000000 ∨ 100000000 < x := by omega
    have H3 := Lib.hid h3; clear h h1 h3
    go_enter Try.func105, Try.ntmps105
    go_wp2_with fail
    refine (twithin_no _ _ _ H3.out _).mono ?_; rintro e w1 ⟨rfl, rfl⟩
    go_wp2_with fail
    go_ret
    exact ⟨rfl, World.grownBy_alloc _ _ _⟩
set_option maxHeartbeats 800000 in
theorem step_any (p q : Smp) (w : World) {n e : Int} (h : Hid (stepE p q = (n, e))) :
    Calls Try.prog 45 #[.agg #[.int .i64 p.t, .int .i64 p.x, .int .i64 p.y, .int .i64 p.z, .int .i64 p.p, .int .i64 p.q, .int .i64 p.s], .agg #[.int .i64 q.t, .int .i64 q.x, .int .i64 q.y, .int .i64 q.z, .int .i64 q.p, .int .i64 q.q, .int .i64 q.s]] w fun x w' => x = .returned (.tuple #[.int .i64 n, .int .i64 e]) ∧ w.grownBy w' none := by
  by_cases h1 : inPlane p
  · by_cases h2 : inPlane q
    · have hv : (n, e) = (stepW p q, 0) := by rw [← h.out]; unfold stepE; rw [if_pos ⟨h1, h2⟩]
      simp only [Prod.mk.injEq] at hv
      have HV := Lib.hid hv.1
      obtain rfl := hv.2
      have H1 := Lib.hid h1; have H2 := Lib.hid h2
      clear hv h1 h2 h
      obtain ⟨pt, px, py, pz, pp, pq, ps⟩ := p
      obtain ⟨qt, qx, qy, qz, qp, qq, qs⟩ := q
      go_enter Try.func45, Try.ntmps45
      go_wp2_with fail
      refine (onPlane_yes ⟨pt, px, py, pz, pp, pq, ps⟩ H1.out _).mono ?_; rintro x w1 ⟨rfl, hg1⟩
      have G1 := grown_trans (grown_trans (World.grownBy_alloc w (.cells #[.int .i64 pt, .int .i64 px, .int .i64 py, .int .i64 pz, .int .i64 pp, .int .i64 pq, .int .i64 ps] 28) none) (World.grownBy_alloc _ (.cells #[.int .i64 qt, .int .i64 qx, .int .i64 qy, .int .i64 qz, .int .i64 qp, .int .i64 qq, .int .i64 qs] 28) none)) hg1
      have ap0 : w1.cell? ⟨w.heap.size, 0, none⟩ = some (.int .i64 pt) := grown_cell hg1 (by simp)
      have aq0 : w1.cell? ⟨w.heap.size + 1, 0, none⟩ = some (.int .i64 qt) := grown_cell hg1 (by simp)
      have ap1 : w1.cell? ⟨w.heap.size, 1, none⟩ = some (.int .i64 px) := grown_cell hg1 (by simp)
      have aq1 : w1.cell? ⟨w.heap.size + 1, 1, none⟩ = some (.int .i64 qx) := grown_cell hg1 (by simp)
      have ap2 : w1.cell? ⟨w.heap.size, 2, none⟩ = some (.int .i64 py) := grown_cell hg1 (by simp)
      have aq2 : w1.cell? ⟨w.heap.size + 1, 2, none⟩ = some (.int .i64 qy) := grown_cell hg1 (by simp)
      have ap3 : w1.cell? ⟨w.heap.size, 3, none⟩ = some (.int .i64 pz) := grown_cell hg1 (by simp)
      have aq3 : w1.cell? ⟨w.heap.size + 1, 3, none⟩ = some (.int .i64 qz) := grown_cell hg1 (by simp)
      have ap4 : w1.cell? ⟨w.heap.size, 4, none⟩ = some (.int .i64 pp) := grown_cell hg1 (by simp)
      have aq4 : w1.cell? ⟨w.heap.size + 1, 4, none⟩ = some (.int .i64 qp) := grown_cell hg1 (by simp)
      have ap5 : w1.cell? ⟨w.heap.size, 5, none⟩ = some (.int .i64 pq) := grown_cell hg1 (by simp)
      have aq5 : w1.cell? ⟨w.heap.size + 1, 5, none⟩ = some (.int .i64 qq) := grown_cell hg1 (by simp)
      have ap6 : w1.cell? ⟨w.heap.size, 6, none⟩ = some (.int .i64 ps) := grown_cell hg1 (by simp)
      have aq6 : w1.cell? ⟨w.heap.size + 1, 6, none⟩ = some (.int .i64 qs) := grown_cell hg1 (by simp)
      clear hg1
      go_wp2_with fail
      refine (onPlane_yes ⟨qt, qx, qy, qz, qp, qq, qs⟩ H2.out _).mono ?_; rintro x w2 ⟨rfl, hg1⟩
      have G2 := grown_trans G1 hg1
      replace ap0 := grown_cell hg1 ap0
      replace aq0 := grown_cell hg1 aq0
      replace ap1 := grown_cell hg1 ap1
      replace aq1 := grown_cell hg1 aq1
      replace ap2 := grown_cell hg1 ap2
      replace aq2 := grown_cell hg1 aq2
      replace ap3 := grown_cell hg1 ap3
      replace aq3 := grown_cell hg1 aq3
      replace ap4 := grown_cell hg1 ap4
      replace aq4 := grown_cell hg1 aq4
      replace ap5 := grown_cell hg1 ap5
      replace aq5 := grown_cell hg1 aq5
      replace ap6 := grown_cell hg1 ap6
      replace aq6 := grown_cell hg1 aq6
      clear hg1 G1
      go_wp2_with fail
      refine (way_is 0 ⟨pt, px, py, pz, pp, pq, ps⟩ ⟨qt, qx, qy, qz, qp, qq, qs⟩ H1.out H2.out _ (Lib.hid HV.out.symm)).mono ?_; rintro x w3 ⟨rfl, hg3⟩
      have G3 := grown_trans G2 hg3
      clear hg3 G2
      go_wp2_with fail
      go_ret2
      exact ⟨rfl, G3⟩
    · have hv : (n, e) = (0, 9) := by rw [← h.out]; unfold stepE; rw [if_neg (fun h => h2 h.2)]
      simp only [Prod.mk.injEq] at hv
      obtain ⟨rfl, rfl⟩ := hv
      have H1 := Lib.hid h1; have H2 := Lib.hid h2
      clear h1 h2 h
      obtain ⟨pt, px, py, pz, pp, pq, ps⟩ := p
      obtain ⟨qt, qx, qy, qz, qp, qq, qs⟩ := q
      go_enter Try.func45, Try.ntmps45
      go_wp2_with fail
      refine (onPlane_yes ⟨pt, px, py, pz, pp, pq, ps⟩ H1.out _).mono ?_; rintro x w1 ⟨rfl, hg1⟩
      have G1 := grown_trans (grown_trans (World.grownBy_alloc w (.cells #[.int .i64 pt, .int .i64 px, .int .i64 py, .int .i64 pz, .int .i64 pp, .int .i64 pq, .int .i64 ps] 28) none) (World.grownBy_alloc _ (.cells #[.int .i64 qt, .int .i64 qx, .int .i64 qy, .int .i64 qz, .int .i64 qp, .int .i64 qq, .int .i64 qs] 28) none)) hg1
      have ap0 : w1.cell? ⟨w.heap.size, 0, none⟩ = some (.int .i64 pt) := grown_cell hg1 (by simp)
      have aq0 : w1.cell? ⟨w.heap.size + 1, 0, none⟩ = some (.int .i64 qt) := grown_cell hg1 (by simp)
      have ap1 : w1.cell? ⟨w.heap.size, 1, none⟩ = some (.int .i64 px) := grown_cell hg1 (by simp)
      have aq1 : w1.cell? ⟨w.heap.size + 1, 1, none⟩ = some (.int .i64 qx) := grown_cell hg1 (by simp)
      have ap2 : w1.cell? ⟨w.heap.size, 2, none⟩ = some (.int .i64 py) := grown_cell hg1 (by simp)
      have aq2 : w1.cell? ⟨w.heap.size + 1, 2, none⟩ = some (.int .i64 qy) := grown_cell hg1 (by simp)
      have ap3 : w1.cell? ⟨w.heap.size, 3, none⟩ = some (.int .i64 pz) := grown_cell hg1 (by simp)
      have aq3 : w1.cell? ⟨w.heap.size + 1, 3, none⟩ = some (.int .i64 qz) := grown_cell hg1 (by simp)
      have ap4 : w1.cell? ⟨w.heap.size, 4, none⟩ = some (.int .i64 pp) := grown_cell hg1 (by simp)
      have aq4 : w1.cell? ⟨w.heap.size + 1, 4, none⟩ = some (.int .i64 qp) := grown_cell hg1 (by simp)
      have ap5 : w1.cell? ⟨w.heap.size, 5, none⟩ = some (.int .i64 pq) := grown_cell hg1 (by simp)
      have aq5 : w1.cell? ⟨w.heap.size + 1, 5, none⟩ = some (.int .i64 qq) := grown_cell hg1 (by simp)
      have ap6 : w1.cell? ⟨w.heap.size, 6, none⟩ = some (.int .i64 ps) := grown_cell hg1 (by simp)
      have aq6 : w1.cell? ⟨w.heap.size + 1, 6, none⟩ = some (.int .i64 qs) := grown_cell hg1 (by simp)
      clear hg1
      go_wp2_with fail
      refine (onPlane_no ⟨qt, qx, qy, qz, qp, qq, qs⟩ H2.out _).mono ?_; rintro x w2 ⟨rfl, hg1⟩
      have G2 := grown_trans G1 hg1
      clear hg1 G1
      go_wp2_with fail
      go_ret2
      exact ⟨rfl, G2⟩
  · have hv : (n, e) = (0, 9) := by rw [← h.out]; unfold stepE; rw [if_neg (fun h => h1 h.1)]
    simp only [Prod.mk.injEq] at hv
    obtain ⟨rfl, rfl⟩ := hv
    have H1 := Lib.hid h1
    clear h1 h
    obtain ⟨pt, px, py, pz, pp, pq, ps⟩ := p
    obtain ⟨qt, qx, qy, qz, qp, qq, qs⟩ := q
    go_enter Try.func45, Try.ntmps45
    go_wp2_with fail
    refine (onPlane_no ⟨pt, px, py, pz, pp, pq, ps⟩ H1.out _).mono ?_; rintro x w1 ⟨rfl, hg1⟩
    have G1 := grown_trans (grown_trans (World.grownBy_alloc w (.cells #[.int .i64 pt, .int .i64 px, .int .i64 py, .int .i64 pz, .int .i64 pp, .int .i64 pq, .int .i64 ps] 28) none) (World.grownBy_alloc _ (.cells #[.int .i64 qt, .int .i64 qx, .int .i64 qy, .int .i64 qz, .int .i64 qp, .int .i64 qq, .int .i64 qs] 28) none)) hg1
    clear hg1
    go_wp2_with fail
    go_ret2
    exact ⟨rfl, G1⟩
end Go.Proofs.Ytjcdfgdnpmogoaa
