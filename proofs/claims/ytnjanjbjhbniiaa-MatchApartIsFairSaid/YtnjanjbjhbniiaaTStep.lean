/- The contracts of one step, of both sides: its length. -/
import Derived.Test.YtnjanjbjhbniiaaTRoot
namespace Go.Proofs.Ytnjanjbjhbniiaa
open Go.RowKit

/-- A place of the plane. -/
def inPlane (x : Smp) : Prop := (-100000000 ≤ x.x ∧ x.x ≤ 100000000) ∧ (-100000000 ≤ x.y ∧ x.y ≤ 100000000)
instance (x : Smp) : Decidable (inPlane x) := by unfold inPlane; exact inferInstance
def sqP (p q : Smp) : Int := (q.x - p.x) * (q.x - p.x) + (q.y - p.y) * (q.y - p.y)
noncomputable def rootI (n : Int) : Int := (Classical.choose (root_exists n.toNat) : Nat)
theorem rootI_is (n : Int) : ∃ r : Nat, rootI n = r ∧ IsRoot n.toNat r := ⟨_, rfl, Classical.choose_spec (root_exists n.toNat)⟩
theorem root_one {n r s : Nat} (h : IsRoot n r) (h' : IsRoot n s) : r = s := by
  have h1 := (root_le h (x := s)).1 h'.1
  have h2 := (root_le h' (x := r)).1 h.1
  omega
noncomputable def stepW (p q : Smp) : Int := rootI (sqP p q)
noncomputable def stepE (p q : Smp) : Int × Int := if inPlane p ∧ inPlane q then (stepW p q, 0) else (0, 9)

theorem sq_bd {a : Int} (h0 : -200000000 ≤ a) (h1 : a ≤ 200000000) : 0 ≤ a * a ∧ a * a ≤ 40000000000000000 := by
  rcases Int.le_total 0 a with h | h
  · exact ⟨Int.mul_nonneg h h, Int.le_trans (Int.mul_le_mul h1 h1 h (by omega)) (by omega)⟩
  · have e : a * a = (-a) * (-a) := by rw [Int.neg_mul_neg]
    rw [e]
    have hm : -a * -a ≤ 200000000 * 200000000 := Int.mul_le_mul (by omega) (by omega) (by omega) (by omega)
    exact ⟨Int.mul_nonneg (by omega) (by omega), hm⟩
theorem sqP_bd {p q : Smp} (h : inPlane p) (h' : inPlane q) : 0 ≤ sqP p q ∧ sqP p q ≤ 80000000000000000 := by
  unfold inPlane at h h'
  have h1 := sq_bd (a := q.x - p.x) (by omega) (by omega)
  have h2 := sq_bd (a := q.y - p.y) (by omega) (by omega)
  unfold sqP; omega
theorem stepW_bd {p q : Smp} (h : inPlane p) (h' : inPlane q) : 0 ≤ stepW p q ∧ stepW p q ≤ 300000000 := by
  obtain ⟨r, hr, hi⟩ := rootI_is (sqP p q)
  have hb := sqP_bd h h'
  unfold stepW
  rw [hr]
  refine ⟨by omega, ?_⟩
  rcases Nat.lt_or_ge 300000000 r with hc | hc
  · have h1 := Nat.mul_le_mul (Nat.le_of_lt hc) (Nat.le_of_lt hc)
    have h2 := hi.1
    omega
  · omega

set_option maxHeartbeats 800000 in
theorem square_is (p q : Smp) (hp : inPlane p) (hq : inPlane q) (w : World) {n : Int} (h : Hid (sqP p q = n)) :
    Calls Try.prog 119 #[.agg #[.int .i64 p.t, .int .i64 p.x, .int .i64 p.y, .int .i64 p.z, .int .i64 p.p, .int .i64 p.q, .int .i64 p.s], .agg #[.int .i64 q.t, .int .i64 q.x, .int .i64 q.y, .int .i64 q.z, .int .i64 q.p, .int .i64 q.q, .int .i64 q.s]] w fun e w' => e = .returned (.int .i64 n) ∧ w.grownBy w' none := by
  obtain ⟨pt, px, py, pz, pp, pq, ps⟩ := p
  obtain ⟨qt, qx, qy, qz, qp, qq, qs⟩ := q
  unfold inPlane at hp hq
  simp only at hp hq
  have hn : (qx - px) * (qx - px) + (qy - py) * (qy - py) = n := h.out
  obtain ⟨dx, hdx⟩ : ∃ d, qx - px = d := ⟨_, rfl⟩
  obtain ⟨dy, hdy⟩ : ∃ d, qy - py = d := ⟨_, rfl⟩
  rw [hdx, hdy] at hn
  have bx := sq_bd (a := dx) (by omega) (by omega)
  have by_ := sq_bd (a := dy) (by omega) (by omega)
  have rx : IntKind.i64.wrap (qx - px) = dx := by rw [hdx]; exact IntWalk.i64_in _ (by omega)
  have ry : IntKind.i64.wrap (qy - py) = dy := by rw [hdy]; exact IntWalk.i64_in _ (by omega)
  obtain ⟨X, hX⟩ : ∃ d, dx * dx = d := ⟨_, rfl⟩
  obtain ⟨Y, hY⟩ : ∃ d, dy * dy = d := ⟨_, rfl⟩
  rw [hX, hY] at hn
  rw [hX] at bx
  rw [hY] at by_
  have mx : IntKind.i64.wrap (dx * dx) = X := by rw [hX]; exact IntWalk.i64_in _ (by omega)
  have my : IntKind.i64.wrap (dy * dy) = Y := by rw [hY]; exact IntWalk.i64_in _ (by omega)
  obtain ⟨bx0, bx1⟩ := bx
  obtain ⟨by0, by1⟩ := by_
  have HN := Lib.hid hn
  have HX := Lib.hid hX; have HY := Lib.hid hY; have HDX := Lib.hid hdx; have HDY := Lib.hid hdy; have HP := Lib.hid hp; have HQ := Lib.hid hq
  clear hX hY hdx hdy hp hq h hn
  go_enter Try.func119, Try.ntmps119
  go_wp2_with fail
  go_quiet (fail)
  go_wp2_with fail
  go_ret
  exact ⟨ret_int HN.out, grown_trans (grown_trans (World.grownBy_alloc _ _ _) (World.grownBy_alloc _ _ _)) (grown_drewN _ _ _)⟩

set_option maxHeartbeats 800000 in
theorem way_is (k : Int) (p q : Smp) (hp : inPlane p) (hq : inPlane q) (w : World) {n : Int} (h : Hid (stepW p q = n)) :
    Calls Try.prog 108 #[.agg #[.int .i64 k, .int .i64 p.t, .int .i64 p.x, .int .i64 p.y, .int .i64 p.z, .int .i64 p.p, .int .i64 p.q, .int .i64 p.s, .int .i64 q.t, .int .i64 q.x, .int .i64 q.y, .int .i64 q.z, .int .i64 q.p, .int .i64 q.q, .int .i64 q.s]] w fun e w' => e = .returned (.int .i64 n) ∧ w.grownBy w' none := by
  have hb := sqP_bd hp hq
  obtain ⟨R, hR, hi⟩ := rootI_is (sqP p q)
  obtain ⟨m, hm⟩ : ∃ m : Nat, (m : Int) = sqP p q := ⟨(sqP p q).toNat, by omega⟩
  have HM : Hid (sqP p q = (m : Int)) := hm.symm
  have hmt : (sqP p q).toNat = m := by omega
  rw [hmt] at hi
  have HI := Lib.hid hi
  have hml : m < 9223372036854775808 := by omega
  have HML := Lib.hid hml
  have HV : Hid ((R : Int) = n) := by show _ = _; rw [← h.out, ← hR]; rfl
  have HP := Lib.hid hp; have HQ := Lib.hid hq
  clear hb hR hi hm hmt hp hq h hml
  obtain ⟨pt, px, py, pz, pp, pq, ps⟩ := p
  obtain ⟨qt, qx, qy, qz, qp, qq, qs⟩ := q
  simp only
  go_enter Try.func108, Try.ntmps108
  go_wp2_with fail
  refine (square_is ⟨pt, px, py, pz, pp, pq, ps⟩ ⟨qt, qx, qy, qz, qp, qq, qs⟩ HP.out HQ.out _ HM).mono ?_; rintro e w1 ⟨rfl, hg1⟩
  have G1 := grown_trans (World.grownBy_alloc w (.cells #[.int .i64 k, .int .i64 pt, .int .i64 px, .int .i64 py, .int .i64 pz, .int .i64 pp, .int .i64 pq, .int .i64 ps, .int .i64 qt, .int .i64 qx, .int .i64 qy, .int .i64 qz, .int .i64 qp, .int .i64 qq, .int .i64 qs] 148) none) hg1
  clear hg1
  go_wp2_with fail
  refine (root_any m R HML.out HI _).mono ?_; rintro e w2 ⟨rfl, rfl⟩
  go_wp2_with fail
  go_ret
  exact ⟨ret_int HV.out, G1⟩
end Go.Proofs.Ytnjanjbjhbniiaa
