/- The contract of the reference's (sums).window. -/
import Derived.Test.YtmfnphknoclhfaaFSums
namespace Go.Proofs.Ytmfnphknoclhfaa
open Go.RowKit

set_option maxRecDepth 100000 in
set_option maxHeartbeats 1600000 in
theorem window_is (a1 a2 : Option Addr) (n c1 c2 : Nat) (F G : Nat → Int) (p q : Nat) (hp : p < n) (hq : q < n) (hn : (n : Int) ≤ 1000001) (w : World) (h1 : FInts w a1 n F) (h2 : FInts w a2 n G) {u v x y : Int} (hu : Hid (F p = u)) (hv : Hid (F q = v)) (hx : Hid (G p = x)) (hy : Hid (G q = y)) (ub : 0 ≤ u ∧ u ≤ 1000000000000000) (vb : 0 ≤ v ∧ v ≤ 1000000000000000) :
    Calls Try.prog 128 #[.agg #[.slice a1 n c1, .slice a2 n c2], .int .i64 p, .int .i64 q] w fun e w' => e = .returned (.tuple #[.int .i64 (v - u), .bool (decide (y = x))]) ∧ w.grownBy w' none := by
  obtain ⟨g1, rfl, k1⟩ := h1.at (by omega)
  obtain ⟨g2, rfl, k2⟩ := h2.at (by omega)
  have GA := World.grownBy_alloc w (.cells #[.slice (some ⟨g1, 0, none⟩) n c1, .slice (some ⟨g2, 0, none⟩) n c2] 164) none
  have c0 := grown_cell GA (k1 p hp); have c1 := grown_cell GA (k1 q hq)
  have c2 := grown_cell GA (k2 p hp); have c3 := grown_cell GA (k2 q hq)
  rw [hu.out] at c0; rw [hv.out] at c1; rw [hx.out] at c2; rw [hy.out] at c3
  obtain ⟨u0, u1⟩ := ub; obtain ⟨v0, v1⟩ := vb
  have p0 : (0 : Int) ≤ (p : Int) := by omega
  have q0 : (0 : Int) ≤ (q : Int) := by omega
  have p1 : (p : Int) < (n : Int) := by omega
  have q1 : (q : Int) < (n : Int) := by omega
  have HGA := Lib.hid GA
  clear h1 h2 k1 k2 hu hv hx hy GA
  go_enter Try.func128, Try.ntmps128
  go_wp2_with fail
  go_quiet (fail)
  go_wp2_with fail
  go_ret2
  first
    | exact ⟨rfl, grown_trans HGA.out (grown_drewN _ _ _)⟩
    | (refine ⟨?_, grown_trans HGA.out (grown_drewN _ _ _)⟩; by_cases h : y = x <;> simp [h])
end Go.Proofs.Ytmfnphknoclhfaa
