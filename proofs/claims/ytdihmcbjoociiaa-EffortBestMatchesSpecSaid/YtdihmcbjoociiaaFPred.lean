/- The contracts of between and doubled. -/
import Derived.Test.YtdihmcbjoociiaaFRStep
import Derived.Test.YtdihmcbjoociiaaFPairs
import Derived.BigQuiet
namespace Go.Proofs.Ytdihmcbjoociiaa
open Go.RowKit

theorem prod_bd {a b A B : Int} (a0 : 0 ≤ a) (a1 : a ≤ A) (b0 : 0 ≤ b) (b1 : b ≤ B) : 0 ≤ a * b ∧ a * b ≤ A * B :=
  ⟨Int.mul_nonneg a0 b0, Int.le_trans (Int.mul_le_mul_of_nonneg_right a1 b0) (Int.mul_le_mul_of_nonneg_left b1 (by omega))⟩
theorem ediv_bd {n s : Int} (h0 : 0 ≤ n) (hs : 1 ≤ s) : 0 ≤ n / s ∧ n / s ≤ n := ⟨Int.ediv_nonneg h0 (by omega), Int.ediv_le_self _ h0⟩

set_option maxHeartbeats 1600000 in
theorem between_is (a b : RaceV) (way : Int) (ha : 0 ≤ a.way) (hab : a.way < b.way) (hb : b.way ≤ 30000000) (hs0 : 0 ≤ a.sec) (hs : a.sec ≤ b.sec) (hs1 : b.sec ≤ 300000000000) (hw0 : a.way ≤ way) (hw : way ≤ 10000000) (w : World) {v : Int} (hv : Hid (btwR a b way = v)) :
    Calls Try.prog 131 #[.agg #[.int .i64 a.way, .int .i64 a.sec], .agg #[.int .i64 b.way, .int .i64 b.sec], .int .i64 way] w fun e w' => e = .returned (.int .i64 v) ∧ w.grownBy w' none := by
  have q := hv.out
  unfold btwR at q
  obtain ⟨aw, az⟩ := a
  obtain ⟨bw, bs⟩ := b
  simp only at ha hab hb hs0 hs hs1 hw0 q
  obtain ⟨x0, x1⟩ := prod_bd (a := way - aw) (b := bs - az) (A := 10000000) (B := 300000000000) (by omega) (by omega) (by omega) (by omega)
  obtain ⟨X, hX⟩ : ∃ X, (way - aw) * (bs - az) = X := ⟨_, rfl⟩
  rw [hX] at q x0 x1
  obtain ⟨d0, d1⟩ := ediv_bd x0 (by omega : 1 ≤ bw - aw)
  obtain ⟨D, hD⟩ : ∃ D, X / (bw - aw) = D := ⟨_, rfl⟩
  have hDt : X.tdiv (bw - aw) = D := by rw [Int.tdiv_eq_ediv_of_nonneg x0]; exact hD
  rw [hD] at q d0 d1
  have rx : IntKind.i64.wrap ((way - aw) * (bs - az)) = X := by rw [hX]; exact IntWalk.i64_in _ (by omega)
  have x2 : X ≤ 3000000000000000000 := by omega
  clear hX x1 hv
  have ne0 : ¬ bw - aw = 0 := by omega
  have ne1 : (bw - aw == 0) = false := by rw [beq_eq_false_iff_ne]; omega
  have Q := Lib.hid q
  clear q
  have hG : Hid (w.grownBy ((w.alloc (.cells #[.int .i64 aw, .int .i64 az] 118)).alloc (.cells #[.int .i64 bw, .int .i64 bs] 118)) none) := grown_trans (World.grownBy_alloc _ _ _) (World.grownBy_alloc _ _ _)
  go_enter Try.func131, Try.ntmps131
  go_wp2_with fail
  go_quiet (fail)
  go_wp2_with fail
  go_ret
  exact ⟨ret_int (by have := Q.out; omega), grown_trans hG.out (grown_drewN _ _ _)⟩

set_option maxHeartbeats 1600000 in
theorem doubled_is (a : RaceV) (s : Int) (ha : 0 ≤ a.way) (ha1 : a.way ≤ 30000000) (hs0 : 0 ≤ a.sec) (hs1 : a.sec ≤ 300000000000) (s0 : 0 ≤ s) (s1 : s ≤ 200) (w : World) {u v : Int} (hu : Hid ((dblR a s).way = u)) (hv : Hid ((dblR a s).sec = v)) :
    Calls Try.prog 132 #[.agg #[.int .i64 a.way, .int .i64 a.sec], .int .i64 s] w fun e w' => e = .returned (.agg #[.int .i64 u, .int .i64 v]) ∧ w.grownBy w' none := by
  have q := hv.out
  have p := hu.out
  unfold dblR at q p
  obtain ⟨aw, az⟩ := a
  simp only at ha ha1 hs0 hs1 q p
  subst p
  obtain ⟨x0, x1⟩ := prod_bd (a := 2 * az) (b := s) (A := 600000000000) (B := 200) (by omega) (by omega) (by omega) (by omega)
  obtain ⟨X, hX⟩ : ∃ X, 2 * az * s = X := ⟨_, rfl⟩
  rw [hX] at q x0 x1
  have rx : IntKind.i64.wrap (2 * az * s) = X := by rw [hX]; exact IntWalk.i64_in _ (by omega)
  have x2 : X ≤ 200000000000000 := by omega
  have hDt : X.tdiv 1000 = X / 1000 := Int.tdiv_eq_ediv_of_nonneg x0
  clear hX x1 hv hu
  have Q := Lib.hid q
  clear q
  have _hG : Hid (w.grownBy (((w.alloc (.cells #[.int .i64 aw, .int .i64 az] 118)).alloc (.cells #[.int .i64 0, .int .i64 0] 118))) none) := grown_trans (World.grownBy_alloc _ _ _) (World.grownBy_alloc _ _ _)
  go_enter Try.func132, Try.ntmps132
  go_wp2_with fail
  refine bodyPost_ret (v := .agg #[.int .i64 (2 * aw), .int .i64 (2 * az + X / 1000)]) (by simp [results, Try.results132, go_sem]) rfl ⟨by rw [Q.out], ?_⟩
  exact grown_trans (World.grownBy_alloc _ _ _) (World.grownBy_alloc _ _ _)

end Go.Proofs.Ytdihmcbjoociiaa
