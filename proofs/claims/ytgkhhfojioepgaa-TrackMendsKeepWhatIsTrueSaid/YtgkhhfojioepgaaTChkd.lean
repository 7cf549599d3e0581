/- checked, of both sides. -/
import Derived.Test.YtgkhhfojioepgaaBaseE
import Derived.Test.YtgkhhfojioepgaaBaseC
import Derived.Test.YtgkhhfojioepgaaBaseB
namespace Go.Proofs.Ytgkhhfojioepgaa
open Go.RowKit
set_option linter.unusedSimpArgs false
set_option linter.unusedVariables false

theorem act0_new (N : Nat) (w : World) : ActNew N w (.agg #[.string ⟨#[]⟩, .int .i64 0, .int .i64 0, .slice none 0 0, .slice none 0 0, .slice none 0 0]) act0 := by
  have q : ∀ a : Addr, ¬ ((none : Option Addr) = some a) := fun a h => by simp at h
  exact ⟨none, 0, none, 0, none, 0, rfl, act0_at w, fun p h => absurd h (q p), fun p h => absurd h (q p), fun p h => absurd h (q p)⟩

set_option maxRecDepth 100000 in
set_option maxHeartbeats 1600000 in
theorem checked_any (a : Act) (w : World) (ha : ActAt w a) {N : Nat} (hf : ActFar a N) {E : Int} (hE : Hid (chkE a = E)) :
    Calls Try.prog 79 #[a.val] w fun e w' => (∃ v, e = .returned (.tuple #[v, .int .i64 E]) ∧ ActNew N w' v (if E = 0 then a else act0)) ∧ w.grownBy w' none := by
  obtain ⟨nm, sp, st, so, sc, ss, lo, lc, ls, to_, tc, ts⟩ := a
  simp only [Act.val] at *
  have HA := Lib.hid ha
  clear ha
  by_cases h0 : E = 0
  · rw [if_pos h0]
    subst h0
    have M0 := Lib.hid (ClB.new w #[.string nm, .int .i64 sp, .int .i64 st, .slice so ss.length sc, .slice lo ls.length lc, .slice to_ ts.length tc] #[.string ⟨#[]⟩, .int .i64 0, .int .i64 0, .slice none 0 0, .slice none 0 0, .slice none 0 0])
    go_enter Try.func79, Try.ntmps79
    go_wp2_with fail
    refine (check_any ⟨nm, sp, st, so, sc, ss, lo, lc, ls, to_, tc, ts⟩ _ (HA.out.grown M0.out.g) hE).mono ?_; rintro e w1 ⟨rfl, hg1⟩
    have M1 := Lib.hid (M0.out.grown hg1)
    clear hg1 M0
    have u0 := block_cell M1.out.a 0 _ rfl
    have u1 := block_cell M1.out.a 1 _ rfl
    have u2 := block_cell M1.out.a 2 _ rfl
    have u3 := block_cell M1.out.a 3 _ rfl
    have u4 := block_cell M1.out.a 4 _ rfl
    have u5 := block_cell M1.out.a 5 _ rfl
    have z0 := block_cell M1.out.z 0 _ rfl
    have y0 := block_free (k := 0) M1.out.z
    have z1 := block_cell M1.out.z 1 _ rfl
    have y1 := block_free (k := 1) M1.out.z
    have z2 := block_cell M1.out.z 2 _ rfl
    have y2 := block_free (k := 2) M1.out.z
    have z3 := block_cell M1.out.z 3 _ rfl
    have y3 := block_free (k := 3) M1.out.z
    have z4 := block_cell M1.out.z 4 _ rfl
    have y4 := block_free (k := 4) M1.out.z
    have z5 := block_cell M1.out.z 5 _ rfl
    have y5 := block_free (k := 5) M1.out.z
    go_wp2_with fail
    refine bodyPost_ret (v := .tuple #[.agg #[.string nm, .int .i64 sp, .int .i64 st, .slice so ss.length sc, .slice lo ls.length lc, .slice to_ ts.length tc], .int .i64 0]) (by simp [results, Try.results79, go_sem, z0, z1, z2, z3, z4, z5]) rfl ⟨⟨_, rfl, so, sc, lo, lc, to_, tc, rfl, ?_, hf⟩, ((((((M1.out.setZ 0 _).setZ 1 _).setZ 2 _).setZ 3 _).setZ 4 _).setZ 5 _).g⟩
    exact HA.out.grown ((((((M1.out.setZ 0 _).setZ 1 _).setZ 2 _).setZ 3 _).setZ 4 _).setZ 5 _).g
  · rw [if_neg h0]
    have hne : (E != 0) = true := by simpa using h0
    clear h0
    have M0 := Lib.hid (ClB.new w #[.string nm, .int .i64 sp, .int .i64 st, .slice so ss.length sc, .slice lo ls.length lc, .slice to_ ts.length tc] #[.string ⟨#[]⟩, .int .i64 0, .int .i64 0, .slice none 0 0, .slice none 0 0, .slice none 0 0])
    go_enter Try.func79, Try.ntmps79
    go_wp2_with fail
    refine (check_any ⟨nm, sp, st, so, sc, ss, lo, lc, ls, to_, tc, ts⟩ _ (HA.out.grown M0.out.g) hE).mono ?_; rintro e w1 ⟨rfl, hg1⟩
    have M1 := Lib.hid (M0.out.grown hg1)
    clear hg1 M0
    have z0 := block_cell M1.out.z 0 _ rfl
    have y0 := block_free (k := 0) M1.out.z
    have z1 := block_cell M1.out.z 1 _ rfl
    have y1 := block_free (k := 1) M1.out.z
    have z2 := block_cell M1.out.z 2 _ rfl
    have y2 := block_free (k := 2) M1.out.z
    have z3 := block_cell M1.out.z 3 _ rfl
    have y3 := block_free (k := 3) M1.out.z
    have z4 := block_cell M1.out.z 4 _ rfl
    have y4 := block_free (k := 4) M1.out.z
    have z5 := block_cell M1.out.z 5 _ rfl
    have y5 := block_free (k := 5) M1.out.z
    go_wp2_with fail
    refine bodyPost_ret (v := .tuple #[.agg #[.string ⟨#[]⟩, .int .i64 0, .int .i64 0, .slice none 0 0, .slice none 0 0, .slice none 0 0], .int .i64 E]) (by simp [results, Try.results79, go_sem, z0, z1, z2, z3, z4, z5]) rfl ⟨⟨_, rfl, act0_new _ _⟩, ((((((M1.out.setZ 0 _).setZ 1 _).setZ 2 _).setZ 3 _).setZ 4 _).setZ 5 _).g⟩

set_option maxRecDepth 100000 in
set_option maxHeartbeats 1600000 in
theorem rchecked_any (a : Act) (w : World) (ha : ActAt w a) {N : Nat} (hf : ActFar a N) {E : Int} (hE : Hid (chkE a = E)) :
    Calls Try.prog 81 #[a.val] w fun e w' => (∃ v, e = .returned (.tuple #[v, .int .i64 E]) ∧ ActNew N w' v (if E = 0 then a else act0)) ∧ w.grownBy w' none := by
  obtain ⟨nm, sp, st, so, sc, ss, lo, lc, ls, to_, tc, ts⟩ := a
  simp only [Act.val] at *
  have HA := Lib.hid ha
  clear ha
  by_cases h0 : E = 0
  · rw [if_pos h0]
    subst h0
    have M0 := Lib.hid (ClB.new w #[.string nm, .int .i64 sp, .int .i64 st, .slice so ss.length sc, .slice lo ls.length lc, .slice to_ ts.length tc] #[.string ⟨#[]⟩, .int .i64 0, .int .i64 0, .slice none 0 0, .slice none 0 0, .slice none 0 0])
    go_enter Try.func81, Try.ntmps81
    go_wp2_with fail
    refine (rcheck_any ⟨nm, sp, st, so, sc, ss, lo, lc, ls, to_, tc, ts⟩ _ (HA.out.grown M0.out.g) hE).mono ?_; rintro e w1 ⟨rfl, hg1⟩
    have M1 := Lib.hid (M0.out.grown hg1)
    clear hg1 M0
    have u0 := block_cell M1.out.a 0 _ rfl
    have u1 := block_cell M1.out.a 1 _ rfl
    have u2 := block_cell M1.out.a 2 _ rfl
    have u3 := block_cell M1.out.a 3 _ rfl
    have u4 := block_cell M1.out.a 4 _ rfl
    have u5 := block_cell M1.out.a 5 _ rfl
    have z0 := block_cell M1.out.z 0 _ rfl
    have y0 := block_free (k := 0) M1.out.z
    have z1 := block_cell M1.out.z 1 _ rfl
    have y1 := block_free (k := 1) M1.out.z
    have z2 := block_cell M1.out.z 2 _ rfl
    have y2 := block_free (k := 2) M1.out.z
    have z3 := block_cell M1.out.z 3 _ rfl
    have y3 := block_free (k := 3) M1.out.z
    have z4 := block_cell M1.out.z 4 _ rfl
    have y4 := block_free (k := 4) M1.out.z
    have z5 := block_cell M1.out.z 5 _ rfl
    have y5 := block_free (k := 5) M1.out.z
    go_wp2_with fail
    refine bodyPost_ret (v := .tuple #[.agg #[.string nm, .int .i64 sp, .int .i64 st, .slice so ss.length sc, .slice lo ls.length lc, .slice to_ ts.length tc], .int .i64 0]) (by simp [results, Try.results81, go_sem, z0, z1, z2, z3, z4, z5]) rfl ⟨⟨_, rfl, so, sc, lo, lc, to_, tc, rfl, ?_, hf⟩, ((((((M1.out.setZ 0 _).setZ 1 _).setZ 2 _).setZ 3 _).setZ 4 _).setZ 5 _).g⟩
    exact HA.out.grown ((((((M1.out.setZ 0 _).setZ 1 _).setZ 2 _).setZ 3 _).setZ 4 _).setZ 5 _).g
  · rw [if_neg h0]
    have hne : (E != 0) = true := by simpa using h0
    clear h0
    have M0 := Lib.hid (ClB.new w #[.string nm, .int .i64 sp, .int .i64 st, .slice so ss.length sc, .slice lo ls.length lc, .slice to_ ts.length tc] #[.string ⟨#[]⟩, .int .i64 0, .int .i64 0, .slice none 0 0, .slice none 0 0, .slice none 0 0])
    go_enter Try.func81, Try.ntmps81
    go_wp2_with fail
    refine (rcheck_any ⟨nm, sp, st, so, sc, ss, lo, lc, ls, to_, tc, ts⟩ _ (HA.out.grown M0.out.g) hE).mono ?_; rintro e w1 ⟨rfl, hg1⟩
    have M1 := Lib.hid (M0.out.grown hg1)
    clear hg1 M0
    have z0 := block_cell M1.out.z 0 _ rfl
    have y0 := block_free (k := 0) M1.out.z
    have z1 := block_cell M1.out.z 1 _ rfl
    have y1 := block_free (k := 1) M1.out.z
    have z2 := block_cell M1.out.z 2 _ rfl
    have y2 := block_free (k := 2) M1.out.z
    have z3 := block_cell M1.out.z 3 _ rfl
    have y3 := block_free (k := 3) M1.out.z
    have z4 := block_cell M1.out.z 4 _ rfl
    have y4 := block_free (k := 4) M1.out.z
    have z5 := block_cell M1.out.z 5 _ rfl
    have y5 := block_free (k := 5) M1.out.z
    go_wp2_with fail
    refine bodyPost_ret (v := .tuple #[.agg #[.string ⟨#[]⟩, .int .i64 0, .int .i64 0, .slice none 0 0, .slice none 0 0, .slice none 0 0], .int .i64 E]) (by simp [results, Try.results81, go_sem, z0, z1, z2, z3, z4, z5]) rfl ⟨⟨_, rfl, act0_new _ _⟩, ((((((M1.out.setZ 0 _).setZ 1 _).setZ 2 _).setZ 3 _).setZ 4 _).setZ 5 _).g⟩

end Go.Proofs.Ytgkhhfojioepgaa
