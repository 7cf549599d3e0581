/- The contracts of a line's worth and of to. -/
import Derived.Test.YtgkhhfojioepgaaBaseA
import Derived.Test.YtgkhhfojioepgaaTClimbP
import Derived.IntWalk
namespace Go.Proofs.Ytgkhhfojioepgaa
open Go.RowKit
set_option linter.unusedSimpArgs false
set_option linter.unusedVariables false

theorem grown_set {w w1 : World} (h : w.grownBy w1 none) {b : Nat} (hb : w.heap.size ≤ b) (i : Nat) (v : Value) : w.grownBy (w1.setCell ⟨b, i, none⟩ v) none :=
  ⟨h.os, h.tape, h.output, by have := h.size; simp [World.setCell]; omega, fun k hk _ => by
    rw [Below.heap_setCell _ _ _ _ (by show k ≠ b; omega)]; exact h.block k hk (by simp)⟩
abbrev Ln.val (l : Ln) : Value := .agg #[.int .i64 l.up, .int .i64 l.down, .int .i64 l.turns, .int .i64 l.z]
/-- A line's numbers are not too great. -/
structure Ln.fits (l : Ln) : Prop where
  u0 : 0 ≤ l.up
  u1 : l.up ≤ 10000000000
  d0 : 0 ≤ l.down
  d1 : l.down ≤ 10000000000
  t0 : 0 ≤ l.turns
  t1 : l.turns ≤ 100000
  z0 : -100000 ≤ l.z
  z1 : l.z ≤ 100000
theorem prod_bd {th t : Int} (h0 : 0 ≤ th) (h1 : th ≤ 200000) (t0 : 0 ≤ t) (t1 : t ≤ 100000) : 0 ≤ th * t ∧ th * t ≤ 20000000000 := by
  refine ⟨Int.mul_nonneg h0 t0, ?_⟩
  have : th * t ≤ 200000 * 100000 := Int.mul_le_mul h1 t1 t0 (by omega)
  omega

theorem worth_is (l : Ln) (th : Int) (h0 : 0 ≤ th) (h1 : th ≤ 200000) (hf : l.fits) (w : World) {n : Int} (hn : Hid (l.worth th = n)) :
    Calls Try.prog 129 #[.agg #[.int .i64 l.up, .int .i64 l.down, .int .i64 l.turns, .int .i64 l.z], .int .i64 th] w fun e w' => e = .returned (.int .i64 n) ∧ w.grownBy w' none := by
  have hb := prod_bd h0 h1 hf.t0 hf.t1
  have hv := hn.out
  unfold Ln.worth at hv
  obtain ⟨u0, u1, d0, d1, t0, t1, z0, z1⟩ := hf
  obtain ⟨up, dn, tn, z⟩ := l
  simp only at *
  obtain ⟨P, hP⟩ : ∃ P, th * tn = P := ⟨_, rfl⟩
  rw [hP] at hb hv
  obtain ⟨b0, b1⟩ := hb
  have rp : IntKind.i64.wrap (th * tn) = P := by rw [hP]; exact IntWalk.i64_in _ (by omega)
  have HV := Lib.hid hv
  clear hv hP hn
  go_enter Try.func129, Try.ntmps129
  go_wp2
  go_ret
  exact ⟨ret_int HV.out, World.grownBy_alloc _ _ _⟩

theorem to_is (l : Ln) (z : Int) (hf : l.fits) (z0 : -100000 ≤ z) (z1 : z ≤ 100000) (w : World) {m : Ln} (hm : Hid (l.go z = m)) :
    Calls Try.prog 130 #[.agg #[.int .i64 l.up, .int .i64 l.down, .int .i64 l.turns, .int .i64 l.z], .int .i64 z] w fun e w' => e = .returned (.agg #[.int .i64 m.up, .int .i64 m.down, .int .i64 m.turns, .int .i64 m.z]) ∧ w.grownBy w' none := by
  obtain ⟨u0, u1, d0, d1, t0, t1, y0, y1⟩ := hf
  obtain ⟨up, dn, tn, lz⟩ := l
  by_cases c : lz < z
  · have hv : m = ⟨up + (z - lz), dn, tn, z⟩ := by rw [← hm.out]; exact go_up c
    clear hm
    subst hv
    simp only at *
    go_enter Try.func130, Try.ntmps130
    go_wp2
    refine bodyPost_ret (v := .agg #[.int .i64 (up + (z - lz)), .int .i64 dn, .int .i64 tn, .int .i64 z]) (by simp [results, Try.results130, go_sem]) rfl ⟨rfl, ?_⟩
    exact grown_trans (World.grownBy_alloc _ _ _) (World.grownBy_alloc _ _ _)
  · have hv : m = ⟨up, dn + (lz - z), tn, z⟩ := by rw [← hm.out]; exact go_down c
    clear hm
    subst hv
    simp only at *
    go_enter Try.func130, Try.ntmps130
    go_wp2
    refine bodyPost_ret (v := .agg #[.int .i64 up, .int .i64 (dn + (lz - z)), .int .i64 tn, .int .i64 z]) (by simp [results, Try.results130, go_sem]) rfl ⟨rfl, ?_⟩
    exact grown_trans (World.grownBy_alloc _ _ _) (World.grownBy_alloc _ _ _)
end Go.Proofs.Ytgkhhfojioepgaa
