/- The reference's field and setField. -/
import Derived.Test.YtgkhhfojioepgaaTFillP
import Derived.Deep.CutBlock
namespace Go.Proofs.Ytgkhhfojioepgaa
open Go.RowKit
set_option linter.unusedSimpArgs false
set_option linter.unusedVariables false

theorem rfield_is (c : Nat) (hc : c ≤ 2) (x : Smp) (w : World) : Calls Try.prog 95 #[.agg #[.int .i64 x.t, .int .i64 x.x, .int .i64 x.y, .int .i64 x.z, .int .i64 x.p, .int .i64 x.q, .int .i64 x.s], .int .i64 (c : Int)] w fun e w' => e = .returned (.int .i64 (smpGet (c + 4) x)) ∧ w.grownBy w' none := by
  have h : c = 0 ∨ c = 1 ∨ c = 2 := by omega
  clear hc
  rcases h with rfl | rfl | rfl
  · go_enter Try.func95, Try.ntmps95
    go_wp2_with fail
    go_ret
    exact ⟨rfl, World.grownBy_alloc _ _ _⟩
  · go_enter Try.func95, Try.ntmps95
    go_wp2_with fail
    go_ret
    exact ⟨rfl, World.grownBy_alloc _ _ _⟩
  · go_enter Try.func95, Try.ntmps95
    go_wp2_with fail
    go_ret
    exact ⟨rfl, World.grownBy_alloc _ _ _⟩
theorem rset_is (c : Nat) (hc : c ≤ 2) (g o : Nat) (v : Int) (w : World) {z : Value} (hz : w.cell? ⟨g, o + (c + 4), none⟩ = some z) (hf : w.frozen? ⟨g, o + (c + 4), none⟩ = false) :
    Calls Try.prog 96 #[.pointer (some ⟨g, o, none⟩), .int .i64 (c : Int), .int .i64 v] w fun e w' => e = .returned (.tuple #[]) ∧ w' = w.setCell ⟨g, o + (c + 4), none⟩ (.int .i64 v) := by
  have h : c = 0 ∨ c = 1 ∨ c = 2 := by omega
  clear hc
  rcases h with rfl | rfl | rfl
  · simp only [Nat.zero_add] at hz hf ⊢
    go_enter Try.func96, Try.ntmps96
    go_wp2_with fail
    exact bodyPost_end (results_none rfl _ _ _) rfl ⟨rfl, rfl⟩
  · simp only [Nat.reduceAdd] at hz hf ⊢
    go_enter Try.func96, Try.ntmps96
    go_wp2_with fail
    exact bodyPost_end (results_none rfl _ _ _) rfl ⟨rfl, rfl⟩
  · simp only [Nat.reduceAdd] at hz hf ⊢
    go_enter Try.func96, Try.ntmps96
    go_wp2_with fail
    exact bodyPost_end (results_none rfl _ _ _) rfl ⟨rfl, rfl⟩
end Go.Proofs.Ytgkhhfojioepgaa
