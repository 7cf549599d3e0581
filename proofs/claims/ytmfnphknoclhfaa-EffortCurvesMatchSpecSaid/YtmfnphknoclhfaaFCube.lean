/- The contracts of cube and cubeRoot. -/
import Derived.Test.YtmfnphknoclhfaaFSearch
import Derived.Test.YtmfnphknoclhfaaFRow
import Derived.Test.YtmfnphknoclhfaaFProd
import Derived.BigQuiet
namespace Go.Proofs.Ytmfnphknoclhfaa
open Go.RowKit

theorem cube_bd {n : Int} (h0 : 0 ≤ n) (h1 : n ≤ 10001) : (0 ≤ n * n ∧ n * n ≤ 100020001) ∧ 0 ≤ n * n * n ∧ n * n * n ≤ 1000300030001 := by
  have a := prod_bd h0 h1 h0 h1
  have b := prod_bd (a := n * n) (b := n) (A := 100020001) (B := 10001) a.1 (by omega) h0 h1
  exact ⟨⟨a.1, by omega⟩, b.1, by omega⟩
theorem cube_mono {a b : Int} (h0 : 0 ≤ a) (h : a ≤ b) : a * a * a ≤ b * b * b := by
  have h1 : a * a ≤ b * b := Int.mul_le_mul h h h0 (by omega)
  exact Int.mul_le_mul h1 h h0 (Int.mul_nonneg (by omega) (by omega))

theorem cube_is (n : Int) (h0 : 0 ≤ n) (h1 : n ≤ 10001) (w : World) {v : Int} (hv : Hid (n * n * n = v)) :
    Calls Try.prog 92 #[.int .i64 n] w fun e w' => e = .returned (.int .i64 v) ∧ w = w' := by
  obtain ⟨⟨a0, a1⟩, b0, b1⟩ := cube_bd h0 h1
  obtain ⟨X, hX⟩ : ∃ X, n * n = X := ⟨_, rfl⟩
  have q := hv.out
  rw [hX] at a0 a1 b0 b1 q
  have r1 : IntKind.i64.wrap (n * n) = X := by rw [hX]; exact IntWalk.i64_in _ (by omega)
  have r2 : IntKind.i64.wrap (X * n) = v := by rw [← q]; exact IntWalk.i64_in _ (by omega)
  clear hX hv q b0 b1
  go_enter Try.func92, Try.ntmps92
  go_wp2_with fail
  go_ret
  exact ⟨rfl, rfl⟩

/-- Is the cube of the next number greater? -/
def rootP (n : Int) (i : Nat) : Bool := decide (n < ((i : Int) + 1) * ((i : Int) + 1) * ((i : Int) + 1))
theorem rootP_up {n : Int} {a b : Nat} (h : a ≤ b) (ha : rootP n a = true) : rootP n b = true := by
  unfold rootP at *
  have := cube_mono (a := (a : Int) + 1) (b := (b : Int) + 1) (by omega) (by omega)
  simp only [decide_eq_true_eq] at *
  omega

theorem cubeRoot1_is (i : Nat) (hi : i < 10000) (bn : Nat) (n : Int) (W : World) (cn : W.cell? ⟨bn, 0, none⟩ = some (.int .i64 n)) :
    Calls Try.prog 148 (#[.int .i64 i] ++ #[.pointer (some ⟨bn, 0, none⟩)]) W fun e w' => e = .returned (.bool (rootP n i)) ∧ W.grownBy w' none := by
  obtain ⟨v, hv⟩ : ∃ v, ((i : Int) + 1) * ((i : Int) + 1) * ((i : Int) + 1) = v := ⟨_, rfl⟩
  have HV := Lib.hid hv
  have HR : Hid (rootP n i = decide (n < v)) := by show _ = _; unfold rootP; rw [hv]
  have r1 : IntKind.i64.wrap ((i : Int) + 1) = (i : Int) + 1 := IntWalk.i64_in _ (by omega)
  clear hv
  go_enter Try.func148, Try.ntmps148
  go_wp2_with fail
  go_quiet (exact Calls.quiet_of_same ((cube_is ((i : Int) + 1) (by omega) (by omega) _ HV).mono fun _ _ h => ⟨h.1, h.2.symm⟩))
  go_wp2_with fail
  go_ret
  exact ⟨ret_bool (by rw [HR.out]), grown_drewN _ _ _⟩

theorem cubeRoot_is (n : Int) {m : Nat} (hm : Hid (TurnsAt (rootP n) 10000 m)) (w : World) :
    Calls Try.prog 93 #[.int .i64 n] w fun e w' => e = .returned (.int .i64 m) ∧ w.grownBy w' none := by
  have hmf : ∀ (fn : Fn) (first cap : Array Value) (w : World), (Instr.makeFunc fn first cap).run Try.prog w = .ok (.func fn first cap) w := fun _ _ _ _ => rfl
  have eg : ∀ args w, (callFunc 148 args).run Try.prog w = .ok (.enter 148 args) w := enters_of Try.func148 (by kernel_rfl) rfl
  go_enter Try.func93, Try.ntmps93
  go_wp2_with fail
  have hsr := search_is 148 #[.pointer (some ⟨w.heap.size, 0, none⟩)] 10000 (rootP n) m (w.alloc (.cells #[.int .i64 n] 3)) eg (by omega)
    (fun V i hg hi => cubeRoot1_is i hi _ n V (grown_cell hg (by go_simp))) hm
  refine hsr.mono ?_; rintro e w2 ⟨rfl, hg2⟩
  have K2 := Lib.hid (grown_trans (World.grownBy_alloc w (.cells #[.int .i64 n] 3) none) hg2)
  clear hsr hg2
  go_wp2_with fail
  go_ret
  exact ⟨rfl, K2.out⟩

end Go.Proofs.Ytmfnphknoclhfaa
