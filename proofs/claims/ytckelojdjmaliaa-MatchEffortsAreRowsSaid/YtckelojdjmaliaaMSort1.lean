/- The stable sort of a list of at most one passing. -/
import Derived.Test.YtckelojdjmaliaaMPass
namespace Go.Proofs.Ytckelojdjmaliaa
open Go.RowKit
set_option linter.unusedSimpArgs false
set_option linter.unusedVariables false

theorem ins1_is (ao : Option Addr) (n cap : Nat) (hn : n ≤ 1) (c : Value) (w : World) :
    Calls Try.prog 115 #[.slice ao n cap, .int .i64 0, .int .i64 n, c] w fun e w' => e = .returned (.tuple #[]) ∧ w = w' := by
  have h1 : ¬ (1 : Int) < (n : Int) := by omega
  have h2 : decide ((1 : Int) < (n : Int)) = false := decide_eq_false h1
  go_enter Try.func115, Try.ntmps115
  go_wp2_with fail
  go_loopw [8] (fun iv wr => iv = .int .i64 1 ∧ w = wr) (fun _ _ => 0)
  case atStart => exact ⟨rfl, rfl⟩
  case round =>
    obtain ⟨rfl, rfl⟩ := hrel
    go_wp2_with fail
    go_end0
    exact ⟨rfl, rfl⟩

theorem stable1_is (ao : Option Addr) (n cap : Nat) (hn : n ≤ 1) (c : Value) (w : World) :
    Calls Try.prog 97 #[.slice ao n cap, .int .i64 n, c] w fun e w' => e = .returned (.tuple #[]) ∧ w = w' := by
  have h1 : ¬ (20 : Int) ≤ (n : Int) := by omega
  have h2 : decide ((20 : Int) ≤ (n : Int)) = false := decide_eq_false h1
  have h3 : ¬ (20 : Int) < (n : Int) := by omega
  have h4 : decide ((20 : Int) < (n : Int)) = false := decide_eq_false h3
  go_enter Try.func97, Try.ntmps97
  go_wp2_with fail
  go_loopw [7, 8] (fun av bv wr => av = .int .i64 0 ∧ bv = .int .i64 20 ∧ w = wr) (fun _ _ _ => 0)
  case atStart => exact ⟨rfl, rfl, rfl⟩
  case round =>
    obtain ⟨rfl, rfl, rfl⟩ := hrel
    go_wp2_with fail
    refine (ins1_is ao n cap hn c _).mono ?_; rintro e w1 ⟨rfl, rfl⟩
    go_wp2_with fail
    go_loopw [6] (fun iv wr => iv = .int .i64 20 ∧ w = wr) (fun _ _ => 0)
    case atStart => exact ⟨rfl, rfl⟩
    case round =>
      obtain ⟨rfl, rfl⟩ := hrel
      go_wp2_with fail
      go_end0
      exact ⟨rfl, rfl⟩

theorem sort_short {l : List Psg} (hl : l.length ≤ 1) : SortOk l l := by
  intro W base v ho
  obtain ⟨ao, cap, hv, _, _, _⟩ := own_rows (cs := psgCs) (fun _ => rfl) ho
  subst hv
  have HO := Lib.hid ho
  clear ho
  obtain ⟨n, hn⟩ : ∃ n, l.length = n := ⟨_, rfl⟩
  have HN := Lib.hid hn
  rw [hn] at hl ⊢
  clear hn
  go_enter Try.func77, Try.ntmps77
  go_wp2_with fail
  refine (stable1_is ao n cap hl _ _).mono ?_; rintro e w1 ⟨rfl, rfl⟩
  go_wp2_with fail
  go_end0
  refine ⟨rfl, ?_, World.grownBy.refl _ _⟩
  have q := HO.out
  rw [HN.out] at q; exact q
end Go.Proofs.Ytckelojdjmaliaa
