/- The contract of sort.Search, for a question that is no at first and yes from one place on. -/
import Derived.Test.YtmfnphknoclhfaaFPure
import Derived.Shelf.Abstract
import Derived.OwnWalk
namespace Go.Proofs.Ytmfnphknoclhfaa
open Go.RowKit

set_option maxHeartbeats 1600000 in
theorem search_is (g : Nat) (cb : Array Value) (n : Nat) (p : Nat → Bool) (m : Nat) (w : World) (eg : ∀ args w, (callFunc g args).run Try.prog w = .ok (.enter g args) w) (hn : (n : Int) ≤ 1000000000)
    (hf : Hid (∀ (W : World) (i : Nat), w.grownBy W none → i < n → Calls Try.prog g (#[.int .i64 i] ++ cb) W fun e w' => e = .returned (.bool (p i)) ∧ W.grownBy w' none))
    (ht : Hid (TurnsAt p n m)) :
    Calls Try.prog 147 #[.int .i64 n, .func (.func g) #[] cb] w fun e w' => e = .returned (.int .i64 m) ∧ w.grownBy w' none := by
  have hmn : Hid (m ≤ n) := ht.out.1
  go_enter Try.func147, Try.ntmps147
  go_wp2
  go_loopw [5, 6] (fun s5 s6 wr => ∃ (lo hi : Nat), s5 = .int .i64 lo ∧ s6 = .int .i64 hi ∧ hi ≤ n ∧ Hid (lo ≤ m ∧ m ≤ hi) ∧ Hid (w.grownBy wr none))
    (fun s5 s6 _ => (intOf s6).toNat - (intOf s5).toNat)
  case atStart => exact ⟨0, n, rfl, rfl, Nat.le_refl _, ⟨Nat.zero_le _, hmn.out⟩, grown_refl _ _⟩
  case round =>
    obtain ⟨lo, hi, rfl, rfl, hin, hM, hg⟩ := hrel
    by_cases hlt : lo < hi
    · have hc := hf.out wr ((lo + hi) / 2) hg.out (by omega)
      rw [show (((lo + hi) / 2 : Nat) : Int) = ((lo : Int) + (hi : Int)) / 2 by omega] at hc
      cases hp : p ((lo + hi) / 2) <;> rw [hp] at hc
      · have HP : Hid (p ((lo + hi) / 2) = false) := hp
        have HM2 : Hid ((lo + hi) / 2 + 1 ≤ m ∧ m ≤ hi) := by
          refine ⟨?_, hM.out.2⟩
          rcases Nat.lt_or_ge ((lo + hi) / 2) m with q | q
          · exact q
          · have := ht.out.2.2 _ q (by omega)
            rw [HP.out] at this; cases this
        have HC := Lib.hid hc
        clear hp hc
        go_wp2_with (go_at_fn g; refine HC.out.mono ?_; rintro e w' ⟨rfl, hg2⟩)
        go_roundw
        case measure => simp [intOf]; omega
        case rel => exact ⟨(lo + hi) / 2 + 1, hi, by rw [show ((lo : Int) + (hi : Int)) / 2 + 1 = (((lo + hi) / 2 + 1 : Nat) : Int) by omega], rfl, hin, HM2.out, grown_trans hg.out hg2⟩
      · have HP : Hid (p ((lo + hi) / 2) = true) := hp
        have HM2 : Hid (lo ≤ m ∧ m ≤ (lo + hi) / 2) := by
          refine ⟨hM.out.1, ?_⟩
          rcases Nat.lt_or_ge ((lo + hi) / 2) m with q | q
          · have := ht.out.2.1 _ q
            rw [HP.out] at this; cases this
          · exact q
        have HC := Lib.hid hc
        clear hp hc
        go_wp2_with (go_at_fn g; refine HC.out.mono ?_; rintro e w' ⟨rfl, hg2⟩)
        go_roundw
        case measure => simp [intOf]; omega
        case rel => exact ⟨lo, (lo + hi) / 2, rfl, by rw [show ((lo : Int) + (hi : Int)) / 2 = (((lo + hi) / 2 : Nat) : Int) by omega], by omega, HM2.out, grown_trans hg.out hg2⟩
    · have HL : Hid (lo = m) := by show _ = _; have := hM.out; omega
      go_wp2
      go_ret
      exact ⟨ret_int (by have := HL.out; omega), hg.out⟩

end Go.Proofs.Ytmfnphknoclhfaa
