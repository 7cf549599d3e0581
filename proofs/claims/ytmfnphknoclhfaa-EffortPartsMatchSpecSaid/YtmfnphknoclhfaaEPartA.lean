/- The contract of partOf, for any samples. -/
import Derived.Test.YtmfnphknoclhfaaEPartW
import Derived.Test.YtmfnphknoclhfaaEPartZ
import Derived.Test.YtmfnphknoclhfaaEStreamOf
namespace Go.Proofs.Ytmfnphknoclhfaa
open Go.RowKit

theorem partOf_any (nm : ByteArray) (sp st : Int) (so : Option Addr) (sc : Nat) (ss : List Smp) (lo : Option Addr) (lc : Nat) (ls : List LapV) (to_ : Option Addr) (tc : Nat) (ts : List ByteArray) (f t : Int) (hft : f ≤ t) (f0 : 0 ≤ f) (t1 : t ≤ 1000000) (w : World) (hs : Hid (SmpsAt w so ss)) (HS : Hid (SOk ss)) {X : Prt} (HX : Hid (partP ss f t = X)) :
    Calls Try.prog 97 #[.agg #[.string nm, .int .i64 sp, .int .i64 st, .slice so ss.length sc, .slice lo ls.length lc, .slice to_ ts.length tc], .int .i64 f, .int .i64 t] w fun e w' => e = .returned (.agg (X.cells f t)) ∧ w.grownBy w' none := by
  rcases Nat.eq_zero_or_pos ss.length with h0 | h0
  · have he : ss = [] := List.eq_nil_of_length_eq_zero h0
    subst he
    exact partOf_no nm sp st so sc lo lc ls to_ tc ts f t w (by show _ = _; rw [← HX.out]; simp [partP, prtN, sumG])
  · have hne : ss ≠ [] := fun e => by rw [e] at h0; simp at h0
    obtain ⟨b, off, rfl⟩ : ∃ b off, so = some ⟨b, off, none⟩ := by
      cases hso : so with
      | none => exact absurd (hs.out.nil hso) hne
      | some a =>
        obtain ⟨b, off, s⟩ := a
        have := hs.out.spot _ hso hne
        simp only at this
        subst this
        exact ⟨b, off, rfl⟩
    exact partOf_some nm sp st b off sc ss lo lc ls to_ tc ts f t hft f0 t1 h0 w hs.out HS.out.smpsIn HX
end Go.Proofs.Ytmfnphknoclhfaa
