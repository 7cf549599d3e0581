/- Both sides' Hard return the same. -/
import Derived.Test.YtmfnphknoclhfaaFHard
namespace Go.Proofs.Ytmfnphknoclhfaa
open Go.RowKit

theorem cints_block {w : World} {ao : Option Addr} {l : List Int} (h : IntsAt w ao l) : ∀ a, ao = some a → l ≠ [] → a.block < w.heap.size := fun a e hne => by
  obtain ⟨b, off, e2, hc⟩ := h.at (List.length_pos_iff.2 hne)
  rw [e] at e2
  injection e2 with e2
  subst e2
  exact World.block_lt_of_cell? w _ (hc 0 (List.length_pos_iff.2 hne))

theorem chard_both (l : List Int) (hl : (l.length : Int) ≤ 9223372036854775807) : ∃ (h : Int) (ok : Bool) (E : Int),
    (∀ ao cap w, IntsAt w ao l → Calls Try.prog 19 #[.slice ao l.length cap] w fun e w' => e = .returned (.tuple #[.int .i64 h, .bool ok, .int .i64 E]) ∧ w.grownBy w' none) ∧
    (∀ ao cap w, IntsAt w ao l → Calls Try.prog 20 #[.slice ao l.length cap] w fun e w' => e = .returned (.tuple #[.int .i64 h, .bool ok, .int .i64 E]) ∧ w.grownBy w' none) := by
  obtain ⟨m, hm⟩ := turns_some (p := rootP ((hsN l l.length).tdiv (hmN l l.length))) (fun a b h ha => rootP_up h ha) 10000
  obtain ⟨E, hE⟩ : ∃ E, hardE l = E := ⟨_, rfl⟩
  refine ⟨hardV l E m, hardB l E, E, fun ao cap w hs => ?_, fun ao cap w hs => ?_⟩
  · by_cases h0 : E = 0
    · subst h0
      exact (hard_ok ao cap l hE w hs (cints_block hs) (Lib.hid fun _ => hm)).mono fun _ _ ⟨h, g⟩ => ⟨h, grown_below g⟩
    · exact hard_err ao cap l hl w hs hE h0 m
  · exact rhard_any ao cap l hl w hs hE (Lib.hid fun _ _ => hm)
end Go.Proofs.Ytmfnphknoclhfaa
