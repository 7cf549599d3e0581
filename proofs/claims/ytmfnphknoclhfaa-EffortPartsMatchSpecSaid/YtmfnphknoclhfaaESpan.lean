/- Lists of numbers that were made, and how long a stream is. -/
import Derived.Test.YtmfnphknoclhfaaEStream
namespace Go.Proofs.Ytmfnphknoclhfaa
open Go.RowKit

theorem span_len {ss : List Smp} (kind : Int) (h : SOk ss) : spanL ss = ((streamS kind ss).length : Int) := by
  rcases Nat.eq_zero_or_pos ss.length with h0 | h0
  · have : ss = [] := List.eq_nil_of_length_eq_zero h0
    subst this; rfl
  · obtain ⟨n, hn⟩ : ∃ n, ss.length = n + 1 := ⟨ss.length - 1, by omega⟩
    have e := spanL_at hn
    rw [← smpD_at (by omega : n < ss.length)] at e
    rw [e]
    unfold streamS
    rw [hn, Nat.add_sub_cancel, strL_len h n (by omega)]
theorem intsAt_own {w : World} {base : Nat} {v : Value} {L : List Int} (h : w.ownsRow base 3 1 v L.length (ints L)) : ∃ ao cap, v = .slice ao L.length cap ∧ IntsAt w ao L ∧ (v.ownBlock = ao.map (·.block)) := by
  rcases h.2 with ⟨hv, h0⟩ | ⟨g, cap, cur, hv, hb, hg, rest⟩
  · have hL : L = [] := List.eq_nil_of_length_eq_zero h0
    exact ⟨none, 0, by rw [hv, h0], ⟨fun _ => hL, fun a h => (by cases h), fun a h => (by cases h)⟩, by rw [hv]; rfl⟩
  · have hc : ∀ j, j < L.length → w.cell? ⟨g, j, none⟩ = some (.int .i64 (nthI L j)) := fun j hj => by
      have := h.cells (g := g) (by rw [hv]; rfl) j (.int .i64 (nthI L j)) (by
        unfold ints
        rw [List.getElem?_map, List.getElem?_eq_getElem hj, nthI_at hj]; rfl)
      have e : (⟨g, 0, none⟩ : Addr).add j = ⟨g, j, none⟩ := by unfold Addr.add; split <;> simp_all
      rw [e] at this; exact this
    refine ⟨some ⟨g, 0, none⟩, cap, hv, ⟨fun h => (by cases h), fun a h _ => (by cases h; rfl), fun a h j hj => ?_⟩, by rw [hv]; rfl⟩
    cases h
    simpa using hc j hj
theorem nthI_drop {l : List Int} {k : Nat} (h : k < l.length) : l.drop k = nthI l k :: l.drop (k + 1) := by
  rw [List.drop_eq_getElem_cons h, nthI_at h]

end Go.Proofs.Ytmfnphknoclhfaa
