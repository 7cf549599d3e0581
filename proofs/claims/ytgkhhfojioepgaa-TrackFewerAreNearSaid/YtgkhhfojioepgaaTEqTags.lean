/- Two equal lists of tags. -/
import Derived.Test.YtgkhhfojioepgaaBaseG
import Derived.Test.YtgkhhfojioepgaaShelf
namespace Go.Proofs.Ytgkhhfojioepgaa
open Go.RowKit
set_option linter.unusedSimpArgs false
set_option linter.unusedVariables false

theorem tagsS_at {w : World} {ao : Option Addr} {l : List ByteArray} (h : TagsAt w ao l) (hne : 0 < l.length) : ∃ b off, ao = some ⟨b, off, none⟩ ∧ ∀ i (h : i < l.length), w.cell? ⟨b, off + i, none⟩ = some (.string l[i]) := by
  have hn : l ≠ [] := fun e => by rw [e] at hne; simp at hne
  cases hao : ao with
  | none => exact absurd (h.nil hao) hn
  | some p =>
    obtain ⟨b, off, spot⟩ := p
    have hsp := h.spot _ hao hn
    simp only at hsp
    subst hsp
    exact ⟨b, off, rfl, fun i hi => h.cells _ hao i hi⟩

theorem equal_tags {w : World} {a1 a2 : Option Addr} {c1 c2 : Nat} {L : List ByteArray} (h1 : TagsAt w a1 L) (h2 : TagsAt w a2 L) (hn : L.length ≤ 9223372036854775807) :
    Calls Try.prog 66 #[.slice a1 L.length c1, .slice a2 L.length c2] w fun e w' => e = .returned (.bool true) ∧ w.grownBy w' none := by
  rcases Nat.eq_zero_or_pos L.length with h0 | h0
  · rw [h0]
    refine (Try.slices_Equal_string_empty a1 a2 c1 0 c2 w (by omega)).mono ?_
    rintro e w' ⟨rfl, rfl⟩
    exact ⟨rfl, grown_refl _ _⟩
  · obtain ⟨b1, o1, rfl, q1⟩ := tagsS_at h1 h0
    obtain ⟨b2, o2, rfl, q2⟩ := tagsS_at h2 h0
    have gd : ∀ j (hj : j < L.length), L.getD j ByteArray.empty = L[j] := fun j hj => by
      rw [List.getD_eq_getElem?_getD, List.getElem?_eq_getElem hj]; rfl
    refine (Try.slices_Equal_string b1 o1 L.length c1 b2 o2 L.length c2 L L w (Nat.le_refl _) (Nat.le_refl _) hn hn (fun j hj => by rw [gd j hj]; exact q1 j hj) (fun j hj => by rw [gd j hj]; exact q2 j hj)).mono ?_
    rintro e w' ⟨rfl, q, rfl⟩
    exact ⟨by simp, grown_drewN _ _ _⟩
end Go.Proofs.Ytgkhhfojioepgaa
