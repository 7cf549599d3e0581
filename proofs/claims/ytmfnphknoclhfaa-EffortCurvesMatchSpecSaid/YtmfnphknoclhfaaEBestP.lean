/- The best window is the best one, purely. -/
import Derived.Test.YtmfnphknoclhfaaEWinP
namespace Go.Proofs.Ytmfnphknoclhfaa
open Go.RowKit

/-- A window that is known. -/
def KnownAt (l : List Int) (sz a : Nat) : Prop := a + sz ≤ l.length ∧ ∀ j, a ≤ j → j < a + sz → 0 ≤ nthI l j

theorem wins_sound {l : List Int} {sz : Nat} (h1 : 1 ≤ sz) : ∀ n, n ≤ l.length → ∀ p ∈ wins l sz n, p.1 + sz ≤ n ∧ KnownAt l sz p.1 ∧ p.2 = psum l (p.1 + sz) - psum l p.1
  | 0, _, p, hp => by simp [wins] at hp
  | n + 1, hn, p, hp => by
    have old : p ∈ wins l sz n → p.1 + sz ≤ n + 1 ∧ KnownAt l sz p.1 ∧ p.2 = psum l (p.1 + sz) - psum l p.1 := fun h => by
      have := wins_sound h1 n (by omega) p h
      exact ⟨by omega, this.2⟩
    rw [wins] at hp
    split at hp
    · rename_i hk
      rcases List.mem_append.1 hp with h | h
      · exact old h
      · simp only [List.mem_singleton] at h
        have ok := wok l h1 (n + 1)
        have hks := ok.ki
        have hpos := ok.pos
        have hsum := ok.sum
        rw [hk] at hks hpos hsum
        subst h
        simp only
        have e : n + 1 - sz + sz = n + 1 := by omega
        refine ⟨by omega, ⟨by omega, fun j h h' => hpos j h (by omega)⟩, ?_⟩
        rw [e]; exact hsum
    · exact old hp
theorem wins_all {l : List Int} {sz a : Nat} (h1 : 1 ≤ sz) (h : KnownAt l sz a) : (a, psum l (a + sz) - psum l a) ∈ wins l sz l.length := by
  obtain ⟨hl, hp⟩ := h
  obtain ⟨i, hi⟩ : ∃ i, a + sz = i + 1 := ⟨a + sz - 1, by omega⟩
  have ok := wok l h1 (i + 1)
  have hk : (wst l sz (i + 1)).known = sz := by
    have := ok.ks
    rcases Nat.lt_or_ge (wst l sz (i + 1)).known sz with hlt | hge
    · rcases ok.far with e | e | e
      · exact e
      · omega
      · have := hp (i + 1 - (wst l sz (i + 1)).known - 1) (by omega) (by omega)
        omega
    · omega
  have hs := ok.sum
  rw [hk] at hs
  have ea : i + 1 - sz = a := by omega
  rw [ea] at hs
  refine wins_more (n := i + 1) ?_ _ (by omega)
  rw [wins, if_pos hk, hs, ea, hi]
  simp

structure BestOk (l : List Int) (sz n : Nat) (b : BSt) : Prop where
  none : b.found = false → wins l sz n = [] ∧ b.sum = 0 ∧ b.at_ = 0
  mem : b.found = true → ∃ a : Nat, b.at_ = a ∧ (a, b.sum) ∈ wins l sz n
  best : ∀ p ∈ wins l sz n, b.found = true ∧ (p.2 < b.sum ∨ p.2 = b.sum ∧ b.at_ ≤ p.1)
theorem bestok {l : List Int} {sz : Nat} (h1 : 1 ≤ sz) : ∀ n, n ≤ l.length → BestOk l sz n ((wins l sz n).foldl BSt.next ⟨0, 0, false⟩)
  | 0, _ => ⟨fun _ => ⟨rfl, rfl, rfl⟩, fun h => by simp [wins] at h, fun p hp => by simp [wins] at hp⟩
  | n + 1, hn => by
    have ih := bestok (l := l) h1 n (by omega)
    have snd := wins_sound (l := l) h1 n (by omega)
    rw [wins]
    split
    · rename_i hk
      have hks := (wok l h1 (n + 1)).ki
      rw [List.foldl_append, List.foldl_cons, List.foldl_nil]
      generalize (wins l sz n).foldl BSt.next ⟨0, 0, false⟩ = b at *
      rw [hk] at hks
      obtain ⟨i1, i2, i3⟩ := ih
      have e : wins l sz (n + 1) = wins l sz n ++ [(n + 1 - sz, (wst l sz (n + 1)).sum)] := by rw [wins, if_pos hk]
      have key : BestOk l sz (n + 1) (b.next (n + 1 - sz, (wst l sz (n + 1)).sum)) := by
        generalize (wst l sz (n + 1)).sum = t at *
        unfold BSt.next
        by_cases hc : b.found = false ∨ b.sum < t
        · rw [if_pos hc]
          refine ⟨fun h => by simp at h, fun _ => ⟨n + 1 - sz, rfl, by rw [e]; simp⟩, fun p hp => ?_⟩
          rw [e] at hp
          rcases List.mem_append.1 hp with h | h
          · have := i3 p h
            rcases hc with hc | hc
            · rw [hc] at this; simp at this
            · exact ⟨rfl, .inl (by simp only; omega)⟩
          · simp only [List.mem_singleton] at h
            subst h
            exact ⟨rfl, .inr ⟨rfl, Int.le_refl _⟩⟩
        · rw [if_neg hc]
          have hf : b.found = true := by
            cases hb : b.found with
            | true => rfl
            | false => exact absurd (Or.inl hb) hc
          have hle : t ≤ b.sum := by
            have := fun h => hc (.inr h)
            omega
          obtain ⟨a, ha, hm⟩ := i2 hf
          refine ⟨fun h => by rw [hf] at h; simp at h, fun _ => ⟨a, ha, by rw [e]; simp [hm]⟩, fun p hp => ?_⟩
          rw [e] at hp
          rcases List.mem_append.1 hp with h | h
          · exact i3 p h
          · simp only [List.mem_singleton] at h
            subst h
            refine ⟨hf, ?_⟩
            have := (snd _ hm).1
            simp only at this ⊢
            omega
      exact key
    · rename_i hk
      have e : wins l sz (n + 1) = wins l sz n := by rw [wins, if_neg hk]
      obtain ⟨i1, i2, i3⟩ := ih
      exact ⟨by rw [e]; exact i1, by rw [e]; exact i2, by rw [e]; exact i3⟩

/-- What Best tells is the sum of the window that it tells; no known window is better. -/
theorem best_is {l : List Int} {sz : Nat} (h1 : 1 ≤ sz) {b : BSt} (hb : bestL l sz = b) :
    (b.found = false → b.sum = 0 ∧ b.at_ = 0) ∧ (b.found = true → ∃ a : Nat, b.at_ = a ∧ KnownAt l sz a ∧ b.sum = psum l (a + sz) - psum l a) ∧
      (∀ a, KnownAt l sz a → b.found = true ∧ (psum l (a + sz) - psum l a < b.sum ∨ psum l (a + sz) - psum l a = b.sum ∧ b.at_ ≤ a)) := by
  have h := bestok (l := l) h1 l.length (Nat.le_refl _)
  rw [show (wins l sz l.length).foldl BSt.next ⟨0, 0, false⟩ = b from hb] at h
  refine ⟨fun hf => (h.none hf).2, fun hf => ?_, fun a ha => ?_⟩
  · obtain ⟨a, ha, hm⟩ := h.mem hf
    have := wins_sound h1 _ (Nat.le_refl _) _ hm
    exact ⟨a, ha, this.2⟩
  · exact h.best _ (wins_all h1 ha)

end Go.Proofs.Ytmfnphknoclhfaa
