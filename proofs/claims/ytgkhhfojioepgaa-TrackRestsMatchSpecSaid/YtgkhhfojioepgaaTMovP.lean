/- What Moving hands back. -/
import Derived.Test.YtgkhhfojioepgaaTIdle
namespace Go.Proofs.Ytgkhhfojioepgaa
set_option linter.unusedSimpArgs false
set_option linter.unusedVariables false

noncomputable def movO (a : Act) (gap slow least : Int) : Int × Int := if (idleE a gap).2 = 0 then (if (stillE a slow least).2 = 0 then (movR (tmS a.ss) (idleE a gap).1 (stillE a slow least).1 (a.ss.length - 1), 0) else (0, (stillE a slow least).2)) else (0, (idleE a gap).2)
theorem sok_up {ss : List Smp} (h : SOk ss) : ∀ k, k < ss.length - 1 → tmS ss k < tmS ss (k + 1) := fun k hk => h.up k (by omega)
/-- What a list of rests is. -/
structure Rests (ss : List Smp) (L : List SpV) : Prop where
  ok : SOk ss
  al : ∀ x ∈ L, ∃ a b, a < b ∧ b ≤ ss.length - 1 ∧ x = ⟨tmS ss a, tmS ss b - 1⟩
  len : L.length ≤ ss.length - 1
  pw : L.Pairwise fun x y => x.to_ < y.fr
theorem rests_of {ss : List Smp} (h : SOk ss) (M : Nat → Bool) (least : Int) : Rests ss (restL (tmS ss) M least (ss.length - 1)) := ⟨h, rest_al (sok_up h) least, rest_len (sok_up h) least, rest_pw (sok_up h) least⟩
theorem idle_rests {a : Act} {gap : Int} {L : List SpV} (h : idleE a gap = (L, 0)) : Rests a.ss L := by
  unfold idleE at h
  split at h
  · rename_i hc
    have hs := sok_of (chk_ok hc)
    split at h
    · simp only [Prod.mk.injEq] at h; rw [← h.1]; exact rests_of hs _ _
    · simp at h
  · rename_i hc; simp only [Prod.mk.injEq] at h; exact absurd h.2 hc
theorem still_rests {a : Act} {slow least : Int} {L : List SpV} (h : stillE a slow least = (L, 0)) : Rests a.ss L := by
  unfold stillE at h
  split at h
  · rename_i hc
    have hs := sok_of (chk_ok hc)
    split at h
    · split at h
      · simp only [Prod.mk.injEq] at h; rw [← h.1]; exact rests_of hs _ _
      · simp at h
    · simp at h
  · rename_i hc; simp only [Prod.mk.injEq] at h; exact absurd h.2 hc
theorem Rests.bd {ss : List Smp} {L : List SpV} (h : Rests ss L) : ∀ x ∈ L, 0 ≤ x.fr ∧ x.fr ≤ 1000000 ∧ -1 ≤ x.to_ ∧ x.to_ ≤ 1000000 := fun x hx => by
  obtain ⟨a, b, hab, hb, rfl⟩ := h.al x hx
  have h1 := h.ok.inn a (by omega); have h2 := h.ok.inn b (by omega)
  simp only [tmS]; omega
theorem span_tm {ss : List Smp} (h : SOk ss) : spanL ss = tmS ss (ss.length - 1) ∧ 0 ≤ spanL ss ∧ spanL ss ≤ 1000000 := by
  by_cases h0 : ss.length = 0
  · have e : ss = [] := List.eq_nil_of_length_eq_zero h0
    subst e
    exact ⟨rfl, by decide, by decide⟩
  · have h1 := h.inn (ss.length - 1) (by omega)
    have e : spanL ss = tmS ss (ss.length - 1) := by rw [spanL_at (n := ss.length - 1) (by omega)]; show _ = (smpD ss (ss.length - 1)).t; rw [smpD_at (by omega)]
    rw [e]; exact ⟨rfl, h1.1, h1.2.1⟩
theorem mov_bd {N : Int} (h0 : 0 ≤ N) (h1 : N ≤ 1000000) {S : List SpV} (hS : ∀ x ∈ S, 0 ≤ x.fr ∧ x.fr ≤ 1000000 ∧ -1 ≤ x.to_ ∧ x.to_ ≤ 1000000) : ∀ k, k ≤ S.length → -(k * 2000002 : Int) ≤ (movF N (S.take k)).1 ∧ (movF N (S.take k)).1 ≤ 1000000 ∧ 0 ≤ (movF N (S.take k)).2 ∧ (movF N (S.take k)).2 ≤ 1000001
  | 0, _ => by simp [movF]; omega
  | k + 1, hk => by
    have ih := mov_bd h0 h1 hS k (by omega)
    have hx := hS _ (List.getElem_mem (show k < S.length by omega))
    rw [List.take_succ_eq_append_getElem (by omega), mov_snoc]
    generalize movF N (S.take k) = q at ih ⊢
    generalize S[k] = x at hx ⊢
    unfold movS
    simp only
    have : ((k + 1 : Nat) : Int) = k + 1 := by omega
    rw [this]
    omega
theorem movSp_is {ss : List Smp} {L K S : List SpV} (hL : Rests ss L) (hK : Rests ss K) (hp : S.Perm (L ++ K)) (hs : S.Pairwise fun x y => x.fr ≤ y.fr) : (movF (spanL ss) S).1 = movR (tmS ss) L K (ss.length - 1) := by
  rw [(span_tm hL.ok).1]
  by_cases h0 : ss.length = 0
  · have e : ss = [] := List.eq_nil_of_length_eq_zero h0
    subst e
    have e1 : L = [] := List.eq_nil_of_length_eq_zero (by have := hL.len; simpa using this)
    have e2 : K = [] := List.eq_nil_of_length_eq_zero (by have := hK.len; simpa using this)
    subst e1; subst e2
    have e3 := hp.eq_nil
    subst e3
    rfl
  · refine moving_is (sok_up hL.ok) (hL.ok.t0 (by omega)) (fun x hx => ?_) hp hs
    rcases List.mem_append.1 hx with h | h
    · exact hL.al x h
    · exact hK.al x h
theorem Rests.fr_le {ss : List Smp} {L : List SpV} (h : Rests ss L) : ∀ x ∈ L, x.fr ≤ x.to_ := fun x hx => by
  obtain ⟨a, b, hab, hb, rfl⟩ := h.al x hx
  have := rise_lt (sok_up h.ok) hab hb
  simp only; omega
/-- A pointer into a list of rests: what lies ahead of it has ended before t. -/
def Ptr (L : List SpV) (t : Int) (i : Nat) : Prop := i ≤ L.length ∧ ∀ j (h : j < i) (hl : j < L.length), L[j].to_ < t
theorem ptr_step {L : List SpV} {t : Int} {i : Nat} (h : Ptr L t i) (hl : i < L.length) (ht : L[i].to_ < t) : Ptr L t (i + 1) := ⟨hl, fun j hj hjl => by
  by_cases e : j = i
  · subst e; exact ht
  · exact h.2 j (by omega) hjl⟩
theorem ptr_up {L : List SpV} {t u : Int} {i : Nat} (h : Ptr L t i) (ht : t ≤ u) : Ptr L u i := ⟨h.1, fun j hj hl => by have := h.2 j hj hl; omega⟩
theorem ptr_cov {ss : List Smp} {L : List SpV} (hr : Rests ss L) {t : Int} {i : Nat} (h : Ptr L t i) (he : ∀ hl : i < L.length, t ≤ L[i].to_) : covS L t = false ↔ ∀ hl : i < L.length, t < L[i].fr := by
  have hpw := List.pairwise_iff_getElem.1 hr.pw
  constructor
  · intro hc hl
    unfold covS at hc
    have q := List.any_eq_false.1 hc _ (List.getElem_mem hl)
    unfold inSp at q
    simp only [decide_eq_true_eq] at q
    have := he hl
    omega
  · intro hf
    unfold covS
    refine List.any_eq_false.2 fun x hx => ?_
    obtain ⟨j, hj, rfl⟩ := List.getElem_of_mem hx
    unfold inSp
    simp only [decide_eq_true_eq]
    rintro ⟨h1, h2⟩
    by_cases c1 : j < i
    · have := h.2 j c1 hj; omega
    · have hl : i < L.length := by omega
      have q := hf hl
      by_cases c2 : j = i
      · subst c2; omega
      · have q2 := hpw i j hl hj (by omega)
        have q3 := hr.fr_le _ (List.getElem_mem hl)
        omega
theorem movR_bd {ss : List Smp} (h : SOk ss) (X Y : List SpV) : ∀ k, k ≤ ss.length - 1 → 0 ≤ movR (tmS ss) X Y k ∧ movR (tmS ss) X Y k ≤ 1000000 := by
  have q : ∀ k, k ≤ ss.length - 1 → 0 ≤ movR (tmS ss) X Y k ∧ movR (tmS ss) X Y k ≤ tmS ss k := by
    intro k
    induction k with
    | zero =>
      intro _
      refine ⟨Int.le_refl _, ?_⟩
      by_cases h0 : ss.length = 0
      · have e : ss = [] := List.eq_nil_of_length_eq_zero h0
        subst e; exact Int.le_refl _
      · exact (h.inn 0 (by omega)).1
    | succ k ih =>
      intro hk
      have := ih (by omega); have := sok_up h k (by omega)
      show 0 ≤ movR (tmS ss) X Y k + _ ∧ movR (tmS ss) X Y k + _ ≤ _
      split <;> omega
  intro k hk
  have h1 := q k hk
  refine ⟨h1.1, Int.le_trans h1.2 ?_⟩
  by_cases h0 : ss.length = 0
  · have e : ss = [] := List.eq_nil_of_length_eq_zero h0
    subst e; obtain rfl : k = 0 := by simpa using hk
    decide
  · exact (h.inn k (by omega)).2.1
end Go.Proofs.Ytgkhhfojioepgaa
