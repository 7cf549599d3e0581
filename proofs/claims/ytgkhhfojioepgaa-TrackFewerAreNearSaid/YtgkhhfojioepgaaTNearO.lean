/- The activity of the kept samples, purely: it is right, and where At is in it is near. -/
import Derived.Test.YtgkhhfojioepgaaTNearQ
import Derived.Test.YtgkhhfojioepgaaBaseG
namespace Go.Proofs.Ytgkhhfojioepgaa
open Go.RowKit
set_option linter.unusedSimpArgs false
set_option linter.unusedVariables false

theorem smps_sub {st : Int} {ss : List Smp} (HS : SOk ss) (hin : ∀ i, i < ss.length → smpIn st (smpD ss i)) {nr : Nat → Nat → Bool} : ∀ (L : List Nat) (p : Nat), NrC nr p L → (∀ x ∈ L, x < ss.length) → smpsE st (some (smpD ss p).t) (L.map (smpD ss)) = 0
  | [], _, _, _ => rfl
  | q :: r, p, h, hx => by
    have hq := hx q (by simp)
    have ht := times_lt HS h.1 hq
    rw [List.map_cons, smpsE, if_neg (by unfold early; omega), if_pos (hin q hq)]
    exact smps_sub HS hin r q h.2.2 (fun x hx2 => hx x (List.mem_cons_of_mem _ hx2))
/-- An activity with the kept samples and no laps. -/
def keptA (a : Act) (l : List Nat) : Act := { a with ss := l.map (smpD a.ss), lo := none, lc := 0, ls := [] }
theorem kept_in {ss : List Smp} {most : Int} {l : List Nat} (hn : 1 ≤ ss.length) (h : KeptL ss most l) : ∀ x ∈ l, x < ss.length := fun x hx => by
  obtain ⟨L, rfl, h1, h2⟩ := h
  rcases List.mem_cons.mp hx with e | e
  · omega
  · have := (nrC_le L 0 h1).2 x e; omega
theorem kept_len {ss : List Smp} : ∀ (L : List Nat) (p : Nat) {nr : Nat → Nat → Bool}, NrC nr p L → (∀ x ∈ L, x < ss.length) → p < ss.length → p + L.length + 1 ≤ ss.length
  | [], p, _, _, _, h => by simp; omega
  | q :: r, p, _, h, hx, _ => by
    have := kept_len r q h.2.2 (fun x hx2 => hx x (List.mem_cons_of_mem _ hx2)) (hx q (by simp))
    have := h.1
    simp only [List.length_cons]; omega
theorem kept_ok {a : Act} {most : Int} (h : chkE a = 0) (hn : 1 ≤ a.ss.length) {l : List Nat} (hl : KeptL a.ss most l) : chkE (keptA a l) = 0 := by
  have ok := chk_ok h
  have HS := sok_of ok
  have hin := smps_ok _ _ ok.smps
  have hk := kept_in hn hl
  obtain ⟨L, rfl, h1, h2⟩ := hl
  have hle := kept_len (ss := a.ss) L 0 h1 (fun x hx => hk x (List.mem_cons_of_mem _ hx)) (by omega)
  have hsl := ok.sl
  have hs : smpsE a.start none ((0 :: L).map (smpD a.ss)) = 0 := by
    have hi : ∀ i, i < a.ss.length → smpIn a.start (smpD a.ss i) := fun i hi => by rw [smpD_at hi]; exact hin _ (List.getElem_mem hi)
    rw [List.map_cons, smpsE, if_neg (by unfold early; have := HS.t0 (by omega); omega), if_pos (hi 0 (by omega))]
    exact smps_sub HS hi L 0 h1 (fun x hx => hk x (List.mem_cons_of_mem _ hx))
  unfold chkE keptA
  simp only
  rw [if_pos ok.name, if_pos ⟨ok.sp0, ok.sp1⟩, if_pos ⟨ok.st0, ok.st1⟩, if_pos ⟨by simp only [List.length_map, List.length_cons]; omega, by simp, ok.tl⟩, if_pos hs, if_pos (by rfl)]
  exact ok.tags
theorem nrC_pair {nr : Nat → Nat → Bool} : ∀ (L : List Nat) (p i : Nat), NrC nr p L → i < L.length → nr ((p :: L)[i]?.getD 0) (L[i]?.getD 0) = true ∧ ((p :: L)[i]?.getD 0) < (L[i]?.getD 0)
  | [], _, _, _, h => by simp at h
  | q :: r, p, 0, h, _ => ⟨h.2.1, h.1⟩
  | q :: r, p, i + 1, h, hi => by
    have := nrC_pair r q i h.2.2 (by simp at hi; omega)
    simpa using this
/-- Where At is in the activity of the kept samples is near. -/
theorem kept_near {ss : List Smp} {most : Int} (HS : SOk ss) (hM : 0 ≤ most * most) (hn : 1 ≤ ss.length) {l : List Nat} (hl : KeptL ss most l) {m k : Nat} (hm : m < ss.length) (hk : SIdx (l.map (smpD ss)) (smpD ss m).t k) (hkl : k < l.length) :
    sqP (atV (l.map (smpD ss)) (smpD ss m).t k) (smpD ss m) ≤ most * most := by
  have hin := kept_in hn hl
  obtain ⟨L, rfl, h1, h2⟩ := hl
  have at_ : ∀ j, j < (0 :: L).length → smpD ((0 :: L).map (smpD ss)) j = smpD ss ((0 :: L)[j]?.getD 0) ∧ (0 :: L)[j]?.getD 0 < ss.length := fun j hj => by
    rw [List.getElem?_eq_getElem hj, Option.getD_some]
    exact ⟨by rw [smpD_at (by simpa using hj), List.getElem_map], hin _ (List.getElem_mem hj)⟩
  have q0 : sqP (smpD ss m) (smpD ss m) ≤ most * most := by unfold sqP; simp; exact hM
  obtain ⟨e1, e2⟩ := at_ k hkl
  have ge := hk.2.2 k (Nat.le_refl _) (by simpa using hkl)
  rw [e1] at ge
  have hmq : m ≤ (0 :: L)[k]?.getD 0 := by
    rcases Nat.lt_or_ge ((0 :: L)[k]?.getD 0) m with q | q
    · have := times_lt HS q hm; omega
    · exact q
  unfold atV
  rw [e1]
  by_cases ht : (smpD ss ((0 :: L)[k]?.getD 0)).t = (smpD ss m).t
  · rw [if_pos ht]
    have : (0 :: L)[k]?.getD 0 = m := by
      rcases Nat.lt_or_ge m ((0 :: L)[k]?.getD 0) with q | q
      · have := times_lt HS q e2; omega
      · omega
    rw [this]; exact q0
  · rw [if_neg ht]
    have hmq2 : m < (0 :: L)[k]?.getD 0 := by
      rcases Nat.lt_or_ge m ((0 :: L)[k]?.getD 0) with q | q
      · exact q
      · exfalso; apply ht; congr 1; congr 1; omega
    obtain ⟨j, rfl⟩ : ∃ j, k = j + 1 := by
      cases k with
      | zero => simp at hmq2
      | succ j => exact ⟨j, rfl⟩
    obtain ⟨f1, f2⟩ := at_ j (by omega)
    have lt := hk.2.1 j (by omega)
    rw [f1] at lt
    rw [Nat.add_sub_cancel, f1]
    have hpm : (0 :: L)[j]?.getD 0 < m := by
      rcases Nat.lt_or_ge ((0 :: L)[j]?.getD 0) m with q | q
      · exact q
      · have := times_le HS q f2; omega
    have hp := (nrC_pair L 0 j h1 (by simp at hkl; omega)).1
    have := (nrS_iff.mp hp) m hpm (by simpa using hmq2)
    unfold missV at this
    simpa using this
end Go.Proofs.Ytgkhhfojioepgaa
