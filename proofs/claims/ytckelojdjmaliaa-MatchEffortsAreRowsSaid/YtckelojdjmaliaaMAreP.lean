/- Efforts are rows, purely: crossings come in the order of time, and so do the numbers of efforts. -/
import Derived.Test.YtckelojdjmaliaaMBestO
namespace Go.Proofs.Ytckelojdjmaliaa
open Go.RowKit

theorem scale_val {a num den : Int} (a0 : 1 ≤ a) (a1 : a ≤ den) (n0 : 0 ≤ num) (n1 : num ≤ 1000000000) : (scaleV a num den 1).1 = a * num / den := by
  have h0 : 0 ≤ a * num := Int.mul_nonneg (by omega) n0
  have h1 : a * num ≤ den * num := Int.mul_le_mul_of_nonneg_right a1 n0
  have d0 : 0 ≤ a * num / den := Int.ediv_nonneg h0 (by omega)
  have d1 : a * num / den ≤ num := by
    have := Int.ediv_le_ediv (c := den) (by omega) h1
    rwa [Int.mul_ediv_cancel_left _ (by omega)] at this
  have e : rndV 1 (a * num) den = a * num / den := by unfold rndV upB; simp
  have e2 : scaleV a num den 1 = (rndV 1 (a * num) den, 0) := by
    unfold scaleV big
    rw [if_neg (by omega), if_neg (by omega), if_neg (by omega)]
  rw [e2, e]
theorem frac_mono {a b c d num : Int} (hb : 0 < b) (hd : 0 < d) (hn : 0 ≤ num) (h : a * d ≤ c * b) : a * num / b ≤ c * num / d := by
  refine (Int.le_ediv_iff_mul_le hd).2 ?_
  have h1 : a * num / b * b ≤ a * num := Int.ediv_mul_le _ (by omega)
  have h2 := Int.mul_le_mul_of_nonneg_right h1 (Int.le_of_lt hd)
  have h3 := Int.mul_le_mul_of_nonneg_right h hn
  have e1 : a * num / b * b * d = a * num / b * d * b := by rw [Int.mul_assoc, Int.mul_comm b d, ← Int.mul_assoc]
  have e2 : a * num * d = a * d * num := by rw [Int.mul_assoc, Int.mul_comm num d, ← Int.mul_assoc]
  have e3 : c * b * num = c * num * b := by rw [Int.mul_assoc, Int.mul_comm b num, ← Int.mul_assoc]
  rw [e1, e2] at h2
  rw [e3] at h3
  exact Int.le_of_mul_le_mul_right (Int.le_trans h2 h3) hb
/-- Sorted passings have rising times. -/
theorem srtP_up {l : List Psg} (h : ∀ x ∈ l, PsgIn x) {num : Int} (n0 : 0 ≤ num) (n1 : num ≤ 1000000000) : (srtP l).Pairwise fun x y => (scaleV x.part num x.whole 1).1 ≤ (scaleV y.part num y.whole 1).1 := by
  unfold srtP
  refine List.pairwise_map.2 ?_
  refine List.Pairwise.imp_of_mem ?_ (stI_is (psKey l) l.length).srt
  intro i j hi hj hb
  have hin := (stI_is (psKey l) l.length).lt hi; have hjn := (stI_is (psKey l) l.length).lt hj
  have xi := psD_in h i; have xj := psD_in h j
  have hnot : psgLt (psD l j) (psD l i) = false := by
    cases hc : psgLt (psD l j) (psD l i) with
    | false => rfl
    | true =>
      have := (psKey_iff h hjn hin).2 hc
      unfold Bef at hb
      omega
  unfold psgLt at hnot
  simp only [decide_eq_false_iff_not, Int.not_lt] at hnot
  rw [scale_val xi.p0 xi.p1 n0 n1, scale_val xj.p0 xj.p1 n0 n1]
  exact frac_mono (by have := xi.p0; have := xi.p1; omega) (by have := xj.p0; have := xj.p1; omega) n0 hnot

def upC (x y : Crs) : Prop := x.at_ ≤ y.at_
theorem crsK_up {gs : List Gt} {ss : List Smp} (hgs : ∀ g ∈ gs, gate1 g = 0) (hn : gs.length ≤ 50) (hok : SOk ss) : ∀ j, j < ss.length → (crsK (SLc gs ss) ss j).Pairwise upC ∧ ∀ c ∈ crsK (SLc gs ss) ss j, 0 ≤ c.at_ ∧ c.at_ ≤ 1000 * (smpD ss j).t
  | 0, _ => ⟨List.Pairwise.nil, fun c hc => by cases hc⟩
  | j + 1, hj => by
    obtain ⟨h1, h2⟩ := crsK_up hgs hn hok j (by omega)
    have hp := smp_plane hok (i := j) (by omega); have hq := smp_plane hok (i := j + 1) hj
    have hin : ∀ x ∈ passK gs (smpPt (smpD ss j)) (smpPt (smpD ss (j + 1))) gs.length, PsgIn x := passK_in hgs hp hq gs.length (Nat.le_refl _) hn
    have tp := hok.inn j (by omega); have tq := hok.inn (j + 1) hj
    have hup := hok.up j hj
    have t0 : 0 ≤ (smpD ss j).t := tp.1
    have t1 : (smpD ss (j + 1)).t ≤ 1000000 := tq.2.1
    have hsrt := srtP_up hin (num := 1000 * ((smpD ss (j + 1)).t - (smpD ss j).t)) (by omega) (by omega)
    have hel : ∀ x ∈ SLc gs ss j, 0 ≤ (scaleV x.part (1000 * ((smpD ss (j + 1)).t - (smpD ss j).t)) x.whole 1).1 ∧ (scaleV x.part (1000 * ((smpD ss (j + 1)).t - (smpD ss j).t)) x.whole 1).1 ≤ 1000 * ((smpD ss (j + 1)).t - (smpD ss j).t) := fun x hx => by
      have xi := hin x ((srtP_perm _).mem_iff.1 hx)
      exact scale_down xi.p0 xi.p1 (by omega) (by omega)
    have hb : ∀ c ∈ (SLc gs ss j).map (crs1 (smpD ss j) (smpD ss (j + 1)) j), 1000 * (smpD ss j).t ≤ c.at_ ∧ c.at_ ≤ 1000 * (smpD ss (j + 1)).t := fun c hc => by
      obtain ⟨x, hx, rfl⟩ := List.mem_map.1 hc
      have := hel x hx
      show 1000 * (smpD ss j).t ≤ 1000 * (smpD ss j).t + _ ∧ 1000 * (smpD ss j).t + _ ≤ _
      omega
    refine ⟨List.pairwise_append.2 ⟨h1, List.pairwise_map.2 (hsrt.imp fun {x y} hxy => ?_), fun x hx y hy => ?_⟩, fun c hc => ?_⟩
    · show 1000 * (smpD ss j).t + _ ≤ 1000 * (smpD ss j).t + _
      omega
    · have := h2 x hx; have := hb y hy
      show x.at_ ≤ y.at_
      omega
    · rcases List.mem_append.1 hc with hc | hc
      · have := h2 c hc; omega
      · have := hb c hc; omega
theorem crsL_up (s : Seg) (a : Act) : (crsL (SLc s.gs a.ss) s a).Pairwise upC ∧ ∀ c ∈ crsL (SLc s.gs a.ss) s a, 0 ≤ c.at_ := by
  unfold crsL
  split
  · rename_i h
    obtain ⟨h1, h2, h3⟩ := crs_right h
    rcases Nat.eq_zero_or_pos a.ss.length with c | c
    · rw [c]; exact ⟨List.Pairwise.nil, fun c hc => by cases hc⟩
    · obtain ⟨q1, q2⟩ := crsK_up h1 h2.2 h3 (a.ss.length - 1) (by omega)
      exact ⟨q1, fun c hc => (q2 c hc).1⟩
  · exact ⟨List.Pairwise.nil, fun c hc => by cases hc⟩

/-- A row of numbers, taken from crossings, in the order of gates and of time, before crossing k. -/
structure RowI (C : List Crs) (k : Nat) (x : List Int) : Prop where
  mem : ∀ i, i < x.length → ∃ c ∈ C, c.gate = (i : Int) ∧ c.at_ = x.getD i 0
  up : ∀ i j, i ≤ j → j < x.length → x.getD i 0 ≤ x.getD j 0
  le : ∀ i, i < x.length → ∀ m, k ≤ m → m < C.length → x.getD i 0 ≤ (crD C m).at_
theorem RowI.nil (C : List Crs) (k : Nat) : RowI C k [] := ⟨fun i h => by simp at h, fun i j _ h => by simp at h, fun i h => by simp at h⟩
theorem RowI.later {C : List Crs} {k : Nat} {x : List Int} (h : RowI C k x) : RowI C (k + 1) x := ⟨h.mem, h.up, fun i hi m hm => h.le i hi m (by omega)⟩
theorem crD_mem {C : List Crs} {k : Nat} (h : k < C.length) : crD C k ∈ C := by rw [crD_at h]; exact List.getElem_mem h
theorem up_at {C : List Crs} (h : C.Pairwise upC) {k m : Nat} (hk : k ≤ m) (hm : m < C.length) : (crD C k).at_ ≤ (crD C m).at_ := by
  rcases Nat.lt_or_ge k m with c | c
  · rw [crD_at (by omega), crD_at hm]; exact List.pairwise_iff_getElem.1 h k m (by omega) hm c
  · rw [show k = m by omega]; exact Int.le_refl _
theorem getD_snoc (x : List Int) (v : Int) (i : Nat) : (x ++ [v]).getD i 0 = if i < x.length then x.getD i 0 else if i = x.length then v else 0 := by
  rw [List.getD_eq_getElem?_getD, List.getD_eq_getElem?_getD]
  by_cases c : i < x.length
  · rw [if_pos c, List.getElem?_append_left c]
  · rw [if_neg c, List.getElem?_append_right (by omega)]
    by_cases d : i = x.length
    · rw [if_pos d, d, Nat.sub_self]; rfl
    · rw [if_neg d, List.getElem?_eq_none (by simp; omega)]; rfl
theorem RowI.snoc {C : List Crs} (hu : C.Pairwise upC) {k : Nat} {x : List Int} (h : RowI C k x) (hk : k < C.length) (hg : (crD C k).gate = (x.length : Int)) : RowI C (k + 1) (x ++ [(crD C k).at_]) := by
  refine ⟨fun i hi => ?_, fun i j hij hj => ?_, fun i hi m hm hml => ?_⟩
  · rw [getD_snoc]
    simp only [List.length_append, List.length_cons, List.length_nil] at hi
    by_cases c : i < x.length
    · rw [if_pos c]; exact h.mem i c
    · rw [if_neg c, if_pos (by omega)]
      exact ⟨_, crD_mem hk, by rw [hg, show i = x.length by omega], rfl⟩
  · rw [getD_snoc, getD_snoc]
    simp only [List.length_append, List.length_cons, List.length_nil] at hj
    by_cases c : j < x.length
    · rw [if_pos (by omega), if_pos c]; exact h.up i j hij c
    · rw [if_neg c, if_pos (show j = x.length by omega)]
      by_cases d : i < x.length
      · rw [if_pos d]; exact h.le i d k (Nat.le_refl _) hk
      · rw [if_neg d, if_pos (by omega)]; exact Int.le_refl _
  · rw [getD_snoc]
    simp only [List.length_append, List.length_cons, List.length_nil] at hi
    by_cases c : i < x.length
    · rw [if_pos c]; exact h.le i c m (by omega) hml
    · rw [if_neg c, if_pos (by omega)]; exact up_at hu (by omega) hml
/-- What holds of the efforts before crossing k. -/
structure EffI (C : List Crs) (k : Nat) (st : List (List Int) × List Int) : Prop where
  rows : ∀ x ∈ st.1, RowI C k x
  cur : RowI C k st.2
  chain : st.1.Pairwise fun x y => x.getD (x.length - 1) 0 ≤ y.getD 0 0
  last : ∀ x ∈ st.1, 0 < st.2.length → x.getD (x.length - 1) 0 ≤ st.2.getD 0 0
theorem effI_next {n : Nat} (hn : 2 ≤ n) {C : List Crs} (hu : C.Pairwise upC) {k : Nat} (hk : k < C.length) {st : List (List Int) × List Int} (hf : ∀ x ∈ st.1, x.length = n) (h : EffI C k st) : EffI C (k + 1) (effS n st (crD C k)) := by
  have hlast : ∀ x ∈ st.1, x.getD (x.length - 1) 0 ≤ (crD C k).at_ := fun x hx => (h.rows x hx).le _ (by have := hf x hx; omega) k (Nat.le_refl _) hk
  unfold effS
  split
  · rename_i hg
    have q := (RowI.nil C k).snoc hu hk (by simpa using hg)
    exact ⟨fun x hx => (h.rows x hx).later, by simpa using q, h.chain, fun x hx _ => by simpa using hlast x hx⟩
  · rename_i hg0
    split
    · rename_i hg
      have q := h.cur.snoc hu hk hg
      have hne : 0 < st.2.length := by
        rcases Nat.eq_zero_or_pos st.2.length with c | c
        · rw [c] at hg; exact absurd hg hg0
        · exact c
      have hfirst : (st.2 ++ [(crD C k).at_]).getD 0 0 = st.2.getD 0 0 := by rw [getD_snoc, if_pos hne]
      split
      · refine ⟨fun x hx => ?_, RowI.nil _ _, List.pairwise_append.2 ⟨h.chain, List.pairwise_singleton _ _, fun x hx y hy => ?_⟩, fun x _ hl => by simp at hl⟩
        · rcases List.mem_append.1 hx with hx | hx
          · exact (h.rows x hx).later
          · rw [List.mem_singleton] at hx; subst hx; exact q
        · rw [List.mem_singleton] at hy; subst hy
          rw [hfirst]; exact h.last x hx hne
      · exact ⟨fun x hx => (h.rows x hx).later, q, h.chain, fun x hx _ => by simp only; rw [hfirst]; exact h.last x hx hne⟩
    · exact ⟨fun x hx => (h.rows x hx).later, h.cur.later, h.chain, h.last⟩
theorem effI_all {n : Nat} (hn : 2 ≤ n) {C : List Crs} (hu : C.Pairwise upC) : ∀ k, k ≤ C.length → EffI C k (effK n C k)
  | 0, _ => ⟨fun x hx => (by cases hx), RowI.nil _ _, List.Pairwise.nil, fun x hx => (by cases hx)⟩
  | k + 1, hk => effI_next hn hu (by omega) (effK_full n C k) (effI_all hn hu k (by omega))
/-- What holds of all efforts. -/
theorem effL_rows {s : Seg} {a : Act} : (∀ x ∈ effL s a, RowI (crsL (SLc s.gs a.ss) s a) (crsL (SLc s.gs a.ss) s a).length x) ∧ (effL s a).Pairwise (fun x y => x.getD (x.length - 1) 0 ≤ y.getD 0 0) := by
  unfold effL
  split
  · rename_i h
    have q := effI_all (crs_right h).2.1.1 (crsL_up s a).1 _ (Nat.le_refl _)
    exact ⟨q.rows, q.chain⟩
  · exact ⟨fun x hx => (by cases hx), List.Pairwise.nil⟩
end Go.Proofs.Ytckelojdjmaliaa
