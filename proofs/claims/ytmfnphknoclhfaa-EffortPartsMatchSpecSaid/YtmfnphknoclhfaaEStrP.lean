/- The streams of an activity, plainly. -/
import Derived.Test.YtmfnphknoclhfaaEPartP
namespace Go.Proofs.Ytmfnphknoclhfaa
open Go.RowKit

theorem smps_rise {st : Int} : ∀ (l : List Smp) (b : Option Int), smpsE st b l = 0 → (∀ i (h : i + 1 < l.length), (l[i]'(by omega)).t < l[i + 1].t) ∧ (∀ (h : 0 < l.length), ¬ early b l[0].t)
  | [], _, _ => ⟨fun i h => absurd h (by simp), fun h => absurd h (by simp)⟩
  | y :: r, b, h => by
    unfold smpsE at h
    split at h
    · omega
    · rename_i he
      split at h
      · obtain ⟨h1, h2⟩ := smps_rise r _ h
        refine ⟨fun i hi => ?_, fun _ => he⟩
        cases i with
        | zero =>
          have h3 : 0 < r.length := by simp only [List.length_cons] at hi; omega
          have := h2 h3
          unfold early at this
          simp only [List.getElem_cons_zero, List.getElem_cons_succ]
          omega
        | succ i =>
          have h3 : i + 1 < r.length := by simp only [List.length_cons] at hi; omega
          have := h1 i h3
          simpa using this
      · omega

/-- What is known of the samples of an activity that is right. -/
structure SOk (ss : List Smp) : Prop where
  len : (ss.length : Int) ≤ 20000
  t0 : 0 < ss.length → (smpD ss 0).t = 0
  inn : ∀ i, i < ss.length → 0 ≤ (smpD ss i).t ∧ (smpD ss i).t ≤ 1000000 ∧ inPlane (smpD ss i) ∧ (-100000 ≤ (smpD ss i).z ∧ (smpD ss i).z ≤ 100000) ∧ (-1 ≤ (smpD ss i).p ∧ (smpD ss i).p ≤ 300) ∧ (-1 ≤ (smpD ss i).q ∧ (smpD ss i).q ≤ 3000) ∧ (-1 ≤ (smpD ss i).s ∧ (smpD ss i).s ≤ 300)
  up : ∀ i, i + 1 < ss.length → (smpD ss i).t < (smpD ss (i + 1)).t
theorem sok_of {a : Act} (h : ActOk a) : SOk a.ss := by
  obtain ⟨hr, h0⟩ := smps_rise a.ss none h.smps
  have hin := smps_ok _ _ h.smps
  have t0 : 0 < a.ss.length → (smpD a.ss 0).t = 0 := fun hl => by
    have := h0 hl
    unfold early at this
    rw [smpD_at hl]; omega
  have up : ∀ i, i + 1 < a.ss.length → (smpD a.ss i).t < (smpD a.ss (i + 1)).t := fun i hi => by
    have := hr i hi
    rw [smpD_at hi, smpD_at (by omega : i < a.ss.length)]; exact this
  have pos : ∀ i, i < a.ss.length → 0 ≤ (smpD a.ss i).t := fun i => by
    induction i with
    | zero => intro hi; rw [t0 hi]; omega
    | succ i ih => intro hi; have := ih (by omega); have := up i hi; omega
  refine ⟨h.sl, t0, fun i hi => ?_, up⟩
  have := hin (smpD a.ss i) (by rw [smpD_at hi]; exact List.getElem_mem hi)
  unfold smpIn at this
  have hp := pos i hi
  unfold inPlane
  omega
theorem SOk.stepIn {ss : List Smp} (h : SOk ss) {i : Nat} (hi : i + 1 < ss.length) : StepIn (smpD ss i) (smpD ss (i + 1)) := by
  obtain ⟨a0, a1, a2, a3, a4, a5, a6⟩ := h.inn i (by omega)
  obtain ⟨b0, b1, b2, b3, b4, b5, b6⟩ := h.inn (i + 1) hi
  exact ⟨⟨a0, h.up i hi, b1⟩, a2, b2, a3, b3⟩
theorem SOk.smpsIn {ss : List Smp} (h : SOk ss) : SmpsIn ss := by
  refine ⟨h.len, fun i hi => h.stepIn hi, fun i hi => ?_⟩
  obtain ⟨a0, a1, a2, a3, a4, a5, a6⟩ := h.inn i hi
  omega

/-- What a second of a step has. -/
noncomputable def stepN (kind : Int) (p q : Smp) (j : Nat) : Int := if 4 ≤ kind then upto (amtE p q kind) (q.t - p.t) (j + 1 : Nat) - upto (amtE p q kind) (q.t - p.t) (j : Nat) else valE p q kind
noncomputable def stepTo (kind : Int) (p q : Smp) (n : Nat) : List Int := (List.range n).map (stepN kind p q)
noncomputable def stepS (kind : Int) (p q : Smp) : List Int := stepTo kind p q (q.t - p.t).toNat
noncomputable def strL (kind : Int) (ss : List Smp) : Nat → List Int
  | 0 => []
  | i + 1 => strL kind ss i ++ stepS kind (smpD ss i) (smpD ss (i + 1))
/-- The stream of an activity. -/
noncomputable def streamS (kind : Int) (ss : List Smp) : List Int := strL kind ss (ss.length - 1)

theorem stepTo_succ (kind : Int) (p q : Smp) (n : Nat) : stepTo kind p q (n + 1) = stepTo kind p q n ++ [stepN kind p q n] := by
  simp [stepTo, List.range_succ]
theorem stepTo_len (kind : Int) (p q : Smp) (n : Nat) : (stepTo kind p q n).length = n := by simp [stepTo]
theorem strL_len {kind : Int} {ss : List Smp} (h : SOk ss) : ∀ i, i < ss.length → ((strL kind ss i).length : Int) = (smpD ss i).t
  | 0, hi => by rw [h.t0 hi]; rfl
  | i + 1, hi => by
    have ih := strL_len (kind := kind) h i (by omega)
    have := h.up i hi
    rw [strL, List.length_append]
    unfold stepS
    rw [stepTo_len]
    omega
theorem strL_len2 {kind : Int} {ss : List Smp} (h : SOk ss) (i : Nat) (hi : i < ss.length) : (strL kind ss i).length ≤ 1000000 := by
  have a := strL_len (kind := kind) h i hi
  have b := (h.inn i hi).2.1
  omega
theorem stepN_bd {kind : Int} {ss : List Smp} (h : SOk ss) {i : Nat} (hi : i + 1 < ss.length) (j : Nat) (hj : (j : Int) < (smpD ss (i + 1)).t - (smpD ss i).t) :
    -1 ≤ stepN kind (smpD ss i) (smpD ss (i + 1)) j ∧ stepN kind (smpD ss i) (smpD ss (i + 1)) j ≤ 300000000 := by
  have hs := h.stepIn hi
  have hp := hs.t.pq
  obtain ⟨a0, a1, a2, a3, a4, a5, a6⟩ := h.inn i (by omega)
  unfold stepN
  split
  · have hA := amtE_bd hs kind
    have u1 := upto_bd hA.1 (by omega : 1 ≤ (smpD ss (i + 1)).t - (smpD ss i).t) (a := ((j + 1 : Nat) : Int)) (by omega) (by omega)
    have u2 := upto_bd hA.1 (by omega : 1 ≤ (smpD ss (i + 1)).t - (smpD ss i).t) (a := (j : Int)) (by omega) (by omega)
    have m := upto_mono hA.1 (by omega : 1 ≤ (smpD ss (i + 1)).t - (smpD ss i).t) (a := (j : Int)) (b := ((j + 1 : Nat) : Int)) (by omega) (by omega)
    omega
  · unfold valE
    split
    · omega
    · split
      · omega
      · split <;> omega
theorem strL_bd {kind : Int} {ss : List Smp} (h : SOk ss) : ∀ i, i < ss.length → ∀ x ∈ strL kind ss i, -1 ≤ x ∧ x ≤ 300000000
  | 0, _, x, hx => by simp [strL] at hx
  | i + 1, hi, x, hx => by
    rw [strL] at hx
    rcases List.mem_append.1 hx with hx | hx
    · exact strL_bd h i (by omega) x hx
    · unfold stepS stepTo at hx
      obtain ⟨j, hj, rfl⟩ := List.mem_map.1 hx
      have := List.mem_range.1 hj
      exact stepN_bd h hi j (by omega)
theorem streamS_len {kind : Int} {ss : List Smp} (h : SOk ss) : (streamS kind ss).length ≤ 1000000 := by
  unfold streamS
  rcases Nat.eq_zero_or_pos ss.length with h0 | h0
  · rw [h0]; simp [strL]
  · exact strL_len2 h _ (by omega)
theorem streamS_bd {kind : Int} {ss : List Smp} (h : SOk ss) : ∀ x ∈ streamS kind ss, -1 ≤ x ∧ x ≤ 300000000 := by
  unfold streamS
  rcases Nat.eq_zero_or_pos ss.length with h0 | h0
  · rw [h0]; simp [strL]
  · exact strL_bd h _ (by omega)
theorem each_all {lo hi : Int} : ∀ {l : List Int}, (∀ x ∈ l, lo ≤ x ∧ x ≤ hi) → eachE lo hi l = 0
  | [], _ => rfl
  | y :: r, h => by
    unfold eachE
    rw [if_pos (h y (by simp)), each_all (fun x hx => h x (by simp [hx]))]
theorem streamS_ok {kind : Int} {ss : List Smp} (h : SOk ss) : streamE (streamS kind ss) = 0 := by
  unfold streamE
  rw [if_pos (by have := streamS_len (kind := kind) h; omega)]
  exact each_all (fun x hx => by have := streamS_bd h x hx; omega)

/-- What Stream returns. -/
noncomputable def streamOut (a : Act) (kind : Int) : List Int × Int := if chkE a = 0 then (if 1 ≤ kind ∧ kind ≤ 5 then (streamS kind a.ss, 0) else ([], 7)) else ([], chkE a)
end Go.Proofs.Ytmfnphknoclhfaa
