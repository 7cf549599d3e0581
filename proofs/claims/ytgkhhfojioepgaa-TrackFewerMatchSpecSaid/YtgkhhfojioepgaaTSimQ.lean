/- The two lists of Simple, purely and in memory. -/
import Derived.Test.YtgkhhfojioepgaaTRSimple
namespace Go.Proofs.Ytgkhhfojioepgaa
open Go.RowKit
set_option linter.unusedSimpArgs false
set_option linter.unusedVariables false

/-- What is still to come: p is the last one kept, T the ones ahead, the next one first. -/
noncomputable def flatK (ss : List Smp) (M : Int) : Nat → List Nat → List Nat
  | _, [] => []
  | p, q :: r => if q = 0 then flatK ss M p r else ksC ss M p q ++ q :: flatK ss M q r
structure SmP (ss : List Smp) (M : Int) (P : List Nat) (p : Nat) (T : List Nat) : Prop where
  last : P[P.length - 1]? = some p
  pos : 0 < P.length
  sum : P ++ flatK ss M p T = simL ss M
  chain : T = [] ∨ (T = [0] ∧ p = 0) ∨ (p :: T).Pairwise (· < ·)
  inn : ∀ t ∈ T, t < ss.length
  pin : p < ss.length
  len : P.length ≤ p + 1
theorem chain_len {n : Nat} : ∀ (T : List Nat) (p : Nat), (p :: T).Pairwise (· < ·) → (∀ t ∈ T, t < n) → p < n → p + T.length + 1 ≤ n
  | [], p, _, _, h => by simp; omega
  | t :: T, p, hc, hn, _ => by
    obtain ⟨h1, h2⟩ := List.pairwise_cons.mp hc
    have := chain_len T t h2 (fun x hx => hn x (List.mem_cons_of_mem _ hx)) (hn t (by simp))
    have := h1 t (by simp)
    simp only [List.length_cons]; omega
section
variable {ss : List Smp} {M : Int} {P : List Nat} {p t : Nat} {r : List Nat}
theorem SmP.le (h : SmP ss M P p (t :: r)) : p ≤ t ∧ (t = 0 → p = 0 ∧ r = []) ∧ (0 < t → (p :: t :: r).Pairwise (· < ·)) := by
  rcases h.chain with c | ⟨c, d⟩ | c
  · cases c
  · injection c with c1 c2; subst c1 c2; exact ⟨by omega, fun _ => ⟨d, rfl⟩, fun q => by omega⟩
  · have := (List.pairwise_cons.mp c).1 t (by simp); exact ⟨by omega, fun q => by omega, fun _ => c⟩
theorem SmP.push (HS : SOk ss) (hM : 0 ≤ M) (h : SmP ss M P p (t :: r)) {A : Nat} {B : Int} (hw : wstV ss p t (t - 1 - p) = (A, B)) (hlt : M < B) : SmP ss M P p (A :: t :: r) ∧ P.length + (r.length + 1) + 1 ≤ ss.length := by
  have htn := h.inn t (by simp)
  obtain ⟨q1, q2, q3⟩ := h.le
  have hA := wst_in HS hM q1 htn (by rw [hw]; exact hlt)
  rw [hw] at hA
  simp only at hA
  have hch := q3 (by omega)
  have hch2 : (p :: A :: t :: r).Pairwise (· < ·) := by
    obtain ⟨c1, c2⟩ := List.pairwise_cons.mp hch
    have c3 := (List.pairwise_cons.mp c2).1
    refine List.pairwise_cons.mpr ⟨fun x hx => ?_, List.pairwise_cons.mpr ⟨fun x hx => ?_, c2⟩⟩
    · rcases List.mem_cons.mp hx with e | e
      · omega
      · exact c1 x e
    · rcases List.mem_cons.mp hx with e | e
      · omega
      · have := c3 x e; omega
  have hin2 : ∀ x ∈ A :: t :: r, x < ss.length := fun x hx => by
    rcases List.mem_cons.mp hx with e | e
    · omega
    · exact h.inn x e
  have hcl := chain_len _ _ hch2 hin2 h.pin
  refine ⟨⟨h.last, h.pos, ?_, Or.inr (Or.inr hch2), hin2, h.pin, h.len⟩, by have := h.len; simp only [List.length_cons] at hcl; omega⟩
  rw [← h.sum]
  congr 1
  unfold flatK
  rw [if_neg (by omega), if_neg (by omega)]
  conv => lhs; unfold flatK
  rw [if_neg (by omega), ksC_eq HS hM q1 htn hw, if_pos hlt]
  simp
theorem SmP.pop (HS : SOk ss) (hM : 0 ≤ M) (h : SmP ss M P p (t :: r)) {A : Nat} {B : Int} (hw : wstV ss p t (t - 1 - p) = (A, B)) (hlt : ¬ M < B) (h0 : 0 < t) : SmP ss M (P ++ [t]) t r ∧ P.length + (r.length + 1) ≤ ss.length := by
  have htn := h.inn t (by simp)
  obtain ⟨q1, q2, q3⟩ := h.le
  have hch := q3 h0
  have hcl := chain_len _ _ hch h.inn h.pin
  obtain ⟨c1, c2⟩ := List.pairwise_cons.mp hch
  refine ⟨⟨by simp, by simp, ?_, ?_, fun x hx => h.inn x (List.mem_cons_of_mem _ hx), htn, ?_⟩, by have := h.len; simp only [List.length_cons] at hcl; omega⟩
  · rw [← h.sum]
    conv => rhs; unfold flatK
    rw [if_neg (by omega), ksC_eq HS hM q1 htn hw, if_neg hlt]
    simp
  · exact Or.inr (Or.inr c2)
  · have := h.len; have := c1 t (by simp); simp; omega
theorem SmP.skip (h : SmP ss M P p (0 :: r)) : SmP ss M P p [] ∧ r = [] := by
  obtain ⟨-, q2, -⟩ := h.le
  obtain ⟨rfl, rfl⟩ := q2 rfl
  refine ⟨⟨h.last, h.pos, ?_, Or.inl rfl, fun x hx => absurd hx (by simp), h.pin, h.len⟩, rfl⟩
  have := h.sum
  unfold flatK at this
  rw [if_pos rfl] at this
  exact this
theorem SmP.done (h : SmP ss M P p []) : P = simL ss M := by
  have := h.sum
  unfold flatK at this
  simpa using this
theorem SmP.start {la : Nat} (hla : ss.length = la + 1) : SmP ss M [0] 0 [la] := by
  refine ⟨rfl, by simp, ?_, ?_, fun x hx => ?_, by omega, by simp⟩
  · have hs : simL ss M = if la = 0 then [0] else 0 :: (ksC ss M 0 la ++ [la]) := by
      unfold simL
      rw [hla, if_neg (Nat.succ_ne_zero la), Nat.add_sub_cancel]
      by_cases h : la = 0
      · rw [if_pos h, if_pos (by omega)]
      · rw [if_neg h, if_neg (by omega)]
    rw [hs]
    by_cases h : la = 0
    · rw [if_pos h]; unfold flatK; rw [if_pos h]; unfold flatK; rfl
    · rw [if_neg h]; unfold flatK; rw [if_neg h]; unfold flatK; rfl
  · by_cases h : la = 0
    · subst h; exact Or.inr (Or.inl ⟨rfl, rfl⟩)
    · exact Or.inr (Or.inr (by simp; omega))
  · rw [List.mem_singleton] at hx; omega
end
theorem own_cut {w : World} {base g n cap : Nat} {e : TypeId} {xs : List Value} {x : Value} (h : w.ownsRow base e 1 (.slice (some ⟨g, 0, none⟩) (n + 1) cap) (n + 1) (xs ++ [x])) : w.ownsRow base e 1 (.slice (some ⟨g, 0, none⟩) n cap) n xs := by
  have hl := h.1
  rcases h.2 with ⟨h', _⟩ | ⟨g', cap', cur, h', hb, hg, hnc, hcm, hcs, htake⟩
  · simp at h'
  · simp only [Value.slice.injEq, Option.some.injEq, Addr.mk.injEq, and_true, true_and] at h'
    obtain ⟨rfl, rfl⟩ := h'
    have hxl : xs.length = n * 1 := by simp at hl ⊢; omega
    refine ⟨hxl, .inr ⟨g, cap, cur, rfl, hb, hg, by omega, hcm, hcs, ?_⟩⟩
    have h2 : (cur.toList.take ((n + 1) * 1)).take (n * 1) = (xs ++ [x]).take (n * 1) := by rw [htake]
    rw [List.take_take, Nat.min_eq_left (by omega)] at h2
    rw [h2, ← hxl]; simp
/-- The two lists of Simple in memory. -/
structure SmM (w1 : World) (gk ck ga ca : Nat) (P Q : List Nat) (W : World) : Prop where
  k : W.ownsRow w1.heap.size 3 1 (.slice (some ⟨gk, 0, none⟩) P.length ck) P.length (natVs P)
  a : W.ownsRow w1.heap.size 3 1 (.slice (some ⟨ga, 0, none⟩) Q.length ca) Q.length (natVs Q)
  ne : gk ≠ ga
  g : w1.grownBy W none
section
variable {w1 W W' : World} {gk ck ga ca : Nat} {P Q : List Nat}
theorem SmM.grown (h : SmM w1 gk ck ga ca P Q W) (hg : W.grownBy W' none) : SmM w1 gk ck ga ca P Q W' :=
  ⟨h.k.kept hg (Or.inr (by simp [Value.ownBlock])), h.a.kept hg (Or.inr (by simp [Value.ownBlock])), h.ne, grown_trans h.g hg⟩
theorem SmM.lastK (h : SmM w1 gk ck ga ca P Q W) {p : Nat} (hp : P[P.length - 1]? = some p) (h0 : 0 < P.length) : W.cell? ⟨gk, P.length - 1, none⟩ = some (.int .i64 (p : Nat)) := by
  rw [h.k.cellAt _ (by omega)]; simp [natVs, hp]
theorem SmM.lastA (h : SmM w1 gk ck ga ca P Q W) {p : Nat} (hp : Q[Q.length - 1]? = some p) (h0 : 0 < Q.length) : W.cell? ⟨ga, Q.length - 1, none⟩ = some (.int .i64 (p : Nat)) := by
  rw [h.a.cellAt _ (by omega)]; simp [natVs, hp]
end
end Go.Proofs.Ytgkhhfojioepgaa
