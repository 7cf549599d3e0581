/- Sets of numbers, as spans: what is wrong with them, what joins, meets and is left, by two ways each, and that a set is told by its numbers. Purely, no program. -/
import Derived.Test.YtbacoopopokkfaaDoorTRestP
namespace Go.Proofs.YtbacoopopokkfaaDoor
set_option linter.unusedSimpArgs false
set_option linter.unusedVariables false

/-- What is wrong with spans, from the number on that is free. -/
def spErr : Int → List SpV → Int
  | _, [] => 0
  | least, x :: l => if ((0 ≤ x.fr ∧ x.fr ≤ 1000000000000) ∧ (0 ≤ x.to_ ∧ x.to_ ≤ 1000000000000)) then (if x.to_ < x.fr ∨ x.fr < least then 10 else spErr (x.to_ + 2) l) else 9
def chkS (L : List SpV) : Int := if 1000 < L.length then 3 else spErr 0 L
/-- No two of them overlap, and there is a number between. -/
def Canon (L : List SpV) : Prop := (∀ x ∈ L, x.fr ≤ x.to_) ∧ L.Pairwise fun x y => x.to_ + 2 ≤ y.fr
def InB (L : List SpV) : Prop := ∀ x ∈ L, 0 ≤ x.fr ∧ x.fr ≤ x.to_ ∧ x.to_ ≤ 1000000000000
theorem spErr_ok : ∀ {least : Int} {L : List SpV}, spErr least L = 0 → InB L ∧ (∀ x ∈ L, least ≤ x.fr) ∧ L.Pairwise fun x y => x.to_ + 2 ≤ y.fr
  | _, [], _ => ⟨fun _ h => (by cases h), fun _ h => (by cases h), List.Pairwise.nil⟩
  | least, x :: l, h => by
    unfold spErr at h
    split at h
    · rename_i hb
      split at h
      · exact absurd h (by decide)
      · rename_i ho
        obtain ⟨i1, i2, i3⟩ := spErr_ok h
        refine ⟨fun y hy => ?_, fun y hy => ?_, List.pairwise_cons.2 ⟨fun y hy => i2 y hy, i3⟩⟩
        · rcases List.mem_cons.1 hy with rfl | hy
          · omega
          · exact i1 y hy
        · rcases List.mem_cons.1 hy with rfl | hy
          · omega
          · have := i2 y hy; omega
    · exact absurd h (by decide)
theorem chkS_ok {L : List SpV} (h : chkS L = 0) : L.length ≤ 1000 ∧ InB L ∧ Canon L := by
  unfold chkS at h
  split at h
  · exact absurd h (by decide)
  · obtain ⟨a, _, c⟩ := spErr_ok h
    exact ⟨by omega, a, fun x hx => (a x hx).2.1, c⟩
theorem cov_cons (x : SpV) (L : List SpV) (s : Int) : covS (x :: L) s = (inSp x s || covS L s) := by unfold covS; simp
theorem cov_nil (s : Int) : covS [] s = false := rfl
theorem cov_lt {L : List SpV} {s : Int} (h : ∀ x ∈ L, s < x.fr) : covS L s = false := by
  unfold covS
  rw [List.any_eq_false]
  intro x hx
  have := h x hx
  unfold inSp; simp; omega
theorem cov_gt {L : List SpV} {s : Int} (h : ∀ x ∈ L, x.to_ < s) : covS L s = false := by
  unfold covS
  rw [List.any_eq_false]
  intro x hx
  have := h x hx
  unfold inSp; simp; omega
theorem cov_in {L : List SpV} {s : Int} : covS L s = true ↔ ∃ x ∈ L, x.fr ≤ s ∧ s ≤ x.to_ := by
  unfold covS inSp
  rw [List.any_eq_true]
  simp
theorem Canon.tail {x : SpV} {L : List SpV} (h : Canon (x :: L)) : Canon L := ⟨fun y hy => h.1 y (List.mem_cons_of_mem _ hy), (List.pairwise_cons.1 h.2).2⟩
theorem Canon.head {x : SpV} {L : List SpV} (h : Canon (x :: L)) : x.fr ≤ x.to_ ∧ ∀ y ∈ L, x.to_ + 2 ≤ y.fr := ⟨h.1 x (by simp), (List.pairwise_cons.1 h.2).1⟩
/-- A set is told by its numbers. -/
theorem canon_ext : ∀ {L K : List SpV}, Canon L → Canon K → (∀ s, covS L s = covS K s) → L = K
  | [], [], _, _, _ => rfl
  | [], y :: K, _, hk, h => by
    have := h y.fr
    rw [cov_nil, cov_cons] at this
    have := hk.head.1
    simp [inSp] at *; omega
  | x :: L, [], hl, _, h => by
    have := h x.fr
    rw [cov_nil, cov_cons] at this
    have := hl.head.1
    simp [inSp] at *; omega
  | x :: L, y :: K, hl, hk, h => by
    obtain ⟨l1, l2⟩ := hl.head
    obtain ⟨k1, k2⟩ := hk.head
    have low : ∀ {x y : SpV} {L K : List SpV}, (x.fr ≤ x.to_) → (∀ z ∈ K, y.to_ + 2 ≤ z.fr) → y.fr ≤ y.to_ → (∀ s, covS (x :: L) s = covS (y :: K) s) → y.fr ≤ x.fr := by
      intro x y L K a1 a2 a3 hh
      have q := hh x.fr
      have e : covS (x :: L) x.fr = true := cov_in.2 ⟨x, by simp, by omega, a1⟩
      rw [e] at q
      obtain ⟨z, hz, b1, b2⟩ := cov_in.1 q.symm
      rcases List.mem_cons.1 hz with rfl | hz
      · exact b1
      · have := a2 z hz; omega
    have e1 : x.fr = y.fr := by
      have a := low l1 k2 k1 h
      have b := low k1 l2 l1 (fun s => (h s).symm)
      omega
    have high : ∀ {x y : SpV} {L K : List SpV}, x.fr = y.fr → (x.fr ≤ x.to_) → (∀ z ∈ L, x.to_ + 2 ≤ z.fr) → (∀ s, covS (x :: L) s = covS (y :: K) s) → y.to_ ≤ x.to_ := by
      intro x y L K e a1 a2 hh
      rcases Int.lt_or_le x.to_ y.to_ with hlt | hle
      · exfalso
        have q := hh (x.to_ + 1)
        have e2 : covS (y :: K) (x.to_ + 1) = true := cov_in.2 ⟨y, by simp, by omega, by omega⟩
        rw [e2] at q
        obtain ⟨z, hz, b1, b2⟩ := cov_in.1 q
        rcases List.mem_cons.1 hz with rfl | hz
        · omega
        · have := a2 z hz; omega
      · exact hle
    have e2 : x.to_ = y.to_ := by
      have a := high e1 l1 l2 h
      have b := high e1.symm k1 k2 (fun s => (h s).symm)
      omega
    have e : x = y := by cases x; cases y; simp_all
    subst e
    congr 1
    refine canon_ext hl.tail hk.tail fun s => ?_
    have q := h s
    rw [cov_cons, cov_cons] at q
    rcases Int.lt_or_le x.to_ s with hs | hs
    · have : inSp x s = false := by unfold inSp; simp; omega
      rw [this] at q; simpa using q
    · rw [cov_lt fun z hz => by have := l2 z hz; omega, cov_lt fun z hz => by have := k2 z hz; omega]

/-- Spans in order are joined, one by one. -/
def jnS (acc : List SpV) (x : SpV) : List SpV := if 0 < acc.length ∧ x.fr ≤ (spLast acc).to_ + 1 then acc.set (acc.length - 1) ⟨(spLast acc).fr, max (spLast acc).to_ x.to_⟩ else acc ++ [x]
def jnL (L : List SpV) : List SpV := L.foldl jnS []
theorem jn_snoc (L : List SpV) (x : SpV) : jnL (L ++ [x]) = jnS (jnL L) x := by unfold jnL; rw [List.foldl_append]; rfl
theorem jn_ok : ∀ (m : Nat) {L : List SpV}, L.length ≤ m → L.Pairwise (fun x y => x.fr ≤ y.fr) → (∀ x ∈ L, x.fr ≤ x.to_) →
    Canon (jnL L) ∧ (∀ s, covS (jnL L) s = covS L s) ∧ (∀ x ∈ jnL L, (∃ y ∈ L, x.fr = y.fr) ∧ ∃ y ∈ L, x.to_ = y.to_) ∧ (jnL L).length ≤ L.length := by
  intro m
  induction m with
  | zero =>
    intro L hm _ _
    have e : L = [] := List.eq_nil_of_length_eq_zero (by omega)
    subst e
    exact ⟨⟨fun _ h => (by cases h), List.Pairwise.nil⟩, fun _ => rfl, fun _ h => (by cases h), Nat.le_refl _⟩
  | succ m ih =>
    intro L hm hp hb
    rcases Nat.lt_or_ge L.length (m + 1) with h | h
    · exact ih (by omega) hp hb
    · obtain ⟨K, x, rfl⟩ : ∃ K x, L = K ++ [x] := ⟨L.dropLast, L.getLast (fun e => by subst e; simp at h), (List.dropLast_concat_getLast _).symm⟩
      simp only [List.length_append, List.length_cons, List.length_nil] at hm
      obtain ⟨p1, _, p3⟩ := List.pairwise_append.1 hp
      obtain ⟨⟨i1, i2⟩, i3, i4, i5⟩ := ih (L := K) (by omega) p1 (fun y hy => hb y (by simp [hy]))
      have b1 := hb x (by simp)
      have hKx : ∀ y ∈ K, y.fr ≤ x.fr := fun y hy => p3 y hy x (by simp)
      rw [jn_snoc]
      obtain ⟨J, hJ⟩ : ∃ J, jnL K = J := ⟨_, rfl⟩
      rw [hJ] at i1 i2 i3 i4 i5 ⊢
      have hfr : ∀ y ∈ J, y.fr ≤ x.fr := fun y hy => by
        obtain ⟨⟨z, hz, e⟩, _⟩ := i4 y hy
        have := hKx z hz; omega
      unfold jnS
      by_cases hc : 0 < J.length ∧ x.fr ≤ (spLast J).to_ + 1
      · rw [if_pos hc, set_last hc.1]
        obtain ⟨h0, h1⟩ := hc
        have hsp := split_last h0
        have hm := spLast_mem h0
        have v := i1 _ hm
        have f := hfr _ hm
        rw [hsp] at i2
        obtain ⟨q1, _, q3⟩ := List.pairwise_append.1 i2
        refine ⟨⟨fun y hy => ?_, List.pairwise_append.2 ⟨q1, List.pairwise_singleton _ _, fun y hy z hz => ?_⟩⟩, fun s => ?_, fun y hy => ?_, by simp; omega⟩
        · rcases List.mem_append.1 hy with h | h
          · exact i1 y ((List.dropLast_sublist J).subset h)
          · rw [List.mem_singleton.1 h]; simp only; omega
        · rw [List.mem_singleton.1 hz]
          have := q3 y hy (spLast J) (by simp)
          simpa using this
        · rw [cov_app, cov_app, ← i3 s]
          conv => rhs; rw [hsp, cov_app]
          rw [Bool.or_assoc]
          congr 1
          unfold inSp
          rw [← Bool.decide_or, decide_eq_decide]
          simp only
          omega
        · rcases List.mem_append.1 hy with h | h
          · obtain ⟨⟨z, hz, e⟩, ⟨u, hu, e2⟩⟩ := i4 y ((List.dropLast_sublist J).subset h)
            exact ⟨⟨z, by simp [hz], e⟩, u, by simp [hu], e2⟩
          · rw [List.mem_singleton.1 h]
            obtain ⟨⟨z, hz, e⟩, ⟨u, hu, e2⟩⟩ := i4 _ hm
            refine ⟨⟨z, by simp [hz], e⟩, ?_⟩
            rcases Int.le_total (spLast J).to_ x.to_ with h | h
            · exact ⟨x, by simp, by simp only; omega⟩
            · exact ⟨u, by simp [hu], by simp only; omega⟩
      · rw [if_neg hc]
        refine ⟨⟨fun y hy => ?_, List.pairwise_append.2 ⟨i2, List.pairwise_singleton _ _, fun y hy z hz => ?_⟩⟩, fun s => ?_, fun y hy => ?_, by simp; omega⟩
        · rcases List.mem_append.1 hy with h | h
          · exact i1 y h
          · rw [List.mem_singleton.1 h]; exact b1
        · rw [List.mem_singleton.1 hz]
          have h0 : 0 < J.length := List.length_pos_of_mem hy
          have hl : ¬ x.fr ≤ (spLast J).to_ + 1 := fun h => hc ⟨h0, h⟩
          have hle : y.to_ ≤ (spLast J).to_ := by
            have hsp := split_last h0
            rw [hsp] at hy i2
            rcases List.mem_append.1 hy with h | h
            · have := (List.pairwise_append.1 i2).2.2 y h (spLast J) (by simp)
              have := i1 _ (spLast_mem h0)
              omega
            · rw [List.mem_singleton.1 h]; exact Int.le_refl _
          omega
        · rw [cov_app, cov_app, i3 s]
        · rcases List.mem_append.1 hy with h | h
          · obtain ⟨⟨z, hz, e⟩, ⟨u, hu, e2⟩⟩ := i4 y h
            exact ⟨⟨z, by simp [hz], e⟩, u, by simp [hu], e2⟩
          · rw [List.mem_singleton.1 h]
            exact ⟨⟨x, by simp, rfl⟩, x, by simp, rfl⟩

/-- What two sets have in common: along both at once. -/
def comL : List SpV → List SpV → List SpV
  | [], _ => []
  | _ :: _, [] => []
  | x :: a, y :: b => (if max x.fr y.fr ≤ min x.to_ y.to_ then [⟨max x.fr y.fr, min x.to_ y.to_⟩] else []) ++ (if x.to_ < y.to_ then comL a (y :: b) else comL (x :: a) b)
termination_by a b => a.length + b.length
theorem com_nil (a : List SpV) : comL a [] = [] := by cases a <;> simp [comL]
theorem com_ok : ∀ (m : Nat) {a b : List SpV}, a.length + b.length ≤ m → Canon a → Canon b →
    Canon (comL a b) ∧ (∀ s, covS (comL a b) s = (covS a s && covS b s)) ∧ (∀ z ∈ comL a b, (∃ x ∈ a, x.fr ≤ z.fr ∧ z.to_ ≤ x.to_) ∧ (∃ y ∈ b, y.fr ≤ z.fr)) ∧ (comL a b).length ≤ a.length + b.length := by
  intro m
  induction m with
  | zero =>
    intro a b hm _ _
    have e : a = [] := List.eq_nil_of_length_eq_zero (by omega)
    subst e
    rw [comL]
    exact ⟨⟨fun _ h => (by cases h), List.Pairwise.nil⟩, fun _ => rfl, fun _ h => (by cases h), by simp⟩
  | succ m ih =>
    intro a b hm ha hb
    match a, b, hm, ha, hb with
    | [], b, _, _, _ =>
      rw [comL]
      exact ⟨⟨fun _ h => (by cases h), List.Pairwise.nil⟩, fun _ => rfl, fun _ h => (by cases h), by simp⟩
    | x :: a, [], _, _, _ =>
      rw [comL]
      exact ⟨⟨fun _ h => (by cases h), List.Pairwise.nil⟩, fun s => by rw [cov_nil, Bool.and_false], fun _ h => (by cases h), by simp⟩
    | x :: a, y :: b, hm, ha, hb =>
      obtain ⟨a1, a2⟩ := ha.head
      obtain ⟨b1, b2⟩ := hb.head
      simp only [List.length_cons] at hm
      rw [comL]
      by_cases hc : x.to_ < y.to_
      · rw [if_pos hc]
        obtain ⟨⟨i1, i2⟩, i3, i4, i5⟩ := ih (a := a) (b := y :: b) (by simp only [List.length_cons]; omega) ha.tail hb
        have hlow : ∀ z ∈ comL a (y :: b), x.to_ + 2 ≤ z.fr := fun z hz => by
          obtain ⟨⟨u, hu, e, _⟩, _⟩ := i4 z hz
          have := a2 u hu; omega
        have hcov : ∀ s, (covS (x :: a) s && covS (y :: b) s) = ((inSp x s && inSp y s) || (covS a s && covS (y :: b) s)) := fun s => by
          rw [cov_cons x a]
          by_cases hx : inSp x s = true
          · have hxs : x.fr ≤ s ∧ s ≤ x.to_ := by simpa [inSp] using hx
            have ca : covS a s = false := cov_lt fun z hz => by have := a2 z hz; omega
            have cb : covS b s = false := cov_lt fun z hz => by have := b2 z hz; omega
            rw [hx, ca, cov_cons y b, cb]; simp
          · rw [Bool.not_eq_true] at hx; rw [hx]; simp
        by_cases hz : max x.fr y.fr ≤ min x.to_ y.to_
        · rw [if_pos hz]
          refine ⟨⟨fun z hz' => ?_, List.pairwise_cons.2 ⟨fun z hz' => ?_, i2⟩⟩, fun s => ?_, fun z hz' => ?_, by simp only [List.cons_append, List.nil_append, List.length_cons] at *; omega⟩
          · rcases List.mem_cons.1 hz' with rfl | h
            · exact hz
            · exact i1 z h
          · have := hlow z hz'; simp only; omega
          · show covS (_ :: comL a (y :: b)) s = _
            rw [cov_cons, i3 s, hcov s]
            congr 1
            unfold inSp
            rw [← Bool.decide_and, decide_eq_decide]
            simp only; omega
          · rcases List.mem_cons.1 hz' with rfl | h
            · exact ⟨⟨x, by simp, by simp only; omega, by simp only; omega⟩, y, by simp, by simp only; omega⟩
            · obtain ⟨⟨u, hu, e⟩, v⟩ := i4 z h
              exact ⟨⟨u, by simp [hu], e⟩, v⟩
        · rw [if_neg hz]
          refine ⟨⟨fun z hz' => i1 z hz', i2⟩, fun s => ?_, fun z hz' => ?_, by simp only [List.nil_append, List.length_cons] at *; omega⟩
          · rw [List.nil_append, i3 s, hcov s]
            have : (inSp x s && inSp y s) = false := by
              unfold inSp
              rw [← Bool.decide_and, decide_eq_false_iff_not]; omega
            rw [this, Bool.false_or]
          · obtain ⟨⟨u, hu, e⟩, v⟩ := i4 z hz'
            exact ⟨⟨u, by simp [hu], e⟩, v⟩
      · rw [if_neg hc]
        obtain ⟨⟨i1, i2⟩, i3, i4, i5⟩ := ih (a := x :: a) (b := b) (by simp only [List.length_cons]; omega) ha hb.tail
        have hlow : ∀ z ∈ comL (x :: a) b, y.to_ + 2 ≤ z.fr := fun z hz => by
          obtain ⟨_, ⟨u, hu, e⟩⟩ := i4 z hz
          have := b2 u hu; omega
        have hcov : ∀ s, (covS (x :: a) s && covS (y :: b) s) = ((inSp x s && inSp y s) || (covS (x :: a) s && covS b s)) := fun s => by
          rw [cov_cons y b]
          by_cases hx : inSp y s = true
          · have hxs : y.fr ≤ s ∧ s ≤ y.to_ := by simpa [inSp] using hx
            have ca : covS a s = false := cov_lt fun z hz => by have := a2 z hz; omega
            have cb : covS b s = false := cov_lt fun z hz => by have := b2 z hz; omega
            rw [hx, cb, cov_cons x a, ca]; simp
          · rw [Bool.not_eq_true] at hx; rw [hx]; simp
        by_cases hz : max x.fr y.fr ≤ min x.to_ y.to_
        · rw [if_pos hz]
          refine ⟨⟨fun z hz' => ?_, List.pairwise_cons.2 ⟨fun z hz' => ?_, i2⟩⟩, fun s => ?_, fun z hz' => ?_, by simp only [List.cons_append, List.nil_append, List.length_cons] at *; omega⟩
          · rcases List.mem_cons.1 hz' with rfl | h
            · exact hz
            · exact i1 z h
          · have := hlow z hz'; simp only; omega
          · show covS (_ :: comL (x :: a) b) s = _
            rw [cov_cons, i3 s, hcov s]
            congr 1
            unfold inSp
            rw [← Bool.decide_and, decide_eq_decide]
            simp only; omega
          · rcases List.mem_cons.1 hz' with rfl | h
            · exact ⟨⟨x, by simp, by simp only; omega, by simp only; omega⟩, y, by simp, by simp only; omega⟩
            · obtain ⟨u, ⟨v, hv, e⟩⟩ := i4 z h
              exact ⟨u, v, by simp [hv], e⟩
        · rw [if_neg hz]
          refine ⟨⟨fun z hz' => i1 z hz', i2⟩, fun s => ?_, fun z hz' => ?_, by simp only [List.nil_append, List.length_cons] at *; omega⟩
          · rw [List.nil_append, i3 s, hcov s]
            have : (inSp x s && inSp y s) = false := by
              unfold inSp
              rw [← Bool.decide_and, decide_eq_false_iff_not]; omega
            rw [this, Bool.false_or]
          · obtain ⟨u, ⟨v, hv, e⟩⟩ := i4 z hz'
            exact ⟨u, v, by simp [hv], e⟩

/-- All numbers of sets from one on that are not in this one. -/
def gapL : Int → List SpV → List SpV
  | from_, [] => if from_ ≤ 1000000000000 then [⟨from_, 1000000000000⟩] else []
  | from_, x :: l => (if from_ < x.fr then [⟨from_, x.fr - 1⟩] else []) ++ gapL (x.to_ + 1) l
theorem gap_ok : ∀ {L : List SpV} {f : Int}, 0 ≤ f → Canon L → InB L → (∀ x ∈ L, f ≤ x.fr) →
    Canon (gapL f L) ∧ (∀ z ∈ gapL f L, f ≤ z.fr ∧ z.to_ ≤ 1000000000000) ∧ (∀ s, covS (gapL f L) s = (decide (f ≤ s ∧ s ≤ 1000000000000) && !covS L s)) ∧ (gapL f L).length ≤ L.length + 1
  | [], f, h0, _, _, _ => by
    unfold gapL
    split
    · rename_i h
      refine ⟨⟨fun x hx => ?_, List.pairwise_singleton _ _⟩, fun x hx => ?_, fun s => ?_, by simp⟩
      · rw [List.mem_singleton.1 hx]; exact h
      · rw [List.mem_singleton.1 hx]; exact ⟨Int.le_refl _, Int.le_refl _⟩
      · rw [cov_cons, cov_nil, Bool.or_false, Bool.not_false, Bool.and_true]; rfl
    · rename_i h
      refine ⟨⟨fun _ h => (by cases h), List.Pairwise.nil⟩, fun _ h => (by cases h), fun s => ?_, by simp⟩
      rw [cov_nil, decide_eq_false (by omega), Bool.false_and]
  | x :: L, f, h0, hc, hb, hf => by
    obtain ⟨a1, a2⟩ := hc.head
    have bx := hb x (by simp)
    have fx := hf x (by simp)
    obtain ⟨⟨i1, i2⟩, i3, i4, i5⟩ := gap_ok (L := L) (f := x.to_ + 1) (by omega) hc.tail (fun y hy => hb y (by simp [hy])) (fun y hy => by have := a2 y hy; omega)
    have hcov : ∀ s, (decide (f ≤ s ∧ s ≤ 1000000000000) && !covS (x :: L) s) = (decide (f ≤ s ∧ s ≤ x.fr - 1) || (decide (x.to_ + 1 ≤ s ∧ s ≤ 1000000000000) && !covS L s)) := fun s => by
      rw [cov_cons]
      rcases Int.lt_or_le s x.fr with h | h
      · rw [cov_lt (L := L) fun z hz => by have := a2 z hz; omega]
        have e : inSp x s = false := by unfold inSp; simp; omega
        have e2 : decide (x.to_ + 1 ≤ s ∧ s ≤ 1000000000000) = false := by simp; omega
        rw [e, e2, Bool.false_and, Bool.or_false, Bool.or_false, Bool.not_false, Bool.and_true, decide_eq_decide]; omega
      · have e2 : decide (f ≤ s ∧ s ≤ x.fr - 1) = false := by simp; omega
        rw [e2, Bool.false_or]
        rcases Int.lt_or_le x.to_ s with h2 | h2
        · have e : inSp x s = false := by unfold inSp; simp; omega
          rw [e, Bool.false_or]
          congr 1
          rw [decide_eq_decide]; omega
        · have e : inSp x s = true := by unfold inSp; simp; omega
          have e3 : decide (x.to_ + 1 ≤ s ∧ s ≤ 1000000000000) = false := by simp; omega
          rw [e, e3, Bool.true_or, Bool.not_true, Bool.and_false, Bool.false_and]
    unfold gapL
    by_cases hz : f < x.fr
    · rw [if_pos hz]
      refine ⟨⟨fun z hz' => ?_, List.pairwise_cons.2 ⟨fun z hz' => ?_, i2⟩⟩, fun z hz' => ?_, fun s => ?_, by simp only [List.cons_append, List.nil_append, List.length_cons] at *; omega⟩
      · rcases List.mem_cons.1 hz' with rfl | h
        · simp only; omega
        · exact i1 z h
      · have := (i3 z hz').1; simp only; omega
      · rcases List.mem_cons.1 hz' with rfl | h
        · simp only; omega
        · have := i3 z h; omega
      · show covS (_ :: gapL (x.to_ + 1) L) s = _
        rw [cov_cons, i4 s, hcov s]; rfl
    · rw [if_neg hz]
      refine ⟨⟨fun z hz' => i1 z hz', i2⟩, fun z hz' => by have := i3 z hz'; omega, fun s => ?_, by simp only [List.nil_append, List.length_cons] at *; omega⟩
      rw [List.nil_append, i4 s, hcov s]
      have e2 : decide (f ≤ s ∧ s ≤ x.fr - 1) = false := by simp; omega
      rw [e2, Bool.false_or]

/-- The other way: the numbers at which something can begin, in order. -/
def endsV (L : List SpV) : List Int := L.flatMap fun x => [x.fr, x.to_ + 1]
def endL (a b : List SpV) : List Int := List.merge (endsV a) (endsV b) fun x y => decide (x ≤ y)
def keepH (how : Nat) (p q : Bool) : Bool := if how = 1 then p || q else if how = 2 then p && q else p && !q
def cmbT (a b : List SpV) (k : Nat) : Int := (endL a b).getD k 0
def cmbM (a b : List SpV) (how : Nat) (k : Nat) : Bool := !decide (cmbT a b k = cmbT a b (k + 1)) && keepH how (covS a (cmbT a b k)) (covS b (cmbT a b k))
def cmbL (a b : List SpV) (how : Nat) : List SpV := rowL (cmbT a b) (cmbM a b how) ((endL a b).length - 1)
theorem mem_ends {L : List SpV} {n : Int} : n ∈ endsV L ↔ ∃ x ∈ L, n = x.fr ∨ n = x.to_ + 1 := by unfold endsV; simp [List.mem_flatMap]
theorem canon_ends : ∀ {L : List SpV}, Canon L → (endsV L).Pairwise fun x y => x ≤ y
  | [], _ => List.Pairwise.nil
  | x :: L, h => by
    obtain ⟨a1, a2⟩ := h.head
    show (x.fr :: (x.to_ + 1) :: endsV L).Pairwise _
    have hge : ∀ n ∈ endsV L, x.to_ + 1 ≤ n := fun n hn => by
      obtain ⟨y, hy, e⟩ := mem_ends.1 hn
      have := a2 y hy
      have := h.tail.1 y hy
      rcases e with rfl | rfl <;> omega
    refine List.pairwise_cons.2 ⟨fun n hn => ?_, List.pairwise_cons.2 ⟨hge, canon_ends h.tail⟩⟩
    rcases List.mem_cons.1 hn with rfl | hn
    · omega
    · have := hge n hn; omega
theorem endL_len (a b : List SpV) : (endL a b).length = 2 * a.length + 2 * b.length := by
  have e : ∀ L : List SpV, (endsV L).length = 2 * L.length := fun L => by
    induction L with
    | nil => rfl
    | cons x L ih =>
      show (x.fr :: (x.to_ + 1) :: endsV L).length = _
      simp only [List.length_cons, ih]; omega
  unfold endL
  rw [List.length_merge, e, e]
theorem endL_mem (a b : List SpV) (n : Int) : n ∈ endL a b ↔ (∃ x ∈ a, n = x.fr ∨ n = x.to_ + 1) ∨ ∃ x ∈ b, n = x.fr ∨ n = x.to_ + 1 := by
  unfold endL
  rw [List.mem_merge, mem_ends, mem_ends]
theorem endL_pw {a b : List SpV} (ha : Canon a) (hb : Canon b) : (endL a b).Pairwise fun x y => x ≤ y := by
  have q := List.pairwise_merge (le := fun x y : Int => decide (x ≤ y)) (fun x y z h1 h2 => by simp only [decide_eq_true_eq] at *; omega) (fun x y => by simp only [Bool.or_eq_true, decide_eq_true_eq]; omega) (endsV a) (endsV b) ((canon_ends ha).imp fun h => decide_eq_true h) ((canon_ends hb).imp fun h => decide_eq_true h)
  exact q.imp fun h => of_decide_eq_true h
theorem cmb_le {a b : List SpV} (ha : Canon a) (hb : Canon b) {i j : Nat} (hij : i ≤ j) (hj : j < (endL a b).length) : cmbT a b i ≤ cmbT a b j := by
  rcases Nat.eq_or_lt_of_le hij with rfl | hlt
  · exact Int.le_refl _
  · have q := List.pairwise_iff_getElem.1 (endL_pw ha hb) i j (by omega) hj hlt
    unfold cmbT
    rw [List.getD_eq_getElem?_getD, List.getD_eq_getElem?_getD, List.getElem?_eq_getElem hj, List.getElem?_eq_getElem (by omega)]
    exact q
theorem cmb_mem (a b : List SpV) {k : Nat} (hk : k < (endL a b).length) : cmbT a b k ∈ endL a b := by
  unfold cmbT
  rw [List.getD_eq_getElem?_getD, List.getElem?_eq_getElem hk]; exact List.getElem_mem _
theorem cmb_at {a b : List SpV} {n : Int} (h : n ∈ endL a b) : ∃ k, k < (endL a b).length ∧ cmbT a b k = n := by
  obtain ⟨k, hk, e⟩ := List.getElem_of_mem h
  exact ⟨k, hk, by unfold cmbT; rw [List.getD_eq_getElem?_getD, List.getElem?_eq_getElem hk]; exact e⟩
/-- Between two neighbouring ends nothing changes. -/
theorem cmb_same {a b : List SpV} (ha : Canon a) (hb : Canon b) {k : Nat} (hk : k + 1 < (endL a b).length) {s : Int} (h1 : cmbT a b k ≤ s) (h2 : s < cmbT a b (k + 1)) {L : List SpV} (hL : ∀ x ∈ L, x.fr ∈ endL a b ∧ x.to_ + 1 ∈ endL a b) : covS L s = covS L (cmbT a b k) := by
  have key : ∀ n ∈ endL a b, n ≤ s ↔ n ≤ cmbT a b k := fun n hn => by
    obtain ⟨i, hi, rfl⟩ := cmb_at hn
    constructor
    · intro h
      rcases Nat.lt_or_ge k i with g | g
      · have := cmb_le ha hb (show k + 1 ≤ i by omega) hi; omega
      · exact cmb_le ha hb g (by omega)
    · intro h; omega
  unfold covS
  rw [Bool.eq_iff_iff, List.any_eq_true, List.any_eq_true]
  have one : ∀ x ∈ L, inSp x s = inSp x (cmbT a b k) := fun x hx => by
    obtain ⟨q1, q2⟩ := hL x hx
    unfold inSp
    rw [decide_eq_decide]
    have := key _ q1
    have := key _ q2
    omega
  constructor
  · rintro ⟨x, hx, e⟩; exact ⟨x, hx, by rw [← one x hx]; exact e⟩
  · rintro ⟨x, hx, e⟩; exact ⟨x, hx, by rw [one x hx]; exact e⟩
theorem cmb_row {a b : List SpV} (ha : Canon a) (hb : Canon b) (how : Nat) : ∀ k, k < (endL a b).length →
    Canon (rowL (cmbT a b) (cmbM a b how) k) ∧ (∀ x ∈ rowL (cmbT a b) (cmbM a b how) k, cmbT a b 0 ≤ x.fr ∧ x.to_ < cmbT a b k) ∧ (rowL (cmbT a b) (cmbM a b how) k).length ≤ k ∧
      ∀ s, covS (rowL (cmbT a b) (cmbM a b how) k) s = decide (∃ j, j < k ∧ cmbM a b how j = true ∧ cmbT a b j ≤ s ∧ s < cmbT a b (j + 1))
  | 0, _ => ⟨⟨fun _ h => (by cases h), List.Pairwise.nil⟩, fun _ h => (by cases h), Nat.le_refl _, fun s => by
      show false = _
      rw [eq_comm, decide_eq_false_iff_not]; rintro ⟨j, hj, _⟩; omega⟩
  | k + 1, hk => by
    obtain ⟨⟨i1, i2⟩, i3, i4, i5⟩ := cmb_row ha hb how k (by omega)
    have hle : cmbT a b k ≤ cmbT a b (k + 1) := cmb_le ha hb (Nat.le_succ k) hk
    have h0k : cmbT a b 0 ≤ cmbT a b k := cmb_le ha hb (Nat.zero_le k) (by omega)
    show Canon (rowS (cmbT a b) (rowL (cmbT a b) (cmbM a b how) k) k (cmbM a b how k)) ∧ (∀ x ∈ rowS (cmbT a b) (rowL (cmbT a b) (cmbM a b how) k) k (cmbM a b how k), _) ∧ (rowS (cmbT a b) (rowL (cmbT a b) (cmbM a b how) k) k (cmbM a b how k)).length ≤ k + 1 ∧ ∀ s, covS (rowS (cmbT a b) (rowL (cmbT a b) (cmbM a b how) k) k (cmbM a b how k)) s = _
    obtain ⟨J, hJ⟩ : ∃ J, rowL (cmbT a b) (cmbM a b how) k = J := ⟨_, rfl⟩
    rw [hJ] at i1 i2 i3 i4 i5 ⊢
    unfold rowS
    by_cases hm : cmbM a b how k = true
    · rw [if_pos hm]
      have hlt : cmbT a b k < cmbT a b (k + 1) := by
        unfold cmbM at hm
        simp only [Bool.and_eq_true, Bool.not_eq_true', decide_eq_false_iff_not] at hm
        omega
      have hcov : ∀ s, decide (∃ j, j < k + 1 ∧ cmbM a b how j = true ∧ cmbT a b j ≤ s ∧ s < cmbT a b (j + 1)) = (covS J s || decide (cmbT a b k ≤ s ∧ s < cmbT a b (k + 1))) := fun s => by
        rw [i5 s, ← Bool.decide_or, decide_eq_decide]
        constructor
        · rintro ⟨j, hj, hM, h⟩
          rcases Nat.eq_or_lt_of_le (Nat.le_of_lt_succ hj) with rfl | g
          · exact .inr h
          · exact .inl ⟨j, g, hM, h⟩
        · rintro (⟨j, hj, hM, h⟩ | h)
          · exact ⟨j, by omega, hM, h⟩
          · exact ⟨k, by omega, hm, h⟩
      by_cases hc : 0 < J.length ∧ (spLast J).to_ = cmbT a b k - 1
      · rw [if_pos hc, set_last hc.1]
        obtain ⟨h0, h1⟩ := hc
        have hsp := split_last h0
        have hml := spLast_mem h0
        have v := i1 _ hml
        have f := i3 _ hml
        rw [hsp] at i2
        obtain ⟨q1, _, q3⟩ := List.pairwise_append.1 i2
        refine ⟨⟨fun y hy => ?_, List.pairwise_append.2 ⟨q1, List.pairwise_singleton _ _, fun y hy z hz => ?_⟩⟩, fun y hy => ?_, by simp; omega, fun s => ?_⟩
        · rcases List.mem_append.1 hy with h | h
          · exact i1 y ((List.dropLast_sublist J).subset h)
          · rw [List.mem_singleton.1 h]; simp only; omega
        · rw [List.mem_singleton.1 hz]
          have := q3 y hy (spLast J) (by simp)
          simpa using this
        · rcases List.mem_append.1 hy with h | h
          · have := i3 y ((List.dropLast_sublist J).subset h); omega
          · rw [List.mem_singleton.1 h]; simp only; omega
        · rw [hcov s, cov_app]
          conv => rhs; rw [hsp, cov_app]
          rw [Bool.or_assoc]
          congr 1
          unfold inSp
          rw [← Bool.decide_or, decide_eq_decide]
          simp only
          omega
      · rw [if_neg hc]
        refine ⟨⟨fun y hy => ?_, List.pairwise_append.2 ⟨i2, List.pairwise_singleton _ _, fun y hy z hz => ?_⟩⟩, fun y hy => ?_, by simp; omega, fun s => ?_⟩
        · rcases List.mem_append.1 hy with h | h
          · exact i1 y h
          · rw [List.mem_singleton.1 h]; simp only; omega
        · rw [List.mem_singleton.1 hz]
          have h0 : 0 < J.length := List.length_pos_of_mem hy
          have hl : ¬ (spLast J).to_ = cmbT a b k - 1 := fun h => hc ⟨h0, h⟩
          have hlt2 := (i3 _ (spLast_mem h0)).2
          have hle2 : y.to_ ≤ (spLast J).to_ := by
            have hsp := split_last h0
            rw [hsp] at hy i2
            rcases List.mem_append.1 hy with h | h
            · have := (List.pairwise_append.1 i2).2.2 y h (spLast J) (by simp)
              have := i1 _ (spLast_mem h0)
              omega
            · rw [List.mem_singleton.1 h]; exact Int.le_refl _
          simp only; omega
        · rcases List.mem_append.1 hy with h | h
          · have := i3 y h; omega
          · rw [List.mem_singleton.1 h]; simp only; omega
        · rw [hcov s, cov_app]
          congr 1
          unfold inSp
          rw [decide_eq_decide]
          simp only; omega
    · rw [if_neg hm]
      refine ⟨⟨i1, i2⟩, fun y hy => by have := i3 y hy; omega, by omega, fun s => ?_⟩
      rw [i5 s, decide_eq_decide]
      constructor
      · rintro ⟨j, hj, h⟩; exact ⟨j, by omega, h⟩
      · rintro ⟨j, hj, hM, h⟩
        rcases Nat.eq_or_lt_of_le (Nat.le_of_lt_succ hj) with rfl | g
        · exact absurd hM hm
        · exact ⟨j, g, hM, h⟩
theorem cmb_ok {a b : List SpV} (ha : Canon a) (hb : Canon b) (how : Nat) : Canon (cmbL a b how) ∧ (∀ s, covS (cmbL a b how) s = keepH how (covS a s) (covS b s)) ∧ (cmbL a b how).length ≤ 2 * a.length + 2 * b.length := by
  have hlen := endL_len a b
  rcases Nat.eq_zero_or_pos (endL a b).length with h0 | h0
  · have ea : a = [] := List.eq_nil_of_length_eq_zero (by omega)
    have eb : b = [] := List.eq_nil_of_length_eq_zero (by omega)
    subst ea; subst eb
    have e : cmbL [] [] how = [] := by
      have e2 : (endL [] []).length = 0 := by rw [hlen]; rfl
      unfold cmbL
      rw [e2]; rfl
    rw [e]
    refine ⟨⟨fun _ h => (by cases h), List.Pairwise.nil⟩, fun s => ?_, Nat.zero_le _⟩
    unfold keepH; rw [cov_nil]; simp
  · obtain ⟨i1, i3, i4, i5⟩ := cmb_row ha hb how ((endL a b).length - 1) (by omega)
    refine ⟨i1, fun s => ?_, by show (rowL _ _ _).length ≤ _; omega⟩
    show covS (rowL _ _ _) s = _
    have hla : ∀ x ∈ a, x.fr ∈ endL a b ∧ x.to_ + 1 ∈ endL a b := fun x hx => ⟨(endL_mem a b _).2 (.inl ⟨x, hx, .inl rfl⟩), (endL_mem a b _).2 (.inl ⟨x, hx, .inr rfl⟩)⟩
    have hlb : ∀ x ∈ b, x.fr ∈ endL a b ∧ x.to_ + 1 ∈ endL a b := fun x hx => ⟨(endL_mem a b _).2 (.inr ⟨x, hx, .inl rfl⟩), (endL_mem a b _).2 (.inr ⟨x, hx, .inr rfl⟩)⟩
    rw [i5 s, Bool.eq_iff_iff, decide_eq_true_eq]
    constructor
    · rintro ⟨j, hj, hM, h1, h2⟩
      rw [cmb_same ha hb (by omega) h1 h2 hla, cmb_same ha hb (by omega) h1 h2 hlb]
      unfold cmbM at hM
      rw [Bool.and_eq_true] at hM
      exact hM.2
    · intro hk
      have hex : ∃ x, (x ∈ a ∨ x ∈ b) ∧ x.fr ≤ s ∧ s ≤ x.to_ := by
        have : covS a s = true ∨ covS b s = true := by
          unfold keepH at hk
          cases ha' : covS a s <;> cases hb' : covS b s <;> simp [ha', hb'] at hk ⊢
        rcases this with h | h
        · obtain ⟨x, hx, e⟩ := cov_in.1 h; exact ⟨x, .inl hx, e⟩
        · obtain ⟨x, hx, e⟩ := cov_in.1 h; exact ⟨x, .inr hx, e⟩
      obtain ⟨x, hx, e1, e2⟩ := hex
      obtain ⟨m1, m2⟩ : x.fr ∈ endL a b ∧ x.to_ + 1 ∈ endL a b := hx.elim (hla x) (hlb x)
      obtain ⟨u, hu, eu⟩ := cmb_at m1
      obtain ⟨v, hv, ev⟩ := cmb_at m2
      have step : ∀ d, u + d ≤ v → ∃ j, j < v ∧ u ≤ j ∧ cmbT a b j ≤ s ∧ s < cmbT a b (j + 1) ∨ cmbT a b (u + d) ≤ s := by
        intro d
        induction d with
        | zero => intro _; exact ⟨0, .inr (by rw [Nat.add_zero, eu]; exact e1)⟩
        | succ d ih =>
          intro hd
          obtain ⟨j, h | h⟩ := ih (by omega)
          · exact ⟨j, .inl h⟩
          · rcases Int.lt_or_le s (cmbT a b (u + (d + 1))) with g | g
            · exact ⟨u + d, .inl ⟨by omega, by omega, h, g⟩⟩
            · exact ⟨0, .inr g⟩
      have huv : u ≤ v := by
        rcases Nat.lt_or_ge v u with g | g
        · have := cmb_le ha hb (Nat.le_of_lt g) hu; omega
        · exact g
      obtain ⟨j, h | h⟩ := step (v - u) (by omega)
      · obtain ⟨j1, j2, j3, j4⟩ := h
        refine ⟨j, by omega, ?_, j3, j4⟩
        unfold cmbM
        rw [← cmb_same ha hb (by omega) j3 j4 hla, ← cmb_same ha hb (by omega) j3 j4 hlb, hk, Bool.and_true, Bool.not_eq_true', decide_eq_false_iff_not]
        omega
      · have : u + (v - u) = v := by omega
        rw [this, ev] at h; omega

/-- The three ways to combine sets are those of the program. -/
theorem uni_is {a b S : List SpV} (ha : Canon a) (hb : Canon b) (hp : S.Perm (a ++ b)) (hs : S.Pairwise fun x y => x.fr ≤ y.fr) : jnL S = cmbL a b 1 := by
  have hv : ∀ x ∈ S, x.fr ≤ x.to_ := fun x hx => by
    rcases List.mem_append.1 (hp.mem_iff.1 hx) with h | h
    · exact ha.1 x h
    · exact hb.1 x h
  obtain ⟨c1, c2, _⟩ := jn_ok S.length (Nat.le_refl _) hs hv
  obtain ⟨d1, d2, _⟩ := cmb_ok ha hb 1
  refine canon_ext c1 d1 fun s => ?_
  rw [c2 s, d2 s, cov_perm hp s, cov_apps]; rfl
theorem com_is {a b : List SpV} (ha : Canon a) (hb : Canon b) : comL a b = cmbL a b 2 := by
  obtain ⟨c1, c2, _⟩ := com_ok _ (Nat.le_refl _) ha hb
  obtain ⟨d1, d2, _⟩ := cmb_ok ha hb 2
  refine canon_ext c1 d1 fun s => ?_
  rw [c2 s, d2 s]; rfl
theorem less_is_ {a b : List SpV} (ha : Canon a) (hb : Canon b) (ia : InB a) (ib : InB b) : comL a (gapL 0 b) = cmbL a b 3 := by
  obtain ⟨g1, g2, g3, _⟩ := gap_ok (L := b) (f := 0) (Int.le_refl _) hb ib (fun x hx => (ib x hx).1)
  obtain ⟨c1, c2, _⟩ := com_ok _ (Nat.le_refl _) ha g1
  obtain ⟨d1, d2, _⟩ := cmb_ok ha hb 3
  refine canon_ext c1 d1 fun s => ?_
  rw [c2 s, d2 s, g3 s]
  unfold keepH
  simp only [show (3 : Nat) ≠ 1 by decide, show (3 : Nat) ≠ 2 by decide, if_false]
  cases h : covS a s with
  | false => simp
  | true =>
    obtain ⟨x, hx, e1, e2⟩ := cov_in.1 h
    have := ia x hx
    rw [decide_eq_true (by omega), Bool.true_and]
end Go.Proofs.YtbacoopopokkfaaDoor
