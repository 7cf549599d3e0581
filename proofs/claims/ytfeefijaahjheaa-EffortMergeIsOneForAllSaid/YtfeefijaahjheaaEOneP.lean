/- Merged curves by their sizes: what is merged first does not matter; a curve merged with itself stays; none beats what it was merged into. Purely. -/
import Derived.Test.YtfeefijaahjheaaEMrgP
namespace Go.Proofs.Ytfeefijaahjheaa
set_option linter.unusedSimpArgs false
set_option linter.unusedVariables false

/-- What a list has of a size. -/
def gtB (c : List BestV) (s : Int) : Option BSt := (c.find? fun y => decide (y.sz = s)).map (·.b)
def Ris (c : List BestV) : Prop := c.Pairwise fun x y => x.sz < y.sz
def cmb : Option BSt → Option BSt → Option BSt
  | none, y => y
  | some x, none => some x
  | some x, some y => some (if betB y x = true then y else x)
theorem gt_nil (s : Int) : gtB [] s = none := rfl
theorem gt_cons (x : BestV) (c : List BestV) (s : Int) : gtB (x :: c) s = if x.sz = s then some x.b else gtB c s := by
  unfold gtB
  rw [List.find?_cons]
  by_cases h : x.sz = s
  · simp [h]
  · simp [h]
theorem gt_none {c : List BestV} {s : Int} (h : ∀ x ∈ c, x.sz ≠ s) : gtB c s = none := by
  unfold gtB
  have : c.find? (fun y => decide (y.sz = s)) = none := by rw [List.find?_eq_none]; intro x hx; simpa using h x hx
  rw [this]; rfl
theorem gt_mem {c : List BestV} (h : Ris c) {x : BestV} (hx : x ∈ c) : gtB c x.sz = some x.b := by
  induction c with
  | nil => cases hx
  | cons y r ih =>
    obtain ⟨h1, h2⟩ := List.pairwise_cons.1 h
    rw [gt_cons]
    rcases List.mem_cons.1 hx with rfl | hx
    · simp
    · have := h1 x hx
      rw [if_neg (by omega)]
      exact ih h2 hx
theorem gt_some {c : List BestV} {s : Int} {b : BSt} (h : gtB c s = some b) : ⟨s, b⟩ ∈ c := by
  induction c with
  | nil => cases h
  | cons y r ih =>
    rw [gt_cons] at h
    split at h
    · rename_i e
      cases h
      rw [← e]
      exact List.mem_cons_self
    · exact List.mem_cons_of_mem _ (ih h)
/-- Two rising lists that have the same of each size are the same. -/
theorem ris_ext {c d : List BestV} (hc : Ris c) (hd : Ris d) (h : ∀ s, gtB c s = gtB d s) : c = d := by
  induction c generalizing d with
  | nil =>
    cases d with
    | nil => rfl
    | cons y r => have := h y.sz; rw [gt_nil, gt_cons] at this; simp at this
  | cons x c ih =>
    cases d with
    | nil => have := h x.sz; rw [gt_nil, gt_cons] at this; simp at this
    | cons y d =>
      obtain ⟨c1, c2⟩ := List.pairwise_cons.1 hc
      obtain ⟨d1, d2⟩ := List.pairwise_cons.1 hd
      have hx : (⟨x.sz, x.b⟩ : BestV) ∈ y :: d := gt_some (by rw [← h, gt_cons]; simp)
      have hy : (⟨y.sz, y.b⟩ : BestV) ∈ x :: c := gt_some (by rw [h, gt_cons]; simp)
      have e : x = y := by
        rcases List.mem_cons.1 hx with q | q
        · obtain ⟨xs, xb⟩ := x; exact q
        · rcases List.mem_cons.1 hy with p | p
          · obtain ⟨ys, yb⟩ := y; exact p.symm
          · have q1 := d1 _ q
            have q2 := c1 _ p
            simp only at q1 q2; omega
      subst e
      rw [ih c2 d2 fun s => ?_]
      have hs := h s
      rw [gt_cons, gt_cons] at hs
      by_cases e : x.sz = s
      · rw [gt_none (fun z hz => by have := c1 z hz; omega), gt_none (fun z hz => by have := d1 z hz; omega)]
      · rwa [if_neg e, if_neg e] at hs
theorem gt_app {c : List BestV} {x : BestV} (s : Int) : gtB (c ++ [x]) s = (gtB c s).or (if x.sz = s then some x.b else none) := by
  induction c with
  | nil => rw [List.nil_append, gt_cons, gt_nil]; simp
  | cons y r ih => rw [List.cons_append, gt_cons, gt_cons, ih]; split <;> simp
theorem ris_app {c : List BestV} {x : BestV} (hc : Ris c) (h : ∀ z ∈ c, z.sz < x.sz) : Ris (c ++ [x]) := by
  refine List.pairwise_append.2 ⟨hc, List.pairwise_singleton _ _, fun z hz y hy => ?_⟩
  rw [List.mem_singleton.1 hy]; exact h z hz
/-- What is merged has of each size the better one. -/
theorem rem_is : ∀ (n : Nat) {out a b : List BestV}, a.length + b.length ≤ n → Ris out → Rem out a b → Ris (remM out a b) ∧ ∀ s, gtB (remM out a b) s = (gtB out s).or (cmb (gtB a s) (gtB b s)) := by
  intro n
  induction n with
  | zero =>
    intro out a b hn ho h
    have ea : a = [] := List.eq_nil_of_length_eq_zero (by omega)
    have eb : b = [] := List.eq_nil_of_length_eq_zero (by omega)
    subst ea; subst eb
    have e : remM out [] [] = out := by simp [remM]
    rw [e]
    exact ⟨ho, fun s => by simp [gt_nil, cmb]⟩
  | succ n ih =>
    intro out a b hn ho h
    have goA : ∀ x A, a = x :: A → (∀ y, b.head? = some y → x.sz < y.sz) → Ris (remM out a b) ∧ ∀ s, gtB (remM out a b) s = (gtB out s).or (cmb (gtB a s) (gtB b s)) := by
      intro x A e hc
      subst e
      obtain ⟨e, h2⟩ := rem_a h hc
      obtain ⟨r1, r2⟩ := ih (by simp at hn; omega) (ris_app ho (fun z hz => h.la z hz x List.mem_cons_self)) h2
      rw [e]
      refine ⟨r1, fun s => ?_⟩
      rw [r2 s, gt_app, gt_cons]
      by_cases es : x.sz = s
      · have hbn : gtB b s = none := gt_none fun z hz => by
          have := h2.lb x (by simp) z hz; omega
        have hon : gtB out s = none := gt_none fun z hz => by have := h.la z hz x List.mem_cons_self; omega
        have han : gtB A s = none := gt_none fun z hz => by have := (List.pairwise_cons.1 h.pa).1 z hz; omega
        rw [hbn, hon, han]; simp [es, cmb]
      · simp [es]
    have goB : ∀ y B, b = y :: B → (∀ x, a.head? = some x → y.sz < x.sz) → Ris (remM out a b) ∧ ∀ s, gtB (remM out a b) s = (gtB out s).or (cmb (gtB a s) (gtB b s)) := by
      intro y B e hc
      subst e
      obtain ⟨e, h2⟩ := rem_b h hc
      obtain ⟨r1, r2⟩ := ih (by simp at hn; omega) (ris_app ho (fun z hz => h.lb z hz y List.mem_cons_self)) h2
      rw [e]
      refine ⟨r1, fun s => ?_⟩
      rw [r2 s, gt_app, gt_cons]
      by_cases es : y.sz = s
      · have han : gtB a s = none := gt_none fun z hz => by
          have := h2.la y (by simp) z hz; omega
        have hon : gtB out s = none := gt_none fun z hz => by have := h.lb z hz y List.mem_cons_self; omega
        have hbn : gtB B s = none := gt_none fun z hz => by have := (List.pairwise_cons.1 h.pb).1 z hz; omega
        rw [hbn, hon, han]; simp [es, cmb]
      · simp [es]
    cases a with
    | nil =>
      cases b with
      | nil =>
        have e : remM out [] [] = out := by simp [remM]
        rw [e]
        exact ⟨ho, fun s => by simp [gt_nil, cmb]⟩
      | cons y B => exact goB y B rfl (fun x hx => by cases hx)
    | cons x A =>
      cases b with
      | nil => exact goA x A rfl (fun y hy => by cases hy)
      | cons y B =>
        rcases Int.lt_trichotomy x.sz y.sz with hlt | heq | hgt
        · exact goA x A rfl (fun z hz => by cases hz; exact hlt)
        · obtain ⟨e, h2⟩ := rem_ab h heq
          have hz : (if betB y.b x.b = true then y else x).sz = x.sz := by split <;> omega
          obtain ⟨r1, r2⟩ := ih (by simp only [List.length_cons] at hn; omega) (ris_app ho (fun z hz' => by rw [hz]; exact h.la z hz' x List.mem_cons_self)) h2
          rw [e]
          refine ⟨r1, fun s => ?_⟩
          rw [r2 s, gt_app, gt_cons, gt_cons, hz]
          by_cases es : x.sz = s
          · have hon : gtB out s = none := gt_none fun z hz => by have := h.la z hz x List.mem_cons_self; omega
            have han : gtB A s = none := gt_none fun z hz => by have := (List.pairwise_cons.1 h.pa).1 z hz; omega
            have hbn : gtB B s = none := gt_none fun z hz => by have := (List.pairwise_cons.1 h.pb).1 z hz; omega
            have es2 : y.sz = s := by omega
            rw [hon, han, hbn]
            simp only [es, es2, if_true, cmb, Option.none_or, Option.or_none]
            split <;> rfl
          · rw [if_neg es, if_neg es, if_neg (by omega)]; simp
        · exact goB y B rfl (fun z hz => by cases hz; exact hgt)
theorem mrg_is {a b : List BestV} (ha : Ris a) (hb : Ris b) : Ris (mrgM a b) ∧ ∀ s, gtB (mrgM a b) s = cmb (gtB a s) (gtB b s) := by
  obtain ⟨h1, h2⟩ := rem_start ha hb
  obtain ⟨r1, r2⟩ := rem_is (a.length + b.length) (Nat.le_refl _) List.Pairwise.nil h1
  rw [h2] at r1 r2
  exact ⟨r1, fun s => by rw [r2 s, gt_nil]; simp⟩
theorem bet_trans {x y z : BSt} (h1 : betB x y = true) (h2 : betB y z = true) : betB x z = true := by
  unfold betB at *
  simp only [Bool.and_eq_true, Bool.or_eq_true, Bool.not_eq_true', decide_eq_true_eq] at *
  obtain ⟨a1, a2⟩ := h1; obtain ⟨b1, b2⟩ := h2
  refine ⟨a1, ?_⟩
  rcases b2 with b2 | b2
  · exact .inl b2
  · rcases a2 with a2 | a2
    · rw [a2] at b1; cases b1
    · exact .inr (by omega)
theorem bet_not {x y z : BSt} (h1 : betB x y = false) (h2 : betB y z = false) : betB x z = false := by
  unfold betB at *
  cases hx : x.found <;> cases hy : y.found <;> cases hz : z.found <;> simp_all <;> omega
theorem bet_self (x : BSt) : betB x x = false := by unfold betB; cases x.found <;> simp
theorem cmb_assoc (x y z : Option BSt) : cmb (cmb x y) z = cmb x (cmb y z) := by
  rcases x with _ | x <;> rcases y with _ | y <;> rcases z with _ | z <;> simp only [cmb]
  congr 1
  by_cases h1 : betB y x = true <;> by_cases h2 : betB z y = true <;> by_cases h3 : betB z x = true <;> simp only [h1, h2, h3, if_true, if_false, Bool.false_eq_true]
  all_goals first
    | rfl
    | (exact absurd (bet_trans h2 h1) h3)
    | (have := bet_not (x := z) (y := y) (z := x) (by simpa using h2) (by simpa using h1); exact absurd h3 (by rw [this]; decide))
    | skip
theorem cmb_self (x : Option BSt) : cmb x x = x := by
  rcases x with _ | x
  · rfl
  · simp [cmb, bet_self]
theorem mrg_assoc {a b c : List BestV} (ha : Ris a) (hb : Ris b) (hc : Ris c) : mrgM (mrgM a b) c = mrgM a (mrgM b c) := by
  obtain ⟨p1, p2⟩ := mrg_is ha hb
  obtain ⟨q1, q2⟩ := mrg_is hb hc
  obtain ⟨r1, r2⟩ := mrg_is p1 hc
  obtain ⟨s1, s2⟩ := mrg_is ha q1
  exact ris_ext r1 s1 fun s => by rw [r2, s2, p2, q2, cmb_assoc]
theorem mrg_self {a : List BestV} (ha : Ris a) : mrgM a a = a := by
  obtain ⟨p1, p2⟩ := mrg_is ha ha
  exact ris_ext p1 ha fun s => by rw [p2, cmb_self]
theorem mrg_mem {a b : List BestV} (ha : Ris a) (hb : Ris b) {x : BestV} (h : x ∈ mrgM a b) : x ∈ a ∨ x ∈ b := by
  obtain ⟨p1, p2⟩ := mrg_is ha hb
  have q := gt_mem p1 h
  rw [p2] at q
  obtain ⟨xs, xb⟩ := x
  simp only at q
  cases h1 : gtB a xs with
  | none => rw [h1] at q; exact .inr (gt_some q)
  | some u =>
    rw [h1] at q
    cases h2 : gtB b xs with
    | none => rw [h2] at q; exact .inl (gt_some (h1.trans q))
    | some v =>
      rw [h2] at q
      simp only [cmb, Option.some.injEq] at q
      split at q
      · subst q; exact .inr (gt_some h2)
      · subst q; exact .inl (gt_some h1)
theorem mrg_pos {a b : List BestV} (ha : Ris a) (hb : Ris b) (h : 0 < a.length) : 0 < (mrgM a b).length := by
  obtain ⟨p1, p2⟩ := mrg_is ha hb
  rcases Nat.eq_zero_or_pos (mrgM a b).length with e | e
  · exfalso
    have e := List.eq_nil_of_length_eq_zero e
    have hx : a[0] ∈ a := List.getElem_mem h
    have q := p2 a[0].sz
    rw [e, gt_nil, gt_mem ha hx] at q
    cases hb2 : gtB b a[0].sz with
    | none => rw [hb2] at q; cases q
    | some v => rw [hb2] at q; simp [cmb] at q
  · exact e
theorem rising_of {lo hi : Int} : ∀ {l : List Int} {p : Option Int}, l.Pairwise (· < ·) → (∀ x ∈ l, lo ≤ x ∧ x ≤ hi) → (∀ y, p = some y → ∀ x ∈ l, y < x) → risingE lo hi p l = 0
  | [], _, _, _, _ => by unfold risingE; rfl
  | y :: r, p, h, hi, hp => by
    obtain ⟨h1, h2⟩ := List.pairwise_cons.1 h
    unfold risingE
    rw [if_pos (hi y List.mem_cons_self), if_neg]
    · exact rising_of h2 (fun x hx => hi x (List.mem_cons_of_mem _ hx)) (fun z hz x hx => by cases hz; exact h1 x hx)
    · cases p with
      | none => simp [soonI]
      | some z =>
        have := hp z rfl y List.mem_cons_self
        simp only [soonI, decide_eq_true_eq]; omega
theorem bests_of : ∀ {L : List BestV}, (∀ x ∈ L, bestE x = 0) → bestsE L = 0
  | [], _ => rfl
  | y :: r, h => by unfold bestsE; rw [if_pos (h y List.mem_cons_self)]; exact bests_of fun x hx => h x (List.mem_cons_of_mem _ hx)
theorem crv_of {L : List BestV} (h : CrvIn L) : crvE L = 0 := by
  have e : sizesE (szs L) = 0 := by
    unfold sizesE
    have hp := h.pos
    have hl := h.len
    rw [szs_len, if_neg (by omega), if_pos (by omega)]
    refine rising_of ?_ ?_ (fun _ e => by cases e)
    · unfold szs; exact List.pairwise_map.2 h.pw
    · intro x hx
      unfold szs at hx
      obtain ⟨y, hy, rfl⟩ := List.mem_map.1 hx
      exact h.sz y hy
  unfold crvE
  rw [if_pos e]
  exact bests_of h.ok
theorem mrg_crv {a b : List BestV} (ha : CrvIn a) (hb : CrvIn b) (h : (mrgM a b).length ≤ 100) : CrvIn (mrgM a b) :=
  ⟨h, mrg_pos ha.pw hb.pw ha.pos, fun x hx => (mrg_mem ha.pw hb.pw hx).elim (ha.sz x) (hb.sz x), (mrg_is ha.pw hb.pw).1, fun x hx => (mrg_mem ha.pw hb.pw hx).elim (ha.ok x) (hb.ok x)⟩
theorem two_of {a b : List BestV} (ha : CrvIn a) (hb : CrvIn b) : twoE a b = 0 := by
  unfold twoE; rw [if_pos (crv_of ha)]; exact crv_of hb
theorem mrgOut_of {a b : List BestV} (ha : CrvIn a) (hb : CrvIn b) : mrgOut a b = if (mrgM a b).length ≤ 100 then (mrgM a b, 0) else ([], 3) := by
  unfold mrgOut; rw [if_pos (two_of ha hb)]
theorem mrgOut_ok {a b : List BestV} {R : List BestV} (h : mrgOut a b = (R, 0)) : CrvIn a ∧ CrvIn b ∧ R = mrgM a b ∧ R.length ≤ 100 := by
  unfold mrgOut at h
  split at h
  · rename_i h0
    obtain ⟨h1, h2⟩ := two_in h0
    split at h
    · rename_i h3; cases h; exact ⟨h1, h2, rfl, h3⟩
    · cases h
  · rename_i h0; simp only [Prod.mk.injEq] at h; exact absurd h.2 h0
theorem bOf_gt (c : List BestV) (s : Int) : bOf c s = (gtB c s).getD ⟨0, 0, false⟩ := rfl
/-- None beats what it was merged into. -/
theorem bts_none {a b c : List BestV} (ha : CrvIn a) (hb : CrvIn b) (hc : CrvIn c) : btsL b (mrgM (mrgM a b) c) = [] := by
  obtain ⟨p1, p2⟩ := mrg_is ha.pw hb.pw
  obtain ⟨r1, r2⟩ := mrg_is p1 hc.pw
  unfold btsL
  have : b.filter (fun x => betB x.b (bOf (mrgM (mrgM a b) c) x.sz)) = [] := by
    rw [List.filter_eq_nil_iff]
    intro x hx
    rw [bOf_gt, r2, p2, gt_mem hb.pw hx]
    cases h1 : gtB a x.sz with
    | none =>
      cases h2 : gtB c x.sz with
      | none => simp [cmb, bet_self]
      | some v =>
        simp only [cmb, Option.getD_some]
        split
        · rename_i q
          intro h; have := bet_trans h q; rw [bet_self] at this; cases this
        · simp [bet_self]
    | some u =>
      have hm : betB x.b (if betB x.b u = true then x.b else u) = false := by
        split
        · exact bet_self _
        · rename_i q; simpa using q
      cases h2 : gtB c x.sz with
      | none => simp only [cmb, Option.getD_some]; rw [hm]; decide
      | some v =>
        simp only [cmb, Option.getD_some]
        generalize (if betB x.b u = true then x.b else u) = m at hm
        split
        · rename_i q
          intro h; have := bet_trans h q; rw [hm] at this; cases this
        · rw [hm]; decide
  rw [this]; rfl
theorem btsOut_none {a b c : List BestV} (ha : CrvIn a) (hb : CrvIn b) (hc : CrvIn c) (hu : CrvIn (mrgM (mrgM a b) c)) : btsOut b (mrgM (mrgM a b) c) = ([], 0) := by
  unfold btsOut; rw [if_pos (two_of hb hu), bts_none ha hb hc]
end Go.Proofs.Ytfeefijaahjheaa
