/- Stable orders, purely: ranks as keys, the one list of numbers that is in order, insertions. No program. -/
import Derived.Test.YtbacoopopokkfaaDoorQShareP
namespace Go.Proofs.YtbacoopopokkfaaDoor
set_option linter.unusedSimpArgs false
set_option linter.unusedVariables false

/-- How many of a list an element comes before. -/
def rankK {α : Type} (lt : α → α → Bool) (L : List α) (x : α) : Int := ((L.countP fun z => lt x z : Nat) : Int)
theorem countP_lt {α : Type} {p q : α → Bool} : ∀ {L : List α}, (∀ z ∈ L, p z = true → q z = true) → ∀ {y : α}, y ∈ L → p y = false → q y = true → L.countP p < L.countP q
  | [], _, _, hy, _, _ => by cases hy
  | a :: r, h, y, hy, h1, h2 => by
    have hm : r.countP p ≤ r.countP q := List.countP_mono_left fun z hz => h z (List.mem_cons_of_mem _ hz)
    rw [List.countP_cons, List.countP_cons]
    rcases List.mem_cons.1 hy with e | e
    · subst e; rw [h1, h2]; simp; omega
    · have ih := countP_lt (fun z hz => h z (List.mem_cons_of_mem _ hz)) e h1 h2
      have ha := h a (by simp)
      cases hp : p a <;> cases hq : q a <;> simp_all <;> omega
/-- Ranks tell the order. -/
theorem rank_iff {α : Type} {lt : α → α → Bool} {L : List α} (hir : ∀ x ∈ L, lt x x = false) (htr : ∀ x ∈ L, ∀ y ∈ L, ∀ z ∈ L, lt x y = true → lt y z = true → lt x z = true)
    (hnt : ∀ x ∈ L, ∀ y ∈ L, ∀ z ∈ L, lt x z = true → lt x y = true ∨ lt y z = true) {x y : α} (hx : x ∈ L) (hy : y ∈ L) : rankK lt L y < rankK lt L x ↔ lt x y = true := by
  unfold rankK
  constructor
  · intro h
    cases hc : lt x y with
    | true => rfl
    | false =>
      have : L.countP (fun z => lt x z) ≤ L.countP (fun z => lt y z) := List.countP_mono_left fun z hz e => by
        rcases hnt x hx y hy z hz e with q | q
        · rw [hc] at q; cases q
        · exact q
      omega
  · intro h
    have := countP_lt (p := fun z => lt y z) (q := fun z => lt x z) (fun z hz e => htr x hx y hy z hz h e) hy (hir y hy) h
    omega

/-- The numbers below n, in the order of their keys, each behind those of its key that are less. -/
structure Sti (key : Nat → Int) (n : Nat) (l : List Nat) : Prop where
  perm : l.Perm (List.range n)
  srt : l.Pairwise (Bef key)
theorem Bef.not {key : Nat → Int} {x y : Nat} (h : Bef key x y) : ¬ Bef key y x := by unfold Bef at *; omega
theorem Sti.one {key : Nat → Int} {n : Nat} {a b : List Nat} (ha : Sti key n a) (hb : Sti key n b) : a = b :=
  List.Perm.eq_of_pairwise (le := Bef key) (fun _ _ _ _ h1 h2 => absurd h2 h1.not) ha.srt hb.srt (ha.perm.trans hb.perm.symm)
theorem Sti.len {key : Nat → Int} {n : Nat} {l : List Nat} (h : Sti key n l) : l.length = n := by rw [h.perm.length_eq, List.length_range]
theorem Sti.lt {key : Nat → Int} {n : Nat} {l : List Nat} (h : Sti key n l) {x : Nat} (hx : x ∈ l) : x < n := List.mem_range.1 (h.perm.mem_iff.1 hx)
theorem Sti.nil (key : Nat → Int) : Sti key 0 [] := ⟨List.Perm.refl _, List.Pairwise.nil⟩
theorem Sti.ofOrd {key : Nat → Int} {n : Nat} {f : Nat → Nat} (h : Ord key n f) : Sti key n ((List.range n).map f) := by
  refine ⟨?_, ?_⟩
  · refine (List.perm_ext_iff_of_nodup ?_ List.nodup_range).2 fun x => ?_
    · exact List.pairwise_map.2 (List.nodup_range.imp fun hab e => hab (h.inj _ _ e))
    · constructor
      · intro hx
        obtain ⟨k, hk, rfl⟩ := List.mem_map.1 hx
        exact List.mem_range.2 (h.lt (List.mem_range.1 hk))
      · intro hx
        obtain ⟨k, hk, e⟩ := h.place (List.mem_range.1 hx)
        exact List.mem_map.2 ⟨k, List.mem_range.2 hk, e⟩
  · refine List.pairwise_map.2 ?_
    rw [List.pairwise_iff_getElem]
    intro i j hi hj hij
    simp only [List.length_range] at hi hj
    simp only [List.getElem_range]
    exact h.srt i j (Nat.zero_le _) hij hj
/-- One more is put where it belongs. -/
theorem Sti.put {key : Nat → Int} {n : Nat} {l : List Nat} (h : Sti key n l) {p : Nat} (hp : p ≤ n) (hl : p = 0 ∨ ¬ key (l.getD (p - 1) 0) < key n) (hr : p = n ∨ key (l.getD p 0) < key n) :
    Sti key (n + 1) (l.take p ++ n :: l.drop p) := by
  have hlen := h.len
  refine ⟨?_, ?_⟩
  · rw [List.range_succ]
    have e : (l.take p ++ n :: l.drop p).Perm (n :: (l.take p ++ l.drop p)) := List.perm_middle
    rw [List.take_append_drop] at e
    exact e.trans ((List.Perm.cons n h.perm).trans (List.perm_append_comm (l₁ := [n]) (l₂ := List.range n)))
  · have hs : (l.take p ++ l.drop p).Pairwise (Bef key) := by rw [List.take_append_drop]; exact h.srt
    obtain ⟨s1, s2, s3⟩ := List.pairwise_append.1 hs
    have hbl : ∀ x ∈ l.take p, Bef key x n := by
      intro x hx
      rcases hl with e | e
      · subst e; simp at hx
      · have hp0 : 0 < p := by rcases Nat.eq_zero_or_pos p with q | q; · subst q; simp at hx
                               · exact q
        obtain ⟨i, hi, ex⟩ := List.mem_iff_getElem.1 hx
        rw [List.length_take] at hi
        have hxn : x < n := h.lt (List.mem_of_mem_take hx)
        have hp1 : p - 1 < l.length := by omega
        rw [List.getD_eq_getElem?_getD, List.getElem?_eq_getElem hp1] at e
        simp only [Option.getD_some] at e
        have hq : Bef key l[p - 1] n := (bef_not (h.lt (List.getElem_mem hp1))).2 e
        have hxi : x = l[i] := by rw [← ex, List.getElem_take]
        rcases Nat.lt_or_ge i (p - 1) with c | c
        · have := List.pairwise_iff_getElem.1 h.srt i (p - 1) (by omega) hp1 c
          rw [hxi]; exact this.trans hq
        · have : i = p - 1 := by omega
          subst this; rw [hxi]; exact hq
    have hbr : ∀ x ∈ l.drop p, Bef key n x := by
      intro x hx
      obtain ⟨i, hi, ex⟩ := List.mem_iff_getElem.1 hx
      rw [List.length_drop] at hi
      rcases hr with e | e
      · omega
      · have hp1 : p < l.length := by omega
        rw [List.getD_eq_getElem?_getD, List.getElem?_eq_getElem hp1] at e
        simp only [Option.getD_some] at e
        have hq : Bef key n l[p] := (bef_iff (h.lt (List.getElem_mem hp1))).2 e
        have hxi : x = l[p + i] := by rw [← ex, List.getElem_drop]
        rcases Nat.eq_zero_or_pos i with c | c
        · subst c; rw [hxi]; exact hq
        · have := List.pairwise_iff_getElem.1 h.srt p (p + i) hp1 (by omega) (by omega)
          rw [hxi]; exact hq.trans this
    refine List.pairwise_append.2 ⟨s1, List.pairwise_cons.2 ⟨hbr, s2⟩, fun x hx y hy => ?_⟩
    rcases List.mem_cons.1 hy with e | e
    · subst e; exact hbl x hx
    · exact s3 x hx y e
/-- Where it belongs: ahead of those at the end that it comes before. -/
def insP (key : Nat → Int) (l : List Nat) (z : Int) : Nat → Nat
  | 0 => 0
  | p + 1 => if key (l.getD p 0) < z then insP key l z p else p + 1
theorem insP_is (key : Nat → Int) (l : List Nat) (z : Int) : ∀ p, insP key l z p ≤ p ∧ (insP key l z p = 0 ∨ ¬ key (l.getD (insP key l z p - 1) 0) < z) ∧ (∀ i, insP key l z p ≤ i → i < p → key (l.getD i 0) < z)
  | 0 => ⟨Nat.le_refl _, .inl rfl, fun i h1 h2 => by omega⟩
  | p + 1 => by
    by_cases c : key (l.getD p 0) < z
    · have e : insP key l z (p + 1) = insP key l z p := by unfold insP; rw [if_pos c]; cases p <;> rfl
      obtain ⟨h1, h2, h3⟩ := insP_is key l z p
      rw [e]
      exact ⟨by omega, h2, fun i a b => by
        rcases Nat.lt_or_ge i p with d | d
        · exact h3 i a d
        · rw [show i = p by omega]; exact c⟩
    · have e : insP key l z (p + 1) = p + 1 := by unfold insP; rw [if_neg c]
      rw [e]
      exact ⟨Nat.le_refl _, .inr (by simpa using c), fun i a b => by omega⟩
/-- The order of the numbers below n. -/
def stI (key : Nat → Int) : Nat → List Nat
  | 0 => []
  | n + 1 => (stI key n).take (insP key (stI key n) (key n) n) ++ n :: (stI key n).drop (insP key (stI key n) (key n) n)
theorem stI_is (key : Nat → Int) : ∀ n, Sti key n (stI key n)
  | 0 => Sti.nil key
  | n + 1 => by
    have h := stI_is key n
    obtain ⟨h1, h2, h3⟩ := insP_is key (stI key n) (key n) n
    exact h.put h1 h2 (by
      rcases Nat.lt_or_ge (insP key (stI key n) (key n) n) n with c | c
      · exact .inr (h3 _ (Nat.le_refl _) c)
      · exact .inl (by omega))
theorem stI_of {key : Nat → Int} {n : Nat} {l : List Nat} (h : Sti key n l) : l = stI key n := h.one (stI_is key n)
end Go.Proofs.YtbacoopopokkfaaDoor
