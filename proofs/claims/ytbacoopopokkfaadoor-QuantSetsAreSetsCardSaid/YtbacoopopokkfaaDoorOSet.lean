/- Structs of a row of one's own are set; one more number in a list, and where it moves. -/
import Derived.Test.YtbacoopopokkfaaDoorOOwn
import Derived.Test.YtbacoopopokkfaaDoorOPure
namespace Go.Proofs.YtbacoopopokkfaaDoor
open Go.RowKit
set_option linter.unusedSimpArgs false
set_option linter.unusedVariables false

def setL : List Value → Nat → List Value → List Value
  | xs, _, [] => xs
  | xs, o, v :: r => setL (xs.set o v) (o + 1) r
theorem own_setV {w : World} {base e s g cap n : Nat} {xs : List Value} (h : w.ownsRow base e s (.slice (some ⟨g, 0, none⟩) n cap) n xs) {i : Nat} (v : Value) : (w.setCell ⟨g, i, none⟩ v).ownsRow base e s (.slice (some ⟨g, 0, none⟩) n cap) n (xs.set i v) := by
  rcases h.2 with ⟨hv, _⟩ | ⟨g', cap', cur, hv, hb, hg, h1, h2, h3, h4⟩
  · cases hv
  · injection hv with e1 e2 e3
    injection e1 with e1; injection e1 with e1 _ _
    subst e1; subst e3
    refine ⟨by rw [List.length_set]; exact h.1, .inr ⟨g, cap, cur.setIfInBounds i v, rfl, hb, mblock_set hg _, h1, h2, by rw [Array.size_setIfInBounds]; exact h3, ?_⟩⟩
    rw [Array.toList_setIfInBounds, List.take_set, h4]
theorem own_setCells {base e s g cap n : Nat} : ∀ (vs : List Value) (o : Nat) {w : World} {xs : List Value}, w.ownsRow base e s (.slice (some ⟨g, 0, none⟩) n cap) n xs → (w.setCells g o vs).ownsRow base e s (.slice (some ⟨g, 0, none⟩) n cap) n (setL xs o vs)
  | [], _, _, _, h => h
  | v :: r, o, _, _, h => own_setCells r (o + 1) (own_setV h v)
theorem setL_mid : ∀ (vs B A C : List Value), B.length = vs.length → setL (A ++ B ++ C) A.length vs = A ++ vs ++ C
  | [], [], A, C, _ => by simp [setL]
  | [], b :: B, A, C, h => by simp at h
  | v :: r, [], A, C, h => by simp at h
  | v :: r, b :: B, A, C, h => by
    have e : (A ++ b :: B ++ C).set A.length v = (A ++ [v]) ++ B ++ C := by simp
    show setL ((A ++ b :: B ++ C).set A.length v) (A.length + 1) r = _
    rw [e, show A.length + 1 = (A ++ [v]).length by simp, setL_mid r B (A ++ [v]) C (by simpa using h)]
    simp
theorem setL_flat {α : Type} (cs : α → List Value) (K : Nat) (hk : ∀ x, (cs x).length = K) (L : List α) (i : Nat) (x : α) (hi : i < L.length) : setL (L.flatMap cs) (i * K) (cs x) = (L.set i x).flatMap cs := by
  have e1 : L = L.take i ++ L[i] :: L.drop (i + 1) := by
    rw [← List.drop_eq_getElem_cons hi, List.take_append_drop]
  have e2 : L.set i x = L.take i ++ x :: L.drop (i + 1) := List.set_eq_take_append_cons_drop.trans (by rw [if_pos hi])
  have e3 : ((L.take i).flatMap cs).length = i * K := by rw [mflat_len cs K hk, List.length_take]; congr 1; omega
  rw [e2]
  have e4 : L.flatMap cs = (L.take i).flatMap cs ++ cs L[i] ++ (L.drop (i + 1)).flatMap cs := by
    have q := congrArg (List.flatMap cs) e1
    rw [List.flatMap_append, List.flatMap_cons] at q
    rw [List.append_assoc]; exact q
  rw [e4, ← e3, setL_mid _ _ _ _ (by rw [hk, hk])]
  simp
theorem setCells_grown (g : Nat) : ∀ (vs : List Value) (o : Nat) (w : World), w.grownBy (w.setCells g o vs) (some g)
  | [], _, w => World.grownBy.refl _ _
  | v :: r, o, w => by
    have h : w.grownBy (w.setCell ⟨g, o, none⟩ v) (some g) := ⟨rfl, rfl, rfl, by simp [World.setCell], fun j hj hne => Below.heap_setCell _ _ _ _ (by show j ≠ g; exact fun e => hne (by rw [e]))⟩
    exact h.trans (setCells_grown g r (o + 1) _)
section
variable {α : Type} {cs : α → List Value} {K : Nat} {w : World} {base e g cap n : Nat} {L : List α}
theorem own_set (hk : ∀ x, (cs x).length = K) (h : w.ownsRow base e K (.slice (some ⟨g, 0, none⟩) n cap) n (L.flatMap cs)) (hl : L.length = n) {i : Nat} (hi : i < n) (x : α) :
    (w.setCells g (i * K) (cs x)).ownsRow base e K (.slice (some ⟨g, 0, none⟩) n cap) n ((L.set i x).flatMap cs) := by
  have q := own_setCells (cs x) (i * K) h
  rwa [setL_flat cs K hk L i x (by omega)] at q
theorem own_cellK (hk : ∀ x, (cs x).length = K) (h : w.ownsRow base e K (.slice (some ⟨g, 0, none⟩) n cap) n (L.flatMap cs)) (hl : L.length = n) {i c : Nat} (hi : i < n) {x : α} (hx : L[i]? = some x) {v : Value} (hv : (cs x)[c]? = some v) :
    w.cell? ⟨g, i * K + c, none⟩ = some v := by
  subst hl
  obtain ⟨ao, cp, hs, _, hr, _⟩ := own_rows (cs := cs) hk h
  injection hs with e1 _ _
  subst e1
  have hx2 : L[i] = x := by rw [List.getElem?_eq_getElem hi] at hx; exact Option.some.inj hx
  have q := hr.cells _ rfl i hi c v (by rw [hx2]; exact hv)
  simpa using q
theorem own_freeK (h : w.ownsRow base e K (.slice (some ⟨g, 0, none⟩) n cap) n (L.flatMap cs)) (j : Nat) : w.frozen? ⟨g, j, none⟩ = false := by
  rcases h.2 with ⟨hv, _⟩ | ⟨g', cap', cur, hv, hb, hg, _⟩
  · cases hv
  · injection hv with e1 e2 e3
    injection e1 with e1; injection e1 with e1 _ _
    subst e1
    exact mblock_free hg
end

/-- One more number at a place. -/
def insAt (l : List Nat) (n p : Nat) : List Nat := l.take p ++ n :: l.drop p
theorem insAt_len (l : List Nat) (n p : Nat) : (insAt l n p).length = l.length + 1 := by
  unfold insAt; simp only [List.length_append, List.length_take, List.length_cons, List.length_drop]; omega
theorem insAt_end (l : List Nat) (n : Nat) : insAt l n l.length = l ++ [n] := by unfold insAt; simp
theorem insAt_at {l : List Nat} {n p : Nat} (h : p ≤ l.length) : (insAt l n p)[p]? = some n := by
  unfold insAt
  rw [List.getElem?_append_right (by rw [List.length_take]; omega), List.length_take, show p - min p l.length = 0 by omega]
  rfl
theorem insAt_before {l : List Nat} {n p i : Nat} (h : p ≤ l.length) (hi : i < p) : (insAt l n p)[i]? = some (l.getD i 0) := by
  unfold insAt
  rw [List.getElem?_append_left (by rw [List.length_take]; omega), List.getElem?_take_of_lt hi, List.getD_eq_getElem?_getD, List.getElem?_eq_getElem (by omega)]
  rfl
theorem insAt_move {α : Type} (c : Nat → α) (l : List Nat) (n p : Nat) (h : p + 1 ≤ l.length) : (((insAt l n (p + 1)).map c).set (p + 1) (c (l.getD p 0))).set p (c n) = (insAt l n p).map c := by
  have hp : l.getD p 0 = l[p] := by rw [List.getD_eq_getElem?_getD, List.getElem?_eq_getElem (by omega)]; rfl
  have e1 : l.take (p + 1) = l.take p ++ [l[p]] := List.take_succ_eq_append_getElem (by omega)
  have e2 : l.drop p = l[p] :: l.drop (p + 1) := List.drop_eq_getElem_cons (by omega)
  have e3 : insAt l n (p + 1) = l.take p ++ l[p] :: n :: l.drop (p + 1) := by unfold insAt; rw [e1, List.append_assoc]; rfl
  have e4 : insAt l n p = l.take p ++ n :: l[p] :: l.drop (p + 1) := by unfold insAt; rw [e2]
  have hl : ((l.take p).map c).length = p := by rw [List.length_map, List.length_take]; omega
  rw [e3, e4, hp]
  simp only [List.map_append, List.map_cons]
  rw [List.set_append_right _ _ (by omega), List.set_append_right _ _ (by omega), hl, show p + 1 - p = 1 by omega, Nat.sub_self]
  rfl
theorem set_behind {α : Type} (C X : List α) (k : Nat) (x : α) : (C ++ X).set (C.length + k) x = C ++ X.set k x := by
  rw [List.set_append_right _ _ (by omega), Nat.add_sub_cancel_left]
end Go.Proofs.YtbacoopopokkfaaDoor
