/- The reference's loop over the words of a text of spans: what each round comes to, purely. -/
import Derived.Test.YtbacoopopokkfaaDoorQRRdP
namespace Go.Proofs.YtbacoopopokkfaaDoor
set_option linter.unusedSimpArgs false
set_option linter.unusedVariables false

/-- What comes behind the reading: the spans are looked at, put in order and joined. -/
def chkR (L : List SpV) : List SpV × Int × Int := if L.any outB = true then ([], 0, 9) else if L.any revB = true then ([], 0, 10) else if 1000 < (jnL (srtS L)).length then ([], 0, 3) else (jnL (srtS L), 0, 0)

theorem one_no {R : List Nat} (h : (numV 0 9999999999999 R).ok = false) : oneV R = (false, 0, ⟨0, 0⟩) := by
  unfold oneV; rw [if_neg (by simp [h])]
theorem one_half {R : List Nat} {a : Int} {c : Nat} (h : numV 0 9999999999999 R = ⟨a, true, c⟩) (hw : (wordV [45] (R.drop c)).1 = true) (h2 : (numV 0 9999999999999 (R.drop (c + 1))).ok = false) : oneV R = (false, c + 1, ⟨0, 0⟩) := by
  unfold oneV; rw [h]; simp only [if_true]; rw [if_pos hw, if_neg (by simp [h2])]
theorem one_two {R : List Nat} {a b : Int} {c d : Nat} (h : numV 0 9999999999999 R = ⟨a, true, c⟩) (hw : (wordV [45] (R.drop c)).1 = true) (h2 : numV 0 9999999999999 (R.drop (c + 1)) = ⟨b, true, d⟩) : oneV R = (true, c + 1 + d, ⟨a, b⟩) := by
  unfold oneV; rw [h]; simp only [if_true]; rw [if_pos hw, h2]; simp only [if_true]
theorem one_one {R : List Nat} {a : Int} {c : Nat} (h : numV 0 9999999999999 R = ⟨a, true, c⟩) (hw : (wordV [45] (R.drop c)).1 = false) : oneV R = (true, c, ⟨a, a⟩) := by
  unfold oneV; rw [h]; simp only [if_true]; rw [if_neg (by simp [hw])]
/-- Where the first loop stands. -/
def AtW (s : ByteArray) (acc : List SpV) (u : Nat) : Prop := spsV (rem s u) acc u = spsV (rem s 0) [] 0 ∧ (acc.length = 0 → u = 0) ∧ acc.length ≤ u ∧ u ≤ s.size ∧ InR acc
theorem rds_bad {s : ByteArray} (h40 : ¬ 40000 < s.size) {L : List SpV} {u : Nat} {ok : Bool} (h : spsV (rem s 0) [] 0 = (L, u, ok)) (hb : ¬ (ok = true ∧ u = s.size)) : rdsR s = ([], (u : Int), 6) := by
  have e : rdR s = ([], (u : Int), 6) := by
    unfold rdR; rw [if_neg h40, h]; simp only; rw [if_neg hb]
  unfold rdsR; rw [e]; simp
theorem rds_fit {s : ByteArray} (h40 : ¬ 40000 < s.size) {L : List SpV} (h : spsV (rem s 0) [] 0 = (L, s.size, true)) : rdsR s = chkR L := by
  have e : rdR s = (L, 0, 0) := by
    unfold rdR; rw [if_neg h40, h]; simp
  unfold rdsR chkR; rw [e]; simp
theorem at_no {s : ByteArray} (h40 : ¬ 40000 < s.size) (hne : 0 < s.size) {acc : List SpV} {u : Nat} (hI : AtW s acc u) (h : oneV (rem s u) = (false, 0, ⟨0, 0⟩)) : rdsR s = ([], ((u + 0 : Nat) : Int), 6) := by
  have e := hI.1
  rw [spsV_none (by rw [h]) (by rw [h])] at e
  refine rds_bad h40 e.symm ?_
  rintro ⟨a, b⟩
  have := hI.2.1 (of_decide_eq_true a)
  omega
theorem at_half {s : ByteArray} (h40 : ¬ 40000 < s.size) {acc : List SpV} {u c : Nat} (hI : AtW s acc u) (h : oneV (rem s u) = (false, c + 1, ⟨0, 0⟩)) : rdsR s = ([], ((u + c + 1 : Nat) : Int), 6) := by
  have e := hI.1
  rw [spsV_bad (by rw [h]) (by rw [h]; simp)] at e
  rw [h] at e
  exact rds_bad h40 e.symm (by simp)
theorem at_end {s : ByteArray} (h40 : ¬ 40000 < s.size) {acc : List SpV} {u c : Nat} {x : SpV} (hI : AtW s acc u) (h : oneV (rem s u) = (true, c, x)) (he : u + c = s.size) : rdsR s = chkR (acc ++ [x]) := by
  have e := hI.1
  have ew : (wordV [44] ((rem s u).drop (oneV (rem s u)).2.1)).1 = false := by rw [h, rem_drop]; show (wordV [44] (rem s (u + c))).1 = false; rw [word_end 44 (by omega)]
  rw [spsV_last (by rw [h]) ew, h] at e
  simp only [he] at e
  exact rds_fit h40 e.symm
theorem at_other {s : ByteArray} (h40 : ¬ 40000 < s.size) {acc : List SpV} {u c : Nat} {x : SpV} (hI : AtW s acc u) (h : oneV (rem s u) = (true, c, x)) (he : u + c < s.size) (hb : s[u + c].toNat ≠ 44) : rdsR s = ([], ((u + c : Nat) : Int), 6) := by
  have e := hI.1
  have ew : (wordV [44] ((rem s u).drop (oneV (rem s u)).2.1)).1 = false := by rw [h, rem_drop, word_comma he, if_neg hb]
  rw [spsV_last (by rw [h]) ew, h] at e
  refine rds_bad h40 e.symm (fun q => ?_)
  have q2 : u + c = s.size := q.2
  omega
theorem one_bdS {R : List Nat} {c : Nat} {x : SpV} (h : oneV R = (true, c, x)) : 1 ≤ c ∧ 0 ≤ x.fr ∧ x.fr ≤ 9999999999999 ∧ 0 ≤ x.to_ ∧ x.to_ ≤ 9999999999999 := by
  have a := oneV_pos (R := R) (by rw [h])
  have b := oneV_bd (R := R) (by rw [h])
  rw [h] at a b
  exact ⟨a.1, b⟩
theorem inR_more {acc : List SpV} {x : SpV} (h : InR acc) (hx : 0 ≤ x.fr ∧ x.fr ≤ 9999999999999 ∧ 0 ≤ x.to_ ∧ x.to_ ≤ 9999999999999) : InR (acc ++ [x]) := fun y hy => by
  rcases List.mem_append.1 hy with h1 | h1
  · exact h y h1
  · rw [List.mem_singleton.1 h1]; exact hx
theorem at_more {s : ByteArray} {acc : List SpV} {u c : Nat} {x : SpV} (hI : AtW s acc u) (h : oneV (rem s u) = (true, c, x)) (he : u + c < s.size) (hb : s[u + c].toNat = 44) : AtW s (acc ++ [x]) (u + c + 1) := by
  obtain ⟨e, h0, hl, hu, hr⟩ := hI
  have hx := one_bdS h
  have ew : (wordV [44] ((rem s u).drop (oneV (rem s u)).2.1)).1 = true := by rw [h, rem_drop, word_comma he, if_pos hb]
  rw [spsV_more (by rw [h]) ew, h] at e
  simp only [rem_drop] at e
  refine ⟨by rw [← e]; rfl, fun q => by simp at q, by simp; omega, by omega, inR_more hr hx.2⟩
theorem at_moreQ {s : ByteArray} {acc : List SpV} {u c q : Nat} {x : SpV} (hI : AtW s acc u) (h : oneV (rem s u) = (true, c, x)) (hq : u + c = q) (he : q < s.size) (hb : s[q].toNat = 44) : AtW s (acc ++ [x]) (q + 1) := by
  subst hq; exact at_more hI h he hb
theorem at_otherQ {s : ByteArray} (h40 : ¬ 40000 < s.size) {acc : List SpV} {u c q : Nat} {x : SpV} (hI : AtW s acc u) (h : oneV (rem s u) = (true, c, x)) (hq : u + c = q) (he : q < s.size) (hb : s[q].toNat ≠ 44) : rdsR s = ([], (q : Int), 6) := by
  subst hq; exact at_other h40 hI h he hb
theorem at_halfQ {s : ByteArray} (h40 : ¬ 40000 < s.size) {acc : List SpV} {u c q : Nat} (hI : AtW s acc u) (h : oneV (rem s u) = (false, c + 1, ⟨0, 0⟩)) (hq : u + c + 1 = q) : rdsR s = ([], (q : Int), 6) := by
  subst hq; exact at_half h40 hI h
end Go.Proofs.YtbacoopopokkfaaDoor
