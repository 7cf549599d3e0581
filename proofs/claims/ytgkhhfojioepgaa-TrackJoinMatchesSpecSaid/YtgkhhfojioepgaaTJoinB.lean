/- Join's memory: three boxes; laps that are moved in place. -/
import Derived.Test.YtgkhhfojioepgaaTCloneL
import Derived.Test.YtgkhhfojioepgaaTJoinV
import Derived.Test.YtgkhhfojioepgaaTConcat
import Derived.Test.YtgkhhfojioepgaaTMvB
import Derived.Test.YtgkhhfojioepgaaTPtB
namespace Go.Proofs.Ytgkhhfojioepgaa
open Go.RowKit
set_option linter.unusedSimpArgs false
set_option linter.unusedVariables false

/-- Three boxes of an activity. -/
structure JnB (w : World) (A B Z : Array Value) (W : World) : Prop where
  a : W.heap[w.heap.size]? = some (.cells A 26 (0, 0))
  b : W.heap[w.heap.size + 1]? = some (.cells B 26 (0, 0))
  z : W.heap[w.heap.size + 2]? = some (.cells Z 26 (0, 0))
  g : w.grownBy W none
theorem JnB.new (w : World) (A B Z : Array Value) : JnB w A B Z (((w.alloc (.cells A 26)).alloc (.cells B 26)).alloc (.cells Z 26)) := by
  refine ⟨?_, ?_, ?_, grown_trans (grown_trans (World.grownBy_alloc _ _ none) (World.grownBy_alloc _ _ none)) (World.grownBy_alloc _ _ none)⟩
  · rw [Below.heap_alloc _ _ _ (by simp; omega), Below.heap_alloc _ _ _ (by simp)]; exact heap_alloc_new w _
  · rw [Below.heap_alloc _ _ _ (by simp)]
    have := heap_alloc_new (w.alloc (.cells A 26)) (.cells B 26); simpa using this
  · have := heap_alloc_new ((w.alloc (.cells A 26)).alloc (.cells B 26)) (.cells Z 26); simpa using this
section
variable {w W W' : World} {A B Z : Array Value}
theorem JnB.kept (h : JnB w A B Z W) {row : Option Nat} (hg : W.grownBy W' row) (hr : ∀ r, row = some r → w.heap.size + 3 ≤ r) : JnB w A B Z W' := by
  have n : ∀ b, b ≤ w.heap.size + 2 → some b ≠ row := fun b hb e => by have := hr b e.symm; omega
  exact ⟨block_at h.a hg (n _ (by omega)), block_at h.b hg (n _ (by omega)), block_at h.z hg (n _ (by omega)), grown_rowR h.g hg (fun r e => by have := hr r e; omega)⟩
theorem JnB.grown (h : JnB w A B Z W) (hg : W.grownBy W' none) : JnB w A B Z W' := h.kept hg (fun r e => by cases e)
theorem JnB.setA (h : JnB w A B Z W) (k : Nat) (v : Value) : JnB w (A.setIfInBounds k v) B Z (W.setCell ⟨w.heap.size, k, none⟩ v) :=
  ⟨block_set h.a v, by rw [Below.heap_setCell _ _ _ _ (by show _ ≠ w.heap.size; omega)]; exact h.b, by rw [Below.heap_setCell _ _ _ _ (by show _ ≠ w.heap.size; omega)]; exact h.z, grown_far h.g (Nat.le_refl _) k v⟩
theorem JnB.setB (h : JnB w A B Z W) (k : Nat) (v : Value) : JnB w A (B.setIfInBounds k v) Z (W.setCell ⟨w.heap.size + 1, k, none⟩ v) :=
  ⟨by rw [Below.heap_setCell _ _ _ _ (by show _ ≠ w.heap.size + 1; omega)]; exact h.a, block_set h.b v, by rw [Below.heap_setCell _ _ _ _ (by show _ ≠ w.heap.size + 1; omega)]; exact h.z, grown_far h.g (by omega) k v⟩
theorem JnB.setZ (h : JnB w A B Z W) (k : Nat) (v : Value) : JnB w A B (Z.setIfInBounds k v) (W.setCell ⟨w.heap.size + 2, k, none⟩ v) :=
  ⟨by rw [Below.heap_setCell _ _ _ _ (by show _ ≠ w.heap.size + 2; omega)]; exact h.a, by rw [Below.heap_setCell _ _ _ _ (by show _ ≠ w.heap.size + 2; omega)]; exact h.b, block_set h.z v, grown_far h.g (by omega) k v⟩
theorem JnB.lt (h : JnB w A B Z W) : w.heap.size + 2 < W.heap.size := lt_of_block h.z
end

/-- A cell of a row of one's own is set. -/
theorem own_setC {w : World} {base e s g cap n : Nat} {xs : List Value} (h : w.ownsRow base e s (.slice (some ⟨g, 0, none⟩) n cap) n xs) {i : Nat} (v : Value) : (w.setCell ⟨g, i, none⟩ v).ownsRow base e s (.slice (some ⟨g, 0, none⟩) n cap) n (xs.set i v) := by
  rcases h.2 with ⟨hv, _⟩ | ⟨g', cap', cur, hv, hb, hg, h1, h2, h3, h4⟩
  · cases hv
  · injection hv with e1 e2 e3
    injection e1 with e1; injection e1 with e1 _ _
    subst e1; subst e3
    refine ⟨by rw [List.length_set]; exact h.1, .inr ⟨g, cap, cur.setIfInBounds i v, rfl, hb, block_set hg _, h1, h2, by rw [Array.size_setIfInBounds]; exact h3, ?_⟩⟩
    rw [Array.toList_setIfInBounds, List.take_set, h4]
theorem own_headR {w : World} {base e s g cap n : Nat} {xs : List Value} (h : w.ownsRow base e s (.slice (some ⟨g, 0, none⟩) n cap) n xs) : ∃ cur, w.heap[g]? = some (.cells cur e (0, 0)) := by
  rcases h.2 with ⟨hv, _⟩ | ⟨g', cap', cur, hv, hb, hg, _⟩
  · cases hv
  · injection hv with e1 e2 e3
    injection e1 with e1; injection e1 with e1 _ _
    subst e1
    exact ⟨cur, hg⟩

/-- The first k laps are moved. -/
def lpK (L : List LapV) (d : Int) (k : Nat) : List LapV := (L.take k).map (lapMv d) ++ L.drop k
theorem lpK_zero (L : List LapV) (d : Int) : lpK L d 0 = L := by unfold lpK; simp
theorem lpK_len (L : List LapV) (d : Int) (k : Nat) : (lpK L d k).length = L.length := by
  unfold lpK; simp; omega
theorem lpK_all (L : List LapV) (d : Int) : lpK L d L.length = L.map (lapMv d) := by unfold lpK; simp
theorem lpK_at {L : List LapV} {d : Int} {k : Nat} (h : k < L.length) : (lpK L d k)[k]'(by rw [lpK_len]; exact h) = L[k] := by
  unfold lpK
  rw [List.getElem_append_right (by simp; omega)]
  simp [Nat.min_eq_left (Nat.le_of_lt h)]
theorem lpK_succ {L : List LapV} {d : Int} {k : Nat} (h : k < L.length) : lpK L d (k + 1) = (lpK L d k).set k (lapMv d L[k]) := by
  unfold lpK
  rw [List.set_append_right _ _ (by simp; omega)]
  have e : k - (List.map (lapMv d) (List.take k L)).length = 0 := by simp; omega
  rw [e, List.drop_eq_getElem_cons h, List.set_cons_zero, List.take_succ_eq_append_getElem h, List.map_append]
  simp
theorem lapRw_set : ∀ (L : List LapV) (k : Nat) (x y : Int) (h : k < L.length), lapRw (L.set k ⟨x, y, L[k].name⟩) = ((lapRw L).set (k * 3) (.int .i64 x)).set (k * 3 + 1) (.int .i64 y)
  | z :: r, 0, x, y, _ => by simp [lapRw, lapRc]
  | z :: r, k + 1, x, y, h => by
    have ih := lapRw_set r k x y (by simpa using h)
    have e : (k + 1) * 3 = k * 3 + 3 := by omega
    show lapRc z ++ lapRw (r.set k _) = ((lapRc z ++ lapRw r).set ((k + 1) * 3) _).set ((k + 1) * 3 + 1) _
    rw [List.set_append_right _ _ (by simp [lapRc]; omega), List.set_append_right _ _ (by simp [lapRc]; omega)]
    have e2 : (k + 1) * 3 - (lapRc z).length = k * 3 := by simp [lapRc]; omega
    have e3 : (k + 1) * 3 + 1 - (lapRc z).length = k * 3 + 1 := by simp [lapRc]; omega
    rw [e2, e3]
    congr 1
theorem lapMv_name {d : Int} {l : List LapV} {n : Nat} (h : ∀ i (h : i < l.length), l[i].name.size ≤ n) : ∀ i (h : i < (l.map (lapMv d)).length), (l.map (lapMv d))[i].name.size ≤ n := fun i hi => by
  simp only [List.length_map] at hi
  simpa [lapMv] using h i hi
theorem laps_app {l m : List LapV} {n : Nat} (h1 : ∀ i (h : i < l.length), l[i].name.size ≤ n) (h2 : ∀ i (h : i < m.length), m[i].name.size ≤ n) : ∀ i (h : i < (l ++ m).length), (l ++ m)[i].name.size ≤ n := fun i hi => by
  rw [List.length_append] at hi
  by_cases h : i < l.length
  · rw [List.getElem_append_left h]; exact h1 i h
  · rw [List.getElem_append_right (by omega)]; exact h2 _ (by omega)
theorem lapK_name {l : List LapV} {n : Nat} (h : ∀ i (h : i < l.length), l[i].name.size ≤ n) (d : Int) (k : Nat) : ∀ i (h : i < (lpK l d k).length), (lpK l d k)[i].name.size ≤ n := by
  unfold lpK
  refine laps_app (lapMv_name fun i hi => ?_) fun i hi => ?_
  · rw [List.getElem_take]; exact h i (by simp at hi; omega)
  · rw [List.getElem_drop]; exact h _ (by simp at hi; omega)
theorem smps_nil (w : World) (ao : Option Addr) : SmpsAt w ao [] := ⟨fun _ => rfl, fun _ _ h => absurd rfl h, fun _ _ i h => absurd h (Nat.not_lt_zero i)⟩
theorem smps_drop1 {w : World} {b o : Nat} {l : List Smp} (h : SmpsAt w (some ⟨b, o, none⟩) l) : SmpsAt w (some ⟨b, o + 7, none⟩) (l.drop 1) :=
  ⟨fun e => absurd e (by simp), fun a ha _ => (by cases ha; rfl), fun a ha i hi => by
    cases ha
    have hi2 : i + 1 < l.length := by simp at hi; omega
    have e : (l.drop 1)[i] = l[i + 1] := by rw [List.getElem_drop]; congr 1; omega
    have q := h.cells _ rfl (i + 1) hi2
    rw [e]
    have e2 : o + (i + 1) * 7 = o + 7 + i * 7 := by omega
    simp only [e2] at q
    exact q⟩
theorem smp_bd {a : Act} (h : ActOk a) : ∀ x ∈ a.ss, 0 ≤ x.t ∧ x.t ≤ 1000000 := fun x hx => by
  obtain ⟨i, hi, rfl⟩ := List.getElem_of_mem hx
  have := (sok_of h).inn i hi
  rw [smpD_at hi] at this
  omega
theorem tags_app {l m : List ByteArray} {n : Nat} (h1 : ∀ i (h : i < l.length), l[i].size ≤ n) (h2 : ∀ i (h : i < m.length), m[i].size ≤ n) {t : List ByteArray} (ht : ∀ x ∈ t, x ∈ l ∨ x ∈ m) : ∀ i (h : i < t.length), t[i].size ≤ n := fun i hi => by
  rcases ht _ (List.getElem_mem hi) with h | h
  · obtain ⟨j, hj, e⟩ := List.getElem_of_mem h
    rw [← e]; exact h1 j hj
  · obtain ⟨j, hj, e⟩ := List.getElem_of_mem h
    rw [← e]; exact h2 j hj
end Go.Proofs.Ytgkhhfojioepgaa
