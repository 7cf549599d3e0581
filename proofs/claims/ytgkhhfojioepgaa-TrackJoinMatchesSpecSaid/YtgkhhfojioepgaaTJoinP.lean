/- Join's tags, purely: what is sorted and compacted is what the merge of two rising lists gives. -/
import Derived.Lib.SlicesCompact
import Derived.Shelf.Sort.Plain
namespace Go.Proofs.Ytgkhhfojioepgaa
set_option linter.unusedSimpArgs false
set_option linter.unusedVariables false

/-- A strict order in which any two are alike, below or above. -/
structure Strict {α : Type} (lt : α → α → Prop) : Prop where
  tr : ∀ a b c, lt a b → lt b c → lt a c
  ir : ∀ a, ¬ lt a a
  tri : ∀ a b, lt a b ∨ a = b ∨ lt b a

section
variable {α : Type} [DecidableEq α] (lt : α → α → Prop) [DecidableRel lt]

/-- The merge of two lists, what is in both once. -/
def mrg : List α → List α → List α
  | [], ys => ys
  | x :: xs, [] => x :: xs
  | x :: xs, y :: ys => if lt x y then x :: mrg xs (y :: ys) else if x = y then y :: mrg xs ys else y :: mrg (x :: xs) ys
termination_by xs ys => xs.length + ys.length

variable {lt}
theorem mem_mrg (x : α) : ∀ xs ys : List α, x ∈ mrg lt xs ys ↔ x ∈ xs ∨ x ∈ ys
  | [], ys => by simp [mrg]
  | a :: xs, [] => by simp [mrg]
  | a :: xs, b :: ys => by
    unfold mrg
    split
    · rw [List.mem_cons, mem_mrg x xs (b :: ys)]; simp only [List.mem_cons]; grind
    · split
      · next h => rw [List.mem_cons, mem_mrg x xs ys, List.mem_cons, List.mem_cons, h]; grind
      · rw [List.mem_cons, mem_mrg x (a :: xs) ys]; simp only [List.mem_cons]; grind
termination_by xs ys => xs.length + ys.length

theorem mrg_rises (hs : Strict lt) : ∀ xs ys : List α, xs.Pairwise lt → ys.Pairwise lt → (mrg lt xs ys).Pairwise lt
  | [], ys, _, h => by simpa [mrg] using h
  | a :: xs, [], h, _ => by simpa [mrg] using h
  | a :: xs, b :: ys, hx, hy => by
    unfold mrg
    obtain ⟨hx1, hx2⟩ := List.pairwise_cons.1 hx
    obtain ⟨hy1, hy2⟩ := List.pairwise_cons.1 hy
    split
    · next h =>
      refine List.pairwise_cons.2 ⟨fun z hz => ?_, mrg_rises hs xs (b :: ys) hx2 hy⟩
      rcases (mem_mrg z xs (b :: ys)).1 hz with h1 | h1
      · exact hx1 z h1
      · rcases List.mem_cons.1 h1 with rfl | h2
        · exact h
        · exact hs.tr _ _ _ h (hy1 z h2)
    · split
      · next h =>
        subst h
        refine List.pairwise_cons.2 ⟨fun z hz => ?_, mrg_rises hs xs ys hx2 hy2⟩
        rcases (mem_mrg z xs ys).1 hz with h1 | h1
        · exact hx1 z h1
        · exact hy1 z h1
      · next h1 h2 =>
        have hba : lt b a := by exact (hs.tri a b).elim (fun h => absurd h h1) fun h => h.elim (fun h => absurd h h2) id
        refine List.pairwise_cons.2 ⟨fun z hz => ?_, mrg_rises hs (a :: xs) ys hx hy2⟩
        rcases (mem_mrg z (a :: xs) ys).1 hz with h3 | h3
        · rcases List.mem_cons.1 h3 with rfl | h4
          · exact hba
          · exact hs.tr _ _ _ hba (hx1 z h4)
        · exact hy1 z h3
termination_by xs ys => xs.length + ys.length

omit [DecidableEq α] [DecidableRel lt] in
theorem rises_nodup (hs : Strict lt) {l : List α} (h : l.Pairwise lt) : l.Nodup := h.imp fun {a b} hab (e : a = b) => hs.ir b (by rw [e] at hab; exact hab)
omit [DecidableEq α] [DecidableRel lt] in
/-- A rising list is known by what is in it. -/
theorem rises_eq (hs : Strict lt) {l m : List α} (hl : l.Pairwise lt) (hm : m.Pairwise lt) (h : ∀ x, x ∈ l ↔ x ∈ m) : l = m :=
  List.Perm.eq_of_pairwise (fun a b _ _ h1 h2 => absurd (hs.tr _ _ _ h1 h2) (hs.ir a)) hl hm ((List.perm_ext_iff_of_nodup (rises_nodup hs hl) (rises_nodup hs hm)).2 h)

variable [Inhabited α]
omit [DecidableRel lt] in
theorem comp_rises (hs : Strict lt) (d : Array α) (hd : ∀ i j, i ≤ j → j < d.size → ¬ lt d[j]! d[i]!) : ∀ m, m ≤ d.size → (∀ x, x ∈ Lib.compactUpTo d m ↔ ∃ j, j < m ∧ d[j]! = x) ∧ (Lib.compactUpTo d m).Pairwise lt
  | 0, _ => ⟨fun x => by simp [Lib.compactUpTo], by simp [Lib.compactUpTo]⟩
  | m + 1, h => by
    obtain ⟨h1, h2⟩ := comp_rises hs d hd m (by omega)
    rw [Lib.compactUpTo_succ]
    by_cases hk : Lib.keeps d m = true
    · rw [if_pos hk]
      refine ⟨fun x => ?_, ?_⟩
      · rw [List.mem_append, h1 x, List.mem_singleton]
        constructor
        · rintro (⟨j, hj, e⟩ | rfl)
          · exact ⟨j, by omega, e⟩
          · exact ⟨m, by omega, rfl⟩
        · rintro ⟨j, hj, e⟩
          by_cases hjm : j = m
          · subst hjm; exact Or.inr e.symm
          · exact Or.inl ⟨j, by omega, e⟩
      · refine List.pairwise_append.2 ⟨h2, by simp, fun x hx y hy => ?_⟩
        obtain rfl := List.mem_singleton.1 hy
        obtain ⟨j, hj, rfl⟩ := (h1 x).1 hx
        have hne : d[m]! ≠ d[m - 1]! := by
          unfold Lib.keeps at hk
          rcases of_decide_eq_true hk with h0 | h0
          · omega
          · exact h0
        have hlt : lt d[m - 1]! d[m]! := by
          rcases hs.tri d[m - 1]! d[m]! with h3 | h3 | h3
          · exact h3
          · exact absurd h3.symm hne
          · exact absurd h3 (hd (m - 1) m (by omega) (by omega))
        rcases hs.tri d[j]! d[m - 1]! with h3 | h3 | h3
        · exact hs.tr _ _ _ h3 hlt
        · rw [h3]; exact hlt
        · exact absurd h3 (hd j (m - 1) (by omega) (by omega))
    · rw [if_neg hk, List.append_nil]
      have hm : m ≠ 0 ∧ d[m]! = d[m - 1]! := by
        unfold Lib.keeps at hk
        rw [decide_eq_true_iff] at hk
        grind
      refine ⟨fun x => ?_, h2⟩
      rw [h1 x]
      constructor
      · rintro ⟨j, hj, e⟩; exact ⟨j, by omega, e⟩
      · rintro ⟨j, hj, e⟩
        by_cases hjm : j = m
        · subst hjm; exact ⟨j - 1, by omega, by rw [← hm.2]; exact e⟩
        · exact ⟨j, by omega, e⟩

/-- What is sorted and compacted is the merge. -/
theorem comp_mrg (hs : Strict lt) {xs ys zs : List α} (hx : xs.Pairwise lt) (hy : ys.Pairwise lt) (hp : zs.Perm (xs ++ ys)) (hz : zs.Pairwise fun a b => ¬ lt b a) : Lib.compact zs = mrg lt xs ys := by
  have hd : ∀ i j, i ≤ j → j < zs.toArray.size → ¬ lt zs.toArray[j]! zs.toArray[i]! := fun i j hij hj => by
    have hj' : j < zs.length := by simpa using hj
    by_cases e : i = j
    · subst e; exact hs.ir _
    · have := List.pairwise_iff_getElem.1 hz i j (by omega) hj' (by omega)
      simpa [getElem!_pos, hj', show i < zs.length by omega] using this
  obtain ⟨h1, h2⟩ := comp_rises hs zs.toArray hd zs.length (by simp)
  refine rises_eq hs h2 (mrg_rises hs xs ys hx hy) fun x => ?_
  rw [mem_mrg, ← List.mem_append, ← hp.mem_iff]
  refine (h1 x).trans ?_
  rw [List.mem_iff_getElem]
  constructor
  · rintro ⟨j, hj, e⟩; exact ⟨j, hj, by simpa [getElem!_pos, hj] using e⟩
  · rintro ⟨j, hj, e⟩; exact ⟨j, hj, by simpa [getElem!_pos, hj] using e⟩
end

theorem strict_bytes : Strict (fun x y : List UInt8 => x < y) :=
  ⟨fun _ _ _ h1 h2 => List.lt_trans h1 h2, fun a => List.lt_irrefl a, fun a b => by
    by_cases h1 : a < b
    · exact Or.inl h1
    · by_cases h2 : b < a
      · exact Or.inr (Or.inr h2)
      · exact Or.inr (Or.inl (List.le_antisymm (show a ≤ b from h2) (show b ≤ a from h1)))⟩

/-- What the program does with the tags of both is what the reference does. -/
theorem tags_mrg {xs ys : List (List UInt8)} (hx : xs.Pairwise (· < ·)) (hy : ys.Pairwise (· < ·)) : Lib.compact ((xs ++ ys).mergeSort fun x y => decide (x ≤ y)) = mrg (fun x y : List UInt8 => x < y) xs ys := by
  refine comp_mrg strict_bytes hx hy (List.mergeSort_perm _ _) ?_
  have h := List.pairwise_mergeSort (le := fun x y : List UInt8 => decide (x ≤ y)) (by intro a b c h1 h2; simp only [decide_eq_true_eq] at *; exact List.le_trans h1 h2) (by intro a b; simpa using List.le_total a b) (xs ++ ys)
  exact h.imp fun {a b} hab => by simpa using hab
end Go.Proofs.Ytgkhhfojioepgaa
