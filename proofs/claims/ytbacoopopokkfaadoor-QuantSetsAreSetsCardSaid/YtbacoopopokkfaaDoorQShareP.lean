/- The mathematics of shares: parts, rests, what is left, and to whom it goes. No program. -/
import Derived.Test.YtbacoopopokkfaaDoorQMerge
namespace Go.Proofs.YtbacoopopokkfaaDoor
set_option linter.unusedSimpArgs false
set_option linter.unusedVariables false

def nth (l : List Int) (i : Nat) : Int := l[i]?.getD 0
theorem nth_get {l : List Int} {i : Nat} (h : i < l.length) : nth l i = l[i] := by simp [nth, h]

def okW (w : Int) : Prop := 0 ≤ w ∧ w ≤ 1000000
def goodWs (ws : List Int) : Prop := ∀ i, i < ws.length → okW (nth ws i)

theorem sum_take_succ (l : List Int) (j : Nat) (h : j < l.length) : (l.take (j + 1)).sum = (l.take j).sum + nth l j := by
  rw [List.take_succ_eq_append_getElem h, List.sum_append, nth_get h]; simp
theorem sum_bd (l : List Int) (m : Int) (h : ∀ i, i < l.length → 0 ≤ nth l i ∧ nth l i ≤ m) : 0 ≤ l.sum ∧ l.sum ≤ m * l.length := by
  induction l with
  | nil => simp
  | cons x r ih =>
    have h0 := h 0 (by simp)
    have hr := ih fun i hi => by have := h (i + 1) (by simpa using hi); simpa [nth] using this
    simp only [nth, List.getElem?_cons_zero, Option.getD_some] at h0
    rw [List.sum_cons, List.length_cons]
    push_cast
    rw [Int.mul_add]
    omega
theorem nth_take {l : List Int} {i j : Nat} (h : i < j) : nth (l.take j) i = nth l i := by simp [nth, h]
theorem sum_take_bd (l : List Int) (j : Nat) (m : Int) (hm : 0 ≤ m) (h : ∀ i, i < l.length → 0 ≤ nth l i ∧ nth l i ≤ m) : 0 ≤ (l.take j).sum ∧ (l.take j).sum ≤ m * j := by
  have := sum_bd (l.take j) m fun i hi => by
    rw [List.length_take] at hi
    rw [nth_take (by omega)]; exact h i (by omega)
  refine ⟨this.1, Int.le_trans this.2 (Int.mul_le_mul_of_nonneg_left ?_ hm)⟩
  rw [List.length_take]; omega
theorem sum_take_le (l : List Int) (h : ∀ i, i < l.length → 0 ≤ nth l i) (j : Nat) : (l.take j).sum ≤ l.sum := by
  have e : l.sum = (l.take j).sum + (l.drop j).sum := by rw [← List.sum_append, List.take_append_drop]
  have : 0 ≤ (l.drop j).sum := by
    have : ∀ (r : List Int), (∀ i, i < r.length → 0 ≤ nth r i) → 0 ≤ r.sum := by
      intro r
      induction r with
      | nil => simp
      | cons x r ih =>
        intro hr
        have h0 := hr 0 (by simp)
        have h1 := ih fun i hi => by have := hr (i + 1) (by simpa using hi); simpa [nth] using this
        simp only [nth, List.getElem?_cons_zero, Option.getD_some] at h0
        rw [List.sum_cons]; omega
    refine this _ fun i hi => ?_
    rw [List.length_drop] at hi
    have := h (j + i) (by omega)
    simpa [nth, List.getElem?_drop] using this
  omega

def partOf (t s w : Int) : Int := t * w / s
def restOf (t s w : Int) : Int := t * w % s
def partsL (t s : Int) (ws : List Int) : List Int := ws.map (partOf t s)
def restsL (t s : Int) (ws : List Int) : List Int := ws.map (restOf t s)
def keyOf (t s : Int) (ws : List Int) (i : Nat) : Int := restOf t s (nth ws i)

theorem nth_parts {t s : Int} {ws : List Int} {i : Nat} (h : i < ws.length) : nth (partsL t s ws) i = partOf t s (nth ws i) := by simp [nth, partsL, h]
theorem nth_rests {t s : Int} {ws : List Int} {i : Nat} (h : i < ws.length) : nth (restsL t s ws) i = keyOf t s ws i := by simp [nth, restsL, h, keyOf]

theorem parts_rests (t s : Int) (ws : List Int) : s * (partsL t s ws).sum + (restsL t s ws).sum = t * ws.sum := by
  induction ws with
  | nil => simp [partsL, restsL]
  | cons w r ih =>
    have := Int.mul_ediv_add_emod (t * w) s
    simp only [partsL, restsL, List.map_cons, List.sum_cons] at ih ⊢
    rw [Int.mul_add, Int.mul_add, ← ih]
    unfold partOf restOf at *
    omega

section
variable {t s : Int} {ws : List Int}

theorem rest_bd (hs : 0 < s) (w : Int) : 0 ≤ restOf t s w ∧ restOf t s w < s := ⟨Int.emod_nonneg _ (by omega), Int.emod_lt_of_pos _ hs⟩
theorem part_bd (ht : 0 ≤ t) (hs : 0 < s) {w : Int} (hw : 0 ≤ w) (hws : w ≤ s) : 0 ≤ partOf t s w ∧ partOf t s w ≤ t := by
  refine ⟨Int.ediv_nonneg (Int.mul_nonneg ht hw) (by omega), ?_⟩
  unfold partOf
  have h1 : t * w ≤ t * s := Int.mul_le_mul_of_nonneg_left hws ht
  calc t * w / s ≤ t * s / s := Int.ediv_le_ediv hs h1
    _ = t := Int.mul_ediv_cancel _ (by omega)
theorem parts_nonneg (ht : 0 ≤ t) (hs : 0 < s) (hg : ∀ i, i < ws.length → 0 ≤ nth ws i) : ∀ i, i < (partsL t s ws).length → 0 ≤ nth (partsL t s ws) i := fun i hi => by
  have hi' : i < ws.length := by simpa [partsL] using hi
  rw [nth_parts hi']
  exact Int.ediv_nonneg (Int.mul_nonneg ht (hg i hi')) (by omega)

/-- What is left behind the first j. -/
def leftAt (t s : Int) (ws : List Int) (j : Nat) : Int := t - ((partsL t s ws).take j).sum
theorem left_zero : leftAt t s ws 0 = t := by simp [leftAt]
theorem left_succ {j : Nat} (h : j < ws.length) : leftAt t s ws (j + 1) = leftAt t s ws j - partOf t s (nth ws j) := by
  unfold leftAt
  rw [sum_take_succ _ _ (by simpa [partsL] using h), nth_parts h]; omega
theorem left_bd (ht : 0 ≤ t) (hs : 0 < s) (hg : ∀ i, i < ws.length → 0 ≤ nth ws i) (he : ws.sum = s) (j : Nat) : 0 ≤ leftAt t s ws j ∧ leftAt t s ws j ≤ t := by
  have h0 := parts_nonneg (t := t) (s := s) ht hs hg
  have h1 := sum_take_le _ h0 j
  have h3 : 0 ≤ ((partsL t s ws).take j).sum := by
    have := sum_take_le ((partsL t s ws).take j) (fun i hi => by rw [List.length_take] at hi; rw [nth_take (by omega)]; exact h0 i (by omega)) 0
    simpa using this
  have h2 : (partsL t s ws).sum ≤ t := by
    have e := parts_rests t s ws
    rw [he] at e
    have hr : 0 ≤ (restsL t s ws).sum := (sum_bd (restsL t s ws) s fun i hi => by
      have hi' : i < ws.length := by simpa [restsL] using hi
      rw [nth_rests hi']
      have := rest_bd (t := t) hs (nth ws i)
      unfold keyOf; omega).1
    have : s * (partsL t s ws).sum ≤ s * t := by rw [Int.mul_comm s t]; omega
    exact Int.le_of_mul_le_mul_left this hs
  unfold leftAt; omega
theorem left_lt (hs : 0 < s) (he : ws.sum = s) (hn : 0 < ws.length) : leftAt t s ws ws.length < ws.length := by
  have e := parts_rests t s ws
  rw [he] at e
  have hr : (restsL t s ws).sum ≤ (s - 1) * (restsL t s ws).length := (sum_bd (restsL t s ws) (s - 1) fun i hi => by
    have hi' : i < ws.length := by simpa [restsL] using hi
    rw [nth_rests hi']
    have := rest_bd (t := t) hs (nth ws i)
    unfold keyOf; omega).2
  have hl : (restsL t s ws).length = ws.length := by simp [restsL]
  rw [hl] at hr
  unfold leftAt
  rw [show (partsL t s ws).take ws.length = partsL t s ws by rw [List.take_of_length_le]; simp [partsL]]
  have hlt : s * (t - (partsL t s ws).sum) < s * ws.length := by
    rw [Int.mul_sub, Int.mul_comm s t]
    have h1 : (s - 1) * (ws.length : Int) < s * ws.length := Int.mul_lt_mul_of_pos_right (by omega) (by omega)
    omega
  exact Int.lt_of_mul_lt_mul_left hlt (by omega)
end

/-- One more for the first j of an order. -/
def bumped (ps : List Int) (f : Nat → Nat) : Nat → List Int
  | 0 => ps
  | j + 1 => (bumped ps f j).set (f j) (nth (bumped ps f j) (f j) + 1)
theorem bumped_len (ps : List Int) (f : Nat → Nat) : ∀ j, (bumped ps f j).length = ps.length
  | 0 => rfl
  | j + 1 => by rw [bumped, List.length_set]; exact bumped_len ps f j
theorem nth_set {l : List Int} {i k : Nat} {x : Int} (h : k < l.length) : nth (l.set k x) i = if k = i then x else nth l i := by
  unfold nth
  rw [List.getElem?_set]
  split
  · rfl
  · rfl
theorem sum_set {l : List Int} {k : Nat} {x : Int} (h : k < l.length) : (l.set k x).sum = l.sum + x - nth l k := by
  induction l generalizing k with
  | nil => simp at h
  | cons y r ih =>
    cases k with
    | zero => simp [nth]; omega
    | succ k =>
      have := ih (k := k) (by simpa using h)
      simp only [List.set_cons_succ, List.sum_cons, this]
      simp [nth]; omega
theorem bumped_sum (ps : List Int) (f : Nat → Nat) (hf : ∀ k, k < ps.length → f k < ps.length) : ∀ j, j ≤ ps.length → (bumped ps f j).sum = ps.sum + j
  | 0, _ => by simp [bumped]
  | j + 1, h => by
    rw [bumped, sum_set (by rw [bumped_len]; exact hf j (by omega)), bumped_sum ps f hf j (by omega)]
    push_cast; omega
theorem bumped_nth (ps : List Int) (f : Nat → Nat) (hi : ∀ i j, f i = f j → i = j) (hf : ∀ k, k < ps.length → f k < ps.length) : ∀ j, j ≤ ps.length → ∀ i,
    (nth (bumped ps f j) i = nth ps i + 1 ∧ ∃ k, k < j ∧ f k = i) ∨ (nth (bumped ps f j) i = nth ps i ∧ ∀ k, k < j → f k ≠ i)
  | 0, _, i => .inr ⟨rfl, fun k h => by omega⟩
  | j + 1, h, i => by
    have ih := bumped_nth ps f hi hf j (by omega)
    rw [bumped, nth_set (by rw [bumped_len]; exact hf j (by omega))]
    by_cases c : f j = i
    · rw [if_pos c]
      left
      rcases ih (f j) with ⟨_, k, h1, h2⟩ | ⟨h1, _⟩
      · have := hi _ _ h2; omega
      · exact ⟨by rw [h1, c], j, by omega, c⟩
    · rw [if_neg c]
      rcases ih i with ⟨h1, k, h2, h3⟩ | ⟨h1, h2⟩
      · exact .inl ⟨h1, k, by omega, h3⟩
      · refine .inr ⟨h1, fun k hk => ?_⟩
        rcases Nat.lt_or_ge k j with q | q
        · exact h2 k q
        · rw [show k = j by omega]; exact c

/-- An order of the numbers below n. -/
structure Ord (key : Nat → Int) (n : Nat) (f : Nat → Nat) : Prop where
  mv : Mv 0 n (fun k => k) f
  srt : Srt key f 0 n
theorem Ord.lt {key : Nat → Int} {n : Nat} {f : Nat → Nat} (h : Ord key n f) {k : Nat} (hk : k < n) : f k < n := by
  obtain ⟨k', _, u, e⟩ := h.mv.into k (by omega) hk
  rw [e]; exact u
theorem Ord.inj {key : Nat → Int} {n : Nat} {f : Nat → Nat} (h : Ord key n f) : ∀ i j, f i = f j → i = j := h.mv.inj fun _ _ h => h
theorem sub_len : ∀ (l m : List Nat), l.Nodup → l ⊆ m → l.length ≤ m.length
  | [], _, _, _ => by simp
  | x :: r, m, hd, hs => by
    rw [List.nodup_cons] at hd
    have hx : x ∈ m := hs (by simp)
    have h := sub_len r (m.erase x) hd.2 fun y hy => (List.mem_erase_of_ne (fun e : y = x => hd.1 (e ▸ hy))).2 (hs (List.mem_cons_of_mem _ hy))
    rw [List.length_erase_of_mem hx] at h
    have := List.length_pos_of_mem hx
    simp only [List.length_cons]
    omega
/-- Each number has its place. -/
theorem Ord.place {key : Nat → Int} {n : Nat} {f : Nat → Nat} (h : Ord key n f) {i : Nat} (hi : i < n) : ∃ k, k < n ∧ f k = i := by
  refine Classical.byContradiction fun hno => ?_
  have hall : ∀ k, k < n → f k ≠ i := fun k hk e => hno ⟨k, hk, e⟩
  have hl : ((List.range n).map f).Nodup := List.pairwise_map.2 (List.nodup_range.imp fun hab e => hab (h.inj _ _ e))
  have hs : (List.range n).map f ⊆ (List.range n).erase i := by
    intro x hx
    obtain ⟨k, hk, rfl⟩ := List.mem_map.1 hx
    have hk := List.mem_range.1 hk
    exact (List.mem_erase_of_ne (hall k hk)).2 (List.mem_range.2 (h.lt hk))
  have hle := sub_len _ _ hl hs
  rw [List.length_erase_of_mem (List.mem_range.2 hi)] at hle
  simp at hle
  omega

/-- A greater weight does not get less. -/
theorem share_order {t s : Int} {ws : List Int} {f : Nat → Nat} (ht : 0 ≤ t) (hs : 0 < s) (ho : Ord (keyOf t s ws) ws.length f) {L : Nat} (hL : L ≤ ws.length) (hL0 : t = 0 → L = 0)
    {i k : Nat} (hi : i < ws.length) (hk : k < ws.length) (hw : nth ws i < nth ws k) :
    nth (bumped (partsL t s ws) f L) i ≤ nth (bumped (partsL t s ws) f L) k := by
  have hlen : (partsL t s ws).length = ws.length := by simp [partsL]
  have bi := bumped_nth (partsL t s ws) f ho.inj (fun k hk => by rw [hlen] at hk ⊢; exact ho.lt hk) L (by omega) i
  have bk := bumped_nth (partsL t s ws) f ho.inj (fun k hk => by rw [hlen] at hk ⊢; exact ho.lt hk) L (by omega) k
  rw [nth_parts hi] at bi
  rw [nth_parts hk] at bk
  have hmul : t * nth ws i ≤ t * nth ws k := Int.mul_le_mul_of_nonneg_left (by omega) ht
  have hpart : partOf t s (nth ws i) ≤ partOf t s (nth ws k) := Int.ediv_le_ediv hs hmul
  rcases bi with ⟨e1, p, hp, hfp⟩ | ⟨e1, _⟩
  · rcases bk with ⟨e2, _⟩ | ⟨e2, hno⟩
    · omega
    · -- i is among those that get one more, k is not
      rcases (show partOf t s (nth ws i) < partOf t s (nth ws k) ∨ partOf t s (nth ws i) = partOf t s (nth ws k) by omega) with c | c
      · omega
      · exfalso
        have htp : 0 < t := by
          rcases (show t = 0 ∨ 0 < t by omega) with z | z
          · have := hL0 z; omega
          · exact z
        have hlt : t * nth ws i < t * nth ws k := Int.mul_lt_mul_of_pos_left hw htp
        have d1 := Int.mul_ediv_add_emod (t * nth ws i) s
        have d2 := Int.mul_ediv_add_emod (t * nth ws k) s
        unfold partOf at c
        rw [c] at d1
        have hrest : keyOf t s ws i < keyOf t s ws k := by unfold keyOf restOf; omega
        obtain ⟨q, hq, hfq⟩ := ho.place hk
        have hqL : L ≤ q := by
          rcases Nat.lt_or_ge q L with z | z
          · exact absurd hfq (hno q z)
          · exact z
        have := ho.srt p q (by omega) (by omega) hq
        rw [hfp, hfq] at this
        unfold Bef at this; omega
  · rcases bk with ⟨e2, _⟩ | ⟨e2, _⟩ <;> omega

end Go.Proofs.YtbacoopopokkfaaDoor
