/- Texts that all laws of this seat use, one behind the other. -/
import Derived.Test.YtblaplnpehnjfabBaseA
import Derived.BigRegion
import Derived.Deep.CutBlock
import Derived.Deep.DeepCutAuto
import Derived.Deep.OwnRows
namespace Go.Proofs.Ytblaplnpehnjfab

def nth (l : List Int) (i : Nat) : Int := l[i]?.getD 0
theorem nth_get {l : List Int} {i : Nat} (h : i < l.length) : nth l i = l[i] := by simp [nth, h]

def okW (w : Int) : Prop := 0 ≤ w ∧ w ≤ 1000000
def goodWs (ws : List Int) : Prop := ∀ i, i < ws.length → okW (nth ws i)

theorem sum_take_succ (l : List Int) (j : Nat) (h : j < l.length) : (l.take (j + 1)).sum = (l.take j).sum + nth l j := by
  rw [List.take_succ_eq_append_getElem h, List.sum_append, nth_get h]; simp
theorem sum_bd (l : List Int) (m : Int) (h : ∀ i, i < l.length → 0 ≤ nth l i ∧ nth l i ≤ m) : 0 ≤ l.sum ∧ l.sum ≤ m * l.length := by
  induction l with
  | nil => simp
  | cons x r ih =>
    have h0 := h 0 (by simp)
    have hr := ih fun i hi => by have := h (i + 1) (by simpa using hi); simpa [nth] using this
    simp only [nth, List.getElem?_cons_zero, Option.getD_some] at h0
    rw [List.sum_cons, List.length_cons]
    push_cast
    rw [Int.mul_add]
    omega
theorem nth_take {l : List Int} {i j : Nat} (h : i < j) : nth (l.take j) i = nth l i := by simp [nth, h]
theorem sum_take_bd (l : List Int) (j : Nat) (m : Int) (hm : 0 ≤ m) (h : ∀ i, i < l.length → 0 ≤ nth l i ∧ nth l i ≤ m) : 0 ≤ (l.take j).sum ∧ (l.take j).sum ≤ m * j := by
  have := sum_bd (l.take j) m fun i hi => by
    rw [List.length_take] at hi
    rw [nth_take (by omega)]; exact h i (by omega)
  refine ⟨this.1, Int.le_trans this.2 (Int.mul_le_mul_of_nonneg_left ?_ hm)⟩
  rw [List.length_take]; omega
theorem sum_take_le (l : List Int) (h : ∀ i, i < l.length → 0 ≤ nth l i) (j : Nat) : (l.take j).sum ≤ l.sum := by
  have e : l.sum = (l.take j).sum + (l.drop j).sum := by rw [← List.sum_append, List.take_append_drop]
  have : 0 ≤ (l.drop j).sum := by
    have : ∀ (r : List Int), (∀ i, i < r.length → 0 ≤ nth r i) → 0 ≤ r.sum := by
      intro r
      induction r with
      | nil => simp
      | cons x r ih =>
        intro hr
        have h0 := hr 0 (by simp)
        have h1 := ih fun i hi => by have := hr (i + 1) (by simpa using hi); simpa [nth] using this
        simp only [nth, List.getElem?_cons_zero, Option.getD_some] at h0
        rw [List.sum_cons]; omega
    refine this _ fun i hi => ?_
    rw [List.length_drop] at hi
    have := h (j + i) (by omega)
    simpa [nth, List.getElem?_drop] using this
  omega

def partOf (t s w : Int) : Int := t * w / s
def restOf (t s w : Int) : Int := t * w % s
def partsL (t s : Int) (ws : List Int) : List Int := ws.map (partOf t s)
def restsL (t s : Int) (ws : List Int) : List Int := ws.map (restOf t s)
def keyOf (t s : Int) (ws : List Int) (i : Nat) : Int := restOf t s (nth ws i)

theorem nth_parts {t s : Int} {ws : List Int} {i : Nat} (h : i < ws.length) : nth (partsL t s ws) i = partOf t s (nth ws i) := by simp [nth, partsL, h]
theorem nth_rests {t s : Int} {ws : List Int} {i : Nat} (h : i < ws.length) : nth (restsL t s ws) i = keyOf t s ws i := by simp [nth, restsL, h, keyOf]

theorem parts_rests (t s : Int) (ws : List Int) : s * (partsL t s ws).sum + (restsL t s ws).sum = t * ws.sum := by
  induction ws with
  | nil => simp [partsL, restsL]
  | cons w r ih =>
    have := Int.mul_ediv_add_emod (t * w) s
    simp only [partsL, restsL, List.map_cons, List.sum_cons] at ih ⊢
    rw [Int.mul_add, Int.mul_add, ← ih]
    unfold partOf restOf at *
    omega

section
variable {t s : Int} {ws : List Int}

theorem rest_bd (hs : 0 < s) (w : Int) : 0 ≤ restOf t s w ∧ restOf t s w < s := ⟨Int.emod_nonneg _ (by omega), Int.emod_lt_of_pos _ hs⟩
theorem part_bd (ht : 0 ≤ t) (hs : 0 < s) {w : Int} (hw : 0 ≤ w) (hws : w ≤ s) : 0 ≤ partOf t s w ∧ partOf t s w ≤ t := by
  refine ⟨Int.ediv_nonneg (Int.mul_nonneg ht hw) (by omega), ?_⟩
  unfold partOf
  have h1 : t * w ≤ t * s := Int.mul_le_mul_of_nonneg_left hws ht
  calc t * w / s ≤ t * s / s := Int.ediv_le_ediv hs h1
    _ = t := Int.mul_ediv_cancel _ (by omega)
theorem parts_nonneg (ht : 0 ≤ t) (hs : 0 < s) (hg : ∀ i, i < ws.length → 0 ≤ nth ws i) : ∀ i, i < (partsL t s ws).length → 0 ≤ nth (partsL t s ws) i := fun i hi => by
  have hi' : i < ws.length := by simpa [partsL] using hi
  rw [nth_parts hi']
  exact Int.ediv_nonneg (Int.mul_nonneg ht (hg i hi')) (by omega)

/-- What is left behind the first j. -/
def leftAt (t s : Int) (ws : List Int) (j : Nat) : Int := t - ((partsL t s ws).take j).sum
theorem left_zero : leftAt t s ws 0 = t := by simp [leftAt]
theorem left_succ {j : Nat} (h : j < ws.length) : leftAt t s ws (j + 1) = leftAt t s ws j - partOf t s (nth ws j) := by
  unfold leftAt
  rw [sum_take_succ _ _ (by simpa [partsL] using h), nth_parts h]; omega
theorem left_bd (ht : 0 ≤ t) (hs : 0 < s) (hg : ∀ i, i < ws.length → 0 ≤ nth ws i) (he : ws.sum = s) (j : Nat) : 0 ≤ leftAt t s ws j ∧ leftAt t s ws j ≤ t := by
  have h0 := parts_nonneg (t := t) (s := s) ht hs hg
  have h1 := sum_take_le _ h0 j
  have h3 : 0 ≤ ((partsL t s ws).take j).sum := by
    have := sum_take_le ((partsL t s ws).take j) (fun i hi => by rw [List.length_take] at hi; rw [nth_take (by omega)]; exact h0 i (by omega)) 0
    simpa using this
  have h2 : (partsL t s ws).sum ≤ t := by
    have e := parts_rests t s ws
    rw [he] at e
    have hr : 0 ≤ (restsL t s ws).sum := (sum_bd (restsL t s ws) s fun i hi => by
      have hi' : i < ws.length := by simpa [restsL] using hi
      rw [nth_rests hi']
      have := rest_bd (t := t) hs (nth ws i)
      unfold keyOf; omega).1
    have : s * (partsL t s ws).sum ≤ s * t := by rw [Int.mul_comm s t]; omega
    exact Int.le_of_mul_le_mul_left this hs
  unfold leftAt; omega
theorem left_lt (hs : 0 < s) (he : ws.sum = s) (hn : 0 < ws.length) : leftAt t s ws ws.length < ws.length := by
  have e := parts_rests t s ws
  rw [he] at e
  have hr : (restsL t s ws).sum ≤ (s - 1) * (restsL t s ws).length := (sum_bd (restsL t s ws) (s - 1) fun i hi => by
    have hi' : i < ws.length := by simpa [restsL] using hi
    rw [nth_rests hi']
    have := rest_bd (t := t) hs (nth ws i)
    unfold keyOf; omega).2
  have hl : (restsL t s ws).length = ws.length := by simp [restsL]
  rw [hl] at hr
  unfold leftAt
  rw [show (partsL t s ws).take ws.length = partsL t s ws by rw [List.take_of_length_le]; simp [partsL]]
  have hlt : s * (t - (partsL t s ws).sum) < s * ws.length := by
    rw [Int.mul_sub, Int.mul_comm s t]
    have h1 : (s - 1) * (ws.length : Int) < s * ws.length := Int.mul_lt_mul_of_pos_right (by omega) (by omega)
    omega
  exact Int.lt_of_mul_lt_mul_left hlt (by omega)
end

/-- One more for the first j of an order. -/
def bumped (ps : List Int) (f : Nat → Nat) : Nat → List Int
  | 0 => ps
  | j + 1 => (bumped ps f j).set (f j) (nth (bumped ps f j) (f j) + 1)
theorem bumped_len (ps : List Int) (f : Nat → Nat) : ∀ j, (bumped ps f j).length = ps.length
  | 0 => rfl
  | j + 1 => by rw [bumped, List.length_set]; exact bumped_len ps f j
theorem nth_set {l : List Int} {i k : Nat} {x : Int} (h : k < l.length) : nth (l.set k x) i = if k = i then x else nth l i := by
  unfold nth
  rw [List.getElem?_set]
  split
  · rfl
  · rfl
theorem sum_set {l : List Int} {k : Nat} {x : Int} (h : k < l.length) : (l.set k x).sum = l.sum + x - nth l k := by
  induction l generalizing k with
  | nil => simp at h
  | cons y r ih =>
    cases k with
    | zero => simp [nth]; omega
    | succ k =>
      have := ih (k := k) (by simpa using h)
      simp only [List.set_cons_succ, List.sum_cons, this]
      simp [nth]; omega
theorem bumped_sum (ps : List Int) (f : Nat → Nat) (hf : ∀ k, k < ps.length → f k < ps.length) : ∀ j, j ≤ ps.length → (bumped ps f j).sum = ps.sum + j
  | 0, _ => by simp [bumped]
  | j + 1, h => by
    rw [bumped, sum_set (by rw [bumped_len]; exact hf j (by omega)), bumped_sum ps f hf j (by omega)]
    push_cast; omega
theorem bumped_nth (ps : List Int) (f : Nat → Nat) (hi : ∀ i j, f i = f j → i = j) (hf : ∀ k, k < ps.length → f k < ps.length) : ∀ j, j ≤ ps.length → ∀ i,
    (nth (bumped ps f j) i = nth ps i + 1 ∧ ∃ k, k < j ∧ f k = i) ∨ (nth (bumped ps f j) i = nth ps i ∧ ∀ k, k < j → f k ≠ i)
  | 0, _, i => .inr ⟨rfl, fun k h => by omega⟩
  | j + 1, h, i => by
    have ih := bumped_nth ps f hi hf j (by omega)
    rw [bumped, nth_set (by rw [bumped_len]; exact hf j (by omega))]
    by_cases c : f j = i
    · rw [if_pos c]
      left
      rcases ih (f j) with ⟨_, k, h1, h2⟩ | ⟨h1, _⟩
      · have := hi _ _ h2; omega
      · exact ⟨by rw [h1, c], j, by omega, c⟩
    · rw [if_neg c]
      rcases ih i with ⟨h1, k, h2, h3⟩ | ⟨h1, h2⟩
      · exact .inl ⟨h1, k, by omega, h3⟩
      · refine .inr ⟨h1, fun k hk => ?_⟩
        rcases Nat.lt_or_ge k j with q | q
        · exact h2 k q
        · rw [show k = j by omega]; exact c

/-- An order of the numbers below n. -/
structure Ord (key : Nat → Int) (n : Nat) (f : Nat → Nat) : Prop where
  mv : Mv 0 n (fun k => k) f
  srt : Srt key f 0 n
theorem Ord.lt {key : Nat → Int} {n : Nat} {f : Nat → Nat} (h : Ord key n f) {k : Nat} (hk : k < n) : f k < n := by
  obtain ⟨k', _, u, e⟩ := h.mv.into k (by omega) hk
  rw [e]; exact u
theorem Ord.inj {key : Nat → Int} {n : Nat} {f : Nat → Nat} (h : Ord key n f) : ∀ i j, f i = f j → i = j := h.mv.inj fun _ _ h => h
theorem sub_len : ∀ (l m : List Nat), l.Nodup → l ⊆ m → l.length ≤ m.length
  | [], _, _, _ => by simp
  | x :: r, m, hd, hs => by
    rw [List.nodup_cons] at hd
    have hx : x ∈ m := hs (by simp)
    have h := sub_len r (m.erase x) hd.2 fun y hy => (List.mem_erase_of_ne (fun e : y = x => hd.1 (e ▸ hy))).2 (hs (List.mem_cons_of_mem _ hy))
    rw [List.length_erase_of_mem hx] at h
    have := List.length_pos_of_mem hx
    simp only [List.length_cons]
    omega
/-- Each number has its place. -/
theorem Ord.place {key : Nat → Int} {n : Nat} {f : Nat → Nat} (h : Ord key n f) {i : Nat} (hi : i < n) : ∃ k, k < n ∧ f k = i := by
  refine Classical.byContradiction fun hno => ?_
  have hall : ∀ k, k < n → f k ≠ i := fun k hk e => hno ⟨k, hk, e⟩
  have hl : ((List.range n).map f).Nodup := List.pairwise_map.2 (List.nodup_range.imp fun hab e => hab (h.inj _ _ e))
  have hs : (List.range n).map f ⊆ (List.range n).erase i := by
    intro x hx
    obtain ⟨k, hk, rfl⟩ := List.mem_map.1 hx
    have hk := List.mem_range.1 hk
    exact (List.mem_erase_of_ne (hall k hk)).2 (List.mem_range.2 (h.lt hk))
  have hle := sub_len _ _ hl hs
  rw [List.length_erase_of_mem (List.mem_range.2 hi)] at hle
  simp at hle
  omega

/-- A greater weight does not get less. -/
theorem share_order {t s : Int} {ws : List Int} {f : Nat → Nat} (ht : 0 ≤ t) (hs : 0 < s) (ho : Ord (keyOf t s ws) ws.length f) {L : Nat} (hL : L ≤ ws.length) (hL0 : t = 0 → L = 0)
    {i k : Nat} (hi : i < ws.length) (hk : k < ws.length) (hw : nth ws i < nth ws k) :
    nth (bumped (partsL t s ws) f L) i ≤ nth (bumped (partsL t s ws) f L) k := by
  have hlen : (partsL t s ws).length = ws.length := by simp [partsL]
  have bi := bumped_nth (partsL t s ws) f ho.inj (fun k hk => by rw [hlen] at hk ⊢; exact ho.lt hk) L (by omega) i
  have bk := bumped_nth (partsL t s ws) f ho.inj (fun k hk => by rw [hlen] at hk ⊢; exact ho.lt hk) L (by omega) k
  rw [nth_parts hi] at bi
  rw [nth_parts hk] at bk
  have hmul : t * nth ws i ≤ t * nth ws k := Int.mul_le_mul_of_nonneg_left (by omega) ht
  have hpart : partOf t s (nth ws i) ≤ partOf t s (nth ws k) := Int.ediv_le_ediv hs hmul
  rcases bi with ⟨e1, p, hp, hfp⟩ | ⟨e1, _⟩
  · rcases bk with ⟨e2, _⟩ | ⟨e2, hno⟩
    · omega
    · -- i is among those that get one more, k is not
      rcases (show partOf t s (nth ws i) < partOf t s (nth ws k) ∨ partOf t s (nth ws i) = partOf t s (nth ws k) by omega) with c | c
      · omega
      · exfalso
        have htp : 0 < t := by
          rcases (show t = 0 ∨ 0 < t by omega) with z | z
          · have := hL0 z; omega
          · exact z
        have hlt : t * nth ws i < t * nth ws k := Int.mul_lt_mul_of_pos_left hw htp
        have d1 := Int.mul_ediv_add_emod (t * nth ws i) s
        have d2 := Int.mul_ediv_add_emod (t * nth ws k) s
        unfold partOf at c
        rw [c] at d1
        have hrest : keyOf t s ws i < keyOf t s ws k := by unfold keyOf restOf; omega
        obtain ⟨q, hq, hfq⟩ := ho.place hk
        have hqL : L ≤ q := by
          rcases Nat.lt_or_ge q L with z | z
          · exact absurd hfq (hno q z)
          · exact z
        have := ho.srt p q (by omega) (by omega) hq
        rw [hfp, hfq] at this
        unfold Bef at this; omega
  · rcases bk with ⟨e2, _⟩ | ⟨e2, _⟩ <;> omega

end Go.Proofs.Ytblaplnpehnjfab
namespace Go.Proofs.Ytblaplnpehnjfab
open Go.RowKit

def fRow (n : Nat) (f : Nat → Nat) : Array Value := ((List.range n).map fun k => Value.int .i64 (f k : Int)).toArray
def upd (f : Nat → Nat) (i v : Nat) : Nat → Nat := fun k => if k = i then v else f k
theorem upd_swp (f : Nat → Nat) (i j : Nat) : upd (upd f i (f j)) j (f i) = swp f i j := by
  funext k; unfold upd swp
  repeat' split
  all_goals first | rfl | (subst_vars; rfl) | simp_all
theorem fRow_size (n : Nat) (f : Nat → Nat) : (fRow n f).size = n := by simp [fRow]
theorem fRow_get (n : Nat) (f : Nat → Nat) (k : Nat) (h : k < n) : (fRow n f)[k]? = some (.int .i64 (f k : Int)) := by simp [fRow, h]
theorem fRow_set (n : Nat) (f : Nat → Nat) (k v : Nat) : (fRow n f).setIfInBounds k (.int .i64 (v : Int)) = fRow n (upd f k v) := by
  unfold fRow
  rw [List.setIfInBounds_toArray]
  congr 1
  apply List.ext_getElem
  · simp
  · intro i h1 h2
    rw [List.getElem_set]
    simp only [List.getElem_map, List.getElem_range, upd]
    by_cases e : k = i
    · rw [if_pos e, if_pos e.symm]
    · rw [if_neg e, if_neg (fun q => e q.symm)]

/-- The numbers that are sorted lie in block g, the box of the rests in block c, the rests in block r. -/
structure Sor (w : World) (g c r n : Nat) (ks : List Int) (f : Nat → Nat) : Prop where
  hG : w.heap[g]? = some (.cells (fRow n f) 3 (0, 0))
  hC : w.heap[c]? = some (.cells #[.slice (some ⟨r, 0, none⟩) n n] 50 (0, 0))
  hR : w.heap[r]? = some (.cells (ks.map (Value.int .i64)).toArray 3 (0, 0))
  hl : ks.length = n
  hn : n ≤ 1000
  gc : g ≠ c
  gr : g ≠ r
  lt : ∀ k, k < n → f k < n

section
variable {w : World} {g c r n : Nat} {ks : List Int} {f : Nat → Nat}
theorem Sor.cell (h : Sor w g c r n ks f) {k : Nat} (hk : k < n) : w.cell? ⟨g, k, none⟩ = some (.int .i64 (f k : Int)) := by
  simp [World.cell?, h.hG, fRow_get n f k hk]
theorem Sor.free (h : Sor w g c r n ks f) (k : Nat) : w.frozen? ⟨g, k, none⟩ = false := by simp [World.frozen?, h.hG]
theorem Sor.box (h : Sor w g c r n ks f) : w.cell? ⟨c, 0, none⟩ = some (.slice (some ⟨r, 0, none⟩) n n) := by simp [World.cell?, h.hC]
theorem Sor.rest (h : Sor w g c r n ks f) {k : Nat} (hk : k < n) : w.cell? ⟨r, k, none⟩ = some (.int .i64 (nth ks k)) := by
  have : k < ks.length := by rw [h.hl]; exact hk
  simp [World.cell?, h.hR, nth, this]
theorem Sor.drewN (h : Sor w g c r n ks f) (m : Nat) : Sor (w.drewN m) g c r n ks f := ⟨h.hG, h.hC, h.hR, h.hl, h.hn, h.gc, h.gr, h.lt⟩
theorem Sor.same (h : Sor w g c r n ks f) {w' : World} (e : w'.heap = w.heap) : Sor w' g c r n ks f := ⟨by rw [e]; exact h.hG, by rw [e]; exact h.hC, by rw [e]; exact h.hR, h.hl, h.hn, h.gc, h.gr, h.lt⟩
theorem Sor.drew (h : Sor w g c r n ks f) : Sor w.drew g c r n ks f := ⟨h.hG, h.hC, h.hR, h.hl, h.hn, h.gc, h.gr, h.lt⟩
theorem Sor.set (h : Sor w g c r n ks f) {k v : Nat} (hv : v < n) : Sor (w.setCell ⟨g, k, none⟩ (.int .i64 (v : Int))) g c r n ks (upd f k v) := by
  refine ⟨?_, ?_, ?_, h.hl, h.hn, h.gc, h.gr, fun i hi => ?_⟩
  · simp [World.setCell, Array.getElem?_modify, h.hG, fRow_set]
  · rw [Below.heap_setCell _ _ _ _ (fun e => h.gc e.symm)]; exact h.hC
  · rw [Below.heap_setCell _ _ _ _ (fun e => h.gr e.symm)]; exact h.hR
  · unfold upd; split
    · exact hv
    · exact h.lt i hi
theorem Sor.swap (h : Sor w g c r n ks f) {i j : Nat} (hi : i < n) (hj : j < n) : Sor ((w.setCell ⟨g, i, none⟩ (.int .i64 (f j : Int))).setCell ⟨g, j, none⟩ (.int .i64 (f i : Int))) g c r n ks (swp f i j) := by
  rw [← upd_swp]
  exact (h.set (h.lt j hj)).set (h.lt i hi)
theorem grown_set {w0 : World} (h : w0.grownBy w (some g)) (k : Nat) (v : Value) : w0.grownBy (w.setCell ⟨g, k, none⟩ v) (some g) :=
  ⟨h.os, h.tape, h.output, by have := h.size; simpa [World.setCell] using this, fun i hi hr => by rw [Below.heap_setCell _ _ _ _ (fun e => hr (by rw [e]))]; exact h.block i hi hr⟩
end

def cmpV (a b : Int) : Int := if a < b then -1 else if b < a then 1 else 0
theorem cmpV_neg {a b z : Int} (h : cmpV a b = z) : (z < 0 ↔ a < b) ∧ -1 ≤ z ∧ z ≤ 1 := by
  unfold cmpV at h; split at h <;> (try split at h) <;> omega

theorem isNaN_any (x : Int) (w : World) : Calls Try.prog 88 #[.int .i64 x] w fun e w' => e = .returned (.bool false) ∧ w = w' := by
  go_enter Try.func88, Try.ntmps88
  go_wp2
  go_ret
  exact ⟨ret_bool (by simp), rfl⟩
theorem compare_any (a b : Int) (w : World) : Calls Try.prog 72 #[.int .i64 a, .int .i64 b] w fun e w' => e = .returned (.int .i64 (cmpV a b)) ∧ w = w' := by
  unfold cmpV
  by_cases h1 : a < b
  · go_enter Try.func72, Try.ntmps72
    go_wp2_with (go_at_call 88; refine (isNaN_any _ _).mono ?_; rintro e w1 ⟨rfl, rfl⟩)
    go_ret
    exact ⟨ret_int (by first | rfl | omega), rfl⟩
  · by_cases h2 : b < a
    · go_enter Try.func72, Try.ntmps72
      go_wp2_with (go_at_call 88; refine (isNaN_any _ _).mono ?_; rintro e w1 ⟨rfl, rfl⟩)
      go_ret
      exact ⟨ret_int (by first | rfl | omega), rfl⟩
    · go_enter Try.func72, Try.ntmps72
      go_wp2_with (go_at_call 88; refine (isNaN_any _ _).mono ?_; rintro e w1 ⟨rfl, rfl⟩)
      go_ret
      exact ⟨ret_int (by first | rfl | omega), rfl⟩

/-- The comparison of two numbers by their rests. -/
theorem cmp_any {w : World} {g c r n : Nat} {ks : List Int} {f : Nat → Nat} (h : Sor w g c r n ks f) {x y : Nat} (hx : x < n) (hy : y < n) {z : Int} (hz : Hid (cmpV (nth ks y) (nth ks x) = z)) :
    Calls Try.prog 71 #[.int .i64 (x : Int), .int .i64 (y : Int), .pointer (some ⟨c, 0, none⟩)] w fun e w' => e = .returned (.int .i64 z) ∧ ∃ m, w' = w.drewN m := by
  have hb : ∀ q, (w.drewN q).cell? ⟨c, 0, none⟩ = some (.slice (some ⟨r, 0, none⟩) n n) := fun q => (h.drewN q).box
  obtain ⟨a, ha⟩ : ∃ a, nth ks x = a := ⟨_, rfl⟩
  obtain ⟨b, hb'⟩ : ∃ b, nth ks y = b := ⟨_, rfl⟩
  rw [ha, hb'] at hz
  have hcx : ∀ q, (w.drewN q).cell? ⟨r, x, none⟩ = some (.int .i64 a) := fun q => by rw [(h.drewN q).rest hx, ha]
  have hcy : ∀ q, (w.drewN q).cell? ⟨r, y, none⟩ = some (.int .i64 b) := fun q => by rw [(h.drewN q).rest hy, hb']
  have x0 : (0 : Int) ≤ (x : Int) := by omega
  have x1 : (x : Int) < (n : Int) := by omega
  have y0 : (0 : Int) ≤ (y : Int) := by omega
  have y1 : (y : Int) < (n : Int) := by omega
  clear ha hb' h hx hy
  go_enter Try.func71, Try.ntmps71
  go_wp2
  go_quiet (exact Calls.quiet_of_same ((compare_any _ _ _).mono fun _ _ q => ⟨q.1, q.2.symm⟩))
  go_wp2
  go_ret
  exact ⟨ret_int hz.out, _, rfl⟩

set_option maxHeartbeats 800000 in
theorem swapRange_any {w : World} {g c r n : Nat} {ks : List Int} {f : Nat → Nat} (h : Sor w g c r n ks f) {a b m : Nat} (hab : a + m ≤ b) (hb : b + m ≤ n) (cv : Value) :
    Calls Try.prog 96 #[.slice (some ⟨g, 0, none⟩) n n, .int .i64 (a : Int), .int .i64 (b : Int), .int .i64 (m : Int), cv] w fun e w' => e = .returned (.tuple #[]) ∧ Sor w' g c r n ks (swr f a b m) ∧ w.grownBy w' (some g) := by
  have hn := h.hn
  go_enter Try.func96, Try.ntmps96
  go_wp2
  go_loopw [10] (fun iv wr => ∃ j : Nat, j ≤ m ∧ iv = .int .i64 j ∧ Sor wr g c r n ks (swr f a b j) ∧ w.grownBy wr (some g)) (fun iv _ => m - (intOf iv).toNat)
  case atStart => exact ⟨0, Nat.zero_le _, rfl, by rw [swr_zero]; exact h, grown_refl _ _⟩
  case round =>
    obtain ⟨j, hj, rfl, hs, hg⟩ := hrel
    by_cases hlt : j < m
    · have ca := hs.cell (k := a + j) (by omega)
      have cb := hs.cell (k := b + j) (by omega)
      have fa := hs.free (a + j)
      have fb := hs.free (b + j)
      have fb' : ∀ v, (wr.setCell ⟨g, a + j, none⟩ (.int .i64 v)).frozen? ⟨g, b + j, none⟩ = false := fun v => by simpa using fb
      have cb' : (wr.setCell ⟨g, a + j, none⟩ (.int .i64 (swr f a b j (b + j) : Nat))).cell? ⟨g, b + j, none⟩ = some (.int .i64 (swr f a b j (b + j) : Nat)) := by
        have q := (hs.set (k := a + j) (hs.lt (b + j) (by omega))).cell (k := b + j) (by omega)
        rwa [upd, if_neg (by omega)] at q
      go_wp2
      go_region
      all_goals go_wp2
      refine ⟨⟨j + 1, by omega, by go_num, ?_, grown_trans (grown_set (grown_set hg _ _) _ _) (grown_drew _ _)⟩, by simp [intOf]; omega⟩
      rw [← swr_succ f a b j (by omega)]
      exact (hs.swap (by omega) (by omega)).drew
    · have hjm : j = m := by omega
      subst hjm
      go_wp2
      refine bodyPost_end (results_none rfl _ _ _) rfl ?_
      exact ⟨rfl, hs, hg⟩

/-- Two runs change their places. -/
theorem rotate_any {w : World} {g c r n : Nat} {ks : List Int} {f : Nat → Nat} (h : Sor w g c r n ks f) {a m b : Nat} (ham : a < m) (hmb : m < b) (hb : b ≤ n) (cv : Value) :
    Calls Try.prog 95 #[.slice (some ⟨g, 0, none⟩) n n, .int .i64 (a : Int), .int .i64 (m : Int), .int .i64 (b : Int), cv] w fun e w' => e = .returned (.tuple #[]) ∧ Sor w' g c r n ks (rot f a m b) ∧ w.grownBy w' (some g) := by
  have hn := h.hn
  go_enter Try.func95, Try.ntmps95
  go_wp2
  go_loopw [10, 11] (fun iv jv wr => ∃ (i j : Nat) (fr : Nat → Nat), 0 < i ∧ 0 < j ∧ a + i ≤ m ∧ m + j ≤ b ∧ iv = .int .i64 i ∧ jv = .int .i64 j ∧ Sor wr g c r n ks fr ∧ Hid (rot f a m b = rot fr (m - i) m (m + j)) ∧ w.grownBy wr (some g)) (fun iv jv _ => (intOf iv).toNat + (intOf jv).toNat)
  case atStart => exact ⟨m - a, b - m, f, by omega, by omega, by omega, by omega, by go_num, by go_num, h, by show _ = _; rw [show m - (m - a) = a by omega, show m + (b - m) = b by omega], grown_refl _ _⟩
  case round =>
    obtain ⟨i, j, fr, hi, hj, hi1, hj1, rfl, rfl, hs, hw, hg⟩ := hrel
    obtain ⟨x, hx⟩ : ∃ x, m = i + x := ⟨m - i, by omega⟩
    have hxi : (m : Int) - (i : Int) = (x : Int) := by omega
    have HX := Lib.hid hx; clear hx
    by_cases hij : i = j
    · subst hij
      go_wp2_with fail
      try rw [hxi]
      refine (swapRange_any hs (a := x) (b := m) (m := i) (by have := HX.out; omega) (by omega) _).mono ?_
      rintro e w1 ⟨rfl, hs1, hg1⟩
      go_wp2
      refine bodyPost_end (results_none rfl _ _ _) rfl ?_
      refine ⟨rfl, ?_, grown_trans hg hg1⟩
      rw [hw.out, rot_eq fr m i (by omega), show m - i = x by have := HX.out; omega]
      exact hs1
    · by_cases hgt : j < i
      · go_wp2_with fail
        try rw [hxi]
        refine (swapRange_any hs (a := x) (b := m) (m := j) (by have := HX.out; omega) (by omega) _).mono ?_
        rintro e w1 ⟨rfl, hs1, hg1⟩
        go_wp2
        refine ⟨⟨i - j, j, _, by omega, by omega, by omega, by omega, by go_num, rfl, hs1, ?_, grown_trans hg hg1⟩, by simp [intOf]; omega⟩
        show _ = _
        rw [hw.out, rot_gt fr m i j (by omega) hgt, show m - i = x by have := HX.out; omega]
      · have hlt : i < j := by omega
        clear hgt
        have hyi : (m : Int) + (j : Int) - (i : Int) = ((m + j - i : Nat) : Int) := by omega
        go_wp2_with fail
        try rw [hxi]
        try rw [hyi]
        refine (swapRange_any hs (a := x) (b := m + j - i) (m := i) (by have := HX.out; omega) (by omega) _).mono ?_
        rintro e w1 ⟨rfl, hs1, hg1⟩
        go_wp2
        refine ⟨⟨i, j - i, _, by omega, by omega, by omega, by omega, rfl, by go_num, hs1, ?_, grown_trans hg hg1⟩, by simp [intOf]; omega⟩
        show _ = _
        rw [hw.out, rot_lt fr m i j (by omega) hlt, show m - i = x by have := HX.out; omega]
end Go.Proofs.Ytblaplnpehnjfab
namespace Go.Proofs.Ytblaplnpehnjfab
open Go.RowKit

set_option maxRecDepth 100000 in
set_option maxHeartbeats 1600000 in
theorem insert_any {w : World} {g c r n : Nat} {ks : List Int} {f : Nat → Nat} (h : Sor w g c r n ks f) {a b : Nat} (hown : ∀ k, a ≤ k → f k = k) (hab : a ≤ b) (hb : b ≤ n) :
    Calls Try.prog 93 #[.slice (some ⟨g, 0, none⟩) n n, .int .i64 (a : Int), .int .i64 (b : Int), .func (.func 71) #[] #[.pointer (some ⟨c, 0, none⟩)]] w fun e w' => e = .returned (.tuple #[]) ∧ (∃ f', Sor w' g c r n ks f' ∧ Mv a b f f' ∧ Blk (nth ks) f' a b) ∧ w.grownBy w' (some g) := by
  have hn := h.hn
  have HO := Lib.hid hown; clear hown
  rcases Nat.eq_or_lt_of_le hab with he | hlt0
  · subst he
    go_enter Try.func93, Try.ntmps93
    go_wp2
    go_loopw [8] (fun iv wr => iv = .int .i64 ((a : Int) + 1) ∧ wr = w) (fun _ _ => 0)
    case atStart => exact ⟨rfl, rfl⟩
    case round =>
      obtain ⟨rfl, rfl⟩ := hrel
      go_wp2
      refine bodyPost_end (results_none rfl _ _ _) rfl ?_
      exact ⟨rfl, ⟨f, h, Mv.refl _ _ _, ⟨fun i j h1 h2 h3 => by omega, fun k h1 h2 => by omega⟩⟩, grown_refl _ _⟩
  · go_enter Try.func93, Try.ntmps93
    go_wp2
    go_loopw [8] (fun iv wr => ∃ (i : Nat) (fi : Nat → Nat), a + 1 ≤ i ∧ i ≤ b ∧ iv = .int .i64 i ∧ Sor wr g c r n ks fi ∧ Hid (Ins (nth ks) f fi a i) ∧ w.grownBy wr (some g)) (fun iv _ => b - (intOf iv).toNat)
    case atStart => exact ⟨a + 1, f, by omega, by omega, by go_num, h, Ins.start HO.out, grown_refl _ _⟩
    case round =>
      obtain ⟨i, fi, hi0, hi1, rfl, hs, hins, hg⟩ := hrel
      by_cases hlt : i < b
      · go_wp2_with fail
        go_loopw [9] (fun jv wt => ∃ j : Nat, a ≤ j ∧ j ≤ i ∧ jv = .int .i64 j ∧ Sor wt g c r n ks (rot fi j i (i + 1)) ∧ Hid (j = i ∨ Bef (nth ks) (fi i) (fi j)) ∧ w.grownBy wt (some g)) (fun jv _ => (intOf jv).toNat)
        case atStart => exact ⟨i, by omega, Nat.le_refl _, rfl, by rw [rot_left]; exact hs, .inl rfl, hg⟩
        case round =>
          obtain ⟨j, hj0, hj1, rfl, ht, hr, hgt⟩ := hrel
          by_cases hja : a < j
          · obtain ⟨p, rfl⟩ : ∃ p, j = p + 1 := ⟨j - 1, by omega⟩
            have cx := ht.cell (k := p + 1) (by omega)
            have cy := ht.cell (k := p) (by omega)
            rw [rot_1 (Nat.le_refl _) (by omega), show p + 1 + (i - (p + 1)) = i by omega] at cx
            rw [rot_lo (by omega) (by omega) (by omega)] at cy
            have hxn := hs.lt i (by omega)
            have hyn := hs.lt p (by omega)
            have hcross := hins.out.runs.cross p i (by omega) (by omega) (Nat.le_refl _) (by omega)
            have hfx := ht.free (p + 1)
            have hfy := ht.free p
            have cy' := (ht.set (k := p + 1) (ht.lt p (by omega))).cell (k := p) (by omega)
            rw [upd, if_neg (by omega), rot_lo (by omega) (by omega) (by omega)] at cy'
            have hsw := ht.swap (i := p + 1) (j := p) (by omega) (by omega)
            rw [rot_down fi p i (by omega)] at hsw
            rw [rot_1 (Nat.le_refl _) (by omega), show p + 1 + (i - (p + 1)) = i by omega, rot_lo (by omega) (by omega) (by omega)] at hsw
            obtain ⟨x, hx⟩ : ∃ x, fi i = x := ⟨_, rfl⟩
            obtain ⟨y, hy⟩ : ∃ y, fi p = y := ⟨_, rfl⟩
            rw [hx] at cx hxn hcross hsw
            rw [hy] at cy hyn hcross cy' hsw
            obtain ⟨z, hz⟩ : ∃ z, cmpV (nth ks y) (nth ks x) = z := ⟨_, rfl⟩
            have hz1 := cmpV_neg hz
            have HXY := Lib.hid (And.intro hx hy); have HZ := Lib.hid hz; have HC := Lib.hid hcross; have HSW := Lib.hid hsw; have HT := Lib.hid ht
            have cxq : ∀ q, (wr.drewN q).cell? ⟨g, p + 1, none⟩ = some (.int .i64 (x : Int)) := fun q => by simpa using cx
            have cyq : ∀ q, (wr.drewN q).cell? ⟨g, p, none⟩ = some (.int .i64 (y : Int)) := fun q => by simpa using cy
            obtain ⟨p1, hp1⟩ : ∃ q, q = p + 1 := ⟨_, rfl⟩
            have ea : ((p : Int) + 1).toNat = p1 := by omega
            have pa : (0 : Int) ≤ (p : Int) + 1 := by omega
            have ba : (p : Int) + 1 < (n : Int) := by omega
            have pc : (0 : Int) ≤ (p : Int) := by omega
            have bc : (p : Int) < (n : Int) := by omega
            have rc : IntKind.i64.wrap ((p : Int)) = (p : Int) := by rw [IntKind.wrap_i64]; omega
            have hk1 : (((p + 1 : Nat)) : Int) = (p : Int) + 1 := by omega
            have hgt1 : (a : Int) < (p : Int) + 1 := by omega
            rw [hk1]
            clear hx hy hz hcross hsw hk1
            by_cases hz0 : z < 0
            · go_wp2_with fail
              go_quiet (exact Calls.quiet_of (cmp_any (HT.out.drewN _) hxn hyn HZ))
              go_wp2_with fail
              go_region
              all_goals go_wp2_with fail
              all_goals
                refine ⟨⟨p, by omega, by omega, rfl, HSW.out.same rfl, .inr ?_, grown_set (grown_set (grown_trans hgt (grown_drewN _ _ _)) _ _) _ _⟩, by simp [intOf]⟩
                have hc := HC.out
                rw [HXY.out.1, HXY.out.2]
                exact (bef_iff hc).2 (hz1.1.1 hz0)
            · go_wp2_with fail
              go_quiet (exact Calls.quiet_of (cmp_any (HT.out.drewN _) hxn hyn HZ))
              go_wp2_with fail
              refine ⟨⟨i + 1, _, by omega, by omega, by simp, ht.drewN _, hins.out.next hj0 hj1 (.inr ?_) hr.out, grown_trans hgt (grown_drewN _ _ _)⟩, by simp [intOf]; omega⟩
              have hc := HC.out
              rw [Nat.add_sub_cancel, HXY.out.1, HXY.out.2]
              exact (bef_not hc).2 (fun q => by have := hz1.1.2 q; omega)
          · have hje : j = a := by omega
            subst hje
            go_wp2_with fail
            go_quiet (fail)
            go_wp2_with fail
            refine ⟨⟨i + 1, _, by omega, by omega, by simp, ht.drewN _, hins.out.next hj0 hj1 (.inl rfl) hr.out, grown_trans hgt (grown_drewN _ _ _)⟩, by simp [intOf]; omega⟩
      · have hib : i = b := by omega
        subst hib
        go_wp2_with fail
        refine bodyPost_end (results_none rfl _ _ _) rfl ?_
        exact ⟨rfl, ⟨fi, hs, hins.out.mv, hins.out.blk⟩, hg⟩
end Go.Proofs.Ytblaplnpehnjfab
namespace Go.Proofs.Ytblaplnpehnjfab
open Go.RowKit

set_option maxRecDepth 100000 in
set_option maxHeartbeats 1600000 in
theorem symMerge_left {w : World} {g c r n : Nat} {ks : List Int} {f : Nat → Nat} (h : Sor w g c r n ks f) {a b : Nat} (hb : b ≤ n) (hruns : Hid (Runs (nth ks) f a (a + 1) b)) (m : Int) (hm : m = (a : Int) + 1) (hab : a + 1 < b) :
    Calls Try.prog 94 #[.slice (some ⟨g, 0, none⟩) n n, .int .i64 (a : Int), .int .i64 m, .int .i64 (b : Int), .func (.func 71) #[] #[.pointer (some ⟨c, 0, none⟩)]] w fun e w' => e = .returned (.tuple #[]) ∧ (∃ f', Sor w' g c r n ks f' ∧ Mv a b f f' ∧ Srt (nth ks) f' a b) ∧ w.grownBy w' (some g) := by
  have hn := h.hn
  have hq : m - (a : Int) = 1 := by omega
  obtain ⟨M, hM⟩ : ∃ M : Nat, M = a + 1 := ⟨_, rfl⟩
  have hmM : m = (M : Int) := by omega
  subst hmM
  clear hm
  have HM := Lib.hid hM; clear hM
  go_enter Try.func94, Try.ntmps94
  go_wp2
  go_loopw [10, 11] (fun iv jv wr => ∃ (i j : Nat), a + 1 ≤ i ∧ i ≤ j ∧ j ≤ b ∧ iv = .int .i64 i ∧ jv = .int .i64 j ∧ Sor wr g c r n ks f ∧ Hid (i = a + 1 ∨ Bef (nth ks) (f (i - 1)) (f a)) ∧ Hid (j = b ∨ Bef (nth ks) (f a) (f j)) ∧ w.grownBy wr (some g)) (fun iv jv _ => (intOf jv).toNat - (intOf iv).toNat)
  case atStart => exact ⟨M, b, by have := HM.out; omega, by have := HM.out; omega, Nat.le_refl _, rfl, rfl, h, .inl HM.out, .inl rfl, grown_refl _ _⟩
  case round =>
    obtain ⟨i, j, hi, hij, hj, rfl, rfl, hs, hl, hr, hg⟩ := hrel
    by_cases hlt : i < j
    · obtain ⟨H, hH⟩ : ∃ H : Nat, H = (i + j) / 2 := ⟨_, rfl⟩
      have hHi : ((i : Int) + (j : Int)) / 2 = (H : Int) := by omega
      have hH0 : i ≤ H := by omega
      have hH1 : H < j := by omega
      have hcross := hruns.out.cross a H (Nat.le_refl _) (by omega) (by omega) (by omega)
      have cx := hs.cell (k := H) (by omega)
      have cy := hs.cell (k := a) (by omega)
      have hxn := hs.lt H (by omega)
      have hyn := hs.lt a (by omega)
      obtain ⟨x, hx⟩ : ∃ x, f H = x := ⟨_, rfl⟩
      obtain ⟨y, hy⟩ : ∃ y, f a = y := ⟨_, rfl⟩
      rw [hx] at cx hxn hcross
      rw [hy] at cy hyn hcross
      obtain ⟨z, hz⟩ : ∃ z, cmpV (nth ks y) (nth ks x) = z := ⟨_, rfl⟩
      have hz1 := cmpV_neg hz
      have HXY := Lib.hid (And.intro hx hy); have HZ := Lib.hid hz; have HC := Lib.hid hcross
      have cxq : ∀ q, (wr.drewN q).cell? ⟨g, H, none⟩ = some (.int .i64 (x : Int)) := fun q => by simpa using cx
      have cyq : ∀ q, (wr.drewN q).cell? ⟨g, a, none⟩ = some (.int .i64 (y : Int)) := fun q => by simpa using cy
      have pa : (0 : Int) ≤ (H : Int) := by omega
      have ba : (H : Int) < (n : Int) := by omega
      have pc : (0 : Int) ≤ (a : Int) := by omega
      have bc : (a : Int) < (n : Int) := by omega
      clear hx hy hz hcross hH cx cy
      by_cases hz0 : z < 0
      · go_wp2_with fail
        try rw [hHi]
        go_quiet (exact Calls.quiet_of (cmp_any (hs.drewN _) hxn hyn HZ))
        go_wp2_with fail
        refine ⟨⟨H + 1, j, by omega, by omega, hj, by go_num, rfl, hs.drewN _, .inr ?_, hr, grown_trans hg (grown_drewN _ _ _)⟩, by simp [intOf]; omega⟩
        rw [Nat.add_sub_cancel, HXY.out.1, HXY.out.2]
        exact (bef_iff HC.out).2 (hz1.1.1 hz0)
      · go_wp2_with fail
        try rw [hHi]
        go_quiet (exact Calls.quiet_of (cmp_any (hs.drewN _) hxn hyn HZ))
        go_wp2_with fail
        go_roundw
        case rel =>
          refine ⟨i, H, hi, hH0, by omega, rfl, rfl, hs.drewN _, hl, .inr ?_, grown_trans hg (grown_drewN _ _ _)⟩
          rw [HXY.out.1, HXY.out.2]
          exact (bef_not HC.out).2 (fun q => by have := hz1.1.2 q; omega)
        case measure => simp [intOf]; omega
    · have hie : j = i := by omega
      subst hie
      go_wp2_with fail
      go_loopw [13] (fun kv wt => ∃ k : Nat, a ≤ k ∧ k + 1 ≤ j ∧ kv = .int .i64 k ∧ Sor wt g c r n ks (rot f a (a + 1) (k + 1)) ∧ w.grownBy wt (some g)) (fun kv _ => j - (intOf kv).toNat)
      case atStart => exact ⟨a, Nat.le_refl _, by omega, rfl, by rw [rot_right]; exact hs, hg⟩
      case round =>
        obtain ⟨k, hk0, hk1, rfl, ht, hgt⟩ := hrel
        by_cases hlk : k + 1 < j
        · have cx := ht.cell (k := k) (by omega)
          have cy := ht.cell (k := k + 1) (by omega)
          have fx := ht.free k
          have fy := ht.free (k + 1)
          have hsw := ht.swap (i := k) (j := k + 1) (by omega) (by omega)
          have cy' := (ht.set (k := k) (ht.lt (k + 1) (by omega))).cell (k := k + 1) (by omega)
          rw [upd, if_neg (by omega)] at cy'
          rw [rot_up f a k hk0] at hsw
          obtain ⟨x, hx⟩ : ∃ x, rot f a (a + 1) (k + 1) k = x := ⟨_, rfl⟩
          obtain ⟨y, hy⟩ : ∃ y, rot f a (a + 1) (k + 1) (k + 1) = y := ⟨_, rfl⟩
          rw [hx] at cx hsw
          rw [hy] at cy hsw cy'
          have HSW := Lib.hid hsw; clear hsw hx hy
          have hlk1 : (k : Int) < (j : Int) - 1 := by omega
          go_wp2_with fail
          go_region
          all_goals go_wp2_with fail
          all_goals exact ⟨⟨k + 1, by omega, by omega, by go_num, HSW.out.same rfl, grown_trans (grown_set (grown_set hgt _ _) _ _) (grown_drew _ _)⟩, by simp [intOf]; omega⟩
        · have hke : j = k + 1 := by omega
          have hlk1 : ¬ (k : Int) < (j : Int) - 1 := by omega
          have HKE := Lib.hid hke; clear hke
          go_wp2_with fail
          (try simp only [Exit.inBlock, Exit.then])
          refine bodyPost_ret (results_none rfl _ _ _) rfl ?_
          refine ⟨rfl, ⟨_, ht, ?_, ?_⟩, hgt⟩
          · exact (Mv.rot f a (a + 1) (k + 1) (by omega) (by omega)).mono (Nat.le_refl _) (by omega)
          · have e := HKE.out
            rw [← e]
            exact merge_left hruns.out hi hj hl.out hr.out
end Go.Proofs.Ytblaplnpehnjfab
namespace Go.Proofs.Ytblaplnpehnjfab
open Go.RowKit

set_option maxRecDepth 100000 in
set_option maxHeartbeats 1600000 in
theorem symMerge_right {w : World} {g c r n : Nat} {ks : List Int} {f : Nat → Nat} (h : Sor w g c r n ks f) {a m : Nat} (hb : m + 1 ≤ n) (hruns : Hid (Runs (nth ks) f a m (m + 1))) (b : Int) (hbm : b = (m : Int) + 1) (ham : a + 1 < m) :
    Calls Try.prog 94 #[.slice (some ⟨g, 0, none⟩) n n, .int .i64 (a : Int), .int .i64 (m : Int), .int .i64 b, .func (.func 71) #[] #[.pointer (some ⟨c, 0, none⟩)]] w fun e w' => e = .returned (.tuple #[]) ∧ (∃ f', Sor w' g c r n ks f' ∧ Mv a (m + 1) f f' ∧ Srt (nth ks) f' a (m + 1)) ∧ w.grownBy w' (some g) := by
  have hn := h.hn
  have hq0 : ((m : Int) - (a : Int) == 1) = false := by simp; omega
  have hq : b - (m : Int) = 1 := by omega
  obtain ⟨B, hB⟩ : ∃ B : Nat, B = m + 1 := ⟨_, rfl⟩
  have hbB : b = (B : Int) := by omega
  subst hbB
  have hB1 : B ≤ 1000 := by omega
  clear hbm hB
  go_enter Try.func94, Try.ntmps94
  go_wp2
  go_loopw [14, 15] (fun iv jv wr => ∃ (i j : Nat), a ≤ i ∧ i ≤ j ∧ j ≤ m ∧ iv = .int .i64 i ∧ jv = .int .i64 j ∧ Sor wr g c r n ks f ∧ Hid (i = a ∨ Bef (nth ks) (f (i - 1)) (f m)) ∧ Hid (j = m ∨ Bef (nth ks) (f m) (f j)) ∧ w.grownBy wr (some g)) (fun iv jv _ => (intOf jv).toNat - (intOf iv).toNat)
  case atStart => exact ⟨a, m, Nat.le_refl _, by omega, Nat.le_refl _, rfl, rfl, h, .inl rfl, .inl rfl, grown_refl _ _⟩
  case round =>
    obtain ⟨i, j, hi, hij, hj, rfl, rfl, hs, hl, hr, hg⟩ := hrel
    by_cases hlt : i < j
    · obtain ⟨H, hH⟩ : ∃ H : Nat, H = (i + j) / 2 := ⟨_, rfl⟩
      have hHi : ((i : Int) + (j : Int)) / 2 = (H : Int) := by omega
      have hH0 : i ≤ H := by omega
      have hH1 : H < j := by omega
      have hcross := hruns.out.cross H m (by omega) (by omega) (Nat.le_refl _) (by omega)
      have cx := hs.cell (k := m) (by omega)
      have cy := hs.cell (k := H) (by omega)
      have hxn := hs.lt m (by omega)
      have hyn := hs.lt H (by omega)
      obtain ⟨x, hx⟩ : ∃ x, f m = x := ⟨_, rfl⟩
      obtain ⟨y, hy⟩ : ∃ y, f H = y := ⟨_, rfl⟩
      rw [hx] at cx hxn hcross
      rw [hy] at cy hyn hcross
      obtain ⟨z, hz⟩ : ∃ z, cmpV (nth ks y) (nth ks x) = z := ⟨_, rfl⟩
      have hz1 := cmpV_neg hz
      have HXY := Lib.hid (And.intro hx hy); have HZ := Lib.hid hz; have HC := Lib.hid hcross
      have cxq : ∀ q, (wr.drewN q).cell? ⟨g, m, none⟩ = some (.int .i64 (x : Int)) := fun q => by simpa using cx
      have cyq : ∀ q, (wr.drewN q).cell? ⟨g, H, none⟩ = some (.int .i64 (y : Int)) := fun q => by simpa using cy
      have pa : (0 : Int) ≤ (H : Int) := by omega
      have ba : (H : Int) < (n : Int) := by omega
      have pc : (0 : Int) ≤ (m : Int) := by omega
      have bc : (m : Int) < (n : Int) := by omega
      have HZ1 := Lib.hid hz1
      clear hx hy hz hz1 hcross hH cx cy
      by_cases hz0 : z < 0
      · go_wp2_with fail
        try rw [hHi]
        go_quiet (exact Calls.quiet_of (cmp_any (hs.drewN _) hxn hyn HZ))
        go_wp2_with fail
        go_roundw
        case rel =>
          refine ⟨i, H, hi, hH0, by omega, rfl, rfl, hs.drewN _, hl, .inr ?_, grown_trans hg (grown_drewN _ _ _)⟩
          rw [HXY.out.1, HXY.out.2]
          exact (bef_iff HC.out).2 (HZ1.out.1.1 (by omega))
        case measure => simp [intOf]; omega
      · have hz2 : 0 ≤ z := by omega
        have hz3 : decide (z < 0) = false := by simpa using hz0
        clear hz0
        go_wp2_with fail
        try rw [hHi]
        go_quiet (exact Calls.quiet_of (cmp_any (hs.drewN _) hxn hyn HZ))
        go_wp2_with fail
        go_roundw
        case rel =>
          refine ⟨H + 1, j, by omega, by omega, hj, by go_num, rfl, hs.drewN _, .inr ?_, hr, grown_trans hg (grown_drewN _ _ _)⟩
          rw [Nat.add_sub_cancel, HXY.out.1, HXY.out.2]
          exact (bef_not HC.out).2 (fun q => by have := HZ1.out.1.2 q; omega)
        case measure => simp [intOf]; omega
    · have hie : j = i := by omega
      subst hie
      go_wp2_with fail
      go_loopw [17] (fun kv wt => ∃ k : Nat, j ≤ k ∧ k ≤ m ∧ kv = .int .i64 k ∧ Sor wt g c r n ks (rot f k m (m + 1)) ∧ w.grownBy wt (some g)) (fun kv _ => (intOf kv).toNat)
      case atStart => exact ⟨m, hj, Nat.le_refl _, rfl, by rw [rot_left]; exact hs, hg⟩
      case round =>
        obtain ⟨k, hk0, hk1, rfl, ht, hgt⟩ := hrel
        by_cases hlk : j < k
        · obtain ⟨p, rfl⟩ : ∃ p, k = p + 1 := ⟨k - 1, by omega⟩
          have cx := ht.cell (k := p + 1) (by omega)
          have cy := ht.cell (k := p) (by omega)
          have fx := ht.free (p + 1)
          have fy := ht.free p
          have hsw := ht.swap (i := p + 1) (j := p) (by omega) (by omega)
          have cy' := (ht.set (k := p + 1) (ht.lt p (by omega))).cell (k := p) (by omega)
          rw [upd, if_neg (by omega)] at cy'
          rw [rot_down f p m (by omega)] at hsw
          obtain ⟨x, hx⟩ : ∃ x, rot f (p + 1) m (m + 1) (p + 1) = x := ⟨_, rfl⟩
          obtain ⟨y, hy⟩ : ∃ y, rot f (p + 1) m (m + 1) p = y := ⟨_, rfl⟩
          rw [hx] at cx hsw
          rw [hy] at cy hsw cy'
          have HSW := Lib.hid hsw; clear hsw hx hy
          have hlk1 : (j : Int) < (p : Int) + 1 := by omega
          have hk1' : (((p + 1 : Nat)) : Int) = (p : Int) + 1 := by omega
          rw [hk1']
          clear hk1'
          go_wp2_with fail
          go_region
          all_goals go_wp2_with fail
          all_goals exact ⟨⟨p, by omega, by omega, rfl, HSW.out.same rfl, grown_trans (grown_set (grown_set hgt _ _) _ _) (grown_drew _ _)⟩, by simp [intOf]⟩
        · have hke : k = j := by omega
          have HKE := Lib.hid hke; clear hke
          go_wp2_with fail
          (try simp only [Exit.inBlock, Exit.then])
          refine bodyPost_ret (results_none rfl _ _ _) rfl ?_
          have e := HKE.out
          subst e
          exact ⟨rfl, ⟨_, ht, (Mv.rot f k m (m + 1) (by omega) (by omega)).mono hi (Nat.le_refl _), merge_right hruns.out hi hj hl.out hr.out⟩, hgt⟩
end Go.Proofs.Ytblaplnpehnjfab
namespace Go.Proofs.Ytblaplnpehnjfab
open Go.RowKit

/-- From where to where the place is searched. -/
structure Srch (a m b s0 r0 : Nat) : Prop where
  le : s0 ≤ r0
  lo : a ≤ s0
  rm : r0 ≤ m
  rd : r0 ≤ (a + b) / 2
  hi : (a + b) / 2 + m ≤ s0 + b
  s : s0 = a ∨ s0 + b = (a + b) / 2 + m
  r : r0 = m ∨ r0 = (a + b) / 2

/-- What a merge says. -/
def Merges (g c r n : Nat) (ks : List Int) (a m b : Nat) : Prop :=
  ∀ (w : World) (f : Nat → Nat), Sor w g c r n ks f → Runs (nth ks) f a m b →
    Calls Try.prog 94 #[.slice (some ⟨g, 0, none⟩) n n, .int .i64 (a : Int), .int .i64 (m : Int), .int .i64 (b : Int), .func (.func 71) #[] #[.pointer (some ⟨c, 0, none⟩)]] w fun e w' => e = .returned (.tuple #[]) ∧ (∃ f', Sor w' g c r n ks f' ∧ Mv a b f f' ∧ Srt (nth ks) f' a b) ∧ w.grownBy w' (some g)

set_option maxRecDepth 100000 in
set_option maxHeartbeats 3200000 in
theorem symMerge_gen {w : World} {g c r n : Nat} {ks : List Int} {f : Nat → Nat} (h : Sor w g c r n ks f) {a m b : Nat} (hb : b ≤ n) (hruns : Hid (Runs (nth ks) f a m b)) (ham : a + 1 < m) (hmb : m + 1 < b)
    (ih : Hid (∀ a' m' b', b' - a' < b - a → a' < m' → m' < b' → b' ≤ n → Merges g c r n ks a' m' b')) :
    Calls Try.prog 94 #[.slice (some ⟨g, 0, none⟩) n n, .int .i64 (a : Int), .int .i64 (m : Int), .int .i64 (b : Int), .func (.func 71) #[] #[.pointer (some ⟨c, 0, none⟩)]] w fun e w' => e = .returned (.tuple #[]) ∧ (∃ f', Sor w' g c r n ks f' ∧ Mv a b f f' ∧ Srt (nth ks) f' a b) ∧ w.grownBy w' (some g) := by
  have hn := h.hn
  have hq0 : ((m : Int) - (a : Int) == 1) = false := by simp; omega
  have hq1 : ((b : Int) - (m : Int) == 1) = false := by simp; omega
  obtain ⟨D, hD⟩ : ∃ D : Nat, (a + b) / 2 = D := ⟨_, rfl⟩
  have hDi : ((a : Int) + (b : Int)) / 2 = (D : Int) := by omega
  have hD0 : a < D := by omega
  have hD1 : D < b := by omega
  obtain ⟨N, hN⟩ : ∃ N : Nat, N = D + m := ⟨_, rfl⟩
  have hNi : (D : Int) + (m : Int) = (N : Int) := by omega
  have hNb : N ≤ 2000 := by omega
  have HD := Lib.hid hD; have HN := Lib.hid hN; clear hD hN
  go_enter Try.func94, Try.ntmps94
  go_upto_if 140 with (fail)
  clear hq0 hq1 hDi hNi
  go_cut [20, 21] (fun sv rv wx => ∃ s0 r0 : Nat, sv = .int .i64 s0 ∧ rv = .int .i64 r0 ∧ Hid (Srch a m b s0 r0) ∧ w = wx)
  case first => as_aux_lemma =>
    by_cases hgt : D < m
    · obtain ⟨S, hS⟩ : ∃ S : Nat, S + b = D + m := ⟨D + m - b, by have := HD.out; omega⟩
      have hSi : (N : Int) - (b : Int) = (S : Int) := by have := HN.out; omega
      have HS := Lib.hid hS; clear hS
      go_wp2_with fail
      go_meet
      exact ⟨S, D, by first | rfl | rw [hSi], rfl, by have := HS.out; have := HD.out; exact ⟨by omega, by omega, by omega, by omega, by omega, by omega, by omega⟩, rfl⟩
    · go_wp2_with fail
      go_meet
      exact ⟨a, m, rfl, rfl, by have := HD.out; exact ⟨by omega, by omega, by omega, by omega, by omega, by omega, by omega⟩, rfl⟩
  case rest => as_aux_lemma =>
    obtain ⟨s0, r0, rfl, rfl, hS, rfl⟩ := hcut
    obtain ⟨P, hP⟩ : ∃ P : Nat, P + 1 = N := ⟨N - 1, by have := HN.out; omega⟩
    have hPi : (N : Int) - 1 = (P : Int) := by omega
    have HP := Lib.hid hP; clear hP
    go_wp2_with fail
    clear hPi
    go_loopw [20, 21] (fun sv rv wr => ∃ (st rr : Nat), s0 ≤ st ∧ st ≤ rr ∧ rr ≤ r0 ∧ sv = .int .i64 st ∧ rv = .int .i64 rr ∧ Sor wr g c r n ks f ∧ Hid (st = s0 ∨ Bef (nth ks) (f (st - 1)) (f (N - st))) ∧ Hid (rr = r0 ∨ Bef (nth ks) (f (P - rr)) (f rr)) ∧ w.grownBy wr (some g)) (fun sv rv _ => (intOf rv).toNat - (intOf sv).toNat)
    case atStart => exact ⟨s0, r0, Nat.le_refl _, hS.out.le, Nat.le_refl _, rfl, rfl, h, .inl rfl, .inl rfl, grown_refl _ _⟩
    case round =>
      obtain ⟨st, rr, hst, hsr, hrr, rfl, rfl, hs, hl, hr, hg⟩ := hrel
      have hs1 := hS.out.lo
      have hs2 := hS.out.rm
      have hs3 := hS.out.rd
      rw [HD.out] at hs3
      by_cases hlt : st < rr
      · obtain ⟨H, hH⟩ : ∃ H : Nat, H = (st + rr) / 2 := ⟨_, rfl⟩
        have hHi : ((st : Int) + (rr : Int)) / 2 = (H : Int) := by omega
        have hH0 : st ≤ H := by omega
        have hH1 : H < rr := by omega
        obtain ⟨E, hE⟩ : ∃ E : Nat, E = P - H := ⟨_, rfl⟩
        have hE1 : E + H = P := by have := HN.out; have := HP.out; omega
        have hE2 : m ≤ E := by have := HN.out; have := HP.out; omega
        have hE3 : E < b := by have := HN.out; have := HP.out; have := hS.out.hi; rw [HD.out] at this; omega
        have hEi : (P : Int) - (H : Int) = (E : Int) := by omega
        have hcross := hruns.out.cross H E (by omega) (by omega) hE2 hE3
        have cx := hs.cell (k := E) (by omega)
        have cy := hs.cell (k := H) (by omega)
        have hxn := hs.lt E (by omega)
        have hyn := hs.lt H (by omega)
        obtain ⟨x, hx⟩ : ∃ x, f E = x := ⟨_, rfl⟩
        obtain ⟨y, hy⟩ : ∃ y, f H = y := ⟨_, rfl⟩
        rw [hx] at cx hxn hcross
        rw [hy] at cy hyn hcross
        obtain ⟨z, hz⟩ : ∃ z, cmpV (nth ks y) (nth ks x) = z := ⟨_, rfl⟩
        have hz1 := cmpV_neg hz
        have HXY := Lib.hid (And.intro hx hy); have HZ := Lib.hid hz; have HC := Lib.hid hcross; have HZ1 := Lib.hid hz1; have HE := Lib.hid (And.intro hE1 hE)
        have cxq : ∀ q, (wr.drewN q).cell? ⟨g, E, none⟩ = some (.int .i64 (x : Int)) := fun q => by simpa using cx
        have cyq : ∀ q, (wr.drewN q).cell? ⟨g, H, none⟩ = some (.int .i64 (y : Int)) := fun q => by simpa using cy
        have pa : (0 : Int) ≤ (H : Int) := by omega
        have ba : (H : Int) < (n : Int) := by omega
        have pc : (0 : Int) ≤ (E : Int) := by omega
        have bc : (E : Int) < (n : Int) := by omega
        have rc : IntKind.i64.wrap ((E : Int)) = (E : Int) := by rw [IntKind.wrap_i64]; omega
        clear hx hy hz hz1 hcross hH cx cy hE hE1
        by_cases hz0 : z < 0
        · as_aux_lemma =>
          have hz3 : decide (z < 0) = true := by simpa using hz0
          clear hz0
          go_wp2_with fail
          try rw [hHi]
          go_quiet (exact Calls.quiet_of (cmp_any (hs.drewN _) hxn hyn HZ))
          go_wp2_with fail
          go_roundw
          case rel =>
            refine ⟨st, H, hst, hH0, by omega, rfl, rfl, hs.drewN _, hl, .inr ?_, grown_trans hg (grown_drewN _ _ _)⟩
            rw [show P - H = E by have := HE.out; omega, HXY.out.1, HXY.out.2]
            exact (bef_iff HC.out).2 (HZ1.out.1.1 (by simpa using hz3))
          case measure => simp [intOf]; omega
        · as_aux_lemma =>
          have hz2 : 0 ≤ z := by omega
          have hz3 : decide (z < 0) = false := by simpa using hz0
          clear hz0
          go_wp2_with fail
          try rw [hHi]
          go_quiet (exact Calls.quiet_of (cmp_any (hs.drewN _) hxn hyn HZ))
          go_wp2_with fail
          go_roundw
          case rel =>
            refine ⟨H + 1, rr, by omega, by omega, hrr, by go_num, rfl, hs.drewN _, .inr ?_, hr, grown_trans hg (grown_drewN _ _ _)⟩
            rw [Nat.add_sub_cancel, show N - (H + 1) = E by have := HE.out; have := HP.out; omega, HXY.out.1, HXY.out.2]
            exact (bef_not HC.out).2 (fun q => by have := HZ1.out.1.2 q; omega)
          case measure => simp [intOf]; omega
      · have hie : rr = st := by omega
        subst hie
        have hF : Found (nth ks) f a m b rr := by
          have e1 := HD.out
          have e2 := HN.out
          have e3 := HP.out
          have q1 := hS.out.hi
          refine ⟨by omega, by omega, by omega, by omega, ?_, ?_⟩
          · rcases hl.out with q | q
            · rcases hS.out.s with z | z
              · exact .inl (by omega)
              · exact .inr (.inl (by omega))
            · refine .inr (.inr ?_)
              rw [e1, ← e2]; exact q
          · rcases hr.out with q | q
            · rcases hS.out.r with z | z
              · exact .inl (by omega)
              · exact .inr (.inl (by omega))
            · refine .inr (.inr ?_)
              rw [e1, ← e2, show N - 1 - rr = P - rr by omega]; exact q
        obtain ⟨T, hT⟩ : ∃ T : Nat, T = D + m - rr := ⟨_, rfl⟩
        have hTi : (N : Int) - (rr : Int) = (T : Int) := by have := HN.out; omega
        have HF := Lib.hid hF; have HT := Lib.hid hT; clear hF hT
        go_upto_region 39 with (fail)
        clear hTi
        go_cut [24, 185] (fun ev bv wx => ev = .int .i64 T ∧ (∃ B : Bool, bv = .bool B ∧ Hid (B = true ↔ rr < m ∧ m < T)) ∧ wr = wx)
        case first => as_aux_lemma =>
          by_cases c1 : rr < m
          · by_cases c2 : m < T
            · go_wp2_with fail
              go_meet
              exact ⟨rfl, ⟨true, rfl, by show _ ↔ _; simp [c1, c2]⟩, rfl⟩
            · go_wp2_with fail
              go_meet
              exact ⟨rfl, ⟨false, rfl, by show _ ↔ _; simp; omega⟩, rfl⟩
          · go_wp2_with fail
            go_meet
            exact ⟨rfl, ⟨false, rfl, by show _ ↔ _; simp; omega⟩, rfl⟩
        case rest => as_aux_lemma =>
          obtain ⟨rfl, ⟨B, rfl, hB⟩, rfl⟩ := hcut
          go_upto_if 185 with (fail)
          go_cut [24] (fun ev wx => ev = .int .i64 T ∧ Sor wx g c r n ks (rot f rr m T) ∧ w.grownBy wx (some g))
          case first => as_aux_lemma =>
            cases B with
            | true =>
              obtain ⟨c1, c2⟩ := hB.out.1 rfl
              go_wp2_with fail
              refine (rotate_any hs c1 c2 (by have := HT.out; have q := HF.out.hi; rw [HD.out] at q; omega) _).mono ?_
              rintro e w1 ⟨rfl, hs1, hg1⟩
              go_wp2_with fail
              go_meet
              exact ⟨rfl, hs1, grown_trans hg hg1⟩
            | false =>
              have hq : rr = m ∨ T = m := by have := (not_congr hB.out).1 (by simp); have := HT.out; omega
              go_wp2_with fail
              go_meet
              refine ⟨rfl, ?_, hg⟩
              rcases hq with q | q
              · rw [q, rot_left]; exact hs
              · rw [q, rot_right]; exact hs
          case rest => as_aux_lemma =>
            obtain ⟨rfl, hs1, hg1⟩ := hcut
            clear hg hB hs hl hr
            have hlow : Runs (nth ks) (rot f rr m T) a rr D := by have q := half_low hruns.out HF.out; rw [HD.out] at q; rw [HT.out]; exact q
            have hhigh : Runs (nth ks) (rot f rr m T) D T b := by have q := half_high hruns.out HF.out; rw [HD.out] at q; rw [HT.out]; exact q
            have hhalf : ∀ i j, a ≤ i → i < D → D ≤ j → j < b → Bef (nth ks) (rot f rr m T i) (rot f rr m T j) := fun i j q1 q2 q3 q4 => by
              have q := halves hruns.out HF.out (i := i) (j := j) q1 (by rw [HD.out]; exact q2) (by rw [HD.out]; exact q3) q4
              rw [HD.out] at q; rw [HT.out]; exact q
            have hmv : Mv a b f (rot f rr m T) := by
              have q := HF.out
              have q1 := q.lo; have q2 := q.lm; have q3 := q.mid; have q4 := q.hi
              rw [HD.out] at q3 q4
              have := HT.out
              exact (Mv.rot f rr m T (by omega) (by omega)).mono (by omega) (by omega)
            have hrn := hlow.am
            have hrn2 := hlow.mb
            have hTn := hhigh.am
            have hTn2 := hhigh.mb
            have HLOW := Lib.hid hlow; have HHIGH := Lib.hid hhigh; have HHALF := Lib.hid hhalf; have HMV := Lib.hid hmv
            clear hlow hhigh hhalf hmv
            go_upto_region 41 with (fail)
            go_cut [24, 199] (fun ev bv wx => ev = .int .i64 T ∧ (∃ B : Bool, bv = .bool B ∧ Hid (B = true ↔ a < rr ∧ rr < D)) ∧ wc = wx)
            case first => as_aux_lemma =>
              by_cases c1 : a < rr
              · by_cases c2 : rr < D
                · go_wp2_with fail
                  go_meet
                  exact ⟨rfl, ⟨true, rfl, by show _ ↔ _; simp [c1, c2]⟩, rfl⟩
                · go_wp2_with fail
                  go_meet
                  exact ⟨rfl, ⟨false, rfl, by show _ ↔ _; simp; omega⟩, rfl⟩
              · go_wp2_with fail
                go_meet
                exact ⟨rfl, ⟨false, rfl, by show _ ↔ _; simp; omega⟩, rfl⟩
            case rest => as_aux_lemma =>
              obtain ⟨rfl, ⟨B, rfl, hB⟩, rfl⟩ := hcut
              go_upto_if 199 with (fail)
              go_cut [24] (fun ev wx => ev = .int .i64 T ∧ (∃ f1, Sor wx g c r n ks f1 ∧ Hid (Mv a D (rot f rr m T) f1 ∧ Srt (nth ks) f1 a D)) ∧ w.grownBy wx (some g))
              case first => as_aux_lemma =>
                cases B with
                | true =>
                  obtain ⟨c1, c2⟩ := hB.out.1 rfl
                  go_wp2_with fail
                  refine (ih.out a rr D (by omega) c1 c2 (by omega) _ _ hs1 HLOW.out).mono ?_
                  rintro e w1 ⟨rfl, ⟨f1, hs2, hm2, ho2⟩, hg2⟩
                  go_wp2_with fail
                  go_meet
                  exact ⟨rfl, ⟨f1, hs2, hm2, ho2⟩, grown_trans hg1 hg2⟩
                | false =>
                  have hq : a = rr ∨ rr = D := by have := (not_congr hB.out).1 (by simp); omega
                  go_wp2_with fail
                  go_meet
                  exact ⟨rfl, ⟨_, hs1, Mv.refl _ _ _, HLOW.out.sorted hq⟩, hg1⟩
              case rest => as_aux_lemma =>
                obtain ⟨rfl, ⟨f1, hs2, hm2⟩, hg2⟩ := hcut
                clear hs1 hg1 hB
                have hh2 : Runs (nth ks) f1 D T b := by
                  have e : ∀ k, D ≤ k → f1 k = rot f rr m T k := fun k hk => hm2.out.1.out k (.inr hk)
                  have q := HHIGH.out
                  refine ⟨q.am, q.mb, fun i j q1 q2 q3 => ?_, fun i j q1 q2 q3 => ?_, fun i j q1 q2 q3 q4 => ?_⟩
                  · rw [e i (by omega), e j (by omega)]; exact q.left i j q1 q2 q3
                  · rw [e i (by omega), e j (by omega)]; exact q.right i j q1 q2 q3
                  · rw [e i (by omega), e j (by omega)]; exact q.cross i j q1 q2 q3 q4
                have HH2 := Lib.hid hh2; clear hh2
                go_upto_region 43 with (fail)
                go_cut [24, 213] (fun ev bv wx => ev = .int .i64 T ∧ (∃ B : Bool, bv = .bool B ∧ Hid (B = true ↔ D < T ∧ T < b)) ∧ wc = wx)
                case first => as_aux_lemma =>
                  by_cases c1 : D < T
                  · by_cases c2 : T < b
                    · go_wp2_with fail
                      go_meet
                      exact ⟨rfl, ⟨true, rfl, by show _ ↔ _; simp [c1, c2]⟩, rfl⟩
                    · go_wp2_with fail
                      go_meet
                      exact ⟨rfl, ⟨false, rfl, by show _ ↔ _; simp; omega⟩, rfl⟩
                  · go_wp2_with fail
                    go_meet
                    exact ⟨rfl, ⟨false, rfl, by show _ ↔ _; simp; omega⟩, rfl⟩
                case rest => as_aux_lemma =>
                  obtain ⟨rfl, ⟨B, rfl, hB⟩, rfl⟩ := hcut
                  cases B with
                  | true =>
                    obtain ⟨c1, c2⟩ := hB.out.1 rfl
                    go_wp2_with fail
                    refine (ih.out D T b (by omega) c1 c2 hb _ _ hs2 HH2.out).mono ?_
                    rintro e w1 ⟨rfl, ⟨f2, hs3, hm3, ho3⟩, hg3⟩
                    go_wp2_with fail
                    refine bodyPost_end (results_none rfl _ _ _) rfl ?_
                    refine ⟨rfl, ⟨f2, hs3, ?_, join_halves HHALF.out hm2.out.1 hm2.out.2 hm3 ho3⟩, grown_trans hg2 hg3⟩
                    exact (HMV.out.trans (hm2.out.1.mono (Nat.le_refl _) (by omega))).trans (hm3.mono (by omega) (Nat.le_refl _))
                  | false =>
                    have hq : D = T ∨ T = b := by have := (not_congr hB.out).1 (by simp); omega
                    go_wp2_with fail
                    refine bodyPost_end (results_none rfl _ _ _) rfl ?_
                    refine ⟨rfl, ⟨f1, hs2, ?_, join_halves HHALF.out hm2.out.1 hm2.out.2 (Mv.refl _ _ _) (HH2.out.sorted hq)⟩, hg2⟩
                    exact HMV.out.trans (hm2.out.1.mono (Nat.le_refl _) (by omega))

theorem symMerge_any (g c r n : Nat) (ks : List Int) : ∀ (d a m b : Nat), b - a ≤ d → a < m → m < b → b ≤ n → Merges g c r n ks a m b
  | 0, a, m, b, h0, h1, h2, h3 => by omega
  | d + 1, a, m, b, h0, h1, h2, h3 => by
    intro w f hs hr
    by_cases c1 : m = a + 1
    · subst c1
      exact symMerge_left hs h3 hr _ (by omega) h2
    · by_cases c2 : b = m + 1
      · subst c2
        exact symMerge_right hs h3 hr _ (by omega) (by omega)
      · exact symMerge_gen hs h3 hr (by omega) (by omega) (fun a' m' b' q0 q1 q2 q3 => symMerge_any g c r n ks d a' m' b' (by omega) q1 q2 q3)
end Go.Proofs.Ytblaplnpehnjfab
namespace Go.Proofs.Ytblaplnpehnjfab
open Go.RowKit

set_option maxRecDepth 100000 in
set_option maxHeartbeats 3200000 in
theorem stable_any {w : World} {g c r n : Nat} {ks : List Int} (h : Sor w g c r n ks (fun k => k)) (h0 : 0 < n) :
    Calls Try.prog 87 #[.slice (some ⟨g, 0, none⟩) n n, .int .i64 (n : Int), .func (.func 71) #[] #[.pointer (some ⟨c, 0, none⟩)]] w fun e w' => e = .returned (.tuple #[]) ∧ (∃ f', Sor w' g c r n ks f' ∧ Ord (nth ks) n f') ∧ w.grownBy w' (some g) := by
  have hn := h.hn
  go_enter Try.func87, Try.ntmps87
  go_wp2
  go_loopw [7, 8] (fun av bv wr => ∃ (x : Nat) (f : Nat → Nat), x ≤ n ∧ av = .int .i64 x ∧ bv = .int .i64 ((x : Int) + 20) ∧ Sor wr g c r n ks f ∧ Hid (Mv 0 x (fun k => k) f ∧ Blks (nth ks) f n 20 0 x ∧ 20 ∣ x) ∧ w.grownBy wr (some g)) (fun av _ _ => n - (intOf av).toNat)
  case atStart => exact ⟨0, fun k => k, by omega, rfl, rfl, h, ⟨Mv.refl _ _ _, fun x _ hx => by omega, Nat.dvd_zero _⟩, grown_refl _ _⟩
  case round =>
    obtain ⟨x, f, hx, rfl, rfl, hs, hh, hg⟩ := hrel
    have hown : ∀ k, x ≤ k → f k = k := fun k hk => hh.out.1.out k (.inr hk)
    have HO := Lib.hid hown; clear hown
    by_cases hlt : x + 20 ≤ n
    · have hlti : (x : Int) + 20 ≤ (n : Int) := by omega
      have hx20 : ((x + 20 : Nat) : Int) = (x : Int) + 20 := by omega
      go_wp2_with fail
      rw [← hx20]
      refine (insert_any hs (a := x) (b := x + 20) HO.out (by omega) hlt).mono ?_
      rintro e w1 ⟨rfl, ⟨f1, hs1, hm1, hb1⟩, hg1⟩
      go_wp2_with fail
      refine ⟨⟨x + 20, f1, by omega, by first | rfl | go_num, by first | rfl | go_num, hs1, ⟨?_, ?_, Nat.dvd_add hh.out.2.2 (Nat.dvd_refl _)⟩, grown_trans hg hg1⟩, by simp [intOf]; omega⟩
      · exact (hh.out.1.mono (Nat.le_refl _) (by omega)).trans (hm1.mono (by omega) (Nat.le_refl _))
      · exact hh.out.2.1.more hh.out.2.2 hm1 (by rw [show min (x + 20) n = x + 20 by omega]; exact hb1)
    · have hlti : ¬ (x : Int) + 20 ≤ (n : Int) := by omega
      go_wp2_with fail
      refine (insert_any hs (a := x) (b := n) HO.out hx (Nat.le_refl _)).mono ?_
      rintro e w1 ⟨rfl, ⟨f1, hs1, hm1, hb1⟩, hg1⟩
      have hmv : Mv 0 n (fun k => k) f1 := (hh.out.1.mono (Nat.le_refl _) hx).trans (hm1.mono (by omega) (Nat.le_refl _))
      have hbl : Blks (nth ks) f1 n 20 0 n := by
        have q := hh.out.2.1.more hh.out.2.2 hm1 (by rw [show min (x + 20) n = n by omega]; exact hb1)
        intro y q1 q2 q3
        exact q y q1 (by omega) q3
      have HM := Lib.hid (And.intro hmv hbl)
      have hg2 := grown_trans hg hg1
      clear hmv hbl hs hh hg hg1 hm1 hb1 HO
      go_wp2_with fail
      go_loopw [6] (fun sv wr2 => ∃ (size : Nat) (f : Nat → Nat), 20 ≤ size ∧ size ≤ 2000 ∧ sv = .int .i64 size ∧ Sor wr2 g c r n ks f ∧ Hid (Mv 0 n (fun k => k) f ∧ Blks (nth ks) f n size 0 n) ∧ w.grownBy wr2 (some g)) (fun sv _ => n - (intOf sv).toNat)
      case atStart => exact ⟨20, f1, Nat.le_refl _, by omega, rfl, hs1, HM.out, hg2⟩
      case round =>
        obtain ⟨size, f2, hz0, hz1, rfl, hs2, hh2, hg3⟩ := hrel
        clear hs1 HM hg2 hlti
        by_cases hsn : size < n
        · go_wp2_with fail
          go_loopw [7, 8] (fun av bv wt => ∃ (y : Nat) (f : Nat → Nat), y ≤ n ∧ av = .int .i64 y ∧ bv = .int .i64 ((y : Int) + 2 * (size : Int)) ∧ Sor wt g c r n ks f ∧ Hid (Mv 0 n (fun k => k) f ∧ Pass (nth ks) f n size y) ∧ w.grownBy wt (some g)) (fun av _ _ => n - (intOf av).toNat)
          case atStart => exact ⟨0, f2, by omega, rfl, by first | rfl | go_num, hs2, ⟨hh2.out.1, Pass.start hh2.out.2 (by omega)⟩, hg3⟩
          case round =>
            obtain ⟨y, f3, hy, rfl, rfl, hs3, hh3, hg4⟩ := hrel
            by_cases hyl : y + 2 * size ≤ n
            · have hyi : (y : Int) + 2 * (size : Int) ≤ (n : Int) := by omega
              have hym : ((y + size : Nat) : Int) = (y : Int) + (size : Int) := by omega
              have hyb : ((y + 2 * size : Nat) : Int) = (y : Int) + 2 * (size : Int) := by omega
              have hruns := hh3.out.2.runs (b := y + 2 * size) (by omega) (by omega)
              have HR := Lib.hid hruns; clear hruns
              go_wp2_with fail
              rw [← hym, ← hyb]
              refine (symMerge_any g c r n ks n y (y + size) (y + 2 * size) (by omega) (by omega) (by omega) hyl _ _ hs3 HR.out).mono ?_
              rintro e w2 ⟨rfl, ⟨f4, hs4, hm4, ho4⟩, hg5⟩
              go_wp2_with fail
              refine ⟨⟨y + 2 * size, f4, hyl, by first | rfl | go_num, by first | rfl | go_num, hs4, ⟨?_, ?_⟩, grown_trans hg4 hg5⟩, by simp [intOf]; omega⟩
              · exact hh3.out.1.trans (hm4.mono (by omega) hyl)
              · exact hh3.out.2.next hyl hm4 ho4
            · have hyi : ¬ (y : Int) + 2 * (size : Int) ≤ (n : Int) := by omega
              by_cases hml : y + size < n
              · have hmi : (y : Int) + (size : Int) < (n : Int) := by omega
                have hym : ((y + size : Nat) : Int) = (y : Int) + (size : Int) := by omega
                have hruns := hh3.out.2.runs (b := n) (by omega) hml
                have HR := Lib.hid hruns; clear hruns
                go_wp2_with fail
                rw [← hym]
                refine (symMerge_any g c r n ks n y (y + size) n (by omega) (by omega) hml (Nat.le_refl _) _ _ hs3 HR.out).mono ?_
                rintro e w2 ⟨rfl, ⟨f4, hs4, hm4, ho4⟩, hg5⟩
                go_wp2_with fail
                refine ⟨⟨2 * size, f4, by omega, by omega, by go_num, hs4, ⟨?_, ?_⟩, grown_trans hg4 hg5⟩, by simp [intOf]; omega⟩
                · exact hh3.out.1.trans (hm4.mono (by omega) (Nat.le_refl _))
                · exact hh3.out.2.last (by omega) hml hm4 ho4
              · have hmi : ¬ (y : Int) + (size : Int) < (n : Int) := by omega
                go_wp2_with fail
                refine ⟨⟨2 * size, f3, by omega, by omega, by go_num, hs3, ⟨hh3.out.1, hh3.out.2.done (by omega) (by omega)⟩, hg4⟩, by simp [intOf]; omega⟩
        · go_wp2_with fail
          refine bodyPost_end (results_none rfl _ _ _) rfl ?_
          exact ⟨rfl, ⟨f2, hs2, hh2.out.1, hh2.out.2.all h0 (by omega)⟩, hg3⟩
end Go.Proofs.Ytblaplnpehnjfab
namespace Go.Proofs.Ytblaplnpehnjfab
open Go.RowKit

theorem info_int : (Try.prog.info? 3).map (fun i => (i.zero, i.size, i.bytes)) = some (some (.int .i64 0), 1, 8) := by kernel_rfl
theorem made_row (n : Nat) : madeCells #[Value.int .i64 0] n = fRow n (fun _ => 0) := by
  apply Array.ext
  · simp [madeCells, fRow]
  · intro i h1 h2
    simp [madeCells, fRow, Nat.mod_one]

theorem sortStable_any {w : World} {g c r n : Nat} {ks : List Int} (h : Sor w g c r n ks (fun k => k)) (h0 : 0 < n) :
    Calls Try.prog 70 #[.slice (some ⟨g, 0, none⟩) n n, .func (.func 71) #[] #[.pointer (some ⟨c, 0, none⟩)]] w fun e w' => e = .returned (.tuple #[]) ∧ (∃ f', Sor w' g c r n ks f' ∧ Ord (nth ks) n f') ∧ w.grownBy w' (some g) := by
  have hn := h.hn
  go_enter Try.func70, Try.ntmps70
  go_wp2_with fail
  refine (stable_any h h0).mono ?_
  rintro e w1 ⟨rfl, h1, hg1⟩
  go_wp2_with fail
  refine bodyPost_end (results_none rfl _ _ _) rfl ?_
  exact ⟨rfl, h1, hg1⟩

theorem fRow_congr {n : Nat} {f f' : Nat → Nat} (h : ∀ k, k < n → f k = f' k) : fRow n f = fRow n f' := by
  unfold fRow
  congr 1
  exact List.map_congr_left fun k hk => by rw [h k (List.mem_range.1 hk)]
theorem Sor.congr {w : World} {g c r n : Nat} {ks : List Int} {f f' : Nat → Nat} (h : Sor w g c r n ks f) (e : ∀ k, k < n → f k = f' k) : Sor w g c r n ks f' :=
  ⟨by rw [← fRow_congr e]; exact h.hG, h.hC, h.hR, h.hl, h.hn, h.gc, h.gr, fun k hk => by rw [← e k hk]; exact h.lt k hk⟩
theorem grow_at {w0 w : World} {g : Nat} (h : w0.grownBy w none) (hb : w0.heap.size ≤ g) (k : Nat) (v : Value) : w0.grownBy (w.setCell ⟨g, k, none⟩ v) none :=
  ⟨h.os, h.tape, h.output, by have := h.size; simpa [World.setCell] using this, fun i hi _ => by rw [Below.heap_setCell _ _ _ _ (by show i ≠ g; omega)]; exact h.block i hi (by simp)⟩
theorem grown_at {w0 w w' : World} {g : Nat} (h : w0.grownBy w none) (h' : w.grownBy w' (some g)) (hb : w0.heap.size ≤ g) : w0.grownBy w' none :=
  ⟨h'.os.trans h.os, h'.tape.trans h.tape, h'.output.trans h.output, Nat.le_trans h.size h'.size, fun i hi _ => (h'.block i (Nat.lt_of_lt_of_le hi h.size) (fun e => by have := Option.some.inj e; omega)).trans (h.block i hi (by simp))⟩

/-- Up to j the numbers are laid. -/
def laidUp (j k : Nat) : Nat := if k < j then k else 0
theorem laid_upd (j : Nat) : upd (laidUp j) j j = laidUp (j + 1) := by
  funext k; unfold upd laidUp
  repeat' split
  all_goals omega

set_option maxHeartbeats 800000 in
theorem greatest_any {w : World} {r n : Nat} {ks : List Int} (hR : w.heap[r]? = some (.cells (ks.map (Value.int .i64)).toArray 3 (0, 0))) (hl : ks.length = n) (h0 : 0 < n) (hn : n ≤ 1000) :
    Calls Try.prog 45 #[.slice (some ⟨r, 0, none⟩) n n] w fun e w' => (∃ g f, e = .returned (.slice (some ⟨g, 0, none⟩) n n) ∧ w.heap.size ≤ g ∧ w'.heap[g]? = some (.cells (fRow n f) 3 (0, 0)) ∧ Ord (nth ks) n f) ∧ w.grownBy w' none := by
  have hmk := run_make_row' (P := Try.prog) 50 3 (.int .i64 0) 8 Try.underlying50 info_int rfl .i64 .i64 n (by omega) (by omega)
  have hmf : ∀ (fn : Fn) (first cap : Array Value) (w : World), (Instr.makeFunc fn first cap).run Try.prog w = .ok (.func fn first cap) w := fun _ _ _ _ => rfl
  have hrs := lt_of_block hR
  have HR := Lib.hid hR; have HL := Lib.hid hl; clear hR hl
  go_enter Try.func45, Try.ntmps45
  go_wp2_with fail
  have hS0 : Sor ((w.alloc (.cells #[.slice (some ⟨r, 0, none⟩) n n] 50)).alloc (.cells (madeCells #[.int .i64 0] n) 3)) (w.heap.size + 1) w.heap.size r n ks (laidUp 0) := by
    refine ⟨?_, ?_, ?_, HL.out, hn, by omega, by omega, fun k hk => by unfold laidUp; split <;> omega⟩
    · have q := heap_alloc_new (w.alloc (.cells #[.slice (some ⟨r, 0, none⟩) n n] 50)) (.cells (madeCells #[.int .i64 0] n) 3)
      rw [made_row, show (fun _ : Nat => 0) = laidUp 0 by funext k; simp [laidUp]] at q
      simpa [made_row, show (fun _ : Nat => 0) = laidUp 0 by funext k; simp [laidUp]] using q
    · rw [Below.heap_alloc _ _ _ (by simp)]; exact heap_alloc_new w _
    · rw [Below.heap_alloc _ _ _ (by simp; omega), Below.heap_alloc _ _ _ hrs]; exact HR.out
  have hg0 : w.grownBy ((w.alloc (.cells #[.slice (some ⟨r, 0, none⟩) n n] 50)).alloc (.cells (madeCells #[.int .i64 0] n) 3)) none := grown_trans (World.grownBy_alloc _ _ _) (World.grownBy_alloc _ _ _)
  have HS0 := Lib.hid hS0; clear hS0 hmk
  go_loopw [10] (fun iv wr => ∃ j : Nat, j ≤ n ∧ iv = .int .i64 j ∧ Sor wr (w.heap.size + 1) w.heap.size r n ks (laidUp j) ∧ w.grownBy wr none) (fun iv _ => n - (intOf iv).toNat)
  case atStart => exact ⟨0, Nat.zero_le _, rfl, HS0.out, hg0⟩
  case round =>
    obtain ⟨j, hj, rfl, hs, hg⟩ := hrel
    by_cases hlt : j < n
    · have cx := hs.cell hlt
      have fx := hs.free j
      have hst := hs.set (k := j) (v := j) hlt
      rw [laid_upd] at hst
      go_wp2_with fail
      exact ⟨⟨j + 1, by omega, by go_num, hst, grow_at hg (by omega) _ _⟩, by simp [intOf]; omega⟩
    · have hjn : j = n := by omega
      subst hjn
      have hid : Sor wr (w.heap.size + 1) w.heap.size r j ks (fun k => k) := hs.congr (fun k hk => by simp [laidUp, hk])
      go_wp2_with fail
      refine (sortStable_any hid h0).mono ?_
      rintro e w1 ⟨rfl, ⟨f', hs1, ho⟩, hg1⟩
      go_wp2_with fail
      go_ret
      exact ⟨⟨_, f', rfl, by omega, hs1.hG, ho⟩, grown_at hg hg1 (by omega)⟩
end Go.Proofs.Ytblaplnpehnjfab
namespace Go.Proofs.Ytblaplnpehnjfab
open Go.RowKit

/-- Numbers that came in. -/
structure IntsAt (w : World) (ao : Option Addr) (ws : List Int) : Prop where
  nil : ao = none → ws = []
  spot : ∀ a, ao = some a → ws ≠ [] → a.spot = none
  cells : ∀ a, ao = some a → ∀ i, i < ws.length → w.cell? ⟨a.block, a.off + i, none⟩ = some (.int .i64 (nth ws i))
theorem IntsAt.grown {w w' : World} {ao : Option Addr} {ws : List Int} (h : IntsAt w ao ws) (g : w.grownBy w' none) : IntsAt w' ao ws :=
  ⟨h.nil, h.spot, fun a ha i hi => g.cell (h.cells a ha i hi) (by simp)⟩
theorem IntsAt.some {w : World} {ao : Option Addr} {ws : List Int} (h : IntsAt w ao ws) (hne : 0 < ws.length) : ∃ b off, ao = .some ⟨b, off, none⟩ ∧ ∀ i, i < ws.length → w.cell? ⟨b, off + i, none⟩ = .some (.int .i64 (nth ws i)) := by
  have hn : ws ≠ [] := by intro e; rw [e] at hne; simp at hne
  rcases ao with _ | ⟨b, off, s⟩
  · exact absurd (h.nil rfl) hn
  · have := h.spot _ rfl hn
    simp only at this
    subst this
    exact ⟨b, off, rfl, h.cells _ rfl⟩

def goodB (ws : List Int) : Bool := ws.all fun x => decide (0 ≤ x) && decide (x ≤ 1000000)
theorem goodB_true {ws : List Int} (h : goodB ws = true) (i : Nat) (hi : i < ws.length) : 0 ≤ nth ws i ∧ nth ws i ≤ 1000000 := by
  unfold goodB at h
  rw [List.all_eq_true] at h
  have := h ws[i] (List.getElem_mem hi)
  rw [nth_get hi]
  simpa using this
theorem goodB_false {ws : List Int} {i : Nat} (hi : i < ws.length) (h : nth ws i < 0 ∨ 1000000 < nth ws i) : goodB ws = false := by
  rcases hb : goodB ws with _ | _
  · rfl
  · have := goodB_true hb i hi; omega
theorem goodB_all {ws : List Int} (h : ∀ i, i < ws.length → 0 ≤ nth ws i ∧ nth ws i ≤ 1000000) : goodB ws = true := by
  unfold goodB
  rw [List.all_eq_true]
  intro x hx
  obtain ⟨i, hi, rfl⟩ := List.getElem_of_mem hx
  have := h i hi
  rw [nth_get hi] at this
  simpa using this

def shareE (t : Int) (ws : List Int) : Int :=
  if t < 0 ∨ 1000000000000 < t then 9 else if 1000 < ws.length then 3 else if goodB ws = false then 9 else if ws.sum = 0 then 13 else 0

def iRow (n : Nat) (F : Nat → Int) : Array Value := ((List.range n).map fun k => Value.int .i64 (F k)).toArray
def updI (F : Nat → Int) (i : Nat) (v : Int) : Nat → Int := fun k => if k = i then v else F k
theorem iRow_get (n : Nat) (F : Nat → Int) (k : Nat) (h : k < n) : (iRow n F)[k]? = some (.int .i64 (F k)) := by simp [iRow, h]
theorem iRow_set (n : Nat) (F : Nat → Int) (k : Nat) (v : Int) : (iRow n F).setIfInBounds k (.int .i64 v) = iRow n (updI F k v) := by
  unfold iRow
  rw [List.setIfInBounds_toArray]
  congr 1
  apply List.ext_getElem
  · simp
  · intro i h1 h2
    rw [List.getElem_set]
    simp only [List.getElem_map, List.getElem_range, updI]
    by_cases e : k = i
    · rw [if_pos e, if_pos e.symm]
    · rw [if_neg e, if_neg (fun q => e q.symm)]
theorem iRow_congr {n : Nat} {F G : Nat → Int} (h : ∀ k, k < n → F k = G k) : iRow n F = iRow n G := by
  unfold iRow
  congr 1
  exact List.map_congr_left fun k hk => by rw [h k (List.mem_range.1 hk)]
theorem iRow_list (l : List Int) : iRow l.length (nth l) = (l.map (Value.int .i64)).toArray := by
  unfold iRow
  congr 1
  apply List.ext_getElem
  · simp
  · intro i h1 h2
    simp only [List.length_map, List.length_range] at h1
    simp [nth, h1]
theorem iRow_zero (n : Nat) : madeCells #[Value.int .i64 0] n = iRow n (fun _ => 0) := by
  apply Array.ext
  · simp [madeCells, iRow]
  · intro i h1 h2
    simp [madeCells, iRow, Nat.mod_one]

/-- A row of numbers in block g. -/
def RowAt (w : World) (g n : Nat) (F : Nat → Int) : Prop := w.heap[g]? = some (.cells (iRow n F) 3 (0, 0))
section
variable {w : World} {g n : Nat} {F : Nat → Int}
theorem RowAt.cell (h : RowAt w g n F) {k : Nat} (hk : k < n) : w.cell? ⟨g, k, none⟩ = some (.int .i64 (F k)) := by
  have h' : w.heap[g]? = _ := h
  simp [World.cell?, h', iRow_get n F k hk]
theorem RowAt.free (h : RowAt w g n F) (k : Nat) : w.frozen? ⟨g, k, none⟩ = false := by
  have h' : w.heap[g]? = _ := h
  simp [World.frozen?, h']
theorem RowAt.set (h : RowAt w g n F) (k : Nat) (v : Int) : RowAt (w.setCell ⟨g, k, none⟩ (.int .i64 v)) g n (updI F k v) := by
  have h' : w.heap[g]? = _ := h
  show (w.setCell ⟨g, k, none⟩ (.int .i64 v)).heap[g]? = _
  simp [World.setCell, Array.getElem?_modify, h', iRow_set]
theorem RowAt.far (h : RowAt w g n F) {g' : Nat} (ne : g ≠ g') (k : Nat) (v : Value) : RowAt (w.setCell ⟨g', k, none⟩ v) g n F := by
  show (w.setCell ⟨g', k, none⟩ v).heap[g]? = _
  rw [Below.heap_setCell _ _ _ _ ne]; exact h
theorem RowAt.same (h : RowAt w g n F) {w' : World} (e : w'.heap = w.heap) : RowAt w' g n F := by
  show w'.heap[g]? = _
  rw [e]; exact h
theorem RowAt.congr (h : RowAt w g n F) {G : Nat → Int} (e : ∀ k, k < n → F k = G k) : RowAt w g n G := by
  show w.heap[g]? = _
  rw [← iRow_congr e]; exact h
theorem RowAt.grown (h : RowAt w g n F) {w' : World} (hg : w.grownBy w' none) : RowAt w' g n F := by
  have h' : w.heap[g]? = _ := h
  show w'.heap[g]? = _
  rw [hg.block g (lt_of_block h') (by simp)]; exact h
end

/-- Up to j the numbers of a list. -/
def uptoI (l : List Int) (j k : Nat) : Int := if k < j then nth l k else 0
theorem uptoI_upd (l : List Int) (j : Nat) : updI (uptoI l j) j (nth l j) = uptoI l (j + 1) := by
  funext k; unfold updI uptoI
  by_cases h : k = j
  · subst h; simp
  · rw [if_neg h]
    by_cases h2 : k < j
    · rw [if_pos h2, if_pos (by omega)]
    · rw [if_neg h2, if_neg (by omega)]
theorem nth_updI {l : List Int} {k : Nat} (h : k < l.length) (v : Int) : updI (nth l) k v = nth (l.set k v) := by
  funext i
  rw [nth_set h]
  unfold updI
  by_cases e : i = k
  · rw [if_pos e, if_pos e.symm]
  · rw [if_neg e, if_neg (fun q => e q.symm)]

/-- What Share gives. -/
def ShareOut (w w' : World) (t : Int) (ws : List Int) (e : Ending) : Prop :=
  (shareE t ws ≠ 0 ∧ e = .returned (.tuple #[.slice none 0 0, .int .i64 (shareE t ws)])) ∨
  (shareE t ws = 0 ∧ ∃ g f, e = .returned (.tuple #[.slice (some ⟨g, 0, none⟩) ws.length ws.length, .int .i64 0]) ∧ w.heap.size ≤ g ∧ Ord (keyOf t ws.sum ws) ws.length f ∧ RowAt w' g ws.length (nth (bumped (partsL t ws.sum ws) f (leftAt t ws.sum ws ws.length).toNat)))

/-- What Shares gives. -/
def SharesOut (w w' : World) (t : Int) (ws : List Int) (e : Ending) : Prop :=
  ∃ g f, e = .returned (.slice (some ⟨g, 0, none⟩) ws.length ws.length) ∧ w.heap.size ≤ g ∧ Ord (keyOf t ws.sum ws) ws.length f ∧ RowAt w' g ws.length (nth (bumped (partsL t ws.sum ws) f (leftAt t ws.sum ws ws.length).toNat))

set_option maxRecDepth 100000 in
set_option maxHeartbeats 3200000 in
theorem shares_is (t : Int) (ao : Option Addr) (cap : Nat) (ws : List Int) (c1 : ¬ t < 0) (c2 : ¬ 1000000000000 < t) (hn : ws.length ≤ 1000) (hok0 : ∀ i, i < ws.length → 0 ≤ nth ws i ∧ nth ws i ≤ 1000000) (hnz : ws.sum ≠ 0) (w : World) (hw : IntsAt w ao ws) :
    Calls Try.prog 28 #[.int .i64 t, .slice ao ws.length cap] w fun e w' => SharesOut w w' t ws e ∧ w.grownBy w' none := by
  have HW := Lib.hid hw; clear hw
  have hok := Lib.hid hok0; clear hok0
  go_enter Try.func28, Try.ntmps28
  go_wp2_with fail
  go_loopw [5, 17] (fun sv iv wr => ∃ j : Nat, j ≤ ws.length ∧ iv = .int .i64 j ∧ sv = .int .i64 (ws.take j).sum ∧ w = wr) (fun _ iv _ => ws.length - (intOf iv).toNat)
  case atStart => exact ⟨0, Nat.zero_le _, rfl, by simp, rfl⟩
  case round =>
    obtain ⟨j, hj, rfl, rfl, rfl⟩ := hrel
    by_cases hlt : j < ws.length
    · obtain ⟨b, off, rfl, hcells⟩ := HW.out.some (by omega)
      have hc := hcells j hlt
      have hsb := sum_take_bd (ws.take j) j 1000000 (by omega) (fun i hi => by rw [List.length_take] at hi; rw [nth_take (by omega)]; exact hok.out i (by omega))
      rw [List.take_take, Nat.min_self] at hsb
      have hss := sum_take_succ ws j hlt
      have hx1 := hok.out j hlt
      obtain ⟨S, hS⟩ : ∃ S, (ws.take j).sum = S := ⟨_, rfl⟩
      obtain ⟨x, hx⟩ : ∃ x, nth ws j = x := ⟨_, rfl⟩
      rw [hx] at hc hss hx1
      rw [hS] at hsb hss
      rw [hS]
      have hjn : (j : Int) ≤ 1000 := by omega
      have HSS := Lib.hid hss; clear hx hss hcells hS
      go_wp2_with fail
      exact ⟨⟨j + 1, by omega, by go_num, by rw [HSS.out], by first | rfl | trivial⟩, by simp [intOf]; omega⟩
    · have hjn : j = ws.length := by omega
      subst hjn
      rw [List.take_length]
      have hsum := sum_bd ws 1000000 hok.out
      obtain ⟨s, hs⟩ : ∃ s, ws.sum = s := ⟨_, rfl⟩
      rw [hs] at hsum hnz
      rw [hs]
      have HS := Lib.hid hs; clear hs
      have hz := hnz
      have hn0 : 0 < ws.length := by
        rcases Nat.eq_zero_or_pos ws.length with q | q
        · exfalso; rw [q] at hsum; omega
        · exact q
      have hs0 : 0 < s := by omega
      obtain ⟨n, hnn⟩ : ∃ n, ws.length = n := ⟨_, rfl⟩
      obtain ⟨b, off, rfl, hcells⟩ := HW.out.some hn0
      have hmk := run_make_row' (P := Try.prog) 50 3 (.int .i64 0) 8 Try.underlying50 info_int rfl .i64 .i64 ws.length (by omega) (by omega)
      have hz1 : (s == 0) = false := by simpa using hz
      have HC := Lib.hid hcells; have HN := Lib.hid hnn; clear hcells hnn
      go_wp2_with fail
      have hP0 : RowAt ((w.alloc (.cells (madeCells #[.int .i64 0] ws.length) 3)).alloc (.cells (madeCells #[.int .i64 0] ws.length) 3)) w.heap.size ws.length (uptoI (partsL t s ws) 0) := by
        have q : RowAt (w.alloc (.cells (madeCells #[.int .i64 0] ws.length) 3)) w.heap.size ws.length (fun _ => 0) := by
          show (w.alloc _).heap[w.heap.size]? = _
          rw [iRow_zero]; exact heap_alloc_new w _
        exact (q.grown (World.grownBy_alloc _ _ _)).congr (fun k _ => by simp [uptoI])
      have hR0 : RowAt ((w.alloc (.cells (madeCells #[.int .i64 0] ws.length) 3)).alloc (.cells (madeCells #[.int .i64 0] ws.length) 3)) (w.heap.size + 1) ws.length (uptoI (restsL t s ws) 0) := by
        have q : RowAt ((w.alloc (.cells (madeCells #[.int .i64 0] ws.length) 3)).alloc (.cells (madeCells #[.int .i64 0] ws.length) 3)) (w.heap.size + 1) ws.length (fun _ => 0) := by
          have e : (w.alloc (.cells (madeCells #[.int .i64 0] ws.length) 3)).heap.size = w.heap.size + 1 := by simp
          show (World.alloc _ _).heap[w.heap.size + 1]? = _
          rw [← e, iRow_zero]; exact heap_alloc_new _ _
        exact q.congr (fun k _ => by simp [uptoI])
      have hg0 : w.grownBy ((w.alloc (.cells (madeCells #[.int .i64 0] ws.length) 3)).alloc (.cells (madeCells #[.int .i64 0] ws.length) 3)) none := grown_trans (World.grownBy_alloc _ _ _) (World.grownBy_alloc _ _ _)
      have hxs : ∀ i, i < ws.length → nth ws i ≤ s := fun i hi => by
        have q0 : ∀ i, i < ws.length → 0 ≤ nth ws i := fun i hi => (hok.out i hi).1
        have q1 := sum_take_le ws q0 (i + 1)
        have q2 := (sum_take_bd ws i 1000000 (by omega) hok.out).1
        have q3 := sum_take_succ ws i hi
        have q4 := HS.out
        omega
      have hlb : ∀ j, 0 ≤ leftAt t s ws j ∧ leftAt t s ws j ≤ t := fun j => left_bd c1 hs0 (fun i hi => (hok.out i hi).1) HS.out j
      have HP0 := Lib.hid hP0; have HR0 := Lib.hid hR0; have HXS := Lib.hid hxs; have HLB := Lib.hid hlb; clear hP0 hR0 hxs hlb hmk
      go_loopw [10, 34] (fun lv iv wt => ∃ j : Nat, j ≤ ws.length ∧ iv = .int .i64 j ∧ lv = .int .i64 (leftAt t s ws j) ∧ RowAt wt w.heap.size ws.length (uptoI (partsL t s ws) j) ∧ RowAt wt (w.heap.size + 1) ws.length (uptoI (restsL t s ws) j) ∧ w.grownBy wt none) (fun _ iv _ => ws.length - (intOf iv).toNat)
      case atStart => exact ⟨0, Nat.zero_le _, rfl, by rw [left_zero], HP0.out, HR0.out, hg0⟩
      case round =>
        obtain ⟨j, hj, rfl, rfl, hP, hR, hg⟩ := hrel
        by_cases hlt2 : j < ws.length
        · have hc := hg.cell (HC.out j hlt2) (by simp)
          have hx0 := hok.out j hlt2
          have hx1 := HXS.out j hlt2
          have hl0 := HLB.out j
          have hl1 := HLB.out (j + 1)
          have hls := left_succ (t := t) (s := s) hlt2
          have hpb := part_bd c1 hs0 hx0.1 hx1
          have cP := hP.cell hlt2
          have cR := hR.cell hlt2
          have fP := hP.free j
          have fR := hR.free j
          have hP1 := hP.set j (nth (partsL t s ws) j)
          have hR1 := hR.set j (nth (restsL t s ws) j)
          rw [uptoI_upd] at hP1 hR1
          rw [nth_parts hlt2] at hP1
          rw [nth_rests hlt2] at hR1
          have hq0 : 0 ≤ t * nth ws j := Int.mul_nonneg c1 hx0.1
          have hq1 : t * nth ws j ≤ 1000000000000000000 := by
            have := Int.mul_le_mul c2 hx0.2 hx0.1 (by omega)
            omega
          have e1 : (t * nth ws j).tdiv s = partOf t s (nth ws j) := Int.tdiv_eq_ediv_of_nonneg hq0
          have e2 : (t * nth ws j).tmod s = restOf t s (nth ws j) := Int.tmod_eq_emod_of_nonneg hq0
          have hrb := rest_bd (t := t) hs0 (nth ws j)
          unfold keyOf at hR1
          obtain ⟨x, hx⟩ : ∃ x, nth ws j = x := ⟨_, rfl⟩
          obtain ⟨p, hp⟩ : ∃ p, partOf t s x = p := ⟨_, rfl⟩
          obtain ⟨q, hq⟩ : ∃ q, restOf t s x = q := ⟨_, rfl⟩
          rw [hx] at hc hx0 hx1 hls hpb hP1 hR1 hq0 hq1 e1 e2 hrb
          rw [hp] at hls hpb hP1 e1
          rw [hq] at hR1 e2 hrb
          obtain ⟨l0, hl00⟩ : ∃ l0, leftAt t s ws j = l0 := ⟨_, rfl⟩
          rw [hl00] at hl0 hls
          rw [hl00]
          have cR1 : (wr.setCell ⟨w.heap.size, j, none⟩ (.int .i64 p)).cell? ⟨w.heap.size + 1, j, none⟩ = some (.int .i64 (uptoI (restsL t s ws) j j)) := (hR.far (g' := w.heap.size) (by omega) j _).cell hlt2
          have cP1 : (wr.setCell ⟨w.heap.size + 1, j, none⟩ (.int .i64 q)).cell? ⟨w.heap.size, j, none⟩ = some (.int .i64 (uptoI (partsL t s ws) j j)) := (hP.far (g' := w.heap.size + 1) (by omega) j _).cell hlt2
          have a1 : RowAt ((wr.setCell ⟨w.heap.size, j, none⟩ (.int .i64 p)).setCell ⟨w.heap.size + 1, j, none⟩ (.int .i64 q)) w.heap.size ws.length (uptoI (partsL t s ws) (j + 1)) := hP1.far (by omega) j _
          have a2 : RowAt ((wr.setCell ⟨w.heap.size, j, none⟩ (.int .i64 p)).setCell ⟨w.heap.size + 1, j, none⟩ (.int .i64 q)) (w.heap.size + 1) ws.length (uptoI (restsL t s ws) (j + 1)) := by
            have z := (hR.far (g' := w.heap.size) (by omega) j (.int .i64 p)).set j q
            rwa [← hq, ← hx, ← (show nth (restsL t s ws) j = restOf t s (nth ws j) from nth_rests hlt2), uptoI_upd, show nth (restsL t s ws) j = restOf t s (nth ws j) from nth_rests hlt2, hx, hq] at z
          have b1 : RowAt ((wr.setCell ⟨w.heap.size + 1, j, none⟩ (.int .i64 q)).setCell ⟨w.heap.size, j, none⟩ (.int .i64 p)) w.heap.size ws.length (uptoI (partsL t s ws) (j + 1)) := by
            have z := (hP.far (g' := w.heap.size + 1) (by omega) j (.int .i64 q)).set j p
            rwa [← hp, ← hx, ← (show nth (partsL t s ws) j = partOf t s (nth ws j) from nth_parts hlt2), uptoI_upd, show nth (partsL t s ws) j = partOf t s (nth ws j) from nth_parts hlt2, hx, hp] at z
          have b2 : RowAt ((wr.setCell ⟨w.heap.size + 1, j, none⟩ (.int .i64 q)).setCell ⟨w.heap.size, j, none⟩ (.int .i64 p)) (w.heap.size + 1) ws.length (uptoI (restsL t s ws) (j + 1)) := hR1.far (by omega) j _
          have ep : uptoI (partsL t s ws) (j + 1) j = p := by unfold uptoI; rw [if_pos (by omega), nth_parts hlt2, hx, hp]
          have ca := a1.cell hlt2
          have cb := b1.cell hlt2
          rw [ep] at ca cb
          have HLS := Lib.hid hls; have HL1 := Lib.hid hl1; have HA := Lib.hid (And.intro a1 a2); have HB := Lib.hid (And.intro b1 b2)
          have hsi : s ≠ 0 := by omega
          clear hls hl1 hP1 hR1 hx hp hq hl00 a1 a2 b1 b2 ep
          go_wp2_with fail
          go_region
          all_goals go_wp2_with fail
          all_goals
            refine ⟨⟨j + 1, by omega, by go_num, by rw [HLS.out], ?_, ?_, ?_⟩, by simp [intOf]; omega⟩
          · exact HA.out.1.same rfl
          · exact HA.out.2.same rfl
          · exact grown_trans (grow_at (grow_at hg (by omega) _ _) (by omega) _ _) (grown_drew _ _)
        · have hje : j = ws.length := by omega
          subst hje
          have hpl : (partsL t s ws).length = ws.length := by simp [partsL]
          have hrl : (restsL t s ws).length = ws.length := by simp [restsL]
          have hPn : RowAt wr w.heap.size ws.length (nth (bumped (partsL t s ws) (fun k => k) 0)) := hP.congr (fun k hk => by unfold uptoI; rw [if_pos hk]; rfl)
          have hRn : wr.heap[w.heap.size + 1]? = some (.cells ((restsL t s ws).map (Value.int .i64)).toArray 3 (0, 0)) := by
            have z : RowAt wr (w.heap.size + 1) (restsL t s ws).length (nth (restsL t s ws)) := by rw [hrl]; exact hR.congr (fun k hk => by unfold uptoI; rw [if_pos hk])
            have z' : wr.heap[w.heap.size + 1]? = _ := z
            rw [iRow_list] at z'
            exact z'
          have hl0 := (HLB.out ws.length).1
          have hlL := left_lt (t := t) hs0 HS.out hn0
          obtain ⟨L, hL⟩ : ∃ L : Nat, leftAt t s ws ws.length = (L : Int) := ⟨(leftAt t s ws ws.length).toNat, by omega⟩
          rw [hL] at hlL
          rw [hL]
          have hLn : L ≤ ws.length := by omega
          have hsz := hg.size
          have hsP : w.heap.size + 1 < wr.heap.size := lt_of_block hRn
          have HPN := Lib.hid hPn; have HL := Lib.hid hL
          clear hP hR hPn hL hlL
          go_wp2_with fail
          refine (greatest_any hRn hrl hn0 hn).mono ?_
          rintro e w1 ⟨⟨g, f, rfl, hgb, hgr, ho⟩, hg1⟩
          have hkey : nth (restsL t s ws) = nth (restsL t s ws) := rfl
          have hP1 := HPN.out.grown hg1
          have hg2 := grown_trans hg hg1
          have hgP : w.heap.size ≠ g := by omega
          have ho2 : Ord (keyOf t s ws) ws.length f := by
            refine ⟨ho.mv, fun i j q1 q2 q3 => ?_⟩
            have z := ho.srt i j q1 q2 q3
            unfold Bef at z ⊢
            rw [nth_rests (ho.lt (show i < ws.length by omega)), nth_rests (ho.lt q3)] at z
            exact z
          have HO := Lib.hid ho2; have HGR := Lib.hid hgr; have HP1 := Lib.hid hP1; have HG2 := Lib.hid hg2; have HRL := Lib.hid hrl
          clear hkey ho2 hgr hP1 hg2 hg hg1 ho hRn hgb hrl
          go_wp2_with fail
          go_loopw [67] (fun iv wt => ∃ j : Nat, j ≤ L ∧ iv = .int .i64 j ∧ RowAt wt w.heap.size ws.length (nth (bumped (partsL t s ws) f j)) ∧ Hid (wt.heap[g]? = some (.cells (fRow ws.length f) 3 (0, 0))) ∧ w.grownBy wt none) (fun iv _ => L - (intOf iv).toNat)
          case atStart => exact ⟨0, Nat.zero_le _, rfl, HP1.out, HGR.out, HG2.out⟩
          case round =>
            obtain ⟨j, hj, rfl, hQ, hG, hgw⟩ := hrel
            by_cases hlt3 : j < L
            · have hjn : j < ws.length := by omega
              have hfn := HO.out.lt hjn
              have cg : wr.cell? ⟨g, j, none⟩ = some (.int .i64 (f j : Int)) := by
                have z : wr.heap[g]? = _ := hG.out
                simp [World.cell?, z, fRow_get ws.length f j hjn]
              obtain ⟨y, hy⟩ : ∃ y, f j = y := ⟨_, rfl⟩
              rw [hy] at cg hfn
              have cy := hQ.cell hfn
              have fy := hQ.free y
              have hb := bumped_nth (partsL t s ws) f HO.out.inj (fun k hk => by rw [hpl] at hk ⊢; exact HO.out.lt hk) j (by omega) y
              have hy0 := hok.out y hfn
              have hpb := part_bd c1 hs0 hy0.1 (HXS.out y hfn)
              rw [nth_parts hfn] at hb
              have hst := hQ.set y (nth (bumped (partsL t s ws) f j) y + 1)
              rw [nth_updI (by rw [bumped_len, hpl]; exact hfn), show (bumped (partsL t s ws) f j).set y (nth (bumped (partsL t s ws) f j) y + 1) = bumped (partsL t s ws) f (j + 1) by rw [bumped, hy]] at hst
              obtain ⟨v, hv⟩ : ∃ v, nth (bumped (partsL t s ws) f j) y = v := ⟨_, rfl⟩
              rw [hv] at hb cy hst
              have hv0 : 0 ≤ v := by omega
              have hv1 : v ≤ 1000000000001 := by omega
              have HST := Lib.hid hst; clear hst hb hv hy hpb hy0
              go_wp2_with fail
              refine ⟨⟨j + 1, by omega, by go_num, HST.out, ?_, grow_at hgw (by omega) _ _⟩, by simp [intOf]; omega⟩
              show (World.setCell _ _ _).heap[g]? = _
              rw [Below.heap_setCell _ _ _ _ (fun e => hgP e.symm)]; exact hG.out
            · have hjL : j = L := by omega
              subst hjL
              go_wp2_with fail
              go_ret
              refine ⟨⟨w.heap.size, f, rfl, Nat.le_refl _, ?_, ?_⟩, hgw⟩
              · rw [HS.out]; exact HO.out
              · rw [HS.out, HL.out]; exact hQ

set_option maxRecDepth 100000 in
set_option maxHeartbeats 3200000 in
theorem share_any (t : Int) (ao : Option Addr) (cap : Nat) (ws : List Int) (hcl : (ws.length : Int) ≤ 9223372036854775807) (w : World) (hw : IntsAt w ao ws) :
    Calls Try.prog 12 #[.int .i64 t, .slice ao ws.length cap] w fun e w' => ShareOut w w' t ws e ∧ w.grownBy w' none := by
  have HW := Lib.hid hw; clear hw
  by_cases c1 : t < 0
  · have hv : shareE t ws = 9 := by unfold shareE; rw [if_pos (.inl c1)]
    have HV := Lib.hid hv; clear hv
    go_enter Try.func12, Try.ntmps12
    go_wp2_with fail
    go_ret2
    exact ⟨.inl ⟨by rw [HV.out]; decide, by rw [HV.out]; rfl⟩, grown_refl _ _⟩
  by_cases c2 : 1000000000000 < t
  · have hv : shareE t ws = 9 := by unfold shareE; rw [if_pos (.inr c2)]
    have HV := Lib.hid hv; clear hv
    go_enter Try.func12, Try.ntmps12
    go_wp2_with fail
    go_ret2
    exact ⟨.inl ⟨by rw [HV.out]; decide, by rw [HV.out]; rfl⟩, grown_refl _ _⟩
  by_cases c3 : (1000 : Int) < (ws.length : Int)
  · have hv : shareE t ws = 3 := by unfold shareE; rw [if_neg (by omega), if_pos (by omega)]
    have HV := Lib.hid hv; clear hv
    go_enter Try.func12, Try.ntmps12
    go_wp2_with fail
    go_ret2
    exact ⟨.inl ⟨by rw [HV.out]; decide, by rw [HV.out]; rfl⟩, grown_refl _ _⟩
  have hn : ws.length ≤ 1000 := by omega
  have hv0 : shareE t ws = if goodB ws = false then 9 else if ws.sum = 0 then 13 else 0 := by unfold shareE; rw [if_neg (by omega), if_neg (by omega)]
  have HV0 := Lib.hid hv0; clear hv0
  go_enter Try.func12, Try.ntmps12
  go_wp2_with fail
  go_loopw [6, 20] (fun sv iv wr => ∃ j : Nat, j ≤ ws.length ∧ iv = .int .i64 j ∧ sv = .int .i64 (ws.take j).sum ∧ w = wr ∧ Hid (∀ i, i < j → 0 ≤ nth ws i ∧ nth ws i ≤ 1000000)) (fun _ iv _ => ws.length - (intOf iv).toNat)
  case atStart => exact ⟨0, Nat.zero_le _, rfl, by simp, rfl, fun i hi => by omega⟩
  case round =>
    obtain ⟨j, hj, rfl, rfl, rfl, hok⟩ := hrel
    by_cases hlt : j < ws.length
    · obtain ⟨b, off, rfl, hcells⟩ := HW.out.some (by omega)
      have hc := hcells j hlt
      have hsb := sum_take_bd (ws.take j) j 1000000 (by omega) (fun i hi => by rw [List.length_take] at hi; rw [nth_take (by omega)]; exact hok.out i (by omega))
      rw [List.take_take, Nat.min_self] at hsb
      have hss := sum_take_succ ws j hlt
      obtain ⟨S, hS⟩ : ∃ S, (ws.take j).sum = S := ⟨_, rfl⟩
      obtain ⟨x, hx⟩ : ∃ x, nth ws j = x := ⟨_, rfl⟩
      rw [hx] at hc hss
      rw [hS] at hsb hss
      rw [hS]
      have hjn : (j : Int) ≤ 1000 := by omega
      have HX := Lib.hid hx; have HSS := Lib.hid hss; clear hx hss hcells hS
      by_cases d1 : x < 0
      · have hv : goodB ws = false := goodB_false hlt (.inl (by rw [HX.out]; exact d1))
        have HV := Lib.hid hv; clear hv
        go_wp2_with fail
        go_ret2
        exact ⟨.inl ⟨by rw [HV0.out, if_pos HV.out]; decide, by rw [HV0.out, if_pos HV.out]; rfl⟩, grown_refl _ _⟩
      · by_cases d2 : 1000000 < x
        · have hv : goodB ws = false := goodB_false hlt (.inr (by rw [HX.out]; exact d2))
          have HV := Lib.hid hv; clear hv
          go_wp2_with fail
          go_ret2
          exact ⟨.inl ⟨by rw [HV0.out, if_pos HV.out]; decide, by rw [HV0.out, if_pos HV.out]; rfl⟩, grown_refl _ _⟩
        · go_wp2_with fail
          refine ⟨⟨j + 1, by omega, by go_num, by rw [HSS.out], by first | rfl | trivial, fun i hi => ?_⟩, by simp [intOf]; omega⟩
          by_cases e : i = j
          · rw [e, HX.out]; omega
          · exact hok.out i (by omega)
    · have hjn : j = ws.length := by omega
      subst hjn
      have hgood : goodB ws = true := goodB_all hok.out
      rw [List.take_length]
      have hsum := sum_bd ws 1000000 hok.out
      obtain ⟨s, hs⟩ : ∃ s, ws.sum = s := ⟨_, rfl⟩
      rw [hs] at hsum
      rw [hs]
      have HS := Lib.hid hs; have HG := Lib.hid hgood; clear hs hgood
      by_cases hz : s = 0
      · have hv : shareE t ws = 13 := by rw [HV0.out, if_neg (by rw [HG.out]; simp), if_pos (by rw [HS.out]; exact hz)]
        have HV := Lib.hid hv; clear hv
        have hz1 : (s == 0) = true := by simpa using hz
        go_wp2_with fail
        go_ret2
        exact ⟨.inl ⟨by rw [HV.out]; decide, by rw [HV.out]; rfl⟩, grown_refl _ _⟩
      · have hv : shareE t ws = 0 := by rw [HV0.out, if_neg (by rw [HG.out]; simp), if_neg (by rw [HS.out]; exact hz)]
        have HV := Lib.hid hv; clear hv
        have hz1 : (s == 0) = false := by simpa using hz
        have HNZ : Hid (ws.sum ≠ 0) := by show _ ≠ _; rw [HS.out]; exact hz
        go_wp2_with fail
        refine (shares_is t ao cap ws (by omega) (by omega) hn hok.out HNZ.out _ HW.out).mono ?_; rintro e w1 ⟨⟨g, f, rfl, hgb, ho, hr⟩, hg⟩
        have HO := Lib.hid ho; have HR := Lib.hid hr
        clear ho hr
        go_wp2_with fail
        go_ret2
        exact ⟨.inr ⟨HV.out, g, f, rfl, hgb, HO.out, HR.out⟩, hg⟩
end Go.Proofs.Ytblaplnpehnjfab
