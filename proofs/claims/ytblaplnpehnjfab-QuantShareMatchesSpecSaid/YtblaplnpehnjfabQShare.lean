/- The contract of Share. -/
import Derived.Test.YtblaplnpehnjfabQGreatest
namespace Go.Proofs.Ytblaplnpehnjfab
open Go.RowKit

/-- Numbers that came in. -/
structure IntsAt (w : World) (ao : Option Addr) (ws : List Int) : Prop where
  nil : ao = none → ws = []
  spot : ∀ a, ao = some a → ws ≠ [] → a.spot = none
  cells : ∀ a, ao = some a → ∀ i, i < ws.length → w.cell? ⟨a.block, a.off + i, none⟩ = some (.int .i64 (nth ws i))
theorem IntsAt.grown {w w' : World} {ao : Option Addr} {ws : List Int} (h : IntsAt w ao ws) (g : w.grownBy w' none) : IntsAt w' ao ws :=
  ⟨h.nil, h.spot, fun a ha i hi => g.cell (h.cells a ha i hi) (by simp)⟩
theorem IntsAt.some {w : World} {ao : Option Addr} {ws : List Int} (h : IntsAt w ao ws) (hne : 0 < ws.length) : ∃ b off, ao = .some ⟨b, off, none⟩ ∧ ∀ i, i < ws.length → w.cell? ⟨b, off + i, none⟩ = .some (.int .i64 (nth ws i)) := by
  have hn : ws ≠ [] := by intro e; rw [e] at hne; simp at hne
  rcases ao with _ | ⟨b, off, s⟩
  · exact absurd (h.nil rfl) hn
  · have := h.spot _ rfl hn
    simp only at this
    subst this
    exact ⟨b, off, rfl, h.cells _ rfl⟩

def goodB (ws : List Int) : Bool := ws.all fun x => decide (0 ≤ x) && decide (x ≤ 1000000)
theorem goodB_true {ws : List Int} (h : goodB ws = true) (i : Nat) (hi : i < ws.length) : 0 ≤ nth ws i ∧ nth ws i ≤ 1000000 := by
  unfold goodB at h
  rw [List.all_eq_true] at h
  have := h ws[i] (List.getElem_mem hi)
  rw [nth_get hi]
  simpa using this
theorem goodB_false {ws : List Int} {i : Nat} (hi : i < ws.length) (h : nth ws i < 0 ∨ 1000000 < nth ws i) : goodB ws = false := by
  rcases hb : goodB ws with _ | _
  · rfl
  · have := goodB_true hb i hi; omega
theorem goodB_all {ws : List Int} (h : ∀ i, i < ws.length → 0 ≤ nth ws i ∧ nth ws i ≤ 1000000) : goodB ws = true := by
  unfold goodB
  rw [List.all_eq_true]
  intro x hx
  obtain ⟨i, hi, rfl⟩ := List.getElem_of_mem hx
  have := h i hi
  rw [nth_get hi] at this
  simpa using this

def shareE (t : Int) (ws : List Int) : Int :=
  if t < 0 ∨ 1000000000000 < t then 9 else if 1000 < ws.length then 3 else if goodB ws = false then 9 else if ws.sum = 0 then 13 else 0

def iRow (n : Nat) (F : Nat → Int) : Array Value := ((List.range n).map fun k => Value.int .i64 (F k)).toArray
def updI (F : Nat → Int) (i : Nat) (v : Int) : Nat → Int := fun k => if k = i then v else F k
theorem iRow_get (n : Nat) (F : Nat → Int) (k : Nat) (h : k < n) : (iRow n F)[k]? = some (.int .i64 (F k)) := by simp [iRow, h]
theorem iRow_set (n : Nat) (F : Nat → Int) (k : Nat) (v : Int) : (iRow n F).setIfInBounds k (.int .i64 v) = iRow n (updI F k v) := by
  unfold iRow
  rw [List.setIfInBounds_toArray]
  congr 1
  apply List.ext_getElem
  · simp
  · intro i h1 h2
    rw [List.getElem_set]
    simp only [List.getElem_map, List.getElem_range, updI]
    by_cases e : k = i
    · rw [if_pos e, if_pos e.symm]
    · rw [if_neg e, if_neg (fun q => e q.symm)]
theorem iRow_congr {n : Nat} {F G : Nat → Int} (h : ∀ k, k < n → F k = G k) : iRow n F = iRow n G := by
  unfold iRow
  congr 1
  exact List.map_congr_left fun k hk => by rw [h k (List.mem_range.1 hk)]
theorem iRow_list (l : List Int) : iRow l.length (nth l) = (l.map (Value.int .i64)).toArray := by
  unfold iRow
  congr 1
  apply List.ext_getElem
  · simp
  · intro i h1 h2
    simp only [List.length_map, List.length_range] at h1
    simp [nth, h1]
theorem iRow_zero (n : Nat) : madeCells #[Value.int .i64 0] n = iRow n (fun _ => 0) := by
  apply Array.ext
  · simp [madeCells, iRow]
  · intro i h1 h2
    simp [madeCells, iRow, Nat.mod_one]

/-- A row of numbers in block g. -/
def RowAt (w : World) (g n : Nat) (F : Nat → Int) : Prop := w.heap[g]? = some (.cells (iRow n F) 3 (0, 0))
section
variable {w : World} {g n : Nat} {F : Nat → Int}
theorem RowAt.cell (h : RowAt w g n F) {k : Nat} (hk : k < n) : w.cell? ⟨g, k, none⟩ = some (.int .i64 (F k)) := by
  have h' : w.heap[g]? = _ := h
  simp [World.cell?, h', iRow_get n F k hk]
theorem RowAt.free (h : RowAt w g n F) (k : Nat) : w.frozen? ⟨g, k, none⟩ = false := by
  have h' : w.heap[g]? = _ := h
  simp [World.frozen?, h']
theorem RowAt.set (h : RowAt w g n F) (k : Nat) (v : Int) : RowAt (w.setCell ⟨g, k, none⟩ (.int .i64 v)) g n (updI F k v) := by
  have h' : w.heap[g]? = _ := h
  show (w.setCell ⟨g, k, none⟩ (.int .i64 v)).heap[g]? = _
  simp [World.setCell, Array.getElem?_modify, h', iRow_set]
theorem RowAt.far (h : RowAt w g n F) {g' : Nat} (ne : g ≠ g') (k : Nat) (v : Value) : RowAt (w.setCell ⟨g', k, none⟩ v) g n F := by
  show (w.setCell ⟨g', k, none⟩ v).heap[g]? = _
  rw [Below.heap_setCell _ _ _ _ ne]; exact h
theorem RowAt.same (h : RowAt w g n F) {w' : World} (e : w'.heap = w.heap) : RowAt w' g n F := by
  show w'.heap[g]? = _
  rw [e]; exact h
theorem RowAt.congr (h : RowAt w g n F) {G : Nat → Int} (e : ∀ k, k < n → F k = G k) : RowAt w g n G := by
  show w.heap[g]? = _
  rw [← iRow_congr e]; exact h
theorem RowAt.grown (h : RowAt w g n F) {w' : World} (hg : w.grownBy w' none) : RowAt w' g n F := by
  have h' : w.heap[g]? = _ := h
  show w'.heap[g]? = _
  rw [hg.block g (lt_of_block h') (by simp)]; exact h
end

/-- Up to j the numbers of a list. -/
def uptoI (l : List Int) (j k : Nat) : Int := if k < j then nth l k else 0
theorem uptoI_upd (l : List Int) (j : Nat) : updI (uptoI l j) j (nth l j) = uptoI l (j + 1) := by
  funext k; unfold updI uptoI
  by_cases h : k = j
  · subst h; simp
  · rw [if_neg h]
    by_cases h2 : k < j
    · rw [if_pos h2, if_pos (by omega)]
    · rw [if_neg h2, if_neg (by omega)]
theorem nth_updI {l : List Int} {k : Nat} (h : k < l.length) (v : Int) : updI (nth l) k v = nth (l.set k v) := by
  funext i
  rw [nth_set h]
  unfold updI
  by_cases e : i = k
  · rw [if_pos e, if_pos e.symm]
  · rw [if_neg e, if_neg (fun q => e q.symm)]

/-- What Share gives. -/
def ShareOut (w w' : World) (t : Int) (ws : List Int) (e : Ending) : Prop :=
  (shareE t ws ≠ 0 ∧ e = .returned (.tuple #[.slice none 0 0, .int .i64 (shareE t ws)])) ∨
  (shareE t ws = 0 ∧ ∃ g f, e = .returned (.tuple #[.slice (some ⟨g, 0, none⟩) ws.length ws.length, .int .i64 0]) ∧ w.heap.size ≤ g ∧ Ord (keyOf t ws.sum ws) ws.length f ∧ RowAt w' g ws.length (nth (bumped (partsL t ws.sum ws) f (leftAt t ws.sum ws ws.length).toNat)))

/-- What Shares gives. -/
def SharesOut (w w' : World) (t : Int) (ws : List Int) (e : Ending) : Prop :=
  ∃ g f, e = .returned (.slice (some ⟨g, 0, none⟩) ws.length ws.length) ∧ w.heap.size ≤ g ∧ Ord (keyOf t ws.sum ws) ws.length f ∧ RowAt w' g ws.length (nth (bumped (partsL t ws.sum ws) f (leftAt t ws.sum ws ws.length).toNat))

set_option maxRecDepth 100000 in
set_option maxHeartbeats 3200000 in
theorem shares_is (t : Int) (ao : Option Addr) (cap : Nat) (ws : List Int) (c1 : ¬ t < 0) (c2 : ¬ 1000000000000 < t) (hn : ws.length ≤ 1000) (hok0 : ∀ i, i < ws.length → 0 ≤ nth ws i ∧ nth ws i ≤ 1000000) (hnz : ws.sum ≠ 0) (w : World) (hw : IntsAt w ao ws) :
    Calls Try.prog 28 #[.int .i64 t, .slice ao ws.length cap] w fun e w' => SharesOut w w' t ws e ∧ w.grownBy w' none := by
  have HW := Lib.hid hw; clear hw
  have hok := Lib.hid hok0; clear hok0
  go_enter Try.func28, Try.ntmps28
  go_wp2_with fail
  go_loopw [5, 17] (fun sv iv wr => ∃ j : Nat, j ≤ ws.length ∧ iv = .int .i64 j ∧ sv = .int .i64 (ws.take j).sum ∧ w = wr) (fun _ iv _ => ws.length - (intOf iv).toNat)
  case atStart => exact ⟨0, Nat.zero_le _, rfl, by simp, rfl⟩
  case round =>
    obtain ⟨j, hj, rfl, rfl, rfl⟩ := hrel
    by_cases hlt : j < ws.length
    · obtain ⟨b, off, rfl, hcells⟩ := HW.out.some (by omega)
      have hc := hcells j hlt
      have hsb := sum_take_bd (ws.take j) j 1000000 (by omega) (fun i hi => by rw [List.length_take] at hi; rw [nth_take (by omega)]; exact hok.out i (by omega))
      rw [List.take_take, Nat.min_self] at hsb
      have hss := sum_take_succ ws j hlt
      have hx1 := hok.out j hlt
      obtain ⟨S, hS⟩ : ∃ S, (ws.take j).sum = S := ⟨_, rfl⟩
      obtain ⟨x, hx⟩ : ∃ x, nth ws j = x := ⟨_, rfl⟩
      rw [hx] at hc hss hx1
      rw [hS] at hsb hss
      rw [hS]
      have hjn : (j : Int) ≤ 1000 := by omega
      have HSS := Lib.hid hss; clear hx hss hcells hS
      go_wp2_with fail
      exact ⟨⟨j + 1, by omega, by go_num, by rw [HSS.out], by first | rfl | trivial⟩, by simp [intOf]; omega⟩
    · have hjn : j = ws.length := by omega
      subst hjn
      rw [List.take_length]
      have hsum := sum_bd ws 1000000 hok.out
      obtain ⟨s, hs⟩ : ∃ s, ws.sum = s := ⟨_, rfl⟩
      rw [hs] at hsum hnz
      rw [hs]
      have HS := Lib.hid hs; clear hs
      have hz := hnz
      have hn0 : 0 < ws.length := by
        rcases Nat.eq_zero_or_pos ws.length with q | q
        · exfalso; rw [q] at hsum; omega
        · exact q
      have hs0 : 0 < s := by omega
      obtain ⟨n, hnn⟩ : ∃ n, ws.length = n := ⟨_, rfl⟩
      obtain ⟨b, off, rfl, hcells⟩ := HW.out.some hn0
      have hmk := run_make_row' (P := Try.prog) 50 3 (.int .i64 0) 8 Try.underlying50 info_int rfl .i64 .i64 ws.length (by omega) (by omega)
      have hz1 : (s == 0) = false := by simpa using hz
      have HC := Lib.hid hcells; have HN := Lib.hid hnn; clear hcells hnn
      go_wp2_with fail
      have hP0 : RowAt ((w.alloc (.cells (madeCells #[.int .i64 0] ws.length) 3)).alloc (.cells (madeCells #[.int .i64 0] ws.length) 3)) w.heap.size ws.length (uptoI (partsL t s ws) 0) := by
        have q : RowAt (w.alloc (.cells (madeCells #[.int .i64 0] ws.length) 3)) w.heap.size ws.length (fun _ => 0) := by
          show (w.alloc _).heap[w.heap.size]? = _
          rw [iRow_zero]; exact heap_alloc_new w _
        exact (q.grown (World.grownBy_alloc _ _ _)).congr (fun k _ => by simp [uptoI])
      have hR0 : RowAt ((w.alloc (.cells (madeCells #[.int .i64 0] ws.length) 3)).alloc (.cells (madeCells #[.int .i64 0] ws.length) 3)) (w.heap.size + 1) ws.length (uptoI (restsL t s ws) 0) := by
        have q : RowAt ((w.alloc (.cells (madeCells #[.int .i64 0] ws.length) 3)).alloc (.cells (madeCells #[.int .i64 0] ws.length) 3)) (w.heap.size + 1) ws.length (fun _ => 0) := by
          have e : (w.alloc (.cells (madeCells #[.int .i64 0] ws.length) 3)).heap.size = w.heap.size + 1 := by simp
          show (World.alloc _ _).heap[w.heap.size + 1]? = _
          rw [← e, iRow_zero]; exact heap_alloc_new _ _
        exact q.congr (fun k _ => by simp [uptoI])
      have hg0 : w.grownBy ((w.alloc (.cells (madeCells #[.int .i64 0] ws.length) 3)).alloc (.cells (madeCells #[.int .i64 0] ws.length) 3)) none := grown_trans (World.grownBy_alloc _ _ _) (World.grownBy_alloc _ _ _)
      have hxs : ∀ i, i < ws.length → nth ws i ≤ s := fun i hi => by
        have q0 : ∀ i, i < ws.length → 0 ≤ nth ws i := fun i hi => (hok.out i hi).1
        have q1 := sum_take_le ws q0 (i + 1)
        have q2 := (sum_take_bd ws i 1000000 (by omega) hok.out).1
        have q3 := sum_take_succ ws i hi
        have q4 := HS.out
        omega
      have hlb : ∀ j, 0 ≤ leftAt t s ws j ∧ leftAt t s ws j ≤ t := fun j => left_bd c1 hs0 (fun i hi => (hok.out i hi).1) HS.out j
      have HP0 := Lib.hid hP0; have HR0 := Lib.hid hR0; have HXS := Lib.hid hxs; have HLB := Lib.hid hlb; clear hP0 hR0 hxs hlb hmk
      go_loopw [10, 34] (fun lv iv wt => ∃ j : Nat, j ≤ ws.length ∧ iv = .int .i64 j ∧ lv = .int .i64 (leftAt t s ws j) ∧ RowAt wt w.heap.size ws.length (uptoI (partsL t s ws) j) ∧ RowAt wt (w.heap.size + 1) ws.length (uptoI (restsL t s ws) j) ∧ w.grownBy wt none) (fun _ iv _ => ws.length - (intOf iv).toNat)
      case atStart => exact ⟨0, Nat.zero_le _, rfl, by rw [left_zero], HP0.out, HR0.out, hg0⟩
      case round =>
        obtain ⟨j, hj, rfl, rfl, hP, hR, hg⟩ := hrel
        by_cases hlt2 : j < ws.length
        · have hc := hg.cell (HC.out j hlt2) (by simp)
          have hx0 := hok.out j hlt2
          have hx1 := HXS.out j hlt2
          have hl0 := HLB.out j
          have hl1 := HLB.out (j + 1)
          have hls := left_succ (t := t) (s := s) hlt2
          have hpb := part_bd c1 hs0 hx0.1 hx1
          have cP := hP.cell hlt2
          have cR := hR.cell hlt2
          have fP := hP.free j
          have fR := hR.free j
          have hP1 := hP.set j (nth (partsL t s ws) j)
          have hR1 := hR.set j (nth (restsL t s ws) j)
          rw [uptoI_upd] at hP1 hR1
          rw [nth_parts hlt2] at hP1
          rw [nth_rests hlt2] at hR1
          have hq0 : 0 ≤ t * nth ws j := Int.mul_nonneg c1 hx0.1
          have hq1 : t * nth ws j ≤ 1000000000000000000 := by
            have := Int.mul_le_mul c2 hx0.2 hx0.1 (by omega)
            omega
          have e1 : (t * nth ws j).tdiv s = partOf t s (nth ws j) := Int.tdiv_eq_ediv_of_nonneg hq0
          have e2 : (t * nth ws j).tmod s = restOf t s (nth ws j) := Int.tmod_eq_emod_of_nonneg hq0
          have hrb := rest_bd (t := t) hs0 (nth ws j)
          unfold keyOf at hR1
          obtain ⟨x, hx⟩ : ∃ x, nth ws j = x := ⟨_, rfl⟩
          obtain ⟨p, hp⟩ : ∃ p, partOf t s x = p := ⟨_, rfl⟩
          obtain ⟨q, hq⟩ : ∃ q, restOf t s x = q := ⟨_, rfl⟩
          rw [hx] at hc hx0 hx1 hls hpb hP1 hR1 hq0 hq1 e1 e2 hrb
          rw [hp] at hls hpb hP1 e1
          rw [hq] at hR1 e2 hrb
          obtain ⟨l0, hl00⟩ : ∃ l0, leftAt t s ws j = l0 := ⟨_, rfl⟩
          rw [hl00] at hl0 hls
          rw [hl00]
          have cR1 : (wr.setCell ⟨w.heap.size, j, none⟩ (.int .i64 p)).cell? ⟨w.heap.size + 1, j, none⟩ = some (.int .i64 (uptoI (restsL t s ws) j j)) := (hR.far (g' := w.heap.size) (by omega) j _).cell hlt2
          have cP1 : (wr.setCell ⟨w.heap.size + 1, j, none⟩ (.int .i64 q)).cell? ⟨w.heap.size, j, none⟩ = some (.int .i64 (uptoI (partsL t s ws) j j)) := (hP.far (g' := w.heap.size + 1) (by omega) j _).cell hlt2
          have a1 : RowAt ((wr.setCell ⟨w.heap.size, j, none⟩ (.int .i64 p)).setCell ⟨w.heap.size + 1, j, none⟩ (.int .i64 q)) w.heap.size ws.length (uptoI (partsL t s ws) (j + 1)) := hP1.far (by omega) j _
          have a2 : RowAt ((wr.setCell ⟨w.heap.size, j, none⟩ (.int .i64 p)).setCell ⟨w.heap.size + 1, j, none⟩ (.int .i64 q)) (w.heap.size + 1) ws.length (uptoI (restsL t s ws) (j + 1)) := by
            have z := (hR.far (g' := w.heap.size) (by omega) j (.int .i64 p)).set j q
            rwa [← hq, ← hx, ← (show nth (restsL t s ws) j = restOf t s (nth ws j) from nth_rests hlt2), uptoI_upd, show nth (restsL t s ws) j = restOf t s (nth ws j) from nth_rests hlt2, hx, hq] at z
          have b1 : RowAt ((wr.setCell ⟨w.heap.size + 1, j, none⟩ (.int .i64 q)).setCell ⟨w.heap.size, j, none⟩ (.int .i64 p)) w.heap.size ws.length (uptoI (partsL t s ws) (j + 1)) := by
            have z := (hP.far (g' := w.heap.size + 1) (by omega) j (.int .i64 q)).set j p
            rwa [← hp, ← hx, ← (show nth (partsL t s ws) j = partOf t s (nth ws j) from nth_parts hlt2), uptoI_upd, show nth (partsL t s ws) j = partOf t s (nth ws j) from nth_parts hlt2, hx, hp] at z
          have b2 : RowAt ((wr.setCell ⟨w.heap.size + 1, j, none⟩ (.int .i64 q)).setCell ⟨w.heap.size, j, none⟩ (.int .i64 p)) (w.heap.size + 1) ws.length (uptoI (restsL t s ws) (j + 1)) := hR1.far (by omega) j _
          have ep : uptoI (partsL t s ws) (j + 1) j = p := by unfold uptoI; rw [if_pos (by omega), nth_parts hlt2, hx, hp]
          have ca := a1.cell hlt2
          have cb := b1.cell hlt2
          rw [ep] at ca cb
          have HLS := Lib.hid hls; have HL1 := Lib.hid hl1; have HA := Lib.hid (And.intro a1 a2); have HB := Lib.hid (And.intro b1 b2)
          have hsi : s ≠ 0 := by omega
          clear hls hl1 hP1 hR1 hx hp hq hl00 a1 a2 b1 b2 ep
          go_wp2_with fail
          go_region
          all_goals go_wp2_with fail
          all_goals
            refine ⟨⟨j + 1, by omega, by go_num, by rw [HLS.out], ?_, ?_, ?_⟩, by simp [intOf]; omega⟩
          · exact HA.out.1.same rfl
          · exact HA.out.2.same rfl
          · exact grown_trans (grow_at (grow_at hg (by omega) _ _) (by omega) _ _) (grown_drew _ _)
        · have hje : j = ws.length := by omega
          subst hje
          have hpl : (partsL t s ws).length = ws.length := by simp [partsL]
          have hrl : (restsL t s ws).length = ws.length := by simp [restsL]
          have hPn : RowAt wr w.heap.size ws.length (nth (bumped (partsL t s ws) (fun k => k) 0)) := hP.congr (fun k hk => by unfold uptoI; rw [if_pos hk]; rfl)
          have hRn : wr.heap[w.heap.size + 1]? = some (.cells ((restsL t s ws).map (Value.int .i64)).toArray 3 (0, 0)) := by
            have z : RowAt wr (w.heap.size + 1) (restsL t s ws).length (nth (restsL t s ws)) := by rw [hrl]; exact hR.congr (fun k hk => by unfold uptoI; rw [if_pos hk])
            have z' : wr.heap[w.heap.size + 1]? = _ := z
            rw [iRow_list] at z'
            exact z'
          have hl0 := (HLB.out ws.length).1
          have hlL := left_lt (t := t) hs0 HS.out hn0
          obtain ⟨L, hL⟩ : ∃ L : Nat, leftAt t s ws ws.length = (L : Int) := ⟨(leftAt t s ws ws.length).toNat, by omega⟩
          rw [hL] at hlL
          rw [hL]
          have hLn : L ≤ ws.length := by omega
          have hsz := hg.size
          have hsP : w.heap.size + 1 < wr.heap.size := lt_of_block hRn
          have HPN := Lib.hid hPn; have HL := Lib.hid hL
          clear hP hR hPn hL hlL
          go_wp2_with fail
          refine (greatest_any hRn hrl hn0 hn).mono ?_
          rintro e w1 ⟨⟨g, f, rfl, hgb, hgr, ho⟩, hg1⟩
          have hkey : nth (restsL t s ws) = nth (restsL t s ws) := rfl
          have hP1 := HPN.out.grown hg1
          have hg2 := grown_trans hg hg1
          have hgP : w.heap.size ≠ g := by omega
          have ho2 : Ord (keyOf t s ws) ws.length f := by
            refine ⟨ho.mv, fun i j q1 q2 q3 => ?_⟩
            have z := ho.srt i j q1 q2 q3
            unfold Bef at z ⊢
            rw [nth_rests (ho.lt (show i < ws.length by omega)), nth_rests (ho.lt q3)] at z
            exact z
          have HO := Lib.hid ho2; have HGR := Lib.hid hgr; have HP1 := Lib.hid hP1; have HG2 := Lib.hid hg2; have HRL := Lib.hid hrl
          clear hkey ho2 hgr hP1 hg2 hg hg1 ho hRn hgb hrl
          go_wp2_with fail
          go_loopw [67] (fun iv wt => ∃ j : Nat, j ≤ L ∧ iv = .int .i64 j ∧ RowAt wt w.heap.size ws.length (nth (bumped (partsL t s ws) f j)) ∧ Hid (wt.heap[g]? = some (.cells (fRow ws.length f) 3 (0, 0))) ∧ w.grownBy wt none) (fun iv _ => L - (intOf iv).toNat)
          case atStart => exact ⟨0, Nat.zero_le _, rfl, HP1.out, HGR.out, HG2.out⟩
          case round =>
            obtain ⟨j, hj, rfl, hQ, hG, hgw⟩ := hrel
            by_cases hlt3 : j < L
            · have hjn : j < ws.length := by omega
              have hfn := HO.out.lt hjn
              have cg : wr.cell? ⟨g, j, none⟩ = some (.int .i64 (f j : Int)) := by
                have z : wr.heap[g]? = _ := hG.out
                simp [World.cell?, z, fRow_get ws.length f j hjn]
              obtain ⟨y, hy⟩ : ∃ y, f j = y := ⟨_, rfl⟩
              rw [hy] at cg hfn
              have cy := hQ.cell hfn
              have fy := hQ.free y
              have hb := bumped_nth (partsL t s ws) f HO.out.inj (fun k hk => by rw [hpl] at hk ⊢; exact HO.out.lt hk) j (by omega) y
              have hy0 := hok.out y hfn
              have hpb := part_bd c1 hs0 hy0.1 (HXS.out y hfn)
              rw [nth_parts hfn] at hb
              have hst := hQ.set y (nth (bumped (partsL t s ws) f j) y + 1)
              rw [nth_updI (by rw [bumped_len, hpl]; exact hfn), show (bumped (partsL t s ws) f j).set y (nth (bumped (partsL t s ws) f j) y + 1) = bumped (partsL t s ws) f (j + 1) by rw [bumped, hy]] at hst
              obtain ⟨v, hv⟩ : ∃ v, nth (bumped (partsL t s ws) f j) y = v := ⟨_, rfl⟩
              rw [hv] at hb cy hst
              have hv0 : 0 ≤ v := by omega
              have hv1 : v ≤ 1000000000001 := by omega
              have HST := Lib.hid hst; clear hst hb hv hy hpb hy0
              go_wp2_with fail
              refine ⟨⟨j + 1, by omega, by go_num, HST.out, ?_, grow_at hgw (by omega) _ _⟩, by simp [intOf]; omega⟩
              show (World.setCell _ _ _).heap[g]? = _
              rw [Below.heap_setCell _ _ _ _ (fun e => hgP e.symm)]; exact hG.out
            · have hjL : j = L := by omega
              subst hjL
              go_wp2_with fail
              go_ret
              refine ⟨⟨w.heap.size, f, rfl, Nat.le_refl _, ?_, ?_⟩, hgw⟩
              · rw [HS.out]; exact HO.out
              · rw [HS.out, HL.out]; exact hQ

set_option maxRecDepth 100000 in
set_option maxHeartbeats 3200000 in
theorem share_any (t : Int) (ao : Option Addr) (cap : Nat) (ws : List Int) (hcl : (ws.length : Int) ≤ 9223372036854775807) (w : World) (hw : IntsAt w ao ws) :
    Calls Try.prog 12 #[.int .i64 t, .slice ao ws.length cap] w fun e w' => ShareOut w w' t ws e ∧ w.grownBy w' none := by
  have HW := Lib.hid hw; clear hw
  by_cases c1 : t < 0
  · have hv : shareE t ws = 9 := by unfold shareE; rw [if_pos (.inl c1)]
    have HV := Lib.hid hv; clear hv
    go_enter Try.func12, Try.ntmps12
    go_wp2_with fail
    go_ret2
    exact ⟨.inl ⟨by rw [HV.out]; decide, by rw [HV.out]; rfl⟩, grown_refl _ _⟩
  by_cases c2 : 1000000000000 < t
  · have hv : shareE t ws = 9 := by unfold shareE; rw [if_pos (.inr c2)]
    have HV := Lib.hid hv; clear hv
    go_enter Try.func12, Try.ntmps12
    go_wp2_with fail
    go_ret2
    exact ⟨.inl ⟨by rw [HV.out]; decide, by rw [HV.out]; rfl⟩, grown_refl _ _⟩
  by_cases c3 : (1000 : Int) < (ws.length : Int)
  · have hv : shareE t ws = 3 := by unfold shareE; rw [if_neg (by omega), if_pos (by omega)]
    have HV := Lib.hid hv; clear hv
    go_enter Try.func12, Try.ntmps12
    go_wp2_with fail
    go_ret2
    exact ⟨.inl ⟨by rw [HV.out]; decide, by rw [HV.out]; rfl⟩, grown_refl _ _⟩
  have hn : ws.length ≤ 1000 := by omega
  have hv0 : shareE t ws = if goodB ws = false then 9 else if ws.sum = 0 then 13 else 0 := by unfold shareE; rw [if_neg (by omega), if_neg (by omega)]
  have HV0 := Lib.hid hv0; clear hv0
  go_enter Try.func12, Try.ntmps12
  go_wp2_with fail
  go_loopw [6, 20] (fun sv iv wr => ∃ j : Nat, j ≤ ws.length ∧ iv = .int .i64 j ∧ sv = .int .i64 (ws.take j).sum ∧ w = wr ∧ Hid (∀ i, i < j → 0 ≤ nth ws i ∧ nth ws i ≤ 1000000)) (fun _ iv _ => ws.length - (intOf iv).toNat)
  case atStart => exact ⟨0, Nat.zero_le _, rfl, by simp, rfl, fun i hi => by omega⟩
  case round =>
    obtain ⟨j, hj, rfl, rfl, rfl, hok⟩ := hrel
    by_cases hlt : j < ws.length
    · obtain ⟨b, off, rfl, hcells⟩ := HW.out.some (by omega)
      have hc := hcells j hlt
      have hsb := sum_take_bd (ws.take j) j 1000000 (by omega) (fun i hi => by rw [List.length_take] at hi; rw [nth_take (by omega)]; exact hok.out i (by omega))
      rw [List.take_take, Nat.min_self] at hsb
      have hss := sum_take_succ ws j hlt
      obtain ⟨S, hS⟩ : ∃ S, (ws.take j).sum = S := ⟨_, rfl⟩
      obtain ⟨x, hx⟩ : ∃ x, nth ws j = x := ⟨_, rfl⟩
      rw [hx] at hc hss
      rw [hS] at hsb hss
      rw [hS]
      have hjn : (j : Int) ≤ 1000 := by omega
      have HX := Lib.hid hx; have HSS := Lib.hid hss; clear hx hss hcells hS
      by_cases d1 : x < 0
      · have hv : goodB ws = false := goodB_false hlt (.inl (by rw [HX.out]; exact d1))
        have HV := Lib.hid hv; clear hv
        go_wp2_with fail
        go_ret2
        exact ⟨.inl ⟨by rw [HV0.out, if_pos HV.out]; decide, by rw [HV0.out, if_pos HV.out]; rfl⟩, grown_refl _ _⟩
      · by_cases d2 : 1000000 < x
        · have hv : goodB ws = false := goodB_false hlt (.inr (by rw [HX.out]; exact d2))
          have HV := Lib.hid hv; clear hv
          go_wp2_with fail
          go_ret2
          exact ⟨.inl ⟨by rw [HV0.out, if_pos HV.out]; decide, by rw [HV0.out, if_pos HV.out]; rfl⟩, grown_refl _ _⟩
        · go_wp2_with fail
          refine ⟨⟨j + 1, by omega, by go_num, by rw [HSS.out], by first | rfl | trivial, fun i hi => ?_⟩, by simp [intOf]; omega⟩
          by_cases e : i = j
          · rw [e, HX.out]; omega
          · exact hok.out i (by omega)
    · have hjn : j = ws.length := by omega
      subst hjn
      have hgood : goodB ws = true := goodB_all hok.out
      rw [List.take_length]
      have hsum := sum_bd ws 1000000 hok.out
      obtain ⟨s, hs⟩ : ∃ s, ws.sum = s := ⟨_, rfl⟩
      rw [hs] at hsum
      rw [hs]
      have HS := Lib.hid hs; have HG := Lib.hid hgood; clear hs hgood
      by_cases hz : s = 0
      · have hv : shareE t ws = 13 := by rw [HV0.out, if_neg (by rw [HG.out]; simp), if_pos (by rw [HS.out]; exact hz)]
        have HV := Lib.hid hv; clear hv
        have hz1 : (s == 0) = true := by simpa using hz
        go_wp2_with fail
        go_ret2
        exact ⟨.inl ⟨by rw [HV.out]; decide, by rw [HV.out]; rfl⟩, grown_refl _ _⟩
      · have hv : shareE t ws = 0 := by rw [HV0.out, if_neg (by rw [HG.out]; simp), if_neg (by rw [HS.out]; exact hz)]
        have HV := Lib.hid hv; clear hv
        have hz1 : (s == 0) = false := by simpa using hz
        have HNZ : Hid (ws.sum ≠ 0) := by show _ ≠ _; rw [HS.out]; exact hz
        go_wp2_with fail
        refine (shares_is t ao cap ws (by omega) (by omega) hn hok.out HNZ.out _ HW.out).mono ?_; rintro e w1 ⟨⟨g, f, rfl, hgb, ho, hr⟩, hg⟩
        have HO := Lib.hid ho; have HR := Lib.hid hr
        clear ho hr
        go_wp2_with fail
        go_ret2
        exact ⟨.inr ⟨HV.out, g, f, rfl, hgb, HO.out, HR.out⟩, hg⟩
end Go.Proofs.Ytblaplnpehnjfab
