/- A part of an activity, purely. -/
import Derived.Test.YtgkhhfojioepgaaTResB
namespace Go.Proofs.Ytgkhhfojioepgaa
open Go.RowKit
set_option linter.unusedSimpArgs false
set_option linter.unusedVariables false

def mvS (d : Int) (x : Smp) : Smp := { x with t := x.t + d }
def lapM (by_ sp : Int) (x : LapV) : Option LapV := if max (x.fr - by_) 0 < min (x.to_ - by_) sp then some ⟨max (x.fr - by_) 0, min (x.to_ - by_) sp, x.name⟩ else none
def lapsM (by_ sp : Int) (l : List LapV) : List LapV := l.filterMap (lapM by_ sp)
theorem lapM_ref (by_ sp : Int) (x : LapV) : (if min (max (x.fr - by_) 0) sp < min (max (x.to_ - by_) 0) sp then some (⟨min (max (x.fr - by_) 0) sp, min (max (x.to_ - by_) 0) sp, x.name⟩ : LapV) else none) = lapM by_ sp x := by
  unfold lapM
  by_cases h : max (x.fr - by_) 0 < min (x.to_ - by_) sp
  · rw [if_pos h, if_pos (by omega)]
    have e1 : min (max (x.fr - by_) 0) sp = max (x.fr - by_) 0 := by omega
    have e2 : min (max (x.to_ - by_) 0) sp = min (x.to_ - by_) sp := by omega
    rw [e1, e2]
  · rw [if_neg h, if_neg (by omega)]
theorem lapsM_snoc (by_ sp : Int) (l : List LapV) (x : LapV) : lapsM by_ sp (l ++ [x]) = lapsM by_ sp l ++ (lapM by_ sp x).toList := by
  unfold lapsM
  rw [List.filterMap_append]
  congr 1
theorem lapsM_take {by_ sp : Int} {l : List LapV} {k : Nat} (h : k < l.length) : lapsM by_ sp (l.take (k + 1)) = lapsM by_ sp (l.take k) ++ (lapM by_ sp l[k]).toList := by
  rw [List.take_succ_eq_append_getElem h, lapsM_snoc]
theorem lapsM_le (by_ sp : Int) (l : List LapV) : (lapsM by_ sp l).length ≤ l.length := List.length_filterMap_le _ _
theorem lapsM_name {by_ sp : Int} {l : List LapV} {n : Nat} (h : ∀ i (h : i < l.length), l[i].name.size ≤ n) : ∀ i (h : i < (lapsM by_ sp l).length), (lapsM by_ sp l)[i].name.size ≤ n := fun i hi => by
  have hm : (lapsM by_ sp l)[i] ∈ lapsM by_ sp l := List.getElem_mem hi
  obtain ⟨x, hx, he⟩ := List.mem_filterMap.1 hm
  obtain ⟨j, hj, hjx⟩ := List.getElem_of_mem hx
  have hn : (lapsM by_ sp l)[i].name = x.name := by
    unfold lapM at he
    split at he
    · injection he with he; rw [← he]
    · cases he
  rw [hn, ← hjx]; exact h j hj
def firstT (l : List Smp) : Int := match l with | [] => 0 | x :: _ => x.t
/-- The part of an activity with other samples, of which the first is moved to 0. -/
def partV (a : Act) (d : Int) (L : List Smp) : Act := { a with start := a.start + d, ss := L.map (mvS (-d)), ls := lapsM d (spanL (L.map (mvS (-d)))) a.ls }

theorem laps_in_bd {sp : Int} : ∀ (l : List LapV) (e : Int), lapsE sp e l = 0 → ∀ x ∈ l, 0 ≤ x.fr ∧ x.fr < x.to_ ∧ x.to_ ≤ sp
  | [], _, _, x, hx => by simp at hx
  | y :: r, e, h, x, hx => by
    unfold lapsE at h
    split at h
    · omega
    · rename_i h1
      split at h
      · omega
      · split at h
        · rcases List.mem_cons.1 hx with rfl | hx
          · omega
          · exact laps_in_bd r _ h x hx
        · omega

/-- The first k samples are moved. -/
def mvK (L : List Smp) (d : Int) (k : Nat) : List Smp := (L.take k).map (mvS d) ++ L.drop k
theorem mvK_zero (L : List Smp) (d : Int) : mvK L d 0 = L := by unfold mvK; simp
theorem mvK_len (L : List Smp) (d : Int) (k : Nat) : (mvK L d k).length = L.length := by
  unfold mvK; simp; omega
theorem mvK_all (L : List Smp) (d : Int) : mvK L d L.length = L.map (mvS d) := by unfold mvK; simp
theorem mvK_at {L : List Smp} {d : Int} {k : Nat} (h : k < L.length) : (mvK L d k)[k]'(by rw [mvK_len]; exact h) = L[k] := by
  unfold mvK
  rw [List.getElem_append_right (by simp; omega)]
  simp [Nat.min_eq_left (Nat.le_of_lt h)]
theorem mvK_succ {L : List Smp} {d : Int} {k : Nat} (h : k < L.length) : mvK L d (k + 1) = (mvK L d k).set k (mvS d L[k]) := by
  unfold mvK
  rw [List.set_append_right _ _ (by simp; omega)]
  have e : k - (List.map (mvS d) (List.take k L)).length = 0 := by simp; omega
  rw [e, List.drop_eq_getElem_cons h, List.set_cons_zero, List.take_succ_eq_append_getElem h, List.map_append]
  simp
theorem smpRw_set : ∀ (L : List Smp) (k : Nat) (y : Int) (h : k < L.length), smpRw (L.set k { L[k] with t := y }) = (smpRw L).set (k * 7) (.int .i64 y)
  | x :: r, 0, y, _ => by simp [smpRw, smpCs]
  | x :: r, k + 1, y, h => by
    have ih := smpRw_set r k y (by simpa using h)
    have e : (k + 1) * 7 = k * 7 + 7 := by omega
    show smpCs x ++ smpRw (r.set k _) = (smpCs x ++ smpRw r).set ((k + 1) * 7) _
    rw [List.set_append_right _ _ (by simp [smpCs]; omega)]
    have e2 : (k + 1) * 7 - (smpCs x).length = k * 7 := by simp [smpCs]; omega
    rw [e2]
    congr 1

/-- One sample's time in a row is set. -/
theorem own_time {w : World} {base : Nat} {g cap : Nat} {L : List Smp} (h : w.ownsRow base 28 7 (.slice (some ⟨g, 0, none⟩) L.length cap) L.length (smpRw L)) {k : Nat} (hk : k < L.length) (y : Int) :
    (w.setCell ⟨g, k * 7, none⟩ (.int .i64 y)).ownsRow base 28 7 (.slice (some ⟨g, 0, none⟩) L.length cap) L.length (smpRw (L.set k { L[k] with t := y })) := by
  rcases h.2 with ⟨hv, _⟩ | ⟨g', cap', cur, hv, hb, hg, h1, h2, h3, h4⟩
  · cases hv
  · injection hv with e1 e2 e3
    injection e1 with e1; injection e1 with e1 _ _
    subst e1; subst e3
    refine ⟨by rw [smpRw_len]; simp, .inr ⟨g, cap, cur.setIfInBounds (k * 7) (.int .i64 y), rfl, hb, block_set hg _, h1, h2, by rw [Array.size_setIfInBounds]; exact h3, ?_⟩⟩
    rw [Array.toList_setIfInBounds, List.take_set, h4, smpRw_set L k y hk]
theorem own_head {w : World} {base : Nat} {g cap n : Nat} {xs : List Value} (h : w.ownsRow base 28 7 (.slice (some ⟨g, 0, none⟩) n cap) n xs) : ∃ cur, w.heap[g]? = some (.cells cur 28 (0, 0)) := by
  rcases h.2 with ⟨hv, _⟩ | ⟨g', cap', cur, hv, hb, hg, _⟩
  · cases hv
  · injection hv with e1 e2 e3
    injection e1 with e1; injection e1 with e1 _ _
    subst e1
    exact ⟨cur, hg⟩
end Go.Proofs.Ytgkhhfojioepgaa
