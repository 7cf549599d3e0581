/- What Only returns, purely. -/
import Derived.Test.YtgkhhfojioepgaaTCutP
import Derived.Test.YtgkhhfojioepgaaEInts
namespace Go.Proofs.Ytgkhhfojioepgaa
open Go.RowKit
set_option linter.unusedSimpArgs false
set_option linter.unusedVariables false

def Rises (l : List Int) : Prop := ∀ i, i + 1 < l.length → nthI l i < nthI l (i + 1)
def AllIn (n : Nat) (l : List Int) : Prop := ∀ i, i < l.length → 0 ≤ nthI l i ∧ nthI l i < (n : Int)
def pickS (ss : List Smp) (l : List Int) (k : Nat) : List Smp := (List.range k).map fun j => smpD ss (nthI l j).toNat
theorem pick_len (ss : List Smp) (l : List Int) (k : Nat) : (pickS ss l k).length = k := by unfold pickS; simp
theorem pick_succ (ss : List Smp) (l : List Int) (k : Nat) : pickS ss l (k + 1) = pickS ss l k ++ [smpD ss (nthI l k).toNat] := by
  unfold pickS; rw [List.range_succ, List.map_append]; rfl
theorem rises_at {l : List Int} (h : Rises l) : ∀ k, k < l.length → (0 < l.length → 0 ≤ nthI l 0) → (k : Int) ≤ nthI l k
  | 0, hk, h0 => by have := h0 hk; omega
  | k + 1, hk, h0 => by
    have a := rises_at h k (by omega) h0
    have b := h k hk
    omega
open Classical in
/-- What Only returns. -/
noncomputable def onlyO (a : Act) (l : List Int) : Act × Int :=
  if chkE a = 0 then
    if Rises l then if AllIn a.ss.length l then okV (partV a (firstT (pickS a.ss l l.length)) (pickS a.ss l l.length)) else (act0, 4) else (act0, 10)
  else (act0, chkE a)
theorem pick_bd {ss : List Smp} (h : SOk ss) {l : List Int} (hl : AllIn ss.length l) : ∀ x ∈ pickS ss l l.length, 0 ≤ x.t ∧ x.t ≤ 1000000 := fun x hx => by
  unfold pickS at hx
  obtain ⟨j, hj, rfl⟩ := List.mem_map.1 hx
  rw [List.mem_range] at hj
  have := hl j hj
  have := h.inn (nthI l j).toNat (by omega)
  omega
theorem all_le {n : Nat} {l : List Int} (h : Rises l) (hl : AllIn n l) : l.length ≤ n := by
  rcases Nat.eq_zero_or_pos l.length with h0 | h0
  · omega
  · have a := rises_at h (l.length - 1) (by omega) (fun h1 => (hl 0 h1).1)
    have b := hl (l.length - 1) (by omega)
    omega

/-- All numbers. -/
def allI (n : Nat) : List Int := (List.range n).map fun (i : Nat) => (i : Int)
theorem allI_len (n : Nat) : (allI n).length = n := by unfold allI; simp
theorem allI_at {n i : Nat} (h : i < n) : nthI (allI n) i = (i : Int) := by
  rw [nthI_at (by rw [allI_len]; exact h)]; unfold allI; simp
theorem allI_rises (n : Nat) : Rises (allI n) := fun i hi => by
  rw [allI_len] at hi
  rw [allI_at (by omega), allI_at hi]; omega
theorem allI_in (n : Nat) : AllIn n (allI n) := fun i hi => by
  rw [allI_len] at hi
  rw [allI_at hi]; omega
theorem pick_all (ss : List Smp) : pickS ss (allI ss.length) (allI ss.length).length = ss := by
  rw [allI_len]
  refine List.ext_getElem (by rw [pick_len]) (fun i h1 h2 => ?_)
  have e : (pickS ss (allI ss.length) ss.length)[i] = smpD ss (nthI (allI ss.length) i).toNat := by simp [pickS]
  rw [e, allI_at h2, Int.toNat_natCast, smpD_at h2]
theorem mv_zero (L : List Smp) : L.map (mvS 0) = L := by
  have e : mvS 0 = id := by funext x; unfold mvS; simp
  rw [e, List.map_id]
theorem laps_self {sp : Int} : ∀ (l : List LapV), (∀ x ∈ l, 0 ≤ x.fr ∧ x.fr < x.to_ ∧ x.to_ ≤ sp) → lapsM 0 sp l = l
  | [], _ => rfl
  | x :: r, h => by
    have hx := h x (by simp)
    have e : lapM 0 sp x = some x := by
      obtain ⟨f, t, n⟩ := x
      simp only at hx
      unfold lapM
      have e1 : max (f - 0) 0 = f := by omega
      have e2 : min (t - 0) sp = t := by omega
      simp only [e1, e2]
      rw [if_pos hx.2.1]
    unfold lapsM
    rw [List.filterMap_cons_some e]
    congr 1
    exact laps_self r (fun y hy => h y (by simp [hy]))
theorem part_self {a : Act} (h : ActOk a) : partV a (firstT a.ss) a.ss = a := by
  have e0 : firstT a.ss = 0 := by
    have q := (sok_of h).t0
    cases hs : a.ss with
    | nil => rfl
    | cons x r =>
      have := q (by rw [hs]; simp)
      rw [hs] at this; exact this
  have hl := laps_self a.ls (laps_in_bd a.ls 0 h.laps)
  unfold partV
  rw [e0, Int.neg_zero, mv_zero, hl, Int.add_zero]
theorem only_all {a : Act} (h : chkE a = 0) : onlyO a (allI a.ss.length) = (a, 0) := by
  unfold onlyO
  rw [if_pos h, if_pos (allI_rises _), if_pos (allI_in _), pick_all, part_self (chk_ok h)]
  unfold okV
  rw [h]; rfl
end Go.Proofs.Ytgkhhfojioepgaa
