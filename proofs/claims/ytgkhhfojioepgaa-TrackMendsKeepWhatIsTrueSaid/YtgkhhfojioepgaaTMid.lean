/- The middle one of heights, the program's. -/
import Derived.Test.YtgkhhfojioepgaaBaseC
import Derived.Test.YtgkhhfojioepgaaBaseD
import Derived.Test.YtgkhhfojioepgaaShelf2
import Derived.Test.YtgkhhfojioepgaaBaseE
import Derived.Sort.OwnSortedInts
import Derived.Deep.OwnRows
import Derived.Deep.CutBlock
namespace Go.Proofs.Ytgkhhfojioepgaa
open Go.RowKit Go.Shelf
set_option linter.unusedSimpArgs false
set_option linter.unusedVariables false

attribute [local go_sem] Oper.semAt_some

def nthZ (l : List Int) (i : Nat) : Int := l.getD i 0
/-- The middle one of numbers, of two the lower one. -/
noncomputable def midV (l : List Int) : Int := nthZ (l.mergeSort fun x y => decide (x ≤ y)) ((l.length - 1) / 2)
def zsOf (L : List Smp) : List Int := L.map Smp.z
theorem zs_row (L : List Smp) : iRow L.length (fun j => (smpD L j).z) = ((zsOf L).map (Value.int .i64)).toArray := by
  unfold iRow zsOf
  congr 1
  apply List.ext_getElem
  · simp
  · intro i h1 h2
    simp only [List.length_map, List.length_range] at h1
    simp [smpD_at h1]
theorem sorted_cell {w : World} {g : Nat} {l : List Int} {n : Nat} {os : Array Obj} (hR : w.heap[g]? = some (.cells (l.map (Value.int .i64)).toArray 3 (0, 0))) {k : Nat} (hk : k < l.length) :
    (Sort.grow (Sort.putRow (Value.int .i64) (Sort.ahead w n) g 0 (l.mergeSort fun x y => decide (x ≤ y)).toArray) os).cell? ⟨g, k, none⟩ = some (.int .i64 (nthZ (l.mergeSort fun x y => decide (x ≤ y)) k)) := by
  have q := heap_sortedI (n := n) (os := os) (l.mergeSort fun x y => decide (x ≤ y)).toArray hR
  have hl : (l.mergeSort fun x y => decide (x ≤ y)).length = l.length := List.length_mergeSort _
  refine (cell_of_row _ _ k _ _ (0, 0) q).trans ?_
  have t := take_putCellsI (l.map (Value.int .i64)).toArray (l.mergeSort fun x y => decide (x ≤ y)) (by simp [hl])
  have t2 : ((Sort.putCells (Value.int .i64) 0 (l.mergeSort fun x y => decide (x ≤ y)).toArray (l.map (Value.int .i64)).toArray).toList.take (l.mergeSort fun x y => decide (x ≤ y)).length)[k]? = ((l.mergeSort fun x y => decide (x ≤ y)).map (Value.int .i64))[k]? := by rw [t]
  rw [List.getElem?_take_of_lt (by omega), Array.getElem?_toList] at t2
  rw [t2]
  unfold nthZ
  rw [List.getD_eq_getElem?_getD, List.getElem?_map, List.getElem?_eq_getElem (by omega)]
  rfl

set_option maxRecDepth 100000 in
set_option maxHeartbeats 1600000 in
theorem middle_is (b o cap : Nat) (L : List Smp) (h1 : 1 ≤ L.length) (h2 : L.length ≤ 200) (w : World) (hs : SmpsAt w (some ⟨b, o, none⟩) L) :
    Calls Try.prog 88 #[.slice (some ⟨b, o, none⟩) L.length cap] w fun e w' => e = .returned (.int .i64 (midV (zsOf L))) ∧ w.grownBy w' none := by
  have HS := Lib.hid hs
  have hmk := run_make_row' (P := Try.prog) 48 3 (.int .i64 0) 8 Try.underlying48 info_int rfl .i64 .i64 L.length (by omega) (by omega)
  clear hs
  go_enter Try.func88, Try.ntmps88
  go_upto_region 2 with (fail)
  obtain ⟨V, hV⟩ : ∃ V, w.alloc (.cells (madeCells #[.int .i64 0] L.length) 3) = V := ⟨_, rfl⟩
  have G0 : Hid (w.grownBy V none) := by show _; rw [← hV]; exact World.grownBy_alloc _ _ _
  have R0 : Hid (RowAt V w.heap.size L.length (fun j => if j < 0 then (smpD L j).z else 0)) := by
    show V.heap[w.heap.size]? = _
    rw [← hV]
    have q := heap_alloc_new w (.cells (madeCells #[.int .i64 0] L.length) 3)
    rw [q, iRow_zero]
    simp
  rw [hV]
  clear hV hmk
  have HB : Hid (w.heap.size < V.heap.size) := lt_of_block R0.out
  obtain ⟨hb, hhb⟩ : ∃ g, w.heap.size = g := ⟨_, rfl⟩
  have HHB := Lib.hid hhb
  rw [hhb] at R0 ⊢
  clear hhb
  go_wp2_with fail
  go_loopw [11] (fun iv wr => ∃ (k : Nat), iv = .int .i64 k ∧ k ≤ L.length ∧ Hid (RowAt wr hb L.length (fun j => if j < k then (smpD L j).z else 0)) ∧ Hid (w.grownBy wr none)) (fun iv _ => L.length - (intOf iv).toNat)
  case atStart => exact ⟨0, rfl, Nat.zero_le _, R0, G0⟩
  case round =>
    clear R0 G0
    obtain ⟨k, rfl, hk, R, G⟩ := hrel
    by_cases hlt : k < L.length
    · obtain ⟨c0, c1, c2, c3, c4, c5, c6⟩ := (HS.out.grown G.out).cells _ rfl k hlt
      rw [← smpD_at hlt] at c0 c1 c2 c3 c4 c5 c6
      have hnx : updI (fun j => if j < k then (smpD L j).z else 0) k (smpD L k).z = fun j => if j < k + 1 then (smpD L j).z else 0 := by
        funext j
        unfold updI
        by_cases e : j = k
        · rw [if_pos e, if_pos (by omega), e]
        · rw [if_neg e]
          show (if j < k then (smpD L j).z else 0) = _
          by_cases e2 : j < k
          · rw [if_pos e2, if_pos (by omega)]
          · rw [if_neg e2, if_neg (by omega)]
      have HNX := Lib.hid hnx
      simp only at c0 c1 c2 c3 c4 c5 c6
      generalize smpD L k = x at *
      have i0 : (0 : Int) ≤ (k : Int) := by omega
      have i1 : (k : Int) < (L.length : Int) := by omega
      have rk : IntKind.i64.wrap ((k : Int) + 1) = (k : Int) + 1 := IntWalk.i64_in _ (by omega)
      have HLT := Lib.hid hlt
      clear hnx
      go_upto_region 5 with (fail)
      obtain ⟨V1, hV⟩ : ∃ V, wr.alloc (.cells #[.int .i64 x.t, .int .i64 x.x, .int .i64 x.y, .int .i64 x.z, .int .i64 x.p, .int .i64 x.q, .int .i64 x.s] 28) = V := ⟨_, rfl⟩
      have gV : wr.grownBy V1 none := by rw [← hV]; exact World.grownBy_alloc _ _ _
      have BX : Hid (V1.heap[wr.heap.size]? = some (.cells #[.int .i64 x.t, .int .i64 x.x, .int .i64 x.y, .int .i64 x.z, .int .i64 x.p, .int .i64 x.q, .int .i64 x.s] 28 (0, 0))) := by show _; rw [← hV]; exact heap_alloc_new _ _
      rw [hV]
      have R1 := Lib.hid (R.out.grown gV)
      have G1 := Lib.hid (grown_trans G.out gV)
      clear hV gV c0 c1 c2 c3 c4 c5 c6 R G
      generalize wr.heap.size = xb at *
      have z3 := block_cell BX.out 3 _ rfl
      have kc := R1.out.cell hlt
      have kf := R1.out.free k
      have R2 := R1.out.set k x.z
      rw [HNX.out] at R2
      have HR2 := Lib.hid R2
      have HG2 : Hid (w.grownBy (V1.setCell ⟨hb, k, none⟩ (.int .i64 x.z)) none) := grown_far G1.out (by have := HHB.out; omega) _ _
      clear R2 R1 G1
      go_wp2_with fail
      go_roundw
      case rel => exact ⟨k + 1, by go_num, HLT.out, HR2, HG2⟩
      case measure => have := HLT.out; simp [intOf]; omega
    · obtain rfl : k = L.length := by omega
      have hZ : wr.heap[hb]? = some (.cells ((zsOf L).map (Value.int .i64)).toArray 3 (0, 0)) := by
        rw [← zs_row]
        exact R.out.congr (fun j hj => by rw [if_pos hj])
      have hzl : (zsOf L).length = L.length := by simp [zsOf]
      have KS : Hid (Calls Try.prog 143 #[.slice (some ⟨hb, 0, none⟩) L.length L.length] wr fun e w' => e = .returned (.tuple #[]) ∧ ∃ n os, w' = Sort.grow (Sort.putRow (Value.int .i64) (Sort.ahead wr n) hb 0 ((zsOf L).mergeSort fun x y => decide (x ≤ y)).toArray) os) := by
        have q := Try.slices_Sort_int hb 0 L.length (zsOf L) wr (holds_of_blockI hZ (by rw [show (((zsOf L).map (Value.int .i64)).toArray).toList = (zsOf L).map (Value.int .i64) from rfl, List.take_of_length_le (by simp)])) (lt_of_block hZ) (by omega)
        rw [hzl] at q
        exact q
      have HZ := Lib.hid hZ; have HZL := Lib.hid hzl
      clear hZ hzl R hk hlt
      go_wp2_with fail
      refine KS.out.mono ?_; rintro e w5 ⟨rfl, n, os, hw⟩
      obtain ⟨m, hm⟩ : ∃ m, (L.length - 1) / 2 = m := ⟨_, rfl⟩
      have c1 := sorted_cell (n := n) (os := os) HZ.out (k := m) (by have := HZL.out; omega)
      rw [← hw] at c1
      have g5 : Hid (w.grownBy w5 none) := by
        show _
        rw [hw]
        exact grown_rowR G.out (grownBy_sortedI _) (fun r hr => by injection hr with hr; have := HHB.out; omega)
      have HV : Hid (midV (zsOf L) = nthZ ((zsOf L).mergeSort fun x y => decide (x ≤ y)) m) := by show _ = _; unfold midV; rw [HZL.out, hm]
      obtain ⟨v, hv⟩ : ∃ v, nthZ ((zsOf L).mergeSort fun x y => decide (x ≤ y)) m = v := ⟨_, rfl⟩
      have HV := Lib.hid (HV.out.trans hv)
      rw [hv] at c1
      have r1 : IntKind.i64.wrap ((L.length : Int) - 1) = (L.length : Int) - 1 := IntWalk.i64_in _ (by omega)
      have r2 : ((L.length : Int) - 1).tdiv 2 = (m : Int) := by rw [Int.tdiv_eq_ediv_of_nonneg (by omega)]; omega
      have r3 : IntKind.i64.wrap (m : Int) = (m : Int) := IntWalk.i64_in _ (by omega)
      have i0 : (0 : Int) ≤ (m : Int) := by omega
      have i1 : (m : Int) < (L.length : Int) := by omega
      clear hw KS hm hv
      go_wp2_with fail
      go_ret
      exact ⟨ret_int HV.out.symm, g5.out⟩
end Go.Proofs.Ytgkhhfojioepgaa
