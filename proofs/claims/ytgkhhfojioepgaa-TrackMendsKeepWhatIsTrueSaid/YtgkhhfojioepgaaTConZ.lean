/- Heights of Level, purely; slices.ContainsFunc for the height of a sample. -/
import Derived.Test.YtgkhhfojioepgaaTLevel
import Derived.Test.YtgkhhfojioepgaaTMendP
namespace Go.Proofs.Ytgkhhfojioepgaa
open Go.RowKit
set_option linter.unusedSimpArgs false
set_option linter.unusedVariables false

attribute [local go_sem] Oper.semAt_some
theorem lv_at (A : List Smp) (wd : Nat) : ∀ k, k ≤ A.length → ∀ m, smpD (lvA A wd k) m = if m < k then smpSet 3 (smpD A m) (midV (zsOf (winL A wd m))) else smpD A m
  | 0, _, m => by unfold lvA; rw [if_neg (Nat.not_lt_zero m)]
  | k + 1, hk, m => by
    unfold lvA
    rw [smpD_set, lv_len, lv_at A wd k (by omega) k, if_neg (Nat.lt_irrefl k)]
    by_cases h : k = m
    · rw [if_pos ⟨h, by omega⟩, if_pos (by omega), h]
    · rw [if_neg (fun q => h q.1), lv_at A wd k (by omega) m]
      by_cases h2 : m < k
      · rw [if_pos h2, if_pos (by omega)]
      · rw [if_neg h2, if_neg (by omega)]
theorem mid_mem {xs : List Int} (h : 0 < xs.length) : midV xs ∈ xs := by
  unfold midV nthZ
  have hl : (xs.mergeSort fun x y => decide (x ≤ y)).length = xs.length := List.length_mergeSort _
  have q : (xs.mergeSort fun x y => decide (x ≤ y)).getD ((xs.length - 1) / 2) 0 ∈ xs.mergeSort fun x y => decide (x ≤ y) := by
    rw [List.getD_eq_getElem?_getD, List.getElem?_eq_getElem (by omega), Option.getD_some]
    exact List.getElem_mem _
  exact List.mem_mergeSort.1 q
/-- The height that Level gives is one of those around. -/
theorem lv_has {A : List Smp} {wd i : Nat} (hi : i < A.length) : ∃ j, ∃ h : j < (winL A wd i).length, ((winL A wd i)[j]).z = (smpD (lvA A wd A.length) i).z := by
  have q := win_len (wd := wd) hi
  have m := mid_mem (xs := zsOf (winL A wd i)) (by unfold zsOf; rw [List.length_map]; omega)
  obtain ⟨j, hj, e⟩ := List.getElem_of_mem m
  have hj2 : j < (winL A wd i).length := by unfold zsOf at hj; rwa [List.length_map] at hj
  refine ⟨j, hj2, ?_⟩
  rw [lv_at A wd A.length (Nat.le_refl _) i, if_pos hi]
  show _ = midV (zsOf (winL A wd i))
  rw [← e]
  simp [zsOf]
theorem first_of {L : List Smp} {z : Int} (h : ∃ j, ∃ h : j < L.length, (L[j]).z = z) : ∃ k, k < L.length ∧ (smpD L k).z = z ∧ ∀ j, j < k → (smpD L j).z ≠ z := by
  obtain ⟨j, hj, e⟩ := h
  rw [← smpD_at hj] at e
  revert hj e
  induction j using Nat.strongRecOn with
  | ind j ih =>
    intro hj e
    by_cases q : ∃ i, i < j ∧ (smpD L i).z = z
    · obtain ⟨i, h1, h2⟩ := q
      exact ih i h1 (by omega) h2
    · exact ⟨j, hj, e, fun i hi h2 => q ⟨i, hi, h2⟩⟩

theorem sameZ_is (x : Smp) (z : Int) (sb : Nat) (w : World) (hz : w.cell? ⟨sb, 3, none⟩ = some (.int .i64 z)) :
    Calls Try.prog 39 #[.agg #[.int .i64 x.t, .int .i64 x.x, .int .i64 x.y, .int .i64 x.z, .int .i64 x.p, .int .i64 x.q, .int .i64 x.s], .pointer (some ⟨sb, 0, none⟩)] w fun e w' => e = .returned (.bool (x.z == z)) ∧ w.grownBy w' none := by
  go_enter Try.func39, Try.ntmps39
  have q : (w.alloc (.cells #[.int .i64 x.t, .int .i64 x.x, .int .i64 x.y, .int .i64 x.z, .int .i64 x.p, .int .i64 x.q, .int .i64 x.s] 28)).cell? ⟨sb, 3, none⟩ = some (.int .i64 z) := grown_cell (World.grownBy_alloc _ _ _) hz
  go_wp2_with fail
  go_ret
  exact ⟨rfl, World.grownBy_alloc _ _ _⟩

set_option maxRecDepth 100000 in
set_option maxHeartbeats 1600000 in
theorem indexZ_is (b o cap : Nat) (L : List Smp) (hl : (L.length : Int) ≤ 1000) (z : Int) (k0 : Nat) (h0 : k0 < L.length) (h1 : (smpD L k0).z = z) (h2 : ∀ j, j < k0 → (smpD L j).z ≠ z) (sb : Nat) (w : World) (hs : SmpsAt w (some ⟨b, o, none⟩) L) (hz : w.cell? ⟨sb, 3, none⟩ = some (.int .i64 z)) :
    Calls Try.prog 98 #[.slice (some ⟨b, o, none⟩) L.length cap, .func (.func 39) #[] #[.pointer (some ⟨sb, 0, none⟩)]] w fun e w' => e = .returned (.int .i64 (k0 : Int)) ∧ w.grownBy w' none := by
  have HS := Lib.hid hs; have HZ := Lib.hid hz; have H1 := Lib.hid h1; have H2 := Lib.hid h2; have H0 := Lib.hid h0
  clear hs hz h1 h2 h0
  go_enter Try.func98, Try.ntmps98
  go_wp2_with fail
  go_loopw [8] (fun iv wr => ∃ k : Nat, k ≤ k0 ∧ iv = .int .i64 (k : Int) ∧ Hid (w.grownBy wr none)) (fun iv _ => L.length - (intOf iv).toNat)
  case atStart => exact ⟨0, Nat.zero_le _, rfl, grown_refl _ _⟩
  case round =>
    obtain ⟨k, hk, rfl, hG⟩ := hrel
    have h0 := H0.out
    have hlt : k < L.length := by omega
    obtain ⟨c0, c1, c2, c3, c4, c5, c6⟩ := (HS.out.grown hG.out).cells _ rfl k hlt
    rw [← smpD_at hlt] at c0 c1 c2 c3 c4 c5 c6
    simp only at c0 c1 c2 c3 c4 c5 c6
    have i0 : (0 : Int) ≤ (k : Int) := by omega
    have i1 : (k : Int) < (L.length : Int) := by omega
    have rk : IntKind.i64.wrap ((k : Int) + 1) = (k : Int) + 1 := IntWalk.i64_in _ (by omega)
    by_cases he : k = k0
    · have hp : ((smpD L k).z == z) = true := by rw [he, H1.out]; simp
      have KF : Hid (∀ V : World, w.grownBy V none → Calls Try.prog 39 #[.agg #[.int .i64 (smpD L k).t, .int .i64 (smpD L k).x, .int .i64 (smpD L k).y, .int .i64 (smpD L k).z, .int .i64 (smpD L k).p, .int .i64 (smpD L k).q, .int .i64 (smpD L k).s], .pointer (some ⟨sb, 0, none⟩)] V fun e w' => e = .returned (.bool true) ∧ V.grownBy w' none) := fun V hV => by
        have q := sameZ_is (smpD L k) z sb V (grown_cell hV HZ.out)
        rw [hp] at q; exact q
      have HE := Lib.hid he
      clear hp he h0
      generalize smpD L k = x at *
      go_wp2_with fail
      refine (KF.out _ hG.out).mono ?_; rintro e w1 ⟨rfl, hg⟩
      have G1 := Lib.hid (grown_trans hG.out hg)
      clear hg
      go_wp2_with fail
      go_ret
      exact ⟨ret_int (by rw [HE.out]), G1.out⟩
    · have hp : ((smpD L k).z == z) = false := by
        have := H2.out k (by omega)
        simpa using this
      have KF : Hid (∀ V : World, w.grownBy V none → Calls Try.prog 39 #[.agg #[.int .i64 (smpD L k).t, .int .i64 (smpD L k).x, .int .i64 (smpD L k).y, .int .i64 (smpD L k).z, .int .i64 (smpD L k).p, .int .i64 (smpD L k).q, .int .i64 (smpD L k).s], .pointer (some ⟨sb, 0, none⟩)] V fun e w' => e = .returned (.bool false) ∧ V.grownBy w' none) := fun V hV => by
        have q := sameZ_is (smpD L k) z sb V (grown_cell hV HZ.out)
        rw [hp] at q; exact q
      have HK : Hid (k + 1 ≤ k0) := by show _ ≤ _; omega
      clear hp he h0
      generalize smpD L k = x at *
      go_wp2_with fail
      refine (KF.out _ hG.out).mono ?_; rintro e w1 ⟨rfl, hg⟩
      have G1 := Lib.hid (grown_trans hG.out hg)
      clear hg
      go_wp2_with fail
      go_roundw
      case rel => exact ⟨k + 1, HK.out, by go_num, G1⟩
      case measure => have := HK.out; have := H0.out; simp [intOf]; omega

theorem containsZ_is (b o cap : Nat) (L : List Smp) (hl : (L.length : Int) ≤ 1000) (z : Int) (hex : ∃ j, ∃ h : j < L.length, (L[j]).z = z) (sb : Nat) (w : World) (hs : SmpsAt w (some ⟨b, o, none⟩) L) (hz : w.cell? ⟨sb, 3, none⟩ = some (.int .i64 z)) :
    Calls Try.prog 38 #[.slice (some ⟨b, o, none⟩) L.length cap, .func (.func 39) #[] #[.pointer (some ⟨sb, 0, none⟩)]] w fun e w' => e = .returned (.bool true) ∧ w.grownBy w' none := by
  obtain ⟨k0, h0, h1, h2⟩ := first_of hex
  have HC := Lib.hid (indexZ_is b o cap L hl z k0 h0 h1 h2 sb w hs hz)
  have hd : decide ((0 : Int) ≤ (k0 : Int)) = true := by simp
  clear h0 h1 h2 hs hz hex
  go_enter Try.func38, Try.ntmps38
  go_wp2_with fail
  refine HC.out.mono ?_; rintro e w1 ⟨rfl, hg⟩
  have G := Lib.hid hg
  clear hg
  go_wp2_with fail
  go_ret
  exact ⟨by first | rfl | simp, G.out⟩
end Go.Proofs.Ytgkhhfojioepgaa
