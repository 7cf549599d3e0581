/- The contract of the reference's Best. -/
import Derived.Test.YtmfnphknoclhfaaFRBest
import Derived.Test.YtmfnphknoclhfaaETold
namespace Go.Proofs.Ytmfnphknoclhfaa
open Go.RowKit

set_option maxRecDepth 100000 in
set_option maxHeartbeats 1600000 in
theorem rBest_any (ao : Option Addr) (cap : Nat) (l : List Int) (hl : (l.length : Int) ≤ 9223372036854775807) (size : Int) (w : World) (hs : IntsAt w ao l) {z : Int} {b : BSt} {E : Int} (hE : Hid (bestOut l size = (z, b, E))) :
    Calls Try.prog 58 #[.slice ao l.length cap, .int .i64 size] w fun e w' => e = .returned (.tuple #[.agg (b.cells z), .int .i64 E]) ∧ w.grownBy w' none := by
  obtain ⟨we, hwe⟩ : ∃ e, windowE l size = e := ⟨_, rfl⟩
  have HWE := Lib.hid hwe; have HS := Lib.hid hs
  have hv := hE.out
  unfold bestOut at hv
  rw [hwe] at hv
  clear hE hs
  by_cases h0 : we = 0
  · rw [if_pos h0] at hv
    subst h0
    simp only [Prod.mk.injEq] at hv
    obtain ⟨rfl, hb, rfl⟩ := hv
    obtain ⟨h1, h2, h3⟩ := window_ok hwe
    obtain ⟨sz, rfl⟩ : ∃ n : Nat, size = n := ⟨size.toNat, by omega⟩
    simp only [Int.toNat_natCast] at hb
    have HB := Lib.hid hb
    have HSE := Lib.hid h1
    have h4 := stream_ok h1
    have z1 : ¬ (sz : Int) < 1 := by omega
    have z2 : ¬ (1000000 : Int) < (sz : Int) := by omega
    have HV := Lib.hid h4.2
    have h5 := h4.1
    have h6 : 1 ≤ sz := by omega
    have h7 : sz ≤ 1000000 := by omega
    clear hb hwe h1 h2 h3 h4
    obtain ⟨bs, ba, bf⟩ := b
    go_enter Try.func58, Try.ntmps58
    have GA := World.grownBy_alloc w (.cells #[.int .i64 0, .int .i64 0, .int .i64 0, .bool false] 34) none
    have HSA := Lib.hid (HS.out.grown GA)
    go_wp2_with fail
    refine (rcheckStream_any _ _ _ hl _ HSA.out HSE).mono ?_; rintro e w1 ⟨rfl, rfl⟩
    go_wp2_with fail
    refine (rbest_is ao cap l h5 HV sz h6 h7 _ HSA.out HB).mono ?_; rintro e w1 ⟨rfl, hg1⟩
    have HG := Lib.hid (grown_trans GA hg1)
    have hr : w1.heap[w.heap.size]? = some (.cells #[.int .i64 0, .int .i64 0, .int .i64 0, .bool false] 34 (0, 0)) := by
      rw [hg1.block _ (by simp) (by simp)]; exact heap_alloc_new w _
    have r0 : w1.cell? ⟨w.heap.size, 0, none⟩ = some (.int .i64 0) := by simp [World.cell?, hr]
    have r1 : w1.cell? ⟨w.heap.size, 1, none⟩ = some (.int .i64 0) := by simp [World.cell?, hr]
    have r2 : w1.cell? ⟨w.heap.size, 2, none⟩ = some (.int .i64 0) := by simp [World.cell?, hr]
    have r3 : w1.cell? ⟨w.heap.size, 3, none⟩ = some (.bool false) := by simp [World.cell?, hr]
    have y0 : w1.frozen? ⟨w.heap.size, 0, none⟩ = false := by simp [World.frozen?, hr]
    have y1 : w1.frozen? ⟨w.heap.size, 1, none⟩ = false := by simp [World.frozen?, hr]
    have y2 : w1.frozen? ⟨w.heap.size, 2, none⟩ = false := by simp [World.frozen?, hr]
    have y3 : w1.frozen? ⟨w.heap.size, 3, none⟩ = false := by simp [World.frozen?, hr]
    clear hg1 GA hr
    go_wp2_with fail
    refine bodyPost_ret (v := .tuple #[.agg #[.int .i64 sz, .int .i64 bs, .int .i64 ba, .bool bf], .int .i64 0]) (by simp [results, Try.results58, go_sem, r0, r1, r2, r3]) rfl ⟨rfl, ?_⟩
    exact egrown_set (egrown_set (egrown_set (egrown_set HG.out (Nat.le_refl _) _ _) (Nat.le_refl _) _ _) (Nat.le_refl _) _ _) (Nat.le_refl _) _ _
  · rw [if_neg h0] at hv
    simp only [Prod.mk.injEq] at hv
    obtain ⟨rfl, rfl, rfl⟩ := hv
    obtain ⟨se, hse⟩ : ∃ e, streamE l = e := ⟨_, rfl⟩
    have HSE := Lib.hid hse
    unfold windowE at hwe
    rw [hse] at hwe
    have GA := World.grownBy_alloc w (.cells #[.int .i64 0, .int .i64 0, .int .i64 0, .bool false] 34) none
    have HSA := Lib.hid (HS.out.grown GA)
    by_cases hs0 : se = 0
    · rw [if_pos hs0] at hwe
      subst hs0
      have hsz : ¬ (1 ≤ size ∧ size ≤ 1000000) := fun h => by rw [if_pos h] at hwe; exact h0 hwe.symm
      rw [if_neg hsz] at hwe
      subst hwe
      clear hse h0 HWE
      by_cases z1 : size < 1
      · go_enter Try.func58, Try.ntmps58
        go_wp2_with fail
        refine (rcheckStream_any _ _ _ hl _ HSA.out HSE).mono ?_; rintro e w1 ⟨rfl, rfl⟩
        go_wp2_with fail
        refine bodyPost_ret (v := .tuple #[.agg #[.int .i64 0, .int .i64 0, .int .i64 0, .bool false], .int .i64 9]) (by simp [results, Try.results58, go_sem]) rfl ⟨rfl, ?_⟩
        exact GA
      · have z2 : (1000000 : Int) < size := by omega
        go_enter Try.func58, Try.ntmps58
        go_wp2_with fail
        refine (rcheckStream_any _ _ _ hl _ HSA.out HSE).mono ?_; rintro e w1 ⟨rfl, rfl⟩
        go_wp2_with fail
        refine bodyPost_ret (v := .tuple #[.agg #[.int .i64 0, .int .i64 0, .int .i64 0, .bool false], .int .i64 9]) (by simp [results, Try.results58, go_sem]) rfl ⟨rfl, ?_⟩
        exact GA
    · rw [if_neg hs0] at hwe
      subst hwe
      have hne : (se != 0) = true := by simpa using h0
      clear h0 hs0 hse HWE
      go_enter Try.func58, Try.ntmps58
      go_wp2_with fail
      refine (rcheckStream_any _ _ _ hl _ HSA.out HSE).mono ?_; rintro e w1 ⟨rfl, rfl⟩
      go_wp2_with fail
      refine bodyPost_ret (v := .tuple #[.agg #[.int .i64 0, .int .i64 0, .int .i64 0, .bool false], .int .i64 se]) (by simp [results, Try.results58, go_sem]) rfl ⟨rfl, ?_⟩
      exact GA

end Go.Proofs.Ytmfnphknoclhfaa
