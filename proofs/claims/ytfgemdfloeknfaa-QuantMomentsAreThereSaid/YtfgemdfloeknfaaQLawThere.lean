/- A moment is among the moments that clocks show then, and all of them show this: the walk. -/
import Derived.Test.YtfgemdfloeknfaaQThere
import Derived.Test.YtfgemdfloeknfaaQTold
namespace Go.Proofs.Ytfgemdfloeknfaa
open Go.RowKit

set_option maxRecDepth 100000 in
set_option maxHeartbeats 1600000 in
theorem there_walk (first m : Int) (ao : Option Addr) (cap : Nat) (cs : List (Int × Int)) (hcl : (cs.length : Int) ≤ 9223372036854775807) (w : World) (hz : ZoneAt w ao cs) :
    Calls Try.prog 9 #[.agg #[.int .i64 first, .slice ao cs.length cap], .int .i64 m] w fun e w' => e = .returned (.bool true) ∧ w.grownBy w' none := by
  have HZ := Lib.hid hz; have HCL := Lib.hid hcl; clear hz hcl
  rcases hl : localE first cs m with ⟨d, s, e⟩
  have HL := Lib.hid hl
  by_cases he : e = 0
  · subst he
    obtain ⟨z0, d0, d1, s0, s1⟩ := local_bd hl
    have hmem := (local_iff first cs z0 m d s d0 s0 s1 d1).1 hl
    obtain ⟨z1, _, _, z2⟩ := zone_ok z0
    have hrise := momP_rises (d * 86400 + s) cs 0 first (-1) z2 (by omega) (by omega)
    have hlen := momP_len (d * 86400 + s) cs 0 first
    have hall : ∀ x ∈ momP (d * 86400 + s) 0 first cs, localE first cs x = (d, s, 0) := fun x hx => (local_iff first cs z0 x d s d0 s0 s1 d1).2 hx
    have Z0 := Lib.hid z0
    have hmw : ∀ w : World, ZoneAt w ao cs → Calls Try.prog 30 #[.agg #[.int .i64 first, .slice ao cs.length cap], .int .i64 d, .int .i64 s] w _ := fun w hz => moments_walk first d s ao cap cs HCL.out w hz Z0 d0 d1 s0 s1
    obtain ⟨L, hL⟩ : ∃ L, momP (d * 86400 + s) 0 first cs = L := ⟨_, rfl⟩
    rw [hL] at hmem hrise hlen hall hmw
    have hL0 : 0 < L.length := List.length_pos_of_mem hmem
    have hL1 : L.length ≤ 1000 := by omega
    have HMEM := Lib.hid hmem; have HR := Lib.hid hrise; have HALL := Lib.hid hall; have HMW := Lib.hid hmw
    clear hmem hrise hlen hall hmw hL z0 z1 z2 hl
    go_enter Try.func9, Try.ntmps9
    go_wp2_with fail
    refine (local_is HCL.out (HZ.out.grown (World.grownBy_alloc _ _ _)) HL).mono ?_
    rintro x w1 ⟨rfl, hg1⟩
    have hga := grown_trans (World.grownBy_alloc w (.cells #[.int .i64 first, .slice ao cs.length cap] 40) none) hg1
    have hb0 : w1.cell? ⟨w.heap.size, 0, none⟩ = some (.int .i64 first) := grown_cell hg1 (by simp)
    have hb1 : w1.cell? ⟨w.heap.size, 1, none⟩ = some (.slice ao cs.length cap) := grown_cell hg1 (by simp)
    clear hg1
    go_wp2_with fail
    refine (HMW.out _ (HZ.out.grown hga)).mono ?_
    rintro x w2 ⟨⟨v, rfl, hown⟩, hg2⟩
    have hgw := grown_trans hga hg2
    have kb0 : w2.cell? ⟨w.heap.size, 0, none⟩ = some (.int .i64 first) := grown_cell hg2 hb0
    have kb1 : w2.cell? ⟨w.heap.size, 1, none⟩ = some (.slice ao cs.length cap) := grown_cell hg2 hb1
    obtain ⟨g, lcap, rfl, hlc⟩ := list_cells hown hL0
    have HLC := Lib.hid hlc; clear hg2 hown hb0 hb1 hga hlc
    have hz2 : ZoneAt w2 ao cs := HZ.out.grown hgw
    have HG := Lib.hid hgw; have HZ2 := Lib.hid hz2; have HB := Lib.hid (And.intro kb0 kb1); clear hgw hz2 kb0 kb1
    go_wp2_with fail
    go_loopw [34] (fun iv wr => ∃ j : Nat, j ≤ L.length ∧ iv = .int .i64 j ∧ w2.grownBy wr none) (fun iv _ => L.length - (intOf iv).toNat)
    case atStart => exact ⟨0, Nat.zero_le _, rfl, grown_refl _ _⟩
    case round =>
      obtain ⟨j, hj, rfl, hg⟩ := hrel
      by_cases hlt : j < L.length
      · have hc := grown_cell hg (HLC.out j hlt)
        have kb0 := grown_cell hg HB.out.1
        have kb1 := grown_cell hg HB.out.2
        have hlx := HALL.out L[j] (List.getElem_mem hlt)
        obtain ⟨x, hx⟩ : ∃ x, L[j] = x := ⟨_, rfl⟩
        rw [hx] at hc hlx
        have HLX := Lib.hid hlx; clear hlx hx
        go_wp2_with (go_at_call 28; refine (local_is HCL.out (HZ2.out.grown hg) HLX).mono ?_; rintro x w3 ⟨rfl, hg3⟩)
        go_roundw
        case rel => exact ⟨j + 1, by omega, by simp, grown_trans hg (by assumption)⟩
        case measure => simp [intOf]; omega
      · have hje : j = L.length := by omega
        subst hje
        have hlc2 : ∀ j, j < L.length → wr.cell? ⟨g, 0 + j, none⟩ = some (.int .i64 (L.getD j 0)) := fun j hj => by
          rw [Nat.zero_add, show L.getD j 0 = L[j] by simp [List.getD, List.getElem?_eq_getElem hj]]; exact grown_cell hg (HLC.out j hj)
        have hlc3 : ∀ j (hj : j < L.length), wr.cell? ⟨g, 0 + j, none⟩ = some (.int .i64 L[j]) := fun j hj => by
          rw [Nat.zero_add]; exact grown_cell hg (HLC.out j hj)
        have hct : (L.take L.length).contains m = true := by rw [List.take_length]; simpa using HMEM.out
        have HLC2 := Lib.hid hlc2; have HLC3 := Lib.hid hlc3; have HCT := Lib.hid hct; clear hlc2 hlc3 hct
        go_wp2_with (first
          | (go_at_call 34; refine (Try.slices_Contains_int g 0 L.length lcap L m _ (Nat.le_refl _) (by omega) HLC2.out).mono ?_; rintro x w4 ⟨rfl, rfl⟩; rw [HCT.out])
          | (go_at_call 35; refine (isSorted_some g 0 lcap L hL1 HR.out _ HLC3.out).mono ?_; rintro x w5 ⟨rfl, q, rfl⟩)
          | (go_at_call 16; refine (told_any _).mono ?_; rintro x w6 ⟨rfl, hg6⟩))
        go_ret
        exact ⟨rfl, grown_trans HG.out (grown_trans hg (grown_trans (grown_drewN _ _ _) (by assumption)))⟩
  · clear hl
    have hb : (e != 0) = true := by simpa using he
    go_enter Try.func9, Try.ntmps9
    go_wp2_with (first
      | (go_at_call 28; refine (local_is HCL.out (HZ.out.grown (World.grownBy_alloc _ _ _)) HL).mono ?_; rintro x w1 ⟨rfl, hg1⟩)
      | (go_at_call 16; refine (told_any _).mono ?_; rintro x w6 ⟨rfl, hg6⟩))
    go_ret
    exact ⟨rfl, grown_trans (World.grownBy_alloc _ _ _) (grown_trans (by assumption) (by assumption))⟩
end Go.Proofs.Ytfgemdfloeknfaa
