/- The contracts of Best and of told. -/
import Derived.Test.YtfeefijaahjheaaEBest
namespace Go.Proofs.Ytfeefijaahjheaa
open Go.RowKit
set_option linter.unusedSimpArgs false
set_option linter.unusedVariables false

theorem IntsAt.block {w : World} {ao : Option Addr} {l : List Int} (h : IntsAt w ao l) : ∀ a, ao = some a → l ≠ [] → a.block < w.heap.size := fun a ha hne => by
  have h0 : 0 < l.length := List.length_pos_iff.2 hne
  have := h.cells a ha 0 h0
  unfold World.cell? at this
  cases hb : w.heap[a.block]? with
  | none => simp [hb] at this
  | some o => exact (Array.getElem?_eq_some_iff.1 hb).1

/-- What is wrong with a stream and a size of windows. -/
def windowE (l : List Int) (size : Int) : Int := if streamE l = 0 then (if 1 ≤ size ∧ size ≤ 1000000 then 0 else 9) else streamE l
theorem checkWindow_any (ao : Option Addr) (cap : Nat) (l : List Int) (hl : (l.length : Int) ≤ 9223372036854775807) (size : Int) (w : World) (hs : IntsAt w ao l) {E : Int} (hE : Hid (windowE l size = E)) :
    Calls Try.prog 48 #[.slice ao l.length cap, .int .i64 size] w fun e w' => e = .returned (.int .i64 E) ∧ w = w' := by
  obtain ⟨se, hse⟩ : ∃ e, streamE l = e := ⟨_, rfl⟩
  have HSE := Lib.hid hse
  have hv := hE.out
  unfold windowE at hv
  rw [hse] at hv
  clear hE hse
  by_cases h0 : se = 0
  · rw [if_pos h0] at hv
    subst h0
    by_cases h1 : 1 ≤ size ∧ size ≤ 1000000
    · rw [if_pos h1] at hv
      have HV := Lib.hid hv; have H1 := Lib.hid h1
      clear hv h1
      go_enter Try.func48, Try.ntmps48
      go_wp2_with (first
        | (go_at_call 13; refine (checkStream_any _ _ _ hl _ hs HSE).mono ?_; rintro e w1 ⟨rfl, rfl⟩)
        | (go_at_call 51; refine (ewithin_yes _ _ _ H1.out _).mono ?_; rintro e w1 ⟨rfl, rfl⟩))
      go_ret
      exact ⟨ret_int HV.out, rfl⟩
    · rw [if_neg h1] at hv
      have HV := Lib.hid hv; have H1 := Lib.hid h1
      clear hv h1
      go_enter Try.func48, Try.ntmps48
      go_wp2_with (first
        | (go_at_call 13; refine (checkStream_any _ _ _ hl _ hs HSE).mono ?_; rintro e w1 ⟨rfl, rfl⟩)
        | (go_at_call 51; refine (ewithin_no _ _ _ H1.out _).mono ?_; rintro e w1 ⟨rfl, rfl⟩))
      go_ret
      exact ⟨ret_int HV.out, rfl⟩
  · rw [if_neg h0] at hv
    have HV := Lib.hid hv
    have hne : (se != 0) = true := by simpa using h0
    clear hv h0
    go_enter Try.func48, Try.ntmps48
    go_wp2_with (go_at_call 13; refine (checkStream_any _ _ _ hl _ hs HSE).mono ?_; rintro e w1 ⟨rfl, rfl⟩)
    go_ret
    exact ⟨ret_int HV.out, rfl⟩

/-- What Best returns: the size, the window, and the error. -/
def bestOut (l : List Int) (size : Int) : Int × BSt × Int := if windowE l size = 0 then (size, bestL l size.toNat, 0) else (0, ⟨0, 0, false⟩, windowE l size)
theorem window_ok {l : List Int} {size : Int} (h : windowE l size = 0) : streamE l = 0 ∧ 1 ≤ size ∧ size ≤ 1000000 := by
  unfold windowE at h
  split at h
  · rename_i hs
    split at h
    · rename_i h1; exact ⟨hs, h1⟩
    · omega
  · rename_i hs; exact absurd h hs

theorem Best_any (ao : Option Addr) (cap : Nat) (l : List Int) (hl : (l.length : Int) ≤ 9223372036854775807) (size : Int) (w : World) (hs : IntsAt w ao l) {z : Int} {b : BSt} {E : Int} (hE : Hid (bestOut l size = (z, b, E))) :
    Calls Try.prog 9 #[.slice ao l.length cap, .int .i64 size] w fun e w' => e = .returned (.tuple #[.agg (b.cells z), .int .i64 E]) ∧ w.grownBy w' none := by
  obtain ⟨we, hwe⟩ : ∃ e, windowE l size = e := ⟨_, rfl⟩
  have HWE := Lib.hid hwe; have HS := Lib.hid hs
  have hv := hE.out
  unfold bestOut at hv
  rw [hwe] at hv
  clear hE hs
  by_cases h0 : we = 0
  · rw [if_pos h0] at hv
    subst h0
    simp only [Prod.mk.injEq] at hv
    obtain ⟨rfl, hb, rfl⟩ := hv
    obtain ⟨h1, h2, h3⟩ := window_ok hwe
    obtain ⟨sz, rfl⟩ : ∃ n : Nat, size = n := ⟨size.toNat, by omega⟩
    simp only [Int.toNat_natCast] at hb
    have HB := Lib.hid hb
    have h4 := stream_ok h1
    have HV := Lib.hid h4.2
    have h5 := h4.1
    have h6 : 1 ≤ sz := by omega
    have h7 : sz ≤ 1000000 := by omega
    clear hb hwe h1 h2 h3 h4
    obtain ⟨bs, ba, bf⟩ := b
    go_enter Try.func9, Try.ntmps9
    have GA := World.grownBy_alloc w (.cells #[.int .i64 0, .int .i64 0, .int .i64 0, .bool false] 24) none
    have HSA := Lib.hid (HS.out.grown GA)
    go_wp2_with fail
    refine (checkWindow_any _ _ _ hl _ _ HSA.out HWE).mono ?_; rintro e w1 ⟨rfl, rfl⟩
    go_wp2_with fail
    refine (best_any ao cap l h5 HV.out sz h6 h7 _ HSA.out HSA.out.block HB).mono ?_; rintro e w1 ⟨rfl, hb1⟩
    have hg1 := grown_below hb1
    have HG := Lib.hid (grown_trans GA hg1)
    have hr : w1.heap[w.heap.size]? = some (.cells #[.int .i64 0, .int .i64 0, .int .i64 0, .bool false] 24 (0, 0)) := by
      rw [hg1.block _ (by simp) (by simp)]; exact heap_alloc_new w _
    have r0 : w1.cell? ⟨w.heap.size, 0, none⟩ = some (.int .i64 0) := by simp [World.cell?, hr]
    have r1 : w1.cell? ⟨w.heap.size, 1, none⟩ = some (.int .i64 0) := by simp [World.cell?, hr]
    have r2 : w1.cell? ⟨w.heap.size, 2, none⟩ = some (.int .i64 0) := by simp [World.cell?, hr]
    have r3 : w1.cell? ⟨w.heap.size, 3, none⟩ = some (.bool false) := by simp [World.cell?, hr]
    have y0 : w1.frozen? ⟨w.heap.size, 0, none⟩ = false := by simp [World.frozen?, hr]
    have y1 : w1.frozen? ⟨w.heap.size, 1, none⟩ = false := by simp [World.frozen?, hr]
    have y2 : w1.frozen? ⟨w.heap.size, 2, none⟩ = false := by simp [World.frozen?, hr]
    have y3 : w1.frozen? ⟨w.heap.size, 3, none⟩ = false := by simp [World.frozen?, hr]
    clear hb1 hg1 GA hr
    go_wp2_with fail
    refine bodyPost_ret (v := .tuple #[.agg #[.int .i64 sz, .int .i64 bs, .int .i64 ba, .bool bf], .int .i64 0]) (by simp [results, Try.results9, go_sem, r0, r1, r2, r3]) rfl ⟨rfl, ?_⟩
    exact egrown_set (egrown_set (egrown_set (egrown_set HG.out (Nat.le_refl _) _ _) (Nat.le_refl _) _ _) (Nat.le_refl _) _ _) (Nat.le_refl _) _ _
  · rw [if_neg h0] at hv
    simp only [Prod.mk.injEq] at hv
    obtain ⟨rfl, rfl, rfl⟩ := hv
    have hne : (we != 0) = true := by simpa using h0
    clear h0 hwe
    go_enter Try.func9, Try.ntmps9
    have GA := World.grownBy_alloc w (.cells #[.int .i64 0, .int .i64 0, .int .i64 0, .bool false] 24) none
    have HSA := Lib.hid (HS.out.grown GA)
    go_wp2_with fail
    refine (checkWindow_any _ _ _ hl _ _ HSA.out HWE).mono ?_; rintro e w1 ⟨rfl, rfl⟩
    go_wp2_with fail
    refine bodyPost_ret (v := .tuple #[.agg #[.int .i64 0, .int .i64 0, .int .i64 0, .bool false], .int .i64 we]) (by simp [results, Try.results9, go_sem]) rfl ⟨rfl, ?_⟩
    exact GA

theorem told_best : bestOut [1, 5, 2, -1, 9, 1] 2 = (2, ⟨10, 4, true⟩, 0) := by rfl
set_option maxHeartbeats 800000 in
theorem etold_any (w : World) : Calls Try.prog 15 #[] w fun x w' => x = .returned (.bool true) ∧ w.grownBy w' none := by
  go_enter Try.func15, Try.ntmps15
  have hI : IntsAt (w.alloc (.cells #[.int .i64 1, .int .i64 5, .int .i64 2, .int .i64 (-1), .int .i64 9, .int .i64 1] 3)) (some ⟨w.heap.size, 0, none⟩) [1, 5, 2, -1, 9, 1] := by
    refine ⟨fun h => (by cases h), fun a ha _ => (by cases ha; rfl), fun a ha i hi => ?_⟩
    cases ha
    match i, hi with
    | 0, _ => simp [nthI]
    | 1, _ => simp [nthI]
    | 2, _ => simp [nthI]
    | 3, _ => simp [nthI]
    | 4, _ => simp [nthI]
    | 5, _ => simp [nthI]
  have HI := Lib.hid hI
  clear hI
  have GA := World.grownBy_alloc w (.cells #[.int .i64 1, .int .i64 5, .int .i64 2, .int .i64 (-1), .int .i64 9, .int .i64 1] 3) none
  go_wp2_with fail
  refine (Best_any _ 6 [1, 5, 2, -1, 9, 1] (by decide) 2 _ HI.out (Lib.hid told_best)).mono ?_; rintro e w1 ⟨rfl, hg1⟩
  have HG := Lib.hid (grown_trans GA hg1)
  clear hg1 GA HI
  go_wp2_with fail
  go_ret
  exact ⟨by first | rfl | simp, grown_trans HG.out (World.grownBy_alloc _ _ _)⟩

end Go.Proofs.Ytfeefijaahjheaa
