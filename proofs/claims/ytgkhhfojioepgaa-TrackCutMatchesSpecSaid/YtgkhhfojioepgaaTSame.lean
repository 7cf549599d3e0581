/- Two equal lists of samples, of laps, of tags; record.Same of two activities of the same content. -/
import Derived.Test.YtgkhhfojioepgaaBaseC
import Derived.Test.YtgkhhfojioepgaaShelf
namespace Go.Proofs.Ytgkhhfojioepgaa
open Go.RowKit
set_option linter.unusedSimpArgs false
set_option linter.unusedVariables false

theorem smps_at {w : World} {ao : Option Addr} {l : List Smp} (h : SmpsAt w ao l) (hne : 0 < l.length) : ∃ b off, ao = some ⟨b, off, none⟩ ∧ ∀ i (h : i < l.length), w.cell? ⟨b, off + i * 7, none⟩ = some (.int .i64 l[i].t) ∧ w.cell? ⟨b, off + i * 7 + 1, none⟩ = some (.int .i64 l[i].x) ∧ w.cell? ⟨b, off + i * 7 + 2, none⟩ = some (.int .i64 l[i].y) ∧ w.cell? ⟨b, off + i * 7 + 3, none⟩ = some (.int .i64 l[i].z) ∧ w.cell? ⟨b, off + i * 7 + 4, none⟩ = some (.int .i64 l[i].p) ∧ w.cell? ⟨b, off + i * 7 + 5, none⟩ = some (.int .i64 l[i].q) ∧ w.cell? ⟨b, off + i * 7 + 6, none⟩ = some (.int .i64 l[i].s) := by
  have hn : l ≠ [] := fun e => by rw [e] at hne; simp at hne
  cases hao : ao with
  | none => exact absurd (h.nil hao) hn
  | some p =>
    obtain ⟨b, off, spot⟩ := p
    have hsp := h.spot _ hao hn
    simp only at hsp
    subst hsp
    exact ⟨b, off, rfl, fun i hi => h.cells _ hao i hi⟩
theorem lapsS_at {w : World} {ao : Option Addr} {l : List LapV} (h : LapsAt w ao l) (hne : 0 < l.length) : ∃ b off, ao = some ⟨b, off, none⟩ ∧ ∀ i (h : i < l.length), w.cell? ⟨b, off + i * 3, none⟩ = some (.int .i64 l[i].fr) ∧ w.cell? ⟨b, off + i * 3 + 1, none⟩ = some (.int .i64 l[i].to_) ∧ w.cell? ⟨b, off + i * 3 + 2, none⟩ = some (.string l[i].name) := by
  have hn : l ≠ [] := fun e => by rw [e] at hne; simp at hne
  cases hao : ao with
  | none => exact absurd (h.nil hao) hn
  | some p =>
    obtain ⟨b, off, spot⟩ := p
    have hsp := h.spot _ hao hn
    simp only at hsp
    subst hsp
    exact ⟨b, off, rfl, fun i hi => h.cells _ hao i hi⟩

set_option maxHeartbeats 1600000 in
theorem equal_smps {w : World} {a1 a2 : Option Addr} {c1 c2 : Nat} {L : List Smp} (h1 : SmpsAt w a1 L) (h2 : SmpsAt w a2 L) (hn : (L.length : Int) ≤ 9223372036854775807) :
    Calls Try.prog 64 #[.slice a1 L.length c1, .slice a2 L.length c2] w fun e w' => e = .returned (.bool true) ∧ w.grownBy w' none := by
  have Q1 := Lib.hid h1; have Q2 := Lib.hid h2
  clear h1 h2
  go_enter Try.func64, Try.ntmps64
  go_wp2_with fail
  go_loopw [13] (fun iv wr => ∃ k : Nat, k ≤ L.length ∧ iv = .int .i64 k ∧ Hid (w.grownBy wr none)) (fun iv _ => L.length - (intOf iv).toNat)
  case atStart => exact ⟨0, Nat.zero_le _, rfl, grown_refl _ _⟩
  case round =>
    obtain ⟨k, hk, rfl, hg⟩ := hrel
    by_cases hlt : k < L.length
    · obtain ⟨b1, o1, rfl, q1⟩ := smps_at (Q1.out.grown hg.out) (by omega)
      obtain ⟨b2, o2, rfl, q2⟩ := smps_at (Q2.out.grown hg.out) (by omega)
      obtain ⟨x0, x1, x2, x3, x4, x5, x6⟩ := q1 k hlt
      obtain ⟨y0, y1, y2, y3, y4, y5, y6⟩ := q2 k hlt
      generalize L[k] = h at *
      obtain ⟨z0, z1, z2, z3, z4, z5, z6⟩ := h
      simp only at x0 x1 x2 x3 x4 x5 x6 y0 y1 y2 y3 y4 y5 y6
      clear q1 q2
      go_wp2_with fail
      go_quiet (fail)
      go_wp2_with fail
      go_roundw
      case rel => exact ⟨k + 1, by omega, by go_num, grown_trans hg.out (grown_drewN _ _ _)⟩
      case measure => simp [intOf]; omega
    · go_wp2_with fail
      go_ret
      exact ⟨rfl, hg.out⟩

set_option maxHeartbeats 1600000 in
theorem equal_laps {w : World} {a1 a2 : Option Addr} {c1 c2 : Nat} {L : List LapV} (h1 : LapsAt w a1 L) (h2 : LapsAt w a2 L) (hn : (L.length : Int) ≤ 9223372036854775807) :
    Calls Try.prog 65 #[.slice a1 L.length c1, .slice a2 L.length c2] w fun e w' => e = .returned (.bool true) ∧ w.grownBy w' none := by
  have Q1 := Lib.hid h1; have Q2 := Lib.hid h2
  clear h1 h2
  go_enter Try.func65, Try.ntmps65
  go_wp2_with fail
  go_loopw [13] (fun iv wr => ∃ k : Nat, k ≤ L.length ∧ iv = .int .i64 k ∧ Hid (w.grownBy wr none)) (fun iv _ => L.length - (intOf iv).toNat)
  case atStart => exact ⟨0, Nat.zero_le _, rfl, grown_refl _ _⟩
  case round =>
    obtain ⟨k, hk, rfl, hg⟩ := hrel
    by_cases hlt : k < L.length
    · obtain ⟨b1, o1, rfl, q1⟩ := lapsS_at (Q1.out.grown hg.out) (by omega)
      obtain ⟨b2, o2, rfl, q2⟩ := lapsS_at (Q2.out.grown hg.out) (by omega)
      obtain ⟨x0, x1, x2⟩ := q1 k hlt
      obtain ⟨y0, y1, y2⟩ := q2 k hlt
      generalize L[k] = h at *
      obtain ⟨z0, z1, z2⟩ := h
      simp only at x0 x1 x2 y0 y1 y2
      clear q1 q2
      go_wp2_with fail
      go_quiet (fail)
      go_wp2_with fail
      go_roundw
      case rel => exact ⟨k + 1, by omega, by go_num, grown_trans hg.out (grown_drewN _ _ _)⟩
      case measure => simp [intOf]; omega
    · go_wp2_with fail
      go_ret
      exact ⟨rfl, hg.out⟩
end Go.Proofs.Ytgkhhfojioepgaa
