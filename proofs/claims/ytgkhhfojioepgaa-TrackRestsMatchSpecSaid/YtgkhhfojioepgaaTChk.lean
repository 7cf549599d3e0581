/- The contract of record.Check. -/
import Derived.Test.YtgkhhfojioepgaaBaseA
import Derived.Deep.RegionHeld3
namespace Go.Proofs.Ytgkhhfojioepgaa
open Go.RowKit
set_option linter.unusedSimpArgs false
set_option linter.unusedVariables false

theorem chkSamples_any (start : Int) (h0 : 0 ≤ start) (h1 : start ≤ 86399999999) (ao : Option Addr) (cap : Nat) (ss : List Smp) (hl : (ss.length : Int) ≤ 9223372036854775807) (w : World) (hs : SmpsAt w ao ss) {E : Int} (hE : Hid (smpsE start none ss = E)) :
    Calls Try.prog 115 #[.int .i64 start, .slice ao ss.length cap] w fun e w' => e = .returned (.int .i64 E) ∧ w.grownBy w' none := by
  cases ss with
  | nil =>
    have HV : Hid (E = 0) := by show _ = _; rw [← hE.out]; rfl
    clear hs hE
    go_enter Try.func115, Try.ntmps115
    go_wp2
    refine wp_loop_rounds 1 ?_
    rw [rounds_succ]
    go_wp2
    go_ret
    exact ⟨ret_int HV.out.symm, grown_refl _ _⟩
  | cons x r =>
    match ao, hs with
    | none, hs => exact absurd (hs.nil rfl) (by simp)
    | some ⟨b, off, sp⟩, hs =>
      have h := hs.spot _ rfl (by simp)
      simp only at h
      subst h
      exact chkSamples_some start h0 h1 b off cap (x :: r) hl w hs hE
theorem chkLaps_any (span : Int) (ao : Option Addr) (cap : Nat) (ls : List LapV) (hl : (ls.length : Int) ≤ 9223372036854775807) (w : World) (hs : LapsAt w ao ls) {E : Int} (hE : Hid (lapsE span 0 ls = E)) :
    Calls Try.prog 116 #[.slice ao ls.length cap, .int .i64 span] w fun e w' => e = .returned (.int .i64 E) ∧ w.grownBy w' none := by
  cases ls with
  | nil =>
    have HV : Hid (E = 0) := by show _ = _; rw [← hE.out]; rfl
    clear hs hE
    go_enter Try.func116, Try.ntmps116
    go_wp2
    refine wp_loop_rounds 1 ?_
    rw [rounds_succ]
    go_wp2
    go_ret
    exact ⟨ret_int HV.out.symm, grown_refl _ _⟩
  | cons x r =>
    match ao, hs with
    | none, hs => exact absurd (hs.nil rfl) (by simp)
    | some ⟨b, off, sp⟩, hs =>
      have h := hs.spot _ rfl (by simp)
      simp only at h
      subst h
      exact chkLaps_some span b off cap (x :: r) hl w hs hE
theorem chkTags_any (ao : Option Addr) (cap : Nat) (ts : List ByteArray) (hl : (ts.length : Int) ≤ 9223372036854775807) (w : World) (hs : TagsAt w ao ts) {E : Int} (hE : Hid (tagsE none ts = E)) :
    Calls Try.prog 117 #[.slice ao ts.length cap] w fun e w' => e = .returned (.int .i64 E) ∧ w = w' := by
  cases ts with
  | nil =>
    have HV : Hid (E = 0) := by show _ = _; rw [← hE.out]; rfl
    clear hs hE
    go_enter Try.func117, Try.ntmps117
    go_wp2
    refine wp_loop_rounds 1 ?_
    rw [rounds_succ]
    go_wp2
    go_ret
    exact ⟨ret_int HV.out.symm, rfl⟩
  | cons x r =>
    match ao, hs with
    | none, hs => exact absurd (hs.nil rfl) (by simp)
    | some ⟨b, off, sp⟩, hs =>
      have h := hs.spot _ rfl (by simp)
      simp only at h
      subst h
      exact chkTags_some b off cap (x :: r) hl w hs hE

theorem spanL_at : ∀ {l : List Smp} {n : Nat} (h : l.length = n + 1), spanL l = (l[n]'(by omega)).t
  | [x], n, h => by
    obtain rfl : n = 0 := by simpa using h.symm
    rfl
  | _ :: y :: r, n, h => by
    obtain ⟨m, rfl⟩ : ∃ m, n = m + 1 := ⟨n - 1, by simp only [List.length_cons] at h; omega⟩
    have := spanL_at (l := y :: r) (n := m) (by simpa using h)
    simpa [spanL] using this

theorem span_some (a : Act) (b off n : Nat) (hso : a.so = some ⟨b, off, none⟩) (hn : a.ss.length = n + 1) (hl : (a.ss.length : Int) ≤ 9223372036854775807) (w : World) (hs : SmpsAt w a.so a.ss) {E : Int} (hE : Hid (spanL a.ss = E)) :
    Calls Try.prog 56 #[a.val] w fun e w' => e = .returned (.int .i64 E) ∧ w.grownBy w' none := by
  obtain ⟨nm, sp, st, so, sc, ss, lo, lc, ls, to_, tc, ts⟩ := a
  simp only [Act.val] at *
  subst hso
  have c0 := (hs.cells _ rfl n (by omega)).1
  have hv : (ss[n]'(by omega)).t = E := by rw [← hE.out]; exact (spanL_at hn).symm
  rw [hv] at c0
  simp only at c0
  have e0 : ((ss.length : Int) == 0) = false := by rw [beq_eq_false_iff_ne]; omega
  have ea : ((ss.length : Int) - 1).toNat = n := by omega
  have pa : (0 : Int) ≤ (ss.length : Int) - 1 := by omega
  have pb : (1 : Int) ≤ (ss.length : Int) := by omega
  have pc : 1 ≤ ss.length := by omega
  have HN := Lib.hid hn; have HS := Lib.hid hs
  clear hn hs hv hE
  go_enter Try.func56, Try.ntmps56
  have c1 := grown_cell (World.grownBy_alloc w (.cells #[.string nm, .int .i64 sp, .int .i64 st, .slice (some ⟨b, off, none⟩) ss.length sc, .slice lo ls.length lc, .slice to_ ts.length tc] 26) none) c0
  go_wp2
  go_ret
  exact ⟨rfl, World.grownBy_alloc _ _ _⟩
theorem span_any (a : Act) (hl : (a.ss.length : Int) ≤ 9223372036854775807) (w : World) (hs : SmpsAt w a.so a.ss) {E : Int} (hE : Hid (spanL a.ss = E)) :
    Calls Try.prog 56 #[a.val] w fun e w' => e = .returned (.int .i64 E) ∧ w.grownBy w' none := by
  obtain ⟨nm, sp, st, so, sc, ss, lo, lc, ls, to_, tc, ts⟩ := a
  cases ss with
  | nil =>
    have HV : Hid (E = 0) := by show _ = _; rw [← hE.out]; rfl
    simp only [Act.val, List.length_nil] at *
    clear hs hE hl
    go_enter Try.func56, Try.ntmps56
    go_wp2
    go_ret
    exact ⟨ret_int HV.out.symm, World.grownBy_alloc _ _ _⟩
  | cons x r =>
    match so, hs with
    | none, hs => exact absurd (hs.nil rfl) (by simp)
    | some ⟨b, off, spt⟩, hs =>
      have h := hs.spot _ rfl (by simp)
      simp only at h
      subst h
      exact span_some _ b off r.length rfl rfl hl w hs hE
end Go.Proofs.Ytgkhhfojioepgaa
