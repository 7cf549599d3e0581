/- The contracts of the reference's SpanOf and lapFault. -/
import Derived.Test.YtgkhhfojioepgaaTRSample
namespace Go.Proofs.Ytgkhhfojioepgaa
open Go.RowKit
set_option linter.unusedSimpArgs false
set_option linter.unusedVariables false

theorem rspan_some (a : Act) (b off n : Nat) (hso : a.so = some ⟨b, off, none⟩) (hn : a.ss.length = n + 1) (hl : (a.ss.length : Int) ≤ 9223372036854775807) (w : World) (hs : SmpsAt w a.so a.ss) {E : Int} (hE : Hid (spanL a.ss = E)) :
    Calls Try.prog 60 #[a.val] w fun e w' => e = .returned (.int .i64 E) ∧ w.grownBy w' none := by
  obtain ⟨nm, sp, st, so, sc, ss, lo, lc, ls, to_, tc, ts⟩ := a
  simp only [Act.val] at *
  subst hso
  have c0 := (hs.cells _ rfl n (by omega)).1
  have hv : (ss[n]'(by omega)).t = E := by rw [← hE.out]; exact (spanL_at hn).symm
  rw [hv] at c0
  simp only at c0
  have e0 : ((ss.length : Int) == 0) = false := by rw [beq_eq_false_iff_ne]; omega
  have ea : ((ss.length : Int) - 1).toNat = n := by omega
  have pa : (0 : Int) ≤ (ss.length : Int) - 1 := by omega
  have pb : (1 : Int) ≤ (ss.length : Int) := by omega
  have pc : 1 ≤ ss.length := by omega
  have HN := Lib.hid hn; have HS := Lib.hid hs
  clear hn hs hv hE
  go_enter Try.func60, Try.ntmps60
  have c1 := grown_cell (World.grownBy_alloc w (.cells #[.string nm, .int .i64 sp, .int .i64 st, .slice (some ⟨b, off, none⟩) ss.length sc, .slice lo ls.length lc, .slice to_ ts.length tc] 26) none) c0
  go_wp2
  go_ret
  exact ⟨rfl, World.grownBy_alloc _ _ _⟩
theorem rspan_any (a : Act) (hl : (a.ss.length : Int) ≤ 9223372036854775807) (w : World) (hs : SmpsAt w a.so a.ss) {E : Int} (hE : Hid (spanL a.ss = E)) :
    Calls Try.prog 60 #[a.val] w fun e w' => e = .returned (.int .i64 E) ∧ w.grownBy w' none := by
  obtain ⟨nm, sp, st, so, sc, ss, lo, lc, ls, to_, tc, ts⟩ := a
  cases ss with
  | nil =>
    have HV : Hid (E = 0) := by show _ = _; rw [← hE.out]; rfl
    simp only [Act.val, List.length_nil] at *
    clear hs hE hl
    go_enter Try.func60, Try.ntmps60
    go_wp2
    go_ret
    exact ⟨ret_int HV.out.symm, World.grownBy_alloc _ _ _⟩
  | cons x r =>
    match so, hs with
    | none, hs => exact absurd (hs.nil rfl) (by simp)
    | some ⟨b, off, spt⟩, hs =>
      have h := hs.spot _ rfl (by simp)
      simp only at h
      subst h
      exact rspan_some _ b off r.length rfl rfl hl w hs hE

def prevE (l : List LapV) : Nat → Option Int
  | 0 => none
  | k + 1 => (l[k]?).map LapV.to_
theorem prevE_succ (l : List LapV) (k : Nat) : prevE l (k + 1) = (l[k]?).map LapV.to_ := rfl
def soon : Option Int → Int → Prop
  | none, _ => False
  | some e, f => f < e
instance (e : Option Int) (f : Int) : Decidable (soon e f) := by cases e <;> (unfold soon; exact inferInstance)
def lapF (span : Int) (en : Option Int) (x : LapV) : Int := if x.fr < 0 ∨ x.to_ ≤ x.fr ∨ span < x.to_ then 9 else if soon en x.fr then 10 else if lapNameB x.name = true then 0 else 8

set_option maxRecDepth 100000 in
set_option maxHeartbeats 6400000 in
theorem rlap_some (nm : ByteArray) (sp st : Int) (so : Option Addr) (sc : Nat) (ss : List Smp) (b off lc : Nat) (ls : List LapV) (to_ : Option Addr) (tc : Nat) (ts : List ByteArray) (sl : (ss.length : Int) ≤ 9223372036854775807) (ll : (ls.length : Int) ≤ 9223372036854775807) (k : Nat) (hlt : k < ls.length) (w : World) (hs : SmpsAt w so ss) (hl : LapsAt w (some ⟨b, off, none⟩) ls) {SPN : Int} (hsp : Hid (spanL ss = SPN)) {E : Int} (hE : Hid (lapF SPN (prevE ls k) ls[k] = E)) :
    Calls Try.prog 123 #[.agg #[.string nm, .int .i64 sp, .int .i64 st, .slice so ss.length sc, .slice (some ⟨b, off, none⟩) ls.length lc, .slice to_ ts.length tc], .int .i64 k] w fun e w' => e = .returned (.int .i64 E) ∧ w.grownBy w' none := by
  obtain ⟨c0, c1, c2⟩ := hl.cells _ rfl k hlt
  have hsz := hl.sizes k hlt
  simp only at c0 c1 c2
  have R9 : (ls[k].fr < 0 ∨ ls[k].to_ ≤ ls[k].fr ∨ SPN < ls[k].to_) → Hid (E = 9) := fun h => by show _ = _; rw [← hE.out, lapF, if_pos h]
  have RE : ¬ (ls[k].fr < 0 ∨ ls[k].to_ ≤ ls[k].fr ∨ SPN < ls[k].to_) → soon (prevE ls k) ls[k].fr → Hid (E = 10) := fun h h' => by show _ = _; rw [← hE.out, lapF, if_neg h, if_pos h']
  have R8 : ¬ (ls[k].fr < 0 ∨ ls[k].to_ ≤ ls[k].fr ∨ SPN < ls[k].to_) → ¬ soon (prevE ls k) ls[k].fr → Hid (lapNameB ls[k].name = false → Hid (E = 8)) := fun h h' hn => by show _ = _; rw [← hE.out, lapF, if_neg h, if_neg h', if_neg (by simp [hn])]
  have R0 : ¬ (ls[k].fr < 0 ∨ ls[k].to_ ≤ ls[k].fr ∨ SPN < ls[k].to_) → ¬ soon (prevE ls k) ls[k].fr → Hid (lapNameB ls[k].name = true → Hid (E = 0)) := fun h h' hn => by show _ = _; rw [← hE.out, lapF, if_neg h, if_neg h', if_pos hn]
  clear hE
  have HL := Lib.hid hl; have HLT := Lib.hid hlt; have HS := Lib.hid hs; have HSP := hsp; have SL := Lib.hid sl
  clear hl hs hsp
  generalize ls[k] = x at *
  obtain ⟨fr, tt, ln⟩ := x
  simp only at c0 c1 c2 R9 RE R8 R0 hsz
  have hsz2 : (ln.size : Int) ≤ 140737488355328 := by omega
  have B0 := World.grownBy_alloc w (.cells #[.string nm, .int .i64 sp, .int .i64 st, .slice so ss.length sc, .slice (some ⟨b, off, none⟩) ls.length lc, .slice to_ ts.length tc] 26) none
  have d0 := grown_cell B0 c0; have d1 := grown_cell B0 c1; have d2 := grown_cell B0 c2
  clear B0
  by_cases a1 : fr < 0
  · have HE := R9 (.inl a1)
    have g1 : decide (fr < 0) = true := by simpa using a1
    clear R9 RE R8 R0
    go_enter Try.func123, Try.ntmps123
    go_wp2_with fail
    go_quiet (fail)
    go_wp2_with fail
    go_ret
    exact ⟨ret_int HE.out.symm, grown_trans (grown_trans (World.grownBy_alloc _ _ _) (World.grownBy_alloc _ _ _)) (grown_drewN _ _ _)⟩
  have g1 : decide (fr < 0) = false := by simpa using a1
  by_cases a2 : tt ≤ fr
  · have HE := R9 (.inr (.inl a2))
    have g2 : decide (tt ≤ fr) = true := by simpa using a2
    clear R9 RE R8 R0
    go_enter Try.func123, Try.ntmps123
    go_wp2_with fail
    go_quiet (fail)
    go_wp2_with fail
    go_ret
    exact ⟨ret_int HE.out.symm, grown_trans (grown_trans (World.grownBy_alloc _ _ _) (World.grownBy_alloc _ _ _)) (grown_drewN _ _ _)⟩
  have g2 : decide (tt ≤ fr) = false := by simpa using a2
  by_cases a3 : SPN < tt
  · have HE := R9 (.inr (.inr a3))
    have g3 : decide (SPN < tt) = true := by simpa using a3
    clear R9 RE R8 R0
    go_enter Try.func123, Try.ntmps123
    have hS0 : (World.grownBy w ((w.alloc (.cells #[.string nm, .int .i64 sp, .int .i64 st, .slice so ss.length sc, .slice (some ⟨b, off, none⟩) ls.length lc, .slice to_ ts.length tc] 26)).alloc (.cells #[.int .i64 fr, .int .i64 tt, .string ln] 77)) none ∧ World.cell? ((w.alloc (.cells #[.string nm, .int .i64 sp, .int .i64 st, .slice so ss.length sc, .slice (some ⟨b, off, none⟩) ls.length lc, .slice to_ ts.length tc] 26)).alloc (.cells #[.int .i64 fr, .int .i64 tt, .string ln] 77)) ⟨w.heap.size, 0, none⟩ = some (.string nm) ∧ World.cell? ((w.alloc (.cells #[.string nm, .int .i64 sp, .int .i64 st, .slice so ss.length sc, .slice (some ⟨b, off, none⟩) ls.length lc, .slice to_ ts.length tc] 26)).alloc (.cells #[.int .i64 fr, .int .i64 tt, .string ln] 77)) ⟨w.heap.size, 1, none⟩ = some (.int .i64 sp) ∧ World.cell? ((w.alloc (.cells #[.string nm, .int .i64 sp, .int .i64 st, .slice so ss.length sc, .slice (some ⟨b, off, none⟩) ls.length lc, .slice to_ ts.length tc] 26)).alloc (.cells #[.int .i64 fr, .int .i64 tt, .string ln] 77)) ⟨w.heap.size, 2, none⟩ = some (.int .i64 st) ∧ World.cell? ((w.alloc (.cells #[.string nm, .int .i64 sp, .int .i64 st, .slice so ss.length sc, .slice (some ⟨b, off, none⟩) ls.length lc, .slice to_ ts.length tc] 26)).alloc (.cells #[.int .i64 fr, .int .i64 tt, .string ln] 77)) ⟨w.heap.size, 3, none⟩ = some (.slice so ss.length sc) ∧ World.cell? ((w.alloc (.cells #[.string nm, .int .i64 sp, .int .i64 st, .slice so ss.length sc, .slice (some ⟨b, off, none⟩) ls.length lc, .slice to_ ts.length tc] 26)).alloc (.cells #[.int .i64 fr, .int .i64 tt, .string ln] 77)) ⟨w.heap.size, 4, none⟩ = some (.slice (some ⟨b, off, none⟩) ls.length lc) ∧ World.cell? ((w.alloc (.cells #[.string nm, .int .i64 sp, .int .i64 st, .slice so ss.length sc, .slice (some ⟨b, off, none⟩) ls.length lc, .slice to_ ts.length tc] 26)).alloc (.cells #[.int .i64 fr, .int .i64 tt, .string ln] 77)) ⟨w.heap.size, 5, none⟩ = some (.slice to_ ts.length tc) ∧ World.cell? ((w.alloc (.cells #[.string nm, .int .i64 sp, .int .i64 st, .slice so ss.length sc, .slice (some ⟨b, off, none⟩) ls.length lc, .slice to_ ts.length tc] 26)).alloc (.cells #[.int .i64 fr, .int .i64 tt, .string ln] 77)) ⟨w.heap.size + 1, 0, none⟩ = some (.int .i64 fr) ∧ World.cell? ((w.alloc (.cells #[.string nm, .int .i64 sp, .int .i64 st, .slice so ss.length sc, .slice (some ⟨b, off, none⟩) ls.length lc, .slice to_ ts.length tc] 26)).alloc (.cells #[.int .i64 fr, .int .i64 tt, .string ln] 77)) ⟨w.heap.size + 1, 1, none⟩ = some (.int .i64 tt) ∧ World.cell? ((w.alloc (.cells #[.string nm, .int .i64 sp, .int .i64 st, .slice so ss.length sc, .slice (some ⟨b, off, none⟩) ls.length lc, .slice to_ ts.length tc] 26)).alloc (.cells #[.int .i64 fr, .int .i64 tt, .string ln] 77)) ⟨w.heap.size + 1, 2, none⟩ = some (.string ln)) := ⟨grown_trans (World.grownBy_alloc _ _ _) (World.grownBy_alloc _ _ _), by simp, by simp, by simp, by simp, by simp, by simp, by simp, by simp, by simp⟩
    have hstep : ∀ W W' : World, (World.grownBy w W none ∧ World.cell? W ⟨w.heap.size, 0, none⟩ = some (.string nm) ∧ World.cell? W ⟨w.heap.size, 1, none⟩ = some (.int .i64 sp) ∧ World.cell? W ⟨w.heap.size, 2, none⟩ = some (.int .i64 st) ∧ World.cell? W ⟨w.heap.size, 3, none⟩ = some (.slice so ss.length sc) ∧ World.cell? W ⟨w.heap.size, 4, none⟩ = some (.slice (some ⟨b, off, none⟩) ls.length lc) ∧ World.cell? W ⟨w.heap.size, 5, none⟩ = some (.slice to_ ts.length tc) ∧ World.cell? W ⟨w.heap.size + 1, 0, none⟩ = some (.int .i64 fr) ∧ World.cell? W ⟨w.heap.size + 1, 1, none⟩ = some (.int .i64 tt) ∧ World.cell? W ⟨w.heap.size + 1, 2, none⟩ = some (.string ln)) → W.grownBy W' none → (World.grownBy w W' none ∧ World.cell? W' ⟨w.heap.size, 0, none⟩ = some (.string nm) ∧ World.cell? W' ⟨w.heap.size, 1, none⟩ = some (.int .i64 sp) ∧ World.cell? W' ⟨w.heap.size, 2, none⟩ = some (.int .i64 st) ∧ World.cell? W' ⟨w.heap.size, 3, none⟩ = some (.slice so ss.length sc) ∧ World.cell? W' ⟨w.heap.size, 4, none⟩ = some (.slice (some ⟨b, off, none⟩) ls.length lc) ∧ World.cell? W' ⟨w.heap.size, 5, none⟩ = some (.slice to_ ts.length tc) ∧ World.cell? W' ⟨w.heap.size + 1, 0, none⟩ = some (.int .i64 fr) ∧ World.cell? W' ⟨w.heap.size + 1, 1, none⟩ = some (.int .i64 tt) ∧ World.cell? W' ⟨w.heap.size + 1, 2, none⟩ = some (.string ln)) := fun W W' h g => ⟨grown_trans h.1 g, grown_cell g h.2.1, grown_cell g h.2.2.1, grown_cell g h.2.2.2.1, grown_cell g h.2.2.2.2.1, grown_cell g h.2.2.2.2.2.1, grown_cell g h.2.2.2.2.2.2.1, grown_cell g h.2.2.2.2.2.2.2.1, grown_cell g h.2.2.2.2.2.2.2.2.1, grown_cell g h.2.2.2.2.2.2.2.2.2⟩
    have hSd : (World.grownBy w ((w.alloc (.cells #[.string nm, .int .i64 sp, .int .i64 st, .slice so ss.length sc, .slice (some ⟨b, off, none⟩) ls.length lc, .slice to_ ts.length tc] 26)).alloc (.cells #[.int .i64 fr, .int .i64 tt, .string ln] 77)).drew none ∧ World.cell? ((w.alloc (.cells #[.string nm, .int .i64 sp, .int .i64 st, .slice so ss.length sc, .slice (some ⟨b, off, none⟩) ls.length lc, .slice to_ ts.length tc] 26)).alloc (.cells #[.int .i64 fr, .int .i64 tt, .string ln] 77)).drew ⟨w.heap.size, 0, none⟩ = some (.string nm) ∧ World.cell? ((w.alloc (.cells #[.string nm, .int .i64 sp, .int .i64 st, .slice so ss.length sc, .slice (some ⟨b, off, none⟩) ls.length lc, .slice to_ ts.length tc] 26)).alloc (.cells #[.int .i64 fr, .int .i64 tt, .string ln] 77)).drew ⟨w.heap.size, 1, none⟩ = some (.int .i64 sp) ∧ World.cell? ((w.alloc (.cells #[.string nm, .int .i64 sp, .int .i64 st, .slice so ss.length sc, .slice (some ⟨b, off, none⟩) ls.length lc, .slice to_ ts.length tc] 26)).alloc (.cells #[.int .i64 fr, .int .i64 tt, .string ln] 77)).drew ⟨w.heap.size, 2, none⟩ = some (.int .i64 st) ∧ World.cell? ((w.alloc (.cells #[.string nm, .int .i64 sp, .int .i64 st, .slice so ss.length sc, .slice (some ⟨b, off, none⟩) ls.length lc, .slice to_ ts.length tc] 26)).alloc (.cells #[.int .i64 fr, .int .i64 tt, .string ln] 77)).drew ⟨w.heap.size, 3, none⟩ = some (.slice so ss.length sc) ∧ World.cell? ((w.alloc (.cells #[.string nm, .int .i64 sp, .int .i64 st, .slice so ss.length sc, .slice (some ⟨b, off, none⟩) ls.length lc, .slice to_ ts.length tc] 26)).alloc (.cells #[.int .i64 fr, .int .i64 tt, .string ln] 77)).drew ⟨w.heap.size, 4, none⟩ = some (.slice (some ⟨b, off, none⟩) ls.length lc) ∧ World.cell? ((w.alloc (.cells #[.string nm, .int .i64 sp, .int .i64 st, .slice so ss.length sc, .slice (some ⟨b, off, none⟩) ls.length lc, .slice to_ ts.length tc] 26)).alloc (.cells #[.int .i64 fr, .int .i64 tt, .string ln] 77)).drew ⟨w.heap.size, 5, none⟩ = some (.slice to_ ts.length tc) ∧ World.cell? ((w.alloc (.cells #[.string nm, .int .i64 sp, .int .i64 st, .slice so ss.length sc, .slice (some ⟨b, off, none⟩) ls.length lc, .slice to_ ts.length tc] 26)).alloc (.cells #[.int .i64 fr, .int .i64 tt, .string ln] 77)).drew ⟨w.heap.size + 1, 0, none⟩ = some (.int .i64 fr) ∧ World.cell? ((w.alloc (.cells #[.string nm, .int .i64 sp, .int .i64 st, .slice so ss.length sc, .slice (some ⟨b, off, none⟩) ls.length lc, .slice to_ ts.length tc] 26)).alloc (.cells #[.int .i64 fr, .int .i64 tt, .string ln] 77)).drew ⟨w.heap.size + 1, 1, none⟩ = some (.int .i64 tt) ∧ World.cell? ((w.alloc (.cells #[.string nm, .int .i64 sp, .int .i64 st, .slice so ss.length sc, .slice (some ⟨b, off, none⟩) ls.length lc, .slice to_ ts.length tc] 26)).alloc (.cells #[.int .i64 fr, .int .i64 tt, .string ln] 77)).drew ⟨w.heap.size + 1, 2, none⟩ = some (.string ln)) := hstep _ _ hS0 (grown_drewN _ _ 1)
    have hof : ∀ W : World, (World.grownBy w W none ∧ World.cell? W ⟨w.heap.size, 0, none⟩ = some (.string nm) ∧ World.cell? W ⟨w.heap.size, 1, none⟩ = some (.int .i64 sp) ∧ World.cell? W ⟨w.heap.size, 2, none⟩ = some (.int .i64 st) ∧ World.cell? W ⟨w.heap.size, 3, none⟩ = some (.slice so ss.length sc) ∧ World.cell? W ⟨w.heap.size, 4, none⟩ = some (.slice (some ⟨b, off, none⟩) ls.length lc) ∧ World.cell? W ⟨w.heap.size, 5, none⟩ = some (.slice to_ ts.length tc) ∧ World.cell? W ⟨w.heap.size + 1, 0, none⟩ = some (.int .i64 fr) ∧ World.cell? W ⟨w.heap.size + 1, 1, none⟩ = some (.int .i64 tt) ∧ World.cell? W ⟨w.heap.size + 1, 2, none⟩ = some (.string ln)) → SmpsAt W so ss := fun W h => HS.out.grown h.1
    clear hS0
    go_wp2_with fail
    go_region_held3 (fun W => (World.grownBy w W none ∧ World.cell? W ⟨w.heap.size, 0, none⟩ = some (.string nm) ∧ World.cell? W ⟨w.heap.size, 1, none⟩ = some (.int .i64 sp) ∧ World.cell? W ⟨w.heap.size, 2, none⟩ = some (.int .i64 st) ∧ World.cell? W ⟨w.heap.size, 3, none⟩ = some (.slice so ss.length sc) ∧ World.cell? W ⟨w.heap.size, 4, none⟩ = some (.slice (some ⟨b, off, none⟩) ls.length lc) ∧ World.cell? W ⟨w.heap.size, 5, none⟩ = some (.slice to_ ts.length tc) ∧ World.cell? W ⟨w.heap.size + 1, 0, none⟩ = some (.int .i64 fr) ∧ World.cell? W ⟨w.heap.size + 1, 1, none⟩ = some (.int .i64 tt) ∧ World.cell? W ⟨w.heap.size + 1, 2, none⟩ = some (.string ln))) (first | exact hSd | (refine hstep _ _ ?_ (by assumption) <;> assumption)) (first
      | (go_at_call 60; refine (rspan_any ⟨nm, sp, st, so, sc, ss, some ⟨b, off, none⟩, lc, ls, to_, tc, ts⟩ SL.out _ (hof _ (by assumption)) HSP).mono ?_; rintro x w7 ⟨rfl, hg7⟩))
    all_goals
      rename_i hfin
      clear hSd hof
      obtain ⟨G9, f0, f1, f2, f3, f4, f5, l0, l1, l2⟩ := hfin
      go_wp2_with fail
      go_ret
      exact ⟨ret_int HE.out.symm, G9⟩
  have g3 : decide (SPN < tt) = false := by simpa using a3
  have hna : ¬ (fr < 0 ∨ tt ≤ fr ∨ SPN < tt) := by omega
  by_cases hk0 : k = 0
  · have e2 : decide (0 < (k : Int)) = false := by simp; omega
    have e3 : decide (0 < k) = false := by simp; omega
    have hpk : prevE ls k = none := by subst hk0; exact rfl
    have HK := Lib.hid hk0
    clear hk0
    rw [hpk] at R8 R0
    replace R8 := R8 hna (by simp [soon])
    replace R0 := R0 hna (by simp [soon])
    clear R9 RE hna hpk
    go_enter Try.func123, Try.ntmps123
    have hS0 : (World.grownBy w ((w.alloc (.cells #[.string nm, .int .i64 sp, .int .i64 st, .slice so ss.length sc, .slice (some ⟨b, off, none⟩) ls.length lc, .slice to_ ts.length tc] 26)).alloc (.cells #[.int .i64 fr, .int .i64 tt, .string ln] 77)) none ∧ World.cell? ((w.alloc (.cells #[.string nm, .int .i64 sp, .int .i64 st, .slice so ss.length sc, .slice (some ⟨b, off, none⟩) ls.length lc, .slice to_ ts.length tc] 26)).alloc (.cells #[.int .i64 fr, .int .i64 tt, .string ln] 77)) ⟨w.heap.size, 0, none⟩ = some (.string nm) ∧ World.cell? ((w.alloc (.cells #[.string nm, .int .i64 sp, .int .i64 st, .slice so ss.length sc, .slice (some ⟨b, off, none⟩) ls.length lc, .slice to_ ts.length tc] 26)).alloc (.cells #[.int .i64 fr, .int .i64 tt, .string ln] 77)) ⟨w.heap.size, 1, none⟩ = some (.int .i64 sp) ∧ World.cell? ((w.alloc (.cells #[.string nm, .int .i64 sp, .int .i64 st, .slice so ss.length sc, .slice (some ⟨b, off, none⟩) ls.length lc, .slice to_ ts.length tc] 26)).alloc (.cells #[.int .i64 fr, .int .i64 tt, .string ln] 77)) ⟨w.heap.size, 2, none⟩ = some (.int .i64 st) ∧ World.cell? ((w.alloc (.cells #[.string nm, .int .i64 sp, .int .i64 st, .slice so ss.length sc, .slice (some ⟨b, off, none⟩) ls.length lc, .slice to_ ts.length tc] 26)).alloc (.cells #[.int .i64 fr, .int .i64 tt, .string ln] 77)) ⟨w.heap.size, 3, none⟩ = some (.slice so ss.length sc) ∧ World.cell? ((w.alloc (.cells #[.string nm, .int .i64 sp, .int .i64 st, .slice so ss.length sc, .slice (some ⟨b, off, none⟩) ls.length lc, .slice to_ ts.length tc] 26)).alloc (.cells #[.int .i64 fr, .int .i64 tt, .string ln] 77)) ⟨w.heap.size, 4, none⟩ = some (.slice (some ⟨b, off, none⟩) ls.length lc) ∧ World.cell? ((w.alloc (.cells #[.string nm, .int .i64 sp, .int .i64 st, .slice so ss.length sc, .slice (some ⟨b, off, none⟩) ls.length lc, .slice to_ ts.length tc] 26)).alloc (.cells #[.int .i64 fr, .int .i64 tt, .string ln] 77)) ⟨w.heap.size, 5, none⟩ = some (.slice to_ ts.length tc) ∧ World.cell? ((w.alloc (.cells #[.string nm, .int .i64 sp, .int .i64 st, .slice so ss.length sc, .slice (some ⟨b, off, none⟩) ls.length lc, .slice to_ ts.length tc] 26)).alloc (.cells #[.int .i64 fr, .int .i64 tt, .string ln] 77)) ⟨w.heap.size + 1, 0, none⟩ = some (.int .i64 fr) ∧ World.cell? ((w.alloc (.cells #[.string nm, .int .i64 sp, .int .i64 st, .slice so ss.length sc, .slice (some ⟨b, off, none⟩) ls.length lc, .slice to_ ts.length tc] 26)).alloc (.cells #[.int .i64 fr, .int .i64 tt, .string ln] 77)) ⟨w.heap.size + 1, 1, none⟩ = some (.int .i64 tt) ∧ World.cell? ((w.alloc (.cells #[.string nm, .int .i64 sp, .int .i64 st, .slice so ss.length sc, .slice (some ⟨b, off, none⟩) ls.length lc, .slice to_ ts.length tc] 26)).alloc (.cells #[.int .i64 fr, .int .i64 tt, .string ln] 77)) ⟨w.heap.size + 1, 2, none⟩ = some (.string ln)) := ⟨grown_trans (World.grownBy_alloc _ _ _) (World.grownBy_alloc _ _ _), by simp, by simp, by simp, by simp, by simp, by simp, by simp, by simp, by simp⟩
    have hstep : ∀ W W' : World, (World.grownBy w W none ∧ World.cell? W ⟨w.heap.size, 0, none⟩ = some (.string nm) ∧ World.cell? W ⟨w.heap.size, 1, none⟩ = some (.int .i64 sp) ∧ World.cell? W ⟨w.heap.size, 2, none⟩ = some (.int .i64 st) ∧ World.cell? W ⟨w.heap.size, 3, none⟩ = some (.slice so ss.length sc) ∧ World.cell? W ⟨w.heap.size, 4, none⟩ = some (.slice (some ⟨b, off, none⟩) ls.length lc) ∧ World.cell? W ⟨w.heap.size, 5, none⟩ = some (.slice to_ ts.length tc) ∧ World.cell? W ⟨w.heap.size + 1, 0, none⟩ = some (.int .i64 fr) ∧ World.cell? W ⟨w.heap.size + 1, 1, none⟩ = some (.int .i64 tt) ∧ World.cell? W ⟨w.heap.size + 1, 2, none⟩ = some (.string ln)) → W.grownBy W' none → (World.grownBy w W' none ∧ World.cell? W' ⟨w.heap.size, 0, none⟩ = some (.string nm) ∧ World.cell? W' ⟨w.heap.size, 1, none⟩ = some (.int .i64 sp) ∧ World.cell? W' ⟨w.heap.size, 2, none⟩ = some (.int .i64 st) ∧ World.cell? W' ⟨w.heap.size, 3, none⟩ = some (.slice so ss.length sc) ∧ World.cell? W' ⟨w.heap.size, 4, none⟩ = some (.slice (some ⟨b, off, none⟩) ls.length lc) ∧ World.cell? W' ⟨w.heap.size, 5, none⟩ = some (.slice to_ ts.length tc) ∧ World.cell? W' ⟨w.heap.size + 1, 0, none⟩ = some (.int .i64 fr) ∧ World.cell? W' ⟨w.heap.size + 1, 1, none⟩ = some (.int .i64 tt) ∧ World.cell? W' ⟨w.heap.size + 1, 2, none⟩ = some (.string ln)) := fun W W' h g => ⟨grown_trans h.1 g, grown_cell g h.2.1, grown_cell g h.2.2.1, grown_cell g h.2.2.2.1, grown_cell g h.2.2.2.2.1, grown_cell g h.2.2.2.2.2.1, grown_cell g h.2.2.2.2.2.2.1, grown_cell g h.2.2.2.2.2.2.2.1, grown_cell g h.2.2.2.2.2.2.2.2.1, grown_cell g h.2.2.2.2.2.2.2.2.2⟩
    have hSd : (World.grownBy w ((w.alloc (.cells #[.string nm, .int .i64 sp, .int .i64 st, .slice so ss.length sc, .slice (some ⟨b, off, none⟩) ls.length lc, .slice to_ ts.length tc] 26)).alloc (.cells #[.int .i64 fr, .int .i64 tt, .string ln] 77)).drew none ∧ World.cell? ((w.alloc (.cells #[.string nm, .int .i64 sp, .int .i64 st, .slice so ss.length sc, .slice (some ⟨b, off, none⟩) ls.length lc, .slice to_ ts.length tc] 26)).alloc (.cells #[.int .i64 fr, .int .i64 tt, .string ln] 77)).drew ⟨w.heap.size, 0, none⟩ = some (.string nm) ∧ World.cell? ((w.alloc (.cells #[.string nm, .int .i64 sp, .int .i64 st, .slice so ss.length sc, .slice (some ⟨b, off, none⟩) ls.length lc, .slice to_ ts.length tc] 26)).alloc (.cells #[.int .i64 fr, .int .i64 tt, .string ln] 77)).drew ⟨w.heap.size, 1, none⟩ = some (.int .i64 sp) ∧ World.cell? ((w.alloc (.cells #[.string nm, .int .i64 sp, .int .i64 st, .slice so ss.length sc, .slice (some ⟨b, off, none⟩) ls.length lc, .slice to_ ts.length tc] 26)).alloc (.cells #[.int .i64 fr, .int .i64 tt, .string ln] 77)).drew ⟨w.heap.size, 2, none⟩ = some (.int .i64 st) ∧ World.cell? ((w.alloc (.cells #[.string nm, .int .i64 sp, .int .i64 st, .slice so ss.length sc, .slice (some ⟨b, off, none⟩) ls.length lc, .slice to_ ts.length tc] 26)).alloc (.cells #[.int .i64 fr, .int .i64 tt, .string ln] 77)).drew ⟨w.heap.size, 3, none⟩ = some (.slice so ss.length sc) ∧ World.cell? ((w.alloc (.cells #[.string nm, .int .i64 sp, .int .i64 st, .slice so ss.length sc, .slice (some ⟨b, off, none⟩) ls.length lc, .slice to_ ts.length tc] 26)).alloc (.cells #[.int .i64 fr, .int .i64 tt, .string ln] 77)).drew ⟨w.heap.size, 4, none⟩ = some (.slice (some ⟨b, off, none⟩) ls.length lc) ∧ World.cell? ((w.alloc (.cells #[.string nm, .int .i64 sp, .int .i64 st, .slice so ss.length sc, .slice (some ⟨b, off, none⟩) ls.length lc, .slice to_ ts.length tc] 26)).alloc (.cells #[.int .i64 fr, .int .i64 tt, .string ln] 77)).drew ⟨w.heap.size, 5, none⟩ = some (.slice to_ ts.length tc) ∧ World.cell? ((w.alloc (.cells #[.string nm, .int .i64 sp, .int .i64 st, .slice so ss.length sc, .slice (some ⟨b, off, none⟩) ls.length lc, .slice to_ ts.length tc] 26)).alloc (.cells #[.int .i64 fr, .int .i64 tt, .string ln] 77)).drew ⟨w.heap.size + 1, 0, none⟩ = some (.int .i64 fr) ∧ World.cell? ((w.alloc (.cells #[.string nm, .int .i64 sp, .int .i64 st, .slice so ss.length sc, .slice (some ⟨b, off, none⟩) ls.length lc, .slice to_ ts.length tc] 26)).alloc (.cells #[.int .i64 fr, .int .i64 tt, .string ln] 77)).drew ⟨w.heap.size + 1, 1, none⟩ = some (.int .i64 tt) ∧ World.cell? ((w.alloc (.cells #[.string nm, .int .i64 sp, .int .i64 st, .slice so ss.length sc, .slice (some ⟨b, off, none⟩) ls.length lc, .slice to_ ts.length tc] 26)).alloc (.cells #[.int .i64 fr, .int .i64 tt, .string ln] 77)).drew ⟨w.heap.size + 1, 2, none⟩ = some (.string ln)) := hstep _ _ hS0 (grown_drewN _ _ 1)
    have hof : ∀ W : World, (World.grownBy w W none ∧ World.cell? W ⟨w.heap.size, 0, none⟩ = some (.string nm) ∧ World.cell? W ⟨w.heap.size, 1, none⟩ = some (.int .i64 sp) ∧ World.cell? W ⟨w.heap.size, 2, none⟩ = some (.int .i64 st) ∧ World.cell? W ⟨w.heap.size, 3, none⟩ = some (.slice so ss.length sc) ∧ World.cell? W ⟨w.heap.size, 4, none⟩ = some (.slice (some ⟨b, off, none⟩) ls.length lc) ∧ World.cell? W ⟨w.heap.size, 5, none⟩ = some (.slice to_ ts.length tc) ∧ World.cell? W ⟨w.heap.size + 1, 0, none⟩ = some (.int .i64 fr) ∧ World.cell? W ⟨w.heap.size + 1, 1, none⟩ = some (.int .i64 tt) ∧ World.cell? W ⟨w.heap.size + 1, 2, none⟩ = some (.string ln)) → SmpsAt W so ss := fun W h => HS.out.grown h.1
    clear hS0
    go_wp2_with fail
    go_region_held3 (fun W => (World.grownBy w W none ∧ World.cell? W ⟨w.heap.size, 0, none⟩ = some (.string nm) ∧ World.cell? W ⟨w.heap.size, 1, none⟩ = some (.int .i64 sp) ∧ World.cell? W ⟨w.heap.size, 2, none⟩ = some (.int .i64 st) ∧ World.cell? W ⟨w.heap.size, 3, none⟩ = some (.slice so ss.length sc) ∧ World.cell? W ⟨w.heap.size, 4, none⟩ = some (.slice (some ⟨b, off, none⟩) ls.length lc) ∧ World.cell? W ⟨w.heap.size, 5, none⟩ = some (.slice to_ ts.length tc) ∧ World.cell? W ⟨w.heap.size + 1, 0, none⟩ = some (.int .i64 fr) ∧ World.cell? W ⟨w.heap.size + 1, 1, none⟩ = some (.int .i64 tt) ∧ World.cell? W ⟨w.heap.size + 1, 2, none⟩ = some (.string ln))) (first | exact hSd | (refine hstep _ _ ?_ (by assumption) <;> assumption)) (first
      | (go_at_call 60; refine (rspan_any ⟨nm, sp, st, so, sc, ss, some ⟨b, off, none⟩, lc, ls, to_, tc, ts⟩ SL.out _ (hof _ (by assumption)) HSP).mono ?_; rintro x w7 ⟨rfl, hg7⟩))
    all_goals
      rename_i hfin
      clear hSd hof
      obtain ⟨G9, f0, f1, f2, f3, f4, f5, l0, l1, l2⟩ := hfin
      clear hstep
      go_wp2_with fail
      go_quiet (fail)
      clear e2 e3
      go_wp2_with fail
      go_loop [6] (fun iv => ∃ j : Nat, j ≤ ln.size ∧ iv = .int .i64 j ∧ Hid (∀ i (h : i < ln.size), i < j → lapC ln[i].toNat = true)) (fun iv => ln.size - (intOf iv).toNat)
      case atStart => exact ⟨0, Nat.zero_le _, rfl, fun i _ h => absurd h (by omega)⟩
      case round =>
        obtain ⟨j, hj, rfl, hinv⟩ := hrel
        by_cases hjl : j < ln.size
        · have hu : (ln[j].toNat : Int) ≤ 255 := by have := ln[j].toNat_lt; omega
          by_cases hc1 : (ln[j].toNat : Int) < 32
          · have HV : Hid (E = 8) := R8.out (by
              refine lapName_bad hjl ?_
              unfold lapC; rw [decide_eq_false (by omega)]; rfl)
            go_wp2_with fail
            refine (out_yes _ _ _ (.inl hc1) _).mono ?_; rintro e w1 ⟨rfl, rfl⟩
            go_wp2_with fail
            go_ret
            exact ⟨ret_int HV.out.symm, grown_trans G9 (grown_drewN _ _ _)⟩
          · by_cases hc2 : 126 < (ln[j].toNat : Int)
            · have HV : Hid (E = 8) := R8.out (by
                refine lapName_bad hjl ?_
                unfold lapC; rw [decide_eq_false (p := ln[j].toNat ≤ 126) (by omega)]; simp)
              go_wp2_with fail
              refine (out_yes _ _ _ (.inr hc2) _).mono ?_; rintro e w1 ⟨rfl, rfl⟩
              go_wp2_with fail
              go_ret
              exact ⟨ret_int HV.out.symm, grown_trans G9 (grown_drewN _ _ _)⟩
            · have HI : Hid (∀ i (h : i < ln.size), i < j + 1 → lapC ln[i].toNat = true) := fun i hi hlt => by
                by_cases e : i = j
                · subst e; unfold lapC; rw [decide_eq_true (by omega), decide_eq_true (by omega)]; rfl
                · exact hinv.out i hi (by omega)
              go_wp2_with fail
              refine (out_no _ _ _ (by omega) (by omega) _).mono ?_; rintro e w1 ⟨rfl, rfl⟩
              go_wp2_with fail
              go_round
              case rel => exact ⟨j + 1, by omega, by go_num, HI⟩
              case measure => simp [intOf]; omega
        · by_cases hc3 : 60 < (ln.size : Int)
          · have HV : Hid (E = 8) := R8.out (lapName_long (by omega))
            go_wp2_with fail
            go_ret
            exact ⟨ret_int HV.out.symm, grown_trans G9 (grown_drewN _ _ _)⟩
          · have HV : Hid (E = 0) := R0.out (lapName_good (by omega) (fun i hi => hinv.out i hi (by omega)))
            go_wp2_with fail
            go_ret
            exact ⟨ret_int HV.out.symm, grown_trans G9 (grown_drewN _ _ _)⟩
  · obtain ⟨i, hki⟩ : ∃ i, k = i + 1 := ⟨k - 1, by omega⟩
    have hi : i < ls.length := by omega
    have q0 := (HL.out.cells _ rfl i hi).2.1
    have hpk : prevE ls k = some ls[i].to_ := by rw [hki, prevE_succ, List.getElem?_eq_getElem hi]; rfl
    generalize ls[i].to_ = pv at *
    simp only at q0
    have e2 : decide (0 < (k : Int)) = true := by simp; omega
    have e3 : 0 < k := by omega
    have ea : ((k : Int) - 1).toNat = i := by omega
    have pa : (0 : Int) ≤ (k : Int) - 1 := by omega
    have pb : (1 : Int) ≤ (k : Int) := by omega
    have ba : (k : Int) - 1 < (ls.length : Int) := by omega
    have ra : IntKind.i64.wrap ((k : Int) - 1) = (k : Int) - 1 := by rw [IntKind.wrap_i64]; omega
    have HKI := Lib.hid hki
    clear hki hk0
    rw [hpk] at R8 R0 RE
    by_cases a4 : fr < pv
    · have HE := RE hna a4
      have g4 : decide (fr < pv) = true := by simpa using a4
      clear R9 RE R8 R0 hna hpk
      go_enter Try.func123, Try.ntmps123
      have hS0 : (World.grownBy w ((w.alloc (.cells #[.string nm, .int .i64 sp, .int .i64 st, .slice so ss.length sc, .slice (some ⟨b, off, none⟩) ls.length lc, .slice to_ ts.length tc] 26)).alloc (.cells #[.int .i64 fr, .int .i64 tt, .string ln] 77)) none ∧ World.cell? ((w.alloc (.cells #[.string nm, .int .i64 sp, .int .i64 st, .slice so ss.length sc, .slice (some ⟨b, off, none⟩) ls.length lc, .slice to_ ts.length tc] 26)).alloc (.cells #[.int .i64 fr, .int .i64 tt, .string ln] 77)) ⟨w.heap.size, 0, none⟩ = some (.string nm) ∧ World.cell? ((w.alloc (.cells #[.string nm, .int .i64 sp, .int .i64 st, .slice so ss.length sc, .slice (some ⟨b, off, none⟩) ls.length lc, .slice to_ ts.length tc] 26)).alloc (.cells #[.int .i64 fr, .int .i64 tt, .string ln] 77)) ⟨w.heap.size, 1, none⟩ = some (.int .i64 sp) ∧ World.cell? ((w.alloc (.cells #[.string nm, .int .i64 sp, .int .i64 st, .slice so ss.length sc, .slice (some ⟨b, off, none⟩) ls.length lc, .slice to_ ts.length tc] 26)).alloc (.cells #[.int .i64 fr, .int .i64 tt, .string ln] 77)) ⟨w.heap.size, 2, none⟩ = some (.int .i64 st) ∧ World.cell? ((w.alloc (.cells #[.string nm, .int .i64 sp, .int .i64 st, .slice so ss.length sc, .slice (some ⟨b, off, none⟩) ls.length lc, .slice to_ ts.length tc] 26)).alloc (.cells #[.int .i64 fr, .int .i64 tt, .string ln] 77)) ⟨w.heap.size, 3, none⟩ = some (.slice so ss.length sc) ∧ World.cell? ((w.alloc (.cells #[.string nm, .int .i64 sp, .int .i64 st, .slice so ss.length sc, .slice (some ⟨b, off, none⟩) ls.length lc, .slice to_ ts.length tc] 26)).alloc (.cells #[.int .i64 fr, .int .i64 tt, .string ln] 77)) ⟨w.heap.size, 4, none⟩ = some (.slice (some ⟨b, off, none⟩) ls.length lc) ∧ World.cell? ((w.alloc (.cells #[.string nm, .int .i64 sp, .int .i64 st, .slice so ss.length sc, .slice (some ⟨b, off, none⟩) ls.length lc, .slice to_ ts.length tc] 26)).alloc (.cells #[.int .i64 fr, .int .i64 tt, .string ln] 77)) ⟨w.heap.size, 5, none⟩ = some (.slice to_ ts.length tc) ∧ World.cell? ((w.alloc (.cells #[.string nm, .int .i64 sp, .int .i64 st, .slice so ss.length sc, .slice (some ⟨b, off, none⟩) ls.length lc, .slice to_ ts.length tc] 26)).alloc (.cells #[.int .i64 fr, .int .i64 tt, .string ln] 77)) ⟨w.heap.size + 1, 0, none⟩ = some (.int .i64 fr) ∧ World.cell? ((w.alloc (.cells #[.string nm, .int .i64 sp, .int .i64 st, .slice so ss.length sc, .slice (some ⟨b, off, none⟩) ls.length lc, .slice to_ ts.length tc] 26)).alloc (.cells #[.int .i64 fr, .int .i64 tt, .string ln] 77)) ⟨w.heap.size + 1, 1, none⟩ = some (.int .i64 tt) ∧ World.cell? ((w.alloc (.cells #[.string nm, .int .i64 sp, .int .i64 st, .slice so ss.length sc, .slice (some ⟨b, off, none⟩) ls.length lc, .slice to_ ts.length tc] 26)).alloc (.cells #[.int .i64 fr, .int .i64 tt, .string ln] 77)) ⟨w.heap.size + 1, 2, none⟩ = some (.string ln)) := ⟨grown_trans (World.grownBy_alloc _ _ _) (World.grownBy_alloc _ _ _), by simp, by simp, by simp, by simp, by simp, by simp, by simp, by simp, by simp⟩
      have hstep : ∀ W W' : World, (World.grownBy w W none ∧ World.cell? W ⟨w.heap.size, 0, none⟩ = some (.string nm) ∧ World.cell? W ⟨w.heap.size, 1, none⟩ = some (.int .i64 sp) ∧ World.cell? W ⟨w.heap.size, 2, none⟩ = some (.int .i64 st) ∧ World.cell? W ⟨w.heap.size, 3, none⟩ = some (.slice so ss.length sc) ∧ World.cell? W ⟨w.heap.size, 4, none⟩ = some (.slice (some ⟨b, off, none⟩) ls.length lc) ∧ World.cell? W ⟨w.heap.size, 5, none⟩ = some (.slice to_ ts.length tc) ∧ World.cell? W ⟨w.heap.size + 1, 0, none⟩ = some (.int .i64 fr) ∧ World.cell? W ⟨w.heap.size + 1, 1, none⟩ = some (.int .i64 tt) ∧ World.cell? W ⟨w.heap.size + 1, 2, none⟩ = some (.string ln)) → W.grownBy W' none → (World.grownBy w W' none ∧ World.cell? W' ⟨w.heap.size, 0, none⟩ = some (.string nm) ∧ World.cell? W' ⟨w.heap.size, 1, none⟩ = some (.int .i64 sp) ∧ World.cell? W' ⟨w.heap.size, 2, none⟩ = some (.int .i64 st) ∧ World.cell? W' ⟨w.heap.size, 3, none⟩ = some (.slice so ss.length sc) ∧ World.cell? W' ⟨w.heap.size, 4, none⟩ = some (.slice (some ⟨b, off, none⟩) ls.length lc) ∧ World.cell? W' ⟨w.heap.size, 5, none⟩ = some (.slice to_ ts.length tc) ∧ World.cell? W' ⟨w.heap.size + 1, 0, none⟩ = some (.int .i64 fr) ∧ World.cell? W' ⟨w.heap.size + 1, 1, none⟩ = some (.int .i64 tt) ∧ World.cell? W' ⟨w.heap.size + 1, 2, none⟩ = some (.string ln)) := fun W W' h g => ⟨grown_trans h.1 g, grown_cell g h.2.1, grown_cell g h.2.2.1, grown_cell g h.2.2.2.1, grown_cell g h.2.2.2.2.1, grown_cell g h.2.2.2.2.2.1, grown_cell g h.2.2.2.2.2.2.1, grown_cell g h.2.2.2.2.2.2.2.1, grown_cell g h.2.2.2.2.2.2.2.2.1, grown_cell g h.2.2.2.2.2.2.2.2.2⟩
      have hSd : (World.grownBy w ((w.alloc (.cells #[.string nm, .int .i64 sp, .int .i64 st, .slice so ss.length sc, .slice (some ⟨b, off, none⟩) ls.length lc, .slice to_ ts.length tc] 26)).alloc (.cells #[.int .i64 fr, .int .i64 tt, .string ln] 77)).drew none ∧ World.cell? ((w.alloc (.cells #[.string nm, .int .i64 sp, .int .i64 st, .slice so ss.length sc, .slice (some ⟨b, off, none⟩) ls.length lc, .slice to_ ts.length tc] 26)).alloc (.cells #[.int .i64 fr, .int .i64 tt, .string ln] 77)).drew ⟨w.heap.size, 0, none⟩ = some (.string nm) ∧ World.cell? ((w.alloc (.cells #[.string nm, .int .i64 sp, .int .i64 st, .slice so ss.length sc, .slice (some ⟨b, off, none⟩) ls.length lc, .slice to_ ts.length tc] 26)).alloc (.cells #[.int .i64 fr, .int .i64 tt, .string ln] 77)).drew ⟨w.heap.size, 1, none⟩ = some (.int .i64 sp) ∧ World.cell? ((w.alloc (.cells #[.string nm, .int .i64 sp, .int .i64 st, .slice so ss.length sc, .slice (some ⟨b, off, none⟩) ls.length lc, .slice to_ ts.length tc] 26)).alloc (.cells #[.int .i64 fr, .int .i64 tt, .string ln] 77)).drew ⟨w.heap.size, 2, none⟩ = some (.int .i64 st) ∧ World.cell? ((w.alloc (.cells #[.string nm, .int .i64 sp, .int .i64 st, .slice so ss.length sc, .slice (some ⟨b, off, none⟩) ls.length lc, .slice to_ ts.length tc] 26)).alloc (.cells #[.int .i64 fr, .int .i64 tt, .string ln] 77)).drew ⟨w.heap.size, 3, none⟩ = some (.slice so ss.length sc) ∧ World.cell? ((w.alloc (.cells #[.string nm, .int .i64 sp, .int .i64 st, .slice so ss.length sc, .slice (some ⟨b, off, none⟩) ls.length lc, .slice to_ ts.length tc] 26)).alloc (.cells #[.int .i64 fr, .int .i64 tt, .string ln] 77)).drew ⟨w.heap.size, 4, none⟩ = some (.slice (some ⟨b, off, none⟩) ls.length lc) ∧ World.cell? ((w.alloc (.cells #[.string nm, .int .i64 sp, .int .i64 st, .slice so ss.length sc, .slice (some ⟨b, off, none⟩) ls.length lc, .slice to_ ts.length tc] 26)).alloc (.cells #[.int .i64 fr, .int .i64 tt, .string ln] 77)).drew ⟨w.heap.size, 5, none⟩ = some (.slice to_ ts.length tc) ∧ World.cell? ((w.alloc (.cells #[.string nm, .int .i64 sp, .int .i64 st, .slice so ss.length sc, .slice (some ⟨b, off, none⟩) ls.length lc, .slice to_ ts.length tc] 26)).alloc (.cells #[.int .i64 fr, .int .i64 tt, .string ln] 77)).drew ⟨w.heap.size + 1, 0, none⟩ = some (.int .i64 fr) ∧ World.cell? ((w.alloc (.cells #[.string nm, .int .i64 sp, .int .i64 st, .slice so ss.length sc, .slice (some ⟨b, off, none⟩) ls.length lc, .slice to_ ts.length tc] 26)).alloc (.cells #[.int .i64 fr, .int .i64 tt, .string ln] 77)).drew ⟨w.heap.size + 1, 1, none⟩ = some (.int .i64 tt) ∧ World.cell? ((w.alloc (.cells #[.string nm, .int .i64 sp, .int .i64 st, .slice so ss.length sc, .slice (some ⟨b, off, none⟩) ls.length lc, .slice to_ ts.length tc] 26)).alloc (.cells #[.int .i64 fr, .int .i64 tt, .string ln] 77)).drew ⟨w.heap.size + 1, 2, none⟩ = some (.string ln)) := hstep _ _ hS0 (grown_drewN _ _ 1)
      have hof : ∀ W : World, (World.grownBy w W none ∧ World.cell? W ⟨w.heap.size, 0, none⟩ = some (.string nm) ∧ World.cell? W ⟨w.heap.size, 1, none⟩ = some (.int .i64 sp) ∧ World.cell? W ⟨w.heap.size, 2, none⟩ = some (.int .i64 st) ∧ World.cell? W ⟨w.heap.size, 3, none⟩ = some (.slice so ss.length sc) ∧ World.cell? W ⟨w.heap.size, 4, none⟩ = some (.slice (some ⟨b, off, none⟩) ls.length lc) ∧ World.cell? W ⟨w.heap.size, 5, none⟩ = some (.slice to_ ts.length tc) ∧ World.cell? W ⟨w.heap.size + 1, 0, none⟩ = some (.int .i64 fr) ∧ World.cell? W ⟨w.heap.size + 1, 1, none⟩ = some (.int .i64 tt) ∧ World.cell? W ⟨w.heap.size + 1, 2, none⟩ = some (.string ln)) → SmpsAt W so ss := fun W h => HS.out.grown h.1
      clear hS0
      go_wp2_with fail
      go_region_held3 (fun W => (World.grownBy w W none ∧ World.cell? W ⟨w.heap.size, 0, none⟩ = some (.string nm) ∧ World.cell? W ⟨w.heap.size, 1, none⟩ = some (.int .i64 sp) ∧ World.cell? W ⟨w.heap.size, 2, none⟩ = some (.int .i64 st) ∧ World.cell? W ⟨w.heap.size, 3, none⟩ = some (.slice so ss.length sc) ∧ World.cell? W ⟨w.heap.size, 4, none⟩ = some (.slice (some ⟨b, off, none⟩) ls.length lc) ∧ World.cell? W ⟨w.heap.size, 5, none⟩ = some (.slice to_ ts.length tc) ∧ World.cell? W ⟨w.heap.size + 1, 0, none⟩ = some (.int .i64 fr) ∧ World.cell? W ⟨w.heap.size + 1, 1, none⟩ = some (.int .i64 tt) ∧ World.cell? W ⟨w.heap.size + 1, 2, none⟩ = some (.string ln))) (first | exact hSd | (refine hstep _ _ ?_ (by assumption) <;> assumption)) (first
        | (go_at_call 60; refine (rspan_any ⟨nm, sp, st, so, sc, ss, some ⟨b, off, none⟩, lc, ls, to_, tc, ts⟩ SL.out _ (hof _ (by assumption)) HSP).mono ?_; rintro x w7 ⟨rfl, hg7⟩))
      all_goals
        rename_i hfin
        clear hSd hof
        obtain ⟨G9, f0, f1, f2, f3, f4, f5, l0, l1, l2⟩ := hfin
        have q1 := grown_cell G9 q0
        clear hstep
        go_wp2_with fail
        go_quiet (fail)
        go_wp2_with fail
        go_ret
        exact ⟨ret_int HE.out.symm, grown_trans G9 (grown_drewN _ _ _)⟩
    · have g4 : decide (fr < pv) = false := by simpa using a4
      replace R8 := R8 hna a4
      replace R0 := R0 hna a4
      clear R9 RE hna hpk
      go_enter Try.func123, Try.ntmps123
      have hS0 : (World.grownBy w ((w.alloc (.cells #[.string nm, .int .i64 sp, .int .i64 st, .slice so ss.length sc, .slice (some ⟨b, off, none⟩) ls.length lc, .slice to_ ts.length tc] 26)).alloc (.cells #[.int .i64 fr, .int .i64 tt, .string ln] 77)) none ∧ World.cell? ((w.alloc (.cells #[.string nm, .int .i64 sp, .int .i64 st, .slice so ss.length sc, .slice (some ⟨b, off, none⟩) ls.length lc, .slice to_ ts.length tc] 26)).alloc (.cells #[.int .i64 fr, .int .i64 tt, .string ln] 77)) ⟨w.heap.size, 0, none⟩ = some (.string nm) ∧ World.cell? ((w.alloc (.cells #[.string nm, .int .i64 sp, .int .i64 st, .slice so ss.length sc, .slice (some ⟨b, off, none⟩) ls.length lc, .slice to_ ts.length tc] 26)).alloc (.cells #[.int .i64 fr, .int .i64 tt, .string ln] 77)) ⟨w.heap.size, 1, none⟩ = some (.int .i64 sp) ∧ World.cell? ((w.alloc (.cells #[.string nm, .int .i64 sp, .int .i64 st, .slice so ss.length sc, .slice (some ⟨b, off, none⟩) ls.length lc, .slice to_ ts.length tc] 26)).alloc (.cells #[.int .i64 fr, .int .i64 tt, .string ln] 77)) ⟨w.heap.size, 2, none⟩ = some (.int .i64 st) ∧ World.cell? ((w.alloc (.cells #[.string nm, .int .i64 sp, .int .i64 st, .slice so ss.length sc, .slice (some ⟨b, off, none⟩) ls.length lc, .slice to_ ts.length tc] 26)).alloc (.cells #[.int .i64 fr, .int .i64 tt, .string ln] 77)) ⟨w.heap.size, 3, none⟩ = some (.slice so ss.length sc) ∧ World.cell? ((w.alloc (.cells #[.string nm, .int .i64 sp, .int .i64 st, .slice so ss.length sc, .slice (some ⟨b, off, none⟩) ls.length lc, .slice to_ ts.length tc] 26)).alloc (.cells #[.int .i64 fr, .int .i64 tt, .string ln] 77)) ⟨w.heap.size, 4, none⟩ = some (.slice (some ⟨b, off, none⟩) ls.length lc) ∧ World.cell? ((w.alloc (.cells #[.string nm, .int .i64 sp, .int .i64 st, .slice so ss.length sc, .slice (some ⟨b, off, none⟩) ls.length lc, .slice to_ ts.length tc] 26)).alloc (.cells #[.int .i64 fr, .int .i64 tt, .string ln] 77)) ⟨w.heap.size, 5, none⟩ = some (.slice to_ ts.length tc) ∧ World.cell? ((w.alloc (.cells #[.string nm, .int .i64 sp, .int .i64 st, .slice so ss.length sc, .slice (some ⟨b, off, none⟩) ls.length lc, .slice to_ ts.length tc] 26)).alloc (.cells #[.int .i64 fr, .int .i64 tt, .string ln] 77)) ⟨w.heap.size + 1, 0, none⟩ = some (.int .i64 fr) ∧ World.cell? ((w.alloc (.cells #[.string nm, .int .i64 sp, .int .i64 st, .slice so ss.length sc, .slice (some ⟨b, off, none⟩) ls.length lc, .slice to_ ts.length tc] 26)).alloc (.cells #[.int .i64 fr, .int .i64 tt, .string ln] 77)) ⟨w.heap.size + 1, 1, none⟩ = some (.int .i64 tt) ∧ World.cell? ((w.alloc (.cells #[.string nm, .int .i64 sp, .int .i64 st, .slice so ss.length sc, .slice (some ⟨b, off, none⟩) ls.length lc, .slice to_ ts.length tc] 26)).alloc (.cells #[.int .i64 fr, .int .i64 tt, .string ln] 77)) ⟨w.heap.size + 1, 2, none⟩ = some (.string ln)) := ⟨grown_trans (World.grownBy_alloc _ _ _) (World.grownBy_alloc _ _ _), by simp, by simp, by simp, by simp, by simp, by simp, by simp, by simp, by simp⟩
      have hstep : ∀ W W' : World, (World.grownBy w W none ∧ World.cell? W ⟨w.heap.size, 0, none⟩ = some (.string nm) ∧ World.cell? W ⟨w.heap.size, 1, none⟩ = some (.int .i64 sp) ∧ World.cell? W ⟨w.heap.size, 2, none⟩ = some (.int .i64 st) ∧ World.cell? W ⟨w.heap.size, 3, none⟩ = some (.slice so ss.length sc) ∧ World.cell? W ⟨w.heap.size, 4, none⟩ = some (.slice (some ⟨b, off, none⟩) ls.length lc) ∧ World.cell? W ⟨w.heap.size, 5, none⟩ = some (.slice to_ ts.length tc) ∧ World.cell? W ⟨w.heap.size + 1, 0, none⟩ = some (.int .i64 fr) ∧ World.cell? W ⟨w.heap.size + 1, 1, none⟩ = some (.int .i64 tt) ∧ World.cell? W ⟨w.heap.size + 1, 2, none⟩ = some (.string ln)) → W.grownBy W' none → (World.grownBy w W' none ∧ World.cell? W' ⟨w.heap.size, 0, none⟩ = some (.string nm) ∧ World.cell? W' ⟨w.heap.size, 1, none⟩ = some (.int .i64 sp) ∧ World.cell? W' ⟨w.heap.size, 2, none⟩ = some (.int .i64 st) ∧ World.cell? W' ⟨w.heap.size, 3, none⟩ = some (.slice so ss.length sc) ∧ World.cell? W' ⟨w.heap.size, 4, none⟩ = some (.slice (some ⟨b, off, none⟩) ls.length lc) ∧ World.cell? W' ⟨w.heap.size, 5, none⟩ = some (.slice to_ ts.length tc) ∧ World.cell? W' ⟨w.heap.size + 1, 0, none⟩ = some (.int .i64 fr) ∧ World.cell? W' ⟨w.heap.size + 1, 1, none⟩ = some (.int .i64 tt) ∧ World.cell? W' ⟨w.heap.size + 1, 2, none⟩ = some (.string ln)) := fun W W' h g => ⟨grown_trans h.1 g, grown_cell g h.2.1, grown_cell g h.2.2.1, grown_cell g h.2.2.2.1, grown_cell g h.2.2.2.2.1, grown_cell g h.2.2.2.2.2.1, grown_cell g h.2.2.2.2.2.2.1, grown_cell g h.2.2.2.2.2.2.2.1, grown_cell g h.2.2.2.2.2.2.2.2.1, grown_cell g h.2.2.2.2.2.2.2.2.2⟩
      have hSd : (World.grownBy w ((w.alloc (.cells #[.string nm, .int .i64 sp, .int .i64 st, .slice so ss.length sc, .slice (some ⟨b, off, none⟩) ls.length lc, .slice to_ ts.length tc] 26)).alloc (.cells #[.int .i64 fr, .int .i64 tt, .string ln] 77)).drew none ∧ World.cell? ((w.alloc (.cells #[.string nm, .int .i64 sp, .int .i64 st, .slice so ss.length sc, .slice (some ⟨b, off, none⟩) ls.length lc, .slice to_ ts.length tc] 26)).alloc (.cells #[.int .i64 fr, .int .i64 tt, .string ln] 77)).drew ⟨w.heap.size, 0, none⟩ = some (.string nm) ∧ World.cell? ((w.alloc (.cells #[.string nm, .int .i64 sp, .int .i64 st, .slice so ss.length sc, .slice (some ⟨b, off, none⟩) ls.length lc, .slice to_ ts.length tc] 26)).alloc (.cells #[.int .i64 fr, .int .i64 tt, .string ln] 77)).drew ⟨w.heap.size, 1, none⟩ = some (.int .i64 sp) ∧ World.cell? ((w.alloc (.cells #[.string nm, .int .i64 sp, .int .i64 st, .slice so ss.length sc, .slice (some ⟨b, off, none⟩) ls.length lc, .slice to_ ts.length tc] 26)).alloc (.cells #[.int .i64 fr, .int .i64 tt, .string ln] 77)).drew ⟨w.heap.size, 2, none⟩ = some (.int .i64 st) ∧ World.cell? ((w.alloc (.cells #[.string nm, .int .i64 sp, .int .i64 st, .slice so ss.length sc, .slice (some ⟨b, off, none⟩) ls.length lc, .slice to_ ts.length tc] 26)).alloc (.cells #[.int .i64 fr, .int .i64 tt, .string ln] 77)).drew ⟨w.heap.size, 3, none⟩ = some (.slice so ss.length sc) ∧ World.cell? ((w.alloc (.cells #[.string nm, .int .i64 sp, .int .i64 st, .slice so ss.length sc, .slice (some ⟨b, off, none⟩) ls.length lc, .slice to_ ts.length tc] 26)).alloc (.cells #[.int .i64 fr, .int .i64 tt, .string ln] 77)).drew ⟨w.heap.size, 4, none⟩ = some (.slice (some ⟨b, off, none⟩) ls.length lc) ∧ World.cell? ((w.alloc (.cells #[.string nm, .int .i64 sp, .int .i64 st, .slice so ss.length sc, .slice (some ⟨b, off, none⟩) ls.length lc, .slice to_ ts.length tc] 26)).alloc (.cells #[.int .i64 fr, .int .i64 tt, .string ln] 77)).drew ⟨w.heap.size, 5, none⟩ = some (.slice to_ ts.length tc) ∧ World.cell? ((w.alloc (.cells #[.string nm, .int .i64 sp, .int .i64 st, .slice so ss.length sc, .slice (some ⟨b, off, none⟩) ls.length lc, .slice to_ ts.length tc] 26)).alloc (.cells #[.int .i64 fr, .int .i64 tt, .string ln] 77)).drew ⟨w.heap.size + 1, 0, none⟩ = some (.int .i64 fr) ∧ World.cell? ((w.alloc (.cells #[.string nm, .int .i64 sp, .int .i64 st, .slice so ss.length sc, .slice (some ⟨b, off, none⟩) ls.length lc, .slice to_ ts.length tc] 26)).alloc (.cells #[.int .i64 fr, .int .i64 tt, .string ln] 77)).drew ⟨w.heap.size + 1, 1, none⟩ = some (.int .i64 tt) ∧ World.cell? ((w.alloc (.cells #[.string nm, .int .i64 sp, .int .i64 st, .slice so ss.length sc, .slice (some ⟨b, off, none⟩) ls.length lc, .slice to_ ts.length tc] 26)).alloc (.cells #[.int .i64 fr, .int .i64 tt, .string ln] 77)).drew ⟨w.heap.size + 1, 2, none⟩ = some (.string ln)) := hstep _ _ hS0 (grown_drewN _ _ 1)
      have hof : ∀ W : World, (World.grownBy w W none ∧ World.cell? W ⟨w.heap.size, 0, none⟩ = some (.string nm) ∧ World.cell? W ⟨w.heap.size, 1, none⟩ = some (.int .i64 sp) ∧ World.cell? W ⟨w.heap.size, 2, none⟩ = some (.int .i64 st) ∧ World.cell? W ⟨w.heap.size, 3, none⟩ = some (.slice so ss.length sc) ∧ World.cell? W ⟨w.heap.size, 4, none⟩ = some (.slice (some ⟨b, off, none⟩) ls.length lc) ∧ World.cell? W ⟨w.heap.size, 5, none⟩ = some (.slice to_ ts.length tc) ∧ World.cell? W ⟨w.heap.size + 1, 0, none⟩ = some (.int .i64 fr) ∧ World.cell? W ⟨w.heap.size + 1, 1, none⟩ = some (.int .i64 tt) ∧ World.cell? W ⟨w.heap.size + 1, 2, none⟩ = some (.string ln)) → SmpsAt W so ss := fun W h => HS.out.grown h.1
      clear hS0
      go_wp2_with fail
      go_region_held3 (fun W => (World.grownBy w W none ∧ World.cell? W ⟨w.heap.size, 0, none⟩ = some (.string nm) ∧ World.cell? W ⟨w.heap.size, 1, none⟩ = some (.int .i64 sp) ∧ World.cell? W ⟨w.heap.size, 2, none⟩ = some (.int .i64 st) ∧ World.cell? W ⟨w.heap.size, 3, none⟩ = some (.slice so ss.length sc) ∧ World.cell? W ⟨w.heap.size, 4, none⟩ = some (.slice (some ⟨b, off, none⟩) ls.length lc) ∧ World.cell? W ⟨w.heap.size, 5, none⟩ = some (.slice to_ ts.length tc) ∧ World.cell? W ⟨w.heap.size + 1, 0, none⟩ = some (.int .i64 fr) ∧ World.cell? W ⟨w.heap.size + 1, 1, none⟩ = some (.int .i64 tt) ∧ World.cell? W ⟨w.heap.size + 1, 2, none⟩ = some (.string ln))) (first | exact hSd | (refine hstep _ _ ?_ (by assumption) <;> assumption)) (first
        | (go_at_call 60; refine (rspan_any ⟨nm, sp, st, so, sc, ss, some ⟨b, off, none⟩, lc, ls, to_, tc, ts⟩ SL.out _ (hof _ (by assumption)) HSP).mono ?_; rintro x w7 ⟨rfl, hg7⟩))
      all_goals
        rename_i hfin
        clear hSd hof
        obtain ⟨G9, f0, f1, f2, f3, f4, f5, l0, l1, l2⟩ := hfin
        have q1 := grown_cell G9 q0
        clear hstep
        go_wp2_with fail
        go_quiet (fail)
        clear e2 e3 ea pa pb ba ra q0 q1
        go_wp2_with fail
        go_loop [6] (fun iv => ∃ j : Nat, j ≤ ln.size ∧ iv = .int .i64 j ∧ Hid (∀ i (h : i < ln.size), i < j → lapC ln[i].toNat = true)) (fun iv => ln.size - (intOf iv).toNat)
        case atStart => exact ⟨0, Nat.zero_le _, rfl, fun i _ h => absurd h (by omega)⟩
        case round =>
          obtain ⟨j, hj, rfl, hinv⟩ := hrel
          by_cases hjl : j < ln.size
          · have hu : (ln[j].toNat : Int) ≤ 255 := by have := ln[j].toNat_lt; omega
            by_cases hc1 : (ln[j].toNat : Int) < 32
            · have HV : Hid (E = 8) := R8.out (by
                refine lapName_bad hjl ?_
                unfold lapC; rw [decide_eq_false (by omega)]; rfl)
              go_wp2_with fail
              refine (out_yes _ _ _ (.inl hc1) _).mono ?_; rintro e w1 ⟨rfl, rfl⟩
              go_wp2_with fail
              go_ret
              exact ⟨ret_int HV.out.symm, grown_trans G9 (grown_drewN _ _ _)⟩
            · by_cases hc2 : 126 < (ln[j].toNat : Int)
              · have HV : Hid (E = 8) := R8.out (by
                  refine lapName_bad hjl ?_
                  unfold lapC; rw [decide_eq_false (p := ln[j].toNat ≤ 126) (by omega)]; simp)
                go_wp2_with fail
                refine (out_yes _ _ _ (.inr hc2) _).mono ?_; rintro e w1 ⟨rfl, rfl⟩
                go_wp2_with fail
                go_ret
                exact ⟨ret_int HV.out.symm, grown_trans G9 (grown_drewN _ _ _)⟩
              · have HI : Hid (∀ i (h : i < ln.size), i < j + 1 → lapC ln[i].toNat = true) := fun i hi hlt => by
                  by_cases e : i = j
                  · subst e; unfold lapC; rw [decide_eq_true (by omega), decide_eq_true (by omega)]; rfl
                  · exact hinv.out i hi (by omega)
                go_wp2_with fail
                refine (out_no _ _ _ (by omega) (by omega) _).mono ?_; rintro e w1 ⟨rfl, rfl⟩
                go_wp2_with fail
                go_round
                case rel => exact ⟨j + 1, by omega, by go_num, HI⟩
                case measure => simp [intOf]; omega
          · by_cases hc3 : 60 < (ln.size : Int)
            · have HV : Hid (E = 8) := R8.out (lapName_long (by omega))
              go_wp2_with fail
              go_ret
              exact ⟨ret_int HV.out.symm, grown_trans G9 (grown_drewN _ _ _)⟩
            · have HV : Hid (E = 0) := R0.out (lapName_good (by omega) (fun i hi => hinv.out i hi (by omega)))
              go_wp2_with fail
              go_ret
              exact ⟨ret_int HV.out.symm, grown_trans G9 (grown_drewN _ _ _)⟩

end Go.Proofs.Ytgkhhfojioepgaa
