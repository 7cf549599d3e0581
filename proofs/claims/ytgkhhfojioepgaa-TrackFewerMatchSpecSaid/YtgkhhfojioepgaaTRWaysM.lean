/- The contract of the reference's Ways. -/
import Derived.Test.YtgkhhfojioepgaaTRWays
namespace Go.Proofs.Ytgkhhfojioepgaa
open Go.RowKit
set_option linter.unusedSimpArgs false
set_option linter.unusedVariables false

theorem rwaysL_any (nm : ByteArray) (sp st : Int) (so : Option Addr) (sc : Nat) (ss : List Smp) (lo : Option Addr) (lc : Nat) (ls : List LapV) (to_ : Option Addr) (tc : Nat) (ts : List ByteArray) (hl : (ss.length : Int) ≤ 20000) (w : World) (hs : SmpsAt w so ss) (hp : ∀ x ∈ ss, inPlane x) :
    Calls Try.prog 110 #[.agg #[.string nm, .int .i64 sp, .int .i64 st, .slice so ss.length sc, .slice lo ls.length lc, .slice to_ ts.length tc]] w fun x w' => (∃ v, x = .returned v ∧ w'.ownsRow (w.heap.size + 1) 3 1 v ss.length (wayVs ss ss.length)) ∧ w.grownBy w' none := by
  cases ss with
  | nil =>
    clear hs hp hl
    simp only [List.length_nil]
    go_enter Try.func110, Try.ntmps110
    go_wp2_with fail
    refine wp_loop_rounds 1 ?_
    rw [rounds_succ]
    go_wp2_with fail
    go_ret
    exact ⟨⟨_, rfl, World.ownsRow_nil _ _ _ _⟩, World.grownBy_alloc _ _ _⟩
  | cons x r =>
    match so, hs with
    | none, hs => exact absurd (hs.nil rfl) (by simp)
    | some ⟨b, off, spt⟩, hs =>
      have h := hs.spot _ rfl (by simp)
      simp only at h
      subst h
      exact rwaysL_some nm sp st b off sc (x :: r) lo lc ls to_ tc ts hl w hs hp

theorem own_ints {w : World} {base n : Nat} {v : Value} {ss : List Smp} (h : w.ownsRow base 3 1 v n (wayVs ss n)) : ∃ ao cap, v = .slice ao n cap ∧ IntsC w ao n (wayN ss) := by
  rcases h.2 with ⟨hv, h0⟩ | ⟨g, cap, cur, hv, hb, hg, rest⟩
  · subst h0
    exact ⟨none, 0, hv, fun j hj => absurd hj (by omega)⟩
  · refine ⟨some ⟨g, 0, none⟩, cap, hv, fun j hj => ⟨g, rfl, ?_⟩⟩
    have := h.cells (g := g) (by rw [hv]; rfl) j (.int .i64 (wayN ss j)) (by simp [wayVs, hj])
    rcases Nat.eq_zero_or_pos j with h0 | h0
    · subst h0; simpa [Addr.add] using this
    · simpa [Addr.add, Nat.ne_of_gt h0] using this

set_option maxHeartbeats 800000 in
theorem rways_any (a : Act) (w : World) (ha : ActAt w a) {n : Nat} {E : Int} (hE : Hid (waysE a = (n, E))) :
    Calls Try.prog 48 #[a.val] w fun x w' => (∃ ao cap, x = .returned (.tuple #[.slice ao n cap, .int .i64 E]) ∧ IntsC w' ao n (wayN a.ss)) ∧ w.grownBy w' none := by
  obtain ⟨ce, hce⟩ : ∃ e, chkE a = e := ⟨_, rfl⟩
  have hw := hE.out
  unfold waysE at hw
  have HCE := Lib.hid hce
  have HA := Lib.hid ha
  have hok : ce = 0 → ActOk a := fun h => chk_ok (hce.trans h)
  rw [hce] at hw
  obtain ⟨nm, sp, st, so, sc, ss, lo, lc, ls, to_, tc, ts⟩ := a
  simp only [Act.val] at *
  clear hce hE ha
  by_cases h0 : ce = 0
  · rw [if_pos h0] at hw
    simp only [Prod.mk.injEq] at hw
    obtain ⟨rfl, rfl⟩ := hw
    have hk := hok h0
    subst h0
    have HL := Lib.hid hk.sl; have HP := Lib.hid hk.plane
    clear hok hk
    go_enter Try.func48, Try.ntmps48
    go_wp2_with fail
    refine (rcheck_any ⟨nm, sp, st, so, sc, ss, lo, lc, ls, to_, tc, ts⟩ _ (HA.out.grown (World.grownBy_alloc _ _ _)) HCE).mono ?_; rintro e w1 ⟨rfl, hg1⟩
    have G1 := grown_trans (World.grownBy_alloc w (.cells #[.string nm, .int .i64 sp, .int .i64 st, .slice so ss.length sc, .slice lo ls.length lc, .slice to_ ts.length tc] 26) none) hg1
    have b0 : w1.cell? ⟨w.heap.size, 0, none⟩ = some (.string nm) := grown_cell hg1 (by simp)
    have b1 : w1.cell? ⟨w.heap.size, 1, none⟩ = some (.int .i64 sp) := grown_cell hg1 (by simp)
    have b2 : w1.cell? ⟨w.heap.size, 2, none⟩ = some (.int .i64 st) := grown_cell hg1 (by simp)
    have b3 : w1.cell? ⟨w.heap.size, 3, none⟩ = some (.slice so ss.length sc) := grown_cell hg1 (by simp)
    have b4 : w1.cell? ⟨w.heap.size, 4, none⟩ = some (.slice lo ls.length lc) := grown_cell hg1 (by simp)
    have b5 : w1.cell? ⟨w.heap.size, 5, none⟩ = some (.slice to_ ts.length tc) := grown_cell hg1 (by simp)
    clear hg1
    go_wp2_with fail
    refine (rwaysL_any nm sp st so sc ss lo lc ls to_ tc ts HL.out w1 (HA.out.grown G1).hs HP.out).mono ?_; rintro e w2 ⟨⟨v, rfl, hR⟩, hg2⟩
    have G2 := grown_trans G1 hg2
    obtain ⟨ao, cap, rfl, hI⟩ := own_ints hR
    have HI := Lib.hid hI
    clear hR hg2 G1 hI
    go_wp2_with fail
    go_ret2
    exact ⟨⟨_, _, rfl, HI.out⟩, G2⟩
  · rw [if_neg h0] at hw
    simp only [Prod.mk.injEq] at hw
    obtain ⟨rfl, rfl⟩ := hw
    have hne : (ce != 0) = true := by simpa using h0
    clear hok h0
    go_enter Try.func48, Try.ntmps48
    go_wp2_with fail
    refine (rcheck_any ⟨nm, sp, st, so, sc, ss, lo, lc, ls, to_, tc, ts⟩ _ (HA.out.grown (World.grownBy_alloc _ _ _)) HCE).mono ?_; rintro e w1 ⟨rfl, hg1⟩
    have G1 := grown_trans (World.grownBy_alloc w (.cells #[.string nm, .int .i64 sp, .int .i64 st, .slice so ss.length sc, .slice lo ls.length lc, .slice to_ ts.length tc] 26) none) hg1
    clear hg1
    go_wp2_with fail
    go_ret2
    exact ⟨⟨_, _, rfl, fun j hj => absurd hj (by omega)⟩, G1⟩

end Go.Proofs.Ytgkhhfojioepgaa
