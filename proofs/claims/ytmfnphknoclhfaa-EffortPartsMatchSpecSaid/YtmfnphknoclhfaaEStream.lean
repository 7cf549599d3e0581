/- The contract of Stream, for any activity. -/
import Derived.Test.YtmfnphknoclhfaaEStreamOf
import Derived.Test.YtmfnphknoclhfaaEChk
import Derived.Test.YtmfnphknoclhfaaTCheck
namespace Go.Proofs.Ytmfnphknoclhfaa
open Go.RowKit

set_option maxRecDepth 100000 in
set_option maxHeartbeats 1600000 in
theorem Stream_any (a : Act) (kind : Int) (w : World) (ha : ActAt w a) {L : List Int} {E : Int} (hE : Hid (streamOut a kind = (L, E))) :
    Calls Try.prog 84 #[a.val, .int .i64 kind] w fun x w' => (∃ v, x = .returned (.tuple #[v, .int .i64 E]) ∧ w'.ownsRow w.heap.size 3 1 v L.length (ints L)) ∧ w.grownBy w' none := by
  obtain ⟨ce, hce⟩ : ∃ e, chkE a = e := ⟨_, rfl⟩
  have hv := hE.out
  unfold streamOut at hv
  rw [hce] at hv
  have HCE := Lib.hid hce; have HA := Lib.hid ha
  have hok : ce = 0 → SOk a.ss := fun h => sok_of (chk_ok (hce.trans h))
  obtain ⟨nm, sp, st, so, sc, ss, lo, lc, ls, to_, tc, ts⟩ := a
  simp only [Act.val] at *
  clear hE hce ha
  have GB : Hid (w.grownBy (w.alloc (.cells #[.string nm, .int .i64 sp, .int .i64 st, .slice so ss.length sc, .slice lo ls.length lc, .slice to_ ts.length tc] 42)) none) := World.grownBy_alloc _ _ _
  by_cases c1 : ce = 0
  · rw [if_pos c1] at hv
    subst c1
    have HS := Lib.hid (hok rfl)
    clear hok
    by_cases c2 : 1 ≤ kind ∧ kind ≤ 5
    · rw [if_pos c2] at hv
      simp only [Prod.mk.injEq] at hv
      obtain ⟨hL, rfl⟩ := hv
      have HL := Lib.hid hL
      obtain ⟨k1, k5⟩ := c2
      have C2 : Hid (1 ≤ kind ∧ kind ≤ 5) := ⟨k1, k5⟩
      clear hL
      go_enter Try.func84, Try.ntmps84
      go_wp2_with fail
      refine (check_any ⟨nm, sp, st, so, sc, ss, lo, lc, ls, to_, tc, ts⟩ _ (HA.out.grown GB.out) HCE).mono ?_; rintro e w1 ⟨rfl, hg1⟩
      have G1 := Lib.hid (grown_trans GB.out hg1)
      have b0 : w1.cell? ⟨w.heap.size, 0, none⟩ = some (.string nm) := grown_cell hg1 (by go_simp)
      have b1 : w1.cell? ⟨w.heap.size, 1, none⟩ = some (.int .i64 sp) := grown_cell hg1 (by go_simp)
      have b2 : w1.cell? ⟨w.heap.size, 2, none⟩ = some (.int .i64 st) := grown_cell hg1 (by go_simp)
      have b3 : w1.cell? ⟨w.heap.size, 3, none⟩ = some (.slice so ss.length sc) := grown_cell hg1 (by go_simp)
      have b4 : w1.cell? ⟨w.heap.size, 4, none⟩ = some (.slice lo ls.length lc) := grown_cell hg1 (by go_simp)
      have b5 : w1.cell? ⟨w.heap.size, 5, none⟩ = some (.slice to_ ts.length tc) := grown_cell hg1 (by go_simp)
      clear hg1
      go_wp2_with fail
      refine (ewithin_yes _ _ _ C2.out _).mono ?_; rintro e w2 ⟨rfl, rfl⟩
      go_wp2_with fail
      refine (streamOf_any nm sp st so sc ss lo lc ls to_ tc ts kind k1 k5 w1 (Lib.hid (HA.out.grown G1.out)) HS).mono ?_; rintro e w2 ⟨⟨v, rfl, ho⟩, hg2⟩
      have HO : Hid (w2.ownsRow w.heap.size 3 1 v L.length (ints L)) := by
        show World.ownsRow _ _ _ _ _ _ _
        rw [← HL.out]
        exact ⟨ho.1, ho.2.imp id fun ⟨g, cap, cur, h1, h2, h3⟩ => ⟨g, cap, cur, h1, by have := G1.out.size; omega, h3⟩⟩
      have G2 := Lib.hid (grown_trans G1.out hg2)
      clear ho hg2 b0 b1 b2 b3 b4 b5
      go_wp2_with fail
      go_ret2
      exact ⟨⟨_, rfl, HO.out⟩, G2.out⟩
    · rw [if_neg c2] at hv
      simp only [Prod.mk.injEq] at hv
      obtain ⟨rfl, rfl⟩ := hv
      have C2 := Lib.hid c2
      clear c2
      go_enter Try.func84, Try.ntmps84
      go_wp2_with fail
      refine (check_any ⟨nm, sp, st, so, sc, ss, lo, lc, ls, to_, tc, ts⟩ _ (HA.out.grown GB.out) HCE).mono ?_; rintro e w1 ⟨rfl, hg1⟩
      have G1 := Lib.hid (grown_trans GB.out hg1)
      clear hg1
      go_wp2_with fail
      refine (ewithin_no _ _ _ C2.out _).mono ?_; rintro e w2 ⟨rfl, rfl⟩
      go_wp2_with fail
      go_ret2
      exact ⟨⟨_, rfl, World.ownsRow_nil _ _ _ _⟩, G1.out⟩
  · rw [if_neg c1] at hv
    simp only [Prod.mk.injEq] at hv
    obtain ⟨rfl, rfl⟩ := hv
    have hne : (ce != 0) = true := by simpa using c1
    clear c1 hok
    go_enter Try.func84, Try.ntmps84
    go_wp2_with fail
    refine (check_any ⟨nm, sp, st, so, sc, ss, lo, lc, ls, to_, tc, ts⟩ _ (HA.out.grown GB.out) HCE).mono ?_; rintro e w1 ⟨rfl, hg1⟩
    have G1 := Lib.hid (grown_trans GB.out hg1)
    clear hg1
    go_wp2_with fail
    go_ret2
    exact ⟨⟨_, rfl, World.ownsRow_nil _ _ _ _⟩, G1.out⟩

end Go.Proofs.Ytmfnphknoclhfaa
