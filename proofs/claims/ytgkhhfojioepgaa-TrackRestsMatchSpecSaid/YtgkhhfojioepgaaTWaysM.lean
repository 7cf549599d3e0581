/- The contracts of Ways, of both sides. -/
import Derived.Test.YtgkhhfojioepgaaTWays
import Derived.Test.YtgkhhfojioepgaaBaseA
import Derived.Test.YtgkhhfojioepgaaTRChk
import Derived.Deep.RegionHeld3
import Derived.OwnWalk
namespace Go.Proofs.Ytgkhhfojioepgaa
open Go.RowKit
set_option linter.unusedSimpArgs false
set_option linter.unusedVariables false

/-- The cells of a list of numbers. -/
def IntsC (w : World) (ao : Option Addr) (n : Nat) (F : Nat → Int) : Prop := ∀ j, j < n → ∃ g, ao = some ⟨g, 0, none⟩ ∧ w.cell? ⟨g, j, none⟩ = some (.int .i64 (F j))
theorem IntsC.grown {w w' : World} {ao : Option Addr} {n : Nat} {F : Nat → Int} (h : IntsC w ao n F) (g : w.grownBy w' none) : IntsC w' ao n F := fun j hj => by
  obtain ⟨b, hb, hc⟩ := h j hj
  exact ⟨b, hb, grown_cell g hc⟩
def waysE (a : Act) : Nat × Int := if chkE a = 0 then (a.ss.length, 0) else (0, chkE a)

set_option maxHeartbeats 800000 in
theorem ways_any (a : Act) (w : World) (ha : ActAt w a) {n : Nat} {E : Int} (hE : Hid (waysE a = (n, E))) :
    Calls Try.prog 47 #[a.val] w fun x w' => (∃ ao cap, x = .returned (.tuple #[.slice ao n cap, .int .i64 E]) ∧ IntsC w' ao n (wayN a.ss)) ∧ w.grownBy w' none := by
  obtain ⟨ce, hce⟩ : ∃ e, chkE a = e := ⟨_, rfl⟩
  have hw := hE.out
  unfold waysE at hw
  have HCE := Lib.hid hce
  have HA := Lib.hid ha
  have hok : ce = 0 → ActOk a := fun h => chk_ok (hce.trans h)
  rw [hce] at hw
  obtain ⟨nm, sp, st, so, sc, ss, lo, lc, ls, to_, tc, ts⟩ := a
  simp only [Act.val] at *
  clear hce hE ha
  by_cases h0 : ce = 0
  · rw [if_pos h0] at hw
    simp only [Prod.mk.injEq] at hw
    obtain ⟨rfl, rfl⟩ := hw
    have hk := hok h0
    subst h0
    have HL := Lib.hid hk.sl; have HP := Lib.hid hk.plane
    clear hok hk
    go_enter Try.func47, Try.ntmps47
    go_wp2_with fail
    refine (check_any ⟨nm, sp, st, so, sc, ss, lo, lc, ls, to_, tc, ts⟩ _ (HA.out.grown (World.grownBy_alloc _ _ _)) HCE).mono ?_; rintro e w1 ⟨rfl, hg1⟩
    have G1 := grown_trans (World.grownBy_alloc w (.cells #[.string nm, .int .i64 sp, .int .i64 st, .slice so ss.length sc, .slice lo ls.length lc, .slice to_ ts.length tc] 26) none) hg1
    have b3 : w1.cell? ⟨w.heap.size, 3, none⟩ = some (.slice so ss.length sc) := grown_cell hg1 (by simp)
    clear hg1
    go_wp2_with fail
    refine (waysOf_any so sc ss HL.out w1 (HA.out.grown G1).hs ((HA.out.grown G1).hs).block HP.out).mono ?_; rintro e w2 ⟨⟨rfl, hR⟩, hg2⟩
    have G2 := grown_trans G1 (grown_below hg2)
    have HR := Lib.hid hR
    clear hR hg2 G1
    go_wp2_with fail
    go_ret2
    exact ⟨⟨_, _, rfl, fun j hj => ⟨_, rfl, HR.out.cell hj⟩⟩, G2⟩
  · rw [if_neg h0] at hw
    simp only [Prod.mk.injEq] at hw
    obtain ⟨rfl, rfl⟩ := hw
    have hne : (ce != 0) = true := by simpa using h0
    clear hok h0
    go_enter Try.func47, Try.ntmps47
    go_wp2_with fail
    refine (check_any ⟨nm, sp, st, so, sc, ss, lo, lc, ls, to_, tc, ts⟩ _ (HA.out.grown (World.grownBy_alloc _ _ _)) HCE).mono ?_; rintro e w1 ⟨rfl, hg1⟩
    have G1 := grown_trans (World.grownBy_alloc w (.cells #[.string nm, .int .i64 sp, .int .i64 st, .slice so ss.length sc, .slice lo ls.length lc, .slice to_ ts.length tc] 26) none) hg1
    clear hg1
    go_wp2_with fail
    go_ret2
    exact ⟨⟨_, _, rfl, fun j hj => absurd hj (by omega)⟩, G1⟩

/-- The list of the reference's ways so far. -/
noncomputable def wayVs (ss : List Smp) (k : Nat) : List Value := (List.range k).map fun j => Value.int .i64 (wayN ss j)
theorem wayVs_succ (ss : List Smp) (k : Nat) : wayVs ss (k + 1) = wayVs ss k ++ [.int .i64 (wayN ss k)] := by simp [wayVs, List.range_succ]
theorem wayN_bd {ss : List Smp} (hp : ∀ x ∈ ss, inPlane x) : ∀ j, 0 ≤ wayN ss j ∧ wayN ss j ≤ j * 300000000
  | 0 => by simp [wayN]
  | k + 1 => by
    have := wayN_bd hp k
    have := stepW_bd (smpD_plane hp k) (smpD_plane hp (k + 1))
    unfold wayN; omega
noncomputable def sumTo (ss : List Smp) : Nat → Int
  | 0 => 0
  | k + 1 => wayN ss k
end Go.Proofs.Ytgkhhfojioepgaa
