/- For all zones, CheckZone, Offset, Local and Moments return what the reference says: the walk. -/
import Derived.Test.YtfgemdfloeknfaaQRefMoments
import Derived.Test.YtfgemdfloeknfaaQTold
import Derived.Deep.RegionHeld3
namespace Go.Proofs.Ytfgemdfloeknfaa
open Go.RowKit

/-- What Moments returns: a list, and what is wrong. -/
def momE (first : Int) (cs : List (Int × Int)) (d s : Int) : List Int × Int :=
  if zoneE first cs ≠ 0 then ([], zoneE first cs)
  else if d < 0 ∨ 999999 < d ∨ s < 0 ∨ 86399 < s then ([], 9)
  else (momP (d * 86400 + s) 0 first cs, 0)

/-- A row of its own, or none. -/
def RowOf (w : World) (base : Nat) (v : Value) (xs : List Int) : Prop := w.ownsRow base 3 1 v xs.length (xs.map (Value.int .i64))

theorem moments_any (first d s : Int) (ao : Option Addr) (cap : Nat) (cs : List (Int × Int)) (hcl : (cs.length : Int) ≤ 9223372036854775807) (w : World) (hz : ZoneAt w ao cs) :
    Calls Try.prog 30 #[.agg #[.int .i64 first, .slice ao cs.length cap], .int .i64 d, .int .i64 s] w fun e w' => (∃ v, e = .returned (.tuple #[v, .int .i64 (momE first cs d s).2]) ∧ RowOf w' w.heap.size v (momE first cs d s).1) ∧ w.grownBy w' none := by
  have hza : ∀ o : Obj, ZoneAt (w.alloc o) ao cs := fun o => hz.grown (World.grownBy_alloc _ _ _)
  obtain ⟨e, he⟩ : ∃ e, zoneE first cs = e := ⟨_, rfl⟩
  have HE := Lib.hid he
  by_cases c1 : e = 0
  · subst c1
    by_cases c2 : d < 0 ∨ 999999 < d ∨ s < 0 ∨ 86399 < s
    · have hv : momE first cs d s = ([], 9) := by unfold momE; rw [if_neg (by simp [he]), if_pos c2]
      rw [hv]
      have HZA := Lib.hid hza; have HCL := Lib.hid hcl; clear hza hz hcl hv he
      by_cases c3 : d < 0 ∨ 999999 < d
      · have H3 := Lib.hid c3; clear c2 c3
        go_enter Try.func30, Try.ntmps30
        go_wp2_with (first | (go_at_call 32; refine (checkZone_is HCL.out (HZA.out _) HE).mono ?_; rintro x w1 ⟨rfl, hg1⟩) | (go_at_call 46; refine (isDay_no _ H3.out _).mono ?_; rintro x w2 ⟨rfl, rfl⟩))
        go_ret2
        exact ⟨⟨_, rfl, World.ownsRow_nil _ _ _ _⟩, grown_trans (World.grownBy_alloc _ _ _) (by assumption)⟩
      · have d0 : 0 ≤ d := by omega
        have d1 : d ≤ 999999 := by omega
        by_cases c4 : s < 0
        · clear c2 c3
          go_enter Try.func30, Try.ntmps30
          go_wp2_with (first | (go_at_call 32; refine (checkZone_is HCL.out (HZA.out _) HE).mono ?_; rintro x w1 ⟨rfl, hg1⟩) | (go_at_call 46; refine (isDay_yes _ d0 d1 _).mono ?_; rintro x w2 ⟨rfl, rfl⟩))
          go_ret2
          exact ⟨⟨_, rfl, World.ownsRow_nil _ _ _ _⟩, grown_trans (World.grownBy_alloc _ _ _) (by assumption)⟩
        · have s1 : 86400 ≤ s := by omega
          clear c2 c3
          go_enter Try.func30, Try.ntmps30
          go_wp2_with (first | (go_at_call 32; refine (checkZone_is HCL.out (HZA.out _) HE).mono ?_; rintro x w1 ⟨rfl, hg1⟩) | (go_at_call 46; refine (isDay_yes _ d0 d1 _).mono ?_; rintro x w2 ⟨rfl, rfl⟩))
          go_ret2
          exact ⟨⟨_, rfl, World.ownsRow_nil _ _ _ _⟩, grown_trans (World.grownBy_alloc _ _ _) (by assumption)⟩
    · have hv : momE first cs d s = (momP (d * 86400 + s) 0 first cs, 0) := by unfold momE; rw [if_neg (by simp [he]), if_neg c2]
      rw [hv]
      exact moments_walk first d s ao cap cs hcl w hz HE (by omega) (by omega) (by omega) (by omega)
  · have hv : momE first cs d s = ([], e) := by unfold momE; rw [he, if_pos c1]
    rw [hv]
    have hb : (e != 0) = true := by simpa using c1
    have HZA := Lib.hid hza; have HCL := Lib.hid hcl; clear hza hz hcl hv he c1
    go_enter Try.func30, Try.ntmps30
    go_wp2_with (go_at_call 32; refine (checkZone_is HCL.out (HZA.out _) HE).mono ?_; rintro x w1 ⟨rfl, hg1⟩)
    go_ret2
    exact ⟨⟨_, rfl, World.ownsRow_nil _ _ _ _⟩, grown_trans (World.grownBy_alloc _ _ _) (by assumption)⟩

theorem rmoments_any (first d s : Int) (ao : Option Addr) (cap : Nat) (cs : List (Int × Int)) (hcl : (cs.length : Int) ≤ 9223372036854775807) (w : World) (hz : ZoneAt w ao cs) :
    Calls Try.prog 31 #[.agg #[.int .i64 first, .slice ao cs.length cap], .int .i64 d, .int .i64 s] w fun e w' => (∃ v, e = .returned (.tuple #[v, .int .i64 (momE first cs d s).2]) ∧ RowOf w' w.heap.size v (momE first cs d s).1) ∧ w.grownBy w' none := by
  have hza : ∀ o : Obj, ZoneAt (w.alloc o) ao cs := fun o => hz.grown (World.grownBy_alloc _ _ _)
  obtain ⟨e, he⟩ : ∃ e, zoneE first cs = e := ⟨_, rfl⟩
  have HE := Lib.hid he
  by_cases c1 : e = 0
  · subst c1
    by_cases c2 : d < 0 ∨ 999999 < d ∨ s < 0 ∨ 86399 < s
    · have hv : momE first cs d s = ([], 9) := by unfold momE; rw [if_neg (by simp [he]), if_pos c2]
      rw [hv]
      have HZA := Lib.hid hza; have HCL := Lib.hid hcl; clear hza hz hcl hv he
      by_cases c3 : d < 0 ∨ 999999 < d
      · have H3 := Lib.hid c3; clear c2 c3
        go_enter Try.func31, Try.ntmps31
        go_wp2_with (first | (go_at_call 33; refine (rcheckZone_is HCL.out (HZA.out _) HE).mono ?_; rintro x w1 ⟨rfl, hg1⟩) | (go_at_call 38; refine (outside_yes _ _ _ H3.out _).mono ?_; rintro x w2 ⟨rfl, rfl⟩))
        go_ret2
        exact ⟨⟨_, rfl, World.ownsRow_nil _ _ _ _⟩, grown_trans (World.grownBy_alloc _ _ _) (by assumption)⟩
      · have d0 : 0 ≤ d := by omega
        have d1 : d ≤ 999999 := by omega
        by_cases c4 : s < 0
        · clear c2 c3
          go_enter Try.func31, Try.ntmps31
          go_wp2_with (first | (go_at_call 33; refine (rcheckZone_is HCL.out (HZA.out _) HE).mono ?_; rintro x w1 ⟨rfl, hg1⟩) | (go_at_call 38; refine (outside_no _ _ _ (by omega) (by omega) _).mono ?_; rintro x w2 ⟨rfl, rfl⟩) | (go_at_call 38; refine (outside_yes _ _ _ (by omega) _).mono ?_; rintro x w2 ⟨rfl, rfl⟩))
          go_ret2
          exact ⟨⟨_, rfl, World.ownsRow_nil _ _ _ _⟩, grown_trans (World.grownBy_alloc _ _ _) (by assumption)⟩
        · have s1 : 86400 ≤ s := by omega
          clear c2 c3
          go_enter Try.func31, Try.ntmps31
          go_wp2_with (first | (go_at_call 33; refine (rcheckZone_is HCL.out (HZA.out _) HE).mono ?_; rintro x w1 ⟨rfl, hg1⟩) | (go_at_call 38; refine (outside_no _ _ _ (by omega) (by omega) _).mono ?_; rintro x w2 ⟨rfl, rfl⟩) | (go_at_call 38; refine (outside_yes _ _ _ (by omega) _).mono ?_; rintro x w2 ⟨rfl, rfl⟩))
          go_ret2
          exact ⟨⟨_, rfl, World.ownsRow_nil _ _ _ _⟩, grown_trans (World.grownBy_alloc _ _ _) (by assumption)⟩
    · have hv : momE first cs d s = (momP (d * 86400 + s) 0 first cs, 0) := by unfold momE; rw [if_neg (by simp [he]), if_neg c2]
      rw [hv]
      exact rmoments_walk first d s ao cap cs hcl w hz HE (by omega) (by omega) (by omega) (by omega)
  · have hv : momE first cs d s = ([], e) := by unfold momE; rw [he, if_pos c1]
    rw [hv]
    have hb : (e != 0) = true := by simpa using c1
    have HZA := Lib.hid hza; have HCL := Lib.hid hcl; clear hza hz hcl hv he c1
    go_enter Try.func31, Try.ntmps31
    go_wp2_with (go_at_call 33; refine (rcheckZone_is HCL.out (HZA.out _) HE).mono ?_; rintro x w1 ⟨rfl, hg1⟩)
    go_ret2
    exact ⟨⟨_, rfl, World.ownsRow_nil _ _ _ _⟩, grown_trans (World.grownBy_alloc _ _ _) (by assumption)⟩

theorem own_max {w : World} {base : Nat} {v : Value} {xs : List Int} (h : RowOf w base v xs) : xs.length ≤ 9223372036854775807 := by
  rcases h.2 with ⟨_, h0⟩ | ⟨g, cap, cur, _, _, _, hn, hm, _⟩
  · omega
  · unfold maxLen at hm; omega

theorem equal_same {w : World} {xs : List Int} {lo1 lo2 : Option Addr} {c1 c2 : Nat} (h1 : ∀ j (hj : j < xs.length), ∃ g, lo1 = some ⟨g, 0, none⟩ ∧ w.cell? ⟨g, j, none⟩ = some (.int .i64 xs[j])) (h2 : ∀ j (hj : j < xs.length), ∃ g, lo2 = some ⟨g, 0, none⟩ ∧ w.cell? ⟨g, j, none⟩ = some (.int .i64 xs[j])) (hl : xs.length ≤ 9223372036854775807) :
    Calls Try.prog 19 #[.slice lo1 xs.length c1, .slice lo2 xs.length c2] w fun e w' => e = .returned (.bool true) ∧ ∃ q, w' = w.drewN q := by
  by_cases h0 : xs.length = 0
  · rw [h0]
    refine (Try.slices_Equal_int_empty lo1 lo2 c1 0 c2 w (by omega)).mono ?_
    rintro e w' ⟨rfl, rfl⟩
    exact ⟨by simp, 0, rfl⟩
  · obtain ⟨g1, rfl, _⟩ := h1 0 (by omega)
    obtain ⟨g2, rfl, _⟩ := h2 0 (by omega)
    have e : ∀ j (hj : j < xs.length), xs.getD j 0 = xs[j] := fun j hj => by simp [List.getD, List.getElem?_eq_getElem hj]
    refine (Try.slices_Equal_int g1 0 xs.length c1 g2 0 xs.length c2 xs xs w (Nat.le_refl _) (Nat.le_refl _) hl hl ?_ ?_).mono ?_
    · intro j hj
      obtain ⟨g, hg, hc⟩ := h1 j hj
      cases hg
      rw [Nat.zero_add, e j hj]; exact hc
    · intro j hj
      obtain ⟨g, hg, hc⟩ := h2 j hj
      cases hg
      rw [Nat.zero_add, e j hj]; exact hc
    · rintro e w' ⟨rfl, q, rfl⟩
      exact ⟨by simp, q, rfl⟩

theorem equal_in {w w' : World} (g : w.grownBy w' none) {xs : List Int} {lo1 lo2 : Option Addr} {c1 c2 : Nat} (h1 : ∀ j (hj : j < xs.length), ∃ g, lo1 = some ⟨g, 0, none⟩ ∧ w.cell? ⟨g, j, none⟩ = some (.int .i64 xs[j])) (h2 : ∀ j (hj : j < xs.length), ∃ g, lo2 = some ⟨g, 0, none⟩ ∧ w.cell? ⟨g, j, none⟩ = some (.int .i64 xs[j])) (hl : xs.length ≤ 9223372036854775807) :
    Calls Try.prog 19 #[.slice lo1 xs.length c1, .slice lo2 xs.length c2] w' fun e w'' => e = .returned (.bool true) ∧ w'.grownBy w'' none := by
  refine (equal_same (fun j hj => ?_) (fun j hj => ?_) hl).mono ?_
  · obtain ⟨b, hb, hc⟩ := h1 j hj
    exact ⟨b, hb, grown_cell g hc⟩
  · obtain ⟨b, hb, hc⟩ := h2 j hj
    exact ⟨b, hb, grown_cell g hc⟩
  · rintro e w2 ⟨rfl, q, rfl⟩
    exact ⟨rfl, grown_drewN _ _ _⟩

set_option maxRecDepth 100000 in
set_option maxHeartbeats 1600000 in
theorem zones_walk (first m d s : Int) (ao : Option Addr) (cap : Nat) (cs : List (Int × Int)) (hcl : (cs.length : Int) ≤ 9223372036854775807) (w : World) (hz : ZoneAt w ao cs) :
    Calls Try.prog 8 #[.agg #[.int .i64 first, .slice ao cs.length cap], .int .i64 m, .int .i64 d, .int .i64 s] w fun e w' => e = .returned (.bool true) ∧ w.grownBy w' none := by
  have HZ := Lib.hid hz; have HCL := Lib.hid hcl; clear hz hcl
  obtain ⟨ze, hze⟩ : ∃ e, zoneE first cs = e := ⟨_, rfl⟩
  rcases ho : offE first cs m with ⟨o1, o2⟩
  rcases hl : localE first cs m with ⟨l1, l2, l3⟩
  have hmw : ∀ w : World, ZoneAt w ao cs → Calls Try.prog 30 #[.agg #[.int .i64 first, .slice ao cs.length cap], .int .i64 d, .int .i64 s] w _ := fun w hz => moments_any first d s ao cap cs HCL.out w hz
  have hrw : ∀ w : World, ZoneAt w ao cs → Calls Try.prog 31 #[.agg #[.int .i64 first, .slice ao cs.length cap], .int .i64 d, .int .i64 s] w _ := fun w hz => rmoments_any first d s ao cap cs HCL.out w hz
  rcases hm : momE first cs d s with ⟨xs, me⟩
  rw [hm] at hmw hrw
  have HZE := Lib.hid hze; have HO := Lib.hid ho; have HL := Lib.hid hl; have HMW := Lib.hid hmw; have HRW := Lib.hid hrw
  clear hze ho hl hmw hrw hm
  go_enter Try.func8, Try.ntmps8
  go_wp2_with fail
  refine (offset_is HCL.out (HZ.out.grown (World.grownBy_alloc _ _ _)) HO).mono ?_
  rintro x w1 ⟨rfl, hg1⟩
  have hga := grown_trans (World.grownBy_alloc w (.cells #[.int .i64 first, .slice ao cs.length cap] 40) none) hg1
  have hb0 : w1.cell? ⟨w.heap.size, 0, none⟩ = some (.int .i64 first) := grown_cell hg1 (by simp)
  have hb1 : w1.cell? ⟨w.heap.size, 1, none⟩ = some (.slice ao cs.length cap) := grown_cell hg1 (by simp)
  clear hg1
  go_wp2_with fail
  refine (roffset_is HCL.out (HZ.out.grown hga) HO).mono ?_
  rintro x w2 ⟨rfl, hg2⟩
  replace hga := grown_trans hga hg2
  replace hb0 := grown_cell hg2 hb0
  replace hb1 := grown_cell hg2 hb1
  clear hg2
  go_wp2_with fail
  refine (local_is HCL.out (HZ.out.grown hga) HL).mono ?_
  rintro x w3 ⟨rfl, hg3⟩
  replace hga := grown_trans hga hg3
  replace hb0 := grown_cell hg3 hb0
  replace hb1 := grown_cell hg3 hb1
  clear hg3
  go_wp2_with fail
  refine (rlocal_is HCL.out (HZ.out.grown hga) HL).mono ?_
  rintro x w4 ⟨rfl, hg4⟩
  replace hga := grown_trans hga hg4
  replace hb0 := grown_cell hg4 hb0
  replace hb1 := grown_cell hg4 hb1
  clear hg4
  go_wp2_with fail
  refine (HMW.out _ (HZ.out.grown hga)).mono ?_
  rintro x w5 ⟨⟨v, rfl, hr1⟩, hg5⟩
  replace hga := grown_trans hga hg5
  replace hb0 := grown_cell hg5 hb0
  replace hb1 := grown_cell hg5 hb1
  have HR1 := Lib.hid hr1
  clear hg5 hr1
  go_wp2_with fail
  refine (HRW.out _ (HZ.out.grown hga)).mono ?_
  rintro x w6 ⟨⟨v2, rfl, hr2⟩, hg6⟩
  replace hga := grown_trans hga hg6
  replace hb0 := grown_cell hg6 hb0
  replace hb1 := grown_cell hg6 hb1
  have hr1 := own_grown HR1.out hg6
  obtain ⟨lo1, c1, rfl, hc1⟩ := own_shape hr1
  obtain ⟨lo2, c2, rfl, hc2⟩ := own_shape hr2
  have hxl : xs.length ≤ 9223372036854775807 := own_max hr1
  have HC1 := Lib.hid hc1; have HC2 := Lib.hid hc2; have HXL := Lib.hid hxl
  have hS0 : (World.grownBy w w6 none ∧ World.grownBy w6 w6 none ∧ World.cell? w6 ⟨w.heap.size, 0, none⟩ = some (.int .i64 first) ∧ World.cell? w6 ⟨w.heap.size, 1, none⟩ = some (.slice ao cs.length cap)) := ⟨hga, grown_refl _ _, hb0, hb1⟩
  have hstep : ∀ W W' : World, (World.grownBy w W none ∧ World.grownBy w6 W none ∧ World.cell? W ⟨w.heap.size, 0, none⟩ = some (.int .i64 first) ∧ World.cell? W ⟨w.heap.size, 1, none⟩ = some (.slice ao cs.length cap)) → W.grownBy W' none → (World.grownBy w W' none ∧ World.grownBy w6 W' none ∧ World.cell? W' ⟨w.heap.size, 0, none⟩ = some (.int .i64 first) ∧ World.cell? W' ⟨w.heap.size, 1, none⟩ = some (.slice ao cs.length cap)) := fun W W' h g => ⟨grown_trans h.1 g, grown_trans h.2.1 g, grown_cell g h.2.2.1, grown_cell g h.2.2.2⟩
  have hSd : (World.grownBy w w6.drew none ∧ World.grownBy w6 w6.drew none ∧ World.cell? w6.drew ⟨w.heap.size, 0, none⟩ = some (.int .i64 first) ∧ World.cell? w6.drew ⟨w.heap.size, 1, none⟩ = some (.slice ao cs.length cap)) := hstep _ _ hS0 (grown_drew _ _)
  have hzof : ∀ W : World, (World.grownBy w W none ∧ World.grownBy w6 W none ∧ World.cell? W ⟨w.heap.size, 0, none⟩ = some (.int .i64 first) ∧ World.cell? W ⟨w.heap.size, 1, none⟩ = some (.slice ao cs.length cap)) → ZoneAt W ao cs := fun W h => HZ.out.grown h.1
  have h6of : ∀ W : World, (World.grownBy w W none ∧ World.grownBy w6 W none ∧ World.cell? W ⟨w.heap.size, 0, none⟩ = some (.int .i64 first) ∧ World.cell? W ⟨w.heap.size, 1, none⟩ = some (.slice ao cs.length cap)) → World.grownBy w6 W none := fun W h => h.2.1
  clear hg6 hr1 hr2 hxl hc1 hc2 HR1 hS0
  go_wp2_with fail
  clear hga hb0 hb1
  go_region_held3 (fun W => (World.grownBy w W none ∧ World.grownBy w6 W none ∧ World.cell? W ⟨w.heap.size, 0, none⟩ = some (.int .i64 first) ∧ World.cell? W ⟨w.heap.size, 1, none⟩ = some (.slice ao cs.length cap))) (first | exact hSd | (refine hstep _ _ ?_ (by assumption) <;> assumption)) (first
    | (go_at_call 32; refine (checkZone_is HCL.out (hzof _ (by assumption)) HZE).mono ?_; rintro x w7 ⟨rfl, hg7⟩)
    | (go_at_call 33; refine (rcheckZone_is HCL.out (hzof _ (by assumption)) HZE).mono ?_; rintro x w8 ⟨rfl, hg8⟩)
    | (go_at_call 19; refine (equal_in (h6of _ (by assumption)) HC1.out HC2.out HXL.out).mono ?_; rintro x w9 ⟨rfl, hg9⟩)
    | (go_at_call 16; refine (told_any _).mono ?_; rintro x w10 ⟨rfl, hg10⟩))
  all_goals
    go_wp2_with fail
    go_ret
    exact ⟨by first | rfl | simp, And.left (by assumption)⟩
end Go.Proofs.Ytfgemdfloeknfaa
