/- Texts that all laws of this seat use, one behind the other. -/
import Derived.Test.YtgkhhfojioepgaaBaseA
import Derived.Laws.BitsAllLaws
import Derived.IntWalk
import Derived.BigRegion
namespace Go.Proofs.Ytgkhhfojioepgaa
open Go.RowKit
set_option linter.unusedSimpArgs false
set_option linter.unusedVariables false

theorem chkE_name {a : Act} (h : nameB a.name = false) : chkE a = 8 := by unfold chkE; rw [if_neg (by simp [h])]
theorem chkE_sport {a : Act} (h : nameB a.name = true) (h1 : a.sport < 1 ∨ 5 < a.sport) : chkE a = 7 := by unfold chkE; rw [if_pos h, if_neg (by omega)]
theorem chkE_start {a : Act} (h : nameB a.name = true) (h1 : 1 ≤ a.sport ∧ a.sport ≤ 5) (h2 : a.start < 0 ∨ 86399999999 < a.start) : chkE a = 9 := by unfold chkE; rw [if_pos h, if_pos h1, if_neg (by omega)]
theorem chkE_size {a : Act} (h : nameB a.name = true) (h1 : 1 ≤ a.sport ∧ a.sport ≤ 5) (h2 : 0 ≤ a.start ∧ a.start ≤ 86399999999) (h3 : 20000 < (a.ss.length : Int) ∨ 200 < (a.ls.length : Int) ∨ 20 < (a.ts.length : Int)) : chkE a = 3 := by unfold chkE; rw [if_pos h, if_pos h1, if_pos h2, if_neg (by omega)]
theorem chkE_rest {a : Act} (h : nameB a.name = true) (h1 : 1 ≤ a.sport ∧ a.sport ≤ 5) (h2 : 0 ≤ a.start ∧ a.start ≤ 86399999999) (h3 : (a.ss.length : Int) ≤ 20000 ∧ (a.ls.length : Int) ≤ 200 ∧ (a.ts.length : Int) ≤ 20) :
    chkE a = if smpsE a.start none a.ss = 0 then (if lapsE (spanL a.ss) 0 a.ls = 0 then tagsE none a.ts else lapsE (spanL a.ss) 0 a.ls) else smpsE a.start none a.ss := by unfold chkE; rw [if_pos h, if_pos h1, if_pos h2, if_pos h3]

set_option maxRecDepth 100000 in
set_option maxHeartbeats 3200000 in
theorem check_any (a : Act) (w : World) (ha : ActAt w a) {E : Int} (hE : Hid (chkE a = E)) :
    Calls Try.prog 54 #[a.val] w fun e w' => e = .returned (.int .i64 E) ∧ w.grownBy w' none := by
  obtain ⟨nm, sp, st, so, sc, ss, lo, lc, ls, to_, tc, ts⟩ := a
  obtain ⟨ns, sl, ll, tl, hs, hl, ht⟩ := ha
  have CN := @chkE_name ⟨nm, sp, st, so, sc, ss, lo, lc, ls, to_, tc, ts⟩
  have CS := @chkE_sport ⟨nm, sp, st, so, sc, ss, lo, lc, ls, to_, tc, ts⟩
  have CT := @chkE_start ⟨nm, sp, st, so, sc, ss, lo, lc, ls, to_, tc, ts⟩
  have CZ := @chkE_size ⟨nm, sp, st, so, sc, ss, lo, lc, ls, to_, tc, ts⟩
  have CR := @chkE_rest ⟨nm, sp, st, so, sc, ss, lo, lc, ls, to_, tc, ts⟩
  rw [hE.out] at CN CS CT CZ CR
  simp only [Act.val] at *
  have NS := Lib.hid ns; have SL := Lib.hid sl; have LL := Lib.hid ll; have TL := Lib.hid tl; have HS := Lib.hid hs; have HL := Lib.hid hl; have HT := Lib.hid ht
  have TL := Lib.hid tl
  clear ns hs hl ht hE
  cases hn : nameB nm with
  | false =>
    have HV : Hid (E = 8) := CN hn
    have HN := Lib.hid hn
    clear CN CS CT CZ CR hn
    go_enter Try.func54, Try.ntmps54
    go_wp2_with fail
    refine (isName_is nm NS.out _ HN).mono ?_; rintro e w1 ⟨rfl, rfl⟩
    go_wp2_with fail
    go_ret
    exact ⟨ret_int HV.out.symm, World.grownBy_alloc _ _ _⟩
  | true =>
    have HN := Lib.hid hn
    by_cases a1 : sp < 1
    · have HV : Hid (E = 7) := CS hn (.inl a1)
      clear CN CS CT CZ CR hn
      go_enter Try.func54, Try.ntmps54
      go_wp2_with fail
      refine (isName_is nm NS.out _ HN).mono ?_; rintro e w1 ⟨rfl, rfl⟩
      go_wp2_with fail
      go_ret
      exact ⟨ret_int HV.out.symm, World.grownBy_alloc _ _ _⟩
    by_cases a2 : 5 < sp
    · have HV : Hid (E = 7) := CS hn (.inr a2)
      clear CN CS CT CZ CR hn
      go_enter Try.func54, Try.ntmps54
      go_wp2_with fail
      refine (isName_is nm NS.out _ HN).mono ?_; rintro e w1 ⟨rfl, rfl⟩
      go_wp2_with fail
      go_ret
      exact ⟨ret_int HV.out.symm, World.grownBy_alloc _ _ _⟩
    by_cases a3 : st < 0
    · have HV : Hid (E = 9) := CT hn ⟨by omega, by omega⟩ (.inl a3)
      clear CN CS CT CZ CR hn
      go_enter Try.func54, Try.ntmps54
      go_wp2_with fail
      refine (isName_is nm NS.out _ HN).mono ?_; rintro e w1 ⟨rfl, rfl⟩
      go_wp2_with fail
      go_ret
      exact ⟨ret_int HV.out.symm, World.grownBy_alloc _ _ _⟩
    by_cases a4 : 86399999999 < st
    · have HV : Hid (E = 9) := CT hn ⟨by omega, by omega⟩ (.inr a4)
      clear CN CS CT CZ CR hn
      go_enter Try.func54, Try.ntmps54
      go_wp2_with fail
      refine (isName_is nm NS.out _ HN).mono ?_; rintro e w1 ⟨rfl, rfl⟩
      go_wp2_with fail
      go_ret
      exact ⟨ret_int HV.out.symm, World.grownBy_alloc _ _ _⟩
    by_cases a5 : 20000 < (ss.length : Int)
    · have HV : Hid (E = 3) := CZ hn ⟨by omega, by omega⟩ ⟨by omega, by omega⟩ (.inl a5)
      clear CN CS CT CZ CR hn
      go_enter Try.func54, Try.ntmps54
      go_wp2_with fail
      refine (isName_is nm NS.out _ HN).mono ?_; rintro e w1 ⟨rfl, rfl⟩
      go_wp2_with fail
      go_ret
      exact ⟨ret_int HV.out.symm, World.grownBy_alloc _ _ _⟩
    by_cases a6 : 200 < (ls.length : Int)
    · have HV : Hid (E = 3) := CZ hn ⟨by omega, by omega⟩ ⟨by omega, by omega⟩ (.inr (.inl a6))
      clear CN CS CT CZ CR hn
      go_enter Try.func54, Try.ntmps54
      go_wp2_with fail
      refine (isName_is nm NS.out _ HN).mono ?_; rintro e w1 ⟨rfl, rfl⟩
      go_wp2_with fail
      go_ret
      exact ⟨ret_int HV.out.symm, World.grownBy_alloc _ _ _⟩
    by_cases a7 : 20 < (ts.length : Int)
    · have HV : Hid (E = 3) := CZ hn ⟨by omega, by omega⟩ ⟨by omega, by omega⟩ (.inr (.inr a7))
      clear CN CS CT CZ CR hn
      go_enter Try.func54, Try.ntmps54
      go_wp2_with fail
      refine (isName_is nm NS.out _ HN).mono ?_; rintro e w1 ⟨rfl, rfl⟩
      go_wp2_with fail
      go_ret
      exact ⟨ret_int HV.out.symm, World.grownBy_alloc _ _ _⟩
    have hr := CR hn ⟨by omega, by omega⟩ ⟨by omega, by omega⟩ ⟨by omega, by omega, by omega⟩
    clear CN CS CT CZ CR hn
    have s0 : 0 ≤ st := by omega
    have s1 : st ≤ 86399999999 := by omega
    obtain ⟨ES, hes⟩ : ∃ x, smpsE st none ss = x := ⟨_, rfl⟩
    rw [hes] at hr
    have HES := Lib.hid hes; clear hes
    by_cases d1 : ES = 0
    · obtain ⟨SPN, hsp⟩ : ∃ x, spanL ss = x := ⟨_, rfl⟩
      obtain ⟨EL, hel⟩ : ∃ x, lapsE SPN 0 ls = x := ⟨_, rfl⟩
      rw [if_pos d1, hsp, hel] at hr
      have HSP := Lib.hid hsp; have HEL := Lib.hid hel; clear hsp hel
      subst d1
      by_cases d2 : EL = 0
      · have HV : Hid (tagsE none ts = E) := by show _ = _; rw [hr, if_pos d2]
        subst d2
        clear hr
        go_enter Try.func54, Try.ntmps54
        go_wp2_with fail
        refine (isName_is nm NS.out _ HN).mono ?_; rintro e w1 ⟨rfl, rfl⟩
        go_wp2_with fail
        refine (chkSamples_any st s0 s1 so sc ss SL.out _ (HS.out.grown (World.grownBy_alloc _ _ _)) HES).mono ?_; rintro e w1 ⟨rfl, hg1⟩
        have G1 := grown_trans (World.grownBy_alloc w (.cells #[.string nm, .int .i64 sp, .int .i64 st, .slice so ss.length sc, .slice lo ls.length lc, .slice to_ ts.length tc] 26) none) hg1
        have b0 : w1.cell? ⟨w.heap.size, 0, none⟩ = some (.string nm) := grown_cell hg1 (by simp)
        have b1 : w1.cell? ⟨w.heap.size, 1, none⟩ = some (.int .i64 sp) := grown_cell hg1 (by simp)
        have b2 : w1.cell? ⟨w.heap.size, 2, none⟩ = some (.int .i64 st) := grown_cell hg1 (by simp)
        have b3 : w1.cell? ⟨w.heap.size, 3, none⟩ = some (.slice so ss.length sc) := grown_cell hg1 (by simp)
        have b4 : w1.cell? ⟨w.heap.size, 4, none⟩ = some (.slice lo ls.length lc) := grown_cell hg1 (by simp)
        have b5 : w1.cell? ⟨w.heap.size, 5, none⟩ = some (.slice to_ ts.length tc) := grown_cell hg1 (by simp)
        clear hg1
        have hS0 : (World.grownBy w w1 none ∧ World.cell? w1 ⟨w.heap.size, 0, none⟩ = some (.string nm) ∧ World.cell? w1 ⟨w.heap.size, 1, none⟩ = some (.int .i64 sp) ∧ World.cell? w1 ⟨w.heap.size, 2, none⟩ = some (.int .i64 st) ∧ World.cell? w1 ⟨w.heap.size, 3, none⟩ = some (.slice so ss.length sc) ∧ World.cell? w1 ⟨w.heap.size, 4, none⟩ = some (.slice lo ls.length lc) ∧ World.cell? w1 ⟨w.heap.size, 5, none⟩ = some (.slice to_ ts.length tc)) := ⟨G1, b0, b1, b2, b3, b4, b5⟩
        have hstep : ∀ W W' : World, (World.grownBy w W none ∧ World.cell? W ⟨w.heap.size, 0, none⟩ = some (.string nm) ∧ World.cell? W ⟨w.heap.size, 1, none⟩ = some (.int .i64 sp) ∧ World.cell? W ⟨w.heap.size, 2, none⟩ = some (.int .i64 st) ∧ World.cell? W ⟨w.heap.size, 3, none⟩ = some (.slice so ss.length sc) ∧ World.cell? W ⟨w.heap.size, 4, none⟩ = some (.slice lo ls.length lc) ∧ World.cell? W ⟨w.heap.size, 5, none⟩ = some (.slice to_ ts.length tc)) → W.grownBy W' none → (World.grownBy w W' none ∧ World.cell? W' ⟨w.heap.size, 0, none⟩ = some (.string nm) ∧ World.cell? W' ⟨w.heap.size, 1, none⟩ = some (.int .i64 sp) ∧ World.cell? W' ⟨w.heap.size, 2, none⟩ = some (.int .i64 st) ∧ World.cell? W' ⟨w.heap.size, 3, none⟩ = some (.slice so ss.length sc) ∧ World.cell? W' ⟨w.heap.size, 4, none⟩ = some (.slice lo ls.length lc) ∧ World.cell? W' ⟨w.heap.size, 5, none⟩ = some (.slice to_ ts.length tc)) := fun W W' h g => ⟨grown_trans h.1 g, grown_cell g h.2.1, grown_cell g h.2.2.1, grown_cell g h.2.2.2.1, grown_cell g h.2.2.2.2.1, grown_cell g h.2.2.2.2.2.1, grown_cell g h.2.2.2.2.2.2⟩
        have hSd : (World.grownBy w w1.drew none ∧ World.cell? w1.drew ⟨w.heap.size, 0, none⟩ = some (.string nm) ∧ World.cell? w1.drew ⟨w.heap.size, 1, none⟩ = some (.int .i64 sp) ∧ World.cell? w1.drew ⟨w.heap.size, 2, none⟩ = some (.int .i64 st) ∧ World.cell? w1.drew ⟨w.heap.size, 3, none⟩ = some (.slice so ss.length sc) ∧ World.cell? w1.drew ⟨w.heap.size, 4, none⟩ = some (.slice lo ls.length lc) ∧ World.cell? w1.drew ⟨w.heap.size, 5, none⟩ = some (.slice to_ ts.length tc)) := hstep _ _ hS0 (grown_drewN _ _ 1)
        have hof : ∀ W : World, (World.grownBy w W none ∧ World.cell? W ⟨w.heap.size, 0, none⟩ = some (.string nm) ∧ World.cell? W ⟨w.heap.size, 1, none⟩ = some (.int .i64 sp) ∧ World.cell? W ⟨w.heap.size, 2, none⟩ = some (.int .i64 st) ∧ World.cell? W ⟨w.heap.size, 3, none⟩ = some (.slice so ss.length sc) ∧ World.cell? W ⟨w.heap.size, 4, none⟩ = some (.slice lo ls.length lc) ∧ World.cell? W ⟨w.heap.size, 5, none⟩ = some (.slice to_ ts.length tc)) → SmpsAt W so ss ∧ LapsAt W lo ls := fun W h => ⟨HS.out.grown h.1, HL.out.grown h.1⟩
        clear hS0
        go_wp2_with fail
        clear G1 b0 b1 b2 b3 b4 b5
        go_region_held3 (fun W => (World.grownBy w W none ∧ World.cell? W ⟨w.heap.size, 0, none⟩ = some (.string nm) ∧ World.cell? W ⟨w.heap.size, 1, none⟩ = some (.int .i64 sp) ∧ World.cell? W ⟨w.heap.size, 2, none⟩ = some (.int .i64 st) ∧ World.cell? W ⟨w.heap.size, 3, none⟩ = some (.slice so ss.length sc) ∧ World.cell? W ⟨w.heap.size, 4, none⟩ = some (.slice lo ls.length lc) ∧ World.cell? W ⟨w.heap.size, 5, none⟩ = some (.slice to_ ts.length tc))) (first | exact hSd | (refine hstep _ _ ?_ (by assumption) <;> assumption)) (first
          | (go_at_call 56; refine (span_any ⟨nm, sp, st, so, sc, ss, lo, lc, ls, to_, tc, ts⟩ SL.out _ (hof _ (by assumption)).1 HSP).mono ?_; rintro x w7 ⟨rfl, hg7⟩)
          | (go_at_call 116; refine (chkLaps_any _ lo lc ls LL.out _ (hof _ (by assumption)).2 HEL).mono ?_; rintro x w8 ⟨rfl, hg8⟩))
        all_goals
          rename_i hfin
          clear hSd
          obtain ⟨G9, f0, f1, f2, f3, f4, f5⟩ := hfin
          have HT9 := Lib.hid (HT.out.grown G9)
          clear hstep hof
          go_wp2_with fail
          refine (chkTags_any to_ tc ts TL.out _ HT9.out HV).mono ?_; rintro e w9 ⟨rfl, rfl⟩
          go_wp2_with fail
          go_ret
          exact ⟨rfl, G9⟩
      · have HV : Hid (E = EL) := by show _ = _; rw [hr, if_neg d2]
        have hne : (EL != 0) = true := by simpa using d2
        clear hr d2
        go_enter Try.func54, Try.ntmps54
        go_wp2_with fail
        refine (isName_is nm NS.out _ HN).mono ?_; rintro e w1 ⟨rfl, rfl⟩
        go_wp2_with fail
        refine (chkSamples_any st s0 s1 so sc ss SL.out _ (HS.out.grown (World.grownBy_alloc _ _ _)) HES).mono ?_; rintro e w1 ⟨rfl, hg1⟩
        have G1 := grown_trans (World.grownBy_alloc w (.cells #[.string nm, .int .i64 sp, .int .i64 st, .slice so ss.length sc, .slice lo ls.length lc, .slice to_ ts.length tc] 26) none) hg1
        have b0 : w1.cell? ⟨w.heap.size, 0, none⟩ = some (.string nm) := grown_cell hg1 (by simp)
        have b1 : w1.cell? ⟨w.heap.size, 1, none⟩ = some (.int .i64 sp) := grown_cell hg1 (by simp)
        have b2 : w1.cell? ⟨w.heap.size, 2, none⟩ = some (.int .i64 st) := grown_cell hg1 (by simp)
        have b3 : w1.cell? ⟨w.heap.size, 3, none⟩ = some (.slice so ss.length sc) := grown_cell hg1 (by simp)
        have b4 : w1.cell? ⟨w.heap.size, 4, none⟩ = some (.slice lo ls.length lc) := grown_cell hg1 (by simp)
        have b5 : w1.cell? ⟨w.heap.size, 5, none⟩ = some (.slice to_ ts.length tc) := grown_cell hg1 (by simp)
        clear hg1
        have hS0 : (World.grownBy w w1 none ∧ World.cell? w1 ⟨w.heap.size, 0, none⟩ = some (.string nm) ∧ World.cell? w1 ⟨w.heap.size, 1, none⟩ = some (.int .i64 sp) ∧ World.cell? w1 ⟨w.heap.size, 2, none⟩ = some (.int .i64 st) ∧ World.cell? w1 ⟨w.heap.size, 3, none⟩ = some (.slice so ss.length sc) ∧ World.cell? w1 ⟨w.heap.size, 4, none⟩ = some (.slice lo ls.length lc) ∧ World.cell? w1 ⟨w.heap.size, 5, none⟩ = some (.slice to_ ts.length tc)) := ⟨G1, b0, b1, b2, b3, b4, b5⟩
        have hstep : ∀ W W' : World, (World.grownBy w W none ∧ World.cell? W ⟨w.heap.size, 0, none⟩ = some (.string nm) ∧ World.cell? W ⟨w.heap.size, 1, none⟩ = some (.int .i64 sp) ∧ World.cell? W ⟨w.heap.size, 2, none⟩ = some (.int .i64 st) ∧ World.cell? W ⟨w.heap.size, 3, none⟩ = some (.slice so ss.length sc) ∧ World.cell? W ⟨w.heap.size, 4, none⟩ = some (.slice lo ls.length lc) ∧ World.cell? W ⟨w.heap.size, 5, none⟩ = some (.slice to_ ts.length tc)) → W.grownBy W' none → (World.grownBy w W' none ∧ World.cell? W' ⟨w.heap.size, 0, none⟩ = some (.string nm) ∧ World.cell? W' ⟨w.heap.size, 1, none⟩ = some (.int .i64 sp) ∧ World.cell? W' ⟨w.heap.size, 2, none⟩ = some (.int .i64 st) ∧ World.cell? W' ⟨w.heap.size, 3, none⟩ = some (.slice so ss.length sc) ∧ World.cell? W' ⟨w.heap.size, 4, none⟩ = some (.slice lo ls.length lc) ∧ World.cell? W' ⟨w.heap.size, 5, none⟩ = some (.slice to_ ts.length tc)) := fun W W' h g => ⟨grown_trans h.1 g, grown_cell g h.2.1, grown_cell g h.2.2.1, grown_cell g h.2.2.2.1, grown_cell g h.2.2.2.2.1, grown_cell g h.2.2.2.2.2.1, grown_cell g h.2.2.2.2.2.2⟩
        have hSd : (World.grownBy w w1.drew none ∧ World.cell? w1.drew ⟨w.heap.size, 0, none⟩ = some (.string nm) ∧ World.cell? w1.drew ⟨w.heap.size, 1, none⟩ = some (.int .i64 sp) ∧ World.cell? w1.drew ⟨w.heap.size, 2, none⟩ = some (.int .i64 st) ∧ World.cell? w1.drew ⟨w.heap.size, 3, none⟩ = some (.slice so ss.length sc) ∧ World.cell? w1.drew ⟨w.heap.size, 4, none⟩ = some (.slice lo ls.length lc) ∧ World.cell? w1.drew ⟨w.heap.size, 5, none⟩ = some (.slice to_ ts.length tc)) := hstep _ _ hS0 (grown_drewN _ _ 1)
        have hof : ∀ W : World, (World.grownBy w W none ∧ World.cell? W ⟨w.heap.size, 0, none⟩ = some (.string nm) ∧ World.cell? W ⟨w.heap.size, 1, none⟩ = some (.int .i64 sp) ∧ World.cell? W ⟨w.heap.size, 2, none⟩ = some (.int .i64 st) ∧ World.cell? W ⟨w.heap.size, 3, none⟩ = some (.slice so ss.length sc) ∧ World.cell? W ⟨w.heap.size, 4, none⟩ = some (.slice lo ls.length lc) ∧ World.cell? W ⟨w.heap.size, 5, none⟩ = some (.slice to_ ts.length tc)) → SmpsAt W so ss ∧ LapsAt W lo ls := fun W h => ⟨HS.out.grown h.1, HL.out.grown h.1⟩
        clear hS0
        go_wp2_with fail
        clear G1 b0 b1 b2 b3 b4 b5
        go_region_held3 (fun W => (World.grownBy w W none ∧ World.cell? W ⟨w.heap.size, 0, none⟩ = some (.string nm) ∧ World.cell? W ⟨w.heap.size, 1, none⟩ = some (.int .i64 sp) ∧ World.cell? W ⟨w.heap.size, 2, none⟩ = some (.int .i64 st) ∧ World.cell? W ⟨w.heap.size, 3, none⟩ = some (.slice so ss.length sc) ∧ World.cell? W ⟨w.heap.size, 4, none⟩ = some (.slice lo ls.length lc) ∧ World.cell? W ⟨w.heap.size, 5, none⟩ = some (.slice to_ ts.length tc))) (first | exact hSd | (refine hstep _ _ ?_ (by assumption) <;> assumption)) (first
          | (go_at_call 56; refine (span_any ⟨nm, sp, st, so, sc, ss, lo, lc, ls, to_, tc, ts⟩ SL.out _ (hof _ (by assumption)).1 HSP).mono ?_; rintro x w7 ⟨rfl, hg7⟩)
          | (go_at_call 116; refine (chkLaps_any _ lo lc ls LL.out _ (hof _ (by assumption)).2 HEL).mono ?_; rintro x w8 ⟨rfl, hg8⟩))
        all_goals
          rename_i hfin
          clear hSd
          obtain ⟨G9, f0, f1, f2, f3, f4, f5⟩ := hfin
          clear hstep hof
          go_wp2_with fail
          go_ret
          exact ⟨ret_int HV.out.symm, G9⟩
    · have HV : Hid (E = ES) := by show _ = _; rw [hr, if_neg d1]
      have hne : (ES != 0) = true := by simpa using d1
      clear hr d1
      go_enter Try.func54, Try.ntmps54
      go_wp2_with fail
      refine (isName_is nm NS.out _ HN).mono ?_; rintro e w1 ⟨rfl, rfl⟩
      go_wp2_with fail
      refine (chkSamples_any st s0 s1 so sc ss SL.out _ (HS.out.grown (World.grownBy_alloc _ _ _)) HES).mono ?_; rintro e w1 ⟨rfl, hg1⟩
      have G1 := grown_trans (World.grownBy_alloc w (.cells #[.string nm, .int .i64 sp, .int .i64 st, .slice so ss.length sc, .slice lo ls.length lc, .slice to_ ts.length tc] 26) none) hg1
      have b0 : w1.cell? ⟨w.heap.size, 0, none⟩ = some (.string nm) := grown_cell hg1 (by simp)
      have b1 : w1.cell? ⟨w.heap.size, 1, none⟩ = some (.int .i64 sp) := grown_cell hg1 (by simp)
      have b2 : w1.cell? ⟨w.heap.size, 2, none⟩ = some (.int .i64 st) := grown_cell hg1 (by simp)
      have b3 : w1.cell? ⟨w.heap.size, 3, none⟩ = some (.slice so ss.length sc) := grown_cell hg1 (by simp)
      have b4 : w1.cell? ⟨w.heap.size, 4, none⟩ = some (.slice lo ls.length lc) := grown_cell hg1 (by simp)
      have b5 : w1.cell? ⟨w.heap.size, 5, none⟩ = some (.slice to_ ts.length tc) := grown_cell hg1 (by simp)
      clear hg1
      go_wp2_with fail
      go_ret
      exact ⟨ret_int HV.out.symm, G1⟩

end Go.Proofs.Ytgkhhfojioepgaa
namespace Go.Proofs.Ytgkhhfojioepgaa
open Go.RowKit
set_option linter.unusedSimpArgs false
set_option linter.unusedVariables false

def IsRoot (n r : Nat) : Prop := r * r ≤ n ∧ n < (r + 1) * (r + 1)

theorem root_exists (n : Nat) : ∃ r, IsRoot n r := by
  induction n with
  | zero => exact ⟨0, by unfold IsRoot; omega⟩
  | succ n ih =>
    obtain ⟨r, h1, h2⟩ := ih
    by_cases h : (r + 1) * (r + 1) ≤ n + 1
    · refine ⟨r + 1, h, ?_⟩
      have e : (r + 1 + 1) * (r + 1 + 1) = (r + 1) * (r + 1) + 2 * (r + 1) + 1 := by rw [Nat.add_mul, Nat.mul_add, Nat.mul_add]; omega
      omega
    · exact ⟨r, by omega, by omega⟩

theorem root_le {n r x : Nat} (h : IsRoot n r) : x * x ≤ n ↔ x ≤ r := by
  constructor
  · intro hx
    rcases Nat.lt_or_ge r x with h' | h'
    · exfalso
      have := Nat.mul_le_mul h' h'
      have h2 := h.2
      have e : (r + 1) * (r + 1) = r.succ * r.succ := rfl
      omega
    · exact h'
  · intro hx
    have := Nat.mul_le_mul hx hx
    have := h.1
    omega

theorem root_lt {n r : Nat} (h : IsRoot n r) (hn : n < 9223372036854775808) : r ≤ 3037000499 := by
  rcases Nat.lt_or_ge 3037000499 r with h' | h'
  · have := Nat.mul_le_mul h' h'
    have := h.1
    omega
  · exact h'

theorem i64_or_nat (a b : Nat) (ha : a < 9223372036854775808) (hb : b < 9223372036854775808) : bits .or .i64 (a : Int) (b : Int) = ((a ||| b : Nat) : Int) := by
  have hx : a ||| b < 2 ^ 63 := Nat.or_lt_two_pow (by omega) (by omega)
  have h1 : (BitVec.ofInt 64 (a : Int)).toNat = a := by
    rw [BitVec.ofInt_natCast, BitVec.toNat_ofNat]; exact Nat.mod_eq_of_lt (by omega)
  have h2 : (BitVec.ofInt 64 (b : Int)).toNat = b := by
    rw [BitVec.ofInt_natCast, BitVec.toNat_ofNat]; exact Nat.mod_eq_of_lt (by omega)
  show IntKind.i64.wrap ((BitVec.ofInt 64 (a : Int) ||| BitVec.ofInt 64 (b : Int)).toNat : Int) = _
  rw [BitVec.toNat_or, h1, h2]
  exact IntWalk.i64_in _ (by omega)

theorem div_sq {n x : Nat} (hx : 0 < x) : x ≤ n / x ↔ x * x ≤ n := Nat.le_div_iff_mul_le hx

def bitOf (j : Nat) : Nat := if j = 0 then 0 else 2 ^ (j - 1)
theorem bitOf_half (j : Nat) : bitOf (j + 1) / 2 = bitOf j := by
  unfold bitOf
  rw [if_neg (by omega)]
  cases j with
  | zero => rfl
  | succ m => rw [if_neg (by omega)]; simp [Nat.pow_succ]
theorem bitOf_le (j : Nat) (h : j ≤ 32) : bitOf j ≤ 2147483648 := by
  unfold bitOf; split
  · omega
  · have : (2 : Nat) ^ (j - 1) ≤ 2 ^ 31 := Nat.pow_le_pow_right (by decide) (by omega)
    omega
theorem bitOf_pos (j : Nat) : 0 < bitOf (j + 1) := by unfold bitOf; rw [if_neg (by omega)]; exact Nat.two_pow_pos _

set_option maxHeartbeats 800000 in
theorem root_any (n R : Nat) (hn : n < 9223372036854775808) (hR : Hid (IsRoot n R)) (w : World) :
    Calls Try.prog 133 #[.int .i64 n] w fun e w' => e = .returned (.tuple #[.int .i64 R, .int .i64 0]) ∧ w = w' := by
  have hRb := root_lt hR.out hn
  have hRi : (R : Int) ≤ 3037000499 := by omega
  have hni : (n : Int) ≤ 9223372036854775807 := by omega
  have HN := Lib.hid hn
  clear hRb hn
  go_enter Try.func133, Try.ntmps133
  go_wp2
  go_loop [4, 5] (fun rt bt => ∃ j root bit : Nat, j ≤ 32 ∧ rt = .int .i64 root ∧ bt = .int .i64 bit ∧ Hid (bit = bitOf j) ∧ (root : Int) ≤ (R : Int) ∧ Hid (R < root + 2 ^ j ∧ root % 2 ^ j = 0)) (fun _ bt => (intOf bt).toNat)
  case atStart => exact ⟨32, 0, 2147483648, by omega, rfl, rfl, rfl, by omega, by show _ ∧ _; omega⟩
  case round =>
    obtain ⟨j, root, bit, hj, rfl, rfl, hbit, hrt, hinv⟩ := hrel
    cases j with
    | zero =>
      have hb : bit = 0 := hbit.out
      have hi := hinv.out
      have hr : root = R := by omega
      subst hb
      have HR := Lib.hid hr
      clear hr hi
      go_wp2
      go_ret2
      exact ⟨ret_ii (by rw [HR.out]) rfl, rfl⟩
    | succ i =>
      have hb : bit = 2 ^ i := by rw [hbit.out]; unfold bitOf; rw [if_neg (by omega)]; rfl
      have hbp : 0 < bit := by rw [hb]; exact Nat.two_pow_pos _
      have hi := hinv.out
      have hpow : 2 ^ (i + 1) = 2 * bit := by rw [hb, Nat.pow_succ, Nat.mul_comm]
      have hor : root ||| bit = root + bit := nat_join (i + 1) root bit hi.2 (by omega)
      rw [hpow] at hi
      have hbl : bit ≤ 2147483648 := by rw [hbit.out]; exact bitOf_le _ hj
      have hbit2 : bit / 2 = bitOf i := by rw [hbit.out]; exact bitOf_half i
      obtain ⟨nx, hnx⟩ : ∃ x, root + bit = x := ⟨_, rfl⟩
      obtain ⟨q, hq⟩ : ∃ x, n / nx = x := ⟨_, rfl⟩
      obtain ⟨b2, hb2⟩ : ∃ x, bit / 2 = x := ⟨_, rfl⟩
      have hnp : 0 < nx := by omega
      have hnl : nx ≤ 6000000000 := by omega
      have hcmp : nx ≤ q ↔ nx ≤ R := by rw [← hq, div_sq hnp]; exact root_le hR.out
      have eOr : bits .or .i64 (root : Int) (bit : Int) = (nx : Int) := by rw [i64_or_nat _ _ (by omega) (by omega), hor, hnx]
      have hqn : q ≤ n := by rw [← hq]; exact Nat.div_le_self _ _
      have eD : (n : Int) / (nx : Int) = (q : Int) := by rw [← Int.natCast_ediv, hq]
      have eD2 : IntKind.i64.wrap ((n : Int) / (nx : Int)) = (q : Int) := by rw [eD]; exact IntWalk.i64_in _ (by have := HN.out; omega)
      have hqi : (q : Int) ≤ 9223372036854775807 := by have := HN.out; omega
      have eS : (bit : Int) / 2 = (b2 : Int) := by omega
      have hb0 : 0 < (bit : Int) := by omega
      have hz : ¬ (nx : Int) = 0 := by omega
      have hz2 : ¬ nx = 0 := by omega
      have hm0 : root % 2 ^ i = 0 := by
        have : root % bit = 0 := by have h1 := Nat.mod_mod_of_dvd root (show bit ∣ 2 * bit from Nat.dvd_mul_left _ _); rw [hi.2] at h1; simpa using h1.symm
        rw [← hb]; exact this
      have hm1 : nx % 2 ^ i = 0 := by rw [← hb, ← hnx]; have : root % bit = 0 := by rw [hb]; exact hm0
                                      simp [this]
      have hB2 : Hid (b2 = bitOf i) := by show _ = _; omega
      have hlt : b2 < bit := by omega
      have hlti : (b2 : Int) < (bit : Int) := by omega
      have F0 : R < nx → Hid (R < root + 2 ^ i ∧ root % 2 ^ i = 0) := fun h => ⟨by rw [← hb]; omega, hm0⟩
      have F1 : Hid (R < nx + 2 ^ i ∧ nx % 2 ^ i = 0) := ⟨by rw [← hb]; omega, hm1⟩
      have HF0 := Lib.hid F0; have HB := Lib.hid hb; have HLT := Lib.hid hlt
      clear hi hpow hor hbl hbit2 hnx hq hb2 hqn hm0 hm1 hb hbp hbit hinv F0 hlt
      by_cases hc : (nx : Int) ≤ (q : Int)
      · have hc2 : (nx : Int) ≤ (R : Int) := by have := hcmp.1 (by omega); omega
        clear hcmp
        go_wp2
        go_round
        case rel => exact ⟨i, nx, b2, by omega, rfl, rfl, hB2, hc2, F1⟩
        case measure => simp [intOf]; omega
      · have hc2 : Hid (R < nx) := by show _ < _; have := hcmp; omega
        clear hcmp
        go_wp2
        go_round
        case rel => exact ⟨i, root, b2, by omega, rfl, rfl, hB2, hrt, HF0.out hc2.out⟩
        case measure => simp [intOf]; omega

theorem root_neg (n : Int) (hn : n < 0) (w : World) : Calls Try.prog 133 #[.int .i64 n] w fun e w' => e = .returned (.tuple #[.int .i64 0, .int .i64 1]) ∧ w = w' := by
  go_enter Try.func133, Try.ntmps133
  go_wp2
  go_ret2
  exact ⟨rfl, rfl⟩
end Go.Proofs.Ytgkhhfojioepgaa
namespace Go.Proofs.Ytgkhhfojioepgaa
open Go.RowKit
set_option linter.unusedSimpArgs false
set_option linter.unusedVariables false

/-- A place of the plane. -/
def inPlane (x : Smp) : Prop := (-100000000 ≤ x.x ∧ x.x ≤ 100000000) ∧ (-100000000 ≤ x.y ∧ x.y ≤ 100000000)
instance (x : Smp) : Decidable (inPlane x) := by unfold inPlane; exact inferInstance
def sqP (p q : Smp) : Int := (q.x - p.x) * (q.x - p.x) + (q.y - p.y) * (q.y - p.y)
noncomputable def rootI (n : Int) : Int := (Classical.choose (root_exists n.toNat) : Nat)
theorem rootI_is (n : Int) : ∃ r : Nat, rootI n = r ∧ IsRoot n.toNat r := ⟨_, rfl, Classical.choose_spec (root_exists n.toNat)⟩
theorem root_one {n r s : Nat} (h : IsRoot n r) (h' : IsRoot n s) : r = s := by
  have h1 := (root_le h (x := s)).1 h'.1
  have h2 := (root_le h' (x := r)).1 h.1
  omega
noncomputable def stepW (p q : Smp) : Int := rootI (sqP p q)
noncomputable def stepE (p q : Smp) : Int × Int := if inPlane p ∧ inPlane q then (stepW p q, 0) else (0, 9)

theorem sq_bd {a : Int} (h0 : -200000000 ≤ a) (h1 : a ≤ 200000000) : 0 ≤ a * a ∧ a * a ≤ 40000000000000000 := by
  rcases Int.le_total 0 a with h | h
  · exact ⟨Int.mul_nonneg h h, Int.le_trans (Int.mul_le_mul h1 h1 h (by omega)) (by omega)⟩
  · have e : a * a = (-a) * (-a) := by rw [Int.neg_mul_neg]
    rw [e]
    have hm : -a * -a ≤ 200000000 * 200000000 := Int.mul_le_mul (by omega) (by omega) (by omega) (by omega)
    exact ⟨Int.mul_nonneg (by omega) (by omega), hm⟩
theorem sqP_bd {p q : Smp} (h : inPlane p) (h' : inPlane q) : 0 ≤ sqP p q ∧ sqP p q ≤ 80000000000000000 := by
  unfold inPlane at h h'
  have h1 := sq_bd (a := q.x - p.x) (by omega) (by omega)
  have h2 := sq_bd (a := q.y - p.y) (by omega) (by omega)
  unfold sqP; omega
theorem stepW_bd {p q : Smp} (h : inPlane p) (h' : inPlane q) : 0 ≤ stepW p q ∧ stepW p q ≤ 300000000 := by
  obtain ⟨r, hr, hi⟩ := rootI_is (sqP p q)
  have hb := sqP_bd h h'
  unfold stepW
  rw [hr]
  refine ⟨by omega, ?_⟩
  rcases Nat.lt_or_ge 300000000 r with hc | hc
  · have h1 := Nat.mul_le_mul (Nat.le_of_lt hc) (Nat.le_of_lt hc)
    have h2 := hi.1
    omega
  · omega

set_option maxHeartbeats 800000 in
theorem square_is (p q : Smp) (hp : inPlane p) (hq : inPlane q) (w : World) {n : Int} (h : Hid (sqP p q = n)) :
    Calls Try.prog 134 #[.agg #[.int .i64 p.t, .int .i64 p.x, .int .i64 p.y, .int .i64 p.z, .int .i64 p.p, .int .i64 p.q, .int .i64 p.s], .agg #[.int .i64 q.t, .int .i64 q.x, .int .i64 q.y, .int .i64 q.z, .int .i64 q.p, .int .i64 q.q, .int .i64 q.s]] w fun e w' => e = .returned (.int .i64 n) ∧ w.grownBy w' none := by
  obtain ⟨pt, px, py, pz, pp, pq, ps⟩ := p
  obtain ⟨qt, qx, qy, qz, qp, qq, qs⟩ := q
  unfold inPlane at hp hq
  simp only at hp hq
  have hn : (qx - px) * (qx - px) + (qy - py) * (qy - py) = n := h.out
  obtain ⟨dx, hdx⟩ : ∃ d, qx - px = d := ⟨_, rfl⟩
  obtain ⟨dy, hdy⟩ : ∃ d, qy - py = d := ⟨_, rfl⟩
  rw [hdx, hdy] at hn
  have bx := sq_bd (a := dx) (by omega) (by omega)
  have by_ := sq_bd (a := dy) (by omega) (by omega)
  have rx : IntKind.i64.wrap (qx - px) = dx := by rw [hdx]; exact IntWalk.i64_in _ (by omega)
  have ry : IntKind.i64.wrap (qy - py) = dy := by rw [hdy]; exact IntWalk.i64_in _ (by omega)
  obtain ⟨X, hX⟩ : ∃ d, dx * dx = d := ⟨_, rfl⟩
  obtain ⟨Y, hY⟩ : ∃ d, dy * dy = d := ⟨_, rfl⟩
  rw [hX, hY] at hn
  rw [hX] at bx
  rw [hY] at by_
  have mx : IntKind.i64.wrap (dx * dx) = X := by rw [hX]; exact IntWalk.i64_in _ (by omega)
  have my : IntKind.i64.wrap (dy * dy) = Y := by rw [hY]; exact IntWalk.i64_in _ (by omega)
  obtain ⟨bx0, bx1⟩ := bx
  obtain ⟨by0, by1⟩ := by_
  have HN := Lib.hid hn
  have HX := Lib.hid hX; have HY := Lib.hid hY; have HDX := Lib.hid hdx; have HDY := Lib.hid hdy; have HP := Lib.hid hp; have HQ := Lib.hid hq
  clear hX hY hdx hdy hp hq h hn
  go_enter Try.func134, Try.ntmps134
  go_wp2_with fail
  go_quiet (fail)
  go_wp2_with fail
  go_ret
  exact ⟨ret_int HN.out, grown_trans (grown_trans (World.grownBy_alloc _ _ _) (World.grownBy_alloc _ _ _)) (grown_drewN _ _ _)⟩

set_option maxHeartbeats 800000 in
theorem way_is (k : Int) (p q : Smp) (hp : inPlane p) (hq : inPlane q) (w : World) {n : Int} (h : Hid (stepW p q = n)) :
    Calls Try.prog 74 #[.agg #[.int .i64 k, .int .i64 p.t, .int .i64 p.x, .int .i64 p.y, .int .i64 p.z, .int .i64 p.p, .int .i64 p.q, .int .i64 p.s, .int .i64 q.t, .int .i64 q.x, .int .i64 q.y, .int .i64 q.z, .int .i64 q.p, .int .i64 q.q, .int .i64 q.s]] w fun e w' => e = .returned (.int .i64 n) ∧ w.grownBy w' none := by
  have hb := sqP_bd hp hq
  obtain ⟨R, hR, hi⟩ := rootI_is (sqP p q)
  obtain ⟨m, hm⟩ : ∃ m : Nat, (m : Int) = sqP p q := ⟨(sqP p q).toNat, by omega⟩
  have HM : Hid (sqP p q = (m : Int)) := hm.symm
  have hmt : (sqP p q).toNat = m := by omega
  rw [hmt] at hi
  have HI := Lib.hid hi
  have hml : m < 9223372036854775808 := by omega
  have HML := Lib.hid hml
  have HV : Hid ((R : Int) = n) := by show _ = _; rw [← h.out, ← hR]; rfl
  have HP := Lib.hid hp; have HQ := Lib.hid hq
  clear hb hR hi hm hmt hp hq h hml
  obtain ⟨pt, px, py, pz, pp, pq, ps⟩ := p
  obtain ⟨qt, qx, qy, qz, qp, qq, qs⟩ := q
  simp only
  go_enter Try.func74, Try.ntmps74
  go_wp2_with fail
  refine (square_is ⟨pt, px, py, pz, pp, pq, ps⟩ ⟨qt, qx, qy, qz, qp, qq, qs⟩ HP.out HQ.out _ HM).mono ?_; rintro e w1 ⟨rfl, hg1⟩
  have G1 := grown_trans (World.grownBy_alloc w (.cells #[.int .i64 k, .int .i64 pt, .int .i64 px, .int .i64 py, .int .i64 pz, .int .i64 pp, .int .i64 pq, .int .i64 ps, .int .i64 qt, .int .i64 qx, .int .i64 qy, .int .i64 qz, .int .i64 qp, .int .i64 qq, .int .i64 qs] 85) none) hg1
  clear hg1
  go_wp2_with fail
  refine (root_any m R HML.out HI _).mono ?_; rintro e w2 ⟨rfl, rfl⟩
  go_wp2_with fail
  go_ret
  exact ⟨ret_int HV.out, G1⟩

theorem twithin_yes (n lo hi : Int) (h0 : lo ≤ n) (h1 : n ≤ hi) (w : World) : Calls Try.prog 55 #[.int .i64 n, .int .i64 lo, .int .i64 hi] w fun e w' => e = .returned (.bool true) ∧ w = w' := by
  go_enter Try.func55, Try.ntmps55
  go_wp2
  go_ret
  exact ⟨ret_bool (by first | rfl | (simp; omega)), rfl⟩
theorem twithin_no (n lo hi : Int) (h : n < lo ∨ hi < n) (w : World) : Calls Try.prog 55 #[.int .i64 n, .int .i64 lo, .int .i64 hi] w fun e w' => e = .returned (.bool false) ∧ w = w' := by
  by_cases h0 : n < lo
  · have h2 : decide (lo ≤ n) = false := by simp; omega
    clear h
    go_enter Try.func55, Try.ntmps55
    go_wp2
    go_ret
    exact ⟨ret_bool (by first | rfl | (simp; omega)), rfl⟩
  · have h1 : lo ≤ n := by omega
    have h2 : decide (n ≤ hi) = false := by simp; omega
    clear h
    go_enter Try.func55, Try.ntmps55
    go_wp2
    go_ret
    exact ⟨ret_bool (by first | rfl | (simp; omega)), rfl⟩

theorem onPlane_yes (x : Smp) (h : inPlane x) (w : World) :
    Calls Try.prog 105 #[.agg #[.int .i64 x.t, .int .i64 x.x, .int .i64 x.y, .int .i64 x.z, .int .i64 x.p, .int .i64 x.q, .int .i64 x.s]] w fun e w' => e = .returned (.bool true) ∧ w.grownBy w' none := by
  obtain ⟨t, x, y, z, p, q, s⟩ := x
  have H := Lib.hid h; clear h
  go_enter Try.func105, Try.ntmps105
  go_wp2_with fail
  refine (twithin_yes _ _ _ H.out.1.1 H.out.1.2 _).mono ?_; rintro e w1 ⟨rfl, rfl⟩
  go_wp2_with fail
  refine (twithin_yes _ _ _ H.out.2.1 H.out.2.2 _).mono ?_; rintro e w1 ⟨rfl, rfl⟩
  go_wp2_with fail
  go_ret
  exact ⟨rfl, World.grownBy_alloc _ _ _⟩
theorem onPlane_no (x : Smp) (h : ¬ inPlane x) (w : World) :
    Calls Try.prog 105 #[.agg #[.int .i64 x.t, .int .i64 x.x, .int .i64 x.y, .int .i64 x.z, .int .i64 x.p, .int .i64 x.q, .int .i64 x.s]] w fun e w' => e = .returned (.bool false) ∧ w.grownBy w' none := by
  obtain ⟨t, x, y, z, p, q, s⟩ := x
  unfold inPlane at h
  simp only at h ⊢
  by_cases h1 : -100000000 ≤ x ∧ x ≤ 100000000
  · have h3 : y < -100000000 ∨ 100000000 < y := by omega
    have H1 := Lib.hid h1; have H3 := Lib.hid h3; clear h h1 h3
    go_enter Try.func105, Try.ntmps105
    go_wp2_with fail
    refine (twithin_yes _ _ _ H1.out.1 H1.out.2 _).mono ?_; rintro e w1 ⟨rfl, rfl⟩
    go_wp2_with fail
    refine (twithin_no _ _ _ H3.out _).mono ?_; rintro e w1 ⟨rfl, rfl⟩
    go_wp2_with fail
    go_ret
    exact ⟨rfl, World.grownBy_alloc _ _ _⟩
  · have h3 : x < -100000000 ∨ 100000000 < x := by omega
    have H3 := Lib.hid h3; clear h h1 h3
    go_enter Try.func105, Try.ntmps105
    go_wp2_with fail
    refine (twithin_no _ _ _ H3.out _).mono ?_; rintro e w1 ⟨rfl, rfl⟩
    go_wp2_with fail
    go_ret
    exact ⟨rfl, World.grownBy_alloc _ _ _⟩
set_option maxHeartbeats 800000 in
theorem step_any (p q : Smp) (w : World) {n e : Int} (h : Hid (stepE p q = (n, e))) :
    Calls Try.prog 45 #[.agg #[.int .i64 p.t, .int .i64 p.x, .int .i64 p.y, .int .i64 p.z, .int .i64 p.p, .int .i64 p.q, .int .i64 p.s], .agg #[.int .i64 q.t, .int .i64 q.x, .int .i64 q.y, .int .i64 q.z, .int .i64 q.p, .int .i64 q.q, .int .i64 q.s]] w fun x w' => x = .returned (.tuple #[.int .i64 n, .int .i64 e]) ∧ w.grownBy w' none := by
  by_cases h1 : inPlane p
  · by_cases h2 : inPlane q
    · have hv : (n, e) = (stepW p q, 0) := by rw [← h.out]; unfold stepE; rw [if_pos ⟨h1, h2⟩]
      simp only [Prod.mk.injEq] at hv
      have HV := Lib.hid hv.1
      obtain rfl := hv.2
      have H1 := Lib.hid h1; have H2 := Lib.hid h2
      clear hv h1 h2 h
      obtain ⟨pt, px, py, pz, pp, pq, ps⟩ := p
      obtain ⟨qt, qx, qy, qz, qp, qq, qs⟩ := q
      go_enter Try.func45, Try.ntmps45
      go_wp2_with fail
      refine (onPlane_yes ⟨pt, px, py, pz, pp, pq, ps⟩ H1.out _).mono ?_; rintro x w1 ⟨rfl, hg1⟩
      have G1 := grown_trans (grown_trans (World.grownBy_alloc w (.cells #[.int .i64 pt, .int .i64 px, .int .i64 py, .int .i64 pz, .int .i64 pp, .int .i64 pq, .int .i64 ps] 28) none) (World.grownBy_alloc _ (.cells #[.int .i64 qt, .int .i64 qx, .int .i64 qy, .int .i64 qz, .int .i64 qp, .int .i64 qq, .int .i64 qs] 28) none)) hg1
      have ap0 : w1.cell? ⟨w.heap.size, 0, none⟩ = some (.int .i64 pt) := grown_cell hg1 (by simp)
      have aq0 : w1.cell? ⟨w.heap.size + 1, 0, none⟩ = some (.int .i64 qt) := grown_cell hg1 (by simp)
      have ap1 : w1.cell? ⟨w.heap.size, 1, none⟩ = some (.int .i64 px) := grown_cell hg1 (by simp)
      have aq1 : w1.cell? ⟨w.heap.size + 1, 1, none⟩ = some (.int .i64 qx) := grown_cell hg1 (by simp)
      have ap2 : w1.cell? ⟨w.heap.size, 2, none⟩ = some (.int .i64 py) := grown_cell hg1 (by simp)
      have aq2 : w1.cell? ⟨w.heap.size + 1, 2, none⟩ = some (.int .i64 qy) := grown_cell hg1 (by simp)
      have ap3 : w1.cell? ⟨w.heap.size, 3, none⟩ = some (.int .i64 pz) := grown_cell hg1 (by simp)
      have aq3 : w1.cell? ⟨w.heap.size + 1, 3, none⟩ = some (.int .i64 qz) := grown_cell hg1 (by simp)
      have ap4 : w1.cell? ⟨w.heap.size, 4, none⟩ = some (.int .i64 pp) := grown_cell hg1 (by simp)
      have aq4 : w1.cell? ⟨w.heap.size + 1, 4, none⟩ = some (.int .i64 qp) := grown_cell hg1 (by simp)
      have ap5 : w1.cell? ⟨w.heap.size, 5, none⟩ = some (.int .i64 pq) := grown_cell hg1 (by simp)
      have aq5 : w1.cell? ⟨w.heap.size + 1, 5, none⟩ = some (.int .i64 qq) := grown_cell hg1 (by simp)
      have ap6 : w1.cell? ⟨w.heap.size, 6, none⟩ = some (.int .i64 ps) := grown_cell hg1 (by simp)
      have aq6 : w1.cell? ⟨w.heap.size + 1, 6, none⟩ = some (.int .i64 qs) := grown_cell hg1 (by simp)
      clear hg1
      go_wp2_with fail
      refine (onPlane_yes ⟨qt, qx, qy, qz, qp, qq, qs⟩ H2.out _).mono ?_; rintro x w2 ⟨rfl, hg1⟩
      have G2 := grown_trans G1 hg1
      replace ap0 := grown_cell hg1 ap0
      replace aq0 := grown_cell hg1 aq0
      replace ap1 := grown_cell hg1 ap1
      replace aq1 := grown_cell hg1 aq1
      replace ap2 := grown_cell hg1 ap2
      replace aq2 := grown_cell hg1 aq2
      replace ap3 := grown_cell hg1 ap3
      replace aq3 := grown_cell hg1 aq3
      replace ap4 := grown_cell hg1 ap4
      replace aq4 := grown_cell hg1 aq4
      replace ap5 := grown_cell hg1 ap5
      replace aq5 := grown_cell hg1 aq5
      replace ap6 := grown_cell hg1 ap6
      replace aq6 := grown_cell hg1 aq6
      clear hg1 G1
      go_wp2_with fail
      refine (way_is 0 ⟨pt, px, py, pz, pp, pq, ps⟩ ⟨qt, qx, qy, qz, qp, qq, qs⟩ H1.out H2.out _ (Lib.hid HV.out.symm)).mono ?_; rintro x w3 ⟨rfl, hg3⟩
      have G3 := grown_trans G2 hg3
      clear hg3 G2
      go_wp2_with fail
      go_ret2
      exact ⟨rfl, G3⟩
    · have hv : (n, e) = (0, 9) := by rw [← h.out]; unfold stepE; rw [if_neg (fun h => h2 h.2)]
      simp only [Prod.mk.injEq] at hv
      obtain ⟨rfl, rfl⟩ := hv
      have H1 := Lib.hid h1; have H2 := Lib.hid h2
      clear h1 h2 h
      obtain ⟨pt, px, py, pz, pp, pq, ps⟩ := p
      obtain ⟨qt, qx, qy, qz, qp, qq, qs⟩ := q
      go_enter Try.func45, Try.ntmps45
      go_wp2_with fail
      refine (onPlane_yes ⟨pt, px, py, pz, pp, pq, ps⟩ H1.out _).mono ?_; rintro x w1 ⟨rfl, hg1⟩
      have G1 := grown_trans (grown_trans (World.grownBy_alloc w (.cells #[.int .i64 pt, .int .i64 px, .int .i64 py, .int .i64 pz, .int .i64 pp, .int .i64 pq, .int .i64 ps] 28) none) (World.grownBy_alloc _ (.cells #[.int .i64 qt, .int .i64 qx, .int .i64 qy, .int .i64 qz, .int .i64 qp, .int .i64 qq, .int .i64 qs] 28) none)) hg1
      have ap0 : w1.cell? ⟨w.heap.size, 0, none⟩ = some (.int .i64 pt) := grown_cell hg1 (by simp)
      have aq0 : w1.cell? ⟨w.heap.size + 1, 0, none⟩ = some (.int .i64 qt) := grown_cell hg1 (by simp)
      have ap1 : w1.cell? ⟨w.heap.size, 1, none⟩ = some (.int .i64 px) := grown_cell hg1 (by simp)
      have aq1 : w1.cell? ⟨w.heap.size + 1, 1, none⟩ = some (.int .i64 qx) := grown_cell hg1 (by simp)
      have ap2 : w1.cell? ⟨w.heap.size, 2, none⟩ = some (.int .i64 py) := grown_cell hg1 (by simp)
      have aq2 : w1.cell? ⟨w.heap.size + 1, 2, none⟩ = some (.int .i64 qy) := grown_cell hg1 (by simp)
      have ap3 : w1.cell? ⟨w.heap.size, 3, none⟩ = some (.int .i64 pz) := grown_cell hg1 (by simp)
      have aq3 : w1.cell? ⟨w.heap.size + 1, 3, none⟩ = some (.int .i64 qz) := grown_cell hg1 (by simp)
      have ap4 : w1.cell? ⟨w.heap.size, 4, none⟩ = some (.int .i64 pp) := grown_cell hg1 (by simp)
      have aq4 : w1.cell? ⟨w.heap.size + 1, 4, none⟩ = some (.int .i64 qp) := grown_cell hg1 (by simp)
      have ap5 : w1.cell? ⟨w.heap.size, 5, none⟩ = some (.int .i64 pq) := grown_cell hg1 (by simp)
      have aq5 : w1.cell? ⟨w.heap.size + 1, 5, none⟩ = some (.int .i64 qq) := grown_cell hg1 (by simp)
      have ap6 : w1.cell? ⟨w.heap.size, 6, none⟩ = some (.int .i64 ps) := grown_cell hg1 (by simp)
      have aq6 : w1.cell? ⟨w.heap.size + 1, 6, none⟩ = some (.int .i64 qs) := grown_cell hg1 (by simp)
      clear hg1
      go_wp2_with fail
      refine (onPlane_no ⟨qt, qx, qy, qz, qp, qq, qs⟩ H2.out _).mono ?_; rintro x w2 ⟨rfl, hg1⟩
      have G2 := grown_trans G1 hg1
      clear hg1 G1
      go_wp2_with fail
      go_ret2
      exact ⟨rfl, G2⟩
  · have hv : (n, e) = (0, 9) := by rw [← h.out]; unfold stepE; rw [if_neg (fun h => h1 h.1)]
    simp only [Prod.mk.injEq] at hv
    obtain ⟨rfl, rfl⟩ := hv
    have H1 := Lib.hid h1
    clear h1 h
    obtain ⟨pt, px, py, pz, pp, pq, ps⟩ := p
    obtain ⟨qt, qx, qy, qz, qp, qq, qs⟩ := q
    go_enter Try.func45, Try.ntmps45
    go_wp2_with fail
    refine (onPlane_no ⟨pt, px, py, pz, pp, pq, ps⟩ H1.out _).mono ?_; rintro x w1 ⟨rfl, hg1⟩
    have G1 := grown_trans (grown_trans (World.grownBy_alloc w (.cells #[.int .i64 pt, .int .i64 px, .int .i64 py, .int .i64 pz, .int .i64 pp, .int .i64 pq, .int .i64 ps] 28) none) (World.grownBy_alloc _ (.cells #[.int .i64 qt, .int .i64 qx, .int .i64 qy, .int .i64 qz, .int .i64 qp, .int .i64 qq, .int .i64 qs] 28) none)) hg1
    clear hg1
    go_wp2_with fail
    go_ret2
    exact ⟨rfl, G1⟩
end Go.Proofs.Ytgkhhfojioepgaa
namespace Go.Proofs.Ytgkhhfojioepgaa
open Go.RowKit
set_option linter.unusedSimpArgs false
set_option linter.unusedVariables false

theorem smps_ok {st : Int} : ∀ (l : List Smp) (b : Option Int), smpsE st b l = 0 → ∀ x ∈ l, smpIn st x
  | [], _, _, x, hx => by simp at hx
  | y :: r, b, h, x, hx => by
    unfold smpsE at h
    split at h
    · omega
    · split at h
      · rename_i hi
        rcases List.mem_cons.1 hx with rfl | hx
        · exact hi
        · exact smps_ok r _ h x hx
      · omega

structure ActOk (a : Act) : Prop where
  sl : (a.ss.length : Int) ≤ 20000
  ll : (a.ls.length : Int) ≤ 200
  tl : (a.ts.length : Int) ≤ 20
  st0 : 0 ≤ a.start
  st1 : a.start ≤ 86399999999
  smps : smpsE a.start none a.ss = 0
  laps : lapsE (spanL a.ss) 0 a.ls = 0
  tags : tagsE none a.ts = 0
  name : nameB a.name = true
  sp0 : 1 ≤ a.sport
  sp1 : a.sport ≤ 5
theorem chk_ok {a : Act} (h : chkE a = 0) : ActOk a := by
  unfold chkE at h
  split at h
  · rename_i h1
    split at h
    · rename_i h2
      split at h
      · rename_i h3
        split at h
        · rename_i h4
          split at h
          · rename_i h5
            split at h
            · rename_i h6
              exact ⟨h4.1, h4.2.1, h4.2.2, h3.1, h3.2, h5, h6, h, h1, h2.1, h2.2⟩
            · rename_i h6; exact absurd h h6
          · rename_i h5; exact absurd h h5
        · omega
      · omega
    · omega
  · omega
theorem ActOk.plane {a : Act} (h : ActOk a) : ∀ x ∈ a.ss, inPlane x := fun x hx => by
  have := smps_ok _ _ h.smps x hx
  unfold smpIn at this; unfold inPlane; omega
theorem lt_of_cell {w : World} {p : Addr} {v : Value} (h : w.cell? p = some v) : p.block < w.heap.size := by
  rcases Nat.lt_or_ge p.block w.heap.size with hl | hl
  · exact hl
  · unfold World.cell? at h
    rw [Array.getElem?_eq_none hl] at h
    simp at h
theorem SmpsAt.block {w : World} {ao : Option Addr} {l : List Smp} (h : SmpsAt w ao l) : ∀ a, ao = some a → l ≠ [] → a.block < w.heap.size := fun a ha hne => by
  have hl : 0 < l.length := by
    cases l with
    | nil => exact absurd rfl hne
    | cons x r => simp
  have q := lt_of_cell (h.cells a ha 0 hl).1
  exact q
end Go.Proofs.Ytgkhhfojioepgaa
namespace Go.Proofs.Ytgkhhfojioepgaa
open Go.RowKit
set_option linter.unusedSimpArgs false
set_option linter.unusedVariables false

/-- What Climb returns. -/
def climbE (a : Act) (th : Int) : Ln × Int :=
  if chkE a = 0 then (if 0 ≤ th ∧ th ≤ 200000 then (climbL th a.ss, 0) else (Ln.first 0, 9)) else (Ln.first 0, chkE a)

/-- A line in a block. -/
def LineAt (w : World) (g : Nat) (l : Ln) : Prop := w.heap[g]? = some (.cells #[.int .i64 l.up, .int .i64 l.down, .int .i64 l.turns, .int .i64 l.z] 139 (0, 0))
theorem LineAt.cells {w : World} {g : Nat} {l : Ln} (h : LineAt w g l) : w.cell? ⟨g, 0, none⟩ = some (.int .i64 l.up) ∧ w.cell? ⟨g, 1, none⟩ = some (.int .i64 l.down) ∧ w.cell? ⟨g, 2, none⟩ = some (.int .i64 l.turns) ∧ w.cell? ⟨g, 3, none⟩ = some (.int .i64 l.z) := by
  have h' : w.heap[g]? = _ := h
  refine ⟨?_, ?_, ?_, ?_⟩ <;> simp [World.cell?, h']
theorem LineAt.free {w : World} {g : Nat} {l : Ln} (h : LineAt w g l) (i : Nat) : w.frozen? ⟨g, i, none⟩ = false := by
  have h' : w.heap[g]? = _ := h
  simp [World.frozen?, h']
theorem LineAt.grown {w w' : World} {g : Nat} {l : Ln} (h : LineAt w g l) (hg : w.grownBy w' none) : LineAt w' g l :=
  (hg.block g (Array.getElem?_eq_some_iff.1 h).1 (by simp)).trans h
theorem LineAt.set {w : World} {g : Nat} {l : Ln} (h : LineAt w g l) (m : Ln) : LineAt ((((w.setCell ⟨g, 0, none⟩ (.int .i64 m.up)).setCell ⟨g, 1, none⟩ (.int .i64 m.down)).setCell ⟨g, 2, none⟩ (.int .i64 m.turns)).setCell ⟨g, 3, none⟩ (.int .i64 m.z)) g m := by
  have h' : w.heap[g]? = _ := h
  unfold LineAt
  simp [World.setCell, Array.getElem?_modify, h']
theorem LineAt.far {w : World} {g : Nat} {l : Ln} (h : LineAt w g l) {g' : Nat} (ne : g ≠ g') (i : Nat) (v : Value) : LineAt (w.setCell ⟨g', i, none⟩ v) g l := by
  show (w.setCell ⟨g', i, none⟩ v).heap[g]? = _
  rw [Below.heap_setCell _ _ _ _ ne]; exact h

structure ClS (w : World) (th : Int) (wr : World) (A B C : Nat) (best low high : Ln) : Prop where
  g : w.grownBy wr none
  tz : wr.cell? ⟨w.heap.size + 1, 0, none⟩ = some (.int .i64 th)
  kz : wr.heap[w.heap.size + 1 + 1]? = some (.cells #[.int .i64 0, .int .i64 0, .int .i64 0] 81 (0, 0))
  a : LineAt wr A best
  b : LineAt wr B low
  c : LineAt wr C high
  ab : A ≠ B
  ac : A ≠ C
  bc : B ≠ C
  ha : w.heap.size + 2 < A
  hb : w.heap.size + 2 < B
  hc : w.heap.size + 2 < C

set_option maxHeartbeats 1600000 in
theorem climb_err (a : Act) (th : Int) (w : World) (ha : ActAt w a) {E : Int} (hE : Hid ((climbE a th).2 = E)) (h0 : E ≠ 0 ∨ a.ss = []) :
    Calls Try.prog 68 #[a.val, .int .i64 th] w fun x w' => x = .returned (.tuple #[.agg #[.int .i64 0, .int .i64 0, .int .i64 0], .int .i64 E]) ∧ w.grownBy w' none := by
  obtain ⟨ce, hce⟩ : ∃ e, chkE a = e := ⟨_, rfl⟩
  have hv := hE.out
  unfold climbE at hv
  rw [hce] at hv
  have HCE := Lib.hid hce
  have HA := Lib.hid ha
  clear hE hce ha
  obtain ⟨nm, sp, st, so, sc, ss, lo, lc, ls, to_, tc, ts⟩ := a
  simp only [Act.val] at *
  by_cases c1 : ce = 0
  · rw [if_pos c1] at hv
    subst c1
    by_cases c2 : 0 ≤ th ∧ th ≤ 200000
    · rw [if_pos c2] at hv
      simp only at hv
      have hs : ss = [] := h0.resolve_left (fun h => h hv.symm)
      subst hs
      have HV := Lib.hid hv.symm
      obtain ⟨t0, t1⟩ := c2
      clear hv h0
      simp only [List.length_nil] at *
      go_enter Try.func68, Try.ntmps68
      go_wp2_with fail
      refine (check_any ⟨nm, sp, st, so, sc, [], lo, lc, ls, to_, tc, ts⟩ _ (HA.out.grown (grown_trans (grown_trans (World.grownBy_alloc _ _ _) (World.grownBy_alloc _ _ _)) (World.grownBy_alloc _ _ _))) HCE).mono ?_; rintro e w1 ⟨rfl, hg1⟩
      have G1 : w.grownBy w1 none := grown_trans (grown_trans (grown_trans (World.grownBy_alloc w (.cells #[.string nm, .int .i64 sp, .int .i64 st, .slice so 0 sc, .slice lo ls.length lc, .slice to_ ts.length tc] 26) none) (World.grownBy_alloc _ _ _)) (World.grownBy_alloc _ _ _)) hg1
      have b3 : w1.cell? ⟨w.heap.size, 3, none⟩ = some (.slice so 0 sc) := grown_cell hg1 (by go_simp)
      have tz : w1.cell? ⟨w.heap.size + 1, 0, none⟩ = some (.int .i64 th) := grown_cell hg1 (by go_simp)
      have kz : w1.heap[w.heap.size + 1 + 1]? = some (.cells #[.int .i64 0, .int .i64 0, .int .i64 0] 81 (0, 0)) := by
        rw [hg1.block _ (by simp) (by simp)]
        have q := heap_alloc_new ((w.alloc (.cells #[.string nm, .int .i64 sp, .int .i64 st, .slice so 0 sc, .slice lo ls.length lc, .slice to_ ts.length tc] 26)).alloc (.cells #[.int .i64 th] 3)) (.cells #[.int .i64 0, .int .i64 0, .int .i64 0] 81)
        simpa using q
      have z0 : w1.cell? ⟨w.heap.size + 1 + 1, 0, none⟩ = some (.int .i64 0) := by simp [World.cell?, kz]
      have z1 : w1.cell? ⟨w.heap.size + 1 + 1, 1, none⟩ = some (.int .i64 0) := by simp [World.cell?, kz]
      have z2 : w1.cell? ⟨w.heap.size + 1 + 1, 2, none⟩ = some (.int .i64 0) := by simp [World.cell?, kz]
      have y0 : w1.frozen? ⟨w.heap.size + 1 + 1, 0, none⟩ = false := by simp [World.frozen?, kz]
      have y1 : w1.frozen? ⟨w.heap.size + 1 + 1, 1, none⟩ = false := by simp [World.frozen?, kz]
      have y2 : w1.frozen? ⟨w.heap.size + 1 + 1, 2, none⟩ = false := by simp [World.frozen?, kz]
      have HKZ := Lib.hid kz
      clear hg1 kz
      go_wp2_with fail
      refine (twithin_yes _ _ _ t0 t1 _).mono ?_; rintro e w2 ⟨rfl, rfl⟩
      go_wp2_with fail
      refine bodyPost_ret (v := .tuple #[.agg #[.int .i64 0, .int .i64 0, .int .i64 0], .int .i64 0]) (by simp [results, Try.results68, go_sem, z0, z1, z2]) rfl ⟨by rw [HV.out], ?_⟩
      exact grown_set (grown_set (grown_set G1 (by omega) _ _) (by omega) _ _) (by omega) _ _
    · rw [if_neg c2] at hv
      simp only at hv
      have HV := Lib.hid hv.symm
      have c3 : th < 0 ∨ 200000 < th := by omega
      have H3 := Lib.hid c3
      clear hv h0 c2 c3
      go_enter Try.func68, Try.ntmps68
      go_wp2_with fail
      refine (check_any ⟨nm, sp, st, so, sc, ss, lo, lc, ls, to_, tc, ts⟩ _ (HA.out.grown (grown_trans (grown_trans (World.grownBy_alloc _ _ _) (World.grownBy_alloc _ _ _)) (World.grownBy_alloc _ _ _))) HCE).mono ?_; rintro e w1 ⟨rfl, hg1⟩
      have G1 : w.grownBy w1 none := grown_trans (grown_trans (grown_trans (World.grownBy_alloc w (.cells #[.string nm, .int .i64 sp, .int .i64 st, .slice so ss.length sc, .slice lo ls.length lc, .slice to_ ts.length tc] 26) none) (World.grownBy_alloc _ _ _)) (World.grownBy_alloc _ _ _)) hg1
      have b3 : w1.cell? ⟨w.heap.size, 3, none⟩ = some (.slice so ss.length sc) := grown_cell hg1 (by go_simp)
      have tz : w1.cell? ⟨w.heap.size + 1, 0, none⟩ = some (.int .i64 th) := grown_cell hg1 (by go_simp)
      have kz : w1.heap[w.heap.size + 1 + 1]? = some (.cells #[.int .i64 0, .int .i64 0, .int .i64 0] 81 (0, 0)) := by
        rw [hg1.block _ (by simp) (by simp)]
        have q := heap_alloc_new ((w.alloc (.cells #[.string nm, .int .i64 sp, .int .i64 st, .slice so ss.length sc, .slice lo ls.length lc, .slice to_ ts.length tc] 26)).alloc (.cells #[.int .i64 th] 3)) (.cells #[.int .i64 0, .int .i64 0, .int .i64 0] 81)
        simpa using q
      have z0 : w1.cell? ⟨w.heap.size + 1 + 1, 0, none⟩ = some (.int .i64 0) := by simp [World.cell?, kz]
      have z1 : w1.cell? ⟨w.heap.size + 1 + 1, 1, none⟩ = some (.int .i64 0) := by simp [World.cell?, kz]
      have z2 : w1.cell? ⟨w.heap.size + 1 + 1, 2, none⟩ = some (.int .i64 0) := by simp [World.cell?, kz]
      have y0 : w1.frozen? ⟨w.heap.size + 1 + 1, 0, none⟩ = false := by simp [World.frozen?, kz]
      have y1 : w1.frozen? ⟨w.heap.size + 1 + 1, 1, none⟩ = false := by simp [World.frozen?, kz]
      have y2 : w1.frozen? ⟨w.heap.size + 1 + 1, 2, none⟩ = false := by simp [World.frozen?, kz]
      have HKZ := Lib.hid kz
      clear hg1 kz
      go_wp2_with fail
      refine (twithin_no _ _ _ H3.out _).mono ?_; rintro e w2 ⟨rfl, rfl⟩
      go_wp2_with fail
      refine bodyPost_ret (v := .tuple #[.agg #[.int .i64 0, .int .i64 0, .int .i64 0], .int .i64 9]) (by simp [results, Try.results68, go_sem, z0, z1, z2]) rfl ⟨by rw [HV.out], ?_⟩
      exact grown_set (grown_set (grown_set G1 (by omega) _ _) (by omega) _ _) (by omega) _ _
  · rw [if_neg c1] at hv
    simp only at hv
    have HV := Lib.hid hv.symm
    have hne : (ce != 0) = true := by simpa using c1
    clear hv h0 c1
    go_enter Try.func68, Try.ntmps68
    go_wp2_with fail
    refine (check_any ⟨nm, sp, st, so, sc, ss, lo, lc, ls, to_, tc, ts⟩ _ (HA.out.grown (grown_trans (grown_trans (World.grownBy_alloc _ _ _) (World.grownBy_alloc _ _ _)) (World.grownBy_alloc _ _ _))) HCE).mono ?_; rintro e w1 ⟨rfl, hg1⟩
    have G1 : w.grownBy w1 none := grown_trans (grown_trans (grown_trans (World.grownBy_alloc w (.cells #[.string nm, .int .i64 sp, .int .i64 st, .slice so ss.length sc, .slice lo ls.length lc, .slice to_ ts.length tc] 26) none) (World.grownBy_alloc _ _ _)) (World.grownBy_alloc _ _ _)) hg1
    have b3 : w1.cell? ⟨w.heap.size, 3, none⟩ = some (.slice so ss.length sc) := grown_cell hg1 (by go_simp)
    have tz : w1.cell? ⟨w.heap.size + 1, 0, none⟩ = some (.int .i64 th) := grown_cell hg1 (by go_simp)
    have kz : w1.heap[w.heap.size + 1 + 1]? = some (.cells #[.int .i64 0, .int .i64 0, .int .i64 0] 81 (0, 0)) := by
      rw [hg1.block _ (by simp) (by simp)]
      have q := heap_alloc_new ((w.alloc (.cells #[.string nm, .int .i64 sp, .int .i64 st, .slice so ss.length sc, .slice lo ls.length lc, .slice to_ ts.length tc] 26)).alloc (.cells #[.int .i64 th] 3)) (.cells #[.int .i64 0, .int .i64 0, .int .i64 0] 81)
      simpa using q
    have z0 : w1.cell? ⟨w.heap.size + 1 + 1, 0, none⟩ = some (.int .i64 0) := by simp [World.cell?, kz]
    have z1 : w1.cell? ⟨w.heap.size + 1 + 1, 1, none⟩ = some (.int .i64 0) := by simp [World.cell?, kz]
    have z2 : w1.cell? ⟨w.heap.size + 1 + 1, 2, none⟩ = some (.int .i64 0) := by simp [World.cell?, kz]
    have y0 : w1.frozen? ⟨w.heap.size + 1 + 1, 0, none⟩ = false := by simp [World.frozen?, kz]
    have y1 : w1.frozen? ⟨w.heap.size + 1 + 1, 1, none⟩ = false := by simp [World.frozen?, kz]
    have y2 : w1.frozen? ⟨w.heap.size + 1 + 1, 2, none⟩ = false := by simp [World.frozen?, kz]
    have HKZ := Lib.hid kz
    clear hg1 kz
    go_wp2_with fail
    refine bodyPost_ret (v := .tuple #[.agg #[.int .i64 0, .int .i64 0, .int .i64 0], .int .i64 ce]) (by simp [results, Try.results68, go_sem, z0, z1, z2]) rfl ⟨by rw [HV.out], ?_⟩
    exact grown_set (grown_set (grown_set G1 (by omega) _ _) (by omega) _ _) (by omega) _ _

end Go.Proofs.Ytgkhhfojioepgaa
namespace Go.Proofs.Ytgkhhfojioepgaa
open Go.RowKit
set_option linter.unusedSimpArgs false
set_option linter.unusedVariables false

set_option maxHeartbeats 1600000 in
theorem rname_is (s : ByteArray) (hs : s.size ≤ 140737488355328) (w : World) {b : Bool} (hb : Hid (nameB s = b)) :
    Calls Try.prog 120 #[.string s] w fun e w' => e = .returned (.bool b) ∧ w = w' := by
  have hs2 : (s.size : Int) ≤ 140737488355328 := by omega
  go_enter Try.func120, Try.ntmps120
  go_wp2
  go_loop [3] (fun iv => ∃ k : Nat, k ≤ s.size ∧ iv = .int .i64 k ∧ Hid (∀ j (h : j < s.size), j < k → okC s[j].toNat = true)) (fun iv => s.size - (intOf iv).toNat)
  case atStart => exact ⟨0, Nat.zero_le _, rfl, fun j _ h => absurd h (by omega)⟩
  case round =>
    obtain ⟨k, hk, rfl, hinv⟩ := hrel
    by_cases hlt : k < s.size
    · rcases byte_cases s[k].toNat s[k].toNat_lt with ⟨hok, hc⟩ | ⟨hok, hc⟩
      · have HI : Hid (∀ j (h : j < s.size), j < k + 1 → okC s[j].toNat = true) := fun j hj hlt => by
          by_cases e : j = k
          · subst e; exact hok
          · exact hinv.out j hj (by omega)
        clear hok
        rcases hc with hc | hc | hc | hc | hc | hc
        · obtain ⟨c1, c2⟩ := hc
          have d97 : decide (97 ≤ (s[k].toNat : Int)) = true := by simp; omega
          have d65 : decide (65 ≤ (s[k].toNat : Int)) = true := by simp; omega
          have d48 : decide (48 ≤ (s[k].toNat : Int)) = true := by simp; omega
          have d122 : decide ((s[k].toNat : Int) ≤ 122) = true := by simp; omega
          have d90 : decide ((s[k].toNat : Int) ≤ 90) = false := by simp; omega
          have d57 : decide ((s[k].toNat : Int) ≤ 57) = false := by simp; omega
          have m45 : ((s[k].toNat : Int) == 45) = false := by simp; omega
          have m95 : ((s[k].toNat : Int) == 95) = false := by simp; omega
          have m46 : ((s[k].toNat : Int) == 46) = false := by simp; omega
          clear c1 c2
          go_wp2
          go_round
          case rel => exact ⟨k + 1, by omega, by go_num, HI⟩
          case measure => simp [intOf]; omega
        · obtain ⟨c1, c2⟩ := hc
          have d97 : decide (97 ≤ (s[k].toNat : Int)) = false := by simp; omega
          have d65 : decide (65 ≤ (s[k].toNat : Int)) = true := by simp; omega
          have d48 : decide (48 ≤ (s[k].toNat : Int)) = true := by simp; omega
          have d122 : decide ((s[k].toNat : Int) ≤ 122) = true := by simp; omega
          have d90 : decide ((s[k].toNat : Int) ≤ 90) = true := by simp; omega
          have d57 : decide ((s[k].toNat : Int) ≤ 57) = false := by simp; omega
          have m45 : ((s[k].toNat : Int) == 45) = false := by simp; omega
          have m95 : ((s[k].toNat : Int) == 95) = false := by simp; omega
          have m46 : ((s[k].toNat : Int) == 46) = false := by simp; omega
          clear c1 c2
          go_wp2
          go_round
          case rel => exact ⟨k + 1, by omega, by go_num, HI⟩
          case measure => simp [intOf]; omega
        · obtain ⟨c1, c2⟩ := hc
          have d97 : decide (97 ≤ (s[k].toNat : Int)) = false := by simp; omega
          have d65 : decide (65 ≤ (s[k].toNat : Int)) = false := by simp; omega
          have d48 : decide (48 ≤ (s[k].toNat : Int)) = true := by simp; omega
          have d122 : decide ((s[k].toNat : Int) ≤ 122) = true := by simp; omega
          have d90 : decide ((s[k].toNat : Int) ≤ 90) = true := by simp; omega
          have d57 : decide ((s[k].toNat : Int) ≤ 57) = true := by simp; omega
          have m45 : ((s[k].toNat : Int) == 45) = false := by simp; omega
          have m95 : ((s[k].toNat : Int) == 95) = false := by simp; omega
          have m46 : ((s[k].toNat : Int) == 46) = false := by simp; omega
          clear c1 c2
          go_wp2
          go_round
          case rel => exact ⟨k + 1, by omega, by go_num, HI⟩
          case measure => simp [intOf]; omega
        · obtain ⟨c1, c2⟩ := hc
          have d97 : decide (97 ≤ (s[k].toNat : Int)) = false := by simp; omega
          have d65 : decide (65 ≤ (s[k].toNat : Int)) = false := by simp; omega
          have d48 : decide (48 ≤ (s[k].toNat : Int)) = false := by simp; omega
          have d122 : decide ((s[k].toNat : Int) ≤ 122) = true := by simp; omega
          have d90 : decide ((s[k].toNat : Int) ≤ 90) = true := by simp; omega
          have d57 : decide ((s[k].toNat : Int) ≤ 57) = true := by simp; omega
          have m45 : ((s[k].toNat : Int) == 45) = true := by simp; omega
          have m95 : ((s[k].toNat : Int) == 95) = false := by simp; omega
          have m46 : ((s[k].toNat : Int) == 46) = false := by simp; omega
          clear c1 c2
          go_wp2
          go_round
          case rel => exact ⟨k + 1, by omega, by go_num, HI⟩
          case measure => simp [intOf]; omega
        · obtain ⟨c1, c2⟩ := hc
          have d97 : decide (97 ≤ (s[k].toNat : Int)) = false := by simp; omega
          have d65 : decide (65 ≤ (s[k].toNat : Int)) = true := by simp; omega
          have d48 : decide (48 ≤ (s[k].toNat : Int)) = true := by simp; omega
          have d122 : decide ((s[k].toNat : Int) ≤ 122) = true := by simp; omega
          have d90 : decide ((s[k].toNat : Int) ≤ 90) = false := by simp; omega
          have d57 : decide ((s[k].toNat : Int) ≤ 57) = false := by simp; omega
          have m45 : ((s[k].toNat : Int) == 45) = false := by simp; omega
          have m95 : ((s[k].toNat : Int) == 95) = true := by simp; omega
          have m46 : ((s[k].toNat : Int) == 46) = false := by simp; omega
          clear c1 c2
          go_wp2
          go_round
          case rel => exact ⟨k + 1, by omega, by go_num, HI⟩
          case measure => simp [intOf]; omega
        · obtain ⟨c1, c2⟩ := hc
          have d97 : decide (97 ≤ (s[k].toNat : Int)) = false := by simp; omega
          have d65 : decide (65 ≤ (s[k].toNat : Int)) = false := by simp; omega
          have d48 : decide (48 ≤ (s[k].toNat : Int)) = false := by simp; omega
          have d122 : decide ((s[k].toNat : Int) ≤ 122) = true := by simp; omega
          have d90 : decide ((s[k].toNat : Int) ≤ 90) = true := by simp; omega
          have d57 : decide ((s[k].toNat : Int) ≤ 57) = true := by simp; omega
          have m45 : ((s[k].toNat : Int) == 45) = false := by simp; omega
          have m95 : ((s[k].toNat : Int) == 95) = false := by simp; omega
          have m46 : ((s[k].toNat : Int) == 46) = true := by simp; omega
          clear c1 c2
          go_wp2
          go_round
          case rel => exact ⟨k + 1, by omega, by go_num, HI⟩
          case measure => simp [intOf]; omega
      · have HV : Hid (b = false) := by show _ = _; rw [← hb.out]; exact name_bad hlt hok
        clear hok
        rcases hc with hc | hc | hc | hc | hc | hc
        · obtain ⟨c1, c2⟩ := hc
          have d97 : decide (97 ≤ (s[k].toNat : Int)) = false := by simp; omega
          have d65 : decide (65 ≤ (s[k].toNat : Int)) = false := by simp; omega
          have d48 : decide (48 ≤ (s[k].toNat : Int)) = false := by simp; omega
          have d122 : decide ((s[k].toNat : Int) ≤ 122) = true := by simp; omega
          have d90 : decide ((s[k].toNat : Int) ≤ 90) = true := by simp; omega
          have d57 : decide ((s[k].toNat : Int) ≤ 57) = true := by simp; omega
          have m45 : ((s[k].toNat : Int) == 45) = false := by simp; omega
          have m95 : ((s[k].toNat : Int) == 95) = false := by simp; omega
          have m46 : ((s[k].toNat : Int) == 46) = false := by simp; omega
          clear c1 c2
          go_wp2
          go_ret
          exact ⟨ret_bool HV.out.symm, rfl⟩
        · obtain ⟨c1, c2⟩ := hc
          have d97 : decide (97 ≤ (s[k].toNat : Int)) = false := by simp; omega
          have d65 : decide (65 ≤ (s[k].toNat : Int)) = false := by simp; omega
          have d48 : decide (48 ≤ (s[k].toNat : Int)) = false := by simp; omega
          have d122 : decide ((s[k].toNat : Int) ≤ 122) = true := by simp; omega
          have d90 : decide ((s[k].toNat : Int) ≤ 90) = true := by simp; omega
          have d57 : decide ((s[k].toNat : Int) ≤ 57) = true := by simp; omega
          have m45 : ((s[k].toNat : Int) == 45) = false := by simp; omega
          have m95 : ((s[k].toNat : Int) == 95) = false := by simp; omega
          have m46 : ((s[k].toNat : Int) == 46) = false := by simp; omega
          clear c1 c2
          go_wp2
          go_ret
          exact ⟨ret_bool HV.out.symm, rfl⟩
        · obtain ⟨c1, c2⟩ := hc
          have d97 : decide (97 ≤ (s[k].toNat : Int)) = false := by simp; omega
          have d65 : decide (65 ≤ (s[k].toNat : Int)) = false := by simp; omega
          have d48 : decide (48 ≤ (s[k].toNat : Int)) = true := by simp; omega
          have d122 : decide ((s[k].toNat : Int) ≤ 122) = true := by simp; omega
          have d90 : decide ((s[k].toNat : Int) ≤ 90) = true := by simp; omega
          have d57 : decide ((s[k].toNat : Int) ≤ 57) = false := by simp; omega
          have m45 : ((s[k].toNat : Int) == 45) = false := by simp; omega
          have m95 : ((s[k].toNat : Int) == 95) = false := by simp; omega
          have m46 : ((s[k].toNat : Int) == 46) = false := by simp; omega
          clear c1 c2
          go_wp2
          go_ret
          exact ⟨ret_bool HV.out.symm, rfl⟩
        · obtain ⟨c1, c2⟩ := hc
          have d97 : decide (97 ≤ (s[k].toNat : Int)) = false := by simp; omega
          have d65 : decide (65 ≤ (s[k].toNat : Int)) = true := by simp; omega
          have d48 : decide (48 ≤ (s[k].toNat : Int)) = true := by simp; omega
          have d122 : decide ((s[k].toNat : Int) ≤ 122) = true := by simp; omega
          have d90 : decide ((s[k].toNat : Int) ≤ 90) = false := by simp; omega
          have d57 : decide ((s[k].toNat : Int) ≤ 57) = false := by simp; omega
          have m45 : ((s[k].toNat : Int) == 45) = false := by simp; omega
          have m95 : ((s[k].toNat : Int) == 95) = false := by simp; omega
          have m46 : ((s[k].toNat : Int) == 46) = false := by simp; omega
          clear c1 c2
          go_wp2
          go_ret
          exact ⟨ret_bool HV.out.symm, rfl⟩
        · obtain ⟨c1, c2⟩ := hc
          have d97 : decide (97 ≤ (s[k].toNat : Int)) = false := by simp; omega
          have d65 : decide (65 ≤ (s[k].toNat : Int)) = true := by simp; omega
          have d48 : decide (48 ≤ (s[k].toNat : Int)) = true := by simp; omega
          have d122 : decide ((s[k].toNat : Int) ≤ 122) = true := by simp; omega
          have d90 : decide ((s[k].toNat : Int) ≤ 90) = false := by simp; omega
          have d57 : decide ((s[k].toNat : Int) ≤ 57) = false := by simp; omega
          have m45 : ((s[k].toNat : Int) == 45) = false := by simp; omega
          have m95 : ((s[k].toNat : Int) == 95) = false := by simp; omega
          have m46 : ((s[k].toNat : Int) == 46) = false := by simp; omega
          clear c1 c2
          go_wp2
          go_ret
          exact ⟨ret_bool HV.out.symm, rfl⟩
        · obtain ⟨c1, c2⟩ := hc
          have d97 : decide (97 ≤ (s[k].toNat : Int)) = true := by simp; omega
          have d65 : decide (65 ≤ (s[k].toNat : Int)) = true := by simp; omega
          have d48 : decide (48 ≤ (s[k].toNat : Int)) = true := by simp; omega
          have d122 : decide ((s[k].toNat : Int) ≤ 122) = false := by simp; omega
          have d90 : decide ((s[k].toNat : Int) ≤ 90) = false := by simp; omega
          have d57 : decide ((s[k].toNat : Int) ≤ 57) = false := by simp; omega
          have m45 : ((s[k].toNat : Int) == 45) = false := by simp; omega
          have m95 : ((s[k].toNat : Int) == 95) = false := by simp; omega
          have m46 : ((s[k].toNat : Int) == 46) = false := by simp; omega
          clear c1 c2
          go_wp2
          go_ret
          exact ⟨ret_bool HV.out.symm, rfl⟩
    · by_cases h1 : 1 ≤ (s.size : Int)
      · by_cases h2 : (s.size : Int) ≤ 60
        · have HV : Hid (b = true) := by show _ = _; rw [← hb.out]; exact name_good (by omega) (by omega) (fun j hj => hinv.out j hj (by omega))
          go_wp2
          go_ret
          exact ⟨ret_bool HV.out.symm, rfl⟩
        · have HV : Hid (b = false) := by show _ = _; rw [← hb.out]; exact name_short (.inr (by omega))
          go_wp2
          go_ret
          exact ⟨ret_bool HV.out.symm, rfl⟩
      · have HV : Hid (b = false) := by show _ = _; rw [← hb.out]; exact name_short (.inl (by omega))
        go_wp2
        go_ret
        exact ⟨ret_bool HV.out.symm, rfl⟩

end Go.Proofs.Ytgkhhfojioepgaa
namespace Go.Proofs.Ytgkhhfojioepgaa
open Go.RowKit
set_option linter.unusedSimpArgs false
set_option linter.unusedVariables false

theorem out_no (n lo hi : Int) (h0 : lo ≤ n) (h1 : n ≤ hi) (w : World) : Calls Try.prog 121 #[.int .i64 n, .int .i64 lo, .int .i64 hi] w fun e w' => e = .returned (.bool false) ∧ w = w' := by
  have h2 : decide (n < lo) = false := by simp; omega
  have h3 : decide (hi < n) = false := by simp; omega
  go_enter Try.func121, Try.ntmps121
  go_wp2
  go_ret
  exact ⟨ret_bool (by first | rfl | (simp; omega)), rfl⟩
theorem out_yes (n lo hi : Int) (h : n < lo ∨ hi < n) (w : World) : Calls Try.prog 121 #[.int .i64 n, .int .i64 lo, .int .i64 hi] w fun e w' => e = .returned (.bool true) ∧ w = w' := by
  by_cases h0 : n < lo
  · clear h
    go_enter Try.func121, Try.ntmps121
    go_wp2
    go_ret
    exact ⟨ret_bool (by first | rfl | (simp; omega)), rfl⟩
  · have h1 : hi < n := by omega
    have h2 : decide (n < lo) = false := by simp; omega
    clear h
    go_enter Try.func121, Try.ntmps121
    go_wp2
    go_ret
    exact ⟨ret_bool (by first | rfl | (simp; omega)), rfl⟩

def sampF (st : Int) (b : Option Int) (x : Smp) : Int := if early b x.t then 10 else if smpIn st x then 0 else 9

set_option maxRecDepth 100000 in
set_option maxHeartbeats 6400000 in
theorem rsample_some (nm : ByteArray) (sp st : Int) (b off sc : Nat) (ss : List Smp) (lo : Option Addr) (lc : Nat) (ls : List LapV) (to_ : Option Addr) (tc : Nat) (ts : List ByteArray) (s0 : 0 ≤ st) (s1 : st ≤ 86399999999) (hl : (ss.length : Int) ≤ 9223372036854775807) (k : Nat) (hlt : k < ss.length) (w : World) (hs : SmpsAt w (some ⟨b, off, none⟩) ss) (hp : Hid (∀ p, prevT ss k = some p → 0 ≤ p)) {E : Int} (hE : Hid (sampF st (prevT ss k) ss[k] = E)) :
    Calls Try.prog 122 #[.agg #[.string nm, .int .i64 sp, .int .i64 st, .slice (some ⟨b, off, none⟩) ss.length sc, .slice lo ls.length lc, .slice to_ ts.length tc], .int .i64 k] w fun e w' => e = .returned (.int .i64 E) ∧ w.grownBy w' none := by
  obtain ⟨c0, c1, c2, c3, c4, c5, c6⟩ := hs.cells _ rfl k hlt
  simp only at c0 c1 c2 c3 c4 c5 c6
  have RE : early (prevT ss k) ss[k].t → Hid (E = 10) := fun h => by show _ = _; rw [← hE.out, sampF, if_pos h]
  have RO : ¬ early (prevT ss k) ss[k].t → ¬ smpIn st ss[k] → Hid (E = 9) := fun h h' => by show _ = _; rw [← hE.out, sampF, if_neg h, if_neg h']
  have RN : ¬ early (prevT ss k) ss[k].t → smpIn st ss[k] → Hid (E = 0) := fun h h' => by show _ = _; rw [← hE.out, sampF, if_neg h, if_pos h']
  clear hE
  have HS := Lib.hid hs; have HLT := Lib.hid hlt; clear hs
  generalize ss[k] = x at *
  obtain ⟨t, px, py, pz, pp, pq, ps⟩ := x
  simp only at c0 c1 c2 c3 c4 c5 c6 RE RO RN
  have B0 := World.grownBy_alloc w (.cells #[.string nm, .int .i64 sp, .int .i64 st, .slice (some ⟨b, off, none⟩) ss.length sc, .slice lo ls.length lc, .slice to_ ts.length tc] 26) none
  have d0 := grown_cell B0 c0; have d1 := grown_cell B0 c1; have d2 := grown_cell B0 c2; have d3 := grown_cell B0 c3; have d4 := grown_cell B0 c4; have d5 := grown_cell B0 c5; have d6 := grown_cell B0 c6
  clear B0
  by_cases hk0 : k = 0
  · have e0 : ((k : Int) == 0) = true := by simp; omega
    have e2 : decide (0 < (k : Int)) = false := by simp; omega
    have e3 : decide (0 < k) = false := by simp; omega
    have hpk : Hid (prevT ss k = none) := by subst hk0; exact rfl
    have HK := Lib.hid hk0
    clear hk0
    by_cases ht : t = 0
    · have e1 : (t != 0) = false := by simpa using ht
      have tl0 : 0 ≤ t := by omega
      have tl1 : t ≤ 0 := by omega
      have NE : Hid (¬ early (prevT ss k) t) := by show ¬ _; rw [hpk.out]; unfold early; simpa using ht
      clear ht
      have ta : ¬ 1000000 < t := by omega
      have tb : ¬ 86399999999 < st + t := by omega
      by_cases t0 : -100000000 ≤ px ∧ px ≤ 100000000
      rotate_left
      · have HE := RO NE.out (by unfold smpIn; simp only; omega)
        have Q0 : Hid (px < -100000000 ∨ 100000000 < px) := by show _ ∨ _; omega
        clear RE RO RN t0
        go_enter Try.func122, Try.ntmps122
        go_wp2_with fail
        go_quiet (fail)
        clear e0 e2
        go_wp2_with fail
        refine (out_yes _ _ _ Q0.out _).mono ?_; rintro e w1 ⟨rfl, rfl⟩
        go_wp2_with fail
        go_ret
        exact ⟨ret_int HE.out.symm, grown_trans (grown_trans (World.grownBy_alloc _ _ _) (World.grownBy_alloc _ _ _)) (grown_drewN _ _ _)⟩
      have Q0 : Hid (-100000000 ≤ px ∧ px ≤ 100000000) := t0
      by_cases t1 : -100000000 ≤ py ∧ py ≤ 100000000
      rotate_left
      · have HE := RO NE.out (by unfold smpIn; simp only; omega)
        have Q1 : Hid (py < -100000000 ∨ 100000000 < py) := by show _ ∨ _; omega
        clear RE RO RN t1
        go_enter Try.func122, Try.ntmps122
        go_wp2_with fail
        go_quiet (fail)
        clear e0 e2
        go_wp2_with fail
        refine (out_no _ _ _ Q0.out.1 Q0.out.2 _).mono ?_; rintro e w1 ⟨rfl, rfl⟩
        go_wp2_with fail
        refine (out_yes _ _ _ Q1.out _).mono ?_; rintro e w1 ⟨rfl, rfl⟩
        go_wp2_with fail
        go_ret
        exact ⟨ret_int HE.out.symm, grown_trans (grown_trans (World.grownBy_alloc _ _ _) (World.grownBy_alloc _ _ _)) (grown_drewN _ _ _)⟩
      have Q1 : Hid (-100000000 ≤ py ∧ py ≤ 100000000) := t1
      by_cases t2 : -100000 ≤ pz ∧ pz ≤ 100000
      rotate_left
      · have HE := RO NE.out (by unfold smpIn; simp only; omega)
        have Q2 : Hid (pz < -100000 ∨ 100000 < pz) := by show _ ∨ _; omega
        clear RE RO RN t2
        go_enter Try.func122, Try.ntmps122
        go_wp2_with fail
        go_quiet (fail)
        clear e0 e2
        go_wp2_with fail
        refine (out_no _ _ _ Q0.out.1 Q0.out.2 _).mono ?_; rintro e w1 ⟨rfl, rfl⟩
        go_wp2_with fail
        refine (out_no _ _ _ Q1.out.1 Q1.out.2 _).mono ?_; rintro e w1 ⟨rfl, rfl⟩
        go_wp2_with fail
        refine (out_yes _ _ _ Q2.out _).mono ?_; rintro e w1 ⟨rfl, rfl⟩
        go_wp2_with fail
        go_ret
        exact ⟨ret_int HE.out.symm, grown_trans (grown_trans (World.grownBy_alloc _ _ _) (World.grownBy_alloc _ _ _)) (grown_drewN _ _ _)⟩
      have Q2 : Hid (-100000 ≤ pz ∧ pz ≤ 100000) := t2
      by_cases t3 : -1 ≤ pp ∧ pp ≤ 300
      rotate_left
      · have HE := RO NE.out (by unfold smpIn; simp only; omega)
        have Q3 : Hid (pp < -1 ∨ 300 < pp) := by show _ ∨ _; omega
        clear RE RO RN t3
        go_enter Try.func122, Try.ntmps122
        go_wp2_with fail
        go_quiet (fail)
        clear e0 e2
        go_wp2_with fail
        refine (out_no _ _ _ Q0.out.1 Q0.out.2 _).mono ?_; rintro e w1 ⟨rfl, rfl⟩
        go_wp2_with fail
        refine (out_no _ _ _ Q1.out.1 Q1.out.2 _).mono ?_; rintro e w1 ⟨rfl, rfl⟩
        go_wp2_with fail
        refine (out_no _ _ _ Q2.out.1 Q2.out.2 _).mono ?_; rintro e w1 ⟨rfl, rfl⟩
        go_wp2_with fail
        refine (out_yes _ _ _ Q3.out _).mono ?_; rintro e w1 ⟨rfl, rfl⟩
        go_wp2_with fail
        go_ret
        exact ⟨ret_int HE.out.symm, grown_trans (grown_trans (World.grownBy_alloc _ _ _) (World.grownBy_alloc _ _ _)) (grown_drewN _ _ _)⟩
      have Q3 : Hid (-1 ≤ pp ∧ pp ≤ 300) := t3
      by_cases t4 : -1 ≤ pq ∧ pq ≤ 3000
      rotate_left
      · have HE := RO NE.out (by unfold smpIn; simp only; omega)
        have Q4 : Hid (pq < -1 ∨ 3000 < pq) := by show _ ∨ _; omega
        clear RE RO RN t4
        go_enter Try.func122, Try.ntmps122
        go_wp2_with fail
        go_quiet (fail)
        clear e0 e2
        go_wp2_with fail
        refine (out_no _ _ _ Q0.out.1 Q0.out.2 _).mono ?_; rintro e w1 ⟨rfl, rfl⟩
        go_wp2_with fail
        refine (out_no _ _ _ Q1.out.1 Q1.out.2 _).mono ?_; rintro e w1 ⟨rfl, rfl⟩
        go_wp2_with fail
        refine (out_no _ _ _ Q2.out.1 Q2.out.2 _).mono ?_; rintro e w1 ⟨rfl, rfl⟩
        go_wp2_with fail
        refine (out_no _ _ _ Q3.out.1 Q3.out.2 _).mono ?_; rintro e w1 ⟨rfl, rfl⟩
        go_wp2_with fail
        refine (out_yes _ _ _ Q4.out _).mono ?_; rintro e w1 ⟨rfl, rfl⟩
        go_wp2_with fail
        go_ret
        exact ⟨ret_int HE.out.symm, grown_trans (grown_trans (World.grownBy_alloc _ _ _) (World.grownBy_alloc _ _ _)) (grown_drewN _ _ _)⟩
      have Q4 : Hid (-1 ≤ pq ∧ pq ≤ 3000) := t4
      by_cases t5 : -1 ≤ ps ∧ ps ≤ 300
      rotate_left
      · have HE := RO NE.out (by unfold smpIn; simp only; omega)
        have Q5 : Hid (ps < -1 ∨ 300 < ps) := by show _ ∨ _; omega
        clear RE RO RN t5
        go_enter Try.func122, Try.ntmps122
        go_wp2_with fail
        go_quiet (fail)
        clear e0 e2
        go_wp2_with fail
        refine (out_no _ _ _ Q0.out.1 Q0.out.2 _).mono ?_; rintro e w1 ⟨rfl, rfl⟩
        go_wp2_with fail
        refine (out_no _ _ _ Q1.out.1 Q1.out.2 _).mono ?_; rintro e w1 ⟨rfl, rfl⟩
        go_wp2_with fail
        refine (out_no _ _ _ Q2.out.1 Q2.out.2 _).mono ?_; rintro e w1 ⟨rfl, rfl⟩
        go_wp2_with fail
        refine (out_no _ _ _ Q3.out.1 Q3.out.2 _).mono ?_; rintro e w1 ⟨rfl, rfl⟩
        go_wp2_with fail
        refine (out_no _ _ _ Q4.out.1 Q4.out.2 _).mono ?_; rintro e w1 ⟨rfl, rfl⟩
        go_wp2_with fail
        refine (out_yes _ _ _ Q5.out _).mono ?_; rintro e w1 ⟨rfl, rfl⟩
        go_wp2_with fail
        go_ret
        exact ⟨ret_int HE.out.symm, grown_trans (grown_trans (World.grownBy_alloc _ _ _) (World.grownBy_alloc _ _ _)) (grown_drewN _ _ _)⟩
      have Q5 : Hid (-1 ≤ ps ∧ ps ≤ 300) := t5
      have HE := RN NE.out (by unfold smpIn; simp only; omega)
      clear RE RO RN t0 t1 t2 t3 t4 t5
      go_enter Try.func122, Try.ntmps122
      go_wp2_with fail
      go_quiet (fail)
      clear e0 e2
      go_wp2_with fail
      refine (out_no _ _ _ Q0.out.1 Q0.out.2 _).mono ?_; rintro e w1 ⟨rfl, rfl⟩
      go_wp2_with fail
      refine (out_no _ _ _ Q1.out.1 Q1.out.2 _).mono ?_; rintro e w1 ⟨rfl, rfl⟩
      go_wp2_with fail
      refine (out_no _ _ _ Q2.out.1 Q2.out.2 _).mono ?_; rintro e w1 ⟨rfl, rfl⟩
      go_wp2_with fail
      refine (out_no _ _ _ Q3.out.1 Q3.out.2 _).mono ?_; rintro e w1 ⟨rfl, rfl⟩
      go_wp2_with fail
      refine (out_no _ _ _ Q4.out.1 Q4.out.2 _).mono ?_; rintro e w1 ⟨rfl, rfl⟩
      go_wp2_with fail
      refine (out_no _ _ _ Q5.out.1 Q5.out.2 _).mono ?_; rintro e w1 ⟨rfl, rfl⟩
      go_wp2_with fail
      go_ret
      exact ⟨ret_int HE.out.symm, grown_trans (grown_trans (World.grownBy_alloc _ _ _) (World.grownBy_alloc _ _ _)) (grown_drewN _ _ _)⟩
    · have e1 : (t != 0) = true := by simpa using ht
      have HE := RE (by rw [hpk.out]; exact ht)
      clear RE RO RN ht
      go_enter Try.func122, Try.ntmps122
      go_wp2_with fail
      go_quiet (fail)
      clear e0 e2
      go_wp2_with fail
      go_ret
      exact ⟨ret_int HE.out.symm, grown_trans (grown_trans (World.grownBy_alloc _ _ _) (World.grownBy_alloc _ _ _)) (grown_drewN _ _ _)⟩
  · obtain ⟨i, hki⟩ : ∃ i, k = i + 1 := ⟨k - 1, by omega⟩
    have hi : i < ss.length := by omega
    obtain ⟨pv, hpv⟩ : ∃ pv, ss[i].t = pv := ⟨_, rfl⟩
    have hpk : Hid (prevT ss k = some pv) := by show _ = _; rw [hki, prevT_succ, List.getElem?_eq_getElem hi, ← hpv]; rfl
    have hpv0 : 0 ≤ pv := hp.out pv hpk.out
    have q0 := (HS.out.cells _ rfl i hi).1
    rw [hpv] at q0
    simp only at q0
    have q1 : ∀ n, (((w.alloc (.cells #[.string nm, .int .i64 sp, .int .i64 st, .slice (some ⟨b, off, none⟩) ss.length sc, .slice lo ls.length lc, .slice to_ ts.length tc] 26)).alloc (.cells #[.int .i64 t, .int .i64 px, .int .i64 py, .int .i64 pz, .int .i64 pp, .int .i64 pq, .int .i64 ps] 28)).drewN n).cell? ⟨b, off + i * 7, none⟩ = some (.int .i64 pv) := fun n => grown_cell (grown_trans (grown_trans (World.grownBy_alloc _ _ _) (World.grownBy_alloc _ _ _)) (grown_drewN _ _ _)) q0
    have e0 : ((k : Int) == 0) = false := by simp; omega
    have e2 : decide (0 < (k : Int)) = true := by simp; omega
    have e3 : 0 < k := by omega
    have ea : ((k : Int) - 1).toNat = i := by omega
    have pa : (0 : Int) ≤ (k : Int) - 1 := by omega
    have pb : (1 : Int) ≤ (k : Int) := by omega
    have ba : (k : Int) - 1 < (ss.length : Int) := by omega
    have ra : IntKind.i64.wrap ((k : Int) - 1) = (k : Int) - 1 := by rw [IntKind.wrap_i64]; omega
    have HKI := Lib.hid hki
    clear hki hpv q0 hk0
    by_cases ht : t ≤ pv
    · have e1 : decide (t ≤ pv) = true := by simpa using ht
      have HE := RE (by rw [hpk.out]; exact ht)
      clear RE RO RN
      go_enter Try.func122, Try.ntmps122
      go_wp2_with fail
      go_quiet (fail)
      clear e0 e2
      go_wp2_with fail
      go_ret
      exact ⟨ret_int HE.out.symm, grown_trans (grown_trans (World.grownBy_alloc _ _ _) (World.grownBy_alloc _ _ _)) (grown_drewN _ _ _)⟩
    · have e1 : decide (t ≤ pv) = false := by simpa using ht
      have tl0 : 0 ≤ t := by omega
      have NE : Hid (¬ early (prevT ss k) t) := by show ¬ _; rw [hpk.out]; unfold early; exact ht
      clear ht
      by_cases ta : 1000000 < t
      · have HE := RO NE.out (by unfold smpIn; simp only; omega)
        clear RE RO RN
        go_enter Try.func122, Try.ntmps122
        go_wp2_with fail
        go_quiet (fail)
        clear e0 e2 q1 ea pa pb ba ra
        go_wp2_with fail
        go_ret
        exact ⟨ret_int HE.out.symm, grown_trans (grown_trans (World.grownBy_alloc _ _ _) (World.grownBy_alloc _ _ _)) (grown_drewN _ _ _)⟩
      by_cases tb : 86399999999 < st + t
      · have HE := RO NE.out (by unfold smpIn; simp only; omega)
        clear RE RO RN
        go_enter Try.func122, Try.ntmps122
        go_wp2_with fail
        go_quiet (fail)
        clear e0 e2 q1 ea pa pb ba ra
        go_wp2_with fail
        go_ret
        exact ⟨ret_int HE.out.symm, grown_trans (grown_trans (World.grownBy_alloc _ _ _) (World.grownBy_alloc _ _ _)) (grown_drewN _ _ _)⟩
      by_cases t0 : -100000000 ≤ px ∧ px ≤ 100000000
      rotate_left
      · have HE := RO NE.out (by unfold smpIn; simp only; omega)
        have Q0 : Hid (px < -100000000 ∨ 100000000 < px) := by show _ ∨ _; omega
        clear RE RO RN t0
        go_enter Try.func122, Try.ntmps122
        go_wp2_with fail
        go_quiet (fail)
        clear e0 e2 q1 ea pa pb ba ra
        go_wp2_with fail
        refine (out_yes _ _ _ Q0.out _).mono ?_; rintro e w1 ⟨rfl, rfl⟩
        go_wp2_with fail
        go_ret
        exact ⟨ret_int HE.out.symm, grown_trans (grown_trans (World.grownBy_alloc _ _ _) (World.grownBy_alloc _ _ _)) (grown_drewN _ _ _)⟩
      have Q0 : Hid (-100000000 ≤ px ∧ px ≤ 100000000) := t0
      by_cases t1 : -100000000 ≤ py ∧ py ≤ 100000000
      rotate_left
      · have HE := RO NE.out (by unfold smpIn; simp only; omega)
        have Q1 : Hid (py < -100000000 ∨ 100000000 < py) := by show _ ∨ _; omega
        clear RE RO RN t1
        go_enter Try.func122, Try.ntmps122
        go_wp2_with fail
        go_quiet (fail)
        clear e0 e2 q1 ea pa pb ba ra
        go_wp2_with fail
        refine (out_no _ _ _ Q0.out.1 Q0.out.2 _).mono ?_; rintro e w1 ⟨rfl, rfl⟩
        go_wp2_with fail
        refine (out_yes _ _ _ Q1.out _).mono ?_; rintro e w1 ⟨rfl, rfl⟩
        go_wp2_with fail
        go_ret
        exact ⟨ret_int HE.out.symm, grown_trans (grown_trans (World.grownBy_alloc _ _ _) (World.grownBy_alloc _ _ _)) (grown_drewN _ _ _)⟩
      have Q1 : Hid (-100000000 ≤ py ∧ py ≤ 100000000) := t1
      by_cases t2 : -100000 ≤ pz ∧ pz ≤ 100000
      rotate_left
      · have HE := RO NE.out (by unfold smpIn; simp only; omega)
        have Q2 : Hid (pz < -100000 ∨ 100000 < pz) := by show _ ∨ _; omega
        clear RE RO RN t2
        go_enter Try.func122, Try.ntmps122
        go_wp2_with fail
        go_quiet (fail)
        clear e0 e2 q1 ea pa pb ba ra
        go_wp2_with fail
        refine (out_no _ _ _ Q0.out.1 Q0.out.2 _).mono ?_; rintro e w1 ⟨rfl, rfl⟩
        go_wp2_with fail
        refine (out_no _ _ _ Q1.out.1 Q1.out.2 _).mono ?_; rintro e w1 ⟨rfl, rfl⟩
        go_wp2_with fail
        refine (out_yes _ _ _ Q2.out _).mono ?_; rintro e w1 ⟨rfl, rfl⟩
        go_wp2_with fail
        go_ret
        exact ⟨ret_int HE.out.symm, grown_trans (grown_trans (World.grownBy_alloc _ _ _) (World.grownBy_alloc _ _ _)) (grown_drewN _ _ _)⟩
      have Q2 : Hid (-100000 ≤ pz ∧ pz ≤ 100000) := t2
      by_cases t3 : -1 ≤ pp ∧ pp ≤ 300
      rotate_left
      · have HE := RO NE.out (by unfold smpIn; simp only; omega)
        have Q3 : Hid (pp < -1 ∨ 300 < pp) := by show _ ∨ _; omega
        clear RE RO RN t3
        go_enter Try.func122, Try.ntmps122
        go_wp2_with fail
        go_quiet (fail)
        clear e0 e2 q1 ea pa pb ba ra
        go_wp2_with fail
        refine (out_no _ _ _ Q0.out.1 Q0.out.2 _).mono ?_; rintro e w1 ⟨rfl, rfl⟩
        go_wp2_with fail
        refine (out_no _ _ _ Q1.out.1 Q1.out.2 _).mono ?_; rintro e w1 ⟨rfl, rfl⟩
        go_wp2_with fail
        refine (out_no _ _ _ Q2.out.1 Q2.out.2 _).mono ?_; rintro e w1 ⟨rfl, rfl⟩
        go_wp2_with fail
        refine (out_yes _ _ _ Q3.out _).mono ?_; rintro e w1 ⟨rfl, rfl⟩
        go_wp2_with fail
        go_ret
        exact ⟨ret_int HE.out.symm, grown_trans (grown_trans (World.grownBy_alloc _ _ _) (World.grownBy_alloc _ _ _)) (grown_drewN _ _ _)⟩
      have Q3 : Hid (-1 ≤ pp ∧ pp ≤ 300) := t3
      by_cases t4 : -1 ≤ pq ∧ pq ≤ 3000
      rotate_left
      · have HE := RO NE.out (by unfold smpIn; simp only; omega)
        have Q4 : Hid (pq < -1 ∨ 3000 < pq) := by show _ ∨ _; omega
        clear RE RO RN t4
        go_enter Try.func122, Try.ntmps122
        go_wp2_with fail
        go_quiet (fail)
        clear e0 e2 q1 ea pa pb ba ra
        go_wp2_with fail
        refine (out_no _ _ _ Q0.out.1 Q0.out.2 _).mono ?_; rintro e w1 ⟨rfl, rfl⟩
        go_wp2_with fail
        refine (out_no _ _ _ Q1.out.1 Q1.out.2 _).mono ?_; rintro e w1 ⟨rfl, rfl⟩
        go_wp2_with fail
        refine (out_no _ _ _ Q2.out.1 Q2.out.2 _).mono ?_; rintro e w1 ⟨rfl, rfl⟩
        go_wp2_with fail
        refine (out_no _ _ _ Q3.out.1 Q3.out.2 _).mono ?_; rintro e w1 ⟨rfl, rfl⟩
        go_wp2_with fail
        refine (out_yes _ _ _ Q4.out _).mono ?_; rintro e w1 ⟨rfl, rfl⟩
        go_wp2_with fail
        go_ret
        exact ⟨ret_int HE.out.symm, grown_trans (grown_trans (World.grownBy_alloc _ _ _) (World.grownBy_alloc _ _ _)) (grown_drewN _ _ _)⟩
      have Q4 : Hid (-1 ≤ pq ∧ pq ≤ 3000) := t4
      by_cases t5 : -1 ≤ ps ∧ ps ≤ 300
      rotate_left
      · have HE := RO NE.out (by unfold smpIn; simp only; omega)
        have Q5 : Hid (ps < -1 ∨ 300 < ps) := by show _ ∨ _; omega
        clear RE RO RN t5
        go_enter Try.func122, Try.ntmps122
        go_wp2_with fail
        go_quiet (fail)
        clear e0 e2 q1 ea pa pb ba ra
        go_wp2_with fail
        refine (out_no _ _ _ Q0.out.1 Q0.out.2 _).mono ?_; rintro e w1 ⟨rfl, rfl⟩
        go_wp2_with fail
        refine (out_no _ _ _ Q1.out.1 Q1.out.2 _).mono ?_; rintro e w1 ⟨rfl, rfl⟩
        go_wp2_with fail
        refine (out_no _ _ _ Q2.out.1 Q2.out.2 _).mono ?_; rintro e w1 ⟨rfl, rfl⟩
        go_wp2_with fail
        refine (out_no _ _ _ Q3.out.1 Q3.out.2 _).mono ?_; rintro e w1 ⟨rfl, rfl⟩
        go_wp2_with fail
        refine (out_no _ _ _ Q4.out.1 Q4.out.2 _).mono ?_; rintro e w1 ⟨rfl, rfl⟩
        go_wp2_with fail
        refine (out_yes _ _ _ Q5.out _).mono ?_; rintro e w1 ⟨rfl, rfl⟩
        go_wp2_with fail
        go_ret
        exact ⟨ret_int HE.out.symm, grown_trans (grown_trans (World.grownBy_alloc _ _ _) (World.grownBy_alloc _ _ _)) (grown_drewN _ _ _)⟩
      have Q5 : Hid (-1 ≤ ps ∧ ps ≤ 300) := t5
      have HE := RN NE.out (by unfold smpIn; simp only; omega)
      clear RE RO RN t0 t1 t2 t3 t4 t5
      go_enter Try.func122, Try.ntmps122
      go_wp2_with fail
      go_quiet (fail)
      clear e0 e2 q1 ea pa pb ba ra
      go_wp2_with fail
      refine (out_no _ _ _ Q0.out.1 Q0.out.2 _).mono ?_; rintro e w1 ⟨rfl, rfl⟩
      go_wp2_with fail
      refine (out_no _ _ _ Q1.out.1 Q1.out.2 _).mono ?_; rintro e w1 ⟨rfl, rfl⟩
      go_wp2_with fail
      refine (out_no _ _ _ Q2.out.1 Q2.out.2 _).mono ?_; rintro e w1 ⟨rfl, rfl⟩
      go_wp2_with fail
      refine (out_no _ _ _ Q3.out.1 Q3.out.2 _).mono ?_; rintro e w1 ⟨rfl, rfl⟩
      go_wp2_with fail
      refine (out_no _ _ _ Q4.out.1 Q4.out.2 _).mono ?_; rintro e w1 ⟨rfl, rfl⟩
      go_wp2_with fail
      refine (out_no _ _ _ Q5.out.1 Q5.out.2 _).mono ?_; rintro e w1 ⟨rfl, rfl⟩
      go_wp2_with fail
      go_ret
      exact ⟨ret_int HE.out.symm, grown_trans (grown_trans (World.grownBy_alloc _ _ _) (World.grownBy_alloc _ _ _)) (grown_drewN _ _ _)⟩

end Go.Proofs.Ytgkhhfojioepgaa
namespace Go.Proofs.Ytgkhhfojioepgaa
open Go.RowKit
set_option linter.unusedSimpArgs false
set_option linter.unusedVariables false

theorem rspan_some (a : Act) (b off n : Nat) (hso : a.so = some ⟨b, off, none⟩) (hn : a.ss.length = n + 1) (hl : (a.ss.length : Int) ≤ 9223372036854775807) (w : World) (hs : SmpsAt w a.so a.ss) {E : Int} (hE : Hid (spanL a.ss = E)) :
    Calls Try.prog 60 #[a.val] w fun e w' => e = .returned (.int .i64 E) ∧ w.grownBy w' none := by
  obtain ⟨nm, sp, st, so, sc, ss, lo, lc, ls, to_, tc, ts⟩ := a
  simp only [Act.val] at *
  subst hso
  have c0 := (hs.cells _ rfl n (by omega)).1
  have hv : (ss[n]'(by omega)).t = E := by rw [← hE.out]; exact (spanL_at hn).symm
  rw [hv] at c0
  simp only at c0
  have e0 : ((ss.length : Int) == 0) = false := by rw [beq_eq_false_iff_ne]; omega
  have ea : ((ss.length : Int) - 1).toNat = n := by omega
  have pa : (0 : Int) ≤ (ss.length : Int) - 1 := by omega
  have pb : (1 : Int) ≤ (ss.length : Int) := by omega
  have pc : 1 ≤ ss.length := by omega
  have HN := Lib.hid hn; have HS := Lib.hid hs
  clear hn hs hv hE
  go_enter Try.func60, Try.ntmps60
  have c1 := grown_cell (World.grownBy_alloc w (.cells #[.string nm, .int .i64 sp, .int .i64 st, .slice (some ⟨b, off, none⟩) ss.length sc, .slice lo ls.length lc, .slice to_ ts.length tc] 26) none) c0
  go_wp2
  go_ret
  exact ⟨rfl, World.grownBy_alloc _ _ _⟩
theorem rspan_any (a : Act) (hl : (a.ss.length : Int) ≤ 9223372036854775807) (w : World) (hs : SmpsAt w a.so a.ss) {E : Int} (hE : Hid (spanL a.ss = E)) :
    Calls Try.prog 60 #[a.val] w fun e w' => e = .returned (.int .i64 E) ∧ w.grownBy w' none := by
  obtain ⟨nm, sp, st, so, sc, ss, lo, lc, ls, to_, tc, ts⟩ := a
  cases ss with
  | nil =>
    have HV : Hid (E = 0) := by show _ = _; rw [← hE.out]; rfl
    simp only [Act.val, List.length_nil] at *
    clear hs hE hl
    go_enter Try.func60, Try.ntmps60
    go_wp2
    go_ret
    exact ⟨ret_int HV.out.symm, World.grownBy_alloc _ _ _⟩
  | cons x r =>
    match so, hs with
    | none, hs => exact absurd (hs.nil rfl) (by simp)
    | some ⟨b, off, spt⟩, hs =>
      have h := hs.spot _ rfl (by simp)
      simp only at h
      subst h
      exact rspan_some _ b off r.length rfl rfl hl w hs hE

def prevE (l : List LapV) : Nat → Option Int
  | 0 => none
  | k + 1 => (l[k]?).map LapV.to_
theorem prevE_succ (l : List LapV) (k : Nat) : prevE l (k + 1) = (l[k]?).map LapV.to_ := rfl
def soon : Option Int → Int → Prop
  | none, _ => False
  | some e, f => f < e
instance (e : Option Int) (f : Int) : Decidable (soon e f) := by cases e <;> (unfold soon; exact inferInstance)
def lapF (span : Int) (en : Option Int) (x : LapV) : Int := if x.fr < 0 ∨ x.to_ ≤ x.fr ∨ span < x.to_ then 9 else if soon en x.fr then 10 else if lapNameB x.name = true then 0 else 8

set_option maxRecDepth 100000 in
set_option maxHeartbeats 6400000 in
theorem rlap_some (nm : ByteArray) (sp st : Int) (so : Option Addr) (sc : Nat) (ss : List Smp) (b off lc : Nat) (ls : List LapV) (to_ : Option Addr) (tc : Nat) (ts : List ByteArray) (sl : (ss.length : Int) ≤ 9223372036854775807) (ll : (ls.length : Int) ≤ 9223372036854775807) (k : Nat) (hlt : k < ls.length) (w : World) (hs : SmpsAt w so ss) (hl : LapsAt w (some ⟨b, off, none⟩) ls) {SPN : Int} (hsp : Hid (spanL ss = SPN)) {E : Int} (hE : Hid (lapF SPN (prevE ls k) ls[k] = E)) :
    Calls Try.prog 123 #[.agg #[.string nm, .int .i64 sp, .int .i64 st, .slice so ss.length sc, .slice (some ⟨b, off, none⟩) ls.length lc, .slice to_ ts.length tc], .int .i64 k] w fun e w' => e = .returned (.int .i64 E) ∧ w.grownBy w' none := by
  obtain ⟨c0, c1, c2⟩ := hl.cells _ rfl k hlt
  have hsz := hl.sizes k hlt
  simp only at c0 c1 c2
  have R9 : (ls[k].fr < 0 ∨ ls[k].to_ ≤ ls[k].fr ∨ SPN < ls[k].to_) → Hid (E = 9) := fun h => by show _ = _; rw [← hE.out, lapF, if_pos h]
  have RE : ¬ (ls[k].fr < 0 ∨ ls[k].to_ ≤ ls[k].fr ∨ SPN < ls[k].to_) → soon (prevE ls k) ls[k].fr → Hid (E = 10) := fun h h' => by show _ = _; rw [← hE.out, lapF, if_neg h, if_pos h']
  have R8 : ¬ (ls[k].fr < 0 ∨ ls[k].to_ ≤ ls[k].fr ∨ SPN < ls[k].to_) → ¬ soon (prevE ls k) ls[k].fr → Hid (lapNameB ls[k].name = false → Hid (E = 8)) := fun h h' hn => by show _ = _; rw [← hE.out, lapF, if_neg h, if_neg h', if_neg (by simp [hn])]
  have R0 : ¬ (ls[k].fr < 0 ∨ ls[k].to_ ≤ ls[k].fr ∨ SPN < ls[k].to_) → ¬ soon (prevE ls k) ls[k].fr → Hid (lapNameB ls[k].name = true → Hid (E = 0)) := fun h h' hn => by show _ = _; rw [← hE.out, lapF, if_neg h, if_neg h', if_pos hn]
  clear hE
  have HL := Lib.hid hl; have HLT := Lib.hid hlt; have HS := Lib.hid hs; have HSP := hsp; have SL := Lib.hid sl
  clear hl hs hsp
  generalize ls[k] = x at *
  obtain ⟨fr, tt, ln⟩ := x
  simp only at c0 c1 c2 R9 RE R8 R0 hsz
  have hsz2 : (ln.size : Int) ≤ 140737488355328 := by omega
  have B0 := World.grownBy_alloc w (.cells #[.string nm, .int .i64 sp, .int .i64 st, .slice so ss.length sc, .slice (some ⟨b, off, none⟩) ls.length lc, .slice to_ ts.length tc] 26) none
  have d0 := grown_cell B0 c0; have d1 := grown_cell B0 c1; have d2 := grown_cell B0 c2
  clear B0
  by_cases a1 : fr < 0
  · have HE := R9 (.inl a1)
    have g1 : decide (fr < 0) = true := by simpa using a1
    clear R9 RE R8 R0
    go_enter Try.func123, Try.ntmps123
    go_wp2_with fail
    go_quiet (fail)
    go_wp2_with fail
    go_ret
    exact ⟨ret_int HE.out.symm, grown_trans (grown_trans (World.grownBy_alloc _ _ _) (World.grownBy_alloc _ _ _)) (grown_drewN _ _ _)⟩
  have g1 : decide (fr < 0) = false := by simpa using a1
  by_cases a2 : tt ≤ fr
  · have HE := R9 (.inr (.inl a2))
    have g2 : decide (tt ≤ fr) = true := by simpa using a2
    clear R9 RE R8 R0
    go_enter Try.func123, Try.ntmps123
    go_wp2_with fail
    go_quiet (fail)
    go_wp2_with fail
    go_ret
    exact ⟨ret_int HE.out.symm, grown_trans (grown_trans (World.grownBy_alloc _ _ _) (World.grownBy_alloc _ _ _)) (grown_drewN _ _ _)⟩
  have g2 : decide (tt ≤ fr) = false := by simpa using a2
  by_cases a3 : SPN < tt
  · have HE := R9 (.inr (.inr a3))
    have g3 : decide (SPN < tt) = true := by simpa using a3
    clear R9 RE R8 R0
    go_enter Try.func123, Try.ntmps123
    have hS0 : (World.grownBy w ((w.alloc (.cells #[.string nm, .int .i64 sp, .int .i64 st, .slice so ss.length sc, .slice (some ⟨b, off, none⟩) ls.length lc, .slice to_ ts.length tc] 26)).alloc (.cells #[.int .i64 fr, .int .i64 tt, .string ln] 77)) none ∧ World.cell? ((w.alloc (.cells #[.string nm, .int .i64 sp, .int .i64 st, .slice so ss.length sc, .slice (some ⟨b, off, none⟩) ls.length lc, .slice to_ ts.length tc] 26)).alloc (.cells #[.int .i64 fr, .int .i64 tt, .string ln] 77)) ⟨w.heap.size, 0, none⟩ = some (.string nm) ∧ World.cell? ((w.alloc (.cells #[.string nm, .int .i64 sp, .int .i64 st, .slice so ss.length sc, .slice (some ⟨b, off, none⟩) ls.length lc, .slice to_ ts.length tc] 26)).alloc (.cells #[.int .i64 fr, .int .i64 tt, .string ln] 77)) ⟨w.heap.size, 1, none⟩ = some (.int .i64 sp) ∧ World.cell? ((w.alloc (.cells #[.string nm, .int .i64 sp, .int .i64 st, .slice so ss.length sc, .slice (some ⟨b, off, none⟩) ls.length lc, .slice to_ ts.length tc] 26)).alloc (.cells #[.int .i64 fr, .int .i64 tt, .string ln] 77)) ⟨w.heap.size, 2, none⟩ = some (.int .i64 st) ∧ World.cell? ((w.alloc (.cells #[.string nm, .int .i64 sp, .int .i64 st, .slice so ss.length sc, .slice (some ⟨b, off, none⟩) ls.length lc, .slice to_ ts.length tc] 26)).alloc (.cells #[.int .i64 fr, .int .i64 tt, .string ln] 77)) ⟨w.heap.size, 3, none⟩ = some (.slice so ss.length sc) ∧ World.cell? ((w.alloc (.cells #[.string nm, .int .i64 sp, .int .i64 st, .slice so ss.length sc, .slice (some ⟨b, off, none⟩) ls.length lc, .slice to_ ts.length tc] 26)).alloc (.cells #[.int .i64 fr, .int .i64 tt, .string ln] 77)) ⟨w.heap.size, 4, none⟩ = some (.slice (some ⟨b, off, none⟩) ls.length lc) ∧ World.cell? ((w.alloc (.cells #[.string nm, .int .i64 sp, .int .i64 st, .slice so ss.length sc, .slice (some ⟨b, off, none⟩) ls.length lc, .slice to_ ts.length tc] 26)).alloc (.cells #[.int .i64 fr, .int .i64 tt, .string ln] 77)) ⟨w.heap.size, 5, none⟩ = some (.slice to_ ts.length tc) ∧ World.cell? ((w.alloc (.cells #[.string nm, .int .i64 sp, .int .i64 st, .slice so ss.length sc, .slice (some ⟨b, off, none⟩) ls.length lc, .slice to_ ts.length tc] 26)).alloc (.cells #[.int .i64 fr, .int .i64 tt, .string ln] 77)) ⟨w.heap.size + 1, 0, none⟩ = some (.int .i64 fr) ∧ World.cell? ((w.alloc (.cells #[.string nm, .int .i64 sp, .int .i64 st, .slice so ss.length sc, .slice (some ⟨b, off, none⟩) ls.length lc, .slice to_ ts.length tc] 26)).alloc (.cells #[.int .i64 fr, .int .i64 tt, .string ln] 77)) ⟨w.heap.size + 1, 1, none⟩ = some (.int .i64 tt) ∧ World.cell? ((w.alloc (.cells #[.string nm, .int .i64 sp, .int .i64 st, .slice so ss.length sc, .slice (some ⟨b, off, none⟩) ls.length lc, .slice to_ ts.length tc] 26)).alloc (.cells #[.int .i64 fr, .int .i64 tt, .string ln] 77)) ⟨w.heap.size + 1, 2, none⟩ = some (.string ln)) := ⟨grown_trans (World.grownBy_alloc _ _ _) (World.grownBy_alloc _ _ _), by simp, by simp, by simp, by simp, by simp, by simp, by simp, by simp, by simp⟩
    have hstep : ∀ W W' : World, (World.grownBy w W none ∧ World.cell? W ⟨w.heap.size, 0, none⟩ = some (.string nm) ∧ World.cell? W ⟨w.heap.size, 1, none⟩ = some (.int .i64 sp) ∧ World.cell? W ⟨w.heap.size, 2, none⟩ = some (.int .i64 st) ∧ World.cell? W ⟨w.heap.size, 3, none⟩ = some (.slice so ss.length sc) ∧ World.cell? W ⟨w.heap.size, 4, none⟩ = some (.slice (some ⟨b, off, none⟩) ls.length lc) ∧ World.cell? W ⟨w.heap.size, 5, none⟩ = some (.slice to_ ts.length tc) ∧ World.cell? W ⟨w.heap.size + 1, 0, none⟩ = some (.int .i64 fr) ∧ World.cell? W ⟨w.heap.size + 1, 1, none⟩ = some (.int .i64 tt) ∧ World.cell? W ⟨w.heap.size + 1, 2, none⟩ = some (.string ln)) → W.grownBy W' none → (World.grownBy w W' none ∧ World.cell? W' ⟨w.heap.size, 0, none⟩ = some (.string nm) ∧ World.cell? W' ⟨w.heap.size, 1, none⟩ = some (.int .i64 sp) ∧ World.cell? W' ⟨w.heap.size, 2, none⟩ = some (.int .i64 st) ∧ World.cell? W' ⟨w.heap.size, 3, none⟩ = some (.slice so ss.length sc) ∧ World.cell? W' ⟨w.heap.size, 4, none⟩ = some (.slice (some ⟨b, off, none⟩) ls.length lc) ∧ World.cell? W' ⟨w.heap.size, 5, none⟩ = some (.slice to_ ts.length tc) ∧ World.cell? W' ⟨w.heap.size + 1, 0, none⟩ = some (.int .i64 fr) ∧ World.cell? W' ⟨w.heap.size + 1, 1, none⟩ = some (.int .i64 tt) ∧ World.cell? W' ⟨w.heap.size + 1, 2, none⟩ = some (.string ln)) := fun W W' h g => ⟨grown_trans h.1 g, grown_cell g h.2.1, grown_cell g h.2.2.1, grown_cell g h.2.2.2.1, grown_cell g h.2.2.2.2.1, grown_cell g h.2.2.2.2.2.1, grown_cell g h.2.2.2.2.2.2.1, grown_cell g h.2.2.2.2.2.2.2.1, grown_cell g h.2.2.2.2.2.2.2.2.1, grown_cell g h.2.2.2.2.2.2.2.2.2⟩
    have hSd : (World.grownBy w ((w.alloc (.cells #[.string nm, .int .i64 sp, .int .i64 st, .slice so ss.length sc, .slice (some ⟨b, off, none⟩) ls.length lc, .slice to_ ts.length tc] 26)).alloc (.cells #[.int .i64 fr, .int .i64 tt, .string ln] 77)).drew none ∧ World.cell? ((w.alloc (.cells #[.string nm, .int .i64 sp, .int .i64 st, .slice so ss.length sc, .slice (some ⟨b, off, none⟩) ls.length lc, .slice to_ ts.length tc] 26)).alloc (.cells #[.int .i64 fr, .int .i64 tt, .string ln] 77)).drew ⟨w.heap.size, 0, none⟩ = some (.string nm) ∧ World.cell? ((w.alloc (.cells #[.string nm, .int .i64 sp, .int .i64 st, .slice so ss.length sc, .slice (some ⟨b, off, none⟩) ls.length lc, .slice to_ ts.length tc] 26)).alloc (.cells #[.int .i64 fr, .int .i64 tt, .string ln] 77)).drew ⟨w.heap.size, 1, none⟩ = some (.int .i64 sp) ∧ World.cell? ((w.alloc (.cells #[.string nm, .int .i64 sp, .int .i64 st, .slice so ss.length sc, .slice (some ⟨b, off, none⟩) ls.length lc, .slice to_ ts.length tc] 26)).alloc (.cells #[.int .i64 fr, .int .i64 tt, .string ln] 77)).drew ⟨w.heap.size, 2, none⟩ = some (.int .i64 st) ∧ World.cell? ((w.alloc (.cells #[.string nm, .int .i64 sp, .int .i64 st, .slice so ss.length sc, .slice (some ⟨b, off, none⟩) ls.length lc, .slice to_ ts.length tc] 26)).alloc (.cells #[.int .i64 fr, .int .i64 tt, .string ln] 77)).drew ⟨w.heap.size, 3, none⟩ = some (.slice so ss.length sc) ∧ World.cell? ((w.alloc (.cells #[.string nm, .int .i64 sp, .int .i64 st, .slice so ss.length sc, .slice (some ⟨b, off, none⟩) ls.length lc, .slice to_ ts.length tc] 26)).alloc (.cells #[.int .i64 fr, .int .i64 tt, .string ln] 77)).drew ⟨w.heap.size, 4, none⟩ = some (.slice (some ⟨b, off, none⟩) ls.length lc) ∧ World.cell? ((w.alloc (.cells #[.string nm, .int .i64 sp, .int .i64 st, .slice so ss.length sc, .slice (some ⟨b, off, none⟩) ls.length lc, .slice to_ ts.length tc] 26)).alloc (.cells #[.int .i64 fr, .int .i64 tt, .string ln] 77)).drew ⟨w.heap.size, 5, none⟩ = some (.slice to_ ts.length tc) ∧ World.cell? ((w.alloc (.cells #[.string nm, .int .i64 sp, .int .i64 st, .slice so ss.length sc, .slice (some ⟨b, off, none⟩) ls.length lc, .slice to_ ts.length tc] 26)).alloc (.cells #[.int .i64 fr, .int .i64 tt, .string ln] 77)).drew ⟨w.heap.size + 1, 0, none⟩ = some (.int .i64 fr) ∧ World.cell? ((w.alloc (.cells #[.string nm, .int .i64 sp, .int .i64 st, .slice so ss.length sc, .slice (some ⟨b, off, none⟩) ls.length lc, .slice to_ ts.length tc] 26)).alloc (.cells #[.int .i64 fr, .int .i64 tt, .string ln] 77)).drew ⟨w.heap.size + 1, 1, none⟩ = some (.int .i64 tt) ∧ World.cell? ((w.alloc (.cells #[.string nm, .int .i64 sp, .int .i64 st, .slice so ss.length sc, .slice (some ⟨b, off, none⟩) ls.length lc, .slice to_ ts.length tc] 26)).alloc (.cells #[.int .i64 fr, .int .i64 tt, .string ln] 77)).drew ⟨w.heap.size + 1, 2, none⟩ = some (.string ln)) := hstep _ _ hS0 (grown_drewN _ _ 1)
    have hof : ∀ W : World, (World.grownBy w W none ∧ World.cell? W ⟨w.heap.size, 0, none⟩ = some (.string nm) ∧ World.cell? W ⟨w.heap.size, 1, none⟩ = some (.int .i64 sp) ∧ World.cell? W ⟨w.heap.size, 2, none⟩ = some (.int .i64 st) ∧ World.cell? W ⟨w.heap.size, 3, none⟩ = some (.slice so ss.length sc) ∧ World.cell? W ⟨w.heap.size, 4, none⟩ = some (.slice (some ⟨b, off, none⟩) ls.length lc) ∧ World.cell? W ⟨w.heap.size, 5, none⟩ = some (.slice to_ ts.length tc) ∧ World.cell? W ⟨w.heap.size + 1, 0, none⟩ = some (.int .i64 fr) ∧ World.cell? W ⟨w.heap.size + 1, 1, none⟩ = some (.int .i64 tt) ∧ World.cell? W ⟨w.heap.size + 1, 2, none⟩ = some (.string ln)) → SmpsAt W so ss := fun W h => HS.out.grown h.1
    clear hS0
    go_wp2_with fail
    go_region_held3 (fun W => (World.grownBy w W none ∧ World.cell? W ⟨w.heap.size, 0, none⟩ = some (.string nm) ∧ World.cell? W ⟨w.heap.size, 1, none⟩ = some (.int .i64 sp) ∧ World.cell? W ⟨w.heap.size, 2, none⟩ = some (.int .i64 st) ∧ World.cell? W ⟨w.heap.size, 3, none⟩ = some (.slice so ss.length sc) ∧ World.cell? W ⟨w.heap.size, 4, none⟩ = some (.slice (some ⟨b, off, none⟩) ls.length lc) ∧ World.cell? W ⟨w.heap.size, 5, none⟩ = some (.slice to_ ts.length tc) ∧ World.cell? W ⟨w.heap.size + 1, 0, none⟩ = some (.int .i64 fr) ∧ World.cell? W ⟨w.heap.size + 1, 1, none⟩ = some (.int .i64 tt) ∧ World.cell? W ⟨w.heap.size + 1, 2, none⟩ = some (.string ln))) (first | exact hSd | (refine hstep _ _ ?_ (by assumption) <;> assumption)) (first
      | (go_at_call 60; refine (rspan_any ⟨nm, sp, st, so, sc, ss, some ⟨b, off, none⟩, lc, ls, to_, tc, ts⟩ SL.out _ (hof _ (by assumption)) HSP).mono ?_; rintro x w7 ⟨rfl, hg7⟩))
    all_goals
      rename_i hfin
      clear hSd hof
      obtain ⟨G9, f0, f1, f2, f3, f4, f5, l0, l1, l2⟩ := hfin
      go_wp2_with fail
      go_ret
      exact ⟨ret_int HE.out.symm, G9⟩
  have g3 : decide (SPN < tt) = false := by simpa using a3
  have hna : ¬ (fr < 0 ∨ tt ≤ fr ∨ SPN < tt) := by omega
  by_cases hk0 : k = 0
  · have e2 : decide (0 < (k : Int)) = false := by simp; omega
    have e3 : decide (0 < k) = false := by simp; omega
    have hpk : prevE ls k = none := by subst hk0; exact rfl
    have HK := Lib.hid hk0
    clear hk0
    rw [hpk] at R8 R0
    replace R8 := R8 hna (by simp [soon])
    replace R0 := R0 hna (by simp [soon])
    clear R9 RE hna hpk
    go_enter Try.func123, Try.ntmps123
    have hS0 : (World.grownBy w ((w.alloc (.cells #[.string nm, .int .i64 sp, .int .i64 st, .slice so ss.length sc, .slice (some ⟨b, off, none⟩) ls.length lc, .slice to_ ts.length tc] 26)).alloc (.cells #[.int .i64 fr, .int .i64 tt, .string ln] 77)) none ∧ World.cell? ((w.alloc (.cells #[.string nm, .int .i64 sp, .int .i64 st, .slice so ss.length sc, .slice (some ⟨b, off, none⟩) ls.length lc, .slice to_ ts.length tc] 26)).alloc (.cells #[.int .i64 fr, .int .i64 tt, .string ln] 77)) ⟨w.heap.size, 0, none⟩ = some (.string nm) ∧ World.cell? ((w.alloc (.cells #[.string nm, .int .i64 sp, .int .i64 st, .slice so ss.length sc, .slice (some ⟨b, off, none⟩) ls.length lc, .slice to_ ts.length tc] 26)).alloc (.cells #[.int .i64 fr, .int .i64 tt, .string ln] 77)) ⟨w.heap.size, 1, none⟩ = some (.int .i64 sp) ∧ World.cell? ((w.alloc (.cells #[.string nm, .int .i64 sp, .int .i64 st, .slice so ss.length sc, .slice (some ⟨b, off, none⟩) ls.length lc, .slice to_ ts.length tc] 26)).alloc (.cells #[.int .i64 fr, .int .i64 tt, .string ln] 77)) ⟨w.heap.size, 2, none⟩ = some (.int .i64 st) ∧ World.cell? ((w.alloc (.cells #[.string nm, .int .i64 sp, .int .i64 st, .slice so ss.length sc, .slice (some ⟨b, off, none⟩) ls.length lc, .slice to_ ts.length tc] 26)).alloc (.cells #[.int .i64 fr, .int .i64 tt, .string ln] 77)) ⟨w.heap.size, 3, none⟩ = some (.slice so ss.length sc) ∧ World.cell? ((w.alloc (.cells #[.string nm, .int .i64 sp, .int .i64 st, .slice so ss.length sc, .slice (some ⟨b, off, none⟩) ls.length lc, .slice to_ ts.length tc] 26)).alloc (.cells #[.int .i64 fr, .int .i64 tt, .string ln] 77)) ⟨w.heap.size, 4, none⟩ = some (.slice (some ⟨b, off, none⟩) ls.length lc) ∧ World.cell? ((w.alloc (.cells #[.string nm, .int .i64 sp, .int .i64 st, .slice so ss.length sc, .slice (some ⟨b, off, none⟩) ls.length lc, .slice to_ ts.length tc] 26)).alloc (.cells #[.int .i64 fr, .int .i64 tt, .string ln] 77)) ⟨w.heap.size, 5, none⟩ = some (.slice to_ ts.length tc) ∧ World.cell? ((w.alloc (.cells #[.string nm, .int .i64 sp, .int .i64 st, .slice so ss.length sc, .slice (some ⟨b, off, none⟩) ls.length lc, .slice to_ ts.length tc] 26)).alloc (.cells #[.int .i64 fr, .int .i64 tt, .string ln] 77)) ⟨w.heap.size + 1, 0, none⟩ = some (.int .i64 fr) ∧ World.cell? ((w.alloc (.cells #[.string nm, .int .i64 sp, .int .i64 st, .slice so ss.length sc, .slice (some ⟨b, off, none⟩) ls.length lc, .slice to_ ts.length tc] 26)).alloc (.cells #[.int .i64 fr, .int .i64 tt, .string ln] 77)) ⟨w.heap.size + 1, 1, none⟩ = some (.int .i64 tt) ∧ World.cell? ((w.alloc (.cells #[.string nm, .int .i64 sp, .int .i64 st, .slice so ss.length sc, .slice (some ⟨b, off, none⟩) ls.length lc, .slice to_ ts.length tc] 26)).alloc (.cells #[.int .i64 fr, .int .i64 tt, .string ln] 77)) ⟨w.heap.size + 1, 2, none⟩ = some (.string ln)) := ⟨grown_trans (World.grownBy_alloc _ _ _) (World.grownBy_alloc _ _ _), by simp, by simp, by simp, by simp, by simp, by simp, by simp, by simp, by simp⟩
    have hstep : ∀ W W' : World, (World.grownBy w W none ∧ World.cell? W ⟨w.heap.size, 0, none⟩ = some (.string nm) ∧ World.cell? W ⟨w.heap.size, 1, none⟩ = some (.int .i64 sp) ∧ World.cell? W ⟨w.heap.size, 2, none⟩ = some (.int .i64 st) ∧ World.cell? W ⟨w.heap.size, 3, none⟩ = some (.slice so ss.length sc) ∧ World.cell? W ⟨w.heap.size, 4, none⟩ = some (.slice (some ⟨b, off, none⟩) ls.length lc) ∧ World.cell? W ⟨w.heap.size, 5, none⟩ = some (.slice to_ ts.length tc) ∧ World.cell? W ⟨w.heap.size + 1, 0, none⟩ = some (.int .i64 fr) ∧ World.cell? W ⟨w.heap.size + 1, 1, none⟩ = some (.int .i64 tt) ∧ World.cell? W ⟨w.heap.size + 1, 2, none⟩ = some (.string ln)) → W.grownBy W' none → (World.grownBy w W' none ∧ World.cell? W' ⟨w.heap.size, 0, none⟩ = some (.string nm) ∧ World.cell? W' ⟨w.heap.size, 1, none⟩ = some (.int .i64 sp) ∧ World.cell? W' ⟨w.heap.size, 2, none⟩ = some (.int .i64 st) ∧ World.cell? W' ⟨w.heap.size, 3, none⟩ = some (.slice so ss.length sc) ∧ World.cell? W' ⟨w.heap.size, 4, none⟩ = some (.slice (some ⟨b, off, none⟩) ls.length lc) ∧ World.cell? W' ⟨w.heap.size, 5, none⟩ = some (.slice to_ ts.length tc) ∧ World.cell? W' ⟨w.heap.size + 1, 0, none⟩ = some (.int .i64 fr) ∧ World.cell? W' ⟨w.heap.size + 1, 1, none⟩ = some (.int .i64 tt) ∧ World.cell? W' ⟨w.heap.size + 1, 2, none⟩ = some (.string ln)) := fun W W' h g => ⟨grown_trans h.1 g, grown_cell g h.2.1, grown_cell g h.2.2.1, grown_cell g h.2.2.2.1, grown_cell g h.2.2.2.2.1, grown_cell g h.2.2.2.2.2.1, grown_cell g h.2.2.2.2.2.2.1, grown_cell g h.2.2.2.2.2.2.2.1, grown_cell g h.2.2.2.2.2.2.2.2.1, grown_cell g h.2.2.2.2.2.2.2.2.2⟩
    have hSd : (World.grownBy w ((w.alloc (.cells #[.string nm, .int .i64 sp, .int .i64 st, .slice so ss.length sc, .slice (some ⟨b, off, none⟩) ls.length lc, .slice to_ ts.length tc] 26)).alloc (.cells #[.int .i64 fr, .int .i64 tt, .string ln] 77)).drew none ∧ World.cell? ((w.alloc (.cells #[.string nm, .int .i64 sp, .int .i64 st, .slice so ss.length sc, .slice (some ⟨b, off, none⟩) ls.length lc, .slice to_ ts.length tc] 26)).alloc (.cells #[.int .i64 fr, .int .i64 tt, .string ln] 77)).drew ⟨w.heap.size, 0, none⟩ = some (.string nm) ∧ World.cell? ((w.alloc (.cells #[.string nm, .int .i64 sp, .int .i64 st, .slice so ss.length sc, .slice (some ⟨b, off, none⟩) ls.length lc, .slice to_ ts.length tc] 26)).alloc (.cells #[.int .i64 fr, .int .i64 tt, .string ln] 77)).drew ⟨w.heap.size, 1, none⟩ = some (.int .i64 sp) ∧ World.cell? ((w.alloc (.cells #[.string nm, .int .i64 sp, .int .i64 st, .slice so ss.length sc, .slice (some ⟨b, off, none⟩) ls.length lc, .slice to_ ts.length tc] 26)).alloc (.cells #[.int .i64 fr, .int .i64 tt, .string ln] 77)).drew ⟨w.heap.size, 2, none⟩ = some (.int .i64 st) ∧ World.cell? ((w.alloc (.cells #[.string nm, .int .i64 sp, .int .i64 st, .slice so ss.length sc, .slice (some ⟨b, off, none⟩) ls.length lc, .slice to_ ts.length tc] 26)).alloc (.cells #[.int .i64 fr, .int .i64 tt, .string ln] 77)).drew ⟨w.heap.size, 3, none⟩ = some (.slice so ss.length sc) ∧ World.cell? ((w.alloc (.cells #[.string nm, .int .i64 sp, .int .i64 st, .slice so ss.length sc, .slice (some ⟨b, off, none⟩) ls.length lc, .slice to_ ts.length tc] 26)).alloc (.cells #[.int .i64 fr, .int .i64 tt, .string ln] 77)).drew ⟨w.heap.size, 4, none⟩ = some (.slice (some ⟨b, off, none⟩) ls.length lc) ∧ World.cell? ((w.alloc (.cells #[.string nm, .int .i64 sp, .int .i64 st, .slice so ss.length sc, .slice (some ⟨b, off, none⟩) ls.length lc, .slice to_ ts.length tc] 26)).alloc (.cells #[.int .i64 fr, .int .i64 tt, .string ln] 77)).drew ⟨w.heap.size, 5, none⟩ = some (.slice to_ ts.length tc) ∧ World.cell? ((w.alloc (.cells #[.string nm, .int .i64 sp, .int .i64 st, .slice so ss.length sc, .slice (some ⟨b, off, none⟩) ls.length lc, .slice to_ ts.length tc] 26)).alloc (.cells #[.int .i64 fr, .int .i64 tt, .string ln] 77)).drew ⟨w.heap.size + 1, 0, none⟩ = some (.int .i64 fr) ∧ World.cell? ((w.alloc (.cells #[.string nm, .int .i64 sp, .int .i64 st, .slice so ss.length sc, .slice (some ⟨b, off, none⟩) ls.length lc, .slice to_ ts.length tc] 26)).alloc (.cells #[.int .i64 fr, .int .i64 tt, .string ln] 77)).drew ⟨w.heap.size + 1, 1, none⟩ = some (.int .i64 tt) ∧ World.cell? ((w.alloc (.cells #[.string nm, .int .i64 sp, .int .i64 st, .slice so ss.length sc, .slice (some ⟨b, off, none⟩) ls.length lc, .slice to_ ts.length tc] 26)).alloc (.cells #[.int .i64 fr, .int .i64 tt, .string ln] 77)).drew ⟨w.heap.size + 1, 2, none⟩ = some (.string ln)) := hstep _ _ hS0 (grown_drewN _ _ 1)
    have hof : ∀ W : World, (World.grownBy w W none ∧ World.cell? W ⟨w.heap.size, 0, none⟩ = some (.string nm) ∧ World.cell? W ⟨w.heap.size, 1, none⟩ = some (.int .i64 sp) ∧ World.cell? W ⟨w.heap.size, 2, none⟩ = some (.int .i64 st) ∧ World.cell? W ⟨w.heap.size, 3, none⟩ = some (.slice so ss.length sc) ∧ World.cell? W ⟨w.heap.size, 4, none⟩ = some (.slice (some ⟨b, off, none⟩) ls.length lc) ∧ World.cell? W ⟨w.heap.size, 5, none⟩ = some (.slice to_ ts.length tc) ∧ World.cell? W ⟨w.heap.size + 1, 0, none⟩ = some (.int .i64 fr) ∧ World.cell? W ⟨w.heap.size + 1, 1, none⟩ = some (.int .i64 tt) ∧ World.cell? W ⟨w.heap.size + 1, 2, none⟩ = some (.string ln)) → SmpsAt W so ss := fun W h => HS.out.grown h.1
    clear hS0
    go_wp2_with fail
    go_region_held3 (fun W => (World.grownBy w W none ∧ World.cell? W ⟨w.heap.size, 0, none⟩ = some (.string nm) ∧ World.cell? W ⟨w.heap.size, 1, none⟩ = some (.int .i64 sp) ∧ World.cell? W ⟨w.heap.size, 2, none⟩ = some (.int .i64 st) ∧ World.cell? W ⟨w.heap.size, 3, none⟩ = some (.slice so ss.length sc) ∧ World.cell? W ⟨w.heap.size, 4, none⟩ = some (.slice (some ⟨b, off, none⟩) ls.length lc) ∧ World.cell? W ⟨w.heap.size, 5, none⟩ = some (.slice to_ ts.length tc) ∧ World.cell? W ⟨w.heap.size + 1, 0, none⟩ = some (.int .i64 fr) ∧ World.cell? W ⟨w.heap.size + 1, 1, none⟩ = some (.int .i64 tt) ∧ World.cell? W ⟨w.heap.size + 1, 2, none⟩ = some (.string ln))) (first | exact hSd | (refine hstep _ _ ?_ (by assumption) <;> assumption)) (first
      | (go_at_call 60; refine (rspan_any ⟨nm, sp, st, so, sc, ss, some ⟨b, off, none⟩, lc, ls, to_, tc, ts⟩ SL.out _ (hof _ (by assumption)) HSP).mono ?_; rintro x w7 ⟨rfl, hg7⟩))
    all_goals
      rename_i hfin
      clear hSd hof
      obtain ⟨G9, f0, f1, f2, f3, f4, f5, l0, l1, l2⟩ := hfin
      clear hstep
      go_wp2_with fail
      go_quiet (fail)
      clear e2 e3
      go_wp2_with fail
      go_loop [6] (fun iv => ∃ j : Nat, j ≤ ln.size ∧ iv = .int .i64 j ∧ Hid (∀ i (h : i < ln.size), i < j → lapC ln[i].toNat = true)) (fun iv => ln.size - (intOf iv).toNat)
      case atStart => exact ⟨0, Nat.zero_le _, rfl, fun i _ h => absurd h (by omega)⟩
      case round =>
        obtain ⟨j, hj, rfl, hinv⟩ := hrel
        by_cases hjl : j < ln.size
        · have hu : (ln[j].toNat : Int) ≤ 255 := by have := ln[j].toNat_lt; omega
          by_cases hc1 : (ln[j].toNat : Int) < 32
          · have HV : Hid (E = 8) := R8.out (by
              refine lapName_bad hjl ?_
              unfold lapC; rw [decide_eq_false (by omega)]; rfl)
            go_wp2_with fail
            refine (out_yes _ _ _ (.inl hc1) _).mono ?_; rintro e w1 ⟨rfl, rfl⟩
            go_wp2_with fail
            go_ret
            exact ⟨ret_int HV.out.symm, grown_trans G9 (grown_drewN _ _ _)⟩
          · by_cases hc2 : 126 < (ln[j].toNat : Int)
            · have HV : Hid (E = 8) := R8.out (by
                refine lapName_bad hjl ?_
                unfold lapC; rw [decide_eq_false (p := ln[j].toNat ≤ 126) (by omega)]; simp)
              go_wp2_with fail
              refine (out_yes _ _ _ (.inr hc2) _).mono ?_; rintro e w1 ⟨rfl, rfl⟩
              go_wp2_with fail
              go_ret
              exact ⟨ret_int HV.out.symm, grown_trans G9 (grown_drewN _ _ _)⟩
            · have HI : Hid (∀ i (h : i < ln.size), i < j + 1 → lapC ln[i].toNat = true) := fun i hi hlt => by
                by_cases e : i = j
                · subst e; unfold lapC; rw [decide_eq_true (by omega), decide_eq_true (by omega)]; rfl
                · exact hinv.out i hi (by omega)
              go_wp2_with fail
              refine (out_no _ _ _ (by omega) (by omega) _).mono ?_; rintro e w1 ⟨rfl, rfl⟩
              go_wp2_with fail
              go_round
              case rel => exact ⟨j + 1, by omega, by go_num, HI⟩
              case measure => simp [intOf]; omega
        · by_cases hc3 : 60 < (ln.size : Int)
          · have HV : Hid (E = 8) := R8.out (lapName_long (by omega))
            go_wp2_with fail
            go_ret
            exact ⟨ret_int HV.out.symm, grown_trans G9 (grown_drewN _ _ _)⟩
          · have HV : Hid (E = 0) := R0.out (lapName_good (by omega) (fun i hi => hinv.out i hi (by omega)))
            go_wp2_with fail
            go_ret
            exact ⟨ret_int HV.out.symm, grown_trans G9 (grown_drewN _ _ _)⟩
  · obtain ⟨i, hki⟩ : ∃ i, k = i + 1 := ⟨k - 1, by omega⟩
    have hi : i < ls.length := by omega
    have q0 := (HL.out.cells _ rfl i hi).2.1
    have hpk : prevE ls k = some ls[i].to_ := by rw [hki, prevE_succ, List.getElem?_eq_getElem hi]; rfl
    generalize ls[i].to_ = pv at *
    simp only at q0
    have e2 : decide (0 < (k : Int)) = true := by simp; omega
    have e3 : 0 < k := by omega
    have ea : ((k : Int) - 1).toNat = i := by omega
    have pa : (0 : Int) ≤ (k : Int) - 1 := by omega
    have pb : (1 : Int) ≤ (k : Int) := by omega
    have ba : (k : Int) - 1 < (ls.length : Int) := by omega
    have ra : IntKind.i64.wrap ((k : Int) - 1) = (k : Int) - 1 := by rw [IntKind.wrap_i64]; omega
    have HKI := Lib.hid hki
    clear hki hk0
    rw [hpk] at R8 R0 RE
    by_cases a4 : fr < pv
    · have HE := RE hna a4
      have g4 : decide (fr < pv) = true := by simpa using a4
      clear R9 RE R8 R0 hna hpk
      go_enter Try.func123, Try.ntmps123
      have hS0 : (World.grownBy w ((w.alloc (.cells #[.string nm, .int .i64 sp, .int .i64 st, .slice so ss.length sc, .slice (some ⟨b, off, none⟩) ls.length lc, .slice to_ ts.length tc] 26)).alloc (.cells #[.int .i64 fr, .int .i64 tt, .string ln] 77)) none ∧ World.cell? ((w.alloc (.cells #[.string nm, .int .i64 sp, .int .i64 st, .slice so ss.length sc, .slice (some ⟨b, off, none⟩) ls.length lc, .slice to_ ts.length tc] 26)).alloc (.cells #[.int .i64 fr, .int .i64 tt, .string ln] 77)) ⟨w.heap.size, 0, none⟩ = some (.string nm) ∧ World.cell? ((w.alloc (.cells #[.string nm, .int .i64 sp, .int .i64 st, .slice so ss.length sc, .slice (some ⟨b, off, none⟩) ls.length lc, .slice to_ ts.length tc] 26)).alloc (.cells #[.int .i64 fr, .int .i64 tt, .string ln] 77)) ⟨w.heap.size, 1, none⟩ = some (.int .i64 sp) ∧ World.cell? ((w.alloc (.cells #[.string nm, .int .i64 sp, .int .i64 st, .slice so ss.length sc, .slice (some ⟨b, off, none⟩) ls.length lc, .slice to_ ts.length tc] 26)).alloc (.cells #[.int .i64 fr, .int .i64 tt, .string ln] 77)) ⟨w.heap.size, 2, none⟩ = some (.int .i64 st) ∧ World.cell? ((w.alloc (.cells #[.string nm, .int .i64 sp, .int .i64 st, .slice so ss.length sc, .slice (some ⟨b, off, none⟩) ls.length lc, .slice to_ ts.length tc] 26)).alloc (.cells #[.int .i64 fr, .int .i64 tt, .string ln] 77)) ⟨w.heap.size, 3, none⟩ = some (.slice so ss.length sc) ∧ World.cell? ((w.alloc (.cells #[.string nm, .int .i64 sp, .int .i64 st, .slice so ss.length sc, .slice (some ⟨b, off, none⟩) ls.length lc, .slice to_ ts.length tc] 26)).alloc (.cells #[.int .i64 fr, .int .i64 tt, .string ln] 77)) ⟨w.heap.size, 4, none⟩ = some (.slice (some ⟨b, off, none⟩) ls.length lc) ∧ World.cell? ((w.alloc (.cells #[.string nm, .int .i64 sp, .int .i64 st, .slice so ss.length sc, .slice (some ⟨b, off, none⟩) ls.length lc, .slice to_ ts.length tc] 26)).alloc (.cells #[.int .i64 fr, .int .i64 tt, .string ln] 77)) ⟨w.heap.size, 5, none⟩ = some (.slice to_ ts.length tc) ∧ World.cell? ((w.alloc (.cells #[.string nm, .int .i64 sp, .int .i64 st, .slice so ss.length sc, .slice (some ⟨b, off, none⟩) ls.length lc, .slice to_ ts.length tc] 26)).alloc (.cells #[.int .i64 fr, .int .i64 tt, .string ln] 77)) ⟨w.heap.size + 1, 0, none⟩ = some (.int .i64 fr) ∧ World.cell? ((w.alloc (.cells #[.string nm, .int .i64 sp, .int .i64 st, .slice so ss.length sc, .slice (some ⟨b, off, none⟩) ls.length lc, .slice to_ ts.length tc] 26)).alloc (.cells #[.int .i64 fr, .int .i64 tt, .string ln] 77)) ⟨w.heap.size + 1, 1, none⟩ = some (.int .i64 tt) ∧ World.cell? ((w.alloc (.cells #[.string nm, .int .i64 sp, .int .i64 st, .slice so ss.length sc, .slice (some ⟨b, off, none⟩) ls.length lc, .slice to_ ts.length tc] 26)).alloc (.cells #[.int .i64 fr, .int .i64 tt, .string ln] 77)) ⟨w.heap.size + 1, 2, none⟩ = some (.string ln)) := ⟨grown_trans (World.grownBy_alloc _ _ _) (World.grownBy_alloc _ _ _), by simp, by simp, by simp, by simp, by simp, by simp, by simp, by simp, by simp⟩
      have hstep : ∀ W W' : World, (World.grownBy w W none ∧ World.cell? W ⟨w.heap.size, 0, none⟩ = some (.string nm) ∧ World.cell? W ⟨w.heap.size, 1, none⟩ = some (.int .i64 sp) ∧ World.cell? W ⟨w.heap.size, 2, none⟩ = some (.int .i64 st) ∧ World.cell? W ⟨w.heap.size, 3, none⟩ = some (.slice so ss.length sc) ∧ World.cell? W ⟨w.heap.size, 4, none⟩ = some (.slice (some ⟨b, off, none⟩) ls.length lc) ∧ World.cell? W ⟨w.heap.size, 5, none⟩ = some (.slice to_ ts.length tc) ∧ World.cell? W ⟨w.heap.size + 1, 0, none⟩ = some (.int .i64 fr) ∧ World.cell? W ⟨w.heap.size + 1, 1, none⟩ = some (.int .i64 tt) ∧ World.cell? W ⟨w.heap.size + 1, 2, none⟩ = some (.string ln)) → W.grownBy W' none → (World.grownBy w W' none ∧ World.cell? W' ⟨w.heap.size, 0, none⟩ = some (.string nm) ∧ World.cell? W' ⟨w.heap.size, 1, none⟩ = some (.int .i64 sp) ∧ World.cell? W' ⟨w.heap.size, 2, none⟩ = some (.int .i64 st) ∧ World.cell? W' ⟨w.heap.size, 3, none⟩ = some (.slice so ss.length sc) ∧ World.cell? W' ⟨w.heap.size, 4, none⟩ = some (.slice (some ⟨b, off, none⟩) ls.length lc) ∧ World.cell? W' ⟨w.heap.size, 5, none⟩ = some (.slice to_ ts.length tc) ∧ World.cell? W' ⟨w.heap.size + 1, 0, none⟩ = some (.int .i64 fr) ∧ World.cell? W' ⟨w.heap.size + 1, 1, none⟩ = some (.int .i64 tt) ∧ World.cell? W' ⟨w.heap.size + 1, 2, none⟩ = some (.string ln)) := fun W W' h g => ⟨grown_trans h.1 g, grown_cell g h.2.1, grown_cell g h.2.2.1, grown_cell g h.2.2.2.1, grown_cell g h.2.2.2.2.1, grown_cell g h.2.2.2.2.2.1, grown_cell g h.2.2.2.2.2.2.1, grown_cell g h.2.2.2.2.2.2.2.1, grown_cell g h.2.2.2.2.2.2.2.2.1, grown_cell g h.2.2.2.2.2.2.2.2.2⟩
      have hSd : (World.grownBy w ((w.alloc (.cells #[.string nm, .int .i64 sp, .int .i64 st, .slice so ss.length sc, .slice (some ⟨b, off, none⟩) ls.length lc, .slice to_ ts.length tc] 26)).alloc (.cells #[.int .i64 fr, .int .i64 tt, .string ln] 77)).drew none ∧ World.cell? ((w.alloc (.cells #[.string nm, .int .i64 sp, .int .i64 st, .slice so ss.length sc, .slice (some ⟨b, off, none⟩) ls.length lc, .slice to_ ts.length tc] 26)).alloc (.cells #[.int .i64 fr, .int .i64 tt, .string ln] 77)).drew ⟨w.heap.size, 0, none⟩ = some (.string nm) ∧ World.cell? ((w.alloc (.cells #[.string nm, .int .i64 sp, .int .i64 st, .slice so ss.length sc, .slice (some ⟨b, off, none⟩) ls.length lc, .slice to_ ts.length tc] 26)).alloc (.cells #[.int .i64 fr, .int .i64 tt, .string ln] 77)).drew ⟨w.heap.size, 1, none⟩ = some (.int .i64 sp) ∧ World.cell? ((w.alloc (.cells #[.string nm, .int .i64 sp, .int .i64 st, .slice so ss.length sc, .slice (some ⟨b, off, none⟩) ls.length lc, .slice to_ ts.length tc] 26)).alloc (.cells #[.int .i64 fr, .int .i64 tt, .string ln] 77)).drew ⟨w.heap.size, 2, none⟩ = some (.int .i64 st) ∧ World.cell? ((w.alloc (.cells #[.string nm, .int .i64 sp, .int .i64 st, .slice so ss.length sc, .slice (some ⟨b, off, none⟩) ls.length lc, .slice to_ ts.length tc] 26)).alloc (.cells #[.int .i64 fr, .int .i64 tt, .string ln] 77)).drew ⟨w.heap.size, 3, none⟩ = some (.slice so ss.length sc) ∧ World.cell? ((w.alloc (.cells #[.string nm, .int .i64 sp, .int .i64 st, .slice so ss.length sc, .slice (some ⟨b, off, none⟩) ls.length lc, .slice to_ ts.length tc] 26)).alloc (.cells #[.int .i64 fr, .int .i64 tt, .string ln] 77)).drew ⟨w.heap.size, 4, none⟩ = some (.slice (some ⟨b, off, none⟩) ls.length lc) ∧ World.cell? ((w.alloc (.cells #[.string nm, .int .i64 sp, .int .i64 st, .slice so ss.length sc, .slice (some ⟨b, off, none⟩) ls.length lc, .slice to_ ts.length tc] 26)).alloc (.cells #[.int .i64 fr, .int .i64 tt, .string ln] 77)).drew ⟨w.heap.size, 5, none⟩ = some (.slice to_ ts.length tc) ∧ World.cell? ((w.alloc (.cells #[.string nm, .int .i64 sp, .int .i64 st, .slice so ss.length sc, .slice (some ⟨b, off, none⟩) ls.length lc, .slice to_ ts.length tc] 26)).alloc (.cells #[.int .i64 fr, .int .i64 tt, .string ln] 77)).drew ⟨w.heap.size + 1, 0, none⟩ = some (.int .i64 fr) ∧ World.cell? ((w.alloc (.cells #[.string nm, .int .i64 sp, .int .i64 st, .slice so ss.length sc, .slice (some ⟨b, off, none⟩) ls.length lc, .slice to_ ts.length tc] 26)).alloc (.cells #[.int .i64 fr, .int .i64 tt, .string ln] 77)).drew ⟨w.heap.size + 1, 1, none⟩ = some (.int .i64 tt) ∧ World.cell? ((w.alloc (.cells #[.string nm, .int .i64 sp, .int .i64 st, .slice so ss.length sc, .slice (some ⟨b, off, none⟩) ls.length lc, .slice to_ ts.length tc] 26)).alloc (.cells #[.int .i64 fr, .int .i64 tt, .string ln] 77)).drew ⟨w.heap.size + 1, 2, none⟩ = some (.string ln)) := hstep _ _ hS0 (grown_drewN _ _ 1)
      have hof : ∀ W : World, (World.grownBy w W none ∧ World.cell? W ⟨w.heap.size, 0, none⟩ = some (.string nm) ∧ World.cell? W ⟨w.heap.size, 1, none⟩ = some (.int .i64 sp) ∧ World.cell? W ⟨w.heap.size, 2, none⟩ = some (.int .i64 st) ∧ World.cell? W ⟨w.heap.size, 3, none⟩ = some (.slice so ss.length sc) ∧ World.cell? W ⟨w.heap.size, 4, none⟩ = some (.slice (some ⟨b, off, none⟩) ls.length lc) ∧ World.cell? W ⟨w.heap.size, 5, none⟩ = some (.slice to_ ts.length tc) ∧ World.cell? W ⟨w.heap.size + 1, 0, none⟩ = some (.int .i64 fr) ∧ World.cell? W ⟨w.heap.size + 1, 1, none⟩ = some (.int .i64 tt) ∧ World.cell? W ⟨w.heap.size + 1, 2, none⟩ = some (.string ln)) → SmpsAt W so ss := fun W h => HS.out.grown h.1
      clear hS0
      go_wp2_with fail
      go_region_held3 (fun W => (World.grownBy w W none ∧ World.cell? W ⟨w.heap.size, 0, none⟩ = some (.string nm) ∧ World.cell? W ⟨w.heap.size, 1, none⟩ = some (.int .i64 sp) ∧ World.cell? W ⟨w.heap.size, 2, none⟩ = some (.int .i64 st) ∧ World.cell? W ⟨w.heap.size, 3, none⟩ = some (.slice so ss.length sc) ∧ World.cell? W ⟨w.heap.size, 4, none⟩ = some (.slice (some ⟨b, off, none⟩) ls.length lc) ∧ World.cell? W ⟨w.heap.size, 5, none⟩ = some (.slice to_ ts.length tc) ∧ World.cell? W ⟨w.heap.size + 1, 0, none⟩ = some (.int .i64 fr) ∧ World.cell? W ⟨w.heap.size + 1, 1, none⟩ = some (.int .i64 tt) ∧ World.cell? W ⟨w.heap.size + 1, 2, none⟩ = some (.string ln))) (first | exact hSd | (refine hstep _ _ ?_ (by assumption) <;> assumption)) (first
        | (go_at_call 60; refine (rspan_any ⟨nm, sp, st, so, sc, ss, some ⟨b, off, none⟩, lc, ls, to_, tc, ts⟩ SL.out _ (hof _ (by assumption)) HSP).mono ?_; rintro x w7 ⟨rfl, hg7⟩))
      all_goals
        rename_i hfin
        clear hSd hof
        obtain ⟨G9, f0, f1, f2, f3, f4, f5, l0, l1, l2⟩ := hfin
        have q1 := grown_cell G9 q0
        clear hstep
        go_wp2_with fail
        go_quiet (fail)
        go_wp2_with fail
        go_ret
        exact ⟨ret_int HE.out.symm, grown_trans G9 (grown_drewN _ _ _)⟩
    · have g4 : decide (fr < pv) = false := by simpa using a4
      replace R8 := R8 hna a4
      replace R0 := R0 hna a4
      clear R9 RE hna hpk
      go_enter Try.func123, Try.ntmps123
      have hS0 : (World.grownBy w ((w.alloc (.cells #[.string nm, .int .i64 sp, .int .i64 st, .slice so ss.length sc, .slice (some ⟨b, off, none⟩) ls.length lc, .slice to_ ts.length tc] 26)).alloc (.cells #[.int .i64 fr, .int .i64 tt, .string ln] 77)) none ∧ World.cell? ((w.alloc (.cells #[.string nm, .int .i64 sp, .int .i64 st, .slice so ss.length sc, .slice (some ⟨b, off, none⟩) ls.length lc, .slice to_ ts.length tc] 26)).alloc (.cells #[.int .i64 fr, .int .i64 tt, .string ln] 77)) ⟨w.heap.size, 0, none⟩ = some (.string nm) ∧ World.cell? ((w.alloc (.cells #[.string nm, .int .i64 sp, .int .i64 st, .slice so ss.length sc, .slice (some ⟨b, off, none⟩) ls.length lc, .slice to_ ts.length tc] 26)).alloc (.cells #[.int .i64 fr, .int .i64 tt, .string ln] 77)) ⟨w.heap.size, 1, none⟩ = some (.int .i64 sp) ∧ World.cell? ((w.alloc (.cells #[.string nm, .int .i64 sp, .int .i64 st, .slice so ss.length sc, .slice (some ⟨b, off, none⟩) ls.length lc, .slice to_ ts.length tc] 26)).alloc (.cells #[.int .i64 fr, .int .i64 tt, .string ln] 77)) ⟨w.heap.size, 2, none⟩ = some (.int .i64 st) ∧ World.cell? ((w.alloc (.cells #[.string nm, .int .i64 sp, .int .i64 st, .slice so ss.length sc, .slice (some ⟨b, off, none⟩) ls.length lc, .slice to_ ts.length tc] 26)).alloc (.cells #[.int .i64 fr, .int .i64 tt, .string ln] 77)) ⟨w.heap.size, 3, none⟩ = some (.slice so ss.length sc) ∧ World.cell? ((w.alloc (.cells #[.string nm, .int .i64 sp, .int .i64 st, .slice so ss.length sc, .slice (some ⟨b, off, none⟩) ls.length lc, .slice to_ ts.length tc] 26)).alloc (.cells #[.int .i64 fr, .int .i64 tt, .string ln] 77)) ⟨w.heap.size, 4, none⟩ = some (.slice (some ⟨b, off, none⟩) ls.length lc) ∧ World.cell? ((w.alloc (.cells #[.string nm, .int .i64 sp, .int .i64 st, .slice so ss.length sc, .slice (some ⟨b, off, none⟩) ls.length lc, .slice to_ ts.length tc] 26)).alloc (.cells #[.int .i64 fr, .int .i64 tt, .string ln] 77)) ⟨w.heap.size, 5, none⟩ = some (.slice to_ ts.length tc) ∧ World.cell? ((w.alloc (.cells #[.string nm, .int .i64 sp, .int .i64 st, .slice so ss.length sc, .slice (some ⟨b, off, none⟩) ls.length lc, .slice to_ ts.length tc] 26)).alloc (.cells #[.int .i64 fr, .int .i64 tt, .string ln] 77)) ⟨w.heap.size + 1, 0, none⟩ = some (.int .i64 fr) ∧ World.cell? ((w.alloc (.cells #[.string nm, .int .i64 sp, .int .i64 st, .slice so ss.length sc, .slice (some ⟨b, off, none⟩) ls.length lc, .slice to_ ts.length tc] 26)).alloc (.cells #[.int .i64 fr, .int .i64 tt, .string ln] 77)) ⟨w.heap.size + 1, 1, none⟩ = some (.int .i64 tt) ∧ World.cell? ((w.alloc (.cells #[.string nm, .int .i64 sp, .int .i64 st, .slice so ss.length sc, .slice (some ⟨b, off, none⟩) ls.length lc, .slice to_ ts.length tc] 26)).alloc (.cells #[.int .i64 fr, .int .i64 tt, .string ln] 77)) ⟨w.heap.size + 1, 2, none⟩ = some (.string ln)) := ⟨grown_trans (World.grownBy_alloc _ _ _) (World.grownBy_alloc _ _ _), by simp, by simp, by simp, by simp, by simp, by simp, by simp, by simp, by simp⟩
      have hstep : ∀ W W' : World, (World.grownBy w W none ∧ World.cell? W ⟨w.heap.size, 0, none⟩ = some (.string nm) ∧ World.cell? W ⟨w.heap.size, 1, none⟩ = some (.int .i64 sp) ∧ World.cell? W ⟨w.heap.size, 2, none⟩ = some (.int .i64 st) ∧ World.cell? W ⟨w.heap.size, 3, none⟩ = some (.slice so ss.length sc) ∧ World.cell? W ⟨w.heap.size, 4, none⟩ = some (.slice (some ⟨b, off, none⟩) ls.length lc) ∧ World.cell? W ⟨w.heap.size, 5, none⟩ = some (.slice to_ ts.length tc) ∧ World.cell? W ⟨w.heap.size + 1, 0, none⟩ = some (.int .i64 fr) ∧ World.cell? W ⟨w.heap.size + 1, 1, none⟩ = some (.int .i64 tt) ∧ World.cell? W ⟨w.heap.size + 1, 2, none⟩ = some (.string ln)) → W.grownBy W' none → (World.grownBy w W' none ∧ World.cell? W' ⟨w.heap.size, 0, none⟩ = some (.string nm) ∧ World.cell? W' ⟨w.heap.size, 1, none⟩ = some (.int .i64 sp) ∧ World.cell? W' ⟨w.heap.size, 2, none⟩ = some (.int .i64 st) ∧ World.cell? W' ⟨w.heap.size, 3, none⟩ = some (.slice so ss.length sc) ∧ World.cell? W' ⟨w.heap.size, 4, none⟩ = some (.slice (some ⟨b, off, none⟩) ls.length lc) ∧ World.cell? W' ⟨w.heap.size, 5, none⟩ = some (.slice to_ ts.length tc) ∧ World.cell? W' ⟨w.heap.size + 1, 0, none⟩ = some (.int .i64 fr) ∧ World.cell? W' ⟨w.heap.size + 1, 1, none⟩ = some (.int .i64 tt) ∧ World.cell? W' ⟨w.heap.size + 1, 2, none⟩ = some (.string ln)) := fun W W' h g => ⟨grown_trans h.1 g, grown_cell g h.2.1, grown_cell g h.2.2.1, grown_cell g h.2.2.2.1, grown_cell g h.2.2.2.2.1, grown_cell g h.2.2.2.2.2.1, grown_cell g h.2.2.2.2.2.2.1, grown_cell g h.2.2.2.2.2.2.2.1, grown_cell g h.2.2.2.2.2.2.2.2.1, grown_cell g h.2.2.2.2.2.2.2.2.2⟩
      have hSd : (World.grownBy w ((w.alloc (.cells #[.string nm, .int .i64 sp, .int .i64 st, .slice so ss.length sc, .slice (some ⟨b, off, none⟩) ls.length lc, .slice to_ ts.length tc] 26)).alloc (.cells #[.int .i64 fr, .int .i64 tt, .string ln] 77)).drew none ∧ World.cell? ((w.alloc (.cells #[.string nm, .int .i64 sp, .int .i64 st, .slice so ss.length sc, .slice (some ⟨b, off, none⟩) ls.length lc, .slice to_ ts.length tc] 26)).alloc (.cells #[.int .i64 fr, .int .i64 tt, .string ln] 77)).drew ⟨w.heap.size, 0, none⟩ = some (.string nm) ∧ World.cell? ((w.alloc (.cells #[.string nm, .int .i64 sp, .int .i64 st, .slice so ss.length sc, .slice (some ⟨b, off, none⟩) ls.length lc, .slice to_ ts.length tc] 26)).alloc (.cells #[.int .i64 fr, .int .i64 tt, .string ln] 77)).drew ⟨w.heap.size, 1, none⟩ = some (.int .i64 sp) ∧ World.cell? ((w.alloc (.cells #[.string nm, .int .i64 sp, .int .i64 st, .slice so ss.length sc, .slice (some ⟨b, off, none⟩) ls.length lc, .slice to_ ts.length tc] 26)).alloc (.cells #[.int .i64 fr, .int .i64 tt, .string ln] 77)).drew ⟨w.heap.size, 2, none⟩ = some (.int .i64 st) ∧ World.cell? ((w.alloc (.cells #[.string nm, .int .i64 sp, .int .i64 st, .slice so ss.length sc, .slice (some ⟨b, off, none⟩) ls.length lc, .slice to_ ts.length tc] 26)).alloc (.cells #[.int .i64 fr, .int .i64 tt, .string ln] 77)).drew ⟨w.heap.size, 3, none⟩ = some (.slice so ss.length sc) ∧ World.cell? ((w.alloc (.cells #[.string nm, .int .i64 sp, .int .i64 st, .slice so ss.length sc, .slice (some ⟨b, off, none⟩) ls.length lc, .slice to_ ts.length tc] 26)).alloc (.cells #[.int .i64 fr, .int .i64 tt, .string ln] 77)).drew ⟨w.heap.size, 4, none⟩ = some (.slice (some ⟨b, off, none⟩) ls.length lc) ∧ World.cell? ((w.alloc (.cells #[.string nm, .int .i64 sp, .int .i64 st, .slice so ss.length sc, .slice (some ⟨b, off, none⟩) ls.length lc, .slice to_ ts.length tc] 26)).alloc (.cells #[.int .i64 fr, .int .i64 tt, .string ln] 77)).drew ⟨w.heap.size, 5, none⟩ = some (.slice to_ ts.length tc) ∧ World.cell? ((w.alloc (.cells #[.string nm, .int .i64 sp, .int .i64 st, .slice so ss.length sc, .slice (some ⟨b, off, none⟩) ls.length lc, .slice to_ ts.length tc] 26)).alloc (.cells #[.int .i64 fr, .int .i64 tt, .string ln] 77)).drew ⟨w.heap.size + 1, 0, none⟩ = some (.int .i64 fr) ∧ World.cell? ((w.alloc (.cells #[.string nm, .int .i64 sp, .int .i64 st, .slice so ss.length sc, .slice (some ⟨b, off, none⟩) ls.length lc, .slice to_ ts.length tc] 26)).alloc (.cells #[.int .i64 fr, .int .i64 tt, .string ln] 77)).drew ⟨w.heap.size + 1, 1, none⟩ = some (.int .i64 tt) ∧ World.cell? ((w.alloc (.cells #[.string nm, .int .i64 sp, .int .i64 st, .slice so ss.length sc, .slice (some ⟨b, off, none⟩) ls.length lc, .slice to_ ts.length tc] 26)).alloc (.cells #[.int .i64 fr, .int .i64 tt, .string ln] 77)).drew ⟨w.heap.size + 1, 2, none⟩ = some (.string ln)) := hstep _ _ hS0 (grown_drewN _ _ 1)
      have hof : ∀ W : World, (World.grownBy w W none ∧ World.cell? W ⟨w.heap.size, 0, none⟩ = some (.string nm) ∧ World.cell? W ⟨w.heap.size, 1, none⟩ = some (.int .i64 sp) ∧ World.cell? W ⟨w.heap.size, 2, none⟩ = some (.int .i64 st) ∧ World.cell? W ⟨w.heap.size, 3, none⟩ = some (.slice so ss.length sc) ∧ World.cell? W ⟨w.heap.size, 4, none⟩ = some (.slice (some ⟨b, off, none⟩) ls.length lc) ∧ World.cell? W ⟨w.heap.size, 5, none⟩ = some (.slice to_ ts.length tc) ∧ World.cell? W ⟨w.heap.size + 1, 0, none⟩ = some (.int .i64 fr) ∧ World.cell? W ⟨w.heap.size + 1, 1, none⟩ = some (.int .i64 tt) ∧ World.cell? W ⟨w.heap.size + 1, 2, none⟩ = some (.string ln)) → SmpsAt W so ss := fun W h => HS.out.grown h.1
      clear hS0
      go_wp2_with fail
      go_region_held3 (fun W => (World.grownBy w W none ∧ World.cell? W ⟨w.heap.size, 0, none⟩ = some (.string nm) ∧ World.cell? W ⟨w.heap.size, 1, none⟩ = some (.int .i64 sp) ∧ World.cell? W ⟨w.heap.size, 2, none⟩ = some (.int .i64 st) ∧ World.cell? W ⟨w.heap.size, 3, none⟩ = some (.slice so ss.length sc) ∧ World.cell? W ⟨w.heap.size, 4, none⟩ = some (.slice (some ⟨b, off, none⟩) ls.length lc) ∧ World.cell? W ⟨w.heap.size, 5, none⟩ = some (.slice to_ ts.length tc) ∧ World.cell? W ⟨w.heap.size + 1, 0, none⟩ = some (.int .i64 fr) ∧ World.cell? W ⟨w.heap.size + 1, 1, none⟩ = some (.int .i64 tt) ∧ World.cell? W ⟨w.heap.size + 1, 2, none⟩ = some (.string ln))) (first | exact hSd | (refine hstep _ _ ?_ (by assumption) <;> assumption)) (first
        | (go_at_call 60; refine (rspan_any ⟨nm, sp, st, so, sc, ss, some ⟨b, off, none⟩, lc, ls, to_, tc, ts⟩ SL.out _ (hof _ (by assumption)) HSP).mono ?_; rintro x w7 ⟨rfl, hg7⟩))
      all_goals
        rename_i hfin
        clear hSd hof
        obtain ⟨G9, f0, f1, f2, f3, f4, f5, l0, l1, l2⟩ := hfin
        have q1 := grown_cell G9 q0
        clear hstep
        go_wp2_with fail
        go_quiet (fail)
        clear e2 e3 ea pa pb ba ra q0 q1
        go_wp2_with fail
        go_loop [6] (fun iv => ∃ j : Nat, j ≤ ln.size ∧ iv = .int .i64 j ∧ Hid (∀ i (h : i < ln.size), i < j → lapC ln[i].toNat = true)) (fun iv => ln.size - (intOf iv).toNat)
        case atStart => exact ⟨0, Nat.zero_le _, rfl, fun i _ h => absurd h (by omega)⟩
        case round =>
          obtain ⟨j, hj, rfl, hinv⟩ := hrel
          by_cases hjl : j < ln.size
          · have hu : (ln[j].toNat : Int) ≤ 255 := by have := ln[j].toNat_lt; omega
            by_cases hc1 : (ln[j].toNat : Int) < 32
            · have HV : Hid (E = 8) := R8.out (by
                refine lapName_bad hjl ?_
                unfold lapC; rw [decide_eq_false (by omega)]; rfl)
              go_wp2_with fail
              refine (out_yes _ _ _ (.inl hc1) _).mono ?_; rintro e w1 ⟨rfl, rfl⟩
              go_wp2_with fail
              go_ret
              exact ⟨ret_int HV.out.symm, grown_trans G9 (grown_drewN _ _ _)⟩
            · by_cases hc2 : 126 < (ln[j].toNat : Int)
              · have HV : Hid (E = 8) := R8.out (by
                  refine lapName_bad hjl ?_
                  unfold lapC; rw [decide_eq_false (p := ln[j].toNat ≤ 126) (by omega)]; simp)
                go_wp2_with fail
                refine (out_yes _ _ _ (.inr hc2) _).mono ?_; rintro e w1 ⟨rfl, rfl⟩
                go_wp2_with fail
                go_ret
                exact ⟨ret_int HV.out.symm, grown_trans G9 (grown_drewN _ _ _)⟩
              · have HI : Hid (∀ i (h : i < ln.size), i < j + 1 → lapC ln[i].toNat = true) := fun i hi hlt => by
                  by_cases e : i = j
                  · subst e; unfold lapC; rw [decide_eq_true (by omega), decide_eq_true (by omega)]; rfl
                  · exact hinv.out i hi (by omega)
                go_wp2_with fail
                refine (out_no _ _ _ (by omega) (by omega) _).mono ?_; rintro e w1 ⟨rfl, rfl⟩
                go_wp2_with fail
                go_round
                case rel => exact ⟨j + 1, by omega, by go_num, HI⟩
                case measure => simp [intOf]; omega
          · by_cases hc3 : 60 < (ln.size : Int)
            · have HV : Hid (E = 8) := R8.out (lapName_long (by omega))
              go_wp2_with fail
              go_ret
              exact ⟨ret_int HV.out.symm, grown_trans G9 (grown_drewN _ _ _)⟩
            · have HV : Hid (E = 0) := R0.out (lapName_good (by omega) (fun i hi => hinv.out i hi (by omega)))
              go_wp2_with fail
              go_ret
              exact ⟨ret_int HV.out.symm, grown_trans G9 (grown_drewN _ _ _)⟩

end Go.Proofs.Ytgkhhfojioepgaa
