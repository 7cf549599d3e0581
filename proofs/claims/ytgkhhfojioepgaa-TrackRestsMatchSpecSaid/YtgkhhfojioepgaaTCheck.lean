/- The contract of record.Check. -/
import Derived.Test.YtgkhhfojioepgaaTChk
namespace Go.Proofs.Ytgkhhfojioepgaa
open Go.RowKit
set_option linter.unusedSimpArgs false
set_option linter.unusedVariables false

theorem chkE_name {a : Act} (h : nameB a.name = false) : chkE a = 8 := by unfold chkE; rw [if_neg (by simp [h])]
theorem chkE_sport {a : Act} (h : nameB a.name = true) (h1 : a.sport < 1 ∨ 5 < a.sport) : chkE a = 7 := by unfold chkE; rw [if_pos h, if_neg (by omega)]
theorem chkE_start {a : Act} (h : nameB a.name = true) (h1 : 1 ≤ a.sport ∧ a.sport ≤ 5) (h2 : a.start < 0 ∨ 86399999999 < a.start) : chkE a = 9 := by unfold chkE; rw [if_pos h, if_pos h1, if_neg (by omega)]
theorem chkE_size {a : Act} (h : nameB a.name = true) (h1 : 1 ≤ a.sport ∧ a.sport ≤ 5) (h2 : 0 ≤ a.start ∧ a.start ≤ 86399999999) (h3 : 20000 < (a.ss.length : Int) ∨ 200 < (a.ls.length : Int) ∨ 20 < (a.ts.length : Int)) : chkE a = 3 := by unfold chkE; rw [if_pos h, if_pos h1, if_pos h2, if_neg (by omega)]
theorem chkE_rest {a : Act} (h : nameB a.name = true) (h1 : 1 ≤ a.sport ∧ a.sport ≤ 5) (h2 : 0 ≤ a.start ∧ a.start ≤ 86399999999) (h3 : (a.ss.length : Int) ≤ 20000 ∧ (a.ls.length : Int) ≤ 200 ∧ (a.ts.length : Int) ≤ 20) :
    chkE a = if smpsE a.start none a.ss = 0 then (if lapsE (spanL a.ss) 0 a.ls = 0 then tagsE none a.ts else lapsE (spanL a.ss) 0 a.ls) else smpsE a.start none a.ss := by unfold chkE; rw [if_pos h, if_pos h1, if_pos h2, if_pos h3]

set_option maxRecDepth 100000 in
set_option maxHeartbeats 3200000 in
theorem check_any (a : Act) (w : World) (ha : ActAt w a) {E : Int} (hE : Hid (chkE a = E)) :
    Calls Try.prog 54 #[a.val] w fun e w' => e = .returned (.int .i64 E) ∧ w.grownBy w' none := by
  obtain ⟨nm, sp, st, so, sc, ss, lo, lc, ls, to_, tc, ts⟩ := a
  obtain ⟨ns, sl, ll, tl, hs, hl, ht⟩ := ha
  have CN := @chkE_name ⟨nm, sp, st, so, sc, ss, lo, lc, ls, to_, tc, ts⟩
  have CS := @chkE_sport ⟨nm, sp, st, so, sc, ss, lo, lc, ls, to_, tc, ts⟩
  have CT := @chkE_start ⟨nm, sp, st, so, sc, ss, lo, lc, ls, to_, tc, ts⟩
  have CZ := @chkE_size ⟨nm, sp, st, so, sc, ss, lo, lc, ls, to_, tc, ts⟩
  have CR := @chkE_rest ⟨nm, sp, st, so, sc, ss, lo, lc, ls, to_, tc, ts⟩
  rw [hE.out] at CN CS CT CZ CR
  simp only [Act.val] at *
  have NS := Lib.hid ns; have SL := Lib.hid sl; have LL := Lib.hid ll; have TL := Lib.hid tl; have HS := Lib.hid hs; have HL := Lib.hid hl; have HT := Lib.hid ht
  have TL := Lib.hid tl
  clear ns hs hl ht hE
  cases hn : nameB nm with
  | false =>
    have HV : Hid (E = 8) := CN hn
    have HN := Lib.hid hn
    clear CN CS CT CZ CR hn
    go_enter Try.func54, Try.ntmps54
    go_wp2_with fail
    refine (isName_is nm NS.out _ HN).mono ?_; rintro e w1 ⟨rfl, rfl⟩
    go_wp2_with fail
    go_ret
    exact ⟨ret_int HV.out.symm, World.grownBy_alloc _ _ _⟩
  | true =>
    have HN := Lib.hid hn
    by_cases a1 : sp < 1
    · have HV : Hid (E = 7) := CS hn (.inl a1)
      clear CN CS CT CZ CR hn
      go_enter Try.func54, Try.ntmps54
      go_wp2_with fail
      refine (isName_is nm NS.out _ HN).mono ?_; rintro e w1 ⟨rfl, rfl⟩
      go_wp2_with fail
      go_ret
      exact ⟨ret_int HV.out.symm, World.grownBy_alloc _ _ _⟩
    by_cases a2 : 5 < sp
    · have HV : Hid (E = 7) := CS hn (.inr a2)
      clear CN CS CT CZ CR hn
      go_enter Try.func54, Try.ntmps54
      go_wp2_with fail
      refine (isName_is nm NS.out _ HN).mono ?_; rintro e w1 ⟨rfl, rfl⟩
      go_wp2_with fail
      go_ret
      exact ⟨ret_int HV.out.symm, World.grownBy_alloc _ _ _⟩
    by_cases a3 : st < 0
    · have HV : Hid (E = 9) := CT hn ⟨by omega, by omega⟩ (.inl a3)
      clear CN CS CT CZ CR hn
      go_enter Try.func54, Try.ntmps54
      go_wp2_with fail
      refine (isName_is nm NS.out _ HN).mono ?_; rintro e w1 ⟨rfl, rfl⟩
      go_wp2_with fail
      go_ret
      exact ⟨ret_int HV.out.symm, World.grownBy_alloc _ _ _⟩
    by_cases a4 : 86399999999 < st
    · have HV : Hid (E = 9) := CT hn ⟨by omega, by omega⟩ (.inr a4)
      clear CN CS CT CZ CR hn
      go_enter Try.func54, Try.ntmps54
      go_wp2_with fail
      refine (isName_is nm NS.out _ HN).mono ?_; rintro e w1 ⟨rfl, rfl⟩
      go_wp2_with fail
      go_ret
      exact ⟨ret_int HV.out.symm, World.grownBy_alloc _ _ _⟩
    by_cases a5 : 20000 < (ss.length : Int)
    · have HV : Hid (E = 3) := CZ hn ⟨by omega, by omega⟩ ⟨by omega, by omega⟩ (.inl a5)
      clear CN CS CT CZ CR hn
      go_enter Try.func54, Try.ntmps54
      go_wp2_with fail
      refine (isName_is nm NS.out _ HN).mono ?_; rintro e w1 ⟨rfl, rfl⟩
      go_wp2_with fail
      go_ret
      exact ⟨ret_int HV.out.symm, World.grownBy_alloc _ _ _⟩
    by_cases a6 : 200 < (ls.length : Int)
    · have HV : Hid (E = 3) := CZ hn ⟨by omega, by omega⟩ ⟨by omega, by omega⟩ (.inr (.inl a6))
      clear CN CS CT CZ CR hn
      go_enter Try.func54, Try.ntmps54
      go_wp2_with fail
      refine (isName_is nm NS.out _ HN).mono ?_; rintro e w1 ⟨rfl, rfl⟩
      go_wp2_with fail
      go_ret
      exact ⟨ret_int HV.out.symm, World.grownBy_alloc _ _ _⟩
    by_cases a7 : 20 < (ts.length : Int)
    · have HV : Hid (E = 3) := CZ hn ⟨by omega, by omega⟩ ⟨by omega, by omega⟩ (.inr (.inr a7))
      clear CN CS CT CZ CR hn
      go_enter Try.func54, Try.ntmps54
      go_wp2_with fail
      refine (isName_is nm NS.out _ HN).mono ?_; rintro e w1 ⟨rfl, rfl⟩
      go_wp2_with fail
      go_ret
      exact ⟨ret_int HV.out.symm, World.grownBy_alloc _ _ _⟩
    have hr := CR hn ⟨by omega, by omega⟩ ⟨by omega, by omega⟩ ⟨by omega, by omega, by omega⟩
    clear CN CS CT CZ CR hn
    have s0 : 0 ≤ st := by omega
    have s1 : st ≤ 86399999999 := by omega
    obtain ⟨ES, hes⟩ : ∃ x, smpsE st none ss = x := ⟨_, rfl⟩
    rw [hes] at hr
    have HES := Lib.hid hes; clear hes
    by_cases d1 : ES = 0
    · obtain ⟨SPN, hsp⟩ : ∃ x, spanL ss = x := ⟨_, rfl⟩
      obtain ⟨EL, hel⟩ : ∃ x, lapsE SPN 0 ls = x := ⟨_, rfl⟩
      rw [if_pos d1, hsp, hel] at hr
      have HSP := Lib.hid hsp; have HEL := Lib.hid hel; clear hsp hel
      subst d1
      by_cases d2 : EL = 0
      · have HV : Hid (tagsE none ts = E) := by show _ = _; rw [hr, if_pos d2]
        subst d2
        clear hr
        go_enter Try.func54, Try.ntmps54
        go_wp2_with fail
        refine (isName_is nm NS.out _ HN).mono ?_; rintro e w1 ⟨rfl, rfl⟩
        go_wp2_with fail
        refine (chkSamples_any st s0 s1 so sc ss SL.out _ (HS.out.grown (World.grownBy_alloc _ _ _)) HES).mono ?_; rintro e w1 ⟨rfl, hg1⟩
        have G1 := grown_trans (World.grownBy_alloc w (.cells #[.string nm, .int .i64 sp, .int .i64 st, .slice so ss.length sc, .slice lo ls.length lc, .slice to_ ts.length tc] 26) none) hg1
        have b0 : w1.cell? ⟨w.heap.size, 0, none⟩ = some (.string nm) := grown_cell hg1 (by simp)
        have b1 : w1.cell? ⟨w.heap.size, 1, none⟩ = some (.int .i64 sp) := grown_cell hg1 (by simp)
        have b2 : w1.cell? ⟨w.heap.size, 2, none⟩ = some (.int .i64 st) := grown_cell hg1 (by simp)
        have b3 : w1.cell? ⟨w.heap.size, 3, none⟩ = some (.slice so ss.length sc) := grown_cell hg1 (by simp)
        have b4 : w1.cell? ⟨w.heap.size, 4, none⟩ = some (.slice lo ls.length lc) := grown_cell hg1 (by simp)
        have b5 : w1.cell? ⟨w.heap.size, 5, none⟩ = some (.slice to_ ts.length tc) := grown_cell hg1 (by simp)
        clear hg1
        have hS0 : (World.grownBy w w1 none ∧ World.cell? w1 ⟨w.heap.size, 0, none⟩ = some (.string nm) ∧ World.cell? w1 ⟨w.heap.size, 1, none⟩ = some (.int .i64 sp) ∧ World.cell? w1 ⟨w.heap.size, 2, none⟩ = some (.int .i64 st) ∧ World.cell? w1 ⟨w.heap.size, 3, none⟩ = some (.slice so ss.length sc) ∧ World.cell? w1 ⟨w.heap.size, 4, none⟩ = some (.slice lo ls.length lc) ∧ World.cell? w1 ⟨w.heap.size, 5, none⟩ = some (.slice to_ ts.length tc)) := ⟨G1, b0, b1, b2, b3, b4, b5⟩
        have hstep : ∀ W W' : World, (World.grownBy w W none ∧ World.cell? W ⟨w.heap.size, 0, none⟩ = some (.string nm) ∧ World.cell? W ⟨w.heap.size, 1, none⟩ = some (.int .i64 sp) ∧ World.cell? W ⟨w.heap.size, 2, none⟩ = some (.int .i64 st) ∧ World.cell? W ⟨w.heap.size, 3, none⟩ = some (.slice so ss.length sc) ∧ World.cell? W ⟨w.heap.size, 4, none⟩ = some (.slice lo ls.length lc) ∧ World.cell? W ⟨w.heap.size, 5, none⟩ = some (.slice to_ ts.length tc)) → W.grownBy W' none → (World.grownBy w W' none ∧ World.cell? W' ⟨w.heap.size, 0, none⟩ = some (.string nm) ∧ World.cell? W' ⟨w.heap.size, 1, none⟩ = some (.int .i64 sp) ∧ World.cell? W' ⟨w.heap.size, 2, none⟩ = some (.int .i64 st) ∧ World.cell? W' ⟨w.heap.size, 3, none⟩ = some (.slice so ss.length sc) ∧ World.cell? W' ⟨w.heap.size, 4, none⟩ = some (.slice lo ls.length lc) ∧ World.cell? W' ⟨w.heap.size, 5, none⟩ = some (.slice to_ ts.length tc)) := fun W W' h g => ⟨grown_trans h.1 g, grown_cell g h.2.1, grown_cell g h.2.2.1, grown_cell g h.2.2.2.1, grown_cell g h.2.2.2.2.1, grown_cell g h.2.2.2.2.2.1, grown_cell g h.2.2.2.2.2.2⟩
        have hSd : (World.grownBy w w1.drew none ∧ World.cell? w1.drew ⟨w.heap.size, 0, none⟩ = some (.string nm) ∧ World.cell? w1.drew ⟨w.heap.size, 1, none⟩ = some (.int .i64 sp) ∧ World.cell? w1.drew ⟨w.heap.size, 2, none⟩ = some (.int .i64 st) ∧ World.cell? w1.drew ⟨w.heap.size, 3, none⟩ = some (.slice so ss.length sc) ∧ World.cell? w1.drew ⟨w.heap.size, 4, none⟩ = some (.slice lo ls.length lc) ∧ World.cell? w1.drew ⟨w.heap.size, 5, none⟩ = some (.slice to_ ts.length tc)) := hstep _ _ hS0 (grown_drewN _ _ 1)
        have hof : ∀ W : World, (World.grownBy w W none ∧ World.cell? W ⟨w.heap.size, 0, none⟩ = some (.string nm) ∧ World.cell? W ⟨w.heap.size, 1, none⟩ = some (.int .i64 sp) ∧ World.cell? W ⟨w.heap.size, 2, none⟩ = some (.int .i64 st) ∧ World.cell? W ⟨w.heap.size, 3, none⟩ = some (.slice so ss.length sc) ∧ World.cell? W ⟨w.heap.size, 4, none⟩ = some (.slice lo ls.length lc) ∧ World.cell? W ⟨w.heap.size, 5, none⟩ = some (.slice to_ ts.length tc)) → SmpsAt W so ss ∧ LapsAt W lo ls := fun W h => ⟨HS.out.grown h.1, HL.out.grown h.1⟩
        clear hS0
        go_wp2_with fail
        clear G1 b0 b1 b2 b3 b4 b5
        go_region_held3 (fun W => (World.grownBy w W none ∧ World.cell? W ⟨w.heap.size, 0, none⟩ = some (.string nm) ∧ World.cell? W ⟨w.heap.size, 1, none⟩ = some (.int .i64 sp) ∧ World.cell? W ⟨w.heap.size, 2, none⟩ = some (.int .i64 st) ∧ World.cell? W ⟨w.heap.size, 3, none⟩ = some (.slice so ss.length sc) ∧ World.cell? W ⟨w.heap.size, 4, none⟩ = some (.slice lo ls.length lc) ∧ World.cell? W ⟨w.heap.size, 5, none⟩ = some (.slice to_ ts.length tc))) (first | exact hSd | (refine hstep _ _ ?_ (by assumption) <;> assumption)) (first
          | (go_at_call 56; refine (span_any ⟨nm, sp, st, so, sc, ss, lo, lc, ls, to_, tc, ts⟩ SL.out _ (hof _ (by assumption)).1 HSP).mono ?_; rintro x w7 ⟨rfl, hg7⟩)
          | (go_at_call 116; refine (chkLaps_any _ lo lc ls LL.out _ (hof _ (by assumption)).2 HEL).mono ?_; rintro x w8 ⟨rfl, hg8⟩))
        all_goals
          rename_i hfin
          clear hSd
          obtain ⟨G9, f0, f1, f2, f3, f4, f5⟩ := hfin
          have HT9 := Lib.hid (HT.out.grown G9)
          clear hstep hof
          go_wp2_with fail
          refine (chkTags_any to_ tc ts TL.out _ HT9.out HV).mono ?_; rintro e w9 ⟨rfl, rfl⟩
          go_wp2_with fail
          go_ret
          exact ⟨rfl, G9⟩
      · have HV : Hid (E = EL) := by show _ = _; rw [hr, if_neg d2]
        have hne : (EL != 0) = true := by simpa using d2
        clear hr d2
        go_enter Try.func54, Try.ntmps54
        go_wp2_with fail
        refine (isName_is nm NS.out _ HN).mono ?_; rintro e w1 ⟨rfl, rfl⟩
        go_wp2_with fail
        refine (chkSamples_any st s0 s1 so sc ss SL.out _ (HS.out.grown (World.grownBy_alloc _ _ _)) HES).mono ?_; rintro e w1 ⟨rfl, hg1⟩
        have G1 := grown_trans (World.grownBy_alloc w (.cells #[.string nm, .int .i64 sp, .int .i64 st, .slice so ss.length sc, .slice lo ls.length lc, .slice to_ ts.length tc] 26) none) hg1
        have b0 : w1.cell? ⟨w.heap.size, 0, none⟩ = some (.string nm) := grown_cell hg1 (by simp)
        have b1 : w1.cell? ⟨w.heap.size, 1, none⟩ = some (.int .i64 sp) := grown_cell hg1 (by simp)
        have b2 : w1.cell? ⟨w.heap.size, 2, none⟩ = some (.int .i64 st) := grown_cell hg1 (by simp)
        have b3 : w1.cell? ⟨w.heap.size, 3, none⟩ = some (.slice so ss.length sc) := grown_cell hg1 (by simp)
        have b4 : w1.cell? ⟨w.heap.size, 4, none⟩ = some (.slice lo ls.length lc) := grown_cell hg1 (by simp)
        have b5 : w1.cell? ⟨w.heap.size, 5, none⟩ = some (.slice to_ ts.length tc) := grown_cell hg1 (by simp)
        clear hg1
        have hS0 : (World.grownBy w w1 none ∧ World.cell? w1 ⟨w.heap.size, 0, none⟩ = some (.string nm) ∧ World.cell? w1 ⟨w.heap.size, 1, none⟩ = some (.int .i64 sp) ∧ World.cell? w1 ⟨w.heap.size, 2, none⟩ = some (.int .i64 st) ∧ World.cell? w1 ⟨w.heap.size, 3, none⟩ = some (.slice so ss.length sc) ∧ World.cell? w1 ⟨w.heap.size, 4, none⟩ = some (.slice lo ls.length lc) ∧ World.cell? w1 ⟨w.heap.size, 5, none⟩ = some (.slice to_ ts.length tc)) := ⟨G1, b0, b1, b2, b3, b4, b5⟩
        have hstep : ∀ W W' : World, (World.grownBy w W none ∧ World.cell? W ⟨w.heap.size, 0, none⟩ = some (.string nm) ∧ World.cell? W ⟨w.heap.size, 1, none⟩ = some (.int .i64 sp) ∧ World.cell? W ⟨w.heap.size, 2, none⟩ = some (.int .i64 st) ∧ World.cell? W ⟨w.heap.size, 3, none⟩ = some (.slice so ss.length sc) ∧ World.cell? W ⟨w.heap.size, 4, none⟩ = some (.slice lo ls.length lc) ∧ World.cell? W ⟨w.heap.size, 5, none⟩ = some (.slice to_ ts.length tc)) → W.grownBy W' none → (World.grownBy w W' none ∧ World.cell? W' ⟨w.heap.size, 0, none⟩ = some (.string nm) ∧ World.cell? W' ⟨w.heap.size, 1, none⟩ = some (.int .i64 sp) ∧ World.cell? W' ⟨w.heap.size, 2, none⟩ = some (.int .i64 st) ∧ World.cell? W' ⟨w.heap.size, 3, none⟩ = some (.slice so ss.length sc) ∧ World.cell? W' ⟨w.heap.size, 4, none⟩ = some (.slice lo ls.length lc) ∧ World.cell? W' ⟨w.heap.size, 5, none⟩ = some (.slice to_ ts.length tc)) := fun W W' h g => ⟨grown_trans h.1 g, grown_cell g h.2.1, grown_cell g h.2.2.1, grown_cell g h.2.2.2.1, grown_cell g h.2.2.2.2.1, grown_cell g h.2.2.2.2.2.1, grown_cell g h.2.2.2.2.2.2⟩
        have hSd : (World.grownBy w w1.drew none ∧ World.cell? w1.drew ⟨w.heap.size, 0, none⟩ = some (.string nm) ∧ World.cell? w1.drew ⟨w.heap.size, 1, none⟩ = some (.int .i64 sp) ∧ World.cell? w1.drew ⟨w.heap.size, 2, none⟩ = some (.int .i64 st) ∧ World.cell? w1.drew ⟨w.heap.size, 3, none⟩ = some (.slice so ss.length sc) ∧ World.cell? w1.drew ⟨w.heap.size, 4, none⟩ = some (.slice lo ls.length lc) ∧ World.cell? w1.drew ⟨w.heap.size, 5, none⟩ = some (.slice to_ ts.length tc)) := hstep _ _ hS0 (grown_drewN _ _ 1)
        have hof : ∀ W : World, (World.grownBy w W none ∧ World.cell? W ⟨w.heap.size, 0, none⟩ = some (.string nm) ∧ World.cell? W ⟨w.heap.size, 1, none⟩ = some (.int .i64 sp) ∧ World.cell? W ⟨w.heap.size, 2, none⟩ = some (.int .i64 st) ∧ World.cell? W ⟨w.heap.size, 3, none⟩ = some (.slice so ss.length sc) ∧ World.cell? W ⟨w.heap.size, 4, none⟩ = some (.slice lo ls.length lc) ∧ World.cell? W ⟨w.heap.size, 5, none⟩ = some (.slice to_ ts.length tc)) → SmpsAt W so ss ∧ LapsAt W lo ls := fun W h => ⟨HS.out.grown h.1, HL.out.grown h.1⟩
        clear hS0
        go_wp2_with fail
        clear G1 b0 b1 b2 b3 b4 b5
        go_region_held3 (fun W => (World.grownBy w W none ∧ World.cell? W ⟨w.heap.size, 0, none⟩ = some (.string nm) ∧ World.cell? W ⟨w.heap.size, 1, none⟩ = some (.int .i64 sp) ∧ World.cell? W ⟨w.heap.size, 2, none⟩ = some (.int .i64 st) ∧ World.cell? W ⟨w.heap.size, 3, none⟩ = some (.slice so ss.length sc) ∧ World.cell? W ⟨w.heap.size, 4, none⟩ = some (.slice lo ls.length lc) ∧ World.cell? W ⟨w.heap.size, 5, none⟩ = some (.slice to_ ts.length tc))) (first | exact hSd | (refine hstep _ _ ?_ (by assumption) <;> assumption)) (first
          | (go_at_call 56; refine (span_any ⟨nm, sp, st, so, sc, ss, lo, lc, ls, to_, tc, ts⟩ SL.out _ (hof _ (by assumption)).1 HSP).mono ?_; rintro x w7 ⟨rfl, hg7⟩)
          | (go_at_call 116; refine (chkLaps_any _ lo lc ls LL.out _ (hof _ (by assumption)).2 HEL).mono ?_; rintro x w8 ⟨rfl, hg8⟩))
        all_goals
          rename_i hfin
          clear hSd
          obtain ⟨G9, f0, f1, f2, f3, f4, f5⟩ := hfin
          clear hstep hof
          go_wp2_with fail
          go_ret
          exact ⟨ret_int HV.out.symm, G9⟩
    · have HV : Hid (E = ES) := by show _ = _; rw [hr, if_neg d1]
      have hne : (ES != 0) = true := by simpa using d1
      clear hr d1
      go_enter Try.func54, Try.ntmps54
      go_wp2_with fail
      refine (isName_is nm NS.out _ HN).mono ?_; rintro e w1 ⟨rfl, rfl⟩
      go_wp2_with fail
      refine (chkSamples_any st s0 s1 so sc ss SL.out _ (HS.out.grown (World.grownBy_alloc _ _ _)) HES).mono ?_; rintro e w1 ⟨rfl, hg1⟩
      have G1 := grown_trans (World.grownBy_alloc w (.cells #[.string nm, .int .i64 sp, .int .i64 st, .slice so ss.length sc, .slice lo ls.length lc, .slice to_ ts.length tc] 26) none) hg1
      have b0 : w1.cell? ⟨w.heap.size, 0, none⟩ = some (.string nm) := grown_cell hg1 (by simp)
      have b1 : w1.cell? ⟨w.heap.size, 1, none⟩ = some (.int .i64 sp) := grown_cell hg1 (by simp)
      have b2 : w1.cell? ⟨w.heap.size, 2, none⟩ = some (.int .i64 st) := grown_cell hg1 (by simp)
      have b3 : w1.cell? ⟨w.heap.size, 3, none⟩ = some (.slice so ss.length sc) := grown_cell hg1 (by simp)
      have b4 : w1.cell? ⟨w.heap.size, 4, none⟩ = some (.slice lo ls.length lc) := grown_cell hg1 (by simp)
      have b5 : w1.cell? ⟨w.heap.size, 5, none⟩ = some (.slice to_ ts.length tc) := grown_cell hg1 (by simp)
      clear hg1
      go_wp2_with fail
      go_ret
      exact ⟨ret_int HV.out.symm, G1⟩

end Go.Proofs.Ytgkhhfojioepgaa
