/- Simple and Fewest of any activity, both sides. -/
import Derived.Test.YtgkhhfojioepgaaTSimple
import Derived.Test.YtgkhhfojioepgaaTRFewest
import Derived.Test.YtgkhhfojioepgaaTRStep
namespace Go.Proofs.Ytgkhhfojioepgaa
open Go.RowKit
set_option linter.unusedSimpArgs false
set_option linter.unusedVariables false

def SimR (a : Act) (most E : Int) (l : List Nat) : Prop := (E = 0 → l = simL a.ss (most * most)) ∧ (E ≠ 0 → l = [])
def FewR (a : Act) (most E : Int) (l : List Nat) : Prop := (E = 0 → ∃ k, PthEnd a.ss.length (fwN a.ss.length (nrS a.ss most)) 0 k ∧ l = (List.range k).map (pth (fwN a.ss.length (nrS a.ss most)) 0)) ∧ (E ≠ 0 → l = [])
theorem SimR.one {a : Act} {most E : Int} {l m : List Nat} (h : SimR a most E l) (h' : SimR a most E m) : l = m := by
  by_cases e : E = 0
  · rw [h.1 e, h'.1 e]
  · rw [h.2 e, h'.2 e]
theorem FewR.one {a : Act} {most E : Int} {l m : List Nat} (h : FewR a most E l) (h' : FewR a most E m) : l = m := by
  by_cases e : E = 0
  · obtain ⟨k, p, q⟩ := h.1 e
    obtain ⟨k', p', q'⟩ := h'.1 e
    obtain rfl := pth_one p p'
    rw [q, q']
  · rw [h.2 e, h'.2 e]
theorem natVs_pth (g : Nat → Nat) (f k : Nat) : natVs ((List.range k).map (pth g f)) = pthVs g f k := by simp [natVs, pthVs]
theorem own_nat {w : World} {base : Nat} {v : Value} {l : List Nat} (h : w.ownsRow base 3 1 v l.length (natVs l)) : l.length ≤ 9223372036854775807 ∧ ∃ ao cap, v = .slice ao l.length cap ∧ IntsC w ao l.length (fun j => ((l[j]?.getD 0 : Nat) : Int)) := by
  rcases h.2 with ⟨hv, h0⟩ | ⟨g', cap, cur, hv, hb, hg, hnc, hcm, rest⟩
  · rw [h0]
    exact ⟨by omega, none, 0, hv, fun j hj => absurd hj (by omega)⟩
  · refine ⟨by unfold maxLen at hcm; omega, some ⟨g', 0, none⟩, cap, hv, fun j hj => ⟨g', rfl, ?_⟩⟩
    have := h.cells (g := g') (by rw [hv]; rfl) j (.int .i64 (l[j] : Nat)) (by simp [natVs, hj])
    show w.cell? _ = some (.int .i64 ((l[j]?.getD 0 : Nat) : Int))
    rw [List.getElem?_eq_getElem hj]
    rcases Nat.eq_zero_or_pos j with h0 | h0
    · subst h0; simpa [Addr.add] using this
    · simpa [Addr.add, Nat.ne_of_gt h0] using this
theorem thin_ok {a : Act} {most limit : Int} (h : thinE a most limit = 0) : chkE a = 0 ∧ 0 ≤ most ∧ most ≤ 100000000 ∧ (a.ss.length : Int) ≤ limit := by
  unfold thinE at h
  split at h
  · rename_i h1
    split at h
    · rename_i h2
      split at h
      · rename_i h3; exact ⟨h1, h2.1, h2.2, h3⟩
      · omega
    · omega
  · rename_i h1; exact absurd h h1
theorem so_of {w : World} {so : Option Addr} {ss : List Smp} (h : SmpsAt w so ss) (hne : ss ≠ []) : ∃ b off, so = some ⟨b, off, none⟩ := by
  cases so with
  | none => exact absurd (h.nil rfl) hne
  | some p =>
    obtain ⟨b, off, spot⟩ := p
    have hsp := h.spot _ rfl hne
    simp only at hsp
    subst hsp
    exact ⟨b, off, rfl⟩

set_option maxRecDepth 100000 in
set_option maxHeartbeats 1600000 in
theorem Simple_any (a : Act) (most : Int) (w : World) (ha : ActAt w a) {E : Int} (hE : Hid (thinE a most 5000 = E)) :
    Calls Try.prog 40 #[a.val, .int .i64 most] w fun x w' => (∃ v l, x = .returned (.tuple #[v, .int .i64 E]) ∧ SimR a most E l ∧ w'.ownsRow w.heap.size 3 1 v l.length (natVs l)) ∧ w.grownBy w' none := by
  have HA := Lib.hid ha
  have HTE := hE
  by_cases c1 : E = 0
  · subst c1
    have ht := thin_ok hE.out
    have HT := Lib.hid ht
    have HS := Lib.hid (sok_of (chk_ok ht.1))
    obtain ⟨nm, sp, st, so, sc, ss, lo, lc, ls, to_, tc, ts⟩ := a
    by_cases hne : ss = []
    · subst hne
      simp only [Act.val] at *
      clear hE ha ht HT HS
      go_enter Try.func40, Try.ntmps40
      go_wp2_with fail
      refine (checkThin_any ⟨nm, sp, st, so, sc, [], lo, lc, ls, to_, tc, ts⟩ most 5000 _ (HA.out.grown (World.grownBy_alloc _ _ _)) HTE).mono ?_; rintro e w1 ⟨rfl, hg1⟩
      have G1 := Lib.hid (grown_trans (World.grownBy_alloc w (.cells #[.string nm, .int .i64 sp, .int .i64 st, .slice so (List.length ([] : List Smp)) sc, .slice lo ls.length lc, .slice to_ ts.length tc] 26) none) hg1)
      have b3 : w1.cell? ⟨w.heap.size, 3, none⟩ = some (.slice so 0 sc) := grown_cell hg1 (by go_simp)
      clear hg1
      go_wp2_with fail
      go_ret2
      exact ⟨⟨_, [], rfl, ⟨fun _ => by simp [simL], fun h => absurd rfl h⟩, World.ownsRow_nil _ _ _ _⟩, G1.out⟩
    · obtain ⟨b, off, rfl⟩ := so_of ha.hs hne
      refine (Simple_ok nm sp st b off sc ss lo lc ls to_ tc ts most HT.out.2.1 HT.out.2.2.1 HT.out.2.2.2 (by have := List.length_pos_iff.mpr hne; omega) w HA HTE HS).mono ?_
      rintro x w' ⟨⟨v, rfl, h⟩, hg⟩
      exact ⟨⟨v, _, rfl, ⟨fun _ => rfl, fun h => absurd rfl h⟩, h⟩, hg⟩
  · have hne : (E != 0) = true := by simpa using c1
    have C1 := Lib.hid c1
    obtain ⟨nm, sp, st, so, sc, ss, lo, lc, ls, to_, tc, ts⟩ := a
    simp only [Act.val] at *
    clear hE ha c1
    go_enter Try.func40, Try.ntmps40
    go_wp2_with fail
    refine (checkThin_any ⟨nm, sp, st, so, sc, ss, lo, lc, ls, to_, tc, ts⟩ most 5000 _ (HA.out.grown (World.grownBy_alloc _ _ _)) HTE).mono ?_; rintro e w1 ⟨rfl, hg1⟩
    have G1 := Lib.hid (grown_trans (World.grownBy_alloc w (.cells #[.string nm, .int .i64 sp, .int .i64 st, .slice so ss.length sc, .slice lo ls.length lc, .slice to_ ts.length tc] 26) none) hg1)
    clear hg1
    go_wp2_with fail
    go_ret2
    exact ⟨⟨_, [], rfl, ⟨fun h => absurd h C1.out, fun _ => rfl⟩, World.ownsRow_nil _ _ _ _⟩, G1.out⟩

set_option maxRecDepth 100000 in
set_option maxHeartbeats 1600000 in
theorem Fewest_any (a : Act) (most : Int) (w : World) (ha : ActAt w a) {E : Int} (hE : Hid (thinE a most 300 = E)) :
    Calls Try.prog 42 #[a.val, .int .i64 most] w fun x w' => (∃ v l, x = .returned (.tuple #[v, .int .i64 E]) ∧ FewR a most E l ∧ w'.ownsRow w.heap.size 3 1 v l.length (natVs l)) ∧ w.grownBy w' none := by
  have HA := Lib.hid ha
  have HTE := hE
  by_cases c1 : E = 0
  · subst c1
    have ht := thin_ok hE.out
    have HT := Lib.hid ht
    have HS := Lib.hid (sok_of (chk_ok ht.1))
    obtain ⟨nm, sp, st, so, sc, ss, lo, lc, ls, to_, tc, ts⟩ := a
    by_cases hne : ss = []
    · subst hne
      simp only [Act.val] at *
      clear hE ha ht HT HS
      go_enter Try.func42, Try.ntmps42
      go_wp2_with fail
      refine (checkThin_any ⟨nm, sp, st, so, sc, [], lo, lc, ls, to_, tc, ts⟩ most 300 _ (HA.out.grown (World.grownBy_alloc _ _ _)) HTE).mono ?_; rintro e w1 ⟨rfl, hg1⟩
      have G1 := Lib.hid (grown_trans (World.grownBy_alloc w (.cells #[.string nm, .int .i64 sp, .int .i64 st, .slice so (List.length ([] : List Smp)) sc, .slice lo ls.length lc, .slice to_ ts.length tc] 26) none) hg1)
      have b3 : w1.cell? ⟨w.heap.size, 3, none⟩ = some (.slice so 0 sc) := grown_cell hg1 (by go_simp)
      clear hg1
      go_wp2_with fail
      go_ret2
      exact ⟨⟨_, [], rfl, ⟨fun _ => ⟨0, ⟨fun j hj => absurd hj (Nat.not_lt_zero _), rfl⟩, rfl⟩, fun h => absurd rfl h⟩, World.ownsRow_nil _ _ _ _⟩, G1.out⟩
    · obtain ⟨b, off, rfl⟩ := so_of ha.hs hne
      refine (Fewest_ok nm sp st b off sc ss lo lc ls to_ tc ts most HT.out.2.1 HT.out.2.2.1 HT.out.2.2.2 (by have := List.length_pos_iff.mpr hne; omega) w HA HTE HS (nr := nrS ss most) rfl).mono ?_
      rintro x w' ⟨⟨v, k, rfl, h1, h2⟩, hg⟩
      refine ⟨⟨v, _, rfl, ⟨fun _ => ⟨k, h1, rfl⟩, fun h => absurd rfl h⟩, ?_⟩, hg⟩
      rw [natVs_pth]; simpa using h2
  · have hne : (E != 0) = true := by simpa using c1
    have C1 := Lib.hid c1
    obtain ⟨nm, sp, st, so, sc, ss, lo, lc, ls, to_, tc, ts⟩ := a
    simp only [Act.val] at *
    clear hE ha c1
    go_enter Try.func42, Try.ntmps42
    go_wp2_with fail
    refine (checkThin_any ⟨nm, sp, st, so, sc, ss, lo, lc, ls, to_, tc, ts⟩ most 300 _ (HA.out.grown (World.grownBy_alloc _ _ _)) HTE).mono ?_; rintro e w1 ⟨rfl, hg1⟩
    have G1 := Lib.hid (grown_trans (World.grownBy_alloc w (.cells #[.string nm, .int .i64 sp, .int .i64 st, .slice so ss.length sc, .slice lo ls.length lc, .slice to_ ts.length tc] 26) none) hg1)
    clear hg1
    go_wp2_with fail
    go_ret2
    exact ⟨⟨_, [], rfl, ⟨fun h => absurd h C1.out, fun _ => rfl⟩, World.ownsRow_nil _ _ _ _⟩, G1.out⟩

set_option maxRecDepth 100000 in
set_option maxHeartbeats 1600000 in
theorem rSimple_any (a : Act) (most : Int) (w : World) (ha : ActAt w a) {E : Int} (hE : Hid (thinE a most 5000 = E)) :
    Calls Try.prog 41 #[a.val, .int .i64 most] w fun x w' => (∃ v l, x = .returned (.tuple #[v, .int .i64 E]) ∧ SimR a most E l ∧ w'.ownsRow w.heap.size 3 1 v l.length (natVs l)) ∧ w.grownBy w' none := by
  have HA := Lib.hid ha
  obtain ⟨ce, hce⟩ : ∃ e, chkE a = e := ⟨_, rfl⟩
  have hv := hE.out
  unfold thinE at hv
  rw [hce] at hv
  by_cases c1 : ce = 0
  · rw [if_pos c1] at hv
    subst c1
    have HCE := Lib.hid hce
    have hok := chk_ok hce
    have HS := Lib.hid (sok_of hok)
    have hl20 := hok.sl
    by_cases c2 : 0 ≤ most ∧ most ≤ 100000000
    · rw [if_pos c2] at hv
      by_cases c3 : (a.ss.length : Int) ≤ 5000
      · rw [if_pos c3] at hv
        subst hv
        have HT := Lib.hid (thin_ok hE.out)
        obtain ⟨nm, sp, st, so, sc, ss, lo, lc, ls, to_, tc, ts⟩ := a
        by_cases hne : ss = []
        · subst hne
          simp only [Act.val] at *
          clear hE ha hce hok HS hl20 c3 HT
          have hmk0 := run_make_row' (P := Try.prog) 48 3 (.int .i64 0) 8 Try.underlying48 info_int rfl .i64 .i64 0 (by omega) (by omega)
          have hmk1 := run_make_row' (P := Try.prog) 89 4 (.bool false) 1 Try.underlying89 info_mark rfl .i64 .i64 0 (by omega) (by omega)
          have hmkI : ∀ (w : World), Sem.run Try.prog (Instr.makeSlice 48 (.int .i64 0) (.int .i64 0)) w = .ok (.slice (some ⟨w.heap.size, 0, none⟩) 0 0) (w.alloc (.cells (madeCells #[.int .i64 0] 0) 3)) := fun w => hmk0 w
          have hmkB : ∀ (w : World), Sem.run Try.prog (Instr.makeSlice 89 (.int .i64 0) (.int .i64 0)) w = .ok (.slice (some ⟨w.heap.size, 0, none⟩) 0 0) (w.alloc (.cells (madeCells #[.bool false] 0) 4)) := fun w => hmk1 w
          clear hmk0 hmk1
          go_enter Try.func41, Try.ntmps41
          go_wp2_with fail
          refine (rcheck_any ⟨nm, sp, st, so, sc, [], lo, lc, ls, to_, tc, ts⟩ _ (HA.out.grown (World.grownBy_alloc _ _ _)) HCE).mono ?_; rintro e w1 ⟨rfl, hg1⟩
          have G1 := Lib.hid (grown_trans (World.grownBy_alloc w (.cells #[.string nm, .int .i64 sp, .int .i64 st, .slice so (List.length ([] : List Smp)) sc, .slice lo ls.length lc, .slice to_ ts.length tc] 26) none) hg1)
          have b3 : w1.cell? ⟨w.heap.size, 3, none⟩ = some (.slice so 0 sc) := grown_cell hg1 (by go_simp)
          clear hg1
          go_wp2_with fail
          refine (rout_no _ _ _ c2.1 c2.2 _).mono ?_; rintro e w2 ⟨rfl, rfl⟩
          go_upto_region 13 with (fail)
          have GA := Lib.hid (World.grownBy_alloc w1 (.cells (madeCells #[.bool false] 0) 4) none)
          generalize w1.alloc (.cells (madeCells #[.bool false] 0) 4) = W2 at *
          go_wp2_with fail
          go_loopw [9, 43] (fun lv iv wr => lv = .slice none 0 0 ∧ iv = .int .i64 0 ∧ wr = W2) (fun _ _ _ => 0)
          case atStart => exact ⟨rfl, rfl, rfl⟩
          case round =>
            obtain ⟨rfl, rfl, rfl⟩ := hrel
            go_wp2_with fail
            go_ret2
            exact ⟨⟨_, [], rfl, ⟨fun _ => by simp [simL], fun h => absurd rfl h⟩, World.ownsRow_nil _ _ _ _⟩, grown_trans G1.out GA.out⟩
        · obtain ⟨b, off, rfl⟩ := so_of ha.hs hne
          refine (rSimple_ok nm sp st b off sc ss lo lc ls to_ tc ts most HT.out.2.1 HT.out.2.2.1 HT.out.2.2.2 (by have := List.length_pos_iff.mpr hne; omega) w HA HCE HS).mono ?_
          rintro x w' ⟨⟨v, rfl, h⟩, hg⟩
          exact ⟨⟨v, _, rfl, ⟨fun _ => rfl, fun h => absurd rfl h⟩, h⟩, hg⟩
      · rw [if_neg c3] at hv
        subst hv
        obtain ⟨nm, sp, st, so, sc, ss, lo, lc, ls, to_, tc, ts⟩ := a
        simp only [Act.val] at *
        have hcap : decide ((5000 : Int) < (ss.length : Int)) = true := by simp; omega
        have hcap2 : (5000 : Int) < (ss.length : Int) := by omega
        clear hE hce hok ha c3
        go_enter Try.func41, Try.ntmps41
        go_wp2_with fail
        refine (rcheck_any ⟨nm, sp, st, so, sc, ss, lo, lc, ls, to_, tc, ts⟩ _ (HA.out.grown (World.grownBy_alloc _ _ _)) HCE).mono ?_; rintro e w1 ⟨rfl, hg1⟩
        have G1 := Lib.hid (grown_trans (World.grownBy_alloc w (.cells #[.string nm, .int .i64 sp, .int .i64 st, .slice so ss.length sc, .slice lo ls.length lc, .slice to_ ts.length tc] 26) none) hg1)
        have b3 : w1.cell? ⟨w.heap.size, 3, none⟩ = some (.slice so ss.length sc) := grown_cell hg1 (by go_simp)
        clear hg1
        go_wp2_with fail
        refine (rout_no _ _ _ c2.1 c2.2 _).mono ?_; rintro e w2 ⟨rfl, rfl⟩
        go_wp2_with fail
        go_ret2
        exact ⟨⟨_, [], rfl, ⟨fun h => absurd h (by decide), fun _ => rfl⟩, World.ownsRow_nil _ _ _ _⟩, G1.out⟩
    · rw [if_neg c2] at hv
      subst hv
      have C2 : Hid (most < 0 ∨ 100000000 < most) := by show _ ∨ _; omega
      obtain ⟨nm, sp, st, so, sc, ss, lo, lc, ls, to_, tc, ts⟩ := a
      simp only [Act.val] at *
      clear hE hce hok ha c2
      go_enter Try.func41, Try.ntmps41
      go_wp2_with fail
      refine (rcheck_any ⟨nm, sp, st, so, sc, ss, lo, lc, ls, to_, tc, ts⟩ _ (HA.out.grown (World.grownBy_alloc _ _ _)) HCE).mono ?_; rintro e w1 ⟨rfl, hg1⟩
      have G1 := Lib.hid (grown_trans (World.grownBy_alloc w (.cells #[.string nm, .int .i64 sp, .int .i64 st, .slice so ss.length sc, .slice lo ls.length lc, .slice to_ ts.length tc] 26) none) hg1)
      clear hg1
      go_wp2_with fail
      refine (rout_yes _ _ _ C2.out _).mono ?_; rintro e w2 ⟨rfl, rfl⟩
      go_wp2_with fail
      go_ret2
      exact ⟨⟨_, [], rfl, ⟨fun h => absurd h (by decide), fun _ => rfl⟩, World.ownsRow_nil _ _ _ _⟩, G1.out⟩
  · rw [if_neg c1] at hv
    subst hv
    have HCE := Lib.hid hce
    have hne : (ce != 0) = true := by simpa using c1
    have C1 := Lib.hid c1
    obtain ⟨nm, sp, st, so, sc, ss, lo, lc, ls, to_, tc, ts⟩ := a
    simp only [Act.val] at *
    clear hE hce ha c1
    go_enter Try.func41, Try.ntmps41
    go_wp2_with fail
    refine (rcheck_any ⟨nm, sp, st, so, sc, ss, lo, lc, ls, to_, tc, ts⟩ _ (HA.out.grown (World.grownBy_alloc _ _ _)) HCE).mono ?_; rintro e w1 ⟨rfl, hg1⟩
    have G1 := Lib.hid (grown_trans (World.grownBy_alloc w (.cells #[.string nm, .int .i64 sp, .int .i64 st, .slice so ss.length sc, .slice lo ls.length lc, .slice to_ ts.length tc] 26) none) hg1)
    clear hg1
    go_wp2_with fail
    go_ret2
    exact ⟨⟨_, [], rfl, ⟨fun h => absurd h C1.out, fun _ => rfl⟩, World.ownsRow_nil _ _ _ _⟩, G1.out⟩

set_option maxRecDepth 100000 in
set_option maxHeartbeats 1600000 in
theorem rFewest_any (a : Act) (most : Int) (w : World) (ha : ActAt w a) {E : Int} (hE : Hid (thinE a most 300 = E)) :
    Calls Try.prog 43 #[a.val, .int .i64 most] w fun x w' => (∃ v l, x = .returned (.tuple #[v, .int .i64 E]) ∧ FewR a most E l ∧ w'.ownsRow w.heap.size 3 1 v l.length (natVs l)) ∧ w.grownBy w' none := by
  have HA := Lib.hid ha
  obtain ⟨ce, hce⟩ : ∃ e, chkE a = e := ⟨_, rfl⟩
  have hv := hE.out
  unfold thinE at hv
  rw [hce] at hv
  by_cases c1 : ce = 0
  · rw [if_pos c1] at hv
    subst c1
    have HCE := Lib.hid hce
    have hok := chk_ok hce
    have HS := Lib.hid (sok_of hok)
    have hl20 := hok.sl
    by_cases c2 : 0 ≤ most ∧ most ≤ 100000000
    · rw [if_pos c2] at hv
      by_cases c3 : (a.ss.length : Int) ≤ 300
      · rw [if_pos c3] at hv
        subst hv
        have HT := Lib.hid (thin_ok hE.out)
        obtain ⟨nm, sp, st, so, sc, ss, lo, lc, ls, to_, tc, ts⟩ := a
        by_cases hne : ss = []
        · subst hne
          simp only [Act.val] at *
          clear hE ha hce hok HS hl20 c3 HT
          have hmk0 := run_make_row' (P := Try.prog) 48 3 (.int .i64 0) 8 Try.underlying48 info_int rfl .i64 .i64 0 (by omega) (by omega)
          have hmk1 := run_make_row' (P := Try.prog) 89 4 (.bool false) 1 Try.underlying89 info_mark rfl .i64 .i64 0 (by omega) (by omega)
          have hmkI : ∀ (w : World), Sem.run Try.prog (Instr.makeSlice 48 (.int .i64 0) (.int .i64 0)) w = .ok (.slice (some ⟨w.heap.size, 0, none⟩) 0 0) (w.alloc (.cells (madeCells #[.int .i64 0] 0) 3)) := fun w => hmk0 w
          have hmkB : ∀ (w : World), Sem.run Try.prog (Instr.makeSlice 89 (.int .i64 0) (.int .i64 0)) w = .ok (.slice (some ⟨w.heap.size, 0, none⟩) 0 0) (w.alloc (.cells (madeCells #[.bool false] 0) 4)) := fun w => hmk1 w
          clear hmk0 hmk1
          go_enter Try.func43, Try.ntmps43
          go_wp2_with fail
          refine (rcheck_any ⟨nm, sp, st, so, sc, [], lo, lc, ls, to_, tc, ts⟩ _ (HA.out.grown (World.grownBy_alloc _ _ _)) HCE).mono ?_; rintro e w1 ⟨rfl, hg1⟩
          have G1 := Lib.hid (grown_trans (World.grownBy_alloc w (.cells #[.string nm, .int .i64 sp, .int .i64 st, .slice so (List.length ([] : List Smp)) sc, .slice lo ls.length lc, .slice to_ ts.length tc] 26) none) hg1)
          have b3 : w1.cell? ⟨w.heap.size, 3, none⟩ = some (.slice so 0 sc) := grown_cell hg1 (by go_simp)
          clear hg1
          go_wp2_with fail
          refine (rout_no _ _ _ c2.1 c2.2 _).mono ?_; rintro e w2 ⟨rfl, rfl⟩
          go_upto_region 9 with (fail)
          have GA := Lib.hid (grown_trans (grown_trans (grown_drewN w1 none 1) (World.grownBy_alloc w1.drew (.cells (madeCells #[.int .i64 0] 0) 3) none)) (World.grownBy_alloc _ (.cells (madeCells #[.int .i64 0] 0) 3) none))
          go_cut [8, 9] (fun s8 s9 wx => w1.grownBy wx none)
          case first =>
            go_region
            all_goals
              go_wp2_with fail
              go_meet
              exact GA.out
          case rest =>
            have HCUT := Lib.hid hcut
            clear hcut
            go_wp2_with fail
            rename_i wx
            go_loopw [10] (fun iv wr => iv = .int .i64 (-2) ∧ Hid (w1.grownBy wr none)) (fun _ _ => 0)
            case atStart => exact ⟨by go_num, HCUT⟩
            case round =>
              obtain ⟨rfl, hq⟩ := hrel
              obtain ⟨wy, hwy⟩ : ∃ wy, wy = wr := ⟨_, rfl⟩
              rw [← hwy] at hq ⊢
              clear hwy
              go_wp2_with fail
              go_loopw [12, 13] (fun lv iv wl => lv = .slice none 0 0 ∧ iv = .int .i64 0 ∧ wl = wy) (fun _ _ _ => 0)
              case atStart => exact ⟨rfl, rfl, rfl⟩
              case round =>
                obtain ⟨rfl, rfl, rfl⟩ := hrel
                go_wp2_with fail
                go_ret2
                exact ⟨⟨_, [], rfl, ⟨fun _ => ⟨0, ⟨fun j hj => absurd hj (Nat.not_lt_zero _), rfl⟩, rfl⟩, fun h => absurd rfl h⟩, World.ownsRow_nil _ _ _ _⟩, grown_trans G1.out hq.out⟩
        · obtain ⟨b, off, rfl⟩ := so_of ha.hs hne
          refine (rFewest_ok nm sp st b off sc ss lo lc ls to_ tc ts most HT.out.2.1 HT.out.2.2.1 HT.out.2.2.2 (by have := List.length_pos_iff.mpr hne; omega) w HA HCE HS (nr := nrS ss most) rfl).mono ?_
          rintro x w' ⟨⟨v, k, rfl, h1, h2⟩, hg⟩
          refine ⟨⟨v, _, rfl, ⟨fun _ => ⟨k, h1, rfl⟩, fun h => absurd rfl h⟩, ?_⟩, hg⟩
          rw [natVs_pth]; simpa using h2
      · rw [if_neg c3] at hv
        subst hv
        obtain ⟨nm, sp, st, so, sc, ss, lo, lc, ls, to_, tc, ts⟩ := a
        simp only [Act.val] at *
        have hcap : decide ((300 : Int) < (ss.length : Int)) = true := by simp; omega
        have hcap2 : (300 : Int) < (ss.length : Int) := by omega
        clear hE hce hok ha c3
        go_enter Try.func43, Try.ntmps43
        go_wp2_with fail
        refine (rcheck_any ⟨nm, sp, st, so, sc, ss, lo, lc, ls, to_, tc, ts⟩ _ (HA.out.grown (World.grownBy_alloc _ _ _)) HCE).mono ?_; rintro e w1 ⟨rfl, hg1⟩
        have G1 := Lib.hid (grown_trans (World.grownBy_alloc w (.cells #[.string nm, .int .i64 sp, .int .i64 st, .slice so ss.length sc, .slice lo ls.length lc, .slice to_ ts.length tc] 26) none) hg1)
        have b3 : w1.cell? ⟨w.heap.size, 3, none⟩ = some (.slice so ss.length sc) := grown_cell hg1 (by go_simp)
        clear hg1
        go_wp2_with fail
        refine (rout_no _ _ _ c2.1 c2.2 _).mono ?_; rintro e w2 ⟨rfl, rfl⟩
        go_wp2_with fail
        go_ret2
        exact ⟨⟨_, [], rfl, ⟨fun h => absurd h (by decide), fun _ => rfl⟩, World.ownsRow_nil _ _ _ _⟩, G1.out⟩
    · rw [if_neg c2] at hv
      subst hv
      have C2 : Hid (most < 0 ∨ 100000000 < most) := by show _ ∨ _; omega
      obtain ⟨nm, sp, st, so, sc, ss, lo, lc, ls, to_, tc, ts⟩ := a
      simp only [Act.val] at *
      clear hE hce hok ha c2
      go_enter Try.func43, Try.ntmps43
      go_wp2_with fail
      refine (rcheck_any ⟨nm, sp, st, so, sc, ss, lo, lc, ls, to_, tc, ts⟩ _ (HA.out.grown (World.grownBy_alloc _ _ _)) HCE).mono ?_; rintro e w1 ⟨rfl, hg1⟩
      have G1 := Lib.hid (grown_trans (World.grownBy_alloc w (.cells #[.string nm, .int .i64 sp, .int .i64 st, .slice so ss.length sc, .slice lo ls.length lc, .slice to_ ts.length tc] 26) none) hg1)
      clear hg1
      go_wp2_with fail
      refine (rout_yes _ _ _ C2.out _).mono ?_; rintro e w2 ⟨rfl, rfl⟩
      go_wp2_with fail
      go_ret2
      exact ⟨⟨_, [], rfl, ⟨fun h => absurd h (by decide), fun _ => rfl⟩, World.ownsRow_nil _ _ _ _⟩, G1.out⟩
  · rw [if_neg c1] at hv
    subst hv
    have HCE := Lib.hid hce
    have hne : (ce != 0) = true := by simpa using c1
    have C1 := Lib.hid c1
    obtain ⟨nm, sp, st, so, sc, ss, lo, lc, ls, to_, tc, ts⟩ := a
    simp only [Act.val] at *
    clear hE hce ha c1
    go_enter Try.func43, Try.ntmps43
    go_wp2_with fail
    refine (rcheck_any ⟨nm, sp, st, so, sc, ss, lo, lc, ls, to_, tc, ts⟩ _ (HA.out.grown (World.grownBy_alloc _ _ _)) HCE).mono ?_; rintro e w1 ⟨rfl, hg1⟩
    have G1 := Lib.hid (grown_trans (World.grownBy_alloc w (.cells #[.string nm, .int .i64 sp, .int .i64 st, .slice so ss.length sc, .slice lo ls.length lc, .slice to_ ts.length tc] 26) none) hg1)
    clear hg1
    go_wp2_with fail
    go_ret2
    exact ⟨⟨_, [], rfl, ⟨fun h => absurd h C1.out, fun _ => rfl⟩, World.ownsRow_nil _ _ _ _⟩, G1.out⟩
end Go.Proofs.Ytgkhhfojioepgaa
