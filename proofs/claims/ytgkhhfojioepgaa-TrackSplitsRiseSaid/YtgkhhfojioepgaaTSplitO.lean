/- The contract of Splits, for any activity. -/
import Derived.Test.YtgkhhfojioepgaaTSplitW
namespace Go.Proofs.Ytgkhhfojioepgaa
open Go.RowKit
set_option linter.unusedSimpArgs false
set_option linter.unusedVariables false

set_option maxHeartbeats 1600000 in
theorem Splits_any (a : Act) (way : Int) (w : World) (ha : ActAt w a) {n : Nat} {E : Int} (hE : Hid (splitsE a way = (n, E))) :
    Calls Try.prog 49 #[a.val, .int .i64 way] w fun x w' => (∃ v, x = .returned (.tuple #[v, .int .i64 E]) ∧ w'.ownsRow w.heap.size 67 2 v n (splVs a.ss way n)) ∧ w.grownBy w' none := by
  obtain ⟨ce, hce⟩ : ∃ e, chkE a = e := ⟨_, rfl⟩
  have hv := hE.out
  unfold splitsE at hv
  rw [hce] at hv
  have HCE := Lib.hid hce; have HA := Lib.hid ha
  by_cases c1 : ce = 0
  · rw [if_pos c1] at hv
    subst c1
    have hok := chk_ok hce
    by_cases c2 : 1 ≤ way ∧ way ≤ 1000000000
    · have HP := Lib.hid hok.plane
      have HS := Lib.hid (sok_of hok)
      obtain ⟨nm, sp, st, so, sc, ss, lo, lc, ls, to_, tc, ts⟩ := a
      refine (Splits_ok nm sp st so sc ss lo lc ls to_ tc ts way c2.1 c2.2 w HA HCE HS HP).mono ?_
      rintro x w' ⟨⟨v, E', n', rfl, he, ho⟩, hg⟩
      rw [hE.out] at he
      simp only [Prod.mk.injEq] at he
      obtain ⟨rfl, rfl⟩ := he
      exact ⟨⟨v, rfl, ho⟩, hg⟩
    · rw [if_neg c2] at hv
      simp only [Prod.mk.injEq] at hv
      obtain ⟨rfl, rfl⟩ := hv
      have C2 : Hid (way < 1 ∨ 1000000000 < way) := by show _ ∨ _; omega
      obtain ⟨nm, sp, st, so, sc, ss, lo, lc, ls, to_, tc, ts⟩ := a
      simp only [Act.val] at *
      clear hE hce hok ha c2
      have G4 : Hid (w.grownBy ((((w.alloc (.cells #[.string nm, .int .i64 sp, .int .i64 st, .slice so ss.length sc, .slice lo ls.length lc, .slice to_ ts.length tc] 26)).alloc (.cells #[.int .i64 way] 3)).alloc (.cells #[.slice none 0 0] 62)).alloc (.cells #[.int .i64 0] 29)) none) := grown_trans (grown_trans (grown_trans (World.grownBy_alloc _ _ _) (World.grownBy_alloc _ _ _)) (World.grownBy_alloc _ _ _)) (World.grownBy_alloc _ _ _)
      have HM4 : Hid (Boxed ((((w.alloc (.cells #[.string nm, .int .i64 sp, .int .i64 st, .slice so ss.length sc, .slice lo ls.length lc, .slice to_ ts.length tc] 26)).alloc (.cells #[.int .i64 way] 3)).alloc (.cells #[.slice none 0 0] 62)).alloc (.cells #[.int .i64 0] 29)) (w.heap.size + 1) 3 (.int .i64 way) ∧ Boxed ((((w.alloc (.cells #[.string nm, .int .i64 sp, .int .i64 st, .slice so ss.length sc, .slice lo ls.length lc, .slice to_ ts.length tc] 26)).alloc (.cells #[.int .i64 way] 3)).alloc (.cells #[.slice none 0 0] 62)).alloc (.cells #[.int .i64 0] 29)) (w.heap.size + 2) 62 (.slice none 0 0) ∧ Boxed ((((w.alloc (.cells #[.string nm, .int .i64 sp, .int .i64 st, .slice so ss.length sc, .slice lo ls.length lc, .slice to_ ts.length tc] 26)).alloc (.cells #[.int .i64 way] 3)).alloc (.cells #[.slice none 0 0] 62)).alloc (.cells #[.int .i64 0] 29)) (w.heap.size + 3) 29 (.int .i64 0)) := by
        have b1 := Boxed.new (w.alloc (.cells #[.string nm, .int .i64 sp, .int .i64 st, .slice so ss.length sc, .slice lo ls.length lc, .slice to_ ts.length tc] 26)) 3 (.int .i64 way)
        have b2 := Boxed.new ((w.alloc (.cells #[.string nm, .int .i64 sp, .int .i64 st, .slice so ss.length sc, .slice lo ls.length lc, .slice to_ ts.length tc] 26)).alloc (.cells #[.int .i64 way] 3)) 62 (.slice none 0 0)
        have b3 := Boxed.new (((w.alloc (.cells #[.string nm, .int .i64 sp, .int .i64 st, .slice so ss.length sc, .slice lo ls.length lc, .slice to_ ts.length tc] 26)).alloc (.cells #[.int .i64 way] 3)).alloc (.cells #[.slice none 0 0] 62)) 29 (.int .i64 0)
        refine ⟨?_, ?_, ?_⟩
        · have := (b1.alloc (.cells #[.slice none 0 0] 62)).alloc (.cells #[.int .i64 0] 29); simpa using this
        · have := b2.alloc (.cells #[.int .i64 0] 29); simpa using this
        · simpa using b3
      go_enter Try.func49, Try.ntmps49
      go_wp2_with fail
      refine (check_any ⟨nm, sp, st, so, sc, ss, lo, lc, ls, to_, tc, ts⟩ _ (HA.out.grown G4.out) HCE).mono ?_; rintro e w1 ⟨rfl, hg1⟩
      have G1 := Lib.hid (grown_trans G4.out hg1)
      have hb : Boxed w1 (w.heap.size + 2) 62 (.slice none 0 0) ∧ Boxed w1 (w.heap.size + 3) 29 (.int .i64 0) := ⟨HM4.out.2.1.kept hg1 (by simp), HM4.out.2.2.kept hg1 (by simp)⟩
      have y1 : w1.cell? ⟨w.heap.size + 1, 0, none⟩ = some (.int .i64 way) := grown_cell hg1 HM4.out.1.cell
      clear hg1
      have q4 := hb.1.cell; have g4 := hb.1.frozen
      have q5 := (hb.2.other (B' := w.heap.size + 2) (by omega) (.slice none 0 0)).cell
      have g5 := (hb.2.other (B' := w.heap.size + 2) (by omega) (.slice none 0 0)).frozen
      have HR : Hid (Boxed ((w1.setCell ⟨w.heap.size + 2, 0, none⟩ (.slice none 0 0)).setCell ⟨w.heap.size + 3, 0, none⟩ (.int .i64 9)) (w.heap.size + 2) 62 (.slice none 0 0) ∧ Boxed ((w1.setCell ⟨w.heap.size + 2, 0, none⟩ (.slice none 0 0)).setCell ⟨w.heap.size + 3, 0, none⟩ (.int .i64 9)) (w.heap.size + 3) 29 (.int .i64 9) ∧ w.grownBy ((w1.setCell ⟨w.heap.size + 2, 0, none⟩ (.slice none 0 0)).setCell ⟨w.heap.size + 3, 0, none⟩ (.int .i64 9)) none) :=
        ⟨(hb.1.set _).other (by omega) _, (hb.2.other (by omega) _).set _, grown_box (grown_box G1.out (by omega) _) (by omega) _⟩
      go_wp2_with fail
      refine (twithin_no _ _ _ C2.out _).mono ?_; rintro e w2 ⟨rfl, rfl⟩
      go_wp2_with fail
      clear q4 g4 q5 g5 hb
      have z4 := HR.out.1.cell; have z5 := HR.out.2.1.cell
      refine bodyPost_ret (v := .tuple #[.slice none 0 0, .int .i64 9]) (by simp [results, Try.results49, go_sem, z4, z5]) rfl ⟨⟨_, rfl, World.ownsRow_nil _ _ _ _⟩, HR.out.2.2⟩
  · rw [if_neg c1] at hv
    simp only [Prod.mk.injEq] at hv
    obtain ⟨rfl, rfl⟩ := hv
    have hne : (ce != 0) = true := by simpa using c1
    obtain ⟨nm, sp, st, so, sc, ss, lo, lc, ls, to_, tc, ts⟩ := a
    simp only [Act.val] at *
    clear hE hce ha c1
    have G4 : Hid (w.grownBy ((((w.alloc (.cells #[.string nm, .int .i64 sp, .int .i64 st, .slice so ss.length sc, .slice lo ls.length lc, .slice to_ ts.length tc] 26)).alloc (.cells #[.int .i64 way] 3)).alloc (.cells #[.slice none 0 0] 62)).alloc (.cells #[.int .i64 0] 29)) none) := grown_trans (grown_trans (grown_trans (World.grownBy_alloc _ _ _) (World.grownBy_alloc _ _ _)) (World.grownBy_alloc _ _ _)) (World.grownBy_alloc _ _ _)
    have HM4 : Hid (Boxed ((((w.alloc (.cells #[.string nm, .int .i64 sp, .int .i64 st, .slice so ss.length sc, .slice lo ls.length lc, .slice to_ ts.length tc] 26)).alloc (.cells #[.int .i64 way] 3)).alloc (.cells #[.slice none 0 0] 62)).alloc (.cells #[.int .i64 0] 29)) (w.heap.size + 1) 3 (.int .i64 way) ∧ Boxed ((((w.alloc (.cells #[.string nm, .int .i64 sp, .int .i64 st, .slice so ss.length sc, .slice lo ls.length lc, .slice to_ ts.length tc] 26)).alloc (.cells #[.int .i64 way] 3)).alloc (.cells #[.slice none 0 0] 62)).alloc (.cells #[.int .i64 0] 29)) (w.heap.size + 2) 62 (.slice none 0 0) ∧ Boxed ((((w.alloc (.cells #[.string nm, .int .i64 sp, .int .i64 st, .slice so ss.length sc, .slice lo ls.length lc, .slice to_ ts.length tc] 26)).alloc (.cells #[.int .i64 way] 3)).alloc (.cells #[.slice none 0 0] 62)).alloc (.cells #[.int .i64 0] 29)) (w.heap.size + 3) 29 (.int .i64 0)) := by
      have b1 := Boxed.new (w.alloc (.cells #[.string nm, .int .i64 sp, .int .i64 st, .slice so ss.length sc, .slice lo ls.length lc, .slice to_ ts.length tc] 26)) 3 (.int .i64 way)
      have b2 := Boxed.new ((w.alloc (.cells #[.string nm, .int .i64 sp, .int .i64 st, .slice so ss.length sc, .slice lo ls.length lc, .slice to_ ts.length tc] 26)).alloc (.cells #[.int .i64 way] 3)) 62 (.slice none 0 0)
      have b3 := Boxed.new (((w.alloc (.cells #[.string nm, .int .i64 sp, .int .i64 st, .slice so ss.length sc, .slice lo ls.length lc, .slice to_ ts.length tc] 26)).alloc (.cells #[.int .i64 way] 3)).alloc (.cells #[.slice none 0 0] 62)) 29 (.int .i64 0)
      refine ⟨?_, ?_, ?_⟩
      · have := (b1.alloc (.cells #[.slice none 0 0] 62)).alloc (.cells #[.int .i64 0] 29); simpa using this
      · have := b2.alloc (.cells #[.int .i64 0] 29); simpa using this
      · simpa using b3
    go_enter Try.func49, Try.ntmps49
    go_wp2_with fail
    refine (check_any ⟨nm, sp, st, so, sc, ss, lo, lc, ls, to_, tc, ts⟩ _ (HA.out.grown G4.out) HCE).mono ?_; rintro e w1 ⟨rfl, hg1⟩
    have G1 := Lib.hid (grown_trans G4.out hg1)
    have hb : Boxed w1 (w.heap.size + 2) 62 (.slice none 0 0) ∧ Boxed w1 (w.heap.size + 3) 29 (.int .i64 0) := ⟨HM4.out.2.1.kept hg1 (by simp), HM4.out.2.2.kept hg1 (by simp)⟩
    have y1 : w1.cell? ⟨w.heap.size + 1, 0, none⟩ = some (.int .i64 way) := grown_cell hg1 HM4.out.1.cell
    clear hg1
    have q4 := hb.1.cell; have g4 := hb.1.frozen
    have q5 := (hb.2.other (B' := w.heap.size + 2) (by omega) (.slice none 0 0)).cell
    have g5 := (hb.2.other (B' := w.heap.size + 2) (by omega) (.slice none 0 0)).frozen
    have HR : Hid (Boxed ((w1.setCell ⟨w.heap.size + 2, 0, none⟩ (.slice none 0 0)).setCell ⟨w.heap.size + 3, 0, none⟩ (.int .i64 ce)) (w.heap.size + 2) 62 (.slice none 0 0) ∧ Boxed ((w1.setCell ⟨w.heap.size + 2, 0, none⟩ (.slice none 0 0)).setCell ⟨w.heap.size + 3, 0, none⟩ (.int .i64 ce)) (w.heap.size + 3) 29 (.int .i64 ce) ∧ w.grownBy ((w1.setCell ⟨w.heap.size + 2, 0, none⟩ (.slice none 0 0)).setCell ⟨w.heap.size + 3, 0, none⟩ (.int .i64 ce)) none) :=
      ⟨(hb.1.set _).other (by omega) _, (hb.2.other (by omega) _).set _, grown_box (grown_box G1.out (by omega) _) (by omega) _⟩
    go_wp2_with fail
    clear q4 g4 q5 g5 hb
    have z4 := HR.out.1.cell; have z5 := HR.out.2.1.cell
    refine bodyPost_ret (v := .tuple #[.slice none 0 0, .int .i64 ce]) (by simp [results, Try.results49, go_sem, z4, z5]) rfl ⟨⟨_, rfl, World.ownsRow_nil _ _ _ _⟩, HR.out.2.2⟩

end Go.Proofs.Ytgkhhfojioepgaa
