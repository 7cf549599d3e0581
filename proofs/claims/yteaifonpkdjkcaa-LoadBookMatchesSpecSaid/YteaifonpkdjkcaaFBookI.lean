/- The contracts of On and NewBook, of both sides' books. -/
import Derived.Test.YteaifonpkdjkcaaFBookH
namespace Go.Proofs.Yteaifonpkdjkcaa
open Go.RowKit Go.Maps
set_option linter.unusedSimpArgs false
set_option linter.unusedVariables false

/-- What On returns. -/
def onV (F : Int → Int) (first f0 g0 day : Int) : StV := if HasD first day then stV F first f0 g0 (day - first).toNat else ⟨0, 0, 0, 0, 0⟩
def onE (first day : Int) : Int := if HasD first day then 0 else 9
theorem onE_bet (first day : Int) : betE first day day = onE first day := by
  unfold betE onE
  by_cases h : HasD first day
  · rw [if_pos ⟨h, h⟩, if_pos h, if_neg (Int.lt_irrefl _)]
  · rw [if_neg (fun q => h q.1), if_neg h]
theorem on_row {F : Int → Int} {first f0 g0 day : Int} (h : HasD first day) : betL F first f0 g0 day day (onE first day) = [onV F first f0 g0 day] := by
  have hd := h
  unfold HasD at hd
  unfold betL onE onV
  rw [if_pos h, if_pos rfl, if_pos h]
  obtain ⟨m, hm⟩ : ∃ m : Nat, day - first = m := ⟨(day - first).toNat, by omega⟩
  have e : (day - first + 1).toNat = m + 1 := by omega
  have e2 : (day - first).toNat = m := by omega
  rw [e, e2, stL_one]
theorem set5_grown {w w1 : World} {X : Nat} (h : w.grownBy w1 none) (hX : w.heap.size ≤ X) (v0 v1 v2 v3 v4 : Value) : w.grownBy (((((w1.setCell ⟨X, 0, none⟩ v0).setCell ⟨X, 1, none⟩ v1).setCell ⟨X, 2, none⟩ v2).setCell ⟨X, 3, none⟩ v3).setCell ⟨X, 4, none⟩ v4) none :=
  egrown_set (egrown_set (egrown_set (egrown_set (egrown_set h hX 0 v0) hX 1 v1) hX 2 v2) hX 3 v3) hX 4 v4

set_option maxRecDepth 100000 in
set_option maxHeartbeats 3200000 in
theorem on_is {w : World} {B g : Nat} {first f0 g0 : Int} {L : List Int} {ao : Option Addr} {cap : Nat} {F : Int → Int} (h : PBk w B g first f0 g0 L ao cap) (hFL : (fun d => ldA L (d - first)) = F) (hf : 0 ≤ first ∧ first ≤ 999999) (hb1 : 0 ≤ f0 ∧ f0 ≤ 10000000) (hb2 : 0 ≤ g0 ∧ g0 ≤ 10000000) (day : Int) {x : StV} {E : Int} (hx : Hid (onV F first f0 g0 day = x)) (hE : Hid (onE first day = E)) :
    Calls Try.prog 71 #[.pointer (some ⟨g, 0, none⟩), .int .i64 day] w fun e w' => e = .returned (.tuple #[.agg #[.int .i64 x.d, .int .i64 x.l, .int .i64 x.f, .int .i64 x.g, .int .i64 x.m], .int .i64 E]) ∧ w.grownBy w' none := by
  have HF := Lib.hid hf; have HB1 := Lib.hid hb1; have HB2 := Lib.hid hb2
  have G0 : Hid (w.grownBy (w.alloc (.cells #[.int .i64 0, .int .i64 0, .int .i64 0, .int .i64 0, .int .i64 0] 103)) none) := World.grownBy_alloc w _ none
  have X0 : Hid ((w.alloc (.cells #[.int .i64 0, .int .i64 0, .int .i64 0, .int .i64 0, .int .i64 0] 103)).heap[w.heap.size]? = some (.cells #[.int .i64 0, .int .i64 0, .int .i64 0, .int .i64 0, .int .i64 0] 103 (0, 0))) := heap_alloc_new w _
  have H0 := Lib.hid (h.grown G0.out)
  have HE : Hid (betE first day day = E) := by show _ = _; rw [onE_bet]; exact hE.out
  clear h hf hb1 hb2
  by_cases d1 : HasD first day
  · have h0 : E = 0 := by rw [← hE.out]; unfold onE; rw [if_pos d1]
    have HROW : Hid (betL F first f0 g0 day day E = [x]) := by show _ = _; rw [← hE.out, on_row d1, hx.out]
    subst h0
    clear d1 hx hE
    go_enter Try.func71, Try.ntmps71
    go_wp2_with fail
    refine (between_is H0.out HF.out HB1.out HB2.out day day HE).mono ?_; rintro e w1 ⟨⟨v, rfl, ho⟩, hg1⟩
    rw [hFL] at ho
    rw [HROW.out] at ho
    obtain ⟨gr, cp, rfl, hs⟩ : ∃ gr cp, v = .slice (some ⟨gr, 0, none⟩) 1 cp ∧ StsAt w1 (some ⟨gr, 0, none⟩) [x] := by
      obtain ⟨ao', cp, hv, hs⟩ := own_sts ho
      obtain ⟨gr, e1, _⟩ := sts_at hs (by simp)
      subst e1
      exact ⟨gr, cp, hv, hs⟩
    obtain ⟨y0, y1, y2, y3, y4⟩ := hs.cells gr rfl 0 (by simp)
    simp only [List.getElem_cons_zero, Nat.zero_mul, Nat.zero_add] at y0 y1 y2 y3 y4
    have X1 := Lib.hid (blk_at X0.out hg1 (by simp)); have G1 := Lib.hid (G0.out.trans hg1)
    clear ho hs hg1 X0 G0 H0
    have c0 := blk_cell X1.out 0 _ rfl; have e0 := blk_free (k := 0) X1.out
    have c1 := blk_cell X1.out 1 _ rfl; have e1 := blk_free (k := 1) X1.out
    have c2 := blk_cell X1.out 2 _ rfl; have e2 := blk_free (k := 2) X1.out
    have c3 := blk_cell X1.out 3 _ rfl; have e3 := blk_free (k := 3) X1.out
    have c4 := blk_cell X1.out 4 _ rfl; have e4 := blk_free (k := 4) X1.out
    go_wp2_with fail
    refine bodyPost_ret (v := .tuple #[.agg #[.int .i64 x.d, .int .i64 x.l, .int .i64 x.f, .int .i64 x.g, .int .i64 x.m], .int .i64 0]) (by simp [results, Try.results71, go_sem, c0, c1, c2, c3, c4]) rfl ⟨rfl, set5_grown G1.out (Nat.le_refl _) _ _ _ _ _⟩
  · have h0 : E = 9 := by rw [← hE.out]; unfold onE; rw [if_neg d1]
    have hx2 : x = ⟨0, 0, 0, 0, 0⟩ := by rw [← hx.out]; unfold onV; rw [if_neg d1]
    subst h0; subst hx2
    clear d1 hx hE
    go_enter Try.func71, Try.ntmps71
    go_wp2_with fail
    refine (between_is H0.out HF.out HB1.out HB2.out day day HE).mono ?_; rintro e w1 ⟨⟨v, rfl, ho⟩, hg1⟩
    obtain ⟨ao', cp, rfl, _⟩ := own_sts ho
    have X1 := Lib.hid (blk_at X0.out hg1 (by simp)); have G1 := Lib.hid (G0.out.trans hg1)
    clear ho hg1 X0 G0 H0
    have c0 := blk_cell X1.out 0 _ rfl; have e0 := blk_free (k := 0) X1.out
    have c1 := blk_cell X1.out 1 _ rfl; have e1 := blk_free (k := 1) X1.out
    have c2 := blk_cell X1.out 2 _ rfl; have e2 := blk_free (k := 2) X1.out
    have c3 := blk_cell X1.out 3 _ rfl; have e3 := blk_free (k := 3) X1.out
    have c4 := blk_cell X1.out 4 _ rfl; have e4 := blk_free (k := 4) X1.out
    go_wp2_with fail
    refine bodyPost_ret (v := .tuple #[.agg #[.int .i64 0, .int .i64 0, .int .i64 0, .int .i64 0, .int .i64 0], .int .i64 9]) (by simp [results, Try.results71, go_sem, c0, c1, c2, c3, c4]) rfl ⟨rfl, set5_grown G1.out (Nat.le_refl _) _ _ _ _ _⟩

set_option maxRecDepth 100000 in
set_option maxHeartbeats 3200000 in
theorem rOn_is {w : World} {B rb bm n : Nat} {first f0 g0 : Int} {F : Int → Int} (h : RBk w B rb bm n first f0 g0 F) (hF : ∀ d, 0 ≤ F d ∧ F d ≤ 10000) (hf : 0 ≤ first ∧ first ≤ 999999) (hb1 : 0 ≤ f0 ∧ f0 ≤ 10000000) (hb2 : 0 ≤ g0 ∧ g0 ≤ 10000000) (day : Int) {x : StV} {E : Int} (hx : Hid (onV F first f0 g0 day = x)) (hE : Hid (onE first day = E)) :
    Calls Try.prog 72 #[.pointer (some ⟨rb, 0, none⟩), .int .i64 day] w fun e w' => e = .returned (.tuple #[.agg #[.int .i64 x.d, .int .i64 x.l, .int .i64 x.f, .int .i64 x.g, .int .i64 x.m], .int .i64 E]) ∧ w.grownBy w' none := by
  have HF := Lib.hid hf; have HB1 := Lib.hid hb1; have HB2 := Lib.hid hb2; have HFB := Lib.hid hF
  have G0 : Hid (w.grownBy (w.alloc (.cells #[.int .i64 0, .int .i64 0, .int .i64 0, .int .i64 0, .int .i64 0] 103)) none) := World.grownBy_alloc w _ none
  have X0 : Hid ((w.alloc (.cells #[.int .i64 0, .int .i64 0, .int .i64 0, .int .i64 0, .int .i64 0] 103)).heap[w.heap.size]? = some (.cells #[.int .i64 0, .int .i64 0, .int .i64 0, .int .i64 0, .int .i64 0] 103 (0, 0))) := heap_alloc_new w _
  have H0 := Lib.hid (h.grown G0.out)
  have HE : Hid (betE first day day = E) := by show _ = _; rw [onE_bet]; exact hE.out
  clear h hf hb1 hb2 hF
  by_cases d1 : HasD first day
  · have h0 : E = 0 := by rw [← hE.out]; unfold onE; rw [if_pos d1]
    have HROW : Hid (betL F first f0 g0 day day E = [x]) := by show _ = _; rw [← hE.out, on_row d1, hx.out]
    subst h0
    clear d1 hx hE
    go_enter Try.func72, Try.ntmps72
    go_wp2_with fail
    refine (rbetween_is H0.out HF.out HB1.out HB2.out HFB.out day day HE).mono ?_; rintro e w1 ⟨⟨v, rfl, ho⟩, hg1⟩
    skip
    rw [HROW.out] at ho
    obtain ⟨gr, cp, rfl, hs⟩ : ∃ gr cp, v = .slice (some ⟨gr, 0, none⟩) 1 cp ∧ StsAt w1 (some ⟨gr, 0, none⟩) [x] := by
      obtain ⟨ao', cp, hv, hs⟩ := own_sts ho
      obtain ⟨gr, e1, _⟩ := sts_at hs (by simp)
      subst e1
      exact ⟨gr, cp, hv, hs⟩
    obtain ⟨y0, y1, y2, y3, y4⟩ := hs.cells gr rfl 0 (by simp)
    simp only [List.getElem_cons_zero, Nat.zero_mul, Nat.zero_add] at y0 y1 y2 y3 y4
    have X1 := Lib.hid (blk_at X0.out hg1 (by simp)); have G1 := Lib.hid (G0.out.trans hg1)
    clear ho hs hg1 X0 G0 H0
    have c0 := blk_cell X1.out 0 _ rfl; have e0 := blk_free (k := 0) X1.out
    have c1 := blk_cell X1.out 1 _ rfl; have e1 := blk_free (k := 1) X1.out
    have c2 := blk_cell X1.out 2 _ rfl; have e2 := blk_free (k := 2) X1.out
    have c3 := blk_cell X1.out 3 _ rfl; have e3 := blk_free (k := 3) X1.out
    have c4 := blk_cell X1.out 4 _ rfl; have e4 := blk_free (k := 4) X1.out
    go_wp2_with fail
    refine bodyPost_ret (v := .tuple #[.agg #[.int .i64 x.d, .int .i64 x.l, .int .i64 x.f, .int .i64 x.g, .int .i64 x.m], .int .i64 0]) (by simp [results, Try.results72, go_sem, c0, c1, c2, c3, c4]) rfl ⟨rfl, set5_grown G1.out (Nat.le_refl _) _ _ _ _ _⟩
  · have h0 : E = 9 := by rw [← hE.out]; unfold onE; rw [if_neg d1]
    have hx2 : x = ⟨0, 0, 0, 0, 0⟩ := by rw [← hx.out]; unfold onV; rw [if_neg d1]
    subst h0; subst hx2
    clear d1 hx hE
    go_enter Try.func72, Try.ntmps72
    go_wp2_with fail
    refine (rbetween_is H0.out HF.out HB1.out HB2.out HFB.out day day HE).mono ?_; rintro e w1 ⟨⟨v, rfl, ho⟩, hg1⟩
    obtain ⟨ao', cp, rfl, _⟩ := own_sts ho
    have X1 := Lib.hid (blk_at X0.out hg1 (by simp)); have G1 := Lib.hid (G0.out.trans hg1)
    clear ho hg1 X0 G0 H0
    have c0 := blk_cell X1.out 0 _ rfl; have e0 := blk_free (k := 0) X1.out
    have c1 := blk_cell X1.out 1 _ rfl; have e1 := blk_free (k := 1) X1.out
    have c2 := blk_cell X1.out 2 _ rfl; have e2 := blk_free (k := 2) X1.out
    have c3 := blk_cell X1.out 3 _ rfl; have e3 := blk_free (k := 3) X1.out
    have c4 := blk_cell X1.out 4 _ rfl; have e4 := blk_free (k := 4) X1.out
    go_wp2_with fail
    refine bodyPost_ret (v := .tuple #[.agg #[.int .i64 0, .int .i64 0, .int .i64 0, .int .i64 0, .int .i64 0], .int .i64 9]) (by simp [results, Try.results72, go_sem, c0, c1, c2, c3, c4]) rfl ⟨rfl, set5_grown G1.out (Nat.le_refl _) _ _ _ _ _⟩

/-- What is wrong with a book's beginning. -/
def newE (first f0 g0 : Int) : Int := if (0 ≤ first ∧ first ≤ 999999) ∧ (0 ≤ f0 ∧ f0 ≤ 10000000) ∧ 0 ≤ g0 ∧ g0 ≤ 10000000 then 0 else 9
set_option maxHeartbeats 1600000 in
theorem newBook_is (first f0 g0 : Int) (w : World) {E : Int} (hE : Hid (newE first f0 g0 = E)) :
    Calls Try.prog 64 #[.int .i64 first, .int .i64 f0, .int .i64 g0] w fun e w' => (∃ p, e = .returned (.tuple #[.pointer p, .int .i64 E]) ∧ (E = 0 → p = some ⟨w.heap.size, 0, none⟩ ∧ PBk w' w.heap.size w.heap.size first f0 g0 [] none 0)) ∧ w.grownBy w' none := by
  have hv := hE.out
  unfold newE at hv
  clear hE
  by_cases d1 : 0 ≤ first ∧ first ≤ 999999
  · have D1 := Lib.hid d1
    by_cases d2 : 0 ≤ f0 ∧ f0 ≤ 10000000
    · have D2 := Lib.hid d2
      by_cases d3 : 0 ≤ g0 ∧ g0 ≤ 10000000
      · rw [if_pos ⟨d1, d2, d3⟩] at hv
        subst hv
        have D3 := Lib.hid d3
        clear d1 d2 d3
        go_enter Try.func64, Try.ntmps64
        go_wp2_with (first | (go_at_call 129; refine (fwithin_yes _ _ _ D1.out _).mono ?_; rintro e w1 ⟨rfl, rfl⟩) | (go_at_call_of 130 (Value.int IntKind.i64 f0); refine (isState_yes _ D2 _).mono ?_; rintro e w1 ⟨rfl, rfl⟩) | (go_at_call_of 130 (Value.int IntKind.i64 g0); refine (isState_yes _ D3 _).mono ?_; rintro e w1 ⟨rfl, rfl⟩))
        go_ret2
        exact ⟨⟨_, rfl, fun _ => ⟨rfl, ⟨heap_alloc_new w _, World.ownsRow_nil _ _ _ _, Nat.le_refl _, fun x hx => by simp at hx, Nat.zero_le _⟩⟩⟩, World.grownBy_alloc _ _ none⟩
      · rw [if_neg (fun q => d3 q.2.2)] at hv
        subst hv
        have D3 := Lib.hid d3
        clear d1 d2 d3
        go_enter Try.func64, Try.ntmps64
        go_wp2_with (first | (go_at_call 129; refine (fwithin_yes _ _ _ D1.out _).mono ?_; rintro e w1 ⟨rfl, rfl⟩) | (go_at_call_of 130 (Value.int IntKind.i64 f0); refine (isState_yes _ D2 _).mono ?_; rintro e w1 ⟨rfl, rfl⟩) | (go_at_call_of 130 (Value.int IntKind.i64 g0); refine (isState_no _ D3 _).mono ?_; rintro e w1 ⟨rfl, rfl⟩))
        go_ret2
        exact ⟨⟨_, rfl, fun h => absurd h (by decide)⟩, World.grownBy.refl _ _⟩
    · rw [if_neg (fun q => d2 q.2.1)] at hv
      subst hv
      have D2 := Lib.hid d2
      clear d1 d2
      go_enter Try.func64, Try.ntmps64
      go_wp2_with (first | (go_at_call 129; refine (fwithin_yes _ _ _ D1.out _).mono ?_; rintro e w1 ⟨rfl, rfl⟩) | (go_at_call 130; refine (isState_no _ D2 _).mono ?_; rintro e w1 ⟨rfl, rfl⟩))
      go_ret2
      exact ⟨⟨_, rfl, fun h => absurd h (by decide)⟩, World.grownBy.refl _ _⟩
  · rw [if_neg (fun q => d1 q.1)] at hv
    subst hv
    have D1 := Lib.hid d1
    clear d1
    go_enter Try.func64, Try.ntmps64
    go_wp2_with (go_at_call 129; refine (fwithin_no _ _ _ D1.out _).mono ?_; rintro e w1 ⟨rfl, rfl⟩)
    go_ret2
    exact ⟨⟨_, rfl, fun h => absurd h (by decide)⟩, World.grownBy.refl _ _⟩
set_option maxHeartbeats 1600000 in
theorem rnewBook_is (first f0 g0 : Int) (w : World) {E : Int} (hE : Hid (newE first f0 g0 = E)) :
    Calls Try.prog 65 #[.int .i64 first, .int .i64 f0, .int .i64 g0] w fun e w' => (∃ p, e = .returned (.tuple #[.pointer p, .int .i64 E]) ∧ (E = 0 → p = some ⟨w.heap.size + 1, 0, none⟩ ∧ RBk w' w.heap.size (w.heap.size + 1) w.heap.size 0 first f0 g0 (fun _ => 0))) ∧ w.grownBy w' none := by
  have hv := hE.out
  unfold newE at hv
  have hmm := @run_makeMap Try.prog
  clear hE
  by_cases d1 : 0 ≤ first ∧ first ≤ 999999
  · by_cases d2 : 0 ≤ f0 ∧ f0 ≤ 10000000
    · by_cases d3 : 0 ≤ g0 ∧ g0 ≤ 10000000
      · rw [if_pos ⟨d1, d2, d3⟩] at hv
        subst hv
        have D1 := Lib.hid d1; have D2 := Lib.hid d2; have D3 := Lib.hid d3
        clear d1 d2 d3
        go_enter Try.func65, Try.ntmps65
        go_wp2_with (first | (go_at_call_of 131 (Value.int IntKind.i64 first); refine (routside_no _ _ _ (by have := D1.out; omega) _).mono ?_; rintro e w1 ⟨rfl, rfl⟩) | (go_at_call_of 131 (Value.int IntKind.i64 f0); refine (routside_no _ _ _ (by have := D2.out; omega) _).mono ?_; rintro e w1 ⟨rfl, rfl⟩) | (go_at_call_of 131 (Value.int IntKind.i64 g0); refine (routside_no _ _ _ (by have := D3.out; omega) _).mono ?_; rintro e w1 ⟨rfl, rfl⟩))
        go_ret2
        refine ⟨⟨_, rfl, fun _ => ⟨rfl, ⟨?_, ⟨.map [], (World.ownsMap_made w _ _ _).alloc _, isMap_empty, fun d _ => rfl⟩, Nat.le_succ _, Nat.le_refl _⟩⟩⟩, (World.grownBy_alloc _ _ none).trans (World.grownBy_alloc _ _ none)⟩
        have q := heap_alloc_new (w.alloc (.map #[] 0)) (.cells #[.int .i64 first, .int .i64 f0, .int .i64 g0, .map (some w.heap.size)] 172)
        simpa using q
      · rw [if_neg (fun q => d3 q.2.2)] at hv
        subst hv
        have D1 := Lib.hid d1; have D2 := Lib.hid d2; have D3 := Lib.hid d3
        clear d1 d2 d3
        go_enter Try.func65, Try.ntmps65
        go_wp2_with (first | (go_at_call_of 131 (Value.int IntKind.i64 first); refine (routside_no _ _ _ (by have := D1.out; omega) _).mono ?_; rintro e w1 ⟨rfl, rfl⟩) | (go_at_call_of 131 (Value.int IntKind.i64 f0); refine (routside_no _ _ _ (by have := D2.out; omega) _).mono ?_; rintro e w1 ⟨rfl, rfl⟩) | (go_at_call_of 131 (Value.int IntKind.i64 g0); refine (routside_yes _ _ _ (by have := D3.out; omega) _).mono ?_; rintro e w1 ⟨rfl, rfl⟩))
        go_ret2
        exact ⟨⟨_, rfl, fun h => absurd h (by decide)⟩, World.grownBy.refl _ _⟩
    · rw [if_neg (fun q => d2 q.2.1)] at hv
      subst hv
      have D1 := Lib.hid d1; have D2 := Lib.hid d2
      clear d1 d2
      go_enter Try.func65, Try.ntmps65
      go_wp2_with (first | (go_at_call_of 131 (Value.int IntKind.i64 first); refine (routside_no _ _ _ (by have := D1.out; omega) _).mono ?_; rintro e w1 ⟨rfl, rfl⟩) | (go_at_call_of 131 (Value.int IntKind.i64 f0); refine (routside_yes _ _ _ (by have := D2.out; omega) _).mono ?_; rintro e w1 ⟨rfl, rfl⟩))
      go_ret2
      exact ⟨⟨_, rfl, fun h => absurd h (by decide)⟩, World.grownBy.refl _ _⟩
  · rw [if_neg (fun q => d1 q.1)] at hv
    subst hv
    have D1 := Lib.hid d1
    clear d1
    go_enter Try.func65, Try.ntmps65
    go_wp2_with (go_at_call 131; refine (routside_yes _ _ _ (by have := D1.out; omega) _).mono ?_; rintro e w1 ⟨rfl, rfl⟩)
    go_ret2
    exact ⟨⟨_, rfl, fun h => absurd h (by decide)⟩, World.grownBy.refl _ _⟩

end Go.Proofs.Yteaifonpkdjkcaa
