/- Best of the program. -/
import Derived.Test.YtckelojdjmaliaaMBest
namespace Go.Proofs.Ytckelojdjmaliaa
open Go.RowKit
set_option linter.unusedSimpArgs false
set_option linter.unusedVariables false

attribute [local go_sem] Oper.semAt_some

def bstL (M : List (List Int)) : List Int := if M = [] then [] else M.getD (bestI M (M.length - 1)) []
theorem bst_some {M : List (List Int)} {L : List EffV} (h : L.map (·.at_) = M) (hl : 0 < M.length) : (efD L (bestI M (M.length - 1))).at_ = bstL M := by
  have hn : M ≠ [] := fun e => by subst e; simp at hl
  have hLl : L.length = M.length := by rw [← h, List.length_map]
  have := bestI_le M (M.length - 1)
  rw [efD_list h (by omega)]
  unfold bstL; rw [if_neg hn]
theorem bst_mem {M : List (List Int)} {L : List EffV} (h : L.map (·.at_) = M) (hl : 0 < M.length) : efD L (bestI M (M.length - 1)) ∈ L := by
  have hLl : L.length = M.length := by rw [← h, List.length_map]
  have := bestI_le M (M.length - 1)
  exact efD_mem (by omega)

set_option maxRecDepth 100000 in
set_option maxHeartbeats 6400000 in
theorem Best_is (s : Seg) (a : Act) (w : World) (hs : SegAt w s) (ha : ActAt w a) {E : Int} (hE : Hid (crsE s a = E)) :
    Calls Try.prog 20 #[s.val, a.val] w fun e w' => (∃ ao cap, e = .returned (.tuple #[.agg #[.slice ao (bstL (effL s a)).length cap], .bool (decide (0 < (effL s a).length)), .int .i64 E]) ∧ RowsAt ic 1 w' ao (bstL (effL s a))) ∧ w.grownBy w' none := by
  have HS := Lib.hid hs; have HA := Lib.hid ha; have HE := Lib.hid hE.out
  have EF : Hid (∀ W : World, SegAt W s → ActAt W a → Calls Try.prog 18 #[s.val, a.val] W fun e w' => (∃ ao cap L, e = .returned (.tuple #[.slice ao (effL s a).length cap, .int .i64 E]) ∧ EffAt w' ao (effL s a) L) ∧ W.grownBy w' none) := fun W h1 h2 => Efforts_is s a W h1 h2 HE
  have HNZ : Hid (E ≠ 0 → effL s a = []) := fun h => by unfold effL; rw [if_neg (by rw [HE.out]; exact h)]
  have HFU : Hid (∀ x ∈ effL s a, x.length = s.gs.length) := effL_full
  have HGL : Hid (E = 0 → 2 ≤ s.gs.length ∧ s.gs.length ≤ 50) := fun h => (crs_right (HE.out.trans h)).2.1
  have HLN := effL_len s a
  obtain ⟨M, hM⟩ : ∃ l, effL s a = l := ⟨_, rfl⟩
  rw [hM] at EF HNZ HFU HLN ⊢
  clear hM hs ha
  obtain ⟨snm, sgo, sgc, gs⟩ := s
  obtain ⟨nm, sp, st, so, sc, ss, lo, lc, ls, to_, tc, ts⟩ := a
  simp only [Seg.val, Act.val] at *
  have B1 : Hid ((((w.alloc (.cells #[.string snm, .slice sgo gs.length sgc] 24)).alloc (.cells #[.string nm, .int .i64 sp, .int .i64 st, .slice so ss.length sc, .slice lo ls.length lc, .slice to_ ts.length tc] 36)).alloc (.cells #[.slice none 0 0] 49)).heap[w.heap.size]? = some (.cells #[.string snm, .slice sgo gs.length sgc] 24 (0, 0))) := mblock_at (mblock_at (mheap_new w _) (World.grownBy_alloc _ _ none) (by simp)) (World.grownBy_alloc _ _ none) (by simp)
  have B2 : Hid ((((w.alloc (.cells #[.string snm, .slice sgo gs.length sgc] 24)).alloc (.cells #[.string nm, .int .i64 sp, .int .i64 st, .slice so ss.length sc, .slice lo ls.length lc, .slice to_ ts.length tc] 36)).alloc (.cells #[.slice none 0 0] 49)).heap[w.heap.size + 1]? = some (.cells #[.string nm, .int .i64 sp, .int .i64 st, .slice so ss.length sc, .slice lo ls.length lc, .slice to_ ts.length tc] 36 (0, 0))) := by
    have q := mheap_new (w.alloc (.cells #[.string snm, .slice sgo gs.length sgc] 24)) (.cells #[.string nm, .int .i64 sp, .int .i64 st, .slice so ss.length sc, .slice lo ls.length lc, .slice to_ ts.length tc] 36)
    rw [show (w.alloc (.cells #[.string snm, .slice sgo gs.length sgc] 24)).heap.size = w.heap.size + 1 from by simp] at q; exact mblock_at q (World.grownBy_alloc _ _ none) (by simp)
  have B4 : Hid ((((w.alloc (.cells #[.string snm, .slice sgo gs.length sgc] 24)).alloc (.cells #[.string nm, .int .i64 sp, .int .i64 st, .slice so ss.length sc, .slice lo ls.length lc, .slice to_ ts.length tc] 36)).alloc (.cells #[.slice none 0 0] 49)).heap[w.heap.size + 1 + 1]? = some (.cells #[.slice none 0 0] 49 (0, 0))) := by
    have q := mheap_new ((w.alloc (.cells #[.string snm, .slice sgo gs.length sgc] 24)).alloc (.cells #[.string nm, .int .i64 sp, .int .i64 st, .slice so ss.length sc, .slice lo ls.length lc, .slice to_ ts.length tc] 36)) (.cells #[.slice none 0 0] 49)
    rw [show ((w.alloc (.cells #[.string snm, .slice sgo gs.length sgc] 24)).alloc (.cells #[.string nm, .int .i64 sp, .int .i64 st, .slice so ss.length sc, .slice lo ls.length lc, .slice to_ ts.length tc] 36)).heap.size = w.heap.size + 1 + 1 from by simp] at q; exact q
  have G1 : Hid (w.grownBy (((w.alloc (.cells #[.string snm, .slice sgo gs.length sgc] 24)).alloc (.cells #[.string nm, .int .i64 sp, .int .i64 st, .slice so ss.length sc, .slice lo ls.length lc, .slice to_ ts.length tc] 36)).alloc (.cells #[.slice none 0 0] 49)) none) := grown_trans (grown_trans (World.grownBy_alloc _ _ _) (World.grownBy_alloc _ _ _)) (World.grownBy_alloc _ _ _)
  go_enter Try.func20, Try.ntmps20
  go_upto_region 1 with (fail)
  generalize (((w.alloc (.cells #[.string snm, .slice sgo gs.length sgc] 24)).alloc (.cells #[.string nm, .int .i64 sp, .int .i64 st, .slice so ss.length sc, .slice lo ls.length lc, .slice to_ ts.length tc] 36)).alloc (.cells #[.slice none 0 0] 49)) = w0 at *
  have s0 := mblock_cell B1.out 0 _ rfl
  have s1 := mblock_cell B1.out 1 _ rfl
  have y0 := mblock_cell B2.out 0 _ rfl
  have y1 := mblock_cell B2.out 1 _ rfl
  have y2 := mblock_cell B2.out 2 _ rfl
  have y3 := mblock_cell B2.out 3 _ rfl
  have y4 := mblock_cell B2.out 4 _ rfl
  have y5 := mblock_cell B2.out 5 _ rfl
  go_wp2_with fail
  refine (EF.out _ (HS.out.grown G1.out) (HA.out.grown G1.out)).mono ?_; rintro e w1 ⟨⟨ao, cap, L, rfl, hf⟩, hg1⟩
  have G2 := Lib.hid (grown_trans G1.out hg1)
  have B3 := Lib.hid (mblock_at B1.out hg1 (by simp)); have C4 := Lib.hid (mblock_at B4.out hg1 (by simp))
  have HF := Lib.hid hf
  obtain ⟨R4, hR4⟩ : ∃ n, w.heap.size + 1 + 1 = n := ⟨_, rfl⟩
  have HR4 : Hid (w.heap.size ≤ R4) := by show _ ≤ _; omega
  rw [hR4] at C4
  try rw [hR4]
  clear hf hg1 G1 B1 B2 B4 s0 s1 y0 y1 y2 y3 y4 y5 hR4 EF
  by_cases hl : M.length = 0
  · have hm : M = [] := List.eq_nil_of_length_eq_zero hl
    subst hm
    clear hl HLN HFU HGL HNZ
    simp only [List.length_nil] at *
    have f4 := mblock_free (k := 0) C4.out
    have z4 := mblock_cell C4.out 0 _ rfl
    have C5 : (w1.setCell ⟨R4, 0, none⟩ (.slice none 0 0)).heap[R4]? = some (.cells #[.slice none 0 0] 49 (0, 0)) := mblock_set C4.out _
    have c0 := mblock_cell C5 0 _ rfl
    have G3 : Hid (w.grownBy (w1.setCell ⟨R4, 0, none⟩ (.slice none 0 0)) none) := mgrown_set G2.out HR4.out _ _
    clear C5
    go_wp2_with fail
    generalize w1.setCell ⟨R4, 0, none⟩ (.slice none 0 0) = w8 at *
    refine bodyPost_ret (v := .tuple #[.agg #[.slice none 0 0], .bool false, .int .i64 E]) (by simp [results, Try.results20, go_sem, c0]) rfl ?_
    exact ⟨⟨none, 0, by simp [bstL], by simp [bstL]; exact rows_empty _⟩, G3.out⟩
  · have hl0 : 0 < M.length := by omega
    have hE0 : E = 0 := Classical.byContradiction fun h => hl (by rw [HNZ.out h]; rfl)
    subst hE0
    have e1 : ((M.length : Int) == 0) = false := beq_eq_false_iff_ne.2 (by omega)
    have HGQ := Lib.hid (HGL.out rfl)
    have hML : ∀ x ∈ M, 0 < x.length ∧ x.length ≤ 50 := fun x hx => by have := HFU.out x hx; have q := HGQ.out; omega
    obtain ⟨x, hx⟩ : ∃ x, efD L (bestI M (M.length - 1)) = x := ⟨_, rfl⟩
    have hxa : x.at_ = bstL M := by rw [← hx]; exact bst_some HF.out.lists hl0
    have hxr : RowsAt ic 1 w1 (some ⟨x.blk, 0, none⟩) x.at_ := HF.out.each x (by rw [← hx]; exact bst_mem HF.out.lists hl0)
    have HX := Lib.hid hx; have HXA := Lib.hid hxa; have HXR := Lib.hid hxr; have HMLL := Lib.hid hML
    clear hx hxa hxr hML
    go_wp2_with fail
    refine (minFunc_is ao cap M L _ HF.out hl0 HLN HMLL.out HX).mono ?_; rintro e w2 ⟨rfl, hg2⟩
    obtain ⟨xb, xc, xl⟩ := x
    simp only at HXA HXR
    have G3 := Lib.hid (grown_trans G2.out hg2)
    have C5 := Lib.hid (mblock_at C4.out hg2 (by simp))
    have HXR2 := Lib.hid (HXR.out.grown hg2)
    clear hg2 G2 C4 HXR HF HMLL HX
    go_upto_region 5 with (fail)
    have b9 := mheap_new w2 (.cells #[.slice (some ⟨xb, 0, none⟩) xl.length xc] 49)
    have gA := World.grownBy_alloc w2 (.cells #[.slice (some ⟨xb, 0, none⟩) xl.length xc] 49) none
    have G4 := Lib.hid (grown_trans G3.out gA); have C6 := Lib.hid (mblock_at C5.out gA (by simp)); have HXR3 := Lib.hid (HXR2.out.grown gA)
    clear gA G3 C5 HXR2
    generalize w2.alloc (.cells #[.slice (some ⟨xb, 0, none⟩) xl.length xc] 49) = w3 at *
    generalize w2.heap.size = R9 at *
    have z9 := mblock_cell b9 0 _ rfl
    have f4 := mblock_free (k := 0) C6.out
    have z4 := mblock_cell C6.out 0 _ rfl
    have C7 : (w3.setCell ⟨R4, 0, none⟩ (.slice (some ⟨xb, 0, none⟩) xl.length xc)).heap[R4]? = some (.cells #[.slice (some ⟨xb, 0, none⟩) xl.length xc] 49 (0, 0)) := mblock_set C6.out _
    have c0 := mblock_cell C7 0 _ rfl
    have G5 : Hid (w.grownBy (w3.setCell ⟨R4, 0, none⟩ (.slice (some ⟨xb, 0, none⟩) xl.length xc)) none) := mgrown_set G4.out HR4.out _ _
    have G6 : Hid (w3.grownBy (w3.setCell ⟨R4, 0, none⟩ (.slice (some ⟨xb, 0, none⟩) xl.length xc)) (some R4)) := ⟨rfl, rfl, rfl, by simp [World.setCell], fun j hj hne => Below.heap_setCell _ _ _ _ (by show j ≠ R4; exact fun e => hne (by rw [e]))⟩
    have hlt4 := lt_of_block C6.out
    have hne : xb ≠ R4 := fun e => by
      have hx0 : 0 < xl.length := by
        have hm : bstL M ∈ M := by
          unfold bstL
          rw [if_neg (fun e => by subst e; simp at hl0)]
          have := bestI_le M (M.length - 1)
          rw [List.getD_eq_getElem?_getD, List.getElem?_eq_getElem (by omega)]
          exact List.getElem_mem _
        rw [HXA.out]
        have := HFU.out _ hm; have q := HGQ.out; omega
      have q := (ends_at HXR3.out hx0).1
      rw [e, z4] at q
      cases q
    have HXR4 : Hid (RowsAt ic 1 (w3.setCell ⟨R4, 0, none⟩ (.slice (some ⟨xb, 0, none⟩) xl.length xc)) (some ⟨xb, 0, none⟩) xl) := HXR3.out.kept G6.out (fun a ha _ q => by cases ha; injection q with q; exact hne q)
    have e2 : decide (0 < M.length) = true := decide_eq_true hl0
    clear C7 G6 hlt4 hne
    go_wp2_with fail
    generalize w3.setCell ⟨R4, 0, none⟩ (.slice (some ⟨xb, 0, none⟩) xl.length xc) = w8 at *
    refine bodyPost_ret (v := .tuple #[.agg #[.slice (some ⟨xb, 0, none⟩) xl.length xc], .bool true, .int .i64 0]) (by simp [results, Try.results20, go_sem, c0]) rfl ?_
    have hxa := HXA.out
    subst hxa
    exact ⟨⟨some ⟨xb, 0, none⟩, xc, by rw [e2], HXR4.out⟩, G5.out⟩
end Go.Proofs.Ytckelojdjmaliaa
