/- The law's walk: both sides' efforts are equal, and the best of them. -/
import Derived.Test.YtckelojdjmaliaaMRBestO
namespace Go.Proofs.Ytckelojdjmaliaa
open Go.RowKit
set_option linter.unusedSimpArgs false
set_option linter.unusedVariables false

attribute [local go_sem] Oper.semAt_some

set_option maxHeartbeats 1600000 in
theorem equal_ic {w : World} {a1 a2 : Option Addr} {c1 c2 : Nat} {L : List Int} (h1 : RowsAt ic 1 w a1 L) (h2 : RowsAt ic 1 w a2 L) (hn : (L.length : Int) ≤ 9223372036854775807) :
    Calls Try.prog 23 #[.slice a1 L.length c1, .slice a2 L.length c2] w fun e w' => e = .returned (.bool true) ∧ w.grownBy w' none := by
  have Q1 := Lib.hid h1; have Q2 := Lib.hid h2
  clear h1 h2
  go_enter Try.func23, Try.ntmps23
  go_wp2_with fail
  go_loopw [13] (fun iv wr => ∃ k : Nat, k ≤ L.length ∧ iv = .int .i64 k ∧ Hid (w.grownBy wr none)) (fun iv _ => L.length - (intOf iv).toNat)
  case atStart => exact ⟨0, Nat.zero_le _, rfl, grown_refl _ _⟩
  case round =>
    obtain ⟨k, hk, rfl, hg⟩ := hrel
    by_cases hlt : k < L.length
    · obtain ⟨b1, o1, rfl, q1⟩ := rows_at (Q1.out.grown hg.out) (by omega)
      obtain ⟨b2, o2, rfl, q2⟩ := rows_at (Q2.out.grown hg.out) (by omega)
      have x0 : wr.cell? ⟨b1, o1 + k, none⟩ = some (.int .i64 L[k]) := by have t := q1 k hlt 0 _ rfl; simpa using t
      have y0 : wr.cell? ⟨b2, o2 + k, none⟩ = some (.int .i64 L[k]) := by have t := q2 k hlt 0 _ rfl; simpa using t
      generalize L[k] = h at *
      clear q1 q2
      go_wp2_with fail
      go_quiet (fail)
      go_wp2_with fail
      go_roundw
      case rel => exact ⟨k + 1, by omega, by go_num, grown_trans hg.out (grown_drewN _ _ _)⟩
      case measure => simp [intOf]; omega
    · go_wp2_with fail
      go_ret
      exact ⟨rfl, hg.out⟩

set_option maxHeartbeats 1600000 in
theorem same1_is (xb xc yb yc : Nat) (l : List Int) (w : World) (hx : RowsAt ic 1 w (some ⟨xb, 0, none⟩) l) (hy : RowsAt ic 1 w (some ⟨yb, 0, none⟩) l) (hn : l.length ≤ 50) :
    Calls Try.prog 58 #[.agg #[.slice (some ⟨xb, 0, none⟩) l.length xc], .agg #[.slice (some ⟨yb, 0, none⟩) l.length yc]] w fun e w' => e = .returned (.bool true) ∧ w.grownBy w' none := by
  have HX := Lib.hid hx; have HY := Lib.hid hy; have HN := Lib.hid hn
  clear hx hy hn
  have B2 : Hid (((w.alloc (.cells #[.slice (some ⟨xb, 0, none⟩) l.length xc] 49)).alloc (.cells #[.slice (some ⟨yb, 0, none⟩) l.length yc] 49)).heap[w.heap.size + 1]? = some (.cells #[.slice (some ⟨yb, 0, none⟩) l.length yc] 49 (0, 0))) := by
    have q := mheap_new (w.alloc (.cells #[.slice (some ⟨xb, 0, none⟩) l.length xc] 49)) (.cells #[.slice (some ⟨yb, 0, none⟩) l.length yc] 49)
    rw [show (w.alloc (.cells #[.slice (some ⟨xb, 0, none⟩) l.length xc] 49)).heap.size = w.heap.size + 1 from by simp] at q; exact q
  have B1 : Hid (((w.alloc (.cells #[.slice (some ⟨xb, 0, none⟩) l.length xc] 49)).alloc (.cells #[.slice (some ⟨yb, 0, none⟩) l.length yc] 49)).heap[w.heap.size]? = some (.cells #[.slice (some ⟨xb, 0, none⟩) l.length xc] 49 (0, 0))) := mblock_at (mheap_new w _) (World.grownBy_alloc _ _ none) (by simp)
  have G1 : Hid (w.grownBy ((w.alloc (.cells #[.slice (some ⟨xb, 0, none⟩) l.length xc] 49)).alloc (.cells #[.slice (some ⟨yb, 0, none⟩) l.length yc] 49)) none) := grown_trans (World.grownBy_alloc _ _ _) (World.grownBy_alloc _ _ _)
  go_enter Try.func58, Try.ntmps58
  go_upto_region 1 with (fail)
  generalize ((w.alloc (.cells #[.slice (some ⟨xb, 0, none⟩) l.length xc] 49)).alloc (.cells #[.slice (some ⟨yb, 0, none⟩) l.length yc] 49)) = w1 at *
  have z0 := mblock_cell B1.out 0 _ rfl; have z1 := mblock_cell B2.out 0 _ rfl
  clear B1 B2
  go_wp2_with fail
  refine (equal_ic (HX.out.grown G1.out) (HY.out.grown G1.out) (by have := HN.out; omega)).mono ?_; rintro e w2 ⟨rfl, hg2⟩
  have G2 := Lib.hid (grown_trans G1.out hg2)
  clear hg2 G1 z0 z1
  go_wp2_with fail
  go_ret
  exact ⟨rfl, G2.out⟩

set_option maxRecDepth 100000 in
set_option maxHeartbeats 3200000 in
theorem equalF_is (a1 a2 : Option Addr) (c1 c2 : Nat) (M : List (List Int)) (L1 L2 : List EffV) (w : World) (h1 : EffAt w a1 M L1) (h2 : EffAt w a2 M L2) (hl : M.length ≤ 1000000) (hM : ∀ x ∈ M, x.length ≤ 50) :
    Calls Try.prog 57 #[.slice a1 M.length c1, .slice a2 M.length c2, .func (.func 58) #[] #[]] w fun e w' => e = .returned (.bool true) ∧ w.grownBy w' none := by
  have Q1 := Lib.hid h1; have Q2 := Lib.hid h2; have HM := Lib.hid hM
  clear h1 h2 hM
  go_enter Try.func57, Try.ntmps57
  go_wp2_with fail
  go_loopw [17] (fun iv wr => ∃ k : Nat, k ≤ M.length ∧ iv = .int .i64 k ∧ Hid (w.grownBy wr none)) (fun iv _ => M.length - (intOf iv).toNat)
  case atStart => exact ⟨0, Nat.zero_le _, rfl, grown_refl _ _⟩
  case round =>
    obtain ⟨k, hk, rfl, hg⟩ := hrel
    obtain ⟨wo, hwo⟩ : ∃ W : World, W = wr := ⟨_, rfl⟩
    subst hwo
    by_cases hlt : k < M.length
    · have k1 : k < L1.length := by rw [Q1.out.len]; exact hlt
      have k2 : k < L2.length := by rw [Q2.out.len]; exact hlt
      obtain ⟨b1, o1, rfl, q1⟩ := rows_at (Q1.out.row.grown hg.out) (by omega)
      obtain ⟨b2, o2, rfl, q2⟩ := rows_at (Q2.out.row.grown hg.out) (by omega)
      have x0 := q1 k k1 0 _ rfl; have y0 := q2 k k2 0 _ rfl
      rw [← efD_at k1] at x0
      rw [← efD_at k2] at y0
      have r1 := (Q1.out.each _ (efD_mem k1)).grown hg.out
      have r2 := (Q2.out.each _ (efD_mem k2)).grown hg.out
      have e1 := efD_list Q1.out.lists k1
      have e2 := efD_list Q2.out.lists k2
      have hml : (M.getD k []).length ≤ 50 := by
        apply HM.out
        rw [List.getD_eq_getElem?_getD, List.getElem?_eq_getElem hlt]
        exact List.getElem_mem _
      have HG := Lib.hid hg.out
      generalize efD L1 k = x at *
      generalize efD L2 k = y at *
      obtain ⟨xb, xc, xl⟩ := x
      obtain ⟨yb, yc, yl⟩ := y
      simp only at e1 e2 x0 y0 r1 r2
      have x1 : wo.cell? ⟨b1, o1 + k, none⟩ = some (.slice (some ⟨xb, 0, none⟩) xl.length xc) := by simpa using x0
      have y1 : wo.cell? ⟨b2, o2 + k, none⟩ = some (.slice (some ⟨yb, 0, none⟩) yl.length yc) := by simpa using y0
      generalize M.getD k [] = z at *
      subst e1; subst e2
      have R1 := Lib.hid r1; have R2 := Lib.hid r2; have HZ := Lib.hid hml
      have kl0 : (k : Int) < (M.length : Int) := by omega
      clear q1 q2 x0 y0 r1 r2 hg hml k1 k2
      go_upto_region 6 with (fail)
      have b8 := mheap_new wo (.cells #[.slice (some ⟨xb, 0, none⟩) yl.length xc] 49)
      have gA := World.grownBy_alloc wo (.cells #[.slice (some ⟨xb, 0, none⟩) yl.length xc] 49) none
      have HG2 := Lib.hid (grown_trans HG.out gA); have R12 := Lib.hid (R1.out.grown gA); have R22 := Lib.hid (R2.out.grown gA)
      replace y1 := grown_cell gA y1
      have B8 := Lib.hid b8
      clear gA HG R1 R2 x1 b8
      generalize wo.alloc (.cells #[.slice (some ⟨xb, 0, none⟩) yl.length xc] 49) = w2 at *
      generalize wo.heap.size = S8 at *
      go_upto_region 7 with (fail)
      have b9 := mheap_new w2 (.cells #[.slice (some ⟨yb, 0, none⟩) yl.length yc] 49)
      have gA := World.grownBy_alloc w2 (.cells #[.slice (some ⟨yb, 0, none⟩) yl.length yc] 49) none
      have HG3 := Lib.hid (grown_trans HG2.out gA); have R13 := Lib.hid (R12.out.grown gA); have R23 := Lib.hid (R22.out.grown gA)
      have B82 := Lib.hid (mblock_at B8.out gA (by simp))
      clear gA HG2 R12 R22 y1 B8
      generalize w2.alloc (.cells #[.slice (some ⟨yb, 0, none⟩) yl.length yc] 49) = w3 at *
      generalize w2.heap.size = S9 at *
      have z8 := mblock_cell B82.out 0 _ rfl; have z9 := mblock_cell b9 0 _ rfl
      clear b9 B82
      go_wp2_with fail
      refine (same1_is xb xc yb yc yl _ R13.out R23.out HZ.out).mono ?_; rintro e w4 ⟨rfl, hg4⟩
      have HG4 := Lib.hid (grown_trans HG3.out hg4)
      clear hg4 HG3 R13 R23 z8 z9
      go_wp2_with fail
      go_roundw
      case rel => exact ⟨k + 1, by omega, by go_num, HG4.out⟩
      case measure => simp [intOf]; omega
    · go_wp2_with fail
      go_ret
      exact ⟨rfl, hg.out⟩

theorem sameEff_is (a1 a2 : Option Addr) (c1 c2 : Nat) (M : List (List Int)) (L1 L2 : List EffV) (w : World) (h1 : EffAt w a1 M L1) (h2 : EffAt w a2 M L2) (hl : M.length ≤ 1000000) (hM : ∀ x ∈ M, x.length ≤ 50) :
    Calls Try.prog 22 #[.slice a1 M.length c1, .slice a2 M.length c2] w fun e w' => e = .returned (.bool true) ∧ w.grownBy w' none := by
  have Q1 := Lib.hid h1; have Q2 := Lib.hid h2; have HM := Lib.hid hM
  clear h1 h2 hM
  go_enter Try.func22, Try.ntmps22
  go_wp2_with fail
  refine (equalF_is a1 a2 c1 c2 M L1 L2 _ Q1.out Q2.out hl HM.out).mono ?_; rintro e w2 ⟨rfl, hg2⟩
  have G2 := Lib.hid hg2
  clear hg2
  go_wp2_with fail
  go_ret
  exact ⟨rfl, G2.out⟩
theorem bst_len {s : Seg} {a : Act} : (bstL (effL s a)).length ≤ s.gs.length := by
  unfold bstL
  split
  · simp
  · rename_i h
    have hp : 0 < (effL s a).length := List.length_pos_iff.2 h
    have := bestI_le (effL s a) ((effL s a).length - 1)
    have hm : (effL s a).getD (bestI (effL s a) ((effL s a).length - 1)) [] ∈ effL s a := by
      rw [List.getD_eq_getElem?_getD, List.getElem?_eq_getElem (by omega)]
      exact List.getElem_mem _
    rw [effL_full _ hm]; exact Nat.le_refl _
theorem eff_short {s : Seg} {a : Act} : ∀ x ∈ effL s a, x.length ≤ 50 := fun x hx => by
  have h := effL_full x hx
  have hc : crsE s a = 0 := Classical.byContradiction fun hc => by unfold effL at hx; rw [if_neg hc] at hx; cases hx
  have := (crs_right hc).2.1
  omega

set_option maxRecDepth 100000 in
set_option maxHeartbeats 3200000 in
theorem eff_law (s : Seg) (a : Act) (w : World) (hs : SegAt w s) (ha : ActAt w a) (hac : a.ss.length ≤ a.sc) :
    Calls Try.prog 5 #[s.val, a.val] w fun e w' => e = .returned (.bool true) ∧ w.grownBy w' none := by
  obtain ⟨E, hE⟩ : ∃ e, crsE s a = e := ⟨_, rfl⟩
  have HE := Lib.hid hE; have HS := Lib.hid hs; have HA := Lib.hid ha
  have P1 : Hid (∀ W : World, SegAt W s → ActAt W a → Calls Try.prog 18 #[s.val, a.val] W fun e w' => (∃ ao cap L, e = .returned (.tuple #[.slice ao (effL s a).length cap, .int .i64 E]) ∧ EffAt w' ao (effL s a) L) ∧ W.grownBy w' none) := fun W h1 h2 => Efforts_is s a W h1 h2 HE
  have P2 : Hid (∀ W : World, SegAt W s → ActAt W a → Calls Try.prog 19 #[s.val, a.val] W fun e w' => (∃ ao cap L, e = .returned (.tuple #[.slice ao (effL s a).length cap, .int .i64 E]) ∧ EffAt w' ao (effL s a) L) ∧ W.grownBy w' none) := fun W h1 h2 => rEfforts_is s a W h1 h2 HE
  have P3 : Hid (∀ W : World, SegAt W s → ActAt W a → Calls Try.prog 20 #[s.val, a.val] W fun e w' => (∃ ao cap, e = .returned (.tuple #[.agg #[.slice ao (bstL (effL s a)).length cap], .bool (decide (0 < (effL s a).length)), .int .i64 E]) ∧ RowsAt ic 1 w' ao (bstL (effL s a))) ∧ W.grownBy w' none) := fun W h1 h2 => Best_is s a W h1 h2 HE
  have P4 : Hid (∀ W : World, SegAt W s → ActAt W a → Calls Try.prog 21 #[s.val, a.val] W fun e w' => (∃ ao cap, e = .returned (.tuple #[.agg #[.slice ao (bstL (effL s a)).length cap], .bool (decide (0 < (effL s a).length)), .int .i64 E]) ∧ RowsAt ic 1 w' ao (bstL (effL s a))) ∧ W.grownBy w' none) := fun W h1 h2 => rBest_is s a W h1 h2 HE
  have HSH := Lib.hid (eff_short (s := s) (a := a))
  have hln := effL_len s a
  have hbl : (bstL (effL s a)).length ≤ 1000000 := by
    by_cases hc : crsE s a = 0
    · have := (crs_right hc).2.1; have := bst_len (s := s) (a := a); omega
    · have : effL s a = [] := by unfold effL; rw [if_neg hc]
      rw [this]; simp [bstL]
  obtain ⟨B, hB⟩ : ∃ b, decide (0 < (effL s a).length) = b := ⟨_, rfl⟩
  rw [hB] at P3 P4
  generalize bstL (effL s a) = Q at *
  generalize effL s a = M at *
  obtain ⟨snm, sgo, sgc, gs⟩ := s
  obtain ⟨nm, sp, st, so, sc, ss, lo, lc, ls, to_, tc, ts⟩ := a
  simp only [Seg.val, Act.val] at *
  clear hE hs ha hac hB
  have B1 : Hid (((w.alloc (.cells #[.string snm, .slice sgo gs.length sgc] 24)).alloc (.cells #[.string nm, .int .i64 sp, .int .i64 st, .slice so ss.length sc, .slice lo ls.length lc, .slice to_ ts.length tc] 36)).heap[w.heap.size]? = some (.cells #[.string snm, .slice sgo gs.length sgc] 24 (0, 0))) := mblock_at (mheap_new w _) (World.grownBy_alloc _ _ none) (by simp)
  have B2 : Hid (((w.alloc (.cells #[.string snm, .slice sgo gs.length sgc] 24)).alloc (.cells #[.string nm, .int .i64 sp, .int .i64 st, .slice so ss.length sc, .slice lo ls.length lc, .slice to_ ts.length tc] 36)).heap[w.heap.size + 1]? = some (.cells #[.string nm, .int .i64 sp, .int .i64 st, .slice so ss.length sc, .slice lo ls.length lc, .slice to_ ts.length tc] 36 (0, 0))) := by
    have q := mheap_new (w.alloc (.cells #[.string snm, .slice sgo gs.length sgc] 24)) (.cells #[.string nm, .int .i64 sp, .int .i64 st, .slice so ss.length sc, .slice lo ls.length lc, .slice to_ ts.length tc] 36)
    rw [show (w.alloc (.cells #[.string snm, .slice sgo gs.length sgc] 24)).heap.size = w.heap.size + 1 from by simp] at q; exact q
  have G1 : Hid (w.grownBy ((w.alloc (.cells #[.string snm, .slice sgo gs.length sgc] 24)).alloc (.cells #[.string nm, .int .i64 sp, .int .i64 st, .slice so ss.length sc, .slice lo ls.length lc, .slice to_ ts.length tc] 36)) none) := grown_trans (World.grownBy_alloc _ _ _) (World.grownBy_alloc _ _ _)
  go_enter Try.func5, Try.ntmps5
  go_upto_region 1 with (fail)
  generalize ((w.alloc (.cells #[.string snm, .slice sgo gs.length sgc] 24)).alloc (.cells #[.string nm, .int .i64 sp, .int .i64 st, .slice so ss.length sc, .slice lo ls.length lc, .slice to_ ts.length tc] 36)) = w0 at *
  have s0 := mblock_cell B1.out 0 _ rfl; have s1 := mblock_cell B1.out 1 _ rfl
  have y0 := mblock_cell B2.out 0 _ rfl; have y1 := mblock_cell B2.out 1 _ rfl; have y2 := mblock_cell B2.out 2 _ rfl; have y3 := mblock_cell B2.out 3 _ rfl; have y4 := mblock_cell B2.out 4 _ rfl; have y5 := mblock_cell B2.out 5 _ rfl
  go_wp2_with fail
  refine (P1.out _ (HS.out.grown G1.out) (HA.out.grown G1.out)).mono ?_; rintro e w1 ⟨⟨o1, c1, L1, rfl, p1⟩, hg1⟩
  have G2 := Lib.hid (grown_trans G1.out hg1); have K1 := Lib.hid p1
  replace s0 := grown_cell hg1 s0; replace s1 := grown_cell hg1 s1; replace y0 := grown_cell hg1 y0; replace y1 := grown_cell hg1 y1; replace y2 := grown_cell hg1 y2; replace y3 := grown_cell hg1 y3; replace y4 := grown_cell hg1 y4; replace y5 := grown_cell hg1 y5
  clear hg1 p1 B1 B2 G1 P1
  go_wp2_with fail
  refine (P2.out _ (HS.out.grown G2.out) (HA.out.grown G2.out)).mono ?_; rintro e w2 ⟨⟨o2, c2, L2, rfl, p2⟩, hg2⟩
  have G3 := Lib.hid (grown_trans G2.out hg2); have K2 := Lib.hid p2; have K12 := Lib.hid (K1.out.grown hg2)
  replace s0 := grown_cell hg2 s0; replace s1 := grown_cell hg2 s1; replace y0 := grown_cell hg2 y0; replace y1 := grown_cell hg2 y1; replace y2 := grown_cell hg2 y2; replace y3 := grown_cell hg2 y3; replace y4 := grown_cell hg2 y4; replace y5 := grown_cell hg2 y5
  clear hg2 p2 G2 P2 K1
  go_wp2_with fail
  refine (P3.out _ (HS.out.grown G3.out) (HA.out.grown G3.out)).mono ?_; rintro e w3 ⟨⟨o3, c3, rfl, p3⟩, hg3⟩
  have G4 := Lib.hid (grown_trans G3.out hg3); have K3 := Lib.hid p3; have K13 := Lib.hid (K12.out.grown hg3); have K23 := Lib.hid (K2.out.grown hg3)
  replace s0 := grown_cell hg3 s0; replace s1 := grown_cell hg3 s1; replace y0 := grown_cell hg3 y0; replace y1 := grown_cell hg3 y1; replace y2 := grown_cell hg3 y2; replace y3 := grown_cell hg3 y3; replace y4 := grown_cell hg3 y4; replace y5 := grown_cell hg3 y5
  clear hg3 p3 G3 P3 K12 K2
  go_upto_region 4 with (fail)
  have b9 := mheap_new w3 (.cells #[.slice o3 Q.length c3] 49)
  have gA := World.grownBy_alloc w3 (.cells #[.slice o3 Q.length c3] 49) none
  have G5 := Lib.hid (grown_trans G4.out gA); have K34 := Lib.hid (K3.out.grown gA); have K14 := Lib.hid (K13.out.grown gA); have K24 := Lib.hid (K23.out.grown gA)
  replace s0 := grown_cell gA s0; replace s1 := grown_cell gA s1; replace y0 := grown_cell gA y0; replace y1 := grown_cell gA y1; replace y2 := grown_cell gA y2; replace y3 := grown_cell gA y3; replace y4 := grown_cell gA y4; replace y5 := grown_cell gA y5
  have B9 := Lib.hid b9
  clear gA b9 G4 K3 K13 K23
  generalize w3.alloc (.cells #[.slice o3 Q.length c3] 49) = w4 at *
  generalize w3.heap.size = R9 at *
  go_wp2_with fail
  refine (P4.out _ (HS.out.grown G5.out) (HA.out.grown G5.out)).mono ?_; rintro e w5 ⟨⟨o4, c4, rfl, p4⟩, hg4⟩
  have G6 := Lib.hid (grown_trans G5.out hg4); have K4 := Lib.hid p4; have K35 := Lib.hid (K34.out.grown hg4); have K15 := Lib.hid (K14.out.grown hg4); have K25 := Lib.hid (K24.out.grown hg4)
  have B92 := Lib.hid (mblock_at B9.out hg4 (by simp))
  clear hg4 p4 G5 P4 K34 K14 K24 s0 s1 y0 y1 y2 y3 y4 y5 B9
  go_upto_region 5 with (fail)
  have b12 := mheap_new w5 (.cells #[.slice o4 Q.length c4] 49)
  have gA := World.grownBy_alloc w5 (.cells #[.slice o4 Q.length c4] 49) none
  have G7 := Lib.hid (grown_trans G6.out gA); have K46 := Lib.hid (K4.out.grown gA); have K36 := Lib.hid (K35.out.grown gA); have K16 := Lib.hid (K15.out.grown gA); have K26 := Lib.hid (K25.out.grown gA)
  have B93 := Lib.hid (mblock_at B92.out gA (by simp)); have B12 := Lib.hid b12
  clear gA b12 G6 K4 K35 K15 K25 B92
  generalize w5.alloc (.cells #[.slice o4 Q.length c4] 49) = w6 at *
  generalize w5.heap.size = R12 at *
  go_wp2_with fail
  refine (sameEff_is o1 o2 c1 c2 M L1 L2 _ K16.out K26.out hln HSH.out).mono ?_; rintro e w7 ⟨rfl, hg7⟩
  have G8 := Lib.hid (grown_trans G7.out hg7); have K47 := Lib.hid (K46.out.grown hg7); have K37 := Lib.hid (K36.out.grown hg7)
  have z9 := mblock_cell (mblock_at B93.out hg7 (by simp)) 0 _ rfl; have z12 := mblock_cell (mblock_at B12.out hg7 (by simp)) 0 _ rfl
  clear hg7 G7 K46 K36 K16 K26 B93 B12
  go_wp2_with fail
  refine (equal_ic K37.out K47.out (by omega)).mono ?_; rintro e w8 ⟨rfl, hg8⟩
  have G9 := Lib.hid (grown_trans G8.out hg8)
  clear hg8 G8 K47 K37 z9 z12
  go_wp2_with fail
  refine (told5_any _).mono ?_; rintro e w9 ⟨rfl, hg9⟩
  have G10 := Lib.hid (grown_trans G9.out hg9)
  clear hg9 G9
  go_wp2_with fail
  go_ret
  exact ⟨rfl, G10.out⟩
end Go.Proofs.Ytckelojdjmaliaa
