/- The contract of the reference's Between. -/
import Derived.Test.YteaifonpkdjkcaaFBookE
namespace Go.Proofs.Yteaifonpkdjkcaa
open Go.RowKit Go.Maps
set_option linter.unusedSimpArgs false
set_option linter.unusedVariables false
/-- A row of states grows: the reference's book stays. -/
theorem rbk_row {w w1 : World} {B b2 rb bm n q : Nat} {first f0 g0 : Int} {F : Int → Int} {v : Value} {xs : List Value} (h : RBk w B rb bm n first f0 g0 F) (ho : w.ownsRow b2 103 5 v q xs) (hg : w.grownBy w1 v.ownBlock) : RBk w1 B rb bm n first f0 g0 F := by
  obtain ⟨D, hm, h2⟩ := h.m
  refine ⟨blk_at h.r hg (fun e => own_blk_neF ho h.r (by decide) rb e.symm rfl), ⟨D, hm.kept hg (fun e => ?_), h2⟩, h.ge1, h.ge2⟩
  obtain ⟨es, ck, hb, _⟩ := hm
  rcases ho.2 with ⟨hv, _⟩ | ⟨g, c, cur, hv, _, hg2, _⟩
  · rw [hv] at e; cases e
  · rw [hv] at e; cases e
    rw [hg2] at hb; cases hb
section
variable {w : World} {B rb bm n : Nat} {first f0 g0 : Int} {F : Int → Int}
set_option maxRecDepth 100000 in
set_option maxHeartbeats 6400000 in
theorem rbetween_is (h : RBk w B rb bm n first f0 g0 F) (hf : 0 ≤ first ∧ first ≤ 999999) (hb1 : 0 ≤ f0 ∧ f0 ≤ 10000000) (hb2 : 0 ≤ g0 ∧ g0 ≤ 10000000) (hF : ∀ d, 0 ≤ F d ∧ F d ≤ 10000) (a b : Int) {E : Int} (hE : Hid (betE first a b = E)) :
    Calls Try.prog 74 #[.pointer (some ⟨rb, 0, none⟩), .int .i64 a, .int .i64 b] w fun e w' => (∃ v, e = .returned (.tuple #[v, .int .i64 E]) ∧ w'.ownsRow w.heap.size 103 5 v (betL F first f0 g0 a b E).length (stRw (betL F first f0 g0 a b E))) ∧ w.grownBy w' none := by
  have hv := hE.out
  unfold betE at hv
  have HR := Lib.hid h; have HF := Lib.hid hf; have HB1 := Lib.hid hb1; have HB2 := Lib.hid hb2; have HFB := Lib.hid hF
  clear hE h
  have NIL : Hid (∀ (V : World) (E : Int), E ≠ 0 → V.ownsRow w.heap.size 103 5 (.slice none 0 0) (betL F first f0 g0 a b E).length (stRw (betL F first f0 g0 a b E))) := fun V E h => by unfold betL; rw [if_neg h]; exact World.ownsRow_nil _ _ _ _
  by_cases d1 : HasD first a
  · have D1 := Lib.hid d1
    by_cases d2 : HasD first b
    · have D2 := Lib.hid d2
      rw [if_pos ⟨d1, d2⟩] at hv
      by_cases d3 : b < a
      · rw [if_pos d3] at hv
        subst hv
        have g3 : decide (b < a) = true := decide_eq_true d3
        clear d1 d2 d3 hf hb1 hb2 hF
        have R0 := Lib.hid (HR.out.grown (World.grownBy_alloc w (.cells #[.int .i64 a, .int .i64 b] 3) none)); have G0 := Lib.hid (World.grownBy_alloc w (.cells #[.int .i64 a, .int .i64 b] 3) none)
        have L0 : Hid ((w.alloc (.cells #[.int .i64 a, .int .i64 b] 3)).heap[w.heap.size]? = some (.cells #[.int .i64 a, .int .i64 b] 3 (0, 0))) := heap_alloc_new w _
        go_enter Try.func74, Try.ntmps74
        go_wp2_with fail
        go_loopw [20] (fun iv wr => (iv = .int .i64 0 ∨ iv = .int .i64 1 ∨ iv = .int .i64 2) ∧ Hid (RBk wr B rb bm n first f0 g0 F) ∧ Hid (wr.heap[w.heap.size]? = some (.cells #[.int .i64 a, .int .i64 b] 3 (0, 0))) ∧ Hid (w.grownBy wr none))
          (fun iv _ => 2 - (intOf iv).toNat)
        case atStart => exact ⟨Or.inl rfl, R0, L0, G0⟩
        case round =>
          clear R0 L0 G0
          obtain ⟨hiv, hR, hL, hG⟩ := hrel
          rcases hiv with rfl | rfl | rfl
          · skip
            have q0 := blk_cell hL.out 0 _ rfl
            go_wp2_with fail
            refine (dayFault_is hR.out HF.out a (Lib.hid (if_pos D1.out : (if HasD first _ then (0 : Int) else 9) = 0))).mono ?_; rintro e w1 ⟨rfl, hg1⟩
            have R1 := Lib.hid (hR.out.grown hg1); have L1 := Lib.hid (blk_at hL.out hg1 (by simp)); have G1 := Lib.hid (hG.out.trans hg1)
            clear hR hL hG hg1 q0
            go_wp2_with fail
            go_roundw
            case rel => exact ⟨Or.inr (Or.inl rfl), R1, L1, G1⟩
            case measure => decide
          · skip
            have q1 := blk_cell hL.out 1 _ rfl
            go_wp2_with fail
            refine (dayFault_is hR.out HF.out b (Lib.hid (if_pos D2.out : (if HasD first _ then (0 : Int) else 9) = 0))).mono ?_; rintro e w1 ⟨rfl, hg1⟩
            have R1 := Lib.hid (hR.out.grown hg1); have L1 := Lib.hid (blk_at hL.out hg1 (by simp)); have G1 := Lib.hid (hG.out.trans hg1)
            clear hR hL hG hg1 q1
            go_wp2_with fail
            go_roundw
            case rel => exact ⟨Or.inr (Or.inr rfl), R1, L1, G1⟩
            case measure => decide
          · skip
            go_wp2_with fail
            go_ret2
            exact ⟨⟨_, rfl, NIL.out _ _ (by decide)⟩, hG.out⟩
      · rw [if_neg d3] at hv
        subst hv
        have g3 : decide (b < a) = false := decide_eq_false d3
        have hd1 := d1; have hd2 := d2
        unfold HasD at hd1 hd2
        obtain ⟨m, hm⟩ : ∃ m : Nat, a - first = m := ⟨(a - first).toNat, by omega⟩
        obtain ⟨N, hN⟩ : ∃ n : Nat, b - first + 1 = n := ⟨(b - first + 1).toNat, by omega⟩
        have hN5 : N ≤ 5000 := by omega
        have HL : Hid (betL F first f0 g0 a b 0 = stL F first f0 g0 m N) := by show _ = _; unfold betL; rw [if_pos rfl, hm, hN]; rfl
        have HM := Lib.hid hm; have HN := Lib.hid hN
        clear NIL d1 d2 d3 hd1 hd2 hm hN hF
        obtain ⟨i0, hi, hz0, hz1, hz2⟩ := info_parts einfo_st
        have HI0 := Lib.hid hi; have HZ0 := Lib.hid hz0; have HZ1 := Lib.hid hz1; have HZ2 := Lib.hid hz2
        clear hi hz0 hz1 hz2
        have R0 := Lib.hid (HR.out.grown (World.grownBy_alloc w (.cells #[.int .i64 a, .int .i64 b] 3) none)); have G0 := Lib.hid (World.grownBy_alloc w (.cells #[.int .i64 a, .int .i64 b] 3) none)
        have L0 : Hid ((w.alloc (.cells #[.int .i64 a, .int .i64 b] 3)).heap[w.heap.size]? = some (.cells #[.int .i64 a, .int .i64 b] 3 (0, 0))) := heap_alloc_new w _
        go_enter Try.func74, Try.ntmps74
        go_wp2_with fail
        go_loopw [20] (fun iv wr => (iv = .int .i64 0 ∨ iv = .int .i64 1 ∨ iv = .int .i64 2) ∧ Hid (RBk wr B rb bm n first f0 g0 F) ∧ Hid (wr.heap[w.heap.size]? = some (.cells #[.int .i64 a, .int .i64 b] 3 (0, 0))) ∧ Hid (w.grownBy wr none))
          (fun iv _ => 2 - (intOf iv).toNat)
        case atStart => exact ⟨Or.inl rfl, R0, L0, G0⟩
        case round =>
          clear R0 L0 G0
          obtain ⟨hiv, hR, hL, hG⟩ := hrel
          rcases hiv with rfl | rfl | rfl
          · skip
            have q0 := blk_cell hL.out 0 _ rfl
            go_wp2_with fail
            refine (dayFault_is hR.out HF.out a (Lib.hid (if_pos D1.out : (if HasD first _ then (0 : Int) else 9) = 0))).mono ?_; rintro e w1 ⟨rfl, hg1⟩
            have R1 := Lib.hid (hR.out.grown hg1); have L1 := Lib.hid (blk_at hL.out hg1 (by simp)); have G1 := Lib.hid (hG.out.trans hg1)
            clear hR hL hG hg1 q0
            go_wp2_with fail
            go_roundw
            case rel => exact ⟨Or.inr (Or.inl rfl), R1, L1, G1⟩
            case measure => decide
          · skip
            have q1 := blk_cell hL.out 1 _ rfl
            go_wp2_with fail
            refine (dayFault_is hR.out HF.out b (Lib.hid (if_pos D2.out : (if HasD first _ then (0 : Int) else 9) = 0))).mono ?_; rintro e w1 ⟨rfl, hg1⟩
            have R1 := Lib.hid (hR.out.grown hg1); have L1 := Lib.hid (blk_at hL.out hg1 (by simp)); have G1 := Lib.hid (hG.out.trans hg1)
            clear hR hL hG hg1 q1
            go_wp2_with fail
            go_roundw
            case rel => exact ⟨Or.inr (Or.inr rfl), R1, L1, G1⟩
            case measure => decide
          · skip
            have c1 := blk_cell hR.out.r 1 _ rfl; have c2 := blk_cell hR.out.r 2 _ rfl; have c0 := blk_cell hR.out.r 0 _ rfl
            go_wp2_with fail
            go_quiet (fail)
            go_wp2_with fail
            have R3 : Hid (∀ q, RBk (wr.drewN q) B rb bm n first f0 g0 F) := fun q => hR.out.grown (grown_drewN _ none q); have G3 : Hid (∀ q, w.grownBy (wr.drewN q) none) := fun q => hG.out.trans (grown_drewN wr none q)
            clear hR hL hG c0 c1 c2 g3
            go_loopw [11, 12, 13, 14] (fun fv gv lv iv wr => ∃ (k : Nat) (v : Value), v = lv ∧ k ≤ N ∧ iv = .int .i64 (first + k) ∧ fv = .int .i64 (fitK F first 42 f0 k) ∧ gv = .int .i64 (fitK F first 7 g0 k) ∧ Hid (wr.ownsRow w.heap.size 103 5 v (stL F first f0 g0 m k).length (stRw (stL F first f0 g0 m k))) ∧ Hid (RBk wr B rb bm n first f0 g0 F) ∧ Hid (w.grownBy wr none))
              (fun _ _ _ iv _ => (b + 1 - intOf iv).toNat)
            case atStart => exact ⟨0, _, rfl, Nat.zero_le _, by go_num, rfl, rfl, by rw [stL_zero]; exact World.ownsRow_nil _ _ _ _, R3.out _, G3.out _⟩
            case round =>
              clear R3 G3
              obtain ⟨k, v, rfl, hk, rfl, rfl, rfl, hO, hP, hG⟩ := hrel
              by_cases hlt : k < N
              · have gle : decide (first + (k : Int) ≤ b) = true := decide_eq_true (by have := HN.out; omega)
                obtain ⟨lv, hlv⟩ : ∃ x, F (first + k) = x := ⟨_, rfl⟩
                have HLV := Lib.hid hlv
                have hlb : 0 ≤ lv ∧ lv ≤ 10000 := by rw [← hlv]; exact HFB.out _
                have HLB := Lib.hid hlb
                have hfb := fitK_bd (F := F) (first := first) (c := 42) HB1.out HFB.out (by decide) k
                have hgb := fitK_bd (F := F) (first := first) (c := 7) HB2.out HFB.out (by decide) k
                have HFN : Hid (stepF (fitK F first 42 f0 k) lv 42 = fitK F first 42 f0 (k + 1)) := by show _ = _; rw [← hlv]; rfl
                have HGN : Hid (stepF (fitK F first 7 g0 k) lv 7 = fitK F first 7 g0 (k + 1)) := by show _ = _; rw [← hlv]; rfl
                have HST : Hid (stV F first f0 g0 k = ⟨first + k, lv, fitK F first 42 f0 (k + 1), fitK F first 7 g0 (k + 1), fitK F first 42 f0 k - fitK F first 7 g0 k⟩) := by show _ = _; unfold stV; rw [hlv]
                obtain ⟨fn, hfn⟩ : ∃ x, fitK F first 42 f0 (k + 1) = x := ⟨_, rfl⟩
                have HFE := Lib.hid hfn
                rw [hfn] at HFN HST
                clear hfn
                obtain ⟨gn, hgn⟩ : ∃ x, fitK F first 7 g0 (k + 1) = x := ⟨_, rfl⟩
                have HGE := Lib.hid hgn
                rw [hgn] at HGN HST
                clear hgn
                generalize fitK F first 42 f0 k = fk at *
                generalize fitK F first 7 g0 k = gk at *
                have r3 : IntKind.i64.wrap (first + (k : Int) + 1) = first + (k : Int) + 1 := IntWalk.i64_in _ (by have := HF.out; omega)
                have r4 : IntKind.i64.wrap (fk - gk) = fk - gk := IntWalk.i64_in _ (by omega)
                have HFK := Lib.hid hfb; have HGK := Lib.hid hgb; have HLT := Lib.hid hlt
                have c3 := blk_cell hP.out.r 3 _ rfl
                have HWF : Hid ((Lit.int .i64 (first + (k : Int))).wf = true) := wf_of (by have := HF.out; omega)
                obtain ⟨D, hm1, _, hD1⟩ := hP.out.m
                have MK := Lib.hid hm1
                have HD : Hid (∀ d, (Lit.int .i64 d).wf = true → D.atKey (.int .i64 d) (.lit (.int .i64 0)) = .lit (.int .i64 (F d))) := hD1
                clear hm1 hD1 hlb hfb hgb hlv
                have HDK : Hid (D.atKey (.int .i64 (first + (k : Int))) (.lit (.int .i64 0)) = .lit (.int .i64 lv)) := by show _ = _; rw [← HLV.out]; exact HD.out _ HWF.out
                go_upto_region 16 with (at_lookup; go_loud (refine wpList_lookup_own_int _ rfl _ _ 170 rfl 3 3 .i64 klaw Try.underlying170 Try.underlying3 (kzero _) bm n _ rfl MK.out _ _ rfl (keyOf_int_mk Try.underlying3 HWF.out) ?_); intro c hat _; obtain rfl := lit_same hat HDK.out; clear hat)
                obtain ⟨X, hX⟩ : ∃ X, wr.heap.size = X := ⟨_, rfl⟩
                have gX := World.grownBy_alloc wr (.cells #[.int .i64 (first + k), .int .i64 lv, .int .i64 0, .int .i64 0, .int .i64 (fk - gk)] 103) none
                have B4 : Hid ((wr.alloc (.cells #[.int .i64 (first + k), .int .i64 lv, .int .i64 0, .int .i64 0, .int .i64 (fk - gk)] 103)).heap[X]? = some (.cells #[.int .i64 (first + k), .int .i64 lv, .int .i64 0, .int .i64 0, .int .i64 (fk - gk)] 103 (0, 0))) := by rw [← hX]; exact heap_alloc_new wr _
                have G4 := Lib.hid gX
                have HX : Hid (wr.heap.size ≤ X) := by show _ ≤ _; omega
                rw [hX]
                clear hX gX c3
                generalize wr.alloc (.cells #[.int .i64 (first + k), .int .i64 lv, .int .i64 0, .int .i64 0, .int .i64 (fk - gk)] 103) = W4 at *
                have R4 := Lib.hid (hP.out.grown G4.out)
                have M4 := Lib.hid (MK.out.kept G4.out (by simp))
                have c3 := blk_cell R4.out.r 3 _ rfl
                have hlk : ∀ q, (Instr.lookup 170 (.map (some bm)) (.int .i64 (first + (k : Int))) false).run Try.prog (W4.drewN q) = .ok (.int .i64 lv) (W4.drewN q) := fun q => by
                  obtain ⟨c, hrun, hat, _⟩ := World.ownsMap.lookup_int (M4.out.kept (grown_drewN W4 none q) (by simp)) klaw Try.underlying170 Try.underlying3 (kzero _) (keyOf_int_mk Try.underlying3 HWF.out)
                  obtain rfl := lit_same hat HDK.out
                  exact hrun
                go_quiet (first | (go_at_call_of 138 (Value.int IntKind.i64 42); exact Calls.quiet_of_same ((rstep_is fk lv 42 HFK.out HLB.out (by decide) _ HFN).mono fun _ _ q => ⟨q.1, q.2.symm⟩)) | (go_at_call_of 138 (Value.int IntKind.i64 7); exact Calls.quiet_of_same ((rstep_is gk lv 7 HGK.out HLB.out (by decide) _ HGN).mono fun _ _ q => ⟨q.1, q.2.symm⟩)))
                have gq := grown_drewN W4 none nq
                have B5 := Lib.hid (blk_at B4.out gq (by simp))
                have G5 := Lib.hid (G4.out.trans gq)
                clear gq c3 B4 G4 hlk R4 M4
                generalize W4.drewN nq = W5 at *
                have xf2 := blk_free (k := 2) B5.out; have xf3 := blk_free (k := 3) B5.out
                have y2 := blk_cell B5.out 2 _ rfl; have y3 := blk_cell B5.out 3 _ rfl
                go_upto_region 18 with (fail)
                have B6 : Hid (((W5.setCell ⟨X, 2, none⟩ (.int .i64 fn)).setCell ⟨X, 3, none⟩ (.int .i64 gn)).heap[X]? = some (.cells #[.int .i64 (first + k), .int .i64 lv, .int .i64 fn, .int .i64 gn, .int .i64 (fk - gk)] 103 (0, 0))) := blk_set (blk_set B5.out _) _
                have G6 := Lib.hid (egrown_set (egrown_set G5.out HX.out 2 (.int .i64 fn)) HX.out 3 (.int .i64 gn))
                generalize (W5.setCell ⟨X, 2, none⟩ (.int .i64 fn)).setCell ⟨X, 3, none⟩ (.int .i64 gn) = W6 at *
                have P6 := Lib.hid (hP.out.grown G6.out)
                have O6 := Lib.hid (hO.out.kept G6.out (by cases v.ownBlock <;> simp))
                have GW6 := Lib.hid (hG.out.trans G6.out)
                clear xf2 xf3 y2 y3 B5 G5 hP hG MK
                have x0 := blk_cell B6.out 0 _ rfl; have x1 := blk_cell B6.out 1 _ rfl; have x2 := blk_cell B6.out 2 _ rfl; have x3 := blk_cell B6.out 3 _ rfl; have x4 := blk_cell B6.out 4 _ rfl
                by_cases hmk : m ≤ k
                · have g1 : decide (a ≤ first + (k : Int)) = true := decide_eq_true (by have := HM.out; omega)
                  have HSN : Hid (stL F first f0 g0 m (k + 1) = stL F first f0 g0 m k ++ [⟨first + k, lv, fn, gn, fk - gk⟩]) := by show _ = _; rw [stL_in _ _ _ _ hmk, HST.out]
                  have HLN : Hid ((stL F first f0 g0 m k).length ≤ 5000) := by show _ ≤ _; rw [stL_len]; omega
                  clear hmk
                  go_wp2_with (at_builtin; go_loud (refine wpList_append_own _ rfl _ _ 106 rfl w.heap.size 103 i0 (.agg #[.int .i64 0, .int .i64 0, .int .i64 0, .int .i64 0, .int .i64 0]) 5 40 Try.underlying106 HI0.out HZ0.out HZ1.out HZ2.out rfl (by decide) _ _ _ rfl (O6.out.alloc _) ⟨W6.heap.size, 0, none⟩ 1 1 [.int .i64 (first + k), .int .i64 lv, .int .i64 fn, .int .i64 gn, .int .i64 (fk - gk)] rfl rfl (World.news_of_block (cs := #[.int .i64 (first + k), .int .i64 lv, .int .i64 fn, .int .i64 gn, .int .i64 (fk - gk)]) (t := 103) (fr := (0, 0)) (heap_alloc_new W6 _)) (by simp [Value.oneCell']) (by have := HLN.out; unfold maxLen; omega) (by have := HLN.out; omega) (Nat.le_trans GW6.out.size (World.grownBy_alloc W6 _ none).size) ?_); intro v' w10 ho10 hg10 hnil; have O7 := Lib.hid ho10; have gA := World.grownBy_alloc W6 (.cells #[.int .i64 (first + k), .int .i64 lv, .int .i64 fn, .int .i64 gn, .int .i64 (fk - gk)] 103) none; have P7 := Lib.hid (rbk_row (P6.out.grown gA) (O6.out.alloc _) hg10); have G7 := Lib.hid (row_keep GW6.out hg10 (fun r hr => (O6.out.lt r hr).1)); clear ho10 hg10 hnil gA)
                  go_roundw
                  case rel => exact ⟨k + 1, _, rfl, HLT.out, by go_num, by rw [HFE.out], by rw [HGE.out], by rw [HSN.out, List.length_append, stRw_snoc]; exact O7.out, P7.out, G7.out⟩
                  case measure => have := HLT.out; have := HN.out; simp [intOf]; omega
                · have g1 : decide (a ≤ first + (k : Int)) = false := decide_eq_false (by have := HM.out; omega)
                  have HSN : Hid (stL F first f0 g0 m (k + 1) = stL F first f0 g0 m k) := by show _ = _; rw [stL_out _ _ _ _ (by omega)]
                  clear hmk
                  go_wp2_with fail
                  go_roundw
                  case rel => exact ⟨k + 1, _, rfl, HLT.out, by go_num, by rw [HFE.out], by rw [HGE.out], by rw [HSN.out]; exact O6.out, P6.out, GW6.out⟩
                  case measure => have := HLT.out; have := HN.out; simp [intOf]; omega
              · have gle : decide (first + (k : Int) ≤ b) = false := decide_eq_false (by have := HN.out; omega)
                obtain rfl : k = N := by omega
                go_wp2_with fail
                go_ret2
                exact ⟨⟨_, rfl, by rw [HL.out]; exact hO.out⟩, hG.out⟩
    · have D2 := Lib.hid d2
      rw [if_neg (fun q => d2 q.2)] at hv
      subst hv
      clear d1 d2 hf hb1 hb2 hF
      have R0 := Lib.hid (HR.out.grown (World.grownBy_alloc w (.cells #[.int .i64 a, .int .i64 b] 3) none)); have G0 := Lib.hid (World.grownBy_alloc w (.cells #[.int .i64 a, .int .i64 b] 3) none)
      have L0 : Hid ((w.alloc (.cells #[.int .i64 a, .int .i64 b] 3)).heap[w.heap.size]? = some (.cells #[.int .i64 a, .int .i64 b] 3 (0, 0))) := heap_alloc_new w _
      go_enter Try.func74, Try.ntmps74
      go_wp2_with fail
      go_loopw [20] (fun iv wr => (iv = .int .i64 0 ∨ iv = .int .i64 1) ∧ Hid (RBk wr B rb bm n first f0 g0 F) ∧ Hid (wr.heap[w.heap.size]? = some (.cells #[.int .i64 a, .int .i64 b] 3 (0, 0))) ∧ Hid (w.grownBy wr none))
        (fun iv _ => 2 - (intOf iv).toNat)
      case atStart => exact ⟨Or.inl rfl, R0, L0, G0⟩
      case round =>
        clear R0 L0 G0
        obtain ⟨hiv, hR, hL, hG⟩ := hrel
        rcases hiv with rfl | rfl
        · skip
          have q0 := blk_cell hL.out 0 _ rfl
          go_wp2_with fail
          refine (dayFault_is hR.out HF.out a (Lib.hid (if_pos D1.out : (if HasD first _ then (0 : Int) else 9) = 0))).mono ?_; rintro e w1 ⟨rfl, hg1⟩
          have R1 := Lib.hid (hR.out.grown hg1); have L1 := Lib.hid (blk_at hL.out hg1 (by simp)); have G1 := Lib.hid (hG.out.trans hg1)
          clear hR hL hG hg1 q0
          go_wp2_with fail
          go_roundw
          case rel => exact ⟨Or.inr rfl, R1, L1, G1⟩
          case measure => decide
        · skip
          have q1 := blk_cell hL.out 1 _ rfl
          go_wp2_with fail
          refine (dayFault_is hR.out HF.out b (Lib.hid (if_neg D2.out : (if HasD first _ then (0 : Int) else 9) = 9))).mono ?_; rintro e w1 ⟨rfl, hg1⟩
          have R1 := Lib.hid (hR.out.grown hg1); have L1 := Lib.hid (blk_at hL.out hg1 (by simp)); have G1 := Lib.hid (hG.out.trans hg1)
          clear hR hL hG hg1 q1
          go_wp2_with fail
          go_ret2
          exact ⟨⟨_, rfl, NIL.out _ _ (by decide)⟩, G1.out⟩
  · have D1 := Lib.hid d1
    rw [if_neg (fun q => d1 q.1)] at hv
    subst hv
    clear d1 hf hb1 hb2 hF
    have R0 := Lib.hid (HR.out.grown (World.grownBy_alloc w (.cells #[.int .i64 a, .int .i64 b] 3) none)); have G0 := Lib.hid (World.grownBy_alloc w (.cells #[.int .i64 a, .int .i64 b] 3) none)
    have L0 : Hid ((w.alloc (.cells #[.int .i64 a, .int .i64 b] 3)).heap[w.heap.size]? = some (.cells #[.int .i64 a, .int .i64 b] 3 (0, 0))) := heap_alloc_new w _
    go_enter Try.func74, Try.ntmps74
    go_wp2_with fail
    go_loopw [20] (fun iv wr => (iv = .int .i64 0) ∧ Hid (RBk wr B rb bm n first f0 g0 F) ∧ Hid (wr.heap[w.heap.size]? = some (.cells #[.int .i64 a, .int .i64 b] 3 (0, 0))) ∧ Hid (w.grownBy wr none))
      (fun iv _ => 2 - (intOf iv).toNat)
    case atStart => exact ⟨rfl, R0, L0, G0⟩
    case round =>
      clear R0 L0 G0
      obtain ⟨hiv, hR, hL, hG⟩ := hrel
      subst hiv
      have q0 := blk_cell hL.out 0 _ rfl
      go_wp2_with fail
      refine (dayFault_is hR.out HF.out a (Lib.hid (if_neg D1.out : (if HasD first _ then (0 : Int) else 9) = 9))).mono ?_; rintro e w1 ⟨rfl, hg1⟩
      have R1 := Lib.hid (hR.out.grown hg1); have L1 := Lib.hid (blk_at hL.out hg1 (by simp)); have G1 := Lib.hid (hG.out.trans hg1)
      clear hR hL hG hg1 q0
      go_wp2_with fail
      go_ret2
      exact ⟨⟨_, rfl, NIL.out _ _ (by decide)⟩, G1.out⟩
end
end Go.Proofs.Yteaifonpkdjkcaa

