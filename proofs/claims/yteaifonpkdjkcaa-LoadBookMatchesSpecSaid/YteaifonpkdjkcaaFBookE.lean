/- The contract of the program's Between. -/
import Derived.Test.YteaifonpkdjkcaaFBookD
import Derived.Deep.RegionHeld3
import Derived.Deep.CutBlock
import Derived.Deep.DeepCutAuto
namespace Go.Proofs.Yteaifonpkdjkcaa
open Go.RowKit Go.Maps
set_option linter.unusedSimpArgs false
set_option linter.unusedVariables false

theorem einfo_st : (Try.prog.info? 103).map (fun i => (i.zero, i.size, i.bytes)) = some (some (.agg #[.int .i64 0, .int .i64 0, .int .i64 0, .int .i64 0, .int .i64 0]), 5, 40) := by kernel_rfl
/-- What Between returns. -/
def betL (F : Int → Int) (first f0 g0 a b E : Int) : List StV := if E = 0 then stL F first f0 g0 (a - first).toNat (b - first + 1).toNat else []
/-- A row of states grows: the book stays. -/
theorem pbk_row {w w1 : World} {B b2 g : Nat} {first f0 g0 : Int} {L : List Int} {ao : Option Addr} {cap n : Nat} {v : Value} {xs : List Value} (h : PBk w B g first f0 g0 L ao cap) (ho : w.ownsRow b2 103 5 v n xs) (hg : w.grownBy w1 v.ownBlock) : PBk w1 B g first f0 g0 L ao cap := by
  refine ⟨blk_at h.b hg (fun e => own_blk_neF ho h.b (by decide) g e.symm rfl), h.r.kept hg ?_, h.ge, h.bd, h.len⟩
  rcases h.r.2 with ⟨hv2, _⟩ | ⟨g', c, cur, hv2, _, hg2, _⟩
  · rw [hv2]; exact .inl rfl
  · rw [hv2]
    exact .inr (fun e => own_blk_neF ho hg2 (by decide) g' e.symm rfl)
theorem row_keep {w w1 w2 : World} {o : Obj} {row : Option Nat} (h : w.grownBy w1 none) (g : (w1.alloc o).grownBy w2 row) (hr : ∀ k, row = some k → w.heap.size ≤ k) : w.grownBy w2 none := fgrown_own h g hr
section
variable {w : World} {B g : Nat} {first f0 g0 : Int} {L : List Int} {ao : Option Addr} {cap : Nat}
set_option maxRecDepth 100000 in
set_option maxHeartbeats 6400000 in
theorem between_is (h : PBk w B g first f0 g0 L ao cap) (hf : 0 ≤ first ∧ first ≤ 999999) (hb1 : 0 ≤ f0 ∧ f0 ≤ 10000000) (hb2 : 0 ≤ g0 ∧ g0 ≤ 10000000) (a b : Int) {E : Int} (hE : Hid (betE first a b = E)) :
    Calls Try.prog 73 #[.pointer (some ⟨g, 0, none⟩), .int .i64 a, .int .i64 b] w fun e w' => (∃ v, e = .returned (.tuple #[v, .int .i64 E]) ∧ w'.ownsRow w.heap.size 103 5 v (betL (fun d => ldA L (d - first)) first f0 g0 a b E).length (stRw (betL (fun d => ldA L (d - first)) first f0 g0 a b E))) ∧ w.grownBy w' none := by
  have hv := hE.out
  unfold betE at hv
  have HP := Lib.hid h; have HF := Lib.hid hf; have HB1 := Lib.hid hb1; have HB2 := Lib.hid hb2
  clear hE h
  have NIL : Hid (∀ (V : World) (E : Int), E ≠ 0 → V.ownsRow w.heap.size 103 5 (.slice none 0 0) (betL (fun d => ldA L (d - first)) first f0 g0 a b E).length (stRw (betL (fun d => ldA L (d - first)) first f0 g0 a b E))) := fun V E h => by unfold betL; rw [if_neg h]; exact World.ownsRow_nil _ _ _ _
  by_cases d1 : HasD first a
  · have g1 : decide (HasD first a) = true := decide_eq_true d1
    by_cases d2 : HasD first b
    · have g2 : decide (HasD first b) = true := decide_eq_true d2
      rw [if_pos ⟨d1, d2⟩] at hv
      by_cases d3 : b < a
      · rw [if_pos d3] at hv
        subst hv
        have g3 : decide (b < a) = true := decide_eq_true d3
        clear d1 d2 d3 hf hb1 hb2
        go_enter Try.func73, Try.ntmps73
        go_wp2_with fail
        refine (has_is HP.out HF.out a).mono ?_; rintro e w1 ⟨rfl, hg1⟩
        have P1 := Lib.hid (HP.out.grown hg1); have G1 := Lib.hid hg1
        clear hg1
        simp only [g1]
        go_wp2_with fail
        refine (has_is P1.out HF.out b).mono ?_; rintro e w2 ⟨rfl, hg2⟩
        have P2 := Lib.hid (P1.out.grown hg2); have G2 := Lib.hid (G1.out.trans hg2)
        clear hg2
        simp only [g2]
        go_wp2_with fail
        go_ret2
        exact ⟨⟨_, rfl, NIL.out _ _ (by decide)⟩, G2.out⟩
      · rw [if_neg d3] at hv
        subst hv
        have g3 : decide (b < a) = false := decide_eq_false d3
        have hd1 := d1; have hd2 := d2
        unfold HasD at hd1 hd2
        obtain ⟨m, hm⟩ : ∃ m : Nat, a - first = m := ⟨(a - first).toNat, by omega⟩
        obtain ⟨N, hN⟩ : ∃ n : Nat, b - first + 1 = n := ⟨(b - first + 1).toNat, by omega⟩
        have r1 : IntKind.i64.wrap (b - first) = b - first := IntWalk.i64_in _ (by omega)
        have r2 : IntKind.i64.wrap (b - first + 1) = (N : Int) := by rw [hN]; exact IntWalk.i64_in _ (by omega)
        have hN5 : N ≤ 5000 := by omega
        have HL : Hid (betL (fun d => ldA L (d - first)) first f0 g0 a b 0 = stL (fun d => ldA L (d - first)) first f0 g0 m N) := by show _ = _; unfold betL; rw [if_pos rfl, hm, hN]; rfl
        have HM := Lib.hid hm; have HN := Lib.hid hN
        obtain ⟨FX, hFX⟩ : ∃ F : Int → Int, (fun d => ldA L (d - first)) = F := ⟨_, rfl⟩
        have HFX := Lib.hid hFX
        rw [hFX] at HL ⊢
        clear NIL
        have HFB : Hid (∀ d, 0 ≤ FX d ∧ FX d ≤ 10000) := fun d => by rw [← hFX]; exact ldA_bd HP.out.bd _
        clear d1 d2 d3 hd1 hd2 hm hN hFX
        obtain ⟨i0, hi, hz0, hz1, hz2⟩ := info_parts einfo_st
        have HI0 := Lib.hid hi; have HZ0 := Lib.hid hz0; have HZ1 := Lib.hid hz1; have HZ2 := Lib.hid hz2
        clear hi hz0 hz1 hz2
        go_enter Try.func73, Try.ntmps73
        go_wp2_with fail
        refine (has_is HP.out HF.out a).mono ?_; rintro e w1 ⟨rfl, hg1⟩
        have P1 := Lib.hid (HP.out.grown hg1); have G1 := Lib.hid hg1
        clear hg1
        simp only [g1]
        go_wp2_with fail
        refine (has_is P1.out HF.out b).mono ?_; rintro e w2 ⟨rfl, hg2⟩
        have P2 := Lib.hid (P1.out.grown hg2); have G2 := Lib.hid (G1.out.trans hg2)
        clear hg2
        simp only [g2]
        have c1 := blk_cell P2.out.b 1 _ rfl; have c2 := blk_cell P2.out.b 2 _ rfl; have c0 := blk_cell P2.out.b 0 _ rfl
        go_wp2_with fail
        go_quiet (fail)
        go_wp2_with fail
        have P3 : Hid (∀ q, PBk (w2.drewN q) B g first f0 g0 L ao cap) := fun q => P2.out.grown (grown_drewN _ none q); have G3 : Hid (∀ q, w.grownBy (w2.drewN q) none) := fun q => G2.out.trans (grown_drewN w2 none q)
        clear P1 P2 G1 G2 c0 c1 c2 g1 g2 g3 r1 r2
        go_loopw [8, 9, 10, 41] (fun lv fv gv iv wr => ∃ (k : Nat) (v : Value), v = lv ∧ k ≤ N ∧ iv = .int .i64 k ∧ fv = .int .i64 (fitK FX first 42 f0 k) ∧ gv = .int .i64 (fitK FX first 7 g0 k) ∧ Hid (wr.ownsRow w.heap.size 103 5 v (stL FX first f0 g0 m k).length (stRw (stL FX first f0 g0 m k))) ∧ Hid (PBk wr B g first f0 g0 L ao cap) ∧ Hid (w.grownBy wr none))
          (fun _ _ _ iv _ => N - (intOf iv).toNat)
        case atStart => exact ⟨0, _, rfl, Nat.zero_le _, rfl, rfl, rfl, by rw [stL_zero]; exact World.ownsRow_nil _ _ _ _, P3.out _, G3.out _⟩
        case round =>
          clear P3 G3
          obtain ⟨k, v, rfl, hk, rfl, rfl, rfl, hO, hP, hG⟩ := hrel
          by_cases hlt : k < N
          · obtain ⟨lv, hlv⟩ : ∃ x, ldA L (first + k - first) = x := ⟨_, rfl⟩
            have HLV := Lib.hid hlv
            have hFk : Hid (FX (first + k) = lv) := by show _ = _; rw [← HFX.out]; exact hlv
            have hlb : 0 ≤ lv ∧ lv ≤ 10000 := by rw [← hFk.out]; exact HFB.out _
            have HLB := Lib.hid hlb
            have hfb := fitK_bd (F := FX) (first := first) (c := 42) HB1.out HFB.out (by decide) k
            have hgb := fitK_bd (F := FX) (first := first) (c := 7) HB2.out HFB.out (by decide) k
            have HFN : Hid (stepF (fitK FX first 42 f0 k) lv 42 = fitK FX first 42 f0 (k + 1)) := by show _ = _; rw [← hFk.out]; rfl
            have HGN : Hid (stepF (fitK FX first 7 g0 k) lv 7 = fitK FX first 7 g0 (k + 1)) := by show _ = _; rw [← hFk.out]; rfl
            have HST : Hid (stV FX first f0 g0 k = ⟨first + k, lv, fitK FX first 42 f0 (k + 1), fitK FX first 7 g0 (k + 1), fitK FX first 42 f0 k - fitK FX first 7 g0 k⟩) := by show _ = _; unfold stV; rw [hFk.out]
            obtain ⟨fn, hfn⟩ : ∃ x, fitK FX first 42 f0 (k + 1) = x := ⟨_, rfl⟩
            have HFE := Lib.hid hfn
            rw [hfn] at HFN HST
            clear hfn
            obtain ⟨gn, hgn⟩ : ∃ x, fitK FX first 7 g0 (k + 1) = x := ⟨_, rfl⟩
            have HGE := Lib.hid hgn
            rw [hgn] at HGN HST
            clear hgn
            generalize fitK FX first 42 f0 k = fk at *
            generalize fitK FX first 7 g0 k = gk at *
            have r3 : IntKind.i64.wrap (first + k) = first + k := IntWalk.i64_in _ (by omega)
            have r4 : IntKind.i64.wrap (fk - gk) = fk - gk := IntWalk.i64_in _ (by omega)
            have HFK := Lib.hid hfb; have HGK := Lib.hid hgb; have HLT := Lib.hid hlt
            have c0 := blk_cell hP.out.b 0 _ rfl
            have hday : Hid (-100000000 ≤ first + (k : Int) ∧ first + (k : Int) ≤ 100000000) := by show _ ∧ _; omega
            clear hlv hlb hfb hgb
            go_upto_region 10 with (fail)
            go_cut [12] (fun s12 wx => ∃ X, s12 = .pointer (some ⟨X, 0, none⟩) ∧ Hid (wr.grownBy wx none) ∧ Hid (wr.heap.size ≤ X) ∧ Hid (wx.heap[X]? = some (.cells #[.int .i64 (first + k), .int .i64 lv, .int .i64 0, .int .i64 0, .int .i64 (fk - gk)] 103 (0, 0))))
            case first =>
              have hSd : (World.grownBy wr (wr.drew) none ∧ World.cell? (wr.drew) ⟨g, 0, none⟩ = some (.int .i64 first)) := ⟨grown_drewN wr none 1, c0⟩
              have hstep : ∀ V V' : World, (World.grownBy wr V none ∧ World.cell? V ⟨g, 0, none⟩ = some (.int .i64 first)) → V.grownBy V' none → (World.grownBy wr V' none ∧ World.cell? V' ⟨g, 0, none⟩ = some (.int .i64 first)) := fun V V' h g => ⟨h.1.trans g, gcell g h.2⟩
              have hof : ∀ V : World, (World.grownBy wr V none ∧ World.cell? V ⟨g, 0, none⟩ = some (.int .i64 first)) → PBk V B g first f0 g0 L ao cap := fun V h => hP.out.grown h.1
              have hne : (⟨wr.heap.size, 0, none⟩ : Addr).block ≠ g := by have := blk_lt hP.out.b; show wr.heap.size ≠ g; omega
              have hset : ∀ (V : World) (v0 v1 v2 v3 v4 : Value), (World.grownBy wr V none ∧ World.cell? V ⟨g, 0, none⟩ = some (.int .i64 first)) → (World.grownBy wr (((((V.setCell ⟨wr.heap.size, 0, none⟩ v0).setCell ⟨wr.heap.size, 1, none⟩ v1).setCell ⟨wr.heap.size, 2, none⟩ v2).setCell ⟨wr.heap.size, 3, none⟩ v3).setCell ⟨wr.heap.size, 4, none⟩ v4) none ∧ World.cell? (((((V.setCell ⟨wr.heap.size, 0, none⟩ v0).setCell ⟨wr.heap.size, 1, none⟩ v1).setCell ⟨wr.heap.size, 2, none⟩ v2).setCell ⟨wr.heap.size, 3, none⟩ v3).setCell ⟨wr.heap.size, 4, none⟩ v4) ⟨g, 0, none⟩ = some (.int .i64 first)) := fun V v0 v1 v2 v3 v4 h =>
                ⟨egrown_set (egrown_set (egrown_set (egrown_set (egrown_set h.1 (Nat.le_refl _) _ _) (Nat.le_refl _) _ _) (Nat.le_refl _) _ _) (Nat.le_refl _) _ _) (Nat.le_refl _) _ _, by
                  iterate 5 rw [World.cell?_setCell_other _ _ _ _ (fun e => by have q := congrArg Addr.block e; simp only at q; first | exact hne q | exact hne q.symm)]
                  exact h.2⟩
              clear c0
              go_region_held3 (fun V => (World.grownBy wr V none ∧ World.cell? V ⟨g, 0, none⟩ = some (.int .i64 first))) (first | exact hSd | (refine hstep _ _ ?_ (by assumption) <;> assumption) | exact hstep _ _ hSd (World.grownBy_alloc _ _ none) | (refine hset _ _ _ _ _ _ ?_ <;> first | assumption | exact hstep _ _ hSd (World.grownBy_alloc _ _ none))) (first
                | (go_at_call 134; refine (load_is (hof _ (by assumption)) HF.out _ hday.out HLV).mono ?_; rintro x w7 ⟨rfl, rfl⟩))
              all_goals
                go_wp2_with fail
                go_meet
                exact ⟨wr.heap.size, rfl, World.grownBy.trans (World.grownBy_alloc wr _ none) (grown_drewN _ none 1), Nat.le_refl _, heap_alloc_new wr _⟩
            case rest =>
              obtain ⟨X, rfl, hG1, hX, hB⟩ := hcut
              clear c0
              have x1 := blk_cell hB.out 1 _ rfl
              go_wp2_with fail
              go_quiet (first | (go_at_call_of 137 (Value.int IntKind.i64 42); exact Calls.quiet_of_same ((step_is fk lv 42 HFK.out HLB.out (by decide) _ HFN).mono fun _ _ q => ⟨q.1, q.2.symm⟩)) | (go_at_call_of 137 (Value.int IntKind.i64 7); exact Calls.quiet_of_same ((step_is gk lv 7 HGK.out HLB.out (by decide) _ HGN).mono fun _ _ q => ⟨q.1, q.2.symm⟩)))
              have gq := grown_drewN wc none nq
              have B5 := Lib.hid (blk_at hB.out gq (by simp))
              have G5 := Lib.hid (hG1.out.trans gq)
              clear gq x1 hB hG1
              generalize wc.drewN nq = W5 at *
              have xf2 := blk_free (k := 2) B5.out; have xf3 := blk_free (k := 3) B5.out
              have y2 := blk_cell B5.out 2 _ rfl; have y3 := blk_cell B5.out 3 _ rfl
              go_upto_region 13 with (fail)
              have B6 : Hid (((W5.setCell ⟨X, 2, none⟩ (.int .i64 fn)).setCell ⟨X, 3, none⟩ (.int .i64 gn)).heap[X]? = some (.cells #[.int .i64 (first + k), .int .i64 lv, .int .i64 fn, .int .i64 gn, .int .i64 (fk - gk)] 103 (0, 0))) := blk_set (blk_set B5.out _) _
              have G6 := Lib.hid (egrown_set (egrown_set G5.out hX.out 2 (.int .i64 fn)) hX.out 3 (.int .i64 gn))
              generalize (W5.setCell ⟨X, 2, none⟩ (.int .i64 fn)).setCell ⟨X, 3, none⟩ (.int .i64 gn) = W6 at *
              have P6 := Lib.hid (hP.out.grown G6.out)
              have O6 := Lib.hid (hO.out.kept G6.out (by cases v.ownBlock <;> simp))
              have GW6 := Lib.hid (hG.out.trans G6.out)
              clear xf2 xf3 y2 y3 B5 G5 hP hG
              have x0 := blk_cell B6.out 0 _ rfl; have x1 := blk_cell B6.out 1 _ rfl; have x2 := blk_cell B6.out 2 _ rfl; have x3 := blk_cell B6.out 3 _ rfl; have x4 := blk_cell B6.out 4 _ rfl
              by_cases hmk : m ≤ k
              · have g1 : decide (a ≤ first + (k : Int)) = true := decide_eq_true (by have := HM.out; omega)
                have HSN : Hid (stL FX first f0 g0 m (k + 1) = stL FX first f0 g0 m k ++ [⟨first + k, lv, fn, gn, fk - gk⟩]) := by show _ = _; rw [stL_in _ _ _ _ hmk, HST.out]
                have HLN : Hid ((stL FX first f0 g0 m k).length ≤ 5000) := by show _ ≤ _; rw [stL_len]; omega
                clear hmk
                go_wp2_with (at_builtin; go_loud (refine wpList_append_own _ rfl _ _ 106 rfl w.heap.size 103 i0 (.agg #[.int .i64 0, .int .i64 0, .int .i64 0, .int .i64 0, .int .i64 0]) 5 40 Try.underlying106 HI0.out HZ0.out HZ1.out HZ2.out rfl (by decide) _ _ _ rfl (O6.out.alloc _) ⟨W6.heap.size, 0, none⟩ 1 1 [.int .i64 (first + k), .int .i64 lv, .int .i64 fn, .int .i64 gn, .int .i64 (fk - gk)] rfl rfl (World.news_of_block (cs := #[.int .i64 (first + k), .int .i64 lv, .int .i64 fn, .int .i64 gn, .int .i64 (fk - gk)]) (t := 103) (fr := (0, 0)) (heap_alloc_new W6 _)) (by simp [Value.oneCell']) (by have := HLN.out; unfold maxLen; omega) (by have := HLN.out; omega) (Nat.le_trans GW6.out.size (World.grownBy_alloc W6 _ none).size) ?_); intro v' w10 ho10 hg10 hnil; have O7 := Lib.hid ho10; have gA := World.grownBy_alloc W6 (.cells #[.int .i64 (first + k), .int .i64 lv, .int .i64 fn, .int .i64 gn, .int .i64 (fk - gk)] 103) none; have P7 := Lib.hid (pbk_row (P6.out.grown gA) (O6.out.alloc _) hg10); have G7 := Lib.hid (row_keep GW6.out hg10 (fun r hr => (O6.out.lt r hr).1)); clear ho10 hg10 hnil gA)
                go_roundw
                case rel => exact ⟨k + 1, _, rfl, HLT.out, by go_num, by rw [HFE.out], by rw [HGE.out], by rw [HSN.out, List.length_append, stRw_snoc]; exact O7.out, P7.out, G7.out⟩
                case measure => have := HLT.out; simp [intOf]; omega
              · have g1 : decide (a ≤ first + (k : Int)) = false := decide_eq_false (by have := HM.out; omega)
                have HSN : Hid (stL FX first f0 g0 m (k + 1) = stL FX first f0 g0 m k) := by show _ = _; rw [stL_out _ _ _ _ (by omega)]
                clear hmk
                go_wp2_with fail
                go_roundw
                case rel => exact ⟨k + 1, _, rfl, HLT.out, by go_num, by rw [HFE.out], by rw [HGE.out], by rw [HSN.out]; exact O6.out, P6.out, GW6.out⟩
                case measure => have := HLT.out; simp [intOf]; omega
          · obtain rfl : k = N := by omega
            go_wp2_with fail
            go_ret2
            exact ⟨⟨_, rfl, by rw [HL.out]; exact hO.out⟩, hG.out⟩
    · have g2 : decide (HasD first b) = false := decide_eq_false d2
      rw [if_neg (fun q => d2 q.2)] at hv
      subst hv
      clear d1 d2 hf hb1 hb2
      go_enter Try.func73, Try.ntmps73
      go_wp2_with fail
      refine (has_is HP.out HF.out a).mono ?_; rintro e w1 ⟨rfl, hg1⟩
      have P1 := Lib.hid (HP.out.grown hg1); have G1 := Lib.hid hg1
      clear hg1
      simp only [g1]
      go_wp2_with fail
      refine (has_is P1.out HF.out b).mono ?_; rintro e w2 ⟨rfl, hg2⟩
      have P2 := Lib.hid (P1.out.grown hg2); have G2 := Lib.hid (G1.out.trans hg2)
      clear hg2
      simp only [g2]
      go_wp2_with fail
      go_ret2
      exact ⟨⟨_, rfl, NIL.out _ _ (by decide)⟩, G2.out⟩
  · have g1 : decide (HasD first a) = false := decide_eq_false d1
    rw [if_neg (fun q => d1 q.1)] at hv
    subst hv
    clear d1 hf hb1 hb2
    go_enter Try.func73, Try.ntmps73
    go_wp2_with fail
    refine (has_is HP.out HF.out a).mono ?_; rintro e w1 ⟨rfl, hg1⟩
    have P1 := Lib.hid (HP.out.grown hg1); have G1 := Lib.hid hg1
    clear hg1
    simp only [g1]
    go_wp2_with fail
    go_ret2
    exact ⟨⟨_, rfl, NIL.out _ _ (by decide)⟩, G1.out⟩
end
end Go.Proofs.Yteaifonpkdjkcaa

