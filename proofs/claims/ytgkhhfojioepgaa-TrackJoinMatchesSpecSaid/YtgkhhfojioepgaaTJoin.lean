/- The contract of Join, for any two activities. -/
import Derived.Test.YtgkhhfojioepgaaTJoinE
import Derived.Test.YtgkhhfojioepgaaTJTags
import Derived.Deep.Light
namespace Go.Proofs.Ytgkhhfojioepgaa
open Go.RowKit
set_option linter.unusedSimpArgs false
set_option linter.unusedVariables false

attribute [local go_sem] Oper.semAt_some

set_option maxRecDepth 100000 in
set_option maxHeartbeats 12800000 in
theorem Join_any (a b : Act) (w : World) (ha : ActAt w a) (hb : ActAt w b) {c : Act} {E : Int} (hE : Hid (joinO a b = (c, E))) :
    Calls Try.prog 32 #[a.val, b.val] w fun e w' => (∃ v, e = .returned (.tuple #[v, .int .i64 E]) ∧ ActIs w' v c) ∧ w.grownBy w' none := by
  obtain ⟨ce, hce⟩ : ∃ e, chkE a = e := ⟨_, rfl⟩
  obtain ⟨cf, hcf⟩ : ∃ e, chkE b = e := ⟨_, rfl⟩
  have hv := hE.out
  unfold joinO at hv
  rw [hce, hcf] at hv
  have HCE := Lib.hid hce; have HCF := Lib.hid hcf; have HA := Lib.hid ha; have HB := Lib.hid hb
  clear hE ha hb
  by_cases d1 : ce = 0
  · rw [if_pos d1] at hv
    subst d1
    have HOK := Lib.hid (chk_ok hce)
    clear hce
    by_cases d2 : cf = 0
    · rw [if_pos d2] at hv
      subst d2
      have HOK2 := Lib.hid (chk_ok hcf)
      clear hcf
      by_cases d3 : a.sport = b.sport
      · rw [if_pos d3] at hv
        obtain ⟨sv, hsv⟩ : ∃ s, spanL a.ss = s := ⟨_, rfl⟩
        rw [hsv] at hv
        have HSV := Lib.hid hsv
        have hsb := span_bd2 (sok_of HOK.out)
        rw [hsv] at hsb
        have s1 := HOK.out.st0; have s2 := HOK.out.st1; have s3 := HOK2.out.st0; have s4 := HOK2.out.st1
        have n1 : (a.ss.length : Int) ≤ 20000 := HOK.out.sl
        have n2 : (b.ss.length : Int) ≤ 20000 := HOK2.out.sl
        have n3 : (a.ls.length : Int) ≤ 200 := HOK.out.ll
        have n4 : (b.ls.length : Int) ≤ 200 := HOK2.out.ll
        have n5 : (a.ts.length : Int) ≤ 20 := HOK.out.tl
        have n6 : (b.ts.length : Int) ≤ 20 := HOK2.out.tl
        obtain ⟨D, hD⟩ : ∃ d, b.start - a.start = d := ⟨_, rfl⟩
        rw [hD] at hv
        have HV := Lib.hid hv
        clear hsv hv
        obtain ⟨nm, sp, st, so, sc, ss, lo, lc, ls, to_, tc, ts⟩ := a
        obtain ⟨nm2, sp2, st2, so2, sc2, ss2, lo2, lc2, ls2, to2, tc2, ts2⟩ := b
        simp only [Act.val] at *
        subst d3
        have r1 : IntKind.i64.wrap (st2 - st) = D := by rw [hD]; exact IntWalk.i64_in _ (by omega)
        have hd0 : -86399999999 ≤ D ∧ D ≤ 86399999999 := by omega
        have HD := Lib.hid hD
        clear hD
        have M0 : Hid (JnB w #[.string nm, .int .i64 sp, .int .i64 st, .slice so ss.length sc, .slice lo ls.length lc, .slice to_ ts.length tc] #[.string nm2, .int .i64 sp, .int .i64 st2, .slice so2 ss2.length sc2, .slice lo2 ls2.length lc2, .slice to2 ts2.length tc2] #[.string ⟨#[]⟩, .int .i64 0, .int .i64 0, .slice none 0 0, .slice none 0 0, .slice none 0 0] ((((w.alloc (.cells #[.string nm, .int .i64 sp, .int .i64 st, .slice so ss.length sc, .slice lo ls.length lc, .slice to_ ts.length tc] 26)).alloc (.cells #[.string nm2, .int .i64 sp, .int .i64 st2, .slice so2 ss2.length sc2, .slice lo2 ls2.length lc2, .slice to2 ts2.length tc2] 26)).alloc (.cells #[.string ⟨#[]⟩, .int .i64 0, .int .i64 0, .slice none 0 0, .slice none 0 0, .slice none 0 0] 26)).alloc (.cells #[.string nm, .int .i64 sp, .int .i64 st, .slice so ss.length sc, .slice lo ls.length lc, .slice to_ ts.length tc, .string nm2, .int .i64 sp, .int .i64 st2, .slice so2 ss2.length sc2, .slice lo2 ls2.length lc2, .slice to2 ts2.length tc2] 26))) := (JnB.new w #[.string nm, .int .i64 sp, .int .i64 st, .slice so ss.length sc, .slice lo ls.length lc, .slice to_ ts.length tc] #[.string nm2, .int .i64 sp, .int .i64 st2, .slice so2 ss2.length sc2, .slice lo2 ls2.length lc2, .slice to2 ts2.length tc2] #[.string ⟨#[]⟩, .int .i64 0, .int .i64 0, .slice none 0 0, .slice none 0 0, .slice none 0 0]).grown (World.grownBy_alloc _ _ none)
        have L0 : Hid (((((w.alloc (.cells #[.string nm, .int .i64 sp, .int .i64 st, .slice so ss.length sc, .slice lo ls.length lc, .slice to_ ts.length tc] 26)).alloc (.cells #[.string nm2, .int .i64 sp, .int .i64 st2, .slice so2 ss2.length sc2, .slice lo2 ls2.length lc2, .slice to2 ts2.length tc2] 26)).alloc (.cells #[.string ⟨#[]⟩, .int .i64 0, .int .i64 0, .slice none 0 0, .slice none 0 0, .slice none 0 0] 26)).alloc (.cells #[.string nm, .int .i64 sp, .int .i64 st, .slice so ss.length sc, .slice lo ls.length lc, .slice to_ ts.length tc, .string nm2, .int .i64 sp, .int .i64 st2, .slice so2 ss2.length sc2, .slice lo2 ls2.length lc2, .slice to2 ts2.length tc2] 26)).heap[w.heap.size + 3]? = some (.cells #[.string nm, .int .i64 sp, .int .i64 st, .slice so ss.length sc, .slice lo ls.length lc, .slice to_ ts.length tc, .string nm2, .int .i64 sp, .int .i64 st2, .slice so2 ss2.length sc2, .slice lo2 ls2.length lc2, .slice to2 ts2.length tc2] 26 (0, 0))) := by
          have q := heap_alloc_new (((w.alloc (.cells #[.string nm, .int .i64 sp, .int .i64 st, .slice so ss.length sc, .slice lo ls.length lc, .slice to_ ts.length tc] 26)).alloc (.cells #[.string nm2, .int .i64 sp, .int .i64 st2, .slice so2 ss2.length sc2, .slice lo2 ls2.length lc2, .slice to2 ts2.length tc2] 26)).alloc (.cells #[.string ⟨#[]⟩, .int .i64 0, .int .i64 0, .slice none 0 0, .slice none 0 0, .slice none 0 0] 26)) (.cells #[.string nm, .int .i64 sp, .int .i64 st, .slice so ss.length sc, .slice lo ls.length lc, .slice to_ ts.length tc, .string nm2, .int .i64 sp, .int .i64 st2, .slice so2 ss2.length sc2, .slice lo2 ls2.length lc2, .slice to2 ts2.length tc2] 26)
          rw [show ((((w.alloc (.cells #[.string nm, .int .i64 sp, .int .i64 st, .slice so ss.length sc, .slice lo ls.length lc, .slice to_ ts.length tc] 26)).alloc (.cells #[.string nm2, .int .i64 sp, .int .i64 st2, .slice so2 ss2.length sc2, .slice lo2 ls2.length lc2, .slice to2 ts2.length tc2] 26)).alloc (.cells #[.string ⟨#[]⟩, .int .i64 0, .int .i64 0, .slice none 0 0, .slice none 0 0, .slice none 0 0] 26))).heap.size = w.heap.size + 3 from by first | (simp; done) | (simp; omega)] at q; exact q
        go_enter Try.func32, Try.ntmps32
        go_wp2_with fail
        go_loopw [15] (fun iv wr => (iv = .int .i64 0 ∨ iv = .int .i64 1 ∨ iv = .int .i64 2) ∧ Hid (JnB w #[.string nm, .int .i64 sp, .int .i64 st, .slice so ss.length sc, .slice lo ls.length lc, .slice to_ ts.length tc] #[.string nm2, .int .i64 sp, .int .i64 st2, .slice so2 ss2.length sc2, .slice lo2 ls2.length lc2, .slice to2 ts2.length tc2] #[.string ⟨#[]⟩, .int .i64 0, .int .i64 0, .slice none 0 0, .slice none 0 0, .slice none 0 0] wr) ∧ Hid (wr.heap[w.heap.size + 3]? = some (.cells #[.string nm, .int .i64 sp, .int .i64 st, .slice so ss.length sc, .slice lo ls.length lc, .slice to_ ts.length tc, .string nm2, .int .i64 sp, .int .i64 st2, .slice so2 ss2.length sc2, .slice lo2 ls2.length lc2, .slice to2 ts2.length tc2] 26 (0, 0))))
          (fun iv _ => 2 - (intOf iv).toNat)
        case atStart => exact ⟨Or.inl rfl, M0, L0⟩
        case round =>
          clear M0 L0
          obtain ⟨hiv, hM, hL⟩ := hrel
          rcases hiv with rfl | rfl | rfl
          · have q0 := block_cell hL.out 0 _ rfl
            have q1 := block_cell hL.out 1 _ rfl
            have q2 := block_cell hL.out 2 _ rfl
            have q3 := block_cell hL.out 3 _ rfl
            have q4 := block_cell hL.out 4 _ rfl
            have q5 := block_cell hL.out 5 _ rfl
            go_wp2_with fail
            refine (check_any ⟨nm, sp, st, so, sc, ss, lo, lc, ls, to_, tc, ts⟩ _ (HA.out.grown (hM.out.grown (World.grownBy_alloc _ _ none)).g) HCE).mono ?_; rintro e w1 ⟨rfl, hg1⟩
            have M1 := Lib.hid ((hM.out.grown (World.grownBy_alloc _ _ none)).grown hg1)
            have L1 := Lib.hid (block_at (block_at hL.out (World.grownBy_alloc _ _ none) (by simp)) hg1 (by simp))
            clear hM hL hg1 q0 q1 q2 q3 q4 q5
            go_wp2_with fail
            go_roundw
            case rel => exact ⟨Or.inr (Or.inl rfl), M1, L1⟩
            case measure => decide
          · have q6 := block_cell hL.out 6 _ rfl
            have q7 := block_cell hL.out 7 _ rfl
            have q8 := block_cell hL.out 8 _ rfl
            have q9 := block_cell hL.out 9 _ rfl
            have q10 := block_cell hL.out 10 _ rfl
            have q11 := block_cell hL.out 11 _ rfl
            go_wp2_with fail
            refine (check_any ⟨nm2, sp, st2, so2, sc2, ss2, lo2, lc2, ls2, to2, tc2, ts2⟩ _ (HB.out.grown (hM.out.grown (World.grownBy_alloc _ _ none)).g) HCF).mono ?_; rintro e w1 ⟨rfl, hg1⟩
            have M1 := Lib.hid ((hM.out.grown (World.grownBy_alloc _ _ none)).grown hg1)
            have L1 := Lib.hid (block_at (block_at hL.out (World.grownBy_alloc _ _ none) (by simp)) hg1 (by simp))
            clear hM hL hg1 q6 q7 q8 q9 q10 q11
            go_wp2_with fail
            go_roundw
            case rel => exact ⟨Or.inr (Or.inr rfl), M1, L1⟩
            case measure => decide
          · have u0 := block_cell hM.out.a 0 _ rfl
            have u1 := block_cell hM.out.a 1 _ rfl
            have u2 := block_cell hM.out.a 2 _ rfl
            have u3 := block_cell hM.out.a 3 _ rfl
            have u4 := block_cell hM.out.a 4 _ rfl
            have u5 := block_cell hM.out.a 5 _ rfl
            have b1 := block_cell hM.out.b 1 _ rfl
            have b2 := block_cell hM.out.b 2 _ rfl
            go_wp2_with fail
            refine (span_any ⟨nm, sp, st, so, sc, ss, lo, lc, ls, to_, tc, ts⟩ (by show (ss.length : Int) ≤ _; omega) _ (HA.out.hs.grown hM.out.g) HSV).mono ?_; rintro e w2 ⟨rfl, hg2⟩
            have M2 := Lib.hid (hM.out.grown hg2)
            clear hM hL hg2 u0 u1 u2 u3 u4 u5 b1 b2
            by_cases d4 : sv ≤ D
            · have hlt : decide (D < sv) = false := decide_eq_false (by omega)
              have hv := HV.out
              rw [if_pos d4] at hv
              have HV := Lib.hid hv
              clear hv
              have b0 := block_cell M2.out.b 0 _ rfl
              have b1 := block_cell M2.out.b 1 _ rfl
              have b2 := block_cell M2.out.b 2 _ rfl
              have b3 := block_cell M2.out.b 3 _ rfl
              have b4 := block_cell M2.out.b 4 _ rfl
              have b5 := block_cell M2.out.b 5 _ rfl
              go_wp2_with fail
              refine (clone_own2 ⟨nm2, sp, st2, so2, sc2, ss2, lo2, lc2, ls2, to2, tc2, ts2⟩ (by show ss2.length ≤ _; omega) (by show ls2.length ≤ _; omega) (by show ts2.length ≤ _; omega) _ (HB.out.grown M2.out.g)).mono ?_; rintro e w4 ⟨⟨vv, rfl, hvv⟩, hg4⟩
              obtain ⟨a1, c1, a2, c2, a3, c3, rfl, hat, hfar, ⟨bs, hbs, ho1⟩, ⟨bl, hbl, ho2⟩, np1, np2, np3⟩ := hvv
              simp only at hat hfar ho1 ho2
              have hlt2 := M2.out.lt
              have M4 := Lib.hid (M2.out.grown hg4)
              have T4 := Lib.hid hat.ht
              have F1 : Hid (∀ p, a1 = some p → w.heap.size + 3 ≤ p.block) := fun p e => by have := hfar.s p e; omega
              have F2 : Hid (∀ p, a2 = some p → w.heap.size + 3 ≤ p.block) := fun p e => by have := hfar.l p e; omega
              have F3 : Hid (∀ p, a3 = some p → w.heap.size + 3 ≤ p.block) := fun p e => by have := hfar.t p e; omega
              have O1 := Lib.hid ho1; have O2 := Lib.hid ho2
              have P1 := Lib.hid np1; have P2 := Lib.hid np2; have P3 := Lib.hid np3
              have BS : Hid (w.heap.size + 3 ≤ bs ∧ w.heap.size + 3 ≤ bl) := by show _ ∧ _; omega
              clear hat hfar ho1 ho2 np1 np2 np3 hg4 M2 hlt2 hbs hbl b0 b1 b2 b3 b4 b5
              have b0 := block_cell M4.out.b 0 _ rfl
              have bf0 := block_free (k := 0) M4.out.b
              have b1 := block_cell M4.out.b 1 _ rfl
              have bf1 := block_free (k := 1) M4.out.b
              have b2 := block_cell M4.out.b 2 _ rfl
              have bf2 := block_free (k := 2) M4.out.b
              have b3 := block_cell M4.out.b 3 _ rfl
              have bf3 := block_free (k := 3) M4.out.b
              have b4 := block_cell M4.out.b 4 _ rfl
              have bf4 := block_free (k := 4) M4.out.b
              have b5 := block_cell M4.out.b 5 _ rfl
              have bf5 := block_free (k := 5) M4.out.b
              go_upto_region 14 with (fail)
              have M5 : Hid (JnB w #[.string nm, .int .i64 sp, .int .i64 st, .slice so ss.length sc, .slice lo ls.length lc, .slice to_ ts.length tc] #[.string nm2, .int .i64 sp, .int .i64 st2, .slice a1 ss2.length c1, .slice a2 ls2.length c2, .slice a3 ts2.length c3] #[.string ⟨#[]⟩, .int .i64 0, .int .i64 0, .slice none 0 0, .slice none 0 0, .slice none 0 0] ((((((w4.setCell ⟨w.heap.size + 1, 0, none⟩ (.string nm2)).setCell ⟨w.heap.size + 1, 1, none⟩ (.int .i64 sp)).setCell ⟨w.heap.size + 1, 2, none⟩ (.int .i64 st2)).setCell ⟨w.heap.size + 1, 3, none⟩ (.slice a1 ss2.length c1)).setCell ⟨w.heap.size + 1, 4, none⟩ (.slice a2 ls2.length c2)).setCell ⟨w.heap.size + 1, 5, none⟩ (.slice a3 ts2.length c3))) := (((((M4.out.setB 0 _).setB 1 _).setB 2 _).setB 3 _).setB 4 _).setB 5 _
              have G5 := Lib.hid (set6_grown w4 (w.heap.size + 1) (.string nm2) (.int .i64 sp) (.int .i64 st2) (.slice a1 ss2.length c1) (.slice a2 ls2.length c2) (.slice a3 ts2.length c3))
              generalize ((((((w4.setCell ⟨w.heap.size + 1, 0, none⟩ (.string nm2)).setCell ⟨w.heap.size + 1, 1, none⟩ (.int .i64 sp)).setCell ⟨w.heap.size + 1, 2, none⟩ (.int .i64 st2)).setCell ⟨w.heap.size + 1, 3, none⟩ (.slice a1 ss2.length c1)).setCell ⟨w.heap.size + 1, 4, none⟩ (.slice a2 ls2.length c2)).setCell ⟨w.heap.size + 1, 5, none⟩ (.slice a3 ts2.length c3)) = W5 at *
              replace O1 := Lib.hid (own_keptB O1.out G5.out (fun r hr => by have := blk_far F1.out r hr; omega))
              replace O2 := Lib.hid (own_keptB O2.out G5.out (fun r hr => by have := blk_far F2.out r hr; omega))
              replace T4 := Lib.hid (T4.out.kept G5.out (fun p e _ q => by have := F3.out p e; injection q with q; omega))
              clear M4 G5 b0 bf0 b1 bf1 b2 bf2 b3 bf3 b4 bf4 b5 bf5
              have b3 := block_cell M5.out.b 3 _ rfl
              have SB : Hid (∀ x ∈ ss2, 0 ≤ x.t ∧ x.t ≤ 1000000) := fun x hx => smp_bd HOK2.out x hx
              go_wp2_with fail
              refine (move_is bs (.slice a1 ss2.length c1) ss2 (by omega) D (by omega) (fun x hx => by have := SB.out x hx; omega) _ O1.out).mono ?_; rintro e w6 ⟨rfl, ho6, hg6⟩
              have M6 := Lib.hid (M5.out.kept hg6 (fun r hr => blk_far F1.out r hr))
              replace O1 := Lib.hid ho6
              replace O2 := Lib.hid (own_keptO O2.out hg6 (fun r r2 e1 e2 => (blk_ne P1.out r2 r e2 e1).symm))
              replace T4 := Lib.hid (T4.out.kept hg6 (fun p e _ q => blk_ne (n2 := 0) (c2 := 0) P2.out p.block p.block q.symm (by rw [e]; rfl) rfl))
              clear ho6 hg6 M5 b3
              have b4 := block_cell M6.out.b 4 _ rfl
              have LBD : Hid (∀ x ∈ ls2, 0 ≤ x.fr ∧ x.to_ ≤ 1000000 ∧ x.fr ≤ 1000000 ∧ 0 ≤ x.to_) := fun x hx => by
                have q := laps_in_bd ls2 0 HOK2.out.laps x hx
                have q2 : x.to_ ≤ spanL ss2 := q.2.2
                have q3 : spanL ss2 ≤ 1000000 := (span_bd2 (sok_of HOK2.out)).2
                omega
              go_wp2_with fail
              go_loopw [51] (fun iv wr => ∃ k : Nat, k ≤ ls2.length ∧ iv = .int .i64 k ∧ Hid (JnB w #[.string nm, .int .i64 sp, .int .i64 st, .slice so ss.length sc, .slice lo ls.length lc, .slice to_ ts.length tc] #[.string nm2, .int .i64 sp, .int .i64 st2, .slice a1 ss2.length c1, .slice a2 ls2.length c2, .slice a3 ts2.length c3] #[.string ⟨#[]⟩, .int .i64 0, .int .i64 0, .slice none 0 0, .slice none 0 0, .slice none 0 0] wr) ∧ Hid (wr.ownsRow bl 77 3 (.slice a2 ls2.length c2) ls2.length (lapRw (lpK ls2 D k))) ∧ Hid (wr.ownsRow bs 28 7 (.slice a1 ss2.length c1) ss2.length (smpRw (ss2.map (mvS D)))) ∧ Hid (TagsAt wr a3 ts2))
                (fun iv _ => ls2.length - (intOf iv).toNat)
              case atStart => exact ⟨0, Nat.zero_le _, rfl, M6, by rw [lpK_zero]; exact O2, O1, T4⟩
              case round =>
                clear M6 O1 O2 T4 b4
                obtain ⟨k, hk, rfl, hM, hO2, hO1, hT⟩ := hrel
                by_cases hlt2 : k < ls2.length
                · obtain ⟨g, cap', hv2, _, _⟩ := hO2.out.form (by omega)
                  injection hv2 with e1 _ e3
                  subst e1; subst e3
                  have hO2' : wr.ownsRow bl 77 3 (.slice (some ⟨g, 0, none⟩) (lpK ls2 D k).length c2) (lpK ls2 D k).length (lapRw (lpK ls2 D k)) := by rw [lpK_len]; exact hO2.out
                  obtain ⟨ao2, cp2, hv3, hlm, _⟩ := own_lapsR hO2' (lapK_name HB.out.hl.sizes D k)
                  injection hv3 with e1 _ _
                  obtain ⟨c0, c1', _⟩ := hlm.cells _ e1.symm k (by rw [lpK_len]; exact hlt2)
                  rw [lpK_at hlt2] at c0 c1'
                  simp only [Nat.zero_add] at c0 c1'
                  have hx := LBD.out ls2[k] (List.getElem_mem hlt2)
                  have hnew := own_setC (own_setC hO2.out (i := k * 3) (.int .i64 (ls2[k].fr + D))) (i := k * 3 + 1) (.int .i64 (ls2[k].to_ + D))
                  have he : ((lapRw (lpK ls2 D k)).set (k * 3) (.int .i64 (ls2[k].fr + D))).set (k * 3 + 1) (.int .i64 (ls2[k].to_ + D)) = lapRw (lpK ls2 D (k + 1)) := by
                    have q := lapRw_set (lpK ls2 D k) k (ls2[k].fr + D) (ls2[k].to_ + D) (by rw [lpK_len]; exact hlt2)
                    rw [lpK_at hlt2] at q
                    rw [← q, lpK_succ hlt2]; rfl
                  rw [he] at hnew
                  obtain ⟨cur, hcur⟩ := own_headR hO2.out
                  have f0 := block_free (k := k * 3) hcur
                  have f1 := block_free (k := k * 3 + 1) hcur
                  have GG := Lib.hid (grown_trans (setcR_grown wr g (k * 3) (.int .i64 (ls2[k].fr + D))) (setcR_grown _ g (k * 3 + 1) (.int .i64 (ls2[k].to_ + D))))
                  have HN2 := Lib.hid hnew
                  have HGB : Hid (w.heap.size + 3 ≤ g) := F2.out _ rfl
                  have HM : Hid (JnB w #[.string nm, .int .i64 sp, .int .i64 st, .slice so ss.length sc, .slice lo ls.length lc, .slice to_ ts.length tc] #[.string nm2, .int .i64 sp, .int .i64 st2, .slice a1 ss2.length c1, .slice (some ⟨g, 0, none⟩) ls2.length c2, .slice a3 ts2.length c3] #[.string ⟨#[]⟩, .int .i64 0, .int .i64 0, .slice none 0 0, .slice none 0 0, .slice none 0 0] ((wr.setCell ⟨g, k * 3, none⟩ (.int .i64 (ls2[k].fr + D))).setCell ⟨g, k * 3 + 1, none⟩ (.int .i64 (ls2[k].to_ + D)))) := hM.out.kept GG.out (fun r hr => by injection hr with hr; have := HGB.out; omega)
                  have HO1 := Lib.hid (own_keptB hO1.out GG.out (fun r hr => by
                    have := blk_ne (n2 := 0) (c2 := 0) P1.out r g hr rfl; exact this))
                  have HT := Lib.hid (hT.out.kept GG.out (fun p e _ q => by injection q with q; exact P3.out ⟨g, 0, none⟩ p rfl e q.symm))
                  have b4 := block_cell hM.out.b 4 _ rfl
                  have HNE : Hid (g ≠ w.heap.size + 1) := fun e => by have := HGB.out; omega
                  have bb4 : (wr.setCell ⟨g, k * 3, none⟩ (.int .i64 (ls2[k].fr + D))).cell? ⟨w.heap.size + 1, 4, none⟩ = some (.slice (some ⟨g, 0, none⟩) ls2.length c2) := by
                    rw [World.cell?_setCell_other _ _ _ _ (fun e => by injection e with e; exact HNE.out e)]; exact b4
                  have r3 : IntKind.i64.wrap (ls2[k].fr + D) = ls2[k].fr + D := IntWalk.i64_in _ (by omega)
                  have r4 : IntKind.i64.wrap (ls2[k].to_ + D) = ls2[k].to_ + D := IntWalk.i64_in _ (by omega)
                  have hx1 := hx.1; have hx2 := hx.2.1; have hx3 := hx.2.2.1; have hx4 := hx.2.2.2
                  clear hO2 hO2' hlm hnew he hcur hO1 hT GG hM hx e1 HGB
                  generalize ls2[k].fr = xf at *
                  generalize ls2[k].to_ = xt at *
                  have i0 : (0 : Int) ≤ (k : Int) := by omega
                  have i1 : (k : Int) < (ls2.length : Int) := by omega
                  have HLT := Lib.hid hlt2
                  go_wp2_with fail
                  go_roundw
                  case rel => exact ⟨k + 1, HLT.out, by go_num, HM, HN2, HO1, HT⟩
                  case measure => have := HLT.out; simp [intOf]; omega
                · obtain rfl : k = ls2.length := by omega
                  rw [lpK_all] at hO2
                  clear hk hlt2
                  obtain ⟨ao, cp, hvv, hs1, _⟩ := own_smps (l := ss2.map (mvS D)) (by rw [List.length_map]; exact hO1.out)
                  injection hvv with e1 e2 e3
                  subst e1; subst e3
                  clear e2
                  obtain ⟨ao, cp, hvv, hl1, _⟩ := own_lapsR (l := ls2.map (lapMv D)) (by rw [List.length_map]; exact hO2.out) (lapMv_name HB.out.hl.sizes)
                  injection hvv with e1 e2 e3
                  subst e1; subst e3
                  clear e2
                  have S1 := Lib.hid hs1; have L1 := Lib.hid hl1
                  have HC1 : Hid (ss2.length ≤ c1) := by
                    rcases hO1.out.2 with ⟨hv0, h00⟩ | ⟨g', cap', cur, hv0, _, _, h00, _⟩
                    · show _ ≤ _; omega
                    · injection hv0 with _ _ e3; subst e3; exact h00
                  clear hs1 hl1 hO1 hO2 s1 s2 s3 s4 hd0 r1
                  have u0 := block_cell hM.out.a 0 _ rfl
                  have u1 := block_cell hM.out.a 1 _ rfl
                  have u2 := block_cell hM.out.a 2 _ rfl
                  have u3 := block_cell hM.out.a 3 _ rfl
                  have u4 := block_cell hM.out.a 4 _ rfl
                  have u5 := block_cell hM.out.a 5 _ rfl
                  have b3 := block_cell hM.out.b 3 _ rfl
                  go_upto_region 21 with (fail)
                  go_cut [94] (fun s94 wx => s94 = .bool (jC ss D ss2) ∧ Hid (wr.grownBy wx none))
                  case first =>
                    by_cases h1 : ss.length = 0
                    · have hj : jC ss D ss2 = false := by unfold jC; simp [h1]
                      have g1 : decide ((0 : Int) < (ss.length : Int)) = false := decide_eq_false (by omega)
                      have g2 : decide (0 < ss.length) = false := decide_eq_false (by omega)
                      have g3 : ¬ (0 : Int) < (ss.length : Int) := by omega
                      have HJ := Lib.hid hj
                      clear h1 hj u0 u1 u2 u4 u5
                      go_quiet (fail)
                      go_wp2_with fail
                      go_meet
                      exact ⟨by rw [HJ.out], grown_drewN _ _ _⟩
                    · have g1 : decide ((0 : Int) < (ss.length : Int)) = true := decide_eq_true (by omega)
                      have g2 : decide (0 < ss.length) = true := decide_eq_true (by omega)
                      have g3 : (0 : Int) < (ss.length : Int) := by omega
                      have H1 := Lib.hid h1
                      clear h1
                      by_cases h2 : ss2.length = 0
                      · have hj : jC ss D ss2 = false := by unfold jC; simp [h2]
                        have g4 : decide ((0 : Int) < (ss2.length : Int)) = false := decide_eq_false (by omega)
                        have g5 : decide (0 < ss2.length) = false := decide_eq_false (by omega)
                        have g6 : ¬ (0 : Int) < (ss2.length : Int) := by omega
                        have HJ := Lib.hid hj
                        clear h2 hj u0 u1 u2 u4 u5
                        go_quiet (fail)
                        go_wp2_with fail
                        go_meet
                        exact ⟨by rw [HJ.out], grown_drewN _ _ _⟩
                      · obtain ⟨b0, o0, rfl, q⟩ := smps_at S1.out (by rw [List.length_map]; omega)
                        have s0 := (q 0 (by rw [List.length_map]; omega)).1
                        rw [List.getElem_map] at s0
                        obtain ⟨t0, ht0⟩ : ∃ t, firstT ss2 + D = t := ⟨_, rfl⟩
                        have hs0 : (mvS D (ss2[0]'(by omega))).t = t0 := by rw [← ht0, firstT_at (by omega)]; rfl
                        rw [hs0] at s0
                        simp only [Nat.zero_mul, Nat.add_zero] at s0
                        have hj : jC ss D ss2 = (t0 == sv) := by
                          unfold jC
                          rw [ht0, HSV.out, g2, show decide (0 < ss2.length) = true from decide_eq_true (by omega)]
                          by_cases e : t0 = sv <;> simp [e]
                        have HJ := Lib.hid hj
                        have g4 : decide ((0 : Int) < (ss2.length : Int)) = true := decide_eq_true (by omega)
                        have g5 : decide (0 < ss2.length) = true := decide_eq_true (by omega)
                        have g6 : (0 : Int) < (ss2.length : Int) := by omega
                        have g7 : 0 < ss2.length := by omega
                        have hSd : (World.grownBy wr (wr.drew) none ∧ World.cell? (wr.drew) ⟨w.heap.size, 0, none⟩ = some (.string nm) ∧ World.cell? (wr.drew) ⟨w.heap.size, 1, none⟩ = some (.int .i64 sp) ∧ World.cell? (wr.drew) ⟨w.heap.size, 2, none⟩ = some (.int .i64 st) ∧ World.cell? (wr.drew) ⟨w.heap.size, 3, none⟩ = some (.slice so ss.length sc) ∧ World.cell? (wr.drew) ⟨w.heap.size, 4, none⟩ = some (.slice lo ls.length lc) ∧ World.cell? (wr.drew) ⟨w.heap.size, 5, none⟩ = some (.slice to_ ts.length tc) ∧ World.cell? (wr.drew) ⟨w.heap.size + 1, 3, none⟩ = some (.slice (some ⟨b0, o0, none⟩) ss2.length c1) ∧ World.cell? (wr.drew) ⟨b0, o0, none⟩ = some (.int .i64 t0)) := ⟨grown_drewN wr none 1, u0, u1, u2, u3, u4, u5, b3, s0⟩
                        have hstep : ∀ V V' : World, (World.grownBy wr V none ∧ World.cell? V ⟨w.heap.size, 0, none⟩ = some (.string nm) ∧ World.cell? V ⟨w.heap.size, 1, none⟩ = some (.int .i64 sp) ∧ World.cell? V ⟨w.heap.size, 2, none⟩ = some (.int .i64 st) ∧ World.cell? V ⟨w.heap.size, 3, none⟩ = some (.slice so ss.length sc) ∧ World.cell? V ⟨w.heap.size, 4, none⟩ = some (.slice lo ls.length lc) ∧ World.cell? V ⟨w.heap.size, 5, none⟩ = some (.slice to_ ts.length tc) ∧ World.cell? V ⟨w.heap.size + 1, 3, none⟩ = some (.slice (some ⟨b0, o0, none⟩) ss2.length c1) ∧ World.cell? V ⟨b0, o0, none⟩ = some (.int .i64 t0)) → V.grownBy V' none → (World.grownBy wr V' none ∧ World.cell? V' ⟨w.heap.size, 0, none⟩ = some (.string nm) ∧ World.cell? V' ⟨w.heap.size, 1, none⟩ = some (.int .i64 sp) ∧ World.cell? V' ⟨w.heap.size, 2, none⟩ = some (.int .i64 st) ∧ World.cell? V' ⟨w.heap.size, 3, none⟩ = some (.slice so ss.length sc) ∧ World.cell? V' ⟨w.heap.size, 4, none⟩ = some (.slice lo ls.length lc) ∧ World.cell? V' ⟨w.heap.size, 5, none⟩ = some (.slice to_ ts.length tc) ∧ World.cell? V' ⟨w.heap.size + 1, 3, none⟩ = some (.slice (some ⟨b0, o0, none⟩) ss2.length c1) ∧ World.cell? V' ⟨b0, o0, none⟩ = some (.int .i64 t0)) := fun V V' h g => ⟨grown_trans h.1 g, grown_cell g (h.2.1), grown_cell g (h.2.2.1), grown_cell g (h.2.2.2.1), grown_cell g (h.2.2.2.2.1), grown_cell g (h.2.2.2.2.2.1), grown_cell g (h.2.2.2.2.2.2.1), grown_cell g (h.2.2.2.2.2.2.2.1), grown_cell g (h.2.2.2.2.2.2.2.2)⟩
                        have hof : ∀ V : World, (World.grownBy wr V none ∧ World.cell? V ⟨w.heap.size, 0, none⟩ = some (.string nm) ∧ World.cell? V ⟨w.heap.size, 1, none⟩ = some (.int .i64 sp) ∧ World.cell? V ⟨w.heap.size, 2, none⟩ = some (.int .i64 st) ∧ World.cell? V ⟨w.heap.size, 3, none⟩ = some (.slice so ss.length sc) ∧ World.cell? V ⟨w.heap.size, 4, none⟩ = some (.slice lo ls.length lc) ∧ World.cell? V ⟨w.heap.size, 5, none⟩ = some (.slice to_ ts.length tc) ∧ World.cell? V ⟨w.heap.size + 1, 3, none⟩ = some (.slice (some ⟨b0, o0, none⟩) ss2.length c1) ∧ World.cell? V ⟨b0, o0, none⟩ = some (.int .i64 t0)) → SmpsAt V so ss := fun V h => HA.out.hs.grown (grown_trans hM.out.g h.1)
                        have SLN : Hid ((ss.length : Int) ≤ 9223372036854775807) := by show _ ≤ _; omega
                        clear ht0 hs0 hj q h2 u0 u1 u2 u3 u4 u5 b3 s0
                        go_region_held3 (fun V => (World.grownBy wr V none ∧ World.cell? V ⟨w.heap.size, 0, none⟩ = some (.string nm) ∧ World.cell? V ⟨w.heap.size, 1, none⟩ = some (.int .i64 sp) ∧ World.cell? V ⟨w.heap.size, 2, none⟩ = some (.int .i64 st) ∧ World.cell? V ⟨w.heap.size, 3, none⟩ = some (.slice so ss.length sc) ∧ World.cell? V ⟨w.heap.size, 4, none⟩ = some (.slice lo ls.length lc) ∧ World.cell? V ⟨w.heap.size, 5, none⟩ = some (.slice to_ ts.length tc) ∧ World.cell? V ⟨w.heap.size + 1, 3, none⟩ = some (.slice (some ⟨b0, o0, none⟩) ss2.length c1) ∧ World.cell? V ⟨b0, o0, none⟩ = some (.int .i64 t0))) (first | exact hSd | (refine hstep _ _ ?_ (by assumption) <;> assumption)) (first
                          | (go_at_call 56; refine (span_any ⟨nm, sp, st, so, sc, ss, lo, lc, ls, to_, tc, ts⟩ SLN.out _ (hof _ (by assumption)) HSV).mono ?_; rintro x w7 ⟨rfl, hg7⟩))
                        all_goals
                          rename_i hfin
                          clear hSd hof hstep
                          obtain ⟨G9, _⟩ := hfin
                          have HG9 := Lib.hid G9
                          go_wp2_with fail
                          go_meet
                          exact ⟨by rw [HJ.out], HG9.out⟩
                  case rest =>
                    obtain ⟨rfl, hG⟩ := hcut
                    have M7 := Lib.hid (hM.out.grown hG.out)
                    replace S1 := Lib.hid (S1.out.grown hG.out); replace L1 := Lib.hid (L1.out.grown hG.out)
                    have T1 := Lib.hid (hT.out.grown hG.out)
                    clear hM hT hG u0 u1 u2 u3 u4 u5 b3
                    obtain ⟨q, hq⟩ : ∃ q, jC ss D ss2 = q := ⟨_, rfl⟩
                    simp only [hq]
                    have HQ := Lib.hid hq
                    clear hq
                    have b3 := block_cell M7.out.b 3 _ rfl
                    have f3 := block_free (k := 3) M7.out.b
                    go_upto_if 94 with (fail)
                    go_cut [] (fun wx => ∃ so' sc', Hid (JnB w #[.string nm, .int .i64 sp, .int .i64 st, .slice so ss.length sc, .slice lo ls.length lc, .slice to_ ts.length tc] #[.string nm2, .int .i64 sp, .int .i64 st2, .slice so' (jS ss D ss2).length sc', .slice a2 ls2.length c2, .slice a3 ts2.length c3] #[.string ⟨#[]⟩, .int .i64 0, .int .i64 0, .slice none 0 0, .slice none 0 0, .slice none 0 0] wx) ∧ Hid (SmpsAt wx so' (jS ss D ss2)) ∧ Hid (LapsAt wx a2 (ls2.map (lapMv D))) ∧ Hid (TagsAt wx a3 ts2))
                    case first =>
                      cases q
                      · go_wp2_with fail
                        go_meet
                        exact ⟨a1, c1, by rw [jS_no HQ.out, List.length_map]; exact M7, by rw [jS_no HQ.out]; exact S1, L1, T1⟩
                      · have h2 : 0 < ss2.length := by
                          have := HQ.out; unfold jC at this; simp only [Bool.and_eq_true, decide_eq_true_eq] at this; exact this.1.2
                        obtain ⟨n, hn⟩ : ∃ n, ss2.length = n + 1 := ⟨ss2.length - 1, by omega⟩
                        obtain ⟨b0, o0, rfl, _⟩ := smps_at S1.out (by rw [List.length_map]; omega)
                        have hlen : (jS ss D ss2).length = n := by rw [jS_yes HQ.out, List.length_drop, List.length_map]; omega
                        have HLEN := Lib.hid hlen
                        have hc1 := HC1.out
                        rw [hn] at b3 hc1
                        have k1 : (1 : Int) ≤ ((n + 1 : Nat) : Int) := by omega
                        have k2 : 1 ≤ n + 1 := by omega
                        have BF : Hid (b0 ≠ w.heap.size + 1) := fun e => by have := F1.out _ rfl; simp only at this; omega
                        have HN2 := Lib.hid hn
                        by_cases hc : c1 = 1
                        · subst hc
                          have h0 : n = 0 := by omega
                          have H0 := Lib.hid h0
                          clear h0 hlen hn h2
                          go_wp2_with fail
                          go_meet
                          refine ⟨some ⟨b0, o0, none⟩, 0, by rw [HLEN.out, H0.out]; exact M7.out.setB 3 _, ?_, ?_, ?_⟩
                          · have : jS ss D ss2 = [] := List.eq_nil_of_length_eq_zero (by rw [HLEN.out, H0.out])
                            rw [this]; exact smps_nil _ _
                          · exact L1.out.kept (setcR_grown _ (w.heap.size + 1) 3 _) (fun p e _ q => by injection q with q; have := F2.out p e; omega)
                          · exact T1.out.kept (setcR_grown _ (w.heap.size + 1) 3 _) (fun p e _ q => by injection q with q; have := F3.out p e; omega)
                        · have k3 : (1 : Int) ≤ (c1 : Int) := by omega
                          have k4 : 1 ≤ c1 := by omega
                          have k5 : ¬ (c1 : Int) = 1 := by omega
                          clear hlen hn h2
                          go_wp2_with fail
                          go_meet
                          refine ⟨some ⟨b0, o0 + 7, none⟩, c1 - 1, by rw [HLEN.out]; exact M7.out.setB 3 _, ?_, ?_, ?_⟩
                          · rw [jS_yes HQ.out]
                            exact (smps_drop1 S1.out).eq fun p e o => World.cell?_setCell_other _ _ _ _ (fun q => by cases e; injection q with q; exact BF.out q.symm)
                          · exact L1.out.kept (setcR_grown _ (w.heap.size + 1) 3 _) (fun p e _ q => by injection q with q; have := F2.out p e; omega)
                          · exact T1.out.kept (setcR_grown _ (w.heap.size + 1) 3 _) (fun p e _ q => by injection q with q; have := F3.out p e; omega)
                    case rest =>
                      obtain ⟨so', sc', hM, hS, hL, hT⟩ := hcut
                      clear S1 L1 T1 M7 b3 f3 HC1
                      obtain ⟨LS, hLS⟩ : ∃ l, ss ++ jS ss D ss2 = l := ⟨_, rfl⟩
                      obtain ⟨LL, hLL⟩ : ∃ l, ls ++ ls2.map (lapMv D) = l := ⟨_, rfl⟩
                      obtain ⟨LT, hLT⟩ : ∃ l, ts ++ ts2 = l := ⟨_, rfl⟩
                      have HLS := Lib.hid hLS; have HLL := Lib.hid hLL; have HLT := Lib.hid hLT
                      have LN : Hid ((LS.length : Int) ≤ 40000 ∧ (LL.length : Int) ≤ 400 ∧ LT.length ≤ 40) := by
                        have := jS_len ss D ss2
                        show _ ∧ _ ∧ _
                        rw [← hLS, ← hLL, ← hLT, List.length_append, List.length_append, List.length_append, List.length_map]; omega
                      clear hLS hLL hLT
                      have JL : Hid ((jS ss D ss2).length ≤ 20000) := by show _ ≤ _; have := jS_len ss D ss2; omega
                      have u3 := block_cell hM.out.a 3 _ rfl
                      have uf3 := block_free (k := 3) hM.out.a
                      have b3 := block_cell hM.out.b 3 _ rfl
                      go_wp2_with fail
                      have gA := World.grownBy_alloc wc (.cells #[.slice so ss.length sc, .slice so' (jS ss D ss2).length sc'] 22) none
                      have MA := Lib.hid (hM.out.grown gA)
                      have LT0 := hM.out.lt
                      refine (concat_smps wc.heap.size 2 so so' sc sc' ss (jS ss D ss2) (by omega) JL.out _ (block_cell (heap_alloc_new wc _) 0 _ rfl) (block_cell (heap_alloc_new wc _) 1 _ rfl) (by simp) (HA.out.hs.grown MA.out.g) (hS.out.grown gA)).mono ?_; rintro e w7 ⟨⟨v7, rfl, ho7⟩, hg7⟩
                      rw [HLS.out] at ho7
                      obtain ⟨x1, k1, rfl, _, hb7⟩ := own_smps ho7
                      have sz7 := (World.grownBy_alloc wc (.cells #[.slice so ss.length sc, .slice so' (jS ss D ss2).length sc'] 22) none).size
                      have X1 : Hid (∀ p, x1 = some p → w.heap.size + 3 ≤ p.block) := fun p e => by have := (hb7 p e).1; omega
                      have M7 := Lib.hid (MA.out.grown hg7)
                      replace hL := Lib.hid ((hL.out.grown gA).grown hg7)
                      replace hT := Lib.hid ((hT.out.grown gA).grown hg7)
                      have OX := Lib.hid ho7
                      clear ho7 hg7 hb7 gA MA hM hS u3 uf3 b3 sz7 LT0
                      have u3 := block_cell M7.out.a 3 _ rfl
                      have uf3 := block_free (k := 3) M7.out.a
                      have u4 := block_cell M7.out.a 4 _ rfl
                      have uf4 := block_free (k := 4) M7.out.a
                      have b4 := block_cell M7.out.b 4 _ rfl
                      go_upto_region 24 with (fail)
                      have M8 : Hid (JnB w #[.string nm, .int .i64 sp, .int .i64 st, .slice x1 LS.length k1, .slice lo ls.length lc, .slice to_ ts.length tc] #[.string nm2, .int .i64 sp, .int .i64 st2, .slice so' (jS ss D ss2).length sc', .slice a2 ls2.length c2, .slice a3 ts2.length c3] #[.string ⟨#[]⟩, .int .i64 0, .int .i64 0, .slice none 0 0, .slice none 0 0, .slice none 0 0] (w7.setCell ⟨w.heap.size, 3, none⟩ (.slice x1 LS.length k1))) := M7.out.setA 3 _
                      have G8 := Lib.hid (setcR_grown w7 w.heap.size 3 (.slice x1 LS.length k1))
                      generalize w7.setCell ⟨w.heap.size, 3, none⟩ (.slice x1 LS.length k1) = W8 at *
                      replace OX := Lib.hid (own_keptB OX.out G8.out (fun r hr => by have := blk_far X1.out r hr; omega))
                      replace hL := Lib.hid (hL.out.kept G8.out (fun p e _ q => by injection q with q; have := F2.out p e; omega))
                      replace hT := Lib.hid (hT.out.kept G8.out (fun p e _ q => by injection q with q; have := F3.out p e; omega))
                      clear M7 G8 u3 uf3 u4 uf4 b4
                      have u4 := block_cell M8.out.a 4 _ rfl
                      have uf4 := block_free (k := 4) M8.out.a
                      have b4 := block_cell M8.out.b 4 _ rfl
                      go_wp2_with fail
                      have gA := World.grownBy_alloc W8 (.cells #[.slice lo ls.length lc, .slice a2 ls2.length c2] 23) none
                      have MA := Lib.hid (M8.out.grown gA)
                      have LT0 := M8.out.lt
                      have LML : (ls2.map (lapMv D)).length = ls2.length := List.length_map _
                      refine (concat_laps W8.heap.size 2 lo a2 lc c2 ls (ls2.map (lapMv D)) (by omega) (by omega) _ (block_cell (heap_alloc_new W8 _) 0 _ rfl) (by rw [LML]; exact block_cell (heap_alloc_new W8 _) 1 _ rfl) (by simp) (HA.out.hl.grown MA.out.g) (hL.out.grown gA)).mono ?_; rintro e w7 ⟨⟨v7, rfl, ho7⟩, hg7⟩
                      rw [HLL.out] at ho7
                      have LNM : Hid (∀ i (h : i < LL.length), LL[i].name.size ≤ 140737488355328) := by have q := laps_app HA.out.hl.sizes (lapMv_name (d := D) HB.out.hl.sizes); rw [HLL.out] at q; exact q
                      obtain ⟨x2, k2, rfl, _, hb7⟩ := own_lapsR ho7 LNM.out
                      have sz7 := (World.grownBy_alloc W8 (.cells #[.slice lo ls.length lc, .slice a2 ls2.length c2] 23) none).size
                      have X2 : Hid (∀ p, x2 = some p → w.heap.size + 3 ≤ p.block) := fun p e => by have := (hb7 p e).1; omega
                      have M7 := Lib.hid (MA.out.grown hg7)
                      replace OX := Lib.hid (own_kept (own_kept OX.out gA) hg7)
                      replace hT := Lib.hid ((hT.out.grown gA).grown hg7)
                      have OY := Lib.hid ho7
                      clear ho7 hg7 hb7 gA MA M8 hL u4 uf4 b4 sz7 LT0
                      have u4 := block_cell M7.out.a 4 _ rfl
                      have uf4 := block_free (k := 4) M7.out.a
                      go_upto_region 25 with (fail)
                      have M8 : Hid (JnB w #[.string nm, .int .i64 sp, .int .i64 st, .slice x1 LS.length k1, .slice x2 LL.length k2, .slice to_ ts.length tc] #[.string nm2, .int .i64 sp, .int .i64 st2, .slice so' (jS ss D ss2).length sc', .slice a2 ls2.length c2, .slice a3 ts2.length c3] #[.string ⟨#[]⟩, .int .i64 0, .int .i64 0, .slice none 0 0, .slice none 0 0, .slice none 0 0] (w7.setCell ⟨w.heap.size, 4, none⟩ (.slice x2 LL.length k2))) := M7.out.setA 4 _
                      have G8 := Lib.hid (setcR_grown w7 w.heap.size 4 (.slice x2 LL.length k2))
                      generalize w7.setCell ⟨w.heap.size, 4, none⟩ (.slice x2 LL.length k2) = W9 at *
                      replace OX := Lib.hid (own_keptB OX.out G8.out (fun r hr => by have := blk_far X1.out r hr; omega))
                      replace OY := Lib.hid (own_keptB OY.out G8.out (fun r hr => by have := blk_far X2.out r hr; omega))
                      replace hT := Lib.hid (hT.out.kept G8.out (fun p e _ q => by injection q with q; have := F3.out p e; omega))
                      clear M7 G8 u4 uf4 LML
                      have u5 := block_cell M8.out.a 5 _ rfl
                      have uf5 := block_free (k := 5) M8.out.a
                      have b5 := block_cell M8.out.b 5 _ rfl
                      go_wp2_with fail
                      have LT0 := M8.out.lt
                      refine (joinTags_is to_ a3 tc c3 ts ts2 (by omega) (by omega) HOK.out.tags HOK2.out.tags W9 (HA.out.ht.grown M8.out.g) hT.out).mono ?_; rintro e w12 ⟨⟨x4, k4, base, rfl, hb12, ho12⟩, hg12⟩
                      have M10 := Lib.hid (M8.out.grown hg12)
                      replace OX := Lib.hid (own_kept OX.out hg12)
                      replace OY := Lib.hid (own_kept OY.out hg12)
                      have OZ := Lib.hid ho12
                      have TSJ : Hid (∀ i (h : i < (tagsJ ts ts2).length), (tagsJ ts ts2)[i].size ≤ 140737488355328) := tags_app HA.out.ht.sizes HB.out.ht.sizes (fun x hx => tagsJ_mem hx)
                      have X4 : Hid (∀ p, x4 = some p → w.heap.size + 3 ≤ p.block) := fun p e => by
                        obtain ⟨ao, cp, hv, _, hb⟩ := own_tags ho12 TSJ.out
                        injection hv with e1 _ _
                        have := (hb p (e1 ▸ e)).1
                        omega
                      clear ho12 hg12 hb12 M8 u5 uf5 b5 hT LT0
                      have u5 := block_cell M10.out.a 5 _ rfl
                      have uf5 := block_free (k := 5) M10.out.a
                      go_upto_region 26 with (fail)
                      have M11 : Hid (JnB w #[.string nm, .int .i64 sp, .int .i64 st, .slice x1 LS.length k1, .slice x2 LL.length k2, .slice x4 (tagsJ ts ts2).length k4] #[.string nm2, .int .i64 sp, .int .i64 st2, .slice so' (jS ss D ss2).length sc', .slice a2 ls2.length c2, .slice a3 ts2.length c3] #[.string ⟨#[]⟩, .int .i64 0, .int .i64 0, .slice none 0 0, .slice none 0 0, .slice none 0 0] (w12.setCell ⟨w.heap.size, 5, none⟩ (.slice x4 (tagsJ ts ts2).length k4))) := M10.out.setA 5 _
                      have G8 := Lib.hid (setcR_grown w12 w.heap.size 5 (.slice x4 (tagsJ ts ts2).length k4))
                      generalize w12.setCell ⟨w.heap.size, 5, none⟩ (.slice x4 (tagsJ ts ts2).length k4) = W13 at *
                      replace OX := Lib.hid (own_keptB OX.out G8.out (fun r hr => by have := blk_far X1.out r hr; omega))
                      replace OY := Lib.hid (own_keptB OY.out G8.out (fun r hr => by have := blk_far X2.out r hr; omega))
                      replace OZ := Lib.hid (own_keptB OZ.out G8.out (fun r hr => by have := blk_far X4.out r hr; omega))
                      clear M10 G8 u5 uf5
                      obtain ⟨p, hp⟩ : ∃ p, joinV ⟨nm, sp, st, so, sc, ss, lo, lc, ls, to_, tc, ts⟩ ⟨nm2, sp, st2, so2, sc2, ss2, lo2, lc2, ls2, to2, tc2, ts2⟩ = p := ⟨_, rfl⟩
                      have HP : Hid (p = ⟨nm, sp, st, so, sc, LS, lo, lc, LL, to_, tc, tagsJ ts ts2⟩) := by show _ = _; rw [← hp, ← HLS.out, ← HLL.out, ← HD.out]; rfl
                      have hv := HV.out
                      rw [hp] at hv
                      unfold okV at hv
                      simp only [Prod.mk.injEq] at hv
                      obtain ⟨hc1, hc2⟩ := hv
                      have HE2 : Hid (chkE ⟨nm, sp, st, x1, k1, LS, x2, k2, LL, x4, k4, tagsJ ts ts2⟩ = E) := by show _ = _; rw [← hc2]; exact chk_only (by rw [HP.out])
                      have HCC : Hid ((if E = 0 then p else act0) = c) := by show _ = _; rw [← hc1, hc2]
                      have hat : ActAt W13 ⟨nm, sp, st, x1, k1, LS, x2, k2, LL, x4, k4, tagsJ ts ts2⟩ := by
                        obtain ⟨ao, cp, hv1, hs, _⟩ := own_smps OX.out
                        injection hv1 with e1 _ _; subst e1
                        obtain ⟨ao, cp, hv1, hl, _⟩ := own_lapsR OY.out LNM.out
                        injection hv1 with e1 _ _; subst e1
                        obtain ⟨ao, cp, hv1, ht, _⟩ := own_tags OZ.out TSJ.out
                        injection hv1 with e1 _ _; subst e1
                        refine ⟨HA.out.ns, ?_, ?_, ?_, hs, hl, ht⟩
                        · have := LN.out; show (LS.length : Int) ≤ _; omega
                        · have := LN.out; show (LL.length : Int) ≤ _; omega
                        · have := tagsJ_len ts ts2; show ((tagsJ ts ts2).length : Int) ≤ _; omega
                      have HAT := Lib.hid hat
                      clear hat hc1 hc2 hp OX OY OZ
                      have u0 := block_cell M11.out.a 0 _ rfl
                      have u1 := block_cell M11.out.a 1 _ rfl
                      have u2 := block_cell M11.out.a 2 _ rfl
                      have u3 := block_cell M11.out.a 3 _ rfl
                      have u4 := block_cell M11.out.a 4 _ rfl
                      have u5 := block_cell M11.out.a 5 _ rfl
                      go_wp2_with fail
                      refine (checked_any ⟨nm, sp, st, x1, k1, LS, x2, k2, LL, x4, k4, tagsJ ts ts2⟩ _ HAT.out (N := w.heap.size + 3) ⟨X1.out, X2.out, X4.out⟩ HE2).mono ?_; rintro e w14 ⟨⟨v, rfl, hnew⟩, hg14⟩
                      have HNW : Hid (ActNew (w.heap.size + 3) w14 v c) := by
                        have q := ActNew.same (p := ⟨nm, sp, st, x1, k1, LS, x2, k2, LL, x4, k4, tagsJ ts ts2⟩) (q := p) hnew (fun _ => by rw [HP.out])
                        rw [HCC.out] at q; exact q
                      have M12 := Lib.hid (M11.out.grown hg14)
                      clear hnew hg14 M11 u0 u1 u2 u3 u4 u5
                      obtain ⟨so9, sc9, lo9, lc9, to9, tc9, rfl, ha9, hf9⟩ := HNW.out
                      have HA9 := Lib.hid ha9; have HF9 := Lib.hid hf9
                      clear ha9 hf9 HNW
                      have z0 := block_cell M12.out.z 0 _ rfl
                      have zf0 := block_free (k := 0) M12.out.z
                      have z1 := block_cell M12.out.z 1 _ rfl
                      have zf1 := block_free (k := 1) M12.out.z
                      have z2 := block_cell M12.out.z 2 _ rfl
                      have zf2 := block_free (k := 2) M12.out.z
                      have z3 := block_cell M12.out.z 3 _ rfl
                      have zf3 := block_free (k := 3) M12.out.z
                      have z4 := block_cell M12.out.z 4 _ rfl
                      have zf4 := block_free (k := 4) M12.out.z
                      have z5 := block_cell M12.out.z 5 _ rfl
                      have zf5 := block_free (k := 5) M12.out.z
                      go_wp2_with fail
                      refine bodyPost_ret (v := .tuple #[.agg #[.string c.name, .int .i64 c.sport, .int .i64 c.start, .slice so9 c.ss.length sc9, .slice lo9 c.ls.length lc9, .slice to9 c.ts.length tc9], .int .i64 E]) (by simp [results, Try.results32, go_sem, z0, z1, z2, z3, z4, z5]) rfl ⟨⟨_, rfl, so9, sc9, lo9, lc9, to9, tc9, rfl, ?_⟩, ((((((M12.out.setZ 0 _).setZ 1 _).setZ 2 _).setZ 3 _).setZ 4 _).setZ 5 _).g⟩
                      exact HA9.out.far HF9.out fun p hp => by
                        iterate 6 rw [World.cell?_setCell_other _ _ _ _ (fun e => by subst e; exact absurd hp (by show ¬ w.heap.size + 3 ≤ w.heap.size + 2; omega))]
            · have hlt : decide (D < sv) = true := decide_eq_true (by omega)
              have hv := HV.out
              rw [if_neg d4] at hv
              simp only [Prod.mk.injEq] at hv
              obtain ⟨rfl, rfl⟩ := hv
              have z0 := block_cell M2.out.z 0 _ rfl
              have zf0 := block_free (k := 0) M2.out.z
              have z1 := block_cell M2.out.z 1 _ rfl
              have zf1 := block_free (k := 1) M2.out.z
              have z2 := block_cell M2.out.z 2 _ rfl
              have zf2 := block_free (k := 2) M2.out.z
              have z3 := block_cell M2.out.z 3 _ rfl
              have zf3 := block_free (k := 3) M2.out.z
              have z4 := block_cell M2.out.z 4 _ rfl
              have zf4 := block_free (k := 4) M2.out.z
              have z5 := block_cell M2.out.z 5 _ rfl
              have zf5 := block_free (k := 5) M2.out.z
              go_wp2_with fail
              refine bodyPost_ret (v := .tuple #[.agg #[.string ⟨#[]⟩, .int .i64 0, .int .i64 0, .slice none 0 0, .slice none 0 0, .slice none 0 0], .int .i64 11]) (by simp [results, Try.results32, go_sem, z0, z1, z2, z3, z4, z5]) rfl ⟨⟨_, rfl, act0_is _⟩, ((((((M2.out.setZ 0 _).setZ 1 _).setZ 2 _).setZ 3 _).setZ 4 _).setZ 5 _).g⟩
      · rw [if_neg d3] at hv
        simp only [Prod.mk.injEq] at hv
        obtain ⟨rfl, rfl⟩ := hv
        exact Join_e3 _ _ w HA.out HB.out HCE HCF (by simpa using d3)
    · rw [if_neg d2] at hv
      simp only [Prod.mk.injEq] at hv
      obtain ⟨rfl, rfl⟩ := hv
      exact Join_e2 _ _ w HA.out HB.out HCE HCF (by simpa using d2)
  · rw [if_neg d1] at hv
    simp only [Prod.mk.injEq] at hv
    obtain ⟨rfl, rfl⟩ := hv
    exact Join_e1 _ _ w HA.out HB.out HCE (by simpa using d1)
end Go.Proofs.Ytgkhhfojioepgaa

