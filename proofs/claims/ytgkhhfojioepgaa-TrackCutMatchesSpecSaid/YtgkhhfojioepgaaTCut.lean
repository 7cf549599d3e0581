/- The contract of Cut, for any activity. -/
import Derived.Test.YtgkhhfojioepgaaTCutP
import Derived.Deep.RegionHeld3
namespace Go.Proofs.Ytgkhhfojioepgaa
open Go.RowKit
set_option linter.unusedSimpArgs false
set_option linter.unusedVariables false

attribute [local go_sem] Oper.semAt_some

set_option maxRecDepth 100000 in
set_option maxHeartbeats 6400000 in
theorem Cut_any (a : Act) (f t : Int) (w : World) (ha : ActAt w a) {c : Act} {E : Int} (hE : Hid (cutO a f t = (c, E))) :
    Calls Try.prog 28 #[a.val, .int .i64 f, .int .i64 t] w fun e w' => (∃ v, e = .returned (.tuple #[v, .int .i64 E]) ∧ ActIs w' v c) ∧ w.grownBy w' none := by
  obtain ⟨ce, hce⟩ : ∃ e, chkE a = e := ⟨_, rfl⟩
  have hv := hE.out
  unfold cutO at hv
  rw [hce] at hv
  have HCE := Lib.hid hce; have HA := Lib.hid ha
  by_cases d1 : ce = 0
  · rw [if_pos d1] at hv
    subst d1
    have hok := chk_ok hce
    have HOK := Lib.hid hok
    have hl : (a.ss.length : Int) ≤ 20000 := hok.sl
    have HS := Lib.hid (sok_of hok)
    by_cases d2 : a.ss.length = 0
    · rw [if_pos d2] at hv
      simp only [Prod.mk.injEq] at hv
      obtain ⟨rfl, rfl⟩ := hv
      obtain ⟨nm, sp, st, so, sc, ss, lo, lc, ls, to_, tc, ts⟩ := a
      simp only [Act.val] at *
      have C4 := Lib.hid d2
      clear hE hce hok ha d2
      have M0 := Lib.hid (ClB.new w #[.string nm, .int .i64 sp, .int .i64 st, .slice so ss.length sc, .slice lo ls.length lc, .slice to_ ts.length tc] #[.string ⟨#[]⟩, .int .i64 0, .int .i64 0, .slice none 0 0, .slice none 0 0, .slice none 0 0])
      go_enter Try.func28, Try.ntmps28
      go_wp2_with fail
      refine (check_any ⟨nm, sp, st, so, sc, ss, lo, lc, ls, to_, tc, ts⟩ _ (HA.out.grown M0.out.g) HCE).mono ?_; rintro e w1 ⟨rfl, hg1⟩
      have M1 := Lib.hid (M0.out.grown hg1)
      clear hg1
      have u0 := block_cell M1.out.a 0 _ rfl
      have u1 := block_cell M1.out.a 1 _ rfl
      have u2 := block_cell M1.out.a 2 _ rfl
      have u3 := block_cell M1.out.a 3 _ rfl
      have u4 := block_cell M1.out.a 4 _ rfl
      have u5 := block_cell M1.out.a 5 _ rfl
      have z0 := block_cell M1.out.z 0 _ rfl
      have y0 := block_free (k := 0) M1.out.z
      have z1 := block_cell M1.out.z 1 _ rfl
      have y1 := block_free (k := 1) M1.out.z
      have z2 := block_cell M1.out.z 2 _ rfl
      have y2 := block_free (k := 2) M1.out.z
      have z3 := block_cell M1.out.z 3 _ rfl
      have y3 := block_free (k := 3) M1.out.z
      have z4 := block_cell M1.out.z 4 _ rfl
      have y4 := block_free (k := 4) M1.out.z
      have z5 := block_cell M1.out.z 5 _ rfl
      have y5 := block_free (k := 5) M1.out.z
      have hz : ((ss.length : Int) == 0) = true := beq_iff_eq.2 (by have := C4.out; omega)
      go_wp2_with fail
      refine bodyPost_ret (v := .tuple #[.agg #[.string ⟨#[]⟩, .int .i64 0, .int .i64 0, .slice none 0 0, .slice none 0 0, .slice none 0 0], .int .i64 13]) (by simp [results, Try.results28, go_sem, z0, z1, z2, z3, z4, z5]) rfl ⟨⟨_, rfl, act0_is _⟩, ((((((M1.out.setZ 0 _).setZ 1 _).setZ 2 _).setZ 3 _).setZ 4 _).setZ 5 _).g⟩
    · rw [if_neg d2] at hv
      obtain ⟨sv, hsv⟩ : ∃ e, spanL a.ss = e := ⟨_, rfl⟩
      have HSV := Lib.hid hsv
      have hsb := span_bd2 HS.out
      rw [hsv] at hsb hv
      by_cases d3 : 0 ≤ f ∧ f < t ∧ t ≤ sv
      · rw [if_pos d3] at hv
        obtain ⟨e1, e2, e3⟩ := d3
        obtain ⟨nm, sp, st, so, sc, ss, lo, lc, ls, to_, tc, ts⟩ := a
        simp only [Act.val] at *
        have C4 := Lib.hid d2
        have hz : ((ss.length : Int) == 0) = false := beq_eq_false_iff_ne.2 (by omega)
        obtain ⟨b, off, rfl⟩ : ∃ b off, so = some ⟨b, off, none⟩ := by
          have hne : ss ≠ [] := fun h => d2 (by rw [h]; rfl)
          cases so with
          | none => exact absurd (ha.hs.nil rfl) hne
          | some p =>
            obtain ⟨b, off, spot⟩ := p
            have hsp := ha.hs.spot _ rfl hne
            simp only at hsp
            subst hsp
            exact ⟨b, off, rfl⟩
        obtain ⟨xf, hxf⟩ : ∃ x, sampV ss f = x := ⟨_, rfl⟩
        obtain ⟨xt, hxt⟩ : ∃ x, sampV ss t = x := ⟨_, rfl⟩
        have KF : Hid (∀ V : World, SmpsAt V (some ⟨b, off, none⟩) ss → Calls Try.prog 57 #[.slice (some ⟨b, off, none⟩) ss.length sc, .int .i64 f] V fun e w' => e = .returned (.agg #[.int .i64 xf.t, .int .i64 xf.x, .int .i64 xf.y, .int .i64 xf.z, .int .i64 xf.p, .int .i64 xf.q, .int .i64 xf.s]) ∧ V.grownBy w' none) := fun V hV => sampleAt_is b off sc ss HS f (Lib.hid (idx_is HS.out f)) (idx_lt HS.out C4.out (by rw [HSV.out]; omega)) (by omega) V hV (Lib.hid hxf)
        have KT : Hid (∀ V : World, SmpsAt V (some ⟨b, off, none⟩) ss → Calls Try.prog 57 #[.slice (some ⟨b, off, none⟩) ss.length sc, .int .i64 t] V fun e w' => e = .returned (.agg #[.int .i64 xt.t, .int .i64 xt.x, .int .i64 xt.y, .int .i64 xt.z, .int .i64 xt.p, .int .i64 xt.q, .int .i64 xt.s]) ∧ V.grownBy w' none) := fun V hV => sampleAt_is b off sc ss HS t (Lib.hid (idx_is HS.out t)) (idx_lt HS.out C4.out (by rw [HSV.out]; omega)) (by omega) V hV (Lib.hid hxt)
        have HK0 : Hid (cutK ss f t 0 = [xf]) := by show _ = _; rw [cutK_zero, hxf]
        have HKL : Hid (cutL ss f t = cutK ss f t ss.length ++ [xt]) := by show _ = _; unfold cutL; rw [hxt]
        have g1 : decide (f < 0) = false := by simp; omega
        have g2 : decide (t ≤ f) = false := by simp; omega
        have g3 : decide (sv < t) = false := by simp; omega
        have HV := Lib.hid hv
        have HBD : Hid (∀ x ∈ cutL ss f t, 0 ≤ x.t ∧ x.t ≤ 1000000) := cutL_bd HS.out e1 e2 (by omega)
        obtain ⟨i0, hi, hz0, hz1, hz2⟩ := info_parts cinfo_smps
        have HI0 := Lib.hid hi; have HZ0 := Lib.hid hz0; have HZ1 := Lib.hid hz1; have HZ2 := Lib.hid hz2
        clear hi hz0 hz1 hz2 hE hce hok ha d2 hsv hxf hxt hv
        have M0 := Lib.hid (ClB.new w #[.string nm, .int .i64 sp, .int .i64 st, .slice (some ⟨b, off, none⟩) ss.length sc, .slice lo ls.length lc, .slice to_ ts.length tc] #[.string ⟨#[]⟩, .int .i64 0, .int .i64 0, .slice none 0 0, .slice none 0 0, .slice none 0 0])
        go_enter Try.func28, Try.ntmps28
        go_wp2_with fail
        refine (check_any ⟨nm, sp, st, some ⟨b, off, none⟩, sc, ss, lo, lc, ls, to_, tc, ts⟩ _ (HA.out.grown M0.out.g) HCE).mono ?_; rintro e w1 ⟨rfl, hg1⟩
        have M1 := Lib.hid (M0.out.grown hg1)
        have hg1K := Lib.hid hg1
        clear hg1
        have L0 : Hid (w.heap.size + 2 ≤ ((w.alloc (.cells #[.string nm, .int .i64 sp, .int .i64 st, .slice (some ⟨b, off, none⟩) ss.length sc, .slice lo ls.length lc, .slice to_ ts.length tc] 26)).alloc (.cells #[.string ⟨#[]⟩, .int .i64 0, .int .i64 0, .slice none 0 0, .slice none 0 0, .slice none 0 0] 26)).heap.size) := M0.out.lt
        have G01 : Hid (((w.alloc (.cells #[.string nm, .int .i64 sp, .int .i64 st, .slice (some ⟨b, off, none⟩) ss.length sc, .slice lo ls.length lc, .slice to_ ts.length tc] 26)).alloc (.cells #[.string ⟨#[]⟩, .int .i64 0, .int .i64 0, .slice none 0 0, .slice none 0 0, .slice none 0 0] 26)).grownBy w1 none) := hg1K.out
        have u0 := block_cell M1.out.a 0 _ rfl
        have u1 := block_cell M1.out.a 1 _ rfl
        have u2 := block_cell M1.out.a 2 _ rfl
        have u3 := block_cell M1.out.a 3 _ rfl
        have u4 := block_cell M1.out.a 4 _ rfl
        have u5 := block_cell M1.out.a 5 _ rfl
        go_wp2_with fail
        refine (span_any ⟨nm, sp, st, some ⟨b, off, none⟩, sc, ss, lo, lc, ls, to_, tc, ts⟩ (by show (ss.length : Int) ≤ _; omega) _ (HA.out.hs.grown M1.out.g) HSV).mono ?_; rintro e w2 ⟨rfl, hg2⟩
        have M2 := Lib.hid (M1.out.grown hg2)
        have G02 := Lib.hid (grown_trans G01.out hg2)
        clear hg2 u0 u1 u2 u3 u4 u5 M1 G01
        have u0 := block_cell M2.out.a 0 _ rfl
        have u1 := block_cell M2.out.a 1 _ rfl
        have u2 := block_cell M2.out.a 2 _ rfl
        have u3 := block_cell M2.out.a 3 _ rfl
        have u4 := block_cell M2.out.a 4 _ rfl
        have u5 := block_cell M2.out.a 5 _ rfl
        go_wp2_with fail
        refine (KF.out _ (HA.out.hs.grown M2.out.g)).mono ?_; rintro e w3 ⟨rfl, hg3⟩
        have M3 := Lib.hid (M2.out.grown hg3)
        have G03 := Lib.hid (grown_trans G02.out hg3)
        clear hg3 u0 u1 u2 u3 u4 u5 M2 G02 KF
        go_upto_region 9 with (fail)
        obtain ⟨g, hg⟩ : ∃ g, w3.heap.size = g := ⟨_, rfl⟩
        have gg := World.grownBy_alloc w3 (.cells #[.int .i64 xf.t, .int .i64 xf.x, .int .i64 xf.y, .int .i64 xf.z, .int .i64 xf.p, .int .i64 xf.q, .int .i64 xf.s] 28) none
        have M4 := Lib.hid (M3.out.grown gg)
        have G04 := Lib.hid (grown_trans G03.out gg)
        have O4 : Hid (World.ownsRow (w3.alloc (.cells #[.int .i64 xf.t, .int .i64 xf.x, .int .i64 xf.y, .int .i64 xf.z, .int .i64 xf.p, .int .i64 xf.q, .int .i64 xf.s] 28)) (w.heap.size + 2) 28 7 (.slice (some ⟨g, 0, none⟩) 1 1) (cutK ss f t 0).length (smpRw (cutK ss f t 0))) := by
          rw [HK0.out, ← hg]; exact own_one M3.out.lt xf
        rw [hg]
        clear hg gg M3 G03
        generalize w3.alloc (.cells #[.int .i64 xf.t, .int .i64 xf.x, .int .i64 xf.y, .int .i64 xf.z, .int .i64 xf.p, .int .i64 xf.q, .int .i64 xf.s] 28) = W4 at *
        have u3 := block_cell M4.out.a 3 _ rfl
        go_wp2_with fail
        clear u3
        go_loopw [9, 45] (fun sv9 iv wr => ∃ (k : Nat) (v : Value), v = sv9 ∧ iv = .int .i64 k ∧ k ≤ ss.length ∧ Hid (ClB w #[.string nm, .int .i64 sp, .int .i64 st, .slice (some ⟨b, off, none⟩) ss.length sc, .slice lo ls.length lc, .slice to_ ts.length tc] #[.string ⟨#[]⟩, .int .i64 0, .int .i64 0, .slice none 0 0, .slice none 0 0, .slice none 0 0] wr) ∧ Hid (((w.alloc (.cells #[.string nm, .int .i64 sp, .int .i64 st, .slice (some ⟨b, off, none⟩) ss.length sc, .slice lo ls.length lc, .slice to_ ts.length tc] 26)).alloc (.cells #[.string ⟨#[]⟩, .int .i64 0, .int .i64 0, .slice none 0 0, .slice none 0 0, .slice none 0 0] 26)).grownBy wr none) ∧ Hid (World.ownsRow wr (w.heap.size + 2) 28 7 v (cutK ss f t k).length (smpRw (cutK ss f t k))))
          (fun _ iv _ => ss.length - (intOf iv).toNat)
        case atStart => exact ⟨0, _, rfl, rfl, Nat.zero_le _, M4, G04, O4⟩
        case round =>
          obtain ⟨k, v, rfl, rfl, hk, hM, hG, hO⟩ := hrel
          by_cases hlt : k < ss.length
          · obtain ⟨q0, q1, q2, q3, q4, q5, q6⟩ := (HA.out.hs.grown hM.out.g).cells _ rfl k hlt
            simp only at q0 q1 q2 q3 q4 q5 q6
            have HIN : Hid (f < ss[k].t → ss[k].t < t → cutK ss f t (k + 1) = cutK ss f t k ++ [ss[k]]) := fun h1 h2 => cutK_in hlt h1 h2
            have HOUT : Hid (¬ (f < ss[k].t ∧ ss[k].t < t) → cutK ss f t (k + 1) = cutK ss f t k) := fun h1 => cutK_out hlt h1
            have HLEN : Hid ((cutK ss f t k).length ≤ 20001) := by show _ ≤ _; have := cutK_le ss f t k; omega
            generalize ss[k] = x at *
            have HLT := Lib.hid hlt
            go_upto_region 12 with (fail)
            obtain ⟨X, hX⟩ : ∃ X, wr.heap.size = X := ⟨_, rfl⟩
            have gX := World.grownBy_alloc wr (.cells #[.int .i64 x.t, .int .i64 x.x, .int .i64 x.y, .int .i64 x.z, .int .i64 x.p, .int .i64 x.q, .int .i64 x.s] 28) none
            have M5 := Lib.hid (hM.out.grown gX)
            have G5 := Lib.hid (grown_trans hG.out gX)
            have O5 := Lib.hid (own_kept hO.out gX)
            have X5 : Hid ((wr.alloc (.cells #[.int .i64 x.t, .int .i64 x.x, .int .i64 x.y, .int .i64 x.z, .int .i64 x.p, .int .i64 x.q, .int .i64 x.s] 28)).heap[X]? = some (.cells #[.int .i64 x.t, .int .i64 x.x, .int .i64 x.y, .int .i64 x.z, .int .i64 x.p, .int .i64 x.q, .int .i64 x.s] 28 (0, 0))) := by rw [← hX]; exact heap_alloc_new wr _
            rw [hX]
            clear hX gX hM hG hO q0 q1 q2 q3 q4 q5 q6
            generalize wr.alloc (.cells #[.int .i64 x.t, .int .i64 x.x, .int .i64 x.y, .int .i64 x.z, .int .i64 x.p, .int .i64 x.q, .int .i64 x.s] 28) = W5 at *
            have x0 := block_cell X5.out 0 _ rfl
            have x1 := block_cell X5.out 1 _ rfl
            have x2 := block_cell X5.out 2 _ rfl
            have x3 := block_cell X5.out 3 _ rfl
            have x4 := block_cell X5.out 4 _ rfl
            have x5 := block_cell X5.out 5 _ rfl
            have x6 := block_cell X5.out 6 _ rfl
            by_cases hc1 : f < x.t
            · have gd1 : decide (f < x.t) = true := by simpa using hc1
              by_cases hc2 : x.t < t
              · have HN : Hid (cutK ss f t (k + 1) = cutK ss f t k ++ [x]) := HIN.out hc1 hc2
                clear HIN HOUT
                go_wp2_with (at_builtin; refine wpList_append_own _ rfl _ _ 22 rfl (w.heap.size + 2) 28 i0 (.agg #[.int .i64 0, .int .i64 0, .int .i64 0, .int .i64 0, .int .i64 0, .int .i64 0, .int .i64 0]) 7 56 Try.underlying22 HI0.out HZ0.out HZ1.out HZ2.out rfl (by decide) _ _ _ rfl (O5.out.alloc _) ⟨W5.heap.size, 0, none⟩ 1 1 [.int .i64 x.t, .int .i64 x.x, .int .i64 x.y, .int .i64 x.z, .int .i64 x.p, .int .i64 x.q, .int .i64 x.s] rfl rfl (World.news_of_block (cs := #[.int .i64 x.t, .int .i64 x.x, .int .i64 x.y, .int .i64 x.z, .int .i64 x.p, .int .i64 x.q, .int .i64 x.s]) (t := 28) (fr := (0, 0)) (heap_alloc_new W5 _)) (by simp [Value.oneCell']) (by have := HLEN.out; unfold maxLen; omega) (by have := HLEN.out; omega) (Nat.le_trans M5.out.lt (World.grownBy_alloc _ _ none).size) ?_; intro v' w10 ho10 hg10 hnil; have M6 := Lib.hid (clb_row M5.out hg10 (fun r hr => (O5.out.lt r hr).1)); have G6 := Lib.hid (grown_rowR (grown_trans G5.out (World.grownBy_alloc _ _ _)) hg10 (fun r hr => by have := (O5.out.lt r hr).1; have := L0.out; simp; omega)); have O6 := Lib.hid ho10; clear ho10 hg10 hnil M5 G5 O5)
                go_roundw
                case rel => exact ⟨k + 1, _, rfl, by go_num, HLT.out, M6, G6, by have q := O6; rw [HN.out, List.length_append, smpRw_snoc]; exact q⟩
                case measure => have := HLT.out; simp [intOf]; omega
              · have gd2 : decide (x.t < t) = false := by simp; omega
                have HN : Hid (cutK ss f t (k + 1) = cutK ss f t k) := HOUT.out (by omega)
                clear HIN HOUT
                go_wp2_with fail
                go_roundw
                case rel => exact ⟨k + 1, _, rfl, by go_num, HLT.out, M5, G5, by rw [HN.out]; exact O5⟩
                case measure => have := HLT.out; simp [intOf]; omega
            · have gd1 : decide (f < x.t) = false := by simp; omega
              have HN : Hid (cutK ss f t (k + 1) = cutK ss f t k) := HOUT.out (by omega)
              clear HIN HOUT
              go_wp2_with fail
              go_roundw
              case rel => exact ⟨k + 1, _, rfl, by go_num, HLT.out, M5, G5, by rw [HN.out]; exact O5⟩
              case measure => have := HLT.out; simp [intOf]; omega
          · obtain rfl : k = ss.length := by omega
            have HLEN : Hid ((cutK ss f t ss.length).length ≤ 20001) := by show _ ≤ _; have := cutK_le ss f t ss.length; omega
            have HLL : Hid ((cutL ss f t).length ≤ 20002) := by show _ ≤ _; have := cutL_le ss f t; omega
            have u3 := block_cell hM.out.a 3 _ rfl
            go_wp2_with fail
            refine (KT.out _ (HA.out.hs.grown hM.out.g)).mono ?_; rintro e w7 ⟨rfl, hg7⟩
            have M7 := Lib.hid (hM.out.grown hg7)
            have G7 := Lib.hid (grown_trans hG.out hg7)
            have O7 := Lib.hid (own_kept hO.out hg7)
            clear hg7 hM hG hO u3
            go_upto_region 16 with (at_builtin; refine wpList_append_own _ rfl _ _ 22 rfl (w.heap.size + 2) 28 i0 (.agg #[.int .i64 0, .int .i64 0, .int .i64 0, .int .i64 0, .int .i64 0, .int .i64 0, .int .i64 0]) 7 56 Try.underlying22 HI0.out HZ0.out HZ1.out HZ2.out rfl (by decide) _ _ _ rfl (O7.out.alloc _) ⟨w7.heap.size, 0, none⟩ 1 1 [.int .i64 xt.t, .int .i64 xt.x, .int .i64 xt.y, .int .i64 xt.z, .int .i64 xt.p, .int .i64 xt.q, .int .i64 xt.s] rfl rfl (World.news_of_block (cs := #[.int .i64 xt.t, .int .i64 xt.x, .int .i64 xt.y, .int .i64 xt.z, .int .i64 xt.p, .int .i64 xt.q, .int .i64 xt.s]) (t := 28) (fr := (0, 0)) (heap_alloc_new w7 _)) (by simp [Value.oneCell']) (by have := HLEN.out; unfold maxLen; omega) (by have := HLEN.out; omega) (Nat.le_trans M7.out.lt (World.grownBy_alloc _ _ none).size) ?_; intro v' w10 ho10 hg10 hnil; have M8 := Lib.hid (clb_row M7.out hg10 (fun r hr => (O7.out.lt r hr).1)); have G8 := Lib.hid (grown_rowR (grown_trans G7.out (World.grownBy_alloc _ _ _)) hg10 (fun r hr => by have := (O7.out.lt r hr).1; have := L0.out; simp; omega)); have O8 := Lib.hid ho10; clear ho10 hg10 hnil M7 G7 O7)
            have O9 : Hid (World.ownsRow w10 (w.heap.size + 2) 28 7 v' (cutL ss f t).length (smpRw (cutL ss f t))) := by have q := O8; rw [HKL.out, List.length_append, smpRw_snoc]; exact q
            clear O8
            have u0 := block_cell M8.out.a 0 _ rfl
            have u1 := block_cell M8.out.a 1 _ rfl
            have u2 := block_cell M8.out.a 2 _ rfl
            have u3 := block_cell M8.out.a 3 _ rfl
            have u4 := block_cell M8.out.a 4 _ rfl
            have u5 := block_cell M8.out.a 5 _ rfl
            go_wp2_with fail
            refine (part_is ⟨nm, sp, st, some ⟨b, off, none⟩, sc, ss, lo, lc, ls, to_, tc, ts⟩ HOK.out ((w.alloc (.cells #[.string nm, .int .i64 sp, .int .i64 st, .slice (some ⟨b, off, none⟩) ss.length sc, .slice lo ls.length lc, .slice to_ ts.length tc] 26)).alloc (.cells #[.string ⟨#[]⟩, .int .i64 0, .int .i64 0, .slice none 0 0, .slice none 0 0, .slice none 0 0] 26)) w10 (HA.out.grown M0.out.g) G8.out (w.heap.size + 2) (by simp) M8.out.lt v' (cutL ss f t) HLL.out HBD.out O9.out).mono ?_; rintro e w11 ⟨⟨vp, rfl, hp⟩, hg11⟩
            have M9 : Hid (ClB w #[.string nm, .int .i64 sp, .int .i64 st, .slice (some ⟨b, off, none⟩) ss.length sc, .slice lo ls.length lc, .slice to_ ts.length tc] #[.string ⟨#[]⟩, .int .i64 0, .int .i64 0, .slice none 0 0, .slice none 0 0, .slice none 0 0] w11) := M0.out.grown hg11
            rw [cutL_first] at hp
            obtain ⟨s1, k1, l1, j1, t1, i1, rfl, hpa, hpf⟩ := hp
            have HPA := Lib.hid hpa; have HPF := Lib.hid hpf
            clear hg11 hpa hpf M8 G8 O9 u0 u1 u2 u3 u4 u5
            obtain ⟨ec, hec⟩ : ∃ e, chkE (partV ⟨nm, sp, st, some ⟨b, off, none⟩, sc, ss, lo, lc, ls, to_, tc, ts⟩ f (cutL ss f t)) = e := ⟨_, rfl⟩
            have HEC : Hid (chkE ⟨nm, sp, st + f, s1, k1, (cutL ss f t).map (mvS (-f)), l1, j1, lapsM f (spanL ((cutL ss f t).map (mvS (-f)))) ls, t1, i1, ts⟩ = ec) := hec
            have HCV : Hid ((if ec = 0 then partV ⟨nm, sp, st, some ⟨b, off, none⟩, sc, ss, lo, lc, ls, to_, tc, ts⟩ f (cutL ss f t) else act0) = c ∧ ec = E) := by
              have q := HV.out
              unfold okV at q
              rw [hec] at q
              simp only [Prod.mk.injEq] at q
              exact q
            clear hec
            go_wp2_with fail
            refine (checked_any ⟨nm, sp, st + f, s1, k1, (cutL ss f t).map (mvS (-f)), l1, j1, lapsM f (spanL ((cutL ss f t).map (mvS (-f)))) ls, t1, i1, ts⟩ _ HPA.out HPF.out HEC).mono ?_; rintro e w12 ⟨⟨vc, rfl, hq⟩, hg12⟩
            have M10 := Lib.hid (M9.out.grown hg12)
            clear hg12 M9
            have hq2 : ActNew (w.heap.size + 2) w12 vc (if ec = 0 then partV ⟨nm, sp, st, some ⟨b, off, none⟩, sc, ss, lo, lc, ls, to_, tc, ts⟩ f (cutL ss f t) else act0) := hq.same (by intro e0; rfl)
            rw [HCV.out.1] at hq2
            have hec2 := HCV.out.2
            obtain ⟨s2, k2, l2, j2, t2, i2, rfl, hqa, hqf⟩ := hq2
            have HQA := Lib.hid hqa; have HQF := Lib.hid hqf
            clear hqa hqf
            subst hec2
            have z0 := block_cell M10.out.z 0 _ rfl
            have y0 := block_free (k := 0) M10.out.z
            have z1 := block_cell M10.out.z 1 _ rfl
            have y1 := block_free (k := 1) M10.out.z
            have z2 := block_cell M10.out.z 2 _ rfl
            have y2 := block_free (k := 2) M10.out.z
            have z3 := block_cell M10.out.z 3 _ rfl
            have y3 := block_free (k := 3) M10.out.z
            have z4 := block_cell M10.out.z 4 _ rfl
            have y4 := block_free (k := 4) M10.out.z
            have z5 := block_cell M10.out.z 5 _ rfl
            have y5 := block_free (k := 5) M10.out.z
            go_wp2_with fail
            refine bodyPost_ret (v := .tuple #[.agg #[.string c.name, .int .i64 c.sport, .int .i64 c.start, .slice s2 c.ss.length k2, .slice l2 c.ls.length j2, .slice t2 c.ts.length i2], .int .i64 ec]) (by simp [results, Try.results28, go_sem, z0, z1, z2, z3, z4, z5]) rfl ⟨⟨_, rfl, s2, k2, l2, j2, t2, i2, rfl, ?_⟩, ((((((M10.out.setZ 0 _).setZ 1 _).setZ 2 _).setZ 3 _).setZ 4 _).setZ 5 _).g⟩
            refine HQA.out.far HQF.out (fun p hp => ?_)
            iterate 6 rw [World.cell?_setCell_other _ _ _ _ (fun e => by subst e; simp at hp)]
      · rw [if_neg d3] at hv
        simp only [Prod.mk.injEq] at hv
        obtain ⟨rfl, rfl⟩ := hv
        by_cases q1 : f < 0
        · have g1 : decide (f < 0) = true := by simpa using q1
          obtain ⟨nm, sp, st, so, sc, ss, lo, lc, ls, to_, tc, ts⟩ := a
          simp only [Act.val] at *
          have hz : ((ss.length : Int) == 0) = false := beq_eq_false_iff_ne.2 (by omega)
          clear hE hce hok ha hsv d2
          have M0 := Lib.hid (ClB.new w #[.string nm, .int .i64 sp, .int .i64 st, .slice so ss.length sc, .slice lo ls.length lc, .slice to_ ts.length tc] #[.string ⟨#[]⟩, .int .i64 0, .int .i64 0, .slice none 0 0, .slice none 0 0, .slice none 0 0])
          go_enter Try.func28, Try.ntmps28
          go_wp2_with fail
          refine (check_any ⟨nm, sp, st, so, sc, ss, lo, lc, ls, to_, tc, ts⟩ _ (HA.out.grown M0.out.g) HCE).mono ?_; rintro e w1 ⟨rfl, hg1⟩
          have M1 := Lib.hid (M0.out.grown hg1)
          clear hg1
          have u0 := block_cell M1.out.a 0 _ rfl
          have u1 := block_cell M1.out.a 1 _ rfl
          have u2 := block_cell M1.out.a 2 _ rfl
          have u3 := block_cell M1.out.a 3 _ rfl
          have u4 := block_cell M1.out.a 4 _ rfl
          have u5 := block_cell M1.out.a 5 _ rfl
          have z0 := block_cell M1.out.z 0 _ rfl
          have y0 := block_free (k := 0) M1.out.z
          have z1 := block_cell M1.out.z 1 _ rfl
          have y1 := block_free (k := 1) M1.out.z
          have z2 := block_cell M1.out.z 2 _ rfl
          have y2 := block_free (k := 2) M1.out.z
          have z3 := block_cell M1.out.z 3 _ rfl
          have y3 := block_free (k := 3) M1.out.z
          have z4 := block_cell M1.out.z 4 _ rfl
          have y4 := block_free (k := 4) M1.out.z
          have z5 := block_cell M1.out.z 5 _ rfl
          have y5 := block_free (k := 5) M1.out.z
          go_wp2_with fail
          refine bodyPost_ret (v := .tuple #[.agg #[.string ⟨#[]⟩, .int .i64 0, .int .i64 0, .slice none 0 0, .slice none 0 0, .slice none 0 0], .int .i64 9]) (by simp [results, Try.results28, go_sem, z0, z1, z2, z3, z4, z5]) rfl ⟨⟨_, rfl, act0_is _⟩, ((((((M1.out.setZ 0 _).setZ 1 _).setZ 2 _).setZ 3 _).setZ 4 _).setZ 5 _).g⟩
        · have g1 : decide (f < 0) = false := by simpa using q1
          by_cases q2 : t ≤ f
          · have g2 : decide (t ≤ f) = true := by simpa using q2
            obtain ⟨nm, sp, st, so, sc, ss, lo, lc, ls, to_, tc, ts⟩ := a
            simp only [Act.val] at *
            have hz : ((ss.length : Int) == 0) = false := beq_eq_false_iff_ne.2 (by omega)
            clear hE hce hok ha hsv d2
            have M0 := Lib.hid (ClB.new w #[.string nm, .int .i64 sp, .int .i64 st, .slice so ss.length sc, .slice lo ls.length lc, .slice to_ ts.length tc] #[.string ⟨#[]⟩, .int .i64 0, .int .i64 0, .slice none 0 0, .slice none 0 0, .slice none 0 0])
            go_enter Try.func28, Try.ntmps28
            go_wp2_with fail
            refine (check_any ⟨nm, sp, st, so, sc, ss, lo, lc, ls, to_, tc, ts⟩ _ (HA.out.grown M0.out.g) HCE).mono ?_; rintro e w1 ⟨rfl, hg1⟩
            have M1 := Lib.hid (M0.out.grown hg1)
            clear hg1
            have u0 := block_cell M1.out.a 0 _ rfl
            have u1 := block_cell M1.out.a 1 _ rfl
            have u2 := block_cell M1.out.a 2 _ rfl
            have u3 := block_cell M1.out.a 3 _ rfl
            have u4 := block_cell M1.out.a 4 _ rfl
            have u5 := block_cell M1.out.a 5 _ rfl
            have z0 := block_cell M1.out.z 0 _ rfl
            have y0 := block_free (k := 0) M1.out.z
            have z1 := block_cell M1.out.z 1 _ rfl
            have y1 := block_free (k := 1) M1.out.z
            have z2 := block_cell M1.out.z 2 _ rfl
            have y2 := block_free (k := 2) M1.out.z
            have z3 := block_cell M1.out.z 3 _ rfl
            have y3 := block_free (k := 3) M1.out.z
            have z4 := block_cell M1.out.z 4 _ rfl
            have y4 := block_free (k := 4) M1.out.z
            have z5 := block_cell M1.out.z 5 _ rfl
            have y5 := block_free (k := 5) M1.out.z
            go_wp2_with fail
            refine bodyPost_ret (v := .tuple #[.agg #[.string ⟨#[]⟩, .int .i64 0, .int .i64 0, .slice none 0 0, .slice none 0 0, .slice none 0 0], .int .i64 9]) (by simp [results, Try.results28, go_sem, z0, z1, z2, z3, z4, z5]) rfl ⟨⟨_, rfl, act0_is _⟩, ((((((M1.out.setZ 0 _).setZ 1 _).setZ 2 _).setZ 3 _).setZ 4 _).setZ 5 _).g⟩
          · have g2 : decide (t ≤ f) = false := by simpa using q2
            have g3 : decide (sv < t) = true := by simp; omega
            clear d3
            obtain ⟨nm, sp, st, so, sc, ss, lo, lc, ls, to_, tc, ts⟩ := a
            simp only [Act.val] at *
            have hz : ((ss.length : Int) == 0) = false := beq_eq_false_iff_ne.2 (by omega)
            clear hE hce hok ha hsv d2
            have M0 := Lib.hid (ClB.new w #[.string nm, .int .i64 sp, .int .i64 st, .slice so ss.length sc, .slice lo ls.length lc, .slice to_ ts.length tc] #[.string ⟨#[]⟩, .int .i64 0, .int .i64 0, .slice none 0 0, .slice none 0 0, .slice none 0 0])
            go_enter Try.func28, Try.ntmps28
            go_wp2_with fail
            refine (check_any ⟨nm, sp, st, so, sc, ss, lo, lc, ls, to_, tc, ts⟩ _ (HA.out.grown M0.out.g) HCE).mono ?_; rintro e w1 ⟨rfl, hg1⟩
            have M1 := Lib.hid (M0.out.grown hg1)
            clear hg1
            have u0 := block_cell M1.out.a 0 _ rfl
            have u1 := block_cell M1.out.a 1 _ rfl
            have u2 := block_cell M1.out.a 2 _ rfl
            have u3 := block_cell M1.out.a 3 _ rfl
            have u4 := block_cell M1.out.a 4 _ rfl
            have u5 := block_cell M1.out.a 5 _ rfl
            go_wp2_with fail
            refine (span_any ⟨nm, sp, st, so, sc, ss, lo, lc, ls, to_, tc, ts⟩ (by show (ss.length : Int) ≤ _; omega) _ (HA.out.hs.grown M1.out.g) HSV).mono ?_; rintro e w2 ⟨rfl, hg2⟩
            have M2 := Lib.hid (M1.out.grown hg2)
            clear hg2 u0 u1 u2 u3 u4 u5 M1
            have z0 := block_cell M2.out.z 0 _ rfl
            have y0 := block_free (k := 0) M2.out.z
            have z1 := block_cell M2.out.z 1 _ rfl
            have y1 := block_free (k := 1) M2.out.z
            have z2 := block_cell M2.out.z 2 _ rfl
            have y2 := block_free (k := 2) M2.out.z
            have z3 := block_cell M2.out.z 3 _ rfl
            have y3 := block_free (k := 3) M2.out.z
            have z4 := block_cell M2.out.z 4 _ rfl
            have y4 := block_free (k := 4) M2.out.z
            have z5 := block_cell M2.out.z 5 _ rfl
            have y5 := block_free (k := 5) M2.out.z
            go_wp2_with fail
            refine bodyPost_ret (v := .tuple #[.agg #[.string ⟨#[]⟩, .int .i64 0, .int .i64 0, .slice none 0 0, .slice none 0 0, .slice none 0 0], .int .i64 9]) (by simp [results, Try.results28, go_sem, z0, z1, z2, z3, z4, z5]) rfl ⟨⟨_, rfl, act0_is _⟩, ((((((M2.out.setZ 0 _).setZ 1 _).setZ 2 _).setZ 3 _).setZ 4 _).setZ 5 _).g⟩
  · rw [if_neg d1] at hv
    simp only [Prod.mk.injEq] at hv
    obtain ⟨rfl, rfl⟩ := hv
    have hne : (ce != 0) = true := by simpa using d1
    obtain ⟨nm, sp, st, so, sc, ss, lo, lc, ls, to_, tc, ts⟩ := a
    simp only [Act.val] at *
    clear hE hce ha d1
    have M0 := Lib.hid (ClB.new w #[.string nm, .int .i64 sp, .int .i64 st, .slice so ss.length sc, .slice lo ls.length lc, .slice to_ ts.length tc] #[.string ⟨#[]⟩, .int .i64 0, .int .i64 0, .slice none 0 0, .slice none 0 0, .slice none 0 0])
    go_enter Try.func28, Try.ntmps28
    go_wp2_with fail
    refine (check_any ⟨nm, sp, st, so, sc, ss, lo, lc, ls, to_, tc, ts⟩ _ (HA.out.grown M0.out.g) HCE).mono ?_; rintro e w1 ⟨rfl, hg1⟩
    have M1 := Lib.hid (M0.out.grown hg1)
    clear hg1
    have z0 := block_cell M1.out.z 0 _ rfl
    have y0 := block_free (k := 0) M1.out.z
    have z1 := block_cell M1.out.z 1 _ rfl
    have y1 := block_free (k := 1) M1.out.z
    have z2 := block_cell M1.out.z 2 _ rfl
    have y2 := block_free (k := 2) M1.out.z
    have z3 := block_cell M1.out.z 3 _ rfl
    have y3 := block_free (k := 3) M1.out.z
    have z4 := block_cell M1.out.z 4 _ rfl
    have y4 := block_free (k := 4) M1.out.z
    have z5 := block_cell M1.out.z 5 _ rfl
    have y5 := block_free (k := 5) M1.out.z
    go_wp2_with fail
    refine bodyPost_ret (v := .tuple #[.agg #[.string ⟨#[]⟩, .int .i64 0, .int .i64 0, .slice none 0 0, .slice none 0 0, .slice none 0 0], .int .i64 ce]) (by simp [results, Try.results28, go_sem, z0, z1, z2, z3, z4, z5]) rfl ⟨⟨_, rfl, act0_is _⟩, ((((((M1.out.setZ 0 _).setZ 1 _).setZ 2 _).setZ 3 _).setZ 4 _).setZ 5 _).g⟩

end Go.Proofs.Ytgkhhfojioepgaa
