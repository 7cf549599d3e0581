/- Efforts of the program. -/
import Derived.Test.YtckelojdjmaliaaMEffP
namespace Go.Proofs.Ytckelojdjmaliaa
open Go.RowKit
set_option linter.unusedSimpArgs false
set_option linter.unusedVariables false

attribute [local go_sem] Oper.semAt_some

theorem info_int5 : (Try.prog.info? 3).map (fun i => (i.zero, i.size, i.bytes)) = some (some (.int .i64 0), 1, 8) := by kernel_rfl
theorem info_eff : (Try.prog.info? 49).map (fun i => (i.zero, i.size, i.bytes)) = some (some (.agg #[.slice none 0 0]), 1, 24) := by kernel_rfl

set_option maxRecDepth 100000 in
set_option maxHeartbeats 6400000 in
theorem Efforts_is (s : Seg) (a : Act) (w : World) (hs : SegAt w s) (ha : ActAt w a) {E : Int} (hE : Hid (crsE s a = E)) :
    Calls Try.prog 18 #[s.val, a.val] w fun e w' => (∃ ao cap L, e = .returned (.tuple #[.slice ao (effL s a).length cap, .int .i64 E]) ∧ EffAt w' ao (effL s a) L) ∧ w.grownBy w' none := by
  obtain ⟨i1, hi, hz0, hz1, hz2⟩ := info_parts info_int5
  have HI := Lib.hid hi; have HZ0 := Lib.hid hz0; have HZ1 := Lib.hid hz1; have HZ2 := Lib.hid hz2
  obtain ⟨i2, hi2, hy0, hy1, hy2⟩ := info_parts info_eff
  have HI2 := Lib.hid hi2; have HY0 := Lib.hid hy0; have HY1 := Lib.hid hy1; have HY2 := Lib.hid hy2
  have HS := Lib.hid hs; have HA := Lib.hid ha; have HE := Lib.hid hE.out
  clear hi hz0 hz1 hz2 hi2 hy0 hy1 hy2 hs ha
  obtain ⟨ML, hML⟩ : ∃ l, effL s a = l := ⟨_, rfl⟩
  have HML := Lib.hid hML
  rw [hML]
  clear hML
  obtain ⟨snm, sgo, sgc, gs⟩ := s
  obtain ⟨nm, sp, st, so, sc, ss, lo, lc, ls, to_, tc, ts⟩ := a
  simp only [Seg.val, Act.val] at *
  have B1 : Hid (((w.alloc (.cells #[.string snm, .slice sgo gs.length sgc] 24)).alloc (.cells #[.string nm, .int .i64 sp, .int .i64 st, .slice so ss.length sc, .slice lo ls.length lc, .slice to_ ts.length tc] 36)).heap[w.heap.size]? = some (.cells #[.string snm, .slice sgo gs.length sgc] 24 (0, 0))) := mblock_at (mheap_new w _) (World.grownBy_alloc _ _ none) (by simp)
  have B2 : Hid (((w.alloc (.cells #[.string snm, .slice sgo gs.length sgc] 24)).alloc (.cells #[.string nm, .int .i64 sp, .int .i64 st, .slice so ss.length sc, .slice lo ls.length lc, .slice to_ ts.length tc] 36)).heap[w.heap.size + 1]? = some (.cells #[.string nm, .int .i64 sp, .int .i64 st, .slice so ss.length sc, .slice lo ls.length lc, .slice to_ ts.length tc] 36 (0, 0))) := by
    have q := mheap_new (w.alloc (.cells #[.string snm, .slice sgo gs.length sgc] 24)) (.cells #[.string nm, .int .i64 sp, .int .i64 st, .slice so ss.length sc, .slice lo ls.length lc, .slice to_ ts.length tc] 36)
    rw [show (w.alloc (.cells #[.string snm, .slice sgo gs.length sgc] 24)).heap.size = w.heap.size + 1 from by simp] at q; exact q
  have G1 : Hid (w.grownBy ((w.alloc (.cells #[.string snm, .slice sgo gs.length sgc] 24)).alloc (.cells #[.string nm, .int .i64 sp, .int .i64 st, .slice so ss.length sc, .slice lo ls.length lc, .slice to_ ts.length tc] 36)) none) := grown_trans (World.grownBy_alloc _ _ _) (World.grownBy_alloc _ _ _)
  go_enter Try.func18, Try.ntmps18
  go_upto_region 1 with (fail)
  generalize ((w.alloc (.cells #[.string snm, .slice sgo gs.length sgc] 24)).alloc (.cells #[.string nm, .int .i64 sp, .int .i64 st, .slice so ss.length sc, .slice lo ls.length lc, .slice to_ ts.length tc] 36)) = w0 at *
  have s0 := mblock_cell B1.out 0 _ rfl
  have s1 := mblock_cell B1.out 1 _ rfl
  have y0 := mblock_cell B2.out 0 _ rfl
  have y1 := mblock_cell B2.out 1 _ rfl
  have y2 := mblock_cell B2.out 2 _ rfl
  have y3 := mblock_cell B2.out 3 _ rfl
  have y4 := mblock_cell B2.out 4 _ rfl
  have y5 := mblock_cell B2.out 5 _ rfl
  go_wp2_with fail
  refine (Crossings_is ⟨snm, sgo, sgc, gs⟩ ⟨nm, sp, st, so, sc, ss, lo, lc, ls, to_, tc, ts⟩ _ (HS.out.grown G1.out) (HA.out.grown G1.out) (SLc gs ss) (crs_steps ⟨snm, sgo, sgc, gs⟩ ⟨nm, sp, st, so, sc, ss, lo, lc, ls, to_, tc, ts⟩) HE).mono ?_; rintro e w1 ⟨⟨v, rfl, ho⟩, hg1⟩
  obtain ⟨ao6, cap6, hv, _, hr6, hb6⟩ := own_rows (cs := crsCs) (fun _ => rfl) ho
  subst hv
  have G2 := Lib.hid (grown_trans G1.out hg1)
  have B3 := Lib.hid (mblock_at B1.out hg1 (by simp))
  have HR := Lib.hid hr6
  have CL := crsL_len ⟨snm, sgo, sgc, gs⟩ ⟨nm, sp, st, so, sc, ss, lo, lc, ls, to_, tc, ts⟩
  have HLE : Hid (E = 0 → (effK gs.length (crsL (SLc gs ss) ⟨snm, sgo, sgc, gs⟩ ⟨nm, sp, st, so, sc, ss, lo, lc, ls, to_, tc, ts⟩) (crsL (SLc gs ss) ⟨snm, sgo, sgc, gs⟩ ⟨nm, sp, st, so, sc, ss, lo, lc, ls, to_, tc, ts⟩).length).1 = ML) := fun h0 => by
    rw [← HML.out]
    unfold effL
    rw [if_pos (by rw [HE.out]; exact h0)]
  simp only at CL HR
  generalize crsL (SLc gs ss) ⟨snm, sgo, sgc, gs⟩ ⟨nm, sp, st, so, sc, ss, lo, lc, ls, to_, tc, ts⟩ = C at *
  clear hg1 ho hr6 hb6 G1 B1 B2 s0 s1 y0 y1 y2 y3 y4 y5
  by_cases d2 : E = 0
  · subst d2
    have hgl := (crs_right (s := ⟨snm, sgo, sgc, gs⟩) (a := ⟨nm, sp, st, so, sc, ss, lo, lc, ls, to_, tc, ts⟩) HE.out).2.1
    have HGL : Hid (2 ≤ gs.length ∧ gs.length ≤ 50) := hgl
    have gl0 : gs.length ≤ 50 := hgl.2
    have HLE2 := Lib.hid (HLE.out rfl)
    have s1 := mblock_cell B3.out 1 _ rfl
    have S1 := Lib.hid s1
    clear hgl HLE
    go_wp2_with fail
    clear s1
    go_loopw [8, 9, 23] (fun lv av xv wr => ∃ (k : Nat) (u t : Value) (L : List EffV), u = lv ∧ t = av ∧ xv = .int .i64 k ∧ k ≤ C.length ∧ Hid (w1.grownBy wr none) ∧ Hid (L.map (·.at_) = (effK gs.length C k).1) ∧ Hid (wr.ownsRow w1.heap.size 49 1 u L.length (L.flatMap efC)) ∧ Hid (wr.ownsRow w1.heap.size 3 1 t (effK gs.length C k).2.length ((effK gs.length C k).2.flatMap ic)) ∧ Hid (∀ e ∈ L, RowsAt ic 1 wr (some ⟨e.blk, 0, none⟩) e.at_ ∧ e.blk < wr.heap.size ∧ u.ownBlock ≠ some e.blk ∧ t.ownBlock ≠ some e.blk) ∧ Hid (∀ r, u.ownBlock = some r → t.ownBlock ≠ some r)) (fun _ _ xv _ => C.length - (intOf xv).toNat)
    case atStart => exact ⟨0, _, _, [], rfl, rfl, rfl, Nat.zero_le _, World.grownBy.refl _ _, rfl, World.ownsRow_nil _ _ _ _, World.ownsRow_nil _ _ _ _, (by show ∀ e ∈ _, _; intro e he; cases he), (by show ∀ r, _ → _; intro r e; cases e)⟩
    case round =>
      obtain ⟨k, u, t, L, rfl, rfl, rfl, hk, hg, hL, hol, hot, hea, hut⟩ := hrel
      obtain ⟨wo, hwo⟩ : ∃ W : World, W = wr := ⟨_, rfl⟩
      subst hwo
      by_cases hkl : k < C.length
      · obtain ⟨g6, o6, ha6, q6⟩ := rows_at (HR.out.grown hg.out) (by omega)
        subst ha6
        have k0 := q6 k hkl 0 _ rfl; have k1 := q6 k hkl 1 _ rfl; have k2 := q6 k hkl 2 _ rfl
        rw [← crD_at hkl] at k0 k1 k2
        have hstep : effK gs.length C (k + 1) = effS gs.length (effK gs.length C k) (crD C k) := rfl
        have hlt := effK_lt HGL.out.1 C k
        have hmany := effK_many (n := gs.length) C k
        have hll : L.length = (effK gs.length C k).1.length := by rw [← hL.out, List.length_map]
        obtain ⟨lao, lcap, hu⟩ := own_shape hol.out
        obtain ⟨tao, tcap, ht⟩ := own_shape hot.out
        subst hu; subst ht
        simp only [Nat.add_zero] at k0
        have HKL := Lib.hid hkl; have HG := Lib.hid hg.out; have HL := Lib.hid hL.out; have HOL := Lib.hid hol.out; have HOT := Lib.hid hot.out; have HEA := Lib.hid hea.out; have HUT := Lib.hid hut.out
        have HST := Lib.hid hstep
        have kl0 : (k : Int) < (C.length : Int) := by omega
        have hLn : L.length ≤ 1000000 := by omega
        have s1 := grown_cell hg.out S1.out
        clear q6 hg hL hol hot hea hut hstep hmany hll hkl
        generalize crD C k = c at *
        obtain ⟨gt, stp, at1⟩ := c
        simp only at k0 k1 k2
        generalize hst2 : effK gs.length C k = st2 at *
        obtain ⟨M, cur⟩ := st2
        simp only at hlt HL HOT HST
        have HQ := Lib.hid hst2
        clear hst2
        go_upto_region 9 with (fail)
        clear k0 k1 k2
        have b9 := mheap_new wo (.cells #[.int .i64 gt, .int .i64 stp, .int .i64 at1] 42)
        have gA := World.grownBy_alloc wo (.cells #[.int .i64 gt, .int .i64 stp, .int .i64 at1] 42) none
        have HG2 := Lib.hid (grown_trans HG.out gA)
        have HOL2 := Lib.hid (HOL.out.kept gA (Classical.em _)); have HOT2 := Lib.hid (HOT.out.kept gA (Classical.em _))
        have HEA2 : Hid (∀ e ∈ L, RowsAt ic 1 (wo.alloc (.cells #[.int .i64 gt, .int .i64 stp, .int .i64 at1] 42)) (some ⟨e.blk, 0, none⟩) e.at_ ∧ e.blk < wo.heap.size ∧ (Value.slice lao L.length lcap).ownBlock ≠ some e.blk ∧ (Value.slice tao cur.length tcap).ownBlock ≠ some e.blk) := fun e he => by
          obtain ⟨h1, h2, h3, h4⟩ := HEA.out e he
          exact ⟨h1.grown gA, h2, h3, h4⟩
        have S2 := grown_cell gA s1
        have SZ : Hid (wo.heap.size < (wo.alloc (.cells #[.int .i64 gt, .int .i64 stp, .int .i64 at1] 42)).heap.size) := by show _ < _; simp
        generalize wo.alloc (.cells #[.int .i64 gt, .int .i64 stp, .int .i64 at1] 42) = w2 at *
        obtain ⟨gx, hgx⟩ : ∃ n, wo.heap.size = n := ⟨_, rfl⟩
        rw [hgx] at b9 SZ HEA2
        try rw [hgx]
        clear hgx gA HG HOL HOT HEA s1
        have z0 := mblock_cell b9 0 _ rfl; have z1 := mblock_cell b9 1 _ rfl; have z2 := mblock_cell b9 2 _ rfl
        clear b9
        by_cases hg0 : gt = 0
        · have e1 : (gt == 0) = true := by simpa using hg0
          have HN : Hid (effS gs.length (M, cur) ⟨gt, stp, at1⟩ = (M, [at1])) := by show _ = _; unfold effS; rw [if_pos hg0]
          clear hg0
          go_upto_region 13 with (fail)
          have b10 := mheap_new w2 (.cells #[.int .i64 at1] 3)
          have gB := World.grownBy_alloc w2 (.cells #[.int .i64 at1] 3) none
          have G5 := Lib.hid (grown_trans HG2.out gB)
          have OL5 := Lib.hid (HOL2.out.kept gB (Classical.em _))
          have HSW : Hid (w1.heap.size ≤ w2.heap.size) := HG2.out.size
          have OT5 : Hid ((w2.alloc (.cells #[.int .i64 at1] 3)).ownsRow w1.heap.size 3 1 (.slice (some ⟨w2.heap.size, 0, none⟩) 1 1) 1 ([at1].flatMap ic)) := ⟨rfl, .inr ⟨w2.heap.size, 1, #[.int .i64 at1], rfl, HSW.out, b10, Nat.le_refl _, by decide, rfl, rfl⟩⟩
          have EA5 : Hid (∀ e ∈ L, RowsAt ic 1 (w2.alloc (.cells #[.int .i64 at1] 3)) (some ⟨e.blk, 0, none⟩) e.at_ ∧ e.blk < (w2.alloc (.cells #[.int .i64 at1] 3)).heap.size ∧ (Value.slice lao L.length lcap).ownBlock ≠ some e.blk ∧ (Value.slice (some ⟨w2.heap.size, 0, none⟩) 1 1).ownBlock ≠ some e.blk) := fun e he => by
            obtain ⟨h1, h2, h3, h4⟩ := HEA2.out e he
            refine ⟨h1.grown gB, by have := SZ.out; simp; omega, h3, fun q => ?_⟩
            injection q with q
            have q : w2.heap.size = e.blk := q
            have := SZ.out; omega
          have UT5 : Hid (∀ r, (Value.slice lao L.length lcap).ownBlock = some r → (Value.slice (some ⟨w2.heap.size, 0, none⟩) 1 1).ownBlock ≠ some r) := fun r e q => by
            injection q with q
            have q : w2.heap.size = r := q
            have := (HOL2.out.lt r e).2; omega
          have S3 := grown_cell gB S2
          have e2 : ((1 : Int) == (gs.length : Int)) = false := by have := HGL.out; simp; omega
          clear b10 gB HG2 HOL2 HOT2 HEA2 S2 z0 z1 z2 hlt
          generalize w2.alloc (.cells #[.int .i64 at1] 3) = w3 at *
          go_wp2_with fail
          go_roundw
          case rel => exact ⟨k + 1, _, _, L, rfl, rfl, by go_num, HKL.out, G5.out, (by show _ = _; rw [HST.out, HN.out]; exact HL.out), OL5.out, (by show World.ownsRow _ _ _ _ _ _ _; rw [HST.out, HN.out]; exact OT5.out), EA5.out, UT5.out⟩
          case measure => have := HKL.out; simp [intOf]; omega
        · have e1 : (gt == 0) = false := by simpa using hg0
          have HG0 := Lib.hid hg0
          by_cases hgc : gt = (cur.length : Int)
          · have e2 : ((gt : Int) == (cur.length : Int)) = true := by simpa using hgc
            have cl0 : cur.length ≤ 50 := by have := HGL.out; omega
            have HGC := Lib.hid hgc
            clear hgc hg0
            have hi := HI.out; have hz0 := HZ0.out; have hz1 := HZ1.out; have hz2 := HZ2.out
            have HSW : Hid (w1.heap.size ≤ w2.heap.size) := HG2.out.size
            go_upto_region 13 with (at_builtin; refine wpList_append_own_at _ rfl _ _ 47 rfl w1.heap.size 3 i1 (.int .i64 0) 1 8 Try.underlying47 hi hz0 hz1 hz2 rfl (by decide) (.slice tao cur.length tcap) cur.length _ rfl (HOT2.out.alloc _) ⟨w2.heap.size, 0, none⟩ 1 1 [.int .i64 at1] rfl rfl (World.news_of_block (cs := #[.int .i64 at1]) (t := 3) (fr := (0, 0)) (heap_alloc_new w2 _)) (by simp [Value.oneCell']) (by unfold maxLen; omega) (by omega) (by have := HSW.out; simp; omega) ?_; intro t' w3 hown' hgrow' _ hat')
            have gB := World.grownBy_alloc w2 (.cells #[.int .i64 at1] 3) none
            have hrow : ∀ r, (Value.slice tao cur.length tcap).ownBlock = some r → w1.heap.size ≤ r := fun r e => (HOT2.out.lt r e).1
            have G5 := Lib.hid (mgrown_row (grown_trans HG2.out gB) hgrow' hrow)
            have OL5 := Lib.hid ((HOL2.out.kept gB (Classical.em _)).kept hgrow' (ob_ne fun r e h => HUT.out r h e))
            have OT5 : Hid (w3.ownsRow w1.heap.size 3 1 t' (cur.length + 1) ((cur ++ [at1]).flatMap ic)) := by show World.ownsRow _ _ _ _ _ _ _; rw [mflat_snoc]; exact hown'
            have HS3 : Hid (w2.heap.size < w3.heap.size) := by have := hgrow'.size; show _ < _; simp at this; omega
            have EA5 : Hid (∀ e ∈ L, RowsAt ic 1 w3 (some ⟨e.blk, 0, none⟩) e.at_ ∧ e.blk < w2.heap.size ∧ (Value.slice lao L.length lcap).ownBlock ≠ some e.blk ∧ t'.ownBlock ≠ some e.blk) := fun e he => by
              obtain ⟨h1, h2, h3, h4⟩ := HEA2.out e he
              refine ⟨(h1.grown gB).kept hgrow' (fun a ha _ q => by cases ha; exact h4 q.symm), by have := SZ.out; omega, h3, fun q => ?_⟩
              rcases hat' with h | h
              · rw [h] at q; exact h4 q
              · rw [h] at q
                injection q with q
                have := SZ.out
                simp at q; omega
            have UT5 : Hid (∀ r, (Value.slice lao L.length lcap).ownBlock = some r → t'.ownBlock ≠ some r) := fun r e q => by
              rcases hat' with h | h
              · rw [h] at q; exact HUT.out r e q
              · rw [h] at q
                injection q with q
                have := (HOL2.out.lt r e).2
                simp at q; omega
            have S3 : w3.cell? ⟨w.heap.size, 1, none⟩ = some (.slice sgo gs.length sgc) := grown_cell G5.out S1.out
            obtain ⟨tg, tc2, hts⟩ := own_open hown' (by omega)
            subst hts
            clear hown' hgrow' hat' gB hrow HG2 HOL2 HOT2 HEA2 S2 z0 z1 z2 hi hz0 hz1 hz2 HSW
            obtain ⟨cn, hcn⟩ : ∃ n, cur.length + 1 = n := ⟨_, rfl⟩
            have HCN := Lib.hid hcn
            rw [hcn] at OT5 EA5 UT5 ⊢
            have cn1 : cn ≤ 51 := by omega
            clear hcn
            by_cases hcl : cn = gs.length
            · have e5 : ((cn : Int) == (gs.length : Int)) = true := by simp; omega
              have HN : Hid (effS gs.length (M, cur) ⟨gt, stp, at1⟩ = (M ++ [cur ++ [at1]], [])) := by show _ = _; unfold effS; rw [if_neg HG0.out, if_pos HGC.out, if_pos (by simp only; have := HCN.out; omega)]
              have hi := HI2.out; have hz0 := HY0.out; have hz1 := HY1.out; have hz2 := HY2.out
              have HSW : Hid (w1.heap.size ≤ w3.heap.size) := G5.out.size
              clear hcl
              go_upto_region 16 with (at_builtin; refine wpList_append_own_at _ rfl _ _ 44 rfl w1.heap.size 49 i2 (.agg #[.slice none 0 0]) 1 24 Try.underlying44 hi hz0 hz1 hz2 rfl (by decide) (.slice lao L.length lcap) L.length _ rfl (OL5.out.alloc _) ⟨w3.heap.size, 0, none⟩ 1 1 [.slice (some ⟨tg, 0, none⟩) cn tc2] rfl rfl (World.news_of_block (cs := #[.slice (some ⟨tg, 0, none⟩) cn tc2]) (t := 49) (fr := (0, 0)) (heap_alloc_new w3 _)) (by simp [Value.oneCell']) (by unfold maxLen; omega) (by omega) (by have := HSW.out; simp; omega) ?_; intro u' w4 hown' hgrow' _ hat')
              have gB := World.grownBy_alloc w3 (.cells #[.slice (some ⟨tg, 0, none⟩) cn tc2] 49) none
              have hrow : ∀ r, (Value.slice lao L.length lcap).ownBlock = some r → w1.heap.size ≤ r := fun r e => (OL5.out.lt r e).1
              have G6 := Lib.hid (mgrown_row (grown_trans G5.out gB) hgrow' hrow)
              have hcl2 : (cur ++ [at1]).length = cn := by have := HCN.out; simp; omega
              obtain ⟨x, hx⟩ : ∃ x : EffV, x = ⟨tg, tc2, cur ++ [at1]⟩ := ⟨_, rfl⟩
              have OL6 : Hid (w4.ownsRow w1.heap.size 49 1 u' (L ++ [x]).length ((L ++ [x]).flatMap efC)) := by
                show World.ownsRow _ _ _ _ _ _ _
                rw [mflat_snoc, List.length_append, hx]
                unfold efC
                simp only [hcl2]
                exact hown'
              have htl := OT5.out.lt tg rfl
              have EA6 : Hid (∀ e ∈ L ++ [x], RowsAt ic 1 w4 (some ⟨e.blk, 0, none⟩) e.at_ ∧ e.blk < w4.heap.size ∧ u'.ownBlock ≠ some e.blk ∧ (Value.slice none 0 0).ownBlock ≠ some e.blk) := fun e he => by
                have hs4 := hgrow'.size
                simp at hs4
                have hb : ∀ b, b < w3.heap.size → (Value.slice lao L.length lcap).ownBlock ≠ some b → u'.ownBlock ≠ some b := fun b hb hn q => by
                  rcases hat' with h | h
                  · rw [h] at q; exact hn q
                  · rw [h] at q
                    injection q with q
                    simp at q; omega
                rcases List.mem_append.1 he with he | he
                · obtain ⟨h1, h2, h3, h4⟩ := EA5.out e he
                  have := HS3.out
                  exact ⟨(h1.grown gB).kept hgrow' (fun a ha _ q => by cases ha; exact h3 q.symm), by omega, hb _ (by omega) h3, fun q => by cases q⟩
                · rw [List.mem_singleton] at he
                  subst he
                  rw [hx]
                  obtain ⟨ao, cap, hv, hr, _⟩ := rowN (cs := ic) (fun _ => rfl) OT5.out hcl2
                  injection hv with e1 _ _
                  subst e1
                  have hne : (Value.slice lao L.length lcap).ownBlock ≠ some tg := fun q => UT5.out tg q rfl
                  exact ⟨(hr.grown gB).kept hgrow' (fun a ha _ q => by cases ha; exact hne q.symm), by simp only; omega, hb _ htl.2 hne, fun q => by cases q⟩
              have HL6 : Hid ((L ++ [x]).map (·.at_) = M ++ [cur ++ [at1]]) := by show _ = _; rw [List.map_append, HL.out, hx]; rfl
              clear hown' hgrow' hat' gB hrow hcl2 hx htl OL5 OT5 EA5 UT5 G5 S3 hi hz0 hz1 hz2 HSW
              go_wp2_with fail
              go_roundw
              case rel => exact ⟨k + 1, u', _, L ++ [x], rfl, rfl, by go_num, HKL.out, G6.out, (by show _ = _; rw [HST.out, HN.out]; exact HL6.out), OL6.out, (by show World.ownsRow _ _ _ _ _ _ _; rw [HST.out, HN.out]; exact World.ownsRow_nil _ _ _ _), EA6.out, (by show ∀ r, _ → _; intro r e q; cases q)⟩
              case measure => have := HKL.out; simp [intOf]; omega
            · have e5 : ((cn : Int) == (gs.length : Int)) = false := by simp; omega
              have HN : Hid (effS gs.length (M, cur) ⟨gt, stp, at1⟩ = (M, cur ++ [at1])) := by show _ = _; unfold effS; rw [if_neg HG0.out, if_pos HGC.out, if_neg (by simp only; have := HCN.out; omega)]
              have EA6 : Hid (∀ e ∈ L, RowsAt ic 1 w3 (some ⟨e.blk, 0, none⟩) e.at_ ∧ e.blk < w3.heap.size ∧ (Value.slice lao L.length lcap).ownBlock ≠ some e.blk ∧ (Value.slice (some ⟨tg, 0, none⟩) cn tc2).ownBlock ≠ some e.blk) := fun e he => by
                obtain ⟨h1, h2, h3, h4⟩ := EA5.out e he
                exact ⟨h1, by have := HS3.out; omega, h3, h4⟩
              have hcl2 : (cur ++ [at1]).length = cn := by have := HCN.out; simp; omega
              have HC2 := Lib.hid hcl2
              clear hcl hcl2
              go_wp2_with fail
              go_roundw
              case rel => exact ⟨k + 1, _, _, L, rfl, rfl, by go_num, HKL.out, G5.out, (by show _ = _; rw [HST.out, HN.out]; exact HL.out), OL5.out, (by show World.ownsRow _ _ _ _ _ _ _; rw [HST.out, HN.out, HC2.out]; exact OT5.out), EA6.out, UT5.out⟩
              case measure => have := HKL.out; simp [intOf]; omega
          · have e2 : ((gt : Int) == (cur.length : Int)) = false := by simpa using hgc
            have HN : Hid (effS gs.length (M, cur) ⟨gt, stp, at1⟩ = (M, cur)) := by show _ = _; unfold effS; rw [if_neg hg0, if_neg hgc]
            have e5 : ((cur.length : Int) == (gs.length : Int)) = false := by simp; omega
            have EA6 : Hid (∀ e ∈ L, RowsAt ic 1 w2 (some ⟨e.blk, 0, none⟩) e.at_ ∧ e.blk < w2.heap.size ∧ (Value.slice lao L.length lcap).ownBlock ≠ some e.blk ∧ (Value.slice tao cur.length tcap).ownBlock ≠ some e.blk) := fun e he => by
              obtain ⟨h1, h2, h3, h4⟩ := HEA2.out e he
              exact ⟨h1, by have := SZ.out; omega, h3, h4⟩
            clear hg0 hgc HEA2
            go_wp2_with fail
            go_roundw
            case rel => exact ⟨k + 1, _, _, L, rfl, rfl, by go_num, HKL.out, HG2.out, (by show _ = _; rw [HST.out, HN.out]; exact HL.out), HOL2.out, (by show World.ownsRow _ _ _ _ _ _ _; rw [HST.out, HN.out]; exact HOT2.out), EA6.out, HUT.out⟩
            case measure => have := HKL.out; simp [intOf]; omega
      · have hke : k = C.length := by omega
        subst hke
        obtain ⟨ao, cap, hv, hr, _⟩ := rowN (cs := efC) (fun _ => rfl) hol.out rfl
        subst hv
        have hml : (effK gs.length C C.length).1 = ML := HLE2.out
        rw [hml] at hL
        have hlen : L.length = ML.length := by rw [← hL.out, List.length_map]
        have HF : Hid (EffAt wo ao ML L) := ⟨hL.out, hr, fun e he => (hea.out e he).1⟩
        have G5 := Lib.hid (grown_trans G2.out hg.out)
        rw [hlen]
        clear hg hL hol hot hea hut hkl hr hml hlen
        go_wp2_with fail
        go_ret2
        exact ⟨⟨ao, cap, L, rfl, HF.out⟩, G5.out⟩
  · have g2 : (E != 0) = true := by simpa using d2
    have HN : ML = [] := by
      rw [← HML.out]
      unfold effL; rw [if_neg (by rw [HE.out]; exact d2)]
    clear d2 HLE
    subst HN
    go_wp2_with fail
    go_ret2
    exact ⟨⟨none, 0, [], rfl, rfl, rows_empty _, fun e he => by cases he⟩, G2.out⟩
end Go.Proofs.Ytckelojdjmaliaa
