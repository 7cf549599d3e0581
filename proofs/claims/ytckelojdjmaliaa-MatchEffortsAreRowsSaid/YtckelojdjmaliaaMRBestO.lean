/- Best of the reference. -/
import Derived.Test.YtckelojdjmaliaaMBestO
namespace Go.Proofs.Ytckelojdjmaliaa
open Go.RowKit
set_option linter.unusedSimpArgs false
set_option linter.unusedVariables false

attribute [local go_sem] Oper.semAt_some

set_option maxRecDepth 100000 in
set_option maxHeartbeats 6400000 in
theorem rBest_is (s : Seg) (a : Act) (w : World) (hs : SegAt w s) (ha : ActAt w a) {E : Int} (hE : Hid (crsE s a = E)) :
    Calls Try.prog 21 #[s.val, a.val] w fun e w' => (∃ ao cap, e = .returned (.tuple #[.agg #[.slice ao (bstL (effL s a)).length cap], .bool (decide (0 < (effL s a).length)), .int .i64 E]) ∧ RowsAt ic 1 w' ao (bstL (effL s a))) ∧ w.grownBy w' none := by
  have HS := Lib.hid hs; have HA := Lib.hid ha; have HE := Lib.hid hE.out
  have EF : Hid (∀ W : World, SegAt W s → ActAt W a → Calls Try.prog 19 #[s.val, a.val] W fun e w' => (∃ ao cap L, e = .returned (.tuple #[.slice ao (effL s a).length cap, .int .i64 E]) ∧ EffAt w' ao (effL s a) L) ∧ W.grownBy w' none) := fun W h1 h2 => rEfforts_is s a W h1 h2 HE
  have HNZ : Hid (E ≠ 0 → effL s a = []) := fun h => by unfold effL; rw [if_neg (by rw [HE.out]; exact h)]
  have HFU : Hid (∀ x ∈ effL s a, x.length = s.gs.length) := effL_full
  have HGL : Hid (E = 0 → 2 ≤ s.gs.length ∧ s.gs.length ≤ 50) := fun h => (crs_right (HE.out.trans h)).2.1
  have HLN := effL_len s a
  obtain ⟨M, hM⟩ : ∃ l, effL s a = l := ⟨_, rfl⟩
  rw [hM] at EF HNZ HFU HLN ⊢
  clear hM hs ha
  obtain ⟨snm, sgo, sgc, gs⟩ := s
  obtain ⟨nm, sp, st, so, sc, ss, lo, lc, ls, to_, tc, ts⟩ := a
  simp only [Seg.val, Act.val] at *
  have B1 : Hid ((((w.alloc (.cells #[.string snm, .slice sgo gs.length sgc] 24)).alloc (.cells #[.string nm, .int .i64 sp, .int .i64 st, .slice so ss.length sc, .slice lo ls.length lc, .slice to_ ts.length tc] 36)).alloc (.cells #[.slice none 0 0] 49)).heap[w.heap.size]? = some (.cells #[.string snm, .slice sgo gs.length sgc] 24 (0, 0))) := mblock_at (mblock_at (mheap_new w _) (World.grownBy_alloc _ _ none) (by simp)) (World.grownBy_alloc _ _ none) (by simp)
  have B2 : Hid ((((w.alloc (.cells #[.string snm, .slice sgo gs.length sgc] 24)).alloc (.cells #[.string nm, .int .i64 sp, .int .i64 st, .slice so ss.length sc, .slice lo ls.length lc, .slice to_ ts.length tc] 36)).alloc (.cells #[.slice none 0 0] 49)).heap[w.heap.size + 1]? = some (.cells #[.string nm, .int .i64 sp, .int .i64 st, .slice so ss.length sc, .slice lo ls.length lc, .slice to_ ts.length tc] 36 (0, 0))) := by
    have q := mheap_new (w.alloc (.cells #[.string snm, .slice sgo gs.length sgc] 24)) (.cells #[.string nm, .int .i64 sp, .int .i64 st, .slice so ss.length sc, .slice lo ls.length lc, .slice to_ ts.length tc] 36)
    rw [show (w.alloc (.cells #[.string snm, .slice sgo gs.length sgc] 24)).heap.size = w.heap.size + 1 from by simp] at q; exact mblock_at q (World.grownBy_alloc _ _ none) (by simp)
  have B4 : Hid ((((w.alloc (.cells #[.string snm, .slice sgo gs.length sgc] 24)).alloc (.cells #[.string nm, .int .i64 sp, .int .i64 st, .slice so ss.length sc, .slice lo ls.length lc, .slice to_ ts.length tc] 36)).alloc (.cells #[.slice none 0 0] 49)).heap[w.heap.size + 1 + 1]? = some (.cells #[.slice none 0 0] 49 (0, 0))) := by
    have q := mheap_new ((w.alloc (.cells #[.string snm, .slice sgo gs.length sgc] 24)).alloc (.cells #[.string nm, .int .i64 sp, .int .i64 st, .slice so ss.length sc, .slice lo ls.length lc, .slice to_ ts.length tc] 36)) (.cells #[.slice none 0 0] 49)
    rw [show ((w.alloc (.cells #[.string snm, .slice sgo gs.length sgc] 24)).alloc (.cells #[.string nm, .int .i64 sp, .int .i64 st, .slice so ss.length sc, .slice lo ls.length lc, .slice to_ ts.length tc] 36)).heap.size = w.heap.size + 1 + 1 from by simp] at q; exact q
  have G1 : Hid (w.grownBy (((w.alloc (.cells #[.string snm, .slice sgo gs.length sgc] 24)).alloc (.cells #[.string nm, .int .i64 sp, .int .i64 st, .slice so ss.length sc, .slice lo ls.length lc, .slice to_ ts.length tc] 36)).alloc (.cells #[.slice none 0 0] 49)) none) := grown_trans (grown_trans (World.grownBy_alloc _ _ _) (World.grownBy_alloc _ _ _)) (World.grownBy_alloc _ _ _)
  go_enter Try.func21, Try.ntmps21
  go_upto_region 1 with (fail)
  generalize (((w.alloc (.cells #[.string snm, .slice sgo gs.length sgc] 24)).alloc (.cells #[.string nm, .int .i64 sp, .int .i64 st, .slice so ss.length sc, .slice lo ls.length lc, .slice to_ ts.length tc] 36)).alloc (.cells #[.slice none 0 0] 49)) = w0 at *
  have s0 := mblock_cell B1.out 0 _ rfl
  have s1 := mblock_cell B1.out 1 _ rfl
  have y0 := mblock_cell B2.out 0 _ rfl
  have y1 := mblock_cell B2.out 1 _ rfl
  have y2 := mblock_cell B2.out 2 _ rfl
  have y3 := mblock_cell B2.out 3 _ rfl
  have y4 := mblock_cell B2.out 4 _ rfl
  have y5 := mblock_cell B2.out 5 _ rfl
  go_wp2_with fail
  refine (EF.out _ (HS.out.grown G1.out) (HA.out.grown G1.out)).mono ?_; rintro e w1 ⟨⟨ao, cap, L, rfl, hf⟩, hg1⟩
  have G2 := Lib.hid (grown_trans G1.out hg1)
  have B3 := Lib.hid (mblock_at B1.out hg1 (by simp)); have C4 := Lib.hid (mblock_at B4.out hg1 (by simp))
  have HF := Lib.hid hf
  obtain ⟨R4, hR4⟩ : ∃ n, w.heap.size + 1 + 1 = n := ⟨_, rfl⟩
  have HR4 : Hid (w.heap.size ≤ R4) := by show _ ≤ _; omega
  rw [hR4] at C4
  try rw [hR4]
  clear hf hg1 G1 B1 B2 B4 s0 s1 y0 y1 y2 y3 y4 y5 hR4 EF
  by_cases he : E = 0
  · subst he
    by_cases hl : M.length = 0
    · have hm : M = [] := List.eq_nil_of_length_eq_zero hl
      subst hm
      clear hl HLN HFU HGL HNZ
      simp only [List.length_nil] at *
      have f4 := mblock_free (k := 0) C4.out
      have z4 := mblock_cell C4.out 0 _ rfl
      have C5 : (w1.setCell ⟨R4, 0, none⟩ (.slice none 0 0)).heap[R4]? = some (.cells #[.slice none 0 0] 49 (0, 0)) := mblock_set C4.out _
      have c0 := mblock_cell C5 0 _ rfl
      have G3 : Hid (w.grownBy (w1.setCell ⟨R4, 0, none⟩ (.slice none 0 0)) none) := mgrown_set G2.out HR4.out _ _
      clear C5
      go_wp2_with fail
      generalize w1.setCell ⟨R4, 0, none⟩ (.slice none 0 0) = w8 at *
      refine bodyPost_ret (v := .tuple #[.agg #[.slice none 0 0], .bool false, .int .i64 0]) (by simp [results, Try.results21, go_sem, c0]) rfl ?_
      exact ⟨⟨none, 0, by simp [bstL], by simp [bstL]; exact rows_empty _⟩, G3.out⟩
    · have hl0 : 0 < M.length := by omega
      have e1 : ((M.length : Int) == 0) = false := beq_eq_false_iff_ne.2 (by omega)
      have hgl := HGL.out rfl
      have HLL := HF.out.len
      obtain ⟨g, o, hao, q⟩ := rows_at HF.out.row (by omega)
      subst hao
      have cellE : ∀ i, i < L.length → w1.cell? ⟨g, o + i, none⟩ = some (.slice (some ⟨(efD L i).blk, 0, none⟩) (efD L i).at_.length (efD L i).cap) := fun i hi => by
        have t := q i hi 0 _ rfl
        rw [← efD_at hi] at t
        simpa using t
      have CE := Lib.hid cellE
      have elem : ∀ i, i < L.length → (efD L i).at_.length = gs.length := fun i hi => by
        rw [efD_list HF.out.lists hi]
        apply HFU.out
        rw [List.getD_eq_getElem?_getD, List.getElem?_eq_getElem (by omega)]
        exact List.getElem_mem _
      have EL := Lib.hid elem
      obtain ⟨n, hn⟩ : ∃ n, M.length = n := ⟨_, rfl⟩
      have HN : Hid (L.length = n) := by show _ = _; omega
      have HMN := Lib.hid hn
      rw [hn] at hl0 HLN e1 ⊢
      have n0 : (0 : Int) < (n : Int) := by omega
      have c0 := cellE 0 (by omega)
      simp only [Nat.add_zero] at c0
      have HL0 := Lib.hid hl0; have HGL2 := Lib.hid hgl
      clear q cellE elem hn hl HLL HGL
      generalize hx0 : efD L 0 = x0 at *
      have HX0 := Lib.hid hx0
      clear hx0
      obtain ⟨b0, p0, l0⟩ := x0
      simp only at c0
      go_upto_region 5 with (fail)
      have b5 := mheap_new w1 (.cells #[.slice (some ⟨b0, 0, none⟩) l0.length p0] 49)
      have gB := World.grownBy_alloc w1 (.cells #[.slice (some ⟨b0, 0, none⟩) l0.length p0] 49) none
      have B5 := Lib.hid b5; have GB := Lib.hid (grown_trans G2.out gB); have B42 := Lib.hid (mblock_at C4.out gB (by simp)); have B32 := mblock_at B3.out gB (by simp)
      have SZ1 : Hid (w.heap.size ≤ w1.heap.size) := G2.out.size
      have N54 : Hid (R4 ≠ w1.heap.size) := by have := lt_of_block C4.out; show _ ≠ _; omega
      have G12 := Lib.hid gB
      clear c0 b5 gB B3 C4
      generalize w1.alloc (.cells #[.slice (some ⟨b0, 0, none⟩) l0.length p0] 49) = w2 at *
      obtain ⟨R5, hR5⟩ : ∃ n, w1.heap.size = n := ⟨_, rfl⟩
      have HR5 : Hid (w1.heap.size = R5) := hR5
      rw [hR5] at B5 SZ1 N54
      try rw [hR5]
      clear hR5
      have s1 := mblock_cell B32 1 _ rfl
      clear B32
      obtain ⟨gm, hgm⟩ : ∃ m, gs.length - 1 = m := ⟨_, rfl⟩
      have e3 : (gs.length : Int) - 1 = (gm : Int) := by omega
      have e4 : IntKind.i64.wrap (gm : Int) = (gm : Int) := IntWalk.i64_in _ (by omega)
      have HGM := Lib.hid hgm
      clear hgm
      go_wp2_with fail
      clear s1 e3
      go_loopw [37] (fun iv wr => ∃ (k : Nat) (x : EffV), iv = .int .i64 k ∧ k ≤ n ∧ Hid (w2.grownBy wr (some R5)) ∧ Hid (efD L (bestI M (k - 1)) = x) ∧ Hid (wr.heap[R5]? = some (.cells #[.slice (some ⟨x.blk, 0, none⟩) x.at_.length x.cap] 49 (0, 0)))) (fun iv _ => n - (intOf iv).toNat)
      case atStart => exact ⟨0, ⟨b0, p0, l0⟩, rfl, Nat.zero_le _, World.grownBy.refl _ _, HX0.out, B5.out⟩
      case round =>
        obtain ⟨k, y, rfl, hk, hg, hy, hb5⟩ := hrel
        obtain ⟨wo, hwo⟩ : ∃ W : World, W = wr := ⟨_, rfl⟩
        subst hwo
        clear B5
        have old : ∀ (b : Nat) (off : Nat) (v : Value), w1.cell? ⟨b, off, none⟩ = some v → wo.cell? ⟨b, off, none⟩ = some v := fun b off v h => by
          have h1 := grown_cell G12.out h
          have hb : b < w1.heap.size := lt_of_cell h
          exact hg.out.cell h1 (fun q => by injection q with q; have := HR5.out; simp only at q; omega)
        have oldR : ∀ (b : Nat) (l : List Int), RowsAt ic 1 w1 (some ⟨b, 0, none⟩) l → RowsAt ic 1 wo (some ⟨b, 0, none⟩) l := fun b l h =>
          ⟨h.nil, h.spot, fun a ha i hi c v hv => by have q := h.cells a ha i hi c v hv; exact old _ _ _ q⟩
        by_cases hlt : k < n
        · have hbl := bestI_le M (k - 1)
          have hbL : bestI M (k - 1) < L.length := by rw [HN.out]; omega
          have yl := EL.out _ hbL
          have hry := oldR _ _ (HF.out.each _ (efD_mem hbL))
          rw [hy.out] at yl hry
          have hmL : k < L.length := by rw [HN.out]; omega
          have ul := EL.out _ hmL
          have hru := oldR _ _ (HF.out.each _ (efD_mem hmL))
          have cm := old _ _ _ (CE.out k hmL)
          have lx := efD_list HF.out.lists hmL
          have ly := efD_list HF.out.lists hbL
          rw [hy.out] at ly
          have HU : Hid (bestI M (k + 1 - 1) = if tmV (M.getD k []) < tmV (M.getD (bestI M (k - 1)) []) then k else bestI M (k - 1)) := by
            show _ = _
            rcases Nat.eq_zero_or_pos k with c | c
            · subst c; simp [bestI]
            · obtain ⟨d, rfl⟩ : ∃ d, k = d + 1 := ⟨k - 1, by omega⟩
              rfl
          obtain ⟨u, hu⟩ : ∃ u, efD L k = u := ⟨_, rfl⟩
          rw [hu] at ul hru cm lx
          have HUU := Lib.hid hu
          rw [← lx, ← ly] at HU
          have HG := Lib.hid hg.out; have HB5 := Lib.hid hb5.out; have HY := Lib.hid hy.out
          obtain ⟨xb, xc, xl⟩ := u
          obtain ⟨yb, yc, yl2⟩ := y
          simp only at cm hru hry HU ul yl HB5
          obtain ⟨i0, i1⟩ := ends_at hru (by have := HGL2.out; omega)
          obtain ⟨j0, j1⟩ := ends_at hry (by have := HGL2.out; omega)
          have ht1 : tmV xl = wrap64 (xl.getD (xl.length - 1) 0 - xl.getD 0 0) := rfl
          have ht2 : tmV yl2 = wrap64 (yl2.getD (yl2.length - 1) 0 - yl2.getD 0 0) := rfl
          rw [ul, HGM.out] at i1 ht1
          rw [yl, HGM.out] at j1 ht2
          rw [ul] at cm
          have HB52 : Hid (wo.heap[R5]? = some (.cells #[.slice (some ⟨yb, 0, none⟩) gs.length yc] 49 (0, 0))) := by have q := HB5.out; rw [yl] at q; exact q
          have HUL := Lib.hid ul; have HYL := Lib.hid yl
          clear hg hy hb5 hru hry hu lx ly hbl hbL hmL ul yl old oldR HB5
          generalize xl.getD 0 0 = x0 at *
          generalize xl.getD gm 0 = x1 at *
          generalize yl2.getD 0 0 = y0 at *
          generalize yl2.getD gm 0 = y1 at *
          obtain ⟨T1, hT1⟩ : ∃ t, wrap64 (x1 - x0) = t := ⟨_, rfl⟩
          obtain ⟨T2, hT2⟩ : ∃ t, wrap64 (y1 - y0) = t := ⟨_, rfl⟩
          rw [hT1] at ht1
          rw [hT2] at ht2
          rw [ht1, ht2] at HU
          have HT1 := Lib.hid hT1; have HT2 := Lib.hid hT2
          have kn : (k : Int) < (n : Int) := by omega
          have gmg : (gm : Int) < (gs.length : Int) := by have := HGM.out; have := HGL2.out; omega
          have gmp : (0 : Int) ≤ (gm : Int) := by omega
          have gs0 : (0 : Int) < (gs.length : Int) := by omega
          clear ht1 ht2 hT1 hT2
          go_upto_region 9 with (fail)
          have b9 := mheap_new wo (.cells #[.slice (some ⟨xb, 0, none⟩) gs.length xc] 49)
          have gA := World.grownBy_alloc wo (.cells #[.slice (some ⟨xb, 0, none⟩) gs.length xc] 49) none
          have HB6 := Lib.hid (mblock_at HB52.out gA (by simp))
          replace i0 := grown_cell gA i0; replace i1 := grown_cell gA i1; replace j0 := grown_cell gA j0; replace j1 := grown_cell gA j1
          have HG2 : Hid (w2.grownBy (wo.alloc (.cells #[.slice (some ⟨xb, 0, none⟩) gs.length xc] 49)) (some R5)) := grown_trans HG.out (World.grownBy_alloc _ _ _)
          have N9 : Hid (R5 ≠ wo.heap.size) := by have := lt_of_block HB52.out; show _ ≠ _; omega
          clear gA cm HG HB52
          generalize wo.alloc (.cells #[.slice (some ⟨xb, 0, none⟩) gs.length xc] 49) = w3 at *
          generalize wo.heap.size = R9 at *
          have z9 := mblock_cell b9 0 _ rfl
          have z5 := mblock_cell HB6.out 0 _ rfl
          clear b9
          go_quiet (fail)
          have G3 := Lib.hid (grown_trans HG2.out (grown_drewN w3 _ nq))
          have HB7 := Lib.hid (mblock_at HB6.out (grown_drewN w3 none nq) (by simp))
          have z99 := grown_cell (grown_drewN w3 none nq) z9
          clear i0 i1 j0 j1 z5 z9 HB6 HG2
          generalize w3.drewN nq = w4 at *
          try simp only [HT1.out, HT2.out]
          by_cases hz0 : T1 < T2
          · have dz : decide (T1 < T2) = true := decide_eq_true hz0
            have f5 := mblock_free (k := 0) HB7.out
            have z6 := mblock_cell HB7.out 0 _ rfl
            have HNEW : Hid (bestI M (k + 1 - 1) = k) := by show _ = _; rw [HU.out, if_pos hz0]
            go_wp2_with fail
            have C5 : Hid ((w4.setCell ⟨R5, 0, none⟩ (.slice (some ⟨xb, 0, none⟩) gs.length xc)).heap[R5]? = some (.cells #[.slice (some ⟨xb, 0, none⟩) gs.length xc] 49 (0, 0))) := mblock_set HB7.out _
            have G4 : Hid (w2.grownBy (w4.setCell ⟨R5, 0, none⟩ (.slice (some ⟨xb, 0, none⟩) gs.length xc)) (some R5)) := grown_trans G3.out ⟨rfl, rfl, rfl, by simp [World.setCell], fun j hj hne => Below.heap_setCell _ _ _ _ (by show j ≠ R5; exact fun e => hne (by rw [e]))⟩
            clear f5 z6 z99
            generalize w4.setCell ⟨R5, 0, none⟩ (.slice (some ⟨xb, 0, none⟩) gs.length xc) = w8 at *
            go_wp2_with fail
            go_roundw
            case rel => exact ⟨k + 1, ⟨xb, xc, xl⟩, by go_num, hlt, G4.out, (by show _ = _; rw [HNEW.out]; exact HUU.out), (by show _ = _; simp only; rw [HUL.out]; exact C5.out)⟩
            case measure => simp [intOf]; omega
          · have dz : decide (T1 < T2) = false := decide_eq_false hz0
            have HNEW : Hid (bestI M (k + 1 - 1) = bestI M (k - 1)) := by show _ = _; rw [HU.out, if_neg hz0]
            go_wp2_with fail
            go_roundw
            case rel => exact ⟨k + 1, ⟨yb, yc, yl2⟩, by go_num, hlt, G3.out, (by show _ = _; rw [HNEW.out]; exact HY.out), (by show _ = _; simp only; rw [HYL.out]; exact HB7.out)⟩
            case measure => simp [intOf]; omega
        · have hke : k = n := by omega
          subst hke
          have hML : 0 < M.length := by rw [HMN.out]; exact HL0.out
          have hy2 : efD L (bestI M (M.length - 1)) = y := by rw [HMN.out]; exact hy.out
          have hya : y.at_ = bstL M := by rw [← hy2]; exact bst_some HF.out.lists hML
          have hyr := oldR _ _ (HF.out.each y (by rw [← hy2]; exact bst_mem HF.out.lists hML))
          have hyl : 0 < y.at_.length := by
            have hbl := bestI_le M (k - 1)
            have q := EL.out (bestI M (k - 1)) (by rw [HN.out]; have := HL0.out; omega)
            rw [hy.out] at q
            have := HGL2.out; omega
          obtain ⟨yb, yc, yl⟩ := y
          simp only at hya hyr hyl hb5
          have C4' : wo.heap[R4]? = some (.cells #[.slice none 0 0] 49 (0, 0)) := mblock_at B42.out hg.out (fun q => by injection q with q; exact N54.out q)
          have z4 := mblock_cell C4' 0 _ rfl
          have f4 := mblock_free (k := 0) C4'
          have z5 := mblock_cell hb5.out 0 _ rfl
          have hne : yb ≠ R4 := fun e => by
            have q := (ends_at hyr hyl).1
            rw [e, z4] at q
            cases q
          have C7 : (wo.setCell ⟨R4, 0, none⟩ (.slice (some ⟨yb, 0, none⟩) yl.length yc)).heap[R4]? = some (.cells #[.slice (some ⟨yb, 0, none⟩) yl.length yc] 49 (0, 0)) := mblock_set C4' _
          have c0 := mblock_cell C7 0 _ rfl
          have G4 : Hid (w.grownBy wo none) := mgrown_row GB.out hg.out (fun r e => by injection e with e; subst e; exact SZ1.out)
          have G5 : Hid (w.grownBy (wo.setCell ⟨R4, 0, none⟩ (.slice (some ⟨yb, 0, none⟩) yl.length yc)) none) := mgrown_set G4.out HR4.out _ _
          have G6 : Hid (wo.grownBy (wo.setCell ⟨R4, 0, none⟩ (.slice (some ⟨yb, 0, none⟩) yl.length yc)) (some R4)) := ⟨rfl, rfl, rfl, by simp [World.setCell], fun j hj hne => Below.heap_setCell _ _ _ _ (by show j ≠ R4; exact fun e => hne (by rw [e]))⟩
          have HYR : Hid (RowsAt ic 1 (wo.setCell ⟨R4, 0, none⟩ (.slice (some ⟨yb, 0, none⟩) yl.length yc)) (some ⟨yb, 0, none⟩) yl) := hyr.kept G6.out (fun a ha _ q => by cases ha; injection q with q; exact hne q)
          have HYA := Lib.hid hya
          have e2 : decide (0 < M.length) = true := decide_eq_true (by rw [HMN.out]; exact HL0.out)
          have HE2 := Lib.hid e2
          clear C7 G6 hne hya hyr hyl hy2 hML C4' hg hy hb5 old oldR
          go_wp2_with fail
          generalize wo.setCell ⟨R4, 0, none⟩ (.slice (some ⟨yb, 0, none⟩) yl.length yc) = w8 at *
          refine bodyPost_ret (v := .tuple #[.agg #[.slice (some ⟨yb, 0, none⟩) yl.length yc], .bool true, .int .i64 0]) (by simp [results, Try.results21, go_sem, c0]) rfl ?_
          have hxa := HYA.out
          subst hxa
          exact ⟨⟨some ⟨yb, 0, none⟩, yc, by rw [HE2.out], HYR.out⟩, G5.out⟩
  · have hm : M = [] := HNZ.out he
    subst hm
    have g2 : (E != 0) = true := by simpa using he
    clear HLN HFU HGL HNZ
    simp only [List.length_nil] at *
    have f4 := mblock_free (k := 0) C4.out
    have z4 := mblock_cell C4.out 0 _ rfl
    have C5 : (w1.setCell ⟨R4, 0, none⟩ (.slice none 0 0)).heap[R4]? = some (.cells #[.slice none 0 0] 49 (0, 0)) := mblock_set C4.out _
    have c0 := mblock_cell C5 0 _ rfl
    have G3 : Hid (w.grownBy (w1.setCell ⟨R4, 0, none⟩ (.slice none 0 0)) none) := mgrown_set G2.out HR4.out _ _
    clear C5
    go_wp2_with fail
    generalize w1.setCell ⟨R4, 0, none⟩ (.slice none 0 0) = w8 at *
    refine bodyPost_ret (v := .tuple #[.agg #[.slice none 0 0], .bool false, .int .i64 E]) (by simp [results, Try.results21, go_sem, c0]) rfl ?_
    exact ⟨⟨none, 0, by simp [bstL], by simp [bstL]; exact rows_empty _⟩, G3.out⟩
end Go.Proofs.Ytckelojdjmaliaa
