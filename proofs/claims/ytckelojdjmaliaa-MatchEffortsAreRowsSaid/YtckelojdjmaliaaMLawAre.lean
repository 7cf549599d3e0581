/- The law's walk: efforts are rows, one behind the other, and the best takes least. -/
import Derived.Test.YtckelojdjmaliaaMAre
namespace Go.Proofs.Ytckelojdjmaliaa
open Go.RowKit
set_option linter.unusedSimpArgs false
set_option linter.unusedVariables false

attribute [local go_sem] Oper.semAt_some

/-- When the effort before ended. -/
def lastV (M : List (List Int)) (k : Nat) : Int := if k = 0 then 0 else (M.getD (k - 1) []).getD ((M.getD (k - 1) []).length - 1) 0
/-- What the law asks of efforts, purely. -/
structure AreO (C : List Crs) (n : Nat) (M : List (List Int)) (Q : List Int) : Prop where
  full : ∀ k, k < M.length → (M.getD k []).length = n
  up : ∀ k, k < M.length → ∀ i j, i ≤ j → j < (M.getD k []).length → (M.getD k []).getD i 0 ≤ (M.getD k []).getD j 0
  mem : ∀ k, k < M.length → ∀ i, i < (M.getD k []).length → ∃ c ∈ C, c.gate = (i : Int) ∧ c.at_ = (M.getD k []).getD i 0
  after : ∀ k, k < M.length → lastV M k ≤ (M.getD k []).getD 0 0
  best : 0 < M.length → Q.length = n ∧ ∀ k, k < M.length → tmV Q ≤ tmV (M.getD k [])
theorem are_ok (s : Seg) (a : Act) : AreO (crsL (SLc s.gs a.ss) s a) s.gs.length (effL s a) (bstL (effL s a)) := by
  have hin : ∀ k, k < (effL s a).length → (effL s a).getD k [] ∈ effL s a := fun k hk => by
    rw [List.getD_eq_getElem?_getD, List.getElem?_eq_getElem hk]; exact List.getElem_mem _
  have hr := (effL_rows (s := s) (a := a)).1
  have hfull : ∀ k, k < (effL s a).length → ((effL s a).getD k []).length = s.gs.length := fun k hk => effL_full _ (hin k hk)
  have hpos : 0 < (effL s a).length → 2 ≤ s.gs.length := fun h => by
    have hc : crsE s a = 0 := Classical.byContradiction fun hc => by unfold effL at h; rw [if_neg hc] at h; simp at h
    exact (crs_right hc).2.1.1
  refine ⟨hfull, fun k hk => (hr _ (hin k hk)).up, fun k hk => (hr _ (hin k hk)).mem, fun k hk => ?_, fun hl => ?_⟩
  · unfold lastV
    split
    · have h2 := hpos (by omega)
      obtain ⟨c, hc, _, h⟩ := (hr _ (hin k hk)).mem 0 (by rw [hfull k hk]; omega)
      rw [← h]
      exact (crsL_up s a).2 c hc
    · rename_i h0
      have q := List.pairwise_iff_getElem.1 (effL_rows (s := s) (a := a)).2 (k - 1) k (by omega) hk (by omega)
      have e : ∀ j (hj : j < (effL s a).length), (effL s a).getD j [] = (effL s a)[j] := fun j hj => by rw [List.getD_eq_getElem?_getD, List.getElem?_eq_getElem hj]; rfl
      rw [e (k - 1) (by omega), e k hk]
      exact q
  · have hn : effL s a ≠ [] := fun e => by rw [e] at hl; simp at hl
    have hb := bestI_le (effL s a) ((effL s a).length - 1)
    have e : bstL (effL s a) = (effL s a).getD (bestI (effL s a) ((effL s a).length - 1)) [] := by unfold bstL; rw [if_neg hn]
    rw [e]
    exact ⟨hfull _ (by omega), fun k hk => bestI_least _ _ _ (by omega)⟩

set_option maxRecDepth 100000 in
set_option maxHeartbeats 6400000 in
theorem are_law (s : Seg) (a : Act) (w : World) (hs : SegAt w s) (ha : ActAt w a) (hac : a.ss.length ≤ a.sc) :
    Calls Try.prog 6 #[s.val, a.val] w fun e w' => e = .returned (.bool true) ∧ w.grownBy w' none := by
  obtain ⟨E, hE⟩ : ∃ e, crsE s a = e := ⟨_, rfl⟩
  have HE := Lib.hid hE; have HS := Lib.hid hs; have HA := Lib.hid ha
  have P1 : Hid (∀ W : World, SegAt W s → ActAt W a → Calls Try.prog 18 #[s.val, a.val] W fun e w' => (∃ ao cap L, e = .returned (.tuple #[.slice ao (effL s a).length cap, .int .i64 E]) ∧ EffAt w' ao (effL s a) L) ∧ W.grownBy w' none) := fun W h1 h2 => Efforts_is s a W h1 h2 HE
  have P2 : Hid (∀ W : World, SegAt W s → ActAt W a → Calls Try.prog 15 #[s.val, a.val] W fun e w' => (∃ ao cap, e = .returned (.tuple #[.slice ao (crsL (SLc s.gs a.ss) s a).length cap, .int .i64 E]) ∧ RowsAt crsCs 3 w' ao (crsL (SLc s.gs a.ss) s a)) ∧ W.grownBy w' none) := fun W h1 h2 => by
    refine (Crossings_is s a W h1 h2 (SLc s.gs a.ss) (crs_steps s a) HE).mono ?_
    rintro e w' ⟨⟨v, rfl, ho⟩, hg⟩
    obtain ⟨ao, cap, hv, _, hr, _⟩ := own_rows (cs := crsCs) (fun _ => rfl) ho
    subst hv
    exact ⟨⟨ao, cap, rfl, hr⟩, hg⟩
  have P3 : Hid (∀ W : World, SegAt W s → ActAt W a → Calls Try.prog 20 #[s.val, a.val] W fun e w' => (∃ ao cap, e = .returned (.tuple #[.agg #[.slice ao (bstL (effL s a)).length cap], .bool (decide (0 < (effL s a).length)), .int .i64 E]) ∧ RowsAt ic 1 w' ao (bstL (effL s a))) ∧ W.grownBy w' none) := fun W h1 h2 => Best_is s a W h1 h2 HE
  have HGL : Hid (E = 0 → 2 ≤ s.gs.length ∧ s.gs.length ≤ 50) := fun h => (crs_right (HE.out.trans h)).2.1
  have OK := Lib.hid (are_ok s a)
  have hln := effL_len s a
  have hcl := crsL_len s a
  obtain ⟨B, hB⟩ : ∃ b, decide (0 < (effL s a).length) = b := ⟨_, rfl⟩
  have HB : Hid (decide (0 < (effL s a).length) = B) := hB
  rw [hB] at P3
  generalize bstL (effL s a) = Q at *
  generalize effL s a = M at *
  generalize crsL (SLc s.gs a.ss) s a = C at *
  obtain ⟨snm, sgo, sgc, gs⟩ := s
  obtain ⟨nm, sp, st, so, sc, ss, lo, lc, ls, to_, tc, ts⟩ := a
  simp only [Seg.val, Act.val] at *
  clear hE hs ha hac hB
  have B1 : Hid (((w.alloc (.cells #[.string snm, .slice sgo gs.length sgc] 24)).alloc (.cells #[.string nm, .int .i64 sp, .int .i64 st, .slice so ss.length sc, .slice lo ls.length lc, .slice to_ ts.length tc] 36)).heap[w.heap.size]? = some (.cells #[.string snm, .slice sgo gs.length sgc] 24 (0, 0))) := mblock_at (mheap_new w _) (World.grownBy_alloc _ _ none) (by simp)
  have B2 : Hid (((w.alloc (.cells #[.string snm, .slice sgo gs.length sgc] 24)).alloc (.cells #[.string nm, .int .i64 sp, .int .i64 st, .slice so ss.length sc, .slice lo ls.length lc, .slice to_ ts.length tc] 36)).heap[w.heap.size + 1]? = some (.cells #[.string nm, .int .i64 sp, .int .i64 st, .slice so ss.length sc, .slice lo ls.length lc, .slice to_ ts.length tc] 36 (0, 0))) := by
    have q := mheap_new (w.alloc (.cells #[.string snm, .slice sgo gs.length sgc] 24)) (.cells #[.string nm, .int .i64 sp, .int .i64 st, .slice so ss.length sc, .slice lo ls.length lc, .slice to_ ts.length tc] 36)
    rw [show (w.alloc (.cells #[.string snm, .slice sgo gs.length sgc] 24)).heap.size = w.heap.size + 1 from by simp] at q; exact q
  have G1 : Hid (w.grownBy ((w.alloc (.cells #[.string snm, .slice sgo gs.length sgc] 24)).alloc (.cells #[.string nm, .int .i64 sp, .int .i64 st, .slice so ss.length sc, .slice lo ls.length lc, .slice to_ ts.length tc] 36)) none) := grown_trans (World.grownBy_alloc _ _ _) (World.grownBy_alloc _ _ _)
  go_enter Try.func6, Try.ntmps6
  go_upto_region 1 with (fail)
  generalize ((w.alloc (.cells #[.string snm, .slice sgo gs.length sgc] 24)).alloc (.cells #[.string nm, .int .i64 sp, .int .i64 st, .slice so ss.length sc, .slice lo ls.length lc, .slice to_ ts.length tc] 36)) = w0 at *
  have s0 := mblock_cell B1.out 0 _ rfl; have s1 := mblock_cell B1.out 1 _ rfl
  have y0 := mblock_cell B2.out 0 _ rfl
  have y1 := mblock_cell B2.out 1 _ rfl
  have y2 := mblock_cell B2.out 2 _ rfl
  have y3 := mblock_cell B2.out 3 _ rfl
  have y4 := mblock_cell B2.out 4 _ rfl
  have y5 := mblock_cell B2.out 5 _ rfl
  go_wp2_with fail
  refine (P1.out _ (HS.out.grown G1.out) (HA.out.grown G1.out)).mono ?_; rintro e w1 ⟨⟨o1, c1, L, rfl, p1⟩, hg1⟩
  have G2 := Lib.hid (grown_trans G1.out hg1); have K1 := Lib.hid p1
  replace s0 := grown_cell hg1 s0; replace s1 := grown_cell hg1 s1; replace y0 := grown_cell hg1 y0; replace y1 := grown_cell hg1 y1; replace y2 := grown_cell hg1 y2; replace y3 := grown_cell hg1 y3; replace y4 := grown_cell hg1 y4; replace y5 := grown_cell hg1 y5
  clear hg1 p1 B1 B2 G1 P1
  go_wp2_with fail
  refine (P2.out _ (HS.out.grown G2.out) (HA.out.grown G2.out)).mono ?_; rintro e w2 ⟨⟨o2, c2, rfl, p2⟩, hg2⟩
  have G3 := Lib.hid (grown_trans G2.out hg2); have K2 := Lib.hid p2; have K12 := Lib.hid (K1.out.grown hg2)
  replace s0 := grown_cell hg2 s0; replace s1 := grown_cell hg2 s1; replace y0 := grown_cell hg2 y0; replace y1 := grown_cell hg2 y1; replace y2 := grown_cell hg2 y2; replace y3 := grown_cell hg2 y3; replace y4 := grown_cell hg2 y4; replace y5 := grown_cell hg2 y5
  clear hg2 p2 G2 P2 K1
  go_wp2_with fail
  refine (P3.out _ (HS.out.grown G3.out) (HA.out.grown G3.out)).mono ?_; rintro e w3 ⟨⟨o3, c3, rfl, p3⟩, hg3⟩
  have G4 := Lib.hid (grown_trans G3.out hg3); have K3 := Lib.hid p3; have K13 := Lib.hid (K12.out.grown hg3); have K23 := Lib.hid (K2.out.grown hg3)
  replace s0 := grown_cell hg3 s0; replace s1 := grown_cell hg3 s1; replace y0 := grown_cell hg3 y0; replace y1 := grown_cell hg3 y1; replace y2 := grown_cell hg3 y2; replace y3 := grown_cell hg3 y3; replace y4 := grown_cell hg3 y4; replace y5 := grown_cell hg3 y5
  clear hg3 p3 G3 P3 K12 K2
  go_upto_region 4 with (fail)
  have b9 := mheap_new w3 (.cells #[.slice o3 Q.length c3] 49)
  have gA := World.grownBy_alloc w3 (.cells #[.slice o3 Q.length c3] 49) none
  have G5 := Lib.hid (grown_trans G4.out gA); have K34 := Lib.hid (K3.out.grown gA); have K14 := Lib.hid (K13.out.grown gA); have K24 := Lib.hid (K23.out.grown gA)
  have S1 := Lib.hid (grown_cell gA s1)
  have B9 := Lib.hid b9
  clear gA b9 G4 K3 K13 K23 s0 s1 y0 y1 y2 y3 y4 y5
  generalize w3.alloc (.cells #[.slice o3 Q.length c3] 49) = wb at *
  generalize w3.heap.size = R9 at *
  by_cases he : E = 0
  · subst he
    have hgl := HGL.out rfl
    have HGQ := Lib.hid hgl
    have HLL := K14.out.len
    have LL := Lib.hid HLL
    have gl50 : gs.length ≤ 50 := hgl.2
    clear HGL HLL hgl
    go_wp2_with fail
    go_loopw [12, 50] (fun lv iv wr => ∃ k : Nat, lv = .int .i64 (lastV M k) ∧ iv = .int .i64 k ∧ k ≤ M.length ∧ Hid (wb.grownBy wr none)) (fun _ iv _ => M.length - (intOf iv).toNat)
    case atStart => exact ⟨0, rfl, rfl, Nat.zero_le _, grown_refl _ _⟩
    case round =>
      obtain ⟨k, rfl, rfl, hk, hg⟩ := hrel
      obtain ⟨wo, hwo⟩ : ∃ W : World, W = wr := ⟨_, rfl⟩
      subst hwo
      by_cases hlt : k < M.length
      · have kL : k < L.length := by rw [LL.out]; exact hlt
        obtain ⟨g1, o1', rfl, q1⟩ := rows_at (K14.out.row.grown hg.out) (by omega)
        have x0 := q1 k kL 0 _ rfl
        rw [← efD_at kL] at x0
        have e1 := efD_list K14.out.lists kL
        have r1 := (K14.out.each _ (efD_mem kL)).grown hg.out
        have hfull := OK.out.full k hlt
        have UP := Lib.hid (OK.out.up k hlt)
        have MEM := Lib.hid (OK.out.mem k hlt)
        have haf := OK.out.after k hlt
        obtain ⟨hQn, hQb⟩ := OK.out.best (by omega)
        have hbst := hQb k hlt
        have LV : Hid (lastV M (k + 1) = (M.getD k []).getD ((M.getD k []).length - 1) 0) := by show lastV M (k + 1) = _; unfold lastV; rw [if_neg (by omega)]; rfl
        rw [← e1] at hfull UP MEM haf hbst LV
        have HB1 : B = true := by rw [← HB.out]; exact decide_eq_true (by omega)
        have HG := Lib.hid hg.out
        generalize efD L k = x at *
        obtain ⟨xb, xc, xl⟩ := x
        simp only at x0 e1 r1 hfull UP MEM haf hbst LV
        have x1 : wo.cell? ⟨g1, o1' + k, none⟩ = some (.slice (some ⟨xb, 0, none⟩) gs.length xc) := by rw [← hfull]; simpa using x0
        have x2 : 0 < xl.length := by have := HGQ.out; omega
        have R1 := Lib.hid r1; have HFU := Lib.hid hfull; have HAF := Lib.hid haf; have HQN := Lib.hid hQn; have HBST := Lib.hid hbst; have X2 := Lib.hid x2; have HHB := Lib.hid HB1
        have kl0 : (k : Int) < (M.length : Int) := by omega
        generalize lastV M k = lv at *
        clear q1 x0 e1 r1 hfull haf hQn hQb hbst hg kL x2 HB1
        go_upto_region 10 with (fail)
        have b8 := mheap_new wo (.cells #[.slice (some ⟨xb, 0, none⟩) gs.length xc] 49)
        have gA := World.grownBy_alloc wo (.cells #[.slice (some ⟨xb, 0, none⟩) gs.length xc] 49) none
        have HG2 := Lib.hid (grown_trans HG.out gA); have R12 := Lib.hid (R1.out.grown gA)
        have B8 := Lib.hid b8
        clear gA HG R1 x1 b8
        generalize wo.alloc (.cells #[.slice (some ⟨xb, 0, none⟩) gs.length xc] 49) = w4 at *
        generalize wo.heap.size = S8 at *
        have z8 := mblock_cell B8.out 0 _ rfl
        obtain ⟨f0, f1⟩ := ends_at R12.out X2.out
        rw [HFU.out] at f1
        have s1 := grown_cell HG2.out S1.out
        have e3 : ¬ xl.getD 0 0 < lv := by have := HAF.out; omega
        have e4 : decide (xl.getD 0 0 < lv) = false := decide_eq_false e3
        have g0 : (0 : Int) < (gs.length : Int) := by have := HGQ.out; omega
        obtain ⟨gm, hgm⟩ : ∃ m, gs.length - 1 = m := ⟨_, rfl⟩
        have HGM := Lib.hid hgm
        rw [hgm] at f1
        rw [HFU.out, hgm] at LV
        have i1 : (gs.length : Int) - 1 = (gm : Int) := by omega
        have i2 : (gm : Int) < (gs.length : Int) := by omega
        have i3 : IntKind.i64.wrap (gm : Int) = (gm : Int) := IntWalk.i64_in _ (by omega)
        have ht1 : tmV xl = wrap64 (xl.getD gm 0 - xl.getD 0 0) := by unfold tmV; rw [HFU.out, HGM.out]
        have HT1 := Lib.hid ht1
        clear hgm ht1
        generalize hF : xl.getD 0 0 = F at *
        generalize hT : xl.getD gm 0 = T at *
        have HF := Lib.hid hF; have HT := Lib.hid hT
        clear hF hT
        go_wp2_with fail
        have SRT := sorted_is xb xc xl w4 R12.out X2.out (by rw [HFU.out]; exact gl50) UP.out
        rw [HFU.out] at SRT
        refine SRT.mono ?_; rintro e w5 ⟨rfl, hg5⟩
        have HG3 := Lib.hid (grown_trans HG2.out hg5); have R13 := Lib.hid (R12.out.grown hg5); have B82 := Lib.hid (mblock_at B8.out hg5 (by simp))
        replace f0 := grown_cell hg5 f0; replace f1 := grown_cell hg5 f1; replace z8 := grown_cell hg5 z8
        clear hg5 HG2 R12 B8 SRT s1
        go_wp2_with fail
        have F0 := Lib.hid f0; have F1 := Lib.hid f1
        clear f0 f1 z8 e3 e4
        go_loopw [85] (fun iv wr => ∃ i : Nat, iv = .int .i64 i ∧ i ≤ gs.length ∧ Hid (w5.grownBy wr none)) (fun iv _ => gs.length - (intOf iv).toNat)
        case atStart => exact ⟨0, rfl, Nat.zero_le _, grown_refl _ _⟩
        case round =>
          obtain ⟨i, rfl, hi, hg6⟩ := hrel
          obtain ⟨wi, hwi⟩ : ∃ W : World, W = wr := ⟨_, rfl⟩
          subst hwi
          by_cases hil : i < gs.length
          · have ci : wi.cell? ⟨xb, i, none⟩ = some (.int .i64 (xl.getD i 0)) := by
              have q := (R13.out.grown hg6.out).cells _ rfl i (by rw [HFU.out]; exact hil) 0 _ rfl
              rw [List.getD_eq_getElem?_getD, List.getElem?_eq_getElem (by rw [HFU.out]; exact hil)]
              simpa using q
            have HEX := Lib.hid (MEM.out i (by rw [HFU.out]; exact hil))
            have HG6 := Lib.hid hg6.out
            have il0 : (i : Int) < (gs.length : Int) := by omega
            generalize xl.getD i 0 = t at *
            clear hg6
            go_upto_region 17 with (fail)
            have bI := mheap_new wi (.cells #[.int .i64 (i : Int)] 3)
            have gA := World.grownBy_alloc wi (.cells #[.int .i64 (i : Int)] 3) none
            have bT := mheap_new (wi.alloc (.cells #[.int .i64 (i : Int)] 3)) (.cells #[.int .i64 t] 3)
            have gB := World.grownBy_alloc (wi.alloc (.cells #[.int .i64 (i : Int)] 3)) (.cells #[.int .i64 t] 3) none
            have bI2 := mblock_at bI gB (by simp)
            rw [show (wi.alloc (.cells #[.int .i64 (i : Int)] 3)).heap.size = wi.heap.size + 1 from by simp] at bT
            have HG7 := Lib.hid (grown_trans HG6.out (grown_trans gA gB))
            clear ci bI gA gB HG6
            generalize (wi.alloc (.cells #[.int .i64 (i : Int)] 3)).alloc (.cells #[.int .i64 t] 3) = w7 at *
            have cI := mblock_cell bI2 0 _ rfl; have cT := mblock_cell bT 0 _ rfl
            have KC := Lib.hid ((K24.out.grown HG3.out).grown HG7.out)
            have CI := Lib.hid cI; have CT := Lib.hid cT
            clear bI2 bT cI cT
            generalize wi.heap.size + 1 = BT at *
            generalize wi.heap.size = BI at *
            go_wp2_with fail
            refine (contains_is o2 c2 C BI BT i t _ KC.out hcl CI.out CT.out HEX.out).mono ?_; rintro e w8 ⟨rfl, hg8⟩
            have HG8 := Lib.hid (grown_trans HG7.out hg8)
            clear hg8 HG7 KC CI CT HEX
            go_wp2_with fail
            go_roundw
            case rel => exact ⟨i + 1, by go_num, hil, HG8.out⟩
            case measure => simp [intOf]; omega
          · have HG7 := Lib.hid (grown_trans HG3.out hg6.out)
            have z8 := grown_cell hg6.out (mblock_cell B82.out 0 _ rfl)
            have f0 := grown_cell hg6.out F0.out; have f1 := grown_cell hg6.out F1.out
            have z9 := grown_cell HG7.out (mblock_cell B9.out 0 _ rfl)
            obtain ⟨qb, qo, hq, qq⟩ := rows_at (K34.out.grown HG7.out) (by rw [HQN.out]; have := HGQ.out; omega)
            subst hq
            have qe : ∀ j, j < Q.length → wi.cell? ⟨qb, qo + j, none⟩ = some (.int .i64 (Q.getD j 0)) := fun j hj => by
              have q := qq j hj 0 _ rfl
              rw [List.getD_eq_getElem?_getD, List.getElem?_eq_getElem hj]
              simpa using q
            have q0 := qe 0 (by rw [HQN.out]; have := HGQ.out; omega); have q1 := qe gm (by rw [HQN.out]; have := HGM.out; have := HGQ.out; omega)
            have ht2 : tmV Q = wrap64 (Q.getD gm 0 - Q.getD 0 0) := by unfold tmV; rw [HQN.out, HGM.out]
            have hbst := HBST.out
            rw [HT1.out, ht2] at hbst
            rw [HQN.out] at z9
            simp only [Nat.add_zero] at q0
            obtain ⟨hb1⟩ : Nonempty (B = true) := ⟨HHB.out⟩
            generalize Q.getD 0 0 = F2 at *
            generalize Q.getD gm 0 = T2 at *
            have e5 : ¬ wrap64 (T - F) < wrap64 (T2 - F2) := by omega
            obtain ⟨D1, hD1⟩ : ∃ d, wrap64 (T - F) = d := ⟨_, rfl⟩
            obtain ⟨D2, hD2⟩ : ∃ d, wrap64 (T2 - F2) = d := ⟨_, rfl⟩
            rw [hD1, hD2] at e5
            have e6 : decide (D1 < D2) = false := decide_eq_false e5
            have HD1 := Lib.hid hD1; have HD2 := Lib.hid hD2
            have gm0 : (0 : Int) ≤ (gm : Int) := by omega
            clear hg6 qq qe ht2 hbst hD1 hD2
            subst hb1
            go_upto_region 20 with (fail)
            go_quiet (fail)
            have HG8 := Lib.hid (grown_trans HG7.out (grown_drewN wi none nq))
            clear z8 z9 f0 f1 q0 q1 HG7
            generalize wi.drewN nq = w9 at *
            try simp only [HD1.out, HD2.out]
            go_wp2_with fail
            go_roundw
            case rel => exact ⟨k + 1, by rw [LV.out], by go_num, hlt, HG8.out⟩
            case measure => simp [intOf]; omega
      · have hke : k = M.length := by omega
        have HG := Lib.hid (grown_trans G5.out hg.out)
        have hb := HB.out
        have e7 : decide ((M.length : Int) > 0) = B := by rw [← hb]; simp
        have e8 : decide ((0 : Int) < (M.length : Int)) = B := by rw [← hb]; simp
        clear hg hke hb
        subst e8
        go_wp2_with fail
        refine (told5_any _).mono ?_; rintro e w6 ⟨rfl, hg6⟩
        have G6 := Lib.hid (grown_trans HG.out hg6)
        clear hg6 HG
        go_wp2_with fail
        go_ret
        exact ⟨rfl, G6.out⟩
  · have g2 : (E != 0) = true := by simpa using he
    clear he
    go_wp2_with fail
    refine (told5_any _).mono ?_; rintro e w6 ⟨rfl, hg6⟩
    have G6 := Lib.hid (grown_trans G5.out hg6)
    clear hg6 G5
    go_wp2_with fail
    go_ret
    exact ⟨rfl, G6.out⟩
end Go.Proofs.Ytckelojdjmaliaa
