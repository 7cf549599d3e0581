/- The contract of the reference's Spaced. -/
import Derived.Test.YtckelojdjmaliaaMSpcP
import Derived.Test.YtckelojdjmaliaaMRev
import Derived.Test.YtckelojdjmaliaaQRef
import Derived.Test.YtckelojdjmaliaaTRWaysM
import Derived.Deep.AppendLies
import Derived.Deep.RegionHeld3
import Derived.BigQuiet
namespace Go.Proofs.Ytckelojdjmaliaa
open Go.RowKit
set_option linter.unusedSimpArgs false
set_option linter.unusedVariables false

attribute [local go_sem] Oper.semAt_some

theorem point_is (s : Smp) (w : World) : Calls Try.prog 49 #[.agg #[.int .i64 s.t, .int .i64 s.x, .int .i64 s.y, .int .i64 s.z, .int .i64 s.p, .int .i64 s.q, .int .i64 s.s]] w fun e w' => e = .returned (.agg #[.int .i64 s.x, .int .i64 s.y]) ∧ w.grownBy w' none := by
  obtain ⟨t, x, y, z, p, q, s⟩ := s
  go_enter Try.func49, Try.ntmps49
  go_wp2_with fail
  have c0 : ((w.alloc (.cells #[.int .i64 t, .int .i64 x, .int .i64 y, .int .i64 z, .int .i64 p, .int .i64 q, .int .i64 s] 79)).alloc (.cells #[.int .i64 x, .int .i64 y] 64)).cell? ⟨w.heap.size + 1, 0, none⟩ = some (.int .i64 x) := by go_simp
  have c1 : ((w.alloc (.cells #[.int .i64 t, .int .i64 x, .int .i64 y, .int .i64 z, .int .i64 p, .int .i64 q, .int .i64 s] 79)).alloc (.cells #[.int .i64 x, .int .i64 y] 64)).cell? ⟨w.heap.size + 1, 1, none⟩ = some (.int .i64 y) := by go_simp
  have g1 : w.grownBy ((w.alloc (.cells #[.int .i64 t, .int .i64 x, .int .i64 y, .int .i64 z, .int .i64 p, .int .i64 q, .int .i64 s] 79)).alloc (.cells #[.int .i64 x, .int .i64 y] 64)) none := grown_trans (World.grownBy_alloc _ _ _) (World.grownBy_alloc _ _ _)
  generalize ((w.alloc (.cells #[.int .i64 t, .int .i64 x, .int .i64 y, .int .i64 z, .int .i64 p, .int .i64 q, .int .i64 s] 79)).alloc (.cells #[.int .i64 x, .int .i64 y] 64)) = W1 at *
  refine bodyPost_ret (v := .agg #[.int .i64 x, .int .i64 y]) (by simp [results, Try.results49, go_sem, c0, c1]) rfl ⟨rfl, g1⟩

set_option maxRecDepth 100000 in
set_option maxHeartbeats 12800000 in
theorem rSpaced_is (a : Act) (n : Int) (w : World) (ha : ActAt w a) {E : Int} (hE : Hid (spcE a n = E)) :
    Calls Try.prog 28 #[a.val, .int .i64 n] w fun e w' => (∃ ao cap, e = .returned (.tuple #[.slice ao (spcL a n).length cap, .int .i64 E]) ∧ PtsAt w' ao (spcL a n)) ∧ w.grownBy w' none := by
  obtain ⟨ce, hce⟩ : ∃ e, chkE a = e := ⟨_, rfl⟩
  have HA := Lib.hid ha; have HCE := Lib.hid hce
  have hv := hE.out
  unfold spcE at hv
  rw [hce] at hv
  have LN0 : E ≠ 0 → spcL a n = [] := fun h => by unfold spcL; rw [if_neg (by rw [hE.out]; exact h)]
  by_cases h0 : ce = 0
  · rw [if_pos h0] at hv
    by_cases h1 : 2 ≤ n ∧ n ≤ 300
    · rw [if_pos h1] at hv
      by_cases h2 : a.ss.length = 0
      · rw [if_pos h2] at hv
        subst hv
        have LN : Hid (spcL a n = []) := LN0 (by omega)
        obtain ⟨nm, sp, st, so, sc, ss, lo, lc, ls, to_, tc, ts⟩ := a
        simp only [Act.val] at *
        have HN1 : Hid (decide (n < 2 ∨ 300 < n) = false) := decide_eq_false (by omega)
        have z2 : ((ss.length : Int) == 0) = true := by simpa using h2
        subst h0
        have h0 := trivial
        clear hE ha hce LN0 h1 h2
        have HWE : Hid (waysE ⟨nm, sp, st, so, sc, ss, lo, lc, ls, to_, tc, ts⟩ = (ss.length, 0)) := by show waysE _ = _; unfold waysE; rw [if_pos HCE.out]
        clear h0
        go_enter Try.func28, Try.ntmps28
        go_wp2_with fail
        refine (rways_any ⟨nm, sp, st, so, sc, ss, lo, lc, ls, to_, tc, ts⟩ _ (HA.out.grown (World.grownBy_alloc _ _ _)) HWE).mono ?_; rintro e w1 ⟨⟨wo, wc, rfl, hw⟩, hg1⟩
        have G1 := Lib.hid (grown_trans (World.grownBy_alloc w (.cells #[.string nm, .int .i64 sp, .int .i64 st, .slice so ss.length sc, .slice lo ls.length lc, .slice to_ ts.length tc] 36) none) hg1)
        have b3 : w1.cell? ⟨w.heap.size, 3, none⟩ = some (.slice so ss.length sc) := grown_cell hg1 (by simp)
        have HW := Lib.hid hw
        clear hg1 hw
        go_wp2_with fail
        refine (moutside_is n 2 300 _ HN1).mono ?_; rintro e w2 ⟨rfl, rfl⟩
        go_wp2_with fail
        go_ret2
        exact ⟨⟨none, 0, by rw [LN.out]; rfl, by rw [LN.out]; exact ⟨fun _ => rfl, fun _ _ h => absurd rfl h, fun _ _ _ h => absurd h (Nat.not_lt_zero _)⟩⟩, G1.out⟩
      · rw [if_neg h2] at hv
        subst hv
        have hok := chk_ok (hce.trans h0)
        have hl : (a.ss.length : Int) ≤ 20000 := hok.sl
        have HS := Lib.hid (sok_of hok)
        have HPL := Lib.hid hok.plane
        obtain ⟨N, hN⟩ : ∃ N : Nat, n = N := ⟨n.toNat, by omega⟩
        subst hN
        have LN : Hid (spcL a (N : Int) = spL a.ss N N) := by show _ = _; unfold spcL; rw [if_pos hE.out]; rfl
        obtain ⟨nm, sp, st, so, sc, ss, lo, lc, ls, to_, tc, ts⟩ := a
        simp only [Act.val] at *
        obtain ⟨b, off, hso, qs⟩ := smps_at1 ha.hs (by show 0 < ss.length; omega)
        subst hso
        have QS := Lib.hid qs
        have HN1 : Hid (decide ((N : Int) < 2 ∨ 300 < (N : Int)) = false) := decide_eq_false (by omega)
        have z2 : ((ss.length : Int) == 0) = false := beq_eq_false_iff_ne.2 (by omega)
        have rl : IntKind.i64.wrap ((ss.length : Int) - 1) = (ss.length : Int) - 1 := IntWalk.i64_in _ (by omega)
        obtain ⟨m, hm⟩ : ∃ m, ss.length - 1 = m := ⟨_, rfl⟩
        have em : (ss.length : Int) - 1 = (m : Int) := by omega
        have HM := Lib.hid hm
        have rm : IntKind.i64.wrap (m : Int) = (m : Int) := IntWalk.i64_in _ (by omega)
        have m0 : (m : Int) < (ss.length : Int) := by omega
        have HLM : Hid (m < ss.length) := by show _ < _; omega
        obtain ⟨L, hL⟩ : ∃ L, wayN ss m = L := ⟨_, rfl⟩
        have HL := Lib.hid hL
        have HLB : Hid (0 ≤ L ∧ L ≤ 6000000000000) := by
          have := wayN_bd HPL.out m
          rw [hL] at this
          show _ ∧ _
          omega
        have rn1 : IntKind.i64.wrap ((N : Int) - 1) = (N : Int) - 1 := IntWalk.i64_in _ (by omega)
        have zn1 : (((N : Int) - 1) == 0) = false := beq_eq_false_iff_ne.2 (by omega)
        have zn2 : ¬ ((N : Int) - 1 = 0) := by omega
        have HNB : Hid (2 ≤ N ∧ N ≤ 300) := by show _ ∧ _; omega
        have HLL : Hid ((ss.length : Int) ≤ 20000) := hl
        subst h0
        have h0 := trivial
        obtain ⟨i0, hi, hz0, hz1, hz2⟩ := info_parts info_pt
        have HI0 := Lib.hid hi; have HZ0 := Lib.hid hz0; have HZ1 := Lib.hid hz1; have HZ2 := Lib.hid hz2
        clear hE ha hce LN0 h1 h2 hok hm hL hi hz0 hz1 hz2 qs hl
        have HWE : Hid (waysE ⟨nm, sp, st, some ⟨b, off, none⟩, sc, ss, lo, lc, ls, to_, tc, ts⟩ = (ss.length, 0)) := by show waysE _ = _; unfold waysE; rw [if_pos HCE.out]
        clear h0
        go_enter Try.func28, Try.ntmps28
        go_wp2_with fail
        refine (rways_any ⟨nm, sp, st, some ⟨b, off, none⟩, sc, ss, lo, lc, ls, to_, tc, ts⟩ _ (HA.out.grown (World.grownBy_alloc _ _ _)) HWE).mono ?_; rintro e w1 ⟨⟨wo, wc, rfl, hw⟩, hg1⟩
        have G1 := Lib.hid (grown_trans (World.grownBy_alloc w (.cells #[.string nm, .int .i64 sp, .int .i64 st, .slice (some ⟨b, off, none⟩) ss.length sc, .slice lo ls.length lc, .slice to_ ts.length tc] 36) none) hg1)
        have b3 : w1.cell? ⟨w.heap.size, 3, none⟩ = some (.slice (some ⟨b, off, none⟩) ss.length sc) := grown_cell hg1 (by simp)
        have HW := Lib.hid hw
        clear hg1 hw
        go_wp2_with fail
        refine (moutside_is (N : Int) 2 300 _ HN1).mono ?_; rintro e w2 ⟨rfl, rfl⟩
        obtain ⟨gw, hgw, cw⟩ := HW.out m HLM.out
        subst hgw
        rw [HL.out] at cw
        go_wp2_with fail
        go_loopw [8, 9, 10] (fun lv iv kv wr => ∃ (k i : Nat) (v : Value), v = lv ∧ iv = .int .i64 i ∧ kv = .int .i64 k ∧ Hid (k ≤ N) ∧ Hid (i ≤ ixW ss (spD ss N k)) ∧ Hid (wr.ownsRow w1.heap.size 64 2 lv k ((spL ss N k).flatMap ptCs)) ∧ Hid (w1.grownBy wr none)) (fun _ _ kv _ => N - (intOf kv).toNat)
        case atStart => exact ⟨0, 0, _, rfl, rfl, rfl, Nat.zero_le _, Nat.zero_le _, World.ownsRow_nil _ _ _ _, grown_refl _ _⟩
        case round =>
          obtain ⟨k, i, v, rfl, rfl, rfl, hk, hik, ho, hg⟩ := hrel
          obtain ⟨wq, rfl⟩ : ∃ W : World, W = wr := ⟨_, rfl⟩
          have hk' := hk.out
          by_cases hlt : k < N
          · have hlt' : (k : Int) < (N : Int) := by omega
            obtain ⟨d0, d1⟩ := spD_bd (n := N) (k := k) HPL.out HNB.out.1 hlt
            have hup := ixW_up HPL.out (spD_up (n := N) (k := k) HPL.out HNB.out.1)
            obtain ⟨d, hd⟩ : ∃ d, spD ss N k = d := ⟨_, rfl⟩
            rw [hd] at d0 d1 hup hik
            have hq : L * (k : Int) / ((N : Int) - 1) = d := by rw [← hd]; unfold spD; rw [HM.out, HL.out]
            have qb : 0 ≤ L * (k : Int) ∧ L * (k : Int) ≤ 6000000000000 * 300 := by
              have hb := HLB.out; have hn := HNB.out
              refine ⟨Int.mul_nonneg hb.1 (by omega), ?_⟩
              have q1 : L * (k : Int) ≤ 6000000000000 * (k : Int) := Int.mul_le_mul_of_nonneg_right hb.2 (by omega)
              omega
            obtain ⟨M, hM⟩ : ∃ M, L * (k : Int) = M := ⟨_, rfl⟩
            have hqt : M.tdiv ((N : Int) - 1) = d := by rw [Int.tdiv_eq_ediv_of_nonneg (by omega), ← hM]; exact hq
            have rM : IntKind.i64.wrap (L * (k : Int)) = M := by rw [hM]; exact IntWalk.i64_in _ (by omega)
            have hdl : d ≤ 6000000000000 := by have := HLB.out; have q := d1; rw [HM.out, HL.out] at q; omega
            have rd : IntKind.i64.wrap d = d := IntWalk.i64_in _ (by omega)
            obtain ⟨P, hP⟩ : ∃ P, plV ss d = P := ⟨_, rfl⟩
            obtain ⟨px, py⟩ := P
            have HNX : Hid ((spL ss N (k + 1)).flatMap ptCs = (spL ss N k).flatMap ptCs ++ [.int .i64 px, .int .i64 py]) := by
              show _ = _; rw [spL_succ, hd, hP, List.flatMap_append]; rfl
            have hl0 : 0 < ss.length := by have := HLM.out; omega
            obtain ⟨il, ile⟩ := ixW_lt HPL.out hl0 d1
            have ipos := ixW_pos HPL.out hl0 d0 d1
            have HIX := Lib.hid (ixW_is HPL.out d).2
            have HKN := Lib.hid hlt
            have rk1 : IntKind.i64.wrap ((k : Int) + 1) = (k : Int) + 1 := IntWalk.i64_in _ (by have := HNB.out; omega)
            have HO := Lib.hid ho.out; have HG := Lib.hid hg.out
            have GW := Lib.hid (grown_trans G1.out hg.out)
            have c3 := grown_cell hg.out b3
            have cm := grown_cell hg.out cw
            have CW := Lib.hid (HW.out.grown hg.out)
            have HUP := Lib.hid hup
            obtain ⟨p0, p1, p2, p3, p4, p5, p6⟩ := QS.out (ixW ss d) il
            rw [← smpD_at il] at p0 p1 p2 p3 p4 p5 p6
            have WB := wayN_bd HPL.out (ixW ss d)
            have iLt : (ixW ss d : Int) < (ss.length : Int) := by omega
            obtain ⟨g', e', cI⟩ := CW.out _ il
            injection e' with e'; injection e' with e1 _ _; subst e1
            have PQ0 := HS.out.inn _ il
            have HDB : Hid (0 ≤ d ∧ d ≤ 6000000000000) := ⟨d0, hdl⟩
            unfold plV at hP
            by_cases hf : wayN ss (ixW ss d) = d
            · rw [if_pos hf] at hP
              rw [hf] at cI
              have NLT : Hid (¬ d < d) := Int.lt_irrefl d
              have LEI : Hid (d ≤ d) := Int.le_refl d
              clear hq qb hd hdl d0 d1 hlt ho hg hk hk' hM hup WB ipos PQ0 ile
              generalize hIx : ixW ss d = I at *
              have HIL := Lib.hid il; have HIK := Lib.hid hik.out
              generalize smpD ss I = Q at *
              obtain ⟨qt, qx, qy, qz, qp, qq, qs⟩ := Q
              unfold smpPt at hP
              injection hP with hv1 hv2
              simp only at hv1 hv2 p0 p1 p2 p3 p4 p5 p6
              subst hv1; subst hv2
              clear il hik hf hIx
              go_wp2_with fail
              go_loopw [9] (fun iv wr => ∃ j : Nat, iv = .int .i64 j ∧ Hid (j ≤ I) ∧ wq = wr) (fun iv _ => I - (intOf iv).toNat)
              case atStart => exact ⟨i, rfl, HIK.out, rfl⟩
              case round =>
                obtain ⟨j, rfl, hj, rfl⟩ := hrel
                have hj' := hj.out
                by_cases hjI : j < I
                · have jl2 : j < ss.length := by have := HIL.out; omega
                  have jl : (j : Int) < (ss.length : Int) := by omega
                  obtain ⟨g', e', cj⟩ := CW.out j jl2
                  injection e' with e'; injection e' with e1 _ _; subst e1
                  have lt := (HIX.out j jl2).2 hjI
                  obtain ⟨x, hx⟩ : ∃ x, wayN ss j = x := ⟨_, rfl⟩
                  rw [hx] at cj lt
                  have lt2 : decide (x < d) = true := decide_eq_true lt
                  have rj1 : IntKind.i64.wrap ((j : Int) + 1) = (j : Int) + 1 := IntWalk.i64_in _ (by have := HLL.out; omega)
                  have HJI := Lib.hid hjI
                  clear hx hj hj' hjI jl2 p0 p1 p2 p3 p4 p5 p6 cI
                  go_wp2_with fail
                  go_roundw
                  case rel => exact ⟨j + 1, by go_num, HJI.out, by trivial⟩
                  case measure => have := HJI.out; simp [intOf]; omega
                · obtain rfl : I = j := by omega
                  clear hj hj' hjI
                  have nlt := LEI.out
                  have nlt2 : decide (d < d) = false := decide_eq_false (Int.not_lt.2 nlt)
                  have q0 := grown_cell GW.out p0
                  have q1 := grown_cell GW.out p1
                  have q2 := grown_cell GW.out p2
                  have q3 := grown_cell GW.out p3
                  have q4 := grown_cell GW.out p4
                  have q5 := grown_cell GW.out p5
                  have q6 := grown_cell GW.out p6
                  clear p0 p1 p2 p3 p4 p5 p6
                  go_wp2_with fail
                  refine (point_is ⟨qt, qx, qy, qz, qp, qq, qs⟩ _).mono ?_; rintro e w2 ⟨rfl, hg2⟩
                  clear q0 q1 q2 q3 q4 q5 q6 nlt nlt2
                  go_upto_region 17 with (fail)
                  have G3 := Lib.hid (grown_trans hg2 (World.grownBy_alloc w2 (.cells #[.int .i64 qx, .int .i64 qy] 64) none))
                  have BX := Lib.hid (mheap_new w2 (.cells #[.int .i64 qx, .int .i64 qy] 64))
                  have LX : Hid (wq.heap.size ≤ w2.heap.size) := hg2.size
                  generalize w2.alloc (.cells #[.int .i64 qx, .int .i64 qy] 64) = w3 at *
                  generalize w2.heap.size = X at *
                  clear hg2
                  have cI3 := grown_cell G3.out cI
                  have gtf : decide (d < d) = false := decide_eq_false (Int.lt_irrefl d)
                  have x0 := mblock_cell BX.out 0 _ rfl; have x1 := mblock_cell BX.out 1 _ rfl
                  have O6 := Lib.hid (HO.out.kept G3.out (by cases v.ownBlock <;> simp))
                  have G6 := Lib.hid (grown_trans HG.out G3.out)
                  go_wp2_with (at_builtin; (refine wpList_append_own _ rfl _ _ 57 rfl w1.heap.size 64 i0 (.agg #[.int .i64 0, .int .i64 0]) 2 16 Try.underlying57 HI0.out HZ0.out HZ1.out HZ2.out rfl (by decide) _ _ _ rfl (O6.out.alloc _) ⟨w3.heap.size, 0, none⟩ 1 1 [.int .i64 qx, .int .i64 qy] rfl rfl (World.news_of_block (cs := #[.int .i64 qx, .int .i64 qy]) (t := 64) (fr := (0, 0)) (heap_alloc_new w3 _)) (by simp [Value.oneCell']) (by have := HNB.out; have := HKN.out; unfold maxLen; omega) (by have := HNB.out; have := HKN.out; omega) (Nat.le_trans G6.out.size (World.grownBy_alloc w3 _ none).size) ?_); intro v' w10 ho10 hg10 hnil; have O7 := Lib.hid ho10; have G7 := Lib.hid (mgrown_own G6.out hg10 (fun r hr => (O6.out.lt r hr).1)); clear ho10 hg10 hnil)
                  go_roundw
                  case rel => exact ⟨k + 1, I, _, rfl, rfl, by go_num, HKN.out, HUP.out, by rw [HNX.out]; exact O7.out, G7.out⟩
                  case measure => have := HKN.out; simp [intOf]; omega
            · rw [if_neg hf] at hP
              obtain ⟨i1, i2⟩ := ipos hf
              have im : ixW ss d - 1 < ss.length := by omega
              obtain ⟨u0, u1, u2, u3, u4, u5, u6⟩ := QS.out (ixW ss d - 1) im
              rw [← smpD_at im] at u0 u1 u2 u3 u4 u5 u6
              have PQ1 := HS.out.inn _ im
              have WB1 := wayN_bd HPL.out (ixW ss d - 1)
              have WS : wayN ss (ixW ss d) - wayN ss (ixW ss d - 1) ≤ 300000000 := by
                have q := (stepW_bd (smpD_plane HPL.out (ixW ss d - 1)) (smpD_plane HPL.out (ixW ss d - 1 + 1))).2
                have e : wayN ss (ixW ss d) = wayN ss (ixW ss d - 1) + stepW (smpD ss (ixW ss d - 1)) (smpD ss (ixW ss d - 1 + 1)) := by
                  have : ixW ss d = ixW ss d - 1 + 1 := by omega
                  conv => lhs; rw [this]
                  rfl
                omega
              obtain ⟨g', e', cM⟩ := CW.out _ im
              injection e' with e'; injection e' with e1 _ _; subst e1
              obtain ⟨r, hr⟩ : ∃ r, ixW ss d - 1 = r := ⟨_, rfl⟩
              have er : (ixW ss d : Int) - 1 = (r : Int) := by omega
              have rr : IntKind.i64.wrap (r : Int) = (r : Int) := IntWalk.i64_in _ (by have := HLL.out; omega)
              have r0 : (r : Int) < (ss.length : Int) := by omega
              simp only [hr] at hP i2 u0 u1 u2 u3 u4 u5 u6 PQ1 WB1 WS cM
              obtain ⟨wi, hwi⟩ : ∃ x, wayN ss (ixW ss d) = x := ⟨_, rfl⟩
              obtain ⟨wm, hwm⟩ : ∃ x, wayN ss r = x := ⟨_, rfl⟩
              simp only [hwi, hwm] at hP i2 ile WB WB1 WS cI cM hf
              obtain ⟨part, hpart⟩ : ∃ x, d - wm = x := ⟨_, rfl⟩
              obtain ⟨whole, hwhole⟩ : ∃ x, wi - wm = x := ⟨_, rfl⟩
              rw [hpart, hwhole] at hP
              have PWH : Hid (0 ≤ part ∧ part ≤ whole ∧ 1 ≤ whole ∧ whole ≤ 300000000) := by show _ ∧ _; omega
              have rp : IntKind.i64.wrap (d - wm) = part := by rw [hpart]; exact IntWalk.i64_in _ (by have := PWH.out; omega)
              have rw_ : IntKind.i64.wrap (wi - wm) = whole := by rw [hwhole]; exact IntWalk.i64_in _ (by have := PWH.out; omega)
              have B0 : Hid (inPlane (smpD ss r)) := PQ1.2.2.1
              have B1 : Hid (inPlane (smpD ss (ixW ss d))) := PQ0.2.2.1
              have NLT : Hid (¬ wi < d) := by show ¬ _; omega
              have LEI : Hid (d ≤ wi) := ile
              have gti : d < wi := by omega
              have gtd : decide (d < wi) = true := decide_eq_true gti
              clear hq qb hd hdl d0 d1 hlt ho hg hk hk' hM hup WB ipos PQ0 ile PQ1 WB1 WS i2 hpart hwhole hr i1 im
              generalize hIx : ixW ss d = I at *
              have HIL := Lib.hid il; have HIK := Lib.hid hik.out
              generalize smpD ss I = Q at *
              generalize smpD ss r = O at *
              obtain ⟨qt, qx, qy, qz, qp, qq, qs⟩ := Q
              obtain ⟨pt, ox, oy, pz, pp, pq, ps⟩ := O
              replace B0 : Hid ((-100000000 ≤ ox ∧ ox ≤ 100000000) ∧ (-100000000 ≤ oy ∧ oy ≤ 100000000)) := B0
              replace B1 : Hid ((-100000000 ≤ qx ∧ qx ≤ 100000000) ∧ (-100000000 ≤ qy ∧ qy ≤ 100000000)) := B1
              simp only at p0 p1 p2 p3 p4 p5 p6 u0 u1 u2 u3 u4 u5 u6 hP
              injection hP with hv1 hv2
              unfold mbtw at hv1 hv2
              obtain ⟨n1, n2⟩ := scale_nearM (a := qx - ox) (num := part) (den := whole) (by have := B0.out; have := B1.out; omega) (by have := B0.out; have := B1.out; omega) PWH.out.1 PWH.out.2.1 PWH.out.2.2.1
              obtain ⟨n3, n4⟩ := scale_nearM (a := qy - oy) (num := part) (den := whole) (by have := B0.out; have := B1.out; omega) (by have := B0.out; have := B1.out; omega) PWH.out.1 PWH.out.2.1 PWH.out.2.2.1
              obtain ⟨dx, hdx⟩ : ∃ x, qx - ox = x := ⟨_, rfl⟩
              obtain ⟨dy, hdy⟩ : ∃ x, qy - oy = x := ⟨_, rfl⟩
              have rdx : IntKind.i64.wrap (qx - ox) = dx := by rw [hdx]; exact IntWalk.i64_in _ (by have := B0.out; have := B1.out; omega)
              have rdy : IntKind.i64.wrap (qy - oy) = dy := by rw [hdy]; exact IntWalk.i64_in _ (by have := B0.out; have := B1.out; omega)
              have DB : Hid ((-200000000 ≤ dx ∧ dx ≤ 200000000) ∧ (-200000000 ≤ dy ∧ dy ≤ 200000000)) := by have := B0.out; have := B1.out; show _ ∧ _; omega
              rw [hdx] at hv1 n1 n2
              rw [hdy] at hv2 n3 n4
              obtain ⟨s1, hs1⟩ : ∃ s, (scaleV dx part whole 4).1 = s := ⟨_, rfl⟩
              obtain ⟨t1, ht1⟩ : ∃ s, (scaleV dx part whole 4).2 = s := ⟨_, rfl⟩
              obtain ⟨s2, hs2⟩ : ∃ s, (scaleV dy part whole 4).1 = s := ⟨_, rfl⟩
              obtain ⟨t2, ht2⟩ : ∃ s, (scaleV dy part whole 4).2 = s := ⟨_, rfl⟩
              rw [hs1] at hv1 n1 n2
              rw [hs2] at hv2 n3 n4
              have rpx : IntKind.i64.wrap (ox + s1) = px := by rw [hv1]; exact IntWalk.i64_in _ (by have := B0.out; omega)
              have rpy : IntKind.i64.wrap (oy + s2) = py := by rw [hv2]; exact IntWalk.i64_in _ (by have := B0.out; omega)
              have HS1 := Lib.hid hs1; have HT1 := Lib.hid ht1; have HS2 := Lib.hid hs2; have HT2 := Lib.hid ht2
              have W0 := Lib.hid u0
              clear il hik hf hIx hv1 hv2 n1 n2 n3 n4 hdx hdy hs1 ht1 hs2 ht2 W0
              go_wp2_with fail
              go_loopw [9] (fun iv wr => ∃ j : Nat, iv = .int .i64 j ∧ Hid (j ≤ I) ∧ wq = wr) (fun iv _ => I - (intOf iv).toNat)
              case atStart => exact ⟨i, rfl, HIK.out, rfl⟩
              case round =>
                obtain ⟨j, rfl, hj, rfl⟩ := hrel
                have hj' := hj.out
                by_cases hjI : j < I
                · have jl2 : j < ss.length := by have := HIL.out; omega
                  have jl : (j : Int) < (ss.length : Int) := by omega
                  obtain ⟨g', e', cj⟩ := CW.out j jl2
                  injection e' with e'; injection e' with e1 _ _; subst e1
                  have lt := (HIX.out j jl2).2 hjI
                  obtain ⟨x, hx⟩ : ∃ x, wayN ss j = x := ⟨_, rfl⟩
                  rw [hx] at cj lt
                  have lt2 : decide (x < d) = true := decide_eq_true lt
                  have rj1 : IntKind.i64.wrap ((j : Int) + 1) = (j : Int) + 1 := IntWalk.i64_in _ (by have := HLL.out; omega)
                  have HJI := Lib.hid hjI
                  clear hx hj hj' hjI jl2 p0 p1 p2 p3 p4 p5 p6 cI
                  go_wp2_with fail
                  go_roundw
                  case rel => exact ⟨j + 1, by go_num, HJI.out, by trivial⟩
                  case measure => have := HJI.out; simp [intOf]; omega
                · obtain rfl : I = j := by omega
                  clear hj hj' hjI
                  have nlt := LEI.out
                  have nlt2 : decide (wi < d) = false := decide_eq_false (Int.not_lt.2 nlt)
                  have q0 := grown_cell GW.out p0
                  have q1 := grown_cell GW.out p1
                  have q2 := grown_cell GW.out p2
                  have q3 := grown_cell GW.out p3
                  have q4 := grown_cell GW.out p4
                  have q5 := grown_cell GW.out p5
                  have q6 := grown_cell GW.out p6
                  clear p0 p1 p2 p3 p4 p5 p6
                  go_wp2_with fail
                  refine (point_is ⟨qt, qx, qy, qz, qp, qq, qs⟩ _).mono ?_; rintro e w2 ⟨rfl, hg2⟩
                  clear q0 q1 q2 q3 q4 q5 q6 nlt nlt2
                  go_upto_region 17 with (fail)
                  have G3 := Lib.hid (grown_trans hg2 (World.grownBy_alloc w2 (.cells #[.int .i64 qx, .int .i64 qy] 64) none))
                  have BX := Lib.hid (mheap_new w2 (.cells #[.int .i64 qx, .int .i64 qy] 64))
                  have LX : Hid (wq.heap.size ≤ w2.heap.size) := hg2.size
                  generalize w2.alloc (.cells #[.int .i64 qx, .int .i64 qy] 64) = w3 at *
                  generalize w2.heap.size = X at *
                  clear hg2
                  have cI3 := grown_cell G3.out cI
                  have x0 := mblock_cell BX.out 0 _ rfl; have x1 := mblock_cell BX.out 1 _ rfl
                  go_upto_region 19 with (fail)
                  have G4 := Lib.hid (grown_trans G3.out (World.grownBy_alloc w3 (.cells #[.int .i64 qx, .int .i64 qy] 64) none))
                  have BX4 := Lib.hid (mblock_at BX.out (World.grownBy_alloc w3 (.cells #[.int .i64 qx, .int .i64 qy] 64) none) (by simp))
                  have BY4 := Lib.hid (mheap_new w3 (.cells #[.int .i64 qx, .int .i64 qy] 64))
                  have NXY : Hid (w3.heap.size ≠ X) := by have := lt_of_block BX.out; show _ ≠ _; omega
                  clear x0 x1 cI3 BX
                  generalize w3.alloc (.cells #[.int .i64 qx, .int .i64 qy] 64) = w4 at *
                  generalize w3.heap.size = Y at *
                  have c34 := grown_cell G4.out c3
                  have o0 := grown_cell (grown_trans GW.out G4.out) u0
                  have o1 := grown_cell (grown_trans GW.out G4.out) u1
                  have o2 := grown_cell (grown_trans GW.out G4.out) u2
                  have o3 := grown_cell (grown_trans GW.out G4.out) u3
                  have o4 := grown_cell (grown_trans GW.out G4.out) u4
                  have o5 := grown_cell (grown_trans GW.out G4.out) u5
                  have o6 := grown_cell (grown_trans GW.out G4.out) u6
                  go_wp2_with fail
                  refine (point_is ⟨pt, ox, oy, pz, pp, pq, ps⟩ _).mono ?_; rintro e w5 ⟨rfl, hg5⟩
                  have G5 := Lib.hid (grown_trans G4.out hg5)
                  have BX5 := Lib.hid (mblock_at BX4.out hg5 (by simp)); have BY5 := Lib.hid (mblock_at BY4.out hg5 (by simp))
                  have z0 := mblock_cell BX5.out 0 _ rfl; have z1 := mblock_cell BX5.out 1 _ rfl
                  have f0 := mblock_free (k := 0) BX5.out; have f1 := mblock_free (k := 1) BX5.out
                  clear o0 o1 o2 o3 o4 o5 o6 hg5 BX4 BY4 G4 c34
                  go_upto_region 20 with (fail)
                  have BX6 := Lib.hid (mblock_set (k := 1) (mblock_set (k := 0) BX5.out (.int .i64 ox)) (.int .i64 oy))
                  have BY6 := Lib.hid (mblock_far (mblock_far BY5.out NXY.out 0 (.int .i64 ox)) NXY.out 1 (.int .i64 oy))
                  have GG6 := Lib.hid (mgrown_set (mgrown_set G5.out LX.out 0 (.int .i64 ox)) LX.out 1 (.int .i64 oy))
                  generalize (w5.setCell ⟨X, 0, none⟩ (.int .i64 ox)).setCell ⟨X, 1, none⟩ (.int .i64 oy) = w6 at *
                  clear z0 z1 f0 f1 BX5 BY5 G5
                  have y0 := mblock_cell BY6.out 0 (.int .i64 qx) rfl; have x0 := mblock_cell BX6.out 0 (.int .i64 ox) rfl
                  have k1 := grown_cell GG6.out cI; have k2 := grown_cell GG6.out cM
                  have gd : w6.grownBy w6.drew none := grown_drewN w6 none 1
                  refine region_late (lateK (fun V => w6.grownBy V none) []) (by kernel_rfl) gd (fun hCe0 hSe0 => ?_)
                  have gd := Lib.hid gd
                  generalize w6.drew = wd at *
                  refine wpAnyS_take (i := 0) (oi := ?oie1) (v := .pointer (some ⟨Y, 0, none⟩)) ?hie1 (by kernel_rfl) (by kernel_rfl) (by kernel_rfl) (lateK_iff (by rfl)) ?hqe1 ?hye1 hCe0 hSe0 ?reste1
                  case hie1 => simp only [List.getElem?_toArray, List.getElem?_cons_succ, List.getElem?_cons_zero, Option.some.injEq]; rfl
                  case hqe1 => exact fun _ _ _ h => h
                  case hye1 =>
                    refine Or.inl ⟨by kernel_rfl, fun V hV => ?_⟩
                    clear hV
                    go_simp
                  intro hCe1 hSe1
                  clear hCe0 hSe0
                  try simp only [Go.Act.put, List.setIfInBounds_toArray, List.set_cons_zero, List.set_cons_succ]
                  refine wpAnyS_take (i := 1) (oi := ?oie2) (v := .int .i64 qx) ?hie2 (by kernel_rfl) (by kernel_rfl) (by kernel_rfl) (lateK_iff (by rfl)) ?hqe2 ?hye2 hCe1 hSe1 ?reste2
                  case hie2 => simp only [List.getElem?_toArray, List.getElem?_cons_succ, List.getElem?_cons_zero, Option.some.injEq]; rfl
                  case hqe2 => exact fun _ _ _ h => h
                  case hye2 =>
                    refine Or.inl ⟨by kernel_rfl, fun V hV => ?_⟩
                    have gV := lateK_g hV; have zzy0 := grown_cell gV y0; clear gV; clear hV
                    go_simp
                  intro hCe2 hSe2
                  clear hCe1 hSe1
                  try simp only [Go.Act.put, List.setIfInBounds_toArray, List.set_cons_zero, List.set_cons_succ]
                  refine wpAnyS_take (i := 2) (oi := ?oie3) (v := .pointer (some ⟨X, 0, none⟩)) ?hie3 (by kernel_rfl) (by kernel_rfl) (by kernel_rfl) (lateK_iff (by rfl)) ?hqe3 ?hye3 hCe2 hSe2 ?reste3
                  case hie3 => simp only [List.getElem?_toArray, List.getElem?_cons_succ, List.getElem?_cons_zero, Option.some.injEq]; rfl
                  case hqe3 => exact fun _ _ _ h => h
                  case hye3 =>
                    refine Or.inl ⟨by kernel_rfl, fun V hV => ?_⟩
                    clear hV
                    go_simp
                  intro hCe3 hSe3
                  clear hCe2 hSe2
                  try simp only [Go.Act.put, List.setIfInBounds_toArray, List.set_cons_zero, List.set_cons_succ]
                  refine wpAnyS_take (i := 3) (oi := ?oie4) (v := .int .i64 ox) ?hie4 (by kernel_rfl) (by kernel_rfl) (by kernel_rfl) (lateK_iff (by rfl)) ?hqe4 ?hye4 hCe3 hSe3 ?reste4
                  case hie4 => simp only [List.getElem?_toArray, List.getElem?_cons_succ, List.getElem?_cons_zero, Option.some.injEq]; rfl
                  case hqe4 => exact fun _ _ _ h => h
                  case hye4 =>
                    refine Or.inl ⟨by kernel_rfl, fun V hV => ?_⟩
                    have gV := lateK_g hV; have zzx0 := grown_cell gV x0; clear gV; clear hV
                    go_simp
                  intro hCe4 hSe4
                  clear hCe3 hSe3
                  try simp only [Go.Act.put, List.setIfInBounds_toArray, List.set_cons_zero, List.set_cons_succ]
                  refine wpAnyS_take (i := 4) (oi := ?oie5) (v := .int .i64 dx) ?hie5 (by kernel_rfl) (by kernel_rfl) (by kernel_rfl) (lateK_iff (by rfl)) ?hqe5 ?hye5 hCe4 hSe4 ?reste5
                  case hie5 => simp only [List.getElem?_toArray, List.getElem?_cons_succ, List.getElem?_cons_zero, Option.some.injEq]; rfl
                  case hqe5 => exact fun _ _ _ h => h
                  case hye5 =>
                    refine Or.inl ⟨by kernel_rfl, fun V hV => ?_⟩
                    clear hV
                    go_simp
                  intro hCe5 hSe5
                  clear hCe4 hSe4
                  try simp only [Go.Act.put, List.setIfInBounds_toArray, List.set_cons_zero, List.set_cons_succ]
                  refine wpAnyS_take (i := 5) (oi := ?oie6) (v := .int .i64 d) ?hie6 (by kernel_rfl) (by kernel_rfl) (by kernel_rfl) (lateK_iff (by rfl)) ?hqe6 ?hye6 hCe5 hSe5 ?reste6
                  case hie6 => simp only [List.getElem?_toArray, List.getElem?_cons_succ, List.getElem?_cons_zero, Option.some.injEq]; rfl
                  case hqe6 => exact fun _ _ _ h => h
                  case hye6 =>
                    refine Or.inl ⟨by kernel_rfl, fun V hV => ?_⟩
                    clear hV
                    go_simp
                  intro hCe6 hSe6
                  clear hCe5 hSe5
                  try simp only [Go.Act.put, List.setIfInBounds_toArray, List.set_cons_zero, List.set_cons_succ]
                  refine wpAnyS_take (i := 6) (oi := ?oie7) (v := .slice (some ⟨gw, 0, none⟩) ss.length wc) ?hie7 (by kernel_rfl) (by kernel_rfl) (by kernel_rfl) (lateK_iff (by rfl)) ?hqe7 ?hye7 hCe6 hSe6 ?reste7
                  case hie7 => simp only [List.getElem?_toArray, List.getElem?_cons_succ, List.getElem?_cons_zero, Option.some.injEq]; rfl
                  case hqe7 => exact fun _ _ _ h => h
                  case hye7 =>
                    refine Or.inl ⟨by kernel_rfl, fun V hV => ?_⟩
                    clear hV
                    go_simp
                  intro hCe7 hSe7
                  clear hCe6 hSe6
                  try simp only [Go.Act.put, List.setIfInBounds_toArray, List.set_cons_zero, List.set_cons_succ]
                  refine wpAnyS_take (i := 7) (oi := ?oie8) (v := .int .i64 (I : Int)) ?hie8 (by kernel_rfl) (by kernel_rfl) (by kernel_rfl) (lateK_iff (by rfl)) ?hqe8 ?hye8 hCe7 hSe7 ?reste8
                  case hie8 => simp only [List.getElem?_toArray, List.getElem?_cons_succ, List.getElem?_cons_zero, Option.some.injEq]; rfl
                  case hqe8 => exact fun _ _ _ h => h
                  case hye8 =>
                    refine Or.inl ⟨by kernel_rfl, fun V hV => ?_⟩
                    clear hV
                    go_simp
                  intro hCe8 hSe8
                  clear hCe7 hSe7
                  try simp only [Go.Act.put, List.setIfInBounds_toArray, List.set_cons_zero, List.set_cons_succ]
                  refine wpAnyS_take (i := 8) (oi := ?oie9) (v := .int .i64 (r : Int)) ?hie9 (by kernel_rfl) (by kernel_rfl) (by kernel_rfl) (lateK_iff (by rfl)) ?hqe9 ?hye9 hCe8 hSe8 ?reste9
                  case hie9 => simp only [List.getElem?_toArray, List.getElem?_cons_succ, List.getElem?_cons_zero, Option.some.injEq]; rfl
                  case hqe9 => exact fun _ _ _ h => h
                  case hye9 =>
                    refine Or.inl ⟨by kernel_rfl, fun V hV => ?_⟩
                    clear hV
                    go_simp
                  intro hCe9 hSe9
                  clear hCe8 hSe8
                  try simp only [Go.Act.put, List.setIfInBounds_toArray, List.set_cons_zero, List.set_cons_succ]
                  refine wpAnyS_take (i := 9) (oi := ?oie10) (v := .pointer (some ⟨gw, r, none⟩)) ?hie10 (by kernel_rfl) (by kernel_rfl) (by kernel_rfl) (lateK_iff (by rfl)) ?hqe10 ?hye10 hCe9 hSe9 ?reste10
                  case hie10 => simp only [List.getElem?_toArray, List.getElem?_cons_succ, List.getElem?_cons_zero, Option.some.injEq]; rfl
                  case hqe10 => exact fun _ _ _ h => h
                  case hye10 =>
                    refine Or.inl ⟨by kernel_rfl, fun V hV => ?_⟩
                    clear hV
                    go_simp
                  intro hCe10 hSe10
                  clear hCe9 hSe9
                  try simp only [Go.Act.put, List.setIfInBounds_toArray, List.set_cons_zero, List.set_cons_succ]
                  refine wpAnyS_take (i := 10) (oi := ?oie11) (v := .int .i64 wm) ?hie11 (by kernel_rfl) (by kernel_rfl) (by kernel_rfl) (lateK_iff (by rfl)) ?hqe11 ?hye11 hCe10 hSe10 ?reste11
                  case hie11 => simp only [List.getElem?_toArray, List.getElem?_cons_succ, List.getElem?_cons_zero, Option.some.injEq]; rfl
                  case hqe11 => exact fun _ _ _ h => h
                  case hye11 =>
                    refine Or.inl ⟨by kernel_rfl, fun V hV => ?_⟩
                    have gV := lateK_g hV; have zzk2 := grown_cell gV k2; clear gV; clear hV
                    go_simp
                  intro hCe11 hSe11
                  clear hCe10 hSe10
                  try simp only [Go.Act.put, List.setIfInBounds_toArray, List.set_cons_zero, List.set_cons_succ]
                  refine wpAnyS_take (i := 11) (oi := ?oie12) (v := .int .i64 part) ?hie12 (by kernel_rfl) (by kernel_rfl) (by kernel_rfl) (lateK_iff (by rfl)) ?hqe12 ?hye12 hCe11 hSe11 ?reste12
                  case hie12 => simp only [List.getElem?_toArray, List.getElem?_cons_succ, List.getElem?_cons_zero, Option.some.injEq]; rfl
                  case hqe12 => exact fun _ _ _ h => h
                  case hye12 =>
                    refine Or.inl ⟨by kernel_rfl, fun V hV => ?_⟩
                    clear hV
                    go_simp
                  intro hCe12 hSe12
                  clear hCe11 hSe11
                  try simp only [Go.Act.put, List.setIfInBounds_toArray, List.set_cons_zero, List.set_cons_succ]
                  refine wpAnyS_take (i := 12) (oi := ?oie13) (v := .slice (some ⟨gw, 0, none⟩) ss.length wc) ?hie13 (by kernel_rfl) (by kernel_rfl) (by kernel_rfl) (lateK_iff (by rfl)) ?hqe13 ?hye13 hCe12 hSe12 ?reste13
                  case hie13 => simp only [List.getElem?_toArray, List.getElem?_cons_succ, List.getElem?_cons_zero, Option.some.injEq]; rfl
                  case hqe13 => exact fun _ _ _ h => h
                  case hye13 =>
                    refine Or.inl ⟨by kernel_rfl, fun V hV => ?_⟩
                    clear hV
                    go_simp
                  intro hCe13 hSe13
                  clear hCe12 hSe12
                  try simp only [Go.Act.put, List.setIfInBounds_toArray, List.set_cons_zero, List.set_cons_succ]
                  refine wpAnyS_take (i := 13) (oi := ?oie14) (v := .int .i64 (I : Int)) ?hie14 (by kernel_rfl) (by kernel_rfl) (by kernel_rfl) (lateK_iff (by rfl)) ?hqe14 ?hye14 hCe13 hSe13 ?reste14
                  case hie14 => simp only [List.getElem?_toArray, List.getElem?_cons_succ, List.getElem?_cons_zero, Option.some.injEq]; rfl
                  case hqe14 => exact fun _ _ _ h => h
                  case hye14 =>
                    refine Or.inl ⟨by kernel_rfl, fun V hV => ?_⟩
                    clear hV
                    go_simp
                  intro hCe14 hSe14
                  clear hCe13 hSe13
                  try simp only [Go.Act.put, List.setIfInBounds_toArray, List.set_cons_zero, List.set_cons_succ]
                  refine wpAnyS_take (i := 14) (oi := ?oie15) (v := .pointer (some ⟨gw, I, none⟩)) ?hie15 (by kernel_rfl) (by kernel_rfl) (by kernel_rfl) (lateK_iff (by rfl)) ?hqe15 ?hye15 hCe14 hSe14 ?reste15
                  case hie15 => simp only [List.getElem?_toArray, List.getElem?_cons_succ, List.getElem?_cons_zero, Option.some.injEq]; rfl
                  case hqe15 => exact fun _ _ _ h => h
                  case hye15 =>
                    refine Or.inl ⟨by kernel_rfl, fun V hV => ?_⟩
                    clear hV
                    go_simp
                  intro hCe15 hSe15
                  clear hCe14 hSe14
                  try simp only [Go.Act.put, List.setIfInBounds_toArray, List.set_cons_zero, List.set_cons_succ]
                  refine wpAnyS_take (i := 15) (oi := ?oie16) (v := .int .i64 wi) ?hie16 (by kernel_rfl) (by kernel_rfl) (by kernel_rfl) (lateK_iff (by rfl)) ?hqe16 ?hye16 hCe15 hSe15 ?reste16
                  case hie16 => simp only [List.getElem?_toArray, List.getElem?_cons_succ, List.getElem?_cons_zero, Option.some.injEq]; rfl
                  case hqe16 => exact fun _ _ _ h => h
                  case hye16 =>
                    refine Or.inl ⟨by kernel_rfl, fun V hV => ?_⟩
                    have gV := lateK_g hV; have zzk1 := grown_cell gV k1; clear gV; clear hV
                    go_simp
                  intro hCe16 hSe16
                  clear hCe15 hSe15
                  try simp only [Go.Act.put, List.setIfInBounds_toArray, List.set_cons_zero, List.set_cons_succ]
                  refine wpAnyS_take (i := 16) (oi := ?oie17) (v := .slice (some ⟨gw, 0, none⟩) ss.length wc) ?hie17 (by kernel_rfl) (by kernel_rfl) (by kernel_rfl) (lateK_iff (by rfl)) ?hqe17 ?hye17 hCe16 hSe16 ?reste17
                  case hie17 => simp only [List.getElem?_toArray, List.getElem?_cons_succ, List.getElem?_cons_zero, Option.some.injEq]; rfl
                  case hqe17 => exact fun _ _ _ h => h
                  case hye17 =>
                    refine Or.inl ⟨by kernel_rfl, fun V hV => ?_⟩
                    clear hV
                    go_simp
                  intro hCe17 hSe17
                  clear hCe16 hSe16
                  try simp only [Go.Act.put, List.setIfInBounds_toArray, List.set_cons_zero, List.set_cons_succ]
                  refine wpAnyS_take (i := 17) (oi := ?oie18) (v := .int .i64 (I : Int)) ?hie18 (by kernel_rfl) (by kernel_rfl) (by kernel_rfl) (lateK_iff (by rfl)) ?hqe18 ?hye18 hCe17 hSe17 ?reste18
                  case hie18 => simp only [List.getElem?_toArray, List.getElem?_cons_succ, List.getElem?_cons_zero, Option.some.injEq]; rfl
                  case hqe18 => exact fun _ _ _ h => h
                  case hye18 =>
                    refine Or.inl ⟨by kernel_rfl, fun V hV => ?_⟩
                    clear hV
                    go_simp
                  intro hCe18 hSe18
                  clear hCe17 hSe17
                  try simp only [Go.Act.put, List.setIfInBounds_toArray, List.set_cons_zero, List.set_cons_succ]
                  refine wpAnyS_take (i := 18) (oi := ?oie19) (v := .int .i64 (r : Int)) ?hie19 (by kernel_rfl) (by kernel_rfl) (by kernel_rfl) (lateK_iff (by rfl)) ?hqe19 ?hye19 hCe18 hSe18 ?reste19
                  case hie19 => simp only [List.getElem?_toArray, List.getElem?_cons_succ, List.getElem?_cons_zero, Option.some.injEq]; rfl
                  case hqe19 => exact fun _ _ _ h => h
                  case hye19 =>
                    refine Or.inl ⟨by kernel_rfl, fun V hV => ?_⟩
                    clear hV
                    go_simp
                  intro hCe19 hSe19
                  clear hCe18 hSe18
                  try simp only [Go.Act.put, List.setIfInBounds_toArray, List.set_cons_zero, List.set_cons_succ]
                  refine wpAnyS_take (i := 19) (oi := ?oie20) (v := .pointer (some ⟨gw, r, none⟩)) ?hie20 (by kernel_rfl) (by kernel_rfl) (by kernel_rfl) (lateK_iff (by rfl)) ?hqe20 ?hye20 hCe19 hSe19 ?reste20
                  case hie20 => simp only [List.getElem?_toArray, List.getElem?_cons_succ, List.getElem?_cons_zero, Option.some.injEq]; rfl
                  case hqe20 => exact fun _ _ _ h => h
                  case hye20 =>
                    refine Or.inl ⟨by kernel_rfl, fun V hV => ?_⟩
                    clear hV
                    go_simp
                  intro hCe20 hSe20
                  clear hCe19 hSe19
                  try simp only [Go.Act.put, List.setIfInBounds_toArray, List.set_cons_zero, List.set_cons_succ]
                  refine wpAnyS_take (i := 20) (oi := ?oie21) (v := .int .i64 wm) ?hie21 (by kernel_rfl) (by kernel_rfl) (by kernel_rfl) (lateK_iff (by rfl)) ?hqe21 ?hye21 hCe20 hSe20 ?reste21
                  case hie21 => simp only [List.getElem?_toArray, List.getElem?_cons_succ, List.getElem?_cons_zero, Option.some.injEq]; rfl
                  case hqe21 => exact fun _ _ _ h => h
                  case hye21 =>
                    refine Or.inl ⟨by kernel_rfl, fun V hV => ?_⟩
                    have gV := lateK_g hV; have zzk2 := grown_cell gV k2; clear gV; clear hV
                    go_simp
                  intro hCe21 hSe21
                  clear hCe20 hSe20
                  try simp only [Go.Act.put, List.setIfInBounds_toArray, List.set_cons_zero, List.set_cons_succ]
                  refine wpAnyS_take (i := 21) (oi := ?oie22) (v := .int .i64 whole) ?hie22 (by kernel_rfl) (by kernel_rfl) (by kernel_rfl) (lateK_iff (by rfl)) ?hqe22 ?hye22 hCe21 hSe21 ?reste22
                  case hie22 => simp only [List.getElem?_toArray, List.getElem?_cons_succ, List.getElem?_cons_zero, Option.some.injEq]; rfl
                  case hqe22 => exact fun _ _ _ h => h
                  case hye22 =>
                    refine Or.inl ⟨by kernel_rfl, fun V hV => ?_⟩
                    clear hV
                    go_simp
                  intro hCe22 hSe22
                  clear hCe21 hSe21
                  try simp only [Go.Act.put, List.setIfInBounds_toArray, List.set_cons_zero, List.set_cons_succ]
                  refine wpAnyS_ready (rs := [22]) (by kernel_rfl) (by simp) ?_
                  refine AllReadyS.cons rfl hCe22 (fun K hK => ?_) AllReadyS.nil
                  go_simp
                  refine (refScale_any dx part whole 4 (by have := DB.out; omega) (by have := DB.out; omega) (by have := PWH.out; omega) (by have := PWH.out; omega) (by have := PWH.out; omega) (by have := PWH.out; omega) _).mono ?_; rintro e w7 ⟨rfl, hg7⟩
                  rw [HS1.out, HT1.out]
                  refine hK.out _ _ (grown_trans gd.out hg7) (fun hCe23 hSe23 => ?_)
                  clear hK hCe22 hSe22 K
                  have gd7 := Lib.hid (grown_trans gd.out hg7)
                  clear hg7 y0 x0 k1 k2
                  try simp only [Go.Act.put, List.setIfInBounds_toArray, List.set_cons_zero, List.set_cons_succ]
                  refine wpAnyS_take (i := 23) (oi := ?oie24) (v := .tuple #[.int .i64 s1, .int .i64 t1]) ?hie24 (by kernel_rfl) (by kernel_rfl) (by kernel_rfl) (lateK_iff (by rfl)) ?hqe24 ?hye24 hCe23 hSe23 ?reste24
                  case hie24 => simp only [List.getElem?_toArray, List.getElem?_cons_succ, List.getElem?_cons_zero, Option.some.injEq]; rfl
                  case hqe24 => exact fun _ _ _ h => h
                  case hye24 =>
                    refine Or.inl ⟨by kernel_rfl, fun V hV => ?_⟩
                    clear hV
                    go_simp
                  intro hCe24 hSe24
                  clear hCe23 hSe23
                  try simp only [Go.Act.put, List.setIfInBounds_toArray, List.set_cons_zero, List.set_cons_succ]
                  refine wpAnyS_take (i := 24) (oi := ?oie25) (v := .int .i64 s1) ?hie25 (by kernel_rfl) (by kernel_rfl) (by kernel_rfl) (lateK_iff (by rfl)) ?hqe25 ?hye25 hCe24 hSe24 ?reste25
                  case hie25 => simp only [List.getElem?_toArray, List.getElem?_cons_succ, List.getElem?_cons_zero, Option.some.injEq]; rfl
                  case hqe25 => exact fun _ _ _ h => h
                  case hye25 =>
                    refine Or.inl ⟨by kernel_rfl, fun V hV => ?_⟩
                    clear hV
                    go_simp
                  intro hCe25 hSe25
                  clear hCe24 hSe24
                  try simp only [Go.Act.put, List.setIfInBounds_toArray, List.set_cons_zero, List.set_cons_succ]
                  refine wpAnyS_take (i := 25) (oi := ?oie26) (v := .int .i64 t1) ?hie26 (by kernel_rfl) (by kernel_rfl) (by kernel_rfl) (lateK_iff (by rfl)) ?hqe26 ?hye26 hCe25 hSe25 ?reste26
                  case hie26 => simp only [List.getElem?_toArray, List.getElem?_cons_succ, List.getElem?_cons_zero, Option.some.injEq]; rfl
                  case hqe26 => exact fun _ _ _ h => h
                  case hye26 =>
                    refine Or.inl ⟨by kernel_rfl, fun V hV => ?_⟩
                    clear hV
                    go_simp
                  intro hCe26 hSe26
                  clear hCe25 hSe25
                  try simp only [Go.Act.put, List.setIfInBounds_toArray, List.set_cons_zero, List.set_cons_succ]
                  refine wpAnyS_take (i := 26) (oi := ?oie27) (v := .int .i64 s1) ?hie27 (by kernel_rfl) (by kernel_rfl) (by kernel_rfl) (lateK_iff (by rfl)) ?hqe27 ?hye27 hCe26 hSe26 ?reste27
                  case hie27 => simp only [List.getElem?_toArray, List.getElem?_cons_succ, List.getElem?_cons_zero, Option.some.injEq]; rfl
                  case hqe27 => exact fun _ _ _ h => h
                  case hye27 =>
                    refine Or.inl ⟨by kernel_rfl, fun V hV => ?_⟩
                    clear hV
                    go_simp
                  intro hCe27 hSe27
                  clear hCe26 hSe26
                  try simp only [Go.Act.put, List.setIfInBounds_toArray, List.set_cons_zero, List.set_cons_succ]
                  refine wpAnyS_take (i := 27) (oi := ?oie28) (v := .int .i64 t1) ?hie28 (by kernel_rfl) (by kernel_rfl) (by kernel_rfl) (lateK_iff (by rfl)) ?hqe28 ?hye28 hCe27 hSe27 ?reste28
                  case hie28 => simp only [List.getElem?_toArray, List.getElem?_cons_succ, List.getElem?_cons_zero, Option.some.injEq]; rfl
                  case hqe28 => exact fun _ _ _ h => h
                  case hye28 =>
                    refine Or.inl ⟨by kernel_rfl, fun V hV => ?_⟩
                    clear hV
                    go_simp
                  intro hCe28 hSe28
                  clear hCe27 hSe27
                  try simp only [Go.Act.put, List.setIfInBounds_toArray, List.set_cons_zero, List.set_cons_succ]
                  refine wpAnyS_done (by kernel_rfl) ?_ _
                  clear hCe28 hSe28
                  have BwaX := Lib.hid (mblock_at BX6.out gd7.out (by simp)); have BwaY := Lib.hid (mblock_at BY6.out gd7.out (by simp))
                  have Gwa := Lib.hid (grown_trans GG6.out gd7.out)
                  clear gd gd7 BX6 BY6 GG6
                  obtain ⟨wa, hwn⟩ : ∃ V, w7 = V := ⟨_, rfl⟩
                  subst hwn
                  go_upto_region 21 with (fail)
                  have y0 := mblock_cell BwaY.out 1 (.int .i64 qy) rfl; have x0 := mblock_cell BwaX.out 1 (.int .i64 oy) rfl
                  have k1 := grown_cell Gwa.out cI; have k2 := grown_cell Gwa.out cM
                  have gd : w7.grownBy w7.drew none := grown_drewN w7 none 1
                  refine region_late (lateK (fun V => w7.grownBy V none) []) (by kernel_rfl) gd (fun hCf0 hSf0 => ?_)
                  have gd := Lib.hid gd
                  generalize w7.drew = wd at *
                  refine wpAnyS_take (i := 0) (oi := ?oif1) (v := .pointer (some ⟨Y, 1, none⟩)) ?hif1 (by kernel_rfl) (by kernel_rfl) (by kernel_rfl) (lateK_iff (by rfl)) ?hqf1 ?hyf1 hCf0 hSf0 ?restf1
                  case hif1 => simp only [List.getElem?_toArray, List.getElem?_cons_succ, List.getElem?_cons_zero, Option.some.injEq]; rfl
                  case hqf1 => exact fun _ _ _ h => h
                  case hyf1 =>
                    refine Or.inl ⟨by kernel_rfl, fun V hV => ?_⟩
                    clear hV
                    go_simp
                  intro hCf1 hSf1
                  clear hCf0 hSf0
                  try simp only [Go.Act.put, List.setIfInBounds_toArray, List.set_cons_zero, List.set_cons_succ]
                  refine wpAnyS_take (i := 1) (oi := ?oif2) (v := .int .i64 qy) ?hif2 (by kernel_rfl) (by kernel_rfl) (by kernel_rfl) (lateK_iff (by rfl)) ?hqf2 ?hyf2 hCf1 hSf1 ?restf2
                  case hif2 => simp only [List.getElem?_toArray, List.getElem?_cons_succ, List.getElem?_cons_zero, Option.some.injEq]; rfl
                  case hqf2 => exact fun _ _ _ h => h
                  case hyf2 =>
                    refine Or.inl ⟨by kernel_rfl, fun V hV => ?_⟩
                    have gV := lateK_g hV; have zzy0 := grown_cell gV y0; clear gV; clear hV
                    go_simp
                  intro hCf2 hSf2
                  clear hCf1 hSf1
                  try simp only [Go.Act.put, List.setIfInBounds_toArray, List.set_cons_zero, List.set_cons_succ]
                  refine wpAnyS_take (i := 2) (oi := ?oif3) (v := .pointer (some ⟨X, 1, none⟩)) ?hif3 (by kernel_rfl) (by kernel_rfl) (by kernel_rfl) (lateK_iff (by rfl)) ?hqf3 ?hyf3 hCf2 hSf2 ?restf3
                  case hif3 => simp only [List.getElem?_toArray, List.getElem?_cons_succ, List.getElem?_cons_zero, Option.some.injEq]; rfl
                  case hqf3 => exact fun _ _ _ h => h
                  case hyf3 =>
                    refine Or.inl ⟨by kernel_rfl, fun V hV => ?_⟩
                    clear hV
                    go_simp
                  intro hCf3 hSf3
                  clear hCf2 hSf2
                  try simp only [Go.Act.put, List.setIfInBounds_toArray, List.set_cons_zero, List.set_cons_succ]
                  refine wpAnyS_take (i := 3) (oi := ?oif4) (v := .int .i64 oy) ?hif4 (by kernel_rfl) (by kernel_rfl) (by kernel_rfl) (lateK_iff (by rfl)) ?hqf4 ?hyf4 hCf3 hSf3 ?restf4
                  case hif4 => simp only [List.getElem?_toArray, List.getElem?_cons_succ, List.getElem?_cons_zero, Option.some.injEq]; rfl
                  case hqf4 => exact fun _ _ _ h => h
                  case hyf4 =>
                    refine Or.inl ⟨by kernel_rfl, fun V hV => ?_⟩
                    have gV := lateK_g hV; have zzx0 := grown_cell gV x0; clear gV; clear hV
                    go_simp
                  intro hCf4 hSf4
                  clear hCf3 hSf3
                  try simp only [Go.Act.put, List.setIfInBounds_toArray, List.set_cons_zero, List.set_cons_succ]
                  refine wpAnyS_take (i := 4) (oi := ?oif5) (v := .int .i64 dy) ?hif5 (by kernel_rfl) (by kernel_rfl) (by kernel_rfl) (lateK_iff (by rfl)) ?hqf5 ?hyf5 hCf4 hSf4 ?restf5
                  case hif5 => simp only [List.getElem?_toArray, List.getElem?_cons_succ, List.getElem?_cons_zero, Option.some.injEq]; rfl
                  case hqf5 => exact fun _ _ _ h => h
                  case hyf5 =>
                    refine Or.inl ⟨by kernel_rfl, fun V hV => ?_⟩
                    clear hV
                    go_simp
                  intro hCf5 hSf5
                  clear hCf4 hSf4
                  try simp only [Go.Act.put, List.setIfInBounds_toArray, List.set_cons_zero, List.set_cons_succ]
                  refine wpAnyS_take (i := 5) (oi := ?oif6) (v := .int .i64 d) ?hif6 (by kernel_rfl) (by kernel_rfl) (by kernel_rfl) (lateK_iff (by rfl)) ?hqf6 ?hyf6 hCf5 hSf5 ?restf6
                  case hif6 => simp only [List.getElem?_toArray, List.getElem?_cons_succ, List.getElem?_cons_zero, Option.some.injEq]; rfl
                  case hqf6 => exact fun _ _ _ h => h
                  case hyf6 =>
                    refine Or.inl ⟨by kernel_rfl, fun V hV => ?_⟩
                    clear hV
                    go_simp
                  intro hCf6 hSf6
                  clear hCf5 hSf5
                  try simp only [Go.Act.put, List.setIfInBounds_toArray, List.set_cons_zero, List.set_cons_succ]
                  refine wpAnyS_take (i := 6) (oi := ?oif7) (v := .slice (some ⟨gw, 0, none⟩) ss.length wc) ?hif7 (by kernel_rfl) (by kernel_rfl) (by kernel_rfl) (lateK_iff (by rfl)) ?hqf7 ?hyf7 hCf6 hSf6 ?restf7
                  case hif7 => simp only [List.getElem?_toArray, List.getElem?_cons_succ, List.getElem?_cons_zero, Option.some.injEq]; rfl
                  case hqf7 => exact fun _ _ _ h => h
                  case hyf7 =>
                    refine Or.inl ⟨by kernel_rfl, fun V hV => ?_⟩
                    clear hV
                    go_simp
                  intro hCf7 hSf7
                  clear hCf6 hSf6
                  try simp only [Go.Act.put, List.setIfInBounds_toArray, List.set_cons_zero, List.set_cons_succ]
                  refine wpAnyS_take (i := 7) (oi := ?oif8) (v := .int .i64 (I : Int)) ?hif8 (by kernel_rfl) (by kernel_rfl) (by kernel_rfl) (lateK_iff (by rfl)) ?hqf8 ?hyf8 hCf7 hSf7 ?restf8
                  case hif8 => simp only [List.getElem?_toArray, List.getElem?_cons_succ, List.getElem?_cons_zero, Option.some.injEq]; rfl
                  case hqf8 => exact fun _ _ _ h => h
                  case hyf8 =>
                    refine Or.inl ⟨by kernel_rfl, fun V hV => ?_⟩
                    clear hV
                    go_simp
                  intro hCf8 hSf8
                  clear hCf7 hSf7
                  try simp only [Go.Act.put, List.setIfInBounds_toArray, List.set_cons_zero, List.set_cons_succ]
                  refine wpAnyS_take (i := 8) (oi := ?oif9) (v := .int .i64 (r : Int)) ?hif9 (by kernel_rfl) (by kernel_rfl) (by kernel_rfl) (lateK_iff (by rfl)) ?hqf9 ?hyf9 hCf8 hSf8 ?restf9
                  case hif9 => simp only [List.getElem?_toArray, List.getElem?_cons_succ, List.getElem?_cons_zero, Option.some.injEq]; rfl
                  case hqf9 => exact fun _ _ _ h => h
                  case hyf9 =>
                    refine Or.inl ⟨by kernel_rfl, fun V hV => ?_⟩
                    clear hV
                    go_simp
                  intro hCf9 hSf9
                  clear hCf8 hSf8
                  try simp only [Go.Act.put, List.setIfInBounds_toArray, List.set_cons_zero, List.set_cons_succ]
                  refine wpAnyS_take (i := 9) (oi := ?oif10) (v := .pointer (some ⟨gw, r, none⟩)) ?hif10 (by kernel_rfl) (by kernel_rfl) (by kernel_rfl) (lateK_iff (by rfl)) ?hqf10 ?hyf10 hCf9 hSf9 ?restf10
                  case hif10 => simp only [List.getElem?_toArray, List.getElem?_cons_succ, List.getElem?_cons_zero, Option.some.injEq]; rfl
                  case hqf10 => exact fun _ _ _ h => h
                  case hyf10 =>
                    refine Or.inl ⟨by kernel_rfl, fun V hV => ?_⟩
                    clear hV
                    go_simp
                  intro hCf10 hSf10
                  clear hCf9 hSf9
                  try simp only [Go.Act.put, List.setIfInBounds_toArray, List.set_cons_zero, List.set_cons_succ]
                  refine wpAnyS_take (i := 10) (oi := ?oif11) (v := .int .i64 wm) ?hif11 (by kernel_rfl) (by kernel_rfl) (by kernel_rfl) (lateK_iff (by rfl)) ?hqf11 ?hyf11 hCf10 hSf10 ?restf11
                  case hif11 => simp only [List.getElem?_toArray, List.getElem?_cons_succ, List.getElem?_cons_zero, Option.some.injEq]; rfl
                  case hqf11 => exact fun _ _ _ h => h
                  case hyf11 =>
                    refine Or.inl ⟨by kernel_rfl, fun V hV => ?_⟩
                    have gV := lateK_g hV; have zzk2 := grown_cell gV k2; clear gV; clear hV
                    go_simp
                  intro hCf11 hSf11
                  clear hCf10 hSf10
                  try simp only [Go.Act.put, List.setIfInBounds_toArray, List.set_cons_zero, List.set_cons_succ]
                  refine wpAnyS_take (i := 11) (oi := ?oif12) (v := .int .i64 part) ?hif12 (by kernel_rfl) (by kernel_rfl) (by kernel_rfl) (lateK_iff (by rfl)) ?hqf12 ?hyf12 hCf11 hSf11 ?restf12
                  case hif12 => simp only [List.getElem?_toArray, List.getElem?_cons_succ, List.getElem?_cons_zero, Option.some.injEq]; rfl
                  case hqf12 => exact fun _ _ _ h => h
                  case hyf12 =>
                    refine Or.inl ⟨by kernel_rfl, fun V hV => ?_⟩
                    clear hV
                    go_simp
                  intro hCf12 hSf12
                  clear hCf11 hSf11
                  try simp only [Go.Act.put, List.setIfInBounds_toArray, List.set_cons_zero, List.set_cons_succ]
                  refine wpAnyS_take (i := 12) (oi := ?oif13) (v := .slice (some ⟨gw, 0, none⟩) ss.length wc) ?hif13 (by kernel_rfl) (by kernel_rfl) (by kernel_rfl) (lateK_iff (by rfl)) ?hqf13 ?hyf13 hCf12 hSf12 ?restf13
                  case hif13 => simp only [List.getElem?_toArray, List.getElem?_cons_succ, List.getElem?_cons_zero, Option.some.injEq]; rfl
                  case hqf13 => exact fun _ _ _ h => h
                  case hyf13 =>
                    refine Or.inl ⟨by kernel_rfl, fun V hV => ?_⟩
                    clear hV
                    go_simp
                  intro hCf13 hSf13
                  clear hCf12 hSf12
                  try simp only [Go.Act.put, List.setIfInBounds_toArray, List.set_cons_zero, List.set_cons_succ]
                  refine wpAnyS_take (i := 13) (oi := ?oif14) (v := .int .i64 (I : Int)) ?hif14 (by kernel_rfl) (by kernel_rfl) (by kernel_rfl) (lateK_iff (by rfl)) ?hqf14 ?hyf14 hCf13 hSf13 ?restf14
                  case hif14 => simp only [List.getElem?_toArray, List.getElem?_cons_succ, List.getElem?_cons_zero, Option.some.injEq]; rfl
                  case hqf14 => exact fun _ _ _ h => h
                  case hyf14 =>
                    refine Or.inl ⟨by kernel_rfl, fun V hV => ?_⟩
                    clear hV
                    go_simp
                  intro hCf14 hSf14
                  clear hCf13 hSf13
                  try simp only [Go.Act.put, List.setIfInBounds_toArray, List.set_cons_zero, List.set_cons_succ]
                  refine wpAnyS_take (i := 14) (oi := ?oif15) (v := .pointer (some ⟨gw, I, none⟩)) ?hif15 (by kernel_rfl) (by kernel_rfl) (by kernel_rfl) (lateK_iff (by rfl)) ?hqf15 ?hyf15 hCf14 hSf14 ?restf15
                  case hif15 => simp only [List.getElem?_toArray, List.getElem?_cons_succ, List.getElem?_cons_zero, Option.some.injEq]; rfl
                  case hqf15 => exact fun _ _ _ h => h
                  case hyf15 =>
                    refine Or.inl ⟨by kernel_rfl, fun V hV => ?_⟩
                    clear hV
                    go_simp
                  intro hCf15 hSf15
                  clear hCf14 hSf14
                  try simp only [Go.Act.put, List.setIfInBounds_toArray, List.set_cons_zero, List.set_cons_succ]
                  refine wpAnyS_take (i := 15) (oi := ?oif16) (v := .int .i64 wi) ?hif16 (by kernel_rfl) (by kernel_rfl) (by kernel_rfl) (lateK_iff (by rfl)) ?hqf16 ?hyf16 hCf15 hSf15 ?restf16
                  case hif16 => simp only [List.getElem?_toArray, List.getElem?_cons_succ, List.getElem?_cons_zero, Option.some.injEq]; rfl
                  case hqf16 => exact fun _ _ _ h => h
                  case hyf16 =>
                    refine Or.inl ⟨by kernel_rfl, fun V hV => ?_⟩
                    have gV := lateK_g hV; have zzk1 := grown_cell gV k1; clear gV; clear hV
                    go_simp
                  intro hCf16 hSf16
                  clear hCf15 hSf15
                  try simp only [Go.Act.put, List.setIfInBounds_toArray, List.set_cons_zero, List.set_cons_succ]
                  refine wpAnyS_take (i := 16) (oi := ?oif17) (v := .slice (some ⟨gw, 0, none⟩) ss.length wc) ?hif17 (by kernel_rfl) (by kernel_rfl) (by kernel_rfl) (lateK_iff (by rfl)) ?hqf17 ?hyf17 hCf16 hSf16 ?restf17
                  case hif17 => simp only [List.getElem?_toArray, List.getElem?_cons_succ, List.getElem?_cons_zero, Option.some.injEq]; rfl
                  case hqf17 => exact fun _ _ _ h => h
                  case hyf17 =>
                    refine Or.inl ⟨by kernel_rfl, fun V hV => ?_⟩
                    clear hV
                    go_simp
                  intro hCf17 hSf17
                  clear hCf16 hSf16
                  try simp only [Go.Act.put, List.setIfInBounds_toArray, List.set_cons_zero, List.set_cons_succ]
                  refine wpAnyS_take (i := 17) (oi := ?oif18) (v := .int .i64 (I : Int)) ?hif18 (by kernel_rfl) (by kernel_rfl) (by kernel_rfl) (lateK_iff (by rfl)) ?hqf18 ?hyf18 hCf17 hSf17 ?restf18
                  case hif18 => simp only [List.getElem?_toArray, List.getElem?_cons_succ, List.getElem?_cons_zero, Option.some.injEq]; rfl
                  case hqf18 => exact fun _ _ _ h => h
                  case hyf18 =>
                    refine Or.inl ⟨by kernel_rfl, fun V hV => ?_⟩
                    clear hV
                    go_simp
                  intro hCf18 hSf18
                  clear hCf17 hSf17
                  try simp only [Go.Act.put, List.setIfInBounds_toArray, List.set_cons_zero, List.set_cons_succ]
                  refine wpAnyS_take (i := 18) (oi := ?oif19) (v := .int .i64 (r : Int)) ?hif19 (by kernel_rfl) (by kernel_rfl) (by kernel_rfl) (lateK_iff (by rfl)) ?hqf19 ?hyf19 hCf18 hSf18 ?restf19
                  case hif19 => simp only [List.getElem?_toArray, List.getElem?_cons_succ, List.getElem?_cons_zero, Option.some.injEq]; rfl
                  case hqf19 => exact fun _ _ _ h => h
                  case hyf19 =>
                    refine Or.inl ⟨by kernel_rfl, fun V hV => ?_⟩
                    clear hV
                    go_simp
                  intro hCf19 hSf19
                  clear hCf18 hSf18
                  try simp only [Go.Act.put, List.setIfInBounds_toArray, List.set_cons_zero, List.set_cons_succ]
                  refine wpAnyS_take (i := 19) (oi := ?oif20) (v := .pointer (some ⟨gw, r, none⟩)) ?hif20 (by kernel_rfl) (by kernel_rfl) (by kernel_rfl) (lateK_iff (by rfl)) ?hqf20 ?hyf20 hCf19 hSf19 ?restf20
                  case hif20 => simp only [List.getElem?_toArray, List.getElem?_cons_succ, List.getElem?_cons_zero, Option.some.injEq]; rfl
                  case hqf20 => exact fun _ _ _ h => h
                  case hyf20 =>
                    refine Or.inl ⟨by kernel_rfl, fun V hV => ?_⟩
                    clear hV
                    go_simp
                  intro hCf20 hSf20
                  clear hCf19 hSf19
                  try simp only [Go.Act.put, List.setIfInBounds_toArray, List.set_cons_zero, List.set_cons_succ]
                  refine wpAnyS_take (i := 20) (oi := ?oif21) (v := .int .i64 wm) ?hif21 (by kernel_rfl) (by kernel_rfl) (by kernel_rfl) (lateK_iff (by rfl)) ?hqf21 ?hyf21 hCf20 hSf20 ?restf21
                  case hif21 => simp only [List.getElem?_toArray, List.getElem?_cons_succ, List.getElem?_cons_zero, Option.some.injEq]; rfl
                  case hqf21 => exact fun _ _ _ h => h
                  case hyf21 =>
                    refine Or.inl ⟨by kernel_rfl, fun V hV => ?_⟩
                    have gV := lateK_g hV; have zzk2 := grown_cell gV k2; clear gV; clear hV
                    go_simp
                  intro hCf21 hSf21
                  clear hCf20 hSf20
                  try simp only [Go.Act.put, List.setIfInBounds_toArray, List.set_cons_zero, List.set_cons_succ]
                  refine wpAnyS_take (i := 21) (oi := ?oif22) (v := .int .i64 whole) ?hif22 (by kernel_rfl) (by kernel_rfl) (by kernel_rfl) (lateK_iff (by rfl)) ?hqf22 ?hyf22 hCf21 hSf21 ?restf22
                  case hif22 => simp only [List.getElem?_toArray, List.getElem?_cons_succ, List.getElem?_cons_zero, Option.some.injEq]; rfl
                  case hqf22 => exact fun _ _ _ h => h
                  case hyf22 =>
                    refine Or.inl ⟨by kernel_rfl, fun V hV => ?_⟩
                    clear hV
                    go_simp
                  intro hCf22 hSf22
                  clear hCf21 hSf21
                  try simp only [Go.Act.put, List.setIfInBounds_toArray, List.set_cons_zero, List.set_cons_succ]
                  refine wpAnyS_ready (rs := [22]) (by kernel_rfl) (by simp) ?_
                  refine AllReadyS.cons rfl hCf22 (fun K hK => ?_) AllReadyS.nil
                  go_simp
                  refine (refScale_any dy part whole 4 (by have := DB.out; omega) (by have := DB.out; omega) (by have := PWH.out; omega) (by have := PWH.out; omega) (by have := PWH.out; omega) (by have := PWH.out; omega) _).mono ?_; rintro e w8 ⟨rfl, hg7⟩
                  rw [HS2.out, HT2.out]
                  refine hK.out _ _ (grown_trans gd.out hg7) (fun hCf23 hSf23 => ?_)
                  clear hK hCf22 hSf22 K
                  have gd7 := Lib.hid (grown_trans gd.out hg7)
                  clear hg7 y0 x0 k1 k2
                  try simp only [Go.Act.put, List.setIfInBounds_toArray, List.set_cons_zero, List.set_cons_succ]
                  refine wpAnyS_take (i := 23) (oi := ?oif24) (v := .tuple #[.int .i64 s2, .int .i64 t2]) ?hif24 (by kernel_rfl) (by kernel_rfl) (by kernel_rfl) (lateK_iff (by rfl)) ?hqf24 ?hyf24 hCf23 hSf23 ?restf24
                  case hif24 => simp only [List.getElem?_toArray, List.getElem?_cons_succ, List.getElem?_cons_zero, Option.some.injEq]; rfl
                  case hqf24 => exact fun _ _ _ h => h
                  case hyf24 =>
                    refine Or.inl ⟨by kernel_rfl, fun V hV => ?_⟩
                    clear hV
                    go_simp
                  intro hCf24 hSf24
                  clear hCf23 hSf23
                  try simp only [Go.Act.put, List.setIfInBounds_toArray, List.set_cons_zero, List.set_cons_succ]
                  refine wpAnyS_take (i := 24) (oi := ?oif25) (v := .int .i64 s2) ?hif25 (by kernel_rfl) (by kernel_rfl) (by kernel_rfl) (lateK_iff (by rfl)) ?hqf25 ?hyf25 hCf24 hSf24 ?restf25
                  case hif25 => simp only [List.getElem?_toArray, List.getElem?_cons_succ, List.getElem?_cons_zero, Option.some.injEq]; rfl
                  case hqf25 => exact fun _ _ _ h => h
                  case hyf25 =>
                    refine Or.inl ⟨by kernel_rfl, fun V hV => ?_⟩
                    clear hV
                    go_simp
                  intro hCf25 hSf25
                  clear hCf24 hSf24
                  try simp only [Go.Act.put, List.setIfInBounds_toArray, List.set_cons_zero, List.set_cons_succ]
                  refine wpAnyS_take (i := 25) (oi := ?oif26) (v := .int .i64 t2) ?hif26 (by kernel_rfl) (by kernel_rfl) (by kernel_rfl) (lateK_iff (by rfl)) ?hqf26 ?hyf26 hCf25 hSf25 ?restf26
                  case hif26 => simp only [List.getElem?_toArray, List.getElem?_cons_succ, List.getElem?_cons_zero, Option.some.injEq]; rfl
                  case hqf26 => exact fun _ _ _ h => h
                  case hyf26 =>
                    refine Or.inl ⟨by kernel_rfl, fun V hV => ?_⟩
                    clear hV
                    go_simp
                  intro hCf26 hSf26
                  clear hCf25 hSf25
                  try simp only [Go.Act.put, List.setIfInBounds_toArray, List.set_cons_zero, List.set_cons_succ]
                  refine wpAnyS_take (i := 26) (oi := ?oif27) (v := .int .i64 s2) ?hif27 (by kernel_rfl) (by kernel_rfl) (by kernel_rfl) (lateK_iff (by rfl)) ?hqf27 ?hyf27 hCf26 hSf26 ?restf27
                  case hif27 => simp only [List.getElem?_toArray, List.getElem?_cons_succ, List.getElem?_cons_zero, Option.some.injEq]; rfl
                  case hqf27 => exact fun _ _ _ h => h
                  case hyf27 =>
                    refine Or.inl ⟨by kernel_rfl, fun V hV => ?_⟩
                    clear hV
                    go_simp
                  intro hCf27 hSf27
                  clear hCf26 hSf26
                  try simp only [Go.Act.put, List.setIfInBounds_toArray, List.set_cons_zero, List.set_cons_succ]
                  refine wpAnyS_take (i := 27) (oi := ?oif28) (v := .int .i64 t2) ?hif28 (by kernel_rfl) (by kernel_rfl) (by kernel_rfl) (lateK_iff (by rfl)) ?hqf28 ?hyf28 hCf27 hSf27 ?restf28
                  case hif28 => simp only [List.getElem?_toArray, List.getElem?_cons_succ, List.getElem?_cons_zero, Option.some.injEq]; rfl
                  case hqf28 => exact fun _ _ _ h => h
                  case hyf28 =>
                    refine Or.inl ⟨by kernel_rfl, fun V hV => ?_⟩
                    clear hV
                    go_simp
                  intro hCf28 hSf28
                  clear hCf27 hSf27
                  try simp only [Go.Act.put, List.setIfInBounds_toArray, List.set_cons_zero, List.set_cons_succ]
                  refine wpAnyS_done (by kernel_rfl) ?_ _
                  clear hCf28 hSf28
                  have BwbX := Lib.hid (mblock_at BwaX.out gd7.out (by simp)); have BwbY := Lib.hid (mblock_at BwaY.out gd7.out (by simp))
                  have Gwb := Lib.hid (grown_trans Gwa.out gd7.out)
                  clear gd gd7 BwaX BwaY Gwa
                  obtain ⟨wb, hwn⟩ : ∃ V, w8 = V := ⟨_, rfl⟩
                  subst hwn
                  have z0 := mblock_cell BwbX.out 0 (.int .i64 ox) rfl; have z1 := mblock_cell BwbX.out 1 (.int .i64 oy) rfl
                  have f0 := mblock_free (k := 0) BwbX.out; have f1 := mblock_free (k := 1) BwbX.out
                  go_upto_region 23 with (fail)
                  have BX9 := Lib.hid (mblock_set (k := 1) (mblock_set (k := 0) BwbX.out (.int .i64 px)) (.int .i64 py))
                  have GG9 := Lib.hid (mgrown_set (mgrown_set Gwb.out LX.out 0 (.int .i64 px)) LX.out 1 (.int .i64 py))
                  generalize (w8.setCell ⟨X, 0, none⟩ (.int .i64 px)).setCell ⟨X, 1, none⟩ (.int .i64 py) = w9 at *
                  clear z0 z1 f0 f1 BwbX BwbY Gwb
                  have x0 := mblock_cell BX9.out 0 (.int .i64 px) rfl; have x1 := mblock_cell BX9.out 1 (.int .i64 py) rfl
                  have O6 := Lib.hid (HO.out.kept GG9.out (by cases v.ownBlock <;> simp))
                  have G6 := Lib.hid (grown_trans HG.out GG9.out)
                  go_wp2_with (at_builtin; (refine wpList_append_own _ rfl _ _ 57 rfl w1.heap.size 64 i0 (.agg #[.int .i64 0, .int .i64 0]) 2 16 Try.underlying57 HI0.out HZ0.out HZ1.out HZ2.out rfl (by decide) _ _ _ rfl (O6.out.alloc _) ⟨w9.heap.size, 0, none⟩ 1 1 [.int .i64 px, .int .i64 py] rfl rfl (World.news_of_block (cs := #[.int .i64 px, .int .i64 py]) (t := 64) (fr := (0, 0)) (heap_alloc_new w9 _)) (by simp [Value.oneCell']) (by have := HNB.out; have := HKN.out; unfold maxLen; omega) (by have := HNB.out; have := HKN.out; omega) (Nat.le_trans G6.out.size (World.grownBy_alloc w9 _ none).size) ?_); intro v' w10 ho10 hg10 hnil; have O7 := Lib.hid ho10; have G7 := Lib.hid (mgrown_own G6.out hg10 (fun r hr => (O6.out.lt r hr).1)); clear ho10 hg10 hnil)
                  go_roundw
                  case rel => exact ⟨k + 1, I, _, rfl, rfl, by go_num, HKN.out, HUP.out, by rw [HNX.out]; exact O7.out, G7.out⟩
                  case measure => have := HKN.out; simp [intOf]; omega
          · have hkE : k = N := by omega
            subst hkE
            have hlt' : ¬ ((k : Int) < (k : Int)) := by omega
            have hsl := spL_len ss k k
            have q := ho.out
            obtain ⟨l, hl⟩ : ∃ l, spL ss k k = l := ⟨_, rfl⟩
            rw [hl] at q hsl LN
            rw [← hsl] at q
            obtain ⟨ao, cp, hvv, _, hr, _⟩ := own_rows (cs := ptCs) (fun _ => rfl) q
            subst hvv
            have GG := Lib.hid (grown_trans G1.out hg.out)
            have hsl2 := hsl
            have HR := Lib.hid hr
            clear q ho hg hk hk' hr hik
            go_wp2_with fail
            go_ret2
            exact ⟨⟨ao, ⟨cp, by rw [LN.out, hsl2]; rfl⟩, by rw [LN.out]; exact HR.out⟩, GG.out⟩
    · rw [if_neg h1] at hv
      subst hv
      have LN : Hid (spcL a n = []) := LN0 (by omega)
      obtain ⟨nm, sp, st, so, sc, ss, lo, lc, ls, to_, tc, ts⟩ := a
      simp only [Act.val] at *
      have HN1 : Hid (decide (n < 2 ∨ 300 < n) = true) := decide_eq_true (by omega)
      subst h0
      have h0 := trivial
      clear hE ha hce LN0 h1
      have HWE : Hid (waysE ⟨nm, sp, st, so, sc, ss, lo, lc, ls, to_, tc, ts⟩ = (ss.length, 0)) := by show waysE _ = _; unfold waysE; rw [if_pos HCE.out]
      clear h0
      go_enter Try.func28, Try.ntmps28
      go_wp2_with fail
      refine (rways_any ⟨nm, sp, st, so, sc, ss, lo, lc, ls, to_, tc, ts⟩ _ (HA.out.grown (World.grownBy_alloc _ _ _)) HWE).mono ?_; rintro e w1 ⟨⟨wo, wc, rfl, hw⟩, hg1⟩
      have G1 := Lib.hid (grown_trans (World.grownBy_alloc w (.cells #[.string nm, .int .i64 sp, .int .i64 st, .slice so ss.length sc, .slice lo ls.length lc, .slice to_ ts.length tc] 36) none) hg1)
      have b3 : w1.cell? ⟨w.heap.size, 3, none⟩ = some (.slice so ss.length sc) := grown_cell hg1 (by simp)
      have HW := Lib.hid hw
      clear hg1 hw
      go_wp2_with fail
      refine (moutside_is n 2 300 _ HN1).mono ?_; rintro e w2 ⟨rfl, rfl⟩
      go_wp2_with fail
      go_ret2
      exact ⟨⟨none, 0, by rw [LN.out]; rfl, by rw [LN.out]; exact ⟨fun _ => rfl, fun _ _ h => absurd rfl h, fun _ _ _ h => absurd h (Nat.not_lt_zero _)⟩⟩, G1.out⟩
  · rw [if_neg h0] at hv
    subst hv
    have LN : Hid (spcL a n = []) := LN0 h0
    obtain ⟨nm, sp, st, so, sc, ss, lo, lc, ls, to_, tc, ts⟩ := a
    simp only [Act.val] at *
    have z0 : (ce != 0) = true := by simpa using h0
    have z1 : ¬ ce = 0 := h0
    clear hE ha hce LN0
    have HWE : Hid (waysE ⟨nm, sp, st, so, sc, ss, lo, lc, ls, to_, tc, ts⟩ = (0, ce)) := by show waysE _ = _; unfold waysE; rw [if_neg (by rw [HCE.out]; exact h0), HCE.out]
    clear h0
    go_enter Try.func28, Try.ntmps28
    go_wp2_with fail
    refine (rways_any ⟨nm, sp, st, so, sc, ss, lo, lc, ls, to_, tc, ts⟩ _ (HA.out.grown (World.grownBy_alloc _ _ _)) HWE).mono ?_; rintro e w1 ⟨⟨wo, wc, rfl, hw⟩, hg1⟩
    have G1 := Lib.hid (grown_trans (World.grownBy_alloc w (.cells #[.string nm, .int .i64 sp, .int .i64 st, .slice so ss.length sc, .slice lo ls.length lc, .slice to_ ts.length tc] 36) none) hg1)
    have b3 : w1.cell? ⟨w.heap.size, 3, none⟩ = some (.slice so ss.length sc) := grown_cell hg1 (by simp)
    have HW := Lib.hid hw
    clear hg1 hw
    go_wp2_with fail
    go_ret2
    exact ⟨⟨none, 0, by rw [LN.out]; rfl, by rw [LN.out]; exact ⟨fun _ => rfl, fun _ _ h => absurd rfl h, fun _ _ _ h => absurd h (Nat.not_lt_zero _)⟩⟩, G1.out⟩

end Go.Proofs.Ytckelojdjmaliaa
