/- The reference's Splits, for any activity; two equal lists of splits; the law's walk. -/
import Derived.Test.YtgkhhfojioepgaaBaseD
import Derived.Test.YtgkhhfojioepgaaTRSplit
namespace Go.Proofs.Ytgkhhfojioepgaa
open Go.RowKit
set_option linter.unusedSimpArgs false
set_option linter.unusedVariables false

set_option maxHeartbeats 1600000 in
theorem rSplits_any (a : Act) (way : Int) (w : World) (ha : ActAt w a) {n : Nat} {E : Int} (hE : Hid (splitsE a way = (n, E))) :
    Calls Try.prog 50 #[a.val, .int .i64 way] w fun x w' => (∃ v, x = .returned (.tuple #[v, .int .i64 E]) ∧ w'.ownsRow w.heap.size 67 2 v n (splVs a.ss way n)) ∧ w.grownBy w' none := by
  obtain ⟨ce, hce⟩ : ∃ e, chkE a = e := ⟨_, rfl⟩
  have hv := hE.out
  unfold splitsE at hv
  rw [hce] at hv
  have HCE := Lib.hid hce; have HA := Lib.hid ha
  by_cases c1 : ce = 0
  · rw [if_pos c1] at hv
    subst c1
    have hok := chk_ok hce
    by_cases c2 : 1 ≤ way ∧ way ≤ 1000000000
    · rw [if_pos c2] at hv
      have HP := Lib.hid hok.plane
      have HS := Lib.hid (sok_of hok)
      by_cases c3 : cntN a.ss way (a.ss.length - 1) ≤ 10000
      · rw [if_pos c3] at hv
        simp only [Prod.mk.injEq] at hv
        obtain ⟨rfl, rfl⟩ := hv
        obtain ⟨nm, sp, st, so, sc, ss, lo, lc, ls, to_, tc, ts⟩ := a
        exact rSplits_ok nm sp st so sc ss lo lc ls to_ tc ts way c2.1 c2.2 w HA HCE HS HP c3
      · rw [if_neg c3] at hv
        simp only [Prod.mk.injEq] at hv
        obtain ⟨rfl, rfl⟩ := hv
        obtain ⟨nm, sp, st, so, sc, ss, lo, lc, ls, to_, tc, ts⟩ := a
        simp only [Act.val] at *
        have hl : (ss.length : Int) ≤ 20000 := HS.out.len
        have h0 : ss.length ≠ 0 := fun h => by rw [h, show (0 : Nat) - 1 = 0 from rfl, cnt_zero] at c3; omega
        have HW : Hid (waysE ⟨nm, sp, st, so, sc, ss, lo, lc, ls, to_, tc, ts⟩ = (ss.length, 0)) := by show _ = _; unfold waysE; rw [if_pos HCE.out]
        have GB := Lib.hid (World.grownBy_alloc w (.cells #[.string nm, .int .i64 sp, .int .i64 st, .slice so ss.length sc, .slice lo ls.length lc, .slice to_ ts.length tc] 26) none)
        go_enter Try.func50, Try.ntmps50
        go_wp2_with fail
        refine (rways_any ⟨nm, sp, st, so, sc, ss, lo, lc, ls, to_, tc, ts⟩ _ (HA.out.grown GB.out) HW).mono ?_; rintro x w2 ⟨⟨ao, cap, rfl, hI⟩, hg1⟩
        have G2 := Lib.hid (grown_trans GB.out hg1)
        obtain ⟨i, hi⟩ : ∃ i, ss.length - 1 = i := ⟨_, rfl⟩
        have hin : i < ss.length := by omega
        obtain ⟨g, rfl, c0⟩ := hI i hin
        obtain ⟨L, hL⟩ : ∃ L, wayN ss i = L := ⟨_, rfl⟩
        have hLb := wayN_bd HP.out i
        rw [hL] at c0 hLb
        have ri : IntKind.i64.wrap ((ss.length : Int) - 1) = (i : Int) := by rw [show (ss.length : Int) - 1 = (i : Int) by omega]; exact IntWalk.i64_in _ (by omega)
        have hin2 : (i : Int) < (ss.length : Int) := by omega
        have hi00 : (0 : Int) ≤ (i : Int) := by omega
        have hq0 : 0 ≤ L / way := Int.ediv_nonneg hLb.1 (by omega)
        have hql : L / way ≤ L := Int.ediv_le_self _ hLb.1
        rw [hi] at c3
        have hnL : (cntN ss way i : Int) = L / way := by
          unfold cntN; rw [hL]; omega
        have hq : L.tdiv way = L / way := Int.tdiv_eq_ediv_of_nonneg hLb.1
        have rq : IntKind.i64.wrap (L / way) = L / way := IntWalk.i64_in _ (by omega)
        have wz : (way == 0) = false := by simp; omega
        have wz2 : ¬ way = 0 := by omega
        have hgt2 : ((10000 : Int) < L / way) := by omega
        have hz : ((ss.length : Int) == 0) = false := beq_eq_false_iff_ne.2 (by omega)
        clear hE hce hok ha c3 hI hg1 hi hL hnL
        go_wp2_with fail
        refine (rout_no _ _ _ c2.1 c2.2 _).mono ?_; rintro e w3 ⟨rfl, rfl⟩
        go_wp2_with fail
        go_ret2
        exact ⟨⟨_, rfl, World.ownsRow_nil _ _ _ _⟩, G2.out⟩
    · rw [if_neg c2] at hv
      simp only [Prod.mk.injEq] at hv
      obtain ⟨rfl, rfl⟩ := hv
      have C2 : Hid (way < 1 ∨ 1000000000 < way) := by show _ ∨ _; omega
      obtain ⟨nm, sp, st, so, sc, ss, lo, lc, ls, to_, tc, ts⟩ := a
      simp only [Act.val] at *
      clear hE hce hok ha c2
      have HW : Hid (waysE ⟨nm, sp, st, so, sc, ss, lo, lc, ls, to_, tc, ts⟩ = (ss.length, 0)) := by show _ = _; unfold waysE; rw [if_pos HCE.out]
      have GB := Lib.hid (World.grownBy_alloc w (.cells #[.string nm, .int .i64 sp, .int .i64 st, .slice so ss.length sc, .slice lo ls.length lc, .slice to_ ts.length tc] 26) none)
      go_enter Try.func50, Try.ntmps50
      go_wp2_with fail
      refine (rways_any ⟨nm, sp, st, so, sc, ss, lo, lc, ls, to_, tc, ts⟩ _ (HA.out.grown GB.out) HW).mono ?_; rintro x w2 ⟨⟨ao, cap, rfl, hI⟩, hg1⟩
      have G2 := Lib.hid (grown_trans GB.out hg1)
      clear hI hg1
      go_wp2_with fail
      refine (rout_yes _ _ _ C2.out _).mono ?_; rintro e w3 ⟨rfl, rfl⟩
      go_wp2_with fail
      go_ret2
      exact ⟨⟨_, rfl, World.ownsRow_nil _ _ _ _⟩, G2.out⟩
  · rw [if_neg c1] at hv
    simp only [Prod.mk.injEq] at hv
    obtain ⟨rfl, rfl⟩ := hv
    have hne : (ce != 0) = true := by simpa using c1
    obtain ⟨nm, sp, st, so, sc, ss, lo, lc, ls, to_, tc, ts⟩ := a
    simp only [Act.val] at *
    have C1 := Lib.hid c1
    clear hE hce ha c1
    have HW : Hid (waysE ⟨nm, sp, st, so, sc, ss, lo, lc, ls, to_, tc, ts⟩ = (0, ce)) := by show _ = _; unfold waysE; rw [HCE.out, if_neg C1.out]
    have GB := Lib.hid (World.grownBy_alloc w (.cells #[.string nm, .int .i64 sp, .int .i64 st, .slice so ss.length sc, .slice lo ls.length lc, .slice to_ ts.length tc] 26) none)
    go_enter Try.func50, Try.ntmps50
    go_wp2_with fail
    refine (rways_any ⟨nm, sp, st, so, sc, ss, lo, lc, ls, to_, tc, ts⟩ _ (HA.out.grown GB.out) HW).mono ?_; rintro x w2 ⟨⟨ao, cap, rfl, hI⟩, hg1⟩
    have G2 := Lib.hid (grown_trans GB.out hg1)
    clear hI hg1
    go_wp2_with fail
    go_ret2
    exact ⟨⟨_, rfl, World.ownsRow_nil _ _ _ _⟩, G2.out⟩

theorem splVs_cell {w : World} {base n : Nat} {v : Value} {ss : List Smp} {way : Int} (h : w.ownsRow base 67 2 v n (splVs ss way n)) :
    ∃ ao cap, v = .slice ao n cap ∧ ∀ j, j < n → ∃ g, ao = some ⟨g, 0, none⟩ ∧ w.cell? ⟨g, j * 2, none⟩ = some (.int .i64 (spl ss way j).1) ∧ w.cell? ⟨g, j * 2 + 1, none⟩ = some (.int .i64 (spl ss way j).2) := by
  rcases h.2 with ⟨hv, h0⟩ | ⟨g, cap, cur, hv, hb, hg, rest⟩
  · exact ⟨none, 0, by rw [hv, h0], fun j hj => absurd hj (by omega)⟩
  · refine ⟨some ⟨g, 0, none⟩, cap, hv, fun j hj => ⟨g, rfl, ?_⟩⟩
    have fl : ∀ (m j i : Nat), j < m → i < 2 → (splVs ss way m)[j * 2 + i]? = (splCs (spl ss way j))[i]? := fun m => by
      induction m with
      | zero => intro j i hj _; omega
      | succ m ih =>
        intro j i hj hi
        have hlen : (splVs ss way m).length = m * 2 := by
          clear ih hj
          induction m with
          | zero => simp [splVs]
          | succ m ih => rw [splVs_succ, List.length_append, ih]; simp [splCs]; omega
        rw [splVs_succ]
        rcases Nat.lt_or_ge j m with q | q
        · rw [List.getElem?_append_left (by omega)]; exact ih j i q hi
        · obtain rfl : j = m := by omega
          rw [List.getElem?_append_right (by omega), hlen]
          congr 1; omega
    have hc : ∀ (i : Nat) (u : Value), i < 2 → (splCs (spl ss way j))[i]? = some u → w.cell? ⟨g, j * 2 + i, none⟩ = some u := fun i u hi hu => by
      have q := h.cells (g := g) (by rw [hv]; rfl) (j * 2 + i) u (by rw [fl n j i hj hi]; exact hu)
      have e : (⟨g, 0, none⟩ : Addr).add (j * 2 + i) = ⟨g, j * 2 + i, none⟩ := by unfold Addr.add; split <;> simp_all
      rw [e] at q; exact q
    exact ⟨hc 0 _ (by omega) rfl, hc 1 _ (by omega) rfl⟩

set_option maxHeartbeats 1600000 in
theorem equal_splits {w : World} {base1 base2 n : Nat} {v1 v2 : Value} {ss : List Smp} {way : Int} (h1 : w.ownsRow base1 67 2 v1 n (splVs ss way n)) (h2 : w.ownsRow base2 67 2 v2 n (splVs ss way n)) (hn : n ≤ 10000) :
    Calls Try.prog 51 #[v1, v2] w fun e w' => e = .returned (.bool true) ∧ w.grownBy w' none := by
  obtain ⟨a1, c1, rfl, q1⟩ := splVs_cell h1
  obtain ⟨a2, c2, rfl, q2⟩ := splVs_cell h2
  have Q1 := Lib.hid q1; have Q2 := Lib.hid q2
  clear h1 h2 q1 q2
  go_enter Try.func51, Try.ntmps51
  go_wp2_with fail
  go_loopw [13] (fun iv wr => ∃ k : Nat, k ≤ n ∧ iv = .int .i64 k ∧ Hid (w.grownBy wr none)) (fun iv _ => n - (intOf iv).toNat)
  case atStart => exact ⟨0, Nat.zero_le _, rfl, grown_refl _ _⟩
  case round =>
    obtain ⟨k, hk, rfl, hg⟩ := hrel
    by_cases hlt : k < n
    · obtain ⟨g1, rfl, x0, x1⟩ := Q1.out k hlt
      obtain ⟨g2, rfl, y0, y1⟩ := Q2.out k hlt
      replace x0 := grown_cell hg.out x0; replace x1 := grown_cell hg.out x1
      replace y0 := grown_cell hg.out y0; replace y1 := grown_cell hg.out y1
      generalize spl ss way k = h at *
      obtain ⟨z0, z1⟩ := h
      simp only at x0 x1 y0 y1
      go_wp2_with fail
      go_quiet (fail)
      go_wp2_with fail
      go_roundw
      case rel => exact ⟨k + 1, by omega, by go_num, grown_trans hg.out (grown_drewN _ _ _)⟩
      case measure => simp [intOf]; omega
    · go_wp2_with fail
      go_ret
      exact ⟨rfl, hg.out⟩

theorem splits_len {a : Act} {way : Int} {n : Nat} {E : Int} (h : splitsE a way = (n, E)) : n ≤ 10000 := by
  unfold splitsE at h
  split at h
  · split at h
    · split at h
      · rename_i h3
        simp only [Prod.mk.injEq] at h; rw [← h.1]; exact h3
      · simp only [Prod.mk.injEq] at h; omega
    · simp only [Prod.mk.injEq] at h; omega
  · simp only [Prod.mk.injEq] at h; omega

set_option maxRecDepth 100000 in
set_option maxHeartbeats 1600000 in
theorem splits_law (a : Act) (way : Int) (w : World) (ha : ActAt w a) (hc : a.ss.length ≤ a.sc) :
    Calls Try.prog 13 #[a.val, .int .i64 way] w fun e w' => e = .returned (.bool true) ∧ w.grownBy w' none := by
  rcases hwe : splitsE a way with ⟨n, E⟩
  have hn := splits_len hwe
  have HWE := Lib.hid hwe; have HA := Lib.hid ha; have HN := Lib.hid hn
  clear hwe ha hc hn
  obtain ⟨nm, sp, st, so, sc, ss, lo, lc, ls, to_, tc, ts⟩ := a
  simp only [Act.val]
  go_enter Try.func13, Try.ntmps13
  have GB : Hid (w.grownBy (w.alloc (.cells #[.string nm, .int .i64 sp, .int .i64 st, .slice so ss.length sc, .slice lo ls.length lc, .slice to_ ts.length tc] 26)) none) := World.grownBy_alloc _ _ _
  go_wp2_with fail
  refine (Splits_any ⟨nm, sp, st, so, sc, ss, lo, lc, ls, to_, tc, ts⟩ way _ (HA.out.grown GB.out) HWE).mono ?_; rintro x w1 ⟨⟨v1, rfl, ho1⟩, hg1⟩
  have HO1 := Lib.hid ho1
  have K := Lib.hid hg1
  clear ho1 hg1
  have a0 : w1.cell? ⟨w.heap.size, 0, none⟩ = some (.string nm) := grown_cell K.out (by go_simp)
  have a1 : w1.cell? ⟨w.heap.size, 1, none⟩ = some (.int .i64 sp) := grown_cell K.out (by go_simp)
  have a2 : w1.cell? ⟨w.heap.size, 2, none⟩ = some (.int .i64 st) := grown_cell K.out (by go_simp)
  have a3 : w1.cell? ⟨w.heap.size, 3, none⟩ = some (.slice so ss.length sc) := grown_cell K.out (by go_simp)
  have a4 : w1.cell? ⟨w.heap.size, 4, none⟩ = some (.slice lo ls.length lc) := grown_cell K.out (by go_simp)
  have a5 : w1.cell? ⟨w.heap.size, 5, none⟩ = some (.slice to_ ts.length tc) := grown_cell K.out (by go_simp)
  go_wp2_with fail
  refine (rSplits_any ⟨nm, sp, st, so, sc, ss, lo, lc, ls, to_, tc, ts⟩ way _ (HA.out.grown (grown_trans GB.out K.out)) HWE).mono ?_; rintro x w2 ⟨⟨v2, rfl, ho2⟩, hg2⟩
  have HO2 := Lib.hid ho2
  have HO1' := Lib.hid (HO1.out.kept hg2 (by cases v1.ownBlock <;> simp))
  replace K := Lib.hid (grown_trans K.out hg2)
  clear a0 a1 a2 a3 a4 a5 ho2 hg2 HO1
  go_wp2_with fail
  refine (equal_splits HO1'.out HO2.out HN.out).mono ?_; rintro x w3 ⟨rfl, hg3⟩
  replace K := Lib.hid (grown_trans K.out hg3)
  clear hg3
  go_wp2_with fail
  refine (told_any _).mono ?_; rintro x w4 ⟨rfl, hg4⟩
  replace K := Lib.hid (grown_trans K.out hg4)
  clear hg4
  go_wp2_with fail
  go_ret
  exact ⟨by first | rfl | simp, grown_trans GB.out K.out⟩

end Go.Proofs.Ytgkhhfojioepgaa
