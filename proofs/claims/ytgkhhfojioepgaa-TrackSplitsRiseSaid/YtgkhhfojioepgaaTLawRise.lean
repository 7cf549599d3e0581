/- Splits are as many as the way is long, come later and later, and not after the end: the walk. -/
import Derived.Test.YtgkhhfojioepgaaBaseD
import Derived.Test.YtgkhhfojioepgaaTSplitO
namespace Go.Proofs.Ytgkhhfojioepgaa
open Go.RowKit
set_option linter.unusedSimpArgs false
set_option linter.unusedVariables false

def teV (ss : List Smp) : Int := if ss.length = 0 then 0 else (smpD ss (ss.length - 1)).t
set_option maxHeartbeats 1600000 in
theorem span_is (nm : ByteArray) (sp st : Int) (so : Option Addr) (sc : Nat) (ss : List Smp) (lo : Option Addr) (lc : Nat) (ls : List LapV) (to_ : Option Addr) (tc : Nat) (ts : List ByteArray) (hl : (ss.length : Int) ≤ 20000) (w : World) (hs : SmpsAt w so ss) {te : Int} (h : Hid (teV ss = te)) :
    Calls Try.prog 53 #[.agg #[.string nm, .int .i64 sp, .int .i64 st, .slice so ss.length sc, .slice lo ls.length lc, .slice to_ ts.length tc]] w fun e w' => e = .returned (.int .i64 te) ∧ w.grownBy w' none := by
  have HS := Lib.hid (hs.grown (World.grownBy_alloc w (.cells #[.string nm, .int .i64 sp, .int .i64 st, .slice so ss.length sc, .slice lo ls.length lc, .slice to_ ts.length tc] 26) none))
  have hv := h.out
  unfold teV at hv
  by_cases h0 : ss.length = 0
  · rw [if_pos h0] at hv
    subst hv
    have hz : ((ss.length : Int) == 0) = true := by simp [h0]
    go_enter Try.func53, Try.ntmps53
    go_wp2_with fail
    go_ret
    exact ⟨rfl, World.grownBy_alloc _ _ _⟩
  · rw [if_neg h0] at hv
    obtain ⟨b, off, rfl⟩ : ∃ b off, so = some ⟨b, off, none⟩ := by
      have hne : ss ≠ [] := fun h => h0 (by rw [h]; rfl)
      cases so with
      | none => exact absurd (hs.nil rfl) hne
      | some p =>
        obtain ⟨b, off, spot⟩ := p
        have hsp := hs.spot _ rfl hne
        simp only at hsp
        subst hsp
        exact ⟨b, off, rfl⟩
    obtain ⟨i, hi⟩ : ∃ i, ss.length - 1 = i := ⟨_, rfl⟩
    have hin : i < ss.length := by omega
    have c0 := (HS.out.cells _ rfl i hin).1
    rw [← smpD_at hin] at c0
    rw [hi] at hv
    rw [hv] at c0
    simp only at c0
    have hz : ((ss.length : Int) == 0) = false := beq_eq_false_iff_ne.2 (by omega)
    have ri : IntKind.i64.wrap ((ss.length : Int) - 1) = (i : Int) := by rw [show (ss.length : Int) - 1 = (i : Int) by omega]; exact IntWalk.i64_in _ (by omega)
    have hin2 : (i : Int) < (ss.length : Int) := by omega
    have hi0 : (0 : Int) ≤ (i : Int) := by omega
    clear hs h hv hi
    go_enter Try.func53, Try.ntmps53
    go_wp2_with fail
    go_ret
    exact ⟨rfl, World.grownBy_alloc _ _ _⟩

set_option maxHeartbeats 1600000 in
theorem lengthL_is (nm : ByteArray) (sp st : Int) (so : Option Addr) (sc : Nat) (ss : List Smp) (lo : Option Addr) (lc : Nat) (ls : List LapV) (to_ : Option Addr) (tc : Nat) (ts : List ByteArray) (hl : (ss.length : Int) ≤ 20000) (w : World) (HA : Hid (ActAt w ⟨nm, sp, st, so, sc, ss, lo, lc, ls, to_, tc, ts⟩)) (HCE : Hid (chkE ⟨nm, sp, st, so, sc, ss, lo, lc, ls, to_, tc, ts⟩ = 0)) {L : Int} (h : Hid (wayN ss (ss.length - 1) = L)) :
    Calls Try.prog 52 #[.agg #[.string nm, .int .i64 sp, .int .i64 st, .slice so ss.length sc, .slice lo ls.length lc, .slice to_ ts.length tc]] w fun e w' => e = .returned (.int .i64 L) ∧ w.grownBy w' none := by
  have HW : Hid (waysE ⟨nm, sp, st, so, sc, ss, lo, lc, ls, to_, tc, ts⟩ = (ss.length, 0)) := by show _ = _; unfold waysE; rw [if_pos HCE.out]
  have GB := Lib.hid (World.grownBy_alloc w (.cells #[.string nm, .int .i64 sp, .int .i64 st, .slice so ss.length sc, .slice lo ls.length lc, .slice to_ ts.length tc] 26) none)
  go_enter Try.func52, Try.ntmps52
  go_wp2_with fail
  refine (ways_any ⟨nm, sp, st, so, sc, ss, lo, lc, ls, to_, tc, ts⟩ _ (HA.out.grown GB.out) HW).mono ?_; rintro x w1 ⟨⟨ao, cap, rfl, hI⟩, hg1⟩
  have G1 := Lib.hid (grown_trans GB.out hg1)
  by_cases h0 : ss.length = 0
  · have hz : ((ss.length : Int) == 0) = true := by simp [h0]
    have hL : L = 0 := by rw [← h.out, h0]; rfl
    subst hL
    clear hI hg1
    go_wp2_with fail
    go_ret
    exact ⟨rfl, G1.out⟩
  · obtain ⟨i, hi⟩ : ∃ i, ss.length - 1 = i := ⟨_, rfl⟩
    have hin : i < ss.length := by omega
    obtain ⟨g, rfl, c0⟩ := hI i hin
    rw [← hi, h.out, hi] at c0
    have hz : ((ss.length : Int) == 0) = false := beq_eq_false_iff_ne.2 (by omega)
    have ri : IntKind.i64.wrap ((ss.length : Int) - 1) = (i : Int) := by rw [show (ss.length : Int) - 1 = (i : Int) by omega]; exact IntWalk.i64_in _ (by omega)
    have hin2 : (i : Int) < (ss.length : Int) := by omega
    have hi0 : (0 : Int) ≤ (i : Int) := by omega
    clear hI hg1 hi
    go_wp2_with fail
    go_ret
    exact ⟨rfl, G1.out⟩

/-- A list of splits as a slice: where it lies. -/
theorem own_splits {w : World} {base n : Nat} {v : Value} {ss : List Smp} {way : Int} (h : w.ownsRow base 67 2 v n (splVs ss way n)) :
    ∃ ao cap, v = .slice ao n cap ∧ ∀ j, j < n → ∃ g, ao = some ⟨g, 0, none⟩ ∧ w.cell? ⟨g, j * 2, none⟩ = some (.int .i64 (spl ss way j).1) ∧ w.cell? ⟨g, j * 2 + 1, none⟩ = some (.int .i64 (spl ss way j).2) := by
  rcases h.2 with ⟨hv, h0⟩ | ⟨g, cap, cur, hv, hb, hg, rest⟩
  · exact ⟨none, 0, by rw [hv, h0], fun j hj => absurd hj (by omega)⟩
  · refine ⟨some ⟨g, 0, none⟩, cap, hv, fun j hj => ⟨g, rfl, ?_⟩⟩
    have fl : ∀ (m j i : Nat), j < m → i < 2 → (splVs ss way m)[j * 2 + i]? = (splCs (spl ss way j))[i]? := fun m => by
      induction m with
      | zero => intro j i hj _; omega
      | succ m ih =>
        intro j i hj hi
        have hlen : (splVs ss way m).length = m * 2 := by
          clear ih hj
          induction m with
          | zero => simp [splVs]
          | succ m ih => rw [splVs_succ, List.length_append, ih]; simp [splCs]; omega
        rw [splVs_succ]
        rcases Nat.lt_or_ge j m with q | q
        · rw [List.getElem?_append_left (by omega)]; exact ih j i q hi
        · obtain rfl : j = m := by omega
          rw [List.getElem?_append_right (by omega), hlen]
          congr 1; omega
    have hc : ∀ (i : Nat) (u : Value), i < 2 → (splCs (spl ss way j))[i]? = some u → w.cell? ⟨g, j * 2 + i, none⟩ = some u := fun i u hi hu => by
      have q := h.cells (g := g) (by rw [hv]; rfl) (j * 2 + i) u (by rw [fl n j i hj hi]; exact hu)
      have e : (⟨g, 0, none⟩ : Addr).add (j * 2 + i) = ⟨g, j * 2 + i, none⟩ := by unfold Addr.add; split <;> simp_all
      rw [e] at q; exact q
    exact ⟨hc 0 _ (by omega) rfl, hc 1 _ (by omega) rfl⟩

set_option maxRecDepth 100000 in
set_option maxHeartbeats 4000000 in
theorem rise_law (a : Act) (way : Int) (w : World) (ha : ActAt w a) (hc : a.ss.length ≤ a.sc) :
    Calls Try.prog 14 #[a.val, .int .i64 way] w fun e w' => e = .returned (.bool true) ∧ w.grownBy w' none := by
  rcases hwe : splitsE a way with ⟨n, E⟩
  have HWE := Lib.hid hwe; have HA := Lib.hid ha
  have hs0 : E = 0 → chkE a = 0 ∧ (1 ≤ way ∧ way ≤ 1000000000) ∧ n = cntN a.ss way (a.ss.length - 1) ∧ n ≤ 10000 := fun e => by
    unfold splitsE at hwe
    split at hwe
    · rename_i h1
      split at hwe
      · rename_i h2
        split at hwe
        · rename_i h3
          simp only [Prod.mk.injEq] at hwe
          exact ⟨h1, h2, hwe.1.symm, by rw [← hwe.1]; exact h3⟩
        · simp only [Prod.mk.injEq] at hwe; omega
      · simp only [Prod.mk.injEq] at hwe; omega
    · rename_i h1
      simp only [Prod.mk.injEq] at hwe; exact absurd (hwe.2.trans e) h1
  have HS0 := Lib.hid hs0
  clear hwe ha hc hs0
  obtain ⟨nm, sp, st, so, sc, ss, lo, lc, ls, to_, tc, ts⟩ := a
  simp only [Act.val] at *
  go_enter Try.func14, Try.ntmps14
  have GB : Hid (w.grownBy (w.alloc (.cells #[.string nm, .int .i64 sp, .int .i64 st, .slice so ss.length sc, .slice lo ls.length lc, .slice to_ ts.length tc] 26)) none) := World.grownBy_alloc _ _ _
  go_wp2_with fail
  refine (Splits_any ⟨nm, sp, st, so, sc, ss, lo, lc, ls, to_, tc, ts⟩ way _ (HA.out.grown GB.out) HWE).mono ?_; rintro x w1 ⟨⟨v1, rfl, ho1⟩, hg1⟩
  have HO1 := Lib.hid ho1
  have K := Lib.hid hg1
  clear ho1 hg1
  by_cases hE : E = 0
  · subst hE
    obtain ⟨hce, ⟨w0, w1'⟩, hn, hn4⟩ := HS0.out rfl
    try simp only at hn
    have hok := chk_ok hce
    have HP := Lib.hid hok.plane
    have HSO := Lib.hid (sok_of hok)
    have hl : (ss.length : Int) ≤ 20000 := hok.sl
    have HCE := Lib.hid hce
    obtain ⟨ao, cap, rfl, hcs⟩ := own_splits HO1.out
    have HCS := Lib.hid hcs
    obtain ⟨L, hL⟩ : ∃ L, wayN ss (ss.length - 1) = L := ⟨_, rfl⟩
    have hLb := wayN_bd HP.out (ss.length - 1)
    rw [hL] at hLb
    have HL := Lib.hid hL
    have hq0 : 0 ≤ L / way := Int.ediv_nonneg hLb.1 (by omega)
    have hq : L.tdiv way = (n : Int) := by
      rw [Int.tdiv_eq_ediv_of_nonneg hLb.1]
      have : n = (L / way).toNat := by rw [hn, ← hL]; rfl
      omega
    have rn : IntKind.i64.wrap (n : Int) = (n : Int) := IntWalk.i64_in _ (by omega)
    have wz : (way == 0) = false := by simp; omega
    have wz2 : ¬ way = 0 := by omega
    obtain ⟨te, hte⟩ : ∃ te, teV ss = te := ⟨_, rfl⟩
    have HTE := Lib.hid hte
    have HN := Lib.hid hn
    have a0 : w1.cell? ⟨w.heap.size, 0, none⟩ = some (.string nm) := grown_cell K.out (by go_simp)
    have a1 : w1.cell? ⟨w.heap.size, 1, none⟩ = some (.int .i64 sp) := grown_cell K.out (by go_simp)
    have a2 : w1.cell? ⟨w.heap.size, 2, none⟩ = some (.int .i64 st) := grown_cell K.out (by go_simp)
    have a3 : w1.cell? ⟨w.heap.size, 3, none⟩ = some (.slice so ss.length sc) := grown_cell K.out (by go_simp)
    have a4 : w1.cell? ⟨w.heap.size, 4, none⟩ = some (.slice lo ls.length lc) := grown_cell K.out (by go_simp)
    have a5 : w1.cell? ⟨w.heap.size, 5, none⟩ = some (.slice to_ ts.length tc) := grown_cell K.out (by go_simp)
    have A := Lib.hid (And.intro a0 (And.intro a1 (And.intro a2 (And.intro a3 (And.intro a4 a5)))))
    clear hok hce hn hL hte hcs
    go_wp2_with fail
    refine (lengthL_is nm sp st so sc ss lo lc ls to_ tc ts hl _ (Lib.hid (HA.out.grown (grown_trans GB.out K.out))) HCE HL).mono ?_; rintro x w2 ⟨rfl, hg2⟩
    have HG2 := Lib.hid hg2
    have K2 := Lib.hid (grown_trans K.out hg2)
    clear a0 a1 a2 a3 a4 a5 hg2
    go_wp2_with fail
    go_loopw [27] (fun iv wr => ∃ (j : Nat), j ≤ n ∧ iv = .int .i64 j ∧ Hid (w2.grownBy wr none)) (fun iv _ => n - (intOf iv).toNat)
    case atStart => exact ⟨0, Nat.zero_le _, rfl, grown_refl _ _⟩
    case round =>
      obtain ⟨j, hj, rfl, hg⟩ := hrel
      by_cases hlt : j < n
      · obtain ⟨j0, hj0⟩ : ∃ j0, j0 = j - 1 := ⟨_, rfl⟩
        obtain ⟨g, rfl, c0, c1⟩ := HCS.out j hlt
        obtain ⟨g2, e2, _, d1⟩ := HCS.out j0 (by omega)
        obtain rfl : g = g2 := by injection e2 with e2; injection e2
        have hr := spl_rise HP.out w0 HSO.out.up (fun i hi => ⟨(HSO.out.inn i hi).1, (HSO.out.inn i hi).2.1⟩) (j := j) (by rw [← HN.out]; exact hlt)
        have hss : ss.length ≠ 0 := fun h => by
          have := HN.out
          rw [h] at this
          rw [show (0 : Nat) - 1 = 0 from rfl, cnt_zero] at this
          omega
        have hte2 : te = (smpD ss (ss.length - 1)).t := by rw [← HTE.out]; unfold teV; rw [if_neg hss]
        have hteb := HSO.out.inn (ss.length - 1) (by omega)
        rw [← hte2] at hr hteb
        obtain ⟨nx, hnx⟩ : ∃ nx, (spl ss way j).1 = nx := ⟨_, rfl⟩
        obtain ⟨at_, hat⟩ : ∃ x, (spl ss way j).2 = x := ⟨_, rfl⟩
        obtain ⟨at0, hat0⟩ : ∃ x, (spl ss way j0).2 = x := ⟨_, rfl⟩
        have hnx2 : ((j : Int) + 1) * way = nx := hnx
        have hnb := nxW_bd w0 w1' (m := j) (by omega)
        rw [show nxW way j = nx from hnx2] at hnb
        rw [hnx] at c0
        rw [hat] at c1 hr
        rw [hat0] at d1
        have hr3 : 0 < j → at0 ≤ at_ := fun h => by rw [← hat0]; exact hr.2.2 j0 (by omega)
        have hr1 := hr.1; have hr2 := hr.2.1
        have GG := Lib.hid (grown_trans HG2.out hg.out)
        have cc0 := grown_cell GG.out c0; have cc1 := grown_cell GG.out c1; have dd1 := grown_cell GG.out d1
        have AA := fun (i : Nat) (u : Value) (h : w1.cell? ⟨w.heap.size, i, none⟩ = some u) => grown_cell GG.out h
        obtain ⟨a0, a1, a2, a3, a4, a5⟩ := A.out
        replace a0 := AA _ _ a0; replace a1 := AA _ _ a1; replace a2 := AA _ _ a2; replace a3 := AA _ _ a3; replace a4 := AA _ _ a4; replace a5 := AA _ _ a5
        have HSM : Hid (SmpsAt (wr.alloc (.cells #[.int .i64 nx, .int .i64 at_] 67)) so ss) := (HA.out.hs).grown (grown_trans GB.out (grown_trans K2.out (grown_trans hg.out (World.grownBy_alloc _ _ none))))
        have HC : Hid (∀ V, (wr.alloc (.cells #[.int .i64 nx, .int .i64 at_] 67)).drew.grownBy V none → V.cell? ⟨wr.heap.size, 0, none⟩ = some (.int .i64 nx) ∧ V.cell? ⟨wr.heap.size, 1, none⟩ = some (.int .i64 at_) ∧ V.cell? ⟨w.heap.size, 0, none⟩ = some (.string nm) ∧ V.cell? ⟨w.heap.size, 1, none⟩ = some (.int .i64 sp) ∧ V.cell? ⟨w.heap.size, 2, none⟩ = some (.int .i64 st) ∧ V.cell? ⟨w.heap.size, 3, none⟩ = some (.slice so ss.length sc) ∧ V.cell? ⟨w.heap.size, 4, none⟩ = some (.slice lo ls.length lc) ∧ V.cell? ⟨w.heap.size, 5, none⟩ = some (.slice to_ ts.length tc) ∧ V.cell? ⟨g, j0 * 2 + 1, none⟩ = some (.int .i64 at0)) := fun V hV => by
          have hh := heap_alloc_new wr (.cells #[.int .i64 nx, .int .i64 at_] 67)
          have n0 : (wr.alloc (.cells #[.int .i64 nx, .int .i64 at_] 67)).cell? ⟨wr.heap.size, 0, none⟩ = some (.int .i64 nx) := (cell_of_row _ _ 0 _ _ (0, 0) hh).trans (by simp)
          have n1 : (wr.alloc (.cells #[.int .i64 nx, .int .i64 at_] 67)).cell? ⟨wr.heap.size, 1, none⟩ = some (.int .i64 at_) := (cell_of_row _ _ 1 _ _ (0, 0) hh).trans (by simp)
          have hgg := grown_trans (World.grownBy_alloc wr (.cells #[.int .i64 nx, .int .i64 at_] 67) none) (grown_trans (grown_drewN _ _ 1) hV)
          have hgn := grown_trans (grown_drewN (wr.alloc (.cells #[.int .i64 nx, .int .i64 at_] 67)) _ 1) hV
          exact ⟨grown_cell hgn n0, grown_cell hgn n1, grown_cell hgg a0, grown_cell hgg a1, grown_cell hgg a2, grown_cell hgg a3, grown_cell hgg a4, grown_cell hgg a5, grown_cell hgg dd1⟩
        have rj : IntKind.i64.wrap ((j : Int) + 1) = (j : Int) + 1 := IntWalk.i64_in _ (by omega)
        have rm : IntKind.i64.wrap (((j : Int) + 1) * way) = nx := by rw [hnx2]; exact IntWalk.i64_in _ (by omega)
        have rte : IntKind.i64.wrap (1000 * te) = 1000 * te := IntWalk.i64_in _ (by omega)
        have e1 : decide (at_ < 0) = false := by simp; omega
        have e2 : decide (1000 * te < at_) = false := by simp; omega
        have jn : (j : Int) < (n : Int) := by omega
        have j00 : (0 : Int) ≤ (j : Int) := by omega
        clear c0 c1 d1 dd1 a0 a1 a2 a3 a4 a5 AA hr hnx hnx2 hat hat0 hte2 hteb
        by_cases hz : j = 0
        · have e3 : decide ((0 : Int) < (j : Int)) = false := by simp; omega
          have e3b : decide (0 < j) = false := by simp; omega
          have e3c : ¬ 0 < j := by omega
          have HZ := Lib.hid hz; have HJ0 := Lib.hid hj0
          clear hz hj0 hr3
          go_wp2_with fail
          refine wp_region_held_drew (S := fun V => (wr.alloc (.cells #[.int .i64 nx, .int .i64 at_] 67)).drew.grownBy V none) (by kernel_rfl) (World.grownBy.refl _ _) (fun hHeld => ?_)
          refine wpAnyH_take (i := 0) (oi := ?oiz0) (v := .pointer (some ⟨wr.heap.size, 0, none⟩)) ?hiz0 (by kernel_rfl) (by kernel_rfl) (by kernel_rfl) ?hqz0 ?hyz0 hHeld ?restz0
          case hiz0 => simp only [List.getElem?_toArray, List.getElem?_cons_succ, List.getElem?_cons_zero, Option.some.injEq]; rfl
          case hqz0 => exact fun _ _ _ h => h
          case hyz0 =>
            refine Or.inl ⟨by kernel_rfl, fun V hV => ?_⟩
            clear hV
            go_simp
          try simp only [Go.Act.put, List.setIfInBounds_toArray, List.set_cons_zero, List.set_cons_succ]
          refine wpAnyH_take (i := 1) (oi := ?oiz1) (v := .int .i64 nx) ?hiz1 (by kernel_rfl) (by kernel_rfl) (by kernel_rfl) ?hqz1 ?hyz1 hHeld ?restz1
          case hiz1 => simp only [List.getElem?_toArray, List.getElem?_cons_succ, List.getElem?_cons_zero, Option.some.injEq]; rfl
          case hqz1 => exact fun _ _ _ h => h
          case hyz1 =>
            refine Or.inl ⟨by kernel_rfl, fun V hV => ?_⟩
            have q1 := (HC.out V hV).1; clear hV
            go_simp
          try simp only [Go.Act.put, List.setIfInBounds_toArray, List.set_cons_zero, List.set_cons_succ]
          refine wpAnyH_take (i := 2) (oi := ?oiz2) (v := .int .i64 (j : Nat)) ?hiz2 (by kernel_rfl) (by kernel_rfl) (by kernel_rfl) ?hqz2 ?hyz2 hHeld ?restz2
          case hiz2 => simp only [List.getElem?_toArray, List.getElem?_cons_succ, List.getElem?_cons_zero, Option.some.injEq]; rfl
          case hqz2 => exact fun _ _ _ h => h
          case hyz2 =>
            refine Or.inl ⟨by kernel_rfl, fun V hV => ?_⟩
            clear hV
            go_simp
          try simp only [Go.Act.put, List.setIfInBounds_toArray, List.set_cons_zero, List.set_cons_succ]
          refine wpAnyH_take (i := 3) (oi := ?oiz3) (v := .int .i64 ((j : Nat) + 1)) ?hiz3 (by kernel_rfl) (by kernel_rfl) (by kernel_rfl) ?hqz3 ?hyz3 hHeld ?restz3
          case hiz3 => simp only [List.getElem?_toArray, List.getElem?_cons_succ, List.getElem?_cons_zero, Option.some.injEq]; rfl
          case hqz3 => exact fun _ _ _ h => h
          case hyz3 =>
            refine Or.inl ⟨by kernel_rfl, fun V hV => ?_⟩
            clear hV
            go_simp
          try simp only [Go.Act.put, List.setIfInBounds_toArray, List.set_cons_zero, List.set_cons_succ]
          refine wpAnyH_take (i := 4) (oi := ?oiz4) (v := .int .i64 way) ?hiz4 (by kernel_rfl) (by kernel_rfl) (by kernel_rfl) ?hqz4 ?hyz4 hHeld ?restz4
          case hiz4 => simp only [List.getElem?_toArray, List.getElem?_cons_succ, List.getElem?_cons_zero, Option.some.injEq]; rfl
          case hqz4 => exact fun _ _ _ h => h
          case hyz4 =>
            refine Or.inl ⟨by kernel_rfl, fun V hV => ?_⟩
            clear hV
            go_simp
          try simp only [Go.Act.put, List.setIfInBounds_toArray, List.set_cons_zero, List.set_cons_succ]
          refine wpAnyH_take (i := 5) (oi := ?oiz5) (v := .int .i64 nx) ?hiz5 (by kernel_rfl) (by kernel_rfl) (by kernel_rfl) ?hqz5 ?hyz5 hHeld ?restz5
          case hiz5 => simp only [List.getElem?_toArray, List.getElem?_cons_succ, List.getElem?_cons_zero, Option.some.injEq]; rfl
          case hqz5 => exact fun _ _ _ h => h
          case hyz5 =>
            refine Or.inl ⟨by kernel_rfl, fun V hV => ?_⟩
            clear hV
            go_simp
          try simp only [Go.Act.put, List.setIfInBounds_toArray, List.set_cons_zero, List.set_cons_succ]
          refine wpAnyH_take (i := 6) (oi := ?oiz6) (v := .bool false) ?hiz6 (by kernel_rfl) (by kernel_rfl) (by kernel_rfl) ?hqz6 ?hyz6 hHeld ?restz6
          case hiz6 => simp only [List.getElem?_toArray, List.getElem?_cons_succ, List.getElem?_cons_zero, Option.some.injEq]; rfl
          case hqz6 => exact fun _ _ _ h => h
          case hyz6 =>
            refine Or.inl ⟨by kernel_rfl, fun V hV => ?_⟩
            clear hV
            go_simp
          try simp only [Go.Act.put, List.setIfInBounds_toArray, List.set_cons_zero, List.set_cons_succ]
          refine wpAnyH_take (i := 7) (oi := ?oiz7) (v := .bool false) ?hiz7 (by kernel_rfl) (by kernel_rfl) (by kernel_rfl) ?hqz7 ?hyz7 hHeld ?restz7
          case hiz7 => simp only [List.getElem?_toArray, List.getElem?_cons_succ, List.getElem?_cons_zero, Option.some.injEq]; rfl
          case hqz7 => exact fun _ _ _ h => h
          case hyz7 =>
            refine Or.inl ⟨by kernel_rfl, fun V hV => ?_⟩
            clear hV
            go_simp
          try simp only [Go.Act.put, List.setIfInBounds_toArray, List.set_cons_zero, List.set_cons_succ]
          refine wpAnyH_take (i := 8) (oi := ?oiz8) (v := .pointer (some ⟨wr.heap.size, 1, none⟩)) ?hiz8 (by kernel_rfl) (by kernel_rfl) (by kernel_rfl) ?hqz8 ?hyz8 hHeld ?restz8
          case hiz8 => simp only [List.getElem?_toArray, List.getElem?_cons_succ, List.getElem?_cons_zero, Option.some.injEq]; rfl
          case hqz8 => exact fun _ _ _ h => h
          case hyz8 =>
            refine Or.inl ⟨by kernel_rfl, fun V hV => ?_⟩
            clear hV
            go_simp
          try simp only [Go.Act.put, List.setIfInBounds_toArray, List.set_cons_zero, List.set_cons_succ]
          refine wpAnyH_take (i := 9) (oi := ?oiz9) (v := .int .i64 at_) ?hiz9 (by kernel_rfl) (by kernel_rfl) (by kernel_rfl) ?hqz9 ?hyz9 hHeld ?restz9
          case hiz9 => simp only [List.getElem?_toArray, List.getElem?_cons_succ, List.getElem?_cons_zero, Option.some.injEq]; rfl
          case hqz9 => exact fun _ _ _ h => h
          case hyz9 =>
            refine Or.inl ⟨by kernel_rfl, fun V hV => ?_⟩
            have q1 := (HC.out V hV).2.1; clear hV
            go_simp
          try simp only [Go.Act.put, List.setIfInBounds_toArray, List.set_cons_zero, List.set_cons_succ]
          refine wpAnyH_take (i := 10) (oi := ?oiz10) (v := .bool false) ?hiz10 (by kernel_rfl) (by kernel_rfl) (by kernel_rfl) ?hqz10 ?hyz10 hHeld ?restz10
          case hiz10 => simp only [List.getElem?_toArray, List.getElem?_cons_succ, List.getElem?_cons_zero, Option.some.injEq]; rfl
          case hqz10 => exact fun _ _ _ h => h
          case hyz10 =>
            refine Or.inl ⟨by kernel_rfl, fun V hV => ?_⟩
            clear hV
            go_simp
          try simp only [Go.Act.put, List.setIfInBounds_toArray, List.set_cons_zero, List.set_cons_succ]
          refine wpAnyH_take (i := 11) (oi := ?oiz11) (v := .bool false) ?hiz11 (by kernel_rfl) (by kernel_rfl) (by kernel_rfl) ?hqz11 ?hyz11 hHeld ?restz11
          case hiz11 => simp only [List.getElem?_toArray, List.getElem?_cons_succ, List.getElem?_cons_zero, Option.some.injEq]; rfl
          case hqz11 => exact fun _ _ _ h => h
          case hyz11 =>
            refine Or.inl ⟨by kernel_rfl, fun V hV => ?_⟩
            clear hV
            go_simp
          try simp only [Go.Act.put, List.setIfInBounds_toArray, List.set_cons_zero, List.set_cons_succ]
          refine wpAnyH_take (i := 12) (oi := ?oiz12) (v := .bool false) ?hiz12 (by kernel_rfl) (by kernel_rfl) (by kernel_rfl) ?hqz12 ?hyz12 hHeld ?restz12
          case hiz12 => simp only [List.getElem?_toArray, List.getElem?_cons_succ, List.getElem?_cons_zero, Option.some.injEq]; rfl
          case hqz12 => exact fun _ _ _ h => h
          case hyz12 =>
            refine Or.inl ⟨by kernel_rfl, fun V hV => ?_⟩
            clear hV
            go_simp
          try simp only [Go.Act.put, List.setIfInBounds_toArray, List.set_cons_zero, List.set_cons_succ]
          refine wpAnyH_take (i := 13) (oi := ?oiz13) (v := .pointer (some ⟨wr.heap.size, 1, none⟩)) ?hiz13 (by kernel_rfl) (by kernel_rfl) (by kernel_rfl) ?hqz13 ?hyz13 hHeld ?restz13
          case hiz13 => simp only [List.getElem?_toArray, List.getElem?_cons_succ, List.getElem?_cons_zero, Option.some.injEq]; rfl
          case hqz13 => exact fun _ _ _ h => h
          case hyz13 =>
            refine Or.inl ⟨by kernel_rfl, fun V hV => ?_⟩
            clear hV
            go_simp
          try simp only [Go.Act.put, List.setIfInBounds_toArray, List.set_cons_zero, List.set_cons_succ]
          refine wpAnyH_take (i := 14) (oi := ?oiz14) (v := .int .i64 at_) ?hiz14 (by kernel_rfl) (by kernel_rfl) (by kernel_rfl) ?hqz14 ?hyz14 hHeld ?restz14
          case hiz14 => simp only [List.getElem?_toArray, List.getElem?_cons_succ, List.getElem?_cons_zero, Option.some.injEq]; rfl
          case hqz14 => exact fun _ _ _ h => h
          case hyz14 =>
            refine Or.inl ⟨by kernel_rfl, fun V hV => ?_⟩
            have q1 := (HC.out V hV).2.1; clear hV
            go_simp
          try simp only [Go.Act.put, List.setIfInBounds_toArray, List.set_cons_zero, List.set_cons_succ]
          refine wpAnyH_take (i := 15) (oi := ?oiz15) (v := .agg #[.string nm, .int .i64 sp, .int .i64 st, .slice so ss.length sc, .slice lo ls.length lc, .slice to_ ts.length tc]) ?hiz15 (by kernel_rfl) (by kernel_rfl) (by kernel_rfl) ?hqz15 ?hyz15 hHeld ?restz15
          case hiz15 => simp only [List.getElem?_toArray, List.getElem?_cons_succ, List.getElem?_cons_zero, Option.some.injEq]; rfl
          case hqz15 => exact fun _ _ _ h => h
          case hyz15 =>
            refine Or.inl ⟨by kernel_rfl, fun V hV => ?_⟩
            obtain ⟨_, _, k0, k1, k2, k3, k4, k5, _⟩ := HC.out V hV; clear hV
            go_simp
          try simp only [Go.Act.put, List.setIfInBounds_toArray, List.set_cons_zero, List.set_cons_succ]
          refine wpAnyH_ready (rs := [16]) (by kernel_rfl) (by simp) ?_
          refine AllReadyH.cons rfl (fun K hK => ?_) AllReadyH.nil
          go_simp
          refine (span_is nm sp st so sc ss lo lc ls to_ tc ts hl _ (HSM.out.grown (grown_drewN _ _ 1)) HTE).mono ?_
          rintro e w5 ⟨rfl, hg5⟩
          refine hK.out _ _ (grown_trans hHeld hg5) (fun hHeld1 => ?_)
          clear hK K
          try simp only [Go.Act.put, List.setIfInBounds_toArray, List.set_cons_zero, List.set_cons_succ]
          refine wpAnyH_take (i := 17) (oi := ?oiz17) (v := .int .i64 (1000 * te)) ?hiz17 (by kernel_rfl) (by kernel_rfl) (by kernel_rfl) ?hqz17 ?hyz17 hHeld1 ?restz17
          case hiz17 => simp only [List.getElem?_toArray, List.getElem?_cons_succ, List.getElem?_cons_zero, Option.some.injEq]; rfl
          case hqz17 => exact fun _ _ _ h => h
          case hyz17 =>
            refine Or.inl ⟨by kernel_rfl, fun V hV => ?_⟩
            clear hV
            go_simp
          try simp only [Go.Act.put, List.setIfInBounds_toArray, List.set_cons_zero, List.set_cons_succ]
          refine wpAnyH_take (i := 18) (oi := ?oiz18) (v := .bool false) ?hiz18 (by kernel_rfl) (by kernel_rfl) (by kernel_rfl) ?hqz18 ?hyz18 hHeld1 ?restz18
          case hiz18 => simp only [List.getElem?_toArray, List.getElem?_cons_succ, List.getElem?_cons_zero, Option.some.injEq]; rfl
          case hqz18 => exact fun _ _ _ h => h
          case hyz18 =>
            refine Or.inl ⟨by kernel_rfl, fun V hV => ?_⟩
            clear hV
            go_simp
          try simp only [Go.Act.put, List.setIfInBounds_toArray, List.set_cons_zero, List.set_cons_succ]
          refine wpAnyH_take (i := 19) (oi := ?oiz19) (v := .bool false) ?hiz19 (by kernel_rfl) (by kernel_rfl) (by kernel_rfl) ?hqz19 ?hyz19 hHeld1 ?restz19
          case hiz19 => simp only [List.getElem?_toArray, List.getElem?_cons_succ, List.getElem?_cons_zero, Option.some.injEq]; rfl
          case hqz19 => exact fun _ _ _ h => h
          case hyz19 =>
            refine Or.inl ⟨by kernel_rfl, fun V hV => ?_⟩
            clear hV
            go_simp
          try simp only [Go.Act.put, List.setIfInBounds_toArray, List.set_cons_zero, List.set_cons_succ]
          refine wpAnyH_take (i := 20) (oi := ?oiz20) (v := .bool false) ?hiz20 (by kernel_rfl) (by kernel_rfl) (by kernel_rfl) ?hqz20 ?hyz20 hHeld1 ?restz20
          case hiz20 => simp only [List.getElem?_toArray, List.getElem?_cons_succ, List.getElem?_cons_zero, Option.some.injEq]; rfl
          case hqz20 => exact fun _ _ _ h => h
          case hyz20 =>
            refine Or.inl ⟨by kernel_rfl, fun V hV => ?_⟩
            clear hV
            go_simp
          try simp only [Go.Act.put, List.setIfInBounds_toArray, List.set_cons_zero, List.set_cons_succ]
          refine wpAnyH_take (i := 21) (oi := ?oiz21) (v := .int .i64 (j : Nat)) ?hiz21 (by kernel_rfl) (by kernel_rfl) (by kernel_rfl) ?hqz21 ?hyz21 hHeld1 ?restz21
          case hiz21 => simp only [List.getElem?_toArray, List.getElem?_cons_succ, List.getElem?_cons_zero, Option.some.injEq]; rfl
          case hqz21 => exact fun _ _ _ h => h
          case hyz21 =>
            refine Or.inl ⟨by kernel_rfl, fun V hV => ?_⟩
            clear hV
            go_simp
          try simp only [Go.Act.put, List.setIfInBounds_toArray, List.set_cons_zero, List.set_cons_succ]
          refine wpAnyH_take (i := 22) (oi := ?oiz22) (v := .bool false) ?hiz22 (by kernel_rfl) (by kernel_rfl) (by kernel_rfl) ?hqz22 ?hyz22 hHeld1 ?restz22
          case hiz22 => simp only [List.getElem?_toArray, List.getElem?_cons_succ, List.getElem?_cons_zero, Option.some.injEq]; rfl
          case hqz22 => exact fun _ _ _ h => h
          case hyz22 =>
            refine Or.inl ⟨by kernel_rfl, fun V hV => ?_⟩
            clear hV
            go_simp
          try simp only [Go.Act.put, List.setIfInBounds_toArray, List.set_cons_zero, List.set_cons_succ]
          refine wpAnyH_take (i := 23) (oi := ?oiz23) (v := .bool false) ?hiz23 (by kernel_rfl) (by kernel_rfl) (by kernel_rfl) ?hqz23 ?hyz23 hHeld1 ?restz23
          case hiz23 => simp only [List.getElem?_toArray, List.getElem?_cons_succ, List.getElem?_cons_zero, Option.some.injEq]; rfl
          case hqz23 => exact fun _ _ _ h => h
          case hyz23 =>
            refine Or.inl ⟨by kernel_rfl, fun V hV => ?_⟩
            clear hV
            go_simp
          try simp only [Go.Act.put, List.setIfInBounds_toArray, List.set_cons_zero, List.set_cons_succ]
          refine wpAnyH_take (i := 24) (oi := ?oiz24) (v := undef) ?hiz24 (by kernel_rfl) (by kernel_rfl) (by kernel_rfl) ?hqz24 ?hyz24 hHeld1 ?restz24
          case hiz24 => simp only [List.getElem?_toArray, List.getElem?_cons_succ, List.getElem?_cons_zero, Option.some.injEq]; rfl
          case hqz24 => exact fun _ _ _ h => h
          case hyz24 => exact Or.inr ⟨by kernel_rfl, rfl⟩
          try simp only [Go.Act.put, List.setIfInBounds_toArray, List.set_cons_zero, List.set_cons_succ]
          refine wpAnyH_take (i := 25) (oi := ?oiz25) (v := undef) ?hiz25 (by kernel_rfl) (by kernel_rfl) (by kernel_rfl) ?hqz25 ?hyz25 hHeld1 ?restz25
          case hiz25 => simp only [List.getElem?_toArray, List.getElem?_cons_succ, List.getElem?_cons_zero, Option.some.injEq]; rfl
          case hqz25 => exact fun _ _ _ h => h
          case hyz25 => exact Or.inr ⟨by kernel_rfl, rfl⟩
          try simp only [Go.Act.put, List.setIfInBounds_toArray, List.set_cons_zero, List.set_cons_succ]
          refine wpAnyH_take (i := 26) (oi := ?oiz26) (v := undef) ?hiz26 (by kernel_rfl) (by kernel_rfl) (by kernel_rfl) ?hqz26 ?hyz26 hHeld1 ?restz26
          case hiz26 => simp only [List.getElem?_toArray, List.getElem?_cons_succ, List.getElem?_cons_zero, Option.some.injEq]; rfl
          case hqz26 => exact fun _ _ _ h => h
          case hyz26 => exact Or.inr ⟨by kernel_rfl, rfl⟩
          try simp only [Go.Act.put, List.setIfInBounds_toArray, List.set_cons_zero, List.set_cons_succ]
          refine wpAnyH_take (i := 27) (oi := ?oiz27) (v := undef) ?hiz27 (by kernel_rfl) (by kernel_rfl) (by kernel_rfl) ?hqz27 ?hyz27 hHeld1 ?restz27
          case hiz27 => simp only [List.getElem?_toArray, List.getElem?_cons_succ, List.getElem?_cons_zero, Option.some.injEq]; rfl
          case hqz27 => exact fun _ _ _ h => h
          case hyz27 => exact Or.inr ⟨by kernel_rfl, rfl⟩
          try simp only [Go.Act.put, List.setIfInBounds_toArray, List.set_cons_zero, List.set_cons_succ]
          refine wpAnyH_take (i := 28) (oi := ?oiz28) (v := undef) ?hiz28 (by kernel_rfl) (by kernel_rfl) (by kernel_rfl) ?hqz28 ?hyz28 hHeld1 ?restz28
          case hiz28 => simp only [List.getElem?_toArray, List.getElem?_cons_succ, List.getElem?_cons_zero, Option.some.injEq]; rfl
          case hqz28 => exact fun _ _ _ h => h
          case hyz28 => exact Or.inr ⟨by kernel_rfl, rfl⟩
          try simp only [Go.Act.put, List.setIfInBounds_toArray, List.set_cons_zero, List.set_cons_succ]
          refine wpAnyH_take (i := 29) (oi := ?oiz29) (v := undef) ?hiz29 (by kernel_rfl) (by kernel_rfl) (by kernel_rfl) ?hqz29 ?hyz29 hHeld1 ?restz29
          case hiz29 => simp only [List.getElem?_toArray, List.getElem?_cons_succ, List.getElem?_cons_zero, Option.some.injEq]; rfl
          case hqz29 => exact fun _ _ _ h => h
          case hyz29 => exact Or.inr ⟨by kernel_rfl, rfl⟩
          try simp only [Go.Act.put, List.setIfInBounds_toArray, List.set_cons_zero, List.set_cons_succ]
          refine wpAnyH_take (i := 30) (oi := ?oiz30) (v := undef) ?hiz30 (by kernel_rfl) (by kernel_rfl) (by kernel_rfl) ?hqz30 ?hyz30 hHeld1 ?restz30
          case hiz30 => simp only [List.getElem?_toArray, List.getElem?_cons_succ, List.getElem?_cons_zero, Option.some.injEq]; rfl
          case hqz30 => exact fun _ _ _ h => h
          case hyz30 => exact Or.inr ⟨by kernel_rfl, rfl⟩
          try simp only [Go.Act.put, List.setIfInBounds_toArray, List.set_cons_zero, List.set_cons_succ]
          refine wpAnyH_take (i := 31) (oi := ?oiz31) (v := undef) ?hiz31 (by kernel_rfl) (by kernel_rfl) (by kernel_rfl) ?hqz31 ?hyz31 hHeld1 ?restz31
          case hiz31 => simp only [List.getElem?_toArray, List.getElem?_cons_succ, List.getElem?_cons_zero, Option.some.injEq]; rfl
          case hqz31 => exact fun _ _ _ h => h
          case hyz31 => exact Or.inr ⟨by kernel_rfl, rfl⟩
          try simp only [Go.Act.put, List.setIfInBounds_toArray, List.set_cons_zero, List.set_cons_succ]
          refine wpAnyH_take (i := 32) (oi := ?oiz32) (v := undef) ?hiz32 (by kernel_rfl) (by kernel_rfl) (by kernel_rfl) ?hqz32 ?hyz32 hHeld1 ?restz32
          case hiz32 => simp only [List.getElem?_toArray, List.getElem?_cons_succ, List.getElem?_cons_zero, Option.some.injEq]; rfl
          case hqz32 => exact fun _ _ _ h => h
          case hyz32 => exact Or.inr ⟨by kernel_rfl, rfl⟩
          try simp only [Go.Act.put, List.setIfInBounds_toArray, List.set_cons_zero, List.set_cons_succ]
          refine wpAnyH_take (i := 33) (oi := ?oiz33) (v := .bool false) ?hiz33 (by kernel_rfl) (by kernel_rfl) (by kernel_rfl) ?hqz33 ?hyz33 hHeld1 ?restz33
          case hiz33 => simp only [List.getElem?_toArray, List.getElem?_cons_succ, List.getElem?_cons_zero, Option.some.injEq]; rfl
          case hqz33 => exact fun _ _ _ h => h
          case hyz33 =>
            refine Or.inl ⟨by kernel_rfl, fun V hV => ?_⟩
            clear hV
            go_simp
          try simp only [Go.Act.put, List.setIfInBounds_toArray, List.set_cons_zero, List.set_cons_succ]
          refine wpAnyH_take (i := 34) (oi := ?oiz34) (v := .bool false) ?hiz34 (by kernel_rfl) (by kernel_rfl) (by kernel_rfl) ?hqz34 ?hyz34 hHeld1 ?restz34
          case hiz34 => simp only [List.getElem?_toArray, List.getElem?_cons_succ, List.getElem?_cons_zero, Option.some.injEq]; rfl
          case hqz34 => exact fun _ _ _ h => h
          case hyz34 =>
            refine Or.inl ⟨by kernel_rfl, fun V hV => ?_⟩
            clear hV
            go_simp
          try simp only [Go.Act.put, List.setIfInBounds_toArray, List.set_cons_zero, List.set_cons_succ]
          refine wpAnyH_done (by kernel_rfl) ?_ _
          have GN : Hid (w2.grownBy w5 none) := grown_trans (grown_trans (grown_trans hg.out (World.grownBy_alloc _ _ none)) (grown_drewN _ _ 1)) hHeld1
          clear hHeld hHeld1 hg5 hg
          go_wp2_with fail
          go_roundw
          case rel => exact ⟨j + 1, by omega, by go_num, GN.out⟩
          case measure => first | (simp [intOf]; done) | (simp [intOf]; omega)
        · have e3 : decide ((0 : Int) < (j : Int)) = true := by simp; omega
          have e4 : decide (at_ < at0) = false := by have := hr3 (by omega); simp; omega
          have rj1 : IntKind.i64.wrap ((j : Int) - 1) = (j0 : Int) := by rw [show (j : Int) - 1 = (j0 : Int) by omega]; exact IntWalk.i64_in _ (by omega)
          have j0n : (j0 : Int) < (n : Int) := by omega
          have j000 : (0 : Int) ≤ (j0 : Int) := by omega
          have e3c : 0 < j := by omega
          have j0nn : j0 < n := by omega
          have HJ0 := Lib.hid hj0
          clear hj0 hz hr3
          go_wp2_with fail
          refine wp_region_held_drew (S := fun V => (wr.alloc (.cells #[.int .i64 nx, .int .i64 at_] 67)).drew.grownBy V none) (by kernel_rfl) (World.grownBy.refl _ _) (fun hHeld => ?_)
          refine wpAnyH_take (i := 0) (oi := ?oip0) (v := .pointer (some ⟨wr.heap.size, 0, none⟩)) ?hip0 (by kernel_rfl) (by kernel_rfl) (by kernel_rfl) ?hqp0 ?hyp0 hHeld ?restp0
          case hip0 => simp only [List.getElem?_toArray, List.getElem?_cons_succ, List.getElem?_cons_zero, Option.some.injEq]; rfl
          case hqp0 => exact fun _ _ _ h => h
          case hyp0 =>
            refine Or.inl ⟨by kernel_rfl, fun V hV => ?_⟩
            clear hV
            go_simp
          try simp only [Go.Act.put, List.setIfInBounds_toArray, List.set_cons_zero, List.set_cons_succ]
          refine wpAnyH_take (i := 1) (oi := ?oip1) (v := .int .i64 nx) ?hip1 (by kernel_rfl) (by kernel_rfl) (by kernel_rfl) ?hqp1 ?hyp1 hHeld ?restp1
          case hip1 => simp only [List.getElem?_toArray, List.getElem?_cons_succ, List.getElem?_cons_zero, Option.some.injEq]; rfl
          case hqp1 => exact fun _ _ _ h => h
          case hyp1 =>
            refine Or.inl ⟨by kernel_rfl, fun V hV => ?_⟩
            have q1 := (HC.out V hV).1; clear hV
            go_simp
          try simp only [Go.Act.put, List.setIfInBounds_toArray, List.set_cons_zero, List.set_cons_succ]
          refine wpAnyH_take (i := 2) (oi := ?oip2) (v := .int .i64 (j : Nat)) ?hip2 (by kernel_rfl) (by kernel_rfl) (by kernel_rfl) ?hqp2 ?hyp2 hHeld ?restp2
          case hip2 => simp only [List.getElem?_toArray, List.getElem?_cons_succ, List.getElem?_cons_zero, Option.some.injEq]; rfl
          case hqp2 => exact fun _ _ _ h => h
          case hyp2 =>
            refine Or.inl ⟨by kernel_rfl, fun V hV => ?_⟩
            clear hV
            go_simp
          try simp only [Go.Act.put, List.setIfInBounds_toArray, List.set_cons_zero, List.set_cons_succ]
          refine wpAnyH_take (i := 3) (oi := ?oip3) (v := .int .i64 ((j : Nat) + 1)) ?hip3 (by kernel_rfl) (by kernel_rfl) (by kernel_rfl) ?hqp3 ?hyp3 hHeld ?restp3
          case hip3 => simp only [List.getElem?_toArray, List.getElem?_cons_succ, List.getElem?_cons_zero, Option.some.injEq]; rfl
          case hqp3 => exact fun _ _ _ h => h
          case hyp3 =>
            refine Or.inl ⟨by kernel_rfl, fun V hV => ?_⟩
            clear hV
            go_simp
          try simp only [Go.Act.put, List.setIfInBounds_toArray, List.set_cons_zero, List.set_cons_succ]
          refine wpAnyH_take (i := 4) (oi := ?oip4) (v := .int .i64 way) ?hip4 (by kernel_rfl) (by kernel_rfl) (by kernel_rfl) ?hqp4 ?hyp4 hHeld ?restp4
          case hip4 => simp only [List.getElem?_toArray, List.getElem?_cons_succ, List.getElem?_cons_zero, Option.some.injEq]; rfl
          case hqp4 => exact fun _ _ _ h => h
          case hyp4 =>
            refine Or.inl ⟨by kernel_rfl, fun V hV => ?_⟩
            clear hV
            go_simp
          try simp only [Go.Act.put, List.setIfInBounds_toArray, List.set_cons_zero, List.set_cons_succ]
          refine wpAnyH_take (i := 5) (oi := ?oip5) (v := .int .i64 nx) ?hip5 (by kernel_rfl) (by kernel_rfl) (by kernel_rfl) ?hqp5 ?hyp5 hHeld ?restp5
          case hip5 => simp only [List.getElem?_toArray, List.getElem?_cons_succ, List.getElem?_cons_zero, Option.some.injEq]; rfl
          case hqp5 => exact fun _ _ _ h => h
          case hyp5 =>
            refine Or.inl ⟨by kernel_rfl, fun V hV => ?_⟩
            clear hV
            go_simp
          try simp only [Go.Act.put, List.setIfInBounds_toArray, List.set_cons_zero, List.set_cons_succ]
          refine wpAnyH_take (i := 6) (oi := ?oip6) (v := .bool false) ?hip6 (by kernel_rfl) (by kernel_rfl) (by kernel_rfl) ?hqp6 ?hyp6 hHeld ?restp6
          case hip6 => simp only [List.getElem?_toArray, List.getElem?_cons_succ, List.getElem?_cons_zero, Option.some.injEq]; rfl
          case hqp6 => exact fun _ _ _ h => h
          case hyp6 =>
            refine Or.inl ⟨by kernel_rfl, fun V hV => ?_⟩
            clear hV
            go_simp
          try simp only [Go.Act.put, List.setIfInBounds_toArray, List.set_cons_zero, List.set_cons_succ]
          refine wpAnyH_take (i := 7) (oi := ?oip7) (v := .bool false) ?hip7 (by kernel_rfl) (by kernel_rfl) (by kernel_rfl) ?hqp7 ?hyp7 hHeld ?restp7
          case hip7 => simp only [List.getElem?_toArray, List.getElem?_cons_succ, List.getElem?_cons_zero, Option.some.injEq]; rfl
          case hqp7 => exact fun _ _ _ h => h
          case hyp7 =>
            refine Or.inl ⟨by kernel_rfl, fun V hV => ?_⟩
            clear hV
            go_simp
          try simp only [Go.Act.put, List.setIfInBounds_toArray, List.set_cons_zero, List.set_cons_succ]
          refine wpAnyH_take (i := 8) (oi := ?oip8) (v := .pointer (some ⟨wr.heap.size, 1, none⟩)) ?hip8 (by kernel_rfl) (by kernel_rfl) (by kernel_rfl) ?hqp8 ?hyp8 hHeld ?restp8
          case hip8 => simp only [List.getElem?_toArray, List.getElem?_cons_succ, List.getElem?_cons_zero, Option.some.injEq]; rfl
          case hqp8 => exact fun _ _ _ h => h
          case hyp8 =>
            refine Or.inl ⟨by kernel_rfl, fun V hV => ?_⟩
            clear hV
            go_simp
          try simp only [Go.Act.put, List.setIfInBounds_toArray, List.set_cons_zero, List.set_cons_succ]
          refine wpAnyH_take (i := 9) (oi := ?oip9) (v := .int .i64 at_) ?hip9 (by kernel_rfl) (by kernel_rfl) (by kernel_rfl) ?hqp9 ?hyp9 hHeld ?restp9
          case hip9 => simp only [List.getElem?_toArray, List.getElem?_cons_succ, List.getElem?_cons_zero, Option.some.injEq]; rfl
          case hqp9 => exact fun _ _ _ h => h
          case hyp9 =>
            refine Or.inl ⟨by kernel_rfl, fun V hV => ?_⟩
            have q1 := (HC.out V hV).2.1; clear hV
            go_simp
          try simp only [Go.Act.put, List.setIfInBounds_toArray, List.set_cons_zero, List.set_cons_succ]
          refine wpAnyH_take (i := 10) (oi := ?oip10) (v := .bool false) ?hip10 (by kernel_rfl) (by kernel_rfl) (by kernel_rfl) ?hqp10 ?hyp10 hHeld ?restp10
          case hip10 => simp only [List.getElem?_toArray, List.getElem?_cons_succ, List.getElem?_cons_zero, Option.some.injEq]; rfl
          case hqp10 => exact fun _ _ _ h => h
          case hyp10 =>
            refine Or.inl ⟨by kernel_rfl, fun V hV => ?_⟩
            clear hV
            go_simp
          try simp only [Go.Act.put, List.setIfInBounds_toArray, List.set_cons_zero, List.set_cons_succ]
          refine wpAnyH_take (i := 11) (oi := ?oip11) (v := .bool false) ?hip11 (by kernel_rfl) (by kernel_rfl) (by kernel_rfl) ?hqp11 ?hyp11 hHeld ?restp11
          case hip11 => simp only [List.getElem?_toArray, List.getElem?_cons_succ, List.getElem?_cons_zero, Option.some.injEq]; rfl
          case hqp11 => exact fun _ _ _ h => h
          case hyp11 =>
            refine Or.inl ⟨by kernel_rfl, fun V hV => ?_⟩
            clear hV
            go_simp
          try simp only [Go.Act.put, List.setIfInBounds_toArray, List.set_cons_zero, List.set_cons_succ]
          refine wpAnyH_take (i := 12) (oi := ?oip12) (v := .bool false) ?hip12 (by kernel_rfl) (by kernel_rfl) (by kernel_rfl) ?hqp12 ?hyp12 hHeld ?restp12
          case hip12 => simp only [List.getElem?_toArray, List.getElem?_cons_succ, List.getElem?_cons_zero, Option.some.injEq]; rfl
          case hqp12 => exact fun _ _ _ h => h
          case hyp12 =>
            refine Or.inl ⟨by kernel_rfl, fun V hV => ?_⟩
            clear hV
            go_simp
          try simp only [Go.Act.put, List.setIfInBounds_toArray, List.set_cons_zero, List.set_cons_succ]
          refine wpAnyH_take (i := 13) (oi := ?oip13) (v := .pointer (some ⟨wr.heap.size, 1, none⟩)) ?hip13 (by kernel_rfl) (by kernel_rfl) (by kernel_rfl) ?hqp13 ?hyp13 hHeld ?restp13
          case hip13 => simp only [List.getElem?_toArray, List.getElem?_cons_succ, List.getElem?_cons_zero, Option.some.injEq]; rfl
          case hqp13 => exact fun _ _ _ h => h
          case hyp13 =>
            refine Or.inl ⟨by kernel_rfl, fun V hV => ?_⟩
            clear hV
            go_simp
          try simp only [Go.Act.put, List.setIfInBounds_toArray, List.set_cons_zero, List.set_cons_succ]
          refine wpAnyH_take (i := 14) (oi := ?oip14) (v := .int .i64 at_) ?hip14 (by kernel_rfl) (by kernel_rfl) (by kernel_rfl) ?hqp14 ?hyp14 hHeld ?restp14
          case hip14 => simp only [List.getElem?_toArray, List.getElem?_cons_succ, List.getElem?_cons_zero, Option.some.injEq]; rfl
          case hqp14 => exact fun _ _ _ h => h
          case hyp14 =>
            refine Or.inl ⟨by kernel_rfl, fun V hV => ?_⟩
            have q1 := (HC.out V hV).2.1; clear hV
            go_simp
          try simp only [Go.Act.put, List.setIfInBounds_toArray, List.set_cons_zero, List.set_cons_succ]
          refine wpAnyH_take (i := 15) (oi := ?oip15) (v := .agg #[.string nm, .int .i64 sp, .int .i64 st, .slice so ss.length sc, .slice lo ls.length lc, .slice to_ ts.length tc]) ?hip15 (by kernel_rfl) (by kernel_rfl) (by kernel_rfl) ?hqp15 ?hyp15 hHeld ?restp15
          case hip15 => simp only [List.getElem?_toArray, List.getElem?_cons_succ, List.getElem?_cons_zero, Option.some.injEq]; rfl
          case hqp15 => exact fun _ _ _ h => h
          case hyp15 =>
            refine Or.inl ⟨by kernel_rfl, fun V hV => ?_⟩
            obtain ⟨_, _, k0, k1, k2, k3, k4, k5, _⟩ := HC.out V hV; clear hV
            go_simp
          try simp only [Go.Act.put, List.setIfInBounds_toArray, List.set_cons_zero, List.set_cons_succ]
          refine wpAnyH_ready (rs := [16]) (by kernel_rfl) (by simp) ?_
          refine AllReadyH.cons rfl (fun K hK => ?_) AllReadyH.nil
          go_simp
          refine (span_is nm sp st so sc ss lo lc ls to_ tc ts hl _ (HSM.out.grown (grown_drewN _ _ 1)) HTE).mono ?_
          rintro e w5 ⟨rfl, hg5⟩
          refine hK.out _ _ (grown_trans hHeld hg5) (fun hHeld1 => ?_)
          clear hK K
          try simp only [Go.Act.put, List.setIfInBounds_toArray, List.set_cons_zero, List.set_cons_succ]
          refine wpAnyH_take (i := 17) (oi := ?oip17) (v := .int .i64 (1000 * te)) ?hip17 (by kernel_rfl) (by kernel_rfl) (by kernel_rfl) ?hqp17 ?hyp17 hHeld1 ?restp17
          case hip17 => simp only [List.getElem?_toArray, List.getElem?_cons_succ, List.getElem?_cons_zero, Option.some.injEq]; rfl
          case hqp17 => exact fun _ _ _ h => h
          case hyp17 =>
            refine Or.inl ⟨by kernel_rfl, fun V hV => ?_⟩
            clear hV
            go_simp
          try simp only [Go.Act.put, List.setIfInBounds_toArray, List.set_cons_zero, List.set_cons_succ]
          refine wpAnyH_take (i := 18) (oi := ?oip18) (v := .bool false) ?hip18 (by kernel_rfl) (by kernel_rfl) (by kernel_rfl) ?hqp18 ?hyp18 hHeld1 ?restp18
          case hip18 => simp only [List.getElem?_toArray, List.getElem?_cons_succ, List.getElem?_cons_zero, Option.some.injEq]; rfl
          case hqp18 => exact fun _ _ _ h => h
          case hyp18 =>
            refine Or.inl ⟨by kernel_rfl, fun V hV => ?_⟩
            clear hV
            go_simp
          try simp only [Go.Act.put, List.setIfInBounds_toArray, List.set_cons_zero, List.set_cons_succ]
          refine wpAnyH_take (i := 19) (oi := ?oip19) (v := .bool false) ?hip19 (by kernel_rfl) (by kernel_rfl) (by kernel_rfl) ?hqp19 ?hyp19 hHeld1 ?restp19
          case hip19 => simp only [List.getElem?_toArray, List.getElem?_cons_succ, List.getElem?_cons_zero, Option.some.injEq]; rfl
          case hqp19 => exact fun _ _ _ h => h
          case hyp19 =>
            refine Or.inl ⟨by kernel_rfl, fun V hV => ?_⟩
            clear hV
            go_simp
          try simp only [Go.Act.put, List.setIfInBounds_toArray, List.set_cons_zero, List.set_cons_succ]
          refine wpAnyH_take (i := 20) (oi := ?oip20) (v := .bool false) ?hip20 (by kernel_rfl) (by kernel_rfl) (by kernel_rfl) ?hqp20 ?hyp20 hHeld1 ?restp20
          case hip20 => simp only [List.getElem?_toArray, List.getElem?_cons_succ, List.getElem?_cons_zero, Option.some.injEq]; rfl
          case hqp20 => exact fun _ _ _ h => h
          case hyp20 =>
            refine Or.inl ⟨by kernel_rfl, fun V hV => ?_⟩
            clear hV
            go_simp
          try simp only [Go.Act.put, List.setIfInBounds_toArray, List.set_cons_zero, List.set_cons_succ]
          refine wpAnyH_take (i := 21) (oi := ?oip21) (v := .int .i64 (j : Nat)) ?hip21 (by kernel_rfl) (by kernel_rfl) (by kernel_rfl) ?hqp21 ?hyp21 hHeld1 ?restp21
          case hip21 => simp only [List.getElem?_toArray, List.getElem?_cons_succ, List.getElem?_cons_zero, Option.some.injEq]; rfl
          case hqp21 => exact fun _ _ _ h => h
          case hyp21 =>
            refine Or.inl ⟨by kernel_rfl, fun V hV => ?_⟩
            clear hV
            go_simp
          try simp only [Go.Act.put, List.setIfInBounds_toArray, List.set_cons_zero, List.set_cons_succ]
          refine wpAnyH_take (i := 22) (oi := ?oip22) (v := .bool true) ?hip22 (by kernel_rfl) (by kernel_rfl) (by kernel_rfl) ?hqp22 ?hyp22 hHeld1 ?restp22
          case hip22 => simp only [List.getElem?_toArray, List.getElem?_cons_succ, List.getElem?_cons_zero, Option.some.injEq]; rfl
          case hqp22 => exact fun _ _ _ h => h
          case hyp22 =>
            refine Or.inl ⟨by kernel_rfl, fun V hV => ?_⟩
            clear hV
            go_simp
          try simp only [Go.Act.put, List.setIfInBounds_toArray, List.set_cons_zero, List.set_cons_succ]
          refine wpAnyH_take (i := 23) (oi := ?oip23) (v := .bool true) ?hip23 (by kernel_rfl) (by kernel_rfl) (by kernel_rfl) ?hqp23 ?hyp23 hHeld1 ?restp23
          case hip23 => simp only [List.getElem?_toArray, List.getElem?_cons_succ, List.getElem?_cons_zero, Option.some.injEq]; rfl
          case hqp23 => exact fun _ _ _ h => h
          case hyp23 =>
            refine Or.inl ⟨by kernel_rfl, fun V hV => ?_⟩
            clear hV
            go_simp
          try simp only [Go.Act.put, List.setIfInBounds_toArray, List.set_cons_zero, List.set_cons_succ]
          refine wpAnyH_take (i := 24) (oi := ?oip24) (v := .pointer (some ⟨wr.heap.size, 1, none⟩)) ?hip24 (by kernel_rfl) (by kernel_rfl) (by kernel_rfl) ?hqp24 ?hyp24 hHeld1 ?restp24
          case hip24 => simp only [List.getElem?_toArray, List.getElem?_cons_succ, List.getElem?_cons_zero, Option.some.injEq]; rfl
          case hqp24 => exact fun _ _ _ h => h
          case hyp24 =>
            refine Or.inl ⟨by kernel_rfl, fun V hV => ?_⟩
            clear hV
            go_simp
          try simp only [Go.Act.put, List.setIfInBounds_toArray, List.set_cons_zero, List.set_cons_succ]
          refine wpAnyH_take (i := 25) (oi := ?oip25) (v := .int .i64 at_) ?hip25 (by kernel_rfl) (by kernel_rfl) (by kernel_rfl) ?hqp25 ?hyp25 hHeld1 ?restp25
          case hip25 => simp only [List.getElem?_toArray, List.getElem?_cons_succ, List.getElem?_cons_zero, Option.some.injEq]; rfl
          case hqp25 => exact fun _ _ _ h => h
          case hyp25 =>
            refine Or.inl ⟨by kernel_rfl, fun V hV => ?_⟩
            have q1 := (HC.out V hV).2.1; clear hV
            go_simp
          try simp only [Go.Act.put, List.setIfInBounds_toArray, List.set_cons_zero, List.set_cons_succ]
          refine wpAnyH_take (i := 26) (oi := ?oip26) (v := .slice (some ⟨g, 0, none⟩) n cap) ?hip26 (by kernel_rfl) (by kernel_rfl) (by kernel_rfl) ?hqp26 ?hyp26 hHeld1 ?restp26
          case hip26 => simp only [List.getElem?_toArray, List.getElem?_cons_succ, List.getElem?_cons_zero, Option.some.injEq]; rfl
          case hqp26 => exact fun _ _ _ h => h
          case hyp26 =>
            refine Or.inl ⟨by kernel_rfl, fun V hV => ?_⟩
            clear hV
            go_simp
          try simp only [Go.Act.put, List.setIfInBounds_toArray, List.set_cons_zero, List.set_cons_succ]
          refine wpAnyH_take (i := 27) (oi := ?oip27) (v := .int .i64 (j : Nat)) ?hip27 (by kernel_rfl) (by kernel_rfl) (by kernel_rfl) ?hqp27 ?hyp27 hHeld1 ?restp27
          case hip27 => simp only [List.getElem?_toArray, List.getElem?_cons_succ, List.getElem?_cons_zero, Option.some.injEq]; rfl
          case hqp27 => exact fun _ _ _ h => h
          case hyp27 =>
            refine Or.inl ⟨by kernel_rfl, fun V hV => ?_⟩
            clear hV
            go_simp
          try simp only [Go.Act.put, List.setIfInBounds_toArray, List.set_cons_zero, List.set_cons_succ]
          refine wpAnyH_take (i := 28) (oi := ?oip28) (v := .int .i64 (j0 : Nat)) ?hip28 (by kernel_rfl) (by kernel_rfl) (by kernel_rfl) ?hqp28 ?hyp28 hHeld1 ?restp28
          case hip28 => simp only [List.getElem?_toArray, List.getElem?_cons_succ, List.getElem?_cons_zero, Option.some.injEq]; rfl
          case hqp28 => exact fun _ _ _ h => h
          case hyp28 =>
            refine Or.inl ⟨by kernel_rfl, fun V hV => ?_⟩
            clear hV
            go_simp
          try simp only [Go.Act.put, List.setIfInBounds_toArray, List.set_cons_zero, List.set_cons_succ]
          refine wpAnyH_take (i := 29) (oi := ?oip29) (v := .pointer (some ⟨g, j0 * 2, none⟩)) ?hip29 (by kernel_rfl) (by kernel_rfl) (by kernel_rfl) ?hqp29 ?hyp29 hHeld1 ?restp29
          case hip29 => simp only [List.getElem?_toArray, List.getElem?_cons_succ, List.getElem?_cons_zero, Option.some.injEq]; rfl
          case hqp29 => exact fun _ _ _ h => h
          case hyp29 =>
            refine Or.inl ⟨by kernel_rfl, fun V hV => ?_⟩
            clear hV
            go_simp
          try simp only [Go.Act.put, List.setIfInBounds_toArray, List.set_cons_zero, List.set_cons_succ]
          refine wpAnyH_take (i := 30) (oi := ?oip30) (v := .pointer (some ⟨g, j0 * 2 + 1, none⟩)) ?hip30 (by kernel_rfl) (by kernel_rfl) (by kernel_rfl) ?hqp30 ?hyp30 hHeld1 ?restp30
          case hip30 => simp only [List.getElem?_toArray, List.getElem?_cons_succ, List.getElem?_cons_zero, Option.some.injEq]; rfl
          case hqp30 => exact fun _ _ _ h => h
          case hyp30 =>
            refine Or.inl ⟨by kernel_rfl, fun V hV => ?_⟩
            clear hV
            go_simp
          try simp only [Go.Act.put, List.setIfInBounds_toArray, List.set_cons_zero, List.set_cons_succ]
          refine wpAnyH_take (i := 31) (oi := ?oip31) (v := .int .i64 at0) ?hip31 (by kernel_rfl) (by kernel_rfl) (by kernel_rfl) ?hqp31 ?hyp31 hHeld1 ?restp31
          case hip31 => simp only [List.getElem?_toArray, List.getElem?_cons_succ, List.getElem?_cons_zero, Option.some.injEq]; rfl
          case hqp31 => exact fun _ _ _ h => h
          case hyp31 =>
            refine Or.inl ⟨by kernel_rfl, fun V hV => ?_⟩
            have q1 := (HC.out V hV).2.2.2.2.2.2.2.2; clear hV
            go_simp
          try simp only [Go.Act.put, List.setIfInBounds_toArray, List.set_cons_zero, List.set_cons_succ]
          refine wpAnyH_take (i := 32) (oi := ?oip32) (v := .bool false) ?hip32 (by kernel_rfl) (by kernel_rfl) (by kernel_rfl) ?hqp32 ?hyp32 hHeld1 ?restp32
          case hip32 => simp only [List.getElem?_toArray, List.getElem?_cons_succ, List.getElem?_cons_zero, Option.some.injEq]; rfl
          case hqp32 => exact fun _ _ _ h => h
          case hyp32 =>
            refine Or.inl ⟨by kernel_rfl, fun V hV => ?_⟩
            clear hV
            go_simp
          try simp only [Go.Act.put, List.setIfInBounds_toArray, List.set_cons_zero, List.set_cons_succ]
          refine wpAnyH_take (i := 33) (oi := ?oip33) (v := .bool false) ?hip33 (by kernel_rfl) (by kernel_rfl) (by kernel_rfl) ?hqp33 ?hyp33 hHeld1 ?restp33
          case hip33 => simp only [List.getElem?_toArray, List.getElem?_cons_succ, List.getElem?_cons_zero, Option.some.injEq]; rfl
          case hqp33 => exact fun _ _ _ h => h
          case hyp33 =>
            refine Or.inl ⟨by kernel_rfl, fun V hV => ?_⟩
            clear hV
            go_simp
          try simp only [Go.Act.put, List.setIfInBounds_toArray, List.set_cons_zero, List.set_cons_succ]
          refine wpAnyH_take (i := 34) (oi := ?oip34) (v := .bool false) ?hip34 (by kernel_rfl) (by kernel_rfl) (by kernel_rfl) ?hqp34 ?hyp34 hHeld1 ?restp34
          case hip34 => simp only [List.getElem?_toArray, List.getElem?_cons_succ, List.getElem?_cons_zero, Option.some.injEq]; rfl
          case hqp34 => exact fun _ _ _ h => h
          case hyp34 =>
            refine Or.inl ⟨by kernel_rfl, fun V hV => ?_⟩
            clear hV
            go_simp
          try simp only [Go.Act.put, List.setIfInBounds_toArray, List.set_cons_zero, List.set_cons_succ]
          refine wpAnyH_done (by kernel_rfl) ?_ _
          have GN : Hid (w2.grownBy w5 none) := grown_trans (grown_trans (grown_trans hg.out (World.grownBy_alloc _ _ none)) (grown_drewN _ _ 1)) hHeld1
          clear hHeld hHeld1 hg5 hg
          go_wp2_with fail
          go_roundw
          case rel => exact ⟨j + 1, by omega, by go_num, GN.out⟩
          case measure => first | (simp [intOf]; done) | (simp [intOf]; omega)
      · obtain rfl : j = n := by omega
        go_wp2_with fail
        refine (told_any _).mono ?_; rintro x w4 ⟨rfl, hg4⟩
        have GE := Lib.hid (grown_trans GB.out (grown_trans K2.out (grown_trans hg.out hg4)))
        clear hg4 hg
        go_wp2_with fail
        go_ret
        exact ⟨by first | rfl | simp, GE.out⟩
  · have hne : (E != 0) = true := by simpa using hE
    clear hE
    go_wp2_with fail
    refine (told_any _).mono ?_; rintro x w4 ⟨rfl, hg4⟩
    have GE := Lib.hid (grown_trans GB.out (grown_trans K.out hg4))
    clear hg4
    go_wp2_with fail
    go_ret
    exact ⟨by first | rfl | simp, GE.out⟩

end Go.Proofs.Ytgkhhfojioepgaa
