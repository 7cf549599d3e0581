/- The contract of Spaced. -/
import Derived.Test.YtnjanjbjhbniiaaMPlc
import Derived.Test.YtnjanjbjhbniiaaMRev
import Derived.Deep.AppendLies
import Derived.Deep.RegionHeld3
namespace Go.Proofs.Ytnjanjbjhbniiaa
open Go.RowKit
set_option linter.unusedSimpArgs false
set_option linter.unusedVariables false

attribute [local go_sem] Oper.semAt_some

theorem mgrown_row {w w1 w2 : World} {row : Option Nat} (h : w.grownBy w1 none) (g : w1.grownBy w2 row) (hr : ∀ r, row = some r → w.heap.size ≤ r) : w.grownBy w2 none :=
  ⟨g.os.trans h.os, g.tape.trans h.tape, g.output.trans h.output, Nat.le_trans h.size g.size, fun k hk _ => by
    rw [g.block k (Nat.lt_of_lt_of_le hk h.size) (fun e => by have := hr k e.symm; omega)]; exact h.block k hk (by simp)⟩
set_option maxRecDepth 100000 in
set_option maxHeartbeats 6400000 in
theorem Spaced_is (a : Act) (n : Int) (w : World) (ha : ActAt w a) {E : Int} (hE : Hid (spcE a n = E)) :
    Calls Try.prog 27 #[a.val, .int .i64 n] w fun e w' => (∃ ao cap, e = .returned (.tuple #[.slice ao (spcL a n).length cap, .int .i64 E]) ∧ PtsAt w' ao (spcL a n)) ∧ w.grownBy w' none := by
  obtain ⟨ce, hce⟩ : ∃ e, chkE a = e := ⟨_, rfl⟩
  have HA := Lib.hid ha; have HCE := Lib.hid hce
  have hv := hE.out
  unfold spcE at hv
  rw [hce] at hv
  have LN0 : E ≠ 0 → spcL a n = [] := fun h => by unfold spcL; rw [if_neg (by rw [hE.out]; exact h)]
  by_cases h0 : ce = 0
  · rw [if_pos h0] at hv
    by_cases h1 : 2 ≤ n ∧ n ≤ 300
    · rw [if_pos h1] at hv
      by_cases h2 : a.ss.length = 0
      · rw [if_pos h2] at hv
        subst hv
        have LN : Hid (spcL a n = []) := LN0 (by omega)
        obtain ⟨nm, sp, st, so, sc, ss, lo, lc, ls, to_, tc, ts⟩ := a
        simp only [Act.val] at *
        have HN1 : Hid (decide (2 ≤ n ∧ n ≤ 300) = true) := decide_eq_true h1
        have z2 : ((ss.length : Int) == 0) = true := by simpa using h2
        subst h0
        have h0 := trivial
        clear hE ha hce LN0 h1 h2
        have HWE : Hid (waysE ⟨nm, sp, st, so, sc, ss, lo, lc, ls, to_, tc, ts⟩ = (ss.length, 0)) := by show waysE _ = _; unfold waysE; rw [if_pos HCE.out]
        clear h0
        go_enter Try.func27, Try.ntmps27
        go_wp2_with fail
        refine (ways_any ⟨nm, sp, st, so, sc, ss, lo, lc, ls, to_, tc, ts⟩ _ (HA.out.grown (World.grownBy_alloc _ _ _)) HWE).mono ?_; rintro e w1 ⟨⟨wo, wc, rfl, hw⟩, hg1⟩
        have G1 := Lib.hid (grown_trans (World.grownBy_alloc w (.cells #[.string nm, .int .i64 sp, .int .i64 st, .slice so ss.length sc, .slice lo ls.length lc, .slice to_ ts.length tc] 36) none) hg1)
        have b3 : w1.cell? ⟨w.heap.size, 3, none⟩ = some (.slice so ss.length sc) := grown_cell hg1 (by simp)
        have LB : Hid (w.heap.size < w1.heap.size) := by have := hg1.size; simp at this; show _ < _; omega
        have HW := Lib.hid hw
        clear hg1 hw
        go_wp2_with fail
        refine (mwithin_is n 2 300 _ HN1).mono ?_; rintro e w2 ⟨rfl, rfl⟩
        go_wp2_with fail
        go_ret2
        exact ⟨⟨none, 0, by rw [LN.out]; rfl, by rw [LN.out]; exact ⟨fun _ => rfl, fun _ _ h => absurd rfl h, fun _ _ _ h => absurd h (Nat.not_lt_zero _)⟩⟩, G1.out⟩
      · rw [if_neg h2] at hv
        subst hv
        have hok := chk_ok (hce.trans h0)
        have hl : (a.ss.length : Int) ≤ 20000 := hok.sl
        have HS := Lib.hid (sok_of hok)
        have HPL := Lib.hid hok.plane
        obtain ⟨N, hN⟩ : ∃ N : Nat, n = N := ⟨n.toNat, by omega⟩
        subst hN
        have LN : Hid (spcL a (N : Int) = spL a.ss N N) := by show _ = _; unfold spcL; rw [if_pos hE.out]; rfl
        obtain ⟨nm, sp, st, so, sc, ss, lo, lc, ls, to_, tc, ts⟩ := a
        simp only [Act.val] at *
        have HN1 : Hid (decide (2 ≤ (N : Int) ∧ (N : Int) ≤ 300) = true) := decide_eq_true h1
        have z2 : ((ss.length : Int) == 0) = false := beq_eq_false_iff_ne.2 (by omega)
        have rl : IntKind.i64.wrap ((ss.length : Int) - 1) = (ss.length : Int) - 1 := IntWalk.i64_in _ (by omega)
        obtain ⟨m, hm⟩ : ∃ m, ss.length - 1 = m := ⟨_, rfl⟩
        have em : (ss.length : Int) - 1 = (m : Int) := by omega
        have HM := Lib.hid hm
        have m0 : (m : Int) < (ss.length : Int) := by omega
        have HLM : Hid (m < ss.length) := by show _ < _; omega
        obtain ⟨L, hL⟩ : ∃ L, wayN ss m = L := ⟨_, rfl⟩
        have HL := Lib.hid hL
        have HLB : Hid (0 ≤ L ∧ L ≤ 6000000000000) := by
          have := wayN_bd HPL.out m
          rw [hL] at this
          show _ ∧ _
          omega
        have rn1 : IntKind.i64.wrap ((N : Int) - 1) = (N : Int) - 1 := IntWalk.i64_in _ (by omega)
        have zn1 : (((N : Int) - 1) == 0) = false := beq_eq_false_iff_ne.2 (by omega)
        have zn2 : ¬ ((N : Int) - 1 = 0) := by omega
        have HNB : Hid (2 ≤ N ∧ N ≤ 300) := by show _ ∧ _; omega
        subst h0
        have h0 := trivial
        obtain ⟨i0, hi, hz0, hz1, hz2⟩ := info_parts info_pt
        have HI0 := Lib.hid hi; have HZ0 := Lib.hid hz0; have HZ1 := Lib.hid hz1; have HZ2 := Lib.hid hz2
        clear hE ha hce LN0 h1 h2 hok hm hL hi hz0 hz1 hz2
        have HWE : Hid (waysE ⟨nm, sp, st, so, sc, ss, lo, lc, ls, to_, tc, ts⟩ = (ss.length, 0)) := by show waysE _ = _; unfold waysE; rw [if_pos HCE.out]
        clear h0
        go_enter Try.func27, Try.ntmps27
        go_wp2_with fail
        refine (ways_any ⟨nm, sp, st, so, sc, ss, lo, lc, ls, to_, tc, ts⟩ _ (HA.out.grown (World.grownBy_alloc _ _ _)) HWE).mono ?_; rintro e w1 ⟨⟨wo, wc, rfl, hw⟩, hg1⟩
        have G1 := Lib.hid (grown_trans (World.grownBy_alloc w (.cells #[.string nm, .int .i64 sp, .int .i64 st, .slice so ss.length sc, .slice lo ls.length lc, .slice to_ ts.length tc] 36) none) hg1)
        have b3 : w1.cell? ⟨w.heap.size, 3, none⟩ = some (.slice so ss.length sc) := grown_cell hg1 (by simp)
        have LB : Hid (w.heap.size < w1.heap.size) := by have := hg1.size; simp at this; show _ < _; omega
        have HW := Lib.hid hw
        clear hg1 hw
        go_wp2_with fail
        refine (mwithin_is (N : Int) 2 300 _ HN1).mono ?_; rintro e w2 ⟨rfl, rfl⟩
        obtain ⟨gw, hgw, cw⟩ := HW.out m HLM.out
        subst hgw
        rw [HL.out] at cw
        go_wp2_with fail
        clear cw
        go_loopw [9, 32] (fun lv iv wr => ∃ (k : Nat) (v : Value), v = lv ∧ iv = .int .i64 k ∧ Hid (k ≤ N) ∧ Hid (wr.ownsRow w1.heap.size 64 2 lv k ((spL ss N k).flatMap ptCs)) ∧ Hid (w1.grownBy wr none)) (fun _ iv _ => N - (intOf iv).toNat)
        case atStart => exact ⟨0, _, rfl, rfl, Nat.zero_le _, World.ownsRow_nil _ _ _ _, grown_refl _ _⟩
        case round =>
          obtain ⟨k, v, rfl, rfl, hk, ho, hg⟩ := hrel
          obtain ⟨wq, rfl⟩ : ∃ W : World, W = wr := ⟨_, rfl⟩
          have hk' := hk.out
          by_cases hlt : k < N
          · have hlt' : (k : Int) < (N : Int) := by omega
            obtain ⟨d0, d1⟩ := spD_bd (n := N) (k := k) HPL.out HNB.out.1 hlt
            obtain ⟨d, hd⟩ : ∃ d, spD ss N k = d := ⟨_, rfl⟩
            rw [hd] at d0 d1
            have hq : L * (k : Int) / ((N : Int) - 1) = d := by rw [← hd]; unfold spD; rw [HM.out, HL.out]
            have qb : 0 ≤ L * (k : Int) ∧ L * (k : Int) ≤ 6000000000000 * 300 := by
              have hb := HLB.out; have hn := HNB.out
              refine ⟨Int.mul_nonneg hb.1 (by omega), ?_⟩
              have q1 : L * (k : Int) ≤ 6000000000000 * (k : Int) := Int.mul_le_mul_of_nonneg_right hb.2 (by omega)
              omega
            obtain ⟨M, hM⟩ : ∃ M, L * (k : Int) = M := ⟨_, rfl⟩
            have hqt : M.tdiv ((N : Int) - 1) = d := by rw [Int.tdiv_eq_ediv_of_nonneg (by omega), ← hM]; exact hq
            have rM : IntKind.i64.wrap (L * (k : Int)) = M := by rw [hM]; exact IntWalk.i64_in _ (by omega)
            have hdl : d ≤ 6000000000000 := by have := HLB.out; have q := d1; rw [HM.out, HL.out] at q; omega
            have rd : IntKind.i64.wrap d = d := IntWalk.i64_in _ (by omega)
            obtain ⟨P, hP⟩ : ∃ P, plV ss d = P := ⟨_, rfl⟩
            obtain ⟨px, py⟩ := P
            have HNX : Hid ((spL ss N (k + 1)).flatMap ptCs = (spL ss N k).flatMap ptCs ++ [.int .i64 px, .int .i64 py]) := by
              show _ = _; rw [spL_succ, hd, hP, List.flatMap_append]; rfl
            have HPV := Lib.hid hP
            have D0 := Lib.hid d0
            have D1 : Hid (d ≤ wayN ss (ss.length - 1)) := d1
            have HKN := Lib.hid hlt
            have rk1 : IntKind.i64.wrap ((k : Int) + 1) = (k : Int) + 1 := IntWalk.i64_in _ (by have := HNB.out; omega)
            have HO := Lib.hid ho.out; have HG := Lib.hid hg.out
            clear hM hq qb hd hP d0 d1 hlt ho hg hk hk' hdl
            go_wp2_with fail
            have O1 : Hid (wq.drew.ownsRow w1.heap.size 64 2 v k ((spL ss N k).flatMap ptCs)) := Lib.hid (HO.out.kept (grown_drewN wq none 1) (by cases v.ownBlock <;> simp))
            have G2 : Hid (w1.grownBy wq.drew none) := Lib.hid (grown_trans HG.out (grown_drewN wq none 1))
            have c3 : wq.drew.cell? ⟨w.heap.size, 3, none⟩ = some (.slice so ss.length sc) := grown_cell G2.out b3
            refine region_late (lateK (fun V => World.cell? V ⟨w.heap.size, 3, none⟩ = some (.slice so ss.length sc)) []) (by kernel_rfl) c3 (fun hCs0 hSs0 => ?_)
            generalize wq.drew = w3 at *
            refine wpAnyS_take (i := 0) (oi := ?ois1) (v := v) ?his1 (by kernel_rfl) (by kernel_rfl) (by kernel_rfl) (lateK_iff (by rfl)) ?hqs1 ?hys1 hCs0 hSs0 ?rests1
            case his1 => simp only [List.getElem?_toArray, List.getElem?_cons_succ, List.getElem?_cons_zero, Option.some.injEq]; rfl
            case hqs1 => exact fun _ _ _ h => h
            case hys1 =>
              refine Or.inl ⟨by kernel_rfl, fun V hV => ?_⟩
              clear hV
              go_simp
            intro hCs1 hSs1
            clear hCs0 hSs0
            try simp only [Go.Act.put, List.setIfInBounds_toArray, List.set_cons_zero, List.set_cons_succ]
            refine wpAnyS_take (i := 1) (oi := ?ois2) (v := .pointer (some ⟨w.heap.size, 3, none⟩)) ?his2 (by kernel_rfl) (by kernel_rfl) (by kernel_rfl) (lateK_iff (by rfl)) ?hqs2 ?hys2 hCs1 hSs1 ?rests2
            case his2 => simp only [List.getElem?_toArray, List.getElem?_cons_succ, List.getElem?_cons_zero, Option.some.injEq]; rfl
            case hqs2 => exact fun _ _ _ h => h
            case hys2 =>
              refine Or.inl ⟨by kernel_rfl, fun V hV => ?_⟩
              clear hV
              go_simp
            intro hCs2 hSs2
            clear hCs1 hSs1
            try simp only [Go.Act.put, List.setIfInBounds_toArray, List.set_cons_zero, List.set_cons_succ]
            refine wpAnyS_take (i := 2) (oi := ?ois3) (v := (.slice so ss.length sc)) ?his3 (by kernel_rfl) (by kernel_rfl) (by kernel_rfl) (lateK_iff (by rfl)) ?hqs3 ?hys3 hCs2 hSs2 ?rests3
            case his3 => simp only [List.getElem?_toArray, List.getElem?_cons_succ, List.getElem?_cons_zero, Option.some.injEq]; rfl
            case hqs3 => exact fun _ _ _ h => h
            case hys3 =>
              refine Or.inl ⟨by kernel_rfl, fun V hV => ?_⟩
              have q2 := lateK_g hV; clear hV
              go_simp
            intro hCs3 hSs3
            clear hCs2 hSs2
            try simp only [Go.Act.put, List.setIfInBounds_toArray, List.set_cons_zero, List.set_cons_succ]
            refine wpAnyS_take (i := 3) (oi := ?ois4) (v := .slice (some ⟨gw, 0, none⟩) ss.length wc) ?his4 (by kernel_rfl) (by kernel_rfl) (by kernel_rfl) (lateK_iff (by rfl)) ?hqs4 ?hys4 hCs3 hSs3 ?rests4
            case his4 => simp only [List.getElem?_toArray, List.getElem?_cons_succ, List.getElem?_cons_zero, Option.some.injEq]; rfl
            case hqs4 => exact fun _ _ _ h => h
            case hys4 =>
              refine Or.inl ⟨by kernel_rfl, fun V hV => ?_⟩
              clear hV
              go_simp
            intro hCs4 hSs4
            clear hCs3 hSs3
            try simp only [Go.Act.put, List.setIfInBounds_toArray, List.set_cons_zero, List.set_cons_succ]
            refine wpAnyS_take (i := 4) (oi := ?ois5) (v := .int .i64 L) ?his5 (by kernel_rfl) (by kernel_rfl) (by kernel_rfl) (lateK_iff (by rfl)) ?hqs5 ?hys5 hCs4 hSs4 ?rests5
            case his5 => simp only [List.getElem?_toArray, List.getElem?_cons_succ, List.getElem?_cons_zero, Option.some.injEq]; rfl
            case hqs5 => exact fun _ _ _ h => h
            case hys5 =>
              refine Or.inl ⟨by kernel_rfl, fun V hV => ?_⟩
              clear hV
              go_simp
            intro hCs5 hSs5
            clear hCs4 hSs4
            try simp only [Go.Act.put, List.setIfInBounds_toArray, List.set_cons_zero, List.set_cons_succ]
            refine wpAnyS_take (i := 5) (oi := ?ois6) (v := .int .i64 (k : Int)) ?his6 (by kernel_rfl) (by kernel_rfl) (by kernel_rfl) (lateK_iff (by rfl)) ?hqs6 ?hys6 hCs5 hSs5 ?rests6
            case his6 => simp only [List.getElem?_toArray, List.getElem?_cons_succ, List.getElem?_cons_zero, Option.some.injEq]; rfl
            case hqs6 => exact fun _ _ _ h => h
            case hys6 =>
              refine Or.inl ⟨by kernel_rfl, fun V hV => ?_⟩
              clear hV
              go_simp
            intro hCs6 hSs6
            clear hCs5 hSs5
            try simp only [Go.Act.put, List.setIfInBounds_toArray, List.set_cons_zero, List.set_cons_succ]
            refine wpAnyS_take (i := 6) (oi := ?ois7) (v := .int .i64 M) ?his7 (by kernel_rfl) (by kernel_rfl) (by kernel_rfl) (lateK_iff (by rfl)) ?hqs7 ?hys7 hCs6 hSs6 ?rests7
            case his7 => simp only [List.getElem?_toArray, List.getElem?_cons_succ, List.getElem?_cons_zero, Option.some.injEq]; rfl
            case hqs7 => exact fun _ _ _ h => h
            case hys7 =>
              refine Or.inl ⟨by kernel_rfl, fun V hV => ?_⟩
              clear hV
              go_simp
            intro hCs7 hSs7
            clear hCs6 hSs6
            try simp only [Go.Act.put, List.setIfInBounds_toArray, List.set_cons_zero, List.set_cons_succ]
            refine wpAnyS_take (i := 7) (oi := ?ois8) (v := .int .i64 (N : Int)) ?his8 (by kernel_rfl) (by kernel_rfl) (by kernel_rfl) (lateK_iff (by rfl)) ?hqs8 ?hys8 hCs7 hSs7 ?rests8
            case his8 => simp only [List.getElem?_toArray, List.getElem?_cons_succ, List.getElem?_cons_zero, Option.some.injEq]; rfl
            case hqs8 => exact fun _ _ _ h => h
            case hys8 =>
              refine Or.inl ⟨by kernel_rfl, fun V hV => ?_⟩
              clear hV
              go_simp
            intro hCs8 hSs8
            clear hCs7 hSs7
            try simp only [Go.Act.put, List.setIfInBounds_toArray, List.set_cons_zero, List.set_cons_succ]
            refine wpAnyS_take (i := 8) (oi := ?ois9) (v := .int .i64 ((N : Int) - 1)) ?his9 (by kernel_rfl) (by kernel_rfl) (by kernel_rfl) (lateK_iff (by rfl)) ?hqs9 ?hys9 hCs8 hSs8 ?rests9
            case his9 => simp only [List.getElem?_toArray, List.getElem?_cons_succ, List.getElem?_cons_zero, Option.some.injEq]; rfl
            case hqs9 => exact fun _ _ _ h => h
            case hys9 =>
              refine Or.inl ⟨by kernel_rfl, fun V hV => ?_⟩
              clear hV
              go_simp
            intro hCs9 hSs9
            clear hCs8 hSs8
            try simp only [Go.Act.put, List.setIfInBounds_toArray, List.set_cons_zero, List.set_cons_succ]
            refine wpAnyS_take (i := 9) (oi := ?ois10) (v := .int .i64 d) ?his10 (by kernel_rfl) (by kernel_rfl) (by kernel_rfl) (lateK_iff (by rfl)) ?hqs10 ?hys10 hCs9 hSs9 ?rests10
            case his10 => simp only [List.getElem?_toArray, List.getElem?_cons_succ, List.getElem?_cons_zero, Option.some.injEq]; rfl
            case hqs10 => exact fun _ _ _ h => h
            case hys10 =>
              refine Or.inl ⟨by kernel_rfl, fun V hV => ?_⟩
              clear hV
              go_simp
            intro hCs10 hSs10
            clear hCs9 hSs9
            try simp only [Go.Act.put, List.setIfInBounds_toArray, List.set_cons_zero, List.set_cons_succ]
            refine wpAnyS_ready (rs := [10]) (by kernel_rfl) (by simp) ?_
            refine AllReadyS.cons rfl hCs10 (fun K hK => ?_) AllReadyS.nil
            go_simp
            refine (placeAfter_is so sc ss HS (by have := HLM.out; omega) (some ⟨gw, 0, none⟩) wc d D0.out D1.out _ ((HA.out.hs.grown G1.out).grown G2.out) (HW.out.grown G2.out) HPV).mono ?_; rintro e w7 ⟨rfl, hg7⟩
            have G3 := Lib.hid (grown_trans G2.out hg7)
            have O2 := Lib.hid (O1.out.kept hg7 (by cases v.ownBlock <;> simp))
            have c4 := grown_cell hg7 c3
            refine hK.out _ _ c4 (fun hCs11 hSs11 => ?_)
            clear hK hCs10 hSs10 K
            clear hg7 c3 O1 G2
            try simp only [Go.Act.put, List.setIfInBounds_toArray, List.set_cons_zero, List.set_cons_succ]
            refine wpAnyS_ready (rs := [11]) (by kernel_rfl) (by simp) ?_
            refine AllReadyS.cons rfl hCs11 (fun K hK => ?_) AllReadyS.nil
            go_simp
            have c5 := grown_cell (World.grownBy_alloc w7 (.cells #[.int .i64 px, .int .i64 py] 64) none) c4
            have O3 := Lib.hid (O2.out.alloc (.cells #[.int .i64 px, .int .i64 py] 64))
            have G4 := Lib.hid (grown_trans G3.out (World.grownBy_alloc w7 (.cells #[.int .i64 px, .int .i64 py] 64) none))
            have N4 := mheap_new w7 (.cells #[.int .i64 px, .int .i64 py] 64)
            have L4 : Hid (w1.heap.size ≤ (w7.alloc (.cells #[.int .i64 px, .int .i64 py] 64)).heap.size) := G4.out.size
            refine hK.out _ _ c5 (fun hCs12 hSs12 => ?_)
            clear hK hCs11 hSs11 K
            clear c4 O2 G3
            generalize World.alloc w7 (.cells #[.int .i64 px, .int .i64 py] 64) = w8 at *
            generalize w7.heap.size = g7 at *
            try simp only [Go.Act.put, List.setIfInBounds_toArray, List.set_cons_zero, List.set_cons_succ]
            refine wpAnyS_ready (rs := [12]) (by kernel_rfl) (by simp) ?_
            refine AllReadyS.cons rfl hCs12 (fun K hK => ?_) AllReadyS.nil
            refine step_append_lies w8 (by rfl) _ _ 57 (by rfl) w1.heap.size 64 i0 _ 2 16 Try.underlying57 HI0.out HZ0.out HZ1.out HZ2.out rfl (by decide) v k ((spL ss N k).flatMap ptCs) (by rfl) O3.out ⟨g7, 0, none⟩ 1 1 [.int .i64 px, .int .i64 py] (by rfl) (by rfl) (World.news_of_block N4) (by simp [Value.oneCell']) (by decide) (by have := HKN.out; have := HNB.out; unfold maxLen; omega) (by have := HKN.out; have := HNB.out; omega) L4.out _ rfl ?_
            intro gg cap w9 ho9 hg9 ha9 hl9
            have G5 := Lib.hid (mgrown_row G4.out hg9 (fun r hr => (O3.out.lt r hr).1))
            have O4 : Hid (w9.ownsRow w1.heap.size 64 2 (.slice (some ⟨gg, 0, none⟩) (k + 1) cap) (k + 1) ((spL ss N (k + 1)).flatMap ptCs)) := by rw [HNX.out]; exact ho9
            have c6 := grown_cell G5.out b3
            refine hK.out _ _ c6 (fun hCs13 hSs13 => ?_)
            clear hK hCs12 hSs12 K
            clear ho9 hg9 ha9 hl9 O3 G4 N4 L4 c5
            try simp only [Go.Act.put, List.setIfInBounds_toArray, List.set_cons_zero, List.set_cons_succ]
            refine wpAnyS_take (i := 13) (oi := ?ois14) (v := .slice (some ⟨gg, 0, none⟩) (k + 1) cap) ?his14 (by kernel_rfl) (by kernel_rfl) (by kernel_rfl) (lateK_iff (by rfl)) ?hqs14 ?hys14 hCs13 hSs13 ?rests14
            case his14 => simp only [List.getElem?_toArray, List.getElem?_cons_succ, List.getElem?_cons_zero, Option.some.injEq]; rfl
            case hqs14 => exact fun _ _ _ h => h
            case hys14 =>
              refine Or.inl ⟨by kernel_rfl, fun V hV => ?_⟩
              clear hV
              go_simp
            intro hCs14 hSs14
            clear hCs13 hSs13
            try simp only [Go.Act.put, List.setIfInBounds_toArray, List.set_cons_zero, List.set_cons_succ]
            refine wpAnyS_done (by kernel_rfl) ?_ _
            clear hCs14 hSs14
            go_wp2_with fail
            go_roundw
            case rel => exact ⟨k + 1, _, rfl, by go_num, HKN.out, O4.out, G5.out⟩
            case measure => have := HKN.out; simp [intOf]; omega
          · have hkE : k = N := by omega
            subst hkE
            have hlt' : ¬ ((k : Int) < (k : Int)) := by omega
            have hsl := spL_len ss k k
            have q := ho.out
            obtain ⟨l, hl⟩ : ∃ l, spL ss k k = l := ⟨_, rfl⟩
            rw [hl] at q hsl LN
            rw [← hsl] at q
            obtain ⟨ao, cp, hvv, _, hr, _⟩ := own_rows (cs := ptCs) (fun _ => rfl) q
            subst hvv
            have GG := Lib.hid (grown_trans G1.out hg.out)
            have hsl2 := hsl
            have HR := Lib.hid hr
            clear q ho hg hk hk' hr
            go_wp2_with fail
            go_ret2
            exact ⟨⟨ao, ⟨cp, by rw [LN.out, hsl2]; rfl⟩, by rw [LN.out]; exact HR.out⟩, GG.out⟩
    · rw [if_neg h1] at hv
      subst hv
      have LN : Hid (spcL a n = []) := LN0 (by omega)
      obtain ⟨nm, sp, st, so, sc, ss, lo, lc, ls, to_, tc, ts⟩ := a
      simp only [Act.val] at *
      have HN1 : Hid (decide (2 ≤ n ∧ n ≤ 300) = false) := decide_eq_false h1
      subst h0
      have h0 := trivial
      clear hE ha hce LN0 h1
      have HWE : Hid (waysE ⟨nm, sp, st, so, sc, ss, lo, lc, ls, to_, tc, ts⟩ = (ss.length, 0)) := by show waysE _ = _; unfold waysE; rw [if_pos HCE.out]
      clear h0
      go_enter Try.func27, Try.ntmps27
      go_wp2_with fail
      refine (ways_any ⟨nm, sp, st, so, sc, ss, lo, lc, ls, to_, tc, ts⟩ _ (HA.out.grown (World.grownBy_alloc _ _ _)) HWE).mono ?_; rintro e w1 ⟨⟨wo, wc, rfl, hw⟩, hg1⟩
      have G1 := Lib.hid (grown_trans (World.grownBy_alloc w (.cells #[.string nm, .int .i64 sp, .int .i64 st, .slice so ss.length sc, .slice lo ls.length lc, .slice to_ ts.length tc] 36) none) hg1)
      have b3 : w1.cell? ⟨w.heap.size, 3, none⟩ = some (.slice so ss.length sc) := grown_cell hg1 (by simp)
      have LB : Hid (w.heap.size < w1.heap.size) := by have := hg1.size; simp at this; show _ < _; omega
      have HW := Lib.hid hw
      clear hg1 hw
      go_wp2_with fail
      refine (mwithin_is n 2 300 _ HN1).mono ?_; rintro e w2 ⟨rfl, rfl⟩
      go_wp2_with fail
      go_ret2
      exact ⟨⟨none, 0, by rw [LN.out]; rfl, by rw [LN.out]; exact ⟨fun _ => rfl, fun _ _ h => absurd rfl h, fun _ _ _ h => absurd h (Nat.not_lt_zero _)⟩⟩, G1.out⟩
  · rw [if_neg h0] at hv
    subst hv
    have LN : Hid (spcL a n = []) := LN0 h0
    obtain ⟨nm, sp, st, so, sc, ss, lo, lc, ls, to_, tc, ts⟩ := a
    simp only [Act.val] at *
    have z0 : (ce != 0) = true := by simpa using h0
    have z1 : ¬ ce = 0 := h0
    clear hE ha hce LN0
    have HWE : Hid (waysE ⟨nm, sp, st, so, sc, ss, lo, lc, ls, to_, tc, ts⟩ = (0, ce)) := by show waysE _ = _; unfold waysE; rw [if_neg (by rw [HCE.out]; exact h0), HCE.out]
    clear h0
    go_enter Try.func27, Try.ntmps27
    go_wp2_with fail
    refine (ways_any ⟨nm, sp, st, so, sc, ss, lo, lc, ls, to_, tc, ts⟩ _ (HA.out.grown (World.grownBy_alloc _ _ _)) HWE).mono ?_; rintro e w1 ⟨⟨wo, wc, rfl, hw⟩, hg1⟩
    have G1 := Lib.hid (grown_trans (World.grownBy_alloc w (.cells #[.string nm, .int .i64 sp, .int .i64 st, .slice so ss.length sc, .slice lo ls.length lc, .slice to_ ts.length tc] 36) none) hg1)
    have b3 : w1.cell? ⟨w.heap.size, 3, none⟩ = some (.slice so ss.length sc) := grown_cell hg1 (by simp)
    have LB : Hid (w.heap.size < w1.heap.size) := by have := hg1.size; simp at this; show _ < _; omega
    have HW := Lib.hid hw
    clear hg1 hw
    go_wp2_with fail
    go_ret2
    exact ⟨⟨none, 0, by rw [LN.out]; rfl, by rw [LN.out]; exact ⟨fun _ => rfl, fun _ _ h => absurd rfl h, fun _ _ _ h => absurd h (Nat.not_lt_zero _)⟩⟩, G1.out⟩

end Go.Proofs.Ytnjanjbjhbniiaa
