/- Two curves merged: the program's. -/
import Derived.Test.YtfeefijaahjheaaECat
import Derived.Test.YtfeefijaahjheaaECmp
import Derived.Test.YtfeefijaahjheaaOSet
namespace Go.Proofs.Ytfeefijaahjheaa
open Go.RowKit
set_option linter.unusedSimpArgs false
set_option linter.unusedVariables false

theorem own_base {w : World} {base b2 s n : Nat} {e : TypeId} {v : Value} {xs : List Value} (h : w.ownsRow base e s v n xs) (hb : b2 ≤ base) : w.ownsRow b2 e s v n xs := by
  refine ⟨h.1, ?_⟩
  rcases h.2 with q | ⟨g, cap, cur, e1, e2, rest⟩
  · exact .inl q
  · exact .inr ⟨g, cap, cur, e1, Nat.le_trans hb e2, rest⟩
set_option maxRecDepth 100000 in
set_option maxHeartbeats 3200000 in
theorem merge_is (ao bo : Option Addr) (ca cb : Nat) (a b : List BestV) (ha : (a.length : Int) ≤ 4398046511104) (hb : (b.length : Int) ≤ 4398046511104) (w : World) (hs : RowsAt bestCs 4 w ao a) (ht : RowsAt bestCs 4 w bo b) {R : List BestV} {E : Int} (hE : Hid (mrgOut a b = (R, E))) :
    Calls Try.prog 27 #[.slice ao a.length ca, .slice bo b.length cb] w fun e w' => (∃ v, e = .returned (.tuple #[v, .int .i64 E]) ∧ w'.ownsRow w.heap.size 24 4 v R.length (R.flatMap bestCs)) ∧ w.grownBy w' none := by
  have HS := Lib.hid hs; have HT := Lib.hid ht
  have hv := hE.out
  unfold mrgOut at hv
  obtain ⟨x, hx⟩ : ∃ x, twoE a b = x := ⟨_, rfl⟩
  rw [hx] at hv
  have HX := Lib.hid hx
  clear hs ht hE
  by_cases h0 : x = 0
  · rw [if_pos h0] at hv
    subst h0
    obtain ⟨ca1, cb1⟩ := two_in hx
    have ha2 : a.length ≤ 20000 := by have := ca1.len; omega
    have hb2 : b.length ≤ 20000 := by have := cb1.len; omega
    have la := ca1.len; have lb := cb1.len; have pa := ca1.pos; have pb := cb1.pos
    obtain ⟨j0, ji, jz0, jz1, jz2⟩ := info_parts info_best
    have HJI := Lib.hid ji; have HJ0 := Lib.hid jz0; have HJ1 := Lib.hid jz1; have HJ2 := Lib.hid jz2
    have HV := Lib.hid hv
    clear hx ca1 cb1 hv ji jz0 jz1 jz2
    go_enter Try.func27, Try.ntmps27
    go_wp2_with fail
    refine (checkBoth_is ao bo ca cb a b ha hb w HS.out HT.out HX).mono ?_; rintro e w1 ⟨rfl, hg1⟩
    have HG1 := Lib.hid hg1
    clear hg1
    have HA1 := Lib.hid (grown_trans HG1.out (grown_al w1 (.cells #[.slice ao a.length ca, .slice bo b.length cb] 35)))
    go_wp2_with fail
    refine (concat_bst w1.heap.size 2 ao bo ca cb a b ha2 hb2 _ (mblock_cell (heap_alloc_new w1 (.cells #[.slice ao a.length ca, .slice bo b.length cb] 35)) 0 _ rfl) (mblock_cell (heap_alloc_new w1 (.cells #[.slice ao a.length ca, .slice bo b.length cb] 35)) 1 _ rfl) (by simp) (HS.out.grown HA1.out) (HT.out.grown HA1.out)).mono ?_
    rintro e w2 ⟨⟨v2, rfl, ho2⟩, hg2⟩
    have HO2 := Lib.hid ho2
    have HG2 := Lib.hid (grown_trans HA1.out hg2)
    have HLL : Hid ((a ++ b).length = a.length + b.length) := List.length_append
    clear ho2 hg2
    go_wp2_with fail
    refine (inOrder_is (l := a ++ b) (by have := HLL.out; omega) (by have := HLL.out; omega) w2 _ v2 HO2.out).mono ?_
    rintro e w3 ⟨rfl, ho3, hg3⟩
    have HG3 : Hid (w.grownBy w3 none) := grown_any HG2.out hg3 (fun q e => by have := (HO2.out.lt q e).1; have := HA1.out.size; omega)
    have HO3 := Lib.hid ho3
    clear ho3 hg3
    obtain ⟨L, hL⟩ : ∃ L, srtB (a ++ b) = L := ⟨_, rfl⟩
    have hn : L.length = a.length + b.length := by rw [← hL, srtB_len, List.length_append]
    have HML : Hid (mrgM a b = L.foldl stpM []) := by show _ = _; rw [← hL]; rfl
    rw [hL] at HO3
    have HO4 : Hid (w3.ownsRow (w1.alloc (.cells #[.slice ao a.length ca, .slice bo b.length cb] 35)).heap.size 24 4 v2 L.length (L.flatMap bestCs)) := by
      have q := HO3.out
      rw [HLL.out, ← hn] at q
      exact q
    obtain ⟨ao3, cap3, rfl, hle3, hr3, hb3⟩ := own_rows (cs := bestCs) (K := 4) (fun _ => rfl) HO4.out
    have HR3 := Lib.hid hr3
    have HLN : Hid (L.length ≤ 200) := by show _ ≤ _; omega
    clear hL HO3 HO4 hr3 hb3 hle3 HO2 HG2 HA1 HLL hn
    go_wp2_with fail
    go_loopw [7, 23] (fun ov iv wr => ∃ (k : Nat) (v : Value) (M : List BestV), k ≤ L.length ∧ v = ov ∧ iv = .int .i64 k ∧ Hid ((L.take k).foldl stpM [] = M) ∧ Hid (w3.grownBy wr none) ∧ Hid (wr.ownsRow w3.heap.size 24 4 v M.length (M.flatMap bestCs)))
      (fun _ iv _ => L.length - (intOf iv).toNat)
    case atStart => exact ⟨0, _, [], Nat.zero_le _, rfl, rfl, rfl, grown_refl _ _, World.ownsRow_nil _ _ _ _⟩
    case round =>
      obtain ⟨k, v, M, hk, rfl, rfl, hM, hg, hown⟩ := hrel
      have hML : M.length ≤ k := by
        rw [← hM.out]
        have q := foldM_len (L.take k) []
        simp only [List.length_nil, List.length_take] at q; omega
      have hln := HLN.out
      by_cases hlt : k < L.length
      · obtain ⟨g, o, rfl, hc⟩ := bst_at HR3.out (by omega)
        obtain ⟨c0, c1, c2, c3⟩ := hc k hlt
        replace c0 := grown_cell hg.out c0; replace c1 := grown_cell hg.out c1; replace c2 := grown_cell hg.out c2; replace c3 := grown_cell hg.out c3
        have hsn := foldM_snoc hlt
        rw [hM.out, nthB_at hlt] at hsn
        have HSN := Lib.hid hsn
        clear hsn hc hM
        generalize L[k] = x at *
        obtain ⟨sz, bs, ba, bf⟩ := x
        simp only at c0 c1 c2 c3
        have ji := HJI.out; have jz0 := HJ0.out; have jz1 := HJ1.out; have jz2 := HJ2.out
        have SZ := hg.out.size
        by_cases h0 : M.length = 0
        · have e0 : M = [] := List.eq_nil_of_length_eq_zero h0
          subst e0
          have HS1 : Hid ((L.take (k + 1)).foldl stpM [] = [⟨sz, bs, ba, bf⟩]) := HSN.out
          clear HSN h0 hML
          have hown0 : Hid (wr.ownsRow w3.heap.size 24 4 v 0 []) := hown
          have hvn : ∃ so cp, v = .slice so 0 cp := by
            rcases hown0.out.2 with ⟨e, _⟩ | ⟨g, cap, _, e, _⟩
            · exact ⟨none, 0, e⟩
            · exact ⟨_, _, e⟩
          obtain ⟨so, cp, rfl⟩ := hvn
          clear hown
          go_wp2_with fail
          go_quiet (fail)
          obtain ⟨W, hW⟩ : ∃ W, (wr.alloc (.cells #[.int .i64 sz, .int .i64 bs, .int .i64 ba, .bool bf] 24)).drewN nq = W := ⟨_, rfl⟩
          have hgW : wr.grownBy W none := by rw [← hW]; exact grown_trans (grown_al _ _) (grown_drewN _ none nq)
          have hbW : W.heap[wr.heap.size]? = some (.cells #[.int .i64 sz, .int .i64 bs, .int .i64 ba, .bool bf] 24 (0, 0)) := by rw [← hW]; exact heap_alloc_new _ _
          rw [hW]
          have x0 : W.cell? ⟨wr.heap.size, 0, none⟩ = some (.int .i64 sz) := mblock_cell hbW 0 _ rfl
          have x1 : W.cell? ⟨wr.heap.size, 1, none⟩ = some (.int .i64 bs) := mblock_cell hbW 1 _ rfl
          have x2 : W.cell? ⟨wr.heap.size, 2, none⟩ = some (.int .i64 ba) := mblock_cell hbW 2 _ rfl
          have x3 : W.cell? ⟨wr.heap.size, 3, none⟩ = some (.bool bf) := mblock_cell hbW 3 _ rfl
          have HGW : Hid (w3.grownBy W none) := grown_trans hg.out hgW
          have HOW := Lib.hid (kept_own hown0.out hgW)
          have SZW := HGW.out.size
          clear hW hbW hgW hown0 hg SZ c0 c1 c2 c3
          go_wp2_with (at_builtin; refine wpList_append_own _ rfl _ _ 35 rfl w3.heap.size 24 j0 (.agg #[.int .i64 0, .int .i64 0, .int .i64 0, .bool false]) 4 32 Try.underlying35 ji jz0 jz1 jz2 rfl (by decide) _ _ _ rfl (HOW.out.alloc _) ⟨W.heap.size, 0, none⟩ 1 1 [.int .i64 sz, .int .i64 bs, .int .i64 ba, .bool bf] rfl rfl (bestCs_new W sz bs ba bf 24) (bestCs_one ⟨sz, ⟨bs, ba, bf⟩⟩) (by unfold maxLen; omega) (by omega) (by simp; omega) ?_; intro v' w4 hown' hgrow' _)
          have hlt2 := HOW.out.lt
          have GN : Hid (w3.grownBy w4 none) := fgrown_own HGW.out hgrow' (fun g e => (hlt2 g e).1)
          have HO2 : Hid (w4.ownsRow w3.heap.size 24 4 v' 1 ([(⟨sz, bs, ba, bf⟩ : BestV)].flatMap bestCs)) := hown'
          clear hown' hgrow' hlt2 SZW HOW x0 x1 x2 x3
          go_wp2_with fail
          go_roundw
          case rel => exact ⟨k + 1, _, [⟨sz, bs, ba, bf⟩], by omega, rfl, by go_num, HS1.out, GN.out, HO2.out⟩
          case measure => simp [intOf]; omega
        · obtain ⟨n, hnn⟩ : ∃ n, M.length = n := ⟨_, rfl⟩
          obtain ⟨m, hm⟩ : ∃ m, n = m + 1 := ⟨n - 1, by omega⟩
          obtain ⟨y, hy⟩ : ∃ y, nthB M m = y := ⟨_, rfl⟩
          have hyM : M[m]? = some y := by rw [List.getElem?_eq_getElem (by omega), ← hy, nthB_at (by omega)]
          have hvn : ∃ gm cm, v = .slice (some ⟨gm, 0, none⟩) n cm := by
            rcases hown.out.2 with ⟨e, q⟩ | ⟨g, cap, _, e, _⟩
            · omega
            · exact ⟨g, cap, by rw [e, hnn]⟩
          obtain ⟨gm, cm, rfl⟩ := hvn
          have ho := hown.out
          rw [hnn] at ho
          have y0 : wr.cell? ⟨gm, m * 4 + 0, none⟩ = some (.int .i64 y.sz) := own_cellK (cs := bestCs) (K := 4) (fun _ => rfl) ho hnn (by omega) hyM rfl
          have y1 : wr.cell? ⟨gm, m * 4 + 1, none⟩ = some (.int .i64 y.b.sum) := own_cellK (cs := bestCs) (K := 4) (fun _ => rfl) ho hnn (by omega) hyM rfl
          have y2 : wr.cell? ⟨gm, m * 4 + 2, none⟩ = some (.int .i64 y.b.at_) := own_cellK (cs := bestCs) (K := 4) (fun _ => rfl) ho hnn (by omega) hyM rfl
          have y3 : wr.cell? ⟨gm, m * 4 + 3, none⟩ = some (.bool y.b.found) := own_cellK (cs := bestCs) (K := 4) (fun _ => rfl) ho hnn (by omega) hyM rfl
          have hgm : w3.heap.size ≤ gm ∧ gm < wr.heap.size := ho.lt gm rfl
          have HOM := Lib.hid ho
          have em : (n : Int) - 1 = (m : Int) := by omega
          have rm : IntKind.i64.wrap (m : Int) = (m : Int) := IntWalk.i64_in _ (by omega)
          have hm0 : ¬ (m : Int) < 0 := by omega
          have hmi : (m : Int) < (n : Int) := by omega
          have hmj : (0 : Int) ≤ (m : Int) := by omega
          have hnk : n ≤ 200 := by omega
          have hst : stpM M ⟨sz, bs, ba, bf⟩ = if y.sz ≠ sz then M ++ [⟨sz, bs, ba, bf⟩] else if betB ⟨bs, ba, bf⟩ y.b = true then M.set m ⟨sz, bs, ba, bf⟩ else M := by
            unfold stpM
            rw [show M.length - 1 = m by omega, hy]
            simp only [hnn, show n ≠ 0 by omega, false_or]
          rw [← HSN.out] at hst
          rw [Nat.add_zero] at y0
          obtain ⟨ys, yb, ya, yf⟩ := y
          simp only at y0 y1 y2 y3 hst
          have HM := Lib.hid hm; have HNN := Lib.hid hnn
          have hgm2 := hgm.2
          clear HSN ho hown hyM hy h0 hm hnn
          by_cases he : ys = sz
          · have hne : (ys != sz) = false := by simpa using he
            go_wp2_with fail
            go_quiet (fail)
            obtain ⟨W, hW⟩ : ∃ W, (wr.alloc (.cells #[.int .i64 sz, .int .i64 bs, .int .i64 ba, .bool bf] 24)).drewN nq = W := ⟨_, rfl⟩
            have hgW : wr.grownBy W none := by rw [← hW]; exact grown_trans (grown_al _ _) (grown_drewN _ none nq)
            have hbW : W.heap[wr.heap.size]? = some (.cells #[.int .i64 sz, .int .i64 bs, .int .i64 ba, .bool bf] 24 (0, 0)) := by rw [← hW]; exact heap_alloc_new _ _
            rw [hW]
            subst he
            rw [if_neg (by simp)] at hst
            obtain ⟨q, hq⟩ : ∃ q, betB ⟨bs, ba, bf⟩ ⟨yb, ya, yf⟩ = q := ⟨_, rfl⟩
            rw [hq] at hst
            have HST := Lib.hid hst
            have HQ := Lib.hid hq
            have mixed : Try.prog.follows .mixedOrders = true := by kernel_rfl
            have x0 : ∀ p : GrW W, p.V.cell? ⟨wr.heap.size, 0, none⟩ = some (.int .i64 ys) := fun p => grown_cell p.h (mblock_cell hbW 0 _ rfl)
            have x1 : ∀ p : GrW W, p.V.cell? ⟨wr.heap.size, 1, none⟩ = some (.int .i64 bs) := fun p => grown_cell p.h (mblock_cell hbW 1 _ rfl)
            have x2 : ∀ p : GrW W, p.V.cell? ⟨wr.heap.size, 2, none⟩ = some (.int .i64 ba) := fun p => grown_cell p.h (mblock_cell hbW 2 _ rfl)
            have x3 : ∀ p : GrW W, p.V.cell? ⟨wr.heap.size, 3, none⟩ = some (.bool bf) := fun p => grown_cell p.h (mblock_cell hbW 3 _ rfl)
            have u0 : ∀ p : GrW W, p.V.cell? ⟨gm, m * 4, none⟩ = some (.int .i64 ys) := fun p => grown_cell p.h (grown_cell hgW y0)
            have u1 : ∀ p : GrW W, p.V.cell? ⟨gm, m * 4 + 1, none⟩ = some (.int .i64 yb) := fun p => grown_cell p.h (grown_cell hgW y1)
            have u2 : ∀ p : GrW W, p.V.cell? ⟨gm, m * 4 + 2, none⟩ = some (.int .i64 ya) := fun p => grown_cell p.h (grown_cell hgW y2)
            have u3 : ∀ p : GrW W, p.V.cell? ⟨gm, m * 4 + 3, none⟩ = some (.bool yf) := fun p => grown_cell p.h (grown_cell hgW y3)
            have HC2 : Hid (∀ p : GrW W, Calls Try.prog 64 #[.agg #[.int .i64 ys, .int .i64 bs, .int .i64 ba, .bool bf], .agg #[.int .i64 ys, .int .i64 yb, .int .i64 ya, .bool yf]] p.V fun e w' => e = .returned (.bool q) ∧ ∃ q : GrW W, w' = q.V) :=
              fun p => GrW.calls (isBetter_is ys ys ⟨bs, ba, bf⟩ ⟨yb, ya, yf⟩ p.V HQ)
            have HGW := Lib.hid hgW; have HBW := Lib.hid hbW
            clear hgW hbW hW c0 c1 c2 c3 y0 y1 y2 y3 hst hq
            go_wp2_with fail
            refine wp_region_quiet_gr mixed (by kernel_rfl) ?_
            repeat (quiet_step (first | (go_at_call 64; exact HC2.out _)))
            refine wpQuiet_nil ?_
            rintro V ⟨p9, e9⟩
            have hV : W.grownBy V none := by rw [e9]; exact p9.h
            clear e9 p9 x0 x1 x2 x3 u0 u1 u2 u3
            have HVW : Hid (w3.grownBy V none) := grown_trans hg.out (grown_trans HGW.out hV)
            have HOV := Lib.hid (kept_own (kept_own HOM.out HGW.out) hV)
            have x0 : V.cell? ⟨wr.heap.size, 0, none⟩ = some (.int .i64 ys) := grown_cell hV (mblock_cell HBW.out 0 _ rfl)
            have x1 : V.cell? ⟨wr.heap.size, 1, none⟩ = some (.int .i64 bs) := grown_cell hV (mblock_cell HBW.out 1 _ rfl)
            have x2 : V.cell? ⟨wr.heap.size, 2, none⟩ = some (.int .i64 ba) := grown_cell hV (mblock_cell HBW.out 2 _ rfl)
            have x3 : V.cell? ⟨wr.heap.size, 3, none⟩ = some (.bool bf) := grown_cell hV (mblock_cell HBW.out 3 _ rfl)
            clear HC2 HQ HOM HGW HBW hV hg
            cases q
            · have HS1 : Hid ((L.take (k + 1)).foldl stpM [] = M) := HST.out
              have HO2 : Hid (V.ownsRow w3.heap.size 24 4 (.slice (some ⟨gm, 0, none⟩) n cm) M.length (M.flatMap bestCs)) := by
                show World.ownsRow _ _ _ _ _ _ _; rw [HNN.out]; exact HOV.out
              clear HST HOV
              go_wp2_with fail
              go_roundw
              case rel => exact ⟨k + 1, _, _, by omega, rfl, by go_num, HS1.out, HVW.out, HO2.out⟩
              case measure => simp [intOf]; omega
            · have HS1 : Hid ((L.take (k + 1)).foldl stpM [] = M.set m ⟨ys, bs, ba, bf⟩) := HST.out
              have HO2 : Hid (((((V.setCell ⟨gm, m * 4, none⟩ (.int .i64 ys)).setCell ⟨gm, m * 4 + 1, none⟩ (.int .i64 bs)).setCell ⟨gm, m * 4 + 2, none⟩ (.int .i64 ba)).setCell ⟨gm, m * 4 + 3, none⟩ (.bool bf)).ownsRow w3.heap.size 24 4 (.slice (some ⟨gm, 0, none⟩) n cm) (M.set m ⟨ys, bs, ba, bf⟩).length ((M.set m ⟨ys, bs, ba, bf⟩).flatMap bestCs)) := by
                show World.ownsRow _ _ _ _ _ _ _
                rw [List.length_set, HNN.out]
                exact own_set (cs := bestCs) (K := 4) (fun _ => rfl) HOV.out HNN.out (by have := HM.out; omega) ⟨ys, bs, ba, bf⟩
              have HG2 : Hid (w3.grownBy ((((V.setCell ⟨gm, m * 4, none⟩ (.int .i64 ys)).setCell ⟨gm, m * 4 + 1, none⟩ (.int .i64 bs)).setCell ⟨gm, m * 4 + 2, none⟩ (.int .i64 ba)).setCell ⟨gm, m * 4 + 3, none⟩ (.bool bf)) none) :=
                mgrown_set (mgrown_set (mgrown_set (mgrown_set HVW.out hgm.1 _ _) hgm.1 _ _) hgm.1 _ _) hgm.1 _ _
              have hyV : M[m]? = some (nthB M m) := by rw [List.getElem?_eq_getElem (by have := HM.out; have := HNN.out; omega), nthB_at (by have := HM.out; have := HNN.out; omega)]
              have y0 : V.cell? ⟨gm, m * 4, none⟩ = some (.int .i64 (nthB M m).sz) := by have q := own_cellK (cs := bestCs) (K := 4) (c := 0) (fun _ => rfl) HOV.out HNN.out (by have := HM.out; omega) hyV rfl; exact q
              have y1 : V.cell? ⟨gm, m * 4 + 1, none⟩ = some (.int .i64 (nthB M m).b.sum) := own_cellK (cs := bestCs) (K := 4) (fun _ => rfl) HOV.out HNN.out (by have := HM.out; omega) hyV rfl
              have y2 : V.cell? ⟨gm, m * 4 + 2, none⟩ = some (.int .i64 (nthB M m).b.at_) := own_cellK (cs := bestCs) (K := 4) (fun _ => rfl) HOV.out HNN.out (by have := HM.out; omega) hyV rfl
              have y3 : V.cell? ⟨gm, m * 4 + 3, none⟩ = some (.bool (nthB M m).b.found) := own_cellK (cs := bestCs) (K := 4) (fun _ => rfl) HOV.out HNN.out (by have := HM.out; omega) hyV rfl
              have f0 : V.frozen? ⟨gm, m * 4, none⟩ = false := own_freeK (cs := bestCs) HOV.out _
              have f1 : V.frozen? ⟨gm, m * 4 + 1, none⟩ = false := own_freeK (cs := bestCs) HOV.out _
              have f2 : V.frozen? ⟨gm, m * 4 + 2, none⟩ = false := own_freeK (cs := bestCs) HOV.out _
              have f3 : V.frozen? ⟨gm, m * 4 + 3, none⟩ = false := own_freeK (cs := bestCs) HOV.out _
              have hgne : gm ≠ wr.heap.size := by omega
              clear HST HOV hyV HVW
              go_wp2_with fail
              go_roundw
              case rel => exact ⟨k + 1, _, _, by omega, rfl, by go_num, HS1.out, HG2.out, HO2.out⟩
              case measure => simp [intOf]; omega
          · have hne : (ys != sz) = true := by simpa using he
            go_wp2_with fail
            go_quiet (fail)
            obtain ⟨W, hW⟩ : ∃ W, (wr.alloc (.cells #[.int .i64 sz, .int .i64 bs, .int .i64 ba, .bool bf] 24)).drewN nq = W := ⟨_, rfl⟩
            have hgW : wr.grownBy W none := by rw [← hW]; exact grown_trans (grown_al _ _) (grown_drewN _ none nq)
            have hbW : W.heap[wr.heap.size]? = some (.cells #[.int .i64 sz, .int .i64 bs, .int .i64 ba, .bool bf] 24 (0, 0)) := by rw [← hW]; exact heap_alloc_new _ _
            rw [hW]
            have x0 : W.cell? ⟨wr.heap.size, 0, none⟩ = some (.int .i64 sz) := mblock_cell hbW 0 _ rfl
            have x1 : W.cell? ⟨wr.heap.size, 1, none⟩ = some (.int .i64 bs) := mblock_cell hbW 1 _ rfl
            have x2 : W.cell? ⟨wr.heap.size, 2, none⟩ = some (.int .i64 ba) := mblock_cell hbW 2 _ rfl
            have x3 : W.cell? ⟨wr.heap.size, 3, none⟩ = some (.bool bf) := mblock_cell hbW 3 _ rfl
            have HGW : Hid (w3.grownBy W none) := grown_trans hg.out hgW
            have HOW := Lib.hid (kept_own HOM.out hgW)
            have SZW := HGW.out.size
            have HS1 : Hid ((L.take (k + 1)).foldl stpM [] = M ++ [⟨sz, bs, ba, bf⟩]) := by show _ = _; rw [hst, if_pos he]
            clear hW hbW hgW HOM hg SZ c0 c1 c2 c3 y0 y1 y2 y3 hst em rm hm0 hmi hmj he hne hgm hgm2
            go_wp2_with (at_builtin; refine wpList_append_own _ rfl _ _ 35 rfl w3.heap.size 24 j0 (.agg #[.int .i64 0, .int .i64 0, .int .i64 0, .bool false]) 4 32 Try.underlying35 ji jz0 jz1 jz2 rfl (by decide) _ _ _ rfl (HOW.out.alloc _) ⟨W.heap.size, 0, none⟩ 1 1 [.int .i64 sz, .int .i64 bs, .int .i64 ba, .bool bf] rfl rfl (bestCs_new W sz bs ba bf 24) (bestCs_one ⟨sz, ⟨bs, ba, bf⟩⟩) (by unfold maxLen; omega) (by omega) (by simp; omega) ?_; intro v' w4 hown' hgrow' _)
            have hlt2 := HOW.out.lt
            have GN : Hid (w3.grownBy w4 none) := fgrown_own HGW.out hgrow' (fun g e => (hlt2 g e).1)
            have HO2 : Hid (w4.ownsRow w3.heap.size 24 4 v' (M ++ [(⟨sz, bs, ba, bf⟩ : BestV)]).length ((M ++ [(⟨sz, bs, ba, bf⟩ : BestV)]).flatMap bestCs)) := by
              show World.ownsRow _ _ _ _ _ _ _
              rw [mflat_snoc, List.length_append, HNN.out]; exact hown'
            clear hown' hgrow' hlt2 SZW HOW x0 x1 x2 x3
            go_wp2_with fail
            go_roundw
            case rel => exact ⟨k + 1, _, _, by omega, rfl, by go_num, HS1.out, GN.out, HO2.out⟩
            case measure => simp [intOf]; omega
      · obtain rfl : k = L.length := by omega
        have hM2 : R = R ∧ M = mrgM a b := ⟨rfl, by rw [HML.out, ← hM.out, List.take_length]⟩
        have hv := HV.out
        rw [← hM2.2] at hv
        have HGF := Lib.hid (grown_trans HG3.out hg.out)
        have HOB : Hid (wr.ownsRow w.heap.size 24 4 v M.length (M.flatMap bestCs)) := own_base hown.out HG3.out.size
        obtain ⟨n, hnn⟩ : ∃ n, M.length = n := ⟨_, rfl⟩
        have hvn : ∃ so cp, v = .slice so n cp := by
          rcases hown.out.2 with ⟨e, q⟩ | ⟨g, cap, _, e, _⟩
          · exact ⟨none, 0, by rw [e, ← hnn, q]⟩
          · exact ⟨_, _, by rw [e, hnn]⟩
        obtain ⟨so, cp, rfl⟩ := hvn
        rw [hnn] at hv hML
        clear hown hg hM2 hM
        by_cases h100 : n ≤ 100
        · rw [if_pos h100] at hv
          simp only [Prod.mk.injEq] at hv
          obtain ⟨rfl, rfl⟩ := hv
          have hn1 : ¬ (100 : Int) < (n : Int) := by omega
          have HNN := Lib.hid hnn
          clear hnn h100
          go_wp2_with fail
          go_ret2
          exact ⟨⟨_, rfl, HOB.out⟩, HGF.out⟩
        · rw [if_neg h100] at hv
          simp only [Prod.mk.injEq] at hv
          obtain ⟨rfl, rfl⟩ := hv
          have hn1 : (100 : Int) < (n : Int) := by omega
          clear hnn h100
          go_wp2_with fail
          go_ret2
          exact ⟨⟨_, rfl, World.ownsRow_nil _ _ _ _⟩, HGF.out⟩
  · rw [if_neg h0] at hv
    simp only [Prod.mk.injEq] at hv
    obtain ⟨rfl, rfl⟩ := hv
    have hne : (x != 0) = true := by simpa using h0
    clear hx h0
    go_enter Try.func27, Try.ntmps27
    go_wp2_with fail
    refine (checkBoth_is ao bo ca cb a b ha hb w HS.out HT.out HX).mono ?_; rintro e w1 ⟨rfl, hg1⟩
    have HG1 := Lib.hid hg1
    clear hg1
    go_wp2_with fail
    go_ret2
    exact ⟨⟨_, rfl, World.ownsRow_nil _ _ _ _⟩, HG1.out⟩
end Go.Proofs.Ytfeefijaahjheaa
