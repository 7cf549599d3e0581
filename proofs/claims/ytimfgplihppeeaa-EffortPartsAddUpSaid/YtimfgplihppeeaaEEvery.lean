/- The contracts of EveryWay and EveryTime. -/
import Derived.Test.YtimfgplihppeeaaELaps
namespace Go.Proofs.Ytimfgplihppeeaa
open Go.RowKit

noncomputable def everyWayOut (a : Act) (way : Int) : List (Int × Int) × Int := if chkE a = 0 then (if 1 ≤ way ∧ way ≤ 1000000000 then lapsOut (refL way 0 0 0 (streamS 4 a.ss)) else ([], 9)) else ([], chkE a)
def everyTimeOut (a : Act) (s : Int) : List (Int × Int) × Int := if chkE a = 0 then (if 1 ≤ s ∧ s ≤ 1000000 then lapsOut (refT s (spanL a.ss) 0) else ([], 9)) else ([], chkE a)
theorem span_len {ss : List Smp} (kind : Int) (h : SOk ss) : spanL ss = ((streamS kind ss).length : Int) := by
  rcases Nat.eq_zero_or_pos ss.length with h0 | h0
  · have : ss = [] := List.eq_nil_of_length_eq_zero h0
    subst this; rfl
  · obtain ⟨n, hn⟩ : ∃ n, ss.length = n + 1 := ⟨ss.length - 1, by omega⟩
    have e := spanL_at hn
    rw [← smpD_at (by omega : n < ss.length)] at e
    rw [e]
    unfold streamS
    rw [hn, Nat.add_sub_cancel, strL_len h n (by omega)]
theorem endsL_end {way i g : Int} {l : List Int} {k : Nat} (h : l.length ≤ k) : endsL way i g (l.drop k) = [] := by
  rw [List.drop_eq_nil_of_le h]; rfl
theorem own_lowL {w : World} {base base' : Nat} {e : TypeId} {size : Nat} {v : Value} {n : Nat} {xs : List Value} (h : w.ownsRow base e size v n xs) (hb : base' ≤ base) : w.ownsRow base' e size v n xs :=
  ⟨h.1, h.2.imp id fun ⟨g, cap, cur, h1, h2, h3⟩ => ⟨g, cap, cur, h1, Nat.le_trans hb h2, h3⟩⟩

set_option maxRecDepth 100000 in
set_option maxHeartbeats 3200000 in
theorem EveryWay_ok (nm : ByteArray) (sp st : Int) (so : Option Addr) (sc : Nat) (ss : List Smp) (lo : Option Addr) (lc : Nat) (ls : List LapV) (to_ : Option Addr) (tc : Nat) (ts : List ByteArray) (way : Int) (y0 : 1 ≤ way) (y1 : way ≤ 1000000000) (w : World)
    (HA : Hid (ActAt w ⟨nm, sp, st, so, sc, ss, lo, lc, ls, to_, tc, ts⟩)) (HCE : Hid (chkE ⟨nm, sp, st, so, sc, ss, lo, lc, ls, to_, tc, ts⟩ = 0)) (HS : Hid (SOk ss)) {R : List (Int × Int)} {Er : Int} (hR0 : Hid (lapsOut (refL way 0 0 0 (streamS 4 ss)) = (R, Er))) :
    Calls Try.prog 39 #[.agg #[.string nm, .int .i64 sp, .int .i64 st, .slice so ss.length sc, .slice lo ls.length lc, .slice to_ ts.length tc], .int .i64 way] w fun e w' => (∃ u, e = .returned (.tuple #[u, .int .i64 Er]) ∧ w'.ownsRow w.heap.size 64 3 u R.length (lapsVs R)) ∧ w.grownBy w' none := by
  obtain ⟨i0, hi, hz0, hz1, hz2⟩ := info_parts info_int
  have HI := Lib.hid hi; have HZ0 := Lib.hid hz0; have HZ1 := Lib.hid hz1; have HZ2 := Lib.hid hz2
  have HY : Hid (1 ≤ way ∧ way ≤ 1000000000) := ⟨y0, y1⟩
  have HSP := Lib.hid (span_len 4 HS.out)
  have hsl := streamS_len (kind := 4) HS.out
  have HSB := Lib.hid (streamS_bd (kind := 4) HS.out)
  obtain ⟨S, hSdef⟩ : ∃ S, streamS 4 ss = S := ⟨_, rfl⟩
  have HSD := Lib.hid hSdef
  rw [hSdef] at hR0 HSP hsl HSB
  have HLR := Lib.hid (lap_ref way S 0 0 0 (Int.le_refl _))
  have hR : Hid (lapsOut (lapL 0 (endsL way 0 0 S ++ [(S.length : Int)])) = (R, Er)) := by
    show _ = _
    have := HLR.out
    rw [Int.zero_add] at this
    rw [this]; exact hR0.out
  obtain ⟨FE, hFE⟩ : ∃ FE, endsL way 0 0 S = FE := ⟨_, rfl⟩
  have hfl : FE.length ≤ 1000000 := by rw [← hFE]; have := endsL_le way S 0 0; omega
  rw [hFE] at hR
  have HF0 : Hid ([] ++ endsL way ((0 : Nat) : Int) 0 (S.drop 0) = FE) := hFE
  clear hi hz0 hz1 hz2 hSdef hFE HLR hR0
  go_enter Try.func39, Try.ntmps39
  have GB : Hid (w.grownBy (w.alloc (.cells #[.string nm, .int .i64 sp, .int .i64 st, .slice so ss.length sc, .slice lo ls.length lc, .slice to_ ts.length tc] 26)) none) := World.grownBy_alloc _ _ _
  go_wp2_with fail
  refine (check_any ⟨nm, sp, st, so, sc, ss, lo, lc, ls, to_, tc, ts⟩ _ (HA.out.grown GB.out) HCE).mono ?_; rintro e w1 ⟨rfl, hg1⟩
  have G1 := Lib.hid (grown_trans GB.out hg1)
  have b0 : w1.cell? ⟨w.heap.size, 0, none⟩ = some (.string nm) := grown_cell hg1 (by go_simp)
  have b1 : w1.cell? ⟨w.heap.size, 1, none⟩ = some (.int .i64 sp) := grown_cell hg1 (by go_simp)
  have b2 : w1.cell? ⟨w.heap.size, 2, none⟩ = some (.int .i64 st) := grown_cell hg1 (by go_simp)
  have b3 : w1.cell? ⟨w.heap.size, 3, none⟩ = some (.slice so ss.length sc) := grown_cell hg1 (by go_simp)
  have b4 : w1.cell? ⟨w.heap.size, 4, none⟩ = some (.slice lo ls.length lc) := grown_cell hg1 (by go_simp)
  have b5 : w1.cell? ⟨w.heap.size, 5, none⟩ = some (.slice to_ ts.length tc) := grown_cell hg1 (by go_simp)
  clear hg1
  go_wp2_with fail
  refine (ewithin_yes _ _ _ HY.out _).mono ?_; rintro e w2 ⟨rfl, rfl⟩
  go_wp2_with fail
  refine (streamOf_any nm sp st so sc ss lo lc ls to_ tc ts 4 (by omega) (by omega) w1 (Lib.hid (HA.out.grown G1.out)) HS).mono ?_; rintro e w2 ⟨⟨sv, rfl, hso⟩, hg2⟩
  rw [HSD.out] at hso
  obtain ⟨sao, scap, rfl, hSI, _⟩ := intsAt_own hso
  have HSI := Lib.hid hSI
  have G2 := Lib.hid (grown_trans G1.out hg2)
  have c0 : w2.cell? ⟨w.heap.size, 0, none⟩ = some (.string nm) := grown_cell hg2 b0
  have c1 : w2.cell? ⟨w.heap.size, 1, none⟩ = some (.int .i64 sp) := grown_cell hg2 b1
  have c2 : w2.cell? ⟨w.heap.size, 2, none⟩ = some (.int .i64 st) := grown_cell hg2 b2
  have c3 : w2.cell? ⟨w.heap.size, 3, none⟩ = some (.slice so ss.length sc) := grown_cell hg2 b3
  have c4 : w2.cell? ⟨w.heap.size, 4, none⟩ = some (.slice lo ls.length lc) := grown_cell hg2 b4
  have c5 : w2.cell? ⟨w.heap.size, 5, none⟩ = some (.slice to_ ts.length tc) := grown_cell hg2 b5
  have C0 := Lib.hid c0; have C1 := Lib.hid c1; have C2 := Lib.hid c2; have C3 := Lib.hid c3; have C4 := Lib.hid c4; have C5 := Lib.hid c5
  clear hg2 hso hSI b0 b1 b2 b3 b4 b5 c0 c1 c2 c3 c4 c5 HSD
  go_wp2_with fail
  go_loopw [7, 8, 22] (fun lv gv iv wr => ∃ (k : Nat) (g : Int) (L : List Int) (u : Value), u = lv ∧ gv = .int .i64 g ∧ iv = .int .i64 k ∧ k ≤ S.length ∧ Hid (wr.ownsRow w2.heap.size 3 1 u L.length (ints L)) ∧ L.length ≤ k ∧ Hid (w2.grownBy wr none) ∧ -(k : Int) ≤ g ∧ g < way ∧ Hid (L ++ endsL way k g (S.drop k) = FE))
    (fun _ _ iv _ => S.length - (intOf iv).toNat)
  case atStart => exact ⟨0, 0, [], _, rfl, rfl, rfl, Nat.zero_le _, World.ownsRow_nil _ _ _ _, Nat.zero_le _, grown_refl _ _, by omega, by omega, HF0.out⟩
  case round =>
    obtain ⟨k, g, L, u, rfl, rfl, rfl, hk, hown, hlk, hg, g0, g1, hw⟩ := hrel
    by_cases hlt : k < S.length
    · obtain ⟨b, off, rfl, hc⟩ := HSI.out.at (by omega)
      have c0 := grown_cell hg.out (hc k hlt)
      have hb := HSB.out (nthI S k) (by rw [nthI_at hlt]; exact List.getElem_mem hlt)
      have hw2 := hw.out
      rw [nthI_drop hlt, endsL] at hw2
      have HW2 := Lib.hid hw2
      clear hw hw2 hc
      generalize nthI S k = x at *
      by_cases hx : way ≤ g + x
      · have HW3 : Hid ((L ++ [(k : Int) + 1]) ++ endsL way ((k : Int) + 1) 0 (S.drop (k + 1)) = FE) := by
          have := HW2.out; rw [if_pos hx] at this; show _ = _; rw [List.append_assoc]; exact this
        have hi := HI.out; have hz0 := HZ0.out; have hz1 := HZ1.out; have hz2 := HZ2.out
        have OWN := Lib.hid hown.out
        have HB2 : Hid (w2.heap.size ≤ wr.heap.size) := hg.out.size
        clear hown HW2
        go_wp2_with (at_builtin; refine wpList_append_own _ rfl _ _ 55 rfl w2.heap.size 3 i0 (.int .i64 0) 1 8 Try.underlying55 hi hz0 hz1 hz2 rfl (by decide) _ _ _ rfl (OWN.out.alloc _) ⟨wr.heap.size, 0, none⟩ 1 1 [.int .i64 ((k : Int) + 1)] rfl rfl (cell_one_new wr (.int .i64 ((k : Int) + 1)) 3) (by intro u hu; simp at hu; subst hu; rfl) (by unfold maxLen; omega) (by omega) (by have := HB2.out; simp; omega) ?_; intro u' w4 hown4 hgrow4 _)
        have HOW4 : Hid (w4.ownsRow w2.heap.size 3 1 u' (L ++ [(k : Int) + 1]).length (ints (L ++ [(k : Int) + 1]))) := by
          show World.ownsRow _ _ _ _ _ _ _; rw [ints_snoc, List.length_append]; exact hown4
        have HG4 : Hid (w2.grownBy w4 none) := grown_own hg.out hgrow4 (fun g e => (OWN.out.lt g e).1)
        clear hown4 hgrow4 hi hz0 hz1 hz2 OWN hg
        go_wp2_with fail
        go_roundw
        case rel => exact ⟨k + 1, 0, L ++ [(k : Int) + 1], _, rfl, rfl, by go_num, by omega, HOW4.out, by simp; omega, HG4.out, by omega, by omega, (by show _ = _; have := HW3.out; simpa using this)⟩
        case measure => simp [intOf]; omega
      · have HW3 : Hid (L ++ endsL way ((k : Int) + 1) (g + x) (S.drop (k + 1)) = FE) := by
          have := HW2.out; rw [if_neg hx] at this; exact this
        clear HW2
        go_wp2_with fail
        go_roundw
        case rel => exact ⟨k + 1, g + x, L, _, rfl, rfl, by go_num, by omega, hown.out, by omega, hg.out, by omega, by omega, (by show _ = _; have := HW3.out; simpa using this)⟩
        case measure => simp [intOf]; omega
    · have hf := hw.out
      rw [endsL_end (by omega), List.append_nil] at hf
      have HF := Lib.hid hf
      have hln : L.length ≤ 1000000 := by rw [hf]; exact hfl
      have HUW := Lib.hid hown.out
      have HGR := Lib.hid hg.out
      have d0 : wr.cell? ⟨w.heap.size, 0, none⟩ = some (.string nm) := grown_cell HGR.out C0.out
      have d1 : wr.cell? ⟨w.heap.size, 1, none⟩ = some (.int .i64 sp) := grown_cell HGR.out C1.out
      have d2 : wr.cell? ⟨w.heap.size, 2, none⟩ = some (.int .i64 st) := grown_cell HGR.out C2.out
      have d3 : wr.cell? ⟨w.heap.size, 3, none⟩ = some (.slice so ss.length sc) := grown_cell HGR.out C3.out
      have d4 : wr.cell? ⟨w.heap.size, 4, none⟩ = some (.slice lo ls.length lc) := grown_cell HGR.out C4.out
      have d5 : wr.cell? ⟨w.heap.size, 5, none⟩ = some (.slice to_ ts.length tc) := grown_cell HGR.out C5.out
      clear hf hw hown hg
      go_wp2_with fail
      refine (span_any ⟨nm, sp, st, so, sc, ss, lo, lc, ls, to_, tc, ts⟩ HA.out.sl _ (HA.out.grown (grown_trans G2.out HGR.out)).hs HSP).mono ?_; rintro e w5 ⟨rfl, hg5⟩
      have HU5 := Lib.hid (HUW.out.kept hg5 (Classical.em _))
      have HG5 := Lib.hid (grown_trans G2.out (grown_trans HGR.out hg5))
      have HB5 : Hid (w2.heap.size ≤ w5.heap.size) := Nat.le_trans HGR.out.size hg5.size
      have HRL : Hid (lapsOut (lapL 0 (L ++ [(S.length : Int)])) = (R, Er)) := by show _ = _; rw [HF.out]; exact hR.out
      clear d0 d1 d2 d3 d4 d5 hg5
      go_wp2_with fail
      refine (lapsTo_any (S.length : Int) w5 HB5.out HU5.out hln HRL).mono ?_; rintro e w6 ⟨⟨rv, rfl, hrv⟩, hg6⟩
      have HRV : Hid (w6.ownsRow w.heap.size 64 3 rv R.length (lapsVs R)) := own_lowL hrv HG5.out.size
      have HG6 : Hid (w.grownBy w6 none) := grown_low HG5.out hg6 (fun g e => by have := (HU5.out.lt g e).1; have := G2.out.size; omega)
      clear hrv hg6
      go_wp2_with fail
      go_ret2
      exact ⟨⟨_, rfl, HRV.out⟩, HG6.out⟩

set_option maxRecDepth 100000 in
set_option maxHeartbeats 3200000 in
theorem EveryTime_ok (nm : ByteArray) (sp st : Int) (so : Option Addr) (sc : Nat) (ss : List Smp) (lo : Option Addr) (lc : Nat) (ls : List LapV) (to_ : Option Addr) (tc : Nat) (ts : List ByteArray) (way : Int) (y0 : 1 ≤ way) (y1 : way ≤ 1000000) (w : World)
    (HA : Hid (ActAt w ⟨nm, sp, st, so, sc, ss, lo, lc, ls, to_, tc, ts⟩)) (HCE : Hid (chkE ⟨nm, sp, st, so, sc, ss, lo, lc, ls, to_, tc, ts⟩ = 0)) (HS : Hid (SOk ss)) {R : List (Int × Int)} {Er : Int} (hR0 : Hid (lapsOut (refT way (spanL ss) 0) = (R, Er))) :
    Calls Try.prog 41 #[.agg #[.string nm, .int .i64 sp, .int .i64 st, .slice so ss.length sc, .slice lo ls.length lc, .slice to_ ts.length tc], .int .i64 way] w fun e w' => (∃ u, e = .returned (.tuple #[u, .int .i64 Er]) ∧ w'.ownsRow w.heap.size 64 3 u R.length (lapsVs R)) ∧ w.grownBy w' none := by
  obtain ⟨i0, hi, hz0, hz1, hz2⟩ := info_parts info_int
  have HI := Lib.hid hi; have HZ0 := Lib.hid hz0; have HZ1 := Lib.hid hz1; have HZ2 := Lib.hid hz2
  have HY : Hid (1 ≤ way ∧ way ≤ 1000000) := ⟨y0, y1⟩
  obtain ⟨c, hc, hc1⟩ := span_bd HS.out
  obtain ⟨span, hsp⟩ : ∃ s, spanL ss = s := ⟨_, rfl⟩
  have hs0 : 0 ≤ span := by omega
  have hs1 : span ≤ 1000000 := by omega
  have HSP := Lib.hid hsp
  rw [hsp] at hR0
  have hR : Hid (lapsOut (lapL 0 (endsT way span way ++ [span])) = (R, Er)) := by
    show _ = _
    have := lap_refT (s := way) (span := span) y0 (span - 0).toNat 0 (Nat.le_refl _) hs0
    rw [Int.zero_add] at this
    rw [this]; exact hR0.out
  obtain ⟨FE, hFE⟩ : ∃ FE, endsT way span way = FE := ⟨_, rfl⟩
  have hfl : FE.length ≤ 1000000 := by rw [← hFE]; have := endsT_le (s := way) (span := span) y0 1000000 way (by omega); exact this
  rw [hFE] at hR
  have HF0 : Hid ([] ++ endsT way span way = FE) := hFE
  clear hi hz0 hz1 hz2 hFE hR0 hc hsp
  go_enter Try.func41, Try.ntmps41
  have GB : Hid (w.grownBy (w.alloc (.cells #[.string nm, .int .i64 sp, .int .i64 st, .slice so ss.length sc, .slice lo ls.length lc, .slice to_ ts.length tc] 26)) none) := World.grownBy_alloc _ _ _
  go_wp2_with fail
  refine (check_any ⟨nm, sp, st, so, sc, ss, lo, lc, ls, to_, tc, ts⟩ _ (HA.out.grown GB.out) HCE).mono ?_; rintro e w2 ⟨rfl, hg1⟩
  have G2 := Lib.hid (grown_trans GB.out hg1)
  have c0 : w2.cell? ⟨w.heap.size, 0, none⟩ = some (.string nm) := grown_cell hg1 (by go_simp)
  have c1 : w2.cell? ⟨w.heap.size, 1, none⟩ = some (.int .i64 sp) := grown_cell hg1 (by go_simp)
  have c2 : w2.cell? ⟨w.heap.size, 2, none⟩ = some (.int .i64 st) := grown_cell hg1 (by go_simp)
  have c3 : w2.cell? ⟨w.heap.size, 3, none⟩ = some (.slice so ss.length sc) := grown_cell hg1 (by go_simp)
  have c4 : w2.cell? ⟨w.heap.size, 4, none⟩ = some (.slice lo ls.length lc) := grown_cell hg1 (by go_simp)
  have c5 : w2.cell? ⟨w.heap.size, 5, none⟩ = some (.slice to_ ts.length tc) := grown_cell hg1 (by go_simp)
  have C0 := Lib.hid c0; have C1 := Lib.hid c1; have C2 := Lib.hid c2; have C3 := Lib.hid c3; have C4 := Lib.hid c4; have C5 := Lib.hid c5
  clear hg1 c0 c1 c2 c3 c4 c5
  go_wp2_with fail
  refine (ewithin_yes _ _ _ HY.out _).mono ?_; rintro e w1 ⟨rfl, rfl⟩
  go_wp2_with fail
  go_loopw [7, 8] (fun lv ev wr => ∃ (e : Int) (L : List Int) (u : Value), u = lv ∧ ev = .int .i64 e ∧ Hid (wr.ownsRow w2.heap.size 3 1 u L.length (ints L)) ∧ Hid (w2.grownBy wr none) ∧ 1 ≤ e ∧ e ≤ 2000000 ∧ Hid (L ++ endsT way span e = FE))
    (fun _ ev _ => (span + 1 - intOf ev).toNat)
  case atStart => exact ⟨way, [], _, rfl, rfl, World.ownsRow_nil _ _ _ _, grown_refl _ _, by omega, by omega, HF0.out⟩
  case round =>
    obtain ⟨e, L, u, rfl, rfl, hown, hg, e0, e1, hw⟩ := hrel
    have hlL : L.length ≤ 1000000 := by have := congrArg List.length hw.out; rw [List.length_append] at this; omega
    have HGR := Lib.hid hg.out
    have d0 : wr.cell? ⟨w.heap.size, 0, none⟩ = some (.string nm) := grown_cell HGR.out C0.out
    have d1 : wr.cell? ⟨w.heap.size, 1, none⟩ = some (.int .i64 sp) := grown_cell HGR.out C1.out
    have d2 : wr.cell? ⟨w.heap.size, 2, none⟩ = some (.int .i64 st) := grown_cell HGR.out C2.out
    have d3 : wr.cell? ⟨w.heap.size, 3, none⟩ = some (.slice so ss.length sc) := grown_cell HGR.out C3.out
    have d4 : wr.cell? ⟨w.heap.size, 4, none⟩ = some (.slice lo ls.length lc) := grown_cell HGR.out C4.out
    have d5 : wr.cell? ⟨w.heap.size, 5, none⟩ = some (.slice to_ ts.length tc) := grown_cell HGR.out C5.out
    have HOWN := Lib.hid hown.out
    clear hg hown
    go_wp2_with fail
    refine (span_any ⟨nm, sp, st, so, sc, ss, lo, lc, ls, to_, tc, ts⟩ HA.out.sl _ (HA.out.grown (grown_trans G2.out HGR.out)).hs HSP).mono ?_; rintro x w3 ⟨rfl, hg3⟩
    have OWN := Lib.hid (HOWN.out.kept hg3 (Classical.em _))
    have HG3 := Lib.hid (grown_trans HGR.out hg3)
    clear d0 d1 d2 d3 d4 d5 hg3 HOWN HGR
    by_cases hlt : e ≤ span
    · have HW3 : Hid ((L ++ [e]) ++ endsT way span (e + way) = FE) := by
        have := hw.out; rw [endsT_more hlt y0] at this; show _ = _; rw [List.append_assoc]; exact this
      have hi := HI.out; have hz0 := HZ0.out; have hz1 := HZ1.out; have hz2 := HZ2.out
      have HB2 : Hid (w2.heap.size ≤ w3.heap.size) := HG3.out.size
      clear hw
      go_wp2_with (at_builtin; refine wpList_append_own _ rfl _ _ 55 rfl w2.heap.size 3 i0 (.int .i64 0) 1 8 Try.underlying55 hi hz0 hz1 hz2 rfl (by decide) _ _ _ rfl (OWN.out.alloc _) ⟨w3.heap.size, 0, none⟩ 1 1 [.int .i64 (e)] rfl rfl (cell_one_new w3 (.int .i64 (e)) 3) (by intro u hu; simp at hu; subst hu; rfl) (by unfold maxLen; omega) (by omega) (by have := HB2.out; simp; omega) ?_; intro u' w4 hown4 hgrow4 _)
      have HOW4 : Hid (w4.ownsRow w2.heap.size 3 1 u' (L ++ [e]).length (ints (L ++ [e]))) := by
        show World.ownsRow _ _ _ _ _ _ _; rw [ints_snoc, List.length_append]; exact hown4
      have HG4 : Hid (w2.grownBy w4 none) := grown_own HG3.out hgrow4 (fun g e => (OWN.out.lt g e).1)
      clear hown4 hgrow4 hi hz0 hz1 hz2 OWN HG3
      go_wp2_with fail
      go_roundw
      case rel => exact ⟨e + way, L ++ [e], _, rfl, rfl, HOW4.out, HG4.out, by omega, by omega, HW3.out⟩
      case measure => simp [intOf]; omega
    · have hf := hw.out
      rw [endsT_end (by omega), List.append_nil] at hf
      have HF := Lib.hid hf
      have d0 : w3.cell? ⟨w.heap.size, 0, none⟩ = some (.string nm) := grown_cell HG3.out C0.out
      have d1 : w3.cell? ⟨w.heap.size, 1, none⟩ = some (.int .i64 sp) := grown_cell HG3.out C1.out
      have d2 : w3.cell? ⟨w.heap.size, 2, none⟩ = some (.int .i64 st) := grown_cell HG3.out C2.out
      have d3 : w3.cell? ⟨w.heap.size, 3, none⟩ = some (.slice so ss.length sc) := grown_cell HG3.out C3.out
      have d4 : w3.cell? ⟨w.heap.size, 4, none⟩ = some (.slice lo ls.length lc) := grown_cell HG3.out C4.out
      have d5 : w3.cell? ⟨w.heap.size, 5, none⟩ = some (.slice to_ ts.length tc) := grown_cell HG3.out C5.out
      clear hf hw
      go_wp2_with fail
      refine (span_any ⟨nm, sp, st, so, sc, ss, lo, lc, ls, to_, tc, ts⟩ HA.out.sl _ (HA.out.grown (grown_trans G2.out HG3.out)).hs HSP).mono ?_; rintro x w5 ⟨rfl, hg5⟩
      have HU5 := Lib.hid (OWN.out.kept hg5 (Classical.em _))
      have HG5 := Lib.hid (grown_trans G2.out (grown_trans HG3.out hg5))
      have HB5 : Hid (w2.heap.size ≤ w5.heap.size) := Nat.le_trans HG3.out.size hg5.size
      have HRL : Hid (lapsOut (lapL 0 (L ++ [span])) = (R, Er)) := by show _ = _; rw [HF.out]; exact hR.out
      clear d0 d1 d2 d3 d4 d5 hg5
      go_wp2_with fail
      refine (lapsTo_any span w5 HB5.out HU5.out hlL HRL).mono ?_; rintro x w6 ⟨⟨rv, rfl, hrv⟩, hg6⟩
      have HRV : Hid (w6.ownsRow w.heap.size 64 3 rv R.length (lapsVs R)) := own_lowL hrv HG5.out.size
      have HG6 : Hid (w.grownBy w6 none) := grown_low HG5.out hg6 (fun g e => by have := (HU5.out.lt g e).1; have := G2.out.size; omega)
      clear hrv hg6
      go_wp2_with fail
      go_ret2
      exact ⟨⟨_, rfl, HRV.out⟩, HG6.out⟩

set_option maxRecDepth 100000 in
set_option maxHeartbeats 1600000 in
theorem EveryWay_any (a : Act) (way : Int) (w : World) (ha : ActAt w a) {R : List (Int × Int)} {Er : Int} (hE : Hid (everyWayOut a way = (R, Er))) :
    Calls Try.prog 39 #[a.val, .int .i64 way] w fun e w' => (∃ u, e = .returned (.tuple #[u, .int .i64 Er]) ∧ w'.ownsRow w.heap.size 64 3 u R.length (lapsVs R)) ∧ w.grownBy w' none := by
  obtain ⟨ce, hce⟩ : ∃ e, chkE a = e := ⟨_, rfl⟩
  have hv := hE.out
  unfold everyWayOut at hv
  rw [hce] at hv
  have HCE := Lib.hid hce; have HA := Lib.hid ha
  have hok : ce = 0 → SOk a.ss := fun h => sok_of (chk_ok (hce.trans h))
  obtain ⟨nm, sp, st, so, sc, ss, lo, lc, ls, to_, tc, ts⟩ := a
  simp only [Act.val] at *
  clear hE hce ha
  have GB : Hid (w.grownBy (w.alloc (.cells #[.string nm, .int .i64 sp, .int .i64 st, .slice so ss.length sc, .slice lo ls.length lc, .slice to_ ts.length tc] 26)) none) := World.grownBy_alloc _ _ _
  by_cases c1 : ce = 0
  · rw [if_pos c1] at hv
    subst c1
    have HS := Lib.hid (hok rfl)
    clear hok
    by_cases c2 : 1 ≤ way ∧ way ≤ 1000000000
    · rw [if_pos c2] at hv
      exact EveryWay_ok nm sp st so sc ss lo lc ls to_ tc ts way c2.1 c2.2 w HA HCE HS (Lib.hid hv)
    · rw [if_neg c2] at hv
      simp only [Prod.mk.injEq] at hv
      obtain ⟨rfl, rfl⟩ := hv
      have C2 := Lib.hid c2
      clear c2
      go_enter Try.func39, Try.ntmps39
      go_wp2_with fail
      refine (check_any ⟨nm, sp, st, so, sc, ss, lo, lc, ls, to_, tc, ts⟩ _ (HA.out.grown GB.out) HCE).mono ?_; rintro e w1 ⟨rfl, hg1⟩
      have G1 := Lib.hid (grown_trans GB.out hg1)
      clear hg1
      go_wp2_with fail
      refine (ewithin_no _ _ _ C2.out _).mono ?_; rintro e w2 ⟨rfl, rfl⟩
      go_wp2_with fail
      go_ret2
      exact ⟨⟨_, rfl, World.ownsRow_nil _ _ _ _⟩, G1.out⟩
  · rw [if_neg c1] at hv
    simp only [Prod.mk.injEq] at hv
    obtain ⟨rfl, rfl⟩ := hv
    have hne : (ce != 0) = true := by simpa using c1
    have HC1 := Lib.hid c1
    clear c1 hok
    go_enter Try.func39, Try.ntmps39
    go_wp2_with fail
    refine (check_any ⟨nm, sp, st, so, sc, ss, lo, lc, ls, to_, tc, ts⟩ _ (HA.out.grown GB.out) HCE).mono ?_; rintro e w1 ⟨rfl, hg1⟩
    have G1 := Lib.hid (grown_trans GB.out hg1)
    clear hg1
    go_wp2_with fail
    go_ret2
    exact ⟨⟨_, rfl, World.ownsRow_nil _ _ _ _⟩, G1.out⟩

set_option maxRecDepth 100000 in
set_option maxHeartbeats 1600000 in
theorem EveryTime_any (a : Act) (way : Int) (w : World) (ha : ActAt w a) {R : List (Int × Int)} {Er : Int} (hE : Hid (everyTimeOut a way = (R, Er))) :
    Calls Try.prog 41 #[a.val, .int .i64 way] w fun e w' => (∃ u, e = .returned (.tuple #[u, .int .i64 Er]) ∧ w'.ownsRow w.heap.size 64 3 u R.length (lapsVs R)) ∧ w.grownBy w' none := by
  obtain ⟨ce, hce⟩ : ∃ e, chkE a = e := ⟨_, rfl⟩
  have hv := hE.out
  unfold everyTimeOut at hv
  rw [hce] at hv
  have HCE := Lib.hid hce; have HA := Lib.hid ha
  have hok : ce = 0 → SOk a.ss := fun h => sok_of (chk_ok (hce.trans h))
  obtain ⟨nm, sp, st, so, sc, ss, lo, lc, ls, to_, tc, ts⟩ := a
  simp only [Act.val] at *
  clear hE hce ha
  have GB : Hid (w.grownBy (w.alloc (.cells #[.string nm, .int .i64 sp, .int .i64 st, .slice so ss.length sc, .slice lo ls.length lc, .slice to_ ts.length tc] 26)) none) := World.grownBy_alloc _ _ _
  by_cases c1 : ce = 0
  · rw [if_pos c1] at hv
    subst c1
    have HS := Lib.hid (hok rfl)
    clear hok
    by_cases c2 : 1 ≤ way ∧ way ≤ 1000000
    · rw [if_pos c2] at hv
      exact EveryTime_ok nm sp st so sc ss lo lc ls to_ tc ts way c2.1 c2.2 w HA HCE HS (Lib.hid hv)
    · rw [if_neg c2] at hv
      simp only [Prod.mk.injEq] at hv
      obtain ⟨rfl, rfl⟩ := hv
      have C2 := Lib.hid c2
      clear c2
      go_enter Try.func41, Try.ntmps41
      go_wp2_with fail
      refine (check_any ⟨nm, sp, st, so, sc, ss, lo, lc, ls, to_, tc, ts⟩ _ (HA.out.grown GB.out) HCE).mono ?_; rintro e w1 ⟨rfl, hg1⟩
      have G1 := Lib.hid (grown_trans GB.out hg1)
      clear hg1
      go_wp2_with fail
      refine (ewithin_no _ _ _ C2.out _).mono ?_; rintro e w2 ⟨rfl, rfl⟩
      go_wp2_with fail
      go_ret2
      exact ⟨⟨_, rfl, World.ownsRow_nil _ _ _ _⟩, G1.out⟩
  · rw [if_neg c1] at hv
    simp only [Prod.mk.injEq] at hv
    obtain ⟨rfl, rfl⟩ := hv
    have hne : (ce != 0) = true := by simpa using c1
    have HC1 := Lib.hid c1
    clear c1 hok
    go_enter Try.func41, Try.ntmps41
    go_wp2_with fail
    refine (check_any ⟨nm, sp, st, so, sc, ss, lo, lc, ls, to_, tc, ts⟩ _ (HA.out.grown GB.out) HCE).mono ?_; rintro e w1 ⟨rfl, hg1⟩
    have G1 := Lib.hid (grown_trans GB.out hg1)
    clear hg1
    go_wp2_with fail
    go_ret2
    exact ⟨⟨_, rfl, World.ownsRow_nil _ _ _ _⟩, G1.out⟩

end Go.Proofs.Ytimfgplihppeeaa
