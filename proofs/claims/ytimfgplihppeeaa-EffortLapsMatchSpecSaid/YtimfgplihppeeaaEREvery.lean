/- The contracts of the reference's EveryWay and EveryTime. -/
import Derived.Test.YtimfgplihppeeaaEEvery
import Derived.Test.YtimfgplihppeeaaERStream
namespace Go.Proofs.Ytimfgplihppeeaa
open Go.RowKit

theorem many_any {base : Nat} {v : Value} {L : List (Int × Int)} (w : World) (ho : w.ownsRow base 64 3 v L.length (lapsVs L)) (hn : L.length ≤ 2000000) {R : List (Int × Int)} {Er : Int} (hR : Hid (lapsOut L = (R, Er))) :
    Calls Try.prog 95 #[v] w fun e w' => (∃ u, e = .returned (.tuple #[u, .int .i64 Er]) ∧ w.ownsRow base 64 3 u R.length (lapsVs R)) ∧ w = w' := by
  obtain ⟨ao, cap, hv⟩ : ∃ ao cap, v = .slice ao L.length cap := by
    rcases ho.2 with ⟨hv, h0⟩ | ⟨g, cap, cur, hv, _⟩
    · exact ⟨none, 0, by rw [hv, h0]⟩
    · exact ⟨_, _, hv⟩
  subst hv
  have HO := Lib.hid ho
  have hr := hR.out
  unfold lapsOut at hr
  clear ho hR
  by_cases h : L.length ≤ 200
  · rw [if_pos h] at hr
    simp only [Prod.mk.injEq] at hr
    obtain ⟨rfl, rfl⟩ := hr
    go_enter Try.func95, Try.ntmps95
    go_wp2_with fail
    go_ret2
    exact ⟨⟨_, rfl, HO.out⟩, rfl⟩
  · rw [if_neg h] at hr
    simp only [Prod.mk.injEq] at hr
    obtain ⟨rfl, rfl⟩ := hr
    have h2 : (200 : Int) < (L.length : Int) := by omega
    clear h
    go_enter Try.func95, Try.ntmps95
    go_wp2_with fail
    go_ret2
    exact ⟨⟨_, rfl, World.ownsRow_nil _ _ _ _⟩, rfl⟩

set_option maxRecDepth 100000 in
set_option maxHeartbeats 3200000 in
theorem REveryWay_ok (nm : ByteArray) (sp st : Int) (so : Option Addr) (sc : Nat) (ss : List Smp) (lo : Option Addr) (lc : Nat) (ls : List LapV) (to_ : Option Addr) (tc : Nat) (ts : List ByteArray) (way : Int) (y0 : 1 ≤ way) (y1 : way ≤ 1000000000) (w : World)
    (HA : Hid (ActAt w ⟨nm, sp, st, so, sc, ss, lo, lc, ls, to_, tc, ts⟩)) (HCE : Hid (chkE ⟨nm, sp, st, so, sc, ss, lo, lc, ls, to_, tc, ts⟩ = 0)) (HS : Hid (SOk ss)) {R : List (Int × Int)} {Er : Int} (hR0 : Hid (lapsOut (refL way 0 0 0 (streamS 4 ss)) = (R, Er))) :
    Calls Try.prog 40 #[.agg #[.string nm, .int .i64 sp, .int .i64 st, .slice so ss.length sc, .slice lo ls.length lc, .slice to_ ts.length tc], .int .i64 way] w fun e w' => (∃ u, e = .returned (.tuple #[u, .int .i64 Er]) ∧ w'.ownsRow w.heap.size 64 3 u R.length (lapsVs R)) ∧ w.grownBy w' none := by
  obtain ⟨i0, hi, hz0, hz1, hz2⟩ := info_parts info_lap
  have HI := Lib.hid hi; have HZ0 := Lib.hid hz0; have HZ1 := Lib.hid hz1; have HZ2 := Lib.hid hz2
  have hsl := streamS_len (kind := 4) HS.out
  have HSB := Lib.hid (streamS_bd (kind := 4) HS.out)
  have HOUT : Hid (streamOut ⟨nm, sp, st, so, sc, ss, lo, lc, ls, to_, tc, ts⟩ 4 = (streamS 4 ss, 0)) := by
    show _ = _
    unfold streamOut
    rw [if_pos HCE.out, if_pos (by omega)]
  obtain ⟨S, hSdef⟩ : ∃ S, streamS 4 ss = S := ⟨_, rfl⟩
  rw [hSdef] at hR0 hsl HSB HOUT
  obtain ⟨FL, hFL⟩ : ∃ FL, refL way 0 0 0 S = FL := ⟨_, rfl⟩
  rw [hFL] at hR0
  have HF0 : Hid ([] ++ refL way ((0 : Nat) : Int) 0 0 (S.drop 0) = FL) := hFL
  clear hi hz0 hz1 hz2 hSdef hFL
  go_enter Try.func40, Try.ntmps40
  have GB : Hid (w.grownBy (w.alloc (.cells #[.string nm, .int .i64 sp, .int .i64 st, .slice so ss.length sc, .slice lo ls.length lc, .slice to_ ts.length tc] 26)) none) := World.grownBy_alloc _ _ _
  go_wp2_with fail
  refine (RStream_any ⟨nm, sp, st, so, sc, ss, lo, lc, ls, to_, tc, ts⟩ 4 _ (HA.out.grown GB.out) HOUT).mono ?_; rintro e w2 ⟨⟨sv, rfl, hso⟩, hg2⟩
  obtain ⟨sao, scap, rfl, hSI, _⟩ := intsAt_own hso
  have HSI := Lib.hid hSI
  have G2 := Lib.hid (grown_trans GB.out hg2)
  clear hg2 hso hSI
  go_wp2_with fail
  go_loopw [8, 9, 10, 29] (fun lv fv gv iv wr => ∃ (k : Nat) (fr g : Int) (L : List (Int × Int)) (u : Value), u = lv ∧ fv = .int .i64 fr ∧ gv = .int .i64 g ∧ iv = .int .i64 k ∧ k ≤ S.length ∧ Hid (wr.ownsRow w2.heap.size 64 3 u L.length (lapsVs L)) ∧ L.length ≤ k ∧ Hid (w2.grownBy wr none) ∧ -(k : Int) ≤ g ∧ g < way ∧ Hid (L ++ refL way k fr g (S.drop k) = FL))
    (fun _ _ _ iv _ => S.length - (intOf iv).toNat)
  case atStart => exact ⟨0, 0, 0, [], _, rfl, rfl, rfl, rfl, Nat.zero_le _, World.ownsRow_nil _ _ _ _, Nat.zero_le _, grown_refl _ _, by omega, by omega, HF0.out⟩
  case round =>
    obtain ⟨k, fr, g, L, u, rfl, rfl, rfl, rfl, hk, hown, hlk, hg, g0, g1, hw⟩ := hrel
    have HGR := Lib.hid hg.out
    by_cases hlt : k < S.length
    · obtain ⟨b, off, rfl, hc⟩ := HSI.out.at (by omega)
      have c0 := grown_cell hg.out (hc k hlt)
      have hb := HSB.out (nthI S k) (by rw [nthI_at hlt]; exact List.getElem_mem hlt)
      have hw2 := hw.out
      rw [nthI_drop hlt, refL] at hw2
      have HW2 := Lib.hid hw2
      clear hw hw2 hc
      generalize nthI S k = x at *
      by_cases hx : way ≤ g + x
      · have HW3 : Hid ((L ++ [(fr, (k : Int) + 1)]) ++ refL way ((k : Int) + 1) ((k : Int) + 1) 0 (S.drop (k + 1)) = FL) := by
          have := HW2.out; rw [if_pos hx] at this; show _ = _; rw [List.append_assoc]; exact this
        have hi := HI.out; have hz0 := HZ0.out; have hz1 := HZ1.out; have hz2 := HZ2.out
        have OWN := Lib.hid hown.out
        have HB2 : Hid (w2.heap.size ≤ wr.heap.size) := hg.out.size
        clear hown HW2 hg
        go_wp2_with (at_builtin; refine wpList_append_own _ rfl _ _ 23 rfl w2.heap.size 64 i0 (.agg #[.int .i64 0, .int .i64 0, .string ⟨#[]⟩]) 3 32 Try.underlying23 hi hz0 hz1 hz2 rfl (by decide) _ _ _ rfl (OWN.out.alloc _) ⟨wr.heap.size, 0, none⟩ 1 1 [.int .i64 (fr), .int .i64 ((k : Int) + 1), .string ⟨#[]⟩] rfl rfl (lapCs_new wr (fr) ((k : Int) + 1) 64) (lapCs_one (fr, (k : Int) + 1)) (by unfold maxLen; omega) (by omega) (by have := HB2.out; simp; omega) ?_; intro u' w4 hown4 hgrow4 _)
        have HOW4 : Hid (w4.ownsRow w2.heap.size 64 3 u' (L ++ [(fr, (k : Int) + 1)]).length (lapsVs (L ++ [(fr, (k : Int) + 1)]))) := by
          show World.ownsRow _ _ _ _ _ _ _; rw [lapsVs_snoc, List.length_append]; exact hown4
        have HG4 : Hid (w2.grownBy w4 none) := grown_own HGR.out hgrow4 (fun g e => (OWN.out.lt g e).1)
        clear hown4 hgrow4 hi hz0 hz1 hz2 OWN HGR
        go_wp2_with fail
        go_roundw
        case rel => exact ⟨k + 1, (k : Int) + 1, 0, L ++ [(fr, (k : Int) + 1)], _, rfl, rfl, rfl, by go_num, by omega, HOW4.out, by simp; omega, HG4.out, by omega, by omega, (by show _ = _; have := HW3.out; simpa using this)⟩
        case measure => simp [intOf]; omega
      · have HW3 : Hid (L ++ refL way ((k : Int) + 1) fr (g + x) (S.drop (k + 1)) = FL) := by
          have := HW2.out; rw [if_neg hx] at this; exact this
        clear HW2
        go_wp2_with fail
        go_roundw
        case rel => exact ⟨k + 1, fr, g + x, L, _, rfl, rfl, rfl, by go_num, by omega, hown.out, by omega, hg.out, by omega, by omega, (by show _ = _; have := HW3.out; simpa using this)⟩
        case measure => simp [intOf]; omega
    · have hks : k = S.length := by omega
      have hf : L ++ (if fr < (S.length : Int) then [(fr, (S.length : Int))] else []) = FL := by
        have := hw.out; rw [List.drop_eq_nil_of_le (by omega), hks] at this; exact this
      have OWN := Lib.hid hown.out
      have HB2 : Hid (w2.heap.size ≤ wr.heap.size) := hg.out.size
      clear hw hown hg
      by_cases hlast : fr < (S.length : Int)
      · have HF : Hid (L ++ [(fr, (S.length : Int))] = FL) := by rw [if_pos hlast] at hf; exact hf
        have hi := HI.out; have hz0 := HZ0.out; have hz1 := HZ1.out; have hz2 := HZ2.out
        clear hf
        go_wp2_with (at_builtin; refine wpList_append_own _ rfl _ _ 23 rfl w2.heap.size 64 i0 (.agg #[.int .i64 0, .int .i64 0, .string ⟨#[]⟩]) 3 32 Try.underlying23 hi hz0 hz1 hz2 rfl (by decide) _ _ _ rfl (OWN.out.alloc _) ⟨wr.heap.size, 0, none⟩ 1 1 [.int .i64 (fr), .int .i64 ((S.length : Int)), .string ⟨#[]⟩] rfl rfl (lapCs_new wr (fr) ((S.length : Int)) 64) (lapCs_one (fr, (S.length : Int))) (by unfold maxLen; omega) (by omega) (by have := HB2.out; simp; omega) ?_; intro u' w4 hown4 hgrow4 _)
        have HOW4 : Hid (w4.ownsRow w2.heap.size 64 3 u' (L ++ [(fr, (S.length : Int))]).length (lapsVs (L ++ [(fr, (S.length : Int))]))) := by
          show World.ownsRow _ _ _ _ _ _ _; rw [lapsVs_snoc, List.length_append]; exact hown4
        have HG4 : Hid (w2.grownBy w4 none) := grown_own HGR.out hgrow4 (fun g e => (OWN.out.lt g e).1)
        clear hown4 hgrow4 hi hz0 hz1 hz2 OWN HGR
        have HLM : Hid ((L ++ [(fr, (S.length : Int))]).length ≤ 2000000) := by show _ ≤ _; simp; omega
        have HRL : Hid (lapsOut (L ++ [(fr, (S.length : Int))]) = (R, Er)) := by show _ = _; rw [HF.out]; exact hR0.out
        go_wp2_with fail
        refine (many_any w4 HOW4.out HLM.out HRL).mono ?_; rintro x w6 ⟨⟨rv, rfl, hrv⟩, rfl⟩
        have HRV : Hid (w4.ownsRow w.heap.size 64 3 rv R.length (lapsVs R)) := own_lowL hrv G2.out.size
        have HG6 : Hid (w.grownBy w4 none) := grown_trans G2.out HG4.out
        clear hrv
        go_wp2_with fail
        go_ret2
        exact ⟨⟨_, rfl, HRV.out⟩, HG6.out⟩
      · have HF : Hid (L = FL) := by rw [if_neg hlast, List.append_nil] at hf; exact hf
        have HLM : Hid (L.length ≤ 2000000) := by show _ ≤ _; omega
        have HRL : Hid (lapsOut L = (R, Er)) := by show _ = _; rw [HF.out]; exact hR0.out
        clear hf
        go_wp2_with fail
        refine (many_any wr OWN.out HLM.out HRL).mono ?_; rintro x w6 ⟨⟨rv, rfl, hrv⟩, rfl⟩
        have HRV : Hid (wr.ownsRow w.heap.size 64 3 rv R.length (lapsVs R)) := own_lowL hrv G2.out.size
        have HG6 : Hid (w.grownBy wr none) := grown_trans G2.out HGR.out
        clear hrv
        go_wp2_with fail
        go_ret2
        exact ⟨⟨_, rfl, HRV.out⟩, HG6.out⟩

set_option maxRecDepth 100000 in
set_option maxHeartbeats 3200000 in
theorem REveryTime_ok (nm : ByteArray) (sp st : Int) (so : Option Addr) (sc : Nat) (ss : List Smp) (lo : Option Addr) (lc : Nat) (ls : List LapV) (to_ : Option Addr) (tc : Nat) (ts : List ByteArray) (way : Int) (y0 : 1 ≤ way) (y1 : way ≤ 1000000) (w : World)
    (HA : Hid (ActAt w ⟨nm, sp, st, so, sc, ss, lo, lc, ls, to_, tc, ts⟩)) (HCE : Hid (chkE ⟨nm, sp, st, so, sc, ss, lo, lc, ls, to_, tc, ts⟩ = 0)) (HS : Hid (SOk ss)) {R : List (Int × Int)} {Er : Int} (hR0 : Hid (lapsOut (refT way (spanL ss) 0) = (R, Er))) :
    Calls Try.prog 42 #[.agg #[.string nm, .int .i64 sp, .int .i64 st, .slice so ss.length sc, .slice lo ls.length lc, .slice to_ ts.length tc], .int .i64 way] w fun e w' => (∃ u, e = .returned (.tuple #[u, .int .i64 Er]) ∧ w'.ownsRow w.heap.size 64 3 u R.length (lapsVs R)) ∧ w.grownBy w' none := by
  obtain ⟨i0, hi, hz0, hz1, hz2⟩ := info_parts info_lap
  have HI := Lib.hid hi; have HZ0 := Lib.hid hz0; have HZ1 := Lib.hid hz1; have HZ2 := Lib.hid hz2
  obtain ⟨c, hc, hc1⟩ := span_bd HS.out
  obtain ⟨span, hsp⟩ : ∃ s, spanL ss = s := ⟨_, rfl⟩
  have hs0 : 0 ≤ span := by omega
  have hs1 : span ≤ 1000000 := by omega
  have HSP := Lib.hid hsp
  rw [hsp] at hR0
  obtain ⟨FL, hFL⟩ : ∃ FL, refT way span 0 = FL := ⟨_, rfl⟩
  rw [hFL] at hR0
  have HF0 : Hid ([] ++ refT way span 0 = FL) := hFL
  clear hi hz0 hz1 hz2 hFL hc hsp
  go_enter Try.func42, Try.ntmps42
  have GB : Hid (w.grownBy (w.alloc (.cells #[.string nm, .int .i64 sp, .int .i64 st, .slice so ss.length sc, .slice lo ls.length lc, .slice to_ ts.length tc] 26)) none) := World.grownBy_alloc _ _ _
  go_wp2_with fail
  refine (rcheck_any ⟨nm, sp, st, so, sc, ss, lo, lc, ls, to_, tc, ts⟩ _ (HA.out.grown GB.out) HCE).mono ?_; rintro e w2 ⟨rfl, hg1⟩
  have G2 := Lib.hid (grown_trans GB.out hg1)
  have c0 : w2.cell? ⟨w.heap.size, 0, none⟩ = some (.string nm) := grown_cell hg1 (by go_simp)
  have c1 : w2.cell? ⟨w.heap.size, 1, none⟩ = some (.int .i64 sp) := grown_cell hg1 (by go_simp)
  have c2 : w2.cell? ⟨w.heap.size, 2, none⟩ = some (.int .i64 st) := grown_cell hg1 (by go_simp)
  have c3 : w2.cell? ⟨w.heap.size, 3, none⟩ = some (.slice so ss.length sc) := grown_cell hg1 (by go_simp)
  have c4 : w2.cell? ⟨w.heap.size, 4, none⟩ = some (.slice lo ls.length lc) := grown_cell hg1 (by go_simp)
  have c5 : w2.cell? ⟨w.heap.size, 5, none⟩ = some (.slice to_ ts.length tc) := grown_cell hg1 (by go_simp)
  have C0 := Lib.hid c0; have C1 := Lib.hid c1; have C2 := Lib.hid c2; have C3 := Lib.hid c3; have C4 := Lib.hid c4; have C5 := Lib.hid c5
  clear hg1 c0 c1 c2 c3 c4 c5
  go_wp2_with fail
  go_loopw [7, 8] (fun lv ev wr => ∃ (e : Int) (L : List (Int × Int)) (u : Value), u = lv ∧ ev = .int .i64 e ∧ Hid (wr.ownsRow w2.heap.size 64 3 u L.length (lapsVs L)) ∧ Hid (w2.grownBy wr none) ∧ 0 ≤ e ∧ e ≤ 2000000 ∧ (L.length : Int) ≤ e ∧ Hid (L ++ refT way span e = FL))
    (fun _ ev _ => (span - intOf ev).toNat)
  case atStart => exact ⟨0, [], _, rfl, rfl, World.ownsRow_nil _ _ _ _, grown_refl _ _, by omega, by omega, by simp, HF0.out⟩
  case round =>
    obtain ⟨e, L, u, rfl, rfl, hown, hg, e0, e1, hle, hw⟩ := hrel
    have HGR0 := Lib.hid hg.out
    have d0 : wr.cell? ⟨w.heap.size, 0, none⟩ = some (.string nm) := grown_cell HGR0.out C0.out
    have d1 : wr.cell? ⟨w.heap.size, 1, none⟩ = some (.int .i64 sp) := grown_cell HGR0.out C1.out
    have d2 : wr.cell? ⟨w.heap.size, 2, none⟩ = some (.int .i64 st) := grown_cell HGR0.out C2.out
    have d3 : wr.cell? ⟨w.heap.size, 3, none⟩ = some (.slice so ss.length sc) := grown_cell HGR0.out C3.out
    have d4 : wr.cell? ⟨w.heap.size, 4, none⟩ = some (.slice lo ls.length lc) := grown_cell HGR0.out C4.out
    have d5 : wr.cell? ⟨w.heap.size, 5, none⟩ = some (.slice to_ ts.length tc) := grown_cell HGR0.out C5.out
    have HOWN := Lib.hid hown.out
    clear hg hown
    go_wp2_with fail
    refine (rspan_any ⟨nm, sp, st, so, sc, ss, lo, lc, ls, to_, tc, ts⟩ HA.out.sl _ (HA.out.grown (grown_trans G2.out HGR0.out)).hs HSP).mono ?_; rintro x w3 ⟨rfl, hg3⟩
    have OWN3 := Lib.hid (HOWN.out.kept hg3 (Classical.em _))
    have HG3 := Lib.hid (grown_trans HGR0.out hg3)
    clear d0 d1 d2 d3 d4 d5 hg3 HOWN HGR0
    by_cases hlt : e < span
    · have HW2 : Hid (L ++ (e, min (e + way) span) :: refT way span (e + way) = FL) := by
        have := hw.out; rw [refT_more hlt y0] at this; exact this
      clear hw
      have d0 : w3.cell? ⟨w.heap.size, 0, none⟩ = some (.string nm) := grown_cell HG3.out C0.out
      have d1 : w3.cell? ⟨w.heap.size, 1, none⟩ = some (.int .i64 sp) := grown_cell HG3.out C1.out
      have d2 : w3.cell? ⟨w.heap.size, 2, none⟩ = some (.int .i64 st) := grown_cell HG3.out C2.out
      have d3 : w3.cell? ⟨w.heap.size, 3, none⟩ = some (.slice so ss.length sc) := grown_cell HG3.out C3.out
      have d4 : w3.cell? ⟨w.heap.size, 4, none⟩ = some (.slice lo ls.length lc) := grown_cell HG3.out C4.out
      have d5 : w3.cell? ⟨w.heap.size, 5, none⟩ = some (.slice to_ ts.length tc) := grown_cell HG3.out C5.out
      have hw1 : e + way ≤ 3000000 := by omega
      go_wp2_with fail
      refine (rspan_any ⟨nm, sp, st, so, sc, ss, lo, lc, ls, to_, tc, ts⟩ HA.out.sl _ (HA.out.grown (grown_trans G2.out HG3.out)).hs HSP).mono ?_; rintro x w5 ⟨rfl, hg5⟩
      have OWN := Lib.hid (OWN3.out.kept hg5 (Classical.em _))
      have HGR := Lib.hid (grown_trans HG3.out hg5)
      have HB2 : Hid (w2.heap.size ≤ w5.heap.size) := HGR.out.size
      have hi := HI.out; have hz0 := HZ0.out; have hz1 := HZ1.out; have hz2 := HZ2.out
      clear d0 d1 d2 d3 d4 d5 hg5 OWN3 HG3
      by_cases hm : e + way ≤ span
      · have HW3 : Hid ((L ++ [(e, e + way)]) ++ refT way span (e + way) = FL) := by
          show _ = _; rw [List.append_assoc]; have := HW2.out; rw [show min (e + way) span = e + way by omega] at this; exact this
        clear HW2
        go_wp2_with (at_builtin; refine wpList_append_own _ rfl _ _ 23 rfl w2.heap.size 64 i0 (.agg #[.int .i64 0, .int .i64 0, .string ⟨#[]⟩]) 3 32 Try.underlying23 hi hz0 hz1 hz2 rfl (by decide) _ _ _ rfl (OWN.out.alloc _) ⟨w5.heap.size, 0, none⟩ 1 1 [.int .i64 (e), .int .i64 (e + way), .string ⟨#[]⟩] rfl rfl (lapCs_new w5 (e) (e + way) 64) (lapCs_one (e, e + way)) (by unfold maxLen; omega) (by omega) (by have := HB2.out; simp; omega) ?_; intro u' w4 hown4 hgrow4 _)
        have HOW4 : Hid (w4.ownsRow w2.heap.size 64 3 u' (L ++ [(e, e + way)]).length (lapsVs (L ++ [(e, e + way)]))) := by
          show World.ownsRow _ _ _ _ _ _ _; rw [lapsVs_snoc, List.length_append]; exact hown4
        have HG4 : Hid (w2.grownBy w4 none) := grown_own HGR.out hgrow4 (fun g e => (OWN.out.lt g e).1)
        clear hown4 hgrow4 hi hz0 hz1 hz2 OWN HGR
        go_wp2_with fail
        go_roundw
        case rel => exact ⟨e + way, L ++ [(e, e + way)], _, rfl, rfl, HOW4.out, HG4.out, by omega, by omega, by simp; omega, HW3.out⟩
        case measure => simp [intOf]; omega
      · have HW3 : Hid ((L ++ [(e, span)]) ++ refT way span (e + way) = FL) := by
          show _ = _; rw [List.append_assoc]; have := HW2.out; rw [show min (e + way) span = span by omega] at this; exact this
        clear HW2
        go_wp2_with (at_builtin; refine wpList_append_own _ rfl _ _ 23 rfl w2.heap.size 64 i0 (.agg #[.int .i64 0, .int .i64 0, .string ⟨#[]⟩]) 3 32 Try.underlying23 hi hz0 hz1 hz2 rfl (by decide) _ _ _ rfl (OWN.out.alloc _) ⟨w5.heap.size, 0, none⟩ 1 1 [.int .i64 (e), .int .i64 (span), .string ⟨#[]⟩] rfl rfl (lapCs_new w5 (e) (span) 64) (lapCs_one (e, span)) (by unfold maxLen; omega) (by omega) (by have := HB2.out; simp; omega) ?_; intro u' w4 hown4 hgrow4 _)
        have HOW4 : Hid (w4.ownsRow w2.heap.size 64 3 u' (L ++ [(e, span)]).length (lapsVs (L ++ [(e, span)]))) := by
          show World.ownsRow _ _ _ _ _ _ _; rw [lapsVs_snoc, List.length_append]; exact hown4
        have HG4 : Hid (w2.grownBy w4 none) := grown_own HGR.out hgrow4 (fun g e => (OWN.out.lt g e).1)
        clear hown4 hgrow4 hi hz0 hz1 hz2 OWN HGR
        go_wp2_with fail
        go_roundw
        case rel => exact ⟨e + way, L ++ [(e, span)], _, rfl, rfl, HOW4.out, HG4.out, by omega, by omega, by simp; omega, HW3.out⟩
        case measure => simp [intOf]; omega
    · have HF : Hid (L = FL) := by have := hw.out; rw [refT_end (by omega), List.append_nil] at this; exact this
      have HLM : Hid (L.length ≤ 2000000) := by show _ ≤ _; omega
      have HRL : Hid (lapsOut L = (R, Er)) := by show _ = _; rw [HF.out]; exact hR0.out
      clear hw
      go_wp2_with fail
      refine (many_any w3 OWN3.out HLM.out HRL).mono ?_; rintro x w6 ⟨⟨rv, rfl, hrv⟩, rfl⟩
      have HRV : Hid (w3.ownsRow w.heap.size 64 3 rv R.length (lapsVs R)) := own_lowL hrv G2.out.size
      have HG6 : Hid (w.grownBy w3 none) := grown_trans G2.out HG3.out
      clear hrv
      go_wp2_with fail
      go_ret2
      exact ⟨⟨_, rfl, HRV.out⟩, HG6.out⟩

set_option maxRecDepth 100000 in
set_option maxHeartbeats 1600000 in
theorem REveryWay_any (a : Act) (way : Int) (w : World) (ha : ActAt w a) {R : List (Int × Int)} {Er : Int} (hE : Hid (everyWayOut a way = (R, Er))) :
    Calls Try.prog 40 #[a.val, .int .i64 way] w fun e w' => (∃ u, e = .returned (.tuple #[u, .int .i64 Er]) ∧ w'.ownsRow w.heap.size 64 3 u R.length (lapsVs R)) ∧ w.grownBy w' none := by
  obtain ⟨ce, hce⟩ : ∃ e, chkE a = e := ⟨_, rfl⟩
  have hv := hE.out
  unfold everyWayOut at hv
  rw [hce] at hv
  have HCE := Lib.hid hce; have HA := Lib.hid ha
  have hok : ce = 0 → SOk a.ss := fun h => sok_of (chk_ok (hce.trans h))
  obtain ⟨nm, sp, st, so, sc, ss, lo, lc, ls, to_, tc, ts⟩ := a
  simp only [Act.val] at *
  clear hE hce ha
  have GB : Hid (w.grownBy (w.alloc (.cells #[.string nm, .int .i64 sp, .int .i64 st, .slice so ss.length sc, .slice lo ls.length lc, .slice to_ ts.length tc] 26)) none) := World.grownBy_alloc _ _ _
  by_cases c1 : ce = 0
  · rw [if_pos c1] at hv
    subst c1
    have HS := Lib.hid (hok rfl)
    clear hok
    by_cases c2 : 1 ≤ way ∧ way ≤ 1000000000
    · rw [if_pos c2] at hv
      exact REveryWay_ok nm sp st so sc ss lo lc ls to_ tc ts way c2.1 c2.2 w HA HCE HS (Lib.hid hv)
    · rw [if_neg c2] at hv
      simp only [Prod.mk.injEq] at hv
      obtain ⟨rfl, rfl⟩ := hv
      have C2 := Lib.hid c2
      by_cases c3 : way < 1
      · clear c2
        go_enter Try.func40, Try.ntmps40
        go_wp2_with fail
        refine (RStream_any ⟨nm, sp, st, so, sc, ss, lo, lc, ls, to_, tc, ts⟩ 4 _ (HA.out.grown GB.out) (L := streamS 4 ss) (E := 0) (by show _ = _; unfold streamOut; rw [HCE.out, if_pos rfl, if_pos (by omega)])).mono ?_; rintro e w1 ⟨⟨sv, rfl, _⟩, hg1⟩
        have G1 := Lib.hid (grown_trans GB.out hg1)
        clear hg1
        go_wp2_with fail
        go_ret2
        exact ⟨⟨_, rfl, World.ownsRow_nil _ _ _ _⟩, G1.out⟩
      · have c4 : 1000000000 < way := by omega
        clear c2
        go_enter Try.func40, Try.ntmps40
        go_wp2_with fail
        refine (RStream_any ⟨nm, sp, st, so, sc, ss, lo, lc, ls, to_, tc, ts⟩ 4 _ (HA.out.grown GB.out) (L := streamS 4 ss) (E := 0) (by show _ = _; unfold streamOut; rw [HCE.out, if_pos rfl, if_pos (by omega)])).mono ?_; rintro e w1 ⟨⟨sv, rfl, _⟩, hg1⟩
        have G1 := Lib.hid (grown_trans GB.out hg1)
        clear hg1
        go_wp2_with fail
        go_ret2
        exact ⟨⟨_, rfl, World.ownsRow_nil _ _ _ _⟩, G1.out⟩
  · rw [if_neg c1] at hv
    simp only [Prod.mk.injEq] at hv
    obtain ⟨rfl, rfl⟩ := hv
    have hne : (ce != 0) = true := by simpa using c1
    have HC1 := Lib.hid c1
    clear c1 hok
    go_enter Try.func40, Try.ntmps40
    go_wp2_with fail
    refine (RStream_any ⟨nm, sp, st, so, sc, ss, lo, lc, ls, to_, tc, ts⟩ 4 _ (HA.out.grown GB.out) (L := []) (E := ce) (by show _ = _; unfold streamOut; rw [HCE.out, if_neg HC1.out])).mono ?_; rintro e w1 ⟨⟨sv, rfl, _⟩, hg1⟩
    have G1 := Lib.hid (grown_trans GB.out hg1)
    clear hg1
    go_wp2_with fail
    go_ret2
    exact ⟨⟨_, rfl, World.ownsRow_nil _ _ _ _⟩, G1.out⟩

set_option maxRecDepth 100000 in
set_option maxHeartbeats 1600000 in
theorem REveryTime_any (a : Act) (way : Int) (w : World) (ha : ActAt w a) {R : List (Int × Int)} {Er : Int} (hE : Hid (everyTimeOut a way = (R, Er))) :
    Calls Try.prog 42 #[a.val, .int .i64 way] w fun e w' => (∃ u, e = .returned (.tuple #[u, .int .i64 Er]) ∧ w'.ownsRow w.heap.size 64 3 u R.length (lapsVs R)) ∧ w.grownBy w' none := by
  obtain ⟨ce, hce⟩ : ∃ e, chkE a = e := ⟨_, rfl⟩
  have hv := hE.out
  unfold everyTimeOut at hv
  rw [hce] at hv
  have HCE := Lib.hid hce; have HA := Lib.hid ha
  have hok : ce = 0 → SOk a.ss := fun h => sok_of (chk_ok (hce.trans h))
  obtain ⟨nm, sp, st, so, sc, ss, lo, lc, ls, to_, tc, ts⟩ := a
  simp only [Act.val] at *
  clear hE hce ha
  have GB : Hid (w.grownBy (w.alloc (.cells #[.string nm, .int .i64 sp, .int .i64 st, .slice so ss.length sc, .slice lo ls.length lc, .slice to_ ts.length tc] 26)) none) := World.grownBy_alloc _ _ _
  by_cases c1 : ce = 0
  · rw [if_pos c1] at hv
    subst c1
    have HS := Lib.hid (hok rfl)
    clear hok
    by_cases c2 : 1 ≤ way ∧ way ≤ 1000000
    · rw [if_pos c2] at hv
      exact REveryTime_ok nm sp st so sc ss lo lc ls to_ tc ts way c2.1 c2.2 w HA HCE HS (Lib.hid hv)
    · rw [if_neg c2] at hv
      simp only [Prod.mk.injEq] at hv
      obtain ⟨rfl, rfl⟩ := hv
      have C2 := Lib.hid c2
      by_cases c3 : way < 1
      · clear c2
        go_enter Try.func42, Try.ntmps42
        go_wp2_with fail
        refine (rcheck_any ⟨nm, sp, st, so, sc, ss, lo, lc, ls, to_, tc, ts⟩ _ (HA.out.grown GB.out) HCE).mono ?_; rintro e w1 ⟨rfl, hg1⟩
        have G1 := Lib.hid (grown_trans GB.out hg1)
        clear hg1
        go_wp2_with fail
        go_ret2
        exact ⟨⟨_, rfl, World.ownsRow_nil _ _ _ _⟩, G1.out⟩
      · have c4 : 1000000 < way := by omega
        clear c2
        go_enter Try.func42, Try.ntmps42
        go_wp2_with fail
        refine (rcheck_any ⟨nm, sp, st, so, sc, ss, lo, lc, ls, to_, tc, ts⟩ _ (HA.out.grown GB.out) HCE).mono ?_; rintro e w1 ⟨rfl, hg1⟩
        have G1 := Lib.hid (grown_trans GB.out hg1)
        clear hg1
        go_wp2_with fail
        go_ret2
        exact ⟨⟨_, rfl, World.ownsRow_nil _ _ _ _⟩, G1.out⟩
  · rw [if_neg c1] at hv
    simp only [Prod.mk.injEq] at hv
    obtain ⟨rfl, rfl⟩ := hv
    have hne : (ce != 0) = true := by simpa using c1
    have HC1 := Lib.hid c1
    clear c1 hok
    go_enter Try.func42, Try.ntmps42
    go_wp2_with fail
    refine (rcheck_any ⟨nm, sp, st, so, sc, ss, lo, lc, ls, to_, tc, ts⟩ _ (HA.out.grown GB.out) HCE).mono ?_; rintro e w1 ⟨rfl, hg1⟩
    have G1 := Lib.hid (grown_trans GB.out hg1)
    clear hg1
    go_wp2_with fail
    go_ret2
    exact ⟨⟨_, rfl, World.ownsRow_nil _ _ _ _⟩, G1.out⟩

end Go.Proofs.Ytimfgplihppeeaa
