/- The contract of the reference's predict. -/
import Derived.Test.YtdihmcbjoociiaaFPredL
namespace Go.Proofs.Ytdihmcbjoociiaa
open Go.RowKit

theorem pred_here {s : Int} {x : RaceV} (hx : x.Ok) : ∀ {r : List RaceV}, RaceUp x r → predR s x.way x r = x.sec
  | [], _ => by
    show (if (dblR x s).way ≤ x.way then tailR s x.way 23 (dblR x s) else btwR x (dblR x s) x.way) = x.sec
    rw [if_neg (by show ¬ 2 * x.way ≤ x.way; have := hx.1.1; omega), btw_at]
  | z :: r, h => by
    cases h with
    | cons hz h1 h2 _ =>
      show (if x.way < z.way then max (btwR x z x.way) 1 else predR s x.way z r) = x.sec
      rw [if_pos h1, btw_at]
      have := hx.2.1; omega
theorem btw_zero {x : RaceV} {way : Int} : btwR ⟨0, 0⟩ x way = way * x.sec / x.way := by unfold btwR; simp

set_option maxHeartbeats 800000 in
theorem rdoubled_is (a : RaceV) (s : Int) (hs0 : 0 ≤ a.sec) (hs1 : a.sec ≤ 300000000000) (s0 : 0 ≤ s) (s1 : s ≤ 200) (w : World) {v : Int} (hv : Hid ((dblR a s).sec = v)) :
    Calls Try.prog 133 #[.int .i64 a.sec, .int .i64 s] w fun e w' => e = .returned (.int .i64 v) ∧ w = w' := by
  have q := hv.out
  unfold dblR at q
  obtain ⟨aw, az⟩ := a
  simp only at hs0 hs1 q
  obtain ⟨x0, x1⟩ := prod_bd (a := 2 * az) (b := s) (A := 600000000000) (B := 200) (by omega) (by omega) (by omega) (by omega)
  have e2 : az * 2 = 2 * az := by omega
  obtain ⟨X, hX⟩ : ∃ X, 2 * az * s = X := ⟨_, rfl⟩
  have hX2 : az * 2 * s = X := by rw [e2]; exact hX
  rw [hX] at q x0 x1
  have rx : IntKind.i64.wrap (az * 2 * s) = X := by rw [hX2]; exact IntWalk.i64_in _ (by omega)
  have x2 : X ≤ 200000000000000 := by omega
  have hDt : X.tdiv 1000 = X / 1000 := Int.tdiv_eq_ediv_of_nonneg x0
  clear hX hX2 x1 hv e2
  have Q := Lib.hid q
  clear q
  go_enter Try.func133, Try.ntmps133
  go_wp2_with fail
  go_ret
  exact ⟨ret_int (by have := Q.out; omega), rfl⟩

set_option maxRecDepth 100000 in
set_option maxHeartbeats 3200000 in
theorem rpredict_is (ao : Option Addr) (cap : Nat) (l : List RaceV) (hok : Hid (RacesOk l)) (way s : Int) (hw : Hid (1 ≤ way ∧ way ≤ 10000000)) (hsl : Hid (0 ≤ s ∧ s ≤ 200)) (w : World) (hs : PairsAt w ao l) {v : Int} (hv : Hid (predR s way ⟨0, 0⟩ l = v)) :
    Calls Try.prog 104 #[.slice ao l.length cap, .int .i64 way, .int .i64 s] w fun e w' => e = .returned (.int .i64 v) ∧ w.grownBy w' none := by
  have HS := Lib.hid hs
  have hl50 := hok.out.len
  have hlp : 0 < l.length := List.length_pos_iff.2 hok.out.ne
  have HLP := Lib.hid hlp
  clear hs hlp
  obtain ⟨wlo, whi⟩ := hw.out
  obtain ⟨slo, shi⟩ := hsl.out
  go_enter Try.func104, Try.ntmps104
  go_wp2_with fail
  have HP0 : Hid (predR s way (backR l 0) (l.drop 0) = v) := hv.out
  have HW0 : Hid ((backR l 0).way ≤ way) := by show (0 : Int) ≤ way; omega
  go_loopw [15] (fun iv wr => ∃ k : Nat, k ≤ l.length ∧ iv = .int .i64 k ∧ Hid (w.grownBy wr none) ∧ Hid (predR s way (backR l k) (l.drop k) = v) ∧ Hid ((backR l k).way ≤ way))
    (fun iv _ => l.length - (intOf iv).toNat)
  case atStart => exact ⟨0, Nat.zero_le _, rfl, grown_refl _ _, HP0.out, HW0.out⟩
  case round =>
    obtain ⟨k, hk, rfl, hg, hp, hbw⟩ := hrel
    by_cases hlt : k < l.length
    · obtain ⟨b, off, rfl, hc⟩ := HS.out.at (by omega)
      have c0 := grown_cell hg.out (hc k hlt).1
      have c1 := grown_cell hg.out (hc k hlt).2
      have hx := up_one hok.out.up hlt
      have hru : RaceUp (raceD l k) (l.drop (k + 1)) := up_at hok.out.up (k + 1) hlt
      have hpk := (predR_at (s := s) (way := way) (a := backR l k) hlt).symm.trans hp.out
      have hGX : w.grownBy (wr.alloc (.cells #[.int .i64 (raceD l k).way, .int .i64 (raceD l k).sec] 118)) none := grown_trans hg.out (World.grownBy_alloc _ _ _)
      by_cases a0 : way = (raceD l k).way
      · rw [if_neg (by omega)] at hpk
        have hv2 : (raceD l k).sec = v := by rw [← hpk, a0]; exact (pred_here hx.1 hru).symm
        have HV2 := Lib.hid hv2
        have HG2 := Lib.hid hGX
        clear hp hbw hpk hx hru hc hGX hv2
        generalize raceD l k = x at *
        obtain ⟨xw, xs⟩ := x
        simp only at a0 c0 c1
        subst a0
        go_wp2_with fail
        go_ret
        exact ⟨ret_int HV2.out, HG2.out⟩
      by_cases a1 : (raceD l k).way < way
      · rw [if_neg (by omega)] at hpk
        have HP2 : Hid (predR s way (backR l (k + 1)) (l.drop (k + 1)) = v) := hpk
        have HW2 : Hid ((backR l (k + 1)).way ≤ way) := by show (raceD l k).way ≤ way; omega
        have HG2 := Lib.hid hGX
        clear hp hbw hpk hx hru hc hGX
        generalize raceD l k = x at *
        obtain ⟨xw, xs⟩ := x
        simp only at a0 a1 c0 c1
        go_wp2_with fail
        go_roundw
        case rel => exact ⟨k + 1, by omega, by go_num, HG2.out, HP2.out, HW2.out⟩
        case measure => simp [intOf]; omega
      · have a2 : way < (raceD l k).way := by omega
        rw [if_pos a2] at hpk
        obtain ⟨⟨⟨x0, x1⟩, x2, x3⟩, x4, x5⟩ := hx
        by_cases hk0 : k = 0
        · subst hk0
          have hq : max ((way * (raceD l 0).sec) / (raceD l 0).way) 1 = v := by rw [← hpk]; show max _ 1 = max (btwR ⟨0, 0⟩ (raceD l 0) way) 1; rw [btw_zero]
          have HG2 := Lib.hid hGX
          clear hp hbw hpk hru hc hGX x4 x5
          simp only [Nat.zero_mul, Nat.add_zero] at c0 c1
          generalize raceD l 0 = x at *
          obtain ⟨xw, xs⟩ := x
          simp only at a0 a1 a2 c0 c1 x0 x1 x2 x3 hq
          obtain ⟨p0, p1⟩ := prod_bd (a := way) (b := xs) (A := 10000000) (B := 1000000) (by omega) whi (by omega) x3
          obtain ⟨X, hX⟩ : ∃ X, way * xs = X := ⟨_, rfl⟩
          rw [hX] at hq p0 p1
          have rx : IntKind.i64.wrap (way * xs) = X := by rw [hX]; exact IntWalk.i64_in _ (by omega)
          obtain ⟨d0, d1⟩ := ediv_bd p0 (by omega : 1 ≤ xw)
          obtain ⟨D, hD⟩ : ∃ D, X / xw = D := ⟨_, rfl⟩
          have hDt : X.tdiv xw = D := by rw [Int.tdiv_eq_ediv_of_nonneg p0]; exact hD
          rw [hD] at hq d0 d1
          have p2 : X ≤ 10000000000000 := by omega
          have ne0 : ¬ xw = 0 := by omega
          have ne1 : (xw == 0) = false := by rw [beq_eq_false_iff_ne]; omega
          have HQ := Lib.hid hq
          clear hX p1 hq
          go_wp2_with fail
          all_goals
            go_ret
            exact ⟨ret_int (by have := HQ.out; omega), HG2.out⟩
        · obtain ⟨m, hkm⟩ : ∃ m, k = m + 1 := ⟨k - 1, by omega⟩
          have hbk : backR l k = raceD l m := by rw [hkm]; rfl
          have hyo := (up_one hok.out.up (show m < l.length by omega)).1
          rw [hbk] at hpk x4 x5 hbw
          have hlo := btw_lo x4 (Int.le_of_lt x5) hbw.out
          obtain ⟨⟨y0, y1⟩, y2, y3⟩ := hyo
          have hq : btwR (raceD l m) (raceD l k) way = v := by rw [← hpk]; omega
          have c2 := grown_cell hg.out (hc m (by omega)).1
          have c3 := grown_cell hg.out (hc m (by omega)).2
          have HG2 : Hid (w.grownBy ((wr.alloc (.cells #[.int .i64 (raceD l k).way, .int .i64 (raceD l k).sec] 118)).alloc (.cells #[.int .i64 (raceD l m).way, .int .i64 (raceD l m).sec] 118)) none) := grown_trans hGX (World.grownBy_alloc _ _ _)
          have e0 : ¬ (k : Int) = 0 := by omega
          have ea : ((k : Int) - 1).toNat = m := by omega
          have pa : (0 : Int) ≤ (k : Int) - 1 := by omega
          have pb : (1 : Int) ≤ (k : Int) := by omega
          have ba : (k : Int) - 1 < (l.length : Int) := by omega
          have ra : IntKind.i64.wrap ((k : Int) - 1) = (k : Int) - 1 := by rw [IntKind.wrap_i64]; omega
          have hbw2 := hbw.out
          have d2 := grown_cell (World.grownBy_alloc wr (.cells #[.int .i64 (raceD l k).way, .int .i64 (raceD l k).sec] 118) none) c2
          have d3 := grown_cell (World.grownBy_alloc wr (.cells #[.int .i64 (raceD l k).way, .int .i64 (raceD l k).sec] 118) none) c3
          clear hp hpk hru hc hGX hkm hk0 hbk hlo hbw
          generalize raceD l k = x at *
          generalize raceD l m = y at *
          obtain ⟨xw, xs⟩ := x
          obtain ⟨yw, ys⟩ := y
          unfold btwR at hq
          simp only at a0 a1 a2 c0 c1 c2 c3 d2 d3 x0 x1 x2 x3 x4 x5 y0 y1 y2 y3 hq hbw2
          obtain ⟨p0, p1⟩ := prod_bd (a := way - yw) (b := xs - ys) (A := 10000000) (B := 1000000) (by omega) (by omega) (by omega) (by omega)
          obtain ⟨X, hX⟩ : ∃ X, (way - yw) * (xs - ys) = X := ⟨_, rfl⟩
          rw [hX] at hq p0 p1
          have rx : IntKind.i64.wrap ((way - yw) * (xs - ys)) = X := by rw [hX]; exact IntWalk.i64_in _ (by omega)
          obtain ⟨d0, d1⟩ := ediv_bd p0 (by omega : 1 ≤ xw - yw)
          obtain ⟨D, hD⟩ : ∃ D, X / (xw - yw) = D := ⟨_, rfl⟩
          have hDt : X.tdiv (xw - yw) = D := by rw [Int.tdiv_eq_ediv_of_nonneg p0]; exact hD
          rw [hD] at hq d0 d1
          have p2 : X ≤ 10000000000000 := by omega
          have ne0 : ¬ xw - yw = 0 := by omega
          have ne1 : (xw - yw == 0) = false := by rw [beq_eq_false_iff_ne]; omega
          have HQ := Lib.hid hq
          clear hX p1 hq
          go_wp2_with fail
          go_quiet (fail)
          go_wp2_with fail
          go_ret
          exact ⟨ret_int (by have := HQ.out; omega), grown_trans HG2.out (grown_drewN _ _ _)⟩
    · obtain rfl : k = l.length := by omega
      obtain ⟨m, hm⟩ : ∃ m, l.length = m + 1 := ⟨l.length - 1, by have := HLP.out; omega⟩
      have hbk : backR l l.length = raceD l m := by rw [hm]; rfl
      have hlast : (raceD l m).Ok := (up_one hok.out.up (show m < l.length by omega)).1
      have HD0 : Hid (Dbl 0 (raceD l m)) := ok_dbl hlast
      have HT0 : Hid (tailR s way 24 (raceD l m) = v) := by rw [← hbk]; exact (predR_end (Nat.le_refl _)).symm.trans hp.out
      have HBW : Hid ((raceD l m).way ≤ way) := by rw [← hbk]; exact hbw.out
      obtain ⟨b, off, rfl, hc⟩ := HS.out.at HLP.out
      have c2 := grown_cell hg.out (hc m (by omega)).1
      have c3 := grown_cell hg.out (hc m (by omega)).2
      have e0 : ((l.length : Int) - 1).toNat = m := by omega
      have pa : (0 : Int) ≤ (l.length : Int) - 1 := by omega
      have pb : (1 : Int) ≤ (l.length : Int) := by omega
      have ba : (l.length : Int) - 1 < (l.length : Int) := by omega
      have ra : IntKind.i64.wrap ((l.length : Int) - 1) = (l.length : Int) - 1 := by rw [IntKind.wrap_i64]; omega
      have HGA : Hid (w.grownBy ((wr.alloc (.cells #[.int .i64 (raceD l m).way, .int .i64 (raceD l m).sec] 118))) none) := grown_trans hg.out (World.grownBy_alloc _ _ _)
      clear hp hbw hbk hc hlast hm
      generalize raceD l m = y at *
      obtain ⟨yw, ys⟩ := y
      simp only at c2 c3
      go_wp2_with fail
      go_quiet (fail)
      go_wp2_with fail
      have HGB := Lib.hid hg.out
      clear c2 c3 e0 pa pb ba ra hg
      go_loopw [11, 12] (fun wv sv wr => ∃ (n k : Nat) (a : RaceV), wv = .int .i64 a.way ∧ sv = .int .i64 a.sec ∧ Hid (w.grownBy wr none) ∧ Hid (Dbl k a) ∧ Hid (a.way ≤ way) ∧ Hid (tailR s way n a = v) ∧ 14 ≤ n + k)
        (fun wv _ _ => (30000000 - intOf wv).toNat)
      case atStart => exact ⟨24, 0, ⟨yw, ys⟩, rfl, rfl, grown_trans HGA.out (grown_drewN _ _ _), HD0.out, HBW.out, HT0.out, by omega⟩
      case round =>
        obtain ⟨n, k, a, rfl, rfl, hg, hd, haw, ht, hnk⟩ := hrel
        obtain ⟨aw, az⟩ := a
        have hk13 := dbl_few hd.out (Int.le_trans haw.out whi)
        obtain ⟨n, rfl⟩ : ∃ m, n = m + 1 := ⟨n - 1, by omega⟩
        have htt := ht.out
        unfold tailR at htt
        have hpos := dbl_pos hd.out
        have hs0 := hd.out.s0
        have hup := dbl_up hd.out slo
        have hsec := dbl_sec2 hd.out ⟨slo, shi⟩ (Int.le_trans haw.out whi)
        have hsec1 := dbl_sec hd.out (Int.le_trans haw.out whi)
        have hway : (dblR ⟨aw, az⟩ s).way = 2 * aw := rfl
        have haww := haw.out
        have hdn := dbl_next hd.out ⟨slo, shi⟩
        have HC : Hid (∀ (W : World) (u : Int), (dblR ⟨aw, az⟩ s).sec = u → Calls Try.prog 133 #[.int .i64 az, .int .i64 s] W fun e w' => e = .returned (.int .i64 u) ∧ W = w') := fun W u hu => rdoubled_is ⟨aw, az⟩ s (by have := hd.out.s0; show 0 ≤ az; simp only at this; omega) (by show az ≤ 300000000000; simp only at hsec1; omega) slo shi W (Lib.hid hu)
        obtain ⟨d, hdd⟩ : ∃ d, dblR ⟨aw, az⟩ s = d := ⟨_, rfl⟩
        rw [hdd] at htt hup hsec hway hdn HC
        obtain ⟨dw, dz⟩ := d
        simp only at hpos hs0 haww hup hsec hway hsec1
        subst hway
        have HCC : Hid (∀ W : World, Calls Try.prog 133 #[.int .i64 az, .int .i64 s] W fun e w' => e = .returned (.int .i64 dz) ∧ W = w') := fun W => HC.out W dz rfl
        clear hd haw hdd ht HC
        by_cases hlt2 : 2 * aw ≤ way
        · rw [if_pos hlt2] at htt
          have HTN := Lib.hid htt
          have HDN := Lib.hid hdn
          have HDW : Hid ((⟨2 * aw, dz⟩ : RaceV).way ≤ way) := hlt2
          clear htt hdn
          go_wp2_with (go_at_call 133; refine (HCC.out _).mono ?_; rintro e w8 ⟨rfl, rfl⟩)
          go_roundw
          case rel => exact ⟨n, k + 1, ⟨2 * aw, dz⟩, rfl, rfl, hg.out, HDN.out, HDW.out, HTN.out, by omega⟩
          case measure => simp [intOf]; omega
        · rw [if_neg hlt2] at htt
          unfold btwR at htt
          simp only at htt
          have e1 : 2 * aw - aw = aw := by omega
          rw [e1] at htt
          obtain ⟨p0, p1⟩ := prod_bd (a := way - aw) (b := dz - az) (A := 10000000) (B := 300000000000) (by omega) (by omega) (by omega) (by omega)
          obtain ⟨X, hX⟩ : ∃ X, (way - aw) * (dz - az) = X := ⟨_, rfl⟩
          rw [hX] at htt p0 p1
          have rx : IntKind.i64.wrap ((way - aw) * (dz - az)) = X := by rw [hX]; exact IntWalk.i64_in _ (by omega)
          obtain ⟨d0, d1⟩ := ediv_bd p0 (by omega : 1 ≤ aw)
          obtain ⟨D, hD⟩ : ∃ D, X / aw = D := ⟨_, rfl⟩
          have hDt : X.tdiv aw = D := by rw [Int.tdiv_eq_ediv_of_nonneg p0]; exact hD
          rw [hD] at htt d0 d1
          have p2 : X ≤ 3000000000000000000 := by omega
          have ne0 : ¬ aw = 0 := by omega
          have ne1 : (aw == 0) = false := by rw [beq_eq_false_iff_ne]; omega
          have HTT := Lib.hid htt
          clear htt hdn hX p1 e1
          go_wp2_with (go_at_call 133; refine (HCC.out _).mono ?_; rintro e w8 ⟨rfl, rfl⟩)
          go_ret
          exact ⟨ret_int (by have := HTT.out; omega), hg.out⟩

end Go.Proofs.Ytdihmcbjoociiaa
