/- The contract of Fit. -/
import Derived.Test.YtdihmcbjoociiaaFFit
import Derived.Test.YtdihmcbjoociiaaFChkT
import Derived.BigQuiet
namespace Go.Proofs.Ytdihmcbjoociiaa
open Go.RowKit

set_option maxRecDepth 100000 in
set_option maxHeartbeats 3200000 in
theorem fit_no (ao : Option Addr) (cap : Nat) (l : List RaceV) (hl : (l.length : Int) ≤ 9223372036854775807) {E : Int} (h : Hid (fitE l = E)) (hE : ¬ E = 0) (w : World) (hs : PairsAt w ao l) :
    Calls Try.prog 15 #[.slice ao l.length cap] w fun e w' => e = .returned (.tuple #[.agg #[.int .i64 0, .int .i64 0], .agg #[.int .i64 0, .int .i64 0], .int .i64 E]) ∧ w.grownBy w' none := by
  obtain ⟨te, hte⟩ : ∃ e, testsE l = e := ⟨_, rfl⟩
  have HTE := Lib.hid hte
  have hv := h.out
  unfold fitE at hv
  rw [hte] at hv
  have HA0 : Hid (RBox ((w.alloc (.cells #[.int .i64 0, .int .i64 0] 24)).alloc (.cells #[.int .i64 0, .int .i64 0] 24)) w.heap.size 0 0) := (RBox.new w 0 0).grown (World.grownBy_alloc _ _ _)
  have HB0 : Hid (RBox ((w.alloc (.cells #[.int .i64 0, .int .i64 0] 24)).alloc (.cells #[.int .i64 0, .int .i64 0] 24)) (w.heap.size + 1) 0 0) := by
    have q := RBox.new (w.alloc (.cells #[.int .i64 0, .int .i64 0] 24)) 0 0
    rw [World.size_alloc] at q; exact q
  have HG0 : Hid (w.grownBy ((w.alloc (.cells #[.int .i64 0, .int .i64 0] 24)).alloc (.cells #[.int .i64 0, .int .i64 0] 24)) none) := grown_trans (World.grownBy_alloc _ _ _) (World.grownBy_alloc _ _ _)
  have HS : Hid (PairsAt ((w.alloc (.cells #[.int .i64 0, .int .i64 0] 24)).alloc (.cells #[.int .i64 0, .int .i64 0] 24)) ao l) := hs.grown HG0.out
  clear hs h hte
  by_cases h0 : te = 0
  · subst h0
    rw [if_pos rfl] at hv
    have h2 : (l.length : Int) < 2 := by
      rcases Int.lt_or_le (l.length : Int) 2 with q | q
      · exact q
      · rw [if_neg (by omega)] at hv; exact absurd hv.symm hE
    rw [if_pos h2] at hv
    subst hv
    clear hE
    go_enter Try.func15, Try.ntmps15
    go_wp2_with fail
    refine (checkTests_any ao cap l hl _ HS.out HTE).mono ?_; rintro e w1 ⟨rfl, hg1⟩
    have HA : Hid (RBox w1 w.heap.size 0 0) := HA0.out.grown hg1
    have HB : Hid (RBox w1 (w.heap.size + 1) 0 0) := HB0.out.grown hg1
    have HG : Hid (w.grownBy w1 none) := grown_trans HG0.out hg1
    have a0 := HA.out.c0; have a1 := HA.out.c1; have a2 := HA.out.f 0; have a3 := HA.out.f 1
    have b0 := HB.out.c0; have b1 := HB.out.c1; have b2 := HB.out.f 0; have b3 := HB.out.f 1
    clear hg1 HA0 HB0 HG0 HS
    go_wp2_with fail
    have r1 := ((HA.out.set 0 0).far (show w.heap.size ≠ w.heap.size + 1 by omega) 0 (.int .i64 0)).far (show w.heap.size ≠ w.heap.size + 1 by omega) 1 (.int .i64 0)
    refine bodyPost_ret (v := .tuple #[.agg #[.int .i64 0, .int .i64 0], .agg #[.int .i64 0, .int .i64 0], .int .i64 13]) (by simp [results, Try.results15, go_sem, a0, a1, b0, b1]) rfl ⟨rfl, ?_⟩
    exact egrown_set (egrown_set (egrown_set (egrown_set HG.out (Nat.le_refl _) _ _) (Nat.le_refl _) _ _) (by show _ ≤ w.heap.size + 1; omega) _ _) (by show _ ≤ w.heap.size + 1; omega) _ _
  · rw [if_neg h0] at hv
    subst hv
    have hne : (te != 0) = true := by simpa using h0
    clear hE h0
    go_enter Try.func15, Try.ntmps15
    go_wp2_with fail
    refine (checkTests_any ao cap l hl _ HS.out HTE).mono ?_; rintro e w1 ⟨rfl, hg1⟩
    have HA : Hid (RBox w1 w.heap.size 0 0) := HA0.out.grown hg1
    have HB : Hid (RBox w1 (w.heap.size + 1) 0 0) := HB0.out.grown hg1
    have HG : Hid (w.grownBy w1 none) := grown_trans HG0.out hg1
    have a0 := HA.out.c0; have a1 := HA.out.c1; have a2 := HA.out.f 0; have a3 := HA.out.f 1
    have b0 := HB.out.c0; have b1 := HB.out.c1; have b2 := HB.out.f 0; have b3 := HB.out.f 1
    clear hg1 HA0 HB0 HG0 HS
    go_wp2_with fail
    have r1 := ((HA.out.set 0 0).far (show w.heap.size ≠ w.heap.size + 1 by omega) 0 (.int .i64 0)).far (show w.heap.size ≠ w.heap.size + 1 by omega) 1 (.int .i64 0)
    refine bodyPost_ret (v := .tuple #[.agg #[.int .i64 0, .int .i64 0], .agg #[.int .i64 0, .int .i64 0], .int .i64 te]) (by simp [results, Try.results15, go_sem, a0, a1, b0, b1]) rfl ⟨rfl, ?_⟩
    exact egrown_set (egrown_set (egrown_set (egrown_set HG.out (Nat.le_refl _) _ _) (Nat.le_refl _) _ _) (by show _ ≤ w.heap.size + 1; omega) _ _) (by show _ ≤ w.heap.size + 1; omega) _ _

set_option maxRecDepth 100000 in
set_option maxHeartbeats 3200000 in
theorem fit_yes (ao : Option Addr) (cap : Nat) (l : List RaceV) (hl : (l.length : Int) ≤ 9223372036854775807) (h : Hid (fitE l = 0)) (w : World) (hs : PairsAt w ao l) {p1 q1 p2 q2 : Int}
    (hp1 : Hid ((num1 l).tdiv (gcdI (num1 l) (den0 l)) = p1)) (hq1 : Hid ((den0 l).tdiv (gcdI (num1 l) (den0 l)) = q1)) (hp2 : Hid ((num2 l).tdiv (gcdI (num2 l) (den0 l)) = p2)) (hq2 : Hid ((den0 l).tdiv (gcdI (num2 l) (den0 l)) = q2)) :
    Calls Try.prog 15 #[.slice ao l.length cap] w fun e w' => e = .returned (.tuple #[.agg #[.int .i64 p1, .int .i64 q1], .agg #[.int .i64 p2, .int .i64 q2], .int .i64 0]) ∧ w.grownBy w' none := by
  obtain ⟨hok, hn2, hden⟩ := fit_ok h.out
  have HTE : Hid (testsE l = 0) := by
    have q := h.out
    unfold fitE at q
    split at q
    · assumption
    · rename_i hx; exact absurd q hx
  have hn20 := hok.len
  have HOK := Lib.hid hok
  obtain ⟨t0, t1, w0, w1', tt0, tt1, tw0, tw1⟩ := sums_bd hok l.length (Nat.le_refl _)
  have hn2' : ¬ (l.length : Int) < 2 := by omega
  have HA0 : Hid (RBox ((w.alloc (.cells #[.int .i64 0, .int .i64 0] 24)).alloc (.cells #[.int .i64 0, .int .i64 0] 24)) w.heap.size 0 0) := (RBox.new w 0 0).grown (World.grownBy_alloc _ _ _)
  have HB0 : Hid (RBox ((w.alloc (.cells #[.int .i64 0, .int .i64 0] 24)).alloc (.cells #[.int .i64 0, .int .i64 0] 24)) (w.heap.size + 1) 0 0) := by
    have q := RBox.new (w.alloc (.cells #[.int .i64 0, .int .i64 0] 24)) 0 0
    rw [World.size_alloc] at q; exact q
  have HG0 : Hid (w.grownBy ((w.alloc (.cells #[.int .i64 0, .int .i64 0] 24)).alloc (.cells #[.int .i64 0, .int .i64 0] 24)) none) := grown_trans (World.grownBy_alloc _ _ _) (World.grownBy_alloc _ _ _)
  have HS : Hid (PairsAt ((w.alloc (.cells #[.int .i64 0, .int .i64 0] 24)).alloc (.cells #[.int .i64 0, .int .i64 0] 24)) ao l) := hs.grown HG0.out
  have HD : Hid (1 ≤ den0 l) := by show _ ≤ _; omega
  obtain ⟨S, hS⟩ : ∃ S, sumsN l l.length = S := ⟨_, rfl⟩
  have HSS := Lib.hid hS
  have hd := hden
  have e1 : num1 l = (l.length : Int) * S.tw - S.t * S.w := by rw [← hS]; rfl
  have e2 : num2 l = S.w * S.tt - S.t * S.tw := by rw [← hS]; rfl
  have e3 : den0 l = (l.length : Int) * S.tt - S.t * S.t := by rw [← hS]; rfl
  rw [hS] at t0 t1 w0 w1' tt0 tt1 tw0 tw1
  have b1 := prod_bd (a := (l.length : Int)) (b := S.tt) (A := 20) (B := 2000000000) (by omega) (by omega) tt0 (by omega)
  have b2 := prod_bd (a := S.t) (b := S.t) (A := 200000) (B := 200000) t0 (by omega) t0 (by omega)
  have b3 := prod_bd (a := (l.length : Int)) (b := S.tw) (A := 20) (B := 20000000000000) (by omega) (by omega) tw0 (by omega)
  have b4 := prod_bd (a := S.t) (b := S.w) (A := 200000) (B := 2000000000) t0 (by omega) w0 (by omega)
  have b5 := prod_bd (a := S.w) (b := S.tt) (A := 2000000000) (B := 2000000000) w0 (by omega) tt0 (by omega)
  have b6 := prod_bd (a := S.t) (b := S.tw) (A := 200000) (B := 20000000000000) t0 (by omega) tw0 (by omega)
  obtain ⟨P1, h1⟩ : ∃ P, (l.length : Int) * S.tt = P := ⟨_, rfl⟩
  obtain ⟨P2, h2⟩ : ∃ P, S.t * S.t = P := ⟨_, rfl⟩
  obtain ⟨P3, h3⟩ : ∃ P, (l.length : Int) * S.tw = P := ⟨_, rfl⟩
  obtain ⟨P4, h4⟩ : ∃ P, S.t * S.w = P := ⟨_, rfl⟩
  obtain ⟨P5, h5⟩ : ∃ P, S.w * S.tt = P := ⟨_, rfl⟩
  obtain ⟨P6, h6⟩ : ∃ P, S.t * S.tw = P := ⟨_, rfl⟩
  rw [h1] at b1 e3; rw [h2] at b2 e3; rw [h3] at b3 e1; rw [h4] at b4 e1; rw [h5] at b5 e2; rw [h6] at b6 e2
  have r1 : IntKind.i64.wrap ((l.length : Int) * S.tt) = P1 := by rw [h1]; exact IntWalk.i64_in _ (by omega)
  have r2 : IntKind.i64.wrap (S.t * S.t) = P2 := by rw [h2]; exact IntWalk.i64_in _ (by omega)
  have r3 : IntKind.i64.wrap ((l.length : Int) * S.tw) = P3 := by rw [h3]; exact IntWalk.i64_in _ (by omega)
  have r4 : IntKind.i64.wrap (S.t * S.w) = P4 := by rw [h4]; exact IntWalk.i64_in _ (by omega)
  have r5 : IntKind.i64.wrap (S.w * S.tt) = P5 := by rw [h5]; exact IntWalk.i64_in _ (by omega)
  have r6 : IntKind.i64.wrap (S.t * S.tw) = P6 := by rw [h6]; exact IntWalk.i64_in _ (by omega)
  have HE1 := Lib.hid e1; have HE2 := Lib.hid e2; have HE3 := Lib.hid e3
  rw [e3] at hd
  have hd1 : 1 ≤ P1 - P2 := by omega
  have HR1 : Hid (∀ W : World, Calls Try.prog 76 #[.int .i64 (P3 - P4), .int .i64 (P1 - P2)] W fun e w' => e = .returned (.agg #[.int .i64 p1, .int .i64 q1]) ∧ W.grownBy w' none) := fun W => ratioOf_is (P3 - P4) (P1 - P2) (by omega) (by omega) hd1 (by omega) W (by have := hp1.out; rw [HE1.out, HE3.out] at this; exact this) (by have := hq1.out; rw [HE1.out, HE3.out] at this; exact this)
  have HR2 : Hid (∀ W : World, Calls Try.prog 76 #[.int .i64 (P5 - P6), .int .i64 (P1 - P2)] W fun e w' => e = .returned (.agg #[.int .i64 p2, .int .i64 q2]) ∧ W.grownBy w' none) := fun W => ratioOf_is (P5 - P6) (P1 - P2) (by omega) (by omega) hd1 (by omega) W (by have := hp2.out; rw [HE2.out, HE3.out] at this; exact this) (by have := hq2.out; rw [HE2.out, HE3.out] at this; exact this)
  obtain ⟨b10, b11⟩ := b1; obtain ⟨b20, b21⟩ := b2; obtain ⟨b30, b31⟩ := b3; obtain ⟨b40, b41⟩ := b4; obtain ⟨b50, b51⟩ := b5; obtain ⟨b60, b61⟩ := b6
  obtain ⟨St, Sw, Stt, Stw⟩ := S
  simp only at r1 r2 r3 r4 r5 r6 t0 t1 w0 w1' tt0 tt1 tw0 tw1
  clear hs h hok hden hS hd h1 h2 h3 h4 h5 h6 e1 e2 e3 HE1 HE2 HE3 HD hp1 hq1 hp2 hq2
  go_enter Try.func15, Try.ntmps15
  go_wp2_with fail
  refine (checkTests_any ao cap l hl _ HS.out HTE).mono ?_; rintro e w1 ⟨rfl, hg1⟩
  have HA1 : Hid (RBox w1 w.heap.size 0 0) := HA0.out.grown hg1
  have HB1 : Hid (RBox w1 (w.heap.size + 1) 0 0) := HB0.out.grown hg1
  have HG1 : Hid (w.grownBy w1 none) := grown_trans HG0.out hg1
  have HS1 : Hid (PairsAt w1 ao l) := HS.out.grown hg1
  clear hg1 HA0 HB0 HG0 HS
  go_wp2_with fail
  go_loopw [6, 7, 8, 9, 27] (fun tv wv ttv twv iv wr => ∃ k : Nat, k ≤ l.length ∧ tv = .int .i64 (sumsN l k).t ∧ wv = .int .i64 (sumsN l k).w ∧ ttv = .int .i64 (sumsN l k).tt ∧ twv = .int .i64 (sumsN l k).tw ∧ iv = .int .i64 k ∧ Hid (w1.grownBy wr none))
    (fun _ _ _ _ iv _ => l.length - (intOf iv).toNat)
  case atStart => exact ⟨0, Nat.zero_le _, rfl, rfl, rfl, rfl, rfl, grown_refl _ _⟩
  case round =>
    obtain ⟨k, hk, rfl, rfl, rfl, rfl, rfl, hg⟩ := hrel
    by_cases hlt : k < l.length
    · obtain ⟨b, off, rfl, hc⟩ := HS1.out.at (by omega)
      have c0 := grown_cell hg.out (hc k hlt).1
      have c1 := grown_cell hg.out (hc k hlt).2
      have hx := HOK.out.each k hlt
      obtain ⟨⟨m0, m1⟩, m2, m3⟩ := pair_bd hx
      obtain ⟨⟨x0, x1⟩, x2, x3⟩ := hx
      obtain ⟨i0, i1, i2, i3, i4, i5, i6, i7⟩ := sums_bd HOK.out k hk
      have HNX : Hid (sumsN l (k + 1) = ⟨(sumsN l k).t + (raceD l k).way, (sumsN l k).w + (raceD l k).sec, (sumsN l k).tt + (raceD l k).way * (raceD l k).way, (sumsN l k).tw + (raceD l k).way * (raceD l k).sec⟩) := rfl
      have HG2 : Hid (w1.grownBy (wr.alloc (.cells #[.int .i64 (raceD l k).way, .int .i64 (raceD l k).sec] 103)) none) := grown_trans hg.out (World.grownBy_alloc _ _ _)
      clear hc
      generalize sumsN l k = Y at *
      generalize raceD l k = x at *
      obtain ⟨xw, xs⟩ := x
      obtain ⟨ya, yb, yc, yd⟩ := Y
      simp only at m0 m1 m2 m3 x0 x1 x2 x3 i0 i1 i2 i3 i4 i5 i6 i7 c0 c1
      obtain ⟨Q1, hQ1⟩ : ∃ Q, xw * xw = Q := ⟨_, rfl⟩
      obtain ⟨Q2, hQ2⟩ : ∃ Q, xw * xs = Q := ⟨_, rfl⟩
      have hnx := HNX.out
      simp only at hnx
      rw [hQ1] at m0 m1; rw [hQ2] at m2 m3
      rw [hQ1, hQ2] at hnx
      have s1 : IntKind.i64.wrap (xw * xw) = Q1 := by rw [hQ1]; exact IntWalk.i64_in _ (by omega)
      have s2 : IntKind.i64.wrap (xw * xs) = Q2 := by rw [hQ2]; exact IntWalk.i64_in _ (by omega)
      have HZ := Lib.hid hnx
      have hk20 : (k : Int) ≤ 20 := by omega
      clear HNX hnx hQ1 hQ2 r1 r2 r3 r4 r5 r6
      go_wp2_with fail
      go_roundw
      case rel => exact ⟨k + 1, by omega, by rw [HZ.out], by rw [HZ.out], by rw [HZ.out], by rw [HZ.out], by go_num, HG2.out⟩
      case measure => simp [intOf]; omega
    · obtain rfl : k = l.length := by omega
      rw [HSS.out]
      have HA2 := Lib.hid (HA1.out.grown hg.out); have HB2 := Lib.hid (HB1.out.grown hg.out); have HG2 := Lib.hid (grown_trans HG1.out hg.out)
      have ne1 : w.heap.size ≠ w.heap.size + 1 := by omega
      clear hg HA1 HB1 HG1 HS1 HOK HSS hk hlt
      go_wp2_with fail
      refine (HR1.out _).mono ?_; rintro e w3 ⟨rfl, hg3⟩
      have HA3 := Lib.hid (HA2.out.grown hg3); have HB3 := Lib.hid (HB2.out.grown hg3); have HG3 := Lib.hid (grown_trans HG2.out hg3)
      have a0 := HA3.out.c0; have a1 := HA3.out.c1; have a2 := HA3.out.f 0; have a3 := HA3.out.f 1
      clear hg3 HA2 HB2 HG2
      go_wp2_with fail
      refine (HR2.out _).mono ?_; rintro e w4 ⟨rfl, hg4⟩
      have HA4 : Hid (RBox w4 w.heap.size p1 q1) := (HA3.out.set p1 q1).grown hg4
      have HB4 : Hid (RBox w4 (w.heap.size + 1) 0 0) := ((HB3.out.far ne1.symm 0 _).far ne1.symm 1 _).grown hg4
      have HG4 : Hid (w.grownBy w4 none) := grown_trans (egrown_set (egrown_set HG3.out (Nat.le_refl _) _ _) (Nat.le_refl _) _ _) hg4
      clear hg4 HA3 HB3 HG3 a0 a1 a2 a3
      obtain ⟨w5, hw5⟩ : ∃ w5, w5 = (w4.setCell ⟨w.heap.size + 1, 0, none⟩ (.int .i64 p2)).setCell ⟨w.heap.size + 1, 1, none⟩ (.int .i64 q2) := ⟨_, rfl⟩
      have HA5 : Hid (RBox w5 w.heap.size p1 q1) := by show RBox _ _ _ _; rw [hw5]; exact (HA4.out.far ne1 0 _).far ne1 1 _
      have HB5 : Hid (RBox w5 (w.heap.size + 1) p2 q2) := by show RBox _ _ _ _; rw [hw5]; exact HB4.out.set p2 q2
      have HG5 : Hid (w.grownBy w5 none) := by show World.grownBy _ _ _; rw [hw5]; exact egrown_set (egrown_set HG4.out (by omega) _ _) (by omega) _ _
      have b0 := HB4.out.c0; have b1 := HB4.out.c1; have b2 := HB4.out.f 0; have b3 := HB4.out.f 1
      go_wp2_with fail
      rw [← hw5]
      clear hw5 HA4 HB4 HG4 b0 b1 b2 b3
      have a0 := HA5.out.c0; have a1 := HA5.out.c1; have a2 := HA5.out.f 0; have a3 := HA5.out.f 1
      have b0 := HB5.out.c0; have b1 := HB5.out.c1; have b2 := HB5.out.f 0; have b3 := HB5.out.f 1
      go_region
      all_goals
        go_wp2_with fail
        refine bodyPost_ret (v := .tuple #[.agg #[.int .i64 p1, .int .i64 q1], .agg #[.int .i64 p2, .int .i64 q2], .int .i64 0]) (by simp [results, Try.results15, go_sem, a0, a1, b0, b1]) rfl ⟨rfl, ?_⟩
        exact egrown_set (egrown_set (egrown_set (egrown_set (grown_trans HG5.out (grown_drewN _ _ 1)) (Nat.le_refl _) _ _) (Nat.le_refl _) _ _) (by show _ ≤ w.heap.size + 1; omega) _ _) (by show _ ≤ w.heap.size + 1; omega) _ _

end Go.Proofs.Ytdihmcbjoociiaa
