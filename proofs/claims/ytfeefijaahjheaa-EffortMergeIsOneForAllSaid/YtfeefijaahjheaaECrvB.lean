/- A curve's best windows are checked, of both sides. -/
import Derived.Test.YtfeefijaahjheaaECrv
namespace Go.Proofs.Ytfeefijaahjheaa
open Go.RowKit
set_option linter.unusedSimpArgs false
set_option linter.unusedVariables false

theorem grown_al (w : World) (o : Obj) : w.grownBy (w.alloc o) none := World.grownBy_alloc _ _ _
set_option maxHeartbeats 1600000 in
/-- A check of one best window. -/
theorem checkBest_is (x : BestV) (h : 1 ≤ x.sz ∧ x.sz ≤ 1000000) (w : World) {E : Int} (hE : Hid (bestE x = E)) :
    Calls Try.prog 69 #[.agg #[.int .i64 x.sz, .int .i64 x.b.sum, .int .i64 x.b.at_, .bool x.b.found]] w fun e w' => e = .returned (.int .i64 E) ∧ w.grownBy w' none := by
  have hv := hE.out
  obtain ⟨sz, s, a, f⟩ := x
  unfold bestE at hv
  simp only at h hv ⊢
  obtain ⟨z1, z2⟩ := h
  clear hE
  by_cases c0 : f = false ∧ (s ≠ 0 ∨ a ≠ 0)
  · rw [if_pos c0] at hv
    obtain ⟨rfl, c1⟩ := c0
    have HV := Lib.hid hv
    clear hv
    by_cases c2 : s = 0
    · have c3 : (a != 0) = true := by rcases c1 with c | c; exact absurd c2 c; simpa using c
      clear c1
      subst c2
      go_enter Try.func69, Try.ntmps69
      go_wp2_with fail
      go_ret
      exact ⟨ret_int HV.out, grown_al _ _⟩
    · have c3 : (s != 0) = true := by simpa using c2
      clear c1 c2
      go_enter Try.func69, Try.ntmps69
      go_wp2_with fail
      go_ret
      exact ⟨ret_int HV.out, grown_al _ _⟩
  · rw [if_neg c0] at hv
    have HC : Hid (f = true ∨ (s != 0) = false ∧ (a != 0) = false) := by
      show _ ∨ _
      cases f with
      | true => exact .inl rfl
      | false =>
        right
        have q : ¬ (s ≠ 0 ∨ a ≠ 0) := fun q => c0 ⟨rfl, q⟩
        simp only [not_or, Classical.not_not] at q
        obtain ⟨rfl, rfl⟩ := q
        exact ⟨rfl, rfl⟩
    clear c0
    by_cases c1 : 0 ≤ s ∧ s ≤ sz * 1000000000
    · have C1 := Lib.hid c1
      by_cases c2 : 0 ≤ a ∧ a ≤ 1000000 - sz
      · have C2 := Lib.hid c2
        rw [if_pos ⟨c1, c2⟩] at hv
        have HV := Lib.hid hv
        clear hv c1 c2
        rcases HC.out with h1 | ⟨h1, h2⟩
        · subst h1
          go_enter Try.func69, Try.ntmps69
          go_wp2_with fail
          refine (ewithin_yes _ _ _ C1.out _).mono ?_; rintro e w1 ⟨rfl, rfl⟩
          go_wp2_with fail
          refine (ewithin_yes _ _ _ C2.out _).mono ?_; rintro e w1 ⟨rfl, rfl⟩
          go_wp2_with fail
          go_ret
          exact ⟨ret_int HV.out, grown_al _ _⟩
        · cases f
          · go_enter Try.func69, Try.ntmps69
            go_wp2_with fail
            refine (ewithin_yes _ _ _ C1.out _).mono ?_; rintro e w1 ⟨rfl, rfl⟩
            go_wp2_with fail
            refine (ewithin_yes _ _ _ C2.out _).mono ?_; rintro e w1 ⟨rfl, rfl⟩
            go_wp2_with fail
            go_ret
            exact ⟨ret_int HV.out, grown_al _ _⟩
          · go_enter Try.func69, Try.ntmps69
            go_wp2_with fail
            refine (ewithin_yes _ _ _ C1.out _).mono ?_; rintro e w1 ⟨rfl, rfl⟩
            go_wp2_with fail
            refine (ewithin_yes _ _ _ C2.out _).mono ?_; rintro e w1 ⟨rfl, rfl⟩
            go_wp2_with fail
            go_ret
            exact ⟨ret_int HV.out, grown_al _ _⟩
      · have C2 := Lib.hid c2
        rw [if_neg (fun q => c2 q.2)] at hv
        have HV := Lib.hid hv
        have hf : f = true := by
          rcases HC.out with h1 | ⟨h1, h2⟩
          · exact h1
          · have : a = 0 := by simpa using h2
            exact absurd (show 0 ≤ a ∧ a ≤ 1000000 - sz by omega) c2
        subst hf
        clear hv c1 c2 HC
        go_enter Try.func69, Try.ntmps69
        go_wp2_with fail
        refine (ewithin_yes _ _ _ C1.out _).mono ?_; rintro e w1 ⟨rfl, rfl⟩
        go_wp2_with fail
        refine (ewithin_no _ _ _ C2.out _).mono ?_; rintro e w1 ⟨rfl, rfl⟩
        go_wp2_with fail
        go_ret
        exact ⟨ret_int HV.out, grown_al _ _⟩
    · have C1 := Lib.hid c1
      rw [if_neg (fun q => c1 q.1)] at hv
      have HV := Lib.hid hv
      have hf : f = true := by
        rcases HC.out with h1 | ⟨h1, h2⟩
        · exact h1
        · have : s = 0 := by simpa using h1
          exact absurd (show 0 ≤ s ∧ s ≤ sz * 1000000000 by omega) c1
      subst hf
      clear hv c1 HC
      go_enter Try.func69, Try.ntmps69
      go_wp2_with fail
      refine (ewithin_no _ _ _ C1.out _).mono ?_; rintro e w1 ⟨rfl, rfl⟩
      go_wp2_with fail
      go_ret
      exact ⟨ret_int HV.out, grown_al _ _⟩

theorem sizes_in {L : List BestV} (h : sizesE (szs L) = 0) {k : Nat} (hk : k < L.length) : 1 ≤ L[k].sz ∧ L[k].sz ≤ 1000000 := by
  have q := (sizes_ok h).2.2 k (by rw [szs_len]; exact hk)
  rwa [szs_at hk] at q

set_option maxRecDepth 100000 in
set_option maxHeartbeats 1600000 in
theorem checkCurve_is (ao : Option Addr) (cap : Nat) (L : List BestV) (hl : (L.length : Int) ≤ 4398046511104) (w : World) (hs : RowsAt bestCs 4 w ao L) {E : Int} (hE : Hid (crvE L = E)) :
    Calls Try.prog 31 #[.slice ao L.length cap] w fun e w' => e = .returned (.int .i64 E) ∧ w.grownBy w' none := by
  have HS := Lib.hid hs
  have hv := hE.out
  unfold crvE at hv
  clear hs hE
  obtain ⟨ze, hze⟩ : ∃ e, sizesE (szs L) = e := ⟨_, rfl⟩
  have HZE := Lib.hid hze
  rw [hze] at hv
  have HLZ : Hid ((szs L).length = L.length) := szs_len L
  by_cases h0 : ze = 0
  · rw [if_pos h0] at hv
    subst h0
    have HV : Hid (bestsE (L.drop 0) = E) := hv
    clear hv hze
    go_enter Try.func31, Try.ntmps31
    go_wp2_with fail
    refine (sizesOf_is ao cap L hl w HS.out).mono ?_; rintro e w1 ⟨⟨a, c, rfl, hi⟩, hg1⟩
    have HI := Lib.hid hi; have HG1 := Lib.hid hg1
    clear hi hg1
    rw [← HLZ.out]
    go_wp2_with fail
    refine (checkSizes_any a c (szs L) (by rw [szs_len]; omega) _ HI.out HZE).mono ?_; rintro e w2 ⟨rfl, rfl⟩
    rw [HLZ.out]
    go_wp2_with fail
    go_loopw [15] (fun iv wr => ∃ k : Nat, k ≤ L.length ∧ iv = .int .i64 k ∧ Hid (w.grownBy wr none) ∧ Hid (bestsE (L.drop k) = E)) (fun iv _ => L.length - (intOf iv).toNat)
    case atStart => exact ⟨0, Nat.zero_le _, rfl, HG1.out, HV.out⟩
    case round =>
      obtain ⟨k, hk, rfl, hg, hw⟩ := hrel
      by_cases hlt : k < L.length
      · obtain ⟨g, o, rfl, hc⟩ := bst_at HS.out (by omega)
        obtain ⟨c0, c1, c2, c3⟩ := hc k hlt
        replace c0 := grown_cell hg.out c0; replace c1 := grown_cell hg.out c1; replace c2 := grown_cell hg.out c2; replace c3 := grown_cell hg.out c3
        have hz := sizes_in HZE.out hlt
        obtain ⟨be, hbe⟩ : ∃ e, bestE L[k] = e := ⟨_, rfl⟩
        have HW := hw.out
        rw [bestsE_at hlt, hbe] at HW
        generalize L[k] = x at *
        have HB := Lib.hid hbe; have HZ := Lib.hid hz
        obtain ⟨sz, bs, ba, bf⟩ := x
        simp only at c0 c1 c2 c3
        clear hbe hz hw
        by_cases hb : be = 0
        · rw [if_pos hb] at HW
          subst hb
          have HW2 := Lib.hid HW
          clear HW
          go_wp2_with fail
          refine (checkBest_is ⟨sz, bs, ba, bf⟩ HZ.out _ HB).mono ?_; rintro e w3 ⟨rfl, hg3⟩
          have HG3 : Hid (w.grownBy w3 none) := grown_trans hg.out (grown_trans (grown_al _ _) hg3)
          clear hg3 hg
          go_wp2_with fail
          go_roundw
          case rel => exact ⟨k + 1, by omega, by go_num, HG3.out, HW2.out⟩
          case measure => simp [intOf]; omega
        · rw [if_neg hb] at HW
          have hne : (be != 0) = true := by simpa using hb
          have HW2 := Lib.hid HW
          clear HW hb
          go_wp2_with fail
          refine (checkBest_is ⟨sz, bs, ba, bf⟩ HZ.out _ HB).mono ?_; rintro e w3 ⟨rfl, hg3⟩
          have HG3 : Hid (w.grownBy w3 none) := grown_trans hg.out (grown_trans (grown_al _ _) hg3)
          clear hg3 hg
          go_wp2_with fail
          go_ret
          exact ⟨ret_int HW2.out, HG3.out⟩
      · have HE : Hid (0 = E) := by show _ = _; rw [← hw.out]; exact (bestsE_end (by omega)).symm
        go_wp2_with fail
        go_ret
        exact ⟨ret_int HE.out, hg.out⟩
  · rw [if_neg h0] at hv
    have hne : (ze != 0) = true := by simpa using h0
    have HV := Lib.hid hv
    clear hv hze h0
    go_enter Try.func31, Try.ntmps31
    go_wp2_with fail
    refine (sizesOf_is ao cap L hl w HS.out).mono ?_; rintro e w1 ⟨⟨a, c, rfl, hi⟩, hg1⟩
    have HI := Lib.hid hi; have HG1 := Lib.hid hg1
    clear hi hg1
    rw [← HLZ.out]
    go_wp2_with fail
    refine (checkSizes_any a c (szs L) (by rw [szs_len]; omega) _ HI.out HZE).mono ?_; rintro e w2 ⟨rfl, rfl⟩
    rw [HLZ.out]
    go_wp2_with fail
    go_ret
    exact ⟨ret_int HV.out, HG1.out⟩

set_option maxRecDepth 100000 in
set_option maxHeartbeats 3200000 in
theorem rcheckCurve_is (ao : Option Addr) (cap : Nat) (L : List BestV) (hl : (L.length : Int) ≤ 4398046511104) (w : World) (hs : RowsAt bestCs 4 w ao L) {E : Int} (hE : Hid (crvE L = E)) :
    Calls Try.prog 32 #[.slice ao L.length cap] w fun e w' => e = .returned (.int .i64 E) ∧ w.grownBy w' none := by
  have HS := Lib.hid hs
  have hv := hE.out
  unfold crvE at hv
  clear hs hE
  obtain ⟨ze, hze⟩ : ∃ e, sizesE (szs L) = e := ⟨_, rfl⟩
  have HZE := Lib.hid hze
  rw [hze] at hv
  have HLZ : Hid ((szs L).length = L.length) := szs_len L
  by_cases h0 : ze = 0
  · rw [if_pos h0] at hv
    subst h0
    have HV : Hid (bestsE (L.drop 0) = E) := hv
    clear hv hze
    go_enter Try.func32, Try.ntmps32
    go_wp2_with fail
    refine (rsizesOf_is ao cap L hl w HS.out).mono ?_; rintro e w1 ⟨⟨a, c, rfl, hi⟩, hg1⟩
    have HI := Lib.hid hi; have HG1 := Lib.hid hg1
    clear hi hg1
    rw [← HLZ.out]
    go_wp2_with fail
    refine (rcheckSizes_any a c (szs L) (by rw [szs_len]; omega) _ HI.out HZE).mono ?_; rintro e w2 ⟨rfl, rfl⟩
    rw [HLZ.out]
    go_wp2_with fail
    go_loopw [14] (fun iv wr => ∃ k : Nat, k ≤ L.length ∧ iv = .int .i64 k ∧ Hid (w.grownBy wr none) ∧ Hid (bestsE (L.drop k) = E)) (fun iv _ => L.length - (intOf iv).toNat)
    case atStart => exact ⟨0, Nat.zero_le _, rfl, HG1.out, HV.out⟩
    case round =>
      obtain ⟨k, hk, rfl, hg, hw⟩ := hrel
      by_cases hlt : k < L.length
      · obtain ⟨g, o, rfl, hc⟩ := bst_at HS.out (by omega)
        obtain ⟨c0, c1, c2, c3⟩ := hc k hlt
        replace c0 := grown_cell hg.out c0; replace c1 := grown_cell hg.out c1; replace c2 := grown_cell hg.out c2; replace c3 := grown_cell hg.out c3
        obtain ⟨z1, z2⟩ := sizes_in HZE.out hlt
        obtain ⟨be, hbe⟩ : ∃ e, bestE L[k] = e := ⟨_, rfl⟩
        have HW := hw.out
        rw [bestsE_at hlt, hbe] at HW
        generalize L[k] = x at *
        obtain ⟨sz, bs, ba, bf⟩ := x
        simp only at c0 c1 c2 c3 z1 z2
        unfold bestE at hbe
        simp only at hbe
        clear hw
        have GA := Lib.hid (grown_trans hg.out (grown_al wr (.cells #[.int .i64 sz, .int .i64 bs, .int .i64 ba, .bool bf] 24)))
        cases bf
        · by_cases s0 : bs = 0
          · by_cases a0 : ba = 0
            · subst s0; subst a0
              have HW2 : Hid (bestsE (L.drop (k + 1)) = E) := by
                have e : be = 0 := by rw [← hbe, if_neg (by simp), if_pos ⟨⟨by omega, by omega⟩, by omega, by omega⟩]
                show _ = _; rw [← HW, if_pos e]
              clear HW hg hbe
              go_wp2_with fail
              go_roundw
              case rel => exact ⟨k + 1, by omega, by go_num, GA.out, HW2.out⟩
              case measure => simp [intOf]; omega
            · have HE : Hid (2 = E) := by
                have e : be = 2 := by rw [← hbe, if_pos ⟨rfl, .inr a0⟩]
                show _ = _; rw [← HW, e]; rfl
              have hn : (ba != 0) = true := by simpa using a0
              subst s0
              clear HW hg a0 hbe
              go_wp2_with fail
              go_ret
              exact ⟨ret_int HE.out, GA.out⟩
          · have HE : Hid (2 = E) := by
                have e : be = 2 := by rw [← hbe, if_pos ⟨rfl, .inl s0⟩]
                show _ = _; rw [← HW, e]; rfl
            have hn : (bs != 0) = true := by simpa using s0
            clear HW hg s0 hbe
            go_wp2_with fail
            go_ret
            exact ⟨ret_int HE.out, GA.out⟩
        · rw [if_neg (by simp)] at hbe
          by_cases q1 : bs < 0
          · have HE : Hid (9 = E) := by
              have e : be = 9 := by rw [← hbe, if_neg (by omega)]
              show _ = _; rw [← HW, e]; rfl
            clear HW hg hbe
            go_wp2_with fail
            go_ret
            exact ⟨ret_int HE.out, GA.out⟩
          by_cases q2 : sz * 1000000000 < bs
          · have HE : Hid (9 = E) := by
              have e : be = 9 := by rw [← hbe, if_neg (by omega)]
              show _ = _; rw [← HW, e]; rfl
            clear HW hg hbe
            go_wp2_with fail
            go_ret
            exact ⟨ret_int HE.out, GA.out⟩
          by_cases q3 : ba < 0
          · have HE : Hid (9 = E) := by
              have e : be = 9 := by rw [← hbe, if_neg (by omega)]
              show _ = _; rw [← HW, e]; rfl
            clear HW hg hbe
            go_wp2_with fail
            go_ret
            exact ⟨ret_int HE.out, GA.out⟩
          by_cases q4 : 1000000 - sz < ba
          · have HE : Hid (9 = E) := by
              have e : be = 9 := by rw [← hbe, if_neg (by omega)]
              show _ = _; rw [← HW, e]; rfl
            clear HW hg hbe
            go_wp2_with fail
            go_ret
            exact ⟨ret_int HE.out, GA.out⟩
          have HW2 : Hid (bestsE (L.drop (k + 1)) = E) := by
            have e : be = 0 := by rw [← hbe, if_pos ⟨⟨by omega, by omega⟩, by omega, by omega⟩]
            show _ = _; rw [← HW, if_pos e]
          clear HW hg hbe
          go_wp2_with fail
          go_roundw
          case rel => exact ⟨k + 1, by omega, by go_num, GA.out, HW2.out⟩
          case measure => simp [intOf]; omega
      · have HE : Hid (0 = E) := by show _ = _; rw [← hw.out]; exact (bestsE_end (by omega)).symm
        go_wp2_with fail
        go_ret
        exact ⟨ret_int HE.out, hg.out⟩
  · rw [if_neg h0] at hv
    have hne : (ze != 0) = true := by simpa using h0
    have HV := Lib.hid hv
    clear hv hze h0
    go_enter Try.func32, Try.ntmps32
    go_wp2_with fail
    refine (rsizesOf_is ao cap L hl w HS.out).mono ?_; rintro e w1 ⟨⟨a, c, rfl, hi⟩, hg1⟩
    have HI := Lib.hid hi; have HG1 := Lib.hid hg1
    clear hi hg1
    rw [← HLZ.out]
    go_wp2_with fail
    refine (rcheckSizes_any a c (szs L) (by rw [szs_len]; omega) _ HI.out HZE).mono ?_; rintro e w2 ⟨rfl, rfl⟩
    rw [HLZ.out]
    go_wp2_with fail
    go_ret
    exact ⟨ret_int HV.out, HG1.out⟩

/-- Two curves are checked, one after the other. -/
theorem checkBoth_is (ao bo : Option Addr) (ca cb : Nat) (a b : List BestV) (ha : (a.length : Int) ≤ 4398046511104) (hb : (b.length : Int) ≤ 4398046511104) (w : World) (hs : RowsAt bestCs 4 w ao a) (ht : RowsAt bestCs 4 w bo b) {E : Int} (hE : Hid (twoE a b = E)) :
    Calls Try.prog 60 #[.slice ao a.length ca, .slice bo b.length cb] w fun e w' => e = .returned (.int .i64 E) ∧ w.grownBy w' none := by
  have HS := Lib.hid hs; have HT := Lib.hid ht
  have hv := hE.out
  unfold twoE at hv
  obtain ⟨x, hx⟩ : ∃ x, crvE a = x := ⟨_, rfl⟩
  obtain ⟨y, hy⟩ : ∃ y, crvE b = y := ⟨_, rfl⟩
  rw [hx, hy] at hv
  have HX := Lib.hid hx; have HY := Lib.hid hy
  clear hs ht hE hx hy
  by_cases h0 : x = 0
  · rw [if_pos h0] at hv
    subst h0; subst hv
    go_enter Try.func60, Try.ntmps60
    go_wp2_with fail
    refine (checkCurve_is ao ca a ha w HS.out HX).mono ?_; rintro e w1 ⟨rfl, hg1⟩
    have HG1 := Lib.hid hg1
    clear hg1
    go_wp2_with fail
    refine (checkCurve_is bo cb b hb w1 (HT.out.grown HG1.out) HY).mono ?_; rintro e w2 ⟨rfl, hg2⟩
    have HG2 := Lib.hid hg2
    clear hg2
    go_wp2_with fail
    go_ret
    exact ⟨rfl, grown_trans HG1.out HG2.out⟩
  · rw [if_neg h0] at hv
    subst hv
    have hne : (x != 0) = true := by simpa using h0
    clear h0
    go_enter Try.func60, Try.ntmps60
    go_wp2_with fail
    refine (checkCurve_is ao ca a ha w HS.out HX).mono ?_; rintro e w1 ⟨rfl, hg1⟩
    have HG1 := Lib.hid hg1
    clear hg1
    go_wp2_with fail
    go_ret
    exact ⟨rfl, HG1.out⟩

theorem two_is (ao bo : Option Addr) (ca cb : Nat) (a b : List BestV) (ha : (a.length : Int) ≤ 4398046511104) (hb : (b.length : Int) ≤ 4398046511104) (w : World) (hs : RowsAt bestCs 4 w ao a) (ht : RowsAt bestCs 4 w bo b) {E : Int} (hE : Hid (twoE a b = E)) :
    Calls Try.prog 65 #[.slice ao a.length ca, .slice bo b.length cb] w fun e w' => e = .returned (.int .i64 E) ∧ w.grownBy w' none := by
  have HS := Lib.hid hs; have HT := Lib.hid ht
  have hv := hE.out
  unfold twoE at hv
  obtain ⟨x, hx⟩ : ∃ x, crvE a = x := ⟨_, rfl⟩
  obtain ⟨y, hy⟩ : ∃ y, crvE b = y := ⟨_, rfl⟩
  rw [hx, hy] at hv
  have HX := Lib.hid hx; have HY := Lib.hid hy
  clear hs ht hE hx hy
  by_cases h0 : x = 0
  · rw [if_pos h0] at hv
    subst h0; subst hv
    go_enter Try.func65, Try.ntmps65
    go_wp2_with fail
    refine (rcheckCurve_is ao ca a ha w HS.out HX).mono ?_; rintro e w1 ⟨rfl, hg1⟩
    have HG1 := Lib.hid hg1
    clear hg1
    go_wp2_with fail
    refine (rcheckCurve_is bo cb b hb w1 (HT.out.grown HG1.out) HY).mono ?_; rintro e w2 ⟨rfl, hg2⟩
    have HG2 := Lib.hid hg2
    clear hg2
    go_wp2_with fail
    go_ret
    exact ⟨rfl, grown_trans HG1.out HG2.out⟩
  · rw [if_neg h0] at hv
    subst hv
    have hne : (x != 0) = true := by simpa using h0
    clear h0
    go_enter Try.func65, Try.ntmps65
    go_wp2_with fail
    refine (rcheckCurve_is ao ca a ha w HS.out HX).mono ?_; rintro e w1 ⟨rfl, hg1⟩
    have HG1 := Lib.hid hg1
    clear hg1
    go_wp2_with fail
    go_ret
    exact ⟨rfl, HG1.out⟩
end Go.Proofs.Ytfeefijaahjheaa
