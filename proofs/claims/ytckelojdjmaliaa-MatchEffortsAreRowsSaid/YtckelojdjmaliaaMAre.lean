/- The law's closure, ContainsFunc over crossings, IsSorted over numbers. -/
import Derived.Test.YtckelojdjmaliaaMAreP
import Derived.Test.YtckelojdjmaliaaMLawEff
namespace Go.Proofs.Ytckelojdjmaliaa
open Go.RowKit
set_option linter.unusedSimpArgs false
set_option linter.unusedVariables false

attribute [local go_sem] Oper.semAt_some

set_option maxHeartbeats 1600000 in
theorem are1_is (c : Crs) (bi bt : Nat) (i t : Int) (w : World) (hi : w.cell? ⟨bi, 0, none⟩ = some (.int .i64 i)) (ht : w.cell? ⟨bt, 0, none⟩ = some (.int .i64 t)) {r : Bool} (hr : Hid ((decide (c.gate = i) && decide (c.at_ = t)) = r)) :
    Calls Try.prog 26 #[.agg #[.int .i64 c.gate, .int .i64 c.step, .int .i64 c.at_], .pointer (some ⟨bi, 0, none⟩), .pointer (some ⟨bt, 0, none⟩)] w fun e w' => e = .returned (.bool r) ∧ w.grownBy w' none := by
  obtain ⟨g, s, a⟩ := c
  have hr2 := hr.out
  simp only at hr2
  have b3 := mheap_new w (.cells #[.int .i64 g, .int .i64 s, .int .i64 a] 42)
  have gA := World.grownBy_alloc w (.cells #[.int .i64 g, .int .i64 s, .int .i64 a] 42) none
  have h1 := grown_cell gA hi; have h2 := grown_cell gA ht
  go_enter Try.func26, Try.ntmps26
  go_upto_region 1 with (fail)
  generalize w.alloc (.cells #[.int .i64 g, .int .i64 s, .int .i64 a] 42) = w1 at *
  generalize w.heap.size = B3 at *
  have z0 := mblock_cell b3 0 _ rfl; have z1 := mblock_cell b3 1 _ rfl; have z2 := mblock_cell b3 2 _ rfl
  have GA := Lib.hid gA
  clear b3 gA hi ht hr
  by_cases e1 : g = i
  · have e2 : (g == i) = true := by simpa using e1
    by_cases e3 : a = t
    · have e4 : (a == t) = true := by simpa using e3
      obtain rfl : true = r := by rw [← hr2]; simp [e1, e3]
      clear hr2 e1 e3
      go_wp2_with fail
      go_ret
      exact ⟨rfl, GA.out⟩
    · have e4 : (a == t) = false := by simpa using e3
      obtain rfl : false = r := by rw [← hr2]; simp [e1, e3]
      clear hr2 e1 e3
      go_wp2_with fail
      go_ret
      exact ⟨rfl, GA.out⟩
  · have e2 : (g == i) = false := by simpa using e1
    obtain rfl : false = r := by rw [← hr2]; simp [e1]
    clear hr2 e1
    go_wp2_with fail
    go_ret
    exact ⟨rfl, GA.out⟩

set_option maxRecDepth 100000 in
set_option maxHeartbeats 1600000 in
theorem index_is (ao : Option Addr) (cap : Nat) (C : List Crs) (bi bt : Nat) (i t : Int) (w : World) (h : RowsAt crsCs 3 w ao C) (hl : C.length ≤ 1000000) (hi : w.cell? ⟨bi, 0, none⟩ = some (.int .i64 i)) (ht : w.cell? ⟨bt, 0, none⟩ = some (.int .i64 t)) (hex : ∃ c ∈ C, c.gate = i ∧ c.at_ = t) :
    Calls Try.prog 60 #[.slice ao C.length cap, .func (.func 26) #[] #[.pointer (some ⟨bi, 0, none⟩), .pointer (some ⟨bt, 0, none⟩)]] w fun e w' => (∃ n : Nat, e = .returned (.int .i64 (n : Int)) ∧ n ≤ 1000000) ∧ w.grownBy w' none := by
  have HR := Lib.hid h; have HX := Lib.hid hex
  have HI := Lib.hid hi; have HT := Lib.hid ht
  clear h hex hi ht
  go_enter Try.func60, Try.ntmps60
  go_wp2_with fail
  go_loopw [8] (fun iv wr => ∃ k : Nat, k ≤ C.length ∧ iv = .int .i64 k ∧ Hid (w.grownBy wr none) ∧ Hid (∀ m, m < k → ¬ ((crD C m).gate = i ∧ (crD C m).at_ = t))) (fun iv _ => C.length - (intOf iv).toNat)
  case atStart => exact ⟨0, Nat.zero_le _, rfl, grown_refl _ _, (by show ∀ m, _ → _; intro m hm; omega)⟩
  case round =>
    obtain ⟨k, hk, rfl, hg, hno⟩ := hrel
    obtain ⟨wo, hwo⟩ : ∃ W : World, W = wr := ⟨_, rfl⟩
    subst hwo
    by_cases hlt : k < C.length
    · obtain ⟨b1, o1, rfl, q1⟩ := rows_at (HR.out.grown hg.out) (by omega)
      have x0 := q1 k hlt 0 _ rfl; have x1 := q1 k hlt 1 _ rfl; have x2 := q1 k hlt 2 _ rfl
      rw [← crD_at hlt] at x0 x1 x2
      simp only [Nat.add_zero] at x0
      have HG := Lib.hid hg.out; have HNO := Lib.hid hno.out
      obtain ⟨r, hr⟩ : ∃ r, (decide ((crD C k).gate = i) && decide ((crD C k).at_ = t)) = r := ⟨_, rfl⟩
      have HRR := Lib.hid hr
      have HRI : Hid (r = true ↔ ((crD C k).gate = i ∧ (crD C k).at_ = t)) := by show _ ↔ _; rw [← hr]; simp
      have kl : (k : Int) < (C.length : Int) := by omega
      have k6 : k ≤ 1000000 := by omega
      clear q1 hg hno hr
      generalize hc : crD C k = c at *
      have HC := Lib.hid hc
      clear hc
      obtain ⟨g, s, a⟩ := c
      simp only at x0 x1 x2
      go_wp2_with fail
      refine (are1_is ⟨g, s, a⟩ bi bt i t _ (grown_cell HG.out HI.out) (grown_cell HG.out HT.out) HRR).mono ?_; rintro e w2 ⟨rfl, hg2⟩
      have G2 := Lib.hid (grown_trans HG.out hg2)
      clear hg2 HG x0 x1 x2
      cases r with
      | true =>
        go_wp2_with fail
        go_ret
        exact ⟨⟨k, rfl, k6⟩, G2.out⟩
      | false =>
        have HN2 : Hid (∀ m, m < k + 1 → ¬ ((crD C m).gate = i ∧ (crD C m).at_ = t)) := by
          show ∀ m, _ → _
          intro m hm hc
          rcases Nat.lt_or_ge m k with d | d
          · exact HNO.out m d hc
          · rw [show m = k by omega, HC.out] at hc
            have := HRI.out.2 hc
            cases this
        clear HRI HRR HNO
        go_wp2_with fail
        go_roundw
        case rel => exact ⟨k + 1, hlt, by go_num, G2.out, HN2.out⟩
        case measure => simp [intOf]; omega
    · exfalso
      obtain ⟨c, hc, h1, h2⟩ := HX.out
      obtain ⟨m, hm, e⟩ := List.mem_iff_getElem.1 hc
      exact hno.out m (by omega) (by rw [crD_at hm, e]; exact ⟨h1, h2⟩)

theorem contains_is (ao : Option Addr) (cap : Nat) (C : List Crs) (bi bt : Nat) (i t : Int) (w : World) (h : RowsAt crsCs 3 w ao C) (hl : C.length ≤ 1000000) (hi : w.cell? ⟨bi, 0, none⟩ = some (.int .i64 i)) (ht : w.cell? ⟨bt, 0, none⟩ = some (.int .i64 t)) (hex : ∃ c ∈ C, c.gate = i ∧ c.at_ = t) :
    Calls Try.prog 25 #[.slice ao C.length cap, .func (.func 26) #[] #[.pointer (some ⟨bi, 0, none⟩), .pointer (some ⟨bt, 0, none⟩)]] w fun e w' => e = .returned (.bool true) ∧ w.grownBy w' none := by
  have HR := Lib.hid h; have HX := Lib.hid hex
  have HI := Lib.hid hi; have HT := Lib.hid ht
  clear h hex hi ht
  go_enter Try.func25, Try.ntmps25
  go_wp2_with fail
  refine (index_is ao cap C bi bt i t _ HR.out hl HI.out HT.out HX.out).mono ?_; rintro e w2 ⟨⟨n, rfl, hn⟩, hg2⟩
  have G2 := Lib.hid hg2
  have n0 : (0 : Int) ≤ (n : Int) := by omega
  have n1 : decide ((0 : Int) ≤ (n : Int)) = true := decide_eq_true n0
  clear hg2
  go_wp2_with fail
  go_ret
  exact ⟨by first | rfl | exact ret_bool (by simpa using n0), G2.out⟩

theorem lessI_is (a b : Int) (w : World) (hab : ¬ a < b) : Calls Try.prog 59 #[.int .i64 a, .int .i64 b] w fun e w' => e = .returned (.bool false) ∧ w.grownBy w' none := by
  have h2 : decide (a < b) = false := decide_eq_false hab
  go_enter Try.func59, Try.ntmps59
  go_wp2_with fail
  refine (isNaNi_any _ _).mono ?_; rintro e w1 ⟨rfl, rfl⟩
  go_wp2_with fail
  go_ret
  exact ⟨by first | rfl | exact ret_bool (by simpa using hab), grown_refl _ _⟩

set_option maxRecDepth 100000 in
set_option maxHeartbeats 3200000 in
theorem sorted_is (xb xc : Nat) (l : List Int) (w : World) (h : RowsAt ic 1 w (some ⟨xb, 0, none⟩) l) (h0 : 0 < l.length) (h1 : l.length ≤ 50) (hs : ∀ i j, i ≤ j → j < l.length → l.getD i 0 ≤ l.getD j 0) :
    Calls Try.prog 24 #[.slice (some ⟨xb, 0, none⟩) l.length xc] w fun e w' => e = .returned (.bool true) ∧ w.grownBy w' none := by
  have HS := Lib.hid hs
  have cellE : ∀ i, i < l.length → w.cell? ⟨xb, i, none⟩ = some (.int .i64 (l.getD i 0)) := fun i hi => by
    have q := h.cells _ rfl i hi 0 _ rfl
    rw [List.getD_eq_getElem?_getD, List.getElem?_eq_getElem hi]
    simpa using q
  have CE := Lib.hid cellE
  obtain ⟨n, hn⟩ : ∃ n, l.length = n := ⟨_, rfl⟩
  have HN := Lib.hid hn
  rw [hn] at h0 h1 ⊢
  obtain ⟨m, hm⟩ : ∃ m, n = m + 1 := ⟨n - 1, by omega⟩
  have e1 : (n : Int) - 1 = (m : Int) := by omega
  have e2 : IntKind.i64.wrap (m : Int) = (m : Int) := IntWalk.i64_in _ (by omega)
  have HM := Lib.hid hm
  have m50 : m ≤ 49 := by omega
  clear h hs cellE hn hm h0
  go_enter Try.func24, Try.ntmps24
  go_wp2_with fail
  clear e1 e2
  go_loopw [3] (fun iv wr => ∃ k : Nat, k ≤ m ∧ iv = .int .i64 k ∧ Hid (w.grownBy wr none)) (fun iv _ => (intOf iv).toNat)
  case atStart => exact ⟨m, Nat.le_refl _, by first | rfl | (congr 1), grown_refl _ _⟩
  case round =>
    obtain ⟨k, hk, rfl, hg⟩ := hrel
    obtain ⟨wo, hwo⟩ : ∃ W : World, W = wr := ⟨_, rfl⟩
    subst hwo
    by_cases hlt : 0 < k
    · obtain ⟨p, hp⟩ : ∃ p, k = p + 1 := ⟨k - 1, by omega⟩
      have x0 := grown_cell hg.out (CE.out k (by rw [HN.out, HM.out]; omega)); have y0 := grown_cell hg.out (CE.out p (by rw [HN.out, HM.out]; omega))
      have hle := HS.out p k (by omega) (by rw [HN.out, HM.out]; omega)
      have HLE : Hid (¬ l.getD k 0 < l.getD p 0) := by show ¬ _; omega
      have i1 : (k : Int) - 1 = (p : Int) := by omega
      have i2 : (0 : Int) < (k : Int) := by omega
      have i3 : decide ((k : Int) > 0) = true := decide_eq_true i2
      have i4 : (k : Int) < (n : Int) := by have := HM.out; omega
      have i5 : (p : Int) < (n : Int) := by have := HM.out; omega
      have i6 : (0 : Int) ≤ (p : Int) := by omega
      have i7 : IntKind.i64.wrap (p : Int) = (p : Int) := IntWalk.i64_in _ (by omega)
      have HG := Lib.hid hg.out; have HP := Lib.hid hp
      generalize l.getD k 0 = a at *
      generalize l.getD p 0 = b at *
      clear hg hp hle
      go_upto_region 4 with (fail)
      have gd : wo.grownBy wo.drew none := grown_drewN wo none 1
      refine region_late (lateK (fun V => wo.grownBy V none) []) (by kernel_rfl) gd (fun hCs0 hSs0 => ?_)
      generalize wo.drew = wd at *
      refine wpAnyS_take (i := 0) (oi := ?ois1) (v := .slice (some ⟨xb, 0, none⟩) n xc) ?his1 (by kernel_rfl) (by kernel_rfl) (by kernel_rfl) (lateK_iff (by rfl)) ?hqs1 ?hys1 hCs0 hSs0 ?rests1
      case his1 => simp only [List.getElem?_toArray, List.getElem?_cons_succ, List.getElem?_cons_zero, Option.some.injEq]; rfl
      case hqs1 => exact fun _ _ _ h => h
      case hys1 =>
        refine Or.inl ⟨by kernel_rfl, fun V hV => ?_⟩
        clear hV
        go_simp
      intro hCs1 hSs1
      clear hCs0 hSs0
      try simp only [Go.Act.put, List.setIfInBounds_toArray, List.set_cons_zero, List.set_cons_succ]
      refine wpAnyS_take (i := 1) (oi := ?ois2) (v := .int .i64 (k : Int)) ?his2 (by kernel_rfl) (by kernel_rfl) (by kernel_rfl) (lateK_iff (by rfl)) ?hqs2 ?hys2 hCs1 hSs1 ?rests2
      case his2 => simp only [List.getElem?_toArray, List.getElem?_cons_succ, List.getElem?_cons_zero, Option.some.injEq]; rfl
      case hqs2 => exact fun _ _ _ h => h
      case hys2 =>
        refine Or.inl ⟨by kernel_rfl, fun V hV => ?_⟩
        clear hV
        go_simp
      intro hCs2 hSs2
      clear hCs1 hSs1
      try simp only [Go.Act.put, List.setIfInBounds_toArray, List.set_cons_zero, List.set_cons_succ]
      refine wpAnyS_take (i := 2) (oi := ?ois3) (v := .pointer (some ⟨xb, k, none⟩)) ?his3 (by kernel_rfl) (by kernel_rfl) (by kernel_rfl) (lateK_iff (by rfl)) ?hqs3 ?hys3 hCs2 hSs2 ?rests3
      case his3 => simp only [List.getElem?_toArray, List.getElem?_cons_succ, List.getElem?_cons_zero, Option.some.injEq]; rfl
      case hqs3 => exact fun _ _ _ h => h
      case hys3 =>
        refine Or.inl ⟨by kernel_rfl, fun V hV => ?_⟩
        clear hV
        go_simp
      intro hCs3 hSs3
      clear hCs2 hSs2
      try simp only [Go.Act.put, List.setIfInBounds_toArray, List.set_cons_zero, List.set_cons_succ]
      refine wpAnyS_take (i := 3) (oi := ?ois4) (v := .int .i64 a) ?his4 (by kernel_rfl) (by kernel_rfl) (by kernel_rfl) (lateK_iff (by rfl)) ?hqs4 ?hys4 hCs3 hSs3 ?rests4
      case his4 => simp only [List.getElem?_toArray, List.getElem?_cons_succ, List.getElem?_cons_zero, Option.some.injEq]; rfl
      case hqs4 => exact fun _ _ _ h => h
      case hys4 =>
        refine Or.inl ⟨by kernel_rfl, fun V hV => ?_⟩
        have gV := lateK_g hV; have zz0 := grown_cell gV x0; clear gV; clear hV
        go_simp
      intro hCs4 hSs4
      clear hCs3 hSs3
      try simp only [Go.Act.put, List.setIfInBounds_toArray, List.set_cons_zero, List.set_cons_succ]
      refine wpAnyS_take (i := 4) (oi := ?ois5) (v := .slice (some ⟨xb, 0, none⟩) n xc) ?his5 (by kernel_rfl) (by kernel_rfl) (by kernel_rfl) (lateK_iff (by rfl)) ?hqs5 ?hys5 hCs4 hSs4 ?rests5
      case his5 => simp only [List.getElem?_toArray, List.getElem?_cons_succ, List.getElem?_cons_zero, Option.some.injEq]; rfl
      case hqs5 => exact fun _ _ _ h => h
      case hys5 =>
        refine Or.inl ⟨by kernel_rfl, fun V hV => ?_⟩
        clear hV
        go_simp
      intro hCs5 hSs5
      clear hCs4 hSs4
      try simp only [Go.Act.put, List.setIfInBounds_toArray, List.set_cons_zero, List.set_cons_succ]
      refine wpAnyS_take (i := 5) (oi := ?ois6) (v := .int .i64 (k : Int)) ?his6 (by kernel_rfl) (by kernel_rfl) (by kernel_rfl) (lateK_iff (by rfl)) ?hqs6 ?hys6 hCs5 hSs5 ?rests6
      case his6 => simp only [List.getElem?_toArray, List.getElem?_cons_succ, List.getElem?_cons_zero, Option.some.injEq]; rfl
      case hqs6 => exact fun _ _ _ h => h
      case hys6 =>
        refine Or.inl ⟨by kernel_rfl, fun V hV => ?_⟩
        clear hV
        go_simp
      intro hCs6 hSs6
      clear hCs5 hSs5
      try simp only [Go.Act.put, List.setIfInBounds_toArray, List.set_cons_zero, List.set_cons_succ]
      refine wpAnyS_take (i := 6) (oi := ?ois7) (v := .int .i64 (p : Int)) ?his7 (by kernel_rfl) (by kernel_rfl) (by kernel_rfl) (lateK_iff (by rfl)) ?hqs7 ?hys7 hCs6 hSs6 ?rests7
      case his7 => simp only [List.getElem?_toArray, List.getElem?_cons_succ, List.getElem?_cons_zero, Option.some.injEq]; rfl
      case hqs7 => exact fun _ _ _ h => h
      case hys7 =>
        refine Or.inl ⟨by kernel_rfl, fun V hV => ?_⟩
        clear hV
        go_simp
      intro hCs7 hSs7
      clear hCs6 hSs6
      try simp only [Go.Act.put, List.setIfInBounds_toArray, List.set_cons_zero, List.set_cons_succ]
      refine wpAnyS_take (i := 7) (oi := ?ois8) (v := .pointer (some ⟨xb, p, none⟩)) ?his8 (by kernel_rfl) (by kernel_rfl) (by kernel_rfl) (lateK_iff (by rfl)) ?hqs8 ?hys8 hCs7 hSs7 ?rests8
      case his8 => simp only [List.getElem?_toArray, List.getElem?_cons_succ, List.getElem?_cons_zero, Option.some.injEq]; rfl
      case hqs8 => exact fun _ _ _ h => h
      case hys8 =>
        refine Or.inl ⟨by kernel_rfl, fun V hV => ?_⟩
        clear hV
        go_simp
      intro hCs8 hSs8
      clear hCs7 hSs7
      try simp only [Go.Act.put, List.setIfInBounds_toArray, List.set_cons_zero, List.set_cons_succ]
      refine wpAnyS_take (i := 8) (oi := ?ois9) (v := .int .i64 b) ?his9 (by kernel_rfl) (by kernel_rfl) (by kernel_rfl) (lateK_iff (by rfl)) ?hqs9 ?hys9 hCs8 hSs8 ?rests9
      case his9 => simp only [List.getElem?_toArray, List.getElem?_cons_succ, List.getElem?_cons_zero, Option.some.injEq]; rfl
      case hqs9 => exact fun _ _ _ h => h
      case hys9 =>
        refine Or.inl ⟨by kernel_rfl, fun V hV => ?_⟩
        have gV := lateK_g hV; have zz0 := grown_cell gV y0; clear gV; clear hV
        go_simp
      intro hCs9 hSs9
      clear hCs8 hSs8
      try simp only [Go.Act.put, List.setIfInBounds_toArray, List.set_cons_zero, List.set_cons_succ]
      refine wpAnyS_ready (rs := [9]) (by kernel_rfl) (by simp) ?_
      refine AllReadyS.cons rfl hCs9 (fun K hK => ?_) AllReadyS.nil
      go_simp
      refine (lessI_is a b _ HLE.out).mono ?_; rintro e w7 ⟨rfl, hg7⟩
      refine hK.out _ _ (grown_trans gd hg7) (fun hCs10 hSs10 => ?_)
      clear hK hCs9 hSs9 K
      try simp only [Go.Act.put, List.setIfInBounds_toArray, List.set_cons_zero, List.set_cons_succ]
      refine wpAnyS_done (by kernel_rfl) ?_ _
      clear hCs10 hSs10
      have G2 := Lib.hid (grown_trans HG.out (grown_trans gd hg7))
      clear gd hg7 HG x0 y0
      go_wp2_with fail
      go_roundw
      case rel => exact ⟨p, by have := HP.out; omega, by first | rfl | (congr 1), G2.out⟩
      case measure => have := HP.out; simp [intOf]; omega
    · have hk0 : k = 0 := by omega
      subst hk0
      have G2 := Lib.hid hg.out
      clear hg
      go_wp2_with fail
      go_ret
      exact ⟨rfl, G2.out⟩
end Go.Proofs.Ytckelojdjmaliaa
