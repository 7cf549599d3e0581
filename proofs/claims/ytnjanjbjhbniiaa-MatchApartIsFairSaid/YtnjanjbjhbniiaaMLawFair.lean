/- The law that Apart is fair, walked. -/
import Derived.Test.YtnjanjbjhbniiaaMTold
import Derived.Test.YtnjanjbjhbniiaaMApartL
import Derived.Test.YtnjanjbjhbniiaaMRev
import Derived.Test.YtnjanjbjhbniiaaMSegIn
namespace Go.Proofs.Ytnjanjbjhbniiaa
open Go.RowKit
set_option linter.unusedSimpArgs false
set_option linter.unusedVariables false

attribute [local go_sem] Oper.semAt_some

theorem route_self {a b : List Pt} (h : routeE a b = 0) : (0 < a.length ∧ a.length ≤ 300) ∧ (0 < b.length ∧ b.length ≤ 300) ∧ onL a = true ∧ onL b = true := by
  unfold routeE at h
  split at h
  · omega
  · split at h
    · omega
    · split at h
      · rename_i h1 h2 h3; exact ⟨by omega, by omega, h3⟩
      · omega
theorem own_some {w : World} {base n : Nat} {v : Value} {l : List Pt} (h : w.ownsRow base 64 2 v n (l.flatMap ptCs)) (hn : 0 < n) : ∃ g cap, v = .slice (some ⟨g, 0, none⟩) n cap ∧ base ≤ g ∧ g < w.heap.size := by
  have hlt := h.lt
  rcases h.2 with ⟨_, h0⟩ | ⟨g, cap, cur, hv, _⟩
  · omega
  · exact ⟨g, cap, hv, hlt g (by rw [hv]; rfl)⟩

set_option maxRecDepth 100000 in
set_option maxHeartbeats 6400000 in
theorem fair_law (ao : Option Addr) (ac : Nat) (a : List Pt) (la : (a.length : Int) ≤ 9223372036854775807) (bo : Option Addr) (bc : Nat) (b : List Pt) (lb : (b.length : Int) ≤ 9223372036854775807) (w : World) (ha : PtsAt w ao a) (hac : a.length ≤ ac) (hb : PtsAt w bo b) (hbc : b.length ≤ bc) :
    Calls Try.prog 8 #[.slice ao a.length ac, .slice bo b.length bc] w fun e w' => e = .returned (.bool true) ∧ w.grownBy w' none := by
  have HA := Lib.hid ha; have HB := Lib.hid hb; have LA := Lib.hid la; have LB := Lib.hid lb
  obtain ⟨E, hE⟩ : ∃ e, routeE a b = e := ⟨_, rfl⟩
  obtain ⟨V, hV⟩ : ∃ e, apV a b = e := ⟨_, rfl⟩
  have HE := Lib.hid hE; have HV := Lib.hid hV
  have HE2 : Hid (routeE b a = E) := (routeE_turn a b).trans hE
  have HV2 : Hid (apV b a = V) := (apV_turn a b).trans hV
  clear ha hb la lb hac hbc hE hV
  go_enter Try.func8, Try.ntmps8
  go_wp2_with fail
  refine (told5_any _).mono ?_; rintro e w1 ⟨rfl, hg1⟩
  have G1 := Lib.hid hg1
  clear hg1
  go_wp2_with fail
  refine (Apart_is ao bo ac bc a b _ (HA.out.grown G1.out) (HB.out.grown G1.out) LA.out LB.out HE HV).mono ?_; rintro e w2 ⟨rfl, hg2⟩
  have G2 := Lib.hid (grown_trans G1.out hg2)
  clear hg2 G1
  go_wp2_with fail
  refine (Apart_is bo ao bc ac b a _ (HB.out.grown G2.out) (HA.out.grown G2.out) LB.out LA.out HE2 HV2).mono ?_; rintro e w3 ⟨rfl, hg3⟩
  have G3 := Lib.hid (grown_trans G2.out hg3)
  clear hg3 G2
  by_cases e0 : E = 0
  · subst e0
    obtain ⟨⟨n0, n1⟩, ⟨m0, m1⟩, oa, ob⟩ := route_self HE.out
    have OA : Hid (∀ p ∈ a, onP p) := onL_iff.1 oa
    have OB : Hid (∀ p ∈ b, onP p) := onL_iff.1 ob
    have HE3 : Hid (routeE a a = 0) := by
      show _ = _
      unfold routeE
      rw [if_neg (by omega), if_neg (by omega), if_pos ⟨oa, oa⟩]
    have HV3 : Hid (apV a a = 0) := apV_self
    have HE4 : Hid (routeE a.reverse b.reverse = 0) := (routeE_rev a b).trans HE.out
    have HV4 : Hid (apV a.reverse b.reverse = V) := (apV_rev a b).trans HV.out
    have ends := apV_ends HE.out
    rw [HV.out] at ends
    have N0 := Lib.hid n0; have N1 := Lib.hid n1; have M0 := Lib.hid m0; have M1 := Lib.hid m1
    clear oa ob n0 n1 m0 m1
    go_wp2_with fail
    refine (Apart_is ao ao ac ac a a _ (HA.out.grown G3.out) (HA.out.grown G3.out) LA.out LA.out HE3 HV3).mono ?_; rintro e w4 ⟨rfl, hg4⟩
    have G4 := Lib.hid (grown_trans G3.out hg4)
    clear hg4 G3
    go_wp2_with fail
    refine (clone_pts ao ac a (by have := N1.out; omega) _ (HA.out.grown G4.out)).mono ?_; rintro e w5 ⟨⟨v5, rfl, ho5⟩, hg5⟩
    obtain ⟨ga, ca, rfl, hga, hga2⟩ := own_some ho5 N0.out
    have G5 := Lib.hid (grown_trans G4.out hg5)
    have GA := Lib.hid (Nat.le_trans G4.out.size hga)
    have O5 := Lib.hid ho5; have GA2 := Lib.hid hga2
    clear hg5 G4 hga hga2 ho5
    go_wp2_with fail
    refine (clone_pts bo bc b (by have := M1.out; omega) _ (HB.out.grown G5.out)).mono ?_; rintro e w6 ⟨⟨v6, rfl, ho6⟩, hg6⟩
    obtain ⟨gb, cb, rfl, hgb, hgb2⟩ := own_some ho6 M0.out
    have G6 := Lib.hid (grown_trans G5.out hg6)
    have GB : Hid (w.heap.size ≤ gb ∧ ga < gb) := by have := G5.out.size; have := GA2.out; show _ ∧ _; omega
    have O6 := Lib.hid ho6
    have O5b := Lib.hid (O5.out.kept hg6 (Classical.em _))
    clear hg6 G5 hgb hgb2 ho6 GA2 O5
    go_wp2_with fail
    refine (reverse_pts _ ga ca a (by have := N1.out; omega) _ O5b.out).mono ?_; rintro e w7 ⟨rfl, ho7, hg7⟩
    have G7 := Lib.hid (mgrown_row G6.out hg7 (fun r e => by injection e with e; have := GA.out; omega))
    have O6b := Lib.hid (O6.out.kept hg7 (.inr (fun e => by simp [Value.ownBlock] at e; have := GB.out; omega)))
    have O7 := Lib.hid ho7
    clear hg7 G6 ho7 O6 O5b
    go_wp2_with fail
    refine (reverse_pts _ gb cb b (by have := M1.out; omega) _ O6b.out).mono ?_; rintro e w8 ⟨rfl, ho8, hg8⟩
    have G8 := Lib.hid (mgrown_row G7.out hg8 (fun r e => by injection e with e; have := GB.out; omega))
    have O7b := Lib.hid (O7.out.kept hg8 (.inr (fun e => by simp [Value.ownBlock] at e; have := GB.out; omega)))
    have O8 := Lib.hid ho8
    clear hg8 G7 ho8 O6b O7
    have PA : Hid (PtsAt w8 (some ⟨ga, 0, none⟩) a.reverse) := by
      have q := O7b.out
      rw [show a.length = a.reverse.length from List.length_reverse.symm] at q
      obtain ⟨ao', cp, hv, _, hr, _⟩ := own_rows (cs := ptCs) (fun _ => rfl) q
      injection hv with e1 _ _; subst e1; exact hr
    have PB : Hid (PtsAt w8 (some ⟨gb, 0, none⟩) b.reverse) := by
      have q := O8.out
      rw [show b.length = b.reverse.length from List.length_reverse.symm] at q
      obtain ⟨ao', cp, hv, _, hr, _⟩ := own_rows (cs := ptCs) (fun _ => rfl) q
      injection hv with e1 _ _; subst e1; exact hr
    clear O7b O8
    have KAP : Hid (Calls Try.prog 29 #[.slice (some ⟨ga, 0, none⟩) a.length ca, .slice (some ⟨gb, 0, none⟩) b.length cb] w8 fun e w' => e = .returned (.tuple #[.int .i64 V, .int .i64 0]) ∧ w8.grownBy w' none) := by
      have q := Apart_is (some ⟨ga, 0, none⟩) (some ⟨gb, 0, none⟩) ca cb a.reverse b.reverse w8 PA.out PB.out (by rw [List.length_reverse]; exact LA.out) (by rw [List.length_reverse]; exact LB.out) HE4 HV4
      rw [List.length_reverse, List.length_reverse] at q; exact q
    go_wp2_with fail
    refine KAP.out.mono ?_; rintro e w9 ⟨rfl, hg9⟩
    have G9 := Lib.hid (grown_trans G8.out hg9)
    have PA9 := Lib.hid (PA.out.grown hg9); have PB9 := Lib.hid (PB.out.grown hg9)
    clear hg9 G8 PA PB KAP
    obtain ⟨gx, ox, hx, qx⟩ := pts_at (HA.out.grown G9.out) N0.out
    subst hx
    obtain ⟨gy, oy, hy, qy⟩ := pts_at (HB.out.grown G9.out) M0.out
    subst hy
    obtain ⟨x0, x1⟩ := qx 0 N0.out
    obtain ⟨y0, y1⟩ := qy 0 M0.out
    rw [← ptD_at N0.out] at x0 x1
    rw [← ptD_at M0.out] at y0 y1
    have hla : 0 < a.reverse.length := by rw [List.length_reverse]; exact N0.out
    have hlb : 0 < b.reverse.length := by rw [List.length_reverse]; exact M0.out
    have u0 := PA9.out.cells _ rfl 0 hla 0 _ rfl; have u1 := PA9.out.cells _ rfl 0 hla 1 _ rfl
    have t0 := PB9.out.cells _ rfl 0 hlb 0 _ rfl; have t1 := PB9.out.cells _ rfl 0 hlb 1 _ rfl
    rw [← ptD_at hla, ptD_rev N0.out, Nat.sub_zero] at u0 u1
    rw [← ptD_at hlb, ptD_rev M0.out, Nat.sub_zero] at t0 t1
    have e1 := ends.1; have e2 := ends.2
    unfold sqL at e1 e2
    have P0 : Hid (onP (ptD a 0)) := ptD_on OA.out 0; have P1 : Hid (onP (ptD a (a.length - 1))) := ptD_on OA.out _
    have Q0 : Hid (onP (ptD b 0)) := ptD_on OB.out 0; have Q1 : Hid (onP (ptD b (b.length - 1))) := ptD_on OB.out _
    have kn : (0 : Int) < (a.length : Int) := by have := N0.out; omega
    have km : (0 : Int) < (b.length : Int) := by have := M0.out; omega
    have kn2 := N0.out; have km2 := M0.out
    clear qx qy hla hlb ends
    generalize ptD a 0 = p0 at *
    generalize ptD a (a.length - 1) = p1 at *
    generalize ptD b 0 = q0 at *
    generalize ptD b (b.length - 1) = q1 at *
    obtain ⟨p0x, p0y⟩ := p0
    obtain ⟨p1x, p1y⟩ := p1
    obtain ⟨q0x, q0y⟩ := q0
    obtain ⟨q1x, q1y⟩ := q1
    simp only [Nat.zero_mul, Nat.add_zero, Nat.zero_add] at x0 x1 y0 y1 u0 u1 t0 t1
    obtain ⟨d0, hd0⟩ : ∃ n, sqD ⟨p0x, p0y⟩ ⟨q0x, q0y⟩ = n := ⟨_, rfl⟩
    obtain ⟨d1, hd1⟩ : ∃ n, sqD ⟨p1x, p1y⟩ ⟨q1x, q1y⟩ = n := ⟨_, rfl⟩
    rw [hd0] at e1; rw [hd1] at e2
    have D0 := Lib.hid hd0; have D1 := Lib.hid hd1
    have z1 : decide (d0 ≤ V) = true := decide_eq_true e1
    have z2 : decide (d1 ≤ V) = true := decide_eq_true e2
    clear hd0 hd1
    go_upto_region 13 with (fail)
    have gd : w9.grownBy w9.drew none := grown_drewN w9 none 1
    refine region_late (lateK (fun V => w9.grownBy V none) []) (by kernel_rfl) gd (fun hC0 hS0 => ?_)
    generalize w9.drew = wd at *
    refine wpAnyS_take (i := 0) (oi := ?oi1) (v := .int .i64 V) ?hi1 (by kernel_rfl) (by kernel_rfl) (by kernel_rfl) (lateK_iff (by rfl)) ?hq1 ?hy1 hC0 hS0 ?rest1
    case hi1 => simp only [List.getElem?_toArray, List.getElem?_cons_succ, List.getElem?_cons_zero, Option.some.injEq]; rfl
    case hq1 => exact fun _ _ _ h => h
    case hy1 =>
      refine Or.inl ⟨by kernel_rfl, fun V hV => ?_⟩
      clear hV
      go_simp
    intro hC1 hS1
    clear hC0 hS0
    try simp only [Go.Act.put, List.setIfInBounds_toArray, List.set_cons_zero, List.set_cons_succ]
    refine wpAnyS_take (i := 1) (oi := ?oi2) (v := .int .i64 V) ?hi2 (by kernel_rfl) (by kernel_rfl) (by kernel_rfl) (lateK_iff (by rfl)) ?hq2 ?hy2 hC1 hS1 ?rest2
    case hi2 => simp only [List.getElem?_toArray, List.getElem?_cons_succ, List.getElem?_cons_zero, Option.some.injEq]; rfl
    case hq2 => exact fun _ _ _ h => h
    case hy2 =>
      refine Or.inl ⟨by kernel_rfl, fun V hV => ?_⟩
      clear hV
      go_simp
    intro hC2 hS2
    clear hC1 hS1
    try simp only [Go.Act.put, List.setIfInBounds_toArray, List.set_cons_zero, List.set_cons_succ]
    refine wpAnyS_take (i := 2) (oi := ?oi3) (v := .bool true) ?hi3 (by kernel_rfl) (by kernel_rfl) (by kernel_rfl) (lateK_iff (by rfl)) ?hq3 ?hy3 hC2 hS2 ?rest3
    case hi3 => simp only [List.getElem?_toArray, List.getElem?_cons_succ, List.getElem?_cons_zero, Option.some.injEq]; rfl
    case hq3 => exact fun _ _ _ h => h
    case hy3 =>
      refine Or.inl ⟨by kernel_rfl, fun V hV => ?_⟩
      clear hV
      go_simp
    intro hC3 hS3
    clear hC2 hS2
    try simp only [Go.Act.put, List.setIfInBounds_toArray, List.set_cons_zero, List.set_cons_succ]
    refine wpAnyS_take (i := 3) (oi := ?oi4) (v := .bool true) ?hi4 (by kernel_rfl) (by kernel_rfl) (by kernel_rfl) (lateK_iff (by rfl)) ?hq4 ?hy4 hC3 hS3 ?rest4
    case hi4 => simp only [List.getElem?_toArray, List.getElem?_cons_succ, List.getElem?_cons_zero, Option.some.injEq]; rfl
    case hq4 => exact fun _ _ _ h => h
    case hy4 =>
      refine Or.inl ⟨by kernel_rfl, fun V hV => ?_⟩
      clear hV
      go_simp
    intro hC4 hS4
    clear hC3 hS3
    try simp only [Go.Act.put, List.setIfInBounds_toArray, List.set_cons_zero, List.set_cons_succ]
    refine wpAnyS_take (i := 4) (oi := ?oi5) (v := .int .i64 V) ?hi5 (by kernel_rfl) (by kernel_rfl) (by kernel_rfl) (lateK_iff (by rfl)) ?hq5 ?hy5 hC4 hS4 ?rest5
    case hi5 => simp only [List.getElem?_toArray, List.getElem?_cons_succ, List.getElem?_cons_zero, Option.some.injEq]; rfl
    case hq5 => exact fun _ _ _ h => h
    case hy5 =>
      refine Or.inl ⟨by kernel_rfl, fun V hV => ?_⟩
      clear hV
      go_simp
    intro hC5 hS5
    clear hC4 hS4
    try simp only [Go.Act.put, List.setIfInBounds_toArray, List.set_cons_zero, List.set_cons_succ]
    refine wpAnyS_take (i := 5) (oi := ?oi6) (v := .int .i64 V) ?hi6 (by kernel_rfl) (by kernel_rfl) (by kernel_rfl) (lateK_iff (by rfl)) ?hq6 ?hy6 hC5 hS5 ?rest6
    case hi6 => simp only [List.getElem?_toArray, List.getElem?_cons_succ, List.getElem?_cons_zero, Option.some.injEq]; rfl
    case hq6 => exact fun _ _ _ h => h
    case hy6 =>
      refine Or.inl ⟨by kernel_rfl, fun V hV => ?_⟩
      clear hV
      go_simp
    intro hC6 hS6
    clear hC5 hS5
    try simp only [Go.Act.put, List.setIfInBounds_toArray, List.set_cons_zero, List.set_cons_succ]
    refine wpAnyS_take (i := 6) (oi := ?oi7) (v := .bool true) ?hi7 (by kernel_rfl) (by kernel_rfl) (by kernel_rfl) (lateK_iff (by rfl)) ?hq7 ?hy7 hC6 hS6 ?rest7
    case hi7 => simp only [List.getElem?_toArray, List.getElem?_cons_succ, List.getElem?_cons_zero, Option.some.injEq]; rfl
    case hq7 => exact fun _ _ _ h => h
    case hy7 =>
      refine Or.inl ⟨by kernel_rfl, fun V hV => ?_⟩
      clear hV
      go_simp
    intro hC7 hS7
    clear hC6 hS6
    try simp only [Go.Act.put, List.setIfInBounds_toArray, List.set_cons_zero, List.set_cons_succ]
    refine wpAnyS_take (i := 7) (oi := ?oi8) (v := .bool true) ?hi8 (by kernel_rfl) (by kernel_rfl) (by kernel_rfl) (lateK_iff (by rfl)) ?hq8 ?hy8 hC7 hS7 ?rest8
    case hi8 => simp only [List.getElem?_toArray, List.getElem?_cons_succ, List.getElem?_cons_zero, Option.some.injEq]; rfl
    case hq8 => exact fun _ _ _ h => h
    case hy8 =>
      refine Or.inl ⟨by kernel_rfl, fun V hV => ?_⟩
      clear hV
      go_simp
    intro hC8 hS8
    clear hC7 hS7
    try simp only [Go.Act.put, List.setIfInBounds_toArray, List.set_cons_zero, List.set_cons_succ]
    refine wpAnyS_take (i := 8) (oi := ?oi9) (v := .bool true) ?hi9 (by kernel_rfl) (by kernel_rfl) (by kernel_rfl) (lateK_iff (by rfl)) ?hq9 ?hy9 hC8 hS8 ?rest9
    case hi9 => simp only [List.getElem?_toArray, List.getElem?_cons_succ, List.getElem?_cons_zero, Option.some.injEq]; rfl
    case hq9 => exact fun _ _ _ h => h
    case hy9 =>
      refine Or.inl ⟨by kernel_rfl, fun V hV => ?_⟩
      clear hV
      go_simp
    intro hC9 hS9
    clear hC8 hS8
    try simp only [Go.Act.put, List.setIfInBounds_toArray, List.set_cons_zero, List.set_cons_succ]
    refine wpAnyS_take (i := 9) (oi := ?oi10) (v := .int .i64 0) ?hi10 (by kernel_rfl) (by kernel_rfl) (by kernel_rfl) (lateK_iff (by rfl)) ?hq10 ?hy10 hC9 hS9 ?rest10
    case hi10 => simp only [List.getElem?_toArray, List.getElem?_cons_succ, List.getElem?_cons_zero, Option.some.injEq]; rfl
    case hq10 => exact fun _ _ _ h => h
    case hy10 =>
      refine Or.inl ⟨by kernel_rfl, fun V hV => ?_⟩
      clear hV
      go_simp
    intro hC10 hS10
    clear hC9 hS9
    try simp only [Go.Act.put, List.setIfInBounds_toArray, List.set_cons_zero, List.set_cons_succ]
    refine wpAnyS_take (i := 10) (oi := ?oi11) (v := .bool true) ?hi11 (by kernel_rfl) (by kernel_rfl) (by kernel_rfl) (lateK_iff (by rfl)) ?hq11 ?hy11 hC10 hS10 ?rest11
    case hi11 => simp only [List.getElem?_toArray, List.getElem?_cons_succ, List.getElem?_cons_zero, Option.some.injEq]; rfl
    case hq11 => exact fun _ _ _ h => h
    case hy11 =>
      refine Or.inl ⟨by kernel_rfl, fun V hV => ?_⟩
      clear hV
      go_simp
    intro hC11 hS11
    clear hC10 hS10
    try simp only [Go.Act.put, List.setIfInBounds_toArray, List.set_cons_zero, List.set_cons_succ]
    refine wpAnyS_take (i := 11) (oi := ?oi12) (v := .bool true) ?hi12 (by kernel_rfl) (by kernel_rfl) (by kernel_rfl) (lateK_iff (by rfl)) ?hq12 ?hy12 hC11 hS11 ?rest12
    case hi12 => simp only [List.getElem?_toArray, List.getElem?_cons_succ, List.getElem?_cons_zero, Option.some.injEq]; rfl
    case hq12 => exact fun _ _ _ h => h
    case hy12 =>
      refine Or.inl ⟨by kernel_rfl, fun V hV => ?_⟩
      clear hV
      go_simp
    intro hC12 hS12
    clear hC11 hS11
    try simp only [Go.Act.put, List.setIfInBounds_toArray, List.set_cons_zero, List.set_cons_succ]
    refine wpAnyS_take (i := 12) (oi := ?oi13) (v := .bool true) ?hi13 (by kernel_rfl) (by kernel_rfl) (by kernel_rfl) (lateK_iff (by rfl)) ?hq13 ?hy13 hC12 hS12 ?rest13
    case hi13 => simp only [List.getElem?_toArray, List.getElem?_cons_succ, List.getElem?_cons_zero, Option.some.injEq]; rfl
    case hq13 => exact fun _ _ _ h => h
    case hy13 =>
      refine Or.inl ⟨by kernel_rfl, fun V hV => ?_⟩
      clear hV
      go_simp
    intro hC13 hS13
    clear hC12 hS12
    try simp only [Go.Act.put, List.setIfInBounds_toArray, List.set_cons_zero, List.set_cons_succ]
    refine wpAnyS_take (i := 13) (oi := ?oi14) (v := .int .i64 V) ?hi14 (by kernel_rfl) (by kernel_rfl) (by kernel_rfl) (lateK_iff (by rfl)) ?hq14 ?hy14 hC13 hS13 ?rest14
    case hi14 => simp only [List.getElem?_toArray, List.getElem?_cons_succ, List.getElem?_cons_zero, Option.some.injEq]; rfl
    case hq14 => exact fun _ _ _ h => h
    case hy14 =>
      refine Or.inl ⟨by kernel_rfl, fun V hV => ?_⟩
      clear hV
      go_simp
    intro hC14 hS14
    clear hC13 hS13
    try simp only [Go.Act.put, List.setIfInBounds_toArray, List.set_cons_zero, List.set_cons_succ]
    refine wpAnyS_take (i := 14) (oi := ?oi15) (v := .func (.func 34) #[] #[]) ?hi15 (by kernel_rfl) (by kernel_rfl) (by kernel_rfl) (lateK_iff (by rfl)) ?hq15 ?hy15 hC14 hS14 ?rest15
    case hi15 => simp only [List.getElem?_toArray, List.getElem?_cons_succ, List.getElem?_cons_zero, Option.some.injEq]; rfl
    case hq15 => exact fun _ _ _ h => h
    case hy15 =>
      refine Or.inl ⟨by kernel_rfl, fun V hV => ?_⟩
      clear hV
      go_simp
    intro hC15 hS15
    clear hC14 hS14
    try simp only [Go.Act.put, List.setIfInBounds_toArray, List.set_cons_zero, List.set_cons_succ]
    refine wpAnyS_take (i := 15) (oi := ?oi16) (v := .slice (some ⟨gx, ox, none⟩) a.length ac) ?hi16 (by kernel_rfl) (by kernel_rfl) (by kernel_rfl) (lateK_iff (by rfl)) ?hq16 ?hy16 hC15 hS15 ?rest16
    case hi16 => simp only [List.getElem?_toArray, List.getElem?_cons_succ, List.getElem?_cons_zero, Option.some.injEq]; rfl
    case hq16 => exact fun _ _ _ h => h
    case hy16 =>
      refine Or.inl ⟨by kernel_rfl, fun V hV => ?_⟩
      clear hV
      go_simp
    intro hC16 hS16
    clear hC15 hS15
    try simp only [Go.Act.put, List.setIfInBounds_toArray, List.set_cons_zero, List.set_cons_succ]
    refine wpAnyS_take (i := 16) (oi := ?oi17) (v := .pointer (some ⟨gx, ox, none⟩)) ?hi17 (by kernel_rfl) (by kernel_rfl) (by kernel_rfl) (lateK_iff (by rfl)) ?hq17 ?hy17 hC16 hS16 ?rest17
    case hi17 => simp only [List.getElem?_toArray, List.getElem?_cons_succ, List.getElem?_cons_zero, Option.some.injEq]; rfl
    case hq17 => exact fun _ _ _ h => h
    case hy17 =>
      refine Or.inl ⟨by kernel_rfl, fun V hV => ?_⟩
      clear hV
      go_simp
    intro hC17 hS17
    clear hC16 hS16
    try simp only [Go.Act.put, List.setIfInBounds_toArray, List.set_cons_zero, List.set_cons_succ]
    refine wpAnyS_take (i := 17) (oi := ?oi18) (v := .agg #[.int .i64 p0x, .int .i64 p0y]) ?hi18 (by kernel_rfl) (by kernel_rfl) (by kernel_rfl) (lateK_iff (by rfl)) ?hq18 ?hy18 hC17 hS17 ?rest18
    case hi18 => simp only [List.getElem?_toArray, List.getElem?_cons_succ, List.getElem?_cons_zero, Option.some.injEq]; rfl
    case hq18 => exact fun _ _ _ h => h
    case hy18 =>
      refine Or.inl ⟨by kernel_rfl, fun V hV => ?_⟩
      have gV := lateK_g hV; have zzx0 := grown_cell gV x0; have zzx1 := grown_cell gV x1; clear gV; clear hV
      go_simp
    intro hC18 hS18
    clear hC17 hS17
    try simp only [Go.Act.put, List.setIfInBounds_toArray, List.set_cons_zero, List.set_cons_succ]
    refine wpAnyS_take (i := 18) (oi := ?oi19) (v := .slice (some ⟨gy, oy, none⟩) b.length bc) ?hi19 (by kernel_rfl) (by kernel_rfl) (by kernel_rfl) (lateK_iff (by rfl)) ?hq19 ?hy19 hC18 hS18 ?rest19
    case hi19 => simp only [List.getElem?_toArray, List.getElem?_cons_succ, List.getElem?_cons_zero, Option.some.injEq]; rfl
    case hq19 => exact fun _ _ _ h => h
    case hy19 =>
      refine Or.inl ⟨by kernel_rfl, fun V hV => ?_⟩
      clear hV
      go_simp
    intro hC19 hS19
    clear hC18 hS18
    try simp only [Go.Act.put, List.setIfInBounds_toArray, List.set_cons_zero, List.set_cons_succ]
    refine wpAnyS_take (i := 19) (oi := ?oi20) (v := .pointer (some ⟨gy, oy, none⟩)) ?hi20 (by kernel_rfl) (by kernel_rfl) (by kernel_rfl) (lateK_iff (by rfl)) ?hq20 ?hy20 hC19 hS19 ?rest20
    case hi20 => simp only [List.getElem?_toArray, List.getElem?_cons_succ, List.getElem?_cons_zero, Option.some.injEq]; rfl
    case hq20 => exact fun _ _ _ h => h
    case hy20 =>
      refine Or.inl ⟨by kernel_rfl, fun V hV => ?_⟩
      clear hV
      go_simp
    intro hC20 hS20
    clear hC19 hS19
    try simp only [Go.Act.put, List.setIfInBounds_toArray, List.set_cons_zero, List.set_cons_succ]
    refine wpAnyS_take (i := 20) (oi := ?oi21) (v := .agg #[.int .i64 q0x, .int .i64 q0y]) ?hi21 (by kernel_rfl) (by kernel_rfl) (by kernel_rfl) (lateK_iff (by rfl)) ?hq21 ?hy21 hC20 hS20 ?rest21
    case hi21 => simp only [List.getElem?_toArray, List.getElem?_cons_succ, List.getElem?_cons_zero, Option.some.injEq]; rfl
    case hq21 => exact fun _ _ _ h => h
    case hy21 =>
      refine Or.inl ⟨by kernel_rfl, fun V hV => ?_⟩
      have gV := lateK_g hV; have zzy0 := grown_cell gV y0; have zzy1 := grown_cell gV y1; clear gV; clear hV
      go_simp
    intro hC21 hS21
    clear hC20 hS20
    try simp only [Go.Act.put, List.setIfInBounds_toArray, List.set_cons_zero, List.set_cons_succ]
    refine wpAnyS_ready (rs := [21]) (by kernel_rfl) (by simp) ?_
    refine AllReadyS.cons rfl hC21 (fun K hK => ?_) AllReadyS.nil
    go_simp
    refine (far_is ⟨p0x, p0y⟩ ⟨q0x, q0y⟩ P0.out Q0.out _ D0).mono ?_; rintro e w10 ⟨rfl, hg10⟩
    refine hK.out _ _ (grown_trans gd hg10) (fun hC22 hS22 => ?_)
    clear hK hC21 hS21 K
    try simp only [Go.Act.put, List.setIfInBounds_toArray, List.set_cons_zero, List.set_cons_succ]
    refine wpAnyS_take (i := 22) (oi := ?oi23) (v := .bool true) ?hi23 (by kernel_rfl) (by kernel_rfl) (by kernel_rfl) (lateK_iff (by rfl)) ?hq23 ?hy23 hC22 hS22 ?rest23
    case hi23 => simp only [List.getElem?_toArray, List.getElem?_cons_succ, List.getElem?_cons_zero, Option.some.injEq]; rfl
    case hq23 => exact fun _ _ _ h => h
    case hy23 =>
      refine Or.inl ⟨by kernel_rfl, fun V hV => ?_⟩
      clear hV
      go_simp
    intro hC23 hS23
    clear hC22 hS22
    try simp only [Go.Act.put, List.setIfInBounds_toArray, List.set_cons_zero, List.set_cons_succ]
    refine wpAnyS_take (i := 23) (oi := ?oi24) (v := .bool true) ?hi24 (by kernel_rfl) (by kernel_rfl) (by kernel_rfl) (lateK_iff (by rfl)) ?hq24 ?hy24 hC23 hS23 ?rest24
    case hi24 => simp only [List.getElem?_toArray, List.getElem?_cons_succ, List.getElem?_cons_zero, Option.some.injEq]; rfl
    case hq24 => exact fun _ _ _ h => h
    case hy24 =>
      refine Or.inl ⟨by kernel_rfl, fun V hV => ?_⟩
      clear hV
      go_simp
    intro hC24 hS24
    clear hC23 hS23
    try simp only [Go.Act.put, List.setIfInBounds_toArray, List.set_cons_zero, List.set_cons_succ]
    refine wpAnyS_take (i := 24) (oi := ?oi25) (v := .bool true) ?hi25 (by kernel_rfl) (by kernel_rfl) (by kernel_rfl) (lateK_iff (by rfl)) ?hq25 ?hy25 hC24 hS24 ?rest25
    case hi25 => simp only [List.getElem?_toArray, List.getElem?_cons_succ, List.getElem?_cons_zero, Option.some.injEq]; rfl
    case hq25 => exact fun _ _ _ h => h
    case hy25 =>
      refine Or.inl ⟨by kernel_rfl, fun V hV => ?_⟩
      clear hV
      go_simp
    intro hC25 hS25
    clear hC24 hS24
    try simp only [Go.Act.put, List.setIfInBounds_toArray, List.set_cons_zero, List.set_cons_succ]
    refine wpAnyS_take (i := 25) (oi := ?oi26) (v := .int .i64 V) ?hi26 (by kernel_rfl) (by kernel_rfl) (by kernel_rfl) (lateK_iff (by rfl)) ?hq26 ?hy26 hC25 hS25 ?rest26
    case hi26 => simp only [List.getElem?_toArray, List.getElem?_cons_succ, List.getElem?_cons_zero, Option.some.injEq]; rfl
    case hq26 => exact fun _ _ _ h => h
    case hy26 =>
      refine Or.inl ⟨by kernel_rfl, fun V hV => ?_⟩
      clear hV
      go_simp
    intro hC26 hS26
    clear hC25 hS25
    try simp only [Go.Act.put, List.setIfInBounds_toArray, List.set_cons_zero, List.set_cons_succ]
    refine wpAnyS_take (i := 26) (oi := ?oi27) (v := .func (.func 34) #[] #[]) ?hi27 (by kernel_rfl) (by kernel_rfl) (by kernel_rfl) (lateK_iff (by rfl)) ?hq27 ?hy27 hC26 hS26 ?rest27
    case hi27 => simp only [List.getElem?_toArray, List.getElem?_cons_succ, List.getElem?_cons_zero, Option.some.injEq]; rfl
    case hq27 => exact fun _ _ _ h => h
    case hy27 =>
      refine Or.inl ⟨by kernel_rfl, fun V hV => ?_⟩
      clear hV
      go_simp
    intro hC27 hS27
    clear hC26 hS26
    try simp only [Go.Act.put, List.setIfInBounds_toArray, List.set_cons_zero, List.set_cons_succ]
    refine wpAnyS_take (i := 27) (oi := ?oi28) (v := .slice (some ⟨ga, 0, none⟩) a.length ca) ?hi28 (by kernel_rfl) (by kernel_rfl) (by kernel_rfl) (lateK_iff (by rfl)) ?hq28 ?hy28 hC27 hS27 ?rest28
    case hi28 => simp only [List.getElem?_toArray, List.getElem?_cons_succ, List.getElem?_cons_zero, Option.some.injEq]; rfl
    case hq28 => exact fun _ _ _ h => h
    case hy28 =>
      refine Or.inl ⟨by kernel_rfl, fun V hV => ?_⟩
      clear hV
      go_simp
    intro hC28 hS28
    clear hC27 hS27
    try simp only [Go.Act.put, List.setIfInBounds_toArray, List.set_cons_zero, List.set_cons_succ]
    refine wpAnyS_take (i := 28) (oi := ?oi29) (v := .pointer (some ⟨ga, 0, none⟩)) ?hi29 (by kernel_rfl) (by kernel_rfl) (by kernel_rfl) (lateK_iff (by rfl)) ?hq29 ?hy29 hC28 hS28 ?rest29
    case hi29 => simp only [List.getElem?_toArray, List.getElem?_cons_succ, List.getElem?_cons_zero, Option.some.injEq]; rfl
    case hq29 => exact fun _ _ _ h => h
    case hy29 =>
      refine Or.inl ⟨by kernel_rfl, fun V hV => ?_⟩
      clear hV
      go_simp
    intro hC29 hS29
    clear hC28 hS28
    try simp only [Go.Act.put, List.setIfInBounds_toArray, List.set_cons_zero, List.set_cons_succ]
    refine wpAnyS_take (i := 29) (oi := ?oi30) (v := .agg #[.int .i64 p1x, .int .i64 p1y]) ?hi30 (by kernel_rfl) (by kernel_rfl) (by kernel_rfl) (lateK_iff (by rfl)) ?hq30 ?hy30 hC29 hS29 ?rest30
    case hi30 => simp only [List.getElem?_toArray, List.getElem?_cons_succ, List.getElem?_cons_zero, Option.some.injEq]; rfl
    case hq30 => exact fun _ _ _ h => h
    case hy30 =>
      refine Or.inl ⟨by kernel_rfl, fun V hV => ?_⟩
      have gV := lateK_g hV; have zzu0 := grown_cell gV u0; have zzu1 := grown_cell gV u1; clear gV; clear hV
      go_simp
    intro hC30 hS30
    clear hC29 hS29
    try simp only [Go.Act.put, List.setIfInBounds_toArray, List.set_cons_zero, List.set_cons_succ]
    refine wpAnyS_take (i := 30) (oi := ?oi31) (v := .slice (some ⟨gb, 0, none⟩) b.length cb) ?hi31 (by kernel_rfl) (by kernel_rfl) (by kernel_rfl) (lateK_iff (by rfl)) ?hq31 ?hy31 hC30 hS30 ?rest31
    case hi31 => simp only [List.getElem?_toArray, List.getElem?_cons_succ, List.getElem?_cons_zero, Option.some.injEq]; rfl
    case hq31 => exact fun _ _ _ h => h
    case hy31 =>
      refine Or.inl ⟨by kernel_rfl, fun V hV => ?_⟩
      clear hV
      go_simp
    intro hC31 hS31
    clear hC30 hS30
    try simp only [Go.Act.put, List.setIfInBounds_toArray, List.set_cons_zero, List.set_cons_succ]
    refine wpAnyS_take (i := 31) (oi := ?oi32) (v := .pointer (some ⟨gb, 0, none⟩)) ?hi32 (by kernel_rfl) (by kernel_rfl) (by kernel_rfl) (lateK_iff (by rfl)) ?hq32 ?hy32 hC31 hS31 ?rest32
    case hi32 => simp only [List.getElem?_toArray, List.getElem?_cons_succ, List.getElem?_cons_zero, Option.some.injEq]; rfl
    case hq32 => exact fun _ _ _ h => h
    case hy32 =>
      refine Or.inl ⟨by kernel_rfl, fun V hV => ?_⟩
      clear hV
      go_simp
    intro hC32 hS32
    clear hC31 hS31
    try simp only [Go.Act.put, List.setIfInBounds_toArray, List.set_cons_zero, List.set_cons_succ]
    refine wpAnyS_take (i := 32) (oi := ?oi33) (v := .agg #[.int .i64 q1x, .int .i64 q1y]) ?hi33 (by kernel_rfl) (by kernel_rfl) (by kernel_rfl) (lateK_iff (by rfl)) ?hq33 ?hy33 hC32 hS32 ?rest33
    case hi33 => simp only [List.getElem?_toArray, List.getElem?_cons_succ, List.getElem?_cons_zero, Option.some.injEq]; rfl
    case hq33 => exact fun _ _ _ h => h
    case hy33 =>
      refine Or.inl ⟨by kernel_rfl, fun V hV => ?_⟩
      have gV := lateK_g hV; have zzt0 := grown_cell gV t0; have zzt1 := grown_cell gV t1; clear gV; clear hV
      go_simp
    intro hC33 hS33
    clear hC32 hS32
    try simp only [Go.Act.put, List.setIfInBounds_toArray, List.set_cons_zero, List.set_cons_succ]
    refine wpAnyS_ready (rs := [33]) (by kernel_rfl) (by simp) ?_
    refine AllReadyS.cons rfl hC33 (fun K hK => ?_) AllReadyS.nil
    go_simp
    refine (far_is ⟨p1x, p1y⟩ ⟨q1x, q1y⟩ P1.out Q1.out _ D1).mono ?_; rintro e w11 ⟨rfl, hg11⟩
    refine hK.out _ _ (grown_trans (grown_trans gd hg10) hg11) (fun hC34 hS34 => ?_)
    clear hK hC33 hS33 K
    try simp only [Go.Act.put, List.setIfInBounds_toArray, List.set_cons_zero, List.set_cons_succ]
    refine wpAnyS_take (i := 34) (oi := ?oi35) (v := .bool true) ?hi35 (by kernel_rfl) (by kernel_rfl) (by kernel_rfl) (lateK_iff (by rfl)) ?hq35 ?hy35 hC34 hS34 ?rest35
    case hi35 => simp only [List.getElem?_toArray, List.getElem?_cons_succ, List.getElem?_cons_zero, Option.some.injEq]; rfl
    case hq35 => exact fun _ _ _ h => h
    case hy35 =>
      refine Or.inl ⟨by kernel_rfl, fun V hV => ?_⟩
      clear hV
      go_simp
    intro hC35 hS35
    clear hC34 hS34
    try simp only [Go.Act.put, List.setIfInBounds_toArray, List.set_cons_zero, List.set_cons_succ]
    refine wpAnyS_take (i := 35) (oi := ?oi36) (v := .bool true) ?hi36 (by kernel_rfl) (by kernel_rfl) (by kernel_rfl) (lateK_iff (by rfl)) ?hq36 ?hy36 hC35 hS35 ?rest36
    case hi36 => simp only [List.getElem?_toArray, List.getElem?_cons_succ, List.getElem?_cons_zero, Option.some.injEq]; rfl
    case hq36 => exact fun _ _ _ h => h
    case hy36 =>
      refine Or.inl ⟨by kernel_rfl, fun V hV => ?_⟩
      clear hV
      go_simp
    intro hC36 hS36
    clear hC35 hS35
    try simp only [Go.Act.put, List.setIfInBounds_toArray, List.set_cons_zero, List.set_cons_succ]
    refine wpAnyS_take (i := 36) (oi := ?oi37) (v := .bool true) ?hi37 (by kernel_rfl) (by kernel_rfl) (by kernel_rfl) (lateK_iff (by rfl)) ?hq37 ?hy37 hC36 hS36 ?rest37
    case hi37 => simp only [List.getElem?_toArray, List.getElem?_cons_succ, List.getElem?_cons_zero, Option.some.injEq]; rfl
    case hq37 => exact fun _ _ _ h => h
    case hy37 =>
      refine Or.inl ⟨by kernel_rfl, fun V hV => ?_⟩
      clear hV
      go_simp
    intro hC37 hS37
    clear hC36 hS36
    try simp only [Go.Act.put, List.setIfInBounds_toArray, List.set_cons_zero, List.set_cons_succ]
    refine wpAnyS_ready (rs := [37]) (by kernel_rfl) (by simp) ?_
    refine AllReadyS.cons rfl hC37 (fun K hK => ?_) AllReadyS.nil
    go_simp
    refine (told5_any _).mono ?_; rintro e w12 ⟨rfl, hg12⟩
    refine hK.out _ _ (grown_trans (grown_trans (grown_trans gd hg10) hg11) hg12) (fun hC38 hS38 => ?_)
    clear hK hC37 hS37 K
    try simp only [Go.Act.put, List.setIfInBounds_toArray, List.set_cons_zero, List.set_cons_succ]
    refine wpAnyS_take (i := 38) (oi := ?oi39) (v := .bool true) ?hi39 (by kernel_rfl) (by kernel_rfl) (by kernel_rfl) (lateK_iff (by rfl)) ?hq39 ?hy39 hC38 hS38 ?rest39
    case hi39 => simp only [List.getElem?_toArray, List.getElem?_cons_succ, List.getElem?_cons_zero, Option.some.injEq]; rfl
    case hq39 => exact fun _ _ _ h => h
    case hy39 =>
      refine Or.inl ⟨by kernel_rfl, fun V hV => ?_⟩
      clear hV
      go_simp
    intro hC39 hS39
    clear hC38 hS38
    try simp only [Go.Act.put, List.setIfInBounds_toArray, List.set_cons_zero, List.set_cons_succ]
    refine wpAnyS_take (i := 39) (oi := ?oi40) (v := .bool true) ?hi40 (by kernel_rfl) (by kernel_rfl) (by kernel_rfl) (lateK_iff (by rfl)) ?hq40 ?hy40 hC39 hS39 ?rest40
    case hi40 => simp only [List.getElem?_toArray, List.getElem?_cons_succ, List.getElem?_cons_zero, Option.some.injEq]; rfl
    case hq40 => exact fun _ _ _ h => h
    case hy40 =>
      refine Or.inl ⟨by kernel_rfl, fun V hV => ?_⟩
      clear hV
      go_simp
    intro hC40 hS40
    clear hC39 hS39
    try simp only [Go.Act.put, List.setIfInBounds_toArray, List.set_cons_zero, List.set_cons_succ]
    refine wpAnyS_done (by kernel_rfl) ?_ _
    clear hC40 hS40
    have GZ := Lib.hid (grown_trans G9.out (grown_trans (grown_trans (grown_trans gd hg10) hg11) hg12))
    clear x0 x1 y0 y1 u0 u1 t0 t1 gd hg10 hg11 hg12
    go_wp2_with fail
    go_ret
    exact ⟨rfl, GZ.out⟩
  · have g1 : (E != 0) = true := by simpa using e0
    clear e0
    go_wp2_with fail
    refine (told5_any _).mono ?_; rintro e w4 ⟨rfl, hg4⟩
    have G4 := Lib.hid (grown_trans G3.out hg4)
    clear hg4
    go_wp2_with fail
    go_ret
    exact ⟨rfl, G4.out⟩
end Go.Proofs.Ytnjanjbjhbniiaa
