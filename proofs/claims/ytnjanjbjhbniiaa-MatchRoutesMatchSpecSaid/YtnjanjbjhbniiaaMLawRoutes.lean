/- The law on routes, walked. -/
import Derived.Test.YtnjanjbjhbniiaaMSpc
import Derived.Test.YtnjanjbjhbniiaaMRSpc
import Derived.Test.YtnjanjbjhbniiaaMApartL
import Derived.Test.YtnjanjbjhbniiaaMRApart
import Derived.Test.YtnjanjbjhbniiaaMTold
namespace Go.Proofs.Ytnjanjbjhbniiaa
open Go.RowKit
set_option linter.unusedSimpArgs false
set_option linter.unusedVariables false

theorem spcL_len (a : Act) (n : Int) : (spcL a n).length ≤ 300 := by
  unfold spcL
  by_cases h : spcE a n = 0
  · rw [if_pos h, spL_len]
    unfold spcE at h
    by_cases h0 : chkE a = 0
    · rw [if_pos h0] at h
      by_cases h1 : 2 ≤ n ∧ n ≤ 300
      · omega
      · rw [if_neg h1] at h; omega
    · rw [if_neg h0] at h; omega
  · rw [if_neg h]; simp
set_option maxHeartbeats 1600000 in
theorem equal_pts {w : World} {a1 a2 : Option Addr} {c1 c2 : Nat} {L : List Pt} (h1 : PtsAt w a1 L) (h2 : PtsAt w a2 L) (hn : (L.length : Int) ≤ 9223372036854775807) :
    Calls Try.prog 31 #[.slice a1 L.length c1, .slice a2 L.length c2] w fun e w' => e = .returned (.bool true) ∧ w.grownBy w' none := by
  have Q1 := Lib.hid h1; have Q2 := Lib.hid h2
  clear h1 h2
  go_enter Try.func31, Try.ntmps31
  go_wp2_with fail
  go_loopw [13] (fun iv wr => ∃ k : Nat, k ≤ L.length ∧ iv = .int .i64 k ∧ Hid (w.grownBy wr none)) (fun iv _ => L.length - (intOf iv).toNat)
  case atStart => exact ⟨0, Nat.zero_le _, rfl, grown_refl _ _⟩
  case round =>
    obtain ⟨k, hk, rfl, hg⟩ := hrel
    by_cases hlt : k < L.length
    · obtain ⟨b1, o1, rfl, q1⟩ := rows_at (Q1.out.grown hg.out) (by omega)
      obtain ⟨b2, o2, rfl, q2⟩ := rows_at (Q2.out.grown hg.out) (by omega)
      have x0 := q1 k hlt 0 _ rfl; have x1 := q1 k hlt 1 _ rfl
      have y0 := q2 k hlt 0 _ rfl; have y1 := q2 k hlt 1 _ rfl
      generalize L[k] = h at *
      obtain ⟨z0, z1⟩ := h
      simp only [Nat.add_zero] at x0 x1 y0 y1
      clear q1 q2
      go_wp2_with fail
      go_quiet (fail)
      go_wp2_with fail
      go_roundw
      case rel => exact ⟨k + 1, by omega, by go_num, grown_trans hg.out (grown_drewN _ _ _)⟩
      case measure => simp [intOf]; omega
    · go_wp2_with fail
      go_ret
      exact ⟨rfl, hg.out⟩

set_option maxRecDepth 100000 in
set_option maxHeartbeats 3200000 in
theorem routes_law (a : Act) (n : Int) (ao : Option Addr) (ac : Nat) (l : List Pt) (la : (l.length : Int) ≤ 9223372036854775807) (bo : Option Addr) (bc : Nat) (m : List Pt) (lb : (m.length : Int) ≤ 9223372036854775807) (w : World) (ha : ActAt w a) (hac : a.ss.length ≤ a.sc) (hl : PtsAt w ao l) (hlc : l.length ≤ ac) (hm : PtsAt w bo m) (hmc : m.length ≤ bc) :
    Calls Try.prog 7 #[a.val, .int .i64 n, .slice ao l.length ac, .slice bo m.length bc] w fun e w' => e = .returned (.bool true) ∧ w.grownBy w' none := by
  obtain ⟨E, hE⟩ : ∃ e, spcE a n = e := ⟨_, rfl⟩
  obtain ⟨L, hL⟩ : ∃ e, spcL a n = e := ⟨_, rfl⟩
  obtain ⟨R, hR⟩ : ∃ e, routeE l m = e := ⟨_, rfl⟩
  obtain ⟨V, hV⟩ : ∃ e, apV l m = e := ⟨_, rfl⟩
  have LL := Lib.hid (spcL_len a n)
  have HE := Lib.hid hE; have HL := Lib.hid hL; have HR := Lib.hid hR; have HV := Lib.hid hV
  have HA := Lib.hid ha; have HPL := Lib.hid hl; have HPM := Lib.hid hm; have LA := Lib.hid la; have LB := Lib.hid lb
  have SP : Hid (∀ W : World, ActAt W a → Calls Try.prog 27 #[a.val, .int .i64 n] W fun e w' => (∃ ao cap, e = .returned (.tuple #[.slice ao L.length cap, .int .i64 E]) ∧ PtsAt w' ao L) ∧ W.grownBy w' none) := fun W h => by have q := Spaced_is a n W h HE; rw [HL.out] at q; exact q
  have RP : Hid (∀ W : World, ActAt W a → Calls Try.prog 28 #[a.val, .int .i64 n] W fun e w' => (∃ ao cap, e = .returned (.tuple #[.slice ao L.length cap, .int .i64 E]) ∧ PtsAt w' ao L) ∧ W.grownBy w' none) := fun W h => by have q := rSpaced_is a n W h HE; rw [HL.out] at q; exact q
  rw [hL] at LL
  obtain ⟨nm, sp, st, so, sc, ss, lo, lc, ls, to_, tc, ts⟩ := a
  simp only [Act.val] at *
  clear hE hL hR hV ha hl hm la lb hac hlc hmc
  go_enter Try.func7, Try.ntmps7
  go_wp2_with fail
  have GA := Lib.hid (World.grownBy_alloc w (.cells #[.string nm, .int .i64 sp, .int .i64 st, .slice so ss.length sc, .slice lo ls.length lc, .slice to_ ts.length tc] 36) none)
  have BA := Lib.hid (mheap_new w (.cells #[.string nm, .int .i64 sp, .int .i64 st, .slice so ss.length sc, .slice lo ls.length lc, .slice to_ ts.length tc] 36))
  generalize w.alloc (.cells #[.string nm, .int .i64 sp, .int .i64 st, .slice so ss.length sc, .slice lo ls.length lc, .slice to_ ts.length tc] 36) = w0 at *
  refine (SP.out _ (HA.out.grown GA.out)).mono ?_; rintro e w1 ⟨⟨o1, c1, rfl, p1⟩, hg1⟩
  have G1 := Lib.hid (grown_trans GA.out hg1); have P1 := Lib.hid p1
  have BA1 := Lib.hid (mblock_at BA.out hg1 (by simp))
  have b0 := mblock_cell BA1.out 0 _ rfl; have b1 := mblock_cell BA1.out 1 _ rfl; have b2 := mblock_cell BA1.out 2 _ rfl; have b3 := mblock_cell BA1.out 3 _ rfl; have b4 := mblock_cell BA1.out 4 _ rfl; have b5 := mblock_cell BA1.out 5 _ rfl
  clear hg1 p1 BA GA SP
  go_wp2_with fail
  refine (RP.out _ (HA.out.grown G1.out)).mono ?_; rintro e w2 ⟨⟨o2, c2, rfl, p2⟩, hg2⟩
  have G2 := Lib.hid (grown_trans G1.out hg2); have P2 := Lib.hid p2; have P12 := Lib.hid (P1.out.grown hg2)
  clear hg2 p2 b0 b1 b2 b3 b4 b5 BA1 G1 P1 RP
  go_wp2_with fail
  refine (Apart_is ao bo ac bc l m _ (HPL.out.grown G2.out) (HPM.out.grown G2.out) LA.out LB.out HR HV).mono ?_; rintro e w3 ⟨rfl, hg3⟩
  have G3 := Lib.hid (grown_trans G2.out hg3); have P13 := Lib.hid (P12.out.grown hg3); have P23 := Lib.hid (P2.out.grown hg3)
  clear hg3 G2 P12 P2
  go_wp2_with fail
  refine (rApart_is ao bo ac bc l m _ (HPL.out.grown G3.out) (HPM.out.grown G3.out) LA.out LB.out HR HV).mono ?_; rintro e w4 ⟨rfl, hg4⟩
  have G4 := Lib.hid (grown_trans G3.out hg4); have P14 := Lib.hid (P13.out.grown hg4); have P24 := Lib.hid (P23.out.grown hg4)
  clear hg4 G3 P13 P23
  go_wp2_with fail
  refine (equal_pts P14.out P24.out (by have := LL.out; omega)).mono ?_; rintro e w5 ⟨rfl, hg5⟩
  have G5 := Lib.hid (grown_trans G4.out hg5)
  clear hg5 G4
  go_wp2_with fail
  refine (told5_any _).mono ?_; rintro e w6 ⟨rfl, hg6⟩
  have G6 := Lib.hid (grown_trans G5.out hg6)
  clear hg6 G5
  go_wp2_with fail
  go_ret
  exact ⟨rfl, G6.out⟩
end Go.Proofs.Ytnjanjbjhbniiaa
