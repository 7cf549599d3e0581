/- For all streams, sizes and places, no known window has a greater sum than Best tells: the walk of the law. -/
import Derived.Test.YtkifmjohcmjeeaaELawBest
namespace Go.Proofs.Ytkifmjohcmjeeaa
open Go.RowKit

set_option maxHeartbeats 800000 in
theorem rBest_err (ao : Option Addr) (cap : Nat) (l : List Int) (hl : (l.length : Int) ≤ 9223372036854775807) (size : Int) (w : World) (hs : IntsAt w ao l) {E : Int} (hE : Hid (windowE l size = E)) (h0 : E ≠ 0) :
    Calls Try.prog 22 #[.slice ao l.length cap, .int .i64 size] w fun e w' => e = .returned (.tuple #[.agg #[.int .i64 0, .int .i64 0, .int .i64 0, .bool false], .int .i64 E]) ∧ w.grownBy w' none := by
  obtain ⟨se, hse⟩ : ∃ e, streamE l = e := ⟨_, rfl⟩
  have HSE := Lib.hid hse; have HS := Lib.hid hs
  have hv := hE.out
  unfold windowE at hv
  rw [hse] at hv
  have GA := World.grownBy_alloc w (.cells #[.int .i64 0, .int .i64 0, .int .i64 0, .bool false] 30) none
  have HSA := Lib.hid (HS.out.grown GA)
  clear hE hs hse
  by_cases hs0 : se = 0
  · rw [if_pos hs0] at hv
    subst hs0
    by_cases h1 : 1 ≤ size ∧ size ≤ 1000000
    · rw [if_pos h1] at hv; exact absurd hv.symm h0
    · rw [if_neg h1] at hv
      subst hv
      by_cases h2 : size < 1
      · go_enter Try.func22, Try.ntmps22
        go_wp2_with fail
        refine (rcheckStream_any _ _ _ hl _ HSA.out HSE).mono ?_; rintro e w1 ⟨rfl, rfl⟩
        go_wp2_with fail
        refine bodyPost_ret (v := .tuple #[.agg #[.int .i64 0, .int .i64 0, .int .i64 0, .bool false], .int .i64 9]) (by simp [results, Try.results22, go_sem]) rfl ⟨rfl, ?_⟩
        exact GA
      · have h3 : 1000000 < size := by omega
        go_enter Try.func22, Try.ntmps22
        go_wp2_with fail
        refine (rcheckStream_any _ _ _ hl _ HSA.out HSE).mono ?_; rintro e w1 ⟨rfl, rfl⟩
        go_wp2_with fail
        refine bodyPost_ret (v := .tuple #[.agg #[.int .i64 0, .int .i64 0, .int .i64 0, .bool false], .int .i64 9]) (by simp [results, Try.results22, go_sem]) rfl ⟨rfl, ?_⟩
        exact GA
  · rw [if_neg hs0] at hv
    subst hv
    have hne : (se != 0) = true := by simpa using hs0
    go_enter Try.func22, Try.ntmps22
    go_wp2_with fail
    refine (rcheckStream_any _ _ _ hl _ HSA.out HSE).mono ?_; rintro e w1 ⟨rfl, rfl⟩
    go_wp2_with fail
    refine bodyPost_ret (v := .tuple #[.agg #[.int .i64 0, .int .i64 0, .int .i64 0, .bool false], .int .i64 se]) (by simp [results, Try.results22, go_sem]) rfl ⟨rfl, ?_⟩
    exact GA

set_option maxRecDepth 100000 in
set_option maxHeartbeats 3200000 in
theorem isbest_law (ao : Option Addr) (cap : Nat) (l : List Int) (hl : (l.length : Int) ≤ 9223372036854775807) (hcap : l.length ≤ cap) (size at_ : Int) (w : World) (hs : IntsAt w ao l) :
    Calls Try.prog 5 #[.slice ao l.length cap, .int .i64 size, .int .i64 at_] w fun e w' => e = .returned (.bool true) ∧ w.grownBy w' none := by
  have hmf : ∀ (fn : Fn) (first cap : Array Value) (w : World), (Instr.makeFunc fn first cap).run Try.prog w = .ok (.func fn first cap) w := fun _ _ _ _ => rfl
  obtain ⟨we, hwe⟩ : ∃ e, windowE l size = e := ⟨_, rfl⟩
  have HWE := Lib.hid hwe; have HS := Lib.hid hs
  clear hs
  by_cases h0 : we = 0
  · subst h0
    obtain ⟨h1, h2, h3⟩ := window_ok hwe
    obtain ⟨sz, rfl⟩ : ∃ n : Nat, size = n := ⟨size.toNat, by omega⟩
    obtain ⟨b, hb⟩ : ∃ b, bestL l sz = b := ⟨_, rfl⟩
    have HBO : Hid (bestOut l sz = ((sz : Int), b, (0 : Int))) := by
      show _ = _
      unfold bestOut; rw [if_pos hwe, Int.toNat_natCast, hb]
    have h6 : 1 ≤ sz := by omega
    have h7 : sz ≤ 1000000 := by omega
    obtain ⟨q1, q2, q3⟩ := best_is h6 hb
    have h4 := stream_ok h1
    have HV := Lib.hid h4.2
    have h5 := h4.1
    obtain ⟨bs, ba, bf⟩ := b
    simp only at q1 q2 q3
    have Q1 := Lib.hid q1; have Q2 := Lib.hid q2; have Q3 := Lib.hid q3
    have GA : Hid (w.grownBy ((w.alloc (.cells #[.slice ao l.length cap] 22)).alloc (.cells #[.int .i64 sz] 3)) none) := grown_trans (World.grownBy_alloc _ _ _) (World.grownBy_alloc _ _ _)
    clear q1 q2 q3 h4 hb hwe h1 h2 h3
    go_enter Try.func5, Try.ntmps5
    go_wp2_with fail
    refine (Best_any ao cap l hl sz _ (HS.out.grown GA.out) HBO).mono ?_; rintro e w1 ⟨rfl, hg1⟩
    have K := Lib.hid (grown_trans hg1 (World.grownBy_alloc w1 (.cells #[.int .i64 sz, .int .i64 bs, .int .i64 ba, .bool bf] 30) none))
    clear hg1
    have cl : (w1.alloc (.cells #[.int .i64 sz, .int .i64 bs, .int .i64 ba, .bool bf] 30)).cell? ⟨w.heap.size, 0, none⟩ = some (.slice ao l.length cap) := grown_cell K.out (by go_simp)
    have cs : (w1.alloc (.cells #[.int .i64 sz, .int .i64 bs, .int .i64 ba, .bool bf] 30)).cell? ⟨w.heap.size + 1, 0, none⟩ = some (.int .i64 sz) := grown_cell K.out (by go_simp)
    have HSB := Lib.hid (HS.out.grown (grown_trans GA.out K.out))
    go_wp2_with fail
    refine (lawsum_any _ _ _ ao cap l h5 HV.out hcap sz h6 h7 _ HSB.out cl cs).mono ?_; rintro e w2 ⟨⟨n1, k1, rfl, hs1⟩, rfl⟩
    rcases hs1 with ⟨rfl, a, rfl, hk, hn⟩ | ⟨rfl, _⟩
    · obtain ⟨rfl, hq⟩ := Q3.out a hk
      rw [← hn] at hq
      clear hk hn
      rcases hq with hq | ⟨hq0, hq⟩
      · have hq1 : ¬ bs < n1 := by omega
        have hq2 : (n1 == bs) = false := by rw [beq_eq_false_iff_ne]; omega
        clear hq
        go_wp2_with fail
        refine (lawsum_any _ _ _ ao cap l h5 HV.out hcap sz h6 h7 _ HSB.out cl cs).mono ?_; rintro e w3 ⟨⟨n2, k2, rfl, hs2⟩, rfl⟩
        have e2 : k2 = true ∧ n2 = bs := by
          obtain ⟨a, ha, hk, hsum⟩ := Q2.out (by first | rfl | trivial)
          rcases hs2 with ⟨e, a', ha', hk', hn⟩ | ⟨e, hno⟩
          · obtain rfl : a' = a := by omega
            exact ⟨e, by rw [hn, hsum]⟩
          · exact absurd ⟨a, ha, hk⟩ hno
        obtain ⟨rfl, rfl⟩ := e2
        clear hs2 Q2 Q3
        go_wp2_with fail
        refine (etold_any _).mono ?_; rintro e w4 ⟨rfl, hg4⟩
        have K2 := Lib.hid (grown_trans K.out hg4)
        clear hg4
        go_wp2_with fail
        go_ret
        exact ⟨by first | rfl | simp, grown_trans GA.out K2.out⟩
      · replace hq0 := hq0.symm
        subst hq0
        go_wp2_with fail
        refine (lawsum_any _ _ _ ao cap l h5 HV.out hcap sz h6 h7 _ HSB.out cl cs).mono ?_; rintro e w3 ⟨⟨n2, k2, rfl, hs2⟩, rfl⟩
        have e2 : k2 = true ∧ n2 = bs := by
          obtain ⟨a, ha, hk, hsum⟩ := Q2.out (by first | rfl | trivial)
          rcases hs2 with ⟨e, a', ha', hk', hn⟩ | ⟨e, hno⟩
          · obtain rfl : a' = a := by omega
            exact ⟨e, by rw [hn, hsum]⟩
          · exact absurd ⟨a, ha, hk⟩ hno
        obtain ⟨rfl, rfl⟩ := e2
        clear hs2 Q2 Q3
        go_wp2_with fail
        refine (etold_any _).mono ?_; rintro e w4 ⟨rfl, hg4⟩
        have K2 := Lib.hid (grown_trans K.out hg4)
        clear hg4
        go_wp2_with fail
        go_ret
        exact ⟨by first | rfl | simp, grown_trans GA.out K2.out⟩
    · cases bf
      · go_wp2_with fail
        refine (lawsum_any _ _ _ ao cap l h5 HV.out hcap sz h6 h7 _ HSB.out cl cs).mono ?_; rintro e w3 ⟨⟨n2, k2, rfl, hs2⟩, rfl⟩
        clear hs2 Q2 Q3
        go_wp2_with fail
        refine (etold_any _).mono ?_; rintro e w4 ⟨rfl, hg4⟩
        have K2 := Lib.hid (grown_trans K.out hg4)
        clear hg4
        go_wp2_with fail
        go_ret
        exact ⟨by first | rfl | simp, grown_trans GA.out K2.out⟩
      · go_wp2_with fail
        refine (lawsum_any _ _ _ ao cap l h5 HV.out hcap sz h6 h7 _ HSB.out cl cs).mono ?_; rintro e w3 ⟨⟨n2, k2, rfl, hs2⟩, rfl⟩
        have e2 : k2 = true ∧ n2 = bs := by
          obtain ⟨a, ha, hk, hsum⟩ := Q2.out (by first | rfl | trivial)
          rcases hs2 with ⟨e, a', ha', hk', hn⟩ | ⟨e, hno⟩
          · obtain rfl : a' = a := by omega
            exact ⟨e, by rw [hn, hsum]⟩
          · exact absurd ⟨a, ha, hk⟩ hno
        obtain ⟨rfl, rfl⟩ := e2
        clear hs2 Q2 Q3
        go_wp2_with fail
        refine (etold_any _).mono ?_; rintro e w4 ⟨rfl, hg4⟩
        have K2 := Lib.hid (grown_trans K.out hg4)
        clear hg4
        go_wp2_with fail
        go_ret
        exact ⟨by first | rfl | simp, grown_trans GA.out K2.out⟩
  · have HBO : Hid (bestOut l size = (0, ⟨0, 0, false⟩, we)) := by
      show _ = _
      unfold bestOut; rw [if_neg (by rw [hwe]; exact h0), hwe]
    have hne : (we != 0) = true := by simpa using h0
    have GA : Hid (w.grownBy ((w.alloc (.cells #[.slice ao l.length cap] 22)).alloc (.cells #[.int .i64 size] 3)) none) := grown_trans (World.grownBy_alloc _ _ _) (World.grownBy_alloc _ _ _)
    clear hwe
    go_enter Try.func5, Try.ntmps5
    go_wp2_with fail
    refine (Best_any ao cap l hl size _ (HS.out.grown GA.out) HBO).mono ?_; rintro e w1 ⟨rfl, hg1⟩
    have K := Lib.hid (grown_trans hg1 (World.grownBy_alloc w1 (.cells #[.int .i64 0, .int .i64 0, .int .i64 0, .bool false] 30) none))
    clear hg1
    have cl : (w1.alloc (.cells #[.int .i64 0, .int .i64 0, .int .i64 0, .bool false] 30)).cell? ⟨w.heap.size, 0, none⟩ = some (.slice ao l.length cap) := grown_cell K.out (by go_simp)
    have cs : (w1.alloc (.cells #[.int .i64 0, .int .i64 0, .int .i64 0, .bool false] 30)).cell? ⟨w.heap.size + 1, 0, none⟩ = some (.int .i64 size) := grown_cell K.out (by go_simp)
    have HSB := Lib.hid (HS.out.grown (grown_trans GA.out K.out))
    go_wp2_with fail
    refine (rBest_err ao cap l hl size _ HSB.out HWE h0).mono ?_; rintro e w2 ⟨rfl, hg2⟩
    replace K := Lib.hid (grown_trans K.out hg2)
    clear hg2 cl cs
    go_wp2_with fail
    refine (etold_any _).mono ?_; rintro e w3 ⟨rfl, hg3⟩
    replace K := Lib.hid (grown_trans (grown_trans K.out (World.grownBy_alloc _ _ _)) hg3)
    clear hg3
    go_wp2_with fail
    go_ret
    exact ⟨by first | rfl | simp, grown_trans GA.out K.out⟩

end Go.Proofs.Ytkifmjohcmjeeaa
