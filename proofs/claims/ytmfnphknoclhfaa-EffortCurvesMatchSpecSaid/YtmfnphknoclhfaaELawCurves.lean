/- For all streams and sizes, CheckSizes, Curve, Smooth and Hard return what the reference returns: the walk. -/
import Derived.Test.YtmfnphknoclhfaaEHardB
import Derived.Test.YtmfnphknoclhfaaERCurve
import Derived.Test.YtmfnphknoclhfaaEMean
namespace Go.Proofs.Ytmfnphknoclhfaa
open Go.RowKit

set_option maxRecDepth 100000 in
set_option maxHeartbeats 1600000 in
theorem curves_law (ao : Option Addr) (cap : Nat) (l : List Int) (hl : (l.length : Int) ≤ 9223372036854775807) (so : Option Addr) (sc : Nat) (ss : List Int) (hz : (ss.length : Int) ≤ 9223372036854775807) (size : Int) (w : World) (hs : IntsAt w ao l) (_ : l.length ≤ cap) (hss : IntsAt w so ss) (_ : ss.length ≤ sc) :
    Calls Try.prog 3 #[.slice ao l.length cap, .slice so ss.length sc, .int .i64 size] w fun e w' => e = .returned (.bool true) ∧ w.grownBy w' none := by
  obtain ⟨⟨L, E⟩, hE⟩ : ∃ q, curveOut l ss = q := ⟨_, rfl⟩
  obtain ⟨D, hD⟩ : ∃ e, windowE l size = e := ⟨_, rfl⟩
  obtain ⟨n, hn⟩ : ∃ n, smoothN l size = n := ⟨_, rfl⟩
  obtain ⟨ze, hze⟩ : ∃ e, sizesE ss = e := ⟨_, rfl⟩
  obtain ⟨hh, ok, HE, hH, hR⟩ := chard_both l hl
  have HLN : Hid (L.length ≤ 20000) := curve_len hE
  have HN5 : Hid (n ≤ 9223372036854775807) := by show _ ≤ _; rw [← hn]; unfold smoothN; split <;> omega
  have KE := Lib.hid hE; have KD := Lib.hid hD; have KN := Lib.hid hn; have KZ := Lib.hid hze
  have KH := Lib.hid hH; have KR := Lib.hid hR
  have HS := Lib.hid hs; have HZ := Lib.hid hss
  clear hE hD hn hze hH hR hs hss
  go_enter Try.func3, Try.ntmps3
  go_wp2_with fail
  refine (curve_any ao cap l hl so sc ss hz w HS.out HZ.out KE).mono ?_; rintro e w1 ⟨⟨v1, rfl, ho1⟩, hg1⟩
  have HO1 := Lib.hid ho1; have K := Lib.hid hg1
  clear ho1 hg1
  go_wp2_with fail
  refine (rcurve_any ao cap l hl so sc ss hz w1 (HS.out.grown K.out) (HZ.out.grown K.out) KE).mono ?_; rintro e w2 ⟨⟨v2, rfl, ho2⟩, hg2⟩
  have HO2 := Lib.hid ho2
  replace HO1 := Lib.hid (kept_own HO1.out hg2)
  replace K := Lib.hid (grown_trans K.out hg2)
  clear ho2 hg2
  go_wp2_with fail
  refine (smoothP_any ao cap l hl size w2 (HS.out.grown K.out) KD KN).mono ?_; rintro e w3 ⟨⟨a3, c3, rfl, hf3⟩, hg3⟩
  have HF3 := Lib.hid hf3
  replace HO1 := Lib.hid (kept_own HO1.out hg3); replace HO2 := Lib.hid (kept_own HO2.out hg3)
  replace K := Lib.hid (grown_trans K.out hg3)
  clear hf3 hg3
  go_wp2_with fail
  refine (rSmooth_any ao cap l hl size w3 (HS.out.grown K.out) KD KN).mono ?_; rintro e w4 ⟨⟨a4, c4, rfl, hf4⟩, hg4⟩
  have HF4 := Lib.hid hf4
  replace HF3 := Lib.hid (HF3.out.grown hg4)
  replace HO1 := Lib.hid (kept_own HO1.out hg4); replace HO2 := Lib.hid (kept_own HO2.out hg4)
  replace K := Lib.hid (grown_trans K.out hg4)
  clear hf4 hg4
  go_wp2_with fail
  refine (KH.out ao cap w4 (HS.out.grown K.out)).mono ?_; rintro e w5 ⟨rfl, hg5⟩
  replace HF3 := Lib.hid (HF3.out.grown hg5); replace HF4 := Lib.hid (HF4.out.grown hg5)
  replace HO1 := Lib.hid (kept_own HO1.out hg5); replace HO2 := Lib.hid (kept_own HO2.out hg5)
  replace K := Lib.hid (grown_trans K.out hg5)
  clear hg5
  go_wp2_with fail
  refine (KR.out ao cap w5 (HS.out.grown K.out)).mono ?_; rintro e w6 ⟨rfl, hg6⟩
  replace HF3 := Lib.hid (HF3.out.grown hg6); replace HF4 := Lib.hid (HF4.out.grown hg6)
  replace HO1 := Lib.hid (kept_own HO1.out hg6); replace HO2 := Lib.hid (kept_own HO2.out hg6)
  replace K := Lib.hid (grown_trans K.out hg6)
  clear hg6
  have HZ6 := Lib.hid (HZ.out.grown K.out)
  go_wp2_with (first
    | (go_at_call 21; refine (checkSizes_any so sc ss hz _ HZ6.out KZ).mono ?_; rintro e w7 ⟨rfl, rfl⟩)
    | (go_at_call 22; refine (rcheckSizes_any so sc ss hz _ HZ6.out KZ).mono ?_; rintro e w7 ⟨rfl, rfl⟩))
  refine (equal_bests HO1.out HO2.out HLN.out).mono ?_; rintro e w7 ⟨rfl, hg7⟩
  replace HF3 := Lib.hid (HF3.out.grown hg7); replace HF4 := Lib.hid (HF4.out.grown hg7)
  replace K := Lib.hid (grown_trans K.out hg7)
  clear hg7 HO1 HO2 HZ6
  go_wp2_with fail
  refine (equal_fints HF3.out HF4.out (fun _ _ => rfl) HN5.out).mono ?_; rintro e w8 ⟨rfl, hg8⟩
  replace K := Lib.hid (grown_trans K.out hg8)
  clear hg8 HF3 HF4
  go_wp2_with fail
  refine (etold_any _).mono ?_; rintro e w9 ⟨rfl, hg9⟩
  replace K := Lib.hid (grown_trans K.out hg9)
  clear hg9
  go_wp2_with fail
  go_ret
  exact ⟨by first | rfl | simp, K.out⟩
end Go.Proofs.Ytmfnphknoclhfaa
