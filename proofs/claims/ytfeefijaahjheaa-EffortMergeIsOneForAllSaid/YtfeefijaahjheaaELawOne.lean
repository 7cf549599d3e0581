/- For all three curves it does not matter which two are merged first, a curve merged with itself stays, and none beats what it was merged into: the walk. -/
import Derived.Test.YtfeefijaahjheaaELawMrg
import Derived.Test.YtfeefijaahjheaaEOneP
namespace Go.Proofs.Ytfeefijaahjheaa
open Go.RowKit
set_option linter.unusedSimpArgs false
set_option linter.unusedVariables false

set_option maxRecDepth 100000 in
set_option maxHeartbeats 3200000 in
theorem one_law (ao : Option Addr) (ca : Nat) (a : List BestV) (ha : (a.length : Int) ≤ 4398046511104) (bo : Option Addr) (cb : Nat) (b : List BestV) (hb : (b.length : Int) ≤ 4398046511104) (co : Option Addr) (cc : Nat) (c : List BestV) (hc : (c.length : Int) ≤ 4398046511104) (w : World) (hs : RowsAt bestCs 4 w ao a) (hca : a.length ≤ ca) (ht : RowsAt bestCs 4 w bo b) (hcb : b.length ≤ cb) (hu : RowsAt bestCs 4 w co c) (hcc : c.length ≤ cc) :
    Calls Try.prog 7 #[.slice ao a.length ca, .slice bo b.length cb, .slice co c.length cc] w fun e w' => e = .returned (.bool true) ∧ w.grownBy w' none := by
  obtain ⟨⟨X, E⟩, hE⟩ : ∃ q, mrgOut a b = q := ⟨_, rfl⟩
  obtain ⟨⟨Y, F⟩, hF⟩ : ∃ q, mrgOut b c = q := ⟨_, rfl⟩
  have KE := Lib.hid hE; have KF := Lib.hid hF
  have HS := Lib.hid hs; have HT := Lib.hid ht; have HU := Lib.hid hu
  clear hE hF hs ht hu
  go_enter Try.func7, Try.ntmps7
  go_wp2_with fail
  refine (merge_is ao bo ca cb a b ha hb w HS.out HT.out KE).mono ?_; rintro e w1 ⟨⟨v1, rfl, ho1⟩, hg1⟩
  have HO1 := Lib.hid ho1; have K := Lib.hid hg1
  clear ho1 hg1
  go_wp2_with fail
  refine (merge_is bo co cb cc b c hb hc w1 (HT.out.grown K.out) (HU.out.grown K.out) KF).mono ?_; rintro e w2 ⟨⟨v2, rfl, ho2⟩, hg2⟩
  have HO2 := Lib.hid ho2
  replace HO1 := Lib.hid (kept_own HO1.out hg2)
  replace K := Lib.hid (grown_trans K.out hg2)
  clear ho2 hg2
  by_cases h0 : E = 0 ∧ F = 0
  · obtain ⟨rfl, rfl⟩ := h0
    obtain ⟨A1, B1, EX, LX⟩ := mrgOut_ok KE.out
    obtain ⟨_, C1, EY, LY⟩ := mrgOut_ok KF.out
    have X1 : CrvIn X := by rw [EX]; exact mrg_crv A1 B1 (by rw [← EX]; exact LX)
    have Y1 : CrvIn Y := by rw [EY]; exact mrg_crv B1 C1 (by rw [← EY]; exact LY)
    have EA : mrgM X c = mrgM a Y := by rw [EX, EY]; exact mrg_assoc A1.pw B1.pw C1.pw
    obtain ⟨U, hU⟩ : ∃ U, mrgM X c = U := ⟨_, rfl⟩
    have hX := mrgOut_of X1 C1
    have hY := mrgOut_of A1 Y1
    rw [← EA] at hY
    rw [hU] at hX hY
    have hxl : (X.length : Int) ≤ 4398046511104 := by omega
    have hyl : (Y.length : Int) ≤ 4398046511104 := by omega
    have HCA := Lib.hid A1; have HCB := Lib.hid B1; have HCC := Lib.hid C1; have HCX := Lib.hid X1; have HEX := Lib.hid EX; have HUX := Lib.hid hU
    obtain ⟨ax, cx, rfl, hlx, hrx, _⟩ := own_rows (cs := bestCs) (K := 4) (fun _ => rfl) HO1.out
    obtain ⟨ay, cy, rfl, hly, hry, _⟩ := own_rows (cs := bestCs) (K := 4) (fun _ => rfl) HO2.out
    have HRX := Lib.hid hrx; have HRY := Lib.hid hry
    clear A1 B1 C1 X1 Y1 EX EY EA LX LY hrx hry hU
    by_cases h1 : U.length ≤ 100
    · rw [if_pos h1] at hX hY
      have KX := Lib.hid hX; have KY := Lib.hid hY
      have hul : (U.length : Int) ≤ 4398046511104 := by omega
      have HUL := Lib.hid h1
      clear hX hY h1
      go_wp2_with fail
      refine (merge_is ax co cx cc X c hxl hc w2 HRX.out (HU.out.grown K.out) KX).mono ?_; rintro e w3 ⟨⟨v3, rfl, ho3⟩, hg3⟩
      have HO3 := Lib.hid ho3
      replace HRY := Lib.hid (HRY.out.grown hg3)
      replace K := Lib.hid (grown_trans K.out hg3)
      clear ho3 hg3 HO1 HO2 HRX
      go_wp2_with fail
      refine (merge_is ao ay ca cy a Y ha hyl w3 (HS.out.grown K.out) HRY.out KY).mono ?_; rintro e w4 ⟨⟨v4, rfl, ho4⟩, hg4⟩
      have HO4 := Lib.hid ho4
      replace HO3 := Lib.hid (kept_own HO3.out hg4)
      replace K := Lib.hid (grown_trans K.out hg4)
      clear ho4 hg4 HRY
      have hum := HUX.out
      have HCU : Hid (CrvIn U) := by
        show CrvIn U
        rw [← hum]; exact mrg_crv HCX.out HCC.out (by rw [hum]; exact HUL.out)
      have KUU : Hid (mrgOut U U = (U, 0)) := by
        show _ = _
        rw [mrgOut_of HCU.out HCU.out, mrg_self HCU.out.pw, if_pos HUL.out]
      have KBU : Hid (btsOut b U = ([], 0)) := by
        show _ = _
        rw [← hum, HEX.out]
        refine btsOut_none HCA.out HCB.out HCC.out ?_
        rw [← HEX.out, hum]; exact HCU.out
      have HUL2 : Hid (U.length ≤ 20000) := by show _ ≤ _; have := HUL.out; omega
      obtain ⟨au, cu, rfl, hlu, hru, _⟩ := own_rows (cs := bestCs) (K := 4) (fun _ => rfl) HO3.out
      have HRU := Lib.hid hru
      clear hru hum
      go_wp2_with fail
      refine (merge_is au au cu cu U U hul hul w4 HRU.out HRU.out KUU).mono ?_; rintro e w5 ⟨⟨v5, rfl, ho5⟩, hg5⟩
      have HO5 := Lib.hid ho5
      replace HO3 := Lib.hid (kept_own HO3.out hg5); replace HO4 := Lib.hid (kept_own HO4.out hg5)
      replace HRU := Lib.hid (HRU.out.grown hg5)
      replace K := Lib.hid (grown_trans K.out hg5)
      clear ho5 hg5
      go_wp2_with fail
      refine (beats_is bo au cb cu b U hb hul w5 (HT.out.grown K.out) HRU.out KBU).mono ?_; rintro e w6 ⟨⟨v6, rfl, ho6⟩, hg6⟩
      obtain ⟨a6, c6, rfl, _⟩ := ints_fints ho6
      replace HO3 := Lib.hid (kept_own HO3.out hg6); replace HO4 := Lib.hid (kept_own HO4.out hg6); replace HO5 := Lib.hid (kept_own HO5.out hg6)
      replace K := Lib.hid (grown_trans K.out hg6)
      clear ho6 hg6
      go_wp2_with fail
      refine (equal_bests HO3.out HO4.out HUL2.out).mono ?_; rintro e w7 ⟨rfl, hg7⟩
      replace HO3 := Lib.hid (kept_own HO3.out hg7); replace HO5 := Lib.hid (kept_own HO5.out hg7)
      replace K := Lib.hid (grown_trans K.out hg7)
      clear hg7
      go_wp2_with fail
      refine (equal_bests HO3.out HO5.out HUL2.out).mono ?_; rintro e w8 ⟨rfl, hg8⟩
      replace K := Lib.hid (grown_trans K.out hg8)
      clear hg8
      go_wp2_with fail
      refine (etold_any _).mono ?_; rintro e w9 ⟨rfl, hg9⟩
      replace K := Lib.hid (grown_trans K.out hg9)
      clear hg9
      go_wp2_with fail
      go_ret
      exact ⟨by first | rfl | simp, K.out⟩
    · rw [if_neg h1] at hX hY
      have KX := Lib.hid hX; have KY := Lib.hid hY
      clear hX hY h1
      go_wp2_with fail
      refine (merge_is ax co cx cc X c hxl hc w2 HRX.out (HU.out.grown K.out) KX).mono ?_; rintro e w3 ⟨⟨v3, rfl, ho3⟩, hg3⟩
      replace HRY := Lib.hid (HRY.out.grown hg3)
      replace K := Lib.hid (grown_trans K.out hg3)
      clear ho3 hg3 HO1 HO2 HRX
      go_wp2_with fail
      refine (merge_is ao ay ca cy a Y ha hyl w3 (HS.out.grown K.out) HRY.out KY).mono ?_; rintro e w4 ⟨⟨v4, rfl, ho4⟩, hg4⟩
      replace K := Lib.hid (grown_trans K.out hg4)
      clear ho4 hg4 HRY
      go_wp2_with fail
      refine (etold_any _).mono ?_; rintro e w9 ⟨rfl, hg9⟩
      replace K := Lib.hid (grown_trans K.out hg9)
      clear hg9
      go_wp2_with fail
      go_ret
      exact ⟨by first | rfl | simp, K.out⟩
  · have hor : E ≠ 0 ∨ (E = 0 ∧ F ≠ 0) := by omega
    rcases hor with he | ⟨rfl, hf⟩
    · have he2 : (E != 0) = true := by simpa using he
      clear h0 he
      go_wp2_with fail
      refine (rmerge_is ao bo ca cb a b ha hb hca hcb w2 (HS.out.grown K.out) (HT.out.grown K.out) KE).mono ?_; rintro e w3 ⟨⟨v3, rfl, ho3⟩, hg3⟩
      replace K := Lib.hid (grown_trans K.out hg3)
      clear ho3 hg3
      go_wp2_with fail
      refine (etold_any _).mono ?_; rintro e w9 ⟨rfl, hg9⟩
      replace K := Lib.hid (grown_trans K.out hg9)
      clear hg9
      go_wp2_with fail
      go_ret
      exact ⟨by first | rfl | simp, K.out⟩
    · have hf2 : (F != 0) = true := by simpa using hf
      clear h0 hf
      go_wp2_with fail
      refine (rmerge_is ao bo ca cb a b ha hb hca hcb w2 (HS.out.grown K.out) (HT.out.grown K.out) KE).mono ?_; rintro e w3 ⟨⟨v3, rfl, ho3⟩, hg3⟩
      replace K := Lib.hid (grown_trans K.out hg3)
      clear ho3 hg3
      go_wp2_with fail
      refine (etold_any _).mono ?_; rintro e w9 ⟨rfl, hg9⟩
      replace K := Lib.hid (grown_trans K.out hg9)
      clear hg9
      go_wp2_with fail
      go_ret
      exact ⟨by first | rfl | simp, K.out⟩
end Go.Proofs.Ytfeefijaahjheaa
