/- For two sets of spans and a number: what is made of them has the numbers that it should, sizes add up, and the text of a set is read as this set: the walk. -/
import Derived.Test.YtbacoopopokkfaaDoorQRdB
import Derived.Test.YtbacoopopokkfaaDoorQSetS
import Derived.Test.YtbacoopopokkfaaDoorQSetU
import Derived.Test.YtbacoopopokkfaaDoorQTold
namespace Go.Proofs.YtbacoopopokkfaaDoor
open Go.RowKit
set_option linter.unusedSimpArgs false
set_option linter.unusedVariables false

theorem sp_rowsV {b : Nat} {w : World} {p : Option Addr} {c : Nat} {L : List SpV} (h : SpOwn b w (.slice p L.length c) L) : RowsAt spCs 2 w p L := by
  obtain ⟨q, d, e, r⟩ := h.rows
  simp only [Value.slice.injEq] at e
  rw [e.1]; exact r
theorem both_ok {A B R : List SpV} (h1 : chkS A = 0) (h2 : chkS B = 0) (h3 : R.length ≤ 1000) : bothR A B R = (R, 0) := by
  unfold bothR; rw [h1, h2, if_pos rfl, if_pos rfl, if_neg (by omega)]
theorem has_ok {A : List SpV} (n : Int) (h : chkS A = 0) : hasR A n = (covS A n, 0) := by unfold hasR; rw [h, if_pos rfl]
theorem siz_ok {A : List SpV} (h : chkS A = 0) : sizR A = (sizS A, 0) := by unfold sizR; rw [h, if_pos rfl]
theorem txt_ok {A : List SpV} (h : chkS A = 0) : txtR A = (textB A, 0) := by unfold txtR; rw [h, if_pos rfl]
theorem siz_bd1 {A : List SpV} (h : chkS A = 0) : 0 ≤ sizS A ∧ sizS A ≤ 1000000000001000 := by
  obtain ⟨a, b, _⟩ := chkS_ok h
  have q := siz_bd b A.length (Nat.le_refl _)
  rw [List.take_length] at q
  omega

set_option maxRecDepth 100000 in
set_option maxHeartbeats 12800000 in
theorem are_walk (ao : Option Addr) (ac : Nat) (A : List SpV) (hla : (A.length : Int) ≤ 9223372036854775807) (bo : Option Addr) (bc : Nat) (B : List SpV) (hlb : (B.length : Int) ≤ 9223372036854775807) (n : Int) (w : World) (ha : RowsAt spCs 2 w ao A) (hb : RowsAt spCs 2 w bo B) (ht : PowTab w) :
    Calls Tryd.prog 3 #[.slice ao A.length ac, .slice bo B.length bc, .int .i64 n] w fun e w' => e = .returned (.bool true) ∧ w.grownBy w' none := by
  obtain ⟨p, e1, hv1⟩ : ∃ l e, hasR A n = (l, e) := ⟨_, _, rfl⟩
  obtain ⟨q, e2, hv2⟩ : ∃ l e, hasR B n = (l, e) := ⟨_, _, rfl⟩
  have HHA := Lib.hid hv1; have HHB := Lib.hid hv2
  have HA := Lib.hid ha; have HB := Lib.hid hb; have HT := Lib.hid ht
  have HG := Lib.hid (World.grownBy.refl w none)
  have E1 : Hid (e1 = chkS A) := by
    show _ = _
    unfold hasR at hv1
    split at hv1
    · simp only [Prod.mk.injEq] at hv1; omega
    · simp only [Prod.mk.injEq] at hv1; exact hv1.2.symm
  have E2 : Hid (e2 = chkS B) := by
    show _ = _
    unfold hasR at hv2
    split at hv2
    · simp only [Prod.mk.injEq] at hv2; omega
    · simp only [Prod.mk.injEq] at hv2; exact hv2.2.symm
  clear hv1 hv2 ha hb ht
  go_enter Tryd.func3, Tryd.ntmps3
  go_wp2_with fail
  refine (Has_is ao ac A hla _ (HA.out.grown HG.out) n HHA.out).mono ?_
  rintro x w1 ⟨rfl, hg1⟩
  have HGn := Lib.hid (grown_trans HG.out hg1); clear HG; have HG := HGn; clear HGn
  clear hg1
  go_wp2_with fail
  refine (Has_is bo bc B hlb _ (HB.out.grown HG.out) n HHB.out).mono ?_
  rintro x w2 ⟨rfl, hg2⟩
  have HGn := Lib.hid (grown_trans HG.out hg2); clear HG; have HG := HGn; clear HGn
  clear hg2
  by_cases c1 : e1 = 0
  · by_cases c2 : e2 = 0
    · have k1 : chkS A = 0 := by rw [← E1.out]; exact c1
      have k2 : chkS B = 0 := by rw [← E2.out]; exact c2
      subst c1; subst c2
      obtain ⟨la, ia, ca⟩ := chkS_ok k1
      obtain ⟨lb_, ib, cb⟩ := chkS_ok k2
      have rwl : IntKind.i64.wrap ((A.length : Int) + (B.length : Int)) = (A.length : Int) + (B.length : Int) := IntWalk.i64_in _ (by omega)
      by_cases c3 : (A.length : Int) + (B.length : Int) ≤ 1000
      · obtain ⟨n1, n2, n3⟩ := cmb_len ia ib ca cb
        have j1 := chk_of (L := cmbL A B 1) (by omega) (cmb_inB ia ib ca cb 1) (cmb_ok ca cb 1).1
        have j2 := chk_of (L := cmbL A B 2) (by omega) (cmb_inB ia ib ca cb 2) (cmb_ok ca cb 2).1
        have j3 := chk_of (L := cmbL A B 3) (by omega) (cmb_inB ia ib ca cb 3) (cmb_ok ca cb 3).1
        have HV1 := Lib.hid (both_ok k1 k2 (R := cmbL A B 1) (by omega)); have HV2 := Lib.hid (both_ok k1 k2 (R := cmbL A B 2) (by omega)); have HV3 := Lib.hid (both_ok k1 k2 (R := cmbL A B 3) (by omega))
        have pA : covS A n = p := by have := HHA.out; rw [has_ok n k1] at this; simpa using this
        have pB : covS B n = q := by have := HHB.out; rw [has_ok n k2] at this; simpa using this
        obtain ⟨ub, hub⟩ : ∃ b, keepH 1 p q = b := ⟨_, rfl⟩
        obtain ⟨cb_, hcb⟩ : ∃ b, keepH 2 p q = b := ⟨_, rfl⟩
        obtain ⟨lb, hlb_⟩ : ∃ b, keepH 3 p q = b := ⟨_, rfl⟩
        have HK1 : Hid (hasR (cmbL A B 1) n = (ub, 0)) := by show _ = _; rw [has_ok n j1, (cmb_ok ca cb 1).2.1 n, pA, pB, hub]
        have HK2 : Hid (hasR (cmbL A B 2) n = (cb_, 0)) := by show _ = _; rw [has_ok n j2, (cmb_ok ca cb 2).2.1 n, pA, pB, hcb]
        have HK3 : Hid (hasR (cmbL A B 3) n = (lb, 0)) := by show _ = _; rw [has_ok n j3, (cmb_ok ca cb 3).2.1 n, pA, pB, hlb_]
        have HU := Lib.hid hub; have HCB := Lib.hid hcb; have HLB := Lib.hid hlb_
        obtain ⟨za, hza⟩ : ∃ z, sizS A = z := ⟨_, rfl⟩
        obtain ⟨zb, hzb⟩ : ∃ z, sizS B = z := ⟨_, rfl⟩
        obtain ⟨zu, hzu⟩ : ∃ z, sizS (cmbL A B 1) = z := ⟨_, rfl⟩
        obtain ⟨zc, hzc⟩ : ∃ z, sizS (cmbL A B 2) = z := ⟨_, rfl⟩
        obtain ⟨zl, hzl⟩ : ∃ z, sizS (cmbL A B 3) = z := ⟨_, rfl⟩
        have ad := siz_adds ia ib ca cb
        have ba := siz_bd1 k1; have bb := siz_bd1 k2; have bu := siz_bd1 j1; have bcm := siz_bd1 j2; have bl := siz_bd1 j3
        rw [hza] at ba; rw [hzb] at bb; rw [hzu] at bu; rw [hzc] at bcm; rw [hzl] at bl
        rw [hzu, hzc, hza, hzb, hzl] at ad
        have HZB5 : Hid ((0 ≤ za ∧ za ≤ 1000000000001000) ∧ (0 ≤ zb ∧ zb ≤ 1000000000001000) ∧ (0 ≤ zu ∧ zu ≤ 1000000000001000) ∧ (0 ≤ zc ∧ zc ≤ 1000000000001000) ∧ (0 ≤ zl ∧ zl ≤ 1000000000001000)) := ⟨ba, bb, bu, bcm, bl⟩
        have HS1 := Lib.hid ad.1; have HS2 := Lib.hid ad.2
        have HZA : Hid (sizR A = (za, 0)) := by show _ = _; rw [siz_ok k1, hza]
        have HZB : Hid (sizR B = (zb, 0)) := by show _ = _; rw [siz_ok k2, hzb]
        have HZ1 : Hid (sizR (cmbL A B 1) = (zu, 0)) := by show _ = _; rw [siz_ok j1, hzu]
        have HZ2 : Hid (sizR (cmbL A B 2) = (zc, 0)) := by show _ = _; rw [siz_ok j2, hzc]
        have HZ3 : Hid (sizR (cmbL A B 3) = (zl, 0)) := by show _ = _; rw [siz_ok j3, hzl]
        have HX := Lib.hid (txt_ok k1)
        have HRD := Lib.hid (read_text k1)
        have HTS : Hid ((textB A).size ≤ 51000) := by show _ ≤ _; have := text_size ia; omega
        have HLN : Hid ((cmbL A B 1).length ≤ 1000 ∧ (cmbL A B 2).length ≤ 1000 ∧ (cmbL A B 3).length ≤ 1000) := ⟨by omega, by omega, by omega⟩
        clear k1 k2 la ia ca lb_ ib cb n1 n2 n3 j1 j2 j3 pA pB hub hcb hlb_ hza hzb hzu hzc hzl ad ba bb bu bcm bl E1 E2 HHA HHB
        go_wp2_with fail
        refine (Union_is ao bo ac bc A B hla hlb _ (HA.out.grown HG.out) (HB.out.grown HG.out) HV1.out).mono ?_
        rintro x w3 ⟨⟨v1, rfl, ho1⟩, hg3⟩
        obtain ⟨p1, c1, rfl, _⟩ := ho1.rows
        have HO1 := Lib.hid ho1
        have HGn := Lib.hid (grown_trans HG.out hg3); clear HG; have HG := HGn; clear HGn
        clear ho1 hg3
        go_wp2_with fail
        refine (Common_is ao bo ac bc A B hla hlb _ (HA.out.grown HG.out) (HB.out.grown HG.out) HV2.out).mono ?_
        rintro x w4 ⟨⟨v2, rfl, ho2⟩, hg4⟩
        have HO1n := Lib.hid (HO1.out.keep hg4); clear HO1; have HO1 := HO1n; clear HO1n
        obtain ⟨p2, c2, rfl, _⟩ := ho2.rows
        have HO2 := Lib.hid ho2
        have HGn := Lib.hid (grown_trans HG.out hg4); clear HG; have HG := HGn; clear HGn
        clear ho2 hg4
        go_wp2_with fail
        refine (Without_is ao bo ac bc A B hla hlb _ (HA.out.grown HG.out) (HB.out.grown HG.out) HV3.out).mono ?_
        rintro x w5 ⟨⟨v3, rfl, ho3⟩, hg5⟩
        have HO1n := Lib.hid (HO1.out.keep hg5); clear HO1; have HO1 := HO1n; clear HO1n
        have HO2n := Lib.hid (HO2.out.keep hg5); clear HO2; have HO2 := HO2n; clear HO2n
        obtain ⟨p3, c3, rfl, _⟩ := ho3.rows
        have HO3 := Lib.hid ho3
        have HGn := Lib.hid (grown_trans HG.out hg5); clear HG; have HG := HGn; clear HGn
        clear ho3 hg5
        go_wp2_with fail
        refine (Has_is p1 c1 (cmbL A B 1) (by have := HLN.out; omega) _ (sp_rowsV HO1.out) n HK1.out).mono ?_
        rintro x w6 ⟨rfl, hg6⟩
        have HO1n := Lib.hid (HO1.out.keep hg6); clear HO1; have HO1 := HO1n; clear HO1n
        have HO2n := Lib.hid (HO2.out.keep hg6); clear HO2; have HO2 := HO2n; clear HO2n
        have HO3n := Lib.hid (HO3.out.keep hg6); clear HO3; have HO3 := HO3n; clear HO3n
        have HGn := Lib.hid (grown_trans HG.out hg6); clear HG; have HG := HGn; clear HGn
        clear hg6
        go_wp2_with fail
        refine (Has_is p2 c2 (cmbL A B 2) (by have := HLN.out; omega) _ (sp_rowsV HO2.out) n HK2.out).mono ?_
        rintro x w7 ⟨rfl, hg7⟩
        have HO1n := Lib.hid (HO1.out.keep hg7); clear HO1; have HO1 := HO1n; clear HO1n
        have HO2n := Lib.hid (HO2.out.keep hg7); clear HO2; have HO2 := HO2n; clear HO2n
        have HO3n := Lib.hid (HO3.out.keep hg7); clear HO3; have HO3 := HO3n; clear HO3n
        have HGn := Lib.hid (grown_trans HG.out hg7); clear HG; have HG := HGn; clear HGn
        clear hg7
        go_wp2_with fail
        refine (Has_is p3 c3 (cmbL A B 3) (by have := HLN.out; omega) _ (sp_rowsV HO3.out) n HK3.out).mono ?_
        rintro x w8 ⟨rfl, hg8⟩
        have HO1n := Lib.hid (HO1.out.keep hg8); clear HO1; have HO1 := HO1n; clear HO1n
        have HO2n := Lib.hid (HO2.out.keep hg8); clear HO2; have HO2 := HO2n; clear HO2n
        have HO3n := Lib.hid (HO3.out.keep hg8); clear HO3; have HO3 := HO3n; clear HO3n
        have HGn := Lib.hid (grown_trans HG.out hg8); clear HG; have HG := HGn; clear HGn
        clear hg8
        go_wp2_with fail
        refine (Size_is ao ac A hla _ (HA.out.grown HG.out) HZA.out).mono ?_
        rintro x w9 ⟨rfl, hg9⟩
        have HO1n := Lib.hid (HO1.out.keep hg9); clear HO1; have HO1 := HO1n; clear HO1n
        have HO2n := Lib.hid (HO2.out.keep hg9); clear HO2; have HO2 := HO2n; clear HO2n
        have HO3n := Lib.hid (HO3.out.keep hg9); clear HO3; have HO3 := HO3n; clear HO3n
        have HGn := Lib.hid (grown_trans HG.out hg9); clear HG; have HG := HGn; clear HGn
        clear hg9
        go_wp2_with fail
        refine (Size_is bo bc B hlb _ (HB.out.grown HG.out) HZB.out).mono ?_
        rintro x w10 ⟨rfl, hg10⟩
        have HO1n := Lib.hid (HO1.out.keep hg10); clear HO1; have HO1 := HO1n; clear HO1n
        have HO2n := Lib.hid (HO2.out.keep hg10); clear HO2; have HO2 := HO2n; clear HO2n
        have HO3n := Lib.hid (HO3.out.keep hg10); clear HO3; have HO3 := HO3n; clear HO3n
        have HGn := Lib.hid (grown_trans HG.out hg10); clear HG; have HG := HGn; clear HGn
        clear hg10
        go_wp2_with fail
        refine (Size_is p1 c1 (cmbL A B 1) (by have := HLN.out; omega) _ (sp_rowsV HO1.out) HZ1.out).mono ?_
        rintro x w11 ⟨rfl, hg11⟩
        have HO1n := Lib.hid (HO1.out.keep hg11); clear HO1; have HO1 := HO1n; clear HO1n
        have HO2n := Lib.hid (HO2.out.keep hg11); clear HO2; have HO2 := HO2n; clear HO2n
        have HO3n := Lib.hid (HO3.out.keep hg11); clear HO3; have HO3 := HO3n; clear HO3n
        have HGn := Lib.hid (grown_trans HG.out hg11); clear HG; have HG := HGn; clear HGn
        clear hg11
        go_wp2_with fail
        refine (Size_is p2 c2 (cmbL A B 2) (by have := HLN.out; omega) _ (sp_rowsV HO2.out) HZ2.out).mono ?_
        rintro x w12 ⟨rfl, hg12⟩
        have HO1n := Lib.hid (HO1.out.keep hg12); clear HO1; have HO1 := HO1n; clear HO1n
        have HO2n := Lib.hid (HO2.out.keep hg12); clear HO2; have HO2 := HO2n; clear HO2n
        have HO3n := Lib.hid (HO3.out.keep hg12); clear HO3; have HO3 := HO3n; clear HO3n
        have HGn := Lib.hid (grown_trans HG.out hg12); clear HG; have HG := HGn; clear HGn
        clear hg12
        go_wp2_with fail
        refine (Size_is p3 c3 (cmbL A B 3) (by have := HLN.out; omega) _ (sp_rowsV HO3.out) HZ3.out).mono ?_
        rintro x w13 ⟨rfl, hg13⟩
        have HO1n := Lib.hid (HO1.out.keep hg13); clear HO1; have HO1 := HO1n; clear HO1n
        have HO2n := Lib.hid (HO2.out.keep hg13); clear HO2; have HO2 := HO2n; clear HO2n
        have HO3n := Lib.hid (HO3.out.keep hg13); clear HO3; have HO3 := HO3n; clear HO3n
        have HGn := Lib.hid (grown_trans HG.out hg13); clear HG; have HG := HGn; clear HGn
        clear hg13
        go_wp2_with fail
        refine (SpansText_is ao ac A hla _ (HA.out.grown HG.out) (tab_grownS HT.out HG.out) HX.out).mono ?_
        rintro x w14 ⟨rfl, hg14⟩
        have HGn := Lib.hid (grown_trans HG.out hg14); clear HG; have HG := HGn; clear HGn
        clear hg14 HO1 HO2 HO3
        go_wp2_with fail
        refine (ReadSpans_is (textB A) (by have := HTS.out; omega) _ HRD.out).mono ?_
        rintro x w15 ⟨⟨vb, rfl, hob⟩, hg15⟩
        obtain ⟨pb, cb, rfl, _⟩ := hob.rows
        have HOB := Lib.hid hob
        have HGn := Lib.hid (grown_trans HG.out hg15); clear HG; have HG := HGn; clear HGn
        clear hg15 hob
        have hs1 := HS1.out; have hs2 := HS2.out
        have rw1 : IntKind.i64.wrap (zu + zc) = zu + zc := IntWalk.i64_in _ (by have := HZB5.out; omega)
        have rw2 : IntKind.i64.wrap (za + zb) = za + zb := IntWalk.i64_in _ (by have := HZB5.out; omega)
        have rw3 : IntKind.i64.wrap (zl + zc) = zl + zc := IntWalk.i64_in _ (by have := HZB5.out; omega)
        have q1 : (zu + zc == za + zb) = true := by rw [beq_iff_eq]; exact hs1
        have q2 : (zl + zc == za) = true := by rw [beq_iff_eq]; exact hs2
        clear hs1 hs2
        cases p with
        | false =>
          cases q with
          | false =>
            obtain rfl : ub = false := HU.out.symm
            obtain rfl : cb_ = false := HCB.out.symm
            obtain rfl : lb = false := HLB.out.symm
            as_aux_lemma =>
              go_wp2_with fail
              refine (equal_spans (L := A) (HA.out.grown HG.out) (sp_rowsV HOB.out) hla).mono ?_
              rintro x w16 ⟨rfl, hg16⟩
              have HGn := Lib.hid (grown_trans HG.out hg16); clear HG; have HG := HGn; clear HGn
              clear hg16
              go_wp2_with fail
              refine (told_any _).mono ?_; rintro x wt ⟨rfl, hgt⟩
              go_wp2_with fail
              go_ret
              exact ⟨rfl, grown_trans HG.out hgt⟩
          | true =>
            obtain rfl : ub = true := HU.out.symm
            obtain rfl : cb_ = false := HCB.out.symm
            obtain rfl : lb = false := HLB.out.symm
            as_aux_lemma =>
              go_wp2_with fail
              refine (equal_spans (L := A) (HA.out.grown HG.out) (sp_rowsV HOB.out) hla).mono ?_
              rintro x w16 ⟨rfl, hg16⟩
              have HGn := Lib.hid (grown_trans HG.out hg16); clear HG; have HG := HGn; clear HGn
              clear hg16
              go_wp2_with fail
              refine (told_any _).mono ?_; rintro x wt ⟨rfl, hgt⟩
              go_wp2_with fail
              go_ret
              exact ⟨rfl, grown_trans HG.out hgt⟩
        | true =>
          cases q with
          | false =>
            obtain rfl : ub = true := HU.out.symm
            obtain rfl : cb_ = false := HCB.out.symm
            obtain rfl : lb = true := HLB.out.symm
            as_aux_lemma =>
              go_wp2_with fail
              refine (equal_spans (L := A) (HA.out.grown HG.out) (sp_rowsV HOB.out) hla).mono ?_
              rintro x w16 ⟨rfl, hg16⟩
              have HGn := Lib.hid (grown_trans HG.out hg16); clear HG; have HG := HGn; clear HGn
              clear hg16
              go_wp2_with fail
              refine (told_any _).mono ?_; rintro x wt ⟨rfl, hgt⟩
              go_wp2_with fail
              go_ret
              exact ⟨rfl, grown_trans HG.out hgt⟩
          | true =>
            obtain rfl : ub = true := HU.out.symm
            obtain rfl : cb_ = true := HCB.out.symm
            obtain rfl : lb = false := HLB.out.symm
            as_aux_lemma =>
              go_wp2_with fail
              refine (equal_spans (L := A) (HA.out.grown HG.out) (sp_rowsV HOB.out) hla).mono ?_
              rintro x w16 ⟨rfl, hg16⟩
              have HGn := Lib.hid (grown_trans HG.out hg16); clear HG; have HG := HGn; clear HGn
              clear hg16
              go_wp2_with fail
              refine (told_any _).mono ?_; rintro x wt ⟨rfl, hgt⟩
              go_wp2_with fail
              go_ret
              exact ⟨rfl, grown_trans HG.out hgt⟩
      · have c3i : (1000 : Int) < (A.length : Int) + (B.length : Int) := by omega
        clear la ia ca lb_ ib cb k1 k2 c3
        go_wp2_with fail
        refine (told_any _).mono ?_; rintro x wt ⟨rfl, hgt⟩
        go_wp2_with fail
        go_ret
        exact ⟨rfl, grown_trans HG.out hgt⟩
    · have hne2 : (e2 != 0) = true := by simpa using c2
      subst c1
      clear c2
      go_wp2_with fail
      refine (told_any _).mono ?_; rintro x wt ⟨rfl, hgt⟩
      go_wp2_with fail
      go_ret
      exact ⟨rfl, grown_trans HG.out hgt⟩
  · have hne : (e1 != 0) = true := by simpa using c1
    clear c1
    go_wp2_with fail
    refine (told_any _).mono ?_; rintro x wt ⟨rfl, hgt⟩
    go_wp2_with fail
    go_ret
    exact ⟨rfl, grown_trans HG.out hgt⟩
end Go.Proofs.YtbacoopopokkfaaDoor
