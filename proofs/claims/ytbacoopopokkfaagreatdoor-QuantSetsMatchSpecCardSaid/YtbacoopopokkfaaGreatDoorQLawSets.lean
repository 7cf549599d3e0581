/- For all sets, right or not, the functions with sets and IsName return what the reference returns: the walk. -/
import Derived.Test.YtbacoopopokkfaaGreatDoorQSetU
import Derived.Test.YtbacoopopokkfaaGreatDoorQSetH
import Derived.Test.YtbacoopopokkfaaGreatDoorQSetS
import Derived.Test.YtbacoopopokkfaaGreatDoorQRName
import Derived.Test.YtbacoopopokkfaaGreatDoorQTold
namespace Go.Proofs.YtbacoopopokkfaaGreatDoor
open Go.RowKit
set_option linter.unusedSimpArgs false
set_option linter.unusedVariables false

theorem sp_rowsV {b : Nat} {w : World} {p : Option Addr} {c : Nat} {L : List SpV} (h : SpOwn b w (.slice p L.length c) L) : RowsAt spCs 2 w p L := by
  obtain ⟨q, d, e, r⟩ := h.rows
  simp only [Value.slice.injEq] at e
  rw [e.1]; exact r
theorem both_len {A B R l : List SpV} {e : Int} (h : bothR A B R = (l, e)) : l.length ≤ 1000 := by
  unfold bothR at h
  split at h
  · split at h
    · split at h
      · simp only [Prod.mk.injEq] at h; rw [← h.1]; simp
      · simp only [Prod.mk.injEq] at h; rw [← h.1]; omega
    · simp only [Prod.mk.injEq] at h; rw [← h.1]; simp
  · simp only [Prod.mk.injEq] at h; rw [← h.1]; simp

set_option maxRecDepth 100000 in
set_option maxHeartbeats 6400000 in
theorem sets_law (ao bo : Option Addr) (ac bc : Nat) (A B : List SpV) (n : Int) (s : ByteArray) (hla : (A.length : Int) ≤ 9223372036854775807) (hlb : (B.length : Int) ≤ 9223372036854775807) (hs2 : s.size ≤ 140737488355328) (w : World) (ha : RowsAt spCs 2 w ao A) (hb : RowsAt spCs 2 w bo B) (ht : PowTab w) :
    Calls Tryz.prog 3 #[.slice ao A.length ac, .slice bo B.length bc, .int .i64 n, .string s] w fun e w' => e = .returned (.bool true) ∧ w.grownBy w' none := by
  obtain ⟨l1, e1, hv1⟩ : ∃ l e, bothR A B (cmbL A B 1) = (l, e) := ⟨_, _, rfl⟩
  obtain ⟨l2, e2, hv2⟩ : ∃ l e, bothR A B (cmbL A B 2) = (l, e) := ⟨_, _, rfl⟩
  obtain ⟨l3, e3, hv3⟩ : ∃ l e, bothR A B (cmbL A B 3) = (l, e) := ⟨_, _, rfl⟩
  obtain ⟨h4, e4, hv4⟩ : ∃ l e, hasR A n = (l, e) := ⟨_, _, rfl⟩
  obtain ⟨z5, e5, hv5⟩ : ∃ l e, sizR A = (l, e) := ⟨_, _, rfl⟩
  obtain ⟨t6, e6, hv6⟩ : ∃ l e, txtR A = (l, e) := ⟨_, _, rfl⟩
  obtain ⟨e7, hv7⟩ : ∃ e, chkS A = e := ⟨_, rfl⟩
  obtain ⟨nb, hnb⟩ : ∃ b, nameB s = b := ⟨_, rfl⟩
  have HL1 := Lib.hid (both_len hv1); have HL2 := Lib.hid (both_len hv2); have HL3 := Lib.hid (both_len hv3)
  have HV1 := Lib.hid hv1; have HV2 := Lib.hid hv2; have HV3 := Lib.hid hv3; have HH := Lib.hid hv4; have HZ := Lib.hid hv5; have HX := Lib.hid hv6; have HC := Lib.hid hv7; have HN := Lib.hid hnb
  have HA := Lib.hid ha; have HB := Lib.hid hb; have HT := Lib.hid ht
  have HG := Lib.hid (World.grownBy.refl w none)
  clear hv1 hv2 hv3 hv4 hv5 hv6 hv7 hnb ha hb ht
  go_enter Tryz.func3, Tryz.ntmps3
  go_wp2_with fail
  refine (Union_is ao bo ac bc A B hla hlb _ (HA.out.grown HG.out) (HB.out.grown HG.out) HV1.out).mono ?_
  rintro x w1 ⟨⟨v1, rfl, ho1⟩, hg1⟩
  obtain ⟨p1, c1, rfl, _⟩ := ho1.rows
  have HO1 := Lib.hid ho1
  have HGn := Lib.hid (grown_trans HG.out hg1); clear HG; have HG := HGn; clear HGn
  clear ho1 hg1
  go_wp2_with fail
  refine (rUnion_is ao bo ac bc A B hla hlb _ (HA.out.grown HG.out) (HB.out.grown HG.out) HV1.out).mono ?_
  rintro x w2 ⟨⟨v2, rfl, ho2⟩, hg2⟩
  have HO1n := Lib.hid (HO1.out.keep hg2); clear HO1; have HO1 := HO1n; clear HO1n
  obtain ⟨p2, c2, rfl, _⟩ := ho2.rows
  have HO2 := Lib.hid ho2
  have HGn := Lib.hid (grown_trans HG.out hg2); clear HG; have HG := HGn; clear HGn
  clear ho2 hg2
  go_wp2_with fail
  refine (Common_is ao bo ac bc A B hla hlb _ (HA.out.grown HG.out) (HB.out.grown HG.out) HV2.out).mono ?_
  rintro x w3 ⟨⟨v3, rfl, ho3⟩, hg3⟩
  have HO1n := Lib.hid (HO1.out.keep hg3); clear HO1; have HO1 := HO1n; clear HO1n
  have HO2n := Lib.hid (HO2.out.keep hg3); clear HO2; have HO2 := HO2n; clear HO2n
  obtain ⟨p3, c3, rfl, _⟩ := ho3.rows
  have HO3 := Lib.hid ho3
  have HGn := Lib.hid (grown_trans HG.out hg3); clear HG; have HG := HGn; clear HGn
  clear ho3 hg3
  go_wp2_with fail
  refine (rCommon_is ao bo ac bc A B hla hlb _ (HA.out.grown HG.out) (HB.out.grown HG.out) HV2.out).mono ?_
  rintro x w4 ⟨⟨v4, rfl, ho4⟩, hg4⟩
  have HO1n := Lib.hid (HO1.out.keep hg4); clear HO1; have HO1 := HO1n; clear HO1n
  have HO2n := Lib.hid (HO2.out.keep hg4); clear HO2; have HO2 := HO2n; clear HO2n
  have HO3n := Lib.hid (HO3.out.keep hg4); clear HO3; have HO3 := HO3n; clear HO3n
  obtain ⟨p4, c4, rfl, _⟩ := ho4.rows
  have HO4 := Lib.hid ho4
  have HGn := Lib.hid (grown_trans HG.out hg4); clear HG; have HG := HGn; clear HGn
  clear ho4 hg4
  go_wp2_with fail
  refine (Without_is ao bo ac bc A B hla hlb _ (HA.out.grown HG.out) (HB.out.grown HG.out) HV3.out).mono ?_
  rintro x w5 ⟨⟨v5, rfl, ho5⟩, hg5⟩
  have HO1n := Lib.hid (HO1.out.keep hg5); clear HO1; have HO1 := HO1n; clear HO1n
  have HO2n := Lib.hid (HO2.out.keep hg5); clear HO2; have HO2 := HO2n; clear HO2n
  have HO3n := Lib.hid (HO3.out.keep hg5); clear HO3; have HO3 := HO3n; clear HO3n
  have HO4n := Lib.hid (HO4.out.keep hg5); clear HO4; have HO4 := HO4n; clear HO4n
  obtain ⟨p5, c5, rfl, _⟩ := ho5.rows
  have HO5 := Lib.hid ho5
  have HGn := Lib.hid (grown_trans HG.out hg5); clear HG; have HG := HGn; clear HGn
  clear ho5 hg5
  go_wp2_with fail
  refine (rWithout_is ao bo ac bc A B hla hlb _ (HA.out.grown HG.out) (HB.out.grown HG.out) HV3.out).mono ?_
  rintro x w6 ⟨⟨v6, rfl, ho6⟩, hg6⟩
  have HO1n := Lib.hid (HO1.out.keep hg6); clear HO1; have HO1 := HO1n; clear HO1n
  have HO2n := Lib.hid (HO2.out.keep hg6); clear HO2; have HO2 := HO2n; clear HO2n
  have HO3n := Lib.hid (HO3.out.keep hg6); clear HO3; have HO3 := HO3n; clear HO3n
  have HO4n := Lib.hid (HO4.out.keep hg6); clear HO4; have HO4 := HO4n; clear HO4n
  have HO5n := Lib.hid (HO5.out.keep hg6); clear HO5; have HO5 := HO5n; clear HO5n
  obtain ⟨p6, c6, rfl, _⟩ := ho6.rows
  have HO6 := Lib.hid ho6
  have HGn := Lib.hid (grown_trans HG.out hg6); clear HG; have HG := HGn; clear HGn
  clear ho6 hg6
  go_wp2_with fail
  refine (Has_is ao ac A hla _ (HA.out.grown HG.out) n HH.out).mono ?_
  rintro x w7 ⟨rfl, hg7⟩
  have HO1n := Lib.hid (HO1.out.keep hg7); clear HO1; have HO1 := HO1n; clear HO1n
  have HO2n := Lib.hid (HO2.out.keep hg7); clear HO2; have HO2 := HO2n; clear HO2n
  have HO3n := Lib.hid (HO3.out.keep hg7); clear HO3; have HO3 := HO3n; clear HO3n
  have HO4n := Lib.hid (HO4.out.keep hg7); clear HO4; have HO4 := HO4n; clear HO4n
  have HO5n := Lib.hid (HO5.out.keep hg7); clear HO5; have HO5 := HO5n; clear HO5n
  have HO6n := Lib.hid (HO6.out.keep hg7); clear HO6; have HO6 := HO6n; clear HO6n
  have HGn := Lib.hid (grown_trans HG.out hg7); clear HG; have HG := HGn; clear HGn
  clear hg7
  go_wp2_with fail
  refine (rHas_is ao ac A hla _ (HA.out.grown HG.out) n HH.out).mono ?_
  rintro x w8 ⟨rfl, hg8⟩
  have HO1n := Lib.hid (HO1.out.keep hg8); clear HO1; have HO1 := HO1n; clear HO1n
  have HO2n := Lib.hid (HO2.out.keep hg8); clear HO2; have HO2 := HO2n; clear HO2n
  have HO3n := Lib.hid (HO3.out.keep hg8); clear HO3; have HO3 := HO3n; clear HO3n
  have HO4n := Lib.hid (HO4.out.keep hg8); clear HO4; have HO4 := HO4n; clear HO4n
  have HO5n := Lib.hid (HO5.out.keep hg8); clear HO5; have HO5 := HO5n; clear HO5n
  have HO6n := Lib.hid (HO6.out.keep hg8); clear HO6; have HO6 := HO6n; clear HO6n
  have HGn := Lib.hid (grown_trans HG.out hg8); clear HG; have HG := HGn; clear HGn
  clear hg8
  go_wp2_with fail
  refine (Size_is ao ac A hla _ (HA.out.grown HG.out) HZ.out).mono ?_
  rintro x w9 ⟨rfl, hg9⟩
  have HO1n := Lib.hid (HO1.out.keep hg9); clear HO1; have HO1 := HO1n; clear HO1n
  have HO2n := Lib.hid (HO2.out.keep hg9); clear HO2; have HO2 := HO2n; clear HO2n
  have HO3n := Lib.hid (HO3.out.keep hg9); clear HO3; have HO3 := HO3n; clear HO3n
  have HO4n := Lib.hid (HO4.out.keep hg9); clear HO4; have HO4 := HO4n; clear HO4n
  have HO5n := Lib.hid (HO5.out.keep hg9); clear HO5; have HO5 := HO5n; clear HO5n
  have HO6n := Lib.hid (HO6.out.keep hg9); clear HO6; have HO6 := HO6n; clear HO6n
  have HGn := Lib.hid (grown_trans HG.out hg9); clear HG; have HG := HGn; clear HGn
  clear hg9
  go_wp2_with fail
  refine (rSize_is ao ac A hla _ (HA.out.grown HG.out) HZ.out).mono ?_
  rintro x w10 ⟨rfl, hg10⟩
  have HO1n := Lib.hid (HO1.out.keep hg10); clear HO1; have HO1 := HO1n; clear HO1n
  have HO2n := Lib.hid (HO2.out.keep hg10); clear HO2; have HO2 := HO2n; clear HO2n
  have HO3n := Lib.hid (HO3.out.keep hg10); clear HO3; have HO3 := HO3n; clear HO3n
  have HO4n := Lib.hid (HO4.out.keep hg10); clear HO4; have HO4 := HO4n; clear HO4n
  have HO5n := Lib.hid (HO5.out.keep hg10); clear HO5; have HO5 := HO5n; clear HO5n
  have HO6n := Lib.hid (HO6.out.keep hg10); clear HO6; have HO6 := HO6n; clear HO6n
  have HGn := Lib.hid (grown_trans HG.out hg10); clear HG; have HG := HGn; clear HGn
  clear hg10
  go_wp2_with fail
  refine (SpansText_is ao ac A hla _ (HA.out.grown HG.out) (tab_grownS HT.out HG.out) HX.out).mono ?_
  rintro x w11 ⟨rfl, hg11⟩
  have HO1n := Lib.hid (HO1.out.keep hg11); clear HO1; have HO1 := HO1n; clear HO1n
  have HO2n := Lib.hid (HO2.out.keep hg11); clear HO2; have HO2 := HO2n; clear HO2n
  have HO3n := Lib.hid (HO3.out.keep hg11); clear HO3; have HO3 := HO3n; clear HO3n
  have HO4n := Lib.hid (HO4.out.keep hg11); clear HO4; have HO4 := HO4n; clear HO4n
  have HO5n := Lib.hid (HO5.out.keep hg11); clear HO5; have HO5 := HO5n; clear HO5n
  have HO6n := Lib.hid (HO6.out.keep hg11); clear HO6; have HO6 := HO6n; clear HO6n
  have HGn := Lib.hid (grown_trans HG.out hg11); clear HG; have HG := HGn; clear HGn
  clear hg11
  go_wp2_with fail
  refine (rSpansText_is ao ac A hla _ (HA.out.grown HG.out) (tab_grownS HT.out HG.out) HX.out).mono ?_
  rintro x w12 ⟨rfl, hg12⟩
  have HO1n := Lib.hid (HO1.out.keep hg12); clear HO1; have HO1 := HO1n; clear HO1n
  have HO2n := Lib.hid (HO2.out.keep hg12); clear HO2; have HO2 := HO2n; clear HO2n
  have HO3n := Lib.hid (HO3.out.keep hg12); clear HO3; have HO3 := HO3n; clear HO3n
  have HO4n := Lib.hid (HO4.out.keep hg12); clear HO4; have HO4 := HO4n; clear HO4n
  have HO5n := Lib.hid (HO5.out.keep hg12); clear HO5; have HO5 := HO5n; clear HO5n
  have HO6n := Lib.hid (HO6.out.keep hg12); clear HO6; have HO6 := HO6n; clear HO6n
  have HGn := Lib.hid (grown_trans HG.out hg12); clear HG; have HG := HGn; clear HGn
  clear hg12
  go_wp2_with fail
  refine (checkSp_is ao ac A hla _ (HA.out.grown HG.out) HC.out).mono ?_
  rintro x w13 ⟨rfl, hg13⟩
  have HO1n := Lib.hid (HO1.out.keep hg13); clear HO1; have HO1 := HO1n; clear HO1n
  have HO2n := Lib.hid (HO2.out.keep hg13); clear HO2; have HO2 := HO2n; clear HO2n
  have HO3n := Lib.hid (HO3.out.keep hg13); clear HO3; have HO3 := HO3n; clear HO3n
  have HO4n := Lib.hid (HO4.out.keep hg13); clear HO4; have HO4 := HO4n; clear HO4n
  have HO5n := Lib.hid (HO5.out.keep hg13); clear HO5; have HO5 := HO5n; clear HO5n
  have HO6n := Lib.hid (HO6.out.keep hg13); clear HO6; have HO6 := HO6n; clear HO6n
  have HGn := Lib.hid (grown_trans HG.out hg13); clear HG; have HG := HGn; clear HGn
  clear hg13
  go_wp2_with fail
  refine (rcheckSp_is ao ac A hla _ (HA.out.grown HG.out) HC.out).mono ?_
  rintro x w14 ⟨rfl, hg14⟩
  have HO1n := Lib.hid (HO1.out.keep hg14); clear HO1; have HO1 := HO1n; clear HO1n
  have HO2n := Lib.hid (HO2.out.keep hg14); clear HO2; have HO2 := HO2n; clear HO2n
  have HO3n := Lib.hid (HO3.out.keep hg14); clear HO3; have HO3 := HO3n; clear HO3n
  have HO4n := Lib.hid (HO4.out.keep hg14); clear HO4; have HO4 := HO4n; clear HO4n
  have HO5n := Lib.hid (HO5.out.keep hg14); clear HO5; have HO5 := HO5n; clear HO5n
  have HO6n := Lib.hid (HO6.out.keep hg14); clear HO6; have HO6 := HO6n; clear HO6n
  have HGn := Lib.hid (grown_trans HG.out hg14); clear HG; have HG := HGn; clear HGn
  clear hg14
  go_wp2_with fail
  refine (equal_spans (L := l1) (sp_rowsV HO1.out) (sp_rowsV HO2.out) (by have := HL1.out; omega)).mono ?_
  rintro x w15 ⟨rfl, hg15⟩
  have HO1n := Lib.hid (HO1.out.keep hg15); clear HO1; have HO1 := HO1n; clear HO1n
  have HO2n := Lib.hid (HO2.out.keep hg15); clear HO2; have HO2 := HO2n; clear HO2n
  have HO3n := Lib.hid (HO3.out.keep hg15); clear HO3; have HO3 := HO3n; clear HO3n
  have HO4n := Lib.hid (HO4.out.keep hg15); clear HO4; have HO4 := HO4n; clear HO4n
  have HO5n := Lib.hid (HO5.out.keep hg15); clear HO5; have HO5 := HO5n; clear HO5n
  have HO6n := Lib.hid (HO6.out.keep hg15); clear HO6; have HO6 := HO6n; clear HO6n
  have HGn := Lib.hid (grown_trans HG.out hg15); clear HG; have HG := HGn; clear HGn
  clear hg15
  go_wp2_with fail
  refine (equal_spans (L := l2) (sp_rowsV HO3.out) (sp_rowsV HO4.out) (by have := HL2.out; omega)).mono ?_
  rintro x w16 ⟨rfl, hg16⟩
  have HO1n := Lib.hid (HO1.out.keep hg16); clear HO1; have HO1 := HO1n; clear HO1n
  have HO2n := Lib.hid (HO2.out.keep hg16); clear HO2; have HO2 := HO2n; clear HO2n
  have HO3n := Lib.hid (HO3.out.keep hg16); clear HO3; have HO3 := HO3n; clear HO3n
  have HO4n := Lib.hid (HO4.out.keep hg16); clear HO4; have HO4 := HO4n; clear HO4n
  have HO5n := Lib.hid (HO5.out.keep hg16); clear HO5; have HO5 := HO5n; clear HO5n
  have HO6n := Lib.hid (HO6.out.keep hg16); clear HO6; have HO6 := HO6n; clear HO6n
  have HGn := Lib.hid (grown_trans HG.out hg16); clear HG; have HG := HGn; clear HGn
  clear hg16
  go_wp2_with fail
  refine (equal_spans (L := l3) (sp_rowsV HO5.out) (sp_rowsV HO6.out) (by have := HL3.out; omega)).mono ?_
  rintro x w17 ⟨rfl, hg17⟩
  have HO1n := Lib.hid (HO1.out.keep hg17); clear HO1; have HO1 := HO1n; clear HO1n
  have HO2n := Lib.hid (HO2.out.keep hg17); clear HO2; have HO2 := HO2n; clear HO2n
  have HO3n := Lib.hid (HO3.out.keep hg17); clear HO3; have HO3 := HO3n; clear HO3n
  have HO4n := Lib.hid (HO4.out.keep hg17); clear HO4; have HO4 := HO4n; clear HO4n
  have HO5n := Lib.hid (HO5.out.keep hg17); clear HO5; have HO5 := HO5n; clear HO5n
  have HO6n := Lib.hid (HO6.out.keep hg17); clear HO6; have HO6 := HO6n; clear HO6n
  have HGn := Lib.hid (grown_trans HG.out hg17); clear HG; have HG := HGn; clear HGn
  clear hg17
  go_wp2_with fail
  refine (isName_is s hs2 _ HN).mono ?_; rintro x wn ⟨rfl, rfl⟩
  go_wp2_with fail
  refine (rname1_is s hs2 _ HN).mono ?_; rintro x wn ⟨rfl, rfl⟩
  go_wp2_with fail
  refine (told_any _).mono ?_; rintro x wt ⟨rfl, hgt⟩
  go_wp2_with fail
  go_ret
  exact ⟨rfl, grown_trans HG.out hgt⟩
/-- In the order in which the frame gives the arguments. -/
theorem sets_walk (ao : Option Addr) (ac : Nat) (A : List SpV) (hla : (A.length : Int) ≤ 9223372036854775807) (bo : Option Addr) (bc : Nat) (B : List SpV) (hlb : (B.length : Int) ≤ 9223372036854775807) (n : Int) (s : ByteArray) (w : World) (ha : RowsAt spCs 2 w ao A) (hb : RowsAt spCs 2 w bo B) (hs2 : s.size ≤ 140737488351232) (ht : PowTab w) :
    Calls Tryz.prog 3 #[.slice ao A.length ac, .slice bo B.length bc, .int .i64 n, .string s] w fun e w' => e = .returned (.bool true) ∧ w.grownBy w' none := sets_law ao bo ac bc A B n s hla hlb (by omega) w ha hb ht
end Go.Proofs.YtbacoopopokkfaaGreatDoor
