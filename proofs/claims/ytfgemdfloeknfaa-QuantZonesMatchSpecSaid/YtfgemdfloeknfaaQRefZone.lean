/- The reference's zones: CheckZone, Offset, Local. -/
import Derived.Test.YtfgemdfloeknfaaQMoments
import Derived.Test.YtfgemdfloeknfaaQRef
namespace Go.Proofs.Ytfgemdfloeknfaa
open Go.RowKit

set_option maxHeartbeats 800000 in
theorem rcheckZone_any (first : Int) (ao : Option Addr) (cap : Nat) (cs : List (Int × Int)) (hcl : (cs.length : Int) ≤ 9223372036854775807) (w : World) (hz : ZoneAt w ao cs) :
    Calls Try.prog 33 #[.agg #[.int .i64 first, .slice ao cs.length cap]] w fun e w' => e = .returned (.int .i64 (zoneE first cs)) ∧ w.grownBy w' none := by
  have hcli : (cs.length : Int) ≤ 9223372036854775807 := hcl
  clear hcl
  by_cases c1 : 200 < (cs.length : Int)
  · have hv : zoneE first cs = 3 := by unfold zoneE; rw [if_pos c1]
    have HV := Lib.hid hv; clear hv hz
    go_enter Try.func33, Try.ntmps33
    go_wp2
    go_ret
    exact ⟨ret_int (by rw [HV.out]), World.grownBy_alloc _ _ _⟩
  by_cases c2 : first < -720 ∨ 840 < first
  · have hv : zoneE first cs = 9 := by unfold zoneE; rw [if_neg c1, if_pos c2]
    have HV := Lib.hid hv; have H2 := Lib.hid c2; clear hv hz c2
    go_enter Try.func33, Try.ntmps33
    go_wp2_with (go_at_call 38; refine (outside_yes _ _ _ H2.out _).mono ?_; rintro e w1 ⟨rfl, rfl⟩)
    go_ret
    exact ⟨ret_int (by rw [HV.out]), World.grownBy_alloc _ _ _⟩
  · have hv : zoneE first cs = chk cs (-1) := by unfold zoneE; rw [if_neg c1, if_neg c2]
    have f0 : -720 ≤ first := by omega
    have f1 : first ≤ 840 := by omega
    have HV := Lib.hid hv; have HZ := Lib.hid hz; clear hv hz c2
    go_enter Try.func33, Try.ntmps33
    go_wp2_with (go_at_call 38; refine (outside_no _ _ _ f0 f1 _).mono ?_; rintro e w1 ⟨rfl, rfl⟩)
    go_loopw [3, 16] (fun bv iv wr => ∃ (j : Nat) (bf : Int), j ≤ cs.length ∧ bv = .int .i64 bf ∧ iv = .int .i64 j ∧ w.grownBy wr none ∧ Hid (zoneE first cs = chk (cs.drop j) bf))
      (fun _ iv _ => cs.length - (intOf iv).toNat)
    case atStart => exact ⟨0, -1, Nat.zero_le _, rfl, rfl, World.grownBy_alloc _ _ _, HV.out⟩
    case round =>
      obtain ⟨j, bf, hj, rfl, rfl, hg, hw⟩ := hrel
      by_cases hlt : j < cs.length
      · obtain ⟨b, off, rfl⟩ := zone_some HZ.out (by intro h; rw [h] at hlt; simp at hlt)
        have hd : cs.drop j = cs[j] :: cs.drop (j + 1) := List.drop_eq_getElem_cons hlt
        have hc0 := grown_cell hg (HZ.out.cells _ rfl j hlt).1
        have hc1 := grown_cell hg (HZ.out.cells _ rfl j hlt).2
        rcases hcj : cs[j] with ⟨f, o⟩
        rw [hcj] at hc0 hc1 hd
        simp only at hc0 hc1
        have HD := Lib.hid hd; clear hd hcj
        by_cases d1 : f < 0 ∨ 86399999999 < f
        · have hr : chk (cs.drop j) bf = 9 := by rw [HD.out, chk, if_pos (by omega)]
          have HR := Lib.hid hr; have D1 := Lib.hid d1; clear hr d1
          go_wp2_with (go_at_call 38; refine (outside_yes _ _ _ D1.out _).mono ?_; rintro e w1 ⟨rfl, rfl⟩)
          go_ret
          exact ⟨ret_int (by rw [hw.out, HR.out]), grown_trans hg (World.grownBy_alloc _ _ _)⟩
        have g1 : 0 ≤ f := by omega
        have g2 : f ≤ 86399999999 := by omega
        by_cases d2 : o < -720 ∨ 840 < o
        · have hr : chk (cs.drop j) bf = 9 := by rw [HD.out, chk, if_pos (by omega)]
          have HR := Lib.hid hr; have D2 := Lib.hid d2; clear hr d2
          go_wp2_with (first | (go_at_call 38; refine (outside_no _ _ _ (by omega) (by omega) _).mono ?_; rintro e w1 ⟨rfl, rfl⟩) | (go_at_call 38; refine (outside_yes _ _ _ (by have := D2.out; omega) _).mono ?_; rintro e w1 ⟨rfl, rfl⟩))
          go_ret
          exact ⟨ret_int (by rw [hw.out, HR.out]), grown_trans hg (World.grownBy_alloc _ _ _)⟩
        have g3 : -720 ≤ o := by omega
        have g4 : o ≤ 840 := by omega
        by_cases d3 : f ≤ bf
        · have hr : chk (cs.drop j) bf = 10 := by rw [HD.out, chk, if_neg (by omega), if_pos d3]
          have HR := Lib.hid hr; clear hr d1 d2
          go_wp2_with (first | (go_at_call 38; refine (outside_no _ _ _ (by omega) (by omega) _).mono ?_; rintro e w1 ⟨rfl, rfl⟩) | (go_at_call 38; refine (outside_no _ _ _ (by omega) (by omega) _).mono ?_; rintro e w1 ⟨rfl, rfl⟩))
          go_ret
          exact ⟨ret_int (by rw [hw.out, HR.out]), grown_trans hg (World.grownBy_alloc _ _ _)⟩
        · have hr : chk (cs.drop j) bf = chk (cs.drop (j + 1)) f := by rw [HD.out, chk, if_neg (by omega), if_neg d3]
          have HR := Lib.hid hr; clear hr d1 d2
          go_wp2_with (first | (go_at_call 38; refine (outside_no _ _ _ (by omega) (by omega) _).mono ?_; rintro e w1 ⟨rfl, rfl⟩) | (go_at_call 38; refine (outside_no _ _ _ (by omega) (by omega) _).mono ?_; rintro e w1 ⟨rfl, rfl⟩))
          go_roundw
          case rel => exact ⟨j + 1, f, by omega, rfl, by go_num, grown_trans hg (World.grownBy_alloc _ _ _), by show _ = _; rw [hw.out, HR.out]⟩
          case measure => simp [intOf]; omega
      · have hr : chk (cs.drop j) bf = 0 := by rw [List.drop_eq_nil_of_le (by omega)]; rfl
        have HR := Lib.hid hr; clear hr
        go_wp2
        go_ret
        exact ⟨ret_int (by rw [hw.out, HR.out]), hg⟩


theorem rcheckZone_is {first : Int} {ao : Option Addr} {cap : Nat} {cs : List (Int × Int)} (hcl : (cs.length : Int) ≤ 9223372036854775807) {w : World} (hz : ZoneAt w ao cs) {e : Int} (h : Hid (zoneE first cs = e)) :
    Calls Try.prog 33 #[.agg #[.int .i64 first, .slice ao cs.length cap]] w fun x w' => x = .returned (.int .i64 e) ∧ w.grownBy w' none := by
  have q := rcheckZone_any first ao cap cs hcl w hz
  rw [h.out] at q; exact q

/-- The offset as the reference has it: all changes are looked at. -/
def offR : Int → List (Int × Int) → Int → Int
  | first, [], _ => first
  | first, (f, o) :: r, m => if f ≤ m then offR o r m else offR first r m
theorem offR_same : ∀ (cs : List (Int × Int)) (first bf m : Int), chk cs bf = 0 → m ≤ bf → offR first cs m = first
  | [], first, bf, m, _, _ => rfl
  | (f, o) :: r, first, bf, m, h, hm => by
    unfold chk at h
    split at h
    · omega
    · split at h
      · omega
      · unfold offR
        rw [if_neg (by omega)]
        exact offR_same r first f m h (by omega)
theorem offR_is : ∀ (cs : List (Int × Int)) (first bf m : Int), chk cs bf = 0 → offP first cs m = offR first cs m
  | [], first, bf, m, _ => rfl
  | (f, o) :: r, first, bf, m, h => by
    unfold chk at h
    split at h
    · omega
    · split at h
      · omega
      · unfold offP offR
        by_cases hm : m < f
        · rw [if_pos hm, if_neg (by omega), offR_same r first f m h (by omega)]
        · rw [if_neg hm, if_pos (by omega)]
          exact offR_is r o f m h

set_option maxHeartbeats 800000 in
theorem roffset_any (first m : Int) (ao : Option Addr) (cap : Nat) (cs : List (Int × Int)) (hcl : (cs.length : Int) ≤ 9223372036854775807) (w : World) (hz : ZoneAt w ao cs) :
    Calls Try.prog 27 #[.agg #[.int .i64 first, .slice ao cs.length cap], .int .i64 m] w fun e w' => e = .returned (.tuple #[.int .i64 (offE first cs m).1, .int .i64 (offE first cs m).2]) ∧ w.grownBy w' none := by
  have hcli : (cs.length : Int) ≤ 9223372036854775807 := hcl
  have HCL := Lib.hid hcl; clear hcl
  have hza : ∀ o : Obj, ZoneAt (w.alloc o) ao cs := fun o => hz.grown (World.grownBy_alloc _ _ _)
  have HZA := Lib.hid hza; clear hza
  obtain ⟨e, he⟩ : ∃ e, zoneE first cs = e := ⟨_, rfl⟩
  have HE := Lib.hid he
  by_cases c1 : e = 0
  · subst c1
    by_cases c2 : m < 0 ∨ 86399999999 < m
    · have hv : offE first cs m = (0, 9) := by unfold offE; rw [if_neg (by simp [he]), if_pos c2]
      have HV := Lib.hid hv; have H2 := Lib.hid c2; clear hv hz c2 he
      go_enter Try.func27, Try.ntmps27
      go_wp2_with (first | (go_at_call 33; refine (rcheckZone_is HCL.out (HZA.out _) HE).mono ?_; rintro x w1 ⟨rfl, hg1⟩) | (go_at_call 38; refine (outside_yes _ _ _ H2.out _).mono ?_; rintro x w2 ⟨rfl, rfl⟩))
      go_ret2
      exact ⟨ret_ii (by rw [HV.out]) (by rw [HV.out]), grown_trans (World.grownBy_alloc _ _ _) (by assumption)⟩
    · have hv : offE first cs m = (offR first cs m, 0) := by unfold offE; rw [if_neg (by simp [he]), if_neg c2, offR_is cs first (-1) m (zone_ok he).2.2.2]
      have m0 : 0 ≤ m := by omega
      have m1 : m ≤ 86399999999 := by omega
      have HV := Lib.hid hv; have HZ := Lib.hid hz; clear hv hz c2 he
      go_enter Try.func27, Try.ntmps27
      go_wp2_with fail
      refine (rcheckZone_is HCL.out (HZA.out _) HE).mono ?_
      rintro x w1 ⟨rfl, hg1⟩
      have hga := grown_trans (World.grownBy_alloc w (.cells #[.int .i64 first, .slice ao cs.length cap] 40) none) hg1
      have hb0 : w1.cell? ⟨w.heap.size, 0, none⟩ = some (.int .i64 first) := grown_cell hg1 (by simp)
      have hb1 : w1.cell? ⟨w.heap.size, 1, none⟩ = some (.slice ao cs.length cap) := grown_cell hg1 (by simp)
      clear hg1
      go_wp2_with (go_at_call 38; refine (outside_no _ _ _ m0 m1 _).mono ?_; rintro x w2 ⟨rfl, rfl⟩)
      go_loopw [7, 22] (fun ov iv wr => ∃ (j : Nat) (o0 : Int), j ≤ cs.length ∧ ov = .int .i64 o0 ∧ iv = .int .i64 j ∧ w.grownBy wr none ∧ Hid (offR first cs m = offR o0 (cs.drop j) m))
        (fun _ iv _ => cs.length - (intOf iv).toNat)
      case atStart => exact ⟨0, first, Nat.zero_le _, rfl, rfl, hga, rfl⟩
      case round =>
        obtain ⟨j, o0, hj, rfl, rfl, hg, hw⟩ := hrel
        clear hb0 hb1 hga
        by_cases hlt : j < cs.length
        · obtain ⟨b, off, rfl⟩ := zone_some HZ.out (by intro h; rw [h] at hlt; simp at hlt)
          have hd : cs.drop j = cs[j] :: cs.drop (j + 1) := List.drop_eq_getElem_cons hlt
          have hc0 := grown_cell hg (HZ.out.cells _ rfl j hlt).1
          have hc1 := grown_cell hg (HZ.out.cells _ rfl j hlt).2
          rcases hcj : cs[j] with ⟨f, o⟩
          rw [hcj] at hc0 hc1 hd
          simp only at hc0 hc1
          have HD := Lib.hid hd; clear hd hcj
          by_cases d1 : f ≤ m
          · have hr : offR o0 (cs.drop j) m = offR o (cs.drop (j + 1)) m := by rw [HD.out, offR, if_pos d1]
            have HR := Lib.hid hr; clear hr
            go_wp2
            go_roundw
            case rel => exact ⟨j + 1, o, by omega, rfl, by go_num, grown_trans hg (World.grownBy_alloc _ _ _), by show _ = _; rw [hw.out, HR.out]⟩
            case measure => simp [intOf]; omega
          · have hr : offR o0 (cs.drop j) m = offR o0 (cs.drop (j + 1)) m := by rw [HD.out, offR, if_neg d1]
            have HR := Lib.hid hr; clear hr
            go_wp2
            go_roundw
            case rel => exact ⟨j + 1, o0, by omega, rfl, by go_num, grown_trans hg (World.grownBy_alloc _ _ _), by show _ = _; rw [hw.out, HR.out]⟩
            case measure => simp [intOf]; omega
        · have hr : offR o0 (cs.drop j) m = o0 := by rw [List.drop_eq_nil_of_le (by omega)]; rfl
          have HR := Lib.hid hr; clear hr
          go_wp2
          go_ret2
          exact ⟨ret_ii (by rw [HV.out, hw.out, HR.out]) (by rw [HV.out]), hg⟩
  · have hv : offE first cs m = (0, e) := by unfold offE; rw [he, if_pos c1]
    have hb : (e != 0) = true := by simpa using c1
    have HV := Lib.hid hv; clear hv hz he c1
    go_enter Try.func27, Try.ntmps27
    go_wp2_with (go_at_call 33; refine (rcheckZone_is HCL.out (HZA.out _) HE).mono ?_; rintro x w1 ⟨rfl, hg1⟩)
    go_ret2
    exact ⟨ret_ii (by rw [HV.out]) (by rw [HV.out]), grown_trans (World.grownBy_alloc _ _ _) (by assumption)⟩

theorem roffset_is {first m : Int} {ao : Option Addr} {cap : Nat} {cs : List (Int × Int)} (hcl : (cs.length : Int) ≤ 9223372036854775807) {w : World} (hz : ZoneAt w ao cs) {o e : Int} (h : Hid (offE first cs m = (o, e))) :
    Calls Try.prog 27 #[.agg #[.int .i64 first, .slice ao cs.length cap], .int .i64 m] w fun x w' => x = .returned (.tuple #[.int .i64 o, .int .i64 e]) ∧ w.grownBy w' none := by
  have q := roffset_any first m ao cap cs hcl w hz
  rw [h.out] at q; exact q

set_option maxHeartbeats 800000 in
theorem rlocal_is {first m : Int} {ao : Option Addr} {cap : Nat} {cs : List (Int × Int)} (hcl : (cs.length : Int) ≤ 9223372036854775807) {w : World} (hz : ZoneAt w ao cs) {d s e : Int} (h : Hid (localE first cs m = (d, s, e))) :
    Calls Try.prog 29 #[.agg #[.int .i64 first, .slice ao cs.length cap], .int .i64 m] w fun x w' => x = .returned (.tuple #[.int .i64 d, .int .i64 s, .int .i64 e]) ∧ w.grownBy w' none := by
  have hza : ∀ o : Obj, ZoneAt (w.alloc o) ao cs := fun o => hz.grown (World.grownBy_alloc _ _ _)
  have HZA := Lib.hid hza; have HCL := Lib.hid hcl; clear hza hz hcl
  rcases hoe : offE first cs m with ⟨o, e1⟩
  have HO := Lib.hid hoe
  have hl := h.out
  unfold localE at hl
  rw [hoe] at hl
  simp only at hl
  by_cases c1 : e1 = 0
  · subst c1
    have hbd := offE_bd hoe
    have o0 := hbd.1
    have o1 := hbd.2.1
    have m0 := hbd.2.2.1
    have m1 := hbd.2.2.2.1
    rw [if_neg (by simp)] at hl
    by_cases c2 : m + 60 * o < 0 ∨ 86399999999 < m + 60 * o
    · rw [if_pos c2] at hl
      have HL := Lib.hid hl; have H2 := Lib.hid c2; clear hl c2 hoe hbd h
      go_enter Try.func29, Try.ntmps29
      go_wp2_with (first | (go_at_call 27; refine (roffset_is HCL.out (HZA.out _) HO).mono ?_; rintro x w1 ⟨rfl, hg1⟩) | (go_at_call 38; refine (outside_yes _ _ _ H2.out _).mono ?_; rintro x w2 ⟨rfl, rfl⟩))
      go_ret3
      have hl := HL.out
      simp only [Prod.mk.injEq] at hl
      exact ⟨ret_iii hl.1 hl.2.1 hl.2.2, grown_trans (World.grownBy_alloc _ _ _) (by assumption)⟩
    · rw [if_neg c2] at hl
      have s0 : 0 ≤ m + 60 * o := by omega
      have s1 : m + 60 * o ≤ 86399999999 := by omega
      have HL := Lib.hid hl; clear hl c2 hoe hbd h
      go_enter Try.func29, Try.ntmps29
      go_wp2_with (first | (go_at_call 27; refine (roffset_is HCL.out (HZA.out _) HO).mono ?_; rintro x w1 ⟨rfl, hg1⟩) | (go_at_call 38; refine (outside_no _ _ _ s0 s1 _).mono ?_; rintro x w2 ⟨rfl, rfl⟩))
      go_ret3
      have hl := HL.out
      simp only [Prod.mk.injEq] at hl
      exact ⟨ret_iii hl.1 hl.2.1 hl.2.2, grown_trans (World.grownBy_alloc _ _ _) (by assumption)⟩
  · rw [if_pos c1] at hl
    have hb : (e1 != 0) = true := by simpa using c1
    have HL := Lib.hid hl; clear hl hoe h c1
    go_enter Try.func29, Try.ntmps29
    go_wp2_with (go_at_call 27; refine (roffset_is HCL.out (HZA.out _) HO).mono ?_; rintro x w1 ⟨rfl, hg1⟩)
    go_ret3
    have hl := HL.out
    simp only [Prod.mk.injEq] at hl
    exact ⟨ret_iii hl.1 hl.2.1 hl.2.2, grown_trans (World.grownBy_alloc _ _ _) (by assumption)⟩
end Go.Proofs.Ytfgemdfloeknfaa
