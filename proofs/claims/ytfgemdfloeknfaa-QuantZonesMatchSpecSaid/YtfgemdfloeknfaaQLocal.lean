/- The contracts of Offset, for whatever changes, and of Local. -/
import Derived.Test.YtfgemdfloeknfaaQZone
namespace Go.Proofs.Ytfgemdfloeknfaa
open Go.RowKit

theorem offset_empty (first m : Int) (ao : Option Addr) (cap : Nat) (w : World) :
    Calls Try.prog 26 #[.agg #[.int .i64 first, .slice ao 0 cap], .int .i64 m] w fun e w' => e = .returned (.tuple #[.int .i64 (offE first [] m).1, .int .i64 (offE first [] m).2]) ∧ w.grownBy w' none := by
  have hck := checkZone_empty first ao cap
  obtain ⟨e, he⟩ : ∃ e, zoneE first [] = e := ⟨_, rfl⟩
  rw [he] at hck
  have HC := Lib.hid hck; clear hck
  by_cases c1 : e = 0
  · subst c1
    by_cases c2 : m < 0 ∨ 86399999999 < m
    · have hv : offE first [] m = (0, 9) := by unfold offE; rw [if_neg (by simp [he]), if_pos c2]
      have HV := Lib.hid hv; have H2 := Lib.hid c2; clear hv c2 he
      go_enter Try.func26, Try.ntmps26
      go_wp2_with (first | (go_at_call 32; refine (HC.out _).mono ?_; rintro x w1 ⟨rfl, hg1⟩) | (go_at_call 52; refine (isMoment_no _ H2.out _).mono ?_; rintro x w2 ⟨rfl, rfl⟩))
      go_ret2
      exact ⟨ret_ii (by rw [HV.out]) (by rw [HV.out]), grown_trans (World.grownBy_alloc _ _ _) (by assumption)⟩
    · have hv : offE first [] m = (first, 0) := by unfold offE; rw [if_neg (by simp [he]), if_neg c2]; rfl
      have m0 : 0 ≤ m := by omega
      have m1 : m ≤ 86399999999 := by omega
      have HV := Lib.hid hv; clear hv c2 he
      go_enter Try.func26, Try.ntmps26
      go_wp2_with fail
      refine (HC.out _).mono ?_
      rintro x w1 ⟨rfl, hg1⟩
      have hga := grown_trans (World.grownBy_alloc w (.cells #[.int .i64 first, .slice ao 0 cap] 40) none) hg1
      have hb0 : w1.cell? ⟨w.heap.size, 0, none⟩ = some (.int .i64 first) := grown_cell hg1 (by simp)
      have hb1 : w1.cell? ⟨w.heap.size, 1, none⟩ = some (.slice ao 0 cap) := grown_cell hg1 (by simp)
      clear hg1
      go_wp2_with (go_at_call 52; refine (isMoment_yes _ m0 m1 _).mono ?_; rintro x w2 ⟨rfl, rfl⟩)
      refine wp_loop_rounds 1 ?_
      rw [rounds_succ]
      go_wp2
      go_ret2
      exact ⟨ret_ii (by rw [HV.out]) (by rw [HV.out]), hga⟩
  · have hv : offE first [] m = (0, e) := by unfold offE; rw [he, if_pos c1]
    have hb : (e != 0) = true := by simpa using c1
    have HV := Lib.hid hv; clear hv he c1
    go_enter Try.func26, Try.ntmps26
    go_wp2_with (go_at_call 32; refine (HC.out _).mono ?_; rintro x w1 ⟨rfl, hg1⟩)
    go_ret2
    exact ⟨ret_ii (by rw [HV.out]) (by rw [HV.out]), grown_trans (World.grownBy_alloc _ _ _) (by assumption)⟩

theorem offset_is {first m : Int} {ao : Option Addr} {cap : Nat} {cs : List (Int × Int)} (hcl : (cs.length : Int) ≤ 9223372036854775807) {w : World} (hz : ZoneAt w ao cs) {o e : Int} (h : Hid (offE first cs m = (o, e))) :
    Calls Try.prog 26 #[.agg #[.int .i64 first, .slice ao cs.length cap], .int .i64 m] w fun x w' => x = .returned (.tuple #[.int .i64 o, .int .i64 e]) ∧ w.grownBy w' none := by
  have q : Calls Try.prog 26 #[.agg #[.int .i64 first, .slice ao cs.length cap], .int .i64 m] w fun x w' => x = .returned (.tuple #[.int .i64 (offE first cs m).1, .int .i64 (offE first cs m).2]) ∧ w.grownBy w' none := by
    cases cs with
    | nil => exact offset_empty first m ao cap w
    | cons c r =>
      match ao, hz with
      | none, hz => exact absurd (hz.nil rfl) (by simp)
      | some ⟨b, off, sp⟩, hz =>
        have h := hz.spot _ rfl (by simp)
        simp only at h
        subst h
        exact offset_some first m b off cap (c :: r) hcl w hz
  rw [h.out] at q; exact q

def localE (first : Int) (cs : List (Int × Int)) (m : Int) : Int × Int × Int :=
  if (offE first cs m).2 ≠ 0 then (0, 0, (offE first cs m).2)
  else if m + 60 * (offE first cs m).1 < 0 ∨ 86399999999 < m + 60 * (offE first cs m).1 then (0, 0, 9)
  else ((m + 60 * (offE first cs m).1) / 86400, (m + 60 * (offE first cs m).1) % 86400, 0)

theorem offE_bd {first : Int} {cs : List (Int × Int)} {m o : Int} (h : offE first cs m = (o, 0)) : -720 ≤ o ∧ o ≤ 840 ∧ 0 ≤ m ∧ m ≤ 86399999999 ∧ zoneE first cs = 0 := by
  unfold offE at h
  split at h
  · rename_i hz; simp at h; omega
  · rename_i hz
    split at h
    · simp at h
    · rename_i hm
      simp at h hz
      have hz' := hz
      unfold zoneE at hz'
      split at hz'
      · omega
      · split at hz'
        · omega
        · have := offP_bd cs first (-1) m (by omega) (by omega) hz'
          omega

set_option maxHeartbeats 800000 in
theorem local_is {first m : Int} {ao : Option Addr} {cap : Nat} {cs : List (Int × Int)} (hcl : (cs.length : Int) ≤ 9223372036854775807) {w : World} (hz : ZoneAt w ao cs) {d s e : Int} (h : Hid (localE first cs m = (d, s, e))) :
    Calls Try.prog 28 #[.agg #[.int .i64 first, .slice ao cs.length cap], .int .i64 m] w fun x w' => x = .returned (.tuple #[.int .i64 d, .int .i64 s, .int .i64 e]) ∧ w.grownBy w' none := by
  have hza : ∀ o : Obj, ZoneAt (w.alloc o) ao cs := fun o => hz.grown (World.grownBy_alloc _ _ _)
  have HZA := Lib.hid hza; have HCL := Lib.hid hcl; clear hza hz hcl
  rcases hoe : offE first cs m with ⟨o, e1⟩
  have HO := Lib.hid hoe
  have hl := h.out
  unfold localE at hl
  rw [hoe] at hl
  simp only at hl
  by_cases c1 : e1 = 0
  · subst c1
    have hbd := offE_bd hoe
    have o0 := hbd.1
    have o1 := hbd.2.1
    have m0 := hbd.2.2.1
    have m1 := hbd.2.2.2.1
    rw [if_neg (by simp)] at hl
    by_cases c2 : m + 60 * o < 0 ∨ 86399999999 < m + 60 * o
    · rw [if_pos c2] at hl
      have HL := Lib.hid hl; have H2 := Lib.hid c2; clear hl c2 hoe hbd h
      go_enter Try.func28, Try.ntmps28
      go_wp2_with (first | (go_at_call 26; refine (offset_is HCL.out (HZA.out _) HO).mono ?_; rintro x w1 ⟨rfl, hg1⟩) | (go_at_call 52; refine (isMoment_no _ H2.out _).mono ?_; rintro x w2 ⟨rfl, rfl⟩))
      go_ret3
      have hl := HL.out
      simp only [Prod.mk.injEq] at hl
      exact ⟨ret_iii hl.1 hl.2.1 hl.2.2, grown_trans (World.grownBy_alloc _ _ _) (by assumption)⟩
    · rw [if_neg c2] at hl
      have s0 : 0 ≤ m + 60 * o := by omega
      have s1 : m + 60 * o ≤ 86399999999 := by omega
      have HL := Lib.hid hl; clear hl c2 hoe hbd h
      go_enter Try.func28, Try.ntmps28
      go_wp2_with (first | (go_at_call 26; refine (offset_is HCL.out (HZA.out _) HO).mono ?_; rintro x w1 ⟨rfl, hg1⟩) | (go_at_call 52; refine (isMoment_yes _ s0 s1 _).mono ?_; rintro x w2 ⟨rfl, rfl⟩))
      go_ret3
      have hl := HL.out
      simp only [Prod.mk.injEq] at hl
      exact ⟨ret_iii hl.1 hl.2.1 hl.2.2, grown_trans (World.grownBy_alloc _ _ _) (by assumption)⟩
  · rw [if_pos c1] at hl
    have hb : (e1 != 0) = true := by simpa using c1
    have HL := Lib.hid hl; clear hl hoe h c1
    go_enter Try.func28, Try.ntmps28
    go_wp2_with (go_at_call 26; refine (offset_is HCL.out (HZA.out _) HO).mono ?_; rintro x w1 ⟨rfl, hg1⟩)
    go_ret3
    have hl := HL.out
    simp only [Prod.mk.injEq] at hl
    exact ⟨ret_iii hl.1 hl.2.1 hl.2.2, grown_trans (World.grownBy_alloc _ _ _) (by assumption)⟩
end Go.Proofs.Ytfgemdfloeknfaa
