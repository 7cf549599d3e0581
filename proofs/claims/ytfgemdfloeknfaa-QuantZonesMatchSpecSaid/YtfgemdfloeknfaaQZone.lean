/- The contracts of CheckZone and Offset of quant. -/
import Derived.Test.YtfgemdfloeknfaaQForms
namespace Go.Proofs.Ytfgemdfloeknfaa
open Go.RowKit

def chk : List (Int × Int) → Int → Int
  | [], _ => 0
  | (f, o) :: r, before => if f < 0 ∨ 86399999999 < f ∨ o < -720 ∨ 840 < o then 9 else if f ≤ before then 10 else chk r f

def zoneE (first : Int) (cs : List (Int × Int)) : Int :=
  if 200 < (cs.length : Int) then 3 else if first < -720 ∨ 840 < first then 9 else chk cs (-1)

theorem isMoment_yes (n : Int) (h0 : 0 ≤ n) (h1 : n ≤ 86399999999) (w : World) : Calls Try.prog 52 #[.int .i64 n] w fun e w' => e = .returned (.bool true) ∧ w = w' := by
  go_enter Try.func52, Try.ntmps52
  go_wp2
  go_ret
  exact ⟨ret_bool (by first | rfl | (simp; omega)), rfl⟩
theorem isMoment_no (n : Int) (h : n < 0 ∨ 86399999999 < n) (w : World) : Calls Try.prog 52 #[.int .i64 n] w fun e w' => e = .returned (.bool false) ∧ w = w' := by
  by_cases h0 : n < 0
  · clear h
    go_enter Try.func52, Try.ntmps52
    go_wp2
    go_ret
    exact ⟨ret_bool (by first | rfl | (simp; omega)), rfl⟩
  · have h1 : 86399999999 < n := by omega
    clear h
    go_enter Try.func52, Try.ntmps52
    go_wp2
    go_ret
    exact ⟨ret_bool (by first | rfl | (simp; omega)), rfl⟩
theorem isOffset_yes (n : Int) (h0 : -720 ≤ n) (h1 : n ≤ 840) (w : World) : Calls Try.prog 54 #[.int .i64 n] w fun e w' => e = .returned (.bool true) ∧ w = w' := by
  go_enter Try.func54, Try.ntmps54
  go_wp2
  go_ret
  exact ⟨ret_bool (by first | rfl | (simp; omega)), rfl⟩
theorem isOffset_no (n : Int) (h : n < -720 ∨ 840 < n) (w : World) : Calls Try.prog 54 #[.int .i64 n] w fun e w' => e = .returned (.bool false) ∧ w = w' := by
  by_cases h0 : n < -720
  · clear h
    go_enter Try.func54, Try.ntmps54
    go_wp2
    go_ret
    exact ⟨ret_bool (by first | rfl | (simp; omega)), rfl⟩
  · have h1 : 840 < n := by omega
    clear h
    go_enter Try.func54, Try.ntmps54
    go_wp2
    go_ret
    exact ⟨ret_bool (by first | rfl | (simp; omega)), rfl⟩

/-- The changes of a zone lie at an address (none: there is none). -/
structure ZoneAt (w : World) (ao : Option Addr) (cs : List (Int × Int)) : Prop where
  nil : ao = none → cs = []
  spot : ∀ a, ao = some a → cs ≠ [] → a.spot = none
  cells : ∀ a, ao = some a → ∀ i (h : i < cs.length), w.cell? ⟨a.block, a.off + i * 2, none⟩ = some (.int .i64 cs[i].1) ∧ w.cell? ⟨a.block, a.off + i * 2 + 1, none⟩ = some (.int .i64 cs[i].2)

theorem ZoneAt.grown {w w' : World} {ao : Option Addr} {cs : List (Int × Int)} (h : ZoneAt w ao cs) (g : w.grownBy w' none) : ZoneAt w' ao cs :=
  ⟨h.nil, h.spot, fun a ha i hi => ⟨grown_cell g (h.cells a ha i hi).1, grown_cell g (h.cells a ha i hi).2⟩⟩

set_option maxHeartbeats 800000 in
theorem checkZone_some (first : Int) (b off cap : Nat) (cs : List (Int × Int)) (hcl : (cs.length : Int) ≤ 9223372036854775807) (w : World) (hz : ZoneAt w (some ⟨b, off, none⟩) cs) :
    Calls Try.prog 32 #[.agg #[.int .i64 first, .slice (some ⟨b, off, none⟩) cs.length cap]] w fun e w' => e = .returned (.int .i64 (zoneE first cs)) ∧ w.grownBy w' none := by
  have hcli : (cs.length : Int) ≤ 9223372036854775807 := hcl
  clear hcl
  by_cases c1 : 200 < (cs.length : Int)
  · have hv : zoneE first cs = 3 := by unfold zoneE; rw [if_pos c1]
    have HV := Lib.hid hv; clear hv hz
    go_enter Try.func32, Try.ntmps32
    go_wp2
    go_ret
    exact ⟨ret_int (by rw [HV.out]), World.grownBy_alloc _ _ _⟩
  by_cases c2 : first < -720 ∨ 840 < first
  · have hv : zoneE first cs = 9 := by unfold zoneE; rw [if_neg c1, if_pos c2]
    have HV := Lib.hid hv; have H2 := Lib.hid c2; clear hv hz c2
    go_enter Try.func32, Try.ntmps32
    go_wp2_with (go_at_call 54; refine (isOffset_no _ H2.out _).mono ?_; rintro e w1 ⟨rfl, rfl⟩)
    go_ret
    exact ⟨ret_int (by rw [HV.out]), World.grownBy_alloc _ _ _⟩
  · have hv : zoneE first cs = chk cs (-1) := by unfold zoneE; rw [if_neg c1, if_neg c2]
    have f0 : -720 ≤ first := by omega
    have f1 : first ≤ 840 := by omega
    have HV := Lib.hid hv; have HZ := Lib.hid hz; clear hv hz c2
    go_enter Try.func32, Try.ntmps32
    go_wp2_with (go_at_call 54; refine (isOffset_yes _ f0 f1 _).mono ?_; rintro e w1 ⟨rfl, rfl⟩)
    go_loopw [3, 17] (fun bv iv wr => ∃ (j : Nat) (bf : Int), j ≤ cs.length ∧ bv = .int .i64 bf ∧ iv = .int .i64 j ∧ w.grownBy wr none ∧ Hid (zoneE first cs = chk (cs.drop j) bf))
      (fun _ iv _ => cs.length - (intOf iv).toNat)
    case atStart => exact ⟨0, -1, Nat.zero_le _, rfl, rfl, World.grownBy_alloc _ _ _, HV.out⟩
    case round =>
      obtain ⟨j, bf, hj, rfl, rfl, hg, hw⟩ := hrel
      by_cases hlt : j < cs.length
      · have hd : cs.drop j = cs[j] :: cs.drop (j + 1) := List.drop_eq_getElem_cons hlt
        have hc0 := grown_cell hg (HZ.out.cells _ rfl j hlt).1
        have hc1 := grown_cell hg (HZ.out.cells _ rfl j hlt).2
        rcases hcj : cs[j] with ⟨f, o⟩
        rw [hcj] at hc0 hc1 hd
        simp only at hc0 hc1
        have HD := Lib.hid hd; clear hd hcj
        by_cases d1 : f < 0 ∨ 86399999999 < f
        · have hr : chk (cs.drop j) bf = 9 := by rw [HD.out, chk, if_pos (by omega)]
          have HR := Lib.hid hr; have D1 := Lib.hid d1; clear hr d1
          go_wp2_with (go_at_call 52; refine (isMoment_no _ D1.out _).mono ?_; rintro e w1 ⟨rfl, rfl⟩)
          go_ret
          exact ⟨ret_int (by rw [hw.out, HR.out]), grown_trans hg (World.grownBy_alloc _ _ _)⟩
        by_cases d2 : o < -720 ∨ 840 < o
        · have hr : chk (cs.drop j) bf = 9 := by rw [HD.out, chk, if_pos (by omega)]
          have HR := Lib.hid hr; have D2 := Lib.hid d2; clear hr d2
          go_wp2_with (first | (go_at_call 52; refine (isMoment_yes _ (by omega) (by omega) _).mono ?_; rintro e w1 ⟨rfl, rfl⟩) | (go_at_call 54; refine (isOffset_no _ D2.out _).mono ?_; rintro e w1 ⟨rfl, rfl⟩))
          go_ret
          exact ⟨ret_int (by rw [hw.out, HR.out]), grown_trans hg (World.grownBy_alloc _ _ _)⟩
        have g1 : 0 ≤ f := by omega
        have g2 : f ≤ 86399999999 := by omega
        have g3 : -720 ≤ o := by omega
        have g4 : o ≤ 840 := by omega
        by_cases d3 : f ≤ bf
        · have hr : chk (cs.drop j) bf = 10 := by rw [HD.out, chk, if_neg (by omega), if_pos d3]
          have HR := Lib.hid hr; clear hr d1 d2
          go_wp2_with (first | (go_at_call 52; refine (isMoment_yes _ g1 g2 _).mono ?_; rintro e w1 ⟨rfl, rfl⟩) | (go_at_call 54; refine (isOffset_yes _ g3 g4 _).mono ?_; rintro e w1 ⟨rfl, rfl⟩))
          go_ret
          exact ⟨ret_int (by rw [hw.out, HR.out]), grown_trans hg (World.grownBy_alloc _ _ _)⟩
        · have hr : chk (cs.drop j) bf = chk (cs.drop (j + 1)) f := by rw [HD.out, chk, if_neg (by omega), if_neg d3]
          have HR := Lib.hid hr; clear hr d1 d2
          go_wp2_with (first | (go_at_call 52; refine (isMoment_yes _ g1 g2 _).mono ?_; rintro e w1 ⟨rfl, rfl⟩) | (go_at_call 54; refine (isOffset_yes _ g3 g4 _).mono ?_; rintro e w1 ⟨rfl, rfl⟩))
          go_roundw
          case rel => exact ⟨j + 1, f, by omega, rfl, by go_num, grown_trans hg (World.grownBy_alloc _ _ _), by show _ = _; rw [hw.out, HR.out]⟩
          case measure => simp [intOf]; omega
      · have hr : chk (cs.drop j) bf = 0 := by rw [List.drop_eq_nil_of_le (by omega)]; rfl
        have HR := Lib.hid hr; clear hr
        go_wp2
        go_ret
        exact ⟨ret_int (by rw [hw.out, HR.out]), hg⟩

theorem checkZone_empty (first : Int) (ao : Option Addr) (cap : Nat) (w : World) :
    Calls Try.prog 32 #[.agg #[.int .i64 first, .slice ao 0 cap]] w fun e w' => e = .returned (.int .i64 (zoneE first [])) ∧ w.grownBy w' none := by
  by_cases c2 : first < -720 ∨ 840 < first
  · have hv : zoneE first [] = 9 := by unfold zoneE; rw [if_neg (by simp), if_pos c2]
    have HV := Lib.hid hv; have H2 := Lib.hid c2; clear hv c2
    go_enter Try.func32, Try.ntmps32
    go_wp2_with (go_at_call 54; refine (isOffset_no _ H2.out _).mono ?_; rintro e w1 ⟨rfl, rfl⟩)
    go_ret
    exact ⟨ret_int (by rw [HV.out]), World.grownBy_alloc _ _ _⟩
  · have hv : zoneE first [] = 0 := by unfold zoneE; rw [if_neg (by simp), if_neg c2]; rfl
    have f0 : -720 ≤ first := by omega
    have f1 : first ≤ 840 := by omega
    have HV := Lib.hid hv; clear hv c2
    go_enter Try.func32, Try.ntmps32
    go_wp2_with (go_at_call 54; refine (isOffset_yes _ f0 f1 _).mono ?_; rintro e w1 ⟨rfl, rfl⟩)
    refine wp_loop_rounds 1 ?_
    rw [rounds_succ]
    go_wp2
    go_ret
    exact ⟨ret_int (by rw [HV.out]), World.grownBy_alloc _ _ _⟩

theorem checkZone_any (first : Int) (ao : Option Addr) (cap : Nat) (cs : List (Int × Int)) (hcl : (cs.length : Int) ≤ 9223372036854775807) (w : World) (hz : ZoneAt w ao cs) :
    Calls Try.prog 32 #[.agg #[.int .i64 first, .slice ao cs.length cap]] w fun e w' => e = .returned (.int .i64 (zoneE first cs)) ∧ w.grownBy w' none := by
  cases cs with
  | nil => exact checkZone_empty first ao cap w
  | cons c r =>
    match ao, hz with
    | none, hz => exact absurd (hz.nil rfl) (by simp)
    | some ⟨b, off, sp⟩, hz =>
      have h := hz.spot _ rfl (by simp)
      simp only at h
      subst h
      exact checkZone_some first b off cap (c :: r) hcl w hz
theorem checkZone_is {first : Int} {ao : Option Addr} {cap : Nat} {cs : List (Int × Int)} (hcl : (cs.length : Int) ≤ 9223372036854775807) {w : World} (hz : ZoneAt w ao cs) {e : Int} (h : Hid (zoneE first cs = e)) :
    Calls Try.prog 32 #[.agg #[.int .i64 first, .slice ao cs.length cap]] w fun x w' => x = .returned (.int .i64 e) ∧ w.grownBy w' none := by
  have q := checkZone_any first ao cap cs hcl w hz
  rw [h.out] at q; exact q

/-- The offset: the last change that is not later. -/
def offP : Int → List (Int × Int) → Int → Int
  | first, [], _ => first
  | first, (f, o) :: r, m => if m < f then first else offP o r m

def offE (first : Int) (cs : List (Int × Int)) (m : Int) : Int × Int :=
  if zoneE first cs ≠ 0 then (0, zoneE first cs) else if m < 0 ∨ 86399999999 < m then (0, 9) else (offP first cs m, 0)

theorem offP_bd : ∀ (cs : List (Int × Int)) (first bf m : Int), -720 ≤ first → first ≤ 840 → chk cs bf = 0 → -720 ≤ offP first cs m ∧ offP first cs m ≤ 840
  | [], first, bf, m, h0, h1, _ => by simp [offP]; omega
  | (f, o) :: r, first, bf, m, h0, h1, h => by
    unfold chk at h
    split at h
    · omega
    · split at h
      · omega
      · unfold offP; split
        · omega
        · exact offP_bd r o f m (by omega) (by omega) h

set_option maxHeartbeats 800000 in
theorem offset_some (first m : Int) (b off cap : Nat) (cs : List (Int × Int)) (hcl : (cs.length : Int) ≤ 9223372036854775807) (w : World) (hz : ZoneAt w (some ⟨b, off, none⟩) cs) :
    Calls Try.prog 26 #[.agg #[.int .i64 first, .slice (some ⟨b, off, none⟩) cs.length cap], .int .i64 m] w fun e w' => e = .returned (.tuple #[.int .i64 (offE first cs m).1, .int .i64 (offE first cs m).2]) ∧ w.grownBy w' none := by
  have hcli : (cs.length : Int) ≤ 9223372036854775807 := hcl
  have HCL := Lib.hid hcl; clear hcl
  have hza : ∀ o : Obj, ZoneAt (w.alloc o) (some ⟨b, off, none⟩) cs := fun o => hz.grown (World.grownBy_alloc _ _ _)
  have HZA := Lib.hid hza; clear hza
  obtain ⟨e, he⟩ : ∃ e, zoneE first cs = e := ⟨_, rfl⟩
  have HE := Lib.hid he
  by_cases c1 : e = 0
  · subst c1
    by_cases c2 : m < 0 ∨ 86399999999 < m
    · have hv : offE first cs m = (0, 9) := by unfold offE; rw [if_neg (by simp [he]), if_pos c2]
      have HV := Lib.hid hv; have H2 := Lib.hid c2; clear hv hz c2 he
      go_enter Try.func26, Try.ntmps26
      go_wp2_with (first | (go_at_call 32; refine (checkZone_is HCL.out (HZA.out _) HE).mono ?_; rintro x w1 ⟨rfl, hg1⟩) | (go_at_call 52; refine (isMoment_no _ H2.out _).mono ?_; rintro x w2 ⟨rfl, rfl⟩))
      go_ret2
      exact ⟨ret_ii (by rw [HV.out]) (by rw [HV.out]), grown_trans (World.grownBy_alloc _ _ _) (by assumption)⟩
    · have hv : offE first cs m = (offP first cs m, 0) := by unfold offE; rw [if_neg (by simp [he]), if_neg c2]
      have m0 : 0 ≤ m := by omega
      have m1 : m ≤ 86399999999 := by omega
      have HV := Lib.hid hv; have HZ := Lib.hid hz; clear hv hz c2 he
      go_enter Try.func26, Try.ntmps26
      go_wp2_with fail
      refine (checkZone_is HCL.out (HZA.out _) HE).mono ?_
      rintro x w1 ⟨rfl, hg1⟩
      have hga := grown_trans (World.grownBy_alloc w (.cells #[.int .i64 first, .slice (some ⟨b, off, none⟩) cs.length cap] 40) none) hg1
      have hb0 : w1.cell? ⟨w.heap.size, 0, none⟩ = some (.int .i64 first) := grown_cell hg1 (by simp)
      have hb1 : w1.cell? ⟨w.heap.size, 1, none⟩ = some (.slice (some ⟨b, off, none⟩) cs.length cap) := grown_cell hg1 (by simp)
      clear hg1
      go_wp2_with (go_at_call 52; refine (isMoment_yes _ m0 m1 _).mono ?_; rintro x w2 ⟨rfl, rfl⟩)
      go_loopw [7, 23] (fun ov iv wr => ∃ (j : Nat) (o0 : Int), j ≤ cs.length ∧ ov = .int .i64 o0 ∧ iv = .int .i64 j ∧ w.grownBy wr none ∧ Hid (offP first cs m = offP o0 (cs.drop j) m))
        (fun _ iv _ => cs.length - (intOf iv).toNat)
      case atStart => exact ⟨0, first, Nat.zero_le _, rfl, rfl, hga, rfl⟩
      case round =>
        obtain ⟨j, o0, hj, rfl, rfl, hg, hw⟩ := hrel
        clear hb0 hb1 hga
        by_cases hlt : j < cs.length
        · have hd : cs.drop j = cs[j] :: cs.drop (j + 1) := List.drop_eq_getElem_cons hlt
          have hc0 := grown_cell hg (HZ.out.cells _ rfl j hlt).1
          have hc1 := grown_cell hg (HZ.out.cells _ rfl j hlt).2
          rcases hcj : cs[j] with ⟨f, o⟩
          rw [hcj] at hc0 hc1 hd
          simp only at hc0 hc1
          have HD := Lib.hid hd; clear hd hcj
          by_cases d1 : m < f
          · have hr : offP o0 (cs.drop j) m = o0 := by rw [HD.out, offP, if_pos d1]
            have HR := Lib.hid hr; clear hr
            go_wp2
            go_ret2
            exact ⟨ret_ii (by rw [HV.out, hw.out, HR.out]) (by rw [HV.out]), grown_trans hg (World.grownBy_alloc _ _ _)⟩
          · have hr : offP o0 (cs.drop j) m = offP o (cs.drop (j + 1)) m := by rw [HD.out, offP, if_neg d1]
            have HR := Lib.hid hr; clear hr
            go_wp2
            go_roundw
            case rel => exact ⟨j + 1, o, by omega, rfl, by go_num, grown_trans hg (World.grownBy_alloc _ _ _), by show _ = _; rw [hw.out, HR.out]⟩
            case measure => simp [intOf]; omega
        · have hr : offP o0 (cs.drop j) m = o0 := by rw [List.drop_eq_nil_of_le (by omega)]; rfl
          have HR := Lib.hid hr; clear hr
          go_wp2
          go_ret2
          exact ⟨ret_ii (by rw [HV.out, hw.out, HR.out]) (by rw [HV.out]), hg⟩
  · have hv : offE first cs m = (0, e) := by unfold offE; rw [he, if_pos c1]
    have hb : (e != 0) = true := by simpa using c1
    have HV := Lib.hid hv; clear hv hz he c1
    go_enter Try.func26, Try.ntmps26
    go_wp2_with (go_at_call 32; refine (checkZone_is HCL.out (HZA.out _) HE).mono ?_; rintro x w1 ⟨rfl, hg1⟩)
    go_ret2
    exact ⟨ret_ii (by rw [HV.out]) (by rw [HV.out]), grown_trans (World.grownBy_alloc _ _ _) (by assumption)⟩
end Go.Proofs.Ytfgemdfloeknfaa
