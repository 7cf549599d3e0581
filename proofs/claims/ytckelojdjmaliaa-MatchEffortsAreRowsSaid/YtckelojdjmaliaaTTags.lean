/- The contracts of checkLaps and checkTags. -/
import Derived.Test.YtckelojdjmaliaaBaseA
namespace Go.Proofs.Ytckelojdjmaliaa
open Go.RowKit

theorem lapsE_end {sp e : Int} {l : List LapV} {k : Nat} (h : l.length ≤ k) : lapsE sp e (l.drop k) = 0 := by
  rw [List.drop_eq_nil_of_le h]; rfl
theorem lapsE_at {sp e : Int} {l : List LapV} {k : Nat} (h : k < l.length) : lapsE sp e (l.drop k) = if l[k].fr < 0 ∨ l[k].to_ ≤ l[k].fr ∨ sp < l[k].to_ then 9 else if l[k].fr < e then 10 else if lapNameB l[k].name = true then lapsE sp l[k].to_ (l.drop (k + 1)) else 8 := by
  rw [List.drop_eq_getElem_cons h, lapsE]

set_option maxHeartbeats 1600000 in
theorem chkLaps_some (span : Int) (b off cap : Nat) (ls : List LapV) (hl : (ls.length : Int) ≤ 9223372036854775807) (w : World) (hs : LapsAt w (some ⟨b, off, none⟩) ls) {E : Int} (hE : Hid (lapsE span 0 ls = E)) :
    Calls Try.prog 72 #[.slice (some ⟨b, off, none⟩) ls.length cap, .int .i64 span] w fun e w' => e = .returned (.int .i64 E) ∧ w.grownBy w' none := by
  have HS := Lib.hid hs; clear hs
  go_enter Try.func72, Try.ntmps72
  go_wp2
  go_loopw [5, 10] (fun ev iv wr => ∃ (k : Nat) (en : Int), k ≤ ls.length ∧ ev = .int .i64 en ∧ iv = .int .i64 k ∧ w.grownBy wr none ∧ Hid (lapsE span en (ls.drop k) = E))
    (fun _ iv _ => ls.length - (intOf iv).toNat)
  case atStart => exact ⟨0, 0, Nat.zero_le _, rfl, rfl, grown_refl _ _, hE.out⟩
  case round =>
    obtain ⟨k, en, hk, rfl, rfl, hg, hw⟩ := hrel
    by_cases hlt : k < ls.length
    · obtain ⟨c0, c1, c2⟩ := HS.out.cells _ rfl k hlt
      replace c0 := grown_cell hg c0; replace c1 := grown_cell hg c1; replace c2 := grown_cell hg c2
      simp only at c0 c1 c2
      have hsz := HS.out.sizes k hlt
      have HW : Hid (_ = E) := Lib.hid ((lapsE_at (sp := span) (e := en) hlt).symm.trans hw.out)
      generalize ls[k] = x at *
      obtain ⟨fr, tt, nm⟩ := x
      simp only at c0 c1 c2 HW hsz
      have HLT := Lib.hid hlt; have HZ := Lib.hid hsz
      clear hsz hw
      have G := grown_trans hg (World.grownBy_alloc wr (.cells #[.int .i64 fr, .int .i64 tt, .string nm] 135) none)
      by_cases a1 : fr < 0
      · have HE : Hid (E = 9) := by show _ = _; rw [← HW.out, if_pos (by omega)]
        clear HW
        go_wp2
        go_ret
        exact ⟨ret_int HE.out.symm, G⟩
      by_cases a2 : tt ≤ fr
      · have HE : Hid (E = 9) := by show _ = _; rw [← HW.out, if_pos (by omega)]
        clear HW
        go_wp2
        go_ret
        exact ⟨ret_int HE.out.symm, G⟩
      by_cases a3 : span < tt
      · have HE : Hid (E = 9) := by show _ = _; rw [← HW.out, if_pos (by omega)]
        clear HW
        go_wp2
        go_ret
        exact ⟨ret_int HE.out.symm, G⟩
      by_cases a4 : fr < en
      · have HE : Hid (E = 10) := by show _ = _; rw [← HW.out, if_neg (by omega), if_pos a4]
        clear HW
        go_wp2
        go_ret
        exact ⟨ret_int HE.out.symm, G⟩
      by_cases a5 : lapNameB nm = true
      · have HE : Hid (lapsE span tt (ls.drop (k + 1)) = E) := by show _ = _; rw [← HW.out, if_neg (by omega), if_neg a4, if_pos a5]
        have H5 := Lib.hid a5
        clear HW a5
        go_wp2_with (go_at_call 96; refine (isLapName_is nm HZ.out _ H5).mono ?_; rintro e w1 ⟨rfl, rfl⟩)
        go_roundw
        case rel => exact ⟨k + 1, tt, by have := HLT.out; omega, rfl, by go_num, G, HE⟩
        case measure => have := HLT.out; simp [intOf]; omega
      · have HE : Hid (E = 8) := by show _ = _; rw [← HW.out, if_neg (by omega), if_neg a4, if_neg a5]
        have H5 : Hid (lapNameB nm = false) := by show _ = _; simpa using a5
        clear HW a5
        go_wp2_with (go_at_call 96; refine (isLapName_is nm HZ.out _ H5).mono ?_; rintro e w1 ⟨rfl, rfl⟩)
        go_ret
        exact ⟨ret_int HE.out.symm, G⟩
    · have HV : Hid (E = 0) := by show _ = _; rw [← hw.out]; exact lapsE_end (by omega)
      go_wp2
      go_ret
      exact ⟨ret_int HV.out.symm, hg⟩

def prevG (l : List ByteArray) : Nat → Option ByteArray
  | 0 => none
  | k + 1 => l[k]?
theorem prevG_succ (l : List ByteArray) (k : Nat) : prevG l (k + 1) = l[k]? := rfl
theorem tagsE_end {e : Option ByteArray} {l : List ByteArray} {k : Nat} (h : l.length ≤ k) : tagsE e (l.drop k) = 0 := by
  rw [List.drop_eq_nil_of_le h]; rfl
theorem tagsE_at {e : Option ByteArray} {l : List ByteArray} {k : Nat} (h : k < l.length) : tagsE e (l.drop k) = if nameB l[k] = true then (if soonT e l[k] = true then 10 else tagsE (prevG l (k + 1)) (l.drop (k + 1))) else 8 := by
  rw [List.drop_eq_getElem_cons h, tagsE, prevG_succ, List.getElem?_eq_getElem h]

set_option maxHeartbeats 1600000 in
theorem chkTags_some (b off cap : Nat) (ts : List ByteArray) (hl : (ts.length : Int) ≤ 9223372036854775807) (w : World) (hs : TagsAt w (some ⟨b, off, none⟩) ts) {E : Int} (hE : Hid (tagsE none ts = E)) :
    Calls Try.prog 74 #[.slice (some ⟨b, off, none⟩) ts.length cap] w fun e w' => e = .returned (.int .i64 E) ∧ w = w' := by
  have HS := Lib.hid hs; clear hs
  go_enter Try.func74, Try.ntmps74
  go_wp2
  go_loop [7] (fun iv => ∃ (k : Nat), k ≤ ts.length ∧ iv = .int .i64 k ∧ Hid (tagsE (prevG ts k) (ts.drop k) = E))
    (fun iv => ts.length - (intOf iv).toNat)
  case atStart => exact ⟨0, Nat.zero_le _, rfl, hE.out⟩
  case round =>
    obtain ⟨k, hk, rfl, hw⟩ := hrel
    by_cases hlt : k < ts.length
    · have c0 := HS.out.cells _ rfl k hlt
      simp only at c0
      have hsz := HS.out.sizes k hlt
      have HW : Hid (_ = E) := Lib.hid ((tagsE_at (e := prevG ts k) hlt).symm.trans hw.out)
      generalize ts[k] = x at *
      have HLT := Lib.hid hlt; have HZ := Lib.hid hsz
      clear hsz hw
      by_cases a5 : nameB x = true
      · have H5 := Lib.hid a5
        by_cases hk0 : k = 0
        · have HE : Hid (tagsE (prevG ts (k + 1)) (ts.drop (k + 1)) = E) := by
            show _ = _; rw [← HW.out, if_pos a5, hk0]; rfl
          have e2 : decide (0 < (k : Int)) = false := by simp; omega
          have e3 : decide (0 < k) = false := by simp; omega
          have HK := Lib.hid hk0
          clear HW a5 hk0
          go_wp2_with (go_at_call 36; refine (isName_is x HZ.out _ H5).mono ?_; rintro e w1 ⟨rfl, rfl⟩)
          go_round
          case rel => exact ⟨k + 1, by have := HLT.out; omega, by go_num, HE⟩
          case measure => have := HLT.out; simp [intOf]; omega
        · obtain ⟨i, hki⟩ : ∃ i, k = i + 1 := ⟨k - 1, by omega⟩
          have hi : i < ts.length := by omega
          have c1 := HS.out.cells _ rfl i hi
          simp only at c1
          have hpv : prevG ts k = some ts[i] := by rw [hki, prevG_succ, List.getElem?_eq_getElem hi]
          generalize ts[i] = y at *
          have hs1 : soonT (prevG ts k) x = leT x y := by rw [hpv]; rfl
          have e2 : decide (0 < (k : Int)) = true := by simp; omega
          have e3 : 0 < k := by omega
          have ea : ((k : Int) - 1).toNat = i := by omega
          have pa : (0 : Int) ≤ (k : Int) - 1 := by omega
          have pb : (1 : Int) ≤ (k : Int) := by omega
          have ba : (k : Int) - 1 < (ts.length : Int) := by omega
          have HKI := Lib.hid hki
          clear hki hk0
          by_cases a6 : leT x y = true
          · have HE : Hid (E = 10) := by show _ = _; rw [← HW.out, if_pos a5, if_pos (hs1.trans a6)]
            have f1 : (Op.bytesLess x.toList y.toList || x.toList == y.toList) = true := a6
            clear HW a5 hpv hs1 a6
            go_wp2_with (go_at_call 36; refine (isName_is x HZ.out _ H5).mono ?_; rintro e w1 ⟨rfl, rfl⟩)
            go_ret
            exact ⟨ret_int HE.out.symm, rfl⟩
          · have HE : Hid (tagsE (prevG ts (k + 1)) (ts.drop (k + 1)) = E) := by
              show _ = _; rw [← HW.out, if_pos a5, if_neg (by rw [hs1]; exact a6)]
            have f1 : (Op.bytesLess x.toList y.toList || x.toList == y.toList) = false := by unfold leT at a6; simpa using a6
            clear HW a5 hpv hs1 a6
            go_wp2_with (go_at_call 36; refine (isName_is x HZ.out _ H5).mono ?_; rintro e w1 ⟨rfl, rfl⟩)
            go_round
            case rel => exact ⟨k + 1, by have := HLT.out; omega, by go_num, HE⟩
            case measure => have := HLT.out; simp [intOf]; omega
      · have HE : Hid (E = 8) := by show _ = _; rw [← HW.out, if_neg a5]
        have H5 : Hid (nameB x = false) := by show _ = _; simpa using a5
        clear HW a5
        go_wp2_with (go_at_call 36; refine (isName_is x HZ.out _ H5).mono ?_; rintro e w1 ⟨rfl, rfl⟩)
        go_ret
        exact ⟨ret_int HE.out.symm, rfl⟩
    · have HV : Hid (E = 0) := by show _ = _; rw [← hw.out]; exact tagsE_end (by omega)
      go_wp2
      go_ret
      exact ⟨ret_int HV.out.symm, rfl⟩

end Go.Proofs.Ytckelojdjmaliaa
