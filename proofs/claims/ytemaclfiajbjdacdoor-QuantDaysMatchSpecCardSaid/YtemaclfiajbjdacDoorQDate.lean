/- The contracts of quant's days of dates, and of dates of days. -/
import Derived.Test.YtemaclfiajbjdacDoorQRefDat
import Derived.Lib.LaidTab
namespace Go.Proofs.YtemaclfiajbjdacDoor
open Go.RowKit

def monthTab : List Int := [31, 28, 31, 30, 31, 30, 31, 31, 30, 31, 30, 31]

/-- What is taken of the package-level tables. -/
structure Tabs (w : World) : Prop where
  pow : Lib.TabIs Tryd.prog w "internal/strconv.uint64pow10" .u64 Lib.pow10Tab
  mon : Lib.TabIs Tryd.prog w "harrier/quant.months" .i64 monthTab

theorem tab_grown {name : String} {k : IntKind} {zs : List Int} {w w' : World} (h : Lib.TabIs Tryd.prog w name k zs) (g : w.grownBy w' none) : Lib.TabIs Tryd.prog w' name k zs := by
  unfold Lib.TabIs World.var? at h ⊢
  rcases hn : Tryd.prog.globalNamed name with _ | b
  · rw [hn] at h; simp at h
  · simp only [hn, Option.bind_some] at h ⊢
    rcases hb : w.heap[b]? with _ | o
    · rw [hb] at h; simp at h
    · rw [g.block b (lt_of_block hb) (by simp), hb]
      rw [hb] at h
      exact h
theorem Tabs.grown {w w' : World} (h : Tabs w) (g : w.grownBy w' none) : Tabs w' := ⟨tab_grown h.pow g, tab_grown h.mon g⟩
theorem month_cell {w : World} (h : Tabs w) (i : Nat) (hi : i < 12) : w.cell? ⟨1, i, none⟩ = some (.int .i64 (monthTab.getD i 0)) :=
  h.mon.cell (by kernel_rfl) i hi

theorem isLeap_any (y : Int) (h0 : 0 ≤ y) (h1 : y ≤ 100000) (w : World) {b : Bool} (hb : Hid (leapB y = b)) :
    Calls Tryd.prog 64 #[.int .i64 y] w fun e w' => e = .returned (.bool b) ∧ w = w' := by
  have hb' := hb.out
  unfold leapB at hb'
  by_cases c1 : y % 4 = 0
  · have b1 : (y % 4 == 0) = true := by simpa using c1
    by_cases c2 : y % 100 = 0
    · have b2 : (y % 100 != 0) = false := by simpa using c2
      by_cases c3 : y % 400 = 0
      · have b3 : (y % 400 == 0) = true := by simpa using c3
        have e : b = true := by rw [← hb']; simp [c1, c3]
        clear c1 c2 c3 hb'
        go_enter Tryd.func64, Tryd.ntmps64
        go_wp2
        go_ret
        exact ⟨ret_bool e.symm, rfl⟩
      · have b3 : (y % 400 == 0) = false := by simpa using c3
        have e : b = false := by rw [← hb']; simp [c2, c3]
        clear c1 c2 c3 hb'
        go_enter Tryd.func64, Tryd.ntmps64
        go_wp2
        go_ret
        exact ⟨ret_bool e.symm, rfl⟩
    · have b2 : (y % 100 != 0) = true := by simpa using c2
      have e : b = true := by rw [← hb']; simp [c1, c2]
      clear c1 c2 hb'
      go_enter Tryd.func64, Tryd.ntmps64
      go_wp2
      go_ret
      exact ⟨ret_bool e.symm, rfl⟩
  · have b1 : (y % 4 == 0) = false := by simpa using c1
    have c3 : ¬ y % 400 = 0 := by omega
    have b3 : (y % 400 == 0) = false := by simpa using c3
    have e : b = false := by rw [← hb']; simp [c1]
    clear c1 c3 hb'
    go_enter Tryd.func64, Tryd.ntmps64
    go_wp2
    go_ret
    exact ⟨ret_bool e.symm, rfl⟩

set_option maxHeartbeats 1600000 in
theorem monthLong_any (y m : Int) (h0 : 0 ≤ y) (h1 : y ≤ 100000) (hm0 : 1 ≤ m) (hm1 : m ≤ 12) (w : World) (ht : Tabs w) :
    Calls Tryd.prog 29 #[.int .i64 y, .int .i64 m] w fun e w' => e = .returned (.int .i64 (monLen y m)) ∧ w = w' := by
  rcases (show m = 2 ∨ m = 1 ∨ m = 3 ∨ m = 4 ∨ m = 5 ∨ m = 6 ∨ m = 7 ∨ m = 8 ∨ m = 9 ∨ m = 10 ∨ m = 11 ∨ m = 12 by omega) with rfl | rfl | rfl | rfl | rfl | rfl | rfl | rfl | rfl | rfl | rfl | rfl
  · rcases hl : leapB y with _ | _
    · have hv : monLen y 2 = 28 := by simp [monLen, yearLen, hl]
      have hc := month_cell ht 1 (by omega)
      simp only [monthTab, List.getD_cons_succ, List.getD_cons_zero] at hc
      have HL := Lib.hid hl; have HV := Lib.hid hv; clear hl hv
      go_enter Tryd.func29, Tryd.ntmps29
      go_wp2_with (go_at_call 64; refine (isLeap_any y h0 h1 _ HL).mono ?_; rintro e w1 ⟨rfl, rfl⟩)
      go_ret
      exact ⟨ret_int (by rw [HV.out]), rfl⟩
    · have hv : monLen y 2 = 29 := by simp [monLen, yearLen, hl]
      have HL := Lib.hid hl; have HV := Lib.hid hv; clear hl hv
      go_enter Tryd.func29, Tryd.ntmps29
      go_wp2_with (go_at_call 64; refine (isLeap_any y h0 h1 _ HL).mono ?_; rintro e w1 ⟨rfl, rfl⟩)
      go_ret
      exact ⟨ret_int (by rw [HV.out]), rfl⟩
  · have hc := month_cell ht 0 (by omega)
    simp only [monthTab, List.getD_cons_succ, List.getD_cons_zero] at hc
    go_enter Tryd.func29, Tryd.ntmps29
    go_wp2
    go_ret
    exact ⟨ret_int (by simp [monLen]), rfl⟩
  · have hc := month_cell ht 2 (by omega)
    simp only [monthTab, List.getD_cons_succ, List.getD_cons_zero] at hc
    go_enter Tryd.func29, Tryd.ntmps29
    go_wp2
    go_ret
    exact ⟨ret_int (by simp [monLen]), rfl⟩
  · have hc := month_cell ht 3 (by omega)
    simp only [monthTab, List.getD_cons_succ, List.getD_cons_zero] at hc
    go_enter Tryd.func29, Tryd.ntmps29
    go_wp2
    go_ret
    exact ⟨ret_int (by simp [monLen]), rfl⟩
  · have hc := month_cell ht 4 (by omega)
    simp only [monthTab, List.getD_cons_succ, List.getD_cons_zero] at hc
    go_enter Tryd.func29, Tryd.ntmps29
    go_wp2
    go_ret
    exact ⟨ret_int (by simp [monLen]), rfl⟩
  · have hc := month_cell ht 5 (by omega)
    simp only [monthTab, List.getD_cons_succ, List.getD_cons_zero] at hc
    go_enter Tryd.func29, Tryd.ntmps29
    go_wp2
    go_ret
    exact ⟨ret_int (by simp [monLen]), rfl⟩
  · have hc := month_cell ht 6 (by omega)
    simp only [monthTab, List.getD_cons_succ, List.getD_cons_zero] at hc
    go_enter Tryd.func29, Tryd.ntmps29
    go_wp2
    go_ret
    exact ⟨ret_int (by simp [monLen]), rfl⟩
  · have hc := month_cell ht 7 (by omega)
    simp only [monthTab, List.getD_cons_succ, List.getD_cons_zero] at hc
    go_enter Tryd.func29, Tryd.ntmps29
    go_wp2
    go_ret
    exact ⟨ret_int (by simp [monLen]), rfl⟩
  · have hc := month_cell ht 8 (by omega)
    simp only [monthTab, List.getD_cons_succ, List.getD_cons_zero] at hc
    go_enter Tryd.func29, Tryd.ntmps29
    go_wp2
    go_ret
    exact ⟨ret_int (by simp [monLen]), rfl⟩
  · have hc := month_cell ht 9 (by omega)
    simp only [monthTab, List.getD_cons_succ, List.getD_cons_zero] at hc
    go_enter Tryd.func29, Tryd.ntmps29
    go_wp2
    go_ret
    exact ⟨ret_int (by simp [monLen]), rfl⟩
  · have hc := month_cell ht 10 (by omega)
    simp only [monthTab, List.getD_cons_succ, List.getD_cons_zero] at hc
    go_enter Tryd.func29, Tryd.ntmps29
    go_wp2
    go_ret
    exact ⟨ret_int (by simp [monLen]), rfl⟩
  · have hc := month_cell ht 11 (by omega)
    simp only [monthTab, List.getD_cons_succ, List.getD_cons_zero] at hc
    go_enter Tryd.func29, Tryd.ntmps29
    go_wp2
    go_ret
    exact ⟨ret_int (by simp [monLen]), rfl⟩

/-- The day of a date. -/
def dayV (y m d : Int) : Int × Int :=
  if y < 2000 ∨ 5000 < y ∨ m < 1 ∨ 12 < m ∨ d < 1 ∨ monLen y m < d ∨ NY y + cumD y m + d - 1 < 0 ∨ 999999 < NY y + cumD y m + d - 1 then (0, 9) else (NY y + cumD y m + d - 1, 0)

set_option maxHeartbeats 1600000 in
theorem dayOf_any (y m d : Int) (hd0 : -9223372036854775808 ≤ d) (hd1 : d ≤ 9223372036854775807) (w : World) (ht : Tabs w) :
    Calls Tryd.prog 6 #[.int .i64 y, .int .i64 m, .int .i64 d] w fun e w' => e = .returned (.tuple #[.int .i64 (dayV y m d).1, .int .i64 (dayV y m d).2]) ∧ w = w' := by
  have HT := Lib.hid ht; clear ht
  by_cases c1 : y < 2000
  · have hv : dayV y m d = (0, 9) := by unfold dayV; rw [if_pos (by omega)]
    have HV := Lib.hid hv; clear hv
    go_enter Tryd.func6, Tryd.ntmps6
    go_wp2
    go_ret2
    exact ⟨ret_ii (by rw [HV.out]) (by rw [HV.out]), rfl⟩
  by_cases c2 : 5000 < y
  · have hv : dayV y m d = (0, 9) := by unfold dayV; rw [if_pos (by omega)]
    have HV := Lib.hid hv; clear hv
    go_enter Tryd.func6, Tryd.ntmps6
    go_wp2
    go_ret2
    exact ⟨ret_ii (by rw [HV.out]) (by rw [HV.out]), rfl⟩
  by_cases c3 : m < 1
  · have hv : dayV y m d = (0, 9) := by unfold dayV; rw [if_pos (by omega)]
    have HV := Lib.hid hv; clear hv
    go_enter Tryd.func6, Tryd.ntmps6
    go_wp2
    go_ret2
    exact ⟨ret_ii (by rw [HV.out]) (by rw [HV.out]), rfl⟩
  by_cases c4 : 12 < m
  · have hv : dayV y m d = (0, 9) := by unfold dayV; rw [if_pos (by omega)]
    have HV := Lib.hid hv; clear hv
    go_enter Tryd.func6, Tryd.ntmps6
    go_wp2
    go_ret2
    exact ⟨ret_ii (by rw [HV.out]) (by rw [HV.out]), rfl⟩
  have hml := monLen_bd y m
  by_cases c5 : d < 1
  · have hv : dayV y m d = (0, 9) := by unfold dayV; rw [if_pos (by omega)]
    have HV := Lib.hid hv; clear hv
    go_enter Tryd.func6, Tryd.ntmps6
    go_wp2
    go_ret2
    exact ⟨ret_ii (by rw [HV.out]) (by rw [HV.out]), rfl⟩
  by_cases c6 : monLen y m < d
  · have hv : dayV y m d = (0, 9) := by unfold dayV; rw [if_pos (by omega)]
    have HV := Lib.hid hv; clear hv
    go_enter Tryd.func6, Tryd.ntmps6
    go_wp2_with (go_at_call 29; refine (monthLong_any y m (by omega) (by omega) (by omega) (by omega) _ HT.out).mono ?_; rintro e w1 ⟨rfl, rfl⟩)
    go_ret2
    exact ⟨ret_ii (by rw [HV.out]) (by rw [HV.out]), rfl⟩
  have hny := NY_bd y (by omega) (by omega)
  go_enter Tryd.func6, Tryd.ntmps6
  go_wp2_with (first | (go_at_call 29; refine (monthLong_any y m (by omega) (by omega) (by omega) (by omega) _ HT.out).mono ?_; rintro e w1 ⟨rfl, rfl⟩) | (go_at_call 30; refine (newYear_any _ (by omega) (by omega) _).mono ?_; rintro e w1 ⟨rfl, rfl⟩))
  go_loopw [8, 9] (fun dv mv wr => ∃ k : Int, 1 ≤ k ∧ k ≤ m ∧ mv = .int .i64 k ∧ dv = .int .i64 (NY y + d - 1 + cumD y k) ∧ w = wr) (fun _ mv _ => (m - intOf mv).toNat)
  case atStart => exact ⟨1, by omega, by omega, rfl, by simp [cumD], rfl⟩
  case round =>
    obtain ⟨k, hk0, hk1, rfl, rfl, rfl⟩ := hrel
    have hcb := cumD_bd y k hk0 (by omega)
    by_cases hlt : k < m
    · have hkb := monLen_bd y k
      have hks := cumD_succ y k hk0 (by omega)
      obtain ⟨C, hC⟩ : ∃ C, cumD y k = C := ⟨_, rfl⟩
      rw [hC] at hcb hks
      rw [hC]
      have HKS := Lib.hid hks; clear hks hC
      go_wp2_with (go_at_call 29; refine (monthLong_any y k (by omega) (by omega) (by omega) (by omega) _ HT.out).mono ?_; rintro e w1 ⟨rfl, rfl⟩)
      go_roundw
      case rel => exact ⟨k + 1, by omega, by omega, rfl, by rw [HKS.out]; exact congrArg _ (by omega), by trivial⟩
      case measure => simp [intOf]; omega
    · have hke : k = m := by omega
      subst hke
      obtain ⟨C, hC⟩ : ∃ C, cumD y k = C := ⟨_, rfl⟩
      rw [hC] at hcb
      rw [hC]
      by_cases c7 : NY y + d - 1 + C < 0 ∨ 999999 < NY y + d - 1 + C
      · have hv : dayV y k d = (0, 9) := by unfold dayV; rw [if_pos]; rw [hC]; omega
        have HV := Lib.hid hv; have C7 := Lib.hid c7; clear hv hC c7
        go_wp2_with (go_at_call 31; refine (isDay_no _ C7.out _).mono ?_; rintro e w1 ⟨rfl, rfl⟩)
        go_ret2
        exact ⟨ret_ii (by rw [HV.out]) (by rw [HV.out]), rfl⟩
      · have hv : dayV y k d = (NY y + d - 1 + C, 0) := by
          unfold dayV; rw [if_neg]
          · rw [hC]; exact Prod.ext (by simp only; omega) rfl
          · rw [hC]; omega
        have HV := Lib.hid hv; clear hv hC
        have d0 : 0 ≤ NY y + d - 1 + C := by omega
        have d1 : NY y + d - 1 + C ≤ 999999 := by omega
        clear c7
        go_wp2_with (go_at_call 31; refine (isDay_yes _ d0 d1 _).mono ?_; rintro e w1 ⟨rfl, rfl⟩)
        go_ret2
        exact ⟨ret_ii (by rw [HV.out]) (by rw [HV.out]), rfl⟩

theorem dateOf_no (d : Int) (h : d < 0 ∨ 999999 < d) (w : World) :
    Calls Tryd.prog 8 #[.int .i64 d] w fun e w' => e = .returned (.tuple #[.int .i64 0, .int .i64 0, .int .i64 0, .int .i64 9]) ∧ w = w' := by
  have H := Lib.hid h; clear h
  go_enter Tryd.func8, Tryd.ntmps8
  go_wp2_with (go_at_call 31; refine (isDay_no _ H.out _).mono ?_; rintro e w1 ⟨rfl, rfl⟩)
  exact bodyPost_ret (v := .tuple #[.int .i64 0, .int .i64 0, .int .i64 0, .int .i64 9]) (by simp [results, Tryd.results8, go_sem]) rfl ⟨rfl, rfl⟩

set_option maxHeartbeats 1600000 in
theorem dateOf_any (d Y M : Int) (h0 : 0 ≤ d) (h1 : d ≤ 999999) (h2 : 2000 ≤ Y) (h3 : Y ≤ 4738) (hY : Hid (InYear Y d)) (hM : Hid (MonthIs Y (d - NY Y) M)) (w : World) (ht : Tabs w) :
    Calls Tryd.prog 8 #[.int .i64 d] w fun e w' => e = .returned (.tuple #[.int .i64 Y, .int .i64 M, .int .i64 (d - NY Y - cumD Y M + 1), .int .i64 0]) ∧ w = w' := by
  have HT := Lib.hid ht; clear ht
  have hny := NY_bd Y (by omega) (by omega)
  have hM0 := hM.out.lo
  have hM1 := hM.out.hi
  have hge : NY Y ≤ d := hY.out.1
  go_enter Tryd.func8, Tryd.ntmps8
  go_wp2_with (first | (go_at_call 31; refine (isDay_yes _ h0 h1 _).mono ?_; rintro e w1 ⟨rfl, rfl⟩) | (go_at_call 34; refine (yearOf_any _ Y (by omega) (by omega) h2 h3 hY _).mono ?_; rintro e w1 ⟨rfl, rfl⟩) | (go_at_call 30; refine (newYear_any _ (by omega) (by omega) _).mono ?_; rintro e w1 ⟨rfl, rfl⟩))
  go_loopw [3, 6] (fun mv nv wr => ∃ m k : Int, 1 ≤ m ∧ m ≤ M ∧ mv = .int .i64 m ∧ nv = .int .i64 k ∧ 0 ≤ k ∧ k ≤ 999999 ∧ Hid (k = d - NY Y - cumD Y m) ∧ w = wr) (fun mv _ _ => (M - intOf mv).toNat)
  case atStart => exact ⟨1, d - NY Y, by omega, hM0, rfl, rfl, by omega, by have := NY_lt Y (Y + 1) (by omega); have := hM.out.lt; have := hM.out.ge; have := cumD_bd Y (M + 1) (by omega) (by omega); omega, by show _ = _; simp [cumD], rfl⟩
  case round =>
    obtain ⟨m, k, f0, f1, rfl, rfl, f2, f3, fk, rfl⟩ := hrel
    have hmb := monLen_bd Y m
    have hms := cumD_succ Y m f0 (by omega)
    by_cases hml : m < M
    · have hge2 : monLen Y m ≤ k := by
        have := fk.out
        have := cumD_le Y (m + 1) M (by omega) (by omega) (by omega)
        have := hM.out.ge
        omega
      have hkx : Hid (k - monLen Y m = d - NY Y - cumD Y (m + 1)) := by show _ = _; have := fk.out; omega
      have HMS := Lib.hid hms; clear hms
      go_wp2_with (go_at_call 29; refine (monthLong_any _ _ (by omega) (by omega) (by omega) (by omega) _ HT.out).mono ?_; rintro e w1 ⟨rfl, rfl⟩)
      go_roundw
      case rel => exact ⟨m + 1, k - monLen Y m, by omega, by omega, rfl, rfl, by omega, by omega, hkx, by trivial⟩
      case measure => simp [intOf]; omega
    · have hem : m = M := by omega
      subst hem
      have hlt3 : k < monLen Y m := by have := fk.out; have := hM.out.lt; omega
      have HMS := Lib.hid hms; clear hms
      go_wp2_with (go_at_call 29; refine (monthLong_any _ _ (by omega) (by omega) (by omega) (by omega) _ HT.out).mono ?_; rintro e w1 ⟨rfl, rfl⟩)
      exact bodyPost_ret (v := .tuple #[.int .i64 Y, .int .i64 m, .int .i64 (k + 1), .int .i64 0]) (by simp [results, Tryd.results8, go_sem]) rfl ⟨by rw [fk.out], rfl⟩
end Go.Proofs.YtemaclfiajbjdacDoor
