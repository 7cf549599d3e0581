/- The law's walk: days, dates and their texts, as the reference has them. -/
import Derived.Test.YtemaclfiajbjdacDoorQRefRead
import Derived.Test.YtemaclfiajbjdacDoorQText
import Derived.Test.YtemaclfiajbjdacDoorQTold
namespace Go.Proofs.YtemaclfiajbjdacDoor
open Go.RowKit

set_option maxRecDepth 100000 in
set_option maxHeartbeats 3200000 in
theorem days_in (day y m d : Int) (s : ByteArray) (hs : s.size ≤ 140737488351232) (hd0 : -9223372036854775808 ≤ d) (hd1 : d ≤ 9223372036854775807) (w : World) (ht : Tabs w) (h0 : 0 ≤ day) (h1 : day ≤ 999999) :
    Calls Tryd.prog 3 #[.int .i64 day, .int .i64 y, .int .i64 m, .int .i64 d, .string s] w fun x w' => x = .returned (.bool true) ∧ w.grownBy w' none := by
  obtain ⟨Y, M, D, hI⟩ := date_is day h0 h1
  have HI := Lib.hid hI; have HT := Lib.hid ht; clear hI ht
  have c1 := dayOf_any y m d hd0 hd1 w HT.out
  have c2 := rDayOf_any y m d w
  obtain ⟨⟨a, b⟩, hab⟩ : ∃ q : Int × Int, dayV y m d = q := ⟨_, rfl⟩
  rw [hab] at c1 c2
  simp only at c1 c2
  obtain ⟨⟨n, at_, e⟩, hA⟩ : ∃ q : Int × Int × Int, dateAns (rem s 0) = q := ⟨_, rfl⟩
  obtain ⟨B, hB⟩ : ∃ B, dateBy (yearB Y) M D = B := ⟨_, rfl⟩
  have c5 := dateText_any h0 h1 HI w HT.out
  have c6 := fun w ht => rdateText_any h0 h1 HI w ht
  rw [hB] at c5
  simp only [hB] at c6
  have HA := Lib.hid hA; have C1 := Lib.hid c1; have C2 := Lib.hid c2; have C5 := Lib.hid c5; have C6 := Lib.hid c6
  clear hA c1 c2 c5 c6 hab hB
  have e1 : (a == a) = true := by simp
  have e2 : (b == b) = true := by simp
  have e3 : (Y == Y) = true := by simp
  have e4 : ((M : Int) == (M : Int)) = true := by simp
  have e5 : ((D : Int) == (D : Int)) = true := by simp
  have e7 : (n == n) = true := by simp
  have e8 : (at_ == at_) = true := by simp
  have e9 : (e == e) = true := by simp
  go_enter Tryd.func3, Tryd.ntmps3
  go_wp2_with fail
  refine C1.out.mono ?_; rintro x w1 ⟨rfl, rfl⟩
  go_wp2_with fail
  refine C2.out.mono ?_; rintro x w1 ⟨rfl, rfl⟩
  go_wp2_with fail
  refine (dateOf_is h0 h1 HI _ HT.out).mono ?_; rintro x w1 ⟨rfl, rfl⟩
  go_wp2_with fail
  refine (rdateOf_is h0 h1 HI _).mono ?_; rintro x w1 ⟨rfl, rfl⟩
  go_wp2_with fail
  refine C5.out.mono ?_; rintro x w1 ⟨rfl, hg1⟩
  go_wp2_with fail
  refine (C6.out _ (HT.out.grown hg1)).mono ?_; rintro x w2 ⟨rfl, hg2⟩
  have hg := grown_trans hg1 hg2
  clear hg1 hg2
  go_wp2_with fail
  refine (readDate_any s hs _ (HT.out.grown hg) HA).mono ?_; rintro x w3 ⟨rfl, hg3⟩
  replace hg := grown_trans hg hg3
  clear hg3
  go_wp2_with fail
  refine (rreadDate_any s hs _ HA).mono ?_; rintro x w4 ⟨rfl, hg4⟩
  replace hg := grown_trans hg hg4
  clear hg4
  go_wp2_with fail
  refine (told_any _).mono ?_; rintro x w5 ⟨rfl, hg5⟩
  replace hg := grown_trans hg hg5
  clear hg5
  go_wp2_with fail
  go_ret
  exact ⟨rfl, hg⟩
set_option maxRecDepth 100000 in
set_option maxHeartbeats 3200000 in
theorem days_out (day y m d : Int) (s : ByteArray) (hs : s.size ≤ 140737488351232) (hd0 : -9223372036854775808 ≤ d) (hd1 : d ≤ 9223372036854775807) (w : World) (ht : Tabs w) (h : day < 0 ∨ 999999 < day) :
    Calls Tryd.prog 3 #[.int .i64 day, .int .i64 y, .int .i64 m, .int .i64 d, .string s] w fun x w' => x = .returned (.bool true) ∧ w.grownBy w' none := by
  have H := Lib.hid h; have HT := Lib.hid ht; clear h ht
  have c1 := dayOf_any y m d hd0 hd1 w HT.out
  have c2 := rDayOf_any y m d w
  obtain ⟨⟨a, b⟩, hab⟩ : ∃ q : Int × Int, dayV y m d = q := ⟨_, rfl⟩
  rw [hab] at c1 c2
  simp only at c1 c2
  obtain ⟨⟨n, at_, e⟩, hA⟩ : ∃ q : Int × Int × Int, dateAns (rem s 0) = q := ⟨_, rfl⟩
  have HA := Lib.hid hA; have C1 := Lib.hid c1; have C2 := Lib.hid c2; 
  clear hA c1 c2 hab
  have e1 : (a == a) = true := by simp
  have e2 : (b == b) = true := by simp
  have e7 : (n == n) = true := by simp
  have e8 : (at_ == at_) = true := by simp
  have e9 : (e == e) = true := by simp
  go_enter Tryd.func3, Tryd.ntmps3
  go_wp2_with fail
  refine C1.out.mono ?_; rintro x w1 ⟨rfl, rfl⟩
  go_wp2_with fail
  refine C2.out.mono ?_; rintro x w1 ⟨rfl, rfl⟩
  go_wp2_with fail
  refine (dateOf_no _ H.out _).mono ?_; rintro x w1 ⟨rfl, rfl⟩
  go_wp2_with fail
  refine (rdateOf_no _ H.out _).mono ?_; rintro x w1 ⟨rfl, rfl⟩
  go_wp2_with fail
  refine (dateText_no _ H.out _).mono ?_; rintro x w1 ⟨rfl, rfl⟩
  go_wp2_with fail
  refine (rdateText_no _ H.out _).mono ?_; rintro x w1 ⟨rfl, rfl⟩
  go_wp2_with fail
  refine (readDate_any s hs _ HT.out HA).mono ?_; rintro x w3 ⟨rfl, hg3⟩
  go_wp2_with fail
  refine (rreadDate_any s hs _ HA).mono ?_; rintro x w4 ⟨rfl, hg4⟩
  have hg := grown_trans hg3 hg4
  clear hg3 hg4
  go_wp2_with fail
  refine (told_any _).mono ?_; rintro x w5 ⟨rfl, hg5⟩
  replace hg := grown_trans hg hg5
  clear hg5
  go_wp2_with fail
  go_ret
  exact ⟨rfl, hg⟩

theorem days_walk (day y m d : Int) (s : ByteArray) (hs : s.size ≤ 140737488351232) (hd0 : -9223372036854775808 ≤ d) (hd1 : d ≤ 9223372036854775807) (w : World) (ht : Tabs w) :
    Calls Tryd.prog 3 #[.int .i64 day, .int .i64 y, .int .i64 m, .int .i64 d, .string s] w fun x w' => x = .returned (.bool true) ∧ w.grownBy w' none := by
  by_cases h : day < 0 ∨ 999999 < day
  · exact days_out day y m d s hs hd0 hd1 w ht h
  · exact days_in day y m d s hs hd0 hd1 w ht (by omega) (by omega)
end Go.Proofs.YtemaclfiajbjdacDoor
