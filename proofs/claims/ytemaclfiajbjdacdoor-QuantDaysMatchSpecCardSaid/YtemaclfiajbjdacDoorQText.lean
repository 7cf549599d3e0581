/- The contracts of what writes days: numbers, two digits, dates. -/
import Derived.Test.YtemaclfiajbjdacDoorQDate
import Derived.Test.YtemaclfiajbjdacDoorShelf
import Derived.Lib.ItoaLen
namespace Go.Proofs.YtemaclfiajbjdacDoor
open Go.RowKit

theorem ret_str {a b : ByteArray} (h : a = b) : Ending.returned (.string a) = .returned (.string b) := by rw [h]
theorem ret_si {k : IntKind} {a b : ByteArray} {c d : Int} (h : a = b) (h' : c = d) : Ending.returned (.tuple #[.string a, .int k c]) = .returned (.tuple #[.string b, .int k d]) := by rw [h, h']

def digB (i : Nat) : UInt8 := UInt8.ofNat (48 + i)
def twoB (n : Nat) : ByteArray := ⟨#[digB (n / 10), digB (n % 10)]⟩
theorem dec_one : ∀ i, i < 10 → Lib.decDigits i = [digB i] := by decide +kernel
theorem dec_two : ∀ i, i < 100 → 10 ≤ i → Lib.decDigits i = [digB (i / 10), digB (i % 10)] := by decide +kernel
theorem bytes_add (a b : List UInt8) : (⟨a.toArray⟩ : ByteArray) ++ ⟨b.toArray⟩ = ⟨(a ++ b).toArray⟩ := by
  apply ByteArray.ext
  simp

theorem digit_any (i : Nat) (hi : i < 10) (w : World) : Calls Tryd.prog 37 #[.int .i64 (i : Int)] w fun e w' => e = .returned (.string ⟨#[digB i]⟩) ∧ w = w' := by
  refine (Tryd.strconv_Itoa_small i (by omega) w).mono ?_
  rintro e w' ⟨h1, h2⟩
  rw [dec_one i hi] at h1
  exact ⟨h1, h2.symm⟩
theorem small_any (i : Nat) (h0 : 10 ≤ i) (hi : i < 100) (w : World) : Calls Tryd.prog 37 #[.int .i64 (i : Int)] w fun e w' => e = .returned (.string (twoB i)) ∧ w = w' := by
  refine (Tryd.strconv_Itoa_small i hi w).mono ?_
  rintro e w' ⟨h1, h2⟩
  rw [dec_two i hi h0] at h1
  exact ⟨h1, h2.symm⟩

theorem two_any (n : Nat) (hn : n < 100) (w : World) : Calls Tryd.prog 38 #[.int .i64 (n : Int)] w fun e w' => e = .returned (.string (twoB n)) ∧ w = w' := by
  obtain ⟨q, hq⟩ : ∃ q, n / 10 = q := ⟨_, rfl⟩
  obtain ⟨r, hr⟩ : ∃ r, n % 10 = r := ⟨_, rfl⟩
  have hqi : (n : Int) / 10 = (q : Int) := by omega
  have hri : (n : Int) % 10 = (r : Int) := by omega
  have hv : twoB n = ⟨#[digB q, digB r]⟩ := by unfold twoB; rw [hq, hr]
  have hq1 : q < 10 := by omega
  have hr1 : r < 10 := by omega
  have HV := Lib.hid hv; clear hv hq hr
  go_enter Tryd.func38, Tryd.ntmps38
  go_wp2_with fail
  refine (digit_any q hq1 _).mono ?_; rintro e w1 ⟨rfl, rfl⟩
  go_wp2_with fail
  refine (digit_any r hr1 _).mono ?_; rintro e w1 ⟨rfl, rfl⟩
  go_wp2_with fail
  go_ret
  exact ⟨ret_str (by rw [HV.out]; exact bytes_add [digB q] [digB r]), rfl⟩
theorem padded_any (n : Nat) (hn : n < 100) (w : World) : Calls Tryd.prog 39 #[.int .i64 (n : Int)] w fun e w' => e = .returned (.string (twoB n)) ∧ w = w' := by
  by_cases h : n < 10
  · have hv : twoB n = ⟨#[48, digB n]⟩ := by
      have e1 : n / 10 = 0 := by omega
      have e2 : n % 10 = n := by omega
      unfold twoB; rw [e1, e2]; rfl
    have HV := Lib.hid hv; clear hv
    have hi : (n : Int) < 10 := by omega
    go_enter Tryd.func39, Tryd.ntmps39
    go_wp2_with fail
    refine (digit_any n h _).mono ?_; rintro e w1 ⟨rfl, rfl⟩
    go_wp2_with fail
    go_ret
    exact ⟨ret_str (by rw [HV.out]; exact bytes_add [48] [digB n]), rfl⟩
  · have hi : ¬ (n : Int) < 10 := by omega
    go_enter Tryd.func39, Tryd.ntmps39
    go_wp2_with fail
    refine (small_any n (by omega) hn _).mono ?_; rintro e w1 ⟨rfl, rfl⟩
    go_wp2_with fail
    go_ret
    exact ⟨rfl, rfl⟩

theorem grown_grow (w : World) (k : Nat) (os : Array Obj) : w.grownBy (Go.Sort.grow (w.drewN k) os) none := by
  refine ⟨rfl, rfl, rfl, by simp [Go.Sort.grow], fun i hi _ => ?_⟩
  show (w.heap ++ os)[i]? = _
  rw [Array.getElem?_append_left hi]

theorem itoa_any (n : Int) (h0 : -9223372036854775808 ≤ n) (h1 : n ≤ 9223372036854775807) (w : World) (ht : Tabs w) : Calls Tryd.prog 37 #[.int .i64 n] w fun e w' => e = .returned (.string ⟨(Lib.itoa n).toArray⟩) ∧ w.grownBy w' none := by
  refine (Tryd.strconv_Itoa n h0 h1 w ht.pow).mono ?_
  rintro e w' ⟨h2, k, os, rfl⟩
  exact ⟨h2, grown_grow w k os⟩

def yearB (y : Int) : ByteArray := ⟨(Lib.itoa y).toArray⟩
theorem yearB_size (y : Int) (h0 : 2000 ≤ y) (h1 : y ≤ 4738) : (yearB y).size ≤ 21 := by
  have := Lib.itoa_length_le y (by omega) (by omega)
  simpa [yearB, ByteArray.size] using this
def dateBy (yb : ByteArray) (m d : Nat) : ByteArray := (((yb ++ ⟨#[45]⟩) ++ twoB m) ++ ⟨#[45]⟩) ++ twoB d

/-- The year, month and date of a day. -/
structure DateIs (d Y : Int) (m n : Nat) : Prop where
  y0 : 2000 ≤ Y
  y1 : Y ≤ 4738
  year : InYear Y d
  month : MonthIs Y (d - NY Y) (m : Int)
  date : d - NY Y - cumD Y (m : Int) + 1 = (n : Int)
  m99 : m < 100
  n99 : n < 100
theorem date_is (d : Int) (h0 : 0 ≤ d) (h1 : d ≤ 999999) : ∃ Y m n, DateIs d Y m n := by
  obtain ⟨Y, y0, y1, hY⟩ := year_exists d (by omega) (by omega)
  obtain ⟨M, hM⟩ := month_exists Y (d - NY Y) (by have := hY.1; omega) (by have := hY.2; rw [NY_succ] at this; omega)
  have hm0 := hM.lo
  have hm1 := hM.hi
  obtain ⟨m, rfl⟩ : ∃ m : Nat, (m : Int) = M := ⟨M.toNat, by omega⟩
  have hl := hM.lt
  have hg := hM.ge
  have hs := cumD_succ Y m hm0 hm1
  have hb := monLen_bd Y m
  exact ⟨Y, m, (d - NY Y - cumD Y (m : Int) + 1).toNat, y0, y1, hY, hM, by omega, by omega, by omega⟩

theorem dateOf_is {d Y : Int} {m n : Nat} (h0 : 0 ≤ d) (h1 : d ≤ 999999) (h : Hid (DateIs d Y m n)) (w : World) (ht : Tabs w) :
    Calls Tryd.prog 8 #[.int .i64 d] w fun e w' => e = .returned (.tuple #[.int .i64 Y, .int .i64 (m : Int), .int .i64 (n : Int), .int .i64 0]) ∧ w = w' := by
  have q := dateOf_any d Y m h0 h1 h.out.y0 h.out.y1 h.out.year h.out.month w ht
  rw [h.out.date] at q
  exact q
theorem rdateOf_is {d Y : Int} {m n : Nat} (h0 : 0 ≤ d) (h1 : d ≤ 999999) (h : Hid (DateIs d Y m n)) (w : World) :
    Calls Tryd.prog 9 #[.int .i64 d] w fun e w' => e = .returned (.tuple #[.int .i64 Y, .int .i64 (m : Int), .int .i64 (n : Int), .int .i64 0]) ∧ w = w' := by
  have q := rdateOf_any d Y m h0 h1 h.out.y0 h.out.y1 h.out.year h.out.month w
  rw [h.out.date] at q
  exact q

set_option maxHeartbeats 800000 in
theorem dateText_any {d Y : Int} {m n : Nat} (h0 : 0 ≤ d) (h1 : d ≤ 999999) (h : Hid (DateIs d Y m n)) (w : World) (ht : Tabs w) :
    Calls Tryd.prog 10 #[.int .i64 d] w fun e w' => e = .returned (.tuple #[.string (dateBy (yearB Y) m n), .int .i64 0]) ∧ w.grownBy w' none := by
  have hy0 := h.out.y0
  have hy1 := h.out.y1
  have hm := h.out.m99
  have hn := h.out.n99
  have hi := itoa_any Y (by omega) (by omega) w ht
  have hsz := yearB_size Y hy0 hy1
  have hs2 : ∀ k, (twoB k).size = 2 := fun k => rfl
  rw [show (⟨(Lib.itoa Y).toArray⟩ : ByteArray) = yearB Y from rfl] at hi
  have HV : Hid (dateBy (yearB Y) m n = (((yearB Y ++ ⟨#[45]⟩) ++ twoB m) ++ ⟨#[45]⟩) ++ twoB n) := rfl
  generalize yearB Y = yb at hi hsz HV ⊢
  generalize dateBy yb m n = out at HV ⊢
  have HT := Lib.hid ht; have HI := Lib.hid hi; clear ht hi
  go_enter Tryd.func10, Tryd.ntmps10
  go_wp2_with fail
  refine (dateOf_is h0 h1 h _ HT.out).mono ?_; rintro e w1 ⟨rfl, rfl⟩
  go_wp2_with fail
  refine (HI.out).mono ?_; rintro e w1 ⟨rfl, hg1⟩
  go_wp2_with fail
  refine (two_any m hm _).mono ?_; rintro e w2 ⟨rfl, rfl⟩
  go_wp2_with fail
  refine (two_any n hn _).mono ?_; rintro e w2 ⟨rfl, rfl⟩
  go_wp2_with fail
  go_ret2
  exact ⟨ret_si (by rw [HV.out]) rfl, hg1⟩
set_option maxHeartbeats 800000 in
theorem rdateText_any {d Y : Int} {m n : Nat} (h0 : 0 ≤ d) (h1 : d ≤ 999999) (h : Hid (DateIs d Y m n)) (w : World) (ht : Tabs w) :
    Calls Tryd.prog 11 #[.int .i64 d] w fun e w' => e = .returned (.tuple #[.string (dateBy (yearB Y) m n), .int .i64 0]) ∧ w.grownBy w' none := by
  have hy0 := h.out.y0
  have hy1 := h.out.y1
  have hm := h.out.m99
  have hn := h.out.n99
  have hi := itoa_any Y (by omega) (by omega) w ht
  have hsz := yearB_size Y hy0 hy1
  have hs2 : ∀ k, (twoB k).size = 2 := fun k => rfl
  rw [show (⟨(Lib.itoa Y).toArray⟩ : ByteArray) = yearB Y from rfl] at hi
  have HV : Hid (dateBy (yearB Y) m n = (((yearB Y ++ ⟨#[45]⟩) ++ twoB m) ++ ⟨#[45]⟩) ++ twoB n) := rfl
  generalize yearB Y = yb at hi hsz HV ⊢
  generalize dateBy yb m n = out at HV ⊢
  have HT := Lib.hid ht; have HI := Lib.hid hi; clear ht hi
  go_enter Tryd.func11, Tryd.ntmps11
  go_wp2_with fail
  refine (rdateOf_is h0 h1 h _).mono ?_; rintro e w1 ⟨rfl, rfl⟩
  go_wp2_with fail
  refine (HI.out).mono ?_; rintro e w1 ⟨rfl, hg1⟩
  go_wp2_with fail
  refine (padded_any m hm _).mono ?_; rintro e w2 ⟨rfl, rfl⟩
  go_wp2_with fail
  refine (padded_any n hn _).mono ?_; rintro e w2 ⟨rfl, rfl⟩
  go_wp2_with fail
  go_ret2
  exact ⟨ret_si (by rw [HV.out]) rfl, hg1⟩
theorem dateText_no (d : Int) (h : d < 0 ∨ 999999 < d) (w : World) :
    Calls Tryd.prog 10 #[.int .i64 d] w fun e w' => e = .returned (.tuple #[.string ⟨#[]⟩, .int .i64 9]) ∧ w = w' := by
  have H := Lib.hid h; clear h
  go_enter Tryd.func10, Tryd.ntmps10
  go_wp2_with (go_at_call 8; refine (dateOf_no _ H.out _).mono ?_; rintro e w1 ⟨rfl, rfl⟩)
  go_ret2
  exact ⟨rfl, rfl⟩
end Go.Proofs.YtemaclfiajbjdacDoor
