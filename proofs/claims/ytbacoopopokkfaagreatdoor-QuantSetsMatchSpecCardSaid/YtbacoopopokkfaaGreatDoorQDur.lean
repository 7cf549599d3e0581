/- The contract of ReadDuration. -/
import Derived.Test.YtbacoopopokkfaaGreatDoorQForms
import Derived.Test.YtbacoopopokkfaaGreatDoorQParts
import Derived.Shelf.Abstract
namespace Go.Proofs.YtbacoopopokkfaaGreatDoor
open Go.RowKit
set_option linter.unusedSimpArgs false
set_option linter.unusedVariables false

theorem short_is (w0 : World) : FormIs w0 (.func (.func 56) #[] #[]) (inSixtiesV 0 59 1) := by
  refine ⟨_, _, rfl, enters_of Tryz.func56 (by kernel_rfl) rfl, fun w s a b k _ _ hat => ?_⟩
  show Calls Tryz.prog 56 #[.func (.func 98) #[] #[.pointer (some ⟨a, 0, none⟩), .pointer (some ⟨b, 0, none⟩)]] w _
  go_enter Tryz.func56, Tryz.ntmps56
  go_wp2_with (go_at_call 57; refine (inSixties_any 0 59 1 (.inl rfl) (by omega) (by omega) (by omega) (by omega) hat).mono ?_; rintro e w1 ⟨rfl, hm⟩)
  go_ret2
  exact ⟨rfl, hm⟩
theorem long_is (w0 : World) : FormIs w0 (.func (.func 58) #[] #[]) (inSixtiesV 1 999 2) := by
  refine ⟨_, _, rfl, enters_of Tryz.func58 (by kernel_rfl) rfl, fun w s a b k _ _ hat => ?_⟩
  show Calls Tryz.prog 58 #[.func (.func 98) #[] #[.pointer (some ⟨a, 0, none⟩), .pointer (some ⟨b, 0, none⟩)]] w _
  go_enter Tryz.func58, Tryz.ntmps58
  go_wp2_with (go_at_call 57; refine (inSixties_any 1 999 2 (.inr rfl) (by omega) (by omega) (by omega) (by omega) hat).mono ?_; rintro e w1 ⟨rfl, hm⟩)
  go_ret2
  exact ⟨rfl, hm⟩
theorem parts_is (w0 : World) : FormIs w0 (.func (.func 60) #[] #[]) (fun R => partsV 0 R 0 0) := by
  refine ⟨_, _, rfl, enters_of Tryz.func60 (by kernel_rfl) rfl, fun w s a b k _ _ hat => ?_⟩
  exact parts_any hat

def durForms : List (Value × (List Nat → Got)) :=
  [(.func (.func 56) #[] #[], inSixtiesV 0 59 1), (.func (.func 58) #[] #[], inSixtiesV 1 999 2), (.func (.func 60) #[] #[], fun R => partsV 0 R 0 0)]

def durR (L : List Nat) : Int × Int × Int := readV 1000 [inSixtiesV 0 59 1, inSixtiesV 1 999 2, fun R => partsV 0 R 0 0] L

def durV (L : List Nat) : Int × Int × Int := if (durR L).2.2 = 0 ∧ 3599999 < (durR L).1 then (0, 0, 9) else durR L

theorem durRead (s : ByteArray) (hs : s.size ≤ 140737488351232) (w : World) {v f e : Int} (h : durR (rem s 0) = (v, f, e)) :
    Calls Tryz.prog 59 #[.string s, .int .i64 1000, .slice (some ⟨w.heap.size, 0, none⟩) 3 3] (w.alloc (.cells #[.func (.func 56) #[] #[], .func (.func 58) #[] #[], .func (.func 60) #[] #[]] 102)) fun x w' => x = .returned (.tuple #[.int .i64 v, .int .i64 f, .int .i64 e]) ∧ w.grownBy w' none := by
  have hb : (w.alloc (.cells #[.func (.func 56) #[] #[], .func (.func 58) #[] #[], .func (.func 60) #[] #[]] 102)).heap[w.heap.size]? = _ := heap_alloc_new w _
  have q := read_any s hs 1000 durForms (by decide) w.heap.size 3 (w.alloc (.cells #[.func (.func 56) #[] #[], .func (.func 58) #[] #[], .func (.func 60) #[] #[]] 102))
    (fun i hi => by
      simp only [World.cell?, hb]
      match i, hi with
      | 0, _ => rfl
      | 1, _ => rfl
      | 2, _ => rfl)
    (fun i hi => by
      match i, hi with
      | 0, _ => exact short_is _
      | 1, _ => exact long_is _
      | 2, _ => exact parts_is _)
  have h' : readV 1000 (durForms.map (·.2)) (rem s 0) = (v, f, e) := h
  rw [h'] at q
  exact q.mono fun x w' ⟨h1, h2⟩ => ⟨h1, grown_trans (World.grownBy_alloc _ _ _) h2⟩

set_option maxHeartbeats 800000 in
theorem readDuration_any (s : ByteArray) (hs : s.size ≤ 140737488351232) (w : World) :
    Calls Tryz.prog 40 #[.string s] w fun e w' => e = .returned (.tuple #[.int .i64 (durV (rem s 0)).1, .int .i64 (durV (rem s 0)).2.1, .int .i64 (durV (rem s 0)).2.2]) ∧ w.grownBy w' none := by
  rcases hr : durR (rem s 0) with ⟨v, f, e⟩
  by_cases he : e = 0
  · subst he
    by_cases hv : 3599999 < v
    · have hd : durV (rem s 0) = (0, 0, 9) := by unfold durV; rw [hr]; simp [hv]
      have HD := Lib.hid hd; clear hd
      have HR := Lib.hid hr; clear hr
      go_enter Tryz.func40, Tryz.ntmps40
      go_wp2_with (go_at_call 59; refine (durRead s hs w HR.out).mono ?_; rintro x w1 ⟨rfl, hg⟩)
      go_ret3
      exact ⟨ret_iii (by rw [HD.out]) (by rw [HD.out]) (by rw [HD.out]), hg⟩
    · have hd : durV (rem s 0) = (v, f, 0) := by unfold durV; rw [hr]; simp [hv]
      have HD := Lib.hid hd; clear hd
      have HR := Lib.hid hr; clear hr
      go_enter Tryz.func40, Tryz.ntmps40
      go_wp2_with (go_at_call 59; refine (durRead s hs w HR.out).mono ?_; rintro x w1 ⟨rfl, hg⟩)
      go_ret3
      exact ⟨ret_iii (by rw [HD.out]) (by rw [HD.out]) (by rw [HD.out]), hg⟩
  · have hd : durV (rem s 0) = (v, f, e) := by unfold durV; rw [hr]; simp [he]
    have hq : (e == 0) = false := by simpa using he
    clear he
    have HD := Lib.hid hd; clear hd
    have HR := Lib.hid hr; clear hr
    go_enter Tryz.func40, Tryz.ntmps40
    go_wp2_with (go_at_call 59; refine (durRead s hs w HR.out).mono ?_; rintro x w1 ⟨rfl, hg⟩)
    go_ret3
    exact ⟨ret_iii (by rw [HD.out]) (by rw [HD.out]) (by rw [HD.out]), hg⟩

theorem dur_told : durV [49, 104, 53, 115] = (3605, 0, 0) := by decide +kernel
end Go.Proofs.YtbacoopopokkfaaGreatDoor
