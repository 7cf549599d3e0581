/- The contract of ReadDuration. -/
import Derived.Test.YtbacoopopokkfaaDoorQForms
import Derived.Test.YtbacoopopokkfaaDoorQParts
import Derived.Shelf.Abstract
namespace Go.Proofs.YtbacoopopokkfaaDoor
open Go.RowKit
set_option linter.unusedSimpArgs false
set_option linter.unusedVariables false

theorem short_is (w0 : World) : FormIs w0 (.func (.func 40) #[] #[]) (inSixtiesV 0 59 1) := by
  refine ⟨_, _, rfl, enters_of Tryd.func40 (by kernel_rfl) rfl, fun w s a b k _ _ hat => ?_⟩
  show Calls Tryd.prog 40 #[.func (.func 73) #[] #[.pointer (some ⟨a, 0, none⟩), .pointer (some ⟨b, 0, none⟩)]] w _
  go_enter Tryd.func40, Tryd.ntmps40
  go_wp2_with (go_at_call 41; refine (inSixties_any 0 59 1 (.inl rfl) (by omega) (by omega) (by omega) (by omega) hat).mono ?_; rintro e w1 ⟨rfl, hm⟩)
  go_ret2
  exact ⟨rfl, hm⟩
theorem long_is (w0 : World) : FormIs w0 (.func (.func 42) #[] #[]) (inSixtiesV 1 999 2) := by
  refine ⟨_, _, rfl, enters_of Tryd.func42 (by kernel_rfl) rfl, fun w s a b k _ _ hat => ?_⟩
  show Calls Tryd.prog 42 #[.func (.func 73) #[] #[.pointer (some ⟨a, 0, none⟩), .pointer (some ⟨b, 0, none⟩)]] w _
  go_enter Tryd.func42, Tryd.ntmps42
  go_wp2_with (go_at_call 41; refine (inSixties_any 1 999 2 (.inr rfl) (by omega) (by omega) (by omega) (by omega) hat).mono ?_; rintro e w1 ⟨rfl, hm⟩)
  go_ret2
  exact ⟨rfl, hm⟩
theorem parts_is (w0 : World) : FormIs w0 (.func (.func 44) #[] #[]) (fun R => partsV 0 R 0 0) := by
  refine ⟨_, _, rfl, enters_of Tryd.func44 (by kernel_rfl) rfl, fun w s a b k _ _ hat => ?_⟩
  exact parts_any hat

def durForms : List (Value × (List Nat → Got)) :=
  [(.func (.func 40) #[] #[], inSixtiesV 0 59 1), (.func (.func 42) #[] #[], inSixtiesV 1 999 2), (.func (.func 44) #[] #[], fun R => partsV 0 R 0 0)]

def durR (L : List Nat) : Int × Int × Int := readV 1000 [inSixtiesV 0 59 1, inSixtiesV 1 999 2, fun R => partsV 0 R 0 0] L

def durV (L : List Nat) : Int × Int × Int := if (durR L).2.2 = 0 ∧ 3599999 < (durR L).1 then (0, 0, 9) else durR L

theorem durRead (s : ByteArray) (hs : s.size ≤ 140737488351232) (w : World) {v f e : Int} (h : durR (rem s 0) = (v, f, e)) :
    Calls Tryd.prog 43 #[.string s, .int .i64 1000, .slice (some ⟨w.heap.size, 0, none⟩) 3 3] (w.alloc (.cells #[.func (.func 40) #[] #[], .func (.func 42) #[] #[], .func (.func 44) #[] #[]] 104)) fun x w' => x = .returned (.tuple #[.int .i64 v, .int .i64 f, .int .i64 e]) ∧ w.grownBy w' none := by
  have hb : (w.alloc (.cells #[.func (.func 40) #[] #[], .func (.func 42) #[] #[], .func (.func 44) #[] #[]] 104)).heap[w.heap.size]? = _ := heap_alloc_new w _
  have q := read_any s hs 1000 durForms (by decide) w.heap.size 3 (w.alloc (.cells #[.func (.func 40) #[] #[], .func (.func 42) #[] #[], .func (.func 44) #[] #[]] 104))
    (fun i hi => by
      simp only [World.cell?, hb]
      match i, hi with
      | 0, _ => rfl
      | 1, _ => rfl
      | 2, _ => rfl)
    (fun i hi => by
      match i, hi with
      | 0, _ => exact short_is _
      | 1, _ => exact long_is _
      | 2, _ => exact parts_is _)
  have h' : readV 1000 (durForms.map (·.2)) (rem s 0) = (v, f, e) := h
  rw [h'] at q
  exact q.mono fun x w' ⟨h1, h2⟩ => ⟨h1, grown_trans (World.grownBy_alloc _ _ _) h2⟩

set_option maxHeartbeats 800000 in
theorem readDuration_any (s : ByteArray) (hs : s.size ≤ 140737488351232) (w : World) :
    Calls Tryd.prog 19 #[.string s] w fun e w' => e = .returned (.tuple #[.int .i64 (durV (rem s 0)).1, .int .i64 (durV (rem s 0)).2.1, .int .i64 (durV (rem s 0)).2.2]) ∧ w.grownBy w' none := by
  rcases hr : durR (rem s 0) with ⟨v, f, e⟩
  by_cases he : e = 0
  · subst he
    by_cases hv : 3599999 < v
    · have hd : durV (rem s 0) = (0, 0, 9) := by unfold durV; rw [hr]; simp [hv]
      have HD := Lib.hid hd; clear hd
      have HR := Lib.hid hr; clear hr
      go_enter Tryd.func19, Tryd.ntmps19
      go_wp2_with (go_at_call 43; refine (durRead s hs w HR.out).mono ?_; rintro x w1 ⟨rfl, hg⟩)
      go_ret3
      exact ⟨ret_iii (by rw [HD.out]) (by rw [HD.out]) (by rw [HD.out]), hg⟩
    · have hd : durV (rem s 0) = (v, f, 0) := by unfold durV; rw [hr]; simp [hv]
      have HD := Lib.hid hd; clear hd
      have HR := Lib.hid hr; clear hr
      go_enter Tryd.func19, Tryd.ntmps19
      go_wp2_with (go_at_call 43; refine (durRead s hs w HR.out).mono ?_; rintro x w1 ⟨rfl, hg⟩)
      go_ret3
      exact ⟨ret_iii (by rw [HD.out]) (by rw [HD.out]) (by rw [HD.out]), hg⟩
  · have hd : durV (rem s 0) = (v, f, e) := by unfold durV; rw [hr]; simp [he]
    have hq : (e == 0) = false := by simpa using he
    clear he
    have HD := Lib.hid hd; clear hd
    have HR := Lib.hid hr; clear hr
    go_enter Tryd.func19, Tryd.ntmps19
    go_wp2_with (go_at_call 43; refine (durRead s hs w HR.out).mono ?_; rintro x w1 ⟨rfl, hg⟩)
    go_ret3
    exact ⟨ret_iii (by rw [HD.out]) (by rw [HD.out]) (by rw [HD.out]), hg⟩

theorem dur_told : durV [49, 104, 53, 115] = (3605, 0, 0) := by decide +kernel
end Go.Proofs.YtbacoopopokkfaaDoor
