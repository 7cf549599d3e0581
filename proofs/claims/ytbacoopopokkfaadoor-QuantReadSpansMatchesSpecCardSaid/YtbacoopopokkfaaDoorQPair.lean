/- The contracts of pair, and of what opens a text. -/
import Derived.Test.YtbacoopopokkfaaDoorQTake
namespace Go.Proofs.YtbacoopopokkfaaDoor
open Go.RowKit
set_option linter.unusedSimpArgs false
set_option linter.unusedVariables false

set_option maxHeartbeats 800000 in
theorem pair_any (most : Int) (h0 : 0 ≤ most) (h99 : most ≤ 99) {s : ByteArray} {k : Nat} {a b : Nat} {w : World} (hat : At w a b s k) :
    Calls Tryd.prog 66 #[.func (.func 73) #[] #[.pointer (some ⟨a, 0, none⟩), .pointer (some ⟨b, 0, none⟩)], .int .i64 most] w fun e w' => e = .returned (.tuple #[.int .i64 (pairV most (rem s k)).val, .bool (pairV most (rem s k)).ok]) ∧ Moved w w' a b s (k + (pairV most (rem s k)).used) := by
  have hd0 : 0 ≤ most / 10 := by omega
  have hd9 : most / 10 ≤ 9 := by omega
  have hr0 : 0 ≤ most % 10 := by omega
  have hr9 : most % 10 ≤ 9 := by omega
  rcases hx : tkV 48 (48 + most / 10) (rem s k) with _ | t
  · have hv : pairV most (rem s k) = ⟨0, false, 0⟩ := by unfold pairV; rw [hx]
    have HX := Lib.hid hx; clear hx
    have HV := Lib.hid hv; clear hv
    go_enter Tryd.func66, Tryd.ntmps66
    go_wp2_with (go_at_call 73; refine (take_none hat _ _ (by exact HX.out)).mono ?_; rintro e w1 ⟨rfl, rfl⟩)
    go_ret2
    exact ⟨ret_ib (by rw [HV.out]) (by rw [HV.out]), by rw [HV.out]; exact hat.refl⟩
  · have hb := tkV_bd hx
    have hb1 : 48 ≤ (t : Int) := by omega
    have hb2 : (t : Int) ≤ 57 := by omega
    by_cases hq : (t : Int) = 48 + most / 10
    all_goals
      first | (have hq1 : ((t : Int) == 48 + most / 10) = true := by simpa using hq) | (have hq1 : ((t : Int) == 48 + most / 10) = false := by simpa using hq)
      rcases hy : tkV 48 (if (t : Int) = 48 + most / 10 then 48 + most % 10 else 57) (rem s (k + 1)) with _ | o
      · have hv : pairV most (rem s k) = ⟨0, false, 1⟩ := by unfold pairV; rw [hx]; simp only [rem_tail]; rw [hy]
        first | rw [if_pos hq] at hy | rw [if_neg hq] at hy
        have HX := Lib.hid hx; clear hx hb
        have HY := Lib.hid hy; clear hy hq
        have HV := Lib.hid hv; clear hv
        go_enter Tryd.func66, Tryd.ntmps66
        go_wp2_with fail
        refine (take_some hat _ _ (by exact HX.out)).mono ?_
        rintro e w1 ⟨rfl, hm1⟩
        go_wp2_with fail
        refine (take_none hm1.pos _ _ (by exact HY.out)).mono ?_
        rintro e w1 ⟨rfl, rfl⟩
        go_wp2
        go_ret2
        exact ⟨ret_ib (by rw [HV.out]) (by rw [HV.out]), by rw [HV.out]; exact hm1⟩
      · have hv : pairV most (rem s k) = ⟨10 * ((t : Int) - 48) + ((o : Int) - 48), true, 2⟩ := by unfold pairV; rw [hx]; simp only [rem_tail]; rw [hy]
        first | rw [if_pos hq] at hy | rw [if_neg hq] at hy
        have hb' := tkV_bd hy
        have hb3 : 48 ≤ (o : Int) := by omega
        have hb4 : (o : Int) ≤ 57 := by omega
        have HX := Lib.hid hx; clear hx hb
        have HY := Lib.hid hy; clear hy hq hb'
        have HV := Lib.hid hv; clear hv
        go_enter Tryd.func66, Tryd.ntmps66
        go_wp2_with fail
        refine (take_some hat _ _ (by exact HX.out)).mono ?_
        rintro e w1 ⟨rfl, hm1⟩
        go_wp2_with fail
        refine (take_some hm1.pos _ _ (by exact HY.out)).mono ?_
        rintro e w2 ⟨rfl, hm2⟩
        go_wp2
        go_ret2
        exact ⟨ret_ib (by rw [HV.out]) (by rw [HV.out]), by rw [HV.out]; exact (hm1.trans hm2).eq rfl⟩

/-- A text is opened: its box, then its place. -/
theorem open_any (s : ByteArray) (w : World) :
    Calls Tryd.prog 53 #[.string s] w fun e w' => e = .returned (.tuple #[.func (.func 73) #[] #[.pointer (some ⟨w.heap.size + 1, 0, none⟩), .pointer (some ⟨w.heap.size, 0, none⟩)], .func (.func 74) #[] #[.pointer (some ⟨w.heap.size + 1, 0, none⟩)]]) ∧ (w.alloc (.cells #[.string s] 9)).alloc (.cells #[.int .i64 0] 3) = w' := by
  have hmf : ∀ (fn : Fn) (first cap : Array Value) (w : World), (Instr.makeFunc fn first cap).run Tryd.prog w = .ok (.func fn first cap) w := fun _ _ _ _ => rfl
  go_enter Tryd.func53, Tryd.ntmps53
  go_wp2
  go_ret2
  exact ⟨rfl, rfl⟩

theorem opened (s : ByteArray) (w : World) (hs : s.size ≤ 140737488351232) : At ((w.alloc (.cells #[.string s] 9)).alloc (.cells #[.int .i64 0] 3)) (w.heap.size + 1) w.heap.size s 0 := by
  refine ⟨?_, ?_, hs, Nat.zero_le _⟩
  · simpa using heap_alloc_new (w.alloc (.cells #[.string s] 9)) (.cells #[.int .i64 0] 3)
  · rw [Below.heap_alloc _ _ _ (by simp)]
    exact heap_alloc_new w _

theorem place_any {s : ByteArray} {k : Nat} {a b : Nat} {w : World} (hat : At w a b s k) :
    Calls Tryd.prog 74 #[.pointer (some ⟨a, 0, none⟩)] w fun e w' => e = .returned (.int .i64 k) ∧ w = w' := by
  have hc := cell_of_one hat.hA
  go_enter Tryd.func74, Tryd.ntmps74
  go_wp2
  go_ret
  exact ⟨rfl, rfl⟩

end Go.Proofs.YtbacoopopokkfaaDoor
