/- The contract of told. -/
import Derived.Test.YteaifonpkdjkcaaFSeries
namespace Go.Proofs.Yteaifonpkdjkcaa
open Go.RowKit

theorem ftold_E : seriesE [43, 0] 42 1000 = 0 := by rfl
theorem ftold_N : seriesN [43, 0] 42 1000 = 2 := by rfl
set_option maxHeartbeats 800000 in
theorem ftold_any (w : World) : Calls Try.prog 66 #[] w fun x w' => x = .returned (.bool true) ∧ w.grownBy w' none := by
  go_enter Try.func66, Try.ntmps66
  have hI : IntsAt (w.alloc (.cells #[.int .i64 43, .int .i64 0] 3)) (some ⟨w.heap.size, 0, none⟩) [43, 0] := by
    refine ⟨fun h => (by cases h), fun a ha _ => (by cases ha; rfl), fun a ha i hi => ?_⟩
    cases ha
    match i, hi with
    | 0, _ => simp [nthI]
    | 1, _ => simp [nthI]
  have HI := Lib.hid hI
  clear hI
  have GA := World.grownBy_alloc w (.cells #[.int .i64 43, .int .i64 0] 3) none
  go_wp2_with fail
  refine (series_any _ 2 [43, 0] (by decide) 42 1000 _ HI.out (Lib.hid ftold_E) (Lib.hid ftold_N)).mono ?_; rintro e w1 ⟨⟨ao, cap, rfl, hF⟩, hg1⟩
  have HG := Lib.hid (grown_trans GA hg1)
  have HF := Lib.hid hF
  clear hg1 GA HI hF
  go_wp2_with fail
  have IB : FInts (w1.alloc (.cells #[.int .i64 2000, .int .i64 1952] 3)) (some ⟨w1.heap.size, 0, none⟩) 2 (fun j => stN [43, 0] 42 1000 (j + 1)) := fun j hj => by
    refine ⟨_, rfl, ?_⟩
    match j, hj with
    | 0, _ => change _ = some (Value.int .i64 2000); go_simp
    | 1, _ => change _ = some (Value.int .i64 1952); go_simp
  refine (equal_fints (HF.out.grown (World.grownBy_alloc _ _ _)) IB (fun _ _ => rfl) (by omega)).mono ?_; rintro e w2 ⟨rfl, hg2⟩
  have HG2 := Lib.hid (grown_trans HG.out (grown_trans (World.grownBy_alloc _ _ _) hg2))
  clear hg2 HG IB HF
  go_wp2_with fail
  go_ret
  exact ⟨by first | rfl | simp, HG2.out⟩

end Go.Proofs.Yteaifonpkdjkcaa
