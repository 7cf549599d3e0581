/- The contract of told: a gate is crossed as the document tells. -/
import Derived.Test.YtckelojdjmaliaaMCross
import Derived.Test.YtckelojdjmaliaaMSort1
namespace Go.Proofs.Ytckelojdjmaliaa
open Go.RowKit
set_option linter.unusedSimpArgs false
set_option linter.unusedVariables false

set_option maxHeartbeats 1600000 in
theorem equal_crs {w : World} {a1 a2 : Option Addr} {c1 c2 : Nat} {L : List Crs} (h1 : RowsAt crsCs 3 w a1 L) (h2 : RowsAt crsCs 3 w a2 L) (hn : (L.length : Int) ≤ 9223372036854775807) :
    Calls Try.prog 17 #[.slice a1 L.length c1, .slice a2 L.length c2] w fun e w' => e = .returned (.bool true) ∧ w.grownBy w' none := by
  have Q1 := Lib.hid h1; have Q2 := Lib.hid h2
  clear h1 h2
  go_enter Try.func17, Try.ntmps17
  go_wp2_with fail
  go_loopw [13] (fun iv wr => ∃ k : Nat, k ≤ L.length ∧ iv = .int .i64 k ∧ Hid (w.grownBy wr none)) (fun iv _ => L.length - (intOf iv).toNat)
  case atStart => exact ⟨0, Nat.zero_le _, rfl, grown_refl _ _⟩
  case round =>
    obtain ⟨k, hk, rfl, hg⟩ := hrel
    by_cases hlt : k < L.length
    · obtain ⟨b1, o1, rfl, q1⟩ := rows_at (Q1.out.grown hg.out) (by omega)
      obtain ⟨b2, o2, rfl, q2⟩ := rows_at (Q2.out.grown hg.out) (by omega)
      have x0 := q1 k hlt 0 _ rfl; have x1 := q1 k hlt 1 _ rfl; have x2 := q1 k hlt 2 _ rfl
      have y0 := q2 k hlt 0 _ rfl; have y1 := q2 k hlt 1 _ rfl; have y2 := q2 k hlt 2 _ rfl
      generalize L[k] = h at *
      obtain ⟨z0, z1, z2⟩ := h
      simp only [Nat.add_zero] at x0 x1 x2 y0 y1 y2
      clear q1 q2
      go_wp2_with fail
      go_quiet (fail)
      go_wp2_with fail
      go_roundw
      case rel => exact ⟨k + 1, by omega, by go_num, grown_trans hg.out (grown_drewN _ _ _)⟩
      case measure => simp [intOf]; omega
    · go_wp2_with fail
      go_ret
      exact ⟨rfl, hg.out⟩

def toldG : List Gt := [⟨0, 10, 0, -10⟩, ⟨100, 10, 100, -10⟩]
def toldS : List Smp := [⟨0, -5, 0, 0, -1, -1, -1⟩, ⟨10, 5, 0, 0, -1, -1, -1⟩]
def toldL : Nat → List Psg := fun _ => [⟨0, 100, 200⟩]
def segT (g : Nat) : Seg := ⟨⟨#[115]⟩, some ⟨g, 0, none⟩, 2, toldG⟩
def actT (g : Nat) : Act := ⟨⟨#[97]⟩, 1, 0, some ⟨g, 0, none⟩, 2, toldS, none, 0, [], none, 0, []⟩
theorem segT_e (g : Nat) : segE (segT g).name (segT g).gs = 0 := by rfl
theorem actT_e (g : Nat) : chkE (actT g) = 0 := by rfl
theorem told_crs (g h : Nat) : crsE (segT g) (actT h) = 0 := by unfold crsE; rw [segT_e, if_pos rfl]; exact actT_e h
theorem told_list (g h : Nat) : crsL toldL (segT g) (actT h) = [⟨0, 0, 5000⟩] := by unfold crsL; rw [if_pos (told_crs g h)]; rfl
theorem told_steps : StepsOk toldG toldS toldL := by
  intro j hj
  have hj0 : j = 0 := by have : toldS.length = 2 := rfl; omega
  subst hj0
  have e : passK toldG (smpPt (smpD toldS 0)) (smpPt (smpD toldS (0 + 1))) toldG.length = [⟨0, 100, 200⟩] := by decide
  rw [e]
  exact ⟨sort_short (by decide), List.Perm.refl _⟩

set_option maxRecDepth 100000 in
set_option maxHeartbeats 3200000 in
theorem told5_any (w : World) : Calls Try.prog 14 #[] w fun x w' => x = .returned (.bool true) ∧ w.grownBy w' none := by
  go_enter Try.func14, Try.ntmps14
  go_wp2_with fail
  have gA : ∀ (V : World) (o : Obj), V.grownBy (V.alloc o) none := fun V o => World.grownBy_alloc V o none
  have B1 : ((((w.alloc (.cells #[.int .i64 0, .int .i64 10, .int .i64 0, .int .i64 (-10), .int .i64 100, .int .i64 10, .int .i64 100, .int .i64 (-10)] 73)).alloc (.cells #[.string ⟨#[115]⟩, .slice (some ⟨w.heap.size, 0, none⟩) 2 2] 24)).alloc (.cells #[.int .i64 0, .int .i64 (-5), .int .i64 0, .int .i64 0, .int .i64 (-1), .int .i64 (-1), .int .i64 (-1), .int .i64 10, .int .i64 5, .int .i64 0, .int .i64 0, .int .i64 (-1), .int .i64 (-1), .int .i64 (-1)] 79)).alloc (.cells #[.string ⟨#[97]⟩, .int .i64 1, .int .i64 0, .slice (some ⟨w.heap.size + 1 + 1, 0, none⟩) 2 2, .slice none 0 0, .slice none 0 0] 36)).heap[w.heap.size]? = some (.cells #[.int .i64 0, .int .i64 10, .int .i64 0, .int .i64 (-10), .int .i64 100, .int .i64 10, .int .i64 100, .int .i64 (-10)] 73 (0, 0)) := mblock_at (mblock_at (mblock_at (mheap_new w _) (gA _ _) (by simp)) (gA _ _) (by simp)) (gA _ _) (by simp)
  have B3 : ((((w.alloc (.cells #[.int .i64 0, .int .i64 10, .int .i64 0, .int .i64 (-10), .int .i64 100, .int .i64 10, .int .i64 100, .int .i64 (-10)] 73)).alloc (.cells #[.string ⟨#[115]⟩, .slice (some ⟨w.heap.size, 0, none⟩) 2 2] 24)).alloc (.cells #[.int .i64 0, .int .i64 (-5), .int .i64 0, .int .i64 0, .int .i64 (-1), .int .i64 (-1), .int .i64 (-1), .int .i64 10, .int .i64 5, .int .i64 0, .int .i64 0, .int .i64 (-1), .int .i64 (-1), .int .i64 (-1)] 79)).alloc (.cells #[.string ⟨#[97]⟩, .int .i64 1, .int .i64 0, .slice (some ⟨w.heap.size + 1 + 1, 0, none⟩) 2 2, .slice none 0 0, .slice none 0 0] 36)).heap[w.heap.size + 1 + 1]? = some (.cells #[.int .i64 0, .int .i64 (-5), .int .i64 0, .int .i64 0, .int .i64 (-1), .int .i64 (-1), .int .i64 (-1), .int .i64 10, .int .i64 5, .int .i64 0, .int .i64 0, .int .i64 (-1), .int .i64 (-1), .int .i64 (-1)] 79 (0, 0)) := by
    have q := mheap_new ((w.alloc (.cells #[.int .i64 0, .int .i64 10, .int .i64 0, .int .i64 (-10), .int .i64 100, .int .i64 10, .int .i64 100, .int .i64 (-10)] 73)).alloc (.cells #[.string ⟨#[115]⟩, .slice (some ⟨w.heap.size, 0, none⟩) 2 2] 24)) (.cells #[.int .i64 0, .int .i64 (-5), .int .i64 0, .int .i64 0, .int .i64 (-1), .int .i64 (-1), .int .i64 (-1), .int .i64 10, .int .i64 5, .int .i64 0, .int .i64 0, .int .i64 (-1), .int .i64 (-1), .int .i64 (-1)] 79)
    rw [show ((w.alloc (.cells #[.int .i64 0, .int .i64 10, .int .i64 0, .int .i64 (-10), .int .i64 100, .int .i64 10, .int .i64 100, .int .i64 (-10)] 73)).alloc (.cells #[.string ⟨#[115]⟩, .slice (some ⟨w.heap.size, 0, none⟩) 2 2] 24)).heap.size = w.heap.size + 1 + 1 from by simp] at q
    exact mblock_at q (gA _ _) (by simp)
  have G4 : Hid (w.grownBy ((((w.alloc (.cells #[.int .i64 0, .int .i64 10, .int .i64 0, .int .i64 (-10), .int .i64 100, .int .i64 10, .int .i64 100, .int .i64 (-10)] 73)).alloc (.cells #[.string ⟨#[115]⟩, .slice (some ⟨w.heap.size, 0, none⟩) 2 2] 24)).alloc (.cells #[.int .i64 0, .int .i64 (-5), .int .i64 0, .int .i64 0, .int .i64 (-1), .int .i64 (-1), .int .i64 (-1), .int .i64 10, .int .i64 5, .int .i64 0, .int .i64 0, .int .i64 (-1), .int .i64 (-1), .int .i64 (-1)] 79)).alloc (.cells #[.string ⟨#[97]⟩, .int .i64 1, .int .i64 0, .slice (some ⟨w.heap.size + 1 + 1, 0, none⟩) 2 2, .slice none 0 0, .slice none 0 0] 36)) none) := grown_trans (grown_trans (grown_trans (gA _ _) (gA _ _)) (gA _ _)) (gA _ _)
  clear gA
  generalize ((((w.alloc (.cells #[.int .i64 0, .int .i64 10, .int .i64 0, .int .i64 (-10), .int .i64 100, .int .i64 10, .int .i64 100, .int .i64 (-10)] 73)).alloc (.cells #[.string ⟨#[115]⟩, .slice (some ⟨w.heap.size, 0, none⟩) 2 2] 24)).alloc (.cells #[.int .i64 0, .int .i64 (-5), .int .i64 0, .int .i64 0, .int .i64 (-1), .int .i64 (-1), .int .i64 (-1), .int .i64 10, .int .i64 5, .int .i64 0, .int .i64 0, .int .i64 (-1), .int .i64 (-1), .int .i64 (-1)] 79)).alloc (.cells #[.string ⟨#[97]⟩, .int .i64 1, .int .i64 0, .slice (some ⟨w.heap.size + 1 + 1, 0, none⟩) 2 2, .slice none 0 0, .slice none 0 0] 36)) = w4 at *
  have HG : GatesAt w4 (some ⟨w.heap.size, 0, none⟩) toldG := rows_block (fun _ => rfl) B1 rfl
  have HS : SegAt w4 (segT w.heap.size) := ⟨by show (1 : Nat) ≤ 140737488355328; decide, by show ((2 : Nat) : Int) ≤ 9223372036854775807; decide, HG⟩
  have HA : ActAt w4 (actT (w.heap.size + 1 + 1)) := by
    refine ⟨(by show (1 : Nat) ≤ 140737488355328; decide), (by show ((2 : Nat) : Int) ≤ 9223372036854775807; decide), (by show ((0 : Nat) : Int) ≤ 9223372036854775807; decide), (by show ((0 : Nat) : Int) ≤ 9223372036854775807; decide), ⟨fun h => (by cases h), fun a ha _ => (by cases ha; rfl), fun a ha i hi => ?_⟩, ⟨fun _ => rfl, fun a ha => (by cases ha), fun a ha => (by cases ha), fun i hi => absurd hi (by simp [actT])⟩, ⟨fun _ => rfl, fun a ha => (by cases ha), fun a ha => (by cases ha), fun i hi => absurd hi (by simp [actT])⟩⟩
    cases ha
    have h2 : i < 2 := hi
    match i, h2 with
    | 0, _ => exact ⟨mblock_cell B3 0 _ rfl, mblock_cell B3 1 _ rfl, mblock_cell B3 2 _ rfl, mblock_cell B3 3 _ rfl, mblock_cell B3 4 _ rfl, mblock_cell B3 5 _ rfl, mblock_cell B3 6 _ rfl⟩
    | 1, _ => exact ⟨mblock_cell B3 7 _ rfl, mblock_cell B3 8 _ rfl, mblock_cell B3 9 _ rfl, mblock_cell B3 10 _ rfl, mblock_cell B3 11 _ rfl, mblock_cell B3 12 _ rfl, mblock_cell B3 13 _ rfl⟩
  have HS2 := Lib.hid HS; have HA2 := Lib.hid HA
  clear HG HS HA B1 B3
  refine (Crossings_is (segT w.heap.size) (actT (w.heap.size + 1 + 1)) w4 HS2.out HA2.out toldL (fun _ => told_steps) (E := 0) (told_crs _ _)).mono ?_; rintro x w5 ⟨⟨v, rfl, ho⟩, hg5⟩
  rw [told_list] at ho
  obtain ⟨ao, cap, hv, _, hr, _⟩ := own_rows (cs := crsCs) (l := [⟨0, 0, 5000⟩]) (fun _ => rfl) ho
  subst hv
  have HR := Lib.hid hr
  have G5 := Lib.hid (grown_trans G4.out hg5)
  clear ho hr hg5 HS2 HA2 G4
  go_wp2_with fail
  have b6 := mheap_new w5 (.cells #[.int .i64 0, .int .i64 0, .int .i64 5000] 42)
  have g6 := World.grownBy_alloc w5 (.cells #[.int .i64 0, .int .i64 0, .int .i64 5000] 42) none
  have r2 : RowsAt crsCs 3 (w5.alloc (.cells #[.int .i64 0, .int .i64 0, .int .i64 5000] 42)) (some ⟨w5.heap.size, 0, none⟩) [⟨0, 0, 5000⟩] := rows_block (fun _ => rfl) b6 rfl
  refine (equal_crs (L := [⟨0, 0, 5000⟩]) (HR.out.grown g6) r2 (by decide)).mono ?_; rintro x w6 ⟨rfl, hg6⟩
  have G6 := Lib.hid (grown_trans G5.out (grown_trans g6 hg6))
  clear b6 g6 r2 hg6
  go_wp2_with fail
  go_ret
  exact ⟨rfl, G6.out⟩
end Go.Proofs.Ytckelojdjmaliaa
