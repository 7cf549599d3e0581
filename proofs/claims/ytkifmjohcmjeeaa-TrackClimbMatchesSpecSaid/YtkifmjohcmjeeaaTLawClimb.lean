/- For all activities, Climb returns what the reference returns: the walk. -/
import Derived.Test.YtkifmjohcmjeeaaTTold
import Derived.Test.YtkifmjohcmjeeaaTRClimbO
namespace Go.Proofs.Ytkifmjohcmjeeaa
open Go.RowKit

set_option maxRecDepth 100000 in
set_option maxHeartbeats 1600000 in
theorem climb_law (a : Act) (th : Int) (w : World) (ha : ActAt w a) (hc : a.ss.length ≤ a.sc) :
    Calls Try.prog 13 #[a.val, .int .i64 th] w fun e w' => e = .returned (.bool true) ∧ w.grownBy w' none := by
  rcases hwe : climbE a th with ⟨r, E⟩
  have HWE := Lib.hid hwe; have HA := Lib.hid ha; have HC := Lib.hid hc
  clear hwe ha hc
  obtain ⟨nm, sp, st, so, sc, ss, lo, lc, ls, to_, tc, ts⟩ := a
  obtain ⟨ru, rd, rt, rz⟩ := r
  simp only [Act.val]
  go_enter Try.func13, Try.ntmps13
  go_wp2_with fail
  refine (climb_any ⟨nm, sp, st, so, sc, ss, lo, lc, ls, to_, tc, ts⟩ th _ (HA.out.grown (World.grownBy_alloc _ _ _)) HC.out HWE).mono ?_; rintro x w1 ⟨rfl, hg1⟩
  have GB : Hid (w.grownBy (w.alloc (.cells #[.string nm, .int .i64 sp, .int .i64 st, .slice so ss.length sc, .slice lo ls.length lc, .slice to_ ts.length tc] 55)) none) := World.grownBy_alloc _ _ _
  have K := Lib.hid (grown_trans hg1 (World.grownBy_alloc w1 (.cells #[.int .i64 ru, .int .i64 rd, .int .i64 rt] 75) none))
  have hlt : w.heap.size + 1 ≤ w1.heap.size := by have := hg1.size; simpa using this
  have X0 : Hid ((w1.alloc (.cells #[.int .i64 ru, .int .i64 rd, .int .i64 rt] 75)).heap[w1.heap.size]? = some (.cells #[.int .i64 ru, .int .i64 rd, .int .i64 rt] 75)) := heap_alloc_new w1 _
  clear hg1
  simp only
  have a0 : (w1.alloc (.cells #[.int .i64 ru, .int .i64 rd, .int .i64 rt] 75)).cell? ⟨w.heap.size, 0, none⟩ = some (.string nm) := grown_cell K.out (by go_simp)
  have a1 : (w1.alloc (.cells #[.int .i64 ru, .int .i64 rd, .int .i64 rt] 75)).cell? ⟨w.heap.size, 1, none⟩ = some (.int .i64 sp) := grown_cell K.out (by go_simp)
  have a2 : (w1.alloc (.cells #[.int .i64 ru, .int .i64 rd, .int .i64 rt] 75)).cell? ⟨w.heap.size, 2, none⟩ = some (.int .i64 st) := grown_cell K.out (by go_simp)
  have a3 : (w1.alloc (.cells #[.int .i64 ru, .int .i64 rd, .int .i64 rt] 75)).cell? ⟨w.heap.size, 3, none⟩ = some (.slice so ss.length sc) := grown_cell K.out (by go_simp)
  have a4 : (w1.alloc (.cells #[.int .i64 ru, .int .i64 rd, .int .i64 rt] 75)).cell? ⟨w.heap.size, 4, none⟩ = some (.slice lo ls.length lc) := grown_cell K.out (by go_simp)
  have a5 : (w1.alloc (.cells #[.int .i64 ru, .int .i64 rd, .int .i64 rt] 75)).cell? ⟨w.heap.size, 5, none⟩ = some (.slice to_ ts.length tc) := grown_cell K.out (by go_simp)
  go_wp2_with fail
  refine (rclimb_any ⟨nm, sp, st, so, sc, ss, lo, lc, ls, to_, tc, ts⟩ th _ (HA.out.grown (grown_trans GB.out K.out)) HC.out HWE).mono ?_; rintro x w2 ⟨rfl, hg2⟩
  replace K := Lib.hid (grown_trans (grown_trans K.out hg2) (World.grownBy_alloc w2 (.cells #[.int .i64 ru, .int .i64 rd, .int .i64 rt] 75) none))
  have X1 : Hid ((w2.alloc (.cells #[.int .i64 ru, .int .i64 rd, .int .i64 rt] 75)).heap[w1.heap.size]? = some (.cells #[.int .i64 ru, .int .i64 rd, .int .i64 rt] 75)) := by
    have h1 : w1.heap.size < (w1.alloc (.cells #[.int .i64 ru, .int .i64 rd, .int .i64 rt] 75)).heap.size := by simp
    exact (((grown_trans hg2 (World.grownBy_alloc w2 (.cells #[.int .i64 ru, .int .i64 rd, .int .i64 rt] 75) none)).block _ h1 (by simp))).trans X0.out
  have X2 : Hid ((w2.alloc (.cells #[.int .i64 ru, .int .i64 rd, .int .i64 rt] 75)).heap[w2.heap.size]? = some (.cells #[.int .i64 ru, .int .i64 rd, .int .i64 rt] 75)) := heap_alloc_new w2 _
  have x0 : (w2.alloc (.cells #[.int .i64 ru, .int .i64 rd, .int .i64 rt] 75)).cell? ⟨w1.heap.size, 0, none⟩ = some (.int .i64 ru) := by have := X1.out; simp [World.cell?, this]
  have x1 : (w2.alloc (.cells #[.int .i64 ru, .int .i64 rd, .int .i64 rt] 75)).cell? ⟨w1.heap.size, 1, none⟩ = some (.int .i64 rd) := by have := X1.out; simp [World.cell?, this]
  have x2 : (w2.alloc (.cells #[.int .i64 ru, .int .i64 rd, .int .i64 rt] 75)).cell? ⟨w1.heap.size, 2, none⟩ = some (.int .i64 rt) := by have := X1.out; simp [World.cell?, this]
  clear a0 a1 a2 a3 a4 a5 hg2 hlt
  simp only
  go_wp2_with fail
  refine (told_any _).mono ?_; rintro x w3 ⟨rfl, hg3⟩
  replace K := Lib.hid (grown_trans K.out hg3)
  clear hg3
  go_wp2_with fail
  go_ret
  exact ⟨by first | rfl | simp, grown_trans GB.out K.out⟩

end Go.Proofs.Ytkifmjohcmjeeaa
