/- For all streams and numbers, CheckStream, Best and Least return what the reference returns: the walk. -/
import Derived.Test.YtdihmcbjoociiaaFRLeast
import Derived.Test.YtdihmcbjoociiaaFRBestO
namespace Go.Proofs.Ytdihmcbjoociiaa
open Go.RowKit

set_option maxRecDepth 100000 in
set_option maxHeartbeats 1600000 in
theorem best_law (ao : Option Addr) (cap : Nat) (l : List Int) (hl : (l.length : Int) ≤ 9223372036854775807) (size sum : Int) (w : World) (hs : IntsAt w ao l) (_ : l.length ≤ cap) :
    Calls Try.prog 14 #[.slice ao l.length cap, .int .i64 size, .int .i64 sum] w fun e w' => e = .returned (.bool true) ∧ w.grownBy w' none := by
  obtain ⟨⟨z, b, E⟩, hE⟩ : ∃ q, bestOut l size = q := ⟨_, rfl⟩
  obtain ⟨D, hD⟩ : ∃ e, leastE l sum = e := ⟨_, rfl⟩
  obtain ⟨x, hx⟩ : ∃ e, leastV l sum = e := ⟨_, rfl⟩
  obtain ⟨se, hse⟩ : ∃ e, streamE l = e := ⟨_, rfl⟩
  have HE := Lib.hid hE; have HD := Lib.hid hD; have HX := Lib.hid hx; have HSE := Lib.hid hse
  have HS := Lib.hid hs
  clear hE hD hx hse hs
  obtain ⟨bs, ba, bf⟩ := b
  obtain ⟨xf, xt, xo⟩ := x
  go_enter Try.func14, Try.ntmps14
  go_wp2_with fail
  refine (Best_any ao cap l hl size _ HS.out HE).mono ?_; rintro e w1 ⟨rfl, hg1⟩
  have GA := World.grownBy_alloc w1 (.cells #[.int .i64 z, .int .i64 bs, .int .i64 ba, .bool bf] 96) none
  have ka := heap_alloc_new w1 (.cells #[.int .i64 z, .int .i64 bs, .int .i64 ba, .bool bf] 96)
  have K := Lib.hid (grown_trans hg1 GA)
  clear hg1 GA
  go_wp2_with fail
  generalize w1.alloc (.cells #[.int .i64 z, .int .i64 bs, .int .i64 ba, .bool bf] 96) = w2 at *
  generalize w1.heap.size = A at *
  refine (rBest_any ao cap l hl size w2 (HS.out.grown K.out) HE).mono ?_; rintro e w3 ⟨rfl, hg3⟩
  have GB := World.grownBy_alloc w3 (.cells #[.int .i64 z, .int .i64 bs, .int .i64 ba, .bool bf] 96) none
  have kb := heap_alloc_new w3 (.cells #[.int .i64 z, .int .i64 bs, .int .i64 ba, .bool bf] 96)
  replace ka := ((grown_trans hg3 GB).block _ (Array.getElem?_eq_some_iff.1 ka).1 (by simp)).trans ka
  replace K := Lib.hid (grown_trans K.out (grown_trans hg3 GB))
  clear hg3 GB
  go_wp2_with fail
  generalize w3.alloc (.cells #[.int .i64 z, .int .i64 bs, .int .i64 ba, .bool bf] 96) = w4 at *
  generalize w3.heap.size = B at *
  refine (Least_any ao cap l hl sum w4 (HS.out.grown K.out) HD HX).mono ?_; rintro e w5 ⟨rfl, hg5⟩
  replace ka := (hg5.block _ (Array.getElem?_eq_some_iff.1 ka).1 (by simp)).trans ka
  replace kb := (hg5.block _ (Array.getElem?_eq_some_iff.1 kb).1 (by simp)).trans kb
  replace K := Lib.hid (grown_trans K.out hg5)
  clear hg5
  go_wp2_with fail
  refine (rLeast_any ao cap l hl sum w5 (HS.out.grown K.out) HD HX).mono ?_; rintro e w6 ⟨rfl, hg6⟩
  replace ka := (hg6.block _ (Array.getElem?_eq_some_iff.1 ka).1 (by simp)).trans ka
  replace kb := (hg6.block _ (Array.getElem?_eq_some_iff.1 kb).1 (by simp)).trans kb
  replace K := Lib.hid (grown_trans K.out hg6)
  clear hg6
  have a0 : w6.cell? ⟨A, 0, none⟩ = some (.int .i64 z) := by simp [World.cell?, ka]
  have a1 : w6.cell? ⟨A, 1, none⟩ = some (.int .i64 bs) := by simp [World.cell?, ka]
  have a2 : w6.cell? ⟨A, 2, none⟩ = some (.int .i64 ba) := by simp [World.cell?, ka]
  have a3 : w6.cell? ⟨A, 3, none⟩ = some (.bool bf) := by simp [World.cell?, ka]
  have b0 : w6.cell? ⟨B, 0, none⟩ = some (.int .i64 z) := by simp [World.cell?, kb]
  have b1 : w6.cell? ⟨B, 1, none⟩ = some (.int .i64 bs) := by simp [World.cell?, kb]
  have b2 : w6.cell? ⟨B, 2, none⟩ = some (.int .i64 ba) := by simp [World.cell?, kb]
  have b3 : w6.cell? ⟨B, 3, none⟩ = some (.bool bf) := by simp [World.cell?, kb]
  clear ka kb
  have HS6 := Lib.hid (HS.out.grown K.out)
  go_wp2_with (first
    | (go_at_call 74; refine (checkStream_any ao cap l hl _ HS6.out HSE).mono ?_; rintro e w7 ⟨rfl, rfl⟩)
    | (go_at_call 75; refine (rcheckStream_any ao cap l hl _ HS6.out HSE).mono ?_; rintro e w7 ⟨rfl, rfl⟩))
  refine (etold_any _).mono ?_; rintro e w8 ⟨rfl, hg8⟩
  replace K := Lib.hid (grown_trans K.out hg8)
  clear hg8 a0 a1 a2 a3 b0 b1 b2 b3
  go_wp2_with fail
  go_ret
  exact ⟨by first | rfl | simp, K.out⟩
end Go.Proofs.Ytdihmcbjoociiaa
