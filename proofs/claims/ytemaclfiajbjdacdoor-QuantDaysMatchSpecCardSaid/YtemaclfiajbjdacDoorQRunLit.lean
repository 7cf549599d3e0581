/- The contract of a token's run: a word. -/
import Derived.Test.YtemaclfiajbjdacDoorQRun
namespace Go.Proofs.YtemaclfiajbjdacDoor
open Go.RowKit

theorem word_end {c : Nat} {w : List Nat} : wordV (c :: w) [] = (false, 0) := rfl
theorem word_ne {c d : Nat} {w r : List Nat} (h : d ≠ c) : wordV (c :: w) (d :: r) = (false, 0) := by unfold wordV; rw [if_neg h]
theorem word_eq {c : Nat} {w r : List Nat} : wordV (c :: w) (c :: r) = ((wordV w r).1, (wordV w r).2 + 1) := by rw [wordV, if_pos rfl]

set_option maxRecDepth 100000 in
set_option maxHeartbeats 3200000 in
theorem runLit_any (t : ByteArray) (htz : t.size ≤ 1000) (s : ByteArray) (hs : s.size ≤ 1000) (k : Nat) (hk : k ≤ s.size) (w : World) {ok : Bool} {u : Nat} (hp : Hid (wordV (rem t 0) (rem s k) = (ok, u))) :
    Calls Tryd.prog 84 #[.agg #[.int .i64 1, .string t, .int .i64 0, .int .i64 0, .int .i64 0], .string s, .int .i64 (k : Int)] w fun e w' => e = .returned (.tuple #[.int .i64 ((k + u : Nat) : Int), .int .i64 0, .bool ok]) ∧ w.grownBy w' none := by
  have hg0 := World.grownBy_alloc w (.cells #[.int .i64 1, .string t, .int .i64 0, .int .i64 0, .int .i64 0] 61) none
  have hc0 : (w.alloc (.cells #[.int .i64 1, .string t, .int .i64 0, .int .i64 0, .int .i64 0] 61)).cell? ⟨w.heap.size, 1, none⟩ = some (.string t) := by simp
  go_enter Tryd.func84, Tryd.ntmps84
  go_wp2_with fail
  go_loopw [2, 9] (fun av iv wr => ∃ (j q : Nat), j ≤ t.size ∧ q ≤ s.size ∧ Hid (q = k + j) ∧ av = .int .i64 (q : Int) ∧ iv = .int .i64 (j : Int) ∧ wr.cell? ⟨w.heap.size, 1, none⟩ = some (.string t) ∧ w.grownBy wr none ∧ Hid (wordV (rem t 0) (rem s k) = ((wordV (rem t j) (rem s q)).1, (wordV (rem t j) (rem s q)).2 + j))) (fun _ iv _ => t.size - (intOf iv).toNat)
  case atStart => exact ⟨0, k, Nat.zero_le _, hk, rfl, rfl, rfl, hc0, hg0, rfl⟩
  case round =>
    obtain ⟨j, q, hj, hq, hqk, rfl, rfl, hcell, hg, hw⟩ := hrel
    clear hc0 hg0
    have hcq : ∀ n, (wr.drewN n).cell? ⟨w.heap.size, 1, none⟩ = some (.string t) := fun n => by simpa using hcell
    by_cases hlt : j < t.size
    · have hrt := rem_cons hlt
      have hjl : (j : Int) < (t.size : Int) := by omega
      by_cases hend : q = s.size
      · have hx := hw.out
        rw [hrt, rem_nil (show s.size ≤ q by omega), word_end, hp.out] at hx
        simp only [Prod.mk.injEq] at hx
        have hqe : ((q : Int) == (s.size : Int)) = true := by simp [hend]
        have HX := Lib.hid hx; clear hx hrt hend
        go_wp2_with fail
        go_quiet (fail)
        go_wp2_with fail
        go_ret3
        exact ⟨ret_iib (by have := hqk.out; have := HX.out.2; omega) rfl HX.out.1.symm, grown_trans hg (grown_drewN _ _ _)⟩
      · have hqlt : q < s.size := by omega
        have hqe : ((q : Int) == (s.size : Int)) = false := by simp; omega
        have hql : (q : Int) < (s.size : Int) := by omega
        have hrs := rem_cons hqlt
        obtain ⟨c, hc⟩ : ∃ c, t[j].toNat = c := ⟨_, rfl⟩
        obtain ⟨d, hd⟩ : ∃ d, s[q].toNat = d := ⟨_, rfl⟩
        rw [hc] at hrt
        rw [hd] at hrs
        by_cases hcd : d = c
        · subst hcd
          have hx := hw.out
          rw [hrt, hrs, word_eq] at hx
          have hne : ((d : Int) != (d : Int)) = false := by simp
          have HX := Lib.hid hx; clear hx hrt hrs hend
          go_wp2_with fail
          go_quiet (fail)
          go_wp2_with fail
          refine ⟨⟨j + 1, q + 1, by omega, by omega, by show _ = _; have := hqk.out; omega, by go_num, by go_num, hcq _, grown_trans hg (grown_drewN _ _ _), ?_⟩, by simp [intOf]; omega⟩
          show _ = _
          rw [HX.out]
          exact Prod.ext rfl (Nat.add_right_comm _ 1 j)
        · have hx := hw.out
          rw [hrt, hrs, word_ne hcd, hp.out] at hx
          simp only [Prod.mk.injEq] at hx
          have hne : ((d : Int) != (c : Int)) = true := by simp; omega
          have HX := Lib.hid hx; clear hx hrt hrs hend hcd
          go_wp2_with fail
          go_quiet (fail)
          go_wp2_with fail
          go_ret3
          exact ⟨ret_iib (by have := hqk.out; have := HX.out.2; omega) rfl HX.out.1.symm, grown_trans hg (grown_drewN _ _ _)⟩
    · have hje : j = t.size := by omega
      have hx := hw.out
      rw [show rem t j = [] from rem_nil (by omega)] at hx
      have e0 : wordV [] (rem s q) = (true, 0) := by cases rem s q <;> rfl
      rw [e0, hp.out] at hx
      simp only [Prod.mk.injEq] at hx
      have HX := Lib.hid hx; clear hx e0
      go_wp2_with fail
      go_ret3
      exact ⟨ret_iib (by have := hqk.out; have := HX.out.2; omega) rfl HX.out.1.symm, hg⟩
end Go.Proofs.YtemaclfiajbjdacDoor
