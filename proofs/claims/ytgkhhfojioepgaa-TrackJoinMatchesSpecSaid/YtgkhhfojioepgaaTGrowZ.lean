/- slices.Grow of nil, for rows of samples, laps and strings. -/
import Derived.Test.YtgkhhfojioepgaaBaseE
import Derived.Lib.AppendZeros
namespace Go.Proofs.Ytgkhhfojioepgaa
open Go.RowKit
set_option linter.unusedSimpArgs false
set_option linter.unusedVariables false

theorem own_empty {w : World} {base : Nat} (e : TypeId) (size : Nat) {g cap : Nat} {cur : Array Value} (hb : base ≤ g) (hg : w.heap[g]? = some (.cells cur e (0, 0))) (hm : cap ≤ maxLen) (hs : cur.size = cap * size) : w.ownsRow base e size (.slice (some ⟨g, 0, none⟩) 0 cap) 0 [] :=
  ⟨by simp, .inr ⟨g, cap, cur, rfl, hb, hg, Nat.zero_le _, hm, hs, by simp⟩⟩

set_option maxRecDepth 100000 in
set_option maxHeartbeats 1600000 in
theorem grow_smps (n : Nat) (hn : n ≤ 100000) (w : World) :
    Calls Try.prog 138 #[.slice none 0 0, .int .i64 n] w fun e w' => (∃ v, e = .returned v ∧ w'.ownsRow w.heap.size 28 7 v 0 []) ∧ w.grownBy w' none := by
  obtain ⟨i0, hi, hz0, hz1, hz2⟩ := info_parts cinfo_smps
  by_cases h0 : n = 0
  · subst h0
    go_enter Try.func138, Try.ntmps138
    go_wp2_with fail
    go_ret
    exact ⟨⟨_, rfl, World.ownsRow_nil _ _ _ _⟩, World.grownBy.refl _ _⟩
  · have happ := Lib.run_append_nil_zeros (P := Try.prog) w 22 3 22 28 i0 (.agg #[.int .i64 0, .int .i64 0, .int .i64 0, .int .i64 0, .int .i64 0, .int .i64 0, .int .i64 0]) .i64 .i64 Try.underlying22 Try.underlying3 hi hz0 n (by omega) (by omega) (by omega) (by rw [hz2]; omega)
    generalize hcap : grownCap w n 0 28 = cap2 at happ
    have hcapge : n ≤ cap2 := by rw [← hcap]; exact grownCap_ge w _ 0 _
    have hcaple : cap2 ≤ maxLen := by rw [← hcap]; exact grownCap_le_maxLen w _ 0 _ (by unfold maxLen; omega)
    generalize hZ : (Builtin.zeroCells (.agg #[.int .i64 0, .int .i64 0, .int .i64 0, .int .i64 0, .int .i64 0, .int .i64 0, .int .i64 0] : Value).cells n ++ Builtin.zeroCells (.agg #[.int .i64 0, .int .i64 0, .int .i64 0, .int .i64 0, .int .i64 0, .int .i64 0, .int .i64 0] : Value).cells (cap2 - n)) = Z at happ
    have hZs : Z.size = cap2 * 7 := by rw [← hZ]; simp [size_zeroCells, Value.cells]; omega
    clear hcap hZ
    go_enter Try.func138, Try.ntmps138
    go_wp2_with (at_builtin; refine Lib.wpList_append_run _ rfl _ _ _ _ rfl _ _ rfl rfl _ _ happ ?_)
    go_ret
    refine ⟨⟨_, rfl, own_empty _ _ (Nat.le_refl _) (heap_alloc_new w _) hcaple hZs⟩, ?_⟩
    exact grown_drewN (w.alloc _) none 1 |> World.grownBy.trans (World.grownBy_alloc w _ none)

set_option maxRecDepth 100000 in
set_option maxHeartbeats 1600000 in
theorem grow_laps (n : Nat) (hn : n ≤ 100000) (w : World) :
    Calls Try.prog 139 #[.slice none 0 0, .int .i64 n] w fun e w' => (∃ v, e = .returned v ∧ w'.ownsRow w.heap.size 77 3 v 0 []) ∧ w.grownBy w' none := by
  obtain ⟨i0, hi, hz0, hz1, hz2⟩ := info_parts cinfo_laps
  by_cases h0 : n = 0
  · subst h0
    go_enter Try.func139, Try.ntmps139
    go_wp2_with fail
    go_ret
    exact ⟨⟨_, rfl, World.ownsRow_nil _ _ _ _⟩, World.grownBy.refl _ _⟩
  · have happ := Lib.run_append_nil_zeros (P := Try.prog) w 23 3 23 77 i0 (.agg #[.int .i64 0, .int .i64 0, .string ⟨#[]⟩]) .i64 .i64 Try.underlying23 Try.underlying3 hi hz0 n (by omega) (by omega) (by omega) (by rw [hz2]; omega)
    generalize hcap : grownCap w n 0 77 = cap2 at happ
    have hcapge : n ≤ cap2 := by rw [← hcap]; exact grownCap_ge w _ 0 _
    have hcaple : cap2 ≤ maxLen := by rw [← hcap]; exact grownCap_le_maxLen w _ 0 _ (by unfold maxLen; omega)
    generalize hZ : (Builtin.zeroCells (.agg #[.int .i64 0, .int .i64 0, .string ⟨#[]⟩] : Value).cells n ++ Builtin.zeroCells (.agg #[.int .i64 0, .int .i64 0, .string ⟨#[]⟩] : Value).cells (cap2 - n)) = Z at happ
    have hZs : Z.size = cap2 * 3 := by rw [← hZ]; simp [size_zeroCells, Value.cells]; omega
    clear hcap hZ
    go_enter Try.func139, Try.ntmps139
    go_wp2_with (at_builtin; refine Lib.wpList_append_run _ rfl _ _ _ _ rfl _ _ rfl rfl _ _ happ ?_)
    go_ret
    refine ⟨⟨_, rfl, own_empty _ _ (Nat.le_refl _) (heap_alloc_new w _) hcaple hZs⟩, ?_⟩
    exact grown_drewN (w.alloc _) none 1 |> World.grownBy.trans (World.grownBy_alloc w _ none)

set_option maxRecDepth 100000 in
set_option maxHeartbeats 1600000 in
theorem grow_tags (n : Nat) (hn : n ≤ 100000) (w : World) :
    Calls Try.prog 174 #[.slice none 0 0, .int .i64 n] w fun e w' => (∃ v, e = .returned v ∧ w'.ownsRow w.heap.size 9 1 v 0 []) ∧ w.grownBy w' none := by
  obtain ⟨i0, hi, hz0, hz1, hz2⟩ := info_parts cinfo_tags
  by_cases h0 : n = 0
  · subst h0
    go_enter Try.func174, Try.ntmps174
    go_wp2_with fail
    go_ret
    exact ⟨⟨_, rfl, World.ownsRow_nil _ _ _ _⟩, World.grownBy.refl _ _⟩
  · have happ := Lib.run_append_nil_zeros (P := Try.prog) w 24 3 24 9 i0 (.string ⟨#[]⟩) .i64 .i64 Try.underlying24 Try.underlying3 hi hz0 n (by omega) (by omega) (by omega) (by rw [hz2]; omega)
    generalize hcap : grownCap w n 0 9 = cap2 at happ
    have hcapge : n ≤ cap2 := by rw [← hcap]; exact grownCap_ge w _ 0 _
    have hcaple : cap2 ≤ maxLen := by rw [← hcap]; exact grownCap_le_maxLen w _ 0 _ (by unfold maxLen; omega)
    generalize hZ : (Builtin.zeroCells (.string ⟨#[]⟩ : Value).cells n ++ Builtin.zeroCells (.string ⟨#[]⟩ : Value).cells (cap2 - n)) = Z at happ
    have hZs : Z.size = cap2 * 1 := by rw [← hZ]; simp [size_zeroCells, Value.cells]; omega
    clear hcap hZ
    go_enter Try.func174, Try.ntmps174
    go_wp2_with (at_builtin; refine Lib.wpList_append_run _ rfl _ _ _ _ rfl _ _ rfl rfl _ _ happ ?_)
    go_ret
    refine ⟨⟨_, rfl, own_empty _ _ (Nat.le_refl _) (heap_alloc_new w _) hcaple hZs⟩, ?_⟩
    exact grown_drewN (w.alloc _) none 1 |> World.grownBy.trans (World.grownBy_alloc w _ none)
end Go.Proofs.Ytgkhhfojioepgaa
