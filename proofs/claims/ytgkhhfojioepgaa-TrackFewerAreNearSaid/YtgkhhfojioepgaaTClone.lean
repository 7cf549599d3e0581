/- slices.Clone of samples, of laps and of tags; clone, and the reference's copied. -/
import Derived.Test.YtgkhhfojioepgaaTEqTags
import Derived.Test.YtgkhhfojioepgaaBaseE
import Derived.Lib.SliceRun
import Derived.Maps.AppendAt
import Derived.Laws.AppendOwn
namespace Go.Proofs.Ytgkhhfojioepgaa
open Go.RowKit
set_option linter.unusedSimpArgs false
set_option linter.unusedVariables false

attribute [local go_sem] Oper.semAt_some

theorem cinfo_smps : (Try.prog.info? 28).map (fun i => (i.zero, i.size, i.bytes)) = some (some (.agg #[.int .i64 0, .int .i64 0, .int .i64 0, .int .i64 0, .int .i64 0, .int .i64 0, .int .i64 0]), 7, 56) := by kernel_rfl
set_option maxHeartbeats 2000000 in
set_option maxRecDepth 100000 in
theorem clone_smps (ao : Option Addr) (cap : Nat) (L : List Smp) (hn : L.length ≤ 20000) (w : World) (h : SmpsAt w ao L) :
    Calls Try.prog 125 #[.slice ao L.length cap] w fun e w' => (∃ v, e = .returned v ∧ w'.ownsRow w.heap.size 28 7 v L.length (smpRw L)) ∧ w.grownBy w' none := by
  have q22 : ∀ (w : World) (a : Option Addr) (n c n' c' : Nat), (binOp .eql 22 (.slice a n c) (.slice none n' c')).run Try.prog w = .ok (.bool a.isNone) w := fun w a n c n' c' => Lib.run_eql_slice_nil w _ _ a n c n' c' Try.underlying22
  obtain ⟨i0, hi, hz0, hz1, hz2⟩ := info_parts cinfo_smps
  have A := Lib.hid h
  clear h
  cases ao with
  | none =>
    have hl : L = [] := A.out.nil rfl
    subst hl
    clear A hi hz0 hz1 hz2
    simp only [List.length_nil]
    go_enter Try.func125, Try.ntmps125
    go_wp2_with fail
    go_ret
    exact ⟨⟨_, rfl, World.ownsRow_nil _ _ _ _⟩, grown_refl _ _⟩
  | some ad =>
    have HN := Lib.hid hn
    go_enter Try.func125, Try.ntmps125
    go_wp2_with (at_builtin; refine wpList_append_own _ rfl _ _ 22 rfl w.heap.size 28 i0 (.agg #[.int .i64 0, .int .i64 0, .int .i64 0, .int .i64 0, .int .i64 0, .int .i64 0, .int .i64 0]) 7 56 Try.underlying22 hi hz0 hz1 hz2 rfl (by decide) _ _ _ rfl (World.ownsRow_made w #[] 0 (Nat.le_refl _) (Nat.zero_le _) rfl) ad L.length cap (smpRw L) rfl (smpRw_len L) (A.out.grown (World.grownBy_alloc _ _ _)).row (smpRw_one L) (by have := HN.out; unfold maxLen; omega) (by have := HN.out; omega) (by simp) ?_)
    intro v' w1 hown hgrow hnil
    have HO := Lib.hid hown; have HG := Lib.hid hgrow
    clear hown hgrow hnil hi hz0 hz1 hz2
    go_wp2_with fail
    go_ret
    refine ⟨⟨v', rfl, by simpa using HO.out⟩, ?_⟩
    exact grown_own (grown_refl w none) HG.out (fun k hk => by simp [Value.ownBlock] at hk; omega)

theorem cinfo_laps : (Try.prog.info? 77).map (fun i => (i.zero, i.size, i.bytes)) = some (some (.agg #[.int .i64 0, .int .i64 0, .string ⟨#[]⟩]), 3, 32) := by kernel_rfl
set_option maxHeartbeats 2000000 in
set_option maxRecDepth 100000 in
theorem clone_laps (ao : Option Addr) (cap : Nat) (L : List LapV) (hn : L.length ≤ 20000) (w : World) (h : LapsAt w ao L) :
    Calls Try.prog 126 #[.slice ao L.length cap] w fun e w' => (∃ v, e = .returned v ∧ w'.ownsRow w.heap.size 77 3 v L.length (lapRw L)) ∧ w.grownBy w' none := by
  have q22 : ∀ (w : World) (a : Option Addr) (n c n' c' : Nat), (binOp .eql 23 (.slice a n c) (.slice none n' c')).run Try.prog w = .ok (.bool a.isNone) w := fun w a n c n' c' => Lib.run_eql_slice_nil w _ _ a n c n' c' Try.underlying23
  obtain ⟨i0, hi, hz0, hz1, hz2⟩ := info_parts cinfo_laps
  have A := Lib.hid h
  clear h
  cases ao with
  | none =>
    have hl : L = [] := A.out.nil rfl
    subst hl
    clear A hi hz0 hz1 hz2
    simp only [List.length_nil]
    go_enter Try.func126, Try.ntmps126
    go_wp2_with fail
    go_ret
    exact ⟨⟨_, rfl, World.ownsRow_nil _ _ _ _⟩, grown_refl _ _⟩
  | some ad =>
    have HN := Lib.hid hn
    go_enter Try.func126, Try.ntmps126
    go_wp2_with (at_builtin; refine wpList_append_own _ rfl _ _ 23 rfl w.heap.size 77 i0 (.agg #[.int .i64 0, .int .i64 0, .string ⟨#[]⟩]) 3 32 Try.underlying23 hi hz0 hz1 hz2 rfl (by decide) _ _ _ rfl (World.ownsRow_made w #[] 0 (Nat.le_refl _) (Nat.zero_le _) rfl) ad L.length cap (lapRw L) rfl (lapRw_len L) (A.out.grown (World.grownBy_alloc _ _ _)).row (lapRw_one L) (by have := HN.out; unfold maxLen; omega) (by have := HN.out; omega) (by simp) ?_)
    intro v' w1 hown hgrow hnil
    have HO := Lib.hid hown; have HG := Lib.hid hgrow
    clear hown hgrow hnil hi hz0 hz1 hz2
    go_wp2_with fail
    go_ret
    refine ⟨⟨v', rfl, by simpa using HO.out⟩, ?_⟩
    exact grown_own (grown_refl w none) HG.out (fun k hk => by simp [Value.ownBlock] at hk; omega)

theorem cinfo_tags : (Try.prog.info? 9).map (fun i => (i.zero, i.size, i.bytes)) = some (some (.string ⟨#[]⟩), 1, 16) := by kernel_rfl
set_option maxHeartbeats 2000000 in
set_option maxRecDepth 100000 in
theorem clone_tags (ao : Option Addr) (cap : Nat) (L : List ByteArray) (hn : L.length ≤ 20000) (w : World) (h : TagsAt w ao L) :
    Calls Try.prog 127 #[.slice ao L.length cap] w fun e w' => (∃ v, e = .returned v ∧ w'.ownsRow w.heap.size 9 1 v L.length (tagRw L)) ∧ w.grownBy w' none := by
  have q22 : ∀ (w : World) (a : Option Addr) (n c n' c' : Nat), (binOp .eql 24 (.slice a n c) (.slice none n' c')).run Try.prog w = .ok (.bool a.isNone) w := fun w a n c n' c' => Lib.run_eql_slice_nil w _ _ a n c n' c' Try.underlying24
  obtain ⟨i0, hi, hz0, hz1, hz2⟩ := info_parts cinfo_tags
  have A := Lib.hid h
  clear h
  cases ao with
  | none =>
    have hl : L = [] := A.out.nil rfl
    subst hl
    clear A hi hz0 hz1 hz2
    simp only [List.length_nil]
    go_enter Try.func127, Try.ntmps127
    go_wp2_with fail
    go_ret
    exact ⟨⟨_, rfl, World.ownsRow_nil _ _ _ _⟩, grown_refl _ _⟩
  | some ad =>
    have HN := Lib.hid hn
    go_enter Try.func127, Try.ntmps127
    go_wp2_with (at_builtin; refine wpList_append_own _ rfl _ _ 24 rfl w.heap.size 9 i0 (.string ⟨#[]⟩) 1 16 Try.underlying24 hi hz0 hz1 hz2 rfl (by decide) _ _ _ rfl (World.ownsRow_made w #[] 0 (Nat.le_refl _) (Nat.zero_le _) rfl) ad L.length cap (tagRw L) rfl (tagRw_len L) (A.out.grown (World.grownBy_alloc _ _ _)).row (tagRw_one L) (by have := HN.out; unfold maxLen; omega) (by have := HN.out; omega) (by simp) ?_)
    intro v' w1 hown hgrow hnil
    have HO := Lib.hid hown; have HG := Lib.hid hgrow
    clear hown hgrow hnil hi hz0 hz1 hz2
    go_wp2_with fail
    go_ret
    refine ⟨⟨v', rfl, by simpa using HO.out⟩, ?_⟩
    exact grown_own (grown_refl w none) HG.out (fun k hk => by simp [Value.ownBlock] at hk; omega)

end Go.Proofs.Ytgkhhfojioepgaa
