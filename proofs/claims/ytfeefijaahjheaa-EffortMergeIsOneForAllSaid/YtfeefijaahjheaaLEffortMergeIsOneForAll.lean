/- For all three curves it does not matter which two are merged first, a curve merged with itself stays, and none beats what it was merged into: the law returns true for every input, under no condition. -/
import Derived.Test.YtfeefijaahjheaaRows
import Derived.Test.YtfeefijaahjheaaELawOne
import Derived.Test.YtfeefijaahjheaaEBstIn
import Derived.WalkKit
import Derived.ProofKit
import Derived.OpenShut
import Derived.SizedLaws
namespace Go.Proofs.Ytfeefijaahjheaa.effortMergeIsOneForAll
open Go.ChangeShapes Go.WideShapes Go.ChangeAt Go.RowKit
set_option linter.unusedSimpArgs false
set_option linter.unusedVariables false

theorem own : ownKnob Try.prog.godebug = none := by kernel_rfl
theorem laidOut : laidOutB Try.prog = true := by kernel_rfl
theorem wf_bd {n : Int} (h : (Lit.int .i64 n).wf = true) : -9223372036854775808 ≤ n ∧ n ≤ 9223372036854775807 := by
  simp only [Lit.wf, Bool.and_eq_true, decide_eq_true_eq] at h; exact h

theorem walk (ao0 : Option Addr) (cap0 : Nat) (l0 : List BestV) (hl0 : (l0.length : Int) ≤ 4398046511104) (ao1 : Option Addr) (cap1 : Nat) (l1 : List BestV) (hl1 : (l1.length : Int) ≤ 4398046511104) (ao2 : Option Addr) (cap2 : Nat) (l2 : List BestV) (hl2 : (l2.length : Int) ≤ 4398046511104) (w : World) (hs0 : RowsAt bestCs 4 w ao0 l0) (hc0 : l0.length ≤ cap0) (hs1 : RowsAt bestCs 4 w ao1 l1) (hc1 : l1.length ≤ cap1) (hs2 : RowsAt bestCs 4 w ao2 l2) (hc2 : l2.length ≤ cap2) :
    Calls Try.prog 7 #[.slice ao0 l0.length cap0, .slice ao1 l1.length cap1, .slice ao2 l2.length cap2] w fun e w' => e = .returned (.bool true) ∧ Below w.heap.size w w' :=
  (one_law ao0 cap0 l0 hl0 ao1 cap1 l1 hl1 ao2 cap2 l2 hl2 w hs0 hc0 hs1 hc1 hs2 hc2).mono fun _ _ ⟨h, g⟩ => ⟨h, below_grown g⟩

set_option maxRecDepth 100000 in
theorem lifted (os : Os) (started : os.Started) (H : Type) (enc : TypeId × Value → H) :
    ReturnsInHanded {} Try.checked os 7 .any (Rows.effortMergeIsOneForAllSpec.pre6 enc Try.prog Try.f7 Rows.effortMergeIsOneForAllRow.domain false) (Rows.effortMergeIsOneForAllSpec.post enc Try.prog Try.f7 false true false false) := by
  refine returnsInHanded_of_change_sized (C := Try.checked) own started (by kernel_rfl) Try.func7
    (ChangeSpec.witness6 (enc := enc) (C := Try.checked) false ⟨#[], #[.slice none 0 0, .slice none 0 0, .slice none 0 0], []⟩ 8 (by kernel_rfl) (by kernel_rfl) (by kernel_rfl) (by kernel_rfl)) ?_
  intro W base args ds gs before hval0 hW hcnd hsz0 _
  have hval : ∀ (j : Nat) t v, Try.f7.params[j]? = some t → args[j]? = some v → Value.okWide Try.prog W .any base t v := hval0
  have hW' := hW
  obtain ⟨p, q, hA0, hV, rfl, hfz, hnd⟩ := hW
  have hA : DataW.TrodAll enc Try.prog W 0 (fun _ => true) true Try.f7.params.toList args.toList ds p := hA0
  have hsz : (DataW.weightsEach Try.prog (Try.f7.params.toList ++ Rows.effortMergeIsOneForAllSpec.plain.varTypes Try.prog) (ds ++ gs)).all (· ≤ reachBytes) = true := hsz0
  rw [Try.params7] at hA hval hsz
  obtain ⟨v0, vs0, d0, ds0, p0, q0, hargs, rfl, rfl, h0, r0⟩ := trodAll_cons hA
  obtain ⟨v1, vs1, d1, ds1, p1, q1, rfl, rfl, rfl, h1, r1⟩ := trodAll_cons r0
  obtain ⟨v2, vs2, d2, ds2, p2, q2, rfl, rfl, rfl, h2, r2⟩ := trodAll_cons r1
  obtain ⟨rfl, rfl, rfl⟩ := trodAll_nil r2
  obtain rfl : args = #[v0, v1, v2] := by cases args; simp_all
  obtain ⟨rfl, rfl⟩ := trodVars_none hV
  obtain ⟨ao0, cap0, l0, rfl, hl0, hs0, hc0⟩ := bests_in (hval 0 35 v0 rfl rfl) h0 (sized_atR hsz (j := 0) (t := 35) rfl rfl)
  obtain ⟨ao1, cap1, l1, rfl, hl1, hs1, hc1⟩ := bests_in (hval 1 35 v1 rfl rfl) h1 (sized_atR hsz (j := 1) (t := 35) rfl rfl)
  obtain ⟨ao2, cap2, l2, rfl, hl2, hs2, hc2⟩ := bests_in (hval 2 35 v2 rfl rfl) h2 (sized_atR hsz (j := 2) (t := 35) rfl rfl)
  have hlt0 : ∀ x ∈ p0, x.block < W.heap.size := fun x hx => by simpa using hW'.lt x (by simp [hx])
  have hlt1 : ∀ x ∈ p1, x.block < W.heap.size := fun x hx => by simpa using hW'.lt x (by simp [hx])
  have hlt2 : ∀ x ∈ p2, x.block < W.heap.size := fun x hx => by simpa using hW'.lt x (by simp [hx])
  clear hA0 hval0
  refine (walk ao0 cap0 l0 hl0 ao1 cap1 l1 hl1 ao2 cap2 l2 hl2 W hs0 hc0 hs1 hc1 hs2 hc2).mono fun e W' ⟨he, hg⟩ => ?_
  subst he
  exact ⟨_, rfl, _, _, _, [], _, [], hW', (trodAll_cons_mk (shut_bool Try.underlying4 _) trodAll_mk0), (trodAll_cons_mk (Below.trod laidOut (by kernel_rfl) (of_decide_eq_true (by kernel_rfl)) h0 hg hlt0) (trodAll_cons_mk (Below.trod laidOut (by kernel_rfl) (of_decide_eq_true (by kernel_rfl)) h1 hg hlt1) (trodAll_cons_mk (Below.trod laidOut (by kernel_rfl) (of_decide_eq_true (by kernel_rfl)) h2 hg hlt2) trodAll_mk0))), rfl, hg.frame _, fun h => by cases h⟩

theorem over : Rows.effortMergeIsOneForAllRow.holds Try.pinned (OpenSpec.ofChange Rows.effortMergeIsOneForAllSpec) :=
  OpenClaim.holds_of_wide 7 Try.f7 rfl rfl rfl rfl rfl rfl rfl ⟨rfl, rfl, rfl, rfl, rfl⟩ rfl rfl rfl rfl rfl (by kernel_rfl) Try.func7 (by kernel_rfl)
    (of_decide_eq_true (by kernel_rfl)) (by unfold Func.isWrapper; first | (rw [if_pos (by decide +kernel)]; kernel_rfl) | (rw [if_neg (by decide +kernel)]; exact ⟨rfl, rfl⟩))
    (fun os started H enc _ => lifted os started H enc)

theorem proved : Rows.EffortMergeIsOneForAllSaid :=
  over
#print axioms proved
end Go.Proofs.Ytfeefijaahjheaa.effortMergeIsOneForAll
