/- For all thresholds, percents, streams and weights, right or not, Limits, Power and Pulse return what the reference says: the law returns true for every input, under no condition. -/
import Derived.Test.YtdihmcbjoociiaaRows
import Derived.Test.YtdihmcbjoociiaaFLawLim
import Derived.Test.YtdihmcbjoociiaaEIntsIn
import Derived.Test.YtdihmcbjoociiaaEIntsIn
import Derived.WalkKit
import Derived.ProofKit
import Derived.OpenShut
import Derived.SizedLaws
namespace Go.Proofs.Ytdihmcbjoociiaa.loadLimitsMatchSpec
open Go.ChangeShapes Go.WideShapes Go.ChangeAt Go.RowKit

theorem own : ownKnob Try.prog.godebug = none := by kernel_rfl
theorem laidOut : laidOutB Try.prog = true := by kernel_rfl
theorem wf_bd {n : Int} (h : (Lit.int .i64 n).wf = true) : -9223372036854775808 ≤ n ∧ n ≤ 9223372036854775807 := by
  simp only [Lit.wf, Bool.and_eq_true, decide_eq_true_eq] at h; exact h

theorem walk (n0 : Int) (ao1 : Option Addr) (cap1 : Nat) (l1 : List Int) (hl1 : (l1.length : Int) ≤ 9223372036854775807) (ao2 : Option Addr) (cap2 : Nat) (l2 : List Int) (hl2 : (l2.length : Int) ≤ 9223372036854775807) (ao3 : Option Addr) (cap3 : Nat) (l3 : List Int) (hl3 : (l3.length : Int) ≤ 9223372036854775807) (w : World) (hs1 : IntsAt w ao1 l1) (hc1 : l1.length ≤ cap1) (hs2 : IntsAt w ao2 l2) (hc2 : l2.length ≤ cap2) (hs3 : IntsAt w ao3 l3) (hc3 : l3.length ≤ cap3) :
    Calls Try.prog 4 #[.int .i64 n0, .slice ao1 l1.length cap1, .slice ao2 l2.length cap2, .slice ao3 l3.length cap3] w fun e w' => e = .returned (.bool true) ∧ Below w.heap.size w w' :=
  (limits_law n0 ao1 cap1 l1 hl1 ao2 cap2 l2 hl2 ao3 cap3 l3 hl3 w hs1 hc1 hs2 hc2 hs3 hc3).mono fun _ _ ⟨h, g⟩ => ⟨h, below_grown g⟩

set_option maxRecDepth 100000 in
theorem lifted (os : Os) (started : os.Started) (H : Type) (enc : TypeId × Value → H) :
    ReturnsInHanded {} Try.checked os 4 .any (Rows.loadLimitsMatchSpecSpec.pre6 enc Try.prog Try.f4 Rows.loadLimitsMatchSpecRow.domain false) (Rows.loadLimitsMatchSpecSpec.post enc Try.prog Try.f4 false true false false) := by
  refine returnsInHanded_of_change_sized (C := Try.checked) own started (by kernel_rfl) Try.func4
    (ChangeSpec.witness6 (enc := enc) (C := Try.checked) false ⟨#[], #[.int .i64 0, .slice none 0 0, .slice none 0 0, .slice none 0 0], []⟩ 8 (by kernel_rfl) (by kernel_rfl) (by kernel_rfl) (by kernel_rfl)) ?_
  intro W base args ds gs before hval0 hW hcnd hsz0 _
  have hval : ∀ (j : Nat) t v, Try.f4.params[j]? = some t → args[j]? = some v → Value.okWide Try.prog W .any base t v := hval0
  have hW' := hW
  obtain ⟨p, q, hA0, hV, rfl, hfz, hnd⟩ := hW
  have hA : DataW.TrodAll enc Try.prog W 0 (fun _ => true) true Try.f4.params.toList args.toList ds p := hA0
  have hsz : (DataW.weightsEach Try.prog (Try.f4.params.toList ++ Rows.loadLimitsMatchSpecSpec.plain.varTypes Try.prog) (ds ++ gs)).all (· ≤ reachBytes) = true := hsz0
  rw [Try.params4] at hA hval hsz
  obtain ⟨v0, vs0, d0, ds0, p0, q0, hargs, rfl, rfl, h0, r0⟩ := trodAll_cons hA
  obtain ⟨v1, vs1, d1, ds1, p1, q1, rfl, rfl, rfl, h1, r1⟩ := trodAll_cons r0
  obtain ⟨v2, vs2, d2, ds2, p2, q2, rfl, rfl, rfl, h2, r2⟩ := trodAll_cons r1
  obtain ⟨v3, vs3, d3, ds3, p3, q3, rfl, rfl, rfl, h3, r3⟩ := trodAll_cons r2
  obtain ⟨rfl, rfl, rfl⟩ := trodAll_nil r3
  obtain rfl : args = #[v0, v1, v2, v3] := by cases args; simp_all
  obtain ⟨rfl, rfl⟩ := trodVars_none hV
  obtain ⟨n0, rfl, rfl, rfl, w0⟩ := open_int Try.underlying3 (hval 0 3 v0 rfl rfl) h0
  obtain ⟨ao1, cap1, l1, rfl, hl1, hs1, hc1⟩ := ints_in (hval 1 28 v1 rfl rfl) h1
  obtain ⟨ao2, cap2, l2, rfl, hl2, hs2, hc2⟩ := ints_in (hval 2 28 v2 rfl rfl) h2
  obtain ⟨ao3, cap3, l3, rfl, hl3, hs3, hc3⟩ := ints_in (hval 3 28 v3 rfl rfl) h3
  have hlt1 : ∀ x ∈ p1, x.block < W.heap.size := fun x hx => by simpa using hW'.lt x (by simp [hx])
  have hlt2 : ∀ x ∈ p2, x.block < W.heap.size := fun x hx => by simpa using hW'.lt x (by simp [hx])
  have hlt3 : ∀ x ∈ p3, x.block < W.heap.size := fun x hx => by simpa using hW'.lt x (by simp [hx])
  clear hA0 hval0
  refine (walk n0 ao1 cap1 l1 hl1 ao2 cap2 l2 hl2 ao3 cap3 l3 hl3 W hs1 hc1 hs2 hc2 hs3 hc3).mono fun e W' ⟨he, hg⟩ => ?_
  subst he
  exact ⟨_, rfl, _, _, _, [], _, [], hW', (trodAll_cons_mk (shut_bool Try.underlying4 _) trodAll_mk0), (trodAll_cons_mk (shut_int Try.underlying3 w0) (trodAll_cons_mk (Below.trod laidOut (by kernel_rfl) (of_decide_eq_true (by kernel_rfl)) h1 hg hlt1) (trodAll_cons_mk (Below.trod laidOut (by kernel_rfl) (of_decide_eq_true (by kernel_rfl)) h2 hg hlt2) (trodAll_cons_mk (Below.trod laidOut (by kernel_rfl) (of_decide_eq_true (by kernel_rfl)) h3 hg hlt3) trodAll_mk0)))), rfl, hg.frame _, fun h => by cases h⟩

theorem over : Rows.loadLimitsMatchSpecRow.holds Try.pinned (OpenSpec.ofChange Rows.loadLimitsMatchSpecSpec) :=
  OpenClaim.holds_of_wide 4 Try.f4 rfl rfl rfl rfl rfl rfl rfl ⟨rfl, rfl, rfl, rfl, rfl⟩ rfl rfl rfl rfl rfl (by kernel_rfl) Try.func4 (by kernel_rfl)
    (of_decide_eq_true (by kernel_rfl)) (by unfold Func.isWrapper; first | (rw [if_pos (by decide +kernel)]; kernel_rfl) | (rw [if_neg (by decide +kernel)]; exact ⟨rfl, rfl⟩))
    (fun os started H enc _ => lifted os started H enc)

theorem proved : Rows.LoadLimitsMatchSpecSaid :=
  over
#print axioms proved
end Go.Proofs.Ytdihmcbjoociiaa.loadLimitsMatchSpec
