/- MatchRoutesMatchSpec is true for every activity, number and two lists of places: both Spaced answer alike, and both Apart. -/
import Derived.Test.YtnjanjbjhbniiaaRows
import Derived.Test.YtnjanjbjhbniiaaMLawRoutes
import Derived.Test.YtnjanjbjhbniiaaTActIn
import Derived.Test.YtnjanjbjhbniiaaMSegIn
import Derived.WalkKit
import Derived.ProofKit
import Derived.OpenShut
import Derived.SizedLaws
namespace Go.Proofs.Ytnjanjbjhbniiaa.matchRoutesMatchSpec
open Go.ChangeShapes Go.WideShapes Go.ChangeAt Go.RowKit

theorem own : ownKnob Try.prog.godebug = none := by kernel_rfl
theorem laidOut : laidOutB Try.prog = true := by kernel_rfl
theorem wf_bd {n : Int} (h : (Lit.int .i64 n).wf = true) : -9223372036854775808 ≤ n ∧ n ≤ 9223372036854775807 := by
  simp only [Lit.wf, Bool.and_eq_true, decide_eq_true_eq] at h; exact h

theorem walk (a0 : Act) (n1 : Int) (ao2 : Option Addr) (cap2 : Nat) (l2 : List Pt) (hl2 : (l2.length : Int) ≤ 9223372036854775807) (ao3 : Option Addr) (cap3 : Nat) (l3 : List Pt) (hl3 : (l3.length : Int) ≤ 9223372036854775807) (w : World) (ha0 : ActAt w a0) (hc0 : a0.ss.length ≤ a0.sc) (hs2 : PtsAt w ao2 l2) (hc2 : l2.length ≤ cap2) (hs3 : PtsAt w ao3 l3) (hc3 : l3.length ≤ cap3) :
    Calls Try.prog 7 #[a0.val, .int .i64 n1, .slice ao2 l2.length cap2, .slice ao3 l3.length cap3] w fun e w' => e = .returned (.bool true) ∧ Below w.heap.size w w' :=
  (routes_law a0 n1 ao2 cap2 l2 hl2 ao3 cap3 l3 hl3 w ha0 hc0 hs2 hc2 hs3 hc3).mono fun _ _ ⟨h, g⟩ => ⟨h, below_grown g⟩

set_option maxRecDepth 100000 in
theorem lifted (os : Os) (started : os.Started) (H : Type) (enc : TypeId × Value → H) :
    ReturnsInHanded {} Try.checked os 7 .any (Rows.matchRoutesMatchSpecSpec.pre6 enc Try.prog Try.f7 Rows.matchRoutesMatchSpecRow.domain false) (Rows.matchRoutesMatchSpecSpec.post enc Try.prog Try.f7 false true false false) := by
  refine returnsInHanded_of_change_sized (C := Try.checked) own started (by kernel_rfl) Try.func7
    (ChangeSpec.witness6 (enc := enc) (C := Try.checked) false ⟨#[], #[.agg #[.string ⟨#[]⟩, .int .i64 0, .int .i64 0, .slice none 0 0, .slice none 0 0, .slice none 0 0], .int .i64 0, .slice none 0 0, .slice none 0 0], []⟩ 8 (by kernel_rfl) (by kernel_rfl) (by kernel_rfl) (by kernel_rfl)) ?_
  intro W base args ds gs before hval0 hW hcnd hsz0 _
  have hval : ∀ (j : Nat) t v, Try.f7.params[j]? = some t → args[j]? = some v → Value.okWide Try.prog W .any base t v := hval0
  have hW' := hW
  obtain ⟨p, q, hA0, hV, rfl, hfz, hnd⟩ := hW
  have hA : DataW.TrodAll enc Try.prog W 0 (fun _ => true) true Try.f7.params.toList args.toList ds p := hA0
  have hsz : (DataW.weightsEach Try.prog (Try.f7.params.toList ++ Rows.matchRoutesMatchSpecSpec.plain.varTypes Try.prog) (ds ++ gs)).all (· ≤ reachBytes) = true := hsz0
  rw [Try.params7] at hA hval hsz
  obtain ⟨v0, vs0, d0, ds0, p0, q0, hargs, rfl, rfl, h0, r0⟩ := trodAll_cons hA
  obtain ⟨v1, vs1, d1, ds1, p1, q1, rfl, rfl, rfl, h1, r1⟩ := trodAll_cons r0
  obtain ⟨v2, vs2, d2, ds2, p2, q2, rfl, rfl, rfl, h2, r2⟩ := trodAll_cons r1
  obtain ⟨v3, vs3, d3, ds3, p3, q3, rfl, rfl, rfl, h3, r3⟩ := trodAll_cons r2
  obtain ⟨rfl, rfl, rfl⟩ := trodAll_nil r3
  obtain rfl : args = #[v0, v1, v2, v3] := by cases args; simp_all
  obtain ⟨rfl, rfl⟩ := trodVars_none hV
  obtain ⟨a0, rfl, ha0, hc0, _⟩ := act_in (hval 0 36 v0 rfl rfl) h0 (sized_at hsz (j := 0) (t := 36) rfl rfl)
  obtain ⟨n1, rfl, rfl, rfl, w1⟩ := open_int Try.underlying3 (hval 1 3 v1 rfl rfl) h1
  obtain ⟨ao2, cap2, l2, rfl, hl2, hs2, hc2⟩ := points_in (hval 2 57 v2 rfl rfl) h2
  obtain ⟨ao3, cap3, l3, rfl, hl3, hs3, hc3⟩ := points_in (hval 3 57 v3 rfl rfl) h3
  have hlt0 : ∀ x ∈ p0, x.block < W.heap.size := fun x hx => by simpa using hW'.lt x (by simp [hx])
  have hlt2 : ∀ x ∈ p2, x.block < W.heap.size := fun x hx => by simpa using hW'.lt x (by simp [hx])
  have hlt3 : ∀ x ∈ p3, x.block < W.heap.size := fun x hx => by simpa using hW'.lt x (by simp [hx])
  clear hA0 hval0
  refine (walk a0 n1 ao2 cap2 l2 hl2 ao3 cap3 l3 hl3 W ha0 hc0 hs2 hc2 hs3 hc3).mono fun e W' ⟨he, hg⟩ => ?_
  subst he
  exact ⟨_, rfl, _, _, _, [], _, [], hW', (trodAll_cons_mk (shut_bool Try.underlying4 _) trodAll_mk0), (trodAll_cons_mk (Below.trod laidOut (by kernel_rfl) (of_decide_eq_true (by kernel_rfl)) h0 hg hlt0) (trodAll_cons_mk (shut_int Try.underlying3 w1) (trodAll_cons_mk (Below.trod laidOut (by kernel_rfl) (of_decide_eq_true (by kernel_rfl)) h2 hg hlt2) (trodAll_cons_mk (Below.trod laidOut (by kernel_rfl) (of_decide_eq_true (by kernel_rfl)) h3 hg hlt3) trodAll_mk0)))), rfl, hg.frame _, fun h => by cases h⟩

theorem over : Rows.matchRoutesMatchSpecRow.holds Try.pinned (OpenSpec.ofChange Rows.matchRoutesMatchSpecSpec) :=
  OpenClaim.holds_of_wide 7 Try.f7 rfl rfl rfl rfl rfl rfl rfl ⟨rfl, rfl, rfl, rfl, rfl⟩ rfl rfl rfl rfl rfl (by kernel_rfl) Try.func7 (by kernel_rfl)
    (of_decide_eq_true (by kernel_rfl)) (by unfold Func.isWrapper; first | (rw [if_pos (by decide +kernel)]; kernel_rfl) | (rw [if_neg (by decide +kernel)]; exact ⟨rfl, rfl⟩))
    (fun os started H enc _ => lifted os started H enc)

theorem proved : Rows.MatchRoutesMatchSpecSaid :=
  over
#print axioms proved
end Go.Proofs.Ytnjanjbjhbniiaa.matchRoutesMatchSpec
