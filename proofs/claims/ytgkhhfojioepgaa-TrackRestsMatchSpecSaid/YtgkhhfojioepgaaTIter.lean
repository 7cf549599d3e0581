/- The iterator over the steps between samples: its contract. -/
import Derived.Test.YtgkhhfojioepgaaBaseA
import Derived.RangeFuncNested
import Derived.RangeFuncBound
import Derived.RangeFuncCalls
import Derived.RangeFuncLeaves
import Derived.RangeFuncBox
import Derived.Shelf.Abstract
import Derived.Shelf.RegionOpen
import Derived.OwnWalkIn
import Derived.TacticsInMore
import Derived.LoopNIn
import Derived.LoopIn
namespace Go.Proofs.Ytgkhhfojioepgaa
open Go.RowKit Go.Shelf
set_option linter.unusedSimpArgs false
set_option linter.unusedVariables false

attribute [local go_sem] Oper.semAt_some

/-- The number of a step. -/
abbrev StepNo (ss : List Smp) : Type := { k : Nat // k + 1 < ss.length }
def stepV (ss : List Smp) (k : Nat) : Value :=
  .agg #[.int .i64 k, .int .i64 (smpD ss k).t, .int .i64 (smpD ss k).x, .int .i64 (smpD ss k).y, .int .i64 (smpD ss k).z, .int .i64 (smpD ss k).p, .int .i64 (smpD ss k).q, .int .i64 (smpD ss k).s,
    .int .i64 (smpD ss (k + 1)).t, .int .i64 (smpD ss (k + 1)).x, .int .i64 (smpD ss (k + 1)).y, .int .i64 (smpD ss (k + 1)).z, .int .i64 (smpD ss (k + 1)).p, .int .i64 (smpD ss (k + 1)).q, .int .i64 (smpD ss (k + 1)).s]

/-- What a round keeps that goes on: what lay below n, and block b. -/
def KpB (n b : Nat) (W W' : World) : Prop := Below n W W' ∧ W'.heap[b]? = W.heap[b]?
theorem kpB_t {n b : Nat} {A B C : World} (h : KpB n b A B) (k : KpB n b B C) : KpB n b A C := ⟨h.1.trans k.1, k.2.trans h.2⟩

theorem steps_any (ao : Option Addr) (len cap : Nat) (w : World) :
    Calls Try.prog 111 #[.slice ao len cap] w fun e w' => e = .returned (.func (.func 148) #[] #[.pointer (some ⟨w.heap.size, 0, none⟩)]) ∧ w' = w.alloc (.cells #[.slice ao len cap] 22) := by
  have hmf : ∀ (fn : Fn) (first cap : Array Value) (w : World), (Instr.makeFunc fn first cap).run Try.prog w = .ok (.func fn first cap) w := fun _ _ _ _ => rfl
  go_enter Try.func111, Try.ntmps111
  go_wp2
  go_ret
  exact ⟨rfl, rfl⟩

set_option maxRecDepth 100000 in
set_option maxHeartbeats 4000000 in
theorem steps1_in (n : Nat) (hn : 1 ≤ n) (l Bs n₀ : Nat) (ao : Option Addr) (cap : Nat) (ss : List Smp) (hl : (ss.length : Int) ≤ 20000) (hb : ∀ a, ao = some a → ss ≠ [] → a.block < n₀) (J Jx : List (StepNo ss) → World → Prop)
    (hJ : ∀ pre W m, J pre W → J pre (W.drewN m))
    (hY : ∀ pre (x : StepNo ss) W, J pre W → pre.length < ss.length → YieldAt Fence.wide (n - 1) Try.prog l #[stepV ss x.1] W fun e W' =>
      (e = .returned (.bool true) ∧ J (pre ++ [x]) W' ∧ KpB n₀ Bs W W') ∨ (e = .returned (.bool false) ∧ Jx (pre ++ [x]) W'))
    (W : World) (hBs : W.cell? ⟨Bs, 0, none⟩ = some (.slice ao ss.length cap)) (hs : SmpsAt W ao ss) (h0 : J [] W) :
    CallsIn Fence.wide n Try.prog 148 #[.func (.yield l) #[] #[], .pointer (some ⟨Bs, 0, none⟩)] W fun e W' => (∃ v, e = .returned v) ∧
      ((∃ ys : List (StepNo ss), ys.map (·.1) = List.range (ss.length - 1) ∧ J ys W') ∨ (∃ pre : List (StepNo ss), (∃ k, k < ss.length ∧ pre.map (·.1) = List.range k) ∧ Jx pre W')) := by
  refine callsIn_of_wp Try.func148 rfl trivial ?_ rfl
  simp only [Try.ntmps148, List.size_toArray, List.length_cons, List.length_nil, Nat.reduceAdd, Nat.reduceSub, Array.replicate_succ, Array.replicate_zero, List.push_toArray, List.append_toArray, List.nil_append, List.cons_append]
  have HS := Lib.hid hs; have HB := Lib.hid hb; have HJ := Lib.hid hJ; have HY := Lib.hid hY; have HH := Lib.hid hBs
  clear hs hb hJ hY hBs
  gi_wp2
  gi_loopw [3] (fun i wr => ∃ (k m : Nat) (pre : List (StepNo ss)), Hid (m = k + 1) ∧ i = .int .i64 m ∧ Hid (k = 0 ∨ k < ss.length) ∧ Hid (pre.map (·.1) = List.range k) ∧ Hid (J pre wr) ∧ Hid (KpB n₀ Bs W wr))
    (fun i _ => ss.length - (intOf i).toNat)
  case atStart => exact ⟨0, 1, [], rfl, rfl, .inl rfl, rfl, h0, Below.refl _ _, rfl⟩
  case round =>
    obtain ⟨k, m, pre, hmk, rfl, hk, hpre, hJs, hnx⟩ := hrel
    have cB := (World.cell?_of_block (a := ⟨Bs, 0, none⟩) hnx.out.2).trans HH.out
    by_cases hlt : m < ss.length
    · have hmk1 := hmk.out
      have hne : ss ≠ [] := by intro e; rw [e] at hlt; simp at hlt
      obtain ⟨b, off, hao⟩ : ∃ b off, ao = some ⟨b, off, none⟩ := by
        cases hto : ao with
        | none => exact absurd (HS.out.nil hto) hne
        | some q => obtain ⟨b, off, s3⟩ := q; have := HS.out.spot _ hto hne; simp only at this; subst this; exact ⟨b, off, rfl⟩
      subst hao
      have hbn := HB.out _ rfl hne
      obtain ⟨p0, p1, p2, p3, p4, p5, p6⟩ := HS.out.cells _ rfl k (by omega)
      obtain ⟨q0, q1, q2, q3, q4, q5, q6⟩ := HS.out.cells _ rfl m hlt
      rw [← smpD_at (by omega : k < ss.length)] at p0 p1 p2 p3 p4 p5 p6
      rw [← smpD_at hlt] at q0 q1 q2 q3 q4 q5 q6
      simp only at p0 p1 p2 p3 p4 p5 p6 q0 q1 q2 q3 q4 q5 q6 hbn
      replace p0 := (hnx.out.1.cell (p := ⟨b, off + k * 7, none⟩) hbn).trans p0
      replace p1 := (hnx.out.1.cell (p := ⟨b, off + k * 7 + 1, none⟩) hbn).trans p1
      replace p2 := (hnx.out.1.cell (p := ⟨b, off + k * 7 + 2, none⟩) hbn).trans p2
      replace p3 := (hnx.out.1.cell (p := ⟨b, off + k * 7 + 3, none⟩) hbn).trans p3
      replace p4 := (hnx.out.1.cell (p := ⟨b, off + k * 7 + 4, none⟩) hbn).trans p4
      replace p5 := (hnx.out.1.cell (p := ⟨b, off + k * 7 + 5, none⟩) hbn).trans p5
      replace p6 := (hnx.out.1.cell (p := ⟨b, off + k * 7 + 6, none⟩) hbn).trans p6
      replace q0 := (hnx.out.1.cell (p := ⟨b, off + m * 7, none⟩) hbn).trans q0
      replace q1 := (hnx.out.1.cell (p := ⟨b, off + m * 7 + 1, none⟩) hbn).trans q1
      replace q2 := (hnx.out.1.cell (p := ⟨b, off + m * 7 + 2, none⟩) hbn).trans q2
      replace q3 := (hnx.out.1.cell (p := ⟨b, off + m * 7 + 3, none⟩) hbn).trans q3
      replace q4 := (hnx.out.1.cell (p := ⟨b, off + m * 7 + 4, none⟩) hbn).trans q4
      replace q5 := (hnx.out.1.cell (p := ⟨b, off + m * 7 + 5, none⟩) hbn).trans q5
      replace q6 := (hnx.out.1.cell (p := ⟨b, off + m * 7 + 6, none⟩) hbn).trans q6
      have hpl : pre.length = k := by have := congrArg List.length hpre.out; simpa using this
      obtain ⟨x, hx⟩ : ∃ x : StepNo ss, x.1 = k := ⟨⟨k, by omega⟩, rfl⟩
      have hX : Hid ((pre ++ [x]).map (·.1) = List.range m) := by
        show _ = _
        rw [List.map_append, hpre.out, hmk1, List.range_succ]
        simp [hx]
      obtain ⟨fn, tmps, assign, body, hy, hR⟩ := HY.out pre x wr.drew (HJ.out _ _ 1 hJs.out) (by omega)
      rw [hx] at hy
      have hR2 := hR.mono (R' := fun e W' => ∃ c : Bool, e = .returned (.bool c) ∧ Hid ((c = true ∧ J (pre ++ [x]) W' ∧ KpB n₀ Bs wr.drew W') ∨ (c = false ∧ Jx (pre ++ [x]) W'))) (by
        rintro e W' (⟨h1, h2, h3⟩ | ⟨h1, h2⟩)
        · exact ⟨true, h1, .inl ⟨rfl, h2, h3⟩⟩
        · exact ⟨false, h1, .inr ⟨rfl, h2⟩⟩)
      unfold stepV at hy
      rw [← hmk1] at hy
      have HR := Lib.hid hR2
      clear hR hR2 hpl hx
      have em : (m : Int) - 1 = (k : Int) := by omega
      have rk : IntKind.i64.wrap (k : Int) = (k : Int) := IntWalk.i64_in _ (by omega)
      have hkl : (k : Int) < (ss.length : Int) := by omega
      have hkl2 : k < ss.length := by omega
      clear hmk1
      have hmx : Try.prog.follows .mixedOrders = true := by kernel_rfl
      gi_wp2
      gi_region_with_o (refine HR.out.mono ?_; rintro e W3 ⟨c, rfl, hc⟩)
      all_goals
        rcases hc.out with ⟨rfl, h2, h3⟩ | ⟨rfl, h2⟩
        · have H2 := Lib.hid h2
          have HB2 := Lib.hid (kpB_t hnx.out (kpB_t ⟨(Below.refl n₀ wr).drew, rfl⟩ h3))
          clear h2 h3 hc
          gi_wp2
          go_roundw
          case rel => exact ⟨m, m + 1, pre ++ [x], rfl, by go_num, .inr hlt, hX, H2, HB2⟩
          case measure => simp [intOf]; omega
        · have H2 := Lib.hid h2
          clear h2 hc
          gi_wp2
          refine bodyPost_ret (results_none rfl _ _ _) rfl ?_
          exact ⟨⟨_, rfl⟩, .inr ⟨pre ++ [x], ⟨m, hlt, hX.out⟩, H2.out⟩⟩
    · have hkm : k = ss.length - 1 := by have := hmk.out; have := hk.out; omega
      have HK := Lib.hid hkm
      clear hkm
      gi_wp2
      go_end0
      exact ⟨⟨_, rfl⟩, .inl ⟨pre, by rw [hpre.out, HK.out], hJs.out⟩⟩

end Go.Proofs.Ytgkhhfojioepgaa
