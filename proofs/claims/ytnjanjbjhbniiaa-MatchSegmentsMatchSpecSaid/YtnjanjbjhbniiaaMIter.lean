/- The iterator over gates from the last one to the first: its contract. -/
import Derived.Test.YtnjanjbjhbniiaaMTurnP
import Derived.Test.YtnjanjbjhbniiaaTIter
namespace Go.Proofs.Ytnjanjbjhbniiaa
open Go.RowKit Go.Shelf
set_option linter.unusedSimpArgs false
set_option linter.unusedVariables false

attribute [local go_sem] Oper.semAt_some

/-- The number of a gate. -/
abbrev GtNo (gs : List Gt) : Type := { m : Nat // m < gs.length }
def gtV (g : Gt) : Value := .agg #[.int .i64 g.ax, .int .i64 g.ay, .int .i64 g.bx, .int .i64 g.by_]
/-- The first k numbers from the last one back. -/
def bwd (n k : Nat) : List Nat := (List.range k).map fun j => n - 1 - j
theorem bwd_succ (n k : Nat) : bwd n (k + 1) = bwd n k ++ [n - 1 - k] := by unfold bwd; rw [List.range_succ, List.map_append]; rfl
theorem bwd_len (n k : Nat) : (bwd n k).length = k := by unfold bwd; simp

theorem back_any (ao : Option Addr) (len cap : Nat) (w : World) :
    Calls Try.prog 35 #[.slice ao len cap] w fun e w' => e = .returned (.func (.func 67) #[] #[.pointer (some ⟨w.heap.size, 0, none⟩)]) ∧ w' = w.alloc (.cells #[.slice ao len cap] 22) := by
  have hmf : ∀ (fn : Fn) (first cap : Array Value) (w : World), (Instr.makeFunc fn first cap).run Try.prog w = .ok (.func fn first cap) w := fun _ _ _ _ => rfl
  go_enter Try.func35, Try.ntmps35
  go_wp2
  go_ret
  exact ⟨rfl, rfl⟩

set_option maxRecDepth 100000 in
set_option maxHeartbeats 4000000 in
theorem back1_in (n : Nat) (hn : 1 ≤ n) (l Bs n₀ : Nat) (ao : Option Addr) (cap : Nat) (gs : List Gt) (hl : gs.length ≤ 50) (hb : ∀ a, ao = some a → gs ≠ [] → a.block < n₀) (J Jx : List (GtNo gs) → World → Prop)
    (hY : ∀ pre (x : GtNo gs) W, J pre W → pre.length < gs.length → YieldAt Fence.wide (n - 1) Try.prog l #[.int .i64 (x.1 : Nat), gtV (gs[x.1]'x.2)] W fun e W' =>
      (e = .returned (.bool true) ∧ J (pre ++ [x]) W' ∧ KpB n₀ Bs W W') ∨ (e = .returned (.bool false) ∧ Jx (pre ++ [x]) W'))
    (W : World) (hBs : W.cell? ⟨Bs, 0, none⟩ = some (.slice ao gs.length cap)) (hs : GatesAt W ao gs) (h0 : J [] W) :
    CallsIn Fence.wide n Try.prog 67 #[.func (.yield l) #[] #[], .pointer (some ⟨Bs, 0, none⟩)] W fun e W' => (∃ v, e = .returned v) ∧
      ((∃ ys : List (GtNo gs), ys.map (·.1) = bwd gs.length gs.length ∧ J ys W') ∨ (∃ pre : List (GtNo gs), (∃ k, k ≤ gs.length ∧ pre.map (·.1) = bwd gs.length k) ∧ Jx pre W')) := by
  refine callsIn_of_wp Try.func67 rfl trivial ?_ rfl
  simp only [Try.ntmps67, List.size_toArray, List.length_cons, List.length_nil, Nat.reduceAdd, Nat.reduceSub, Array.replicate_succ, Array.replicate_zero, List.push_toArray, List.append_toArray, List.nil_append, List.cons_append]
  have HS := Lib.hid hs; have HB := Lib.hid hb; have HY := Lib.hid hY; have HH := Lib.hid hBs
  have rl : IntKind.i64.wrap ((gs.length : Int) - 1) = (gs.length : Int) - 1 := IntWalk.i64_in _ (by omega)
  have cB := hBs
  clear hs hb hY hBs
  gi_wp2
  clear cB
  gi_loopw [3] (fun i wr => ∃ (k : Nat) (pre : List (GtNo gs)), i = .int .i64 ((gs.length : Int) - 1 - k) ∧ Hid (k ≤ gs.length) ∧ Hid (pre.map (·.1) = bwd gs.length k) ∧ Hid (J pre wr) ∧ Hid (KpB n₀ Bs W wr))
    (fun i _ => (intOf i + 1).toNat)
  case atStart => exact ⟨0, [], by simp, Nat.zero_le _, rfl, h0, Below.refl _ _, rfl⟩
  case round =>
    obtain ⟨k, pre, rfl, hk, hpre, hJs, hnx⟩ := hrel
    have cB := (World.cell?_of_block (a := ⟨Bs, 0, none⟩) hnx.out.2).trans HH.out
    have hk' := hk.out
    by_cases hlt : k < gs.length
    · have hne : gs ≠ [] := by intro e; rw [e] at hlt; simp at hlt
      obtain ⟨b, off, hao, q⟩ := gates_at HS.out (by omega : 0 < gs.length)
      subst hao
      have hbn := HB.out _ rfl hne
      obtain ⟨m, hm⟩ : ∃ m, gs.length - 1 - k = m := ⟨_, rfl⟩
      have hml : m < gs.length := by omega
      obtain ⟨p0, p1, p2, p3⟩ := q m hml
      simp only at hbn
      replace p0 := (hnx.out.1.cell (p := ⟨b, off + m * 4, none⟩) hbn).trans p0
      replace p1 := (hnx.out.1.cell (p := ⟨b, off + m * 4 + 1, none⟩) hbn).trans p1
      replace p2 := (hnx.out.1.cell (p := ⟨b, off + m * 4 + 2, none⟩) hbn).trans p2
      replace p3 := (hnx.out.1.cell (p := ⟨b, off + m * 4 + 3, none⟩) hbn).trans p3
      have hpl : pre.length = k := by have := congrArg List.length hpre.out; rw [bwd_len] at this; simpa using this
      obtain ⟨x, hx⟩ : ∃ x : GtNo gs, x.1 = m := ⟨⟨m, hml⟩, rfl⟩
      have hX : Hid ((pre ++ [x]).map (·.1) = bwd gs.length (k + 1)) := by
        show _ = _
        rw [List.map_append, hpre.out, bwd_succ, hm]
        simp [hx]
      obtain ⟨fn, tmps, assign, body, hy, hR⟩ := HY.out pre x wr hJs.out (by omega)
      have hxg : gs[x.1]'x.2 = gs[m] := by simp only [hx]
      rw [hxg] at hy
      simp only [hx] at hy
      have hR2 := hR.mono (R' := fun e W' => ∃ c : Bool, e = .returned (.bool c) ∧ Hid ((c = true ∧ J (pre ++ [x]) W' ∧ KpB n₀ Bs wr W') ∨ (c = false ∧ Jx (pre ++ [x]) W'))) (by
        rintro e W' (⟨h1, h2, h3⟩ | ⟨h1, h2⟩)
        · exact ⟨true, h1, .inl ⟨rfl, h2, h3⟩⟩
        · exact ⟨false, h1, .inr ⟨rfl, h2⟩⟩)
      unfold gtV at hy
      have HR := Lib.hid hR2
      clear hR hR2 hpl hx hxg q
      generalize gs[m] = g at *
      obtain ⟨ax, ay, bx, by_⟩ := g
      simp only at p0 p1 p2 p3 hy
      have em : (gs.length : Int) - 1 - (k : Int) = (m : Int) := by omega
      rw [em]
      have m0 : (0 : Int) ≤ (m : Int) := by omega
      have dm : decide ((0 : Int) ≤ (m : Int)) = true := decide_eq_true m0
      have ml : (m : Int) < (gs.length : Int) := by omega
      have rm : IntKind.i64.wrap (m : Int) = (m : Int) := IntWalk.i64_in _ (by omega)
      have rm1 : IntKind.i64.wrap ((m : Int) - 1) = (m : Int) - 1 := IntWalk.i64_in _ (by omega)
      have EM := Lib.hid (show (gs.length : Int) - 1 - ((k + 1 : Nat) : Int) = (m : Int) - 1 by omega)
      have HLT := Lib.hid hlt
      clear em hm hlt hk' hml
      gi_wp2_with fail
      refine HR.out.mono ?_; rintro e W3 ⟨c, rfl, hc⟩
      rcases hc.out with ⟨rfl, h2, h3⟩ | ⟨rfl, h2⟩
      · have H2 := Lib.hid h2
        have HB2 := Lib.hid (kpB_t hnx.out h3)
        clear h2 h3 hc
        gi_wp2
        go_roundw
        case rel => exact ⟨k + 1, pre ++ [x], by rw [EM.out], HLT.out, hX, H2, HB2⟩
        case measure => first | (simp [intOf]; done) | (simp [intOf]; omega)
      · have H2 := Lib.hid h2
        clear h2 hc
        gi_wp2
        refine bodyPost_ret (results_none rfl _ _ _) rfl ?_
        exact ⟨⟨_, rfl⟩, .inr ⟨pre ++ [x], ⟨k + 1, HLT.out, hX.out⟩, H2.out⟩⟩
    · have hkm : k = gs.length := by omega
      subst hkm
      have em : (gs.length : Int) - 1 - (gs.length : Int) = -1 := by omega
      rw [em]
      clear hlt hk' em
      gi_wp2
      go_end0
      exact ⟨⟨_, rfl⟩, .inl ⟨pre, hpre.out, hJs.out⟩⟩
end Go.Proofs.Ytnjanjbjhbniiaa
