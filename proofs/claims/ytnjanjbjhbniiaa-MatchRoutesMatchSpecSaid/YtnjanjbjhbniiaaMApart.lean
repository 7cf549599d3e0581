/- The contracts of checkRoutes and Apart. -/
import Derived.Test.YtnjanjbjhbniiaaMPlane
import Derived.Test.YtnjanjbjhbniiaaTRow
import Derived.Deep.Light
import Derived.Deep.RegionWith
import Derived.Laws.MakeOwn
namespace Go.Proofs.Ytnjanjbjhbniiaa
open Go.RowKit
set_option linter.unusedSimpArgs false
set_option linter.unusedVariables false

/-- Are the places of both lists on the plane, one list behind the other? -/
def onTwo (a b : List Pt) : Nat → List Pt
  | 0 => a
  | _ => b

set_option maxRecDepth 100000 in
set_option maxHeartbeats 3200000 in
theorem checkRoutes_is (ao bo : Option Addr) (ac bc : Nat) (a b : List Pt) (w : World) (ha : PtsAt w ao a) (hb : PtsAt w bo b) (la : (a.length : Int) ≤ 9223372036854775807) (lb : (b.length : Int) ≤ 9223372036854775807) {E : Int} (hE : Hid (routeE a b = E)) :
    Calls Try.prog 64 #[.slice ao a.length ac, .slice bo b.length bc] w fun e w' => e = .returned (.int .i64 E) ∧ w.grownBy w' none := by
  have HA := Lib.hid ha; have HB := Lib.hid hb
  have hv := hE.out
  unfold routeE at hv
  clear ha hb hE
  by_cases a0 : a.length = 0
  · have g1 : decide ((a.length : Int) = 0) = true := decide_eq_true (by omega)
    have g1b : ((a.length : Int) == 0) = true := beq_iff_eq.2 (by omega)
    obtain rfl : 13 = E := by rw [← hv, if_pos (Or.inl a0)]
    have A0 := Lib.hid a0
    clear hv a0 la lb
    go_enter Try.func64, Try.ntmps64
    go_wp2_with fail
    go_ret
    exact ⟨rfl, grown_refl _ _⟩
  · by_cases b0 : b.length = 0
    · have g1 : decide ((a.length : Int) = 0) = false := decide_eq_false (by omega)
      have g1b : ((a.length : Int) == 0) = false := beq_eq_false_iff_ne.2 (by omega)
      have g2 : decide ((b.length : Int) = 0) = true := decide_eq_true (by omega)
      have g2b : ((b.length : Int) == 0) = true := beq_iff_eq.2 (by omega)
      obtain rfl : 13 = E := by rw [← hv, if_pos (Or.inr b0)]
      have A0 := Lib.hid a0; have B0 := Lib.hid b0
      clear hv a0 b0 la lb
      go_enter Try.func64, Try.ntmps64
      go_wp2_with fail
      go_ret
      exact ⟨rfl, grown_refl _ _⟩
    · rw [if_neg (by omega)] at hv
      have g1 : decide ((a.length : Int) = 0) = false := decide_eq_false (by omega)
      have g1b : ((a.length : Int) == 0) = false := beq_eq_false_iff_ne.2 (by omega)
      have g2 : decide ((b.length : Int) = 0) = false := decide_eq_false (by omega)
      have g2b : ((b.length : Int) == 0) = false := beq_eq_false_iff_ne.2 (by omega)
      by_cases a3 : 300 < a.length
      · have g3 : decide ((300 : Int) < (a.length : Int)) = true := decide_eq_true (by omega)
        obtain rfl : 3 = E := by rw [← hv, if_pos (Or.inl a3)]
        clear hv a0 b0 la lb a3
        go_enter Try.func64, Try.ntmps64
        go_wp2_with fail
        go_ret
        exact ⟨rfl, grown_refl _ _⟩
      · have g3 : decide ((300 : Int) < (a.length : Int)) = false := decide_eq_false (by omega)
        by_cases b3 : 300 < b.length
        · have g4 : decide ((300 : Int) < (b.length : Int)) = true := decide_eq_true (by omega)
          obtain rfl : 3 = E := by rw [← hv, if_pos (Or.inr b3)]
          clear hv a0 b0 la lb a3 b3
          go_enter Try.func64, Try.ntmps64
          go_wp2_with fail
          go_ret
          exact ⟨rfl, grown_refl _ _⟩
        · have g4 : decide ((300 : Int) < (b.length : Int)) = false := decide_eq_false (by omega)
          rw [if_neg (by omega)] at hv
          have HV := Lib.hid hv
          have ha3 : a.length ≤ 300 := by omega
          have hb3 : b.length ≤ 300 := by omega
          clear hv a0 b0 la lb a3 b3
          go_enter Try.func64, Try.ntmps64
          go_wp2_with fail
          have c0 : (w.alloc (.cells #[.slice ao a.length ac, .slice bo b.length bc] 57)).heap[w.heap.size]? = some (.cells #[.slice ao a.length ac, .slice bo b.length bc] 57 (0, 0)) := mheap_new w _
          have GA := World.grownBy_alloc w (.cells #[.slice ao a.length ac, .slice bo b.length bc] 57) none
          have C0 := Lib.hid c0; have G0 := Lib.hid GA
          generalize w.alloc (.cells #[.slice ao a.length ac, .slice bo b.length bc] 57) = w0 at *
          clear c0 GA
          go_loopw [29] (fun iv wr => ∃ k : Nat, k ≤ 2 ∧ iv = .int .i64 k ∧ Hid (w0.grownBy wr none) ∧ Hid (0 < k → onL a = true) ∧ Hid (1 < k → onL b = true)) (fun iv _ => 2 - (intOf iv).toNat)
          case atStart => exact ⟨0, by omega, rfl, grown_refl _ _, fun h => by omega, fun h => by omega⟩
          case round =>
            obtain ⟨k, hk, rfl, hg, h1, h2⟩ := hrel
            obtain ⟨wo, rfl⟩ : ∃ W : World, W = wr := ⟨_, rfl⟩
            by_cases hlt : k < 2
            · obtain ⟨l, lo, lc, hl, hL, hcell, hll⟩ : ∃ (l : List Pt) (lo : Option Addr) (lc : Nat), (l = onTwo a b k) ∧ PtsAt wo lo l ∧ wo.cell? ⟨w.heap.size, k, none⟩ = some (.slice lo l.length lc) ∧ l.length ≤ 300 := by
                have hB := mblock_at C0.out hg.out (by simp)
                rcases k with _ | _ | k
                · exact ⟨a, ao, ac, rfl, HA.out.grown (grown_trans G0.out hg.out), mblock_cell hB 0 _ rfl, ha3⟩
                · exact ⟨b, bo, bc, rfl, HB.out.grown (grown_trans G0.out hg.out), mblock_cell hB 1 _ rfl, hb3⟩
                · omega
              have hk0 : (k : Int) < 2 := by omega
              have HLT := Lib.hid hlt
              have HL := Lib.hid hL; have HLL := Lib.hid hl; have HG := Lib.hid hg.out
              clear hL hl hg hlt
              go_wp2_with fail
              go_loopw [35] (fun jv wr => ∃ j : Nat, j ≤ l.length ∧ jv = .int .i64 j ∧ Hid (wo.grownBy wr none) ∧ Hid (onL (l.take j) = true)) (fun jv _ => l.length - (intOf jv).toNat)
              case atStart => exact ⟨0, Nat.zero_le _, rfl, grown_refl _ _, rfl⟩
              case round =>
                obtain ⟨j, hj, rfl, hgx, hon⟩ := hrel
                by_cases hjl : j < l.length
                · obtain ⟨g, o, rfl, q⟩ := pts_at (HL.out.grown hgx.out) (by omega)
                  obtain ⟨x0, x1⟩ := q j hjl
                  have hpt : ptD l j = l[j] := ptD_at hjl
                  have hsucc : onL (l.take (j + 1)) = (onL (l.take j) && decide (onP l[j])) := by
                    rw [List.take_succ_eq_append_getElem hjl]
                    generalize l.take j = m
                    induction m with
                    | nil => simp [onL]
                    | cons p r ih => simp only [List.cons_append, onL, ih, Bool.and_assoc]
                  obtain ⟨bb, hbb⟩ : ∃ bb, decide (onP l[j]) = bb := ⟨_, rfl⟩
                  have HBB := Lib.hid hbb; have HSU := Lib.hid hsucc
                  have hj0 : (j : Int) < (l.length : Int) := by omega
                  have hmem : Hid (l[j] ∈ l) := List.getElem_mem hjl
                  have HGX := Lib.hid hgx.out
                  clear q hbb hsucc hgx hpt
                  generalize l[j] = P at *
                  obtain ⟨px, py⟩ := P
                  simp only at x0 x1
                  go_wp2_with fail
                  refine (onPlane_is ⟨px, py⟩ _ HBB).mono ?_; rintro e w3 ⟨rfl, hg3⟩
                  have G3 : Hid (wo.grownBy w3 none) := grown_trans (grown_trans HGX.out (World.grownBy_alloc _ _ _)) hg3
                  clear hg3 x0 x1
                  cases bb with
                  | true =>
                    go_wp2_with fail
                    go_roundw
                    case rel => exact ⟨j + 1, by omega, by go_num, G3.out, by show _ = _; rw [HSU.out, hon.out, HBB.out]; rfl⟩
                    case measure => simp [intOf]; omega
                  | false =>
                    go_wp2_with fail
                    go_ret
                    refine ⟨?_, grown_trans (grown_trans G0.out HG.out) G3.out⟩
                    have hno : ¬ (onL a = true ∧ onL b = true) := fun h => by
                      have hp : onP (⟨px, py⟩ : Pt) := by
                        have hm := hmem.out
                        rw [HLL.out] at hm
                        rcases k with _ | k
                        · exact onL_iff.1 h.1 _ hm
                        · exact onL_iff.1 h.2 _ hm
                      have := HBB.out
                      rw [decide_eq_true hp] at this
                      cases this
                    have := HV.out
                    rw [if_neg hno] at this
                    rw [this]; rfl
                · have hjl2 : j = l.length := by omega
                  have hon2 : onL l = true := by
                    have := hon.out
                    rw [hjl2, List.take_length] at this; exact this
                  have HON := Lib.hid hon2
                  have HGX := Lib.hid (grown_trans HG.out hgx.out)
                  have hj0 : ¬ (j : Int) < (l.length : Int) := by omega
                  clear hon hon2 hgx hjl2
                  go_wp2_with fail
                  go_roundw
                  case rel =>
                    refine ⟨k + 1, by have := HLT.out; omega, by go_num, HGX.out, fun _ => ?_, fun h => ?_⟩
                    · rcases k with _ | k
                      · have := HON.out; rw [HLL.out] at this; exact this
                      · exact h1.out (by omega)
                    · have := HON.out
                      rw [HLL.out] at this
                      rcases k with _ | k
                      · omega
                      · exact this
                  case measure => have := HLT.out; simp [intOf]; omega
            · have hk2 : k = 2 := by omega
              subst hk2
              have h1' := h1.out (by omega); have h2' := h2.out (by omega)
              have hv := HV.out
              rw [if_pos ⟨h1', h2'⟩] at hv
              have HGR := Lib.hid (grown_trans G0.out hg.out)
              clear h1 h2 h1' h2' hg hlt HV
              go_wp2_with fail
              go_ret
              exact ⟨by rw [hv]; rfl, HGR.out⟩
end Go.Proofs.Ytnjanjbjhbniiaa
