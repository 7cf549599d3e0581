/- moveSamples, over a row of the call's own. -/
import Derived.Test.YtgkhhfojioepgaaBaseF
namespace Go.Proofs.Ytgkhhfojioepgaa
open Go.RowKit
set_option linter.unusedSimpArgs false
set_option linter.unusedVariables false

set_option maxHeartbeats 1600000 in
theorem move_is (base : Nat) (v : Value) (L : List Smp) (hn : L.length ≤ 20002) (d : Int) (hd : -100000000000 ≤ d ∧ d ≤ 100000000000) (hb : ∀ x ∈ L, -100000000 ≤ x.t ∧ x.t ≤ 100000000) (w : World) (h : w.ownsRow base 28 7 v L.length (smpRw L)) :
    Calls Try.prog 83 #[v, .int .i64 d] w fun e w' => e = .returned (.tuple #[]) ∧ w'.ownsRow base 28 7 v L.length (smpRw (L.map (mvS d))) ∧ w.grownBy w' v.ownBlock := by
  obtain ⟨ao, cap, rfl⟩ : ∃ ao cap, v = .slice ao L.length cap := by
    rcases h.2 with ⟨hv, h0⟩ | ⟨g, c, cur, hv, _⟩
    · exact ⟨none, 0, by rw [hv, h0]⟩
    · exact ⟨_, c, hv⟩
  have H := Lib.hid h; have HB := Lib.hid hb
  clear h hb
  go_enter Try.func83, Try.ntmps83
  go_wp2_with fail
  go_loopw [7] (fun iv wr => ∃ k : Nat, k ≤ L.length ∧ iv = .int .i64 k ∧ Hid (wr.ownsRow base 28 7 (.slice ao L.length cap) L.length (smpRw (mvK L d k))) ∧ Hid (w.grownBy wr (Value.slice ao L.length cap).ownBlock))
    (fun iv _ => L.length - (intOf iv).toNat)
  case atStart => exact ⟨0, Nat.zero_le _, rfl, by rw [mvK_zero]; exact H.out, World.grownBy.refl _ _⟩
  case round =>
    obtain ⟨k, hk, rfl, hO, hG⟩ := hrel
    by_cases hlt : k < L.length
    · obtain ⟨g, cap', hv, _, _⟩ := hO.out.form (by omega)
      injection hv with e1 _ e3
      subst e1; subst e3
      have hO2 : wr.ownsRow base 28 7 (.slice (some ⟨g, 0, none⟩) (mvK L d k).length cap) (mvK L d k).length (smpRw (mvK L d k)) := by rw [mvK_len]; exact hO.out
      obtain ⟨ao2, cp2, hv2, hsm, _⟩ := own_smps hO2
      injection hv2 with e1 _ _
      have c0 := (hsm.cells _ e1.symm k (by rw [mvK_len]; exact hlt)).1
      have ht := HB.out L[k] (List.getElem_mem hlt)
      have hnew := own_time hO2 (k := k) (by rw [mvK_len]; exact hlt) (L[k].t + d)
      have he : (mvK L d k).set k { (mvK L d k)[k]'(by rw [mvK_len]; exact hlt) with t := L[k].t + d } = mvK L d (k + 1) := by
        rw [mvK_succ hlt, mvK_at hlt]; rfl
      rw [he, mvK_len] at hnew
      rw [mvK_at hlt] at c0
      obtain ⟨cur, hcur⟩ := own_head hO.out
      have f0 := block_free (k := k * 7) hcur
      have HN := Lib.hid hnew
      have HGN : Hid (w.grownBy (wr.setCell ⟨g, k * 7, none⟩ (.int .i64 (L[k].t + d))) (Value.slice (some ⟨g, 0, none⟩) L.length cap).ownBlock) :=
        ⟨hG.out.os, hG.out.tape, hG.out.output, by have := hG.out.size; simpa [World.setCell] using this, fun i hi hne => (Below.heap_setCell _ _ _ _ (fun e => hne (by rw [e]; rfl))).trans (hG.out.block i hi hne)⟩
      simp only [Nat.zero_add] at c0
      have r1 : IntKind.i64.wrap (L[k].t + d) = L[k].t + d := IntWalk.i64_in _ (by omega)
      clear hO hO2 hsm hnew he hcur e1 hG
      generalize L[k].t = tv at *
      go_wp2_with fail
      go_roundw
      case rel => exact ⟨k + 1, by omega, by go_num, HN.out, HGN.out⟩
      case measure => simp [intOf]; omega
    · obtain rfl : k = L.length := by omega
      rw [mvK_all] at hO
      go_wp2_with fail
      refine bodyPost_end (results_none rfl _ _ _) rfl ?_
      exact ⟨rfl, hO.out, hG.out⟩
end Go.Proofs.Ytgkhhfojioepgaa
