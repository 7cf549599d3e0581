/- For all thresholds, percents, streams and weights, Limits, Power and Pulse return what the reference returns: the walk. -/
import Derived.Test.YtdihmcbjoociiaaFHard
import Derived.Test.YtdihmcbjoociiaaFLim
import Derived.Test.YtdihmcbjoociiaaFPulse
import Derived.Test.YtdihmcbjoociiaaFPow
import Derived.Test.YtdihmcbjoociiaaFTold
namespace Go.Proofs.Ytdihmcbjoociiaa
open Go.RowKit

theorem ints_block {w : World} {ao : Option Addr} {l : List Int} (h : IntsAt w ao l) : ∀ a, ao = some a → l ≠ [] → a.block < w.heap.size := fun a e hne => by
  obtain ⟨b, off, e2, hc⟩ := h.at (List.length_pos_iff.2 hne)
  rw [e] at e2
  injection e2 with e2
  subst e2
  exact World.block_lt_of_cell? w _ (hc 0 (List.length_pos_iff.2 hne))

/-- Both sides' Hard return the same. -/
theorem hard_both (l : List Int) (hl : (l.length : Int) ≤ 9223372036854775807) : ∃ (h : Int) (ok : Bool) (E : Int), (0 ≤ h ∧ h ≤ 10000) ∧ (E = 0 → (l.length : Int) ≤ 1000000) ∧
    (∀ ao cap w, IntsAt w ao l → Calls Try.prog 83 #[.slice ao l.length cap] w fun e w' => e = .returned (.tuple #[.int .i64 h, .bool ok, .int .i64 E]) ∧ w.grownBy w' none) ∧
    (∀ ao cap w, IntsAt w ao l → Calls Try.prog 84 #[.slice ao l.length cap] w fun e w' => e = .returned (.tuple #[.int .i64 h, .bool ok, .int .i64 E]) ∧ w.grownBy w' none) := by
  obtain ⟨m, hm⟩ := turns_some (p := rootP ((hsN l l.length).tdiv (hmN l l.length))) (fun a b h ha => rootP_up h ha) 10000
  have hm4 := hm.1
  obtain ⟨E, hE⟩ : ∃ E, hardE l = E := ⟨_, rfl⟩
  refine ⟨hardV l E m, hardB l E, E, ?_, fun h0 => ?_, fun ao cap w hs => ?_, fun ao cap w hs => ?_⟩
  · unfold hardV; split <;> omega
  · subst h0
    unfold hardE at hE
    by_cases q : streamE l = 0
    · exact (stream_ok q).1
    · rw [if_neg q] at hE; exact absurd hE q
  · by_cases h0 : E = 0
    · subst h0
      exact (hard_ok ao cap l hE w hs (ints_block hs) (Lib.hid fun _ => hm)).mono fun _ _ ⟨h, g⟩ => ⟨h, grown_below g⟩
    · exact hard_err ao cap l hl w hs hE h0 m
  · exact rhard_any ao cap l hl w hs hE (Lib.hid fun _ _ => hm)

set_option maxRecDepth 100000 in
set_option maxHeartbeats 1600000 in
theorem limits_law (t : Int) (po : Option Addr) (pc : Nat) (ps : List Int) (hp : (ps.length : Int) ≤ 9223372036854775807) (ao : Option Addr) (cap : Nat) (l : List Int) (hl : (l.length : Int) ≤ 9223372036854775807) (wo : Option Addr) (wc : Nat) (ws : List Int) (hwl : (ws.length : Int) ≤ 9223372036854775807) (w : World) (hps : IntsAt w po ps) (_ : ps.length ≤ pc) (hs : IntsAt w ao l) (_ : l.length ≤ cap) (hws : IntsAt w wo ws) (_ : ws.length ≤ wc) :
    Calls Try.prog 4 #[.int .i64 t, .slice po ps.length pc, .slice ao l.length cap, .slice wo ws.length wc] w fun e w' => e = .returned (.bool true) ∧ w.grownBy w' none := by
  obtain ⟨E, hE⟩ : ∃ e, limE t ps = e := ⟨_, rfl⟩
  obtain ⟨n, hn⟩ : ∃ n, limN t ps = n := ⟨_, rfl⟩
  obtain ⟨h, ok, HE, hh, hlen, hH, hR⟩ := hard_both l hl
  obtain ⟨⟨zn, zF, zu, zE⟩, hO⟩ : ∃ q, zonesOut l ps = q := ⟨_, rfl⟩
  obtain ⟨D, hD⟩ : ∃ e, pulE zn zE ws = e := ⟨_, rfl⟩
  obtain ⟨v, hv⟩ : ∃ e, pulV zn zF zE ws = e := ⟨_, rfl⟩
  have KE := Lib.hid hE; have KN := Lib.hid hn; have KO := Lib.hid hO; have KD := Lib.hid hD; have KV := Lib.hid hv
  have HS := Lib.hid hs; have HPS := Lib.hid hps; have HWS := Lib.hid hws
  have KH := Lib.hid hH; have KR := Lib.hid hR; have KHH := Lib.hid hh; have KL := Lib.hid hlen
  have HN5 : Hid (n ≤ 9223372036854775807) := by show _ ≤ _; have := limN_le t ps; omega
  clear hE hn hO hD hv hs hps hws hH hR hh hlen
  go_enter Try.func4, Try.ntmps4
  go_wp2_with fail
  refine (limits_any t po pc ps hp w HPS.out KE KN).mono ?_; rintro e w1 ⟨⟨a1, c1, rfl, hF1⟩, hg1⟩
  have K := Lib.hid hg1; have HF1 := Lib.hid hF1
  clear hg1 hF1
  go_wp2_with fail
  refine (rlimits_any t po pc ps hp w1 (HPS.out.grown K.out) KE KN).mono ?_; rintro e w2 ⟨⟨a2, c2, rfl, hF2⟩, hg2⟩
  have HF2 := Lib.hid hF2
  replace HF1 := Lib.hid (HF1.out.grown hg2)
  replace K := Lib.hid (grown_trans K.out hg2)
  clear hg2 hF2
  go_wp2_with fail
  refine (power_any ao cap l hl t w2 (HS.out.grown K.out) KHH.out KL.out (Lib.hid (KH.out ao cap w2 (HS.out.grown K.out)))).mono ?_; rintro e w3 ⟨rfl, hg3⟩
  replace HF1 := Lib.hid (HF1.out.grown hg3)
  replace HF2 := Lib.hid (HF2.out.grown hg3)
  replace K := Lib.hid (grown_trans K.out hg3)
  clear hg3
  obtain ⟨V1, hV1⟩ : ∃ q, powV l h ok HE t = q := ⟨_, rfl⟩
  obtain ⟨V2, hV2⟩ : ∃ q, powB ok HE t = q := ⟨_, rfl⟩
  obtain ⟨V3, hV3⟩ : ∃ q, powE HE t = q := ⟨_, rfl⟩
  have KV1 := Lib.hid hV1; have KV2 := Lib.hid hV2; have KV3 := Lib.hid hV3
  rw [hV1, hV2, hV3]
  clear hV1 hV2 hV3
  go_wp2_with fail
  refine (rpower_any ao cap l hl t w3 (HS.out.grown K.out) KHH.out KL.out (Lib.hid (KR.out ao cap w3 (HS.out.grown K.out)))).mono ?_; rintro e w4 ⟨rfl, hg4⟩
  replace HF1 := Lib.hid (HF1.out.grown hg4)
  replace HF2 := Lib.hid (HF2.out.grown hg4)
  replace K := Lib.hid (grown_trans K.out hg4)
  clear hg4
  rw [KV1.out, KV2.out, KV3.out]
  go_wp2_with fail
  refine (pulse_any ao cap l hl po pc ps hp wo wc ws hwl w4 (HS.out.grown K.out) (HPS.out.grown K.out) (HWS.out.grown K.out) KO KD KV).mono ?_; rintro e w5 ⟨rfl, hg5⟩
  replace HF1 := Lib.hid (HF1.out.grown hg5)
  replace HF2 := Lib.hid (HF2.out.grown hg5)
  replace K := Lib.hid (grown_trans K.out hg5)
  clear hg5
  go_wp2_with fail
  refine (rpulse_any ao cap l hl po pc ps hp wo wc ws hwl w5 (HS.out.grown K.out) (HPS.out.grown K.out) (HWS.out.grown K.out) KO KD KV).mono ?_; rintro e w6 ⟨rfl, hg6⟩
  replace HF1 := Lib.hid (HF1.out.grown hg6)
  replace HF2 := Lib.hid (HF2.out.grown hg6)
  replace K := Lib.hid (grown_trans K.out hg6)
  clear hg6
  go_wp2_with fail
  refine (equal_fints HF1.out HF2.out (fun _ _ => rfl) HN5.out).mono ?_; rintro e w7 ⟨rfl, hg7⟩
  replace K := Lib.hid (grown_trans K.out hg7)
  clear hg7 HF1 HF2
  go_wp2_with fail
  refine (ftold_any _).mono ?_; rintro e w8 ⟨rfl, hg8⟩
  replace K := Lib.hid (grown_trans K.out hg8)
  clear hg8
  go_wp2_with fail
  go_ret
  exact ⟨by first | rfl | simp, K.out⟩

end Go.Proofs.Ytdihmcbjoociiaa
