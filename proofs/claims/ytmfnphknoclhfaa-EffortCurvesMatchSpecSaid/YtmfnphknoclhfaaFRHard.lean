/- The contract of the reference's Hard. -/
import Derived.Test.YtmfnphknoclhfaaFHardP
namespace Go.Proofs.Ytmfnphknoclhfaa
open Go.RowKit

theorem root_at {n : Int} {m : Nat} (h : TurnsAt (rootP n) 10000 m) (hn : n ≤ 1000000000000) : rootP n m = true := by
  rcases Nat.lt_or_ge m 10000 with q | q
  · exact h.2.2 m (Nat.le_refl _) q
  · have : m = 10000 := by have := h.1; omega
    subst this
    unfold rootP
    simp only [decide_eq_true_eq]
    omega
def hardV (l : List Int) (E : Int) (m : Nat) : Int := if E = 0 ∧ hmN l l.length ≠ 0 then m else 0
def hardB (l : List Int) (E : Int) : Bool := decide (E = 0 ∧ hmN l l.length ≠ 0)
theorem mean_bd {S M : Int} (h : 0 ≤ S ∧ S ≤ 1000000000000 * M) (hM : 0 < M) : 0 ≤ S.tdiv M ∧ S.tdiv M ≤ 1000000000000 := by
  rw [Int.tdiv_eq_ediv_of_nonneg h.1]
  refine ⟨Int.ediv_nonneg h.1 (by omega), ?_⟩
  have := Int.ediv_le_ediv hM h.2
  rwa [Int.mul_ediv_cancel _ (by omega)] at this

set_option maxRecDepth 100000 in
set_option maxHeartbeats 3200000 in
theorem rhard_any (ao : Option Addr) (cap : Nat) (l : List Int) (hl : (l.length : Int) ≤ 9223372036854775807) (w : World) (hs : IntsAt w ao l) {E : Int} (hE : Hid (hardE l = E)) {m : Nat} (hm : Hid (hmN l l.length ≠ 0 → E = 0 → TurnsAt (rootP ((hsN l l.length).tdiv (hmN l l.length))) 10000 m)) :
    Calls Try.prog 20 #[.slice ao l.length cap] w fun e w' => e = .returned (.tuple #[.int .i64 (hardV l E m), .bool (hardB l E), .int .i64 E]) ∧ w.grownBy w' none := by
  have HS := Lib.hid hs; clear hs
  obtain ⟨se, hse⟩ : ∃ e, streamE l = e := ⟨_, rfl⟩
  have HSE := Lib.hid hse
  have hv := hE.out
  unfold hardE at hv
  rw [hse] at hv
  clear hE
  by_cases h0 : se = 0
  · rw [if_pos h0] at hv
    subst h0
    obtain ⟨hl6, hbd⟩ := stream_ok hse
    have HB := Lib.hid hbd
    have HE0 : Hid (eachE (-1) 10000 (l.drop 0) = E) := hv
    clear hv hse hbd
    go_enter Try.func20, Try.ntmps20
    go_wp2_with (go_at_call 63; refine (rcheckStream_any ao cap l hl _ HS.out HSE).mono ?_; rintro e w1 ⟨rfl, rfl⟩)
    go_loopw [21] (fun iv wr => ∃ k : Nat, k ≤ l.length ∧ iv = .int .i64 k ∧ w = wr ∧ Hid (∀ j, j < k → nthI l j ≤ 10000) ∧ Hid (eachE (-1) 10000 (l.drop k) = E))
      (fun iv _ => l.length - (intOf iv).toNat)
    case atStart => exact ⟨0, Nat.zero_le _, rfl, rfl, (fun j hj => absurd hj (Nat.not_lt_zero _)), HE0.out⟩
    case round =>
      obtain ⟨k, hk, rfl, rfl, hok, hw⟩ := hrel
      by_cases hlt : k < l.length
      · obtain ⟨b, off, rfl, hc⟩ := HS.out.at (by omega)
        have c0 := hc k hlt
        have HW : Hid (_ = E) := Lib.hid ((eachE_at (lo := -1) (hi := 10000) hlt).symm.trans hw.out)
        have hb := HB.out k hlt
        clear hw hc
        by_cases a1 : nthI l k ≤ 10000
        · have HE : Hid (eachE (-1) 10000 (l.drop (k + 1)) = E) := by show _ = _; rw [← HW.out, if_pos ⟨hb.1, a1⟩]
          have HOK : Hid (∀ j, j < k + 1 → nthI l j ≤ 10000) := fun j hj => by
            rcases Nat.lt_or_ge j k with q | q
            · exact hok.out j q
            · obtain rfl : j = k := by omega
              exact a1
          have a2 : ¬ 10000 < nthI l k := by omega
          clear HW hok
          generalize nthI l k = x at *
          go_wp2_with fail
          go_roundw
          case rel => exact ⟨k + 1, by omega, by go_num, trivial, HOK.out, HE.out⟩
          case measure => simp [intOf]; omega
        · have HE : Hid (E = 9) := by show _ = _; rw [← HW.out, if_neg (fun h => a1 h.2)]
          have a2 : 10000 < nthI l k := by omega
          obtain rfl := HE.out
          clear HW hok HE
          generalize nthI l k = x at *
          go_wp2_with fail
          go_ret3
          exact ⟨by simp [hardV, hardB], grown_refl _ _⟩
      · obtain rfl : k = l.length := by omega
        have hE0 : E = 0 := by rw [← hw.out]; exact eachE_end (Nat.le_refl _)
        subst hE0
        have HBS : Hid (∀ k, k ≤ l.length → (0 ≤ hsN l k ∧ hsN l k ≤ 1000000000000 * hmN l k) ∧ 0 ≤ hmN l k ∧ hmN l k ≤ k) := hs_bd hok.out
        have HSM : Hid (∀ k, k < l.length → -1 ≤ smV l 30 k ∧ smV l 30 k ≤ 10000) := fun k hk => sm_bd hok.out hk
        clear hw hok hk hlt
        go_wp2_with (go_at_call 90; refine (smooth_is ao cap l hl6 HB 30 (by decide) (by decide) _ HS.out).mono ?_; rintro e w2 ⟨⟨a1, c1, rfl, hf⟩, hg2⟩)
        have HF := Lib.hid hf; have HG := Lib.hid hg2
        clear hf hg2
        go_wp2_with fail
        go_loopw [8, 9, 31] (fun s8 s9 iv wr => ∃ k : Nat, k ≤ l.length ∧ s8 = .int .i64 (hsN l k) ∧ s9 = .int .i64 (hmN l k) ∧ iv = .int .i64 k ∧ w2 = wr)
          (fun _ _ iv _ => l.length - (intOf iv).toNat)
        case atStart => exact ⟨0, Nat.zero_le _, rfl, rfl, rfl, rfl⟩
        case round =>
          obtain ⟨k, hk, rfl, rfl, rfl, rfl⟩ := hrel
          by_cases hlt : k < l.length
          · obtain ⟨g, rfl, c0⟩ := HF.out k hlt
            have hb := HSM.out k hlt
            have hsb := HBS.out k hk
            have HN : Hid (hsN l (k + 1) = (if smV l 30 k < 0 then hsN l k else hsN l k + cubI (smV l 30 k)) ∧ hmN l (k + 1) = (if smV l 30 k < 0 then hmN l k else hmN l k + 1)) := ⟨rfl, rfl⟩
            generalize smV l 30 k = x at *
            generalize hsN l k = S at *
            generalize hmN l k = M at *
            generalize hS' : hsN l (k + 1) = S' at *
            generalize hM' : hmN l (k + 1) = M' at *
            have KS := Lib.hid hS'; have KM := Lib.hid hM'
            clear hS' hM'
            obtain ⟨b0, b1⟩ := hb
            obtain ⟨⟨s0, s1⟩, m0, m1⟩ := hsb
            by_cases a1 : x < 0
            · have hn := HN.out
              rw [if_pos a1, if_pos a1] at hn
              obtain ⟨rfl, rfl⟩ := hn
              have a2 : ¬ 0 ≤ x := by omega
              go_wp2_with fail
              go_roundw
              case rel => exact ⟨k + 1, by omega, by rw [KS.out], by rw [KM.out], by go_num, trivial⟩
              case measure => simp [intOf]; omega
            · have hn := HN.out
              rw [if_neg a1, if_neg a1] at hn
              obtain ⟨e1, e2⟩ := hn
              have a2 : 0 ≤ x := by omega
              obtain ⟨⟨q0, q1⟩, q2, q3⟩ := cube_bd a2 (by omega)
              unfold cubI at e1
              have E1 := Lib.hid e1; have E2 := Lib.hid e2
              clear e1 e2
              generalize hxx : x * x = xx at *
              have HXX : x * x = xx := hxx
              generalize hxc : xx * x = xc at *
              have HXC : xx * x = xc := hxc
              clear hxx hxc
              go_wp2_with fail
              go_roundw
              case rel => exact ⟨k + 1, by omega, by rw [KS.out, E1.out], by rw [KM.out, E2.out], by go_num, trivial⟩
              case measure => simp [intOf]; omega
          · obtain rfl : k = l.length := by omega
            have hsb := HBS.out l.length (Nat.le_refl _)
            have HR : Hid (hardV l 0 m = (if hmN l l.length = 0 then 0 else (m : Int)) ∧ hardB l 0 = !decide (hmN l l.length = 0)) := ⟨by unfold hardV; by_cases h : hmN l l.length = 0 <;> simp [h], by unfold hardB; by_cases h : hmN l l.length = 0 <;> simp [h]⟩
            clear HBS HSM HF HSE HB HE0
            generalize hsN l l.length = S at *
            generalize hmN l l.length = M at *
            obtain ⟨hs0, m0, m1⟩ := hsb
            by_cases hM : M = 0
            · have hr := HR.out
              rw [if_pos hM] at hr
              have HV1 : Hid (hardV l 0 m = 0) := hr.1
              have HB1 : Hid (hardB l 0 = false) := by show _ = _; rw [hr.2]; simp [hM]
              subst hM
              clear hr HR hs0 m0 m1 hm
              go_wp2_with fail
              go_ret3
              refine ⟨?_, HG.out⟩
              rw [HV1.out, HB1.out]
              try rfl
            · have hr := HR.out
              rw [if_neg hM] at hr
              have HV1 : Hid (hardV l 0 m = (m : Int)) := hr.1
              have HB1 : Hid (hardB l 0 = true) := by show _ = _; rw [hr.2]; simp [hM]
              have ht := hm.out hM trivial
              have hq := mean_bd hs0 (by omega)
              have hr2 := root_at ht hq.2
              obtain ⟨Q, hQ⟩ : ∃ Q, S.tdiv M = Q := ⟨_, rfl⟩
              rw [hQ] at hq ht hr2
              have HT := Lib.hid ht; have HR2 := Lib.hid hr2
              have hM1 : (M == 0) = false := by simp [hM]
              obtain ⟨hs1, hs2⟩ := hs0
              clear ht hr2 hm hr HR
              go_wp2_with fail
              go_loopw [13] (fun iv wr => ∃ i : Nat, i ≤ m ∧ iv = .int .i64 i ∧ Hid (w.grownBy wr none)) (fun iv _ => m - (intOf iv).toNat)
              case atStart => exact ⟨0, Nat.zero_le _, rfl, HG.out⟩
              case round =>
                obtain ⟨i, hi, rfl, hg⟩ := hrel
                have hm4 := HT.out.1
                obtain ⟨⟨q0, q1⟩, q2, q3⟩ := cube_bd (n := (i : Int) + 1) (by omega) (by omega)
                have hrt : rootP Q i = decide (Q < ((i : Int) + 1) * ((i : Int) + 1) * ((i : Int) + 1)) := rfl
                generalize hxx : ((i : Int) + 1) * ((i : Int) + 1) = xx at *
                have HXX : ((i : Int) + 1) * ((i : Int) + 1) = xx := hxx
                generalize hxc : xx * ((i : Int) + 1) = xc at *
                have HXC : xx * ((i : Int) + 1) = xc := hxc
                clear hxx hxc
                by_cases hlt : i < m
                · have h1 := HT.out.2.1 i hlt
                  rw [hrt] at h1
                  have h2 : xc ≤ Q := by have := of_decide_eq_false h1; omega
                  clear h1 hrt
                  go_wp2_with fail
                  go_roundw
                  case rel => exact ⟨i + 1, by omega, by go_num, hg.out⟩
                  case measure => simp [intOf]; omega
                · obtain rfl : i = m := by omega
                  have h1 := HR2.out
                  rw [hrt] at h1
                  have h2 : ¬ xc ≤ Q := by have := of_decide_eq_true h1; omega
                  clear h1 hrt
                  go_wp2_with fail
                  go_ret3
                  refine ⟨?_, hg.out⟩
                  rw [HV1.out, HB1.out]
                  try rfl
  · rw [if_neg h0] at hv
    subst hv
    have hne : (se != 0) = true := by simpa using h0
    go_enter Try.func20, Try.ntmps20
    go_wp2_with (go_at_call 63; refine (rcheckStream_any ao cap l hl _ HS.out HSE).mono ?_; rintro e w1 ⟨rfl, rfl⟩)
    go_ret3
    exact ⟨by simp [hardV, hardB, h0], grown_refl _ _⟩
end Go.Proofs.Ytmfnphknoclhfaa
