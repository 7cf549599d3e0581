/- The contract of Peak, of both sides. -/
import Derived.Test.YtdihmcbjoociiaaFRSeries
namespace Go.Proofs.Ytdihmcbjoociiaa
open Go.RowKit

theorem range_getD (n : Nat) (F : Nat → Int) {j : Nat} (hj : j < n) : ((List.range n).map F).getD j 0 = F j := by
  rw [List.getD_eq_getElem?_getD]; simp [hj]
theorem max_pk (n : Nat) (F : Nat → Int) : ∀ k, 0 < k → k ≤ n → Lib.maxOf (((List.range n).map F).take k) = F (pkN F k)
  | 1, _, h => by
    rw [Lib.maxOf_one, range_getD n F (by omega)]
    simp [pkN]
  | k + 2, _, h => by
    rw [Lib.maxOf_step _ (k + 1) (by omega) (by simp; omega), max_pk n F (k + 1) (by omega) (by omega), range_getD n F (by omega)]
    conv => rhs; rw [pkN]
    split <;> omega

theorem fmax_is {w : World} {ao : Option Addr} {n c : Nat} {F : Nat → Int} (h : FInts w ao n F) (h0 : 0 < n) (hn : n ≤ 9223372036854775807) {m : Int} (hm : Hid (F (pkN F n) = m)) :
    Calls Try.prog 94 #[.slice ao n c] w fun e w' => e = .returned (.int .i64 m) ∧ w = w' := by
  obtain ⟨g, rfl, hc⟩ := h.at h0
  have hlen : ((List.range n).map F).length = n := by simp
  refine (Try.slices_Max_int g 0 n c ((List.range n).map F) w h0 (by omega) hn (fun j hj => ?_)).mono ?_
  · rw [hlen] at hj
    rw [range_getD n F hj]
    simpa using hc j hj
  · rintro e w' ⟨rfl, rfl⟩
    exact ⟨by rw [max_pk n F n h0 (Nat.le_refl _), hm.out], rfl⟩
theorem findex_is {w : World} {ao : Option Addr} {n c : Nat} {F : Nat → Int} (h : FInts w ao n F) (h0 : 0 < n) (hn : n ≤ 9223372036854775807) {m : Int} (hm : Hid (F (pkN F n) = m)) {k : Nat} (hk : Hid (pkN F n = k)) :
    Calls Try.prog 93 #[.slice ao n c, .int .i64 m] w fun e w' => e = .returned (.int .i64 k) ∧ w = w' := by
  obtain ⟨g, rfl, hc⟩ := h.at h0
  have hlen : ((List.range n).map F).length = n := by simp
  refine (Try.slices_Index_int g 0 n c ((List.range n).map F) m w (by omega) hn (fun j hj => ?_)).mono ?_
  · rw [hlen] at hj
    rw [range_getD n F hj]
    simpa using hc j hj
  · rintro e w' ⟨rfl, rfl⟩
    have a := pkN_lt' F n h0
    refine ⟨?_, rfl⟩
    rw [Lib.idxOf_hit ((List.range n).map F) n (pkN F n) m a (by omega) (by rw [range_getD n F a]; exact hm.out) (fun j hj => by
      rw [range_getD n F (by omega), ← hm.out]
      have := pkN_first F n j hj
      omega), hk.out]

/-- What Peak returns. -/
def peakE (l : List Int) (c first : Int) : Int := if seriesE l c first = 0 then (if l.length = 0 then 13 else 0) else seriesE l c first
def peakV (l : List Int) (c first : Int) : Nat := if peakE l c first = 0 then pkN (fun j => stN l c first (j + 1)) l.length else 0
theorem peak_err {l : List Int} {c first e : Int} (h : seriesE l c first = e) (he : e ≠ 0) : peakE l c first = e ∧ peakV l c first = 0 := by
  have h1 : peakE l c first = e := by unfold peakE; rw [if_neg (by rw [h]; exact he)]; exact h
  refine ⟨h1, ?_⟩
  unfold peakV; rw [if_neg (by rw [h1]; exact he)]
theorem peak_none {l : List Int} {c first : Int} (h : seriesE l c first = 0) (h0 : l.length = 0) : peakE l c first = 13 ∧ peakV l c first = 0 := by
  have h1 : peakE l c first = 13 := by unfold peakE; rw [if_pos h, if_pos h0]
  refine ⟨h1, ?_⟩
  unfold peakV; rw [if_neg (by rw [h1]; decide)]
theorem peak_some {l : List Int} {c first : Int} (h : seriesE l c first = 0) (h0 : ¬ l.length = 0) : peakE l c first = 0 ∧ peakV l c first = pkN (fun j => stN l c first (j + 1)) l.length := by
  have h1 : peakE l c first = 0 := by unfold peakE; rw [if_pos h, if_neg h0]
  refine ⟨h1, ?_⟩
  unfold peakV; rw [if_pos h1]

set_option maxHeartbeats 800000 in
theorem peak_any (ao : Option Addr) (cap : Nat) (l : List Int) (hl : (l.length : Int) ≤ 9223372036854775807) (c first : Int) (w : World) (hs : IntsAt w ao l) {v : Nat} {E : Int} (hE : Hid (peakE l c first = E)) (hv : Hid (peakV l c first = v)) :
    Calls Try.prog 31 #[.slice ao l.length cap, .int .i64 c, .int .i64 first] w fun e w' => e = .returned (.tuple #[.int .i64 v, .int .i64 E]) ∧ w.grownBy w' none := by
  obtain ⟨se, hse⟩ : ∃ e, seriesE l c first = e := ⟨_, rfl⟩
  obtain ⟨n, hn⟩ : ∃ n, seriesN l c first = n := ⟨_, rfl⟩
  have HSE := Lib.hid hse; have HN := Lib.hid hn
  by_cases h0 : se = 0
  · subst h0
    obtain rfl : n = l.length := by rw [← hn]; exact seriesN_ok hse
    have hok := (series_ok hse).len
    by_cases hz : l.length = 0
    · obtain ⟨p1, p2⟩ := peak_none hse hz
      obtain rfl : E = 13 := hE.out.symm.trans p1
      obtain rfl : v = 0 := hv.out.symm.trans p2
      have HZ := Lib.hid hz
      clear hse hn hE hv p1 p2 hz
      go_enter Try.func31, Try.ntmps31
      go_wp2_with fail
      refine (series_any ao cap l hl c first w hs HSE HN).mono ?_; rintro e w1 ⟨⟨ao', cap', rfl, hF⟩, hg⟩
      have HG := Lib.hid hg
      have hz' : (l.length : Int) = 0 := by have := HZ.out; omega
      clear hF hg hs
      go_wp2_with fail
      go_ret2
      exact ⟨rfl, HG.out⟩
    · obtain ⟨p1, p2⟩ := peak_some hse hz
      obtain rfl : E = 0 := hE.out.symm.trans p1
      have HV : Hid (pkN (fun j => stN l c first (j + 1)) l.length = v) := p2.symm.trans hv.out
      have hp : 0 < l.length := by omega
      have HL2 : Hid (l.length ≤ 9223372036854775807) := by show _ ≤ _; omega
      have hz' : ¬ (l.length : Int) = 0 := by omega
      obtain ⟨m, hm⟩ : ∃ m, (fun j => stN l c first (j + 1)) (pkN (fun j => stN l c first (j + 1)) l.length) = m := ⟨_, rfl⟩
      have HM : Hid ((fun j => stN l c first (j + 1)) (pkN (fun j => stN l c first (j + 1)) l.length) = m) := hm
      clear hse hn hE hv p1 p2 hm
      go_enter Try.func31, Try.ntmps31
      go_wp2_with fail
      refine (series_any ao cap l hl c first w hs HSE HN).mono ?_; rintro e w1 ⟨⟨ao', cap', rfl, hF⟩, hg⟩
      have HG := Lib.hid hg; have HF := Lib.hid hF
      clear hF hg hs
      go_wp2_with fail
      refine (fmax_is HF.out hp HL2.out HM).mono ?_; rintro e w2 ⟨rfl, rfl⟩
      go_wp2_with fail
      refine (findex_is HF.out hp HL2.out HM HV).mono ?_; rintro e w2 ⟨rfl, rfl⟩
      go_wp2_with fail
      go_ret2
      exact ⟨rfl, HG.out⟩
  · obtain ⟨p1, p2⟩ := peak_err hse h0
    obtain rfl : E = se := hE.out.symm.trans p1
    obtain rfl : v = 0 := hv.out.symm.trans p2
    have hne : (E != 0) = true := by simpa using h0
    clear hse hn hE hv p1 p2 h0
    go_enter Try.func31, Try.ntmps31
    go_wp2_with fail
    refine (series_any ao cap l hl c first w hs HSE HN).mono ?_; rintro e w1 ⟨⟨ao', cap', rfl, hF⟩, hg⟩
    have HG := Lib.hid hg
    clear hF hg hs
    go_wp2_with fail
    go_ret2
    exact ⟨rfl, HG.out⟩

set_option maxHeartbeats 800000 in
theorem rpeak_any (ao : Option Addr) (cap : Nat) (l : List Int) (hl : (l.length : Int) ≤ 9223372036854775807) (c first : Int) (w : World) (hs : IntsAt w ao l) {v : Nat} {E : Int} (hE : Hid (peakE l c first = E)) (hv : Hid (peakV l c first = v)) :
    Calls Try.prog 32 #[.slice ao l.length cap, .int .i64 c, .int .i64 first] w fun e w' => e = .returned (.tuple #[.int .i64 v, .int .i64 E]) ∧ w.grownBy w' none := by
  obtain ⟨se, hse⟩ : ∃ e, seriesE l c first = e := ⟨_, rfl⟩
  obtain ⟨n, hn⟩ : ∃ n, seriesN l c first = n := ⟨_, rfl⟩
  have HSE := Lib.hid hse; have HN := Lib.hid hn
  by_cases h0 : se = 0
  · subst h0
    obtain rfl : n = l.length := by rw [← hn]; exact seriesN_ok hse
    have hok := (series_ok hse).len
    by_cases hz : l.length = 0
    · obtain ⟨p1, p2⟩ := peak_none hse hz
      obtain rfl : E = 13 := hE.out.symm.trans p1
      obtain rfl : v = 0 := hv.out.symm.trans p2
      have HZ := Lib.hid hz
      clear hse hn hE hv p1 p2 hz
      go_enter Try.func32, Try.ntmps32
      go_wp2_with fail
      refine (rseries_any ao cap l hl c first w hs HSE HN).mono ?_; rintro e w1 ⟨⟨ao', cap', rfl, hF⟩, hg⟩
      have HG := Lib.hid hg
      have hz' : (l.length : Int) = 0 := by have := HZ.out; omega
      clear hF hg hs
      go_wp2_with fail
      go_ret2
      exact ⟨rfl, HG.out⟩
    · obtain ⟨p1, p2⟩ := peak_some hse hz
      obtain rfl : E = 0 := hE.out.symm.trans p1
      have HV : Hid (pkN (fun j => stN l c first (j + 1)) l.length = v) := p2.symm.trans hv.out
      have hp : 0 < l.length := by omega
      have hz' : ¬ (l.length : Int) = 0 := by omega
      obtain ⟨F, hFd⟩ : ∃ F : Nat → Int, (fun j => stN l c first (j + 1)) = F := ⟨_, rfl⟩
      rw [hFd] at HV
      clear hse hn hE hv p1 p2
      go_enter Try.func32, Try.ntmps32
      go_wp2_with fail
      refine (rseries_any ao cap l hl c first w hs HSE HN).mono ?_; rintro e w1 ⟨⟨ao', cap', rfl, hF⟩, hg⟩
      rw [hFd] at hF
      obtain ⟨g, rfl, hc⟩ := hF.at hp
      have HG := Lib.hid hg; have HC := Lib.hid hc
      clear hF hg hs hc
      clear hFd
      go_wp2_with fail
      go_loopw [10, 28] (fun bv iv wr => ∃ k : Nat, k ≤ l.length ∧ bv = .int .i64 (pkN F k : Nat) ∧ iv = .int .i64 k ∧ w1 = wr)
        (fun _ iv _ => l.length - (intOf iv).toNat)
      case atStart => exact ⟨0, Nat.zero_le _, rfl, rfl, by first | rfl | trivial⟩
      case round =>
        obtain ⟨k, hk, rfl, rfl, rfl⟩ := hrel
        by_cases hlt : k < l.length
        · have b0 := pkN_lt F k
          have c0 := HC.out k hlt
          have c1 := HC.out (pkN F k) (by omega)
          have hp1 : pkN F (k + 1) = if F (pkN F k) < F k then k else pkN F k := rfl
          by_cases a1 : F (pkN F k) < F k
          · rw [if_pos a1] at hp1
            have HP := Lib.hid hp1
            clear hp1
            generalize pkN F k = b at *
            generalize F k = x at *
            generalize F b = y at *
            go_wp2_with fail
            go_roundw
            case rel => exact ⟨k + 1, by omega, by rw [HP.out], by go_num, by first | rfl | trivial⟩
            case measure => simp [intOf]; omega
          · rw [if_neg a1] at hp1
            have HP := Lib.hid hp1
            clear hp1
            generalize pkN F k = b at *
            generalize F k = x at *
            generalize F b = y at *
            go_wp2_with fail
            go_roundw
            case rel => exact ⟨k + 1, by omega, by rw [HP.out], by go_num, by first | rfl | trivial⟩
            case measure => simp [intOf]; omega
        · obtain rfl : k = l.length := by omega
          rw [HV.out]
          go_wp2_with fail
          go_ret2
          exact ⟨rfl, HG.out⟩
  · obtain ⟨p1, p2⟩ := peak_err hse h0
    obtain rfl : E = se := hE.out.symm.trans p1
    obtain rfl : v = 0 := hv.out.symm.trans p2
    have hne : (E != 0) = true := by simpa using h0
    clear hse hn hE hv p1 p2 h0
    go_enter Try.func32, Try.ntmps32
    go_wp2_with fail
    refine (rseries_any ao cap l hl c first w hs HSE HN).mono ?_; rintro e w1 ⟨⟨ao', cap', rfl, hF⟩, hg⟩
    have HG := Lib.hid hg
    clear hF hg hs
    go_wp2_with fail
    go_ret2
    exact ⟨rfl, HG.out⟩

end Go.Proofs.Ytdihmcbjoociiaa
