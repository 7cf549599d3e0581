/- For all races and numbers, CheckRaces, Predict and Reach return what the reference returns; a longer way is slower: the walks. -/
import Derived.Test.YtdihmcbjoociiaaFRReach
import Derived.Test.YtdihmcbjoociiaaFTold
namespace Go.Proofs.Ytdihmcbjoociiaa
open Go.RowKit

theorem reach_both (l : List RaceV) (hl : (l.length : Int) ≤ 9223372036854775807) (q s : Int) : ∃ V R : Int,
    (∀ (ao : Option Addr) (cap : Nat) (w : World), PairsAt w ao l → Calls Try.prog 47 #[.slice ao l.length cap, .int .i64 q, .int .i64 s] w fun e w' => e = .returned (.tuple #[.int .i64 V, .int .i64 R]) ∧ w.grownBy w' none) ∧
    (∀ (ao : Option Addr) (cap : Nat) (w : World), PairsAt w ao l → Calls Try.prog 48 #[.slice ao l.length cap, .int .i64 q, .int .i64 s] w fun e w' => e = .returned (.tuple #[.int .i64 V, .int .i64 R]) ∧ w.grownBy w' none) ∧
    (R = 0 → RacesOk l ∧ (0 ≤ s ∧ s ≤ 200) ∧ (1 ≤ V ∧ V ≤ 10000000) ∧ predR s V ⟨0, 0⟩ l ≤ q ∧ ∀ b, V < b → b ≤ 10000000 → q < predR s b ⟨0, 0⟩ l) := by
  by_cases h : reachE0 l q s = 0
  · have hr : racesE l = 0 := by
      unfold reachE0 at h
      split at h
      · assumption
      · omega
    have hh : (1 ≤ q ∧ q ≤ 1000000000) ∧ 0 ≤ s ∧ s ≤ 200 := by
      unfold reachE0 at h
      rw [if_pos hr] at h
      split at h
      · assumption
      · omega
    have hok := races_ok hr
    obtain ⟨m, hm⟩ := turns_some (p := slow l s q) (fun a b hab ha => slow_up hok hh.2 hab ha) 10000000
    have hml := hm.1
    refine ⟨reachV m, reachR m, fun ao cap w hs => reach_ok ao cap l hl q s h hm w hs, fun ao cap w hs => rreach_ok ao cap l hl q s h hm w hs, fun hR => ?_⟩
    have hm0 : m ≠ 0 := fun e => by
      unfold reachR at hR; rw [if_pos e] at hR; omega
    refine ⟨hok, hh.2, ⟨by unfold reachV; omega, by unfold reachV; omega⟩, ?_, fun b hb hb2 => ?_⟩
    · have := hm.2.1 (m - 1) (by omega)
      unfold slow at this
      rw [show ((m - 1 : Nat) : Int) + 1 = (m : Int) by omega] at this
      simp only [decide_eq_false_iff_not] at this
      show predR s (m : Int) ⟨0, 0⟩ l ≤ q
      omega
    · have hbm : (m : Int) < b := hb
      have := hm.2.2 (b - 1).toNat (by omega) (by omega)
      unfold slow at this
      rw [show (((b - 1).toNat : Nat) : Int) + 1 = b by omega] at this
      simpa using this
  · exact ⟨0, reachE0 l q s, fun ao cap w hs => reach_no ao cap l hl q s rfl h w hs, fun ao cap w hs => rreach_no ao cap l hl q s rfl h w hs, fun hR => absurd hR h⟩

set_option maxRecDepth 100000 in
set_option maxHeartbeats 1600000 in
theorem pred_law (ao : Option Addr) (cap : Nat) (l : List RaceV) (hl : (l.length : Int) ≤ 9223372036854775807) (way q s : Int) (w : World) (hs : PairsAt w ao l) (_ : l.length ≤ cap) :
    Calls Try.prog 9 #[.slice ao l.length cap, .int .i64 way, .int .i64 q, .int .i64 s] w fun e w' => e = .returned (.bool true) ∧ w.grownBy w' none := by
  obtain ⟨E, hE⟩ : ∃ e, predE l way s = e := ⟨_, rfl⟩
  obtain ⟨v, hv⟩ : ∃ e, predV l way s = e := ⟨_, rfl⟩
  obtain ⟨re, hre⟩ : ∃ e, racesE l = e := ⟨_, rfl⟩
  obtain ⟨V, R, hR1, hR2, _⟩ := reach_both l hl q s
  have HE := Lib.hid hE; have HV := Lib.hid hv; have HRE := Lib.hid hre; have HR1 := Lib.hid hR1; have HR2 := Lib.hid hR2; have HS := Lib.hid hs
  clear hE hv hre hR1 hR2 hs
  go_enter Try.func9, Try.ntmps9
  go_wp2_with fail
  refine (Predict_any ao cap l hl way s w HS.out HE HV).mono ?_; rintro e w1 ⟨rfl, hg⟩
  have K := Lib.hid hg
  clear hg
  go_wp2_with fail
  refine (RPredict_any ao cap l hl way s w1 (HS.out.grown K.out) HE HV).mono ?_; rintro e w2 ⟨rfl, hg⟩
  replace K := Lib.hid (grown_trans K.out hg)
  clear hg
  go_wp2_with fail
  refine (HR1.out ao cap w2 (HS.out.grown K.out)).mono ?_; rintro e w3 ⟨rfl, hg⟩
  replace K := Lib.hid (grown_trans K.out hg)
  clear hg
  go_wp2_with fail
  refine (HR2.out ao cap w3 (HS.out.grown K.out)).mono ?_; rintro e w4 ⟨rfl, hg⟩
  replace K := Lib.hid (grown_trans K.out hg)
  clear hg
  go_wp2_with fail
  refine (checkRaces_any ao cap l hl w4 (HS.out.grown K.out) HRE).mono ?_; rintro e w5 ⟨rfl, hg⟩
  replace K := Lib.hid (grown_trans K.out hg)
  clear hg
  go_wp2_with fail
  refine (rcheckRaces_any ao cap l hl w5 (HS.out.grown K.out) HRE).mono ?_; rintro e w6 ⟨rfl, hg⟩
  replace K := Lib.hid (grown_trans K.out hg)
  clear hg
  go_wp2_with fail
  refine (ftold_any _).mono ?_; rintro e w7 ⟨rfl, hg⟩
  replace K := Lib.hid (grown_trans K.out hg)
  clear hg
  go_wp2_with fail
  go_ret
  exact ⟨by first | rfl | simp, K.out⟩

theorem predE_zero {l : List RaceV} {way s : Int} (h : predE l way s = 0) : racesE l = 0 ∧ (1 ≤ way ∧ way ≤ 10000000) ∧ 0 ≤ s ∧ s ≤ 200 := by
  unfold predE at h
  split at h
  · rename_i hr
    split at h
    · rename_i hh; exact ⟨hr, hh.1, hh.2⟩
    · omega
  · rename_i hr; exact absurd h hr

set_option maxRecDepth 100000 in
set_option maxHeartbeats 1600000 in
theorem longer_law (ao : Option Addr) (cap : Nat) (l : List RaceV) (hl : (l.length : Int) ≤ 9223372036854775807) (a b q s : Int) (w : World) (hs : PairsAt w ao l) (_ : l.length ≤ cap) :
    Calls Try.prog 10 #[.slice ao l.length cap, .int .i64 a, .int .i64 b, .int .i64 q, .int .i64 s] w fun e w' => e = .returned (.bool true) ∧ w.grownBy w' none := by
  obtain ⟨E, hE⟩ : ∃ e, predE l a s = e := ⟨_, rfl⟩
  obtain ⟨x, hx⟩ : ∃ e, predV l a s = e := ⟨_, rfl⟩
  obtain ⟨F, hF⟩ : ∃ e, predE l b s = e := ⟨_, rfl⟩
  obtain ⟨y, hy⟩ : ∃ e, predV l b s = e := ⟨_, rfl⟩
  obtain ⟨V, R, hR1, hR2, hR3⟩ := reach_both l hl q s
  have HE := Lib.hid hE; have HX := Lib.hid hx; have HF := Lib.hid hF; have HY := Lib.hid hy; have HR1 := Lib.hid hR1; have HR2 := Lib.hid hR2; have HS := Lib.hid hs
  clear hR1 hR2 hs
  by_cases h0 : E = 0 ∧ F = 0
  · obtain ⟨rfl, rfl⟩ := h0
    obtain ⟨hr, ha, hsl⟩ := predE_zero hE
    obtain ⟨_, hb, _⟩ := predE_zero hF
    have hxx : predR s a ⟨0, 0⟩ l = x := by rw [← hx]; exact (predE_ok hr ⟨ha, hsl⟩).2.symm
    have hyy : predR s b ⟨0, 0⟩ l = y := by rw [← hy]; exact (predE_ok hr ⟨hb, hsl⟩).2.symm
    have hxy : a ≤ b → x ≤ y := fun h => by
      have := pred_up (races_ok hr) hsl h
      rw [hxx, hyy] at this; exact this
    have hnot : ¬ (a ≤ b ∧ y < x) := fun h => by have := hxy h.1; omega
    by_cases hR0 : R = 0
    · subst hR0
      obtain ⟨_, _, hV, hVq, hVb⟩ := hR3 rfl
      obtain ⟨p1, p2⟩ := predE_ok hr ⟨hV, hsl⟩
      obtain ⟨n, hn⟩ : ∃ n, predR s V ⟨0, 0⟩ l = n := ⟨_, rfl⟩
      rw [hn] at p2 hVq
      have HP1 := Lib.hid p1; have HP2 := Lib.hid p2
      have hbq : V < b → q < y := fun h => by
        have := hVb b h hb.2
        rw [hyy] at this; exact this
      clear hE hx hF hy hR3 hr ha hsl hb hxx hyy hV hVb p1 p2 hn
      go_enter Try.func10, Try.ntmps10
      go_wp2_with fail
      refine (Predict_any ao cap l hl a s w HS.out HE HX).mono ?_; rintro e w1 ⟨rfl, hg⟩
      have K := Lib.hid hg
      clear hg
      go_wp2_with fail
      refine (Predict_any ao cap l hl b s w1 (HS.out.grown K.out) HF HY).mono ?_; rintro e w2 ⟨rfl, hg⟩
      replace K := Lib.hid (grown_trans K.out hg)
      clear hg
      by_cases hab : a ≤ b
      · have hxy2 := hxy hab
        clear hxy hnot
        go_wp2_with fail
        refine (HR1.out ao cap w2 (HS.out.grown K.out)).mono ?_; rintro e w3 ⟨rfl, hg⟩
        replace K := Lib.hid (grown_trans K.out hg)
        clear hg
        go_wp2_with fail
        refine (Predict_any ao cap l hl V s w3 (HS.out.grown K.out) HP1 HP2).mono ?_; rintro e w4 ⟨rfl, hg⟩
        replace K := Lib.hid (grown_trans K.out hg)
        clear hg
        by_cases hbv : b ≤ V
        · clear hbq
          go_wp2_with fail
          refine (ftold_any _).mono ?_; rintro e w7 ⟨rfl, hg⟩
          replace K := Lib.hid (grown_trans K.out hg)
          clear hg
          go_wp2_with fail
          go_ret
          exact ⟨by first | rfl | simp, K.out⟩
        · have hqy := hbq (by omega)
          clear hbq
          go_wp2_with fail
          refine (ftold_any _).mono ?_; rintro e w7 ⟨rfl, hg⟩
          replace K := Lib.hid (grown_trans K.out hg)
          clear hg
          go_wp2_with fail
          go_ret
          exact ⟨by first | rfl | simp, K.out⟩
      · clear hxy hnot
        go_wp2_with fail
        refine (HR1.out ao cap w2 (HS.out.grown K.out)).mono ?_; rintro e w3 ⟨rfl, hg⟩
        replace K := Lib.hid (grown_trans K.out hg)
        clear hg
        go_wp2_with fail
        refine (Predict_any ao cap l hl V s w3 (HS.out.grown K.out) HP1 HP2).mono ?_; rintro e w4 ⟨rfl, hg⟩
        replace K := Lib.hid (grown_trans K.out hg)
        clear hg
        by_cases hbv : b ≤ V
        · clear hbq
          go_wp2_with fail
          refine (ftold_any _).mono ?_; rintro e w7 ⟨rfl, hg⟩
          replace K := Lib.hid (grown_trans K.out hg)
          clear hg
          go_wp2_with fail
          go_ret
          exact ⟨by first | rfl | simp, K.out⟩
        · have hqy := hbq (by omega)
          clear hbq
          go_wp2_with fail
          refine (ftold_any _).mono ?_; rintro e w7 ⟨rfl, hg⟩
          replace K := Lib.hid (grown_trans K.out hg)
          clear hg
          go_wp2_with fail
          go_ret
          exact ⟨by first | rfl | simp, K.out⟩
    · have hne : (R != 0) = true := by simpa using hR0
      clear hE hx hF hy hR3 hr ha hsl hb hxx hyy hR0
      go_enter Try.func10, Try.ntmps10
      go_wp2_with fail
      refine (Predict_any ao cap l hl a s w HS.out HE HX).mono ?_; rintro e w1 ⟨rfl, hg⟩
      have K := Lib.hid hg
      clear hg
      go_wp2_with fail
      refine (Predict_any ao cap l hl b s w1 (HS.out.grown K.out) HF HY).mono ?_; rintro e w2 ⟨rfl, hg⟩
      replace K := Lib.hid (grown_trans K.out hg)
      clear hg
      by_cases hab : a ≤ b
      · have hxy2 := hxy hab
        clear hxy hnot
        go_wp2_with fail
        refine (HR1.out ao cap w2 (HS.out.grown K.out)).mono ?_; rintro e w3 ⟨rfl, hg⟩
        replace K := Lib.hid (grown_trans K.out hg)
        clear hg
        go_wp2_with fail
        refine (HR2.out ao cap w3 (HS.out.grown K.out)).mono ?_; rintro e w4 ⟨rfl, hg⟩
        replace K := Lib.hid (grown_trans K.out hg)
        clear hg
        go_wp2_with fail
        refine (ftold_any _).mono ?_; rintro e w7 ⟨rfl, hg⟩
        replace K := Lib.hid (grown_trans K.out hg)
        clear hg
        go_wp2_with fail
        go_ret
        exact ⟨by first | rfl | simp, K.out⟩
      · clear hxy hnot
        go_wp2_with fail
        refine (HR1.out ao cap w2 (HS.out.grown K.out)).mono ?_; rintro e w3 ⟨rfl, hg⟩
        replace K := Lib.hid (grown_trans K.out hg)
        clear hg
        go_wp2_with fail
        refine (HR2.out ao cap w3 (HS.out.grown K.out)).mono ?_; rintro e w4 ⟨rfl, hg⟩
        replace K := Lib.hid (grown_trans K.out hg)
        clear hg
        go_wp2_with fail
        refine (ftold_any _).mono ?_; rintro e w7 ⟨rfl, hg⟩
        replace K := Lib.hid (grown_trans K.out hg)
        clear hg
        go_wp2_with fail
        go_ret
        exact ⟨by first | rfl | simp, K.out⟩
  · clear hE hx hF hy hR3 HR1 HR2
    by_cases hE0 : E = 0
    · have hne : (F != 0) = true := by simp; exact fun h => h0 ⟨hE0, h⟩
      subst hE0
      clear h0
      go_enter Try.func10, Try.ntmps10
      go_wp2_with fail
      refine (Predict_any ao cap l hl a s w HS.out HE HX).mono ?_; rintro e w1 ⟨rfl, hg⟩
      have K := Lib.hid hg
      clear hg
      go_wp2_with fail
      refine (Predict_any ao cap l hl b s w1 (HS.out.grown K.out) HF HY).mono ?_; rintro e w2 ⟨rfl, hg⟩
      replace K := Lib.hid (grown_trans K.out hg)
      clear hg
      go_wp2_with fail
      refine (RPredict_any ao cap l hl a s w2 (HS.out.grown K.out) HE HX).mono ?_; rintro e w3 ⟨rfl, hg⟩
      replace K := Lib.hid (grown_trans K.out hg)
      clear hg
      go_wp2_with fail
      refine (ftold_any _).mono ?_; rintro e w7 ⟨rfl, hg⟩
      replace K := Lib.hid (grown_trans K.out hg)
      clear hg
      go_wp2_with fail
      go_ret
      exact ⟨by first | rfl | simp, K.out⟩
    · have hne : (E != 0) = true := by simpa using hE0
      clear h0 hE0
      go_enter Try.func10, Try.ntmps10
      go_wp2_with fail
      refine (Predict_any ao cap l hl a s w HS.out HE HX).mono ?_; rintro e w1 ⟨rfl, hg⟩
      have K := Lib.hid hg
      clear hg
      go_wp2_with fail
      refine (Predict_any ao cap l hl b s w1 (HS.out.grown K.out) HF HY).mono ?_; rintro e w2 ⟨rfl, hg⟩
      replace K := Lib.hid (grown_trans K.out hg)
      clear hg
      go_wp2_with fail
      refine (RPredict_any ao cap l hl a s w2 (HS.out.grown K.out) HE HX).mono ?_; rintro e w3 ⟨rfl, hg⟩
      replace K := Lib.hid (grown_trans K.out hg)
      clear hg
      go_wp2_with fail
      refine (ftold_any _).mono ?_; rintro e w7 ⟨rfl, hg⟩
      replace K := Lib.hid (grown_trans K.out hg)
      clear hg
      go_wp2_with fail
      go_ret
      exact ⟨by first | rfl | simp, K.out⟩

end Go.Proofs.Ytdihmcbjoociiaa
