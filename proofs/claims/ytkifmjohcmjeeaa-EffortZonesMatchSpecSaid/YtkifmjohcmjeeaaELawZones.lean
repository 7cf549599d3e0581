/- For all streams and limits, CheckZones and Zones return what the reference returns, and all seconds are in a zone or missing: the walk. -/
import Derived.Test.YtkifmjohcmjeeaaERZones
import Derived.Test.YtkifmjohcmjeeaaETold
import Derived.Test.YtkifmjohcmjeeaaShelf
namespace Go.Proofs.Ytkifmjohcmjeeaa
open Go.RowKit

set_option maxHeartbeats 800000 in
theorem equal_rows {w : World} {v1 v2 : Value} {n : Nat} {F : Nat → Int} (h1 : RowV w v1 n F) (h2 : RowV w v2 n F) (hn : n ≤ 9223372036854775807) :
    Calls Try.prog 19 #[v1, v2] w fun e w' => e = .returned (.bool true) ∧ w.grownBy w' none := by
  rcases h1 with ⟨rfl, rfl⟩ | ⟨g1, rfl, r1⟩
  · rcases h2 with ⟨_, rfl⟩ | ⟨g2, rfl, r2⟩
    · refine (Try.slices_Equal_int_empty none none 0 0 0 w (by omega)).mono ?_
      rintro e w' ⟨rfl, rfl⟩
      exact ⟨rfl, ⟨rfl, rfl, rfl, Nat.le_refl _, fun _ _ _ => rfl⟩⟩
    · refine (Try.slices_Equal_int_empty none (some ⟨g2, 0, none⟩) 0 0 0 w (by omega)).mono ?_
      rintro e w' ⟨rfl, rfl⟩
      exact ⟨rfl, ⟨rfl, rfl, rfl, Nat.le_refl _, fun _ _ _ => rfl⟩⟩
  · rcases h2 with ⟨rfl, rfl⟩ | ⟨g2, rfl, r2⟩
    · refine (Try.slices_Equal_int_empty (some ⟨g1, 0, none⟩) none 0 0 0 w (by omega)).mono ?_
      rintro e w' ⟨rfl, rfl⟩
      exact ⟨rfl, ⟨rfl, rfl, rfl, Nat.le_refl _, fun _ _ _ => rfl⟩⟩
    · have hlen : ((List.range n).map F).length = n := by simp
      refine (Try.slices_Equal_int g1 0 n n g2 0 n n ((List.range n).map F) ((List.range n).map F) w (by omega) (by omega) hn hn (fun j hj => ?_) (fun j hj => ?_)).mono ?_
      · rw [hlen] at hj
        rw [List.getD_eq_getElem?_getD]
        simpa [hj] using r1.cell hj
      · rw [hlen] at hj
        rw [List.getD_eq_getElem?_getD]
        simpa [hj] using r2.cell hj
      · rintro e w' ⟨rfl, q, rfl⟩
        exact ⟨by simp, grown_drewN _ _ _⟩

/-- What the law's sum comes to. -/
theorem zones_total {l zs : List Int} {n : Nat} {F : Nat → Int} {u : Int} (h : zonesOut l zs = (n, F, u, 0)) : sumF F n + u = l.length ∧ n ≤ 21 ∧ (∀ j, j ≤ n → 0 ≤ sumF F j + u ∧ sumF F j + u ≤ 1000000) ∧ (∀ j, 0 ≤ F j ∧ F j ≤ 1000000) := by
  unfold zonesOut at h
  split at h
  · rename_i hs
    split at h
    · rename_i hz
      simp only [Prod.mk.injEq] at h
      obtain ⟨rfl, rfl, rfl, _⟩ := h
      have hl := (stream_ok hs).1
      have hzl := zones_len hz
      have hok := zok_all (zs := zs) l 0 .init (zok_init zs)
      rw [Nat.zero_add] at hok
      generalize zonesS zs ZSt.init l = s at *
      have hmono : ∀ j k, j ≤ k → sumF s.F j ≤ sumF s.F k := fun j k hjk => by
        induction hjk with
        | refl => exact Int.le_refl _
        | step _ ih => rw [sumF]; have := hok.pos; rename_i m _; have := this m; omega
      have h0 := hok.sum
      have hu := hok.u0
      refine ⟨h0, by omega, fun j hj => ?_, fun j => ⟨hok.pos j, by have := hok.le j; omega⟩⟩
      have a := hmono j (zs.length + 1) hj
      have b := hmono 0 j (Nat.zero_le _)
      simp only [sumF] at b
      rw [show sumF s.F (zs.length + 1) = sumF s.F zs.length + s.F zs.length from rfl] at h0 a
      omega
    · rename_i hz
      simp only [Prod.mk.injEq] at h
      exact absurd h.2.2.2 hz
  · rename_i hs
    simp only [Prod.mk.injEq] at h
    exact absurd h.2.2.2 hs

set_option maxRecDepth 100000 in
set_option maxHeartbeats 1600000 in
theorem zones_law (ao : Option Addr) (cap : Nat) (l : List Int) (hl : (l.length : Int) ≤ 9223372036854775807) (zo : Option Addr) (zc : Nat) (zs : List Int) (hz : (zs.length : Int) ≤ 9223372036854775807) (w : World) (hs : IntsAt w ao l) (hzs : IntsAt w zo zs) :
    Calls Try.prog 3 #[.slice ao l.length cap, .slice zo zs.length zc] w fun e w' => e = .returned (.bool true) ∧ w.grownBy w' none := by
  obtain ⟨n, F, u, E, hout⟩ : ∃ n F u E, zonesOut l zs = (n, F, u, E) := ⟨_, _, _, _, rfl⟩
  obtain ⟨ze, hze⟩ : ∃ e, zonesE zs = e := ⟨_, rfl⟩
  have HO := Lib.hid hout; have HZE := Lib.hid hze
  have HS := Lib.hid hs; have HZ := Lib.hid hzs
  have hn : n ≤ 9223372036854775807 := by
    by_cases h0 : E = 0
    · subst h0; have := (zones_total hout).2.1; omega
    · unfold zonesOut at hout
      split at hout
      · split at hout
        · simp only [Prod.mk.injEq] at hout; omega
        · simp only [Prod.mk.injEq] at hout; omega
      · simp only [Prod.mk.injEq] at hout; omega
  have HN := Lib.hid hn
  clear hout hze hs hzs hn
  go_enter Try.func3, Try.ntmps3
  go_wp2_with fail
  refine (zones_any ao cap l hl zo zc zs hz w HS.out HZ.out HO).mono ?_; rintro e w1 ⟨⟨v1, rfl, hv1⟩, hg1⟩
  have K := Lib.hid hg1
  have HV1 := Lib.hid hv1
  clear hg1 hv1
  go_wp2_with fail
  refine (rzones_any ao cap l hl zo zc zs hz w1 (HS.out.grown K.out) (HZ.out.grown K.out) HO).mono ?_; rintro e w2 ⟨⟨v2, rfl, hv2⟩, hg2⟩
  have HV2 := Lib.hid hv2
  replace HV1 := Lib.hid (HV1.out.grown hg2)
  replace K := Lib.hid (grown_trans K.out hg2)
  clear hg2 hv2
  go_wp2_with fail
  refine (checkZones_any zo zc zs hz w2 (HZ.out.grown K.out) HZE).mono ?_; rintro e w3 ⟨rfl, rfl⟩
  go_wp2_with fail
  refine (rcheckZones_any zo zc zs hz w2 (HZ.out.grown K.out) HZE).mono ?_; rintro e w3 ⟨rfl, rfl⟩
  go_wp2_with fail
  refine (equal_rows HV1.out HV2.out HN.out).mono ?_; rintro e w3 ⟨rfl, hg3⟩
  replace HV1 := Lib.hid (HV1.out.grown hg3)
  replace K := Lib.hid (grown_trans K.out hg3)
  clear hg3 HV2
  by_cases h0 : E = 0
  · subst h0
    obtain ⟨t0, t1, t2, t3⟩ := zones_total HO.out
    rcases HV1.out with ⟨rfl, rfl⟩ | ⟨g1, rfl, r1⟩
    · exact absurd HO.out (by
        unfold zonesOut
        intro h
        split at h
        · split at h
          · simp only [Prod.mk.injEq] at h; omega
          · rename_i hq; simp only [Prod.mk.injEq] at h; exact hq h.2.2.2
        · rename_i hq; simp only [Prod.mk.injEq] at h; exact hq h.2.2.2)
    · have HR1 := Lib.hid r1; have HT2 := Lib.hid t2; have HT3 := Lib.hid t3; have HT0 := Lib.hid t0
      have hn2 : (n : Int) ≤ 21 := by omega
      clear r1 HV1 t2 t3 t0
      go_wp2_with fail
      go_loopw [6, 50] (fun nv iv wr => ∃ j : Nat, j ≤ n ∧ nv = .int .i64 (sumF F j + u) ∧ iv = .int .i64 j ∧ w3 = wr)
        (fun _ iv _ => n - (intOf iv).toNat)
      case atStart => exact ⟨0, Nat.zero_le _, by simp [sumF], rfl, by first | rfl | trivial⟩
      case round =>
        obtain ⟨j, hj, rfl, rfl, rfl⟩ := hrel
        by_cases hlt : j < n
        · have c0 := HR1.out.cell hlt
          have b0 := HT2.out j hj
          have b1 := HT3.out j
          have b2 := HT2.out (j + 1) hlt
          have e1 : sumF F (j + 1) + u = (sumF F j + u) + F j := by rw [sumF]; omega
          rw [e1] at b2
          have HE1 := Lib.hid e1
          clear e1
          generalize sumF F j + u = y at *
          generalize F j = x at *
          go_wp2_with fail
          go_roundw
          case rel => exact ⟨j + 1, hlt, by rw [HE1.out], by go_num, by first | rfl | trivial⟩
          case measure => simp [intOf]; omega
        · have hjn : j = n := by omega
          subst hjn
          rw [HT0.out]
          go_wp2_with fail
          refine (etold_any _).mono ?_; rintro e w4 ⟨rfl, hg4⟩
          replace K := Lib.hid (grown_trans K.out hg4)
          clear hg4
          go_wp2_with fail
          go_ret
          exact ⟨by first | rfl | simp, K.out⟩
  · have hn0 : n = 0 := by
      have h := HO.out
      unfold zonesOut at h
      split at h
      · split at h
        · simp only [Prod.mk.injEq] at h; exact absurd h.2.2.2.symm h0
        · simp only [Prod.mk.injEq] at h; exact h.1.symm
      · simp only [Prod.mk.injEq] at h; exact h.1.symm
    subst hn0
    have hne : (E != 0) = true := by simpa using h0
    obtain ⟨so, sc, rfl⟩ : ∃ so sc, v1 = .slice so 0 sc := by
      rcases HV1.out with ⟨_, rfl⟩ | ⟨g1, rfl, _⟩
      · exact ⟨_, _, rfl⟩
      · exact ⟨_, _, rfl⟩
    clear HV1 h0
    go_wp2_with fail
    go_loopw [6, 50] (fun nv iv wr => nv = .int .i64 u ∧ iv = .int .i64 0 ∧ w3 = wr) (fun _ _ _ => 0)
    case atStart => exact ⟨rfl, rfl, by first | rfl | trivial⟩
    case round =>
      obtain ⟨rfl, rfl, rfl⟩ := hrel
      go_wp2_with fail
      refine (etold_any _).mono ?_; rintro e w4 ⟨rfl, hg4⟩
      replace K := Lib.hid (grown_trans K.out hg4)
      clear hg4
      go_wp2_with fail
      go_ret
      exact ⟨by first | rfl | simp, K.out⟩

end Go.Proofs.Ytkifmjohcmjeeaa
