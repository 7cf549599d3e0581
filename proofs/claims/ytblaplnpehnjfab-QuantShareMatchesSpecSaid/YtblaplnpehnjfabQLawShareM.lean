/- For all totals and weights, Share returns what the reference returns. -/
import Derived.Test.YtblaplnpehnjfabQRefShare
import Derived.Test.YtblaplnpehnjfabShelf
namespace Go.Proofs.Ytblaplnpehnjfab
open Go.RowKit

theorem known_of {t : Int} {ws : List Int} {f : Nat → Nat} (h : shareE t ws = 0) (ho : Ord (keyOf t ws.sum ws) ws.length f) : Known t ws.sum ws f :=
  have q := shares_of h ho
  ⟨q.t0, q.t1, q.n0, q.n1, q.s0, q.s1, rfl, q.good, ho⟩

set_option maxRecDepth 100000 in
set_option maxHeartbeats 3200000 in
theorem rshare_any (t : Int) (ao : Option Addr) (cap : Nat) (ws : List Int) (hcl : (ws.length : Int) ≤ 9223372036854775807) (f : Nat → Nat) (hf : Hid (shareE t ws = 0 → Ord (keyOf t ws.sum ws) ws.length f)) (w : World) (hw : IntsAt w ao ws) :
    Calls Try.prog 13 #[.int .i64 t, .slice ao ws.length cap] w fun e w' => ((shareE t ws ≠ 0 ∧ e = .returned (.tuple #[.slice none 0 0, .int .i64 (shareE t ws)])) ∨ (shareE t ws = 0 ∧ ∃ g, e = .returned (.tuple #[.slice (some ⟨g, 0, none⟩) ws.length ws.length, .int .i64 0]) ∧ RowAt w' g ws.length (nth (bumped (partsL t ws.sum ws) f (leftAt t ws.sum ws ws.length).toNat)))) ∧ w.grownBy w' none := by
  have HW := Lib.hid hw; clear hw
  by_cases c1 : t < 0 ∨ 1000000000000 < t
  · have hv : shareE t ws = 9 := by unfold shareE; rw [if_pos c1]
    have HV := Lib.hid hv; have C1 := Lib.hid c1; clear hv c1
    go_enter Try.func13, Try.ntmps13
    go_wp2_with (go_at_call 29; refine (outside_yes _ _ _ C1.out _).mono ?_; rintro e w1 ⟨rfl, rfl⟩)
    go_ret2
    exact ⟨.inl ⟨by rw [HV.out]; decide, by rw [HV.out]; rfl⟩, grown_refl _ _⟩
  have t0 : 0 ≤ t := by omega
  have t1 : t ≤ 1000000000000 := by omega
  by_cases c3 : (1000 : Int) < (ws.length : Int)
  · have hv : shareE t ws = 3 := by unfold shareE; rw [if_neg c1, if_pos (by omega)]
    have HV := Lib.hid hv; clear hv c1
    go_enter Try.func13, Try.ntmps13
    go_wp2_with (go_at_call 29; refine (outside_no _ _ _ t0 t1 _).mono ?_; rintro e w1 ⟨rfl, rfl⟩)
    go_ret2
    exact ⟨.inl ⟨by rw [HV.out]; decide, by rw [HV.out]; rfl⟩, grown_refl _ _⟩
  have hn : ws.length ≤ 1000 := by omega
  have hv0 : shareE t ws = if goodB ws = false then 9 else if ws.sum = 0 then 13 else 0 := by unfold shareE; rw [if_neg c1, if_neg (by omega)]
  have HV0 := Lib.hid hv0; clear hv0 c1
  go_enter Try.func13, Try.ntmps13
  go_wp2_with (go_at_call 29; refine (outside_no _ _ _ t0 t1 _).mono ?_; rintro e w1 ⟨rfl, rfl⟩)
  go_loopw [6, 16] (fun sv iv wr => ∃ j : Nat, j ≤ ws.length ∧ iv = .int .i64 j ∧ sv = .int .i64 (ws.take j).sum ∧ w = wr ∧ Hid (∀ i, i < j → 0 ≤ nth ws i ∧ nth ws i ≤ 1000000)) (fun _ iv _ => ws.length - (intOf iv).toNat)
  case atStart => exact ⟨0, Nat.zero_le _, rfl, by simp, rfl, fun i hi => by omega⟩
  case round =>
    obtain ⟨j, hj, rfl, rfl, rfl, hok⟩ := hrel
    by_cases hlt : j < ws.length
    · obtain ⟨b, off, rfl, hcells⟩ := HW.out.some (by omega)
      have hc := hcells j hlt
      have hsb := sum_take_bd (ws.take j) j 1000000 (by omega) (fun i hi => by rw [List.length_take] at hi; rw [nth_take (by omega)]; exact hok.out i (by omega))
      rw [List.take_take, Nat.min_self] at hsb
      have hss := sum_take_succ ws j hlt
      obtain ⟨S, hS⟩ : ∃ S, (ws.take j).sum = S := ⟨_, rfl⟩
      obtain ⟨x, hx⟩ : ∃ x, nth ws j = x := ⟨_, rfl⟩
      rw [hx] at hc hss
      rw [hS] at hsb hss
      rw [hS]
      have hjn : (j : Int) ≤ 1000 := by omega
      have HX := Lib.hid hx; have HSS := Lib.hid hss; clear hx hss hcells hS
      by_cases d1 : x < 0 ∨ 1000000 < x
      · have hv : goodB ws = false := goodB_false hlt (by rw [HX.out]; exact d1)
        have HV := Lib.hid hv; have D1 := Lib.hid d1; clear hv d1
        go_wp2_with (go_at_call 29; refine (outside_yes _ _ _ D1.out _).mono ?_; rintro e w1 ⟨rfl, rfl⟩)
        go_ret2
        exact ⟨.inl ⟨by rw [HV0.out, if_pos HV.out]; decide, by rw [HV0.out, if_pos HV.out]; rfl⟩, grown_refl _ _⟩
      · have x0 : 0 ≤ x := by omega
        have x1 : x ≤ 1000000 := by omega
        clear d1
        go_wp2_with (go_at_call 29; refine (outside_no _ _ _ x0 x1 _).mono ?_; rintro e w1 ⟨rfl, rfl⟩)
        refine ⟨⟨j + 1, by omega, by go_num, by rw [HSS.out], by first | rfl | trivial, fun i hi => ?_⟩, by simp [intOf]; omega⟩
        by_cases e : i = j
        · rw [e, HX.out]; omega
        · exact hok.out i (by omega)
    · have hjn : j = ws.length := by omega
      subst hjn
      have hgood : goodB ws = true := goodB_all hok.out
      rw [List.take_length]
      have hsum := sum_bd ws 1000000 hok.out
      obtain ⟨s, hs⟩ : ∃ s, ws.sum = s := ⟨_, rfl⟩
      rw [hs] at hsum
      rw [hs]
      have HS := Lib.hid hs; have HG := Lib.hid hgood; clear hs hgood
      by_cases hz : s = 0
      · have hv : shareE t ws = 13 := by rw [HV0.out, if_neg (by rw [HG.out]; simp), if_pos (by rw [HS.out]; exact hz)]
        have HV := Lib.hid hv; clear hv
        have hz1 : (s == 0) = true := by simpa using hz
        go_wp2_with fail
        go_ret2
        exact ⟨.inl ⟨by rw [HV.out]; decide, by rw [HV.out]; rfl⟩, grown_refl _ _⟩
      · have hv : shareE t ws = 0 := by rw [HV0.out, if_neg (by rw [HG.out]; simp), if_neg (by rw [HS.out]; exact hz)]
        have hK := known_of hv (hf.out hv)
        rw [HS.out] at hK
        have HV := Lib.hid hv; have HK := Lib.hid hK; clear hv hK
        have hz1 : (s == 0) = false := by simpa using hz
        obtain ⟨b, off, rfl, hcells⟩ := HW.out.some HK.out.n0
        have HC := Lib.hid hcells; clear hcells
        go_wp2_with fail
        refine (parts_walk t s b off cap ws f HK _ HC).mono ?_
        rintro e w1 ⟨⟨g, rfl, hrow⟩, hg1⟩
        go_wp2_with fail
        go_ret2
        exact ⟨.inr ⟨HV.out, g, rfl, by rw [HS.out]; exact hrow⟩, hg1⟩


set_option maxRecDepth 100000 in
set_option maxHeartbeats 3200000 in
theorem share_walk (t : Int) (ao : Option Addr) (cap : Nat) (ws : List Int) (hcl : (ws.length : Int) ≤ 9223372036854775807) (w : World) (hw : IntsAt w ao ws) :
    Calls Try.prog 4 #[.int .i64 t, .slice ao ws.length cap] w fun e w' => e = .returned (.bool true) ∧ w.grownBy w' none := by
  have HW := Lib.hid hw; clear hw
  go_enter Try.func4, Try.ntmps4
  go_wp2_with fail
  refine (share_any t ao cap ws hcl w HW.out).mono ?_
  rintro e w1 ⟨ho, hg1⟩
  rcases ho with ⟨hne, rfl⟩ | ⟨hz, g, f, rfl, hgs, hord, hrow⟩
  · have hf : Hid (shareE t ws = 0 → Ord (keyOf t ws.sum ws) ws.length (fun k => k)) := fun h => absurd h hne
    go_wp2_with fail
    refine (rshare_any t ao cap ws hcl _ hf w1 (HW.out.grown hg1)).mono ?_
    rintro e w2 ⟨ho, hg2⟩
    rcases ho with ⟨_, rfl⟩ | ⟨hz, _⟩
    · obtain ⟨E, hE⟩ : ∃ E, shareE t ws = E := ⟨_, rfl⟩
      rw [hE] at hne ⊢
      clear hE hf
      go_wp2_with (first | (go_at_call 14; refine (Try.slices_Equal_int_empty none none 0 0 0 _ (by omega)).mono ?_; rintro e w3 ⟨rfl, rfl⟩) | (go_at_call 15; refine (told_any _).mono ?_; rintro _ w4 ⟨rfl, hg4⟩))
      go_ret
      exact ⟨rfl, grown_trans (grown_trans hg1 hg2) (by assumption)⟩
    · exact absurd hz hne
  · have hS := shares_of hz hord
    obtain ⟨L, hL⟩ : ∃ L, bumped (partsL t ws.sum ws) f (leftAt t ws.sum ws ws.length).toNat = L := ⟨_, rfl⟩
    have hf : Hid (shareE t ws = 0 → Ord (keyOf t ws.sum ws) ws.length f) := fun _ => hord
    have hlen := hS.len
    rw [hL] at hrow hlen
    have HL := Lib.hid hL; have HZ := Lib.hid hz; clear hL hord hz hS
    go_wp2_with fail
    refine (rshare_any t ao cap ws hcl _ hf w1 (HW.out.grown hg1)).mono ?_
    rintro e w2 ⟨ho, hg2⟩
    rcases ho with ⟨hne, _⟩ | ⟨_, g2, rfl, hrow2⟩
    · exact absurd HZ.out hne
    · rw [HL.out] at hrow2
      have hrow1 := hrow.grown hg2
      have hc1 : ∀ j, j < L.length → w2.cell? ⟨g, 0 + j, none⟩ = some (.int .i64 (L.getD j 0)) := fun j hj => by
        rw [Nat.zero_add, hrow1.cell (by rw [← hlen]; exact hj)]; simp [nth]
      have hc2 : ∀ j, j < L.length → w2.cell? ⟨g2, 0 + j, none⟩ = some (.int .i64 (L.getD j 0)) := fun j hj => by
        rw [Nat.zero_add, hrow2.cell (by rw [← hlen]; exact hj)]; simp [nth]
      have hq := Try.slices_Equal_int g 0 ws.length ws.length g2 0 ws.length ws.length L L w2 (by omega) (by omega) (by omega) (by omega) hc1 hc2
      rw [beq_self_eq_true] at hq
      have HQ := Lib.hid hq; clear hq hc1 hc2 hrow hrow1 hrow2
      go_wp2_with (first | (go_at_call 14; refine (HQ.out).mono ?_; rintro e w3 ⟨rfl, q, rfl⟩) | (go_at_call 15; refine (told_any _).mono ?_; rintro _ w4 ⟨rfl, hg4⟩))
      go_ret
      exact ⟨rfl, grown_trans (grown_trans (grown_trans hg1 hg2) (grown_drewN _ _ _)) (by assumption)⟩
end Go.Proofs.Ytblaplnpehnjfab
