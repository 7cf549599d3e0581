/- The load of a stream by its zones: purely, and the contracts of Pulse. -/
import Derived.Test.YtdihmcbjoociiaaFLim
namespace Go.Proofs.Ytdihmcbjoociiaa
open Go.RowKit

/-- What is so of the counts of zones. -/
theorem fzones_total {l zs : List Int} {n : Nat} {F : Nat → Int} {u : Int} (h : zonesOut l zs = (n, F, u, 0)) : n ≤ 21 ∧ ∀ j, 0 ≤ F j ∧ F j ≤ 1000000 := by
  unfold zonesOut at h
  split at h
  · rename_i hs
    split at h
    · rename_i hz
      simp only [Prod.mk.injEq] at h
      obtain ⟨rfl, rfl, rfl, _⟩ := h
      have hl := (stream_ok hs).1
      have hzl := zones_len hz
      have hok := zok_all (zs := zs) l 0 .init (zok_init zs)
      rw [Nat.zero_add] at hok
      exact ⟨by omega, fun j => ⟨hok.pos j, by have := hok.le j; omega⟩⟩
    · rename_i hz
      simp only [Prod.mk.injEq] at h
      exact absurd h.2.2.2 hz
  · rename_i hs
    simp only [Prod.mk.injEq] at h
    exact absurd h.2.2.2 hs
theorem fzones_not {l zs : List Int} {n : Nat} {F : Nat → Int} {u E : Int} (h : zonesOut l zs = (n, F, u, E)) (hE : E ≠ 0) : n = 0 := by
  unfold zonesOut at h
  split at h
  · split at h
    · simp only [Prod.mk.injEq] at h; exact absurd h.2.2.2.symm hE
    · simp only [Prod.mk.injEq] at h; exact h.1.symm
  · simp only [Prod.mk.injEq] at h; exact h.1.symm

def psN (F : Nat → Int) (ws : List Int) : Nat → Int
  | 0 => 0
  | k + 1 => psN F ws k + F k * nthI ws k
def pulE (n : Nat) (E : Int) (ws : List Int) : Int := if E = 0 then (if ws.length = n then eachE 0 1000 ws else 2) else E
def pulV (n : Nat) (F : Nat → Int) (E : Int) (ws : List Int) : Int := if pulE n E ws = 0 then psN F ws n / 60 else 0
theorem psN_bd {F : Nat → Int} {ws : List Int} (hF : ∀ j, 0 ≤ F j ∧ F j ≤ 1000000) : ∀ k, (∀ j, j < k → 0 ≤ nthI ws j ∧ nthI ws j ≤ 1000) → 0 ≤ psN F ws k ∧ psN F ws k ≤ 1000000000 * k
  | 0, _ => ⟨Int.le_refl _, by simp [psN]⟩
  | k + 1, h => by
    obtain ⟨a, b⟩ := psN_bd hF k fun j hj => h j (by omega)
    obtain ⟨c, d⟩ := prod_bd (hF k).1 (hF k).2 (h k (by omega)).1 (h k (by omega)).2
    rw [psN]
    omega

set_option maxRecDepth 100000 in
set_option maxHeartbeats 3200000 in
theorem pulse_any (ao : Option Addr) (cap : Nat) (l : List Int) (hl : (l.length : Int) ≤ 9223372036854775807) (zo : Option Addr) (zc : Nat) (zs : List Int) (hz : (zs.length : Int) ≤ 9223372036854775807) (wo : Option Addr) (wc : Nat) (ws : List Int) (hwl : (ws.length : Int) ≤ 9223372036854775807) (w : World) (hs : IntsAt w ao l) (hzs : IntsAt w zo zs) (hws : IntsAt w wo ws)
    {n : Nat} {F : Nat → Int} {u E : Int} (hO : Hid (zonesOut l zs = (n, F, u, E))) {v D : Int} (hD : Hid (pulE n E ws = D)) (hv : Hid (pulV n F E ws = v)) :
    Calls Try.prog 27 #[.slice ao l.length cap, .slice zo zs.length zc, .slice wo ws.length wc] w fun e w' => e = .returned (.tuple #[.int .i64 v, .int .i64 D]) ∧ w.grownBy w' none := by
  have HS := Lib.hid hs; have HZ := Lib.hid hzs; have HW := Lib.hid hws
  have p := hD.out
  have q := hv.out
  unfold pulV at q
  rw [p] at q
  unfold pulE at p
  clear hs hzs hws hD hv
  by_cases h0 : E = 0
  · rw [if_pos h0] at p
    subst h0
    obtain ⟨hn21, hF⟩ := fzones_total hO.out
    have HF := Lib.hid hF
    clear hF
    by_cases h1 : ws.length = n
    · rw [if_pos h1] at p
      subst h1
      have HP : Hid (eachE 0 1000 (ws.drop 0) = D) := p
      have HQ := Lib.hid q
      clear p q
      go_enter Try.func27, Try.ntmps27
      go_wp2_with fail
      refine (zones_any ao cap l hl zo zc zs hz w HS.out HZ.out hO).mono ?_; rintro e w1 ⟨⟨z1, rfl, hr⟩, hg1⟩
      have HG1 := Lib.hid hg1; have HW1 : Hid (IntsAt w1 wo ws) := HW.out.grown hg1
      have hrow : ∃ zo1 zc1, z1 = .slice zo1 ws.length zc1 ∧ FInts w1 zo1 ws.length F := by
        rcases hr with ⟨hz0, rfl⟩ | ⟨g, rfl, r⟩
        · exact ⟨none, 0, by rw [hz0], by rw [hz0]; exact FInts.none _ _ _⟩
        · exact ⟨_, _, rfl, FInts.of_row r fun _ _ => rfl⟩
      obtain ⟨zo1, zc1, rfl, hfi⟩ := hrow
      have HFI := Lib.hid hfi
      clear hg1 hr hfi
      go_wp2_with fail
      go_loopw [11, 31] (fun sv iv wr => ∃ k : Nat, k ≤ ws.length ∧ sv = .int .i64 (psN F ws k) ∧ iv = .int .i64 k ∧ w1 = wr ∧ Hid (eachE 0 1000 (ws.drop k) = D) ∧ Hid (∀ j, j < k → 0 ≤ nthI ws j ∧ nthI ws j ≤ 1000))
        (fun _ iv _ => ws.length - (intOf iv).toNat)
      case atStart => exact ⟨0, Nat.zero_le _, rfl, rfl, by first | rfl | trivial, HP.out, fun j hj => absurd hj (Nat.not_lt_zero _)⟩
      case round =>
        obtain ⟨k, hk, rfl, rfl, rfl, hw, hok⟩ := hrel
        by_cases hlt : k < ws.length
        · obtain ⟨b, off, rfl, hc⟩ := HW1.out.at (by omega)
          have c0 := hc k hlt
          obtain ⟨g, rfl, hcz⟩ := HFI.out.at (by omega)
          have c1 := hcz k hlt
          have HE : Hid (_ = D) := Lib.hid ((eachE_at (lo := 0) (hi := 1000) hlt).symm.trans hw.out)
          obtain ⟨b0, b1⟩ := psN_bd HF.out k hok.out
          have hfk := HF.out k
          have HNX : Hid (psN F ws (k + 1) = psN F ws k + F k * nthI ws k) := rfl
          clear hc hcz hw
          by_cases a1 : 0 ≤ nthI ws k ∧ nthI ws k ≤ 1000
          · have HE2 : Hid (eachE 0 1000 (ws.drop (k + 1)) = D) := by show _ = _; rw [← HE.out, if_pos a1]
            have HOK2 : Hid (∀ j, j < k + 1 → 0 ≤ nthI ws j ∧ nthI ws j ≤ 1000) := fun j hj => by
              rcases Nat.lt_or_ge j k with z | z
              · exact hok.out j z
              · obtain rfl : j = k := by omega
                exact a1
            have HX := Lib.hid a1
            obtain ⟨p0, p1⟩ := prod_bd hfk.1 hfk.2 a1.1 a1.2
            obtain ⟨X, hX⟩ : ∃ X, F k * nthI ws k = X := ⟨_, rfl⟩
            have hX2 : nthI ws k * F k = X := by rw [Int.mul_comm]; exact hX
            rw [hX] at HNX p0 p1
            have r1 : IntKind.i64.wrap (F k * nthI ws k) = X := by rw [hX]; exact IntWalk.i64_in _ (by omega)
            have r2 : IntKind.i64.wrap (nthI ws k * F k) = X := by rw [hX2]; exact IntWalk.i64_in _ (by omega)
            have hk21 : (k : Int) ≤ 21 := by omega
            clear HE a1 hok hX hX2
            generalize nthI ws k = x at *
            generalize F k = y at *
            generalize psN F ws k = s at *
            go_wp2_with (go_at_call 78; refine (fwithin_yes _ _ _ HX.out _).mono ?_; rintro e w9 ⟨rfl, rfl⟩)
            go_roundw
            case rel => exact ⟨k + 1, by omega, by rw [HNX.out], by go_num, by first | rfl | trivial, HE2.out, HOK2.out⟩
            case measure => simp [intOf]; omega
          · have hD9 : D = 9 := by rw [← HE.out, if_neg a1]
            subst hD9
            have hv0 : v = 0 := by rw [← HQ.out]; rfl
            subst hv0
            have HX := Lib.hid a1
            clear HE a1 hok HNX b0 b1
            generalize nthI ws k = x at *
            go_wp2_with (go_at_call 78; refine (fwithin_no _ _ _ HX.out _).mono ?_; rintro e w9 ⟨rfl, rfl⟩)
            go_ret2
            exact ⟨rfl, HG1.out⟩
        · obtain rfl : k = ws.length := by omega
          have hD0 : D = 0 := by rw [← hw.out]; exact eachE_end (Nat.le_refl _)
          subst hD0
          have hvq : psN F ws ws.length / 60 = v := by have := HQ.out; rw [if_pos rfl] at this; exact this
          obtain ⟨b0, b1⟩ := psN_bd HF.out ws.length hok.out
          have hdt : (psN F ws ws.length).tdiv 60 = v := by rw [Int.tdiv_eq_ediv_of_nonneg b0]; exact hvq
          have HVQ := Lib.hid hvq
          clear hw hok HQ
          generalize psN F ws ws.length = s at *
          go_wp2_with fail
          go_ret2
          exact ⟨rfl, HG1.out⟩
    · rw [if_neg h1] at p
      subst p
      rw [if_neg (by decide)] at q
      subst q
      have hne : ¬ (ws.length : Int) = (n : Int) := by omega
      have hne2 : ((ws.length : Int) != (n : Int)) = true := bne_iff_ne.2 hne
      clear h1
      go_enter Try.func27, Try.ntmps27
      go_wp2_with fail
      refine (zones_any ao cap l hl zo zc zs hz w HS.out HZ.out hO).mono ?_; rintro e w1 ⟨⟨z1, rfl, hr⟩, hg1⟩
      have HG1 := Lib.hid hg1
      have hrow : ∃ zo1 zc1, z1 = .slice zo1 n zc1 := by
        rcases hr with ⟨hz0, rfl⟩ | ⟨g, rfl, r⟩
        · exact ⟨none, 0, by rw [hz0]⟩
        · exact ⟨_, _, rfl⟩
      obtain ⟨zo1, zc1, rfl⟩ := hrow
      clear hg1 hr
      go_wp2_with fail
      go_ret2
      exact ⟨rfl, HG1.out⟩
  · rw [if_neg h0] at p
    subst p
    rw [if_neg h0] at q
    subst q
    have hn0 := fzones_not hO.out h0
    subst hn0
    have hne : (E != 0) = true := by simpa using h0
    clear h0
    go_enter Try.func27, Try.ntmps27
    go_wp2_with fail
    refine (zones_any ao cap l hl zo zc zs hz w HS.out HZ.out hO).mono ?_; rintro e w1 ⟨⟨z1, rfl, hr⟩, hg1⟩
    have HG1 := Lib.hid hg1
    have hrow : ∃ zo1 zc1, z1 = .slice zo1 0 zc1 := by
      rcases hr with ⟨hz0, rfl⟩ | ⟨g, rfl, r⟩
      · exact ⟨none, 0, rfl⟩
      · exact ⟨_, _, rfl⟩
    obtain ⟨zo1, zc1, rfl⟩ := hrow
    clear hg1 hr
    go_wp2_with fail
    go_ret2
    exact ⟨rfl, HG1.out⟩

set_option maxRecDepth 100000 in
set_option maxHeartbeats 3200000 in
theorem rpulse_any (ao : Option Addr) (cap : Nat) (l : List Int) (hl : (l.length : Int) ≤ 9223372036854775807) (zo : Option Addr) (zc : Nat) (zs : List Int) (hz : (zs.length : Int) ≤ 9223372036854775807) (wo : Option Addr) (wc : Nat) (ws : List Int) (hwl : (ws.length : Int) ≤ 9223372036854775807) (w : World) (hs : IntsAt w ao l) (hzs : IntsAt w zo zs) (hws : IntsAt w wo ws)
    {n : Nat} {F : Nat → Int} {u E : Int} (hO : Hid (zonesOut l zs = (n, F, u, E))) {v D : Int} (hD : Hid (pulE n E ws = D)) (hv : Hid (pulV n F E ws = v)) :
    Calls Try.prog 28 #[.slice ao l.length cap, .slice zo zs.length zc, .slice wo ws.length wc] w fun e w' => e = .returned (.tuple #[.int .i64 v, .int .i64 D]) ∧ w.grownBy w' none := by
  have HS := Lib.hid hs; have HZ := Lib.hid hzs; have HW := Lib.hid hws
  have p := hD.out
  have q := hv.out
  unfold pulV at q
  rw [p] at q
  unfold pulE at p
  clear hs hzs hws hD hv
  by_cases h0 : E = 0
  · rw [if_pos h0] at p
    subst h0
    obtain ⟨hn21, hF⟩ := fzones_total hO.out
    have HF := Lib.hid hF
    clear hF
    by_cases h1 : ws.length = n
    · rw [if_pos h1] at p
      subst h1
      have HP : Hid (eachE 0 1000 (ws.drop 0) = D) := p
      have HQ := Lib.hid q
      clear p q
      go_enter Try.func28, Try.ntmps28
      go_wp2_with fail
      refine (rzones_any ao cap l hl zo zc zs hz w HS.out HZ.out hO).mono ?_; rintro e w1 ⟨⟨z1, rfl, hr⟩, hg1⟩
      have HG1 := Lib.hid hg1; have HW1 : Hid (IntsAt w1 wo ws) := HW.out.grown hg1
      have hrow : ∃ zo1 zc1, z1 = .slice zo1 ws.length zc1 ∧ FInts w1 zo1 ws.length F := by
        rcases hr with ⟨hz0, rfl⟩ | ⟨g, rfl, r⟩
        · exact ⟨none, 0, by rw [hz0], by rw [hz0]; exact FInts.none _ _ _⟩
        · exact ⟨_, _, rfl, FInts.of_row r fun _ _ => rfl⟩
      obtain ⟨zo1, zc1, rfl, hfi⟩ := hrow
      have HFI := Lib.hid hfi
      clear hg1 hr hfi
      go_wp2_with fail
      go_loopw [11, 31] (fun sv iv wr => ∃ k : Nat, k ≤ ws.length ∧ sv = .int .i64 (psN F ws k) ∧ iv = .int .i64 k ∧ w1 = wr ∧ Hid (eachE 0 1000 (ws.drop k) = D) ∧ Hid (∀ j, j < k → 0 ≤ nthI ws j ∧ nthI ws j ≤ 1000))
        (fun _ iv _ => ws.length - (intOf iv).toNat)
      case atStart => exact ⟨0, Nat.zero_le _, rfl, rfl, by first | rfl | trivial, HP.out, fun j hj => absurd hj (Nat.not_lt_zero _)⟩
      case round =>
        obtain ⟨k, hk, rfl, rfl, rfl, hw, hok⟩ := hrel
        by_cases hlt : k < ws.length
        · obtain ⟨b, off, rfl, hc⟩ := HW1.out.at (by omega)
          have c0 := hc k hlt
          obtain ⟨g, rfl, hcz⟩ := HFI.out.at (by omega)
          have c1 := hcz k hlt
          have HE : Hid (_ = D) := Lib.hid ((eachE_at (lo := 0) (hi := 1000) hlt).symm.trans hw.out)
          obtain ⟨b0, b1⟩ := psN_bd HF.out k hok.out
          have hfk := HF.out k
          have HNX : Hid (psN F ws (k + 1) = psN F ws k + F k * nthI ws k) := rfl
          clear hc hcz hw
          by_cases a1 : 0 ≤ nthI ws k ∧ nthI ws k ≤ 1000
          · have HE2 : Hid (eachE 0 1000 (ws.drop (k + 1)) = D) := by show _ = _; rw [← HE.out, if_pos a1]
            have HOK2 : Hid (∀ j, j < k + 1 → 0 ≤ nthI ws j ∧ nthI ws j ≤ 1000) := fun j hj => by
              rcases Nat.lt_or_ge j k with z | z
              · exact hok.out j z
              · obtain rfl : j = k := by omega
                exact a1
            have HX := Lib.hid a1
            obtain ⟨p0, p1⟩ := prod_bd hfk.1 hfk.2 a1.1 a1.2
            obtain ⟨X, hX⟩ : ∃ X, F k * nthI ws k = X := ⟨_, rfl⟩
            have hX2 : nthI ws k * F k = X := by rw [Int.mul_comm]; exact hX
            rw [hX] at HNX p0 p1
            have r1 : IntKind.i64.wrap (F k * nthI ws k) = X := by rw [hX]; exact IntWalk.i64_in _ (by omega)
            have r2 : IntKind.i64.wrap (nthI ws k * F k) = X := by rw [hX2]; exact IntWalk.i64_in _ (by omega)
            have hk21 : (k : Int) ≤ 21 := by omega
            clear HE a1 hok hX hX2
            generalize nthI ws k = x at *
            generalize F k = y at *
            generalize psN F ws k = s at *
            go_wp2_with (go_at_call 79; refine (routside_no _ _ _ HX.out _).mono ?_; rintro e w9 ⟨rfl, rfl⟩)
            go_roundw
            case rel => exact ⟨k + 1, by omega, by rw [HNX.out], by go_num, by first | rfl | trivial, HE2.out, HOK2.out⟩
            case measure => simp [intOf]; omega
          · have hD9 : D = 9 := by rw [← HE.out, if_neg a1]
            subst hD9
            have hv0 : v = 0 := by rw [← HQ.out]; rfl
            subst hv0
            have HX := Lib.hid a1
            clear HE a1 hok HNX b0 b1
            generalize nthI ws k = x at *
            go_wp2_with (go_at_call 79; refine (routside_yes _ _ _ HX.out _).mono ?_; rintro e w9 ⟨rfl, rfl⟩)
            go_ret2
            exact ⟨rfl, HG1.out⟩
        · obtain rfl : k = ws.length := by omega
          have hD0 : D = 0 := by rw [← hw.out]; exact eachE_end (Nat.le_refl _)
          subst hD0
          have hvq : psN F ws ws.length / 60 = v := by have := HQ.out; rw [if_pos rfl] at this; exact this
          obtain ⟨b0, b1⟩ := psN_bd HF.out ws.length hok.out
          have hdt : (psN F ws ws.length).tdiv 60 = v := by rw [Int.tdiv_eq_ediv_of_nonneg b0]; exact hvq
          have HVQ := Lib.hid hvq
          clear hw hok HQ
          generalize psN F ws ws.length = s at *
          go_wp2_with fail
          go_ret2
          exact ⟨rfl, HG1.out⟩
    · rw [if_neg h1] at p
      subst p
      rw [if_neg (by decide)] at q
      subst q
      have hne : ¬ (ws.length : Int) = (n : Int) := by omega
      have hne2 : ((ws.length : Int) != (n : Int)) = true := bne_iff_ne.2 hne
      clear h1
      go_enter Try.func28, Try.ntmps28
      go_wp2_with fail
      refine (rzones_any ao cap l hl zo zc zs hz w HS.out HZ.out hO).mono ?_; rintro e w1 ⟨⟨z1, rfl, hr⟩, hg1⟩
      have HG1 := Lib.hid hg1
      have hrow : ∃ zo1 zc1, z1 = .slice zo1 n zc1 := by
        rcases hr with ⟨hz0, rfl⟩ | ⟨g, rfl, r⟩
        · exact ⟨none, 0, by rw [hz0]⟩
        · exact ⟨_, _, rfl⟩
      obtain ⟨zo1, zc1, rfl⟩ := hrow
      clear hg1 hr
      go_wp2_with fail
      go_ret2
      exact ⟨rfl, HG1.out⟩
  · rw [if_neg h0] at p
    subst p
    rw [if_neg h0] at q
    subst q
    have hn0 := fzones_not hO.out h0
    subst hn0
    have hne : (E != 0) = true := by simpa using h0
    clear h0
    go_enter Try.func28, Try.ntmps28
    go_wp2_with fail
    refine (rzones_any ao cap l hl zo zc zs hz w HS.out HZ.out hO).mono ?_; rintro e w1 ⟨⟨z1, rfl, hr⟩, hg1⟩
    have HG1 := Lib.hid hg1
    have hrow : ∃ zo1 zc1, z1 = .slice zo1 0 zc1 := by
      rcases hr with ⟨hz0, rfl⟩ | ⟨g, rfl, r⟩
      · exact ⟨none, 0, rfl⟩
      · exact ⟨_, _, rfl⟩
    obtain ⟨zo1, zc1, rfl⟩ := hrow
    clear hg1 hr
    go_wp2_with fail
    go_ret2
    exact ⟨rfl, HG1.out⟩

end Go.Proofs.Ytdihmcbjoociiaa
