/- The contract of Least. -/
import Derived.Test.YtdihmcbjoociiaaFLeastP
import Derived.Test.YtdihmcbjoociiaaETold
namespace Go.Proofs.Ytdihmcbjoociiaa
open Go.RowKit

def leastE (l : List Int) (s : Int) : Int := if streamE l = 0 then (if 1 ≤ s ∧ s ≤ 1000000000000000 then 0 else 9) else streamE l
def leastV (l : List Int) (s : Int) : LSt := if leastE l s = 0 then lst l s l.length else ⟨0, 0, false⟩

/-- The numbers told are places. -/
def LSt.Bd (b : LSt) : Prop := (0 ≤ b.from_ ∧ b.from_ ≤ 1000000) ∧ 0 ≤ b.to_ ∧ b.to_ ≤ 1000000

set_option maxRecDepth 100000 in
set_option maxHeartbeats 3200000 in
theorem Least_any (ao : Option Addr) (cap : Nat) (l : List Int) (hl : (l.length : Int) ≤ 9223372036854775807) (s : Int) (w : World) (hs : IntsAt w ao l) {E : Int} {b : LSt} (hE : Hid (leastE l s = E)) (hb : Hid (leastV l s = b)) :
    Calls Try.prog 72 #[.slice ao l.length cap, .int .i64 s] w fun e w' => e = .returned (.tuple #[.int .i64 b.from_, .int .i64 b.to_, .bool b.ok, .int .i64 E]) ∧ w.grownBy w' none := by
  have HS := Lib.hid hs
  obtain ⟨se, hse⟩ : ∃ e, streamE l = e := ⟨_, rfl⟩
  have HSE := Lib.hid hse
  have hv := hE.out
  have hq := hb.out
  unfold leastV at hq
  rw [hE.out] at hq
  unfold leastE at hv
  rw [hse] at hv
  clear hE hb hs
  by_cases h0 : se = 0
  · rw [if_pos h0] at hv
    subst h0
    obtain ⟨hl6, hbd⟩ := stream_ok hse
    have HB := Lib.hid hbd
    clear hbd hse
    by_cases h1 : 1 ≤ s ∧ s ≤ 1000000000000000
    · rw [if_pos h1] at hv
      subst hv
      rw [if_pos rfl] at hq
      obtain ⟨s0, s1⟩ := h1
      have HBQ := Lib.hid hq
      have HBS : Hid (∀ k, k ≤ l.length → (0 ≤ svN l k ∧ svN l k ≤ 1000000000 * k)) := fun k hk => (sums_bds hl6 HB.out k hk).1
      clear hq
      go_enter Try.func72, Try.ntmps72
      go_wp2_with (first
        | (go_at_call 74; refine (checkStream_any ao cap l hl _ HS.out HSE).mono ?_; rintro e w1 ⟨rfl, rfl⟩)
        | (go_at_call 120; refine (ewithin_yes _ _ _ (by omega) _).mono ?_; rintro e w1 ⟨rfl, rfl⟩))
      go_loopw [4, 5, 6, 9, 10, 23] (fun v4 v5 v6 v9 v10 iv wr => ∃ (k f : Nat) (x : LSt), k ≤ l.length ∧ v4 = .int .i64 x.from_ ∧ v5 = .int .i64 x.to_ ∧ v6 = .bool x.ok ∧ v9 = .int .i64 f ∧ v10 = .int .i64 (svN l k - svN l f) ∧ iv = .int .i64 k ∧ w = wr ∧ Hid (lst l s k = x) ∧ Hid (PFirst l s k f) ∧ Hid (∀ j, f ≤ j → j < k → 0 ≤ nthI l j) ∧ Hid x.Bd)
        (fun _ _ _ _ _ iv _ => l.length - (intOf iv).toNat)
      case atStart => exact ⟨0, 0, ⟨0, 0, false⟩, Nat.zero_le _, rfl, rfl, rfl, rfl, rfl, rfl, rfl, rfl, pfirst_start l s0, (fun j _ h => absurd h (Nat.not_lt_zero _)), ⟨⟨by decide, by decide⟩, by decide, by decide⟩⟩
      case round =>
        obtain ⟨k, f, x, hk, rfl, rfl, rfl, rfl, rfl, rfl, rfl, hx, hp, hkn, hxb⟩ := hrel
        by_cases hlt : k < l.length
        · obtain ⟨bb, off, rfl, hc⟩ := HS.out.at (by omega)
          have c0 := hc k hlt
          have HC := Lib.hid hc
          have hbk := HB.out k hlt
          have hsk := HBS.out k hk
          have hfk := hp.out.1
          have hsf := HBS.out f (by omega)
          clear hc
          by_cases a1 : nthI l k < 0
          · obtain ⟨p1, p2⟩ := pfirst_gap s0 a1
            have HP1 := Lib.hid p1
            have HX1 : Hid (lst l s (k + 1) = x) := p2.trans hx.out
            have HE0 : Hid (svN l (k + 1) - svN l (k + 1) = 0) := by show _ = _; omega
            clear p1 p2
            generalize nthI l k = n at *
            go_wp2_with fail
            go_roundw
            case rel => exact ⟨k + 1, k + 1, x, by omega, rfl, rfl, rfl, by go_num, by rw [HE0.out], by go_num, trivial, HX1.out, HP1.out, (fun j h1 h2 => absurd h2 (by omega)), hxb.out⟩
            case measure => simp [intOf]; omega
          · have hsv : svN l (k + 1) = svN l k + nthI l k := by rw [svN, if_neg a1]
            obtain ⟨f2, hf2, hp2, hff, hf2k, hcs⟩ := pfirst_next hp.out (show 0 ≤ nthI l k by omega)
            have HKN2 : Hid (∀ j, f ≤ j → j < k + 1 → 0 ≤ nthI l j) := fun j h1 h2 => by
              rcases Nat.lt_or_ge j k with q | q
              · exact hkn.out j h1 q
              · obtain rfl : j = k := by omega
                omega
            have HP2 := Lib.hid hp2; have HCS := Lib.hid hcs; have HF2 := Lib.hid hf2; have HSV := Lib.hid hsv
            have hsk1 := HBS.out (k + 1) hlt
            clear hp hkn hp2 hcs hf2 hsv
            generalize hn : nthI l k = n at *
            have HNK := Lib.hid hn
            clear hn
            have HH0 : Hid (svN l k - svN l f + n = svN l (k + 1) - svN l f) := by show _ = _; have := HSV.out; omega
            have hH0 : 0 ≤ svN l k - svN l f ∧ svN l k - svN l f ≤ 1000000000000000 := by
              have := sv_mono l hfk
              omega
            obtain ⟨hH1, hH2⟩ := hH0
            generalize svN l k - svN l f = H0 at *
            go_wp2_with fail
            go_loopw [9, 10] (fun v9 v10 wr => ∃ g : Nat, f ≤ g ∧ g ≤ k ∧ v9 = .int .i64 g ∧ v10 = .int .i64 (svN l (k + 1) - svN l g) ∧ w = wr ∧ Hid (upTo l s (k + 1) (g + 1) (k - g) = f2 + 1))
              (fun v9 _ _ => k - (intOf v9).toNat)
            case atStart => exact ⟨f, Nat.le_refl _, hfk, rfl, by rw [HH0.out], rfl, HF2.out⟩
            case round =>
              obtain ⟨g, hfg, hgk, rfl, rfl, rfl, hup⟩ := hrel
              have hng := HKN2.out g hfg (by omega)
              have c1 := HC.out g (by omega)
              have hbg := HB.out g (by omega)
              have hsg : svN l (g + 1) = svN l g + nthI l g := by rw [svN, if_neg (by omega)]
              have hsg0 := HBS.out g (by omega)
              have HSG : Hid (svN l (k + 1) - svN l g - nthI l g = svN l (k + 1) - svN l (g + 1)) := by show _ = _; omega
              have HSN : Hid (g < k ∨ svN l (k + 1) - svN l (g + 1) = 0) := by
                show _ ∨ _
                rcases Nat.lt_or_ge g k with q | q
                · exact .inl q
                · obtain rfl : g = k := by omega
                  exact .inr (by omega)
              clear hsg
              generalize hy : nthI l g = y at *
              clear hy
              by_cases hgo : s ≤ svN l (k + 1) - svN l (g + 1)
              · have hgk2 : g < k := by rcases HSN.out with q | q <;> omega
                have HU2 : Hid (upTo l s (k + 1) (g + 1 + 1) (k - (g + 1)) = f2 + 1) := by
                  show _ = _
                  have := hup.out
                  rw [show k - g = (k - (g + 1)) + 1 by omega, upTo, if_neg (by omega)] at this
                  exact this
                have hsg1 := HBS.out (g + 1) (by omega)
                have hdd : svN l (k + 1) - svN l (g + 1) ≤ 1000000000000000 := by omega
                have HD := Lib.hid hdd
                clear hdd hsg1
                generalize hD : svN l (k + 1) - svN l (g + 1) = D at *
                have HDD := Lib.hid hD
                clear hD
                generalize hD0 : svN l (k + 1) - svN l g = D0 at *
                have hd0 : D0 - y = D := HSG.out
                have hd1 := HD.out
                clear hD0
                go_wp2_with fail
                go_roundw
                case rel => exact ⟨g + 1, by omega, by omega, by go_num, by rw [HDD.out], trivial, HU2.out⟩
                case measure => simp [intOf]; omega
              · have hg2 : g = f2 := by
                  have := hup.out
                  rcases Nat.lt_or_ge g k with q | q
                  · rw [show k - g = (k - (g + 1)) + 1 by omega, upTo, if_pos (by omega)] at this; omega
                  · rw [show k - g = 0 by omega, upTo] at this; omega
                subst hg2
                have HD : Hid (svN l (k + 1) - svN l g ≤ 1000000000000000 ∧ 0 ≤ svN l (k + 1) - svN l g) := by
                  have := sv_mono l (show g ≤ k + 1 by omega)
                  exact ⟨by omega, by omega⟩
                generalize hD : svN l (k + 1) - svN l (g + 1) = D at *
                generalize hD0 : svN l (k + 1) - svN l g = D0 at *
                have KD0 := Lib.hid hD0
                have hd0 : D0 - y = D := HSG.out
                obtain ⟨hd1, hd2⟩ := HD.out
                have HKN3 : Hid (∀ j, g ≤ j → j < k + 1 → 0 ≤ nthI l j) := fun j h1 h2 => HKN2.out j (by omega) h2
                clear hD hD0
                obtain ⟨xf, xt, xo⟩ := x
                obtain ⟨⟨b0, b1⟩, b2, b3⟩ := hxb.out
                simp only at b0 b1 b2 b3
                rcases HCS.out with ⟨hlow, hst⟩ | ⟨hhi, hst⟩
                · have e1 : decide (s ≤ D0) = false := decide_eq_false (by omega)
                  have HX1 : Hid (lst l s (k + 1) = ⟨xf, xt, xo⟩) := hst.trans hx.out
                  go_wp2_with fail
                  go_roundw
                  case rel => exact ⟨k + 1, g, ⟨xf, xt, xo⟩, by omega, rfl, rfl, rfl, rfl, by rw [KD0.out], by go_num, trivial, HX1.out, HP2.out, HKN3.out, hxb.out⟩
                  case measure => simp [intOf]; omega
                · have e1 : decide (s ≤ D0) = true := decide_eq_true hhi
                  rw [hx.out] at hst
                  cases xo
                  · have HX1 : Hid (lst l s (k + 1) = ⟨g, (k : Int) + 1, true⟩) := by show _ = _; rw [hst]; unfold LSt.tell; rw [if_pos (Or.inl rfl)]
                    go_wp2_with fail
                    go_roundw
                    case rel => exact ⟨k + 1, g, ⟨g, (k : Int) + 1, true⟩, by omega, rfl, rfl, rfl, rfl, by rw [KD0.out], by go_num, trivial, HX1.out, HP2.out, HKN3.out, ⟨⟨by simp only; omega, by simp only; omega⟩, by simp only; omega, by simp only; omega⟩⟩
                    case measure => simp [intOf]; omega
                  · by_cases hsh : (k : Int) + 1 - (g : Int) < xt - xf
                    · have e2 : decide ((k : Int) + 1 - (g : Int) < xt - xf) = true := decide_eq_true hsh
                      have HX1 : Hid (lst l s (k + 1) = ⟨g, (k : Int) + 1, true⟩) := by show _ = _; rw [hst]; unfold LSt.tell; rw [if_pos (Or.inr hsh)]
                      go_wp2_with fail
                      go_roundw
                      case rel => exact ⟨k + 1, g, ⟨g, (k : Int) + 1, true⟩, by omega, rfl, rfl, rfl, rfl, by rw [KD0.out], by go_num, trivial, HX1.out, HP2.out, HKN3.out, ⟨⟨by simp only; omega, by simp only; omega⟩, by simp only; omega, by simp only; omega⟩⟩
                      case measure => simp [intOf]; omega
                    · have e2 : decide ((k : Int) + 1 - (g : Int) < xt - xf) = false := decide_eq_false hsh
                      have HX1 : Hid (lst l s (k + 1) = ⟨xf, xt, true⟩) := by show _ = _; rw [hst]; unfold LSt.tell; rw [if_neg (by simp; omega)]
                      go_wp2_with fail
                      go_roundw
                      case rel => exact ⟨k + 1, g, ⟨xf, xt, true⟩, by omega, rfl, rfl, rfl, rfl, by rw [KD0.out], by go_num, trivial, HX1.out, HP2.out, HKN3.out, hxb.out⟩
                      case measure => simp [intOf]; omega
        · obtain rfl : k = l.length := by omega
          have hxe : x = b := hx.out.symm.trans HBQ.out
          subst hxe
          go_wp2_with fail
          refine bodyPost_ret (v := .tuple #[.int .i64 x.from_, .int .i64 x.to_, .bool x.ok, .int .i64 0]) (by simp [results, Try.results72, go_sem]) rfl ⟨rfl, ?_⟩
          first | exact grown_refl _ _ | exact grown_drewN _ _ _
    · rw [if_neg h1] at hv
      subst hv
      rw [if_neg (by decide)] at hq
      subst hq
      clear HB hl6
      go_enter Try.func72, Try.ntmps72
      go_wp2_with (first
        | (go_at_call 74; refine (checkStream_any ao cap l hl _ HS.out HSE).mono ?_; rintro e w1 ⟨rfl, rfl⟩)
        | (go_at_call 120; refine (ewithin_no _ _ _ h1 _).mono ?_; rintro e w1 ⟨rfl, rfl⟩))
      refine bodyPost_ret (v := .tuple #[.int .i64 0, .int .i64 0, .bool false, .int .i64 9]) (by simp [results, Try.results72, go_sem]) rfl ⟨rfl, grown_refl _ _⟩
  · rw [if_neg h0] at hv
    subst hv
    rw [if_neg h0] at hq
    subst hq
    have hne : (se != 0) = true := by simpa using h0
    clear hse
    go_enter Try.func72, Try.ntmps72
    go_wp2_with (first
      | (go_at_call 74; refine (checkStream_any ao cap l hl _ HS.out HSE).mono ?_; rintro e w1 ⟨rfl, rfl⟩))
    refine bodyPost_ret (v := .tuple #[.int .i64 0, .int .i64 0, .bool false, .int .i64 se]) (by simp [results, Try.results72, go_sem]) rfl ⟨rfl, grown_refl _ _⟩
end Go.Proofs.Ytdihmcbjoociiaa
