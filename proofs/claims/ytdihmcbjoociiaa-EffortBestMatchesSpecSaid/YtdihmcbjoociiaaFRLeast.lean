/- The contract of the reference's Least. -/
import Derived.Test.YtdihmcbjoociiaaFLeast
import Derived.Test.YtdihmcbjoociiaaFWindow
namespace Go.Proofs.Ytdihmcbjoociiaa
open Go.RowKit

set_option maxRecDepth 100000 in
set_option maxHeartbeats 3200000 in
theorem rLeast_any (ao : Option Addr) (cap : Nat) (l : List Int) (hl : (l.length : Int) ≤ 9223372036854775807) (s : Int) (w : World) (hs : IntsAt w ao l) {E : Int} {b : LSt} (hE : Hid (leastE l s = E)) (hb : Hid (leastV l s = b)) :
    Calls Try.prog 73 #[.slice ao l.length cap, .int .i64 s] w fun e w' => e = .returned (.tuple #[.int .i64 b.from_, .int .i64 b.to_, .bool b.ok, .int .i64 E]) ∧ w.grownBy w' none := by
  have HS := Lib.hid hs
  obtain ⟨se, hse⟩ : ∃ e, streamE l = e := ⟨_, rfl⟩
  have HSE := Lib.hid hse
  have hv := hE.out
  have hq := hb.out
  unfold leastV at hq
  rw [hE.out] at hq
  unfold leastE at hv
  rw [hse] at hv
  clear hE hb hs
  by_cases h0 : se = 0
  · rw [if_pos h0] at hv
    subst h0
    obtain ⟨hl6, hbd⟩ := stream_ok hse
    have HB := Lib.hid hbd
    clear hbd hse
    by_cases h1 : 1 ≤ s ∧ s ≤ 1000000000000000
    · rw [if_pos h1] at hv
      subst hv
      rw [if_pos rfl] at hq
      obtain ⟨s0, s1⟩ := h1
      have HBQ := Lib.hid hq
      have HBS : Hid (∀ k, k ≤ l.length → (0 ≤ svN l k ∧ svN l k ≤ 1000000000 * k)) := fun k hk => (sums_bds hl6 HB.out k hk).1
      clear hq
      go_enter Try.func73, Try.ntmps73
      go_wp2_with (go_at_call 75; refine (rcheckStream_any ao cap l hl _ HS.out HSE).mono ?_; rintro e w1 ⟨rfl, rfl⟩)
      have z1 : ¬ s < 1 := by omega
      have z2 : ¬ (1000000000000000 : Int) < s := by omega
      refine (sumsOf_is ao cap l hl6 HB _ HS.out).mono ?_; rintro e w1 ⟨⟨a1, c1, a2, c2, rfl, hA, hB⟩, hg1⟩
      have GB := World.grownBy_alloc w1 (.cells #[.slice a1 (l.length + 1) c1, .slice a2 (l.length + 1) c2] 137) none
      have HA : Hid _ := Lib.hid (hA.grown GB)
      have HB2 : Hid _ := Lib.hid (hB.grown GB)
      have kb := heap_alloc_new w1 (.cells #[.slice a1 (l.length + 1) c1, .slice a2 (l.length + 1) c2] 137)
      have HG2 : Hid (w.grownBy (w1.alloc (.cells #[.slice a1 (l.length + 1) c1, .slice a2 (l.length + 1) c2] 137)) none) := grown_trans hg1 GB
      clear hA hB hg1 GB
      go_wp2_with fail
      generalize w1.alloc (.cells #[.slice a1 (l.length + 1) c1, .slice a2 (l.length + 1) c2] 137) = w2 at *
      generalize w1.heap.size = B at *
      have HKB : Hid (∀ W, w2.grownBy W none → W.cell? ⟨B, 0, none⟩ = some (.slice a1 (l.length + 1) c1) ∧ W.cell? ⟨B, 1, none⟩ = some (.slice a2 (l.length + 1) c2)) := fun W g =>
        ⟨grown_cell g (by simp [World.cell?, kb]), grown_cell g (by simp [World.cell?, kb])⟩
      clear kb
      go_loopw [4, 5, 6, 10, 11] (fun v4 v5 v6 v10 iv wr => ∃ (k : Nat) (x : LSt), k ≤ l.length ∧ v4 = .int .i64 x.from_ ∧ v5 = .int .i64 x.to_ ∧ v6 = .bool x.ok ∧ v10 = .int .i64 (beg l s k : Nat) ∧ iv = .int .i64 ((k : Int) + 1) ∧ Hid (lst l s k = x) ∧ Hid x.Bd ∧ Hid (w2.grownBy wr none))
        (fun _ _ _ _ iv _ => l.length + 1 - (intOf iv).toNat)
      case atStart => exact ⟨0, ⟨0, 0, false⟩, Nat.zero_le _, rfl, rfl, rfl, rfl, rfl, rfl, ⟨⟨by decide, by decide⟩, by decide, by decide⟩, grown_refl _ _⟩
      case round =>
        obtain ⟨k, x, hk, rfl, rfl, rfl, rfl, rfl, hx, hxb, hg⟩ := hrel
        have hbk := beg_le l s k
        by_cases hlt : k < l.length
        · obtain ⟨bb, off, rfl, hc⟩ := HS.out.at (by omega)
          have c0 := grown_cell (grown_trans HG2.out hg.out) (hc k hlt)
          have ek : (k : Int) + 1 - 1 = (k : Int) := by omega
          have hlt2 : (k : Int) + 1 ≤ (l.length : Int) := by omega
          clear hc
          by_cases nn : nthI l k < 0
          · have HX1 : Hid (lst l s (k + 1) = x) := by show _ = _; rw [lst, if_pos nn]; exact hx.out
            have HB1 : Hid (beg l s (k + 1) = k + 1) := by show _ = _; rw [beg, if_pos nn]
            generalize nthI l k = n at *
            go_wp2_with fail
            go_roundw
            case rel => exact ⟨k + 1, x, by omega, rfl, rfl, rfl, by rw [HB1.out]; rfl, by go_num, HX1.out, hxb.out, hg.out⟩
            case measure => simp [intOf]; omega
          · have HU0 : Hid (upTo l s (k + 1) (beg l s k) (k + 1 - beg l s k) = beg l s (k + 1)) := by show _ = _; rw [beg, if_neg nn]
            have HT0 : Hid (tells ((k + 1 : Nat) : Int) (beg l s k) (beg l s (k + 1) - beg l s k) x = lst l s (k + 1)) := by show _ = _; rw [lst, if_neg nn, hx.out]
            generalize nthI l k = n at *
            go_wp2_with fail
            go_loopw [4, 5, 6, 10] (fun v4 v5 v6 v10 wy => ∃ (g : Nat) (y : LSt), beg l s k ≤ g ∧ g ≤ k + 1 ∧ v4 = .int .i64 y.from_ ∧ v5 = .int .i64 y.to_ ∧ v6 = .bool y.ok ∧ v10 = .int .i64 g ∧ Hid (upTo l s (k + 1) g (k + 1 - g) = beg l s (k + 1)) ∧ Hid (tells ((k + 1 : Nat) : Int) g (beg l s (k + 1) - g) y = lst l s (k + 1)) ∧ Hid y.Bd ∧ Hid (w2.grownBy wy none))
              (fun _ _ _ v10 _ => k + 1 - (intOf v10).toNat)
            case atStart => exact ⟨beg l s k, x, Nat.le_refl _, by omega, rfl, rfl, rfl, rfl, HU0.out, HT0.out, hxb.out, hg.out⟩
            case round =>
              obtain ⟨g, y, hg1, hg2, rfl, rfl, rfl, rfl, hu, ht, hyb, hgy⟩ := hrel
              by_cases hgk : g < k + 1
              · have bp := sums_bds hl6 HB.out g (by omega)
                have bk := sums_bds hl6 HB.out (k + 1) (by omega)
                obtain ⟨u, hu1⟩ : ∃ u, svN l g = u := ⟨_, rfl⟩
                obtain ⟨v2, hv2⟩ : ∃ u, svN l (k + 1) = u := ⟨_, rfl⟩
                obtain ⟨p, hp⟩ : ∃ u, suN l g = u := ⟨_, rfl⟩
                obtain ⟨q, hq⟩ : ∃ u, suN l (k + 1) = u := ⟨_, rfl⟩
                have HQ := Lib.hid (show svN l (k + 1) - svN l g = v2 - u by rw [hu1, hv2])
                rw [hu1] at bp; rw [hv2] at bk
                obtain ⟨⟨bp0, bp1⟩, _⟩ := bp
                obtain ⟨⟨bk0, bk1⟩, _⟩ := bk
                have hgi : (g : Int) < (k : Int) + 1 := by omega
                obtain ⟨d0, d1⟩ := HKB.out _ hgy.out
                have HW := window_is a1 a2 (l.length + 1) c1 c2 (svN l) (suN l) g (k + 1) (by omega) (by omega) (by omega) _ (HA.out.grown hgy.out) (HB2.out.grown hgy.out) hu1 hv2 hp hq (by omega) (by omega)
                rw [show ((k + 1 : Nat) : Int) = (k : Int) + 1 by omega] at HW
                have KW := Lib.hid HW
                clear HW hu1 hv2 hp hq
                go_wp2_with fail
                refine KW.out.mono ?_
                rintro e wx ⟨rfl, hgx⟩
                have HGX : Hid (w2.grownBy wx none) := grown_trans hgy.out hgx
                clear hgx hgy KW d0 d1
                obtain ⟨yf, yt, yo⟩ := y
                obtain ⟨⟨b0, b1⟩, b2, b3⟩ := hyb.out
                simp only at b0 b1 b2 b3
                by_cases hlow : v2 - u < s
                · have hbe : beg l s (k + 1) = g := by
                    rw [← hu.out, show k + 1 - g = (k - g) + 1 by omega, upTo, if_pos (by rw [HQ.out]; exact hlow)]
                  have HX1 : Hid (lst l s (k + 1) = ⟨yf, yt, yo⟩) := by show _ = _; rw [← ht.out, hbe, Nat.sub_self]; rfl
                  have HB1 := Lib.hid hbe
                  clear hbe
                  go_wp2_with fail
                  go_roundw
                  case rel => exact ⟨k + 1, ⟨yf, yt, yo⟩, by omega, rfl, rfl, rfl, by rw [HB1.out], by go_num, HX1.out, hyb.out, HGX.out⟩
                  case measure => simp [intOf]; omega
                · have HU2 : Hid (upTo l s (k + 1) (g + 1) (k + 1 - (g + 1)) = beg l s (k + 1)) := by
                    show _ = _
                    rw [← hu.out, show k + 1 - g = (k + 1 - (g + 1)) + 1 by omega]
                    conv => rhs; rw [upTo, if_neg (by rw [HQ.out]; exact hlow)]
                  have hge := upTo_ge l s (k + 1) (k + 1 - (g + 1)) (g + 1)
                  rw [HU2.out] at hge
                  have HTN : Hid (tells ((k + 1 : Nat) : Int) (g + 1) (beg l s (k + 1) - (g + 1)) ((⟨yf, yt, yo⟩ : LSt).tell g ((k : Int) + 1)) = lst l s (k + 1)) := by
                    show _ = _
                    rw [← ht.out, show beg l s (k + 1) - g = (beg l s (k + 1) - (g + 1)) + 1 by omega]
                    rfl
                  clear hge
                  cases yo
                  · have HT : Hid (tells ((k + 1 : Nat) : Int) (g + 1) (beg l s (k + 1) - (g + 1)) ⟨g, (k : Int) + 1, true⟩ = lst l s (k + 1)) := by show _ = _; rw [← HTN.out]; unfold LSt.tell; rw [if_pos (Or.inl rfl)]
                    go_wp2_with fail
                    go_roundw
                    case rel => exact ⟨g + 1, ⟨g, (k : Int) + 1, true⟩, by omega, by omega, rfl, rfl, rfl, by go_num, HU2.out, HT.out, ⟨⟨by simp only; omega, by simp only; omega⟩, by simp only; omega, by simp only; omega⟩, HGX.out⟩
                    case measure => simp [intOf]; omega
                  · by_cases hsh : (k : Int) + 1 - (g : Int) < yt - yf
                    · have e2 : decide ((k : Int) + 1 - (g : Int) < yt - yf) = true := decide_eq_true hsh
                      have HT : Hid (tells ((k + 1 : Nat) : Int) (g + 1) (beg l s (k + 1) - (g + 1)) ⟨g, (k : Int) + 1, true⟩ = lst l s (k + 1)) := by show _ = _; rw [← HTN.out]; unfold LSt.tell; rw [if_pos (Or.inr hsh)]
                      go_wp2_with fail
                      go_roundw
                      case rel => exact ⟨g + 1, ⟨g, (k : Int) + 1, true⟩, by omega, by omega, rfl, rfl, rfl, by go_num, HU2.out, HT.out, ⟨⟨by simp only; omega, by simp only; omega⟩, by simp only; omega, by simp only; omega⟩, HGX.out⟩
                      case measure => simp [intOf]; omega
                    · have e2 : decide ((k : Int) + 1 - (g : Int) < yt - yf) = false := decide_eq_false hsh
                      have HT : Hid (tells ((k + 1 : Nat) : Int) (g + 1) (beg l s (k + 1) - (g + 1)) ⟨yf, yt, true⟩ = lst l s (k + 1)) := by show _ = _; rw [← HTN.out]; unfold LSt.tell; rw [if_neg (by simp; omega)]
                      go_wp2_with fail
                      go_roundw
                      case rel => exact ⟨g + 1, ⟨yf, yt, true⟩, by omega, by omega, rfl, rfl, rfl, by go_num, HU2.out, HT.out, hyb.out, HGX.out⟩
                      case measure => simp [intOf]; omega
              · obtain rfl : g = k + 1 := by omega
                have hbe : beg l s (k + 1) = k + 1 := by rw [← hu.out, Nat.sub_self, upTo]
                have HX1 : Hid (lst l s (k + 1) = y) := by show _ = _; rw [← ht.out, hbe, Nat.sub_self]; rfl
                have HB1 := Lib.hid hbe
                clear hbe
                go_wp2_with fail
                go_roundw
                case rel => exact ⟨k + 1, y, by omega, rfl, rfl, rfl, by rw [HB1.out], by go_num, HX1.out, hyb.out, hgy.out⟩
                case measure => simp [intOf]; omega
        · obtain rfl : k = l.length := by omega
          have hxe : x = b := hx.out.symm.trans HBQ.out
          subst hxe
          have HGE := Lib.hid (grown_trans HG2.out hg.out)
          clear hg
          go_wp2_with fail
          refine bodyPost_ret (v := .tuple #[.int .i64 x.from_, .int .i64 x.to_, .bool x.ok, .int .i64 0]) (by simp [results, Try.results73, go_sem]) rfl ⟨rfl, ?_⟩
          first | exact HGE.out | exact grown_trans HGE.out (grown_drewN _ _ _)
    · rw [if_neg h1] at hv
      subst hv
      rw [if_neg (by decide)] at hq
      subst hq
      clear HB hl6
      by_cases z1 : s < 1
      · go_enter Try.func73, Try.ntmps73
        go_wp2_with (go_at_call 75; refine (rcheckStream_any ao cap l hl _ HS.out HSE).mono ?_; rintro e w1 ⟨rfl, rfl⟩)
        refine bodyPost_ret (v := .tuple #[.int .i64 0, .int .i64 0, .bool false, .int .i64 9]) (by simp [results, Try.results73, go_sem]) rfl ⟨rfl, grown_refl _ _⟩
      · have z2 : (1000000000000000 : Int) < s := by omega
        go_enter Try.func73, Try.ntmps73
        go_wp2_with (go_at_call 75; refine (rcheckStream_any ao cap l hl _ HS.out HSE).mono ?_; rintro e w1 ⟨rfl, rfl⟩)
        refine bodyPost_ret (v := .tuple #[.int .i64 0, .int .i64 0, .bool false, .int .i64 9]) (by simp [results, Try.results73, go_sem]) rfl ⟨rfl, grown_refl _ _⟩
  · rw [if_neg h0] at hv
    subst hv
    rw [if_neg h0] at hq
    subst hq
    have hne : (se != 0) = true := by simpa using h0
    clear hse
    go_enter Try.func73, Try.ntmps73
    go_wp2_with (first
      | (go_at_call 75; refine (rcheckStream_any ao cap l hl _ HS.out HSE).mono ?_; rintro e w1 ⟨rfl, rfl⟩))
    refine bodyPost_ret (v := .tuple #[.int .i64 0, .int .i64 0, .bool false, .int .i64 se]) (by simp [results, Try.results73, go_sem]) rfl ⟨rfl, grown_refl _ _⟩
end Go.Proofs.Ytdihmcbjoociiaa
