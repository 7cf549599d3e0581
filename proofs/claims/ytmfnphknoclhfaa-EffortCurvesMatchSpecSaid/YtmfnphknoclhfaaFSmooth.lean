/- The contract of the reference's smooth. -/
import Derived.Test.YtmfnphknoclhfaaFWindow
namespace Go.Proofs.Ytmfnphknoclhfaa
open Go.RowKit

/-- The mean of the window that ends with a second; -1: not all is known. -/
def smV (l : List Int) (sz : Nat) (i : Nat) : Int := if sz ≤ i + 1 then (if suN l (i + 1) = suN l (i + 1 - sz) then (svN l (i + 1) - svN l (i + 1 - sz)).tdiv sz else -1) else -1

set_option maxRecDepth 100000 in
set_option maxHeartbeats 3200000 in
theorem smooth_is (ao : Option Addr) (cap : Nat) (l : List Int) (hl : (l.length : Int) ≤ 1000000) (HV : Hid (∀ k, k < l.length → -1 ≤ nthI l k ∧ nthI l k ≤ 1000000000)) (sz : Nat) (z0 : 1 ≤ (sz : Int)) (z1 : (sz : Int) ≤ 1000000) (w : World) (hs : IntsAt w ao l) :
    Calls Try.prog 90 #[.slice ao l.length cap, .int .i64 sz] w fun e w' => (∃ a1 c1, e = .returned (.slice a1 l.length c1) ∧ FInts w' a1 l.length (smV l sz)) ∧ w.grownBy w' none := by
  obtain ⟨i0, hi, hz0, hz1, hz2⟩ := info_parts einfo_int
  have HS := Lib.hid hs
  clear hs
  go_enter Try.func90, Try.ntmps90
  go_wp2_with fail
  refine (sumsOf_is ao cap l hl HV _ HS.out).mono ?_; rintro e w1 ⟨⟨a1, c1, a2, c2, rfl, hA, hB⟩, hg1⟩
  have GB := World.grownBy_alloc w1 (.cells #[.slice a1 (l.length + 1) c1, .slice a2 (l.length + 1) c2] 164) none
  have HA : Hid _ := Lib.hid (hA.grown GB)
  have HB : Hid _ := Lib.hid (hB.grown GB)
  have kb := heap_alloc_new w1 (.cells #[.slice a1 (l.length + 1) c1, .slice a2 (l.length + 1) c2] 164)
  have HG2 : Hid (w.grownBy (w1.alloc (.cells #[.slice a1 (l.length + 1) c1, .slice a2 (l.length + 1) c2] 164)) none) := grown_trans hg1 GB
  clear hA hB hg1 GB
  go_wp2_with fail
  generalize w1.alloc (.cells #[.slice a1 (l.length + 1) c1, .slice a2 (l.length + 1) c2] 164) = w2 at *
  generalize w1.heap.size = B at *
  have HKB : Hid (∀ W, w2.grownBy W none → W.cell? ⟨B, 0, none⟩ = some (.slice a1 (l.length + 1) c1) ∧ W.cell? ⟨B, 1, none⟩ = some (.slice a2 (l.length + 1) c2)) := fun W g =>
    ⟨grown_cell g (by simp [World.cell?, kb]), grown_cell g (by simp [World.cell?, kb])⟩
  clear kb
  go_loopw [6, 15] (fun ov iv wr => ∃ (k : Nat) (v : Value), k ≤ l.length ∧ v = ov ∧ iv = .int .i64 k ∧ Hid (w2.grownBy wr none) ∧ Hid (wr.ownsRow w2.heap.size 3 1 v k (rowVs (smV l sz) k)))
    (fun _ iv _ => l.length - (intOf iv).toNat)
  case atStart => exact ⟨0, _, Nat.zero_le _, rfl, rfl, grown_refl _ _, World.ownsRow_nil _ _ _ _⟩
  case round =>
    obtain ⟨k, v, hk, rfl, rfl, hg, hown⟩ := hrel
    by_cases hlt : k < l.length
    · have HRV : Hid (rowVs (smV l sz) (k + 1) = rowVs (smV l sz) k ++ [.int .i64 (smV l sz k)]) := rowVs_succ _ _
      have hk6 : k ≤ 1000000 := by omega
      generalize hR1 : rowVs (smV l sz) (k + 1) = R1 at *
      have HR1 := Lib.hid hR1
      clear hR1
      generalize rowVs (smV l sz) k = R0 at *
      by_cases h1 : sz ≤ k + 1
      · obtain ⟨p, hp⟩ : ∃ p, k + 1 - sz = p := ⟨_, rfl⟩
        have hpk : (k : Int) + 1 - (sz : Int) = (p : Int) := by omega
        have hzk : (sz : Int) ≤ (k : Int) + 1 := by omega
        have bp := sums_bds hl HV.out p (by omega)
        have bk := sums_bds hl HV.out (k + 1) (by omega)
        obtain ⟨u, hu⟩ : ∃ u, svN l p = u := ⟨_, rfl⟩
        obtain ⟨v2, hv⟩ : ∃ u, svN l (k + 1) = u := ⟨_, rfl⟩
        obtain ⟨x, hx⟩ : ∃ u, suN l p = u := ⟨_, rfl⟩
        obtain ⟨y, hy⟩ : ∃ u, suN l (k + 1) = u := ⟨_, rfl⟩
        have HSM : Hid (smV l sz k = if y = x then (v2 - u).tdiv sz else -1) := by
          show _ = _; unfold smV; rw [if_pos h1, hp, hu, hv, hx, hy]
        rw [hu] at bp; rw [hv] at bk
        obtain ⟨⟨bp0, bp1⟩, _⟩ := bp
        obtain ⟨⟨bk0, bk1⟩, _⟩ := bk
        have HU := Lib.hid hu; have HVV := Lib.hid hv; have HX := Lib.hid hx; have HY := Lib.hid hy
        clear hu hv hx hy hp
        obtain ⟨d0, d1⟩ := HKB.out _ hg.out
        have HA2 := Lib.hid (HA.out.grown hg.out); have HB2 := Lib.hid (HB.out.grown hg.out)
        have hpl : p < l.length + 1 := by omega
        go_wp2_with fail
        refine (window_is a1 a2 (l.length + 1) c1 c2 (svN l) (suN l) p (k + 1) hpl (by omega) (by omega) _ HA2.out HB2.out HU HVV HX HY (by omega) (by omega)).mono ?_
        rintro e wx ⟨rfl, hgx⟩
        have HGX : Hid (w2.grownBy wx none) := grown_trans hg.out hgx
        have HOX : Hid (wx.ownsRow w2.heap.size 3 1 v k R0) := kept_own hown.out hgx
        clear hgx hg hown HA2 HB2 d0 d1
        by_cases hk2 : y = x
        · have HSV : Hid (smV l sz k = (v2 - u).tdiv sz) := by show _ = _; rw [HSM.out, if_pos hk2]
          have e1 : decide (y = x) = true := decide_eq_true hk2
          rw [e1]
          have HCN : Hid (∀ j q, [Value.int .i64 ((v2 - u).tdiv sz)][j]? = some q → (wx.alloc (.cells #[.int .i64 ((v2 - u).tdiv sz)] 3)).cell? ((⟨wx.heap.size, 0, none⟩ : Addr).add j) = some q) := cell_one_new wx (.int .i64 ((v2 - u).tdiv sz)) 3
          have SZ := HGX.out.size
          go_wp2_with (first
            | (at_builtin; refine wpList_append_own _ rfl _ _ 22 rfl w2.heap.size 3 i0 (.int .i64 0) 1 8 Try.underlying22 hi hz0 hz1 hz2 rfl (by decide) _ _ _ rfl (HOX.out.alloc _) ⟨wx.heap.size, 0, none⟩ 1 1 [.int .i64 ((v2 - u).tdiv sz)] rfl rfl (HCN.out) (by intro q hq; simp at hq; subst hq; rfl) (by unfold maxLen; omega) (by omega) (by simp; omega) ?_; intro v' w3 hown' hgrow' _))
          have hlt2 := HOX.out.lt
          have GN : Hid (w2.grownBy w3 none) := fgrown_own HGX.out hgrow' (fun g e => (hlt2 g e).1)
          have HO2 : Hid (w3.ownsRow w2.heap.size 3 1 v' (k + 1) R1) := by
            show World.ownsRow _ _ _ _ _ _ _; rw [HRV.out, HSV.out]; exact hown'
          clear hown' hgrow' hlt2 SZ
          go_wp2_with fail
          go_roundw
          case rel => exact ⟨k + 1, _, by omega, rfl, by go_num, GN.out, (by show World.ownsRow _ _ _ _ _ _ _; rw [HR1.out]; exact HO2.out)⟩
          case measure => simp [intOf]; omega
        · have HSV : Hid (smV l sz k = -1) := by show _ = _; rw [HSM.out, if_neg hk2]
          have e1 : decide (y = x) = false := decide_eq_false hk2
          rw [e1]
          have HCN : Hid (∀ j q, [Value.int .i64 (-1)][j]? = some q → (wx.alloc (.cells #[.int .i64 (-1)] 3)).cell? ((⟨wx.heap.size, 0, none⟩ : Addr).add j) = some q) := cell_one_new wx (.int .i64 (-1)) 3
          have SZ := HGX.out.size
          go_wp2_with (first
            | (at_builtin; refine wpList_append_own _ rfl _ _ 22 rfl w2.heap.size 3 i0 (.int .i64 0) 1 8 Try.underlying22 hi hz0 hz1 hz2 rfl (by decide) _ _ _ rfl (HOX.out.alloc _) ⟨wx.heap.size, 0, none⟩ 1 1 [.int .i64 (-1)] rfl rfl (HCN.out) (by intro q hq; simp at hq; subst hq; rfl) (by unfold maxLen; omega) (by omega) (by simp; omega) ?_; intro v' w3 hown' hgrow' _))
          have hlt2 := HOX.out.lt
          have GN : Hid (w2.grownBy w3 none) := fgrown_own HGX.out hgrow' (fun g e => (hlt2 g e).1)
          have HO2 : Hid (w3.ownsRow w2.heap.size 3 1 v' (k + 1) R1) := by
            show World.ownsRow _ _ _ _ _ _ _; rw [HRV.out, HSV.out]; exact hown'
          clear hown' hgrow' hlt2 SZ
          go_wp2_with fail
          go_roundw
          case rel => exact ⟨k + 1, _, by omega, rfl, by go_num, GN.out, (by show World.ownsRow _ _ _ _ _ _ _; rw [HR1.out]; exact HO2.out)⟩
          case measure => simp [intOf]; omega
      · have HSV : Hid (smV l sz k = -1) := by show _ = _; unfold smV; rw [if_neg h1]
        have hzk : ¬ (sz : Int) ≤ (k : Int) + 1 := by omega
        obtain ⟨wx, hwx⟩ : ∃ wx, wx = wr := ⟨_, rfl⟩
        subst hwx
        have HGX := hg; have HOX := hown
        clear hg hown
        have HCN : Hid (∀ j q, [Value.int .i64 (-1)][j]? = some q → (wx.alloc (.cells #[.int .i64 (-1)] 3)).cell? ((⟨wx.heap.size, 0, none⟩ : Addr).add j) = some q) := cell_one_new wx (.int .i64 (-1)) 3
        have SZ := HGX.out.size
        go_wp2_with (first
          | (at_builtin; refine wpList_append_own _ rfl _ _ 22 rfl w2.heap.size 3 i0 (.int .i64 0) 1 8 Try.underlying22 hi hz0 hz1 hz2 rfl (by decide) _ _ _ rfl (HOX.out.alloc _) ⟨wx.heap.size, 0, none⟩ 1 1 [.int .i64 (-1)] rfl rfl (HCN.out) (by intro q hq; simp at hq; subst hq; rfl) (by unfold maxLen; omega) (by omega) (by simp; omega) ?_; intro v' w3 hown' hgrow' _))
        have hlt2 := HOX.out.lt
        have GN : Hid (w2.grownBy w3 none) := fgrown_own HGX.out hgrow' (fun g e => (hlt2 g e).1)
        have HO2 : Hid (w3.ownsRow w2.heap.size 3 1 v' (k + 1) R1) := by
          show World.ownsRow _ _ _ _ _ _ _; rw [HRV.out, HSV.out]; exact hown'
        clear hown' hgrow' hlt2 SZ
        go_wp2_with fail
        go_roundw
        case rel => exact ⟨k + 1, _, by omega, rfl, by go_num, GN.out, (by show World.ownsRow _ _ _ _ _ _ _; rw [HR1.out]; exact HO2.out)⟩
        case measure => simp [intOf]; omega
    · obtain rfl : k = l.length := by omega
      obtain ⟨ao', cap', rfl, hfi⟩ := own_fints hown.out
      have HFI := Lib.hid hfi
      have HG3 := Lib.hid (grown_trans HG2.out hg.out)
      clear hfi hown hg
      go_wp2_with fail
      go_ret
      exact ⟨⟨_, _, rfl, HFI.out⟩, HG3.out⟩
end Go.Proofs.Ytmfnphknoclhfaa
