/- The contract of the reference's Curve. -/
import Derived.Test.YtmfnphknoclhfaaECurve
import Derived.Test.YtmfnphknoclhfaaFRBestO
namespace Go.Proofs.Ytmfnphknoclhfaa
open Go.RowKit

set_option maxRecDepth 100000 in
set_option maxHeartbeats 3200000 in
theorem rcurve_any (ao : Option Addr) (cap : Nat) (l : List Int) (hl : (l.length : Int) ≤ 9223372036854775807) (so : Option Addr) (sc : Nat) (ss : List Int) (hz : (ss.length : Int) ≤ 9223372036854775807) (w : World) (hs : IntsAt w ao l) (hss : IntsAt w so ss) {L : List BestV} {E : Int} (hE : Hid (curveOut l ss = (L, E))) :
    Calls Try.prog 16 #[.slice ao l.length cap, .slice so ss.length sc] w fun e w' => (∃ v, e = .returned (.tuple #[v, .int .i64 E]) ∧ w'.ownsRow w.heap.size 34 4 v L.length (bestsVs L)) ∧ w.grownBy w' none := by
  obtain ⟨se, hse⟩ : ∃ e, streamE l = e := ⟨_, rfl⟩
  obtain ⟨ze, hze⟩ : ∃ e, sizesE ss = e := ⟨_, rfl⟩
  have hv := hE.out
  unfold curveOut at hv
  have HSE := Lib.hid hse; have HZE := Lib.hid hze
  have HS := Lib.hid hs; have HZ := Lib.hid hss
  rw [hse, hze] at hv
  clear hE hs hss
  by_cases h0 : se = 0
  · rw [if_pos h0] at hv
    subst h0
    have hok := stream_ok hse
    have hl6 := hok.1
    have HV := Lib.hid hok.2
    by_cases h1 : ze = 0
    · rw [if_pos h1] at hv
      subst h1
      simp only [Prod.mk.injEq] at hv
      obtain ⟨rfl, rfl⟩ := hv
      obtain ⟨hz0, hzp, hzb⟩ := sizes_ok hze
      have HZB := Lib.hid hzb
      obtain ⟨j0, ji, jz0, jz1, jz2⟩ := info_parts info_best
      have HJI := Lib.hid ji; have HJ0 := Lib.hid jz0; have HJ1 := Lib.hid jz1; have HJ2 := Lib.hid jz2
      clear hse hze hok hzb ji jz0 jz1 jz2
      go_enter Try.func16, Try.ntmps16
      go_wp2_with (first
        | (go_at_call 63; refine (rcheckStream_any _ _ _ hl _ HS.out HSE).mono ?_; rintro e w1 ⟨rfl, rfl⟩)
        | (go_at_call 22; refine (rcheckSizes_any _ _ _ hz _ HZ.out HZE).mono ?_; rintro e w1 ⟨rfl, rfl⟩))
      go_loopw [8, 23] (fun ov iv wr => ∃ (k : Nat) (v : Value), k ≤ ss.length ∧ v = ov ∧ iv = .int .i64 k ∧ Hid (w.grownBy wr none) ∧ Hid (wr.ownsRow w.heap.size 34 4 v k (bestsVs (curL l (ss.take k)))))
        (fun _ iv _ => ss.length - (intOf iv).toNat)
      case atStart => exact ⟨0, _, Nat.zero_le _, rfl, rfl, grown_refl _ _, World.ownsRow_nil _ _ _ _⟩
      case round =>
        obtain ⟨k, v, hk, rfl, rfl, hg, hown⟩ := hrel
        by_cases hlt : k < ss.length
        · obtain ⟨b, off, rfl, hc⟩ := HZ.out.at (by omega)
          have c0 := grown_cell hg.out (hc k hlt)
          obtain ⟨zb0, zb1⟩ := HZB.out k hlt
          have HSN := Lib.hid (cur_snoc (l := l) hlt)
          obtain ⟨sz, hsz⟩ : ∃ n : Nat, nthI ss k = n := ⟨(nthI ss k).toNat, by omega⟩
          rw [hsz] at c0 zb0 zb1 HSN
          have hz1 : 1 ≤ sz := by omega
          have hz2 : sz ≤ 1000000 := by omega
          obtain ⟨bb, hbb⟩ : ∃ b, bestL l sz = b := ⟨_, rfl⟩
          have HB := Lib.hid hbb
          have HSN2 : Hid (bestsVs (curL l (ss.take (k + 1))) = bestsVs (curL l (ss.take k)) ++ bestCs ⟨sz, bb⟩) := by
            show _ = _
            have q := HSN.out
            rw [Int.toNat_natCast, hbb] at q
            rw [q, bestsVs_snoc]
          have HSR := Lib.hid (HS.out.grown hg.out)
          have hk100 : k ≤ 100 := by omega
          generalize hR1 : bestsVs (curL l (ss.take (k + 1))) = R1 at *
          have HR1 := Lib.hid hR1
          clear hR1
          generalize bestsVs (curL l (ss.take k)) = R0 at *
          clear HSN hsz hbb hc zb0 zb1
          go_wp2_with fail
          refine (rbest_is ao cap l hl6 HV sz hz1 hz2 _ HSR.out HB).mono ?_; rintro e wx ⟨rfl, hgx⟩
          obtain ⟨bs, ba, bf⟩ := bb
          have HGX : Hid (w.grownBy wx none) := grown_trans hg.out hgx
          have HOX : Hid (wx.ownsRow w.heap.size 34 4 v k R0) := kept_own hown.out hgx
          clear hgx hg hown HSR c0
          have ji := HJI.out; have jz0 := HJ0.out; have jz1 := HJ1.out; have jz2 := HJ2.out
          have SZ := HGX.out.size
          go_wp2_with (first
            | (at_builtin; refine wpList_append_own _ rfl _ _ 23 rfl w.heap.size 34 j0 (.agg #[.int .i64 0, .int .i64 0, .int .i64 0, .bool false]) 4 32 Try.underlying23 ji jz0 jz1 jz2 rfl (by decide) _ _ _ rfl (HOX.out.alloc _) ⟨wx.heap.size, 0, none⟩ 1 1 [.int .i64 sz, .int .i64 bs, .int .i64 ba, .bool bf] rfl rfl (bestCs_new wx sz bs ba bf 34) (bestCs_one ⟨sz, ⟨bs, ba, bf⟩⟩) (by unfold maxLen; omega) (by omega) (by simp; omega) ?_; intro v' w3 hown' hgrow' _))
          have hlt2 := HOX.out.lt
          have GN : Hid (w.grownBy w3 none) := fgrown_own HGX.out hgrow' (fun g e => (hlt2 g e).1)
          have HO2 : Hid (w3.ownsRow w.heap.size 34 4 v' (k + 1) R1) := by
            show World.ownsRow _ _ _ _ _ _ _; rw [HSN2.out]; exact hown'
          clear hown' hgrow' hlt2 SZ ji jz0 jz1 jz2
          go_wp2_with fail
          go_roundw
          case rel => exact ⟨k + 1, _, by omega, rfl, by go_num, GN.out, (by show World.ownsRow _ _ _ _ _ _ _; rw [HR1.out]; exact HO2.out)⟩
          case measure => simp [intOf]; omega
        · obtain rfl : k = ss.length := by omega
          have HOF : Hid (wr.ownsRow w.heap.size 34 4 v (curL l ss).length (bestsVs (curL l ss))) := by
            have q := hown.out
            rw [List.take_length] at q
            show World.ownsRow _ _ _ _ _ _ _
            rw [show (curL l ss).length = ss.length by simp [curL]]; exact q
          clear hown
          go_wp2_with fail
          go_ret2
          exact ⟨⟨_, rfl, HOF.out⟩, hg.out⟩
    · rw [if_neg h1] at hv
      simp only [Prod.mk.injEq] at hv
      obtain ⟨rfl, rfl⟩ := hv
      have hne : (ze != 0) = true := by simpa using h1
      clear hse hze hok h1
      go_enter Try.func16, Try.ntmps16
      go_wp2_with (first
        | (go_at_call 63; refine (rcheckStream_any _ _ _ hl _ HS.out HSE).mono ?_; rintro e w1 ⟨rfl, rfl⟩)
        | (go_at_call 22; refine (rcheckSizes_any _ _ _ hz _ HZ.out HZE).mono ?_; rintro e w1 ⟨rfl, rfl⟩))
      go_ret2
      exact ⟨⟨_, rfl, World.ownsRow_nil _ _ _ _⟩, grown_refl _ _⟩
  · rw [if_neg h0] at hv
    simp only [Prod.mk.injEq] at hv
    obtain ⟨rfl, rfl⟩ := hv
    have hne : (se != 0) = true := by simpa using h0
    clear hse hze h0
    go_enter Try.func16, Try.ntmps16
    go_wp2_with (go_at_call 63; refine (rcheckStream_any _ _ _ hl _ HS.out HSE).mono ?_; rintro e w1 ⟨rfl, rfl⟩)
    go_ret2
    exact ⟨⟨_, rfl, World.ownsRow_nil _ _ _ _⟩, grown_refl _ _⟩

end Go.Proofs.Ytmfnphknoclhfaa
