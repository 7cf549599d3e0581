/- The contract of symMerge, where one number is on the right, and more on the left. -/
import Derived.Test.YtblaplnpehnjfabQSwap
namespace Go.Proofs.Ytblaplnpehnjfab
open Go.RowKit

set_option maxRecDepth 100000 in
set_option maxHeartbeats 1600000 in
theorem symMerge_right {w : World} {g c r n : Nat} {ks : List Int} {f : Nat → Nat} (h : Sor w g c r n ks f) {a m : Nat} (hb : m + 1 ≤ n) (hruns : Hid (Runs (nth ks) f a m (m + 1))) (b : Int) (hbm : b = (m : Int) + 1) (ham : a + 1 < m) :
    Calls Try.prog 94 #[.slice (some ⟨g, 0, none⟩) n n, .int .i64 (a : Int), .int .i64 (m : Int), .int .i64 b, .func (.func 71) #[] #[.pointer (some ⟨c, 0, none⟩)]] w fun e w' => e = .returned (.tuple #[]) ∧ (∃ f', Sor w' g c r n ks f' ∧ Mv a (m + 1) f f' ∧ Srt (nth ks) f' a (m + 1)) ∧ w.grownBy w' (some g) := by
  have hn := h.hn
  have hq0 : ((m : Int) - (a : Int) == 1) = false := by simp; omega
  have hq : b - (m : Int) = 1 := by omega
  obtain ⟨B, hB⟩ : ∃ B : Nat, B = m + 1 := ⟨_, rfl⟩
  have hbB : b = (B : Int) := by omega
  subst hbB
  have hB1 : B ≤ 1000 := by omega
  clear hbm hB
  go_enter Try.func94, Try.ntmps94
  go_wp2
  go_loopw [14, 15] (fun iv jv wr => ∃ (i j : Nat), a ≤ i ∧ i ≤ j ∧ j ≤ m ∧ iv = .int .i64 i ∧ jv = .int .i64 j ∧ Sor wr g c r n ks f ∧ Hid (i = a ∨ Bef (nth ks) (f (i - 1)) (f m)) ∧ Hid (j = m ∨ Bef (nth ks) (f m) (f j)) ∧ w.grownBy wr (some g)) (fun iv jv _ => (intOf jv).toNat - (intOf iv).toNat)
  case atStart => exact ⟨a, m, Nat.le_refl _, by omega, Nat.le_refl _, rfl, rfl, h, .inl rfl, .inl rfl, grown_refl _ _⟩
  case round =>
    obtain ⟨i, j, hi, hij, hj, rfl, rfl, hs, hl, hr, hg⟩ := hrel
    by_cases hlt : i < j
    · obtain ⟨H, hH⟩ : ∃ H : Nat, H = (i + j) / 2 := ⟨_, rfl⟩
      have hHi : ((i : Int) + (j : Int)) / 2 = (H : Int) := by omega
      have hH0 : i ≤ H := by omega
      have hH1 : H < j := by omega
      have hcross := hruns.out.cross H m (by omega) (by omega) (Nat.le_refl _) (by omega)
      have cx := hs.cell (k := m) (by omega)
      have cy := hs.cell (k := H) (by omega)
      have hxn := hs.lt m (by omega)
      have hyn := hs.lt H (by omega)
      obtain ⟨x, hx⟩ : ∃ x, f m = x := ⟨_, rfl⟩
      obtain ⟨y, hy⟩ : ∃ y, f H = y := ⟨_, rfl⟩
      rw [hx] at cx hxn hcross
      rw [hy] at cy hyn hcross
      obtain ⟨z, hz⟩ : ∃ z, cmpV (nth ks y) (nth ks x) = z := ⟨_, rfl⟩
      have hz1 := cmpV_neg hz
      have HXY := Lib.hid (And.intro hx hy); have HZ := Lib.hid hz; have HC := Lib.hid hcross
      have cxq : ∀ q, (wr.drewN q).cell? ⟨g, m, none⟩ = some (.int .i64 (x : Int)) := fun q => by simpa using cx
      have cyq : ∀ q, (wr.drewN q).cell? ⟨g, H, none⟩ = some (.int .i64 (y : Int)) := fun q => by simpa using cy
      have pa : (0 : Int) ≤ (H : Int) := by omega
      have ba : (H : Int) < (n : Int) := by omega
      have pc : (0 : Int) ≤ (m : Int) := by omega
      have bc : (m : Int) < (n : Int) := by omega
      have HZ1 := Lib.hid hz1
      clear hx hy hz hz1 hcross hH cx cy
      by_cases hz0 : z < 0
      · go_wp2_with fail
        try rw [hHi]
        go_quiet (exact Calls.quiet_of (cmp_any (hs.drewN _) hxn hyn HZ))
        go_wp2_with fail
        go_roundw
        case rel =>
          refine ⟨i, H, hi, hH0, by omega, rfl, rfl, hs.drewN _, hl, .inr ?_, grown_trans hg (grown_drewN _ _ _)⟩
          rw [HXY.out.1, HXY.out.2]
          exact (bef_iff HC.out).2 (HZ1.out.1.1 (by omega))
        case measure => simp [intOf]; omega
      · have hz2 : 0 ≤ z := by omega
        have hz3 : decide (z < 0) = false := by simpa using hz0
        clear hz0
        go_wp2_with fail
        try rw [hHi]
        go_quiet (exact Calls.quiet_of (cmp_any (hs.drewN _) hxn hyn HZ))
        go_wp2_with fail
        go_roundw
        case rel =>
          refine ⟨H + 1, j, by omega, by omega, hj, by go_num, rfl, hs.drewN _, .inr ?_, hr, grown_trans hg (grown_drewN _ _ _)⟩
          rw [Nat.add_sub_cancel, HXY.out.1, HXY.out.2]
          exact (bef_not HC.out).2 (fun q => by have := HZ1.out.1.2 q; omega)
        case measure => simp [intOf]; omega
    · have hie : j = i := by omega
      subst hie
      go_wp2_with fail
      go_loopw [17] (fun kv wt => ∃ k : Nat, j ≤ k ∧ k ≤ m ∧ kv = .int .i64 k ∧ Sor wt g c r n ks (rot f k m (m + 1)) ∧ w.grownBy wt (some g)) (fun kv _ => (intOf kv).toNat)
      case atStart => exact ⟨m, hj, Nat.le_refl _, rfl, by rw [rot_left]; exact hs, hg⟩
      case round =>
        obtain ⟨k, hk0, hk1, rfl, ht, hgt⟩ := hrel
        by_cases hlk : j < k
        · obtain ⟨p, rfl⟩ : ∃ p, k = p + 1 := ⟨k - 1, by omega⟩
          have cx := ht.cell (k := p + 1) (by omega)
          have cy := ht.cell (k := p) (by omega)
          have fx := ht.free (p + 1)
          have fy := ht.free p
          have hsw := ht.swap (i := p + 1) (j := p) (by omega) (by omega)
          have cy' := (ht.set (k := p + 1) (ht.lt p (by omega))).cell (k := p) (by omega)
          rw [upd, if_neg (by omega)] at cy'
          rw [rot_down f p m (by omega)] at hsw
          obtain ⟨x, hx⟩ : ∃ x, rot f (p + 1) m (m + 1) (p + 1) = x := ⟨_, rfl⟩
          obtain ⟨y, hy⟩ : ∃ y, rot f (p + 1) m (m + 1) p = y := ⟨_, rfl⟩
          rw [hx] at cx hsw
          rw [hy] at cy hsw cy'
          have HSW := Lib.hid hsw; clear hsw hx hy
          have hlk1 : (j : Int) < (p : Int) + 1 := by omega
          have hk1' : (((p + 1 : Nat)) : Int) = (p : Int) + 1 := by omega
          rw [hk1']
          clear hk1'
          go_wp2_with fail
          go_region
          all_goals go_wp2_with fail
          all_goals exact ⟨⟨p, by omega, by omega, rfl, HSW.out.same rfl, grown_trans (grown_set (grown_set hgt _ _) _ _) (grown_drew _ _)⟩, by simp [intOf]⟩
        · have hke : k = j := by omega
          have HKE := Lib.hid hke; clear hke
          go_wp2_with fail
          (try simp only [Exit.inBlock, Exit.then])
          refine bodyPost_ret (results_none rfl _ _ _) rfl ?_
          have e := HKE.out
          subst e
          exact ⟨rfl, ⟨_, ht, (Mv.rot f k m (m + 1) (by omega) (by omega)).mono hi (Nat.le_refl _), merge_right hruns.out hi hj hl.out hr.out⟩, hgt⟩
end Go.Proofs.Ytblaplnpehnjfab
