/- The contract of symMerge, where one number is on the left, or on the right. -/
import Derived.Test.YtblaplnpehnjfabQSwap
namespace Go.Proofs.Ytblaplnpehnjfab
open Go.RowKit

set_option maxRecDepth 100000 in
set_option maxHeartbeats 1600000 in
theorem symMerge_left {w : World} {g c r n : Nat} {ks : List Int} {f : Nat → Nat} (h : Sor w g c r n ks f) {a b : Nat} (hb : b ≤ n) (hruns : Hid (Runs (nth ks) f a (a + 1) b)) (m : Int) (hm : m = (a : Int) + 1) (hab : a + 1 < b) :
    Calls Try.prog 94 #[.slice (some ⟨g, 0, none⟩) n n, .int .i64 (a : Int), .int .i64 m, .int .i64 (b : Int), .func (.func 71) #[] #[.pointer (some ⟨c, 0, none⟩)]] w fun e w' => e = .returned (.tuple #[]) ∧ (∃ f', Sor w' g c r n ks f' ∧ Mv a b f f' ∧ Srt (nth ks) f' a b) ∧ w.grownBy w' (some g) := by
  have hn := h.hn
  have hq : m - (a : Int) = 1 := by omega
  obtain ⟨M, hM⟩ : ∃ M : Nat, M = a + 1 := ⟨_, rfl⟩
  have hmM : m = (M : Int) := by omega
  subst hmM
  clear hm
  have HM := Lib.hid hM; clear hM
  go_enter Try.func94, Try.ntmps94
  go_wp2
  go_loopw [10, 11] (fun iv jv wr => ∃ (i j : Nat), a + 1 ≤ i ∧ i ≤ j ∧ j ≤ b ∧ iv = .int .i64 i ∧ jv = .int .i64 j ∧ Sor wr g c r n ks f ∧ Hid (i = a + 1 ∨ Bef (nth ks) (f (i - 1)) (f a)) ∧ Hid (j = b ∨ Bef (nth ks) (f a) (f j)) ∧ w.grownBy wr (some g)) (fun iv jv _ => (intOf jv).toNat - (intOf iv).toNat)
  case atStart => exact ⟨M, b, by have := HM.out; omega, by have := HM.out; omega, Nat.le_refl _, rfl, rfl, h, .inl HM.out, .inl rfl, grown_refl _ _⟩
  case round =>
    obtain ⟨i, j, hi, hij, hj, rfl, rfl, hs, hl, hr, hg⟩ := hrel
    by_cases hlt : i < j
    · obtain ⟨H, hH⟩ : ∃ H : Nat, H = (i + j) / 2 := ⟨_, rfl⟩
      have hHi : ((i : Int) + (j : Int)) / 2 = (H : Int) := by omega
      have hH0 : i ≤ H := by omega
      have hH1 : H < j := by omega
      have hcross := hruns.out.cross a H (Nat.le_refl _) (by omega) (by omega) (by omega)
      have cx := hs.cell (k := H) (by omega)
      have cy := hs.cell (k := a) (by omega)
      have hxn := hs.lt H (by omega)
      have hyn := hs.lt a (by omega)
      obtain ⟨x, hx⟩ : ∃ x, f H = x := ⟨_, rfl⟩
      obtain ⟨y, hy⟩ : ∃ y, f a = y := ⟨_, rfl⟩
      rw [hx] at cx hxn hcross
      rw [hy] at cy hyn hcross
      obtain ⟨z, hz⟩ : ∃ z, cmpV (nth ks y) (nth ks x) = z := ⟨_, rfl⟩
      have hz1 := cmpV_neg hz
      have HXY := Lib.hid (And.intro hx hy); have HZ := Lib.hid hz; have HC := Lib.hid hcross
      have cxq : ∀ q, (wr.drewN q).cell? ⟨g, H, none⟩ = some (.int .i64 (x : Int)) := fun q => by simpa using cx
      have cyq : ∀ q, (wr.drewN q).cell? ⟨g, a, none⟩ = some (.int .i64 (y : Int)) := fun q => by simpa using cy
      have pa : (0 : Int) ≤ (H : Int) := by omega
      have ba : (H : Int) < (n : Int) := by omega
      have pc : (0 : Int) ≤ (a : Int) := by omega
      have bc : (a : Int) < (n : Int) := by omega
      clear hx hy hz hcross hH cx cy
      by_cases hz0 : z < 0
      · go_wp2_with fail
        try rw [hHi]
        go_quiet (exact Calls.quiet_of (cmp_any (hs.drewN _) hxn hyn HZ))
        go_wp2_with fail
        refine ⟨⟨H + 1, j, by omega, by omega, hj, by go_num, rfl, hs.drewN _, .inr ?_, hr, grown_trans hg (grown_drewN _ _ _)⟩, by simp [intOf]; omega⟩
        rw [Nat.add_sub_cancel, HXY.out.1, HXY.out.2]
        exact (bef_iff HC.out).2 (hz1.1.1 hz0)
      · go_wp2_with fail
        try rw [hHi]
        go_quiet (exact Calls.quiet_of (cmp_any (hs.drewN _) hxn hyn HZ))
        go_wp2_with fail
        go_roundw
        case rel =>
          refine ⟨i, H, hi, hH0, by omega, rfl, rfl, hs.drewN _, hl, .inr ?_, grown_trans hg (grown_drewN _ _ _)⟩
          rw [HXY.out.1, HXY.out.2]
          exact (bef_not HC.out).2 (fun q => by have := hz1.1.2 q; omega)
        case measure => simp [intOf]; omega
    · have hie : j = i := by omega
      subst hie
      go_wp2_with fail
      go_loopw [13] (fun kv wt => ∃ k : Nat, a ≤ k ∧ k + 1 ≤ j ∧ kv = .int .i64 k ∧ Sor wt g c r n ks (rot f a (a + 1) (k + 1)) ∧ w.grownBy wt (some g)) (fun kv _ => j - (intOf kv).toNat)
      case atStart => exact ⟨a, Nat.le_refl _, by omega, rfl, by rw [rot_right]; exact hs, hg⟩
      case round =>
        obtain ⟨k, hk0, hk1, rfl, ht, hgt⟩ := hrel
        by_cases hlk : k + 1 < j
        · have cx := ht.cell (k := k) (by omega)
          have cy := ht.cell (k := k + 1) (by omega)
          have fx := ht.free k
          have fy := ht.free (k + 1)
          have hsw := ht.swap (i := k) (j := k + 1) (by omega) (by omega)
          have cy' := (ht.set (k := k) (ht.lt (k + 1) (by omega))).cell (k := k + 1) (by omega)
          rw [upd, if_neg (by omega)] at cy'
          rw [rot_up f a k hk0] at hsw
          obtain ⟨x, hx⟩ : ∃ x, rot f a (a + 1) (k + 1) k = x := ⟨_, rfl⟩
          obtain ⟨y, hy⟩ : ∃ y, rot f a (a + 1) (k + 1) (k + 1) = y := ⟨_, rfl⟩
          rw [hx] at cx hsw
          rw [hy] at cy hsw cy'
          have HSW := Lib.hid hsw; clear hsw hx hy
          have hlk1 : (k : Int) < (j : Int) - 1 := by omega
          go_wp2_with fail
          go_region
          all_goals go_wp2_with fail
          all_goals exact ⟨⟨k + 1, by omega, by omega, by go_num, HSW.out.same rfl, grown_trans (grown_set (grown_set hgt _ _) _ _) (grown_drew _ _)⟩, by simp [intOf]; omega⟩
        · have hke : j = k + 1 := by omega
          have hlk1 : ¬ (k : Int) < (j : Int) - 1 := by omega
          have HKE := Lib.hid hke; clear hke
          go_wp2_with fail
          (try simp only [Exit.inBlock, Exit.then])
          refine bodyPost_ret (results_none rfl _ _ _) rfl ?_
          refine ⟨rfl, ⟨_, ht, ?_, ?_⟩, hgt⟩
          · exact (Mv.rot f a (a + 1) (k + 1) (by omega) (by omega)).mono (Nat.le_refl _) (by omega)
          · have e := HKE.out
            rw [← e]
            exact merge_left hruns.out hi hj hl.out hr.out
end Go.Proofs.Ytblaplnpehnjfab
