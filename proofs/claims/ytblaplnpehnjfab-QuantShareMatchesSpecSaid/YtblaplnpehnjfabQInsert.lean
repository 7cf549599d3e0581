/- The contract of the stable sort's insertions. -/
import Derived.Test.YtblaplnpehnjfabQSwap
namespace Go.Proofs.Ytblaplnpehnjfab
open Go.RowKit

set_option maxRecDepth 100000 in
set_option maxHeartbeats 1600000 in
theorem insert_any {w : World} {g c r n : Nat} {ks : List Int} {f : Nat → Nat} (h : Sor w g c r n ks f) {a b : Nat} (hown : ∀ k, a ≤ k → f k = k) (hab : a ≤ b) (hb : b ≤ n) :
    Calls Try.prog 93 #[.slice (some ⟨g, 0, none⟩) n n, .int .i64 (a : Int), .int .i64 (b : Int), .func (.func 71) #[] #[.pointer (some ⟨c, 0, none⟩)]] w fun e w' => e = .returned (.tuple #[]) ∧ (∃ f', Sor w' g c r n ks f' ∧ Mv a b f f' ∧ Blk (nth ks) f' a b) ∧ w.grownBy w' (some g) := by
  have hn := h.hn
  have HO := Lib.hid hown; clear hown
  rcases Nat.eq_or_lt_of_le hab with he | hlt0
  · subst he
    go_enter Try.func93, Try.ntmps93
    go_wp2
    go_loopw [8] (fun iv wr => iv = .int .i64 ((a : Int) + 1) ∧ wr = w) (fun _ _ => 0)
    case atStart => exact ⟨rfl, rfl⟩
    case round =>
      obtain ⟨rfl, rfl⟩ := hrel
      go_wp2
      refine bodyPost_end (results_none rfl _ _ _) rfl ?_
      exact ⟨rfl, ⟨f, h, Mv.refl _ _ _, ⟨fun i j h1 h2 h3 => by omega, fun k h1 h2 => by omega⟩⟩, grown_refl _ _⟩
  · go_enter Try.func93, Try.ntmps93
    go_wp2
    go_loopw [8] (fun iv wr => ∃ (i : Nat) (fi : Nat → Nat), a + 1 ≤ i ∧ i ≤ b ∧ iv = .int .i64 i ∧ Sor wr g c r n ks fi ∧ Hid (Ins (nth ks) f fi a i) ∧ w.grownBy wr (some g)) (fun iv _ => b - (intOf iv).toNat)
    case atStart => exact ⟨a + 1, f, by omega, by omega, by go_num, h, Ins.start HO.out, grown_refl _ _⟩
    case round =>
      obtain ⟨i, fi, hi0, hi1, rfl, hs, hins, hg⟩ := hrel
      by_cases hlt : i < b
      · go_wp2_with fail
        go_loopw [9] (fun jv wt => ∃ j : Nat, a ≤ j ∧ j ≤ i ∧ jv = .int .i64 j ∧ Sor wt g c r n ks (rot fi j i (i + 1)) ∧ Hid (j = i ∨ Bef (nth ks) (fi i) (fi j)) ∧ w.grownBy wt (some g)) (fun jv _ => (intOf jv).toNat)
        case atStart => exact ⟨i, by omega, Nat.le_refl _, rfl, by rw [rot_left]; exact hs, .inl rfl, hg⟩
        case round =>
          obtain ⟨j, hj0, hj1, rfl, ht, hr, hgt⟩ := hrel
          by_cases hja : a < j
          · obtain ⟨p, rfl⟩ : ∃ p, j = p + 1 := ⟨j - 1, by omega⟩
            have cx := ht.cell (k := p + 1) (by omega)
            have cy := ht.cell (k := p) (by omega)
            rw [rot_1 (Nat.le_refl _) (by omega), show p + 1 + (i - (p + 1)) = i by omega] at cx
            rw [rot_lo (by omega) (by omega) (by omega)] at cy
            have hxn := hs.lt i (by omega)
            have hyn := hs.lt p (by omega)
            have hcross := hins.out.runs.cross p i (by omega) (by omega) (Nat.le_refl _) (by omega)
            have hfx := ht.free (p + 1)
            have hfy := ht.free p
            have cy' := (ht.set (k := p + 1) (ht.lt p (by omega))).cell (k := p) (by omega)
            rw [upd, if_neg (by omega), rot_lo (by omega) (by omega) (by omega)] at cy'
            have hsw := ht.swap (i := p + 1) (j := p) (by omega) (by omega)
            rw [rot_down fi p i (by omega)] at hsw
            rw [rot_1 (Nat.le_refl _) (by omega), show p + 1 + (i - (p + 1)) = i by omega, rot_lo (by omega) (by omega) (by omega)] at hsw
            obtain ⟨x, hx⟩ : ∃ x, fi i = x := ⟨_, rfl⟩
            obtain ⟨y, hy⟩ : ∃ y, fi p = y := ⟨_, rfl⟩
            rw [hx] at cx hxn hcross hsw
            rw [hy] at cy hyn hcross cy' hsw
            obtain ⟨z, hz⟩ : ∃ z, cmpV (nth ks y) (nth ks x) = z := ⟨_, rfl⟩
            have hz1 := cmpV_neg hz
            have HXY := Lib.hid (And.intro hx hy); have HZ := Lib.hid hz; have HC := Lib.hid hcross; have HSW := Lib.hid hsw; have HT := Lib.hid ht
            have cxq : ∀ q, (wr.drewN q).cell? ⟨g, p + 1, none⟩ = some (.int .i64 (x : Int)) := fun q => by simpa using cx
            have cyq : ∀ q, (wr.drewN q).cell? ⟨g, p, none⟩ = some (.int .i64 (y : Int)) := fun q => by simpa using cy
            obtain ⟨p1, hp1⟩ : ∃ q, q = p + 1 := ⟨_, rfl⟩
            have ea : ((p : Int) + 1).toNat = p1 := by omega
            have pa : (0 : Int) ≤ (p : Int) + 1 := by omega
            have ba : (p : Int) + 1 < (n : Int) := by omega
            have pc : (0 : Int) ≤ (p : Int) := by omega
            have bc : (p : Int) < (n : Int) := by omega
            have rc : IntKind.i64.wrap ((p : Int)) = (p : Int) := by rw [IntKind.wrap_i64]; omega
            have hk1 : (((p + 1 : Nat)) : Int) = (p : Int) + 1 := by omega
            have hgt1 : (a : Int) < (p : Int) + 1 := by omega
            rw [hk1]
            clear hx hy hz hcross hsw hk1
            by_cases hz0 : z < 0
            · go_wp2_with fail
              go_quiet (exact Calls.quiet_of (cmp_any (HT.out.drewN _) hxn hyn HZ))
              go_wp2_with fail
              go_region
              all_goals go_wp2_with fail
              all_goals
                refine ⟨⟨p, by omega, by omega, rfl, HSW.out.same rfl, .inr ?_, grown_set (grown_set (grown_trans hgt (grown_drewN _ _ _)) _ _) _ _⟩, by simp [intOf]⟩
                have hc := HC.out
                rw [HXY.out.1, HXY.out.2]
                exact (bef_iff hc).2 (hz1.1.1 hz0)
            · go_wp2_with fail
              go_quiet (exact Calls.quiet_of (cmp_any (HT.out.drewN _) hxn hyn HZ))
              go_wp2_with fail
              refine ⟨⟨i + 1, _, by omega, by omega, by simp, ht.drewN _, hins.out.next hj0 hj1 (.inr ?_) hr.out, grown_trans hgt (grown_drewN _ _ _)⟩, by simp [intOf]; omega⟩
              have hc := HC.out
              rw [Nat.add_sub_cancel, HXY.out.1, HXY.out.2]
              exact (bef_not hc).2 (fun q => by have := hz1.1.2 q; omega)
          · have hje : j = a := by omega
            subst hje
            go_wp2_with fail
            go_quiet (fail)
            go_wp2_with fail
            refine ⟨⟨i + 1, _, by omega, by omega, by simp, ht.drewN _, hins.out.next hj0 hj1 (.inl rfl) hr.out, grown_trans hgt (grown_drewN _ _ _)⟩, by simp [intOf]; omega⟩
      · have hib : i = b := by omega
        subst hib
        go_wp2_with fail
        refine bodyPost_end (results_none rfl _ _ _) rfl ?_
        exact ⟨rfl, ⟨fi, hs, hins.out.mv, hins.out.blk⟩, hg⟩
end Go.Proofs.Ytblaplnpehnjfab
