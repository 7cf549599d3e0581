/- The contract of the reference's best. -/
import Derived.Test.YtmfnphknoclhfaaFWinS
import Derived.Test.YtmfnphknoclhfaaEBest
namespace Go.Proofs.Ytmfnphknoclhfaa
open Go.RowKit

theorem fints_kept {w w' : World} {ao : Option Addr} {n B : Nat} {F : Nat → Int} (h : FInts w ao n F) (g : w.grownBy w' (some B)) (hne : ∀ b, ao = some ⟨b, 0, none⟩ → b ≠ B) : FInts w' ao n F := fun j hj => by
  obtain ⟨b, e, q⟩ := h j hj
  exact ⟨b, e, g.cell q (fun e2 => hne b e (Option.some.inj e2))⟩

theorem best_set {W : World} {B : Nat} {b : BSt} {sz : Int} (h : W.heap[B]? = some (.cells (b.cells sz) 34 (0, 0))) (s : Int) (a : Int) (f : Bool) : ((((W.setCell ⟨B, 0, none⟩ (.int .i64 sz)).setCell ⟨B, 1, none⟩ (.int .i64 s)).setCell ⟨B, 2, none⟩ (.int .i64 a)).setCell ⟨B, 3, none⟩ (.bool f)).heap[B]? = some (.cells (({ sum := s, at_ := a, found := f } : BSt).cells sz) 34 (0, 0)) := by
  simp [World.setCell, Array.getElem?_modify, h]
theorem best_far {w2 W : World} {B : Nat} (h : w2.grownBy W (some B)) (p q r s : Value) : w2.grownBy ((((W.setCell ⟨B, 0, none⟩ p).setCell ⟨B, 1, none⟩ q).setCell ⟨B, 2, none⟩ r).setCell ⟨B, 3, none⟩ s) (some B) :=
  (((h.trans (setc_grown _ _ _ _)).trans (setc_grown _ _ _ _)).trans (setc_grown _ _ _ _)).trans (setc_grown _ _ _ _)

set_option maxRecDepth 100000 in
set_option maxHeartbeats 3200000 in
theorem rbest_is (ao : Option Addr) (cap : Nat) (l : List Int) (hl : (l.length : Int) ≤ 1000000) (HV : Hid (∀ k, k < l.length → -1 ≤ nthI l k ∧ nthI l k ≤ 1000000000)) (sz : Nat) (z0 : 1 ≤ sz) (z1 : sz ≤ 1000000) (w : World) (hs : IntsAt w ao l) {b : BSt} (hb : Hid (bestL l sz = b)) :
    Calls Try.prog 87 #[.slice ao l.length cap, .int .i64 sz] w fun e w' => e = .returned (.agg (b.cells sz)) ∧ w.grownBy w' none := by
  have HS := Lib.hid hs
  clear hs
  go_enter Try.func87, Try.ntmps87
  go_wp2_with fail
  have G0 : w.grownBy ((w.alloc (.cells #[.int .i64 0, .int .i64 0, .int .i64 0, .bool false] 34)).alloc (.cells #[.int .i64 sz, .int .i64 0, .int .i64 0, .bool false] 34)) none := grown_trans (World.grownBy_alloc _ _ _) (World.grownBy_alloc _ _ _)
  have kb := heap_alloc_new (w.alloc (.cells #[.int .i64 0, .int .i64 0, .int .i64 0, .bool false] 34)) (.cells #[.int .i64 sz, .int .i64 0, .int .i64 0, .bool false] 34)
  have kr : ((w.alloc (.cells #[.int .i64 0, .int .i64 0, .int .i64 0, .bool false] 34)).alloc (.cells #[.int .i64 sz, .int .i64 0, .int .i64 0, .bool false] 34)).heap[w.heap.size]? = some (.cells #[.int .i64 0, .int .i64 0, .int .i64 0, .bool false] 34 (0, 0)) := by
    rw [Below.heap_alloc _ _ _ (by simp)]; exact heap_alloc_new w _
  generalize (w.alloc (.cells #[.int .i64 0, .int .i64 0, .int .i64 0, .bool false] 34)).alloc (.cells #[.int .i64 sz, .int .i64 0, .int .i64 0, .bool false] 34) = wa at *
  refine (sumsOf_is ao cap l hl HV wa (HS.out.grown G0)).mono ?_; rintro e w1 ⟨⟨a1, c1, a2, c2, rfl, hA, hB⟩, hg1⟩
  have hlw : w.heap.size + 1 < wa.heap.size := by have := (Array.getElem?_eq_some_iff.1 kb).1; simpa using this
  have kb1 : w1.heap[w.heap.size + 1]? = some (.cells #[.int .i64 sz, .int .i64 0, .int .i64 0, .bool false] 34 (0, 0)) := by
    rw [hg1.block _ hlw (by simp)]; simpa using kb
  have kr1 : w1.heap[w.heap.size]? = some (.cells #[.int .i64 0, .int .i64 0, .int .i64 0, .bool false] 34 (0, 0)) := by
    rw [hg1.block _ (by omega) (by simp)]; exact kr
  have n1 : ∀ b, a1 = some ⟨b, 0, none⟩ → b ≠ w.heap.size + 1 := fun b e e2 => by
    obtain ⟨g, e3, q⟩ := hA 0 (by omega)
    rw [e] at e3; injection e3 with e3; injection e3 with e3; subst e3; subst e2
    simp [World.cell?, kb1, svN] at q; omega
  have n2 : ∀ b, a2 = some ⟨b, 0, none⟩ → b ≠ w.heap.size + 1 := fun b e e2 => by
    obtain ⟨g, e3, q⟩ := hB 0 (by omega)
    rw [e] at e3; injection e3 with e3; injection e3 with e3; subst e3; subst e2
    simp [World.cell?, kb1, suN] at q; omega
  have GB := World.grownBy_alloc w1 (.cells #[.slice a1 (l.length + 1) c1, .slice a2 (l.length + 1) c2] 164) none
  have HA : Hid _ := Lib.hid (hA.grown GB)
  have HB : Hid _ := Lib.hid (hB.grown GB)
  have ks := heap_alloc_new w1 (.cells #[.slice a1 (l.length + 1) c1, .slice a2 (l.length + 1) c2] 164)
  have lw1 : w.heap.size + 1 < w1.heap.size := (Array.getElem?_eq_some_iff.1 kb1).1
  have kb2 := (GB.block _ lw1 (by simp)).trans kb1
  have kr2 := (GB.block _ (by omega : w.heap.size < w1.heap.size) (by simp)).trans kr1
  have HG2 : Hid (w.grownBy (w1.alloc (.cells #[.slice a1 (l.length + 1) c1, .slice a2 (l.length + 1) c2] 164)) none) := grown_trans (grown_trans G0 hg1) GB
  clear hA hB hg1 GB kb1 kr1 kb kr G0 hlw
  go_wp2_with fail
  generalize w1.alloc (.cells #[.slice a1 (l.length + 1) c1, .slice a2 (l.length + 1) c2] 164) = w2 at *
  generalize w1.heap.size = B2 at *
  have HKS := Lib.hid ks; have HKR := Lib.hid kr2
  have HN1 := Lib.hid n1; have HN2 := Lib.hid n2
  have HKB0 : Hid (w2.heap[w.heap.size + 1]? = some (.cells ((bestA l sz 0).cells sz) 34 (0, 0))) := kb2
  clear ks kr2 n1 n2 kb2
  go_loopw [7] (fun iv wr => ∃ a : Nat, a ≤ l.length + 1 - sz ∧ iv = .int .i64 a ∧ Hid (wr.heap[w.heap.size + 1]? = some (.cells ((bestA l sz a).cells sz) 34 (0, 0))) ∧ Hid (w2.grownBy wr (some (w.heap.size + 1))))
    (fun iv _ => l.length + 1 - (intOf iv).toNat)
  case atStart => exact ⟨0, Nat.zero_le _, rfl, HKB0.out, World.grownBy.refl _ _⟩
  case round =>
    obtain ⟨a, ha, rfl, hbx, hg⟩ := hrel
    have HSB : wr.heap[B2]? = some (.cells #[.slice a1 (l.length + 1) c1, .slice a2 (l.length + 1) c2] 164 (0, 0)) := (hg.out.block B2 (Array.getElem?_eq_some_iff.1 HKS.out).1 (fun e => by have := Option.some.inj e; omega)).trans HKS.out
    by_cases hlt : a + sz ≤ l.length
    · have bp := sums_bds hl HV.out a (by omega)
      have bk := sums_bds hl HV.out (a + sz) hlt
      have HNX : Hid (bestA l sz (a + 1) = if suN l (a + sz) = suN l a then (bestA l sz a).next (a, svN l (a + sz) - svN l a) else bestA l sz a) := rfl
      obtain ⟨u, hu⟩ : ∃ u, svN l a = u := ⟨_, rfl⟩
      obtain ⟨v2, hv⟩ : ∃ u, svN l (a + sz) = u := ⟨_, rfl⟩
      obtain ⟨x, hx⟩ : ∃ u, suN l a = u := ⟨_, rfl⟩
      obtain ⟨y, hy⟩ : ∃ u, suN l (a + sz) = u := ⟨_, rfl⟩
      rw [hu, hv, hx, hy] at HNX
      rw [hu] at bp; rw [hv] at bk
      obtain ⟨⟨bp0, bp1⟩, _⟩ := bp
      obtain ⟨⟨bk0, bk1⟩, _⟩ := bk
      have HU := Lib.hid hu; have HVV := Lib.hid hv; have HX := Lib.hid hx; have HY := Lib.hid hy
      clear hu hv hx hy
      obtain ⟨b0, hb0⟩ : ∃ b0, bestA l sz a = b0 := ⟨_, rfl⟩
      rw [hb0] at HNX hbx
      obtain ⟨S, A, f⟩ := b0
      have d0 : wr.cell? ⟨B2, 0, none⟩ = some (.slice a1 (l.length + 1) c1) := by simp [World.cell?, HSB]
      have d1 : wr.cell? ⟨B2, 1, none⟩ = some (.slice a2 (l.length + 1) c2) := by simp [World.cell?, HSB]
      have HA2 := Lib.hid (fints_kept HA.out hg.out HN1.out); have HB2 := Lib.hid (fints_kept HB.out hg.out HN2.out)
      have hza : (a : Int) + (sz : Int) ≤ (l.length : Int) := by omega
      have haz : ((a + sz : Nat) : Int) = (a : Int) + (sz : Int) := by omega
      have hal : a < l.length + 1 := by omega
      have hal2 : a + sz < l.length + 1 := by omega
      have HW := window_is a1 a2 (l.length + 1) c1 c2 (svN l) (suN l) a (a + sz) hal hal2 (by omega) wr HA2.out HB2.out HU HVV HX HY (by omega) (by omega)
      rw [haz] at HW
      have KW := Lib.hid HW
      clear HW hb0 HSB haz
      go_wp2_with fail
      refine KW.out.mono ?_
      rintro e wx ⟨rfl, hgx⟩
      have HGX : Hid (w2.grownBy wx (some (w.heap.size + 1))) := hg.out.trans ⟨hgx.os, hgx.tape, hgx.output, hgx.size, fun i hi _ => hgx.block i hi (by simp)⟩
      have HBX : Hid (wx.heap[w.heap.size + 1]? = some (.cells (({ sum := S, at_ := A, found := f } : BSt).cells sz) 34 (0, 0))) := (hgx.block _ (Array.getElem?_eq_some_iff.1 hbx.out).1 (by simp)).trans hbx.out
      have m1 : wx.cell? ⟨w.heap.size + 1, 1, none⟩ = some (.int .i64 S) := by have := HBX.out; simp [World.cell?, this]
      have m3 : wx.cell? ⟨w.heap.size + 1, 3, none⟩ = some (.bool f) := by have := HBX.out; simp [World.cell?, this]
      have m0 : wx.cell? ⟨w.heap.size + 1, 0, none⟩ = some (.int .i64 sz) := by have := HBX.out; simp [World.cell?, this]
      have m2 : wx.cell? ⟨w.heap.size + 1, 2, none⟩ = some (.int .i64 A) := by have := HBX.out; simp [World.cell?, this]
      have ff : ∀ i, wx.frozen? ⟨w.heap.size + 1, i, none⟩ = false := fun i => by have := HBX.out; simp [World.frozen?, this]
      have f0 := ff 0; have f1 := ff 1; have f2 := ff 2; have f3 := ff 3
      have HBW : Hid (wx.drew.heap[w.heap.size + 1]? = some (.cells (({ sum := S, at_ := A, found := f } : BSt).cells sz) 34 (0, 0))) := HBX.out
      have HGD : Hid (w2.grownBy wx.drew (some (w.heap.size + 1))) := HGX.out.trans ⟨rfl, rfl, rfl, Nat.le_refl _, fun _ _ _ => rfl⟩
      clear hgx hg hbx HA2 HB2 d0 d1 KW ff HU HVV HX HY bp0 bp1 bk0 bk1
      by_cases hk2 : y = x
      · have e1 : decide (y = x) = true := decide_eq_true hk2
        rw [e1]
        cases f
        · have HN2 : Hid (bestA l sz (a + 1) = ⟨v2 - u, a, true⟩) := by show _ = _; rw [HNX.out]; rw [if_pos hk2]; unfold BSt.next; rw [if_pos (Or.inl rfl)]
          go_wp2_with fail
          go_roundw
          case rel => exact ⟨a + 1, by omega, by go_num, (by rw [HN2.out]; exact best_set HBX.out _ _ _), (by first | exact best_far HGX.out _ _ _ _ | exact best_far HGD.out _ _ _ _)⟩
          case measure => simp [intOf]; omega
        · by_cases hs : S < v2 - u
          · have e2 : decide (S < v2 - u) = true := decide_eq_true hs
            have HN2 : Hid (bestA l sz (a + 1) = ⟨v2 - u, a, true⟩) := by show _ = _; rw [HNX.out]; rw [if_pos hk2]; unfold BSt.next; rw [if_pos (Or.inr hs)]
            go_wp2_with fail
            go_roundw
            case rel => exact ⟨a + 1, by omega, by go_num, (by rw [HN2.out]; exact best_set HBX.out _ _ _), (by first | exact best_far HGX.out _ _ _ _ | exact best_far HGD.out _ _ _ _)⟩
            case measure => simp [intOf]; omega
          · have e2 : decide (S < v2 - u) = false := decide_eq_false hs
            have HN2 : Hid (bestA l sz (a + 1) = ⟨S, A, true⟩) := by show _ = _; rw [HNX.out]; rw [if_pos hk2]; unfold BSt.next; rw [if_neg (by simp; omega)]
            go_wp2_with fail
            go_roundw
            case rel => exact ⟨a + 1, by omega, by go_num, (by rw [HN2.out]; exact HBX.out), (by first | exact HGX.out | exact HGD.out)⟩
            case measure => simp [intOf]; omega
      · have e1 : decide (y = x) = false := decide_eq_false hk2
        rw [e1]
        have HN2 : Hid (bestA l sz (a + 1) = ⟨S, A, f⟩) := by show _ = _; rw [HNX.out]; rw [if_neg hk2]
        go_wp2_with fail
        go_roundw
        case rel => exact ⟨a + 1, by omega, by go_num, (by rw [HN2.out]; exact HBX.out), (by first | exact HGX.out | exact HGD.out)⟩
        case measure => simp [intOf]; omega
    · obtain rfl : a = l.length + 1 - sz := by omega
      have he : bestA l sz (l.length + 1 - sz) = b := (bestA_end z0).trans hb.out
      have hbx2 := hbx.out
      rw [he] at hbx2
      have HKR2 : wr.heap[w.heap.size]? = some (.cells #[.int .i64 0, .int .i64 0, .int .i64 0, .bool false] 34 (0, 0)) := (hg.out.block _ (Array.getElem?_eq_some_iff.1 HKR.out).1 (fun e => by have := Option.some.inj e; omega)).trans HKR.out
      have HGW : Hid (w.grownBy wr none) := ⟨hg.out.os.trans HG2.out.os, hg.out.tape.trans HG2.out.tape, hg.out.output.trans HG2.out.output, Nat.le_trans HG2.out.size hg.out.size, fun j hj _ => by
        rw [hg.out.block j (Nat.lt_of_lt_of_le hj HG2.out.size) (fun e => by have := Option.some.inj e; omega)]; exact HG2.out.block j hj (by simp)⟩
      obtain ⟨S, A, f⟩ := b
      have m0 : wr.cell? ⟨w.heap.size + 1, 0, none⟩ = some (.int .i64 sz) := by simp [World.cell?, hbx2]
      have m1 : wr.cell? ⟨w.heap.size + 1, 1, none⟩ = some (.int .i64 S) := by simp [World.cell?, hbx2]
      have m2 : wr.cell? ⟨w.heap.size + 1, 2, none⟩ = some (.int .i64 A) := by simp [World.cell?, hbx2]
      have m3 : wr.cell? ⟨w.heap.size + 1, 3, none⟩ = some (.bool f) := by simp [World.cell?, hbx2]
      have r0 : wr.cell? ⟨w.heap.size, 0, none⟩ = some (.int .i64 0) := by simp [World.cell?, HKR2]
      have r1 : wr.cell? ⟨w.heap.size, 1, none⟩ = some (.int .i64 0) := by simp [World.cell?, HKR2]
      have r2 : wr.cell? ⟨w.heap.size, 2, none⟩ = some (.int .i64 0) := by simp [World.cell?, HKR2]
      have r3 : wr.cell? ⟨w.heap.size, 3, none⟩ = some (.bool false) := by simp [World.cell?, HKR2]
      have ff : ∀ i, wr.frozen? ⟨w.heap.size, i, none⟩ = false := fun i => by simp [World.frozen?, HKR2]
      have f0 := ff 0; have f1 := ff 1; have f2 := ff 2; have f3 := ff 3
      clear ff hbx hbx2 HKR2 hg he
      go_wp2_with fail
      refine bodyPost_ret (v := .agg #[.int .i64 sz, .int .i64 S, .int .i64 A, .bool f]) (by simp [results, Try.results87, go_sem, r0, r1, r2, r3]) rfl ⟨rfl, ?_⟩
      exact egrown_set (egrown_set (egrown_set (egrown_set HGW.out (Nat.le_refl _) _ _) (Nat.le_refl _) _ _) (Nat.le_refl _) _ _) (Nat.le_refl _) _ _
end Go.Proofs.Ytmfnphknoclhfaa
