/- The contract of the reference's Simple where there is an answer: the walk. -/
import Derived.Test.YtgkhhfojioepgaaTKFar
import Derived.Test.YtgkhhfojioepgaaTRFewest
namespace Go.Proofs.Ytgkhhfojioepgaa
open Go.RowKit
set_option linter.unusedSimpArgs false
set_option linter.unusedVariables false

def natVs (l : List Nat) : List Value := l.map fun x => .int .i64 (x : Nat)
theorem natVs_len (l : List Nat) : (natVs l).length = l.length := by simp [natVs]
noncomputable def kepL (ss : List Smp) (M : Int) (k : Nat) : List Nat := (List.range k).filter (kepB ss M)
theorem kepL_len (ss : List Smp) (M : Int) (k : Nat) : (kepL ss M k).length ≤ k := by
  have := List.length_filter_le (kepB ss M) (List.range k)
  unfold kepL; simpa using this
theorem kepL_yes {ss : List Smp} {M : Int} {k : Nat} (h : kepB ss M k = true) : kepL ss M (k + 1) = kepL ss M k ++ [k] := by
  unfold kepL; rw [List.range_succ, List.filter_append]; simp [h]
theorem kepL_no {ss : List Smp} {M : Int} {k : Nat} (h : kepB ss M k = false) : kepL ss M (k + 1) = kepL ss M k := by
  unfold kepL; rw [List.range_succ, List.filter_append]; simp [h]

set_option maxRecDepth 100000 in
set_option maxHeartbeats 4000000 in
theorem rSimple_ok (nm : ByteArray) (sp st : Int) (b off sc : Nat) (ss : List Smp) (lo : Option Addr) (lc : Nat) (ls : List LapV) (to_ : Option Addr) (tc : Nat) (ts : List ByteArray) (most : Int) (m0 : 0 ≤ most) (m1 : most ≤ 100000000) (hl : (ss.length : Int) ≤ 5000) (hn1 : 1 ≤ ss.length) (w : World)
    (HA : Hid (ActAt w ⟨nm, sp, st, some ⟨b, off, none⟩, sc, ss, lo, lc, ls, to_, tc, ts⟩)) (HCE : Hid (chkE ⟨nm, sp, st, some ⟨b, off, none⟩, sc, ss, lo, lc, ls, to_, tc, ts⟩ = 0)) (HS : Hid (SOk ss)) :
    Calls Try.prog 41 #[.agg #[.string nm, .int .i64 sp, .int .i64 st, .slice (some ⟨b, off, none⟩) ss.length sc, .slice lo ls.length lc, .slice to_ ts.length tc], .int .i64 most] w fun x w' => (∃ v, x = .returned (.tuple #[v, .int .i64 0]) ∧ w'.ownsRow w.heap.size 3 1 v (simL ss (most * most)).length (natVs (simL ss (most * most)))) ∧ w.grownBy w' none := by
  have hll : ss.length ≤ 5000 := by omega
  have hmk := run_make_row' (P := Try.prog) 89 4 (.bool false) 1 Try.underlying89 info_mark rfl .i64 .i64 ss.length (by omega) (by omega)
  obtain ⟨la, hla⟩ : ∃ la : Nat, ss.length = la + 1 := ⟨ss.length - 1, by omega⟩
  have HLA := Lib.hid hla
  have hla3 : (ss.length : Int) - 1 = (la : Int) := by omega
  have rlen1 : IntKind.i64.wrap ((ss.length : Int) - 1) = (la : Int) := by rw [hla3]; exact IntWalk.i64_in _ (by omega)
  have hlan : la < ss.length := by omega
  have hla1 : (la : Int) < (ss.length : Int) := by omega
  have hla0 : (0 : Int) ≤ (la : Int) := by omega
  have hpos : decide ((0 : Int) < (ss.length : Int)) = true := by rw [decide_eq_true_iff]; omega
  have hpos2 : (0 : Int) < (ss.length : Int) := by omega
  clear hla
  go_enter Try.func41, Try.ntmps41
  go_wp2_with fail
  refine (rcheck_any ⟨nm, sp, st, some ⟨b, off, none⟩, sc, ss, lo, lc, ls, to_, tc, ts⟩ _ (HA.out.grown (World.grownBy_alloc _ _ _)) HCE).mono ?_; rintro e w1 ⟨rfl, hg1⟩
  have G1 : w.grownBy w1 none := grown_trans (World.grownBy_alloc w (.cells #[.string nm, .int .i64 sp, .int .i64 st, .slice (some ⟨b, off, none⟩) ss.length sc, .slice lo ls.length lc, .slice to_ ts.length tc] 26) none) hg1
  have b3 : w1.cell? ⟨w.heap.size, 3, none⟩ = some (.slice (some ⟨b, off, none⟩) ss.length sc) := grown_cell hg1 (by go_simp)
  have hR0 : w.heap.size < w1.heap.size := by have := hg1.size; simp at this; omega
  have HAS := Lib.hid (HA.out.hs.grown G1)
  clear hg1
  have GW := Lib.hid G1
  have HR0 : Hid (w.heap.size < w1.heap.size) := hR0
  have HB3 := Lib.hid b3
  clear G1 hR0
  go_wp2_with fail
  refine (rout_no _ _ _ m0 m1 _).mono ?_; rintro e w2 ⟨rfl, rfl⟩
  have hcap : decide ((5000 : Int) < (ss.length : Int)) = false := by simp; omega
  have HMK : Hid (MkAt (w1.alloc (.cells (madeCells #[.bool false] ss.length) 4)) w1.heap.size ss.length (fun _ => false)) := by
    show _ = _
    rw [heap_alloc_new, kRow_zero]
  have HBK := Lib.hid ((Below.refl w1.heap.size w1).alloc (Nat.le_refl _) (.cells (madeCells #[.bool false] ss.length) 4))
  go_upto_region 11 with (fail)
  obtain ⟨g, hg⟩ : ∃ g, w1.heap.size = g := ⟨_, rfl⟩
  try rw [hg]
  rw [hg] at HMK
  generalize w1.alloc (.cells (madeCells #[.bool false] ss.length) 4) = W2 at *
  clear b3 hmk
  have hg0 : w1.heap.size ≤ g := by omega
  have HGE := Lib.hid hg
  clear hg
  have c0 := HMK.out.cell (k := 0) (by omega)
  have fr0 := HMK.out.free 0
  have M1 := Lib.hid (HMK.out.set 0 true)
  have c1 := M1.out.cell (k := la) hlan
  have fr1 := M1.out.free la
  have M2 := Lib.hid (M1.out.set la true)
  have B2 := Lib.hid ((HBK.out.setCell (p := ⟨g, 0, none⟩) hg0 (.bool true)).setCell (p := ⟨g, la, none⟩) hg0 (.bool true))
  have b33 : ((W2.setCell ⟨g, 0, none⟩ (.bool true)).setCell ⟨g, la, none⟩ (.bool true)).cell? ⟨w.heap.size, 3, none⟩ = some (.slice (some ⟨b, off, none⟩) ss.length sc) := (B2.out.cell (p := ⟨w.heap.size, 3, none⟩) HR0.out).trans HB3.out
  have KF := Lib.hid (kfar_all b off sc ss HS most m0 m1 w1 HAS g hg0 la 0 la (by omega) (Nat.zero_le _) hlan)
  go_wp2_with fail
  refine (KF.out _ _ B2.out M2.out).mono ?_; rintro e w5 ⟨rfl, hb5, hm5⟩
  have B5 := Lib.hid hb5
  have M5 : Hid (MkAt w5 g ss.length (kepB ss (most * most))) := by
    refine hm5.congr (fun k _ => ?_)
    have := HLA.out
    unfold kepB updK
    rw [show ss.length - 1 = la by omega]
    by_cases e1 : k = 0
    · subst e1; by_cases e2 : (0 : Nat) = la <;> simp [e2]
    · by_cases e2 : k = la
      · subst e2; simp
      · simp [e1, e2]
  obtain ⟨M, hM⟩ : ∃ M, most * most = M := ⟨_, rfl⟩
  have HMM := Lib.hid hM
  have HQ0 := Lib.hid (sq_most m0 m1).1
  rw [hM] at M5 HQ0
  clear hb5 hm5 c0 c1 fr0 fr1 b33 hM
  obtain ⟨i0, hi, hz0, hz1, hz2⟩ := info_parts info_int
  have HI := Lib.hid hi; have HZ0 := Lib.hid hz0; have HZ1 := Lib.hid hz1; have HZ2 := Lib.hid hz2
  have HGB : Hid (g < w5.heap.size) := M5.out.lt
  have HL := Lib.hid hll
  clear hi hz0 hz1 hz2
  go_wp2_with fail
  go_loopw [9, 43] (fun lv iv wl => ∃ (k : Nat) (v : Value), v = lv ∧ iv = .int .i64 (k : Nat) ∧ k ≤ ss.length ∧ Hid (wl.ownsRow w5.heap.size 3 1 v (kepL ss M k).length (natVs (kepL ss M k))) ∧ Hid (w5.grownBy wl none))
    (fun _ iv _ => ss.length - (intOf iv).toNat)
  case atStart => exact ⟨0, _, rfl, rfl, Nat.zero_le _, World.ownsRow_nil _ _ _ _, grown_refl _ _⟩
  case round =>
    obtain ⟨k, v, rfl, rfl, hk, hown, hg⟩ := hrel
    by_cases hlt : k < ss.length
    · have hkn : (k : Int) < (ss.length : Int) := by omega
      have hk0 : (0 : Int) ≤ (k : Int) := by omega
      have rk : IntKind.i64.wrap ((k : Int) + 1) = (k : Int) + 1 := IntWalk.i64_in _ (by omega)
      have ck := (M5.out.grown hg.out).cell (k := k) hlt
      obtain ⟨bb, hbb⟩ : ∃ bb, kepB ss M k = bb := ⟨_, rfl⟩
      rw [hbb] at ck
      have HBB := Lib.hid hbb
      clear hbb
      cases bb with
      | false =>
        have HO2 : Hid (wr.ownsRow w5.heap.size 3 1 v (kepL ss M (k + 1)).length (natVs (kepL ss M (k + 1)))) := by
          show World.ownsRow _ _ _ _ _ _ _; rw [kepL_no HBB.out]; exact hown.out
        clear hown
        go_wp2_with fail
        go_roundw
        case rel => exact ⟨k + 1, _, rfl, by go_num, by omega, HO2, hg⟩
        case measure => simp [intOf]; omega
      | true =>
        have hcl := kepL_len ss M k
        have hvs : Hid (natVs (kepL ss M (k + 1)) = natVs (kepL ss M k) ++ [.int .i64 (k : Int)]) := by show _ = _; rw [kepL_yes HBB.out]; simp [natVs]
        have hle : Hid ((kepL ss M (k + 1)).length = (kepL ss M k).length + 1) := by show _ = _; rw [kepL_yes HBB.out]; simp
        obtain ⟨c, hc⟩ : ∃ c, (kepL ss M k).length = c := ⟨_, rfl⟩
        rw [hc] at hcl hle hown
        obtain ⟨vs, hvq⟩ : ∃ vs, natVs (kepL ss M k) = vs := ⟨_, rfl⟩
        rw [hvq] at hvs hown
        have hlt2 := hown.out.lt
        have HCN : Hid (∀ j u, [Value.int .i64 (k : Int)][j]? = some u → (wr.alloc (.cells #[.int .i64 (k : Int)] 3)).cell? ((⟨wr.heap.size, 0, none⟩ : Addr).add j) = some u) := cell_one_new wr (.int .i64 (k : Int)) 3
        have hi := HI.out; have hz0 := HZ0.out; have hz1 := HZ1.out; have hz2 := HZ2.out
        have HSZ : Hid (w5.heap.size ≤ wr.heap.size) := hg.out.size
        clear hc hvq
        go_wp2_with (at_builtin; refine wpList_append_own _ rfl _ _ 48 rfl w5.heap.size 3 i0 (.int .i64 0) 1 8 Try.underlying48 hi hz0 hz1 hz2 rfl (by decide) _ _ _ rfl (hown.out.alloc _) ⟨wr.heap.size, 0, none⟩ 1 1 [.int .i64 (k : Int)] rfl rfl (HCN.out) (by intro u hu; simp at hu; subst hu; rfl) (by unfold maxLen; omega) (by omega) (by have := HSZ.out; simp at *; omega) ?_; intro v' w2 hown' hgrow' _)
        have HO2 : Hid (w2.ownsRow w5.heap.size 3 1 v' (kepL ss M (k + 1)).length (natVs (kepL ss M (k + 1)))) := by
          show World.ownsRow _ _ _ _ _ _ _; rw [hvs.out, hle.out]; exact hown'
        have G2 : Hid (w5.grownBy w2 none) := grown_own hg.out hgrow' (fun q e => (hlt2 q e).1)
        clear hown hown' hgrow' hlt2 hg
        go_wp2_with fail
        go_roundw
        case rel => exact ⟨k + 1, _, rfl, by go_num, by omega, HO2, G2⟩
        case measure => simp [intOf]; omega
    · obtain rfl : k = ss.length := by omega
      have HFIN : Hid (kepL ss M ss.length = simL ss M) := simL_filter HS.out HQ0.out
      have HOF : Hid (wr.ownsRow w.heap.size 3 1 v (simL ss M).length (natVs (simL ss M))) := by
        show World.ownsRow _ _ _ _ _ _ _
        rw [← HFIN.out]
        exact own_low2 hown.out (by have := B5.out.size; have := HR0.out; omega)
      have GF : Hid (w.grownBy wr none) := grown_trans (grown_trans GW.out (grown_below B5.out)) hg.out
      clear hown hg
      go_wp2_with fail
      go_ret2
      exact ⟨⟨_, rfl, by rw [HMM.out]; exact HOF.out⟩, GF.out⟩
end Go.Proofs.Ytgkhhfojioepgaa
