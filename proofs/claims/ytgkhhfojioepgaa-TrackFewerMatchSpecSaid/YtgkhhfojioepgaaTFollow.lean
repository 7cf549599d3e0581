/- The contract of follow. -/
import Derived.Test.YtgkhhfojioepgaaTKeepP
import Derived.Test.YtgkhhfojioepgaaTRWaysM
import Derived.Maps.AppendAt
import Derived.Deep.RegionHeld3
import Derived.Deep.AppendLies
import Derived.Laws.Pointers
namespace Go.Proofs.Ytgkhhfojioepgaa
open Go.RowKit
set_option linter.unusedSimpArgs false
set_option linter.unusedVariables false

theorem own_pth {w : World} {base k : Nat} {v : Value} {g : Nat → Nat} {f : Nat} (h : w.ownsRow base 3 1 v k (pthVs g f k)) : ∃ ao cap, v = .slice ao k cap ∧ IntsC w ao k (fun j => (pth g f j : Int)) := by
  rcases h.2 with ⟨hv, h0⟩ | ⟨g', cap, cur, hv, hb, hg, rest⟩
  · subst h0
    exact ⟨none, 0, hv, fun j hj => absurd hj (by omega)⟩
  · refine ⟨some ⟨g', 0, none⟩, cap, hv, fun j hj => ⟨g', rfl, ?_⟩⟩
    have := h.cells (g := g') (by rw [hv]; rfl) j (.int .i64 (pth g f j)) (by simp [pthVs, hj])
    rcases Nat.eq_zero_or_pos j with h0 | h0
    · subst h0; simpa [Addr.add] using this
    · simpa [Addr.add, Nat.ne_of_gt h0] using this

/-- How far a list can still go. -/
def mK (n : Nat) (v : Value) : Nat := if intOf v < 0 then 0 else n - (intOf v).toNat
theorem mK_lt {n x y : Nat} (h : x < n) (h1 : x < y) (h2 : y ≤ n) : mK n (.int .i64 (encM n y)) < mK n (.int .i64 (x : Int)) := by
  have e : mK n (.int .i64 (x : Int)) = n - x := by unfold mK intOf; simp; omega
  rw [e]
  rcases Nat.lt_or_ge y n with q | q
  · have : encM n y = (y : Int) := by unfold encM; rw [if_neg (by omega)]
    rw [this]
    have e2 : mK n (.int .i64 (y : Int)) = n - y := by unfold mK intOf; simp; omega
    rw [e2]; omega
  · obtain rfl : y = n := by omega
    have : mK y (.int .i64 (encM y y)) = 0 := by unfold mK intOf encM; simp
    rw [this]; omega

set_option maxRecDepth 100000 in
set_option maxHeartbeats 1600000 in
theorem follow_any (R n : Nat) (hn : n ≤ 20000) (g : Nat → Nat) (HG : Hid (∀ k, k < n → k < g k ∧ g k ≤ n)) (f : Nat) (hf : f ≤ n) (w : World) {G : Nat → Int} (hr : RowAt w R n G) (HE : Hid (∀ k, k < n → G k = encM n (g k))) :
    Calls Try.prog 103 #[.slice (some ⟨R, 0, none⟩) n n, .int .i64 (encM n f)] w fun x w' => (∃ v k, x = .returned v ∧ PthEnd n g f k ∧ w'.ownsRow w.heap.size 3 1 v k (pthVs g f k)) ∧ w.grownBy w' none := by
  obtain ⟨i0, hi, hz0, hz1, hz2⟩ := info_parts info_int
  have HI := Lib.hid hi; have HZ0 := Lib.hid hz0; have HZ1 := Lib.hid hz1; have HZ2 := Lib.hid hz2
  have HR := Lib.hid hr; have HF := Lib.hid hf
  clear hi hz0 hz1 hz2 hr hf
  go_enter Try.func103, Try.ntmps103
  go_wp2_with fail
  go_loopw [5, 6] (fun lv iv wr => ∃ (k x : Nat) (v : Value), v = lv ∧ Hid (pth g f k = x) ∧ iv = .int .i64 (encM n x) ∧ k ≤ x ∧ x ≤ n ∧ Hid (∀ j, j < k → pth g f j < n) ∧ Hid (wr.ownsRow w.heap.size 3 1 v k (pthVs g f k)) ∧ Hid (w.grownBy wr none))
    (fun _ iv _ => mK n iv)
  case atStart => exact ⟨0, f, _, rfl, rfl, rfl, Nat.zero_le _, HF.out, fun j hj => absurd hj (Nat.not_lt_zero _), World.ownsRow_nil _ _ _ _, grown_refl _ _⟩
  case round =>
    obtain ⟨k, x, v, rfl, hx, rfl, hk, hxn, hall, hown, hg⟩ := hrel
    by_cases hlt : x < n
    · have ex : encM n x = (x : Int) := by unfold encM; rw [if_neg (by omega)]
      have hgx := HG.out x hlt
      have hall2 : Hid (∀ j, j < k + 1 → pth g f j < n) := fun j hj => by
        rcases Nat.lt_or_ge j k with q | q
        · exact hall.out j q
        · obtain rfl : j = k := by omega
          rw [hx.out]; exact hlt
      have hx2 : Hid (pth g f (k + 1) = g x) := by show g (pth g f k) = g x; rw [hx.out]
      have hvs : Hid (pthVs g f (k + 1) = pthVs g f k ++ [.int .i64 (x : Int)]) := by show _ = _; rw [pthVs_succ, hx.out]
      have cG := RowAt.cell (HR.out.grown hg.out) hlt
      rw [HE.out x hlt] at cG
      obtain ⟨y, hy⟩ : ∃ y, g x = y := ⟨_, rfl⟩
      rw [hy] at cG hgx hx2
      have HCG : Hid (wr.cell? ⟨R, x, none⟩ = some (.int .i64 (encM n y))) := cG
      have hlt2 := hown.out.lt
      have HCN : Hid (∀ j u, [Value.int .i64 (x : Int)][j]? = some u → (wr.alloc (.cells #[.int .i64 (x : Int)] 3)).cell? ((⟨wr.heap.size, 0, none⟩ : Addr).add j) = some u) := cell_one_new wr (.int .i64 (x : Int)) 3
      have hi := HI.out; have hz0 := HZ0.out; have hz1 := HZ1.out; have hz2 := HZ2.out
      have HSZ : Hid (w.heap.size ≤ wr.heap.size) := hg.out.size
      have HLR : Hid (R < wr.heap.size ∧ R < w.heap.size) := ⟨lt_of_block (HR.out.grown hg.out), lt_of_block HR.out⟩
      rw [ex]
      have x0 : (0 : Int) ≤ (x : Int) := by omega
      clear cG hall hx hy
      go_wp2_with (at_builtin; refine wpList_append_own _ rfl _ _ 48 rfl w.heap.size 3 i0 (.int .i64 0) 1 8 Try.underlying48 hi hz0 hz1 hz2 rfl (by decide) _ _ _ rfl (hown.out.alloc _) ⟨wr.heap.size, 0, none⟩ 1 1 [.int .i64 (x : Int)] rfl rfl (HCN.out) (by intro u hu; simp at hu; subst hu; rfl) (by unfold maxLen; omega) (by omega) (by have := HSZ.out; simp at *; omega) ?_; intro v' w2 hown' hgrow' _; have cG2 : w2.cell? ⟨R, x, none⟩ = some (.int .i64 (encM n y)) := (World.cell?_of_block (a := ⟨R, x, none⟩) (hgrow'.block R (by have := HLR.out; simp; omega) (fun e => by have := (hlt2 _ e.symm).1; have := HLR.out; omega))).trans (grown_cell (World.grownBy_alloc _ _ _) HCG.out))
      have HO2 : Hid (w2.ownsRow w.heap.size 3 1 v' (k + 1) (pthVs g f (k + 1))) := by
        show World.ownsRow _ _ _ _ _ _ _; rw [hvs.out]; exact hown'
      have G2 : Hid (w.grownBy w2 none) := grown_own hg.out hgrow' (fun q e => (hlt2 q e).1)
      have rxx : ((x : Int)).toNat = x := by omega
      have xn : (x : Int) < (n : Int) := by omega
      clear hown hown' hgrow' hlt2 hg
      go_wp2_with fail
      go_roundw
      case rel => exact ⟨k + 1, y, _, rfl, hx2.out, rfl, by omega, by omega, hall2.out, HO2.out, G2.out⟩
      case measure => exact mK_lt hlt hgx.1 hgx.2
    · obtain rfl : x = n := by omega
      have ex : encM x x = -1 := by unfold encM; rw [if_pos rfl]
      have HEND : Hid (PthEnd x g f k) := ⟨hall.out, hx.out⟩
      rw [ex]
      clear hall hx
      go_wp2_with fail
      go_ret
      exact ⟨⟨_, k, rfl, HEND.out, hown.out⟩, hg.out⟩
end Go.Proofs.Ytgkhhfojioepgaa
