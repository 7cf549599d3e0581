/- The contracts of agree and follow. -/
import Derived.Test.YtfeolnlomhioaaaTKeepP
import Derived.Test.YtfeolnlomhioaaaTRWaysM
import Derived.Maps.AppendAt
import Derived.Deep.RegionHeld3
import Derived.Deep.AppendLies
import Derived.Laws.Pointers
namespace Go.Proofs.Ytfeolnlomhioaaa
open Go.RowKit

theorem own_pth {w : World} {base k : Nat} {v : Value} {g : Nat → Nat} {f : Nat} (h : w.ownsRow base 3 1 v k (pthVs g f k)) : ∃ ao cap, v = .slice ao k cap ∧ IntsC w ao k (fun j => (pth g f j : Int)) := by
  rcases h.2 with ⟨hv, h0⟩ | ⟨g', cap, cur, hv, hb, hg, rest⟩
  · subst h0
    exact ⟨none, 0, hv, fun j hj => absurd hj (by omega)⟩
  · refine ⟨some ⟨g', 0, none⟩, cap, hv, fun j hj => ⟨g', rfl, ?_⟩⟩
    have := h.cells (g := g') (by rw [hv]; rfl) j (.int .i64 (pth g f j)) (by simp [pthVs, hj])
    rcases Nat.eq_zero_or_pos j with h0 | h0
    · subst h0; simpa [Addr.add] using this
    · simpa [Addr.add, Nat.ne_of_gt h0] using this

set_option maxHeartbeats 800000 in
theorem agree_is (p q : Smp) (hp : inPlane p) (hq : inPlane q) (fast : Int) (f0 : 1 ≤ fast) (f1 : fast ≤ 100000) (t0 : 0 ≤ q.t - p.t) (t1 : q.t - p.t ≤ 1000000) (w : World) {b : Bool} (h : Hid (agr p q fast = b)) :
    Calls Try.prog 74 #[.agg #[.int .i64 p.t, .int .i64 p.x, .int .i64 p.y, .int .i64 p.z, .int .i64 p.p, .int .i64 p.q, .int .i64 p.s], .agg #[.int .i64 q.t, .int .i64 q.x, .int .i64 q.y, .int .i64 q.z, .int .i64 q.p, .int .i64 q.q, .int .i64 q.s], .int .i64 fast] w fun e w' => e = .returned (.bool b) ∧ w.grownBy w' none := by
  have hb := far_bd f0 f1 t0 t1
  have hs := sqP_bd hp hq
  have hv := h.out
  unfold agr at hv
  have hF0 : fast * (q.t - p.t) = farV p q fast := rfl
  obtain ⟨F, hF⟩ : ∃ F, farV p q fast = F := ⟨_, rfl⟩
  obtain ⟨S, hS⟩ : ∃ S, sqP p q = S := ⟨_, rfl⟩
  rw [hF] at hv hb hF0
  rw [hS] at hv hs
  have hm : 0 ≤ min F 300000000 ∧ min F 300000000 ≤ 300000000 := by omega
  obtain ⟨M, hM⟩ : ∃ M, min F 300000000 = M := ⟨_, rfl⟩
  have hM' : (if F < 300000000 then F else 300000000) = M := by rw [← hM]; split <;> omega
  rw [hM] at hv hm
  have hsq := sq_up hm.1 hm.2
  have hsq0 := Int.mul_nonneg hm.1 hm.1
  obtain ⟨Q, hQ⟩ : ∃ Q, M * M = Q := ⟨_, rfl⟩
  rw [hQ] at hv hsq hsq0
  obtain ⟨d, hd⟩ : ∃ d, q.t - p.t = d := ⟨_, rfl⟩
  rw [hd] at hF0 t0 t1
  have rd : IntKind.i64.wrap (q.t - p.t) = d := by rw [hd]; exact IntWalk.i64_in _ (by omega)
  have rF : IntKind.i64.wrap (fast * d) = F := by rw [hF0]; exact IntWalk.i64_in _ (by omega)
  have rQ : IntKind.i64.wrap (M * M) = Q := by rw [hQ]; exact IntWalk.i64_in _ (by omega)
  have HV := Lib.hid hv; have HS := Lib.hid hS; have HP := Lib.hid hp; have HQ := Lib.hid hq
  clear hv hS hp hq hd hF hF0 hM h hsq hsq0 f0 f1 hs hb hm t0 t1
  obtain ⟨pt, px, py, pz, pp, pq, ps⟩ := p
  obtain ⟨qt, qx, qy, qz, qp, qq, qs⟩ := q
  simp only at rd ⊢
  by_cases c : F < 300000000
  · obtain rfl : F = M := by rw [← hM', if_pos c]
    clear hM' hQ
    go_enter Try.func74, Try.ntmps74
    go_wp2_with fail
    refine (square_is ⟨pt, px, py, pz, pp, pq, ps⟩ ⟨qt, qx, qy, qz, qp, qq, qs⟩ HP.out HQ.out _ HS).mono ?_; rintro e w1 ⟨rfl, hg1⟩
    have G1 := grown_trans (grown_trans (World.grownBy_alloc w (.cells #[.int .i64 pt, .int .i64 px, .int .i64 py, .int .i64 pz, .int .i64 pp, .int .i64 pq, .int .i64 ps] 38) none) (World.grownBy_alloc _ (.cells #[.int .i64 qt, .int .i64 qx, .int .i64 qy, .int .i64 qz, .int .i64 qp, .int .i64 qq, .int .i64 qs] 38) none)) hg1
    clear hg1
    go_wp2_with fail
    go_ret
    exact ⟨ret_bool HV.out, G1⟩
  · obtain rfl : 300000000 = M := by rw [← hM', if_neg c]
    obtain rfl : Q = 90000000000000000 := by rw [← hQ]; rfl
    clear hM' hQ
    by_cases c2 : 300000000 < F
    · go_enter Try.func74, Try.ntmps74
      go_wp2_with fail
      refine (square_is ⟨pt, px, py, pz, pp, pq, ps⟩ ⟨qt, qx, qy, qz, qp, qq, qs⟩ HP.out HQ.out _ HS).mono ?_; rintro e w1 ⟨rfl, hg1⟩
      have G1 := grown_trans (grown_trans (World.grownBy_alloc w (.cells #[.int .i64 pt, .int .i64 px, .int .i64 py, .int .i64 pz, .int .i64 pp, .int .i64 pq, .int .i64 ps] 38) none) (World.grownBy_alloc _ (.cells #[.int .i64 qt, .int .i64 qx, .int .i64 qy, .int .i64 qz, .int .i64 qp, .int .i64 qq, .int .i64 qs] 38) none)) hg1
      clear hg1
      go_wp2_with fail
      go_ret
      exact ⟨ret_bool HV.out, G1⟩
    · obtain rfl : F = 300000000 := by omega
      go_enter Try.func74, Try.ntmps74
      go_wp2_with fail
      refine (square_is ⟨pt, px, py, pz, pp, pq, ps⟩ ⟨qt, qx, qy, qz, qp, qq, qs⟩ HP.out HQ.out _ HS).mono ?_; rintro e w1 ⟨rfl, hg1⟩
      have G1 := grown_trans (grown_trans (World.grownBy_alloc w (.cells #[.int .i64 pt, .int .i64 px, .int .i64 py, .int .i64 pz, .int .i64 pp, .int .i64 pq, .int .i64 ps] 38) none) (World.grownBy_alloc _ (.cells #[.int .i64 qt, .int .i64 qx, .int .i64 qy, .int .i64 qz, .int .i64 qp, .int .i64 qq, .int .i64 qs] 38) none)) hg1
      clear hg1
      go_wp2_with fail
      go_ret
      exact ⟨ret_bool HV.out, G1⟩

/-- How far a list can still go. -/
def mK (n : Nat) (v : Value) : Nat := if intOf v < 0 then 0 else n - (intOf v).toNat
theorem mK_lt {n x y : Nat} (h : x < n) (h1 : x < y) (h2 : y ≤ n) : mK n (.int .i64 (encM n y)) < mK n (.int .i64 (x : Int)) := by
  have e : mK n (.int .i64 (x : Int)) = n - x := by unfold mK intOf; simp; omega
  rw [e]
  rcases Nat.lt_or_ge y n with q | q
  · have : encM n y = (y : Int) := by unfold encM; rw [if_neg (by omega)]
    rw [this]
    have e2 : mK n (.int .i64 (y : Int)) = n - y := by unfold mK intOf; simp; omega
    rw [e2]; omega
  · obtain rfl : y = n := by omega
    have : mK y (.int .i64 (encM y y)) = 0 := by unfold mK intOf encM; simp
    rw [this]; omega

set_option maxRecDepth 100000 in
set_option maxHeartbeats 1600000 in
theorem follow_any (R n : Nat) (hn : n ≤ 20000) (g : Nat → Nat) (HG : Hid (∀ k, k < n → k < g k ∧ g k ≤ n)) (f : Nat) (hf : f ≤ n) (w : World) {G : Nat → Int} (hr : RowAt w R n G) (HE : Hid (∀ k, k < n → G k = encM n (g k))) :
    Calls Try.prog 75 #[.slice (some ⟨R, 0, none⟩) n n, .int .i64 (encM n f)] w fun x w' => (∃ v k, x = .returned v ∧ PthEnd n g f k ∧ w'.ownsRow w.heap.size 3 1 v k (pthVs g f k)) ∧ w.grownBy w' none := by
  obtain ⟨i0, hi, hz0, hz1, hz2⟩ := info_parts info_int
  have HI := Lib.hid hi; have HZ0 := Lib.hid hz0; have HZ1 := Lib.hid hz1; have HZ2 := Lib.hid hz2
  have HR := Lib.hid hr; have HF := Lib.hid hf
  clear hi hz0 hz1 hz2 hr hf
  go_enter Try.func75, Try.ntmps75
  go_wp2_with fail
  go_loopw [5, 6] (fun lv iv wr => ∃ (k x : Nat) (v : Value), v = lv ∧ Hid (pth g f k = x) ∧ iv = .int .i64 (encM n x) ∧ k ≤ x ∧ x ≤ n ∧ Hid (∀ j, j < k → pth g f j < n) ∧ Hid (wr.ownsRow w.heap.size 3 1 v k (pthVs g f k)) ∧ Hid (w.grownBy wr none))
    (fun _ iv _ => mK n iv)
  case atStart => exact ⟨0, f, _, rfl, rfl, rfl, Nat.zero_le _, HF.out, fun j hj => absurd hj (Nat.not_lt_zero _), World.ownsRow_nil _ _ _ _, grown_refl _ _⟩
  case round =>
    obtain ⟨k, x, v, rfl, hx, rfl, hk, hxn, hall, hown, hg⟩ := hrel
    by_cases hlt : x < n
    · have ex : encM n x = (x : Int) := by unfold encM; rw [if_neg (by omega)]
      have hgx := HG.out x hlt
      have hall2 : Hid (∀ j, j < k + 1 → pth g f j < n) := fun j hj => by
        rcases Nat.lt_or_ge j k with q | q
        · exact hall.out j q
        · obtain rfl : j = k := by omega
          rw [hx.out]; exact hlt
      have hx2 : Hid (pth g f (k + 1) = g x) := by show g (pth g f k) = g x; rw [hx.out]
      have hvs : Hid (pthVs g f (k + 1) = pthVs g f k ++ [.int .i64 (x : Int)]) := by show _ = _; rw [pthVs_succ, hx.out]
      have cG := RowAt.cell (HR.out.grown hg.out) hlt
      rw [HE.out x hlt] at cG
      obtain ⟨y, hy⟩ : ∃ y, g x = y := ⟨_, rfl⟩
      rw [hy] at cG hgx hx2
      have HCG : Hid (wr.cell? ⟨R, x, none⟩ = some (.int .i64 (encM n y))) := cG
      have hlt2 := hown.out.lt
      have HCN : Hid (∀ j u, [Value.int .i64 (x : Int)][j]? = some u → (wr.alloc (.cells #[.int .i64 (x : Int)] 3)).cell? ((⟨wr.heap.size, 0, none⟩ : Addr).add j) = some u) := cell_one_new wr (.int .i64 (x : Int)) 3
      have hi := HI.out; have hz0 := HZ0.out; have hz1 := HZ1.out; have hz2 := HZ2.out
      have HSZ : Hid (w.heap.size ≤ wr.heap.size) := hg.out.size
      have HLR : Hid (R < wr.heap.size ∧ R < w.heap.size) := ⟨lt_of_block (HR.out.grown hg.out), lt_of_block HR.out⟩
      rw [ex]
      have x0 : (0 : Int) ≤ (x : Int) := by omega
      clear cG hall hx hy
      go_wp2_with (at_builtin; refine wpList_append_own _ rfl _ _ 45 rfl w.heap.size 3 i0 (.int .i64 0) 1 8 Try.underlying45 hi hz0 hz1 hz2 rfl (by decide) _ _ _ rfl (hown.out.alloc _) ⟨wr.heap.size, 0, none⟩ 1 1 [.int .i64 (x : Int)] rfl rfl (HCN.out) (by intro u hu; simp at hu; subst hu; rfl) (by unfold maxLen; omega) (by omega) (by have := HSZ.out; simp at *; omega) ?_; intro v' w2 hown' hgrow' _; have cG2 : w2.cell? ⟨R, x, none⟩ = some (.int .i64 (encM n y)) := (World.cell?_of_block (a := ⟨R, x, none⟩) (hgrow'.block R (by have := HLR.out; simp; omega) (fun e => by have := (hlt2 _ e.symm).1; have := HLR.out; omega))).trans (grown_cell (World.grownBy_alloc _ _ _) HCG.out))
      have HO2 : Hid (w2.ownsRow w.heap.size 3 1 v' (k + 1) (pthVs g f (k + 1))) := by
        show World.ownsRow _ _ _ _ _ _ _; rw [hvs.out]; exact hown'
      have G2 : Hid (w.grownBy w2 none) := grown_own hg.out hgrow' (fun q e => (hlt2 q e).1)
      have rxx : ((x : Int)).toNat = x := by omega
      have xn : (x : Int) < (n : Int) := by omega
      clear hown hown' hgrow' hlt2 hg
      go_wp2_with fail
      go_roundw
      case rel => exact ⟨k + 1, y, _, rfl, hx2.out, rfl, by omega, by omega, hall2.out, HO2.out, G2.out⟩
      case measure => exact mK_lt hlt hgx.1 hgx.2
    · obtain rfl : x = n := by omega
      have ex : encM x x = -1 := by unfold encM; rw [if_pos rfl]
      have HEND : Hid (PthEnd x g f k) := ⟨hall.out, hx.out⟩
      rw [ex]
      clear hall hx
      go_wp2_with fail
      go_ret
      exact ⟨⟨_, k, rfl, HEND.out, hown.out⟩, hg.out⟩
end Go.Proofs.Ytfeolnlomhioaaa
