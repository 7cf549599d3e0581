/- The stable sort over rows of structs: a merge with one on the right. -/
import Derived.Test.YtfeefijaahjheaaBstIns
namespace Go.Proofs.Ytfeefijaahjheaa
open Go.RowKit
set_option linter.unusedSimpArgs false
set_option linter.unusedVariables false

set_option maxRecDepth 100000 in
set_option maxHeartbeats 3200000 in
theorem bst_merge_right {w0 : World} {g off n G : Nat} {CB : Array Value} {cf : Nat → Nat → Int} {key : Nat → Int} {e0 : Nat → Int} {e1 : Nat → Int} {e2 : Nat → Int} {e3 : Nat → Bool} {W : World} {f : Nat → Nat} (B : Hid (SBase Try.prog (bst_E e0 e1 e2 e3) 4 n g off w0 G CB cf key)) (h : Hid (SorK (bst_E e0 e1 e2 e3) 4 n g off w0 f W)) {a m : Nat} (hb : m + 1 ≤ n) (hruns : Hid (Runs key f a m (m + 1))) (b : Int) (hbm : b = (m : Int) + 1) (ham : a + 1 < m) (cap : Nat) :
    Calls Try.prog 103 #[.slice (some ⟨g, off, none⟩) n cap, .int .i64 (a : Int), .int .i64 (m : Int), .int .i64 b, .func (.func G) #[] CB] W fun e w' => e = .returned (.tuple #[]) ∧ ∃ f', Hid (SorK (bst_E e0 e1 e2 e3) 4 n g off w0 f' w') ∧ Hid (Mv a (m + 1) f f' ∧ Srt key f' a (m + 1)) := by
  have hn := B.out.hn
  have eg := B.out.eg
  have mixed : Try.prog.follows .mixedOrders = true := by kernel_rfl
  have hq0 : ((m : Int) - (a : Int) == 1) = false := by simp; omega
  have hq : b - (m : Int) = 1 := by omega
  obtain ⟨B2, hB⟩ : ∃ B2 : Nat, B2 = m + 1 := ⟨_, rfl⟩
  have hbB : b = (B2 : Int) := by omega
  subst hbB
  have hB1 : B2 ≤ 20000 := by omega
  clear hbm hB
  go_enter Try.func103, Try.ntmps103
  go_wp2
  go_loopw [14, 15] (fun iv jv wr => ∃ (i j : Nat), a ≤ i ∧ i ≤ j ∧ j ≤ m ∧ iv = .int .i64 i ∧ jv = .int .i64 j ∧ Hid (SorK (bst_E e0 e1 e2 e3) 4 n g off w0 f wr) ∧ Hid (i = a ∨ Bef key (f (i - 1)) (f m)) ∧ Hid (j = m ∨ Bef key (f m) (f j))) (fun iv jv _ => (intOf jv).toNat - (intOf iv).toNat)
  case atStart => exact ⟨a, m, Nat.le_refl _, by omega, Nat.le_refl _, rfl, rfl, h, .inl rfl, .inl rfl⟩
  case round =>
    obtain ⟨i, j, hi, hij, hj, rfl, rfl, hs, hl, hr⟩ := hrel
    clear h
    by_cases hlt : i < j
    · obtain ⟨H, hH⟩ : ∃ H : Nat, H = (i + j) / 2 := ⟨_, rfl⟩
      have hHi : ((i : Int) + (j : Int)) / 2 = (H : Int) := by omega
      have hH0 : i ≤ H := by omega
      have hH1 : H < j := by omega
      have hcross := hruns.out.cross H m (by omega) (by omega) (Nat.le_refl _) (by omega)
      obtain ⟨x, hx⟩ : ∃ x, f m = x := ⟨_, rfl⟩
      obtain ⟨y, hy⟩ : ∃ y, f H = y := ⟨_, rfl⟩
      rw [hx, hy] at hcross
      have HC := Lib.hid hcross
      have cx0 : ∀ dq dos, (Go.Sort.grow (wr.drewN dq) dos).cell? ⟨g, off + m * 4, none⟩ = some (.int .i64 (e0 x)) := fun dq dos => by have t := hs.out.gcell B.out (k := m) (c := 0) (by omega) (by decide) hx dq dos; exact t
      have cx1 : ∀ dq dos, (Go.Sort.grow (wr.drewN dq) dos).cell? ⟨g, off + m * 4 + 1, none⟩ = some (.int .i64 (e1 x)) := fun dq dos => by have t := hs.out.gcell B.out (k := m) (c := 1) (by omega) (by decide) hx dq dos; exact t
      have cx2 : ∀ dq dos, (Go.Sort.grow (wr.drewN dq) dos).cell? ⟨g, off + m * 4 + 2, none⟩ = some (.int .i64 (e2 x)) := fun dq dos => by have t := hs.out.gcell B.out (k := m) (c := 2) (by omega) (by decide) hx dq dos; exact t
      have cx3 : ∀ dq dos, (Go.Sort.grow (wr.drewN dq) dos).cell? ⟨g, off + m * 4 + 3, none⟩ = some (.bool (e3 x)) := fun dq dos => by have t := hs.out.gcell B.out (k := m) (c := 3) (by omega) (by decide) hx dq dos; exact t
      have cy0 : ∀ dq dos, (Go.Sort.grow (wr.drewN dq) dos).cell? ⟨g, off + H * 4, none⟩ = some (.int .i64 (e0 y)) := fun dq dos => by have t := hs.out.gcell B.out (k := H) (c := 0) (by omega) (by decide) hy dq dos; exact t
      have cy1 : ∀ dq dos, (Go.Sort.grow (wr.drewN dq) dos).cell? ⟨g, off + H * 4 + 1, none⟩ = some (.int .i64 (e1 y)) := fun dq dos => by have t := hs.out.gcell B.out (k := H) (c := 1) (by omega) (by decide) hy dq dos; exact t
      have cy2 : ∀ dq dos, (Go.Sort.grow (wr.drewN dq) dos).cell? ⟨g, off + H * 4 + 2, none⟩ = some (.int .i64 (e2 y)) := fun dq dos => by have t := hs.out.gcell B.out (k := H) (c := 2) (by omega) (by decide) hy dq dos; exact t
      have cy3 : ∀ dq dos, (Go.Sort.grow (wr.drewN dq) dos).cell? ⟨g, off + H * 4 + 3, none⟩ = some (.bool (e3 y)) := fun dq dos => by have t := hs.out.gcell B.out (k := H) (c := 3) (by omega) (by decide) hy dq dos; exact t
      obtain ⟨z, hz⟩ : ∃ z, cf x y = z := ⟨_, rfl⟩
      have HZ1 : Hid (z < 0 ↔ key y < key x) := by show _ ↔ _; rw [← hz]; exact B.out.hcf x y (hx ▸ hs.out.lt _ (by omega)) (hy ▸ hs.out.lt _ (by omega))
      have hcg : ∀ q os, Calls Try.prog G (#[.agg #[.int .i64 (e0 x), .int .i64 (e1 x), .int .i64 (e2 x), .bool (e3 x)], .agg #[.int .i64 (e0 y), .int .i64 (e1 y), .int .i64 (e2 y), .bool (e3 y)]] ++ CB) (Go.Sort.grow (wr.drewN q) os) fun e w' => e = .returned (.int .i64 z) ∧ ∃ q' os', w' = Go.Sort.grow ((Go.Sort.grow (wr.drewN q) os).drewN q') os' := fun q os => by have := hs.out.calls B.out x y q os; rw [hz] at this; exact this
      have HXY := Lib.hid (And.intro hx hy)
      clear hx hy hz
      have pa : (0 : Int) ≤ (H : Int) := by omega
      have ba : (H : Int) < (n : Int) := by omega
      have pc : (0 : Int) ≤ (m : Int) := by omega
      have bc : (m : Int) < (n : Int) := by omega
      clear hcross hH
      by_cases hz0 : z < 0
      · go_wp2_with fail
        try rw [hHi]
        go_quiet_grown (first | (go_at_fn G; refine Calls.grown_of (hcg _ _)))
        have hs1 := Lib.hid (hs.out.grown nq osq)
        clear hcg cx0 cx1 cx2 cx3 cy0 cy1 cy2 cy3
        clear hs
        generalize Go.Sort.grow (wr.drewN nq) osq = w1 at *
        go_wp2_with fail
        go_roundw
        case rel =>
          refine ⟨i, H, hi, hH0, by omega, rfl, rfl, hs1, hl, .inr ?_⟩
          rw [HXY.out.1, HXY.out.2]
          exact (bef_iff HC.out).2 (HZ1.out.1 hz0)
        case measure => simp [intOf]; omega
      · have hz3 : decide (z < 0) = false := by simpa using hz0
        go_wp2_with fail
        try rw [hHi]
        go_quiet_grown (first | (go_at_fn G; refine Calls.grown_of (hcg _ _)))
        have hs1 := Lib.hid (hs.out.grown nq osq)
        clear hcg cx0 cx1 cx2 cx3 cy0 cy1 cy2 cy3
        clear hs
        generalize Go.Sort.grow (wr.drewN nq) osq = w1 at *
        go_wp2_with fail
        go_roundw
        case rel =>
          refine ⟨H + 1, j, by omega, by omega, hj, by go_num, rfl, hs1, .inr ?_, hr⟩
          rw [Nat.add_sub_cancel, HXY.out.1, HXY.out.2]
          exact (bef_not HC.out).2 (fun q => by have := HZ1.out.2 q; omega)
        case measure => simp [intOf]; omega
    · have hie : j = i := by omega
      subst hie
      go_wp2_with fail
      go_loopw [17] (fun kv wt => ∃ k : Nat, j ≤ k ∧ k ≤ m ∧ kv = .int .i64 k ∧ Hid (SorK (bst_E e0 e1 e2 e3) 4 n g off w0 (rot f k m (m + 1)) wt)) (fun kv _ => (intOf kv).toNat)
      case atStart => exact ⟨m, hj, Nat.le_refl _, rfl, by show SorK (bst_E e0 e1 e2 e3) 4 n g off w0 _ _; rw [rot_left]; exact hs.out⟩
      case round =>
        obtain ⟨k, hk0, hk1, rfl, ht⟩ := hrel
        clear hs
        by_cases hlk : j < k
        · obtain ⟨q, rfl⟩ : ∃ q, k = q + 1 := ⟨k - 1, by omega⟩
          obtain ⟨x, hx⟩ : ∃ x, rot f (q + 1) m (m + 1) (q + 1) = x := ⟨_, rfl⟩
          obtain ⟨y, hy⟩ : ∃ y, rot f (q + 1) m (m + 1) q = y := ⟨_, rfl⟩
          have dx0 : wr.cell? ⟨g, off + (q + 1) * 4, none⟩ = some (.int .i64 (e0 x)) := by have q := ht.out.cell B.out (k := (q + 1)) (c := 0) (by omega) (by decide); rw [hx] at q; exact q
          have ux0 : wr.frozen? ⟨g, off + (q + 1) * 4, none⟩ = false := ht.out.free B.out (k := (q + 1)) (c := 0) (by omega) (by decide)
          have dx1 : wr.cell? ⟨g, off + (q + 1) * 4 + 1, none⟩ = some (.int .i64 (e1 x)) := by have q := ht.out.cell B.out (k := (q + 1)) (c := 1) (by omega) (by decide); rw [hx] at q; exact q
          have ux1 : wr.frozen? ⟨g, off + (q + 1) * 4 + 1, none⟩ = false := ht.out.free B.out (k := (q + 1)) (c := 1) (by omega) (by decide)
          have dx2 : wr.cell? ⟨g, off + (q + 1) * 4 + 2, none⟩ = some (.int .i64 (e2 x)) := by have q := ht.out.cell B.out (k := (q + 1)) (c := 2) (by omega) (by decide); rw [hx] at q; exact q
          have ux2 : wr.frozen? ⟨g, off + (q + 1) * 4 + 2, none⟩ = false := ht.out.free B.out (k := (q + 1)) (c := 2) (by omega) (by decide)
          have dx3 : wr.cell? ⟨g, off + (q + 1) * 4 + 3, none⟩ = some (.bool (e3 x)) := by have q := ht.out.cell B.out (k := (q + 1)) (c := 3) (by omega) (by decide); rw [hx] at q; exact q
          have ux3 : wr.frozen? ⟨g, off + (q + 1) * 4 + 3, none⟩ = false := ht.out.free B.out (k := (q + 1)) (c := 3) (by omega) (by decide)
          have dy0 : wr.cell? ⟨g, off + q * 4, none⟩ = some (.int .i64 (e0 y)) := by have q := ht.out.cell B.out (k := q) (c := 0) (by omega) (by decide); rw [hy] at q; exact q
          have uy0 : wr.frozen? ⟨g, off + q * 4, none⟩ = false := ht.out.free B.out (k := q) (c := 0) (by omega) (by decide)
          have dy1 : wr.cell? ⟨g, off + q * 4 + 1, none⟩ = some (.int .i64 (e1 y)) := by have q := ht.out.cell B.out (k := q) (c := 1) (by omega) (by decide); rw [hy] at q; exact q
          have uy1 : wr.frozen? ⟨g, off + q * 4 + 1, none⟩ = false := ht.out.free B.out (k := q) (c := 1) (by omega) (by decide)
          have dy2 : wr.cell? ⟨g, off + q * 4 + 2, none⟩ = some (.int .i64 (e2 y)) := by have q := ht.out.cell B.out (k := q) (c := 2) (by omega) (by decide); rw [hy] at q; exact q
          have uy2 : wr.frozen? ⟨g, off + q * 4 + 2, none⟩ = false := ht.out.free B.out (k := q) (c := 2) (by omega) (by decide)
          have dy3 : wr.cell? ⟨g, off + q * 4 + 3, none⟩ = some (.bool (e3 y)) := by have q := ht.out.cell B.out (k := q) (c := 3) (by omega) (by decide); rw [hy] at q; exact q
          have uy3 : wr.frozen? ⟨g, off + q * 4 + 3, none⟩ = false := ht.out.free B.out (k := q) (c := 3) (by omega) (by decide)
          have hsw := ht.out.swapD B.out (i := q + 1) (j := q) (by omega) (by omega)
          rw [hx, hy, rot_down f q m (by omega)] at hsw
          have HSW := Lib.hid hsw; clear hsw hx hy ht
          have hlk1 : (j : Int) < (q : Int) + 1 := by omega
          have hwp : IntKind.i64.wrap (q : Int) = (q : Int) := IntWalk.i64_in _ (by omega)
          have ea : ((q : Int) + 1).toNat = q + 1 := by omega
          have pa : (0 : Int) ≤ (q : Int) + 1 := by omega
          have ba : (q : Int) + 1 < (n : Int) := by omega
          have bc : (q : Int) < (n : Int) := by omega
          have hk1' : (((q + 1 : Nat)) : Int) = (q : Int) + 1 := by omega
          rw [hk1']
          clear hk1'
          go_wp2_with fail
          go_big_region_o
          clear dx0 dx1 dx2 dx3 dy0 dy1 dy2 dy3 ux0 ux1 ux2 ux3 uy0 uy1 uy2 uy3
          all_goals go_wp2_with fail
          all_goals exact ⟨⟨q, by omega, by omega, rfl, HSW⟩, by simp [intOf]⟩
        · have hke : k = j := by omega
          have HKE := Lib.hid hke; clear hke
          go_wp2_with fail
          (try simp only [Exit.inBlock, Exit.then])
          refine bodyPost_ret (results_none rfl _ _ _) rfl ?_
          have e := HKE.out
          subst e
          exact ⟨rfl, _, ht, (Mv.rot f k m (m + 1) (by omega) (by omega)).mono hi (Nat.le_refl _), merge_right hruns.out hi hj hl.out hr.out⟩
end Go.Proofs.Ytfeefijaahjheaa
