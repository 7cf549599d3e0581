/- The stable sort over rows of structs: a merge with one on the left. -/
import Derived.Test.YtfeefijaahjheaaBstIns
namespace Go.Proofs.Ytfeefijaahjheaa
open Go.RowKit
set_option linter.unusedSimpArgs false
set_option linter.unusedVariables false

set_option maxRecDepth 100000 in
set_option maxHeartbeats 3200000 in
theorem bst_merge_left {w0 : World} {g off n G : Nat} {CB : Array Value} {cf : Nat → Nat → Int} {key : Nat → Int} {e0 : Nat → Int} {e1 : Nat → Int} {e2 : Nat → Int} {e3 : Nat → Bool} {W : World} {f : Nat → Nat} (B : Hid (SBase Try.prog (bst_E e0 e1 e2 e3) 4 n g off w0 G CB cf key)) (h : Hid (SorK (bst_E e0 e1 e2 e3) 4 n g off w0 f W)) {a b : Nat} (hb : b ≤ n) (hruns : Hid (Runs key f a (a + 1) b)) (m : Int) (hm : m = (a : Int) + 1) (hab : a + 1 < b) (cap : Nat) :
    Calls Try.prog 103 #[.slice (some ⟨g, off, none⟩) n cap, .int .i64 (a : Int), .int .i64 m, .int .i64 (b : Int), .func (.func G) #[] CB] W fun e w' => e = .returned (.tuple #[]) ∧ ∃ f', Hid (SorK (bst_E e0 e1 e2 e3) 4 n g off w0 f' w') ∧ Hid (Mv a b f f' ∧ Srt key f' a b) := by
  have hn := B.out.hn
  have eg := B.out.eg
  have mixed : Try.prog.follows .mixedOrders = true := by kernel_rfl
  have hq : m - (a : Int) = 1 := by omega
  obtain ⟨M, hM⟩ : ∃ M : Nat, M = a + 1 := ⟨_, rfl⟩
  have hmM : m = (M : Int) := by omega
  subst hmM
  clear hm
  have HM := Lib.hid hM; clear hM
  go_enter Try.func103, Try.ntmps103
  go_wp2
  go_loopw [10, 11] (fun iv jv wr => ∃ (i j : Nat), a + 1 ≤ i ∧ i ≤ j ∧ j ≤ b ∧ iv = .int .i64 i ∧ jv = .int .i64 j ∧ Hid (SorK (bst_E e0 e1 e2 e3) 4 n g off w0 f wr) ∧ Hid (i = a + 1 ∨ Bef key (f (i - 1)) (f a)) ∧ Hid (j = b ∨ Bef key (f a) (f j))) (fun iv jv _ => (intOf jv).toNat - (intOf iv).toNat)
  case atStart => exact ⟨M, b, by have := HM.out; omega, by have := HM.out; omega, Nat.le_refl _, rfl, rfl, h, .inl HM.out, .inl rfl⟩
  case round =>
    obtain ⟨i, j, hi, hij, hj, rfl, rfl, hs, hl, hr⟩ := hrel
    clear h
    by_cases hlt : i < j
    · obtain ⟨H, hH⟩ : ∃ H : Nat, H = (i + j) / 2 := ⟨_, rfl⟩
      have hHi : ((i : Int) + (j : Int)) / 2 = (H : Int) := by omega
      have hH0 : i ≤ H := by omega
      have hH1 : H < j := by omega
      have hcross := hruns.out.cross a H (Nat.le_refl _) (by omega) (by omega) (by omega)
      obtain ⟨x, hx⟩ : ∃ x, f H = x := ⟨_, rfl⟩
      obtain ⟨y, hy⟩ : ∃ y, f a = y := ⟨_, rfl⟩
      rw [hx, hy] at hcross
      have HC := Lib.hid hcross
      have cx0 : ∀ dq dos, (Go.Sort.grow (wr.drewN dq) dos).cell? ⟨g, off + H * 4, none⟩ = some (.int .i64 (e0 x)) := fun dq dos => by have t := hs.out.gcell B.out (k := H) (c := 0) (by omega) (by decide) hx dq dos; exact t
      have cx1 : ∀ dq dos, (Go.Sort.grow (wr.drewN dq) dos).cell? ⟨g, off + H * 4 + 1, none⟩ = some (.int .i64 (e1 x)) := fun dq dos => by have t := hs.out.gcell B.out (k := H) (c := 1) (by omega) (by decide) hx dq dos; exact t
      have cx2 : ∀ dq dos, (Go.Sort.grow (wr.drewN dq) dos).cell? ⟨g, off + H * 4 + 2, none⟩ = some (.int .i64 (e2 x)) := fun dq dos => by have t := hs.out.gcell B.out (k := H) (c := 2) (by omega) (by decide) hx dq dos; exact t
      have cx3 : ∀ dq dos, (Go.Sort.grow (wr.drewN dq) dos).cell? ⟨g, off + H * 4 + 3, none⟩ = some (.bool (e3 x)) := fun dq dos => by have t := hs.out.gcell B.out (k := H) (c := 3) (by omega) (by decide) hx dq dos; exact t
      have cy0 : ∀ dq dos, (Go.Sort.grow (wr.drewN dq) dos).cell? ⟨g, off + a * 4, none⟩ = some (.int .i64 (e0 y)) := fun dq dos => by have t := hs.out.gcell B.out (k := a) (c := 0) (by omega) (by decide) hy dq dos; exact t
      have cy1 : ∀ dq dos, (Go.Sort.grow (wr.drewN dq) dos).cell? ⟨g, off + a * 4 + 1, none⟩ = some (.int .i64 (e1 y)) := fun dq dos => by have t := hs.out.gcell B.out (k := a) (c := 1) (by omega) (by decide) hy dq dos; exact t
      have cy2 : ∀ dq dos, (Go.Sort.grow (wr.drewN dq) dos).cell? ⟨g, off + a * 4 + 2, none⟩ = some (.int .i64 (e2 y)) := fun dq dos => by have t := hs.out.gcell B.out (k := a) (c := 2) (by omega) (by decide) hy dq dos; exact t
      have cy3 : ∀ dq dos, (Go.Sort.grow (wr.drewN dq) dos).cell? ⟨g, off + a * 4 + 3, none⟩ = some (.bool (e3 y)) := fun dq dos => by have t := hs.out.gcell B.out (k := a) (c := 3) (by omega) (by decide) hy dq dos; exact t
      obtain ⟨z, hz⟩ : ∃ z, cf x y = z := ⟨_, rfl⟩
      have HZ1 : Hid (z < 0 ↔ key y < key x) := by show _ ↔ _; rw [← hz]; exact B.out.hcf x y (hx ▸ hs.out.lt _ (by omega)) (hy ▸ hs.out.lt _ (by omega))
      have hcg : ∀ q os, Calls Try.prog G (#[.agg #[.int .i64 (e0 x), .int .i64 (e1 x), .int .i64 (e2 x), .bool (e3 x)], .agg #[.int .i64 (e0 y), .int .i64 (e1 y), .int .i64 (e2 y), .bool (e3 y)]] ++ CB) (Go.Sort.grow (wr.drewN q) os) fun e w' => e = .returned (.int .i64 z) ∧ ∃ q' os', w' = Go.Sort.grow ((Go.Sort.grow (wr.drewN q) os).drewN q') os' := fun q os => by have := hs.out.calls B.out x y q os; rw [hz] at this; exact this
      have HXY := Lib.hid (And.intro hx hy)
      clear hx hy hz
      have pa : (0 : Int) ≤ (H : Int) := by omega
      have ba : (H : Int) < (n : Int) := by omega
      have pc : (0 : Int) ≤ (a : Int) := by omega
      have bc : (a : Int) < (n : Int) := by omega
      clear hcross hH
      by_cases hz0 : z < 0
      · go_wp2_with fail
        try rw [hHi]
        go_quiet_grown (first | (go_at_fn G; refine Calls.grown_of (hcg _ _)))
        have hs1 := Lib.hid (hs.out.grown nq osq)
        clear hcg cx0 cx1 cx2 cx3 cy0 cy1 cy2 cy3
        clear hs
        generalize Go.Sort.grow (wr.drewN nq) osq = w1 at *
        go_wp2_with fail
        refine ⟨⟨H + 1, j, by omega, by omega, hj, by go_num, rfl, hs1, .inr ?_, hr⟩, by simp [intOf]; omega⟩
        rw [Nat.add_sub_cancel, HXY.out.1, HXY.out.2]
        exact (bef_iff HC.out).2 (HZ1.out.1 hz0)
      · go_wp2_with fail
        try rw [hHi]
        go_quiet_grown (first | (go_at_fn G; refine Calls.grown_of (hcg _ _)))
        have hs1 := Lib.hid (hs.out.grown nq osq)
        clear hcg cx0 cx1 cx2 cx3 cy0 cy1 cy2 cy3
        clear hs
        generalize Go.Sort.grow (wr.drewN nq) osq = w1 at *
        go_wp2_with fail
        go_roundw
        case rel =>
          refine ⟨i, H, hi, hH0, by omega, rfl, rfl, hs1, hl, .inr ?_⟩
          rw [HXY.out.1, HXY.out.2]
          exact (bef_not HC.out).2 (fun q => by have := HZ1.out.2 q; omega)
        case measure => simp [intOf]; omega
    · have hie : j = i := by omega
      subst hie
      go_wp2_with fail
      go_loopw [13] (fun kv wt => ∃ k : Nat, a ≤ k ∧ k + 1 ≤ j ∧ kv = .int .i64 k ∧ Hid (SorK (bst_E e0 e1 e2 e3) 4 n g off w0 (rot f a (a + 1) (k + 1)) wt)) (fun kv _ => j - (intOf kv).toNat)
      case atStart => exact ⟨a, Nat.le_refl _, by omega, rfl, by show SorK (bst_E e0 e1 e2 e3) 4 n g off w0 _ _; rw [rot_right]; exact hs.out⟩
      case round =>
        obtain ⟨k, hk0, hk1, rfl, ht⟩ := hrel
        clear hs
        by_cases hlk : k + 1 < j
        · obtain ⟨x, hx⟩ : ∃ x, rot f a (a + 1) (k + 1) k = x := ⟨_, rfl⟩
          obtain ⟨y, hy⟩ : ∃ y, rot f a (a + 1) (k + 1) (k + 1) = y := ⟨_, rfl⟩
          have dx0 : wr.cell? ⟨g, off + k * 4, none⟩ = some (.int .i64 (e0 x)) := by have q := ht.out.cell B.out (k := k) (c := 0) (by omega) (by decide); rw [hx] at q; exact q
          have ux0 : wr.frozen? ⟨g, off + k * 4, none⟩ = false := ht.out.free B.out (k := k) (c := 0) (by omega) (by decide)
          have dx1 : wr.cell? ⟨g, off + k * 4 + 1, none⟩ = some (.int .i64 (e1 x)) := by have q := ht.out.cell B.out (k := k) (c := 1) (by omega) (by decide); rw [hx] at q; exact q
          have ux1 : wr.frozen? ⟨g, off + k * 4 + 1, none⟩ = false := ht.out.free B.out (k := k) (c := 1) (by omega) (by decide)
          have dx2 : wr.cell? ⟨g, off + k * 4 + 2, none⟩ = some (.int .i64 (e2 x)) := by have q := ht.out.cell B.out (k := k) (c := 2) (by omega) (by decide); rw [hx] at q; exact q
          have ux2 : wr.frozen? ⟨g, off + k * 4 + 2, none⟩ = false := ht.out.free B.out (k := k) (c := 2) (by omega) (by decide)
          have dx3 : wr.cell? ⟨g, off + k * 4 + 3, none⟩ = some (.bool (e3 x)) := by have q := ht.out.cell B.out (k := k) (c := 3) (by omega) (by decide); rw [hx] at q; exact q
          have ux3 : wr.frozen? ⟨g, off + k * 4 + 3, none⟩ = false := ht.out.free B.out (k := k) (c := 3) (by omega) (by decide)
          have dy0 : wr.cell? ⟨g, off + (k + 1) * 4, none⟩ = some (.int .i64 (e0 y)) := by have q := ht.out.cell B.out (k := (k + 1)) (c := 0) (by omega) (by decide); rw [hy] at q; exact q
          have uy0 : wr.frozen? ⟨g, off + (k + 1) * 4, none⟩ = false := ht.out.free B.out (k := (k + 1)) (c := 0) (by omega) (by decide)
          have dy1 : wr.cell? ⟨g, off + (k + 1) * 4 + 1, none⟩ = some (.int .i64 (e1 y)) := by have q := ht.out.cell B.out (k := (k + 1)) (c := 1) (by omega) (by decide); rw [hy] at q; exact q
          have uy1 : wr.frozen? ⟨g, off + (k + 1) * 4 + 1, none⟩ = false := ht.out.free B.out (k := (k + 1)) (c := 1) (by omega) (by decide)
          have dy2 : wr.cell? ⟨g, off + (k + 1) * 4 + 2, none⟩ = some (.int .i64 (e2 y)) := by have q := ht.out.cell B.out (k := (k + 1)) (c := 2) (by omega) (by decide); rw [hy] at q; exact q
          have uy2 : wr.frozen? ⟨g, off + (k + 1) * 4 + 2, none⟩ = false := ht.out.free B.out (k := (k + 1)) (c := 2) (by omega) (by decide)
          have dy3 : wr.cell? ⟨g, off + (k + 1) * 4 + 3, none⟩ = some (.bool (e3 y)) := by have q := ht.out.cell B.out (k := (k + 1)) (c := 3) (by omega) (by decide); rw [hy] at q; exact q
          have uy3 : wr.frozen? ⟨g, off + (k + 1) * 4 + 3, none⟩ = false := ht.out.free B.out (k := (k + 1)) (c := 3) (by omega) (by decide)
          have hsw := ht.out.swapD B.out (i := k) (j := k + 1) (by omega) (by omega)
          rw [hx, hy, rot_up f a k hk0] at hsw
          have HSW := Lib.hid hsw; clear hsw hx hy ht
          have hlk1 : (k : Int) < (j : Int) - 1 := by omega
          have ea : ((k : Int) + 1).toNat = k + 1 := by omega
          have pa : (0 : Int) ≤ (k : Int) + 1 := by omega
          have ba : (k : Int) + 1 < (n : Int) := by omega
          have bc : (k : Int) < (n : Int) := by omega
          go_wp2_with fail
          go_big_region_o
          clear dx0 dx1 dx2 dx3 dy0 dy1 dy2 dy3 ux0 ux1 ux2 ux3 uy0 uy1 uy2 uy3
          all_goals go_wp2_with fail
          all_goals exact ⟨⟨k + 1, by omega, by omega, by go_num, HSW⟩, by simp [intOf]; omega⟩
        · have hke : j = k + 1 := by omega
          have hlk1 : ¬ (k : Int) < (j : Int) - 1 := by omega
          have HKE := Lib.hid hke; clear hke
          go_wp2_with fail
          (try simp only [Exit.inBlock, Exit.then])
          refine bodyPost_ret (results_none rfl _ _ _) rfl ?_
          refine ⟨rfl, _, ht, ?_, ?_⟩
          · exact (Mv.rot f a (a + 1) (k + 1) (by omega) (by omega)).mono (Nat.le_refl _) (by omega)
          · have e := HKE.out
            rw [← e]
            exact merge_left hruns.out hi hj hl.out hr.out
end Go.Proofs.Ytfeefijaahjheaa
