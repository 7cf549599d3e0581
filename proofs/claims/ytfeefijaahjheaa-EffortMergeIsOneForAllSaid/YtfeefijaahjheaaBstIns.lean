/- The stable sort over rows of structs: insertions. -/
import Derived.Test.YtfeefijaahjheaaBstSwp
import Derived.Shelf.SlSortCmp.QuietGrown
namespace Go.Proofs.Ytfeefijaahjheaa
open Go.RowKit
set_option linter.unusedSimpArgs false
set_option linter.unusedVariables false

set_option maxRecDepth 100000 in
set_option maxHeartbeats 3200000 in
theorem bst_insert {w0 : World} {g off n G : Nat} {CB : Array Value} {cf : Nat → Nat → Int} {key : Nat → Int} {e0 : Nat → Int} {e1 : Nat → Int} {e2 : Nat → Int} {e3 : Nat → Bool} {W : World} {f : Nat → Nat} (B : Hid (SBase Try.prog (bst_E e0 e1 e2 e3) 4 n g off w0 G CB cf key)) (h : Hid (SorK (bst_E e0 e1 e2 e3) 4 n g off w0 f W)) {a b : Nat} (hown : ∀ k, a ≤ k → f k = k) (hab : a ≤ b) (hb : b ≤ n) (cap : Nat) :
    Calls Try.prog 102 #[.slice (some ⟨g, off, none⟩) n cap, .int .i64 (a : Int), .int .i64 (b : Int), .func (.func G) #[] CB] W fun e w' => e = .returned (.tuple #[]) ∧ ∃ f', Hid (SorK (bst_E e0 e1 e2 e3) 4 n g off w0 f' w') ∧ Hid (Mv a b f f' ∧ Blk key f' a b) := by
  have hn := B.out.hn
  have eg := B.out.eg
  have mixed : Try.prog.follows .mixedOrders = true := by kernel_rfl
  have HO := Lib.hid hown; clear hown
  rcases Nat.eq_or_lt_of_le hab with he | hlt0
  · subst he
    go_enter Try.func102, Try.ntmps102
    go_wp2
    go_loopw [8] (fun iv wr => iv = .int .i64 ((a : Int) + 1) ∧ W = wr) (fun _ _ => 0)
    case atStart => exact ⟨rfl, rfl⟩
    case round =>
      obtain ⟨rfl, rfl⟩ := hrel
      go_wp2
      refine bodyPost_end (results_none rfl _ _ _) rfl ?_
      exact ⟨rfl, f, h, Mv.refl _ _ _, ⟨fun i j h1 h2 h3 => by omega, fun k h1 h2 => by omega⟩⟩
  · go_enter Try.func102, Try.ntmps102
    go_wp2
    go_loopw [8] (fun iv wr => ∃ (i : Nat) (fi : Nat → Nat), a + 1 ≤ i ∧ i ≤ b ∧ iv = .int .i64 i ∧ Hid (SorK (bst_E e0 e1 e2 e3) 4 n g off w0 fi wr) ∧ Hid (Ins key f fi a i)) (fun iv _ => b - (intOf iv).toNat)
    case atStart => exact ⟨a + 1, f, by omega, by omega, by go_num, h, Ins.start HO.out⟩
    case round =>
      obtain ⟨i, fi, hi0, hi1, rfl, hs, hins⟩ := hrel
      clear h
      by_cases hlt : i < b
      · go_wp2_with fail
        go_loopw [9] (fun jv wt => ∃ j : Nat, a ≤ j ∧ j ≤ i ∧ jv = .int .i64 j ∧ Hid (SorK (bst_E e0 e1 e2 e3) 4 n g off w0 (rot fi j i (i + 1)) wt) ∧ Hid (j = i ∨ Bef key (fi i) (fi j))) (fun jv _ => (intOf jv).toNat)
        case atStart => exact ⟨i, by omega, Nat.le_refl _, rfl, by show SorK (bst_E e0 e1 e2 e3) 4 n g off w0 _ _; rw [rot_left]; exact hs.out, .inl rfl⟩
        case round =>
          obtain ⟨j, hj0, hj1, rfl, ht, hr⟩ := hrel
          by_cases hja : a < j
          · obtain ⟨q, rfl⟩ : ∃ q, j = q + 1 := ⟨j - 1, by omega⟩
            have hcross := hins.out.runs.cross q i (by omega) (by omega) (Nat.le_refl _) (by omega)
            have rx : rot fi (q + 1) i (i + 1) (q + 1) = fi i := by rw [rot_1 (Nat.le_refl _) (by omega)]; congr 1; omega
            have ry : rot fi (q + 1) i (i + 1) q = fi q := rot_lo (by omega) (by omega) (by omega)
            obtain ⟨x, hx'⟩ : ∃ x, fi i = x := ⟨_, rfl⟩
            obtain ⟨y, hy'⟩ : ∃ y, fi q = y := ⟨_, rfl⟩
            have hx : rot fi (q + 1) i (i + 1) (q + 1) = x := rx.trans hx'
            have hy : rot fi (q + 1) i (i + 1) q = y := ry.trans hy'
            rw [hx', hy'] at hcross
            have HXI := Lib.hid (And.intro hx' hy'); have HC := Lib.hid hcross
            clear rx ry hx' hy' hcross
            have cx0 : ∀ dq dos, (Go.Sort.grow (wr.drewN dq) dos).cell? ⟨g, off + (q + 1) * 4, none⟩ = some (.int .i64 (e0 x)) := fun dq dos => by have t := ht.out.gcell B.out (k := (q + 1)) (c := 0) (by omega) (by decide) hx dq dos; exact t
            have cx1 : ∀ dq dos, (Go.Sort.grow (wr.drewN dq) dos).cell? ⟨g, off + (q + 1) * 4 + 1, none⟩ = some (.int .i64 (e1 x)) := fun dq dos => by have t := ht.out.gcell B.out (k := (q + 1)) (c := 1) (by omega) (by decide) hx dq dos; exact t
            have cx2 : ∀ dq dos, (Go.Sort.grow (wr.drewN dq) dos).cell? ⟨g, off + (q + 1) * 4 + 2, none⟩ = some (.int .i64 (e2 x)) := fun dq dos => by have t := ht.out.gcell B.out (k := (q + 1)) (c := 2) (by omega) (by decide) hx dq dos; exact t
            have cx3 : ∀ dq dos, (Go.Sort.grow (wr.drewN dq) dos).cell? ⟨g, off + (q + 1) * 4 + 3, none⟩ = some (.bool (e3 x)) := fun dq dos => by have t := ht.out.gcell B.out (k := (q + 1)) (c := 3) (by omega) (by decide) hx dq dos; exact t
            have cy0 : ∀ dq dos, (Go.Sort.grow (wr.drewN dq) dos).cell? ⟨g, off + q * 4, none⟩ = some (.int .i64 (e0 y)) := fun dq dos => by have t := ht.out.gcell B.out (k := q) (c := 0) (by omega) (by decide) hy dq dos; exact t
            have cy1 : ∀ dq dos, (Go.Sort.grow (wr.drewN dq) dos).cell? ⟨g, off + q * 4 + 1, none⟩ = some (.int .i64 (e1 y)) := fun dq dos => by have t := ht.out.gcell B.out (k := q) (c := 1) (by omega) (by decide) hy dq dos; exact t
            have cy2 : ∀ dq dos, (Go.Sort.grow (wr.drewN dq) dos).cell? ⟨g, off + q * 4 + 2, none⟩ = some (.int .i64 (e2 y)) := fun dq dos => by have t := ht.out.gcell B.out (k := q) (c := 2) (by omega) (by decide) hy dq dos; exact t
            have cy3 : ∀ dq dos, (Go.Sort.grow (wr.drewN dq) dos).cell? ⟨g, off + q * 4 + 3, none⟩ = some (.bool (e3 y)) := fun dq dos => by have t := ht.out.gcell B.out (k := q) (c := 3) (by omega) (by decide) hy dq dos; exact t
            obtain ⟨z, hz⟩ : ∃ z, cf x y = z := ⟨_, rfl⟩
            have HZ1 : Hid (z < 0 ↔ key y < key x) := by show _ ↔ _; rw [← hz]; exact B.out.hcf x y (hx ▸ ht.out.lt _ (by omega)) (hy ▸ ht.out.lt _ (by omega))
            have hcg : ∀ q os, Calls Try.prog G (#[.agg #[.int .i64 (e0 x), .int .i64 (e1 x), .int .i64 (e2 x), .bool (e3 x)], .agg #[.int .i64 (e0 y), .int .i64 (e1 y), .int .i64 (e2 y), .bool (e3 y)]] ++ CB) (Go.Sort.grow (wr.drewN q) os) fun e w' => e = .returned (.int .i64 z) ∧ ∃ q' os', w' = Go.Sort.grow ((Go.Sort.grow (wr.drewN q) os).drewN q') os' := fun q os => by have := ht.out.calls B.out x y q os; rw [hz] at this; exact this
            have HXY := Lib.hid (And.intro hx hy)
            clear hx hy hz
            have hwp : IntKind.i64.wrap (q : Int) = (q : Int) := IntWalk.i64_in _ (by omega)
            have ea : ((q : Int) + 1).toNat = q + 1 := by omega
            have pa : (0 : Int) ≤ (q : Int) + 1 := by omega
            have ba : (q : Int) + 1 < (n : Int) := by omega
            have pc : (0 : Int) ≤ (q : Int) := by omega
            have bc : (q : Int) < (n : Int) := by omega
            have hk1 : (((q + 1 : Nat)) : Int) = (q : Int) + 1 := by omega
            have hgt1 : (a : Int) < (q : Int) + 1 := by omega
            rw [hk1]
            clear hk1
            by_cases hz0 : z < 0
            · go_wp2_with fail
              go_quiet_grown (first | (go_at_fn G; refine Calls.grown_of (hcg _ _)))
              have ht1 := Lib.hid (ht.out.grown nq osq)
              clear hcg cx0 cx1 cx2 cx3 cy0 cy1 cy2 cy3
              clear ht hs
              generalize Go.Sort.grow (wr.drewN nq) osq = w1 at *
              obtain ⟨hx, hy⟩ := HXY.out
              have dx0 : w1.cell? ⟨g, off + (q + 1) * 4, none⟩ = some (.int .i64 (e0 x)) := by have q := ht1.out.cell B.out (k := (q + 1)) (c := 0) (by omega) (by decide); rw [hx] at q; exact q
              have ux0 : w1.frozen? ⟨g, off + (q + 1) * 4, none⟩ = false := ht1.out.free B.out (k := (q + 1)) (c := 0) (by omega) (by decide)
              have dx1 : w1.cell? ⟨g, off + (q + 1) * 4 + 1, none⟩ = some (.int .i64 (e1 x)) := by have q := ht1.out.cell B.out (k := (q + 1)) (c := 1) (by omega) (by decide); rw [hx] at q; exact q
              have ux1 : w1.frozen? ⟨g, off + (q + 1) * 4 + 1, none⟩ = false := ht1.out.free B.out (k := (q + 1)) (c := 1) (by omega) (by decide)
              have dx2 : w1.cell? ⟨g, off + (q + 1) * 4 + 2, none⟩ = some (.int .i64 (e2 x)) := by have q := ht1.out.cell B.out (k := (q + 1)) (c := 2) (by omega) (by decide); rw [hx] at q; exact q
              have ux2 : w1.frozen? ⟨g, off + (q + 1) * 4 + 2, none⟩ = false := ht1.out.free B.out (k := (q + 1)) (c := 2) (by omega) (by decide)
              have dx3 : w1.cell? ⟨g, off + (q + 1) * 4 + 3, none⟩ = some (.bool (e3 x)) := by have q := ht1.out.cell B.out (k := (q + 1)) (c := 3) (by omega) (by decide); rw [hx] at q; exact q
              have ux3 : w1.frozen? ⟨g, off + (q + 1) * 4 + 3, none⟩ = false := ht1.out.free B.out (k := (q + 1)) (c := 3) (by omega) (by decide)
              have dy0 : w1.cell? ⟨g, off + q * 4, none⟩ = some (.int .i64 (e0 y)) := by have q := ht1.out.cell B.out (k := q) (c := 0) (by omega) (by decide); rw [hy] at q; exact q
              have uy0 : w1.frozen? ⟨g, off + q * 4, none⟩ = false := ht1.out.free B.out (k := q) (c := 0) (by omega) (by decide)
              have dy1 : w1.cell? ⟨g, off + q * 4 + 1, none⟩ = some (.int .i64 (e1 y)) := by have q := ht1.out.cell B.out (k := q) (c := 1) (by omega) (by decide); rw [hy] at q; exact q
              have uy1 : w1.frozen? ⟨g, off + q * 4 + 1, none⟩ = false := ht1.out.free B.out (k := q) (c := 1) (by omega) (by decide)
              have dy2 : w1.cell? ⟨g, off + q * 4 + 2, none⟩ = some (.int .i64 (e2 y)) := by have q := ht1.out.cell B.out (k := q) (c := 2) (by omega) (by decide); rw [hy] at q; exact q
              have uy2 : w1.frozen? ⟨g, off + q * 4 + 2, none⟩ = false := ht1.out.free B.out (k := q) (c := 2) (by omega) (by decide)
              have dy3 : w1.cell? ⟨g, off + q * 4 + 3, none⟩ = some (.bool (e3 y)) := by have q := ht1.out.cell B.out (k := q) (c := 3) (by omega) (by decide); rw [hy] at q; exact q
              have uy3 : w1.frozen? ⟨g, off + q * 4 + 3, none⟩ = false := ht1.out.free B.out (k := q) (c := 3) (by omega) (by decide)
              have hsw := ht1.out.swapD B.out (i := q + 1) (j := q) (by omega) (by omega)
              rw [hx, hy, rot_down fi q i (by omega)] at hsw
              have HSW := Lib.hid hsw
              clear hsw hx hy
              go_wp2_with fail
              go_big_region_o
              clear dx0 dx1 dx2 dx3 dy0 dy1 dy2 dy3 ux0 ux1 ux2 ux3 uy0 uy1 uy2 uy3
              all_goals go_wp2_with fail
              all_goals
                refine ⟨⟨q, by omega, by omega, rfl, HSW, .inr ?_⟩, by simp [intOf]⟩
                rw [HXI.out.1, HXI.out.2]
                exact (bef_iff HC.out).2 (HZ1.out.1 hz0)
            · go_wp2_with fail
              go_quiet_grown (first | (go_at_fn G; refine Calls.grown_of (hcg _ _)))
              have ht1 := Lib.hid (ht.out.grown nq osq)
              clear hcg cx0 cx1 cx2 cx3 cy0 cy1 cy2 cy3
              clear ht hs
              generalize Go.Sort.grow (wr.drewN nq) osq = w1 at *
              go_wp2_with fail
              refine ⟨⟨i + 1, _, by omega, by omega, by simp, ht1, hins.out.next hj0 hj1 (.inr ?_) hr.out⟩, by simp [intOf]; omega⟩
              rw [Nat.add_sub_cancel, HXI.out.1, HXI.out.2]
              exact (bef_not HC.out).2 (fun q => by have := HZ1.out.2 q; omega)
          · have hje : j = a := by omega
            subst hje
            have ht1 := Lib.hid ht.out.drew
            have hjaz : decide ((j : Int) > (j : Int)) = false := decide_eq_false (by omega)
            have hjaz' : ¬ (j : Int) < (j : Int) := by omega
            clear ht hs
            go_wp2_with fail
            go_big_region_o
            all_goals go_wp2_with fail
            all_goals exact ⟨⟨i + 1, _, by omega, by omega, by simp, ht1, hins.out.next hj0 hj1 (.inl rfl) hr.out⟩, by simp [intOf]; omega⟩
      · have hib : i = b := by omega
        subst hib
        go_wp2_with fail
        refine bodyPost_end (results_none rfl _ _ _) rfl ?_
        exact ⟨rfl, fi, hs, hins.out.mv, hins.out.blk⟩
end Go.Proofs.Ytfeefijaahjheaa
