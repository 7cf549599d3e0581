/- The stable sort over rows of structs: swaps of ranges, rotations. -/
import Derived.Test.YtfeefijaahjheaaQTake
import Derived.Test.YtfeefijaahjheaaOKit
import Derived.BigRegion
import Derived.Shelf.RegionOpenPlain
namespace Go.Proofs.Ytfeefijaahjheaa
open Go.RowKit
set_option linter.unusedSimpArgs false
set_option linter.unusedVariables false

def bst_E (e0 : Nat → Int) (e1 : Nat → Int) (e2 : Nat → Int) (e3 : Nat → Bool) (x : Nat) : List Value := [.int .i64 (e0 x), .int .i64 (e1 x), .int .i64 (e2 x), .bool (e3 x)]

set_option maxRecDepth 100000 in
set_option maxHeartbeats 3200000 in
theorem bst_swapRange {w0 : World} {g off n G : Nat} {CB : Array Value} {cf : Nat → Nat → Int} {key : Nat → Int} {e0 : Nat → Int} {e1 : Nat → Int} {e2 : Nat → Int} {e3 : Nat → Bool} {W : World} {f : Nat → Nat} (B : Hid (SBase Try.prog (bst_E e0 e1 e2 e3) 4 n g off w0 G CB cf key)) (h : Hid (SorK (bst_E e0 e1 e2 e3) 4 n g off w0 f W)) {a b m : Nat} (hab : a + m ≤ b) (hb : b + m ≤ n) (cap : Nat) (cv : Value) :
    Calls Try.prog 108 #[.slice (some ⟨g, off, none⟩) n cap, .int .i64 (a : Int), .int .i64 (b : Int), .int .i64 (m : Int), cv] W fun e w' => e = .returned (.tuple #[]) ∧ Hid (SorK (bst_E e0 e1 e2 e3) 4 n g off w0 (swr f a b m) w') := by
  have hn := B.out.hn
  have mixed : Try.prog.follows .mixedOrders = true := by kernel_rfl
  go_enter Try.func108, Try.ntmps108
  go_wp2
  go_loopw [10] (fun iv wr => ∃ j : Nat, j ≤ m ∧ iv = .int .i64 j ∧ Hid (SorK (bst_E e0 e1 e2 e3) 4 n g off w0 (swr f a b j) wr)) (fun iv _ => m - (intOf iv).toNat)
  case atStart => exact ⟨0, Nat.zero_le _, rfl, by rw [swr_zero]; exact h⟩
  case round =>
    obtain ⟨j, hj, rfl, hs⟩ := hrel
    by_cases hlt : j < m
    · obtain ⟨x, hx⟩ : ∃ x, swr f a b j (a + j) = x := ⟨_, rfl⟩
      obtain ⟨y, hy⟩ : ∃ y, swr f a b j (b + j) = y := ⟨_, rfl⟩
      have dx0 : wr.cell? ⟨g, off + (a + j) * 4, none⟩ = some (.int .i64 (e0 x)) := by have q := hs.out.cell B.out (k := (a + j)) (c := 0) (by omega) (by decide); rw [hx] at q; exact q
      have ux0 : wr.frozen? ⟨g, off + (a + j) * 4, none⟩ = false := hs.out.free B.out (k := (a + j)) (c := 0) (by omega) (by decide)
      have dx1 : wr.cell? ⟨g, off + (a + j) * 4 + 1, none⟩ = some (.int .i64 (e1 x)) := by have q := hs.out.cell B.out (k := (a + j)) (c := 1) (by omega) (by decide); rw [hx] at q; exact q
      have ux1 : wr.frozen? ⟨g, off + (a + j) * 4 + 1, none⟩ = false := hs.out.free B.out (k := (a + j)) (c := 1) (by omega) (by decide)
      have dx2 : wr.cell? ⟨g, off + (a + j) * 4 + 2, none⟩ = some (.int .i64 (e2 x)) := by have q := hs.out.cell B.out (k := (a + j)) (c := 2) (by omega) (by decide); rw [hx] at q; exact q
      have ux2 : wr.frozen? ⟨g, off + (a + j) * 4 + 2, none⟩ = false := hs.out.free B.out (k := (a + j)) (c := 2) (by omega) (by decide)
      have dx3 : wr.cell? ⟨g, off + (a + j) * 4 + 3, none⟩ = some (.bool (e3 x)) := by have q := hs.out.cell B.out (k := (a + j)) (c := 3) (by omega) (by decide); rw [hx] at q; exact q
      have ux3 : wr.frozen? ⟨g, off + (a + j) * 4 + 3, none⟩ = false := hs.out.free B.out (k := (a + j)) (c := 3) (by omega) (by decide)
      have dy0 : wr.cell? ⟨g, off + (b + j) * 4, none⟩ = some (.int .i64 (e0 y)) := by have q := hs.out.cell B.out (k := (b + j)) (c := 0) (by omega) (by decide); rw [hy] at q; exact q
      have uy0 : wr.frozen? ⟨g, off + (b + j) * 4, none⟩ = false := hs.out.free B.out (k := (b + j)) (c := 0) (by omega) (by decide)
      have dy1 : wr.cell? ⟨g, off + (b + j) * 4 + 1, none⟩ = some (.int .i64 (e1 y)) := by have q := hs.out.cell B.out (k := (b + j)) (c := 1) (by omega) (by decide); rw [hy] at q; exact q
      have uy1 : wr.frozen? ⟨g, off + (b + j) * 4 + 1, none⟩ = false := hs.out.free B.out (k := (b + j)) (c := 1) (by omega) (by decide)
      have dy2 : wr.cell? ⟨g, off + (b + j) * 4 + 2, none⟩ = some (.int .i64 (e2 y)) := by have q := hs.out.cell B.out (k := (b + j)) (c := 2) (by omega) (by decide); rw [hy] at q; exact q
      have uy2 : wr.frozen? ⟨g, off + (b + j) * 4 + 2, none⟩ = false := hs.out.free B.out (k := (b + j)) (c := 2) (by omega) (by decide)
      have dy3 : wr.cell? ⟨g, off + (b + j) * 4 + 3, none⟩ = some (.bool (e3 y)) := by have q := hs.out.cell B.out (k := (b + j)) (c := 3) (by omega) (by decide); rw [hy] at q; exact q
      have uy3 : wr.frozen? ⟨g, off + (b + j) * 4 + 3, none⟩ = false := hs.out.free B.out (k := (b + j)) (c := 3) (by omega) (by decide)
      have hsw := hs.out.swapD B.out (i := a + j) (j := b + j) (by omega) (by omega)
      rw [hx, hy, swr_succ f a b j (by omega)] at hsw
      have HSW := Lib.hid hsw
      clear hsw hx hy hs h
      have ea : ((a : Int) + (j : Int)).toNat = a + j := by omega
      have eb : ((b : Int) + (j : Int)).toNat = b + j := by omega
      have pa : (0 : Int) ≤ (a : Int) + (j : Int) := by omega
      have pb : (0 : Int) ≤ (b : Int) + (j : Int) := by omega
      have ba : (a : Int) + (j : Int) < (n : Int) := by omega
      have bb : (b : Int) + (j : Int) < (n : Int) := by omega
      have wa : IntKind.i64.wrap ((a : Int) + (j : Int)) = (a : Int) + (j : Int) := IntWalk.i64_in _ (by omega)
      have wb : IntKind.i64.wrap ((b : Int) + (j : Int)) = (b : Int) + (j : Int) := IntWalk.i64_in _ (by omega)
      go_wp2_with fail
      go_big_region_o
      clear dx0 dx1 dx2 dx3 dy0 dy1 dy2 dy3 ux0 ux1 ux2 ux3 uy0 uy1 uy2 uy3
      all_goals go_wp2_with fail
      all_goals exact ⟨⟨j + 1, by omega, by go_num, HSW⟩, by simp [intOf]; omega⟩
    · have hjm : j = m := by omega
      subst hjm
      clear h
      go_wp2_with fail
      refine bodyPost_end (results_none rfl _ _ _) rfl ?_
      exact ⟨rfl, hs⟩

set_option maxRecDepth 100000 in
set_option maxHeartbeats 3200000 in
theorem bst_rotate {w0 : World} {g off n G : Nat} {CB : Array Value} {cf : Nat → Nat → Int} {key : Nat → Int} {e0 : Nat → Int} {e1 : Nat → Int} {e2 : Nat → Int} {e3 : Nat → Bool} {W : World} {f : Nat → Nat} (B : Hid (SBase Try.prog (bst_E e0 e1 e2 e3) 4 n g off w0 G CB cf key)) (h : Hid (SorK (bst_E e0 e1 e2 e3) 4 n g off w0 f W)) {a m b : Nat} (ham : a < m) (hmb : m < b) (hb : b ≤ n) (cap : Nat) (cv : Value) :
    Calls Try.prog 106 #[.slice (some ⟨g, off, none⟩) n cap, .int .i64 (a : Int), .int .i64 (m : Int), .int .i64 (b : Int), cv] W fun e w' => e = .returned (.tuple #[]) ∧ Hid (SorK (bst_E e0 e1 e2 e3) 4 n g off w0 (rot f a m b) w') := by
  have hn := B.out.hn
  go_enter Try.func106, Try.ntmps106
  go_wp2
  go_loopw [10, 11] (fun iv jv wr => ∃ (i j : Nat) (fr : Nat → Nat), 0 < i ∧ 0 < j ∧ a + i ≤ m ∧ m + j ≤ b ∧ iv = .int .i64 i ∧ jv = .int .i64 j ∧ Hid (SorK (bst_E e0 e1 e2 e3) 4 n g off w0 fr wr) ∧ Hid (rot f a m b = rot fr (m - i) m (m + j))) (fun iv jv _ => (intOf iv).toNat + (intOf jv).toNat)
  case atStart => exact ⟨m - a, b - m, f, by omega, by omega, by omega, by omega, by go_num, by go_num, h, by show _ = _; rw [show m - (m - a) = a by omega, show m + (b - m) = b by omega]⟩
  case round =>
    obtain ⟨i, j, fr, hi, hj, hi1, hj1, rfl, rfl, hs, hw⟩ := hrel
    clear h
    obtain ⟨x, hx⟩ : ∃ x, m = i + x := ⟨m - i, by omega⟩
    have hxi : (m : Int) - (i : Int) = (x : Int) := by omega
    have HX := Lib.hid hx; clear hx
    by_cases hij : i = j
    · subst hij
      go_wp2_with fail
      try rw [hxi]
      refine (bst_swapRange B hs (a := x) (b := m) (m := i) (by have := HX.out; omega) (by omega) _ _).mono ?_
      rintro e w1 ⟨rfl, hs1⟩
      go_wp2
      refine bodyPost_end (results_none rfl _ _ _) rfl ?_
      refine ⟨rfl, ?_⟩
      show SorK (bst_E e0 e1 e2 e3) 4 n g off w0 _ _
      rw [hw.out, rot_eq fr m i (by omega), show m - i = x by have := HX.out; omega]
      exact hs1.out
    · by_cases hgt : j < i
      · go_wp2_with fail
        try rw [hxi]
        refine (bst_swapRange B hs (a := x) (b := m) (m := j) (by have := HX.out; omega) (by omega) _ _).mono ?_
        rintro e w1 ⟨rfl, hs1⟩
        go_wp2
        refine ⟨⟨i - j, j, _, by omega, by omega, by omega, by omega, by go_num, rfl, hs1, ?_⟩, by simp [intOf]; omega⟩
        show _ = _
        rw [hw.out, rot_gt fr m i j (by omega) hgt, show m - i = x by have := HX.out; omega]
      · have hlt : i < j := by omega
        clear hgt
        have hyi : (m : Int) + (j : Int) - (i : Int) = ((m + j - i : Nat) : Int) := by omega
        go_wp2_with fail
        try rw [hxi]
        try rw [hyi]
        refine (bst_swapRange B hs (a := x) (b := m + j - i) (m := i) (by have := HX.out; omega) (by omega) _ _).mono ?_
        rintro e w1 ⟨rfl, hs1⟩
        go_wp2
        refine ⟨⟨i, j - i, _, by omega, by omega, by omega, by omega, rfl, by go_num, hs1, ?_⟩, by simp [intOf]; omega⟩
        show _ = _
        rw [hw.out, rot_lt fr m i j (by omega) hlt, show m - i = x by have := HX.out; omega]
end Go.Proofs.Ytfeefijaahjheaa
