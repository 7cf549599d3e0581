/- The contracts of the stable sort's small functions: the comparison, swaps of ranges, rotations. -/
import Derived.Test.YtblaplnpehnjfabQTake
import Derived.Test.YtblaplnpehnjfabQBlocks
import Derived.Test.YtblaplnpehnjfabQShareP
import Derived.BigRegion
namespace Go.Proofs.Ytblaplnpehnjfab
open Go.RowKit

def fRow (n : Nat) (f : Nat → Nat) : Array Value := ((List.range n).map fun k => Value.int .i64 (f k : Int)).toArray
def upd (f : Nat → Nat) (i v : Nat) : Nat → Nat := fun k => if k = i then v else f k
theorem upd_swp (f : Nat → Nat) (i j : Nat) : upd (upd f i (f j)) j (f i) = swp f i j := by
  funext k; unfold upd swp
  repeat' split
  all_goals first | rfl | (subst_vars; rfl) | simp_all
theorem fRow_size (n : Nat) (f : Nat → Nat) : (fRow n f).size = n := by simp [fRow]
theorem fRow_get (n : Nat) (f : Nat → Nat) (k : Nat) (h : k < n) : (fRow n f)[k]? = some (.int .i64 (f k : Int)) := by simp [fRow, h]
theorem fRow_set (n : Nat) (f : Nat → Nat) (k v : Nat) : (fRow n f).setIfInBounds k (.int .i64 (v : Int)) = fRow n (upd f k v) := by
  unfold fRow
  rw [List.setIfInBounds_toArray]
  congr 1
  apply List.ext_getElem
  · simp
  · intro i h1 h2
    rw [List.getElem_set]
    simp only [List.getElem_map, List.getElem_range, upd]
    by_cases e : k = i
    · rw [if_pos e, if_pos e.symm]
    · rw [if_neg e, if_neg (fun q => e q.symm)]

/-- The numbers that are sorted lie in block g, the box of the rests in block c, the rests in block r. -/
structure Sor (w : World) (g c r n : Nat) (ks : List Int) (f : Nat → Nat) : Prop where
  hG : w.heap[g]? = some (.cells (fRow n f) 3 (0, 0))
  hC : w.heap[c]? = some (.cells #[.slice (some ⟨r, 0, none⟩) n n] 50 (0, 0))
  hR : w.heap[r]? = some (.cells (ks.map (Value.int .i64)).toArray 3 (0, 0))
  hl : ks.length = n
  hn : n ≤ 1000
  gc : g ≠ c
  gr : g ≠ r
  lt : ∀ k, k < n → f k < n

section
variable {w : World} {g c r n : Nat} {ks : List Int} {f : Nat → Nat}
theorem Sor.cell (h : Sor w g c r n ks f) {k : Nat} (hk : k < n) : w.cell? ⟨g, k, none⟩ = some (.int .i64 (f k : Int)) := by
  simp [World.cell?, h.hG, fRow_get n f k hk]
theorem Sor.free (h : Sor w g c r n ks f) (k : Nat) : w.frozen? ⟨g, k, none⟩ = false := by simp [World.frozen?, h.hG]
theorem Sor.box (h : Sor w g c r n ks f) : w.cell? ⟨c, 0, none⟩ = some (.slice (some ⟨r, 0, none⟩) n n) := by simp [World.cell?, h.hC]
theorem Sor.rest (h : Sor w g c r n ks f) {k : Nat} (hk : k < n) : w.cell? ⟨r, k, none⟩ = some (.int .i64 (nth ks k)) := by
  have : k < ks.length := by rw [h.hl]; exact hk
  simp [World.cell?, h.hR, nth, this]
theorem Sor.drewN (h : Sor w g c r n ks f) (m : Nat) : Sor (w.drewN m) g c r n ks f := ⟨h.hG, h.hC, h.hR, h.hl, h.hn, h.gc, h.gr, h.lt⟩
theorem Sor.same (h : Sor w g c r n ks f) {w' : World} (e : w'.heap = w.heap) : Sor w' g c r n ks f := ⟨by rw [e]; exact h.hG, by rw [e]; exact h.hC, by rw [e]; exact h.hR, h.hl, h.hn, h.gc, h.gr, h.lt⟩
theorem Sor.drew (h : Sor w g c r n ks f) : Sor w.drew g c r n ks f := ⟨h.hG, h.hC, h.hR, h.hl, h.hn, h.gc, h.gr, h.lt⟩
theorem Sor.set (h : Sor w g c r n ks f) {k v : Nat} (hv : v < n) : Sor (w.setCell ⟨g, k, none⟩ (.int .i64 (v : Int))) g c r n ks (upd f k v) := by
  refine ⟨?_, ?_, ?_, h.hl, h.hn, h.gc, h.gr, fun i hi => ?_⟩
  · simp [World.setCell, Array.getElem?_modify, h.hG, fRow_set]
  · rw [Below.heap_setCell _ _ _ _ (fun e => h.gc e.symm)]; exact h.hC
  · rw [Below.heap_setCell _ _ _ _ (fun e => h.gr e.symm)]; exact h.hR
  · unfold upd; split
    · exact hv
    · exact h.lt i hi
theorem Sor.swap (h : Sor w g c r n ks f) {i j : Nat} (hi : i < n) (hj : j < n) : Sor ((w.setCell ⟨g, i, none⟩ (.int .i64 (f j : Int))).setCell ⟨g, j, none⟩ (.int .i64 (f i : Int))) g c r n ks (swp f i j) := by
  rw [← upd_swp]
  exact (h.set (h.lt j hj)).set (h.lt i hi)
theorem grown_set {w0 : World} (h : w0.grownBy w (some g)) (k : Nat) (v : Value) : w0.grownBy (w.setCell ⟨g, k, none⟩ v) (some g) :=
  ⟨h.os, h.tape, h.output, by have := h.size; simpa [World.setCell] using this, fun i hi hr => by rw [Below.heap_setCell _ _ _ _ (fun e => hr (by rw [e]))]; exact h.block i hi hr⟩
end

def cmpV (a b : Int) : Int := if a < b then -1 else if b < a then 1 else 0
theorem cmpV_neg {a b z : Int} (h : cmpV a b = z) : (z < 0 ↔ a < b) ∧ -1 ≤ z ∧ z ≤ 1 := by
  unfold cmpV at h; split at h <;> (try split at h) <;> omega

theorem isNaN_any (x : Int) (w : World) : Calls Try.prog 88 #[.int .i64 x] w fun e w' => e = .returned (.bool false) ∧ w = w' := by
  go_enter Try.func88, Try.ntmps88
  go_wp2
  go_ret
  exact ⟨ret_bool (by simp), rfl⟩
theorem compare_any (a b : Int) (w : World) : Calls Try.prog 72 #[.int .i64 a, .int .i64 b] w fun e w' => e = .returned (.int .i64 (cmpV a b)) ∧ w = w' := by
  unfold cmpV
  by_cases h1 : a < b
  · go_enter Try.func72, Try.ntmps72
    go_wp2_with (go_at_call 88; refine (isNaN_any _ _).mono ?_; rintro e w1 ⟨rfl, rfl⟩)
    go_ret
    exact ⟨ret_int (by first | rfl | omega), rfl⟩
  · by_cases h2 : b < a
    · go_enter Try.func72, Try.ntmps72
      go_wp2_with (go_at_call 88; refine (isNaN_any _ _).mono ?_; rintro e w1 ⟨rfl, rfl⟩)
      go_ret
      exact ⟨ret_int (by first | rfl | omega), rfl⟩
    · go_enter Try.func72, Try.ntmps72
      go_wp2_with (go_at_call 88; refine (isNaN_any _ _).mono ?_; rintro e w1 ⟨rfl, rfl⟩)
      go_ret
      exact ⟨ret_int (by first | rfl | omega), rfl⟩

/-- The comparison of two numbers by their rests. -/
theorem cmp_any {w : World} {g c r n : Nat} {ks : List Int} {f : Nat → Nat} (h : Sor w g c r n ks f) {x y : Nat} (hx : x < n) (hy : y < n) {z : Int} (hz : Hid (cmpV (nth ks y) (nth ks x) = z)) :
    Calls Try.prog 71 #[.int .i64 (x : Int), .int .i64 (y : Int), .pointer (some ⟨c, 0, none⟩)] w fun e w' => e = .returned (.int .i64 z) ∧ ∃ m, w' = w.drewN m := by
  have hb : ∀ q, (w.drewN q).cell? ⟨c, 0, none⟩ = some (.slice (some ⟨r, 0, none⟩) n n) := fun q => (h.drewN q).box
  obtain ⟨a, ha⟩ : ∃ a, nth ks x = a := ⟨_, rfl⟩
  obtain ⟨b, hb'⟩ : ∃ b, nth ks y = b := ⟨_, rfl⟩
  rw [ha, hb'] at hz
  have hcx : ∀ q, (w.drewN q).cell? ⟨r, x, none⟩ = some (.int .i64 a) := fun q => by rw [(h.drewN q).rest hx, ha]
  have hcy : ∀ q, (w.drewN q).cell? ⟨r, y, none⟩ = some (.int .i64 b) := fun q => by rw [(h.drewN q).rest hy, hb']
  have x0 : (0 : Int) ≤ (x : Int) := by omega
  have x1 : (x : Int) < (n : Int) := by omega
  have y0 : (0 : Int) ≤ (y : Int) := by omega
  have y1 : (y : Int) < (n : Int) := by omega
  clear ha hb' h hx hy
  go_enter Try.func71, Try.ntmps71
  go_wp2
  go_quiet (exact Calls.quiet_of_same ((compare_any _ _ _).mono fun _ _ q => ⟨q.1, q.2.symm⟩))
  go_wp2
  go_ret
  exact ⟨ret_int hz.out, _, rfl⟩

set_option maxHeartbeats 800000 in
theorem swapRange_any {w : World} {g c r n : Nat} {ks : List Int} {f : Nat → Nat} (h : Sor w g c r n ks f) {a b m : Nat} (hab : a + m ≤ b) (hb : b + m ≤ n) (cv : Value) :
    Calls Try.prog 96 #[.slice (some ⟨g, 0, none⟩) n n, .int .i64 (a : Int), .int .i64 (b : Int), .int .i64 (m : Int), cv] w fun e w' => e = .returned (.tuple #[]) ∧ Sor w' g c r n ks (swr f a b m) ∧ w.grownBy w' (some g) := by
  have hn := h.hn
  go_enter Try.func96, Try.ntmps96
  go_wp2
  go_loopw [10] (fun iv wr => ∃ j : Nat, j ≤ m ∧ iv = .int .i64 j ∧ Sor wr g c r n ks (swr f a b j) ∧ w.grownBy wr (some g)) (fun iv _ => m - (intOf iv).toNat)
  case atStart => exact ⟨0, Nat.zero_le _, rfl, by rw [swr_zero]; exact h, grown_refl _ _⟩
  case round =>
    obtain ⟨j, hj, rfl, hs, hg⟩ := hrel
    by_cases hlt : j < m
    · have ca := hs.cell (k := a + j) (by omega)
      have cb := hs.cell (k := b + j) (by omega)
      have fa := hs.free (a + j)
      have fb := hs.free (b + j)
      have fb' : ∀ v, (wr.setCell ⟨g, a + j, none⟩ (.int .i64 v)).frozen? ⟨g, b + j, none⟩ = false := fun v => by simpa using fb
      have cb' : (wr.setCell ⟨g, a + j, none⟩ (.int .i64 (swr f a b j (b + j) : Nat))).cell? ⟨g, b + j, none⟩ = some (.int .i64 (swr f a b j (b + j) : Nat)) := by
        have q := (hs.set (k := a + j) (hs.lt (b + j) (by omega))).cell (k := b + j) (by omega)
        rwa [upd, if_neg (by omega)] at q
      go_wp2
      go_region
      all_goals go_wp2
      refine ⟨⟨j + 1, by omega, by go_num, ?_, grown_trans (grown_set (grown_set hg _ _) _ _) (grown_drew _ _)⟩, by simp [intOf]; omega⟩
      rw [← swr_succ f a b j (by omega)]
      exact (hs.swap (by omega) (by omega)).drew
    · have hjm : j = m := by omega
      subst hjm
      go_wp2
      refine bodyPost_end (results_none rfl _ _ _) rfl ?_
      exact ⟨rfl, hs, hg⟩

/-- Two runs change their places. -/
theorem rotate_any {w : World} {g c r n : Nat} {ks : List Int} {f : Nat → Nat} (h : Sor w g c r n ks f) {a m b : Nat} (ham : a < m) (hmb : m < b) (hb : b ≤ n) (cv : Value) :
    Calls Try.prog 95 #[.slice (some ⟨g, 0, none⟩) n n, .int .i64 (a : Int), .int .i64 (m : Int), .int .i64 (b : Int), cv] w fun e w' => e = .returned (.tuple #[]) ∧ Sor w' g c r n ks (rot f a m b) ∧ w.grownBy w' (some g) := by
  have hn := h.hn
  go_enter Try.func95, Try.ntmps95
  go_wp2
  go_loopw [10, 11] (fun iv jv wr => ∃ (i j : Nat) (fr : Nat → Nat), 0 < i ∧ 0 < j ∧ a + i ≤ m ∧ m + j ≤ b ∧ iv = .int .i64 i ∧ jv = .int .i64 j ∧ Sor wr g c r n ks fr ∧ Hid (rot f a m b = rot fr (m - i) m (m + j)) ∧ w.grownBy wr (some g)) (fun iv jv _ => (intOf iv).toNat + (intOf jv).toNat)
  case atStart => exact ⟨m - a, b - m, f, by omega, by omega, by omega, by omega, by go_num, by go_num, h, by show _ = _; rw [show m - (m - a) = a by omega, show m + (b - m) = b by omega], grown_refl _ _⟩
  case round =>
    obtain ⟨i, j, fr, hi, hj, hi1, hj1, rfl, rfl, hs, hw, hg⟩ := hrel
    obtain ⟨x, hx⟩ : ∃ x, m = i + x := ⟨m - i, by omega⟩
    have hxi : (m : Int) - (i : Int) = (x : Int) := by omega
    have HX := Lib.hid hx; clear hx
    by_cases hij : i = j
    · subst hij
      go_wp2_with fail
      try rw [hxi]
      refine (swapRange_any hs (a := x) (b := m) (m := i) (by have := HX.out; omega) (by omega) _).mono ?_
      rintro e w1 ⟨rfl, hs1, hg1⟩
      go_wp2
      refine bodyPost_end (results_none rfl _ _ _) rfl ?_
      refine ⟨rfl, ?_, grown_trans hg hg1⟩
      rw [hw.out, rot_eq fr m i (by omega), show m - i = x by have := HX.out; omega]
      exact hs1
    · by_cases hgt : j < i
      · go_wp2_with fail
        try rw [hxi]
        refine (swapRange_any hs (a := x) (b := m) (m := j) (by have := HX.out; omega) (by omega) _).mono ?_
        rintro e w1 ⟨rfl, hs1, hg1⟩
        go_wp2
        refine ⟨⟨i - j, j, _, by omega, by omega, by omega, by omega, by go_num, rfl, hs1, ?_, grown_trans hg hg1⟩, by simp [intOf]; omega⟩
        show _ = _
        rw [hw.out, rot_gt fr m i j (by omega) hgt, show m - i = x by have := HX.out; omega]
      · have hlt : i < j := by omega
        clear hgt
        have hyi : (m : Int) + (j : Int) - (i : Int) = ((m + j - i : Nat) : Int) := by omega
        go_wp2_with fail
        try rw [hxi]
        try rw [hyi]
        refine (swapRange_any hs (a := x) (b := m + j - i) (m := i) (by have := HX.out; omega) (by omega) _).mono ?_
        rintro e w1 ⟨rfl, hs1, hg1⟩
        go_wp2
        refine ⟨⟨i, j - i, _, by omega, by omega, by omega, by omega, rfl, by go_num, hs1, ?_, grown_trans hg hg1⟩, by simp [intOf]; omega⟩
        show _ = _
        rw [hw.out, rot_lt fr m i j (by omega) hlt, show m - i = x by have := HX.out; omega]
end Go.Proofs.Ytblaplnpehnjfab
