/- The contract of the hill that told asks about. -/
import Derived.Test.YtgkhhfojioepgaaTWaysM
import Derived.Maps.AppendAt
namespace Go.Proofs.Ytgkhhfojioepgaa
open Go.RowKit
set_option linter.unusedSimpArgs false
set_option linter.unusedVariables false

def hillL : List Smp := [⟨0, 0, 0, 0, -1, -1, -1⟩, ⟨1, 30, 40, 12, -1, -1, -1⟩, ⟨2, 60, 80, 2, -1, -1, -1⟩, ⟨3, 90, 120, 15, -1, -1, -1⟩]
def smpVs (x : Smp) : List Value := [.int .i64 x.t, .int .i64 x.x, .int .i64 x.y, .int .i64 x.z, .int .i64 x.p, .int .i64 x.q, .int .i64 x.s]
def hillVs (k : Nat) : List Value := (hillL.take k).flatMap smpVs
theorem info_smp : (Try.prog.info? 28).map (fun i => (i.zero, i.size, i.bytes)) = some (some (.agg #[.int .i64 0, .int .i64 0, .int .i64 0, .int .i64 0, .int .i64 0, .int .i64 0, .int .i64 0]), 7, 56) := by kernel_rfl

structure HillS (w wr : World) (k : Nat) (v : Value) : Prop where
  g : w.grownBy wr none
  h0 : wr.heap[w.heap.size]? = some (.cells #[.string ⟨#[]⟩, .int .i64 0, .int .i64 0, .slice none 0 0, .slice none 0 0, .slice none 0 0] 26 (0, 0))
  h1 : wr.heap[w.heap.size + 1]? = some (.cells #[.string ⟨#[97]⟩, .int .i64 1, .int .i64 0, v, .slice none 0 0, .slice none 0 0] 26 (0, 0))
  h2 : wr.heap[w.heap.size + 1 + 1]? = some (.cells #[.int .i64 0, .int .i64 12, .int .i64 2, .int .i64 15] 3 (0, 0))
  own : wr.ownsRow (w.heap.size + 3) 28 7 v k (hillVs k)
  sz : w.heap.size + 3 ≤ wr.heap.size

theorem cells_new (w : World) (x : Smp) : ∀ j u, (smpVs x)[j]? = some u → (w.alloc (.cells #[.int .i64 x.t, .int .i64 x.x, .int .i64 x.y, .int .i64 x.z, .int .i64 x.p, .int .i64 x.q, .int .i64 x.s] 28)).cell? ((⟨w.heap.size, 0, none⟩ : Addr).add j) = some u := by
  intro j u h
  have e : (⟨w.heap.size, 0, none⟩ : Addr).add j = ⟨w.heap.size, j, none⟩ := by unfold Addr.add; split <;> simp_all
  rw [e]
  have hh := heap_alloc_new w (.cells #[.int .i64 x.t, .int .i64 x.x, .int .i64 x.y, .int .i64 x.z, .int .i64 x.p, .int .i64 x.q, .int .i64 x.s] 28)
  unfold smpVs at h
  exact (cell_of_row _ _ j _ _ (0, 0) hh).trans (by simpa using h)
theorem ones (x : Smp) : ∀ u ∈ smpVs x, u.oneCell' = true := by
  intro u hu
  unfold smpVs at hu
  simp only [List.mem_cons, List.not_mem_nil, or_false] at hu
  rcases hu with rfl | rfl | rfl | rfl | rfl | rfl | rfl <;> rfl
theorem hill_step {w wr w2 : World} {k : Nat} {v : Value} {o : Obj} (hs : HillS w wr k v) (hg : (wr.alloc o).grownBy w2 v.ownBlock) :
    w.grownBy w2 none ∧ w2.heap[w.heap.size]? = wr.heap[w.heap.size]? ∧ w2.heap[w.heap.size + 1]? = wr.heap[w.heap.size + 1]? ∧ w2.heap[w.heap.size + 1 + 1]? = wr.heap[w.heap.size + 1 + 1]? ∧ w.heap.size + 3 ≤ w2.heap.size := by
  have hlt := hs.own.lt
  have hz := hs.sz
  have keep : ∀ i, i < w.heap.size + 3 → w2.heap[i]? = wr.heap[i]? := fun i hi => by
    rw [hg.block i (by simp; omega) (fun e => by have := (hlt i e.symm).1; omega), Below.heap_alloc _ _ _ (by omega)]
  refine ⟨grown_own hs.g hg (fun g e => by have := (hlt g e).1; omega), keep _ (by omega), keep _ (by omega), keep _ (by omega), ?_⟩
  have := hg.size; simp at this; omega
theorem hillVs_succ {k : Nat} (h : k < 4) : hillVs (k + 1) = hillVs k ++ smpVs (hillL[k]'(by simpa [hillL] using h)) := by
  unfold hillVs
  rw [List.take_succ_eq_append_getElem (by simpa [hillL] using h), List.flatMap_append]
  simp

theorem own_form {w : World} {base n : Nat} {e : TypeId} {size : Nat} {v : Value} {xs : List Value} (h : w.ownsRow base e size v (n + 1) xs) : ∃ g cap, v = .slice (some ⟨g, 0, none⟩) (n + 1) cap := by
  rcases h.2 with ⟨_, h0⟩ | ⟨g, cap, cur, h1, _⟩
  · omega
  · exact ⟨g, cap, h1⟩
theorem grown_set2 {w w1 : World} (h : w.grownBy w1 none) {b : Nat} (hb : w.heap.size ≤ b) (i : Nat) (v : Value) : w.grownBy (w1.setCell ⟨b, i, none⟩ v) none :=
  ⟨h.os, h.tape, h.output, by have := h.size; simp [World.setCell]; omega, fun k hk _ => by
    rw [Below.heap_setCell _ _ _ _ (by show k ≠ b; omega)]; exact h.block k hk (by simp)⟩
theorem own_below {w : World} {base n : Nat} {e : TypeId} {size : Nat} {v : Value} {xs : List Value} (h : w.ownsRow base e size v n xs) {a : Addr} (ha : a.block < base) (u : Value) : (w.setCell a u).ownsRow base e size v n xs :=
  ownsRow_setCell_below h ha u
theorem hill_set {w w2 : World} {k : Nat} {v v' : Value} (g : w.grownBy w2 none)
    (h0 : w2.heap[w.heap.size]? = some (.cells #[.string ⟨#[]⟩, .int .i64 0, .int .i64 0, .slice none 0 0, .slice none 0 0, .slice none 0 0] 26 (0, 0)))
    (h1 : w2.heap[w.heap.size + 1]? = some (.cells #[.string ⟨#[97]⟩, .int .i64 1, .int .i64 0, v, .slice none 0 0, .slice none 0 0] 26 (0, 0)))
    (h2 : w2.heap[w.heap.size + 1 + 1]? = some (.cells #[.int .i64 0, .int .i64 12, .int .i64 2, .int .i64 15] 3 (0, 0)))
    (sz : w.heap.size + 3 ≤ w2.heap.size) (own : w2.ownsRow (w.heap.size + 3) 28 7 v' k (hillVs k)) : HillS w (w2.setCell ⟨w.heap.size + 1, 3, none⟩ v') k v' := by
  refine ⟨grown_set2 g (by omega) _ _, ?_, ?_, ?_, own_below own (by show w.heap.size + 1 < _; omega) _, ?_⟩
  · rw [Below.heap_setCell _ _ _ _ (by show _ ≠ w.heap.size + 1; omega)]; exact h0
  · simp [World.setCell, Array.getElem?_modify, h1]
  · rw [Below.heap_setCell _ _ _ _ (by show _ ≠ w.heap.size + 1; omega)]; exact h2
  · simp [World.setCell]; exact sz
theorem hill_start (w : World) : HillS w (((w.alloc (.cells #[.string ⟨#[]⟩, .int .i64 0, .int .i64 0, .slice none 0 0, .slice none 0 0, .slice none 0 0] 26)).alloc (.cells #[.string ⟨#[97]⟩, .int .i64 1, .int .i64 0, .slice none 0 0, .slice none 0 0, .slice none 0 0] 26)).alloc (.cells #[.int .i64 0, .int .i64 12, .int .i64 2, .int .i64 15] 3)) 0 (.slice none 0 0) := by
  refine ⟨grown_trans (grown_trans (World.grownBy_alloc _ _ _) (World.grownBy_alloc _ _ _)) (World.grownBy_alloc _ _ _), ?_, ?_, ?_, World.ownsRow_nil _ _ _ _, by simp⟩
  · rw [Below.heap_alloc _ _ _ (by simp; omega), Below.heap_alloc _ _ _ (by simp)]; exact heap_alloc_new w _
  · rw [Below.heap_alloc _ _ _ (by simp)]
    have q := heap_alloc_new (w.alloc (.cells #[.string ⟨#[]⟩, .int .i64 0, .int .i64 0, .slice none 0 0, .slice none 0 0, .slice none 0 0] 26)) (.cells #[.string ⟨#[97]⟩, .int .i64 1, .int .i64 0, .slice none 0 0, .slice none 0 0, .slice none 0 0] 26)
    simpa using q
  · have q := heap_alloc_new ((w.alloc (.cells #[.string ⟨#[]⟩, .int .i64 0, .int .i64 0, .slice none 0 0, .slice none 0 0, .slice none 0 0] 26)).alloc (.cells #[.string ⟨#[97]⟩, .int .i64 1, .int .i64 0, .slice none 0 0, .slice none 0 0, .slice none 0 0] 26)) (.cells #[.int .i64 0, .int .i64 12, .int .i64 2, .int .i64 15] 3)
    simpa using q


set_option maxRecDepth 100000 in
set_option maxHeartbeats 3200000 in
theorem hill_any (w : World) : Calls Try.prog 67 #[] w fun x w' => (∃ g cap, x = .returned (.agg #[.string ⟨#[97]⟩, .int .i64 1, .int .i64 0, .slice (some ⟨g, 0, none⟩) 4 cap, .slice none 0 0, .slice none 0 0]) ∧ w'.ownsRow (w.heap.size + 3) 28 7 (.slice (some ⟨g, 0, none⟩) 4 cap) 4 (hillVs 4)) ∧ w.grownBy w' none := by
  obtain ⟨i0, hi, hz0, hz1, hz2⟩ := info_parts info_smp
  have HI := Lib.hid hi; have HZ0 := Lib.hid hz0; have HZ1 := Lib.hid hz1; have HZ2 := Lib.hid hz2
  clear hi hz0 hz1 hz2
  go_enter Try.func67, Try.ntmps67
  go_wp2_with fail
  go_loopw [7] (fun iv wr => ∃ (k : Nat) (i : Int) (v : Value), k ≤ 4 ∧ iv = .int .i64 i ∧ Hid (i = k) ∧ Hid (HillS w wr k v))
    (fun iv _ => 4 - (intOf iv).toNat)
  case atStart => exact ⟨0, 0, _, by omega, rfl, rfl, hill_start w⟩
  case round =>
    obtain ⟨k, i, v, hk, rfl, hi0, hS⟩ := hrel
    have hc : k = 0 ∨ k = 1 ∨ k = 2 ∨ k = 3 ∨ k = 4 := by omega
    rcases hc with rfl | rfl | rfl | rfl | rfl
    · obtain rfl : i = 0 := hi0.out
      have hs := hS.out
      have kz : wr.cell? ⟨w.heap.size + 1 + 1, 0, none⟩ = some (.int .i64 0) := by simp [World.cell?, hs.h2]
      have p3 : wr.cell? ⟨w.heap.size + 1, 3, none⟩ = some v := by simp [World.cell?, hs.h1]
      have OWN := Lib.hid hs.own
      have SZ := Lib.hid hs.sz
      have HCN := Lib.hid (cells_new wr ⟨0, 0, 0, 0, -1, -1, -1⟩)
      have hi := HI.out; have hz0 := HZ0.out; have hz1 := HZ1.out; have hz2 := HZ2.out
      clear hs
      go_wp2_with (at_builtin; refine wpList_append_own _ rfl _ _ 22 rfl (w.heap.size + 3) 28 i0 (.agg #[.int .i64 0, .int .i64 0, .int .i64 0, .int .i64 0, .int .i64 0, .int .i64 0, .int .i64 0]) 7 56 Try.underlying22 hi hz0 hz1 hz2 rfl (by decide) _ _ _ rfl (OWN.out.alloc _) ⟨wr.heap.size, 0, none⟩ 1 1 [.int .i64 0, .int .i64 0, .int .i64 0, .int .i64 0, .int .i64 (-1), .int .i64 (-1), .int .i64 (-1)] rfl rfl (HCN.out) (ones ⟨0, 0, 0, 0, -1, -1, -1⟩) (by unfold maxLen; omega) (by omega) (by have := SZ.out; simp; omega) ?_; intro v' w2 hown' hgrow' _; obtain ⟨g, cap, rfl⟩ := own_form hown'; obtain ⟨G2, e0, e1, e2, z2⟩ := hill_step hS.out hgrow'; rw [hS.out.h0] at e0; rw [hS.out.h1] at e1; rw [hS.out.h2] at e2; have c1 : w2.cell? ⟨w.heap.size + 1, 3, none⟩ = some v := (by simp [World.cell?, e1]); have f1 : w2.frozen? ⟨w.heap.size + 1, 3, none⟩ = false := (by simp [World.frozen?, e1]); have HE := Lib.hid (And.intro G2 (And.intro e0 (And.intro e1 (And.intro e2 z2)))); have HOW : Hid (w2.ownsRow (w.heap.size + 3) 28 7 (.slice (some ⟨g, 0, none⟩) 1 cap) 1 (hillVs 1)) := (by show World.ownsRow _ _ _ _ _ _ _; rw [hillVs_succ (by decide)]; exact hown'); clear G2 e0 e1 e2 z2 hown' hgrow' kz p3 hi hz0 hz1 hz2)
      go_roundw
      case rel => exact ⟨1, 1, _, by omega, by go_num, rfl, hill_set HE.out.1 HE.out.2.1 HE.out.2.2.1 HE.out.2.2.2.1 HE.out.2.2.2.2 HOW.out⟩
      case measure => simp [intOf]
    · obtain rfl : i = 1 := hi0.out
      have hs := hS.out
      have kz : wr.cell? ⟨w.heap.size + 1 + 1, 1, none⟩ = some (.int .i64 12) := by simp [World.cell?, hs.h2]
      have p3 : wr.cell? ⟨w.heap.size + 1, 3, none⟩ = some v := by simp [World.cell?, hs.h1]
      have OWN := Lib.hid hs.own
      have SZ := Lib.hid hs.sz
      have HCN := Lib.hid (cells_new wr ⟨1, 30, 40, 12, -1, -1, -1⟩)
      have hi := HI.out; have hz0 := HZ0.out; have hz1 := HZ1.out; have hz2 := HZ2.out
      clear hs
      go_wp2_with (at_builtin; refine wpList_append_own _ rfl _ _ 22 rfl (w.heap.size + 3) 28 i0 (.agg #[.int .i64 0, .int .i64 0, .int .i64 0, .int .i64 0, .int .i64 0, .int .i64 0, .int .i64 0]) 7 56 Try.underlying22 hi hz0 hz1 hz2 rfl (by decide) _ _ _ rfl (OWN.out.alloc _) ⟨wr.heap.size, 0, none⟩ 1 1 [.int .i64 1, .int .i64 30, .int .i64 40, .int .i64 12, .int .i64 (-1), .int .i64 (-1), .int .i64 (-1)] rfl rfl (HCN.out) (ones ⟨1, 30, 40, 12, -1, -1, -1⟩) (by unfold maxLen; omega) (by omega) (by have := SZ.out; simp; omega) ?_; intro v' w2 hown' hgrow' _; obtain ⟨g, cap, rfl⟩ := own_form hown'; obtain ⟨G2, e0, e1, e2, z2⟩ := hill_step hS.out hgrow'; rw [hS.out.h0] at e0; rw [hS.out.h1] at e1; rw [hS.out.h2] at e2; have c1 : w2.cell? ⟨w.heap.size + 1, 3, none⟩ = some v := (by simp [World.cell?, e1]); have f1 : w2.frozen? ⟨w.heap.size + 1, 3, none⟩ = false := (by simp [World.frozen?, e1]); have HE := Lib.hid (And.intro G2 (And.intro e0 (And.intro e1 (And.intro e2 z2)))); have HOW : Hid (w2.ownsRow (w.heap.size + 3) 28 7 (.slice (some ⟨g, 0, none⟩) 2 cap) 2 (hillVs 2)) := (by show World.ownsRow _ _ _ _ _ _ _; rw [hillVs_succ (by decide)]; exact hown'); clear G2 e0 e1 e2 z2 hown' hgrow' kz p3 hi hz0 hz1 hz2)
      go_roundw
      case rel => exact ⟨2, 2, _, by omega, by go_num, rfl, hill_set HE.out.1 HE.out.2.1 HE.out.2.2.1 HE.out.2.2.2.1 HE.out.2.2.2.2 HOW.out⟩
      case measure => simp [intOf]
    · obtain rfl : i = 2 := hi0.out
      have hs := hS.out
      have kz : wr.cell? ⟨w.heap.size + 1 + 1, 2, none⟩ = some (.int .i64 2) := by simp [World.cell?, hs.h2]
      have p3 : wr.cell? ⟨w.heap.size + 1, 3, none⟩ = some v := by simp [World.cell?, hs.h1]
      have OWN := Lib.hid hs.own
      have SZ := Lib.hid hs.sz
      have HCN := Lib.hid (cells_new wr ⟨2, 60, 80, 2, -1, -1, -1⟩)
      have hi := HI.out; have hz0 := HZ0.out; have hz1 := HZ1.out; have hz2 := HZ2.out
      clear hs
      go_wp2_with (at_builtin; refine wpList_append_own _ rfl _ _ 22 rfl (w.heap.size + 3) 28 i0 (.agg #[.int .i64 0, .int .i64 0, .int .i64 0, .int .i64 0, .int .i64 0, .int .i64 0, .int .i64 0]) 7 56 Try.underlying22 hi hz0 hz1 hz2 rfl (by decide) _ _ _ rfl (OWN.out.alloc _) ⟨wr.heap.size, 0, none⟩ 1 1 [.int .i64 2, .int .i64 60, .int .i64 80, .int .i64 2, .int .i64 (-1), .int .i64 (-1), .int .i64 (-1)] rfl rfl (HCN.out) (ones ⟨2, 60, 80, 2, -1, -1, -1⟩) (by unfold maxLen; omega) (by omega) (by have := SZ.out; simp; omega) ?_; intro v' w2 hown' hgrow' _; obtain ⟨g, cap, rfl⟩ := own_form hown'; obtain ⟨G2, e0, e1, e2, z2⟩ := hill_step hS.out hgrow'; rw [hS.out.h0] at e0; rw [hS.out.h1] at e1; rw [hS.out.h2] at e2; have c1 : w2.cell? ⟨w.heap.size + 1, 3, none⟩ = some v := (by simp [World.cell?, e1]); have f1 : w2.frozen? ⟨w.heap.size + 1, 3, none⟩ = false := (by simp [World.frozen?, e1]); have HE := Lib.hid (And.intro G2 (And.intro e0 (And.intro e1 (And.intro e2 z2)))); have HOW : Hid (w2.ownsRow (w.heap.size + 3) 28 7 (.slice (some ⟨g, 0, none⟩) 3 cap) 3 (hillVs 3)) := (by show World.ownsRow _ _ _ _ _ _ _; rw [hillVs_succ (by decide)]; exact hown'); clear G2 e0 e1 e2 z2 hown' hgrow' kz p3 hi hz0 hz1 hz2)
      go_roundw
      case rel => exact ⟨3, 3, _, by omega, by go_num, rfl, hill_set HE.out.1 HE.out.2.1 HE.out.2.2.1 HE.out.2.2.2.1 HE.out.2.2.2.2 HOW.out⟩
      case measure => simp [intOf]
    · obtain rfl : i = 3 := hi0.out
      have hs := hS.out
      have kz : wr.cell? ⟨w.heap.size + 1 + 1, 3, none⟩ = some (.int .i64 15) := by simp [World.cell?, hs.h2]
      have p3 : wr.cell? ⟨w.heap.size + 1, 3, none⟩ = some v := by simp [World.cell?, hs.h1]
      have OWN := Lib.hid hs.own
      have SZ := Lib.hid hs.sz
      have HCN := Lib.hid (cells_new wr ⟨3, 90, 120, 15, -1, -1, -1⟩)
      have hi := HI.out; have hz0 := HZ0.out; have hz1 := HZ1.out; have hz2 := HZ2.out
      clear hs
      go_wp2_with (at_builtin; refine wpList_append_own _ rfl _ _ 22 rfl (w.heap.size + 3) 28 i0 (.agg #[.int .i64 0, .int .i64 0, .int .i64 0, .int .i64 0, .int .i64 0, .int .i64 0, .int .i64 0]) 7 56 Try.underlying22 hi hz0 hz1 hz2 rfl (by decide) _ _ _ rfl (OWN.out.alloc _) ⟨wr.heap.size, 0, none⟩ 1 1 [.int .i64 3, .int .i64 90, .int .i64 120, .int .i64 15, .int .i64 (-1), .int .i64 (-1), .int .i64 (-1)] rfl rfl (HCN.out) (ones ⟨3, 90, 120, 15, -1, -1, -1⟩) (by unfold maxLen; omega) (by omega) (by have := SZ.out; simp; omega) ?_; intro v' w2 hown' hgrow' _; obtain ⟨g, cap, rfl⟩ := own_form hown'; obtain ⟨G2, e0, e1, e2, z2⟩ := hill_step hS.out hgrow'; rw [hS.out.h0] at e0; rw [hS.out.h1] at e1; rw [hS.out.h2] at e2; have c1 : w2.cell? ⟨w.heap.size + 1, 3, none⟩ = some v := (by simp [World.cell?, e1]); have f1 : w2.frozen? ⟨w.heap.size + 1, 3, none⟩ = false := (by simp [World.frozen?, e1]); have HE := Lib.hid (And.intro G2 (And.intro e0 (And.intro e1 (And.intro e2 z2)))); have HOW : Hid (w2.ownsRow (w.heap.size + 3) 28 7 (.slice (some ⟨g, 0, none⟩) 4 cap) 4 (hillVs 4)) := (by show World.ownsRow _ _ _ _ _ _ _; rw [hillVs_succ (by decide)]; exact hown'); clear G2 e0 e1 e2 z2 hown' hgrow' kz p3 hi hz0 hz1 hz2)
      go_roundw
      case rel => exact ⟨4, 4, _, by omega, by go_num, rfl, hill_set HE.out.1 HE.out.2.1 HE.out.2.2.1 HE.out.2.2.2.1 HE.out.2.2.2.2 HOW.out⟩
      case measure => simp [intOf]
    · obtain rfl : i = 4 := hi0.out
      have hs := hS.out
      obtain ⟨g, cap, rfl⟩ : ∃ g cap, v = .slice (some ⟨g, 0, none⟩) 4 cap := by
        rcases hs.own.2 with ⟨_, h0⟩ | ⟨g, cap, cur, h1, _⟩
        · omega
        · exact ⟨g, cap, h1⟩
      have OWN := Lib.hid hs.own
      have HG := Lib.hid hs.g
      have h0 := hs.h0; have h1 := hs.h1
      have p0 : wr.cell? ⟨w.heap.size + 1, 0, none⟩ = some (.string ⟨#[97]⟩) := by simp [World.cell?, h1]
      have p1 : wr.cell? ⟨w.heap.size + 1, 1, none⟩ = some (.int .i64 1) := by simp [World.cell?, h1]
      have p2 : wr.cell? ⟨w.heap.size + 1, 2, none⟩ = some (.int .i64 0) := by simp [World.cell?, h1]
      have p3 : wr.cell? ⟨w.heap.size + 1, 3, none⟩ = some (.slice (some ⟨g, 0, none⟩) 4 cap) := by simp [World.cell?, h1]
      have p4 : wr.cell? ⟨w.heap.size + 1, 4, none⟩ = some (.slice none 0 0) := by simp [World.cell?, h1]
      have p5 : wr.cell? ⟨w.heap.size + 1, 5, none⟩ = some (.slice none 0 0) := by simp [World.cell?, h1]
      have q0 : wr.cell? ⟨w.heap.size, 0, none⟩ = some (.string ⟨#[]⟩) := by simp [World.cell?, h0]
      have y0 : wr.frozen? ⟨w.heap.size, 0, none⟩ = false := by simp [World.frozen?, h0]
      have q1 : wr.cell? ⟨w.heap.size, 1, none⟩ = some (.int .i64 0) := by simp [World.cell?, h0]
      have y1 : wr.frozen? ⟨w.heap.size, 1, none⟩ = false := by simp [World.frozen?, h0]
      have q2 : wr.cell? ⟨w.heap.size, 2, none⟩ = some (.int .i64 0) := by simp [World.cell?, h0]
      have y2 : wr.frozen? ⟨w.heap.size, 2, none⟩ = false := by simp [World.frozen?, h0]
      have q3 : wr.cell? ⟨w.heap.size, 3, none⟩ = some (.slice none 0 0) := by simp [World.cell?, h0]
      have y3 : wr.frozen? ⟨w.heap.size, 3, none⟩ = false := by simp [World.frozen?, h0]
      have q4 : wr.cell? ⟨w.heap.size, 4, none⟩ = some (.slice none 0 0) := by simp [World.cell?, h0]
      have y4 : wr.frozen? ⟨w.heap.size, 4, none⟩ = false := by simp [World.frozen?, h0]
      have q5 : wr.cell? ⟨w.heap.size, 5, none⟩ = some (.slice none 0 0) := by simp [World.cell?, h0]
      have y5 : wr.frozen? ⟨w.heap.size, 5, none⟩ = false := by simp [World.frozen?, h0]
      clear hs h0 h1
      go_wp2_with fail
      refine bodyPost_ret (v := .agg #[.string ⟨#[97]⟩, .int .i64 1, .int .i64 0, .slice (some ⟨g, 0, none⟩) 4 cap, .slice none 0 0, .slice none 0 0]) (by simp [results, Try.results67, go_sem, q0, q1, q2, q3, q4, q5]) rfl ⟨⟨g, cap, rfl, ?_⟩, ?_⟩
      · exact own_below (own_below (own_below (own_below (own_below (own_below OWN.out (by show w.heap.size < _; omega) _) (by show w.heap.size < _; omega) _) (by show w.heap.size < _; omega) _) (by show w.heap.size < _; omega) _) (by show w.heap.size < _; omega) _) (by show w.heap.size < _; omega) _
      · exact grown_set2 (grown_set2 (grown_set2 (grown_set2 (grown_set2 (grown_set2 HG.out (Nat.le_refl _) _ _) (Nat.le_refl _) _ _) (Nat.le_refl _) _ _) (Nat.le_refl _) _ _) (Nat.le_refl _) _ _) (Nat.le_refl _) _ _
end Go.Proofs.Ytgkhhfojioepgaa
